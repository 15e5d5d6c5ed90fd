
/- The contract of next: the extent of a node behind others. -/
import Derived.Test.YtaijhkfbfkdepaaNNext2
namespace Go.Proofs.Ytaijhkfbfkdepaa.N4
open Go.ChangeShapes Go.WideShapes Go.ChangeAt Go.RowKit
set_option linter.unusedVariables false
set_option maxRecDepth 100000
set_option linter.unusedSimpArgs false

theorem partsN_of {k v : Int} (h0 : okK k = true) (h : cnt k = v) : partsN k = v := by unfold partsN; rw [if_pos h0]; exact h
/-- What next answers where a node is needed that there is. -/
theorem next_val (A : Option Addr) (E : List Ex) (c : Nat) (x : Nd) (w : World) (hE : Lies w A (exCells E)) (hz : SzOk E) (hn : E.length ≤ 60) (h0 : okK x.k = true) (h1 : fitsF x.k x.n x.p = true) (y : Ex) (a' b' : Int) (hy : need E x.k = some (y, a', b')) (r : Bool) (hr : decide (x.a = a' ∧ x.b = b') = r) :
    Calls Try.prog 41 #[.slice A E.length c, ndV x] w fun e w' => e = .returned (.tuple #[.agg #[.int .i64 (y.s : Nat), .int .i64 (y.d : Nat)], .bool r]) ∧ Below w.heap.size w w' := by
  obtain ⟨k, nn, a, b, p⟩ := x
  dsimp only [ndV] at h0 h1 hy hr ⊢
  rcases need_some hy with ⟨hk, rfl, rfl, rfl⟩ | ⟨hk, hk2, e, he, hl, rfl, rfl, rfl⟩ | ⟨hk, e, f, he, hl, hs, hf, rfl, rfl, rfl⟩
  · have e2 : partsN k = 0 := partsN_of h0 (by rcases cnt_vals k with h2 | h2 | h2 <;> omega)
    by_cases ha : a = 0
    · by_cases hb : b = 0
      · subst ha hb
        obtain rfl : true = r := by rw [← hr]; simp
        exact next_v0_tt k nn 0 0 p w A _ c e2 h0 h1
      · subst ha
        obtain rfl : false = r := by rw [← hr]; simp [hb]
        exact next_v0_tf k nn 0 b p w A _ c e2 h0 h1 hb
    · obtain rfl : false = r := by rw [← hr]; simp [ha]
      exact next_v0_f k nn a b p w A _ c e2 h0 h1 ha
  · have e2 : partsN k = 1 := partsN_of h0 (by rcases cnt_vals k with h2 | h2 | h2 <;> omega)
    obtain ⟨ad, rfl, hadl, d0, d1⟩ := hE.ex he
    obtain ⟨z1, z2, z3, z4⟩ := hz _ _ he
    obtain ⟨m, hm⟩ : ∃ m, E.length = m + 1 := ⟨E.length - 1, by omega⟩
    rw [hm] at d0 d1 z2 hr ⊢
    rw [Nat.add_sub_cancel] at d0 d1 z2
    have hr' : decide (a = (m : Int) ∧ b = 0) = r := by rw [← hr]; congr 2; rw [show ((m + 1 : Nat) : Int) - 1 = m by omega]
    have hab : (ad.add (m * 2)).block < w.heap.size := by rw [add_block]; exact hadl
    by_cases ha : a = (m : Int)
    · by_cases hb : b = 0
      · subst ha hb
        obtain rfl : true = r := by rw [← hr']; simp
        exact next_v1_tt k nn 0 0 p w ad m c e.s e.d d0 d1 hab (by omega) (by omega) (by omega) z3 e2 h0 h1
      · subst ha
        obtain rfl : false = r := by rw [← hr']; simp [hb]
        exact next_v1_tf k nn 0 b p w ad m c e.s e.d d0 d1 hab (by omega) (by omega) (by omega) z3 e2 h0 h1 hb
    · obtain rfl : false = r := by rw [← hr']; simp [ha]
      exact next_v1_f k nn a b p w ad m c e.s e.d d0 d1 hab (by omega) (by omega) (by omega) z3 e2 h0 h1 ha
  · have e2 : partsN k = 2 := partsN_of h0 (by rcases cnt_vals k with h2 | h2 | h2 <;> omega)
    obtain ⟨ad, rfl, hadl, d0, d1⟩ := hE.ex he
    obtain ⟨ad', had', _, g0, g1⟩ := hE.ex hf
    injection had' with had'
    subst had'
    obtain ⟨z1, z2, z3, z4⟩ := hz _ _ he
    obtain ⟨y1, y2, y3, y4⟩ := hz _ _ hf
    obtain ⟨m, hm⟩ : ∃ m, E.length = m + e.s + 1 := ⟨E.length - 1 - e.s, by omega⟩
    rw [hm] at d0 d1 g0 g1 z2 y2 hr ⊢
    rw [Nat.add_sub_cancel] at d0 d1 z2 g0 g1 y2
    rw [Nat.add_sub_cancel] at g0 g1 y2
    have hr' : decide (a = (m : Int) ∧ b = (m : Int) + e.s) = r := by rw [← hr, show ((m + e.s + 1 : Nat) : Int) - 1 - e.s = m by omega, show ((m + e.s + 1 : Nat) : Int) - 1 = (m : Int) + e.s by omega]
    have hab : (ad.add ((m + e.s) * 2)).block < w.heap.size := by rw [add_block]; exact hadl
    have hab' : (ad.add (m * 2)).block < w.heap.size := by rw [add_block]; exact hadl
    by_cases hx : e.d < f.d
    · rw [show max (e.d + 1) (f.d + 1) = f.d + 1 by omega]
      by_cases ha : a = (m : Int)
      · by_cases hb : b = (m : Int) + e.s
        · subst ha hb
          obtain rfl : true = r := by rw [← hr']; simp
          exact next_v2_tta k nn 0 0 p w ad m c e.s e.d f.s f.d 0 d0 d1 hab g0 g1 hab' (by omega) (by omega) (by omega) z3 (by omega) (by omega) e2 h0 h1 hx
        · subst ha
          obtain rfl : false = r := by rw [← hr']; simp [hb]
          exact next_v2_tfa k nn 0 b p w ad m c e.s e.d f.s f.d 0 d0 d1 hab g0 g1 hab' (by omega) (by omega) (by omega) z3 (by omega) (by omega) e2 h0 h1 hb hx
      · obtain rfl : false = r := by rw [← hr']; simp [ha]
        exact next_v2_fa k nn a b p w ad m c e.s e.d f.s f.d 0 d0 d1 hab g0 g1 hab' (by omega) (by omega) (by omega) z3 (by omega) (by omega) e2 h0 h1 ha hx
    · rw [show max (e.d + 1) (f.d + 1) = e.d + 1 by omega]
      by_cases ha : a = (m : Int)
      · by_cases hb : b = (m : Int) + e.s
        · subst ha hb
          obtain rfl : true = r := by rw [← hr']; simp
          exact next_v2_ttb k nn 0 0 p w ad m c e.s e.d f.s f.d 0 d0 d1 hab g0 g1 hab' (by omega) (by omega) (by omega) z3 (by omega) (by omega) e2 h0 h1 hx
        · subst ha
          obtain rfl : false = r := by rw [← hr']; simp [hb]
          exact next_v2_tfb k nn 0 b p w ad m c e.s e.d f.s f.d 0 d0 d1 hab g0 g1 hab' (by omega) (by omega) (by omega) z3 (by omega) (by omega) e2 h0 h1 hb hx
      · obtain rfl : false = r := by rw [← hr']; simp [ha]
        exact next_v2_fb k nn a b p w ad m c e.s e.d f.s f.d 0 d0 d1 hab g0 g1 hab' (by omega) (by omega) (by omega) z3 (by omega) (by omega) e2 h0 h1 ha hx

theorem next_yes (A : Option Addr) (E : List Ex) (c : Nat) (x : Nd) (y : Ex) (w : World) (hE : Lies w A (exCells E)) (hz : SzOk E) (hn : E.length ≤ 60) (h : nextF E x = some y) :
    Calls Try.prog 41 #[.slice A E.length c, ndV x] w fun e w' => e = .returned (.tuple #[.agg #[.int .i64 (y.s : Nat), .int .i64 (y.d : Nat)], .bool true]) ∧ Below w.heap.size w w' := by
  obtain ⟨h0, h1, h2⟩ := nextF_some h
  exact next_val A E c x w hE hz hn h0 h1 y x.a x.b h2 true (by simp)
theorem next_no (A : Option Addr) (E : List Ex) (c : Nat) (x : Nd) (w : World) (hE : Lies w A (exCells E)) (hz : SzOk E) (hn : E.length ≤ 60) (h : nextF E x = none) :
    Calls Try.prog 41 #[.slice A E.length c, ndV x] w (NextNo w) := by
  cases hb : (okK x.k && fitsF x.k x.n x.p) with
  | false => exact next_bad A _ c x w hb
  | true =>
    rw [Bool.and_eq_true] at hb
    obtain ⟨h0, h1⟩ := hb
    cases hy : need E x.k with
    | some v =>
      obtain ⟨y, a', b'⟩ := v
      refine (next_val A E c x w hE hz hn h0 h1 y a' b' hy false ?_).mono (fun e w' ⟨he, hb⟩ => ⟨_, _, he, hb⟩)
      rw [decide_eq_false_iff_not]
      rintro ⟨h3, h4⟩
      subst h3 h4
      rw [nextF_mk h0 h1 hy] at h
      cases h
    | none =>
      obtain ⟨k, nn, a, b, p⟩ := x
      dsimp only [ndV] at h0 h1 hy ⊢
      have h4 : 4 < k := by
        rcases Int.lt_or_le 4 k with h | h
        · exact h
        · rw [need_leaf h] at hy; cases hy
      rcases Nat.eq_zero_or_pos E.length with hl | hl
      · rw [hl]
        rcases cnt_vals k with h2 | h2 | h2
        · omega
        · exact next_n1_1 k nn a b p w A c h0 h1 (partsN_of h0 h2.2.2)
        · exact next_n1_2 k nn a b p w A c h0 h1 (partsN_of h0 h2.2)
      · obtain ⟨e, he⟩ : ∃ e, E[E.length - 1]? = some e := ⟨_, List.getElem?_eq_getElem (by omega)⟩
        have h6 : 6 < k := by
          rcases Int.lt_or_le 6 k with h | h
          · exact h
          · rw [need_one h4 h he] at hy; cases hy
        have hs : E.length - 1 < e.s := by
          rcases Nat.lt_or_ge (E.length - 1) e.s with h | h
          · exact h
          · have hf : E[E.length - 1 - e.s]? = some (E[E.length - 1 - e.s]'(by omega)) := List.getElem?_eq_getElem _
            rw [need_two h6 he h hf] at hy; cases hy
        obtain ⟨ad, rfl, hadl, d0, d1⟩ := hE.ex he
        obtain ⟨z1, z2, z3, z4⟩ := hz _ _ he
        obtain ⟨m, hm⟩ : ∃ m, E.length = m + 1 := ⟨E.length - 1, by omega⟩
        rw [hm] at d0 d1 z2 hs ⊢
        rw [Nat.add_sub_cancel] at d0 d1 z2 hs
        exact next_n2 k nn a b p w ad m c e.s e.d d0 d1 (by rw [add_block]; exact hadl) (by omega) (by omega) (by omega) z3 (partsN_of h0 (by rcases cnt_vals k with h2 | h2 | h2 <;> omega)) h0 h1 hs
end Go.Proofs.Ytaijhkfbfkdepaa.N4
