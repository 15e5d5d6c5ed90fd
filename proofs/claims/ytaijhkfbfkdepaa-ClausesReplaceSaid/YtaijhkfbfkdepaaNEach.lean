
/- Contracts of the closures and of each: lists of what a function makes of each node. -/
import Derived.Test.YtaijhkfbfkdepaaNMem
import Derived.LoopTactic
import Derived.Deep.RegionHeld3
import Derived.Outline
namespace Go.Proofs.Ytaijhkfbfkdepaa.N4
open Go.ChangeShapes Go.WideShapes Go.ChangeAt Go.RowKit
set_option linter.unusedVariables false
set_option linter.unusedSimpArgs false

/-- A sum stays small. -/
def Sm (d : Int) (x : Nd) : Prop := okK x.k = true ∧ (0 < cnt x.k → -1000 ≤ x.a + d ∧ x.a + d ≤ 1000) ∧ (1 < cnt x.k → -1000 ≤ x.b + d ∧ x.b + d ≤ 1000)

theorem unplaced_any (k n a b p : Int) (w : World) :
    Calls Try.prog 47 #[.agg #[.int .u8 k, .int .i64 n, .int .i64 a, .int .i64 b, .int .i64 p]] w fun e w' => e = .returned (.agg #[.int .u8 k, .int .i64 n, .int .i64 a, .int .i64 b, .int .i64 0]) ∧ Below w.heap.size w w' := by
  go_enter Try.func47, Try.ntmps47
  go_wp2
  refine bodyPost_ret (v := .agg #[.int .u8 k, .int .i64 n, .int .i64 a, .int .i64 b, .int .i64 0]) (by simp [results, Try.results47, go_sem]) rfl ⟨rfl, ?_⟩
  repeat (first | exact Below.refl _ _ | refine Below.alloc ?_ (by simp; try omega) _ | refine Below.setCell ?_ (by simp; try omega) _ | refine Below.drew ?_)

theorem nd_info : (Try.prog.info? 45).map (fun i => (i.zero, i.size, i.bytes)) = some (some (.agg #[.int .u8 0, .int .i64 0, .int .i64 0, .int .i64 0, .int .i64 0]), 5, 40) := by kernel_rfl
theorem unplaced_nd (x : Nd) (w : World) : Calls Try.prog 47 #[ndV x] w fun e w' => e = .returned (ndV (unp x)) ∧ Below w.heap.size w w' := unplaced_any x.k x.n x.a x.b x.p w
theorem own_five {w : World} {base g n cap : Nat} {e : TypeId} {xs : List Value} (h : w.ownsRow base e 5 (.slice (some ⟨g, 0, none⟩) n cap) n xs) (k : Nat) (hk : k < n) :
    (∃ v0 v1 v2 v3 v4, w.cell? ⟨g, k * 5, none⟩ = some v0 ∧ w.cell? ⟨g, k * 5 + 1, none⟩ = some v1 ∧ w.cell? ⟨g, k * 5 + 2, none⟩ = some v2 ∧ w.cell? ⟨g, k * 5 + 3, none⟩ = some v3 ∧ w.cell? ⟨g, k * 5 + 4, none⟩ = some v4) ∧
    w.frozen? ⟨g, k * 5, none⟩ = false ∧ w.frozen? ⟨g, k * 5 + 1, none⟩ = false ∧ w.frozen? ⟨g, k * 5 + 2, none⟩ = false ∧ w.frozen? ⟨g, k * 5 + 3, none⟩ = false ∧ w.frozen? ⟨g, k * 5 + 4, none⟩ = false := by
  have hl : xs.length = n * 5 := h.1
  have c : ∀ j, j < n * 5 → ∃ v, w.cell? ⟨g, j, none⟩ = some v := fun j hj => ⟨_, (h.cellAt j hj).trans (List.getElem?_eq_getElem (by omega))⟩
  obtain ⟨v0, h0⟩ := c (k * 5) (by omega)
  obtain ⟨v1, h1⟩ := c (k * 5 + 1) (by omega)
  obtain ⟨v2, h2⟩ := c (k * 5 + 2) (by omega)
  obtain ⟨v3, h3⟩ := c (k * 5 + 3) (by omega)
  obtain ⟨v4, h4⟩ := c (k * 5 + 4) (by omega)
  exact ⟨⟨v0, v1, v2, v3, v4, h0, h1, h2, h3, h4⟩, h.frozenAt _, h.frozenAt _, h.frozenAt _, h.frozenAt _, h.frozenAt _⟩
theorem own_set5 {w : World} {base g n cap : Nat} {e : TypeId} {xs : List Value} (h : w.ownsRow base e 5 (.slice (some ⟨g, 0, none⟩) n cap) n xs) (k : Nat) (a b c d f : Value) :
    (((((w.setCell ⟨g, k * 5, none⟩ a).setCell ⟨g, k * 5 + 1, none⟩ b).setCell ⟨g, k * 5 + 2, none⟩ c).setCell ⟨g, k * 5 + 3, none⟩ d).setCell ⟨g, k * 5 + 4, none⟩ f).ownsRow base e 5 (.slice (some ⟨g, 0, none⟩) n cap) n (((((xs.set (k * 5) a).set (k * 5 + 1) b).set (k * 5 + 2) c).set (k * 5 + 3) d).set (k * 5 + 4) f) :=
  (((((h.stored _ a).1.stored _ b).1.stored _ c).1.stored _ d).1.stored _ f).1
theorem set5_take (xs : List Value) (k : Nat) (x : Nd) (h : (k + 1) * 5 ≤ xs.length) :
    (((((xs.set (k * 5) (.int .u8 x.k)).set (k * 5 + 1) (.int .i64 x.n)).set (k * 5 + 2) (.int .i64 x.a)).set (k * 5 + 3) (.int .i64 x.b)).set (k * 5 + 4) (.int .i64 x.p)).take ((k + 1) * 5) = xs.take (k * 5) ++ ndC x := by
  have hl : (xs.take (k * 5)).length = k * 5 := by rw [List.length_take]; omega
  apply List.ext_getElem?
  intro i
  rcases Nat.lt_or_ge i (k * 5) with hi | hi
  · rw [List.getElem?_take, if_pos (by omega), List.getElem?_append_left (by omega), List.getElem?_take, if_pos hi]
    rw [List.getElem?_set_ne (by omega), List.getElem?_set_ne (by omega), List.getElem?_set_ne (by omega), List.getElem?_set_ne (by omega), List.getElem?_set_ne (by omega)]
  · rw [List.getElem?_append_right (by omega), hl, List.getElem?_take]
    rcases Nat.lt_or_ge i ((k + 1) * 5) with h5 | h5
    · rw [if_pos h5]
      rcases (by omega : i = k * 5 ∨ i = k * 5 + 1 ∨ i = k * 5 + 2 ∨ i = k * 5 + 3 ∨ i = k * 5 + 4) with rfl | rfl | rfl | rfl | rfl
      · rw [List.getElem?_set_ne (by omega), List.getElem?_set_ne (by omega), List.getElem?_set_ne (by omega), List.getElem?_set_ne (by omega), List.getElem?_set_self (by omega), Nat.sub_self]; rfl
      · rw [List.getElem?_set_ne (by omega), List.getElem?_set_ne (by omega), List.getElem?_set_ne (by omega), List.getElem?_set_self (by simp; omega), show k * 5 + 1 - k * 5 = 1 by omega]; rfl
      · rw [List.getElem?_set_ne (by omega), List.getElem?_set_ne (by omega), List.getElem?_set_self (by simp; omega), show k * 5 + 2 - k * 5 = 2 by omega]; rfl
      · rw [List.getElem?_set_ne (by omega), List.getElem?_set_self (by simp; omega), show k * 5 + 3 - k * 5 = 3 by omega]; rfl
      · rw [List.getElem?_set_self (by simp; omega), show k * 5 + 4 - k * 5 = 4 by omega]; rfl
    · rw [if_neg (by omega), List.getElem?_eq_none (by show 5 ≤ _; omega)]
def ERel (w : World) (M : List Nd) (n k : Nat) (wr : World) : Prop :=
  ∃ xs, wr.ownsRow w.heap.size 45 5 (.slice (some ⟨w.heap.size, 0, none⟩) n n) n xs ∧ xs.take (k * 5) = ndCells (M.take k) ∧ Below w.heap.size w wr
theorem erel_step {w : World} {M : List Nd} {n k : Nat} {wr : World} {xs : List Value} {y : Nd} (ho : wr.ownsRow w.heap.size 45 5 (.slice (some ⟨w.heap.size, 0, none⟩) n n) n xs) (hx : xs.take (k * 5) = ndCells (M.take k)) (hb : Below w.heap.size w wr) (hy : M[k]? = some y) (hk : k < n) :
    ERel w M n (k + 1) (((((wr.setCell ⟨w.heap.size, k * 5, none⟩ (.int .u8 y.k)).setCell ⟨w.heap.size, k * 5 + 1, none⟩ (.int .i64 y.n)).setCell ⟨w.heap.size, k * 5 + 2, none⟩ (.int .i64 y.a)).setCell ⟨w.heap.size, k * 5 + 3, none⟩ (.int .i64 y.b)).setCell ⟨w.heap.size, k * 5 + 4, none⟩ (.int .i64 y.p)) := by
  refine ⟨_, own_set5 ho k _ _ _ _ _, ?_, ?_⟩
  · have hl : xs.length = n * 5 := ho.1
    rw [set5_take xs k y (by omega), hx, (extF_split hy).2, ndCells_snoc]
  · exact ((((hb.setCell (Nat.le_refl _) _).setCell (Nat.le_refl _) _).setCell (Nat.le_refl _) _).setCell (Nat.le_refl _) _).setCell (Nat.le_refl _) _

def EPost (w : World) (M : List Nd) (n : Nat) (e : Ending) (w' : World) : Prop :=
  ∃ ad, e = .returned (.slice (some ad) n n) ∧ Lies w' (some ad) (ndCells M) ∧ Below w.heap.size w w'
set_option maxHeartbeats 1000000 in
theorem each_unp (A : Option Addr) (c n : Nat) (L : List Nd) (w : World) (hn : L.length = n) (hL : n ≤ 1000) (ht : Lies w A (ndCells L)) :
    Calls Try.prog 46 #[.slice A n c, .func (.func 47) #[] #[]] w (EPost w (L.map unp) n) := by
  have HT := Lib.hid ht
  have HN := Lib.hid hn
  obtain ⟨i0, hi, hz0, hz1, hz2⟩ := info_parts nd_info
  clear ht hn
  go_enter Try.func46, Try.ntmps46
  go_wp2_with (refine wpList_make_full _ rfl _ _ 22 rfl w.heap.size 45 i0 _ 5 Try.underlying22 hi hz0 hz1 .i64 .i64 _ _ n rfl rfl (by rfl) (by rfl) ?c1 ?c2 ?c3 ?_)
  case c1 => rw [hz2]; omega
  case c2 => unfold maxLen; omega
  case c3 => exact Nat.le_refl _
  intro w1 hown1 hg1
  have HB1 := Lib.hid (show Below w.heap.size w w1 from (Below.refl _ _).grown hg1 (Nat.le_refl _) (fun j hj => by cases hj))
  have HO1 := Lib.hid hown1
  clear hown1 hg1
  go_wp2
  go_loopw [13] (fun i wr => ∃ k : Nat, i = .int .i64 k ∧ k ≤ n ∧ ERel w (L.map unp) n k wr) (fun i _ => n - (intOf i).toNat)
  case atStart => exact ⟨0, rfl, Nat.zero_le _, _, HO1.out, by simp [ndCells], HB1.out⟩
  case round =>
    obtain ⟨k, rfl, hk, xs, hown, hxs, hb⟩ := hrel
    have HO := Lib.hid hown
    have HX := Lib.hid hxs
    have HB := Lib.hid hb
    clear hown hxs hb HO1 HB1
    by_cases hlt : k < n
    · obtain ⟨x, hx⟩ : ∃ x, L[k]? = some x := ⟨_, List.getElem?_eq_getElem (by rw [HN.out]; exact hlt)⟩
      have HL := Lib.hid hx
      obtain ⟨ad, rfl, hadl, c0, c1, c2, c3, c4⟩ := (HT.out.below HB.out).nd hx
      have hab : (ad.add (k * 5)).block < wr.heap.size := by rw [add_block]; exact hadl
      clear hx hadl
      have HU := Lib.hid (fun w => unplaced_nd x w)
      go_wp2_with (go_at_call 47; refine (HU.out _).mono ?_; rintro e w2 ⟨rfl, hb2⟩; have HO2 := Lib.hid (own_below (HO.out.alloc _) hb2); obtain ⟨⟨v0, v1, v2, v3, v4, d0, d1, d2, d3, d4⟩, f0, f1, f2, f3, f4⟩ := own_five HO2.out k hlt; have HB2 := Lib.hid ((HB.out.alloc HB.out.size _).trans (hb2.mono (by have := HB.out.size; simp; omega))); clear hb2)
      go_roundw
      case rel => exact ⟨k + 1, by go_num, by omega, erel_step HO2.out HX.out HB2.out (by rw [List.getElem?_map, HL.out]; rfl) hlt⟩
      case measure => simp [intOf]; omega
    · obtain rfl : k = n := by omega
      have HZ := Lib.hid (show xs = ndCells (L.map unp) by
        have := HX.out
        rwa [List.take_of_length_le (by have := HO.out.1; omega), List.take_of_length_le (by rw [List.length_map, HN.out]; exact Nat.le_refl _)] at this)
      go_wp2
      go_ret
      refine ⟨⟨w.heap.size, 0, none⟩, rfl, ?_, HB.out⟩
      rw [← HZ.out]
      exact Lies.of_own HO.out (by intro h0; exact List.eq_nil_of_length_eq_zero (by have := HO.out.1; omega))
end Go.Proofs.Ytaijhkfbfkdepaa.N4
