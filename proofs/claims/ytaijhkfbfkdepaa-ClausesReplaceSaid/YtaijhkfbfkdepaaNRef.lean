
/- Contracts of the reference's Check, Depth, Size, Cut and Part. -/
import Derived.Test.YtaijhkfbfkdepaaNSizes
import Derived.Test.YtaijhkfbfkdepaaNEach
import Derived.Test.YtaijhkfbfkdepaaNMath2
import Derived.Test.YtaijhkfbfkdepaaNNode0
namespace Go.Proofs.Ytaijhkfbfkdepaa.N4
open Go.ChangeShapes Go.WideShapes Go.ChangeAt Go.RowKit
set_option linter.unusedVariables false
set_option maxRecDepth 100000
set_option linter.unusedSimpArgs false

def ROk (E : List Ex) (n : Nat) (w : World) (e : Ending) (w' : World) : Prop :=
  ∃ a1 c1 a2 c2, e = .returned (.tuple #[.slice (some a1) n c1, .slice (some a2) n c2, .bool true]) ∧ Lies w' (some a1) (sCells E) ∧ Lies w' (some a2) (dCells E) ∧ Below w.heap.size w w'
theorem rsizes_ok (A : Option Addr) (c n : Nat) (L : List Nd) (E : List Ex) (w : World) (ht : Lies w A (ndCells L)) (hE : extF L = some E) (hL : n ≤ 60) (hn : L.length = n) (h0 : 1 ≤ n) (hs : ∃ y, E[n - 1]? = some y ∧ y.s = n) :
    Calls Try.prog 40 #[.slice A n c] w (ROk E n w) := by
  refine (rsizes_any A c n L w hn hL ht).mono ?_
  rintro e w' ⟨hb, ⟨h, _⟩ | ⟨E', A1, c1, A2, c2, hE', rfl, hl1, hl2⟩⟩
  · rw [hE] at h; cases h
  · obtain rfl : E = E' := Option.some.inj (hE.symm.trans hE')
    have hl := extF_length hE
    obtain ⟨y, hy⟩ : ∃ y, E[0]? = some y := ⟨_, List.getElem?_eq_getElem (by omega)⟩
    obtain ⟨a1, rfl, _⟩ := hl1.one (k := 0) (u := .int .i64 (y.s : Nat)) (by rw [sCells, List.getElem?_map, hy]; rfl)
    obtain ⟨a2, rfl, _⟩ := hl2.one (k := 0) (u := .int .i64 (y.d : Nat)) (by rw [dCells, List.getElem?_map, hy]; rfl)
    rw [decide_eq_true hs]
    exact ⟨a1, c1, a2, c2, rfl, hl1, hl2, hb⟩
def RBad (w : World) (e : Ending) (w' : World) : Prop := ∃ x y, e = .returned (.tuple #[x, y, .bool false]) ∧ Below w.heap.size w w'
theorem rsizes_bad (A : Option Addr) (c n : Nat) (L : List Nd) (w : World) (ht : Lies w A (ndCells L)) (hL : n ≤ 60) (hn : L.length = n) (h : extF L = none ∨ ∃ E, extF L = some E ∧ ¬ ∃ y, E[n - 1]? = some y ∧ y.s = n) :
    Calls Try.prog 40 #[.slice A n c] w (RBad w) := by
  refine (rsizes_any A c n L w hn hL ht).mono ?_
  rintro e w' ⟨hb, ⟨_, rfl⟩ | ⟨E', A1, c1, A2, c2, hE', rfl, hl1, hl2⟩⟩
  · exact ⟨_, _, rfl, hb⟩
  · rcases h with h | ⟨E, hE, hs⟩
    · rw [h] at hE'; cases hE'
    · obtain rfl : E = E' := Option.some.inj (hE.symm.trans hE')
      rw [decide_eq_false hs]
      exact ⟨_, _, rfl, hb⟩

/-- What Check tells, by what Sizes tells. -/
theorem check_cases {L : List Nd} {n : Nat} (hn : L.length = n) : (60 < n ∧ checkF L = 4) ∨ (n ≤ 60 ∧ checkF L = 8 ∧ (extF L = none ∨ ∃ E, extF L = some E ∧ ¬ ∃ y, E[n - 1]? = some y ∧ y.s = n)) ∨
    (n ≤ 60 ∧ 1 ≤ n ∧ ∃ E y, extF L = some E ∧ E[n - 1]? = some y ∧ y.s = n ∧ checkF L = if 20 < y.d then 34 else 0) := by
  subst hn
  rcases Nat.lt_or_ge 60 L.length with h | h
  · exact .inl ⟨h, by unfold checkF; rw [if_pos h]⟩
  · cases hE : extF L with
    | none => exact .inr (.inl ⟨h, checkF_bad h hE, .inl rfl⟩)
    | some E =>
      have hv : checkF L = checkE L.length E := by unfold checkF; rw [if_neg (by omega), hE]
      cases hy : E[L.length - 1]? with
      | none => exact .inr (.inl ⟨h, by rw [hv, checkE, hy], .inr ⟨E, rfl, by rintro ⟨y, h1, _⟩; rw [hy] at h1; cases h1⟩⟩)
      | some y =>
        have hz := extF_sz hE _ _ hy
        have hl := (List.getElem?_eq_some_iff.1 hy).1
        rw [extF_length hE] at hl
        by_cases hs : y.s = L.length
        · exact .inr (.inr ⟨h, by omega, E, y, rfl, hy, hs, by rw [hv, checkE, hy]; simp only; rw [if_neg (by omega)]⟩)
        · exact .inr (.inl ⟨h, by rw [hv, checkE, hy]; simp only; rw [if_pos (by omega)], .inr ⟨E, rfl, by rintro ⟨y', h1, h2⟩; obtain rfl := Option.some.inj (hy.symm.trans h1); exact hs h2⟩⟩)
set_option maxHeartbeats 1000000 in
theorem rcheck_any (A : Option Addr) (c n : Nat) (L : List Nd) (w : World) (hn : L.length = n) (hL : n ≤ maxLen) (ht : Lies w A (ndCells L)) (v : Int) (hv : checkF L = v) :
    Calls Try.prog 27 #[.slice A n c] w fun e w' => e = .returned (.int .i64 v) ∧ Below w.heap.size w w' := by
  unfold maxLen at hL
  rcases check_cases hn with ⟨h1, h2⟩ | ⟨h1, h2, h3⟩ | ⟨h1, h0, E, y, h2, h3, h4, h5⟩
  · obtain rfl : 4 = v := h2.symm.trans hv
    clear ht hv h2 hn
    go_enter Try.func27, Try.ntmps27
    go_wp2
    go_ret
    exact ⟨rfl, Below.refl _ _⟩
  · obtain rfl : 8 = v := h2.symm.trans hv
    have HB := Lib.hid (rsizes_bad A c n L w ht h1 hn h3)
    clear ht hv h2 hn h3
    go_enter Try.func27, Try.ntmps27
    go_wp2_with (go_at_call 40; refine HB.out.mono ?_; rintro e w1 ⟨x, y, rfl, hb⟩)
    go_ret
    exact ⟨rfl, hb⟩
  · have HB := Lib.hid (rsizes_ok A c n L E w ht h2 h1 hn h0 ⟨y, h3, h4⟩)
    obtain ⟨m, rfl⟩ : ∃ m, n = m + 1 := ⟨n - 1, by omega⟩
    rw [Nat.add_sub_cancel] at h3
    have HD := Lib.hid (show (dCells E)[m]? = some (.int .i64 (y.d : Nat)) by rw [dCells, List.getElem?_map, h3]; rfl)
    obtain ⟨d, hd⟩ : ∃ d, y.d = d := ⟨_, rfl⟩
    rw [hd] at HD h5
    rw [h5] at hv
    clear ht h2 hn h3 h4 h5 hd
    by_cases h20 : 20 < d
    · obtain rfl : 34 = v := by rw [if_pos h20] at hv; exact hv
      clear hv
      go_enter Try.func27, Try.ntmps27
      go_wp2_with (go_at_call 40; refine HB.out.mono ?_; rintro e w1 ⟨a1, c1, a2, c2, rfl, _, hl2, hb⟩; obtain ⟨_, he, _, d0⟩ := hl2.one HD.out; injection he with he; subst he; clear hl2)
      go_ret
      exact ⟨rfl, hb⟩
    · obtain rfl : 0 = v := by rw [if_neg h20] at hv; exact hv
      clear hv
      go_enter Try.func27, Try.ntmps27
      go_wp2_with (go_at_call 40; refine HB.out.mono ?_; rintro e w1 ⟨a1, c1, a2, c2, rfl, _, hl2, hb⟩; obtain ⟨_, he, _, d0⟩ := hl2.one HD.out; injection he with he; subst he; clear hl2)
      go_ret
      exact ⟨rfl, hb⟩

/-! ### Depth and Size -/
theorem good_sizes {L : List Nd} {E : List Ex} {n : Nat} (h : Good4 L E) (hn : L.length = n) : extF L = some E ∧ n ≤ 60 ∧ 1 ≤ n ∧ ∃ y, E[n - 1]? = some y ∧ y.s = n := by
  subst hn
  obtain ⟨h1, h2, h3, e, h4, h5, _⟩ := h
  exact ⟨h3, h2, List.length_pos_iff.2 h1, e, h4, h5⟩
end Go.Proofs.Ytaijhkfbfkdepaa.N4
