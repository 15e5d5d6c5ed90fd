/- ClausesOrder: all inputs. -/
import Derived.Test.YtaijhkfbfkdepaaDoorQLO
namespace Go.Proofs.YtaijhkfbfkdepaaDoor.Q8
open Go.ChangeShapes Go.WideShapes Go.ChangeAt Go.RowKit N4
set_option linter.unusedVariables false
set_option linter.unusedSimpArgs false
set_option maxRecDepth 100000

theorem lo_out (A : Option Addr) (n c : Nat) (j : Bool) (a : Int) (w : World) (h : 4 < n ∨ n ≤ 4 ∧ a < 0 ∨ n ≤ 4 ∧ 0 ≤ a ∧ (n : Int) < a) :
    Calls Tryd.prog 5 #[.slice A n c, .bool j, .int .i64 a] w fun e w' => e = .returned (.bool true) ∧ Below w.heap.size w w' := by
  rcases h with h | ⟨h, h2⟩ | ⟨h, h2, h3⟩
  · have i1 : (4 : Int) < n := by omega
    clear h
    go_enter Tryd.func5, Tryd.ntmps5
    go_wp2_with (go_at_call 14; refine (alive_any _).mono ?_; rintro e w7 ⟨rfl, hb⟩)
    go_ret
    exact ⟨rfl, hb⟩
  · have i1 : ¬ ((4 : Int) < n) := by omega
    clear h
    go_enter Tryd.func5, Tryd.ntmps5
    go_wp2_with (go_at_call 14; refine (alive_any _).mono ?_; rintro e w7 ⟨rfl, hb⟩)
    go_ret
    exact ⟨rfl, hb⟩
  · have i1 : ¬ ((4 : Int) < n) := by omega
    have i2 : ¬ (a < 0) := by omega
    clear h
    go_enter Tryd.func5, Tryd.ntmps5
    go_wp2_with (go_at_call 14; refine (alive_any _).mono ?_; rintro e w7 ⟨rfl, hb⟩)
    go_ret
    exact ⟨rfl, hb⟩
theorem ClausesOrder_walk (A : Option Addr) (c : Nat) (l : List Int) (j : Bool) (a : Int) (w : World) (hL : l.length ≤ maxLen) (ht : Lies w A (iC l)) (hs : SlOk A l.length c) (hnc : l.length ≤ c) (_ : ∀ x ∈ l, In64 x) (_ : (Lit.int .i64 a).wf = true) (hT : NamT w) :
    Calls Tryd.prog 5 #[.slice A l.length c, .bool j, .int .i64 a] w fun e w' => e = .returned (.bool true) ∧ Below w.heap.size w w' := by
  by_cases h4 : 4 < l.length
  · exact lo_out A _ c j a w (.inl h4)
  by_cases h0 : a < 0
  · exact lo_out A _ c j a w (.inr (.inl ⟨by omega, h0⟩))
  by_cases h1 : (l.length : Int) < a
  · exact lo_out A _ c j a w (.inr (.inr ⟨by omega, by omega, h1⟩))
  obtain ⟨k, rfl⟩ := Int.eq_ofNat_of_zero_le (show 0 ≤ a by omega)
  have hk : k ≤ l.length := by omega
  rcases hs with ⟨rfl, hn, rfl⟩ | ⟨ad, rfl⟩
  · obtain rfl : k = 0 := by omega
    rw [hn]
    exact lo_n l j w hT hn ht _ rfl
  · by_cases hkc : k < c
    · exact lo_m ad _ c k l j w hT rfl hnc (by omega) hk hkc ht _ rfl
    · have e1 : k = l.length := by omega
      have e2 : c = l.length := by omega
      subst e1 e2
      exact lo_e ad _ l j w hT rfl (by omega) ht _ rfl
end Go.Proofs.YtaijhkfbfkdepaaDoor.Q8
