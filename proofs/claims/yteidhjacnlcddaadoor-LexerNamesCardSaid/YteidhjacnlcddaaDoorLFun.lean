/- Contracts of behind, extent and check of package lexer, and of the reference's run. -/
import Derived.Test.YteidhjacnlcddaaDoorLMath2
import Derived.Test.YteidhjacnlcddaaDoorLRead
import Derived.Test.YteidhjacnlcddaaDoorCRef2
namespace Go.Proofs.YteidhjacnlcddaaDoor
open Go.ChangeShapes Go.WideShapes Go.ChangeAt Go.RowKit
set_option linter.unusedVariables false

theorem kind_v (c v : Int) (w : World) (hv : kindI c = v) : Calls Tryd.prog 21 #[.int .u8 c] w fun e w' => e = .returned (.int .u8 v) ∧ Below w.heap.size w w' := by
  subst hv; exact kind_any c w
theorem rkind_v (c v : Int) (w : World) (hv : kindI c = v) : Calls Tryd.prog 42 #[.int .u8 c] w fun e w' => e = .returned (.int .u8 v) ∧ Below w.heap.size w w' := by
  subst hv; exact (rkind_any c w).mono fun e w' ⟨he, hw⟩ => ⟨he, by subst hw; exact Below.refl _ _⟩
theorem span_yes (k : Int) (s : ByteArray) (j : Nat) (h : j < s.size) (hk : kindI (s[j].toNat : Int) = k) : spanK k (s.data.toList.drop j) = spanK k (s.data.toList.drop (j + 1)) + 1 := by
  rw [List.drop_eq_getElem_cons (by simpa using h)]
  exact spanK_cons k _ _ hk
theorem span_no (k : Int) (s : ByteArray) (j : Nat) (h : j < s.size) (hk : kindI (s[j].toNat : Int) ≠ k) : spanK k (s.data.toList.drop j) = 0 := by
  rw [List.drop_eq_getElem_cons (by simpa using h)]
  exact spanK_cons_not k _ _ hk
theorem span_end (k : Int) (s : ByteArray) (j : Nat) (h : ¬ j < s.size) : spanK k (s.data.toList.drop j) = 0 := by
  rw [List.drop_eq_nil_of_le (by simp; omega)]; rfl

set_option maxHeartbeats 400000 in
theorem behind_any (s : ByteArray) (a : Nat) (k : Int) (r : Nat) (w : World) (hs : s.size ≤ maxLen) (ha : a ≤ s.size) (hr : a + spanK k (s.data.toList.drop a) = r) :
    Calls Tryd.prog 27 #[.string s, .int .i64 a, .int .u8 k] w fun e w' => e = .returned (.int .i64 r) ∧ Below w.heap.size w w' := by
  unfold maxLen at hs
  have HR := Lib.hid hr
  clear hr
  go_enter Tryd.func27, Tryd.ntmps27
  go_wp2
  go_loopw [1] (fun i wr => ∃ j : Nat, a ≤ j ∧ j ≤ s.size ∧ i = .int .i64 j ∧ j + spanK k (s.data.toList.drop j) = r ∧ Below w.heap.size w wr) (fun i _ => s.size - (intOf i).toNat)
  case atStart => exact ⟨a, Nat.le_refl _, ha, rfl, HR.out, Below.refl _ _⟩
  case round =>
    obtain ⟨j, hj1, hj, rfl, hd, hb⟩ := hrel
    have HD := Lib.hid hd
    clear hd
    by_cases hlt : j < s.size
    · obtain ⟨v, hv⟩ : ∃ v, kindI (s[j].toNat : Int) = v := ⟨_, rfl⟩
      have HV := Lib.hid hv
      clear hv
      by_cases he : v = k
      · have HS := Lib.hid (span_yes k s j hlt (HV.out.trans he))
        have he' : (v == k) = true := by simpa using he
        clear he
        go_wp2_with (go_at_call 21; refine (kind_v _ v _ HV.out).mono ?_; rintro e w' ⟨rfl, hb1⟩)
        go_roundw
        case rel => exact ⟨j + 1, by omega, by omega, by go_num, by rw [← HD.out, HS.out]; omega, hb.trans (hb1.mono hb.size)⟩
        case measure => simp [intOf]; omega
      · have HS := Lib.hid (span_no k s j hlt (by rw [HV.out]; exact he))
        have he' : (v == k) = false := by simpa using he
        clear he
        go_wp2_with (go_at_call 21; refine (kind_v _ v _ HV.out).mono ?_; rintro e w' ⟨rfl, hb1⟩)
        go_ret
        exact ⟨ret_int' (by rw [← HD.out, HS.out]; rfl), hb.trans (hb1.mono hb.size)⟩
    · have HS := Lib.hid (span_end k s j hlt)
      go_wp2
      go_ret
      exact ⟨ret_int' (by rw [← HD.out, HS.out]; rfl), hb⟩
set_option maxHeartbeats 400000 in
theorem run_any (s : ByteArray) (a : Nat) (k : Int) (r : Nat) (w : World) (hs : s.size ≤ maxLen) (ha : a ≤ s.size) (hr : a + spanK k (s.data.toList.drop a) = r) :
    Calls Tryd.prog 30 #[.string s, .int .i64 a, .int .u8 k] w fun e w' => e = .returned (.int .i64 r) ∧ Below w.heap.size w w' := by
  unfold maxLen at hs
  have HR := Lib.hid hr
  clear hr
  go_enter Tryd.func30, Tryd.ntmps30
  go_wp2
  go_loopw [1] (fun i wr => ∃ j : Nat, a ≤ j ∧ j ≤ s.size ∧ i = .int .i64 j ∧ j + spanK k (s.data.toList.drop j) = r ∧ Below w.heap.size w wr) (fun i _ => s.size - (intOf i).toNat)
  case atStart => exact ⟨a, Nat.le_refl _, ha, rfl, HR.out, Below.refl _ _⟩
  case round =>
    obtain ⟨j, hj1, hj, rfl, hd, hb⟩ := hrel
    have HD := Lib.hid hd
    clear hd
    by_cases hlt : j < s.size
    · obtain ⟨v, hv⟩ : ∃ v, kindI (s[j].toNat : Int) = v := ⟨_, rfl⟩
      have HV := Lib.hid hv
      clear hv
      by_cases he : v = k
      · have HS := Lib.hid (span_yes k s j hlt (HV.out.trans he))
        have he' : (v == k) = true := by simpa using he
        clear he
        go_wp2_with (go_at_call 42; refine (rkind_v _ v _ HV.out).mono ?_; rintro e w' ⟨rfl, hb1⟩)
        go_roundw
        case rel => exact ⟨j + 1, by omega, by omega, by go_num, by rw [← HD.out, HS.out]; omega, hb.trans (hb1.mono hb.size)⟩
        case measure => simp [intOf]; omega
      · have HS := Lib.hid (span_no k s j hlt (by rw [HV.out]; exact he))
        have he' : (v == k) = false := by simpa using he
        clear he
        go_wp2_with (go_at_call 42; refine (rkind_v _ v _ HV.out).mono ?_; rintro e w' ⟨rfl, hb1⟩)
        go_ret
        exact ⟨ret_int' (by rw [← HD.out, HS.out]; rfl), hb.trans (hb1.mono hb.size)⟩
    · have HS := Lib.hid (span_end k s j hlt)
      go_wp2
      go_ret
      exact ⟨ret_int' (by rw [← HD.out, HS.out]; rfl), hb⟩
end Go.Proofs.YteidhjacnlcddaaDoor
