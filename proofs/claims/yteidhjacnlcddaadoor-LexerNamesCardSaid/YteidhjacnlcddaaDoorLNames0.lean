/- The walk of LexerNames. -/
import Derived.Test.YteidhjacnlcddaaDoorLAlive
import Derived.Laws.MakeOwn
namespace Go.Proofs.YteidhjacnlcddaaDoor
open Go.ChangeShapes Go.WideShapes Go.ChangeAt Go.RowKit
set_option linter.unusedVariables false

theorem jn_0 (w0 w : World) (hg : Good w0 w) : Calls Tryd.prog 9 #[.string ⟨#[]⟩] w fun e w' => e = .returned (.string ⟨#[]⟩) ∧ Below w.heap.size w w' ∧ Good w0 w' :=
  joined_ok ⟨#[]⟩ (allF []).1 ⟨#[]⟩ w0 w (by decide) (by decide +kernel) (by decide +kernel) hg
theorem jn_1 (w0 w : World) (hg : Good w0 w) : Calls Tryd.prog 9 #[.string ⟨#[32, 10, 32]⟩] w fun e w' => e = .returned (.string ⟨#[]⟩) ∧ Below w.heap.size w w' ∧ Good w0 w' :=
  joined_ok ⟨#[32, 10, 32]⟩ (allF [32, 10, 32]).1 ⟨#[]⟩ w0 w (by decide) (by decide +kernel) (by decide +kernel) hg
theorem jn_2 (w0 w : World) (hg : Good w0 w) : Calls Tryd.prog 9 #[.string ⟨#[60, 60, 61, 60]⟩] w fun e w' => e = .returned (.string ⟨#[60, 60, 32, 61, 32, 60]⟩) ∧ Below w.heap.size w w' ∧ Good w0 w' :=
  joined_ok ⟨#[60, 60, 61, 60]⟩ (allF [60, 60, 61, 60]).1 ⟨#[60, 60, 32, 61, 32, 60]⟩ w0 w (by decide) (by decide +kernel) (by decide +kernel) hg
theorem jn_3 (w0 w : World) (hg : Good w0 w) : Calls Tryd.prog 9 #[.string ⟨#[97, 60, 45, 98]⟩] w fun e w' => e = .returned (.string ⟨#[97, 32, 60, 32, 45, 32, 98]⟩) ∧ Below w.heap.size w w' ∧ Good w0 w' :=
  joined_ok ⟨#[97, 60, 45, 98]⟩ (allF [97, 60, 45, 98]).1 ⟨#[97, 32, 60, 32, 45, 32, 98]⟩ w0 w (by decide) (by decide +kernel) (by decide +kernel) hg
theorem jn_4 (w0 w : World) (hg : Good w0 w) : Calls Tryd.prog 9 #[.string ⟨#[45, 45, 49]⟩] w fun e w' => e = .returned (.string ⟨#[45, 32, 45, 32, 49]⟩) ∧ Below w.heap.size w w' ∧ Good w0 w' :=
  joined_ok ⟨#[45, 45, 49]⟩ (allF [45, 45, 49]).1 ⟨#[45, 32, 45, 32, 49]⟩ w0 w (by decide) (by decide +kernel) (by decide +kernel) hg
theorem jn_5 (w0 w : World) (hg : Good w0 w) : Calls Tryd.prog 9 #[.string ⟨#[98, 121, 10, 107, 101, 121]⟩] w fun e w' => e = .returned (.string ⟨#[98, 121, 32, 107, 101, 121]⟩) ∧ Below w.heap.size w w' ∧ Good w0 w' :=
  joined_ok ⟨#[98, 121, 10, 107, 101, 121]⟩ (allF [98, 121, 10, 107, 101, 121]).1 ⟨#[98, 121, 32, 107, 101, 121]⟩ w0 w (by decide) (by decide +kernel) (by decide +kernel) hg
theorem jn_6 (w0 w : World) (hg : Good w0 w) : Calls Tryd.prog 9 #[.string ⟨#[97, 49, 98, 50]⟩] w fun e w' => e = .returned (.string ⟨#[97, 32, 49, 32, 98, 32, 50]⟩) ∧ Below w.heap.size w w' ∧ Good w0 w' :=
  joined_ok ⟨#[97, 49, 98, 50]⟩ (allF [97, 49, 98, 50]).1 ⟨#[97, 32, 49, 32, 98, 32, 50]⟩ w0 w (by decide) (by decide +kernel) (by decide +kernel) hg
theorem jn_7 (w0 w : World) (hg : Good w0 w) : Calls Tryd.prog 9 #[.string ⟨#[33, 61, 33, 61]⟩] w fun e w' => e = .returned (.string ⟨#[33, 61, 32, 33, 61]⟩) ∧ Below w.heap.size w w' ∧ Good w0 w' :=
  joined_ok ⟨#[33, 61, 33, 61]⟩ (allF [33, 61, 33, 61]).1 ⟨#[33, 61, 32, 33, 61]⟩ w0 w (by decide) (by decide +kernel) (by decide +kernel) hg
theorem jn_no (w0 w : World) (hg : Good w0 w) : Calls Tryd.prog 9 #[.string ⟨#[115, 101, 108, 101, 99, 116, 120]⟩] w fun e w' => e = .returned (.string ⟨#[63]⟩) ∧ Below w.heap.size w w' ∧ Good w0 w' :=
  joined_no _ 0 32 w0 w (by decide) (by decide +kernel) rfl hg
theorem fl_0 (w0 w : World) (hg : Good w0 w) : Calls Tryd.prog 10 #[.string ⟨#[9]⟩, .int .i64 0, .int .i64 32] w fun e w' => e = .returned (.bool true) ∧ Below w.heap.size w w' ∧ Good w0 w' :=
  fails_g _ 0 32 w0 w (by decide) (by decide +kernel) hg
theorem fl_1 (w0 w : World) (hg : Good w0 w) : Calls Tryd.prog 10 #[.string ⟨#[97, 32, 65]⟩, .int .i64 2, .int .i64 32] w fun e w' => e = .returned (.bool true) ∧ Below w.heap.size w w' ∧ Good w0 w' :=
  fails_g _ 2 32 w0 w (by decide) (by decide +kernel) hg
theorem fl_2 (w0 w : World) (hg : Good w0 w) : Calls Tryd.prog 10 #[.string ⟨#[97, 44, 98]⟩, .int .i64 1, .int .i64 32] w fun e w' => e = .returned (.bool true) ∧ Below w.heap.size w w' ∧ Good w0 w' :=
  fails_g _ 1 32 w0 w (by decide) (by decide +kernel) hg
theorem fl_3 (w0 w : World) (hg : Good w0 w) : Calls Tryd.prog 10 #[.string ⟨#[32, 32, 57, 50, 50, 51, 51, 55, 50, 48, 51, 54, 56, 53, 52, 55, 55, 53, 56, 48, 56]⟩, .int .i64 2, .int .i64 16] w fun e w' => e = .returned (.bool true) ∧ Below w.heap.size w w' ∧ Good w0 w' :=
  fails_g _ 2 16 w0 w (by decide) (by decide +kernel) hg
theorem fl_4 (w0 w : World) (hg : Good w0 w) : Calls Tryd.prog 10 #[.string ⟨#[102, 114, 111, 109, 32, 102, 114, 111, 109, 32, 102, 114, 111]⟩, .int .i64 10, .int .i64 32] w fun e w' => e = .returned (.bool true) ∧ Below w.heap.size w w' ∧ Good w0 w' :=
  fails_g _ 10 32 w0 w (by decide) (by decide +kernel) hg
theorem fl_5 (w0 w : World) (hg : Good w0 w) : Calls Tryd.prog 10 #[.string ⟨#[97, 0]⟩, .int .i64 1, .int .i64 32] w fun e w' => e = .returned (.bool true) ∧ Below w.heap.size w w' ∧ Good w0 w' :=
  fails_g _ 1 32 w0 w (by decide) (by decide +kernel) hg

def rep : Nat → List UInt8 → List UInt8
  | 0, _ => []
  | n + 1, l => rep n l ++ l
theorem rep_length (n : Nat) (l : List UInt8) : (rep n l).length = n * l.length := by
  induction n with
  | zero => simp [rep]
  | succ n ih => rw [rep, List.length_append, ih, Nat.succ_mul]
theorem many_any (s : ByteArray) (n : Nat) (w : World) (hs : s.size ≤ 10) (hn : n ≤ 1000) (M : ByteArray) (hM : M.data.toList = rep n s.data.toList) :
    Calls Tryd.prog 11 #[.string s, .int .i64 n] w fun e w' => e = .returned (.string M) ∧ w = w' := by
  have HM := Lib.hid hM
  clear hM
  go_enter Tryd.func11, Tryd.ntmps11
  go_wp2
  go_loop [5, 6] (fun z i => ∃ (k : Nat) (Z : ByteArray), k ≤ n ∧ i = .int .i64 k ∧ z = .string Z ∧ Z.size ≤ 10 * k ∧ Hid (Z.data.toList = rep k s.data.toList)) (fun _ i => n - (intOf i).toNat)
  case atStart => exact ⟨0, ⟨#[]⟩, Nat.zero_le _, rfl, rfl, Nat.zero_le _, Lib.hid rfl⟩
  case round =>
    obtain ⟨k, Z, hk, rfl, rfl, hz, hzl⟩ := hrel
    by_cases hlt : k < n
    · go_wp2
      go_round
      case rel => exact ⟨k + 1, Z ++ s, by omega, by go_num, rfl, by rw [ByteArray.size_append]; omega, Lib.hid (by rw [ByteArray.data_append, Array.toList_append, hzl.out]; rfl)⟩
      case measure => simp [intOf]; omega
    · have HZ := Lib.hid (show Z = M by
        apply ByteArray.ext
        apply Array.toList_inj.1
        rw [hzl.out, HM.out, show k = n by omega])
      go_wp2
      go_ret
      exact ⟨by rw [HZ.out]; rfl, rfl⟩
theorem big_all : allF (rep 401 [97]) = ([], 0, 4) := allF_big _ (by rw [rep_length]; decide)
theorem two_hundred : allF (rep 199 [49, 32] ++ [40, 40]) = ([], 399, 4) := by decide +kernel
end Go.Proofs.YteidhjacnlcddaaDoor
