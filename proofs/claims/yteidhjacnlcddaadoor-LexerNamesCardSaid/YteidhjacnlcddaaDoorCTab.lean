/- The two tables of package chars, as the laws' walks meet them; the contract of Word. -/
import Derived.Test.YteidhjacnlcddaaDoorCKind
import Derived.Laws.Rows
import Derived.LoopTactic
import Derived.Lib.LaidTab
namespace Go.Proofs.YteidhjacnlcddaaDoor
open Go.ChangeShapes Go.WideShapes Go.ChangeAt Go.RowKit
set_option linter.unusedVariables false

/-- Global g of array type holds the strings L. -/
def Tab (w : World) (g : Nat) (L : List (List UInt8)) : Prop := ∃ t fr, w.heap[g]? = some (.cells (strsOf L) t fr)
theorem Tab.stays {w w' : World} {g : Nat} {L : List (List UInt8)} (h : Tab w g L) (hb : Below w.heap.size w w') : Tab w' g L := by
  obtain ⟨t, fr, h⟩ := h
  refine ⟨t, fr, ?_⟩
  rw [hb.block g ?_, h]
  exact (Array.getElem?_eq_some_iff.1 h).1
def Tabs (w : World) : Prop := Tab w 1 symL ∧ Tab w 0 wordL
theorem Tabs.stays {w w' : World} (h : Tabs w) (hb : Below w.heap.size w w') : Tabs w' := ⟨h.1.stays hb, h.2.stays hb⟩

theorem run_index_str {P : Program} (w : World) (t e : TypeId) (n : Nat) (cs : Array Value) (k : Nat) (v : Value) (ie : TypeInfo) (h : P.underlying t = some (.array n e)) (hi : P.info? e = some ie) (he : P.underlying e = some .string) (hce : P.cellsOf e = 1) (hk : k < n) (hv : cs[k]? = some v) :
    (Instr.index t (.agg cs) (.int .i64 (k : Int))).run P w = .ok v w := by
  have h1 : (isAgg e).run P w = .ok false w := by
    unfold isAgg
    rw [Sem.run_bind, run_underlying he w]
    rfl
  simp [Instr.index, run_underlying h, asIntOf, Sem.run_bind, run_sizeOf w hi, hce, go_sem, hk, part, h1, hv]
theorem strsOf_at (L : List (List UInt8)) (k : Nat) (h : k < L.length) : (strsOf L)[k]? = some (.string (bytesOf L[k])) := by
  unfold strsOf; simp [h]

theorem info_string : (Tryd.prog.info? 9).isSome = true := by kernel_rfl
theorem cells_string : Tryd.prog.cellsOf 9 = 1 := by kernel_rfl
theorem index_words (w : World) (k : Nat) (hk : k < 29) : (Instr.index 75 (.agg (strsOf wordL)) (.int .i64 (k : Int))).run Tryd.prog w = .ok (.string (bytesOf (wordL[k]'hk))) w := by
  obtain ⟨ie, hi⟩ := Option.isSome_iff_exists.1 info_string
  exact run_index_str w _ _ 29 _ k _ ie Tryd.underlying75 hi Tryd.underlying9 cells_string hk (strsOf_at wordL k hk)
theorem index_syms (w : World) (k : Nat) (hk : k < 13) : (Instr.index 80 (.agg (strsOf symL)) (.int .i64 (k : Int))).run Tryd.prog w = .ok (.string (bytesOf (symL[k]'hk))) w := by
  obtain ⟨ie, hi⟩ := Option.isSome_iff_exists.1 info_string
  exact run_index_str w _ _ 13 _ k _ ie Tryd.underlying80 hi Tryd.underlying9 cells_string hk (strsOf_at symL k hk)
theorem drop_contains (L : List (List UInt8)) (k : Nat) (h : k < L.length) (l : List UInt8) : (L.drop k).contains l = (l == L[k] || (L.drop (k + 1)).contains l) := by
  rw [List.drop_eq_getElem_cons h, List.contains_cons]
theorem size_strs (L : List (List UInt8)) (n : Nat) (h : L.length = n) : some n = some (strsOf L).size := by simp [strsOf, h]
theorem sized_words : (Tryd.prog.info? 75).map (·.size) = some (strsOf wordL).size := by
  rw [← size_strs wordL 29 rfl]; kernel_rfl
theorem sized_syms : (Tryd.prog.info? 80).map (·.size) = some (strsOf symL).size := by
  rw [← size_strs symL 13 rfl]; kernel_rfl

theorem word_any (s : ByteArray) (w : World) (ht : Tabs w) :
    Calls Tryd.prog 38 #[.string s] w fun e w' => e = .returned (.bool (isWord s.data.toList)) ∧ w = w' := by
  obtain ⟨_, t, fr, hg⟩ := ht
  have HG := Lib.hid hg
  clear hg
  go_enter Tryd.func38, Tryd.ntmps38
  go_wp2_with (refine wpList_load_row rfl _ _ rfl 0 rfl t (strsOf wordL) fr _ HG.out Tryd.underlying75 rfl sized_words ?_)
  go_loop [6] (fun i => ∃ k : Nat, k ≤ 29 ∧ i = .int .i64 k ∧ (wordL.drop k).contains s.data.toList = isWord s.data.toList) (fun i => 29 - (intOf i).toNat)
  case atStart => exact ⟨0, Nat.zero_le _, rfl, rfl⟩
  case round =>
    obtain ⟨k, hk, rfl, hd⟩ := hrel
    have HD := Lib.hid hd
    clear hd
    by_cases hlt : k < 29
    · have HC := Lib.hid (drop_contains wordL k hlt s.data.toList)
      have hix := fun w => index_words w k hlt
      obtain ⟨x, hx⟩ : ∃ x, wordL[k]'hlt = x := ⟨_, rfl⟩
      rw [hx] at hix HC
      clear hx
      cases hq : (s.data.toList == x)
      · have hq2 : (s.toList == (bytesOf x).toList) = false := by rw [bytesOf_toList, ByteArray.toList_eq]; exact hq
        have HQ := Lib.hid hq
        clear hq
        go_wp2
        go_round
        case rel => exact ⟨k + 1, by omega, by go_num, by rw [← HD.out, HC.out, HQ.out]; rfl⟩
        case measure => simp [intOf]; omega
      · have hq2 : (s.toList == (bytesOf x).toList) = true := by rw [bytesOf_toList, ByteArray.toList_eq]; exact hq
        have HQ := Lib.hid hq
        clear hq
        go_wp2
        go_ret
        exact ⟨ret_bool' (by rw [← HD.out, HC.out, HQ.out]; rfl), rfl⟩
    · obtain rfl : k = 29 := by omega
      go_wp2
      go_ret
      exact ⟨ret_bool' (by rw [← HD.out]; rfl), rfl⟩
end Go.Proofs.YteidhjacnlcddaaDoor
