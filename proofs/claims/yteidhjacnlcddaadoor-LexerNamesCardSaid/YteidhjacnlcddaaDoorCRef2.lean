/- Contracts of the reference's Word, Longest and Symbol. -/
import Derived.Test.YteidhjacnlcddaaDoorCRef
import Derived.IntWalk
namespace Go.Proofs.YteidhjacnlcddaaDoor
open Go.ChangeShapes Go.WideShapes Go.ChangeAt Go.RowKit
set_option linter.unusedVariables false

theorem Tab.cell {w : World} {b : Nat} {L : List (List UInt8)} (h : Tab w b L) (k : Nat) (hk : k < L.length) : w.cell? ⟨b, k, none⟩ = some (.string (bytesOf L[k])) := by
  obtain ⟨t, fr, h⟩ := h
  rw [cell_of_row w b k _ t fr h, strsOf_at L k hk]
theorem Tab.new (w : World) (L : List (List UInt8)) (t : TypeId) : Tab (w.alloc (.cells (strsOf L) t)) w.heap.size L := ⟨t, (0, 0), by show (w.heap.push _)[w.heap.size]? = _; simp⟩

theorem rwords_tab (w : World) : Calls Tryd.prog 43 #[] w fun e w' => e = .returned (.slice (some ⟨w.heap.size, 0, none⟩) 29 29) ∧ Tab w' w.heap.size wordL ∧ Below w.heap.size w w' ∧ w.heap.size < w'.heap.size :=
  (rwords_any w).mono fun e w' ⟨h, hw⟩ => by subst hw; exact ⟨h, Tab.new _ _ _, (Below.refl _ _).alloc (Nat.le_refl _) _, by simp⟩
theorem rsyms_tab (w : World) : Calls Tryd.prog 44 #[] w fun e w' => e = .returned (.slice (some ⟨w.heap.size, 0, none⟩) 13 13) ∧ Tab w' w.heap.size symL ∧ Below w.heap.size w w' ∧ w.heap.size < w'.heap.size :=
  (rsyms_any w).mono fun e w' ⟨h, hw⟩ => by subst hw; exact ⟨h, Tab.new _ _ _, (Below.refl _ _).alloc (Nat.le_refl _) _, by simp⟩

theorem rword_any (s : ByteArray) (w : World) :
    Calls Tryd.prog 33 #[.string s] w fun e w' => e = .returned (.bool (isWord s.data.toList)) ∧ Below w.heap.size w w' := by
  go_enter Tryd.func33, Tryd.ntmps33
  go_wp2_with (go_at_call 43; refine (rwords_tab _).mono ?_; rintro e w1 ⟨rfl, ht, hb, hz⟩)
  have HB := Lib.hid hb
  clear hb
  go_loop [4] (fun i => ∃ k : Nat, k ≤ 29 ∧ i = .int .i64 k ∧ (wordL.drop k).contains s.data.toList = isWord s.data.toList) (fun i => 29 - (intOf i).toNat)
  case atStart => exact ⟨0, Nat.zero_le _, rfl, rfl⟩
  case round =>
    obtain ⟨k, hk, rfl, hd⟩ := hrel
    have HD := Lib.hid hd
    clear hd
    by_cases hlt : k < 29
    · have HC := Lib.hid (drop_contains wordL k hlt s.data.toList)
      have hc := ht.cell k hlt
      obtain ⟨x, hx⟩ : ∃ x, wordL[k]'hlt = x := ⟨_, rfl⟩
      rw [hx] at hc HC
      clear hx
      cases hq : (s.data.toList == x)
      · have hq2 : ((bytesOf x).toList == s.toList) = false := by rw [bytesOf_toList, ByteArray.toList_eq, Bool.beq_comm]; exact hq
        have HQ := Lib.hid hq
        clear hq
        go_wp2
        go_round
        case rel => exact ⟨k + 1, by omega, by go_num, by rw [← HD.out, HC.out, HQ.out]; rfl⟩
        case measure => simp [intOf]; omega
      · have hq2 : ((bytesOf x).toList == s.toList) = true := by rw [bytesOf_toList, ByteArray.toList_eq, Bool.beq_comm]; exact hq
        have HQ := Lib.hid hq
        clear hq
        go_wp2
        go_ret
        exact ⟨ret_bool' (by rw [← HD.out, HC.out, HQ.out]; rfl), HB.out⟩
    · obtain rfl : k = 29 := by omega
      go_wp2
      go_ret
      exact ⟨ret_bool' (by rw [← HD.out]; rfl), HB.out⟩

theorem Below.drewN' {B : Nat} {a w : World} (h : Below B a w) (n : Nat) : Below B a (w.drewN n) := ⟨h.os, h.tape, h.output, h.size, h.block⟩
theorem cut_eq (s : ByteArray) (a : Nat) (x : List UInt8) (h : a + x.length ≤ s.size) : ((s.extract a (a + (bytesOf x).size)).toList == (bytesOf x).toList) = x.isPrefixOf (s.data.toList.drop a) := by
  rw [bytesOf_toList, bytesOf_size, ByteArray.toList_eq, Bool.eq_iff_iff, isPrefixOf_iff_take, beq_iff_eq]
  have e : (s.extract a (a + x.length)).data.toList = (s.data.toList.drop a).take x.length := by simp
  rw [e]
  have hl : x.length ≤ (s.data.toList.drop a).length := by simp; omega
  exact ⟨fun h => ⟨hl, h⟩, fun h => h.2⟩

set_option maxHeartbeats 1000000 in
theorem rlongest_any (s : ByteArray) (a : Nat) (w : World) (hs : s.size ≤ maxLen) (ha : a ≤ s.size) :
    Calls Tryd.prog 34 #[.string s, .int .i64 a] w fun e w' => e = .returned (.int .i64 (longL (s.data.toList.drop a))) ∧ Below w.heap.size w w' := by
  unfold maxLen at hs
  go_enter Tryd.func34, Tryd.ntmps34
  go_wp2_with (go_at_call 44; refine (rsyms_tab _).mono ?_; rintro e w1 ⟨rfl, ht, hb, hz⟩)
  have HB := Lib.hid hb
  clear hb
  go_loopg [6] 13 (fun g i wx => ∃ k : Nat, k + g = 13 ∧ i = .int .i64 k ∧ longIn (symL.drop k) (s.data.toList.drop a) = longL (s.data.toList.drop a) ∧ ∃ n, wx = w1.drewN n)
  case atStart => exact ⟨0, rfl, rfl, rfl, 0, rfl⟩
  case round =>
    obtain ⟨k, hk, rfl, hd, n, rfl⟩ := hrel
    have HD := Lib.hid hd
    clear hd
    cases gk with
    | zero =>
      obtain rfl : k = 13 := by omega
      clear hk
      go_wp2
      go_ret
      exact ⟨ret_int' (by rw [← HD.out]; rfl), Below.drewN' HB.out n⟩
    | succ g =>
      have hlt : k < 13 := by omega
      have HC := Lib.hid (longIn_drop symL k hlt (s.data.toList.drop a))
      have hc := ht.cell k hlt
      obtain ⟨hx1, hx2⟩ := symL_small k hlt
      obtain ⟨x, hx⟩ : ∃ x, symL[k]'hlt = x := ⟨_, rfl⟩
      rw [hx] at hc HC hx1 hx2
      clear hx
      have hbs := bytesOf_size x
      by_cases hlen : a + x.length ≤ s.size
      · have hle : ((bytesOf x).size : Int) ≤ (s.size : Int) - (a : Int) := by omega
        have hle2 : (a : Int) + ((bytesOf x).size : Int) ≤ (s.size : Int) := by omega
        clear hbs
        rcases Bool.eq_false_or_eq_true (x.isPrefixOf (s.data.toList.drop a)) with hq | hq
        · have HQ := Lib.hid hq
          clear hq
          have hq2 : ((s.extract a (a + (bytesOf x).size)).toList == (bytesOf x).toList) = true := by rw [cut_eq s a x hlen, HQ.out]
          clear hlen
          go_wp2
          have hw1 : IntKind.i64.wrap ((s.size : Int) - (a : Int)) = (s.size : Int) - (a : Int) := IntWalk.i64_in _ (by omega)
          have hw2 : IntKind.i64.wrap ((a : Int) + ((bytesOf x).size : Int)) = (a : Int) + ((bytesOf x).size : Int) := IntWalk.i64_in _ (by omega)
          have hw3 : ((a : Int) + ((bytesOf x).size : Int)).toNat = a + (bytesOf x).size := by omega
          have hw4 : (0 : Int) ≤ (a : Int) + ((bytesOf x).size : Int) := by omega
          have hw5 : (a : Int) ≤ (a : Int) + ((bytesOf x).size : Int) := by omega
          go_quiet (fail)
          clear hw1 hw2 hw3 hw4 hw5
          go_wp2
          go_ret
          exact ⟨ret_int' (by rw [← HD.out, HC.out, HQ.out, bytesOf_size]; rfl), Below.drewN' HB.out _⟩
        · have HQ := Lib.hid hq
          clear hq
          have hq2 : ((s.extract a (a + (bytesOf x).size)).toList == (bytesOf x).toList) = false := by rw [cut_eq s a x hlen, HQ.out]
          clear hlen
          go_wp2
          have hw1 : IntKind.i64.wrap ((s.size : Int) - (a : Int)) = (s.size : Int) - (a : Int) := IntWalk.i64_in _ (by omega)
          have hw2 : IntKind.i64.wrap ((a : Int) + ((bytesOf x).size : Int)) = (a : Int) + ((bytesOf x).size : Int) := IntWalk.i64_in _ (by omega)
          have hw3 : ((a : Int) + ((bytesOf x).size : Int)).toNat = a + (bytesOf x).size := by omega
          have hw4 : (0 : Int) ≤ (a : Int) + ((bytesOf x).size : Int) := by omega
          have hw5 : (a : Int) ≤ (a : Int) + ((bytesOf x).size : Int) := by omega
          go_quiet (fail)
          clear hw1 hw2 hw3 hw4 hw5
          go_wp2
          go_roundg g
          case measure => omega
          case rel => exact ⟨k + 1, by omega, by go_num, by rw [← HD.out, HC.out, HQ.out]; rfl, _, rfl⟩
      · have hle : ¬ ((bytesOf x).size : Int) ≤ (s.size : Int) - (a : Int) := by omega
        have hle' : decide (((bytesOf x).size : Int) ≤ (s.size : Int) - (a : Int)) = false := by simpa using hle
        have HP := Lib.hid (show x.isPrefixOf (s.data.toList.drop a) = false from pre_short _ _ (by simp; omega))
        clear hbs hlen
        go_wp2
        have hw1 : IntKind.i64.wrap ((s.size : Int) - (a : Int)) = (s.size : Int) - (a : Int) := IntWalk.i64_in _ (by omega)
        clear hle
        go_quiet (fail)
        clear hw1
        go_wp2
        go_roundg g
        case measure => omega
        case rel => exact ⟨k + 1, by omega, by go_num, by rw [← HD.out, HC.out, HP.out]; rfl, _, rfl⟩

end Go.Proofs.YteidhjacnlcddaaDoor
