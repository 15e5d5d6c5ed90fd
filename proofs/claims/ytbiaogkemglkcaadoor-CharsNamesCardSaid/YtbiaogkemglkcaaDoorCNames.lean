/- The walk of CharsNames. -/
import Derived.Test.YtbiaogkemglkcaaDoorCGood
namespace Go.Proofs.YtbiaogkemglkcaaDoor
open Go.ChangeShapes Go.WideShapes Go.ChangeAt Go.RowKit
set_option linter.unusedVariables false

theorem sym_long : ∀ x ∈ symL, longL x = x.length ∧ longL (x ++ [120]) = x.length := by decide
theorem word_parts : ∀ x ∈ wordL, isWord x = true ∧ isWord (x ++ [32]) = false ∧ isWord (32 :: x) = false ∧ isWord (x ++ x) = false ∧ x.length ≤ 7 := by decide +kernel
def noneL : List (List UInt8) := [[], [33], [33, 32, 61], [97, 60], [49], [32, 60], [0], [38], [124], [47], [37], [44], [46]]
theorem none_zero : ∀ x ∈ noneL, longL x = 0 ∧ x.length ≤ 3 := by decide

theorem qlen0 (x : List UInt8) (n : Nat) (w : World) (hx : x.length ≤ 7) (hn : longL x = x.length) (ht : Tabs w) :
    Calls Tryd.prog 10 #[.string (bytesOf x), .int .i64 0] (w.drewN n) fun e w' => e = .returned (.int .i64 (bytesOf x).size) ∧ ∃ m, w' = w.drewN m := by
  have h := length_in (bytesOf x) 0 (w.drewN n) (by rw [bytesOf_size]; unfold maxLen; omega) (ht.stays (below_drewN w n)) (by omega)
  rw [bytesOf_list, List.drop_zero, hn, ← bytesOf_size] at h
  exact Calls.quiet_of h
theorem qlen1 (x : List UInt8) (n : Nat) (w : World) (hx : x.length ≤ 7) (hn : longL (x ++ [120]) = x.length) (ht : Tabs w) :
    Calls Tryd.prog 10 #[.string ((⟨#[120]⟩ ++ bytesOf x) ++ ⟨#[120]⟩), .int .i64 1] (w.drewN n) fun e w' => e = .returned (.int .i64 (bytesOf x).size) ∧ ∃ m, w' = w.drewN m := by
  have hz : ((⟨#[120]⟩ ++ bytesOf x) ++ ⟨#[120]⟩ : ByteArray).size = x.length + 2 := by
    rw [ByteArray.size_append, ByteArray.size_append, bytesOf_size]
    show 1 + x.length + 1 = _
    omega
  have h := length_in ((⟨#[120]⟩ ++ bytesOf x) ++ ⟨#[120]⟩) 1 (w.drewN n) (by rw [hz]; unfold maxLen; omega) (ht.stays (below_drewN w n)) (by omega)
  rw [show ((⟨#[120]⟩ ++ bytesOf x) ++ ⟨#[120]⟩ : ByteArray).data.toList.drop 1 = x ++ [120] by rw [ByteArray.data_append, ByteArray.data_append, Array.toList_append, Array.toList_append, bytesOf_list]; rfl, hn, ← bytesOf_size] at h
  exact Calls.quiet_of h
theorem qword (s : ByteArray) (b : Bool) (n : Nat) (w : World) (hb : isWord s.data.toList = b) (ht : Tabs w) :
    Calls Tryd.prog 12 #[.string s] (w.drewN n) fun e w' => e = .returned (.bool b) ∧ ∃ m, w' = w.drewN m := by
  have h := word_any s (w.drewN n) (ht.stays (below_drewN w n))
  rw [hb] at h
  exact h.mono fun e w' ⟨he, hw⟩ => ⟨he, n, hw.symm⟩

theorem sym_a2 (w : World) : Calls Tryd.prog 13 #[.string ⟨#[97]⟩, .int .i64 2] w fun e w' => e = .returned (.tuple #[.int .i64 0, .int .i64 2]) ∧ w = w' := symbol_big _ 2 w (by decide) (by decide)
theorem sym_an (w : World) : Calls Tryd.prog 13 #[.string ⟨#[97]⟩, .int .i64 (-1)] w fun e w' => e = .returned (.tuple #[.int .i64 0, .int .i64 2]) ∧ w = w' := symbol_neg _ (-1) w (by decide) (by decide)
theorem len_a1 (w0 w : World) (h : Good w0 w) : Calls Tryd.prog 10 #[.string ⟨#[97]⟩, .int .i64 1] w fun e w' => e = .returned (.int .i64 0) ∧ Below w.heap.size w w' ∧ Good w0 w' := length_g _ 1 0 w0 w (by decide) (by decide) (by decide) h
theorem wd_1 (w0 w : World) (h : Good w0 w) : Calls Tryd.prog 12 #[.string ⟨#[]⟩] w fun e w' => e = .returned (.bool false) ∧ w = w' := word_g _ _ w0 w (by decide) h
theorem wd_2 (w0 w : World) (h : Good w0 w) : Calls Tryd.prog 12 #[.string ⟨#[83, 101, 108, 101, 99, 116]⟩] w fun e w' => e = .returned (.bool false) ∧ w = w' := word_g _ _ w0 w (by decide) h
theorem wd_3 (w0 w : World) (h : Good w0 w) : Calls Tryd.prog 12 #[.string ⟨#[101]⟩] w fun e w' => e = .returned (.bool false) ∧ w = w' := word_g _ _ w0 w (by decide) h
theorem wd_4 (w0 w : World) (h : Good w0 w) : Calls Tryd.prog 12 #[.string ⟨#[115, 101, 108, 101, 99, 116, 32, 102, 114, 111, 109]⟩] w fun e w' => e = .returned (.bool false) ∧ w = w' := word_g _ _ w0 w (by decide) h
set_option maxHeartbeats 2000000 in
set_option maxRecDepth 100000 in
theorem CharsNames_walk (w : World) (ht : Tabs w) :
    Calls Tryd.prog 3 #[] w fun e w' => e = .returned (.bool true) ∧ Below w.heap.size w w' := by
  suffices hh : Calls Tryd.prog 3 #[] w fun e w' => e = .returned (.bool true) ∧ Good w w' from hh.mono fun e w' ⟨he, hg⟩ => ⟨he, hg.1⟩
  have hg := Good.start ht
  clear ht
  go_enter Tryd.func3, Tryd.ntmps3
  go_wp2_with (go_at_call 9; refine (rsyms_tab _).mono ?_; rintro e w1 ⟨rfl, ht, hb, hz⟩)
  have hg1 := hg.step hb
  clear hg hb hz
  obtain ⟨B, hB⟩ : ∃ B, w.heap.size = B := ⟨_, rfl⟩
  rw [hB] at ht
  rw [hB]
  have HB := Lib.hid hB
  clear hB
  go_loopw [2] (fun i wr => ∃ k : Nat, k ≤ 13 ∧ i = .int .i64 k ∧ Good w wr ∧ Tab wr B symL) (fun i _ => 13 - (intOf i).toNat)
  case atStart => exact ⟨0, Nat.zero_le _, rfl, hg1, ht⟩
  case round =>
    clear hg1 ht
    obtain ⟨k, hk, rfl, hg, ht⟩ := hrel
    by_cases hlt : k < 13
    · have hc := ht.cell k hlt
      obtain ⟨hx3, hx4⟩ := sym_long (symL[k]'hlt) (List.getElem_mem _)
      obtain ⟨hx1, hx2⟩ := symL_small k hlt
      obtain ⟨x, hx⟩ : ∃ x, symL[k]'hlt = x := ⟨_, rfl⟩
      rw [hx] at hc hx1 hx2 hx3 hx4
      clear hx
      have hbs : (bytesOf x).size ≤ 2 := by rw [bytesOf_size]; exact hx2
      have Q0 := Lib.hid (fun n => qlen0 x n wr (by omega) hx3 hg.2)
      have Q1 := Lib.hid (fun n => qlen1 x n wr (by omega) hx4 hg.2)
      clear hx1 hx2 hx3 hx4
      go_wp2
      go_quiet ((go_at_call 10; first | (with_reducible exact Q0.out _) | (with_reducible exact Q1.out _)))
      go_wp2
      go_roundw
      case rel => exact ⟨k + 1, by omega, by go_num, hg.step (below_drewN _ _), ht.stays (below_drewN _ _)⟩
      case measure => simp [intOf]; omega
    · clear hk ht
      go_wp2_with (go_at_call 11; refine (rwords_tab _).mono ?_; rintro e w2 ⟨rfl, ht, hb, hz⟩)
      have hg2 := hg.step hb
      clear hg hb hz
      obtain ⟨B2, hB2⟩ : ∃ B2, wr.heap.size = B2 := ⟨_, rfl⟩
      rw [hB2] at ht
      rw [hB2]
      clear hB2
      go_loopw [4] (fun i wr => ∃ k : Nat, k ≤ 29 ∧ i = .int .i64 k ∧ Good w wr ∧ Tab wr B2 wordL) (fun i _ => 29 - (intOf i).toNat)
      case atStart => exact ⟨0, Nat.zero_le _, rfl, hg2, ht⟩
      case round =>
        clear hg2 ht hlt
        obtain ⟨k, hk, rfl, hg, ht⟩ := hrel
        by_cases hlt : k < 29
        · have hc := ht.cell k hlt
          obtain ⟨p1, p2, p3, p4, p5⟩ := word_parts (wordL[k]'hlt) (List.getElem_mem _)
          obtain ⟨x, hx⟩ : ∃ x, wordL[k]'hlt = x := ⟨_, rfl⟩
          rw [hx] at hc p1 p2 p3 p4 p5
          clear hx
          have hbs : (bytesOf x).size ≤ 7 := by rw [bytesOf_size]; exact p5
          have Q1 := Lib.hid (fun n => qword (bytesOf x) true n _ (by rw [bytesOf_list]; exact p1) hg.2)
          have Q2 := Lib.hid (fun n => qword (bytesOf x ++ ⟨#[32]⟩) false n _ (by rw [ByteArray.data_append, Array.toList_append, bytesOf_list]; exact p2) hg.2)
          have Q3 := Lib.hid (fun n => qword (⟨#[32]⟩ ++ bytesOf x) false n _ (by rw [ByteArray.data_append, Array.toList_append, bytesOf_list]; exact p3) hg.2)
          have Q4 := Lib.hid (fun n => qword (bytesOf x ++ bytesOf x) false n _ (by rw [ByteArray.data_append, Array.toList_append, bytesOf_list]; exact p4) hg.2)
          clear p1 p2 p3 p4 p5
          go_wp2
          go_quiet ((go_at_call 12; first | (with_reducible exact Q1.out _) | (with_reducible exact Q2.out _) | (with_reducible exact Q3.out _) | (with_reducible exact Q4.out _)))
          go_wp2
          go_roundw
          case rel => exact ⟨k + 1, by omega, by go_num, hg.step (below_drewN _ _), ht.stays (below_drewN _ _)⟩
          case measure => simp [intOf]; omega
        · clear hk ht
          go_wp2
          go_loopw [6] (fun i wx => ∃ m : Nat, m ≤ 13 ∧ i = .int .i64 m ∧ Good w wx ∧ Tab wx wr.heap.size noneL) (fun i _ => 13 - (intOf i).toNat)
          case atStart => exact ⟨0, Nat.zero_le _, rfl, hg.step ((Below.refl _ _).alloc (Nat.le_refl _) _), Tab.new wr noneL _⟩
          case round =>
            clear hg hlt
            obtain ⟨m, hm, rfl, hg, ht⟩ := hrel
            by_cases hlt : m < 13
            · have hc := ht.cell m hlt
              obtain ⟨p1, p2⟩ := none_zero (noneL[m]'hlt) (List.getElem_mem _)
              obtain ⟨x, hx⟩ : ∃ x, noneL[m]'hlt = x := ⟨_, rfl⟩
              rw [hx] at hc p1 p2
              clear hx
              have Q := Lib.hid (fun w0 w h => length_0 (bytesOf x) 0 w0 w (by rw [bytesOf_size]; unfold maxLen; omega) (by rw [bytesOf_list]; exact p1) h)
              clear p1 p2
              go_wp2_with (go_at_call 10; refine (Q.out w _ (by assumption)).mono ?_; rintro e w3 ⟨rfl, hb3, hg3⟩)
              go_roundw
              case rel => exact ⟨m + 1, by omega, by go_num, hg3, ht.stays hb3⟩
              case measure => simp [intOf]; omega
            · clear hm ht
              go_wp2_with (first
                | (go_at_call 13; ((first | (with_reducible refine (sym_a2 _).mono ?_) | (with_reducible refine (sym_an _).mono ?_)); rintro e w' ⟨rfl, rfl⟩))
                | (go_at_call 10; refine (len_a1 w _ (by assumption)).mono ?_; rintro e w' ⟨rfl, _, hg⟩)
                | (go_at_call 12; ((first | (with_reducible refine (wd_1 w _ (by assumption)).mono ?_) | (with_reducible refine (wd_2 w _ (by assumption)).mono ?_) | (with_reducible refine (wd_3 w _ (by assumption)).mono ?_) | (with_reducible refine (wd_4 w _ (by assumption)).mono ?_)); rintro e w' ⟨rfl, rfl⟩))
                | (go_at_call 14; refine (alive_g w _ (by assumption)).mono ?_; rintro e w' ⟨rfl, _, hg⟩))
              go_ret
              exact ⟨rfl, by assumption⟩
end Go.Proofs.YtbiaogkemglkcaaDoor
