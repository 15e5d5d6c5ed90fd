/- The walk of NodesTells. -/
import Derived.Test.YtakpbpabblgobaaNLSizes
import Derived.Test.YtakpbpabblgobaaNOpen
import Derived.Laws.AppendOwnNone
namespace Go.Proofs.Ytakpbpabblgobaa
open Go.ChangeShapes Go.WideShapes Go.ChangeAt Go.RowKit
set_option linter.unusedVariables false
set_option linter.unusedSimpArgs false

theorem tells_great (A : Option Addr) (n c : Nat) (at_ k : Int) (w : World) (h : 70 < n) :
    Calls Try.prog 4 #[.slice A n c, .int .i64 at_, .int .u8 k] w fun e w' => e = .returned (.bool true) ∧ Below w.heap.size w w' := by
  have HG := Lib.hid (great_any A n c w true (decide_eq_true h))
  clear h
  go_enter Try.func4, Try.ntmps4
  go_wp2_with (go_at_call 18; refine HG.out.mono ?_; rintro e w1 ⟨rfl, rfl⟩)
  go_ret
  exact ⟨rfl, Below.refl _ _⟩

set_option maxHeartbeats 4000000 in
set_option maxRecDepth 100000 in
theorem tells_none_bad (k : Int) (at_ : Int) (w : World) :
    Calls Try.prog 4 #[.slice none 0 0, .int .i64 at_, .int .u8 k] w fun e w' => e = .returned (.bool true) ∧ Below w.heap.size w w' := by
  obtain ⟨L, hL0⟩ : ∃ L : List Nd, L = [] := ⟨_, rfl⟩
  obtain ⟨v, hv⟩ : ∃ v, checkF L = v := ⟨_, rfl⟩
  have h0 : v ≠ 0 := by rw [← hv, hL0]; decide
  obtain ⟨n, hn0⟩ : ∃ n : Nat, n = 0 := ⟨_, rfl⟩
  have hn : L.length = n := by rw [hL0, hn0]; rfl
  have h7 : n ≤ 70 := by omega
  have ht : Lies w none (ndCells L) := .inl (by rw [hL0]; rfl)
  have HG := Lib.hid (great_any none 0 0 w false (by decide))
  have hm : L.length ≤ maxLen := by unfold maxLen; omega
  have hm2 : n ≤ maxLen := by unfold maxLen; omega
  have HD := Lib.hid (fun A1 c1 w1 (hl : Lies w1 A1 (ndCells L)) => show Calls Try.prog 9 #[.slice A1 0 c1] w1 fun e w' => e = .returned (.tuple #[.int .i64 0, .int .i64 v]) ∧ Below w1.heap.size w1 w' from by have := depth_bad A1 c1 L w1 hm hl v hv h0; rw [hn] at this; rw [hn0] at this; exact this)
  have HS := Lib.hid (fun A1 c1 w1 (hl : Lies w1 A1 (ndCells L)) => show Calls Try.prog 10 #[.slice A1 0 c1, .int .i64 at_] w1 fun e w' => e = .returned (.tuple #[.int .i64 0, .int .i64 v]) ∧ Below w1.heap.size w1 w' from by have := size_bad A1 c1 L at_ w1 hm hl v hv h0; rw [hn] at this; rw [hn0] at this; exact this)
  have HP := Lib.hid (fun A1 c1 w1 (hl : Lies w1 A1 (ndCells L)) => show Calls Try.prog 11 #[.slice A1 0 c1, .int .i64 at_] w1 fun e w' => e = .returned (.tuple #[.slice none 0 0, .int .i64 v]) ∧ Below w1.heap.size w1 w' from by have := part_bad A1 c1 L at_ w1 hm hl v hv h0; rw [hn] at this; rw [hn0] at this; exact this)
  have HC := Lib.hid (fun A1 c1 w1 (hl : Lies w1 A1 (ndCells L)) => show Calls Try.prog 15 #[.slice A1 0 c1] w1 fun e w' => e = .returned (.int .i64 v) ∧ Below w1.heap.size w1 w' from by have := check_any A1 c1 L w1 hm hl v hv; rw [hn] at this; rw [hn0] at this; exact this)
  have RD := Lib.hid (fun w1 (hb : Bl w w1) => show Calls Try.prog 19 #[.slice none 0 0] w1 fun e w' => e = .returned (.tuple #[.int .i64 0, .int .i64 v]) ∧ Below w1.heap.size w1 w' from by have := rdepth_bad none 0 n L w1 hn hm2 (hb.lies ht) v hv h0; rw [hn0] at this; exact this)
  have RS := Lib.hid (fun w1 (hb : Bl w w1) => show Calls Try.prog 20 #[.slice none 0 0, .int .i64 at_] w1 fun e w' => e = .returned (.tuple #[.int .i64 0, .int .i64 v]) ∧ Below w1.heap.size w1 w' from by have := rsize_bad none 0 n L at_ w1 hn hm2 (hb.lies ht) v hv h0; rw [hn0] at this; exact this)
  have RP := Lib.hid (fun w1 (hb : Bl w w1) => show Calls Try.prog 21 #[.slice none 0 0, .int .i64 at_] w1 fun e w' => e = .returned (.tuple #[.slice none 0 0, .int .i64 v]) ∧ Below w1.heap.size w1 w' from by have := rpart_bad none 0 n L at_ w1 hn hm2 (hb.lies ht) v hv h0; rw [hn0] at this; exact this)
  have RC := Lib.hid (fun w1 (hb : Bl w w1) => show Calls Try.prog 23 #[.slice none 0 0] w1 fun e w' => e = .returned (.int .i64 v) ∧ Below w1.heap.size w1 w' from by have := rcheck_any none 0 n L w1 hn hm2 (hb.lies ht) v hv; rw [hn0] at this; exact this)
  have HE := Lib.hid (fun w1 => requal_any none none 0 0 0 0 [] [] w1 rfl rfl (by decide) (by decide) (.inl rfl) (.inl rfl) true (by simp))
  have HQ := Lib.hid (fun A1 c1 w1 (hb : Bl w w1) (hl : Lies w1 A1 (ndCells L)) => show Calls Try.prog 24 #[.slice A1 0 c1, .slice none 0 0] w1 fun e w' => e = .returned (.bool true) ∧ Below w1.heap.size w1 w' from by have := requal_any A1 none n n c1 0 L L w1 hn hn (by omega) (by omega) hl (hb.lies ht) true (by simp); rw [hn0] at this; exact this)
  obtain ⟨i0, hi0, hz0, hz1, hz2⟩ := info_parts nd_info
  have HLN := Lib.hid hL0
  clear hn hn0 ht h0 hv hm hm2 hL0 h7
  go_enter Try.func4, Try.ntmps4
  go_wp2_with (first
    | (go_at_call 18; refine HG.out.mono ?_; rintro e w0 ⟨rfl, rfl⟩)
    | (at_builtin; refine wpList_append_own_none rfl (.tmp 26) (.tmp 27) 24 rfl w.heap.size 23 i0 5 Try.underlying24 hi0 (.slice (some ⟨w.heap.size, 0, none⟩) 0 0) 0 [] rfl (World.ownsRow_lit (base := w.heap.size) (e := 23) (size := 5) w #[] 0 (Nat.le_refl _) (Nat.zero_le _) rfl) rfl ?_))
  have b1 : Bl w (w.alloc (.cells #[] 23)) := (Bl.start w).step ((Below.refl _ _).alloc (Nat.le_refl _) _)
  have HLo := Lib.hid (show Lies (w.alloc (.cells #[] 23)) (some ⟨w.heap.size, 0, none⟩) (ndCells L) from .inl (by rw [HLN.out]; rfl))
  go_wp2_with (first
    | (go_at_call 9; have hq := b1; refine (HD.out _ _ _ HLo.out).mono ?_; rintro e w2 ⟨rfl, hb2⟩; have hr := HLo.out; have HLo := Lib.hid (hr.below hb2); have b2 := hq.step hb2; clear hb2 hq hr b1)
    | (go_at_call 19; have hq := b2; refine (RD.out _ b2).mono ?_; rintro e w3 ⟨rfl, hb3⟩; have hr := HLo.out; have HLo := Lib.hid (hr.below hb3); have b3 := hq.step hb3; clear hb3 hq hr b2)
    | (go_at_call 10; have hq := b3; refine (HS.out _ _ _ HLo.out).mono ?_; rintro e w4 ⟨rfl, hb4⟩; have hr := HLo.out; have HLo := Lib.hid (hr.below hb4); have b4 := hq.step hb4; clear hb4 hq hr b3)
    | (go_at_call 20; have hq := b4; refine (RS.out _ b4).mono ?_; rintro e w5 ⟨rfl, hb5⟩; have hr := HLo.out; have HLo := Lib.hid (hr.below hb5); have b5 := hq.step hb5; clear hb5 hq hr b4)
    | (go_at_call 11; have hq := b5; refine (HP.out _ _ _ HLo.out).mono ?_; rintro e w6 ⟨rfl, hb6⟩; have hr := HLo.out; have HLo := Lib.hid (hr.below hb6); have b6 := hq.step hb6; clear hb6 hq hr b5)
    | (go_at_call 21; have hq := b6; refine (RP.out _ b6).mono ?_; rintro e w7 ⟨rfl, hb7⟩; have hr := HLo.out; have HLo := Lib.hid (hr.below hb7); have b7 := hq.step hb7; clear hb7 hq hr b6)
    | (go_at_call 16; refine (parts_any _ _).mono ?_; rintro e w' ⟨rfl, rfl⟩)
    | (go_at_call 22; refine (rparts_any _ _).mono ?_; rintro e w' ⟨rfl, rfl⟩)
    | (go_at_call 15; have hq := b7; refine (HC.out _ _ _ HLo.out).mono ?_; rintro e w8 ⟨rfl, hb8⟩; have hr := HLo.out; have HLo := Lib.hid (hr.below hb8); have b8 := hq.step hb8; clear hb8 hq hr b7)
    | (go_at_call 23; have hq := b8; refine (RC.out _ b8).mono ?_; rintro e w9 ⟨rfl, hb9⟩; have hr := HLo.out; have HLo := Lib.hid (hr.below hb9); have b9 := hq.step hb9; clear hb9 hq hr b8)
    | (go_at_call 24; have hq := b9; refine (HE.out _).mono ?_; rintro e w10 ⟨rfl, hb10⟩; have hr := HLo.out; have HLo := Lib.hid (hr.below hb10); have b10 := hq.step hb10; clear hb10 hq hr b9)
    | (go_at_call 24; have hq := b10; refine (HQ.out _ _ _ hq HLo.out).mono ?_; rintro e w11 ⟨rfl, hb11⟩; have b11 := hq.step hb11; clear hb11 hq))
  go_ret
  exact ⟨rfl, b11⟩

set_option maxHeartbeats 4000000 in
set_option maxRecDepth 100000 in
theorem tells_some_bad (ad : Addr) (n c : Nat) (L : List Nd) (k : Int) (at_ : Int) (w : World) (hn : L.length = n) (h7 : n ≤ 70) (ht : Lies w (some ad) (ndCells L)) (v : Int) (hv : checkF L = v) (h0 : v ≠ 0) :
    Calls Try.prog 4 #[.slice (some ad) n c, .int .i64 at_, .int .u8 k] w fun e w' => e = .returned (.bool true) ∧ Below w.heap.size w w' := by
  have HG := Lib.hid (great_any (some ad) n c w false (decide_eq_false (by omega)))
  have HT := Lib.hid ht
  have HN5 := Lib.hid (show (ndCells L).length = n * 5 by rw [ndCells_length, hn])
  have hm : L.length ≤ maxLen := by unfold maxLen; omega
  have hm2 : n ≤ maxLen := by unfold maxLen; omega
  have HD := Lib.hid (fun A1 c1 w1 (hl : Lies w1 A1 (ndCells L)) => show Calls Try.prog 9 #[.slice A1 n c1] w1 fun e w' => e = .returned (.tuple #[.int .i64 0, .int .i64 v]) ∧ Below w1.heap.size w1 w' from by have := depth_bad A1 c1 L w1 hm hl v hv h0; rw [hn] at this; exact this)
  have HS := Lib.hid (fun A1 c1 w1 (hl : Lies w1 A1 (ndCells L)) => show Calls Try.prog 10 #[.slice A1 n c1, .int .i64 at_] w1 fun e w' => e = .returned (.tuple #[.int .i64 0, .int .i64 v]) ∧ Below w1.heap.size w1 w' from by have := size_bad A1 c1 L at_ w1 hm hl v hv h0; rw [hn] at this; exact this)
  have HP := Lib.hid (fun A1 c1 w1 (hl : Lies w1 A1 (ndCells L)) => show Calls Try.prog 11 #[.slice A1 n c1, .int .i64 at_] w1 fun e w' => e = .returned (.tuple #[.slice none 0 0, .int .i64 v]) ∧ Below w1.heap.size w1 w' from by have := part_bad A1 c1 L at_ w1 hm hl v hv h0; rw [hn] at this; exact this)
  have HC := Lib.hid (fun A1 c1 w1 (hl : Lies w1 A1 (ndCells L)) => show Calls Try.prog 15 #[.slice A1 n c1] w1 fun e w' => e = .returned (.int .i64 v) ∧ Below w1.heap.size w1 w' from by have := check_any A1 c1 L w1 hm hl v hv; rw [hn] at this; exact this)
  have RD := Lib.hid (fun w1 (hb : Bl w w1) => show Calls Try.prog 19 #[.slice (some ad) n c] w1 fun e w' => e = .returned (.tuple #[.int .i64 0, .int .i64 v]) ∧ Below w1.heap.size w1 w' from by have := rdepth_bad (some ad) c n L w1 hn hm2 (hb.lies ht) v hv h0; exact this)
  have RS := Lib.hid (fun w1 (hb : Bl w w1) => show Calls Try.prog 20 #[.slice (some ad) n c, .int .i64 at_] w1 fun e w' => e = .returned (.tuple #[.int .i64 0, .int .i64 v]) ∧ Below w1.heap.size w1 w' from by have := rsize_bad (some ad) c n L at_ w1 hn hm2 (hb.lies ht) v hv h0; exact this)
  have RP := Lib.hid (fun w1 (hb : Bl w w1) => show Calls Try.prog 21 #[.slice (some ad) n c, .int .i64 at_] w1 fun e w' => e = .returned (.tuple #[.slice none 0 0, .int .i64 v]) ∧ Below w1.heap.size w1 w' from by have := rpart_bad (some ad) c n L at_ w1 hn hm2 (hb.lies ht) v hv h0; exact this)
  have RC := Lib.hid (fun w1 (hb : Bl w w1) => show Calls Try.prog 23 #[.slice (some ad) n c] w1 fun e w' => e = .returned (.int .i64 v) ∧ Below w1.heap.size w1 w' from by have := rcheck_any (some ad) c n L w1 hn hm2 (hb.lies ht) v hv; exact this)
  have HE := Lib.hid (fun w1 => requal_any none none 0 0 0 0 [] [] w1 rfl rfl (by decide) (by decide) (.inl rfl) (.inl rfl) true (by simp))
  have HQ := Lib.hid (fun A1 c1 w1 (hb : Bl w w1) (hl : Lies w1 A1 (ndCells L)) => show Calls Try.prog 24 #[.slice A1 n c1, .slice (some ad) n c] w1 fun e w' => e = .returned (.bool true) ∧ Below w1.heap.size w1 w' from by have := requal_any A1 (some ad) n n c1 c L L w1 hn hn (by omega) (by omega) hl (hb.lies ht) true (by simp); exact this)
  obtain ⟨i0, hi0, hz0, hz1, hz2⟩ := info_parts nd_info
  have hi := hi0
  clear hn ht hv hm hm2 hi0 h0
  go_enter Try.func4, Try.ntmps4
  go_wp2_with (first
    | (go_at_call 18; refine HG.out.mono ?_; rintro e w0 ⟨rfl, rfl⟩)
    | (at_builtin; refine wpList_append_own_at _ rfl (.tmp 26) (.tmp 27) 24 rfl w.heap.size 23 i0 _ 5 40 Try.underlying24 hi hz0 hz1 hz2 rfl (by decide) (.slice (some ⟨w.heap.size, 0, none⟩) 0 0) 0 [] rfl (World.ownsRow_lit (base := w.heap.size) (e := 23) (size := 5) w #[] 0 (Nat.le_refl _) (Nat.zero_le _) rfl) ad n c (ndCells L) rfl ?c1 ?c2 ?c3 ?c4 ?c5 ?c6 ?_))
  case c1 => exact HN5.out
  case c2 => exact (HT.out.alloc _).cells
  case c3 => exact nd_one _
  case c4 => unfold maxLen; omega
  case c5 => omega
  case c6 => simp
  intro v1 w1 ho hg _ _
  have ho' : w1.ownsRow w.heap.size 23 5 v1 n (ndCells L) := by simpa using ho
  obtain ⟨A1, c1, rfl, hc1, _⟩ := own_form ho'
  have HLo := Lib.hid (Lies.of_own ho' (by intro h; exact List.eq_nil_of_length_eq_zero (by rw [HN5.out, h])))
  have b1 : Bl w w1 := ((Below.refl _ _).alloc (Nat.le_refl _) _).grown hg (by simp) (by intro j hj; injection hj with hj; change w.heap.size = j at hj; omega)
  clear ho ho' hg
  go_wp2_with (first
    | (go_at_call 9; have hq := b1; refine (HD.out _ _ _ HLo.out).mono ?_; rintro e w2 ⟨rfl, hb2⟩; have hr := HLo.out; have HLo := Lib.hid (hr.below hb2); have b2 := hq.step hb2; clear hb2 hq hr b1)
    | (go_at_call 19; have hq := b2; refine (RD.out _ b2).mono ?_; rintro e w3 ⟨rfl, hb3⟩; have hr := HLo.out; have HLo := Lib.hid (hr.below hb3); have b3 := hq.step hb3; clear hb3 hq hr b2)
    | (go_at_call 10; have hq := b3; refine (HS.out _ _ _ HLo.out).mono ?_; rintro e w4 ⟨rfl, hb4⟩; have hr := HLo.out; have HLo := Lib.hid (hr.below hb4); have b4 := hq.step hb4; clear hb4 hq hr b3)
    | (go_at_call 20; have hq := b4; refine (RS.out _ b4).mono ?_; rintro e w5 ⟨rfl, hb5⟩; have hr := HLo.out; have HLo := Lib.hid (hr.below hb5); have b5 := hq.step hb5; clear hb5 hq hr b4)
    | (go_at_call 11; have hq := b5; refine (HP.out _ _ _ HLo.out).mono ?_; rintro e w6 ⟨rfl, hb6⟩; have hr := HLo.out; have HLo := Lib.hid (hr.below hb6); have b6 := hq.step hb6; clear hb6 hq hr b5)
    | (go_at_call 21; have hq := b6; refine (RP.out _ b6).mono ?_; rintro e w7 ⟨rfl, hb7⟩; have hr := HLo.out; have HLo := Lib.hid (hr.below hb7); have b7 := hq.step hb7; clear hb7 hq hr b6)
    | (go_at_call 16; refine (parts_any _ _).mono ?_; rintro e w' ⟨rfl, rfl⟩)
    | (go_at_call 22; refine (rparts_any _ _).mono ?_; rintro e w' ⟨rfl, rfl⟩)
    | (go_at_call 15; have hq := b7; refine (HC.out _ _ _ HLo.out).mono ?_; rintro e w8 ⟨rfl, hb8⟩; have hr := HLo.out; have HLo := Lib.hid (hr.below hb8); have b8 := hq.step hb8; clear hb8 hq hr b7)
    | (go_at_call 23; have hq := b8; refine (RC.out _ b8).mono ?_; rintro e w9 ⟨rfl, hb9⟩; have hr := HLo.out; have HLo := Lib.hid (hr.below hb9); have b9 := hq.step hb9; clear hb9 hq hr b8)
    | (go_at_call 24; have hq := b9; refine (HE.out _).mono ?_; rintro e w10 ⟨rfl, hb10⟩; have hr := HLo.out; have HLo := Lib.hid (hr.below hb10); have b10 := hq.step hb10; clear hb10 hq hr b9)
    | (go_at_call 24; have hq := b10; refine (HQ.out _ _ _ hq HLo.out).mono ?_; rintro e w11 ⟨rfl, hb11⟩; have b11 := hq.step hb11; clear hb11 hq))
  go_ret
  exact ⟨rfl, b11⟩

set_option maxHeartbeats 4000000 in
set_option maxRecDepth 100000 in
theorem tells_some_arg (ad : Addr) (n c : Nat) (L : List Nd) (k : Int) (at_ : Int) (w : World) (hn : L.length = n) (h7 : n ≤ 70) (ht : Lies w (some ad) (ndCells L)) (hv : checkF L = 0) (ha : at_ < 0 ∨ (n : Int) ≤ at_) (d : Int) (hd : depF L = d) :
    Calls Try.prog 4 #[.slice (some ad) n c, .int .i64 at_, .int .u8 k] w fun e w' => e = .returned (.bool true) ∧ Below w.heap.size w w' := by
  have HG := Lib.hid (great_any (some ad) n c w false (decide_eq_false (by omega)))
  have HT := Lib.hid ht
  have HN5 := Lib.hid (show (ndCells L).length = n * 5 by rw [ndCells_length, hn])
  have hm : L.length ≤ maxLen := by unfold maxLen; omega
  have hm2 : n ≤ maxLen := by unfold maxLen; omega
  have HD := Lib.hid (fun A1 c1 w1 (hl : Lies w1 A1 (ndCells L)) => show Calls Try.prog 9 #[.slice A1 n c1] w1 fun e w' => e = .returned (.tuple #[.int .i64 d, .int .i64 0]) ∧ Below w1.heap.size w1 w' from by exact depth_ok A1 c1 n L w1 hl hv hn d hd)
  have HS := Lib.hid (fun A1 c1 w1 (hl : Lies w1 A1 (ndCells L)) => show Calls Try.prog 10 #[.slice A1 n c1, .int .i64 at_] w1 fun e w' => e = .returned (.tuple #[.int .i64 0, .int .i64 2]) ∧ Below w1.heap.size w1 w' from by exact size_arg A1 c1 n L at_ w1 hl hv hn ha)
  have HP := Lib.hid (fun A1 c1 w1 (hl : Lies w1 A1 (ndCells L)) => show Calls Try.prog 11 #[.slice A1 n c1, .int .i64 at_] w1 fun e w' => e = .returned (.tuple #[.slice none 0 0, .int .i64 2]) ∧ Below w1.heap.size w1 w' from by exact part_arg A1 c1 n L at_ w1 hl hv hn ha)
  have HC := Lib.hid (fun A1 c1 w1 (hl : Lies w1 A1 (ndCells L)) => show Calls Try.prog 15 #[.slice A1 n c1] w1 fun e w' => e = .returned (.int .i64 0) ∧ Below w1.heap.size w1 w' from by have := check_any A1 c1 L w1 hm hl 0 hv; rw [hn] at this; exact this)
  have RD := Lib.hid (fun w1 (hb : Bl w w1) => show Calls Try.prog 19 #[.slice (some ad) n c] w1 fun e w' => e = .returned (.tuple #[.int .i64 d, .int .i64 0]) ∧ Below w1.heap.size w1 w' from by have := rdepth_ok (some ad) c n L w1 hn (hb.lies ht) hv d hd; exact this)
  have RS := Lib.hid (fun w1 (hb : Bl w w1) => show Calls Try.prog 20 #[.slice (some ad) n c, .int .i64 at_] w1 fun e w' => e = .returned (.tuple #[.int .i64 0, .int .i64 2]) ∧ Below w1.heap.size w1 w' from by have := rsize_arg (some ad) c n L at_ w1 hn (hb.lies ht) hv ha; exact this)
  have RP := Lib.hid (fun w1 (hb : Bl w w1) => show Calls Try.prog 21 #[.slice (some ad) n c, .int .i64 at_] w1 fun e w' => e = .returned (.tuple #[.slice none 0 0, .int .i64 2]) ∧ Below w1.heap.size w1 w' from by have := rpart_arg (some ad) c n L at_ w1 hn (hb.lies ht) hv ha; exact this)
  have RC := Lib.hid (fun w1 (hb : Bl w w1) => show Calls Try.prog 23 #[.slice (some ad) n c] w1 fun e w' => e = .returned (.int .i64 0) ∧ Below w1.heap.size w1 w' from by have := rcheck_any (some ad) c n L w1 hn hm2 (hb.lies ht) 0 hv; exact this)
  have HE := Lib.hid (fun w1 => requal_any none none 0 0 0 0 [] [] w1 rfl rfl (by decide) (by decide) (.inl rfl) (.inl rfl) true (by simp))
  have HQ := Lib.hid (fun A1 c1 w1 (hb : Bl w w1) (hl : Lies w1 A1 (ndCells L)) => show Calls Try.prog 24 #[.slice A1 n c1, .slice (some ad) n c] w1 fun e w' => e = .returned (.bool true) ∧ Below w1.heap.size w1 w' from by have := requal_any A1 (some ad) n n c1 c L L w1 hn hn (by omega) (by omega) hl (hb.lies ht) true (by simp); exact this)
  obtain ⟨i0, hi0, hz0, hz1, hz2⟩ := info_parts nd_info
  have hi := hi0
  clear hn ht hv hm hm2 hi0 ha hd
  go_enter Try.func4, Try.ntmps4
  go_wp2_with (first
    | (go_at_call 18; refine HG.out.mono ?_; rintro e w0 ⟨rfl, rfl⟩)
    | (at_builtin; refine wpList_append_own_at _ rfl (.tmp 26) (.tmp 27) 24 rfl w.heap.size 23 i0 _ 5 40 Try.underlying24 hi hz0 hz1 hz2 rfl (by decide) (.slice (some ⟨w.heap.size, 0, none⟩) 0 0) 0 [] rfl (World.ownsRow_lit (base := w.heap.size) (e := 23) (size := 5) w #[] 0 (Nat.le_refl _) (Nat.zero_le _) rfl) ad n c (ndCells L) rfl ?c1 ?c2 ?c3 ?c4 ?c5 ?c6 ?_))
  case c1 => exact HN5.out
  case c2 => exact (HT.out.alloc _).cells
  case c3 => exact nd_one _
  case c4 => unfold maxLen; omega
  case c5 => omega
  case c6 => simp
  intro v1 w1 ho hg _ _
  have ho' : w1.ownsRow w.heap.size 23 5 v1 n (ndCells L) := by simpa using ho
  obtain ⟨A1, c1, rfl, hc1, _⟩ := own_form ho'
  have HLo := Lib.hid (Lies.of_own ho' (by intro h; exact List.eq_nil_of_length_eq_zero (by rw [HN5.out, h])))
  have b1 : Bl w w1 := ((Below.refl _ _).alloc (Nat.le_refl _) _).grown hg (by simp) (by intro j hj; injection hj with hj; change w.heap.size = j at hj; omega)
  clear ho ho' hg
  go_wp2_with (first
    | (go_at_call 9; have hq := b1; refine (HD.out _ _ _ HLo.out).mono ?_; rintro e w2 ⟨rfl, hb2⟩; have hr := HLo.out; have HLo := Lib.hid (hr.below hb2); have b2 := hq.step hb2; clear hb2 hq hr b1)
    | (go_at_call 19; have hq := b2; refine (RD.out _ b2).mono ?_; rintro e w3 ⟨rfl, hb3⟩; have hr := HLo.out; have HLo := Lib.hid (hr.below hb3); have b3 := hq.step hb3; clear hb3 hq hr b2)
    | (go_at_call 10; have hq := b3; refine (HS.out _ _ _ HLo.out).mono ?_; rintro e w4 ⟨rfl, hb4⟩; have hr := HLo.out; have HLo := Lib.hid (hr.below hb4); have b4 := hq.step hb4; clear hb4 hq hr b3)
    | (go_at_call 20; have hq := b4; refine (RS.out _ b4).mono ?_; rintro e w5 ⟨rfl, hb5⟩; have hr := HLo.out; have HLo := Lib.hid (hr.below hb5); have b5 := hq.step hb5; clear hb5 hq hr b4)
    | (go_at_call 11; have hq := b5; refine (HP.out _ _ _ HLo.out).mono ?_; rintro e w6 ⟨rfl, hb6⟩; have hr := HLo.out; have HLo := Lib.hid (hr.below hb6); have b6 := hq.step hb6; clear hb6 hq hr b5)
    | (go_at_call 21; have hq := b6; refine (RP.out _ b6).mono ?_; rintro e w7 ⟨rfl, hb7⟩; have hr := HLo.out; have HLo := Lib.hid (hr.below hb7); have b7 := hq.step hb7; clear hb7 hq hr b6)
    | (go_at_call 16; refine (parts_any _ _).mono ?_; rintro e w' ⟨rfl, rfl⟩)
    | (go_at_call 22; refine (rparts_any _ _).mono ?_; rintro e w' ⟨rfl, rfl⟩)
    | (go_at_call 15; have hq := b7; refine (HC.out _ _ _ HLo.out).mono ?_; rintro e w8 ⟨rfl, hb8⟩; have hr := HLo.out; have HLo := Lib.hid (hr.below hb8); have b8 := hq.step hb8; clear hb8 hq hr b7)
    | (go_at_call 23; have hq := b8; refine (RC.out _ b8).mono ?_; rintro e w9 ⟨rfl, hb9⟩; have hr := HLo.out; have HLo := Lib.hid (hr.below hb9); have b9 := hq.step hb9; clear hb9 hq hr b8)
    | (go_at_call 24; have hq := b9; refine (HE.out _).mono ?_; rintro e w10 ⟨rfl, hb10⟩; have hr := HLo.out; have HLo := Lib.hid (hr.below hb10); have b10 := hq.step hb10; clear hb10 hq hr b9)
    | (go_at_call 24; have hq := b10; refine (HQ.out _ _ _ hq HLo.out).mono ?_; rintro e w11 ⟨rfl, hb11⟩; have b11 := hq.step hb11; clear hb11 hq))
  go_ret
  exact ⟨rfl, b11⟩

set_option maxHeartbeats 4000000 in
set_option maxRecDepth 100000 in
theorem tells_some_ok (ad : Addr) (n c : Nat) (L : List Nd) (k : Int) (at_ : Int) (w : World) (hn : L.length = n) (h7 : n ≤ 70) (ht : Lies w (some ad) (ndCells L)) (hnc : n ≤ c) (hv : checkF L = 0) (i s : Nat) (hin : i < n) (hat : at_ = i) (hs : sizF L i = s) (hcl : (cutF L i).length = s) (hsl : s ≤ 60) (d : Int) (hd : depF L = d) :
    Calls Try.prog 4 #[.slice (some ad) n c, .int .i64 at_, .int .u8 k] w fun e w' => e = .returned (.bool true) ∧ Below w.heap.size w w' := by
  have HG := Lib.hid (great_any (some ad) n c w false (decide_eq_false (by omega)))
  have HT := Lib.hid ht
  have HN5 := Lib.hid (show (ndCells L).length = n * 5 by rw [ndCells_length, hn])
  subst hat
  have hm : L.length ≤ maxLen := by unfold maxLen; omega
  have hm2 : n ≤ maxLen := by unfold maxLen; omega
  have HD := Lib.hid (fun A1 c1 w1 (hl : Lies w1 A1 (ndCells L)) => show Calls Try.prog 9 #[.slice A1 n c1] w1 fun e w' => e = .returned (.tuple #[.int .i64 d, .int .i64 0]) ∧ Below w1.heap.size w1 w' from by exact depth_ok A1 c1 n L w1 hl hv hn d hd)
  have HS := Lib.hid (fun A1 c1 w1 (hl : Lies w1 A1 (ndCells L)) => show Calls Try.prog 10 #[.slice A1 n c1, .int .i64 (i : Nat)] w1 fun e w' => e = .returned (.tuple #[.int .i64 (s : Nat), .int .i64 0]) ∧ Below w1.heap.size w1 w' from by exact size_ok A1 c1 n L i s w1 hl hv hn hin hs)
  have HP := Lib.hid (fun A1 c1 w1 (hl : Lies w1 A1 (ndCells L)) (hc1 : n ≤ c1) => show Calls Try.prog 11 #[.slice A1 n c1, .int .i64 (i : Nat)] w1 (POk w1 (cutF L i) s) from by exact part_ok A1 c1 n L i s w1 hl hv hn hc1 hin hs)
  have HC := Lib.hid (fun A1 c1 w1 (hl : Lies w1 A1 (ndCells L)) => show Calls Try.prog 15 #[.slice A1 n c1] w1 fun e w' => e = .returned (.int .i64 0) ∧ Below w1.heap.size w1 w' from by have := check_any A1 c1 L w1 hm hl 0 hv; rw [hn] at this; exact this)
  have RD := Lib.hid (fun w1 (hb : Bl w w1) => show Calls Try.prog 19 #[.slice (some ad) n c] w1 fun e w' => e = .returned (.tuple #[.int .i64 d, .int .i64 0]) ∧ Below w1.heap.size w1 w' from by have := rdepth_ok (some ad) c n L w1 hn (hb.lies ht) hv d hd; exact this)
  have RS := Lib.hid (fun w1 (hb : Bl w w1) => show Calls Try.prog 20 #[.slice (some ad) n c, .int .i64 (i : Nat)] w1 fun e w' => e = .returned (.tuple #[.int .i64 (s : Nat), .int .i64 0]) ∧ Below w1.heap.size w1 w' from by have := rsize_ok (some ad) c n L i s w1 hn (hb.lies ht) hv hin hs; exact this)
  have RP := Lib.hid (fun w1 (hb : Bl w w1) => show Calls Try.prog 21 #[.slice (some ad) n c, .int .i64 (i : Nat)] w1 (RPOk w1 (cutF L i) s) from by have := rpart_ok (some ad) c n L i s w1 hn (hb.lies ht) hv hin hs; exact this)
  have RC := Lib.hid (fun w1 (hb : Bl w w1) => show Calls Try.prog 23 #[.slice (some ad) n c] w1 fun e w' => e = .returned (.int .i64 0) ∧ Below w1.heap.size w1 w' from by have := rcheck_any (some ad) c n L w1 hn hm2 (hb.lies ht) 0 hv; exact this)
  have HE := Lib.hid (fun A1 A2 c1 c2 w1 (h1 : Lies w1 A1 (ndCells (cutF L i))) (h2 : Lies w1 A2 (ndCells (cutF L i))) => requal_any A1 A2 s s c1 c2 (cutF L i) (cutF L i) w1 hcl hcl (by omega) (by omega) h1 h2 true (by simp))
  have HQ := Lib.hid (fun A1 c1 w1 (hb : Bl w w1) (hl : Lies w1 A1 (ndCells L)) => show Calls Try.prog 24 #[.slice A1 n c1, .slice (some ad) n c] w1 fun e w' => e = .returned (.bool true) ∧ Below w1.heap.size w1 w' from by have := requal_any A1 (some ad) n n c1 c L L w1 hn hn (by omega) (by omega) hl (hb.lies ht) true (by simp); exact this)
  obtain ⟨i0, hi0, hz0, hz1, hz2⟩ := info_parts nd_info
  have hi := hi0
  clear hn ht hv hm hm2 hi0 hs hcl hd
  go_enter Try.func4, Try.ntmps4
  go_wp2_with (first
    | (go_at_call 18; refine HG.out.mono ?_; rintro e w0 ⟨rfl, rfl⟩)
    | (at_builtin; refine wpList_append_own_at _ rfl (.tmp 26) (.tmp 27) 24 rfl w.heap.size 23 i0 _ 5 40 Try.underlying24 hi hz0 hz1 hz2 rfl (by decide) (.slice (some ⟨w.heap.size, 0, none⟩) 0 0) 0 [] rfl (World.ownsRow_lit (base := w.heap.size) (e := 23) (size := 5) w #[] 0 (Nat.le_refl _) (Nat.zero_le _) rfl) ad n c (ndCells L) rfl ?c1 ?c2 ?c3 ?c4 ?c5 ?c6 ?_))
  case c1 => exact HN5.out
  case c2 => exact (HT.out.alloc _).cells
  case c3 => exact nd_one _
  case c4 => unfold maxLen; omega
  case c5 => omega
  case c6 => simp
  intro v1 w1 ho hg _ _
  have ho' : w1.ownsRow w.heap.size 23 5 v1 n (ndCells L) := by simpa using ho
  obtain ⟨A1, c1, rfl, hc1, _⟩ := own_form ho'
  have HLo := Lib.hid (Lies.of_own ho' (by intro h; exact List.eq_nil_of_length_eq_zero (by rw [HN5.out, h])))
  have b1 : Bl w w1 := ((Below.refl _ _).alloc (Nat.le_refl _) _).grown hg (by simp) (by intro j hj; injection hj with hj; change w.heap.size = j at hj; omega)
  clear ho ho' hg
  go_wp2_with (first
    | (go_at_call 9; have hq := b1; refine (HD.out _ _ _ HLo.out).mono ?_; rintro e w2 ⟨rfl, hb2⟩; have hr := HLo.out; have HLo := Lib.hid (hr.below hb2); have b2 := hq.step hb2; clear hb2 hq hr b1)
    | (go_at_call 19; have hq := b2; refine (RD.out _ b2).mono ?_; rintro e w3 ⟨rfl, hb3⟩; have hr := HLo.out; have HLo := Lib.hid (hr.below hb3); have b3 := hq.step hb3; clear hb3 hq hr b2)
    | (go_at_call 10; have hq := b3; refine (HS.out _ _ _ HLo.out).mono ?_; rintro e w4 ⟨rfl, hb4⟩; have hr := HLo.out; have HLo := Lib.hid (hr.below hb4); have b4 := hq.step hb4; clear hb4 hq hr b3)
    | (go_at_call 20; have hq := b4; refine (RS.out _ b4).mono ?_; rintro e w5 ⟨rfl, hb5⟩; have hr := HLo.out; have HLo := Lib.hid (hr.below hb5); have b5 := hq.step hb5; clear hb5 hq hr b4)
    | (go_at_call 11; have hq := b5; refine (HP.out _ _ _ HLo.out hc1).mono ?_; rintro e w6 ⟨a6, rfl, hl6, hb6⟩; have hr := HLo.out; have HLo := Lib.hid (hr.below hb6); have HL6 := Lib.hid hl6; have b6 := hq.step hb6; clear hb6 hq hr b5 hl6)
    | (go_at_call 21; have hq := b6; refine (RP.out _ b6).mono ?_; rintro e w7 ⟨A7, c7, rfl, hl7, hb7⟩; have hr := HLo.out; have HLo := Lib.hid (hr.below hb7); have hr6 := HL6.out; have HL6 := Lib.hid (hr6.below hb7); have HL7 := Lib.hid hl7; have b7 := hq.step hb7; clear hb7 hq hr hr6 b6 hl7)
    | (go_at_call 16; refine (parts_any _ _).mono ?_; rintro e w' ⟨rfl, rfl⟩)
    | (go_at_call 22; refine (rparts_any _ _).mono ?_; rintro e w' ⟨rfl, rfl⟩)
    | (go_at_call 15; have hq := b7; refine (HC.out _ _ _ HLo.out).mono ?_; rintro e w8 ⟨rfl, hb8⟩; have hr := HLo.out; have HLo := Lib.hid (hr.below hb8); have hr6 := HL6.out; have HL6 := Lib.hid (hr6.below hb8); have hr7 := HL7.out; have HL7 := Lib.hid (hr7.below hb8); have b8 := hq.step hb8; clear hb8 hq hr hr6 hr7 b7)
    | (go_at_call 23; have hq := b8; refine (RC.out _ b8).mono ?_; rintro e w9 ⟨rfl, hb9⟩; have hr := HLo.out; have HLo := Lib.hid (hr.below hb9); have hr6 := HL6.out; have HL6 := Lib.hid (hr6.below hb9); have hr7 := HL7.out; have HL7 := Lib.hid (hr7.below hb9); have b9 := hq.step hb9; clear hb9 hq hr hr6 hr7 b8)
    | (go_at_call 24; have hq := b9; refine (HE.out _ _ _ _ _ HL6.out HL7.out).mono ?_; rintro e w10 ⟨rfl, hb10⟩; have hr := HLo.out; have HLo := Lib.hid (hr.below hb10); have b10 := hq.step hb10; clear hb10 hq hr b9)
    | (go_at_call 24; have hq := b10; refine (HQ.out _ _ _ hq HLo.out).mono ?_; rintro e w11 ⟨rfl, hb11⟩; have b11 := hq.step hb11; clear hb11 hq))
  go_ret
  exact ⟨rfl, b11⟩

theorem NodesTells_walk (A : Option Addr) (c : Nat) (L : List Nd) (at_ k : Int) (w : World) (hL : L.length ≤ maxLen) (ht : Lies w A (ndCells L)) (hnc : L.length ≤ c) (hA : (A = none ∧ c = 0 ∧ L = []) ∨ ∃ ad, A = some ad) (_ : (Lit.int .i64 at_).wf = true) (_ : (Lit.int .u8 k).wf = true) :
    Calls Try.prog 4 #[.slice A L.length c, .int .i64 at_, .int .u8 k] w fun e w' => e = .returned (.bool true) ∧ Below w.heap.size w w' := by
  by_cases h7 : 70 < L.length
  · exact tells_great A _ c at_ k w h7
  rcases hA with ⟨rfl, rfl, rfl⟩ | ⟨ad, rfl⟩
  · exact tells_none_bad k at_ w
  by_cases hv : checkF L = 0
  rotate_left
  · exact tells_some_bad ad _ c L k at_ w rfl (by omega) ht _ rfl hv
  by_cases ha : at_ < 0 ∨ (L.length : Int) ≤ at_
  · exact tells_some_arg ad _ c L k at_ w rfl (by omega) ht hv ha _ rfl
  obtain ⟨i, rfl⟩ : ∃ i : Nat, at_ = i := ⟨at_.toNat, by omega⟩
  obtain ⟨E, hg⟩ := checkF_zero hv
  have hi : i < L.length := by omega
  obtain ⟨s1, s2, s3⟩ := hg.size hi
  have h60 := hg.2.1
  exact tells_some_ok ad _ c L k _ w rfl (by omega) ht hnc hv i _ hi rfl rfl s3 (by omega) _ rfl
end Go.Proofs.Ytakpbpabblgobaa
