/- The walk of NodesSizes; where NodesSizes and NodesMade ask for nothing. -/
import Derived.Test.YtakpbpabblgobaaNAlive
namespace Go.Proofs.Ytakpbpabblgobaa
open Go.ChangeShapes Go.WideShapes Go.ChangeAt Go.RowKit
set_option linter.unusedVariables false
set_option linter.unusedSimpArgs false

def Bl (w0 w : World) : Prop := Below w0.heap.size w0 w
theorem Bl.start (w : World) : Bl w w := Below.refl _ _
theorem Bl.step {w0 w w' : World} (h : Bl w0 w) (hb : Below w.heap.size w w') : Bl w0 w' := Below.trans h (Below.mono hb (Below.size h))
theorem Bl.size {w0 w : World} (h : Bl w0 w) : w0.heap.size ≤ w.heap.size := Below.size h
theorem Bl.lies {w0 w : World} {A : Option Addr} {cs : List Value} (h : Bl w0 w) (hl : Lies w0 A cs) : Lies w A cs := hl.below h
set_option maxRecDepth 100000 in
theorem great_sizes (A : Option Addr) (n c : Nat) (at_ : Int) (w : World) (h : 70 < n) :
    Calls Try.prog 6 #[.slice A n c, .int .i64 at_] w fun e w' => e = .returned (.bool true) ∧ Below w.heap.size w w' := by
  have HG := Lib.hid (great_any A n c w true (decide_eq_true h))
  clear h
  go_enter Try.func6, Try.ntmps6
  go_wp2_with (first
    | (go_at_call 18; refine HG.out.mono ?_; rintro e w1 ⟨rfl, rfl⟩)
    | (go_at_call 17; refine (alive_any _).mono ?_; rintro e w1 ⟨rfl, hb⟩))
  go_ret
  exact ⟨rfl, hb⟩
set_option maxRecDepth 100000 in
theorem bad_sizes (A : Option Addr) (n c : Nat) (L : List Nd) (at_ : Int) (w : World) (hn : L.length = n) (h7 : n ≤ 70) (ht : Lies w A (ndCells L)) (h : checkF L ≠ 0) :
    Calls Try.prog 6 #[.slice A n c, .int .i64 at_] w fun e w' => e = .returned (.bool true) ∧ Below w.heap.size w w' := by
  have HG := Lib.hid (great_any A n c w false (decide_eq_false (by omega)))
  obtain ⟨v, hv⟩ : ∃ v, checkF L = v := ⟨_, rfl⟩
  have HC := Lib.hid (rcheck_any A c n L w hn (by unfold maxLen; omega) ht v hv)
  rw [hv] at h
  have hne := (bne_iff_ne (a := v) (b := 0)).2 h
  clear h hv hn ht h7
  go_enter Try.func6, Try.ntmps6
  go_wp2_with (first
    | (go_at_call 18; refine HG.out.mono ?_; rintro e w1 ⟨rfl, rfl⟩)
    | (go_at_call 23; refine HC.out.mono ?_; rintro e w1 ⟨rfl, hb1⟩)
    | (go_at_call 17; refine (alive_any _).mono ?_; rintro e w2 ⟨rfl, hb⟩))
  go_ret
  exact ⟨rfl, hb1.trans (hb.mono hb1.size)⟩
set_option maxRecDepth 100000 in
theorem out_sizes (A : Option Addr) (n c : Nat) (L : List Nd) (at_ : Int) (w : World) (hn : L.length = n) (h7 : n ≤ 70) (ht : Lies w A (ndCells L)) (hv : checkF L = 0) (ha : at_ < 0 ∨ n ≤ at_) :
    Calls Try.prog 6 #[.slice A n c, .int .i64 at_] w fun e w' => e = .returned (.bool true) ∧ Below w.heap.size w w' := by
  have HG := Lib.hid (great_any A n c w false (decide_eq_false (by omega)))
  have HC := Lib.hid (rcheck_any A c n L w hn (by unfold maxLen; omega) ht 0 hv)
  clear hv hn ht h7
  rcases ha with ha | ha
  · go_enter Try.func6, Try.ntmps6
    go_wp2_with (first
      | (go_at_call 18; refine HG.out.mono ?_; rintro e w1 ⟨rfl, rfl⟩)
      | (go_at_call 23; refine HC.out.mono ?_; rintro e w1 ⟨rfl, hb1⟩)
      | (go_at_call 17; refine (alive_any _).mono ?_; rintro e w2 ⟨rfl, hb⟩))
    go_ret
    exact ⟨rfl, hb1.trans (hb.mono hb1.size)⟩
  · have h3 : ¬ at_ < 0 := by omega
    go_enter Try.func6, Try.ntmps6
    go_wp2_with (first
      | (go_at_call 18; refine HG.out.mono ?_; rintro e w1 ⟨rfl, rfl⟩)
      | (go_at_call 23; refine HC.out.mono ?_; rintro e w1 ⟨rfl, hb1⟩)
      | (go_at_call 17; refine (alive_any _).mono ?_; rintro e w2 ⟨rfl, hb⟩))
    go_ret
    exact ⟨rfl, hb1.trans (hb.mono hb1.size)⟩
set_option maxRecDepth 100000 in
theorem great_nmade (A : Option Addr) (n c : Nat) (at_ : Int) (w : World) (h : 70 < n) :
    Calls Try.prog 5 #[.slice A n c, .int .i64 at_] w fun e w' => e = .returned (.bool true) ∧ Below w.heap.size w w' := by
  have HG := Lib.hid (great_any A n c w true (decide_eq_true h))
  clear h
  go_enter Try.func5, Try.ntmps5
  go_wp2_with (first
    | (go_at_call 18; refine HG.out.mono ?_; rintro e w1 ⟨rfl, rfl⟩)
    | (go_at_call 17; refine (alive_any _).mono ?_; rintro e w1 ⟨rfl, hb⟩))
  go_ret
  exact ⟨rfl, hb⟩
set_option maxRecDepth 100000 in
theorem bad_nmade (A : Option Addr) (n c : Nat) (L : List Nd) (at_ : Int) (w : World) (hn : L.length = n) (h7 : n ≤ 70) (ht : Lies w A (ndCells L)) (h : checkF L ≠ 0) :
    Calls Try.prog 5 #[.slice A n c, .int .i64 at_] w fun e w' => e = .returned (.bool true) ∧ Below w.heap.size w w' := by
  have HG := Lib.hid (great_any A n c w false (decide_eq_false (by omega)))
  obtain ⟨v, hv⟩ : ∃ v, checkF L = v := ⟨_, rfl⟩
  have HC := Lib.hid (rcheck_any A c n L w hn (by unfold maxLen; omega) ht v hv)
  rw [hv] at h
  have hne := (bne_iff_ne (a := v) (b := 0)).2 h
  clear h hv hn ht h7
  go_enter Try.func5, Try.ntmps5
  go_wp2_with (first
    | (go_at_call 18; refine HG.out.mono ?_; rintro e w1 ⟨rfl, rfl⟩)
    | (go_at_call 23; refine HC.out.mono ?_; rintro e w1 ⟨rfl, hb1⟩)
    | (go_at_call 17; refine (alive_any _).mono ?_; rintro e w2 ⟨rfl, hb⟩))
  go_ret
  exact ⟨rfl, hb1.trans (hb.mono hb1.size)⟩
set_option maxRecDepth 100000 in
theorem out_nmade (A : Option Addr) (n c : Nat) (L : List Nd) (at_ : Int) (w : World) (hn : L.length = n) (h7 : n ≤ 70) (ht : Lies w A (ndCells L)) (hv : checkF L = 0) (ha : at_ < 0 ∨ n ≤ at_) :
    Calls Try.prog 5 #[.slice A n c, .int .i64 at_] w fun e w' => e = .returned (.bool true) ∧ Below w.heap.size w w' := by
  have HG := Lib.hid (great_any A n c w false (decide_eq_false (by omega)))
  have HC := Lib.hid (rcheck_any A c n L w hn (by unfold maxLen; omega) ht 0 hv)
  clear hv hn ht h7
  rcases ha with ha | ha
  · go_enter Try.func5, Try.ntmps5
    go_wp2_with (first
      | (go_at_call 18; refine HG.out.mono ?_; rintro e w1 ⟨rfl, rfl⟩)
      | (go_at_call 23; refine HC.out.mono ?_; rintro e w1 ⟨rfl, hb1⟩)
      | (go_at_call 17; refine (alive_any _).mono ?_; rintro e w2 ⟨rfl, hb⟩))
    go_ret
    exact ⟨rfl, hb1.trans (hb.mono hb1.size)⟩
  · have h3 : ¬ at_ < 0 := by omega
    go_enter Try.func5, Try.ntmps5
    go_wp2_with (first
      | (go_at_call 18; refine HG.out.mono ?_; rintro e w1 ⟨rfl, rfl⟩)
      | (go_at_call 23; refine HC.out.mono ?_; rintro e w1 ⟨rfl, hb1⟩)
      | (go_at_call 17; refine (alive_any _).mono ?_; rintro e w2 ⟨rfl, hb⟩))
    go_ret
    exact ⟨rfl, hb1.trans (hb.mono hb1.size)⟩

set_option maxHeartbeats 2000000 in
set_option maxRecDepth 100000 in
theorem sizes_0 (ad : Addr) (n c : Nat) (L : List Nd) (i s : Nat) (k xn xa xb xp d dp : Int) (w : World) (hn : L.length = n) (hnc : n ≤ c) (h6 : n ≤ 60) (ht : Lies w (some ad) (ndCells L)) (hv : checkF L = 0) (hi : i < n) (hs : sizF L i = s) (hsn : sizF L (n - 1) = n) (hw : cutF L (n - 1) = L) (hd : depF L = d) (hd1 : 1 ≤ d) (hd2 : d ≤ n) (hok : okK k = true) (hck : cnt k = 0)
    (hcl : (cutF L i).length = s) (hcc : checkF (cutF L i) = 0) (hcd : depF (cutF L i) = dp) (hdd : dp ≤ d) (hat : ∀ w1, Bl w w1 → NdAt w1 ad i ⟨k, xn, xa, xb, xp⟩) (h0 : s = 1) :
    Calls Try.prog 6 #[.slice (some ad) n c, .int .i64 i] w fun e w' => e = .returned (.bool true) ∧ Below w.heap.size w w' := by
  have HG := Lib.hid (great_any (some ad) n c w false (decide_eq_false (by omega)))
  have HC := Lib.hid (rcheck_any (some ad) c n L w hn (by unfold maxLen; omega) ht 0 hv)
  have HSi := Lib.hid (fun w1 (hb : Bl w w1) => size_ok (some ad) c n L i s w1 (hb.lies ht) hv hn hi hs)
  have HSn := Lib.hid (fun (z : Int) w1 (hz : z = (n : Int) - 1) (hb : Bl w w1) => show Calls Try.prog 10 #[.slice (some ad) n c, .int .i64 z] w1 fun e w' => e = .returned (.tuple #[.int .i64 n, .int .i64 0]) ∧ Below w1.heap.size w1 w' by
    rw [hz, show (n : Int) - 1 = ((n - 1 : Nat) : Int) by omega]; exact size_ok (some ad) c n L (n - 1) n w1 (hb.lies ht) hv hn (by omega) hsn)
  have HPn := Lib.hid (fun (z : Int) w1 (hz : z = (n : Int) - 1) (hb : Bl w w1) => show Calls Try.prog 11 #[.slice (some ad) n c, .int .i64 z] w1 (POk w1 L n) by
    rw [hz, show (n : Int) - 1 = ((n - 1 : Nat) : Int) by omega]; have := part_ok (some ad) c n L (n - 1) n w1 (hb.lies ht) hv hn hnc (by omega) hsn; rwa [hw] at this)
  have HPi := Lib.hid (fun w1 (hb : Bl w w1) => part_ok (some ad) c n L i s w1 (hb.lies ht) hv hn hnc hi hs)
  have HD := Lib.hid (fun w1 (hb : Bl w w1) => depth_ok (some ad) c n L w1 (hb.lies ht) hv hn d hd)
  have HDc := Lib.hid (fun a2 w1 (hl : Lies w1 (some a2) (ndCells (cutF L i))) => depth_ok (some a2) s s (cutF L i) w1 hl hcc hcl dp hcd)
  have HE := Lib.hid (fun a2 w1 (hb : Bl w w1) (hl : Lies w1 (some a2) (ndCells L)) => requal_any (some a2) (some ad) n n n c L L w1 hn hn (by omega) (by omega) hl (hb.lies ht) true (by simp))
  have HK := Lib.hid (fun w => show Calls Try.prog 16 #[.int .u8 k] w fun e w' => e = .returned (.tuple #[.int .i64 0, .int .i64 0]) ∧ w = w' by have := parts_any k w; rwa [show partsN k = 0 from partsN_of hok hck, show partsE k = 0 by simp [partsE, hok]] at this)
  have HA := Lib.hid hat
  have j1 : (n : Int) - 1 < n := by omega
  have e1 : ((n : Int) != n) = false := by simp
  have e2 : ((s : Int) == s) = true := by simp
  have j2 : (0 : Int) ≤ i := by omega
  have j3 : (i : Int) < n := by omega
  have e3 : ((1 : Int) == s) = true := by simp; omega
  clear hn ht hv hi hs hsn hw hd hok hck hcl hcc hcd hat h0
  go_enter Try.func6, Try.ntmps6
  go_wp2_with (first
    | (go_at_call 18; refine HG.out.mono ?_; rintro e w1 ⟨rfl, rfl⟩)
    | (go_at_call 23; refine HC.out.mono ?_; rintro e w1 ⟨rfl, hb1⟩; have b1 := (Bl.start w).step hb1; clear hb1)
    | (go_at_call 10; have hq := b1; (with_reducible refine (HSi.out _ hq).mono ?_); rintro e w2 ⟨rfl, hb2⟩; have b2 := hq.step hb2; clear hb2 hq b1; obtain ⟨c0, c1, c2, c3, c4⟩ := HA.out _ b2)
    | (go_at_call 16; refine (HK.out _).mono ?_; rintro e w' ⟨rfl, rfl⟩)
    | (go_at_call 10; have hq := b2; refine (HSn.out _ _ (by omega) hq).mono ?_; rintro e w3 ⟨rfl, hb3⟩; have b3 := hq.step hb3; clear hb3 hq b2 c0 c1 c2 c3 c4)
    | (go_at_call 9; have hq := b3; refine (HD.out _ hq).mono ?_; rintro e w4 ⟨rfl, hb4⟩; have b4 := hq.step hb4; clear hb4 hq b3)
    | (go_at_call 11; have hq := b4; refine (HPn.out _ _ (by omega) hq).mono ?_; rintro e w5 ⟨a5, rfl, hl5, hb5⟩; have HL5 := Lib.hid hl5; have b5 := hq.step hb5; clear hb5 hl5 hq b4)
    | (go_at_call 24; have hq := b5; refine (HE.out _ _ hq HL5.out).mono ?_; rintro e w6 ⟨rfl, hb6⟩; have b6 := hq.step hb6; clear hb6 hq b5 HL5; obtain ⟨c0, c1, c2, c3, c4⟩ := HA.out _ b6)
    | (go_at_call 11; have hq := b6; (with_reducible refine (HPi.out _ hq).mono ?_); rintro e w9 ⟨a9, rfl, hl9, hb9⟩; have HL9 := Lib.hid hl9; have b9 := hq.step hb9; clear hb9 hl9 hq)
    | (go_at_call 9; have hq := b9; (with_reducible refine (HDc.out _ _ HL9.out).mono ?_); rintro e w10 ⟨rfl, hb10⟩; have b10 := hq.step hb10; clear hb10 hq)
    | (go_at_call 17; have hq := b10; refine (alive_any _).mono ?_; rintro e w11 ⟨rfl, hb11⟩; have b11 := hq.step hb11; clear hb11 hq))
  go_ret
  exact ⟨rfl, b11⟩

set_option maxHeartbeats 2000000 in
set_option maxRecDepth 100000 in
theorem sizes_1 (ad : Addr) (n c : Nat) (L : List Nd) (i s : Nat) (k xn xa xb xp d dp : Int) (w : World) (hn : L.length = n) (hnc : n ≤ c) (h6 : n ≤ 60) (ht : Lies w (some ad) (ndCells L)) (hv : checkF L = 0) (hi : i < n) (hs : sizF L i = s) (hsn : sizF L (n - 1) = n) (hw : cutF L (n - 1) = L) (hd : depF L = d) (hd1 : 1 ≤ d) (hd2 : d ≤ n) (hok : okK k = true) (hck : cnt k = 1)
    (hcl : (cutF L i).length = s) (hcc : checkF (cutF L i) = 0) (hcd : depF (cutF L i) = dp) (hdd : dp ≤ d) (i1 s1 : Nat) (hi1 : i1 < n) (hs1 : sizF L i1 = s1) (hl1 : s1 ≤ 60) (h0 : s = 1 + s1) (hat : ∀ w1, Bl w w1 → NdAt w1 ad i ⟨k, xn, (i1 : Nat), xb, xp⟩) :
    Calls Try.prog 6 #[.slice (some ad) n c, .int .i64 i] w fun e w' => e = .returned (.bool true) ∧ Below w.heap.size w w' := by
  have HG := Lib.hid (great_any (some ad) n c w false (decide_eq_false (by omega)))
  have HC := Lib.hid (rcheck_any (some ad) c n L w hn (by unfold maxLen; omega) ht 0 hv)
  have HSi := Lib.hid (fun w1 (hb : Bl w w1) => size_ok (some ad) c n L i s w1 (hb.lies ht) hv hn hi hs)
  have HSn := Lib.hid (fun (z : Int) w1 (hz : z = (n : Int) - 1) (hb : Bl w w1) => show Calls Try.prog 10 #[.slice (some ad) n c, .int .i64 z] w1 fun e w' => e = .returned (.tuple #[.int .i64 n, .int .i64 0]) ∧ Below w1.heap.size w1 w' by
    rw [hz, show (n : Int) - 1 = ((n - 1 : Nat) : Int) by omega]; exact size_ok (some ad) c n L (n - 1) n w1 (hb.lies ht) hv hn (by omega) hsn)
  have HPn := Lib.hid (fun (z : Int) w1 (hz : z = (n : Int) - 1) (hb : Bl w w1) => show Calls Try.prog 11 #[.slice (some ad) n c, .int .i64 z] w1 (POk w1 L n) by
    rw [hz, show (n : Int) - 1 = ((n - 1 : Nat) : Int) by omega]; have := part_ok (some ad) c n L (n - 1) n w1 (hb.lies ht) hv hn hnc (by omega) hsn; rwa [hw] at this)
  have HPi := Lib.hid (fun w1 (hb : Bl w w1) => part_ok (some ad) c n L i s w1 (hb.lies ht) hv hn hnc hi hs)
  have HD := Lib.hid (fun w1 (hb : Bl w w1) => depth_ok (some ad) c n L w1 (hb.lies ht) hv hn d hd)
  have HDc := Lib.hid (fun a2 w1 (hl : Lies w1 (some a2) (ndCells (cutF L i))) => depth_ok (some a2) s s (cutF L i) w1 hl hcc hcl dp hcd)
  have HE := Lib.hid (fun a2 w1 (hb : Bl w w1) (hl : Lies w1 (some a2) (ndCells L)) => requal_any (some a2) (some ad) n n n c L L w1 hn hn (by omega) (by omega) hl (hb.lies ht) true (by simp))
  have HK := Lib.hid (fun w => show Calls Try.prog 16 #[.int .u8 k] w fun e w' => e = .returned (.tuple #[.int .i64 1, .int .i64 0]) ∧ w = w' by have := parts_any k w; rwa [show partsN k = 1 from partsN_of hok hck, show partsE k = 0 by simp [partsE, hok]] at this)
  have S1 := Lib.hid (fun w1 (hb : Bl w w1) => size_ok (some ad) c n L i1 s1 w1 (hb.lies ht) hv hn hi1 hs1)
  have HA := Lib.hid hat
  have j1 : (n : Int) - 1 < n := by omega
  have e1 : ((n : Int) != n) = false := by simp
  have e2 : ((s : Int) == s) = true := by simp
  have j2 : (0 : Int) ≤ i := by omega
  have j3 : (i : Int) < n := by omega
  have e3 : (1 + (s1 : Int) == s) = true := by simp; omega
  clear hn ht hv hi hs hsn hw hd hok hck hcl hcc hcd hat h0 hi1 hs1
  go_enter Try.func6, Try.ntmps6
  go_wp2_with (first
    | (go_at_call 18; refine HG.out.mono ?_; rintro e w1 ⟨rfl, rfl⟩)
    | (go_at_call 23; refine HC.out.mono ?_; rintro e w1 ⟨rfl, hb1⟩; have b1 := (Bl.start w).step hb1; clear hb1)
    | (go_at_call 10; have hq := b1; (with_reducible refine (HSi.out _ hq).mono ?_); rintro e w2 ⟨rfl, hb2⟩; have b2 := hq.step hb2; clear hb2 hq b1; obtain ⟨c0, c1, c2, c3, c4⟩ := HA.out _ b2)
    | (go_at_call 16; refine (HK.out _).mono ?_; rintro e w' ⟨rfl, rfl⟩)
    | (go_at_call 10; have hq := b2; refine (HSn.out _ _ (by omega) hq).mono ?_; rintro e w3 ⟨rfl, hb3⟩; have b3 := hq.step hb3; clear hb3 hq b2 c0 c1 c2 c3 c4)
    | (go_at_call 9; have hq := b3; refine (HD.out _ hq).mono ?_; rintro e w4 ⟨rfl, hb4⟩; have b4 := hq.step hb4; clear hb4 hq b3)
    | (go_at_call 11; have hq := b4; refine (HPn.out _ _ (by omega) hq).mono ?_; rintro e w5 ⟨a5, rfl, hl5, hb5⟩; have HL5 := Lib.hid hl5; have b5 := hq.step hb5; clear hb5 hl5 hq b4)
    | (go_at_call 24; have hq := b5; refine (HE.out _ _ hq HL5.out).mono ?_; rintro e w6 ⟨rfl, hb6⟩; have b6 := hq.step hb6; clear hb6 hq b5 HL5; obtain ⟨c0, c1, c2, c3, c4⟩ := HA.out _ b6)
    | (go_at_call 10; have hq := b6; (with_reducible refine (S1.out _ hq).mono ?_); rintro e w7 ⟨rfl, hb7⟩; have b7 := hq.step hb7; clear hb7 hq b6 c0 c1 c2 c3 c4; obtain ⟨c0, c1, c2, c3, c4⟩ := HA.out _ b7)
    | (go_at_call 11; have hq := b7; (with_reducible refine (HPi.out _ hq).mono ?_); rintro e w9 ⟨a9, rfl, hl9, hb9⟩; have HL9 := Lib.hid hl9; have b9 := hq.step hb9; clear hb9 hl9 hq)
    | (go_at_call 9; have hq := b9; (with_reducible refine (HDc.out _ _ HL9.out).mono ?_); rintro e w10 ⟨rfl, hb10⟩; have b10 := hq.step hb10; clear hb10 hq)
    | (go_at_call 17; have hq := b10; refine (alive_any _).mono ?_; rintro e w11 ⟨rfl, hb11⟩; have b11 := hq.step hb11; clear hb11 hq))
  go_ret
  exact ⟨rfl, b11⟩

set_option maxHeartbeats 2000000 in
set_option maxRecDepth 100000 in
theorem sizes_2 (ad : Addr) (n c : Nat) (L : List Nd) (i s : Nat) (k xn xa xb xp d dp : Int) (w : World) (hn : L.length = n) (hnc : n ≤ c) (h6 : n ≤ 60) (ht : Lies w (some ad) (ndCells L)) (hv : checkF L = 0) (hi : i < n) (hs : sizF L i = s) (hsn : sizF L (n - 1) = n) (hw : cutF L (n - 1) = L) (hd : depF L = d) (hd1 : 1 ≤ d) (hd2 : d ≤ n) (hok : okK k = true) (hck : cnt k = 2)
    (hcl : (cutF L i).length = s) (hcc : checkF (cutF L i) = 0) (hcd : depF (cutF L i) = dp) (hdd : dp ≤ d) (i1 s1 i2 s2 : Nat) (hi1 : i1 < n) (hs1 : sizF L i1 = s1) (hl1 : s1 ≤ 60) (hi2 : i2 < n) (hs2 : sizF L i2 = s2) (hl2 : s2 ≤ 60) (h0 : s = 1 + s1 + s2) (hat : ∀ w1, Bl w w1 → NdAt w1 ad i ⟨k, xn, (i1 : Nat), (i2 : Nat), xp⟩) :
    Calls Try.prog 6 #[.slice (some ad) n c, .int .i64 i] w fun e w' => e = .returned (.bool true) ∧ Below w.heap.size w w' := by
  have HG := Lib.hid (great_any (some ad) n c w false (decide_eq_false (by omega)))
  have HC := Lib.hid (rcheck_any (some ad) c n L w hn (by unfold maxLen; omega) ht 0 hv)
  have HSi := Lib.hid (fun w1 (hb : Bl w w1) => size_ok (some ad) c n L i s w1 (hb.lies ht) hv hn hi hs)
  have HSn := Lib.hid (fun (z : Int) w1 (hz : z = (n : Int) - 1) (hb : Bl w w1) => show Calls Try.prog 10 #[.slice (some ad) n c, .int .i64 z] w1 fun e w' => e = .returned (.tuple #[.int .i64 n, .int .i64 0]) ∧ Below w1.heap.size w1 w' by
    rw [hz, show (n : Int) - 1 = ((n - 1 : Nat) : Int) by omega]; exact size_ok (some ad) c n L (n - 1) n w1 (hb.lies ht) hv hn (by omega) hsn)
  have HPn := Lib.hid (fun (z : Int) w1 (hz : z = (n : Int) - 1) (hb : Bl w w1) => show Calls Try.prog 11 #[.slice (some ad) n c, .int .i64 z] w1 (POk w1 L n) by
    rw [hz, show (n : Int) - 1 = ((n - 1 : Nat) : Int) by omega]; have := part_ok (some ad) c n L (n - 1) n w1 (hb.lies ht) hv hn hnc (by omega) hsn; rwa [hw] at this)
  have HPi := Lib.hid (fun w1 (hb : Bl w w1) => part_ok (some ad) c n L i s w1 (hb.lies ht) hv hn hnc hi hs)
  have HD := Lib.hid (fun w1 (hb : Bl w w1) => depth_ok (some ad) c n L w1 (hb.lies ht) hv hn d hd)
  have HDc := Lib.hid (fun a2 w1 (hl : Lies w1 (some a2) (ndCells (cutF L i))) => depth_ok (some a2) s s (cutF L i) w1 hl hcc hcl dp hcd)
  have HE := Lib.hid (fun a2 w1 (hb : Bl w w1) (hl : Lies w1 (some a2) (ndCells L)) => requal_any (some a2) (some ad) n n n c L L w1 hn hn (by omega) (by omega) hl (hb.lies ht) true (by simp))
  have HK := Lib.hid (fun w => show Calls Try.prog 16 #[.int .u8 k] w fun e w' => e = .returned (.tuple #[.int .i64 2, .int .i64 0]) ∧ w = w' by have := parts_any k w; rwa [show partsN k = 2 from partsN_of hok hck, show partsE k = 0 by simp [partsE, hok]] at this)
  have S1 := Lib.hid (fun w1 (hb : Bl w w1) => size_ok (some ad) c n L i1 s1 w1 (hb.lies ht) hv hn hi1 hs1)
  have S2 := Lib.hid (fun w1 (hb : Bl w w1) => size_ok (some ad) c n L i2 s2 w1 (hb.lies ht) hv hn hi2 hs2)
  have HA := Lib.hid hat
  have j1 : (n : Int) - 1 < n := by omega
  have e1 : ((n : Int) != n) = false := by simp
  have e2 : ((s : Int) == s) = true := by simp
  have j2 : (0 : Int) ≤ i := by omega
  have j3 : (i : Int) < n := by omega
  have e3 : (1 + (s1 : Int) + (s2 : Int) == s) = true := by simp; omega
  clear hn ht hv hi hs hsn hw hd hok hck hcl hcc hcd hat h0 hi1 hs1 hi2 hs2
  go_enter Try.func6, Try.ntmps6
  go_wp2_with (first
    | (go_at_call 18; refine HG.out.mono ?_; rintro e w1 ⟨rfl, rfl⟩)
    | (go_at_call 23; refine HC.out.mono ?_; rintro e w1 ⟨rfl, hb1⟩; have b1 := (Bl.start w).step hb1; clear hb1)
    | (go_at_call 10; have hq := b1; (with_reducible refine (HSi.out _ hq).mono ?_); rintro e w2 ⟨rfl, hb2⟩; have b2 := hq.step hb2; clear hb2 hq b1; obtain ⟨c0, c1, c2, c3, c4⟩ := HA.out _ b2)
    | (go_at_call 16; refine (HK.out _).mono ?_; rintro e w' ⟨rfl, rfl⟩)
    | (go_at_call 10; have hq := b2; refine (HSn.out _ _ (by omega) hq).mono ?_; rintro e w3 ⟨rfl, hb3⟩; have b3 := hq.step hb3; clear hb3 hq b2 c0 c1 c2 c3 c4)
    | (go_at_call 9; have hq := b3; refine (HD.out _ hq).mono ?_; rintro e w4 ⟨rfl, hb4⟩; have b4 := hq.step hb4; clear hb4 hq b3)
    | (go_at_call 11; have hq := b4; refine (HPn.out _ _ (by omega) hq).mono ?_; rintro e w5 ⟨a5, rfl, hl5, hb5⟩; have HL5 := Lib.hid hl5; have b5 := hq.step hb5; clear hb5 hl5 hq b4)
    | (go_at_call 24; have hq := b5; refine (HE.out _ _ hq HL5.out).mono ?_; rintro e w6 ⟨rfl, hb6⟩; have b6 := hq.step hb6; clear hb6 hq b5 HL5; obtain ⟨c0, c1, c2, c3, c4⟩ := HA.out _ b6)
    | (go_at_call 10; have hq := b6; (with_reducible refine (S1.out _ hq).mono ?_); rintro e w7 ⟨rfl, hb7⟩; have b7 := hq.step hb7; clear hb7 hq b6 c0 c1 c2 c3 c4; obtain ⟨c0, c1, c2, c3, c4⟩ := HA.out _ b7)
    | (go_at_call 10; have hq := b7; (with_reducible refine (S2.out _ hq).mono ?_); rintro e w8 ⟨rfl, hb8⟩; have b8 := hq.step hb8; clear hb8 hq b7)
    | (go_at_call 11; have hq := b8; (with_reducible refine (HPi.out _ hq).mono ?_); rintro e w9 ⟨a9, rfl, hl9, hb9⟩; have HL9 := Lib.hid hl9; have b9 := hq.step hb9; clear hb9 hl9 hq)
    | (go_at_call 9; have hq := b9; (with_reducible refine (HDc.out _ _ HL9.out).mono ?_); rintro e w10 ⟨rfl, hb10⟩; have b10 := hq.step hb10; clear hb10 hq)
    | (go_at_call 17; have hq := b10; refine (alive_any _).mono ?_; rintro e w11 ⟨rfl, hb11⟩; have b11 := hq.step hb11; clear hb11 hq))
  go_ret
  exact ⟨rfl, b11⟩
end Go.Proofs.Ytakpbpabblgobaa
