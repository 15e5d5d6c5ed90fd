/- The walk of NodesSame. -/
import Derived.Test.YtakpbpabblgobaaNLSizes
import Derived.Test.YtakpbpabblgobaaNOpen
import Derived.Test.YtakpbpabblgobaaNMath3
namespace Go.Proofs.Ytakpbpabblgobaa
open Go.ChangeShapes Go.WideShapes Go.ChangeAt Go.RowKit
set_option linter.unusedVariables false
set_option linter.unusedSimpArgs false

theorem Bl.setCell {w W : World} (h : Bl w W) {g j : Nat} (hg : w.heap.size ≤ g) (v : Value) : Bl w (W.setCell ⟨g, j, none⟩ v) := Below.setCell h (p := ⟨g, j, none⟩) hg v

set_option maxRecDepth 100000 in
theorem same_g1 (A A2 : Option Addr) (n n2 c c2 : Nat) (L M : List Nd) (at_ : Int) (w : World) (h : 70 < n) :
    Calls Try.prog 7 #[.slice A n c, .slice A2 n2 c2, .int .i64 at_] w fun e w' => e = .returned (.bool true) ∧ Below w.heap.size w w' := by
  have HG1 := Lib.hid (great_any A n c w true (decide_eq_true h))
  clear h
  go_enter Try.func7, Try.ntmps7
  go_wp2_with (first
    | (go_at_call 18; ((with_reducible refine HG1.out.mono ?_)); rintro e wx ⟨rfl, rfl⟩)
    | (go_at_call 18; ((with_reducible refine HG2.out.mono ?_)); rintro e wx ⟨rfl, rfl⟩)
    | (go_at_call 23; ((with_reducible refine HC1.out.mono ?_)); rintro e w1 ⟨rfl, hb1⟩; have b1 := (Bl.start w).step hb1; clear hb1)
    | (go_at_call 23; have hq := b1; ((with_reducible refine (HC2.out _ hq).mono ?_)); rintro e w2 ⟨rfl, hb2⟩; have b2 := hq.step hb2; clear hb2 hq)
    | (go_at_call 17; refine (alive_any _).mono ?_; rintro e w3 ⟨rfl, hb⟩))
  go_ret
  exact ⟨rfl, (show Bl w _ by first | exact b2 | exact b1 | exact Bl.start w).step hb⟩

set_option maxRecDepth 100000 in
theorem same_g2 (A A2 : Option Addr) (n n2 c c2 : Nat) (L M : List Nd) (at_ : Int) (w : World) (h1 : ¬ 70 < n) (h : 70 < n2) :
    Calls Try.prog 7 #[.slice A n c, .slice A2 n2 c2, .int .i64 at_] w fun e w' => e = .returned (.bool true) ∧ Below w.heap.size w w' := by
  have HG1 := Lib.hid (great_any A n c w false (decide_eq_false h1))
  have HG2 := Lib.hid (great_any A2 n2 c2 w true (decide_eq_true h))
  clear h h1
  go_enter Try.func7, Try.ntmps7
  go_wp2_with (first
    | (go_at_call 18; ((with_reducible refine HG1.out.mono ?_)); rintro e wx ⟨rfl, rfl⟩)
    | (go_at_call 18; ((with_reducible refine HG2.out.mono ?_)); rintro e wx ⟨rfl, rfl⟩)
    | (go_at_call 23; ((with_reducible refine HC1.out.mono ?_)); rintro e w1 ⟨rfl, hb1⟩; have b1 := (Bl.start w).step hb1; clear hb1)
    | (go_at_call 23; have hq := b1; ((with_reducible refine (HC2.out _ hq).mono ?_)); rintro e w2 ⟨rfl, hb2⟩; have b2 := hq.step hb2; clear hb2 hq)
    | (go_at_call 17; refine (alive_any _).mono ?_; rintro e w3 ⟨rfl, hb⟩))
  go_ret
  exact ⟨rfl, (show Bl w _ by first | exact b2 | exact b1 | exact Bl.start w).step hb⟩

set_option maxRecDepth 100000 in
theorem same_b1 (A A2 : Option Addr) (n n2 c c2 : Nat) (L M : List Nd) (at_ : Int) (w : World) (hn : L.length = n) (h7 : n ≤ 70) (h72 : n2 ≤ 70) (ht : Lies w A (ndCells L)) (h : checkF L ≠ 0) :
    Calls Try.prog 7 #[.slice A n c, .slice A2 n2 c2, .int .i64 at_] w fun e w' => e = .returned (.bool true) ∧ Below w.heap.size w w' := by
  have HG1 := Lib.hid (great_any A n c w false (decide_eq_false (by omega)))
  have HG2 := Lib.hid (great_any A2 n2 c2 w false (decide_eq_false (by omega)))
  obtain ⟨v, hv⟩ : ∃ v, checkF L = v := ⟨_, rfl⟩
  rw [hv] at h
  have hne := (bne_iff_ne (a := v) (b := 0)).2 h
  have HC1 := Lib.hid (rcheck_any A c n L w hn (by unfold maxLen; omega) ht v hv)
  clear h hv hn ht h7 h72
  go_enter Try.func7, Try.ntmps7
  go_wp2_with (first
    | (go_at_call 18; ((with_reducible refine HG1.out.mono ?_)); rintro e wx ⟨rfl, rfl⟩)
    | (go_at_call 18; ((with_reducible refine HG2.out.mono ?_)); rintro e wx ⟨rfl, rfl⟩)
    | (go_at_call 23; ((with_reducible refine HC1.out.mono ?_)); rintro e w1 ⟨rfl, hb1⟩; have b1 := (Bl.start w).step hb1; clear hb1)
    | (go_at_call 23; have hq := b1; ((with_reducible refine (HC2.out _ hq).mono ?_)); rintro e w2 ⟨rfl, hb2⟩; have b2 := hq.step hb2; clear hb2 hq)
    | (go_at_call 17; refine (alive_any _).mono ?_; rintro e w3 ⟨rfl, hb⟩))
  go_ret
  exact ⟨rfl, (show Bl w _ by first | exact b2 | exact b1 | exact Bl.start w).step hb⟩

set_option maxRecDepth 100000 in
theorem same_b2 (A A2 : Option Addr) (n n2 c c2 : Nat) (L M : List Nd) (at_ : Int) (w : World) (hn : L.length = n) (h7 : n ≤ 70) (h72 : n2 ≤ 70) (ht : Lies w A (ndCells L)) (hv : checkF L = 0) (hn2 : M.length = n2) (ht2 : Lies w A2 (ndCells M)) (h : checkF M ≠ 0) :
    Calls Try.prog 7 #[.slice A n c, .slice A2 n2 c2, .int .i64 at_] w fun e w' => e = .returned (.bool true) ∧ Below w.heap.size w w' := by
  have HG1 := Lib.hid (great_any A n c w false (decide_eq_false (by omega)))
  have HG2 := Lib.hid (great_any A2 n2 c2 w false (decide_eq_false (by omega)))
  have HC1 := Lib.hid (rcheck_any A c n L w hn (by unfold maxLen; omega) ht 0 hv)
  obtain ⟨v, hv2⟩ : ∃ v, checkF M = v := ⟨_, rfl⟩
  rw [hv2] at h
  have hne := (bne_iff_ne (a := v) (b := 0)).2 h
  have HC2 := Lib.hid (fun w1 (hb : Bl w w1) => rcheck_any A2 c2 n2 M w1 hn2 (by unfold maxLen; omega) (hb.lies ht2) v hv2)
  clear h hv hv2 hn hn2 ht ht2 h7 h72
  go_enter Try.func7, Try.ntmps7
  go_wp2_with (first
    | (go_at_call 18; ((with_reducible refine HG1.out.mono ?_)); rintro e wx ⟨rfl, rfl⟩)
    | (go_at_call 18; ((with_reducible refine HG2.out.mono ?_)); rintro e wx ⟨rfl, rfl⟩)
    | (go_at_call 23; ((with_reducible refine HC1.out.mono ?_)); rintro e w1 ⟨rfl, hb1⟩; have b1 := (Bl.start w).step hb1; clear hb1)
    | (go_at_call 23; have hq := b1; ((with_reducible refine (HC2.out _ hq).mono ?_)); rintro e w2 ⟨rfl, hb2⟩; have b2 := hq.step hb2; clear hb2 hq)
    | (go_at_call 17; refine (alive_any _).mono ?_; rintro e w3 ⟨rfl, hb⟩))
  go_ret
  exact ⟨rfl, (show Bl w _ by first | exact b2 | exact b1 | exact Bl.start w).step hb⟩

set_option maxRecDepth 100000 in
theorem same_at (A A2 : Option Addr) (n n2 c c2 : Nat) (L M : List Nd) (at_ : Int) (w : World) (hn : L.length = n) (h7 : n ≤ 70) (h72 : n2 ≤ 70) (ht : Lies w A (ndCells L)) (hv : checkF L = 0) (hn2 : M.length = n2) (ht2 : Lies w A2 (ndCells M)) (hv2 : checkF M = 0) (ha : at_ < 0 ∨ 400 < at_) :
    Calls Try.prog 7 #[.slice A n c, .slice A2 n2 c2, .int .i64 at_] w fun e w' => e = .returned (.bool true) ∧ Below w.heap.size w w' := by
  have HG1 := Lib.hid (great_any A n c w false (decide_eq_false (by omega)))
  have HG2 := Lib.hid (great_any A2 n2 c2 w false (decide_eq_false (by omega)))
  have HC1 := Lib.hid (rcheck_any A c n L w hn (by unfold maxLen; omega) ht 0 hv)
  have HC2 := Lib.hid (fun w1 (hb : Bl w w1) => rcheck_any A2 c2 n2 M w1 hn2 (by unfold maxLen; omega) (hb.lies ht2) 0 hv2)
  clear hv hv2 hn hn2 ht ht2 h7 h72
  rcases ha with ha | ha
  · have h400 : ¬ 400 < at_ := by omega
    go_enter Try.func7, Try.ntmps7
    go_wp2_with (first
      | (go_at_call 18; ((with_reducible refine HG1.out.mono ?_)); rintro e wx ⟨rfl, rfl⟩)
      | (go_at_call 18; ((with_reducible refine HG2.out.mono ?_)); rintro e wx ⟨rfl, rfl⟩)
      | (go_at_call 23; ((with_reducible refine HC1.out.mono ?_)); rintro e w1 ⟨rfl, hb1⟩; have b1 := (Bl.start w).step hb1; clear hb1)
      | (go_at_call 23; have hq := b1; ((with_reducible refine (HC2.out _ hq).mono ?_)); rintro e w2 ⟨rfl, hb2⟩; have b2 := hq.step hb2; clear hb2 hq)
      | (go_at_call 17; refine (alive_any _).mono ?_; rintro e w3 ⟨rfl, hb⟩))
    go_ret
    exact ⟨rfl, (show Bl w _ by first | exact b2 | exact b1 | exact Bl.start w).step hb⟩
  · have h400 : ¬ at_ < 0 := by omega
    go_enter Try.func7, Try.ntmps7
    go_wp2_with (first
      | (go_at_call 18; ((with_reducible refine HG1.out.mono ?_)); rintro e wx ⟨rfl, rfl⟩)
      | (go_at_call 18; ((with_reducible refine HG2.out.mono ?_)); rintro e wx ⟨rfl, rfl⟩)
      | (go_at_call 23; ((with_reducible refine HC1.out.mono ?_)); rintro e w1 ⟨rfl, hb1⟩; have b1 := (Bl.start w).step hb1; clear hb1)
      | (go_at_call 23; have hq := b1; ((with_reducible refine (HC2.out _ hq).mono ?_)); rintro e w2 ⟨rfl, hb2⟩; have b2 := hq.step hb2; clear hb2 hq)
      | (go_at_call 17; refine (alive_any _).mono ?_; rintro e w3 ⟨rfl, hb⟩))
    go_ret
    exact ⟨rfl, (show Bl w _ by first | exact b2 | exact b1 | exact Bl.start w).step hb⟩

set_option maxHeartbeats 4000000 in
set_option maxRecDepth 100000 in
theorem same_main_true (ad : Addr) (A2 : Option Addr) (n n2 c c2 : Nat) (L M : List Nd) (at_ : Int) (w : World) (hn : L.length = n) (hn2 : M.length = n2) (ht : Lies w (some ad) (ndCells L)) (ht2 : Lies w A2 (ndCells M)) (hv : checkF L = 0) (hv2 : checkF M = 0) (ha : 0 ≤ at_) (ha2 : at_ ≤ 400) (h6 : n ≤ 60) (h62 : n2 ≤ 60) (h0 : 1 ≤ n) (hs : sameF L M = true) (d d2 : Int) (hd : depF L = d) (hd2 : depF M = d2) (he : d = d2) (hnn : n = n2) :
    Calls Try.prog 7 #[.slice (some ad) n c, .slice A2 n2 c2, .int .i64 at_] w fun e w' => e = .returned (.bool true) ∧ Below w.heap.size w w' := by
  have HG1 := Lib.hid (great_any (some ad) n c w false (decide_eq_false (by omega)))
  have HG2 := Lib.hid (great_any A2 n2 c2 w false (decide_eq_false (by omega)))
  have HC1 := Lib.hid (rcheck_any (some ad) c n L w hn (by unfold maxLen; omega) ht 0 hv)
  have HC2 := Lib.hid (fun w1 (hb : Bl w w1) => rcheck_any A2 c2 n2 M w1 hn2 (by unfold maxLen; omega) (hb.lies ht2) 0 hv2)
  have HS1 := Lib.hid (fun w1 (hb : Bl w w1) => same_ok (some ad) A2 n n2 c c2 L M w1 hn hn2 (hb.lies ht) (hb.lies ht2) hv hv2 true hs)
  have HS2 := Lib.hid (fun w1 (hb : Bl w w1) => same_ok A2 (some ad) n2 n c2 c M L w1 hn2 hn (hb.lies ht2) (hb.lies ht) hv2 hv true ((same_comm L M).trans hs))
  have hvm : checkF (L.map (setp at_)) = 0 := by
    obtain ⟨E, hg⟩ := checkF_zero hv
    exact checkF_ok (good_setp ha ha2 hg)
  have HS3 := Lib.hid (fun A3 c3 w1 (hb : Bl w w1) (hl : Lies w1 A3 (ndCells (L.map (setp at_)))) => same_ok (some ad) A3 n n c c3 L (L.map (setp at_)) w1 hn (by rw [List.length_map, hn]) (hb.lies ht) hl hv hvm true (same_setp _ _))
  have HD1 := Lib.hid (fun w1 (hb : Bl w w1) => depth_ok (some ad) c n L w1 (hb.lies ht) hv hn d hd)
  have HD2 := Lib.hid (fun w1 (hb : Bl w w1) => depth_ok A2 c2 n2 M w1 (hb.lies ht2) hv2 hn2 d2 hd2)
  have HE := Lib.hid (fun w1 (hb : Bl w w1) => requal_any (some ad) A2 n n2 c c2 L M w1 hn hn2 (by omega) (by omega) (hb.lies ht) (hb.lies ht2) (decide (L = M)) rfl)
  have HT := Lib.hid ht
  have HN := Lib.hid hn
  have HN5 := Lib.hid (show (ndCells L).length = n * 5 by rw [ndCells_length, hn])
  subst he hnn
  have e1 : (d == d) = true := by simp
  have e2 : ((n : Int) == n) = true := by simp
  clear hs
  obtain ⟨i0, hi, hz0, hz1, hz2⟩ := info_parts nd_info
  clear hn hn2 ht ht2 hv hv2 hvm hd hd2
  go_enter Try.func7, Try.ntmps7
  go_wp2_with (first
    | (go_at_call 18; ((with_reducible refine HG1.out.mono ?_)); rintro e wx ⟨rfl, rfl⟩)
    | (go_at_call 18; ((with_reducible refine HG2.out.mono ?_)); rintro e wx ⟨rfl, rfl⟩)
    | (go_at_call 23; ((with_reducible refine HC1.out.mono ?_)); rintro e w1 ⟨rfl, hb1⟩; have b1 := (Bl.start w).step hb1; clear hb1)
    | (go_at_call 23; have hq := b1; ((with_reducible refine (HC2.out _ hq).mono ?_)); rintro e w2 ⟨rfl, hb2⟩; have b2 := hq.step hb2; clear hb2 hq b1)
    | (go_at_call 12; have hq := b2; ((with_reducible refine (HS1.out _ hq).mono ?_)); rintro e w3 ⟨rfl, hb3⟩; have b3 := hq.step hb3; clear hb3 hq b2)
    | (go_at_call 12; have hq := b3; ((with_reducible refine (HS2.out _ hq).mono ?_)); rintro e w4 ⟨rfl, hb4⟩; have b4 := hq.step hb4; have HT4 := Lib.hid (b4.lies HT.out); clear hb4 hq b3)
    | (at_builtin; refine wpList_append_lies _ rfl (.tmp 56) (.tmp 57) 24 rfl w.heap.size 23 i0 _ 5 40 Try.underlying24 hi hz0 hz1 hz2 rfl (by decide) (.slice (some ⟨w4.heap.size, 0, none⟩) 0 0) 0 [] rfl (World.ownsRow_lit (base := w.heap.size) (e := 23) (size := 5) w4 #[] 0 (Bl.size b4) (Nat.zero_le _) rfl) ad n c (ndCells L) rfl ?c1 ?c2 ?c3 ?c4 ?c5 ?c6 ?c7 _ rfl ?_))
  case c1 => exact HN5.out
  case c2 => exact (HT4.out.alloc _).cells
  case c3 => exact nd_one _
  case c4 => omega
  case c5 => unfold maxLen; omega
  case c6 => omega
  case c7 => have := Bl.size b4; simp; omega
  intro g cap w5 ho hg _ _
  have HO5 := Lib.hid (show w5.ownsRow w.heap.size 23 5 (.slice (some ⟨g, 0, none⟩) n cap) n (ndCells (mk L at_ 0)) by rw [mk_zero]; simpa using ho)
  have HB5 := Lib.hid (show Bl w w5 from (Below.alloc b4 (Bl.size b4) _).grown hg (by have := Bl.size b4; simp; omega) (by intro j hj; injection hj with hj; change w4.heap.size = j at hj; have := Bl.size b4; omega))
  have hgw := (HO5.out.lt g rfl).1
  clear ho hg b4
  go_wp2
  go_loopw [12] (fun iv wr => ∃ k : Nat, iv = .int .i64 k ∧ k ≤ n ∧ wr.ownsRow w.heap.size 23 5 (.slice (some ⟨g, 0, none⟩) n cap) n (ndCells (mk L at_ k)) ∧ Bl w wr) (fun iv _ => n - (intOf iv).toNat)
  case atStart => exact ⟨0, rfl, Nat.zero_le _, HO5.out, HB5.out⟩
  case round =>
    obtain ⟨k, rfl, hk, hown, hb⟩ := hrel
    have HO := Lib.hid hown
    have HB := Lib.hid hb
    clear hown hb HO5 HB5
    by_cases hlt : k < n
    · obtain ⟨y, hy⟩ : ∃ y, L[k]? = some y := ⟨_, List.getElem?_eq_getElem (by rw [HN.out]; exact hlt)⟩
      have HY := Lib.hid hy
      clear hy
      obtain ⟨⟨v0, v1, v2, v3, v4, d0, d1, d2', d3, d4⟩, f0, f1, f2, f3, f4⟩ := own_five HO.out k hlt
      clear d0 d1 d2' d3 f0 f1 f2 f3
      go_wp2
      go_roundw
      case rel =>
        refine ⟨k + 1, by go_num, by omega, ?_, HB.out.setCell hgw _⟩
        have h1 := mk_at L at_ HY.out
        rw [← h1.2, ← nd_set _ k 4 y (setp at_ y) (.int .i64 at_) h1.1 (by decide) rfl]
        exact (HO.out.stored (k * 5 + 4) _).1
      case measure => simp [intOf]; omega
    · obtain rfl : k = n := by omega
      have HL := Lib.hid (show Lies wr (some ⟨g, 0, none⟩) (ndCells (L.map (setp at_))) by
        have := HO.out
        rw [mk_all L at_ (by rw [HN.out]; exact Nat.le_refl _)] at this
        exact Lies.of_own this (by intro h; omega))
      have b5 := HB.out
      go_wp2_with (first
        | (go_at_call 12; have hq := b5; ((with_reducible refine (HS3.out _ _ _ hq HL.out).mono ?_)); rintro e w6 ⟨rfl, hb6⟩; have b6 := hq.step hb6; clear hb6 hq b5)
        | (go_at_call 9; have hq := b6; ((with_reducible refine (HD1.out _ hq).mono ?_)); rintro e w7 ⟨rfl, hb7⟩; have b7 := hq.step hb7; clear hb7 hq b6)
        | (go_at_call 9; have hq := b7; ((with_reducible refine (HD2.out _ hq).mono ?_)); rintro e w8 ⟨rfl, hb8⟩; have b8 := hq.step hb8; clear hb8 hq b7)
        | (go_at_call 24; have hq := b8; ((with_reducible refine (HE.out _ hq).mono ?_)); rintro e w9 ⟨rfl, hb9⟩; have b9 := hq.step hb9; clear hb9 hq b8)
        | (go_at_call 17; have hq := b8; refine (alive_any _).mono ?_; rintro e w10 ⟨rfl, hb10⟩; have b10 := hq.step hb10; clear hb10 hq))
      go_ret
      exact ⟨rfl, b10⟩

set_option maxHeartbeats 4000000 in
set_option maxRecDepth 100000 in
theorem same_main_false (ad : Addr) (A2 : Option Addr) (n n2 c c2 : Nat) (L M : List Nd) (at_ : Int) (w : World) (hn : L.length = n) (hn2 : M.length = n2) (ht : Lies w (some ad) (ndCells L)) (ht2 : Lies w A2 (ndCells M)) (hv : checkF L = 0) (hv2 : checkF M = 0) (ha : 0 ≤ at_) (ha2 : at_ ≤ 400) (h6 : n ≤ 60) (h62 : n2 ≤ 60) (h0 : 1 ≤ n) (hs : sameF L M = false) (d d2 : Int) (hd : depF L = d) (hd2 : depF M = d2) :
    Calls Try.prog 7 #[.slice (some ad) n c, .slice A2 n2 c2, .int .i64 at_] w fun e w' => e = .returned (.bool true) ∧ Below w.heap.size w w' := by
  have HG1 := Lib.hid (great_any (some ad) n c w false (decide_eq_false (by omega)))
  have HG2 := Lib.hid (great_any A2 n2 c2 w false (decide_eq_false (by omega)))
  have HC1 := Lib.hid (rcheck_any (some ad) c n L w hn (by unfold maxLen; omega) ht 0 hv)
  have HC2 := Lib.hid (fun w1 (hb : Bl w w1) => rcheck_any A2 c2 n2 M w1 hn2 (by unfold maxLen; omega) (hb.lies ht2) 0 hv2)
  have HS1 := Lib.hid (fun w1 (hb : Bl w w1) => same_ok (some ad) A2 n n2 c c2 L M w1 hn hn2 (hb.lies ht) (hb.lies ht2) hv hv2 false hs)
  have HS2 := Lib.hid (fun w1 (hb : Bl w w1) => same_ok A2 (some ad) n2 n c2 c M L w1 hn2 hn (hb.lies ht2) (hb.lies ht) hv2 hv false ((same_comm L M).trans hs))
  have hvm : checkF (L.map (setp at_)) = 0 := by
    obtain ⟨E, hg⟩ := checkF_zero hv
    exact checkF_ok (good_setp ha ha2 hg)
  have HS3 := Lib.hid (fun A3 c3 w1 (hb : Bl w w1) (hl : Lies w1 A3 (ndCells (L.map (setp at_)))) => same_ok (some ad) A3 n n c c3 L (L.map (setp at_)) w1 hn (by rw [List.length_map, hn]) (hb.lies ht) hl hv hvm true (same_setp _ _))
  have HD1 := Lib.hid (fun w1 (hb : Bl w w1) => depth_ok (some ad) c n L w1 (hb.lies ht) hv hn d hd)
  have HD2 := Lib.hid (fun w1 (hb : Bl w w1) => depth_ok A2 c2 n2 M w1 (hb.lies ht2) hv2 hn2 d2 hd2)
  have HE := Lib.hid (fun w1 (hb : Bl w w1) => requal_any (some ad) A2 n n2 c c2 L M w1 hn hn2 (by omega) (by omega) (hb.lies ht) (hb.lies ht2) (decide (L = M)) rfl)
  have HT := Lib.hid ht
  have HN := Lib.hid hn
  have HN5 := Lib.hid (show (ndCells L).length = n * 5 by rw [ndCells_length, hn])
  rw [eq_same hs] at HE
  clear hs
  obtain ⟨i0, hi, hz0, hz1, hz2⟩ := info_parts nd_info
  clear hn hn2 ht ht2 hv hv2 hvm hd hd2
  go_enter Try.func7, Try.ntmps7
  go_wp2_with (first
    | (go_at_call 18; ((with_reducible refine HG1.out.mono ?_)); rintro e wx ⟨rfl, rfl⟩)
    | (go_at_call 18; ((with_reducible refine HG2.out.mono ?_)); rintro e wx ⟨rfl, rfl⟩)
    | (go_at_call 23; ((with_reducible refine HC1.out.mono ?_)); rintro e w1 ⟨rfl, hb1⟩; have b1 := (Bl.start w).step hb1; clear hb1)
    | (go_at_call 23; have hq := b1; ((with_reducible refine (HC2.out _ hq).mono ?_)); rintro e w2 ⟨rfl, hb2⟩; have b2 := hq.step hb2; clear hb2 hq b1)
    | (go_at_call 12; have hq := b2; ((with_reducible refine (HS1.out _ hq).mono ?_)); rintro e w3 ⟨rfl, hb3⟩; have b3 := hq.step hb3; clear hb3 hq b2)
    | (go_at_call 12; have hq := b3; ((with_reducible refine (HS2.out _ hq).mono ?_)); rintro e w4 ⟨rfl, hb4⟩; have b4 := hq.step hb4; have HT4 := Lib.hid (b4.lies HT.out); clear hb4 hq b3)
    | (at_builtin; refine wpList_append_lies _ rfl (.tmp 56) (.tmp 57) 24 rfl w.heap.size 23 i0 _ 5 40 Try.underlying24 hi hz0 hz1 hz2 rfl (by decide) (.slice (some ⟨w4.heap.size, 0, none⟩) 0 0) 0 [] rfl (World.ownsRow_lit (base := w.heap.size) (e := 23) (size := 5) w4 #[] 0 (Bl.size b4) (Nat.zero_le _) rfl) ad n c (ndCells L) rfl ?c1 ?c2 ?c3 ?c4 ?c5 ?c6 ?c7 _ rfl ?_))
  case c1 => exact HN5.out
  case c2 => exact (HT4.out.alloc _).cells
  case c3 => exact nd_one _
  case c4 => omega
  case c5 => unfold maxLen; omega
  case c6 => omega
  case c7 => have := Bl.size b4; simp; omega
  intro g cap w5 ho hg _ _
  have HO5 := Lib.hid (show w5.ownsRow w.heap.size 23 5 (.slice (some ⟨g, 0, none⟩) n cap) n (ndCells (mk L at_ 0)) by rw [mk_zero]; simpa using ho)
  have HB5 := Lib.hid (show Bl w w5 from (Below.alloc b4 (Bl.size b4) _).grown hg (by have := Bl.size b4; simp; omega) (by intro j hj; injection hj with hj; change w4.heap.size = j at hj; have := Bl.size b4; omega))
  have hgw := (HO5.out.lt g rfl).1
  clear ho hg b4
  go_wp2
  go_loopw [12] (fun iv wr => ∃ k : Nat, iv = .int .i64 k ∧ k ≤ n ∧ wr.ownsRow w.heap.size 23 5 (.slice (some ⟨g, 0, none⟩) n cap) n (ndCells (mk L at_ k)) ∧ Bl w wr) (fun iv _ => n - (intOf iv).toNat)
  case atStart => exact ⟨0, rfl, Nat.zero_le _, HO5.out, HB5.out⟩
  case round =>
    obtain ⟨k, rfl, hk, hown, hb⟩ := hrel
    have HO := Lib.hid hown
    have HB := Lib.hid hb
    clear hown hb HO5 HB5
    by_cases hlt : k < n
    · obtain ⟨y, hy⟩ : ∃ y, L[k]? = some y := ⟨_, List.getElem?_eq_getElem (by rw [HN.out]; exact hlt)⟩
      have HY := Lib.hid hy
      clear hy
      obtain ⟨⟨v0, v1, v2, v3, v4, d0, d1, d2', d3, d4⟩, f0, f1, f2, f3, f4⟩ := own_five HO.out k hlt
      clear d0 d1 d2' d3 f0 f1 f2 f3
      go_wp2
      go_roundw
      case rel =>
        refine ⟨k + 1, by go_num, by omega, ?_, HB.out.setCell hgw _⟩
        have h1 := mk_at L at_ HY.out
        rw [← h1.2, ← nd_set _ k 4 y (setp at_ y) (.int .i64 at_) h1.1 (by decide) rfl]
        exact (HO.out.stored (k * 5 + 4) _).1
      case measure => simp [intOf]; omega
    · obtain rfl : k = n := by omega
      have HL := Lib.hid (show Lies wr (some ⟨g, 0, none⟩) (ndCells (L.map (setp at_))) by
        have := HO.out
        rw [mk_all L at_ (by rw [HN.out]; exact Nat.le_refl _)] at this
        exact Lies.of_own this (by intro h; omega))
      have b5 := HB.out
      go_wp2_with (first
        | (go_at_call 12; have hq := b5; ((with_reducible refine (HS3.out _ _ _ hq HL.out).mono ?_)); rintro e w6 ⟨rfl, hb6⟩; have b6 := hq.step hb6; clear hb6 hq b5)
        | (go_at_call 9; have hq := b6; ((with_reducible refine (HD1.out _ hq).mono ?_)); rintro e w7 ⟨rfl, hb7⟩; have b7 := hq.step hb7; clear hb7 hq b6)
        | (go_at_call 9; have hq := b7; ((with_reducible refine (HD2.out _ hq).mono ?_)); rintro e w8 ⟨rfl, hb8⟩; have b8 := hq.step hb8; clear hb8 hq b7)
        | (go_at_call 24; have hq := b8; ((with_reducible refine (HE.out _ hq).mono ?_)); rintro e w9 ⟨rfl, hb9⟩; have b9 := hq.step hb9; clear hb9 hq b8)
        | (go_at_call 17; have hq := b9; refine (alive_any _).mono ?_; rintro e w10 ⟨rfl, hb10⟩; have b10 := hq.step hb10; clear hb10 hq))
      go_ret
      exact ⟨rfl, b10⟩

theorem NodesSame_walk (A : Option Addr) (c : Nat) (L : List Nd) (A2 : Option Addr) (c2 : Nat) (M : List Nd) (at_ : Int) (w : World) (hL : L.length ≤ maxLen) (ht : Lies w A (ndCells L)) (hnc : L.length ≤ c) (hA : (A = none ∧ c = 0 ∧ L = []) ∨ ∃ ad, A = some ad) (hM : M.length ≤ maxLen) (ht2 : Lies w A2 (ndCells M)) (hnc2 : M.length ≤ c2) (hA2 : (A2 = none ∧ c2 = 0 ∧ M = []) ∨ ∃ ad, A2 = some ad) (_ : (Lit.int .i64 at_).wf = true) :
    Calls Try.prog 7 #[.slice A L.length c, .slice A2 M.length c2, .int .i64 at_] w fun e w' => e = .returned (.bool true) ∧ Below w.heap.size w w' := by
  by_cases h7 : 70 < L.length
  · exact same_g1 A A2 _ _ c c2 L M at_ w h7
  by_cases h72 : 70 < M.length
  · exact same_g2 A A2 _ _ c c2 L M at_ w h7 h72
  by_cases hv : checkF L = 0
  rotate_left
  · exact same_b1 A A2 _ _ c c2 L M at_ w rfl (by omega) (by omega) ht hv
  by_cases hv2 : checkF M = 0
  rotate_left
  · exact same_b2 A A2 _ _ c c2 L M at_ w rfl (by omega) (by omega) ht hv rfl ht2 hv2
  by_cases ha : at_ < 0 ∨ 400 < at_
  · exact same_at A A2 _ _ c c2 L M at_ w rfl (by omega) (by omega) ht hv rfl ht2 hv2 ha
  obtain ⟨E, hg⟩ := checkF_zero hv
  obtain ⟨F, hg2⟩ := checkF_zero hv2
  have h60 := hg.2.1
  have h602 := hg2.2.1
  have hp := List.length_pos_iff.2 hg.1
  obtain ⟨ad, rfl⟩ : ∃ ad, A = some ad := by
    rcases hA with ⟨_, _, h⟩ | h
    · subst h; simp at hp
    · exact h
  cases hs : sameF L M with
  | true =>
    obtain ⟨hl, hd⟩ := same_facts hs hv hv2
    exact same_main_true ad A2 _ _ c c2 L M at_ w rfl rfl ht ht2 hv hv2 (by omega) (by omega) h60 h602 hp hs _ _ rfl rfl hd hl
  | false => exact same_main_false ad A2 _ _ c c2 L M at_ w rfl rfl ht ht2 hv hv2 (by omega) (by omega) h60 h602 hp hs _ _ rfl rfl
end Go.Proofs.Ytakpbpabblgobaa
