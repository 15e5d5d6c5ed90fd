/- The walk of NodesOther. -/
import Derived.Test.YtakpbpabblgobaaNLSizes
import Derived.Test.YtakpbpabblgobaaNOpen
import Derived.Test.YtakpbpabblgobaaNMath3
namespace Go.Proofs.Ytakpbpabblgobaa
open Go.ChangeShapes Go.WideShapes Go.ChangeAt Go.RowKit
set_option linter.unusedVariables false
set_option linter.unusedSimpArgs false

theorem set_bad {L : List Nd} {E : List Ex} {i : Nat} {x x' : Nd} (h : Good4 L E) (hx : L[i]? = some x) (hn : nextF (E.take i) x' = none) : checkF (L.set i x') = 8 := by
  have hi := (List.getElem?_eq_some_iff.1 hx).1
  refine checkF_bad (by rw [List.length_set]; exact h.2.1) (extF_none (k := i) (x := x') (E := E.take i) (by rw [List.getElem?_set_self hi]) ?_ hn)
  rw [List.take_set_of_le (Nat.le_refl _)]
  exact (Ext.of h.ext).take i
theorem set_next {L : List Nd} {E : List Ex} {i : Nat} {x : Nd} (h : Good4 L E) (hx : L[i]? = some x) : ∃ y, nextF (E.take i) x = some y := by
  have hi := (List.getElem?_eq_some_iff.1 hx).1
  have hX := Ext.of h.ext
  obtain ⟨y, hy⟩ : ∃ y, E[i]? = some y := ⟨_, List.getElem?_eq_getElem (by rw [hX.1]; exact hi)⟩
  exact ⟨y, hX.2 i x y hx hy⟩
theorem set_ab {L : List Nd} {E : List Ex} {i : Nat} {x x' : Nd} (h : Good4 L E) (hx : L[i]? = some x) (hk : x'.k = x.k) (hd : ¬(x'.a = x.a ∧ x'.b = x.b)) : checkF (L.set i x') = 8 := by
  obtain ⟨y, hy⟩ := set_next h hx
  refine set_bad h hx (nextF_no (y := y) (a := x.a) (b := x.b) ?_ hd)
  rw [hk]; exact (nextF_some hy).2.2
theorem set_n {L : List Nd} {E : List Ex} {i : Nat} {x x' : Nd} (h : Good4 L E) (hx : L[i]? = some x) (hk : x'.k ≠ 1) (hn : x'.n ≠ 0) : checkF (L.set i x') = 8 := by
  refine set_bad h hx (nextF_bad ?_)
  rw [Bool.and_eq_false_iff]
  right
  unfold fitsF
  rw [decide_eq_false hn, decide_eq_false hk]
  simp
theorem set_other {L : List Nd} {i : Nat} {x x' : Nd} (hx : L[i]? = some x) (h : unp x ≠ unp x') : sameF L (L.set i x') = false := by
  have hi := (List.getElem?_eq_some_iff.1 hx).1
  unfold sameF
  rw [decide_eq_false_iff_not]
  intro e
  have := congrArg (fun l => l[i]?) e
  simp only [List.getElem?_map, hx, List.getElem?_set_self hi, Option.map_some] at this
  exact h (Option.some.inj this)
theorem own_nd {w : World} {base g n cap : Nat} {e : TypeId} {L : List Nd} (h : w.ownsRow base e 5 (.slice (some ⟨g, 0, none⟩) n cap) n (ndCells L)) {k : Nat} {x : Nd} (hx : L[k]? = some x) (hk : k < n) :
    w.cell? ⟨g, k * 5, none⟩ = some (.int .u8 x.k) ∧ w.cell? ⟨g, k * 5 + 1, none⟩ = some (.int .i64 x.n) ∧ w.cell? ⟨g, k * 5 + 2, none⟩ = some (.int .i64 x.a) ∧ w.cell? ⟨g, k * 5 + 3, none⟩ = some (.int .i64 x.b) := by
  have c := ndCells_at L k x hx
  refine ⟨?_, ?_, ?_, ?_⟩
  · rw [h.cellAt _ (by omega)]; exact c 0 (by decide)
  · rw [h.cellAt _ (by omega)]; exact c 1 (by decide)
  · rw [h.cellAt _ (by omega)]; exact c 2 (by decide)
  · rw [h.cellAt _ (by omega)]; exact c 3 (by decide)
theorem own_put {w : World} {base g n cap : Nat} {e : TypeId} {L : List Nd} (h : w.ownsRow base e 5 (.slice (some ⟨g, 0, none⟩) n cap) n (ndCells L)) {k j : Nat} {x x' : Nd} {v : Value} (hx : L[k]? = some x) (hj : j < 5) (hv : (ndC x).set j v = ndC x') (h0 : 1 ≤ n) :
    Lies (w.setCell ⟨g, k * 5 + j, none⟩ v) (some ⟨g, 0, none⟩) (ndCells (L.set k x')) := by
  rw [← nd_set L k j x x' v hx hj hv]
  exact Lies.of_own (h.stored (k * 5 + j) v).1 (by intro h; omega)


set_option maxRecDepth 100000 in
theorem other_g (A : Option Addr) (n c : Nat) (L : List Nd) (at_ wh by_ : Int) (w : World) (h : 70 < n) :
    Calls Try.prog 8 #[.slice A n c, .int .i64 at_, .int .i64 wh, .int .i64 by_] w fun e w' => e = .returned (.bool true) ∧ Below w.heap.size w w' := by
  have HG := Lib.hid (great_any A n c w true (decide_eq_true h))
  clear h
  go_enter Try.func8, Try.ntmps8
  go_wp2_with (first
    | (go_at_call 18; refine HG.out.mono ?_; rintro e wx ⟨rfl, rfl⟩)
    | (go_at_call 23; refine HC.out.mono ?_; rintro e w1 ⟨rfl, hb1⟩; have b1 := (Bl.start w).step hb1; clear hb1)
    | (go_at_call 17; refine (alive_any _).mono ?_; rintro e w3 ⟨rfl, hb⟩))
  go_ret
  exact ⟨rfl, (show Bl w _ by first | exact b1 | exact Bl.start w).step hb⟩

set_option maxRecDepth 100000 in
theorem other_b (A : Option Addr) (n c : Nat) (L : List Nd) (at_ wh by_ : Int) (w : World) (hn : L.length = n) (h7 : n ≤ 70) (ht : Lies w A (ndCells L)) (h : checkF L ≠ 0) :
    Calls Try.prog 8 #[.slice A n c, .int .i64 at_, .int .i64 wh, .int .i64 by_] w fun e w' => e = .returned (.bool true) ∧ Below w.heap.size w w' := by
  have HG := Lib.hid (great_any A n c w false (decide_eq_false (by omega)))
  obtain ⟨v, hv⟩ : ∃ v, checkF L = v := ⟨_, rfl⟩
  rw [hv] at h
  have hne := (bne_iff_ne (a := v) (b := 0)).2 h
  have HC := Lib.hid (rcheck_any A c n L w hn (by unfold maxLen; omega) ht v hv)
  clear h hv hn ht h7
  go_enter Try.func8, Try.ntmps8
  go_wp2_with (first
    | (go_at_call 18; refine HG.out.mono ?_; rintro e wx ⟨rfl, rfl⟩)
    | (go_at_call 23; refine HC.out.mono ?_; rintro e w1 ⟨rfl, hb1⟩; have b1 := (Bl.start w).step hb1; clear hb1)
    | (go_at_call 17; refine (alive_any _).mono ?_; rintro e w3 ⟨rfl, hb⟩))
  go_ret
  exact ⟨rfl, (show Bl w _ by first | exact b1 | exact Bl.start w).step hb⟩

set_option maxRecDepth 100000 in
theorem other_at (A : Option Addr) (n c : Nat) (L : List Nd) (at_ wh by_ : Int) (w : World) (hn : L.length = n) (h7 : n ≤ 70) (ht : Lies w A (ndCells L)) (hv : checkF L = 0) (ha : at_ < 0 ∨ (n : Int) ≤ at_) :
    Calls Try.prog 8 #[.slice A n c, .int .i64 at_, .int .i64 wh, .int .i64 by_] w fun e w' => e = .returned (.bool true) ∧ Below w.heap.size w w' := by
  have HG := Lib.hid (great_any A n c w false (decide_eq_false (by omega)))
  have HC := Lib.hid (rcheck_any A c n L w hn (by unfold maxLen; omega) ht 0 hv)
  clear hv hn ht h7
  rcases ha with ha | ha
  · skip
    go_enter Try.func8, Try.ntmps8
    go_wp2_with (first
      | (go_at_call 18; refine HG.out.mono ?_; rintro e wx ⟨rfl, rfl⟩)
      | (go_at_call 23; refine HC.out.mono ?_; rintro e w1 ⟨rfl, hb1⟩; have b1 := (Bl.start w).step hb1; clear hb1)
      | (go_at_call 17; refine (alive_any _).mono ?_; rintro e w3 ⟨rfl, hb⟩))
    go_ret
    exact ⟨rfl, (show Bl w _ by first | exact b1 | exact Bl.start w).step hb⟩
  · have h3 : ¬ at_ < 0 := by omega
    go_enter Try.func8, Try.ntmps8
    go_wp2_with (first
      | (go_at_call 18; refine HG.out.mono ?_; rintro e wx ⟨rfl, rfl⟩)
      | (go_at_call 23; refine HC.out.mono ?_; rintro e w1 ⟨rfl, hb1⟩; have b1 := (Bl.start w).step hb1; clear hb1)
      | (go_at_call 17; refine (alive_any _).mono ?_; rintro e w3 ⟨rfl, hb⟩))
    go_ret
    exact ⟨rfl, (show Bl w _ by first | exact b1 | exact Bl.start w).step hb⟩

set_option maxRecDepth 100000 in
theorem other_by (A : Option Addr) (n c : Nat) (L : List Nd) (at_ wh by_ : Int) (w : World) (hn : L.length = n) (h7 : n ≤ 70) (ht : Lies w A (ndCells L)) (hv : checkF L = 0) (h1 : 0 ≤ at_) (h2 : at_ < n) (ha : by_ = 0 ∨ by_ < -100 ∨ 100 < by_) :
    Calls Try.prog 8 #[.slice A n c, .int .i64 at_, .int .i64 wh, .int .i64 by_] w fun e w' => e = .returned (.bool true) ∧ Below w.heap.size w w' := by
  have HG := Lib.hid (great_any A n c w false (decide_eq_false (by omega)))
  have HC := Lib.hid (rcheck_any A c n L w hn (by unfold maxLen; omega) ht 0 hv)
  have h3 : ¬ at_ < 0 := by omega
  clear hv hn ht h7
  rcases ha with rfl | ha | ha
  · skip
    go_enter Try.func8, Try.ntmps8
    go_wp2_with (first
      | (go_at_call 18; refine HG.out.mono ?_; rintro e wx ⟨rfl, rfl⟩)
      | (go_at_call 23; refine HC.out.mono ?_; rintro e w1 ⟨rfl, hb1⟩; have b1 := (Bl.start w).step hb1; clear hb1)
      | (go_at_call 17; refine (alive_any _).mono ?_; rintro e w3 ⟨rfl, hb⟩))
    go_ret
    exact ⟨rfl, (show Bl w _ by first | exact b1 | exact Bl.start w).step hb⟩
  · have h4 : (by_ == 0) = false := by simp; omega
    go_enter Try.func8, Try.ntmps8
    go_wp2_with (first
      | (go_at_call 18; refine HG.out.mono ?_; rintro e wx ⟨rfl, rfl⟩)
      | (go_at_call 23; refine HC.out.mono ?_; rintro e w1 ⟨rfl, hb1⟩; have b1 := (Bl.start w).step hb1; clear hb1)
      | (go_at_call 17; refine (alive_any _).mono ?_; rintro e w3 ⟨rfl, hb⟩))
    go_ret
    exact ⟨rfl, (show Bl w _ by first | exact b1 | exact Bl.start w).step hb⟩
  · have h4 : (by_ == 0) = false := by simp; omega
    have h5 : ¬ by_ < -100 := by omega
    go_enter Try.func8, Try.ntmps8
    go_wp2_with (first
      | (go_at_call 18; refine HG.out.mono ?_; rintro e wx ⟨rfl, rfl⟩)
      | (go_at_call 23; refine HC.out.mono ?_; rintro e w1 ⟨rfl, hb1⟩; have b1 := (Bl.start w).step hb1; clear hb1)
      | (go_at_call 17; refine (alive_any _).mono ?_; rintro e w3 ⟨rfl, hb⟩))
    go_ret
    exact ⟨rfl, (show Bl w _ by first | exact b1 | exact Bl.start w).step hb⟩

set_option maxHeartbeats 4000000 in
set_option maxRecDepth 100000 in
theorem other_a (ad : Addr) (n c : Nat) (L : List Nd) (i : Nat) (wh by_ k xn xa xb xp : Int) (w : World) (hn : L.length = n) (h6 : n ≤ 60) (ht : Lies w (some ad) (ndCells L)) (hv : checkF L = 0) (hi : i < n) (hx : L[i]? = some ⟨k, xn, xa, xb, xp⟩) (hok : okK k = true) (hk1 : 1 ≤ k) (hk2 : k ≤ 19) (ha1 : 0 ≤ xa) (ha2 : xa ≤ 60) (hb1 : 0 ≤ xb) (hb2 : xb ≤ 60) (hz : ¬ by_ = 0) (hy1 : -100 ≤ by_) (hy2 : by_ ≤ 100) (v : Int) (hv8 : v = 8) (hcm : checkF (L.set i ⟨k, xn, xa + by_, xb, xp⟩) = v) :
    Calls Try.prog 8 #[.slice (some ad) n c, .int .i64 i, .int .i64 1, .int .i64 by_] w fun e w' => e = .returned (.bool true) ∧ Below w.heap.size w w' := by
  have HG := Lib.hid (great_any (some ad) n c w false (decide_eq_false (by omega)))
  have HC := Lib.hid (rcheck_any (some ad) c n L w hn (by unfold maxLen; omega) ht 0 hv)
  have HK := Lib.hid (fun w => show Calls Try.prog 16 #[.int .u8 k] w fun e w' => e = .returned (.tuple #[.int .i64 (cnt k), .int .i64 0]) ∧ w = w' by have := parts_any k w; rwa [show partsN k = cnt k from partsN_of hok rfl, show partsE k = 0 by simp [partsE, hok]] at this)
  have hcn : 0 ≤ cnt k := by rcases cnt_vals k with h | h | h <;> omega
  obtain ⟨q, hq⟩ : ∃ q, cnt k = q := ⟨_, rfl⟩
  rw [hq] at HK hcn
  obtain ⟨M, hM⟩ : ∃ M, L.set i ⟨k, xn, xa + by_, xb, xp⟩ = M := ⟨_, rfl⟩
  rw [hM] at hcm
  have hml : M.length = n := by rw [← hM, List.length_set, hn]
  have HCm := Lib.hid (fun (g c1 : Nat) w1 (hl : Lies w1 (some ⟨g, 0, none⟩) (ndCells M)) => show Calls Try.prog 15 #[.slice (some ⟨g, 0, none⟩) n c1] w1 fun e w' => e = .returned (.int .i64 v) ∧ Below w1.heap.size w1 w' by have := check_any (some ⟨g, 0, none⟩) c1 M w1 (by rw [hml]; unfold maxLen; omega) hl v hcm; rwa [hml] at this)
  have HT := Lib.hid ht
  have HX := Lib.hid hx
  have HN5 := Lib.hid (show (ndCells L).length = n * 5 by rw [ndCells_length, hn])
  have HM := Lib.hid hM
  subst hv8
  have e0 : (by_ == 0) = false := by simpa using hz
  have j1 : (0 : Int) ≤ i := by omega
  have j2 : (i : Int) < n := by omega
  obtain ⟨i0, hi0, hz0, hz1, hz2⟩ := info_parts nd_info
  clear hn ht hv hx hok hz hq hM hcm hml
  go_enter Try.func8, Try.ntmps8
  go_wp2_with (first
    | (go_at_call 18; refine HG.out.mono ?_; rintro e wx ⟨rfl, rfl⟩)
    | (go_at_call 23; refine HC.out.mono ?_; rintro e w1 ⟨rfl, hb1⟩; have b1 := (Bl.start w).step hb1; have HT1 := Lib.hid (b1.lies HT.out); clear hb1)
    | (at_builtin; refine wpList_append_lies _ rfl (.tmp 44) (.tmp 45) 24 rfl w.heap.size 23 i0 _ 5 40 Try.underlying24 hi0 hz0 hz1 hz2 rfl (by decide) (.slice (some ⟨w1.heap.size, 0, none⟩) 0 0) 0 [] rfl (World.ownsRow_lit (base := w.heap.size) (e := 23) (size := 5) w1 #[] 0 (Bl.size b1) (Nat.zero_le _) rfl) ad n c (ndCells L) rfl ?c1 ?c2 ?c3 ?c4 ?c5 ?c6 ?c7 _ rfl ?_))
  case c1 => exact HN5.out
  case c2 => exact (HT1.out.alloc _).cells
  case c3 => exact nd_one _
  case c4 => omega
  case c5 => unfold maxLen; omega
  case c6 => omega
  case c7 => have := Bl.size b1; simp; omega
  intro g cap w5 ho hg _ _
  have HO5 := Lib.hid (show w5.ownsRow w.heap.size 23 5 (.slice (some ⟨g, 0, none⟩) n cap) n (ndCells L) by simpa using ho)
  have b5 : Bl w w5 := (Below.alloc b1 (Bl.size b1) _).grown hg (by have := Bl.size b1; simp; omega) (by intro j hj; injection hj with hj; change w1.heap.size = j at hj; have := Bl.size b1; omega)
  have hgw := (HO5.out.lt g rfl).1
  clear ho hg b1
  obtain ⟨_, hae, hadl, c0, c1, c2, c3, c4⟩ := (b5.lies HT.out).nd HX.out
  injection hae with hae
  subst hae
  obtain ⟨d0, d1, d2, d3⟩ := own_nd HO5.out HX.out hi
  obtain ⟨_, f0, f1, f2, f3, f4⟩ := own_five HO5.out i hi
  have hlm : ∀ v, v = .int .i64 (xa + by_) → Lies (w5.setCell ⟨g, i * 5 + 2, none⟩ v) (some ⟨g, 0, none⟩) (ndCells M) := by
    intro v hv
    rw [← HM.out]
    exact own_put HO5.out HX.out (by decide) (by rw [hv]; rfl) (by omega)
  have HLM := Lib.hid hlm
  have HBM := Lib.hid (show ∀ v, Bl w (w5.setCell ⟨g, i * 5 + 2, none⟩ v) from fun v => Below.setCell b5 (p := ⟨g, i * 5 + 2, none⟩) hgw v)
  have hcl : ∀ v, (w5.setCell ⟨g, i * 5 + 2, none⟩ v).cell? (ad.add (i * 5)) = some (.int .u8 k) := by
    intro v
    have hadw : ad.block < w.heap.size := by
      have hne : ndCells L ≠ [] := by intro h0; have := HN5.out; rw [h0] at this; simp at this; omega
      rcases HT.out with h0 | ⟨a', h1, h2, _⟩
      · exact absurd h0 hne
      · injection h1 with h1; subst h1; exact h2
    rw [World.cell?_setCell_far _ _ _ _ (by rw [add_block]; show g ≠ ad.block; omega)]
    exact c0
  clear hlm hadl
  go_wp2_with (first
    | (go_at_call 16; refine (HK.out _).mono ?_; rintro e w' ⟨rfl, rfl⟩)
    | (go_at_call 15; have hr := HLM6.out; have hs := b6; refine (HCm.out _ _ _ hr).mono ?_; rintro e w7 ⟨rfl, hb7⟩; have b7 := Bl.step hs hb7; have HLM7 := Lib.hid (Lies.below hr hb7); clear hb7 hr hs)
    | (go_at_call 15; refine (HCm.out _ _ _ (HLM.out _ rfl)).mono ?_; rintro e w6 ⟨rfl, hb6⟩; have b6 := Bl.step (HBM.out _) hb6; have HLM6 := Lib.hid (Lies.below (HLM.out _ rfl) hb6); clear hb6)
    | (go_at_call 12; fail)
    | (go_at_call 17; have hq := b7; refine (alive_any _).mono ?_; rintro e w9 ⟨rfl, hb9⟩; have b9 := Bl.step hq hb9; clear hb9 hq))
  go_ret
  exact ⟨rfl, b9⟩

set_option maxHeartbeats 4000000 in
set_option maxRecDepth 100000 in
theorem other_b_ (ad : Addr) (n c : Nat) (L : List Nd) (i : Nat) (wh by_ k xn xa xb xp : Int) (w : World) (hn : L.length = n) (h6 : n ≤ 60) (ht : Lies w (some ad) (ndCells L)) (hv : checkF L = 0) (hi : i < n) (hx : L[i]? = some ⟨k, xn, xa, xb, xp⟩) (hok : okK k = true) (hk1 : 1 ≤ k) (hk2 : k ≤ 19) (ha1 : 0 ≤ xa) (ha2 : xa ≤ 60) (hb1 : 0 ≤ xb) (hb2 : xb ≤ 60) (hz : ¬ by_ = 0) (hy1 : -100 ≤ by_) (hy2 : by_ ≤ 100) (v : Int) (hv8 : v = 8) (hcm : checkF (L.set i ⟨k, xn, xa, xb + by_, xp⟩) = v) :
    Calls Try.prog 8 #[.slice (some ad) n c, .int .i64 i, .int .i64 2, .int .i64 by_] w fun e w' => e = .returned (.bool true) ∧ Below w.heap.size w w' := by
  have HG := Lib.hid (great_any (some ad) n c w false (decide_eq_false (by omega)))
  have HC := Lib.hid (rcheck_any (some ad) c n L w hn (by unfold maxLen; omega) ht 0 hv)
  have HK := Lib.hid (fun w => show Calls Try.prog 16 #[.int .u8 k] w fun e w' => e = .returned (.tuple #[.int .i64 (cnt k), .int .i64 0]) ∧ w = w' by have := parts_any k w; rwa [show partsN k = cnt k from partsN_of hok rfl, show partsE k = 0 by simp [partsE, hok]] at this)
  have hcn : 0 ≤ cnt k := by rcases cnt_vals k with h | h | h <;> omega
  obtain ⟨q, hq⟩ : ∃ q, cnt k = q := ⟨_, rfl⟩
  rw [hq] at HK hcn
  obtain ⟨M, hM⟩ : ∃ M, L.set i ⟨k, xn, xa, xb + by_, xp⟩ = M := ⟨_, rfl⟩
  rw [hM] at hcm
  have hml : M.length = n := by rw [← hM, List.length_set, hn]
  have HCm := Lib.hid (fun (g c1 : Nat) w1 (hl : Lies w1 (some ⟨g, 0, none⟩) (ndCells M)) => show Calls Try.prog 15 #[.slice (some ⟨g, 0, none⟩) n c1] w1 fun e w' => e = .returned (.int .i64 v) ∧ Below w1.heap.size w1 w' by have := check_any (some ⟨g, 0, none⟩) c1 M w1 (by rw [hml]; unfold maxLen; omega) hl v hcm; rwa [hml] at this)
  have HT := Lib.hid ht
  have HX := Lib.hid hx
  have HN5 := Lib.hid (show (ndCells L).length = n * 5 by rw [ndCells_length, hn])
  have HM := Lib.hid hM
  subst hv8
  have e0 : (by_ == 0) = false := by simpa using hz
  have j1 : (0 : Int) ≤ i := by omega
  have j2 : (i : Int) < n := by omega
  obtain ⟨i0, hi0, hz0, hz1, hz2⟩ := info_parts nd_info
  clear hn ht hv hx hok hz hq hM hcm hml
  go_enter Try.func8, Try.ntmps8
  go_wp2_with (first
    | (go_at_call 18; refine HG.out.mono ?_; rintro e wx ⟨rfl, rfl⟩)
    | (go_at_call 23; refine HC.out.mono ?_; rintro e w1 ⟨rfl, hb1⟩; have b1 := (Bl.start w).step hb1; have HT1 := Lib.hid (b1.lies HT.out); clear hb1)
    | (at_builtin; refine wpList_append_lies _ rfl (.tmp 44) (.tmp 45) 24 rfl w.heap.size 23 i0 _ 5 40 Try.underlying24 hi0 hz0 hz1 hz2 rfl (by decide) (.slice (some ⟨w1.heap.size, 0, none⟩) 0 0) 0 [] rfl (World.ownsRow_lit (base := w.heap.size) (e := 23) (size := 5) w1 #[] 0 (Bl.size b1) (Nat.zero_le _) rfl) ad n c (ndCells L) rfl ?c1 ?c2 ?c3 ?c4 ?c5 ?c6 ?c7 _ rfl ?_))
  case c1 => exact HN5.out
  case c2 => exact (HT1.out.alloc _).cells
  case c3 => exact nd_one _
  case c4 => omega
  case c5 => unfold maxLen; omega
  case c6 => omega
  case c7 => have := Bl.size b1; simp; omega
  intro g cap w5 ho hg _ _
  have HO5 := Lib.hid (show w5.ownsRow w.heap.size 23 5 (.slice (some ⟨g, 0, none⟩) n cap) n (ndCells L) by simpa using ho)
  have b5 : Bl w w5 := (Below.alloc b1 (Bl.size b1) _).grown hg (by have := Bl.size b1; simp; omega) (by intro j hj; injection hj with hj; change w1.heap.size = j at hj; have := Bl.size b1; omega)
  have hgw := (HO5.out.lt g rfl).1
  clear ho hg b1
  obtain ⟨_, hae, hadl, c0, c1, c2, c3, c4⟩ := (b5.lies HT.out).nd HX.out
  injection hae with hae
  subst hae
  obtain ⟨d0, d1, d2, d3⟩ := own_nd HO5.out HX.out hi
  obtain ⟨_, f0, f1, f2, f3, f4⟩ := own_five HO5.out i hi
  have hlm : ∀ v, v = .int .i64 (xb + by_) → Lies (w5.setCell ⟨g, i * 5 + 3, none⟩ v) (some ⟨g, 0, none⟩) (ndCells M) := by
    intro v hv
    rw [← HM.out]
    exact own_put HO5.out HX.out (by decide) (by rw [hv]; rfl) (by omega)
  have HLM := Lib.hid hlm
  have HBM := Lib.hid (show ∀ v, Bl w (w5.setCell ⟨g, i * 5 + 3, none⟩ v) from fun v => Below.setCell b5 (p := ⟨g, i * 5 + 3, none⟩) hgw v)
  have hcl : ∀ v, (w5.setCell ⟨g, i * 5 + 3, none⟩ v).cell? (ad.add (i * 5)) = some (.int .u8 k) := by
    intro v
    have hadw : ad.block < w.heap.size := by
      have hne : ndCells L ≠ [] := by intro h0; have := HN5.out; rw [h0] at this; simp at this; omega
      rcases HT.out with h0 | ⟨a', h1, h2, _⟩
      · exact absurd h0 hne
      · injection h1 with h1; subst h1; exact h2
    rw [World.cell?_setCell_far _ _ _ _ (by rw [add_block]; show g ≠ ad.block; omega)]
    exact c0
  clear hlm hadl
  go_wp2_with (first
    | (go_at_call 16; refine (HK.out _).mono ?_; rintro e w' ⟨rfl, rfl⟩)
    | (go_at_call 15; have hr := HLM6.out; have hs := b6; refine (HCm.out _ _ _ hr).mono ?_; rintro e w7 ⟨rfl, hb7⟩; have b7 := Bl.step hs hb7; have HLM7 := Lib.hid (Lies.below hr hb7); clear hb7 hr hs)
    | (go_at_call 15; refine (HCm.out _ _ _ (HLM.out _ rfl)).mono ?_; rintro e w6 ⟨rfl, hb6⟩; have b6 := Bl.step (HBM.out _) hb6; have HLM6 := Lib.hid (Lies.below (HLM.out _ rfl) hb6); clear hb6)
    | (go_at_call 12; fail)
    | (go_at_call 17; have hq := b7; refine (alive_any _).mono ?_; rintro e w9 ⟨rfl, hb9⟩; have b9 := Bl.step hq hb9; clear hb9 hq))
  go_ret
  exact ⟨rfl, b9⟩

set_option maxHeartbeats 4000000 in
set_option maxRecDepth 100000 in
theorem other_k0 (ad : Addr) (n c : Nat) (L : List Nd) (i : Nat) (wh by_ k xn xa xb xp : Int) (w : World) (hn : L.length = n) (h6 : n ≤ 60) (ht : Lies w (some ad) (ndCells L)) (hv : checkF L = 0) (hi : i < n) (hx : L[i]? = some ⟨k, xn, xa, xb, xp⟩) (hok : okK k = true) (hk1 : 1 ≤ k) (hk2 : k ≤ 19) (ha1 : 0 ≤ xa) (ha2 : xa ≤ 60) (hb1 : 0 ≤ xb) (hb2 : xb ≤ 60) (hz : ¬ by_ = 0) (hy1 : -100 ≤ by_) (hy2 : by_ ≤ 100) (K B : Int) (hB : IntKind.u8.wrap by_ = B) (hK : IntKind.u8.wrap (k + B) = K) (v : Int) (hv0 : v = 0) (hcm : checkF (L.set i ⟨K, xn, xa, xb, xp⟩) = v) (hsm : sameF L (L.set i ⟨K, xn, xa, xb, xp⟩) = false) :
    Calls Try.prog 8 #[.slice (some ad) n c, .int .i64 i, .int .i64 0, .int .i64 by_] w fun e w' => e = .returned (.bool true) ∧ Below w.heap.size w w' := by
  subst hv0
  have HG := Lib.hid (great_any (some ad) n c w false (decide_eq_false (by omega)))
  have HC := Lib.hid (rcheck_any (some ad) c n L w hn (by unfold maxLen; omega) ht 0 hv)
  have HK := Lib.hid (fun w => show Calls Try.prog 16 #[.int .u8 k] w fun e w' => e = .returned (.tuple #[.int .i64 (cnt k), .int .i64 0]) ∧ w = w' by have := parts_any k w; rwa [show partsN k = cnt k from partsN_of hok rfl, show partsE k = 0 by simp [partsE, hok]] at this)
  have hcn : 0 ≤ cnt k := by rcases cnt_vals k with h | h | h <;> omega
  obtain ⟨q, hq⟩ : ∃ q, cnt k = q := ⟨_, rfl⟩
  rw [hq] at HK hcn
  obtain ⟨M, hM⟩ : ∃ M, L.set i ⟨K, xn, xa, xb, xp⟩ = M := ⟨_, rfl⟩
  rw [hM] at hcm
  have hml : M.length = n := by rw [← hM, List.length_set, hn]
  have HCm := Lib.hid (fun (g c1 : Nat) w1 (hl : Lies w1 (some ⟨g, 0, none⟩) (ndCells M)) => show Calls Try.prog 15 #[.slice (some ⟨g, 0, none⟩) n c1] w1 fun e w' => e = .returned (.int .i64 0) ∧ Below w1.heap.size w1 w' by have := check_any (some ⟨g, 0, none⟩) c1 M w1 (by rw [hml]; unfold maxLen; omega) hl 0 hcm; rwa [hml] at this)
  have HT := Lib.hid ht
  have HX := Lib.hid hx
  have HN5 := Lib.hid (show (ndCells L).length = n * 5 by rw [ndCells_length, hn])
  have HM := Lib.hid hM
  rw [hM] at hsm
  have HS := Lib.hid (fun (g c1 : Nat) w1 (hb : Bl w w1) (hl : Lies w1 (some ⟨g, 0, none⟩) (ndCells M)) => same_ok (some ad) (some ⟨g, 0, none⟩) n n c c1 L M w1 hn hml (hb.lies ht) hl hv hcm false hsm)
  have e0 : (by_ == 0) = false := by simpa using hz
  have j1 : (0 : Int) ≤ i := by omega
  have j2 : (i : Int) < n := by omega
  obtain ⟨i0, hi0, hz0, hz1, hz2⟩ := info_parts nd_info
  clear hn ht hv hx hok hz hq hM hcm hml hsm
  go_enter Try.func8, Try.ntmps8
  go_wp2_with (first
    | (go_at_call 18; refine HG.out.mono ?_; rintro e wx ⟨rfl, rfl⟩)
    | (go_at_call 23; refine HC.out.mono ?_; rintro e w1 ⟨rfl, hb1⟩; have b1 := (Bl.start w).step hb1; have HT1 := Lib.hid (b1.lies HT.out); clear hb1)
    | (at_builtin; refine wpList_append_lies _ rfl (.tmp 44) (.tmp 45) 24 rfl w.heap.size 23 i0 _ 5 40 Try.underlying24 hi0 hz0 hz1 hz2 rfl (by decide) (.slice (some ⟨w1.heap.size, 0, none⟩) 0 0) 0 [] rfl (World.ownsRow_lit (base := w.heap.size) (e := 23) (size := 5) w1 #[] 0 (Bl.size b1) (Nat.zero_le _) rfl) ad n c (ndCells L) rfl ?c1 ?c2 ?c3 ?c4 ?c5 ?c6 ?c7 _ rfl ?_))
  case c1 => exact HN5.out
  case c2 => exact (HT1.out.alloc _).cells
  case c3 => exact nd_one _
  case c4 => omega
  case c5 => unfold maxLen; omega
  case c6 => omega
  case c7 => have := Bl.size b1; simp; omega
  intro g cap w5 ho hg _ _
  have HO5 := Lib.hid (show w5.ownsRow w.heap.size 23 5 (.slice (some ⟨g, 0, none⟩) n cap) n (ndCells L) by simpa using ho)
  have b5 : Bl w w5 := (Below.alloc b1 (Bl.size b1) _).grown hg (by have := Bl.size b1; simp; omega) (by intro j hj; injection hj with hj; change w1.heap.size = j at hj; have := Bl.size b1; omega)
  have hgw := (HO5.out.lt g rfl).1
  clear ho hg b1
  obtain ⟨_, hae, hadl, c0, c1, c2, c3, c4⟩ := (b5.lies HT.out).nd HX.out
  injection hae with hae
  subst hae
  obtain ⟨d0, d1, d2, d3⟩ := own_nd HO5.out HX.out hi
  obtain ⟨_, f0, f1, f2, f3, f4⟩ := own_five HO5.out i hi
  have hlm : ∀ v, v = .int .u8 K → Lies (w5.setCell ⟨g, i * 5 + 0, none⟩ v) (some ⟨g, 0, none⟩) (ndCells M) := by
    intro v hv
    rw [← HM.out]
    exact own_put HO5.out HX.out (by decide) (by rw [hv]; rfl) (by omega)
  have HLM := Lib.hid hlm
  have HBM := Lib.hid (show ∀ v, Bl w (w5.setCell ⟨g, i * 5 + 0, none⟩ v) from fun v => Below.setCell b5 (p := ⟨g, i * 5 + 0, none⟩) hgw v)
  have hcl : ∀ v, (w5.setCell ⟨g, i * 5 + 0, none⟩ v).cell? (ad.add (i * 5)) = some (.int .u8 k) := by
    intro v
    have hadw : ad.block < w.heap.size := by
      have hne : ndCells L ≠ [] := by intro h0; have := HN5.out; rw [h0] at this; simp at this; omega
      rcases HT.out with h0 | ⟨a', h1, h2, _⟩
      · exact absurd h0 hne
      · injection h1 with h1; subst h1; exact h2
    rw [World.cell?_setCell_far _ _ _ _ (by rw [add_block]; show g ≠ ad.block; omega)]
    exact c0
  clear hlm hadl
  go_wp2_with (first
    | (go_at_call 16; refine (HK.out _).mono ?_; rintro e w' ⟨rfl, rfl⟩)
    | (go_at_call 15; have hr := HLM6.out; have hs := b6; refine (HCm.out _ _ _ hr).mono ?_; rintro e w7 ⟨rfl, hb7⟩; have b7 := Bl.step hs hb7; have HLM7 := Lib.hid (Lies.below hr hb7); clear hb7 hr hs)
    | (go_at_call 15; refine (HCm.out _ _ _ (HLM.out _ rfl)).mono ?_; rintro e w6 ⟨rfl, hb6⟩; have b6 := Bl.step (HBM.out _) hb6; have HLM6 := Lib.hid (Lies.below (HLM.out _ rfl) hb6); clear hb6)
    | (go_at_call 12; refine (HS.out _ _ _ b6 HLM6.out).mono ?_; rintro e w8 ⟨rfl, hb8⟩; have b8 := Bl.step b6 hb8; clear hb8)
    | (go_at_call 17; have hq := b8; refine (alive_any _).mono ?_; rintro e w9 ⟨rfl, hb9⟩; have b9 := Bl.step hq hb9; clear hb9 hq))
  go_ret
  exact ⟨rfl, b9⟩

set_option maxHeartbeats 4000000 in
set_option maxRecDepth 100000 in
theorem other_kn (ad : Addr) (n c : Nat) (L : List Nd) (i : Nat) (wh by_ k xn xa xb xp : Int) (w : World) (hn : L.length = n) (h6 : n ≤ 60) (ht : Lies w (some ad) (ndCells L)) (hv : checkF L = 0) (hi : i < n) (hx : L[i]? = some ⟨k, xn, xa, xb, xp⟩) (hok : okK k = true) (hk1 : 1 ≤ k) (hk2 : k ≤ 19) (ha1 : 0 ≤ xa) (ha2 : xa ≤ 60) (hb1 : 0 ≤ xb) (hb2 : xb ≤ 60) (hz : ¬ by_ = 0) (hy1 : -100 ≤ by_) (hy2 : by_ ≤ 100) (K B : Int) (hB : IntKind.u8.wrap by_ = B) (hK : IntKind.u8.wrap (k + B) = K) (v : Int) (hvn : v ≠ 0) (hcm : checkF (L.set i ⟨K, xn, xa, xb, xp⟩) = v) :
    Calls Try.prog 8 #[.slice (some ad) n c, .int .i64 i, .int .i64 0, .int .i64 by_] w fun e w' => e = .returned (.bool true) ∧ Below w.heap.size w w' := by
  have HG := Lib.hid (great_any (some ad) n c w false (decide_eq_false (by omega)))
  have HC := Lib.hid (rcheck_any (some ad) c n L w hn (by unfold maxLen; omega) ht 0 hv)
  have HK := Lib.hid (fun w => show Calls Try.prog 16 #[.int .u8 k] w fun e w' => e = .returned (.tuple #[.int .i64 (cnt k), .int .i64 0]) ∧ w = w' by have := parts_any k w; rwa [show partsN k = cnt k from partsN_of hok rfl, show partsE k = 0 by simp [partsE, hok]] at this)
  have hcn : 0 ≤ cnt k := by rcases cnt_vals k with h | h | h <;> omega
  obtain ⟨q, hq⟩ : ∃ q, cnt k = q := ⟨_, rfl⟩
  rw [hq] at HK hcn
  obtain ⟨M, hM⟩ : ∃ M, L.set i ⟨K, xn, xa, xb, xp⟩ = M := ⟨_, rfl⟩
  rw [hM] at hcm
  have hml : M.length = n := by rw [← hM, List.length_set, hn]
  have HCm := Lib.hid (fun (g c1 : Nat) w1 (hl : Lies w1 (some ⟨g, 0, none⟩) (ndCells M)) => show Calls Try.prog 15 #[.slice (some ⟨g, 0, none⟩) n c1] w1 fun e w' => e = .returned (.int .i64 v) ∧ Below w1.heap.size w1 w' by have := check_any (some ⟨g, 0, none⟩) c1 M w1 (by rw [hml]; unfold maxLen; omega) hl v hcm; rwa [hml] at this)
  have HT := Lib.hid ht
  have HX := Lib.hid hx
  have HN5 := Lib.hid (show (ndCells L).length = n * 5 by rw [ndCells_length, hn])
  have HM := Lib.hid hM
  have hne := (bne_iff_ne (a := v) (b := 0)).2 hvn
  clear hvn
  have e0 : (by_ == 0) = false := by simpa using hz
  have j1 : (0 : Int) ≤ i := by omega
  have j2 : (i : Int) < n := by omega
  obtain ⟨i0, hi0, hz0, hz1, hz2⟩ := info_parts nd_info
  clear hn ht hv hx hok hz hq hM hcm hml
  go_enter Try.func8, Try.ntmps8
  go_wp2_with (first
    | (go_at_call 18; refine HG.out.mono ?_; rintro e wx ⟨rfl, rfl⟩)
    | (go_at_call 23; refine HC.out.mono ?_; rintro e w1 ⟨rfl, hb1⟩; have b1 := (Bl.start w).step hb1; have HT1 := Lib.hid (b1.lies HT.out); clear hb1)
    | (at_builtin; refine wpList_append_lies _ rfl (.tmp 44) (.tmp 45) 24 rfl w.heap.size 23 i0 _ 5 40 Try.underlying24 hi0 hz0 hz1 hz2 rfl (by decide) (.slice (some ⟨w1.heap.size, 0, none⟩) 0 0) 0 [] rfl (World.ownsRow_lit (base := w.heap.size) (e := 23) (size := 5) w1 #[] 0 (Bl.size b1) (Nat.zero_le _) rfl) ad n c (ndCells L) rfl ?c1 ?c2 ?c3 ?c4 ?c5 ?c6 ?c7 _ rfl ?_))
  case c1 => exact HN5.out
  case c2 => exact (HT1.out.alloc _).cells
  case c3 => exact nd_one _
  case c4 => omega
  case c5 => unfold maxLen; omega
  case c6 => omega
  case c7 => have := Bl.size b1; simp; omega
  intro g cap w5 ho hg _ _
  have HO5 := Lib.hid (show w5.ownsRow w.heap.size 23 5 (.slice (some ⟨g, 0, none⟩) n cap) n (ndCells L) by simpa using ho)
  have b5 : Bl w w5 := (Below.alloc b1 (Bl.size b1) _).grown hg (by have := Bl.size b1; simp; omega) (by intro j hj; injection hj with hj; change w1.heap.size = j at hj; have := Bl.size b1; omega)
  have hgw := (HO5.out.lt g rfl).1
  clear ho hg b1
  obtain ⟨_, hae, hadl, c0, c1, c2, c3, c4⟩ := (b5.lies HT.out).nd HX.out
  injection hae with hae
  subst hae
  obtain ⟨d0, d1, d2, d3⟩ := own_nd HO5.out HX.out hi
  obtain ⟨_, f0, f1, f2, f3, f4⟩ := own_five HO5.out i hi
  have hlm : ∀ v, v = .int .u8 K → Lies (w5.setCell ⟨g, i * 5 + 0, none⟩ v) (some ⟨g, 0, none⟩) (ndCells M) := by
    intro v hv
    rw [← HM.out]
    exact own_put HO5.out HX.out (by decide) (by rw [hv]; rfl) (by omega)
  have HLM := Lib.hid hlm
  have HBM := Lib.hid (show ∀ v, Bl w (w5.setCell ⟨g, i * 5 + 0, none⟩ v) from fun v => Below.setCell b5 (p := ⟨g, i * 5 + 0, none⟩) hgw v)
  have hcl : ∀ v, (w5.setCell ⟨g, i * 5 + 0, none⟩ v).cell? (ad.add (i * 5)) = some (.int .u8 k) := by
    intro v
    have hadw : ad.block < w.heap.size := by
      have hne : ndCells L ≠ [] := by intro h0; have := HN5.out; rw [h0] at this; simp at this; omega
      rcases HT.out with h0 | ⟨a', h1, h2, _⟩
      · exact absurd h0 hne
      · injection h1 with h1; subst h1; exact h2
    rw [World.cell?_setCell_far _ _ _ _ (by rw [add_block]; show g ≠ ad.block; omega)]
    exact c0
  clear hlm hadl
  go_wp2_with (first
    | (go_at_call 16; refine (HK.out _).mono ?_; rintro e w' ⟨rfl, rfl⟩)
    | (go_at_call 15; have hr := HLM6.out; have hs := b6; refine (HCm.out _ _ _ hr).mono ?_; rintro e w7 ⟨rfl, hb7⟩; have b7 := Bl.step hs hb7; have HLM7 := Lib.hid (Lies.below hr hb7); clear hb7 hr hs)
    | (go_at_call 15; refine (HCm.out _ _ _ (HLM.out _ rfl)).mono ?_; rintro e w6 ⟨rfl, hb6⟩; have b6 := Bl.step (HBM.out _) hb6; have HLM6 := Lib.hid (Lies.below (HLM.out _ rfl) hb6); clear hb6)
    | (go_at_call 12; fail)
    | (go_at_call 17; have hq := b6; refine (alive_any _).mono ?_; rintro e w9 ⟨rfl, hb9⟩; have b9 := Bl.step hq hb9; clear hb9 hq))
  go_ret
  exact ⟨rfl, b9⟩

set_option maxHeartbeats 4000000 in
set_option maxRecDepth 100000 in
theorem other_n8 (ad : Addr) (n c : Nat) (L : List Nd) (i : Nat) (wh by_ k xn xa xb xp : Int) (w : World) (hn : L.length = n) (h6 : n ≤ 60) (ht : Lies w (some ad) (ndCells L)) (hv : checkF L = 0) (hi : i < n) (hx : L[i]? = some ⟨k, xn, xa, xb, xp⟩) (hok : okK k = true) (hk1 : 1 ≤ k) (hk2 : k ≤ 19) (ha1 : 0 ≤ xa) (ha2 : xa ≤ 60) (hb1 : 0 ≤ xb) (hb2 : xb ≤ 60) (hz : ¬ by_ = 0) (hy1 : -100 ≤ by_) (hy2 : by_ ≤ 100) (N : Int) (hN : wrap64 (xn + by_) = N) (hw0 : ¬ wh = 0) (hw1 : ¬ wh = 1) (hw2 : ¬ wh = 2) (hk : ¬ k = 1) (v : Int) (hv8 : v = 8) (hcm : checkF (L.set i ⟨k, N, xa, xb, xp⟩) = v) :
    Calls Try.prog 8 #[.slice (some ad) n c, .int .i64 i, .int .i64 wh, .int .i64 by_] w fun e w' => e = .returned (.bool true) ∧ Below w.heap.size w w' := by
  have HG := Lib.hid (great_any (some ad) n c w false (decide_eq_false (by omega)))
  have HC := Lib.hid (rcheck_any (some ad) c n L w hn (by unfold maxLen; omega) ht 0 hv)
  have HK := Lib.hid (fun w => show Calls Try.prog 16 #[.int .u8 k] w fun e w' => e = .returned (.tuple #[.int .i64 (cnt k), .int .i64 0]) ∧ w = w' by have := parts_any k w; rwa [show partsN k = cnt k from partsN_of hok rfl, show partsE k = 0 by simp [partsE, hok]] at this)
  have hcn : 0 ≤ cnt k := by rcases cnt_vals k with h | h | h <;> omega
  obtain ⟨q, hq⟩ : ∃ q, cnt k = q := ⟨_, rfl⟩
  rw [hq] at HK hcn
  obtain ⟨M, hM⟩ : ∃ M, L.set i ⟨k, N, xa, xb, xp⟩ = M := ⟨_, rfl⟩
  rw [hM] at hcm
  have hml : M.length = n := by rw [← hM, List.length_set, hn]
  have HCm := Lib.hid (fun (g c1 : Nat) w1 (hl : Lies w1 (some ⟨g, 0, none⟩) (ndCells M)) => show Calls Try.prog 15 #[.slice (some ⟨g, 0, none⟩) n c1] w1 fun e w' => e = .returned (.int .i64 v) ∧ Below w1.heap.size w1 w' by have := check_any (some ⟨g, 0, none⟩) c1 M w1 (by rw [hml]; unfold maxLen; omega) hl v hcm; rwa [hml] at this)
  have HT := Lib.hid ht
  have HX := Lib.hid hx
  have HN5 := Lib.hid (show (ndCells L).length = n * 5 by rw [ndCells_length, hn])
  have HM := Lib.hid hM
  have t0 : (wh == 0) = false := by simpa using hw0
  have t1 : (wh == 1) = false := by simpa using hw1
  have t2 : (wh == 2) = false := by simpa using hw2
  clear hw0 hw1 hw2
  subst hv8
  have t3 : (k != 1) = true := by simpa using hk
  clear hk
  have e0 : (by_ == 0) = false := by simpa using hz
  have j1 : (0 : Int) ≤ i := by omega
  have j2 : (i : Int) < n := by omega
  obtain ⟨i0, hi0, hz0, hz1, hz2⟩ := info_parts nd_info
  clear hn ht hv hx hok hz hq hM hcm hml
  go_enter Try.func8, Try.ntmps8
  go_wp2_with (first
    | (go_at_call 18; refine HG.out.mono ?_; rintro e wx ⟨rfl, rfl⟩)
    | (go_at_call 23; refine HC.out.mono ?_; rintro e w1 ⟨rfl, hb1⟩; have b1 := (Bl.start w).step hb1; have HT1 := Lib.hid (b1.lies HT.out); clear hb1)
    | (at_builtin; refine wpList_append_lies _ rfl (.tmp 44) (.tmp 45) 24 rfl w.heap.size 23 i0 _ 5 40 Try.underlying24 hi0 hz0 hz1 hz2 rfl (by decide) (.slice (some ⟨w1.heap.size, 0, none⟩) 0 0) 0 [] rfl (World.ownsRow_lit (base := w.heap.size) (e := 23) (size := 5) w1 #[] 0 (Bl.size b1) (Nat.zero_le _) rfl) ad n c (ndCells L) rfl ?c1 ?c2 ?c3 ?c4 ?c5 ?c6 ?c7 _ rfl ?_))
  case c1 => exact HN5.out
  case c2 => exact (HT1.out.alloc _).cells
  case c3 => exact nd_one _
  case c4 => omega
  case c5 => unfold maxLen; omega
  case c6 => omega
  case c7 => have := Bl.size b1; simp; omega
  intro g cap w5 ho hg _ _
  have HO5 := Lib.hid (show w5.ownsRow w.heap.size 23 5 (.slice (some ⟨g, 0, none⟩) n cap) n (ndCells L) by simpa using ho)
  have b5 : Bl w w5 := (Below.alloc b1 (Bl.size b1) _).grown hg (by have := Bl.size b1; simp; omega) (by intro j hj; injection hj with hj; change w1.heap.size = j at hj; have := Bl.size b1; omega)
  have hgw := (HO5.out.lt g rfl).1
  clear ho hg b1
  obtain ⟨_, hae, hadl, c0, c1, c2, c3, c4⟩ := (b5.lies HT.out).nd HX.out
  injection hae with hae
  subst hae
  obtain ⟨d0, d1, d2, d3⟩ := own_nd HO5.out HX.out hi
  obtain ⟨_, f0, f1, f2, f3, f4⟩ := own_five HO5.out i hi
  have hlm : ∀ v, v = .int .i64 N → Lies (w5.setCell ⟨g, i * 5 + 1, none⟩ v) (some ⟨g, 0, none⟩) (ndCells M) := by
    intro v hv
    rw [← HM.out]
    exact own_put HO5.out HX.out (by decide) (by rw [hv]; rfl) (by omega)
  have HLM := Lib.hid hlm
  have HBM := Lib.hid (show ∀ v, Bl w (w5.setCell ⟨g, i * 5 + 1, none⟩ v) from fun v => Below.setCell b5 (p := ⟨g, i * 5 + 1, none⟩) hgw v)
  have hcl : ∀ v, (w5.setCell ⟨g, i * 5 + 1, none⟩ v).cell? (ad.add (i * 5)) = some (.int .u8 k) := by
    intro v
    have hadw : ad.block < w.heap.size := by
      have hne : ndCells L ≠ [] := by intro h0; have := HN5.out; rw [h0] at this; simp at this; omega
      rcases HT.out with h0 | ⟨a', h1, h2, _⟩
      · exact absurd h0 hne
      · injection h1 with h1; subst h1; exact h2
    rw [World.cell?_setCell_far _ _ _ _ (by rw [add_block]; show g ≠ ad.block; omega)]
    exact c0
  clear hlm hadl
  go_wp2_with (first
    | (go_at_call 16; refine (HK.out _).mono ?_; rintro e w' ⟨rfl, rfl⟩)
    | (go_at_call 15; have hr := HLM6.out; have hs := b6; refine (HCm.out _ _ _ hr).mono ?_; rintro e w7 ⟨rfl, hb7⟩; have b7 := Bl.step hs hb7; have HLM7 := Lib.hid (Lies.below hr hb7); clear hb7 hr hs)
    | (go_at_call 15; refine (HCm.out _ _ _ (HLM.out _ rfl)).mono ?_; rintro e w6 ⟨rfl, hb6⟩; have b6 := Bl.step (HBM.out _) hb6; have HLM6 := Lib.hid (Lies.below (HLM.out _ rfl) hb6); clear hb6)
    | (go_at_call 12; fail)
    | (go_at_call 17; have hq := b7; refine (alive_any _).mono ?_; rintro e w9 ⟨rfl, hb9⟩; have b9 := Bl.step hq hb9; clear hb9 hq))
  go_ret
  exact ⟨rfl, b9⟩

set_option maxHeartbeats 4000000 in
set_option maxRecDepth 100000 in
theorem other_n0 (ad : Addr) (n c : Nat) (L : List Nd) (i : Nat) (wh by_ k xn xa xb xp : Int) (w : World) (hn : L.length = n) (h6 : n ≤ 60) (ht : Lies w (some ad) (ndCells L)) (hv : checkF L = 0) (hi : i < n) (hx : L[i]? = some ⟨1, xn, xa, xb, xp⟩) (hok : okK 1 = true) (hk1 : 1 ≤ 1) (hk2 : 1 ≤ 19) (ha1 : 0 ≤ xa) (ha2 : xa ≤ 60) (hb1 : 0 ≤ xb) (hb2 : xb ≤ 60) (hz : ¬ by_ = 0) (hy1 : -100 ≤ by_) (hy2 : by_ ≤ 100) (N : Int) (hN : wrap64 (xn + by_) = N) (hw0 : ¬ wh = 0) (hw1 : ¬ wh = 1) (hw2 : ¬ wh = 2) (v : Int) (hv0 : v = 0) (hcm : checkF (L.set i ⟨1, N, xa, xb, xp⟩) = v) (hsm : sameF L (L.set i ⟨1, N, xa, xb, xp⟩) = false) :
    Calls Try.prog 8 #[.slice (some ad) n c, .int .i64 i, .int .i64 wh, .int .i64 by_] w fun e w' => e = .returned (.bool true) ∧ Below w.heap.size w w' := by
  subst hv0
  have HG := Lib.hid (great_any (some ad) n c w false (decide_eq_false (by omega)))
  have HC := Lib.hid (rcheck_any (some ad) c n L w hn (by unfold maxLen; omega) ht 0 hv)
  have HK := Lib.hid (fun w => show Calls Try.prog 16 #[.int .u8 1] w fun e w' => e = .returned (.tuple #[.int .i64 (cnt 1), .int .i64 0]) ∧ w = w' by have := parts_any 1 w; rwa [show partsN 1 = cnt 1 from partsN_of hok rfl, show partsE 1 = 0 by simp [partsE, hok]] at this)
  have hcn : 0 ≤ cnt 1 := by rcases cnt_vals 1 with h | h | h <;> omega
  obtain ⟨q, hq⟩ : ∃ q, cnt 1 = q := ⟨_, rfl⟩
  rw [hq] at HK hcn
  obtain ⟨M, hM⟩ : ∃ M, L.set i ⟨1, N, xa, xb, xp⟩ = M := ⟨_, rfl⟩
  rw [hM] at hcm
  have hml : M.length = n := by rw [← hM, List.length_set, hn]
  have HCm := Lib.hid (fun (g c1 : Nat) w1 (hl : Lies w1 (some ⟨g, 0, none⟩) (ndCells M)) => show Calls Try.prog 15 #[.slice (some ⟨g, 0, none⟩) n c1] w1 fun e w' => e = .returned (.int .i64 0) ∧ Below w1.heap.size w1 w' by have := check_any (some ⟨g, 0, none⟩) c1 M w1 (by rw [hml]; unfold maxLen; omega) hl 0 hcm; rwa [hml] at this)
  have HT := Lib.hid ht
  have HX := Lib.hid hx
  have HN5 := Lib.hid (show (ndCells L).length = n * 5 by rw [ndCells_length, hn])
  have HM := Lib.hid hM
  rw [hM] at hsm
  have HS := Lib.hid (fun (g c1 : Nat) w1 (hb : Bl w w1) (hl : Lies w1 (some ⟨g, 0, none⟩) (ndCells M)) => same_ok (some ad) (some ⟨g, 0, none⟩) n n c c1 L M w1 hn hml (hb.lies ht) hl hv hcm false hsm)
  have t0 : (wh == 0) = false := by simpa using hw0
  have t1 : (wh == 1) = false := by simpa using hw1
  have t2 : (wh == 2) = false := by simpa using hw2
  clear hw0 hw1 hw2
  have e0 : (by_ == 0) = false := by simpa using hz
  have j1 : (0 : Int) ≤ i := by omega
  have j2 : (i : Int) < n := by omega
  obtain ⟨i0, hi0, hz0, hz1, hz2⟩ := info_parts nd_info
  clear hn ht hv hx hok hz hq hM hcm hml hsm
  go_enter Try.func8, Try.ntmps8
  go_wp2_with (first
    | (go_at_call 18; refine HG.out.mono ?_; rintro e wx ⟨rfl, rfl⟩)
    | (go_at_call 23; refine HC.out.mono ?_; rintro e w1 ⟨rfl, hb1⟩; have b1 := (Bl.start w).step hb1; have HT1 := Lib.hid (b1.lies HT.out); clear hb1)
    | (at_builtin; refine wpList_append_lies _ rfl (.tmp 44) (.tmp 45) 24 rfl w.heap.size 23 i0 _ 5 40 Try.underlying24 hi0 hz0 hz1 hz2 rfl (by decide) (.slice (some ⟨w1.heap.size, 0, none⟩) 0 0) 0 [] rfl (World.ownsRow_lit (base := w.heap.size) (e := 23) (size := 5) w1 #[] 0 (Bl.size b1) (Nat.zero_le _) rfl) ad n c (ndCells L) rfl ?c1 ?c2 ?c3 ?c4 ?c5 ?c6 ?c7 _ rfl ?_))
  case c1 => exact HN5.out
  case c2 => exact (HT1.out.alloc _).cells
  case c3 => exact nd_one _
  case c4 => omega
  case c5 => unfold maxLen; omega
  case c6 => omega
  case c7 => have := Bl.size b1; simp; omega
  intro g cap w5 ho hg _ _
  have HO5 := Lib.hid (show w5.ownsRow w.heap.size 23 5 (.slice (some ⟨g, 0, none⟩) n cap) n (ndCells L) by simpa using ho)
  have b5 : Bl w w5 := (Below.alloc b1 (Bl.size b1) _).grown hg (by have := Bl.size b1; simp; omega) (by intro j hj; injection hj with hj; change w1.heap.size = j at hj; have := Bl.size b1; omega)
  have hgw := (HO5.out.lt g rfl).1
  clear ho hg b1
  obtain ⟨_, hae, hadl, c0, c1, c2, c3, c4⟩ := (b5.lies HT.out).nd HX.out
  injection hae with hae
  subst hae
  obtain ⟨d0, d1, d2, d3⟩ := own_nd HO5.out HX.out hi
  obtain ⟨_, f0, f1, f2, f3, f4⟩ := own_five HO5.out i hi
  have hlm : ∀ v, v = .int .i64 N → Lies (w5.setCell ⟨g, i * 5 + 1, none⟩ v) (some ⟨g, 0, none⟩) (ndCells M) := by
    intro v hv
    rw [← HM.out]
    exact own_put HO5.out HX.out (by decide) (by rw [hv]; rfl) (by omega)
  have HLM := Lib.hid hlm
  have HBM := Lib.hid (show ∀ v, Bl w (w5.setCell ⟨g, i * 5 + 1, none⟩ v) from fun v => Below.setCell b5 (p := ⟨g, i * 5 + 1, none⟩) hgw v)
  have hcl : ∀ v, (w5.setCell ⟨g, i * 5 + 1, none⟩ v).cell? (ad.add (i * 5)) = some (.int .u8 1) := by
    intro v
    have hadw : ad.block < w.heap.size := by
      have hne : ndCells L ≠ [] := by intro h0; have := HN5.out; rw [h0] at this; simp at this; omega
      rcases HT.out with h0 | ⟨a', h1, h2, _⟩
      · exact absurd h0 hne
      · injection h1 with h1; subst h1; exact h2
    rw [World.cell?_setCell_far _ _ _ _ (by rw [add_block]; show g ≠ ad.block; omega)]
    exact c0
  clear hlm hadl
  go_wp2_with (first
    | (go_at_call 16; refine (HK.out _).mono ?_; rintro e w' ⟨rfl, rfl⟩)
    | (go_at_call 15; have hr := HLM6.out; have hs := b6; refine (HCm.out _ _ _ hr).mono ?_; rintro e w7 ⟨rfl, hb7⟩; have b7 := Bl.step hs hb7; have HLM7 := Lib.hid (Lies.below hr hb7); clear hb7 hr hs)
    | (go_at_call 15; refine (HCm.out _ _ _ (HLM.out _ rfl)).mono ?_; rintro e w6 ⟨rfl, hb6⟩; have b6 := Bl.step (HBM.out _) hb6; have HLM6 := Lib.hid (Lies.below (HLM.out _ rfl) hb6); clear hb6)
    | (go_at_call 12; refine (HS.out _ _ _ b6 HLM6.out).mono ?_; rintro e w8 ⟨rfl, hb8⟩; have b8 := Bl.step b6 hb8; clear hb8)
    | (go_at_call 17; have hq := b8; refine (alive_any _).mono ?_; rintro e w9 ⟨rfl, hb9⟩; have b9 := Bl.step hq hb9; clear hb9 hq))
  go_ret
  exact ⟨rfl, b9⟩

set_option maxHeartbeats 4000000 in
set_option maxRecDepth 100000 in
theorem other_nn (ad : Addr) (n c : Nat) (L : List Nd) (i : Nat) (wh by_ k xn xa xb xp : Int) (w : World) (hn : L.length = n) (h6 : n ≤ 60) (ht : Lies w (some ad) (ndCells L)) (hv : checkF L = 0) (hi : i < n) (hx : L[i]? = some ⟨1, xn, xa, xb, xp⟩) (hok : okK 1 = true) (hk1 : 1 ≤ 1) (hk2 : 1 ≤ 19) (ha1 : 0 ≤ xa) (ha2 : xa ≤ 60) (hb1 : 0 ≤ xb) (hb2 : xb ≤ 60) (hz : ¬ by_ = 0) (hy1 : -100 ≤ by_) (hy2 : by_ ≤ 100) (N : Int) (hN : wrap64 (xn + by_) = N) (hw0 : ¬ wh = 0) (hw1 : ¬ wh = 1) (hw2 : ¬ wh = 2) (v : Int) (hvn : v ≠ 0) (hcm : checkF (L.set i ⟨1, N, xa, xb, xp⟩) = v) :
    Calls Try.prog 8 #[.slice (some ad) n c, .int .i64 i, .int .i64 wh, .int .i64 by_] w fun e w' => e = .returned (.bool true) ∧ Below w.heap.size w w' := by
  have HG := Lib.hid (great_any (some ad) n c w false (decide_eq_false (by omega)))
  have HC := Lib.hid (rcheck_any (some ad) c n L w hn (by unfold maxLen; omega) ht 0 hv)
  have HK := Lib.hid (fun w => show Calls Try.prog 16 #[.int .u8 1] w fun e w' => e = .returned (.tuple #[.int .i64 (cnt 1), .int .i64 0]) ∧ w = w' by have := parts_any 1 w; rwa [show partsN 1 = cnt 1 from partsN_of hok rfl, show partsE 1 = 0 by simp [partsE, hok]] at this)
  have hcn : 0 ≤ cnt 1 := by rcases cnt_vals 1 with h | h | h <;> omega
  obtain ⟨q, hq⟩ : ∃ q, cnt 1 = q := ⟨_, rfl⟩
  rw [hq] at HK hcn
  obtain ⟨M, hM⟩ : ∃ M, L.set i ⟨1, N, xa, xb, xp⟩ = M := ⟨_, rfl⟩
  rw [hM] at hcm
  have hml : M.length = n := by rw [← hM, List.length_set, hn]
  have HCm := Lib.hid (fun (g c1 : Nat) w1 (hl : Lies w1 (some ⟨g, 0, none⟩) (ndCells M)) => show Calls Try.prog 15 #[.slice (some ⟨g, 0, none⟩) n c1] w1 fun e w' => e = .returned (.int .i64 v) ∧ Below w1.heap.size w1 w' by have := check_any (some ⟨g, 0, none⟩) c1 M w1 (by rw [hml]; unfold maxLen; omega) hl v hcm; rwa [hml] at this)
  have HT := Lib.hid ht
  have HX := Lib.hid hx
  have HN5 := Lib.hid (show (ndCells L).length = n * 5 by rw [ndCells_length, hn])
  have HM := Lib.hid hM
  have t0 : (wh == 0) = false := by simpa using hw0
  have t1 : (wh == 1) = false := by simpa using hw1
  have t2 : (wh == 2) = false := by simpa using hw2
  clear hw0 hw1 hw2
  have hne := (bne_iff_ne (a := v) (b := 0)).2 hvn
  clear hvn
  have e0 : (by_ == 0) = false := by simpa using hz
  have j1 : (0 : Int) ≤ i := by omega
  have j2 : (i : Int) < n := by omega
  obtain ⟨i0, hi0, hz0, hz1, hz2⟩ := info_parts nd_info
  clear hn ht hv hx hok hz hq hM hcm hml
  go_enter Try.func8, Try.ntmps8
  go_wp2_with (first
    | (go_at_call 18; refine HG.out.mono ?_; rintro e wx ⟨rfl, rfl⟩)
    | (go_at_call 23; refine HC.out.mono ?_; rintro e w1 ⟨rfl, hb1⟩; have b1 := (Bl.start w).step hb1; have HT1 := Lib.hid (b1.lies HT.out); clear hb1)
    | (at_builtin; refine wpList_append_lies _ rfl (.tmp 44) (.tmp 45) 24 rfl w.heap.size 23 i0 _ 5 40 Try.underlying24 hi0 hz0 hz1 hz2 rfl (by decide) (.slice (some ⟨w1.heap.size, 0, none⟩) 0 0) 0 [] rfl (World.ownsRow_lit (base := w.heap.size) (e := 23) (size := 5) w1 #[] 0 (Bl.size b1) (Nat.zero_le _) rfl) ad n c (ndCells L) rfl ?c1 ?c2 ?c3 ?c4 ?c5 ?c6 ?c7 _ rfl ?_))
  case c1 => exact HN5.out
  case c2 => exact (HT1.out.alloc _).cells
  case c3 => exact nd_one _
  case c4 => omega
  case c5 => unfold maxLen; omega
  case c6 => omega
  case c7 => have := Bl.size b1; simp; omega
  intro g cap w5 ho hg _ _
  have HO5 := Lib.hid (show w5.ownsRow w.heap.size 23 5 (.slice (some ⟨g, 0, none⟩) n cap) n (ndCells L) by simpa using ho)
  have b5 : Bl w w5 := (Below.alloc b1 (Bl.size b1) _).grown hg (by have := Bl.size b1; simp; omega) (by intro j hj; injection hj with hj; change w1.heap.size = j at hj; have := Bl.size b1; omega)
  have hgw := (HO5.out.lt g rfl).1
  clear ho hg b1
  obtain ⟨_, hae, hadl, c0, c1, c2, c3, c4⟩ := (b5.lies HT.out).nd HX.out
  injection hae with hae
  subst hae
  obtain ⟨d0, d1, d2, d3⟩ := own_nd HO5.out HX.out hi
  obtain ⟨_, f0, f1, f2, f3, f4⟩ := own_five HO5.out i hi
  have hlm : ∀ v, v = .int .i64 N → Lies (w5.setCell ⟨g, i * 5 + 1, none⟩ v) (some ⟨g, 0, none⟩) (ndCells M) := by
    intro v hv
    rw [← HM.out]
    exact own_put HO5.out HX.out (by decide) (by rw [hv]; rfl) (by omega)
  have HLM := Lib.hid hlm
  have HBM := Lib.hid (show ∀ v, Bl w (w5.setCell ⟨g, i * 5 + 1, none⟩ v) from fun v => Below.setCell b5 (p := ⟨g, i * 5 + 1, none⟩) hgw v)
  have hcl : ∀ v, (w5.setCell ⟨g, i * 5 + 1, none⟩ v).cell? (ad.add (i * 5)) = some (.int .u8 1) := by
    intro v
    have hadw : ad.block < w.heap.size := by
      have hne : ndCells L ≠ [] := by intro h0; have := HN5.out; rw [h0] at this; simp at this; omega
      rcases HT.out with h0 | ⟨a', h1, h2, _⟩
      · exact absurd h0 hne
      · injection h1 with h1; subst h1; exact h2
    rw [World.cell?_setCell_far _ _ _ _ (by rw [add_block]; show g ≠ ad.block; omega)]
    exact c0
  clear hlm hadl
  go_wp2_with (first
    | (go_at_call 16; refine (HK.out _).mono ?_; rintro e w' ⟨rfl, rfl⟩)
    | (go_at_call 15; have hr := HLM6.out; have hs := b6; refine (HCm.out _ _ _ hr).mono ?_; rintro e w7 ⟨rfl, hb7⟩; have b7 := Bl.step hs hb7; have HLM7 := Lib.hid (Lies.below hr hb7); clear hb7 hr hs)
    | (go_at_call 15; refine (HCm.out _ _ _ (HLM.out _ rfl)).mono ?_; rintro e w6 ⟨rfl, hb6⟩; have b6 := Bl.step (HBM.out _) hb6; have HLM6 := Lib.hid (Lies.below (HLM.out _ rfl) hb6); clear hb6)
    | (go_at_call 12; fail)
    | (go_at_call 17; have hq := b6; refine (alive_any _).mono ?_; rintro e w9 ⟨rfl, hb9⟩; have b9 := Bl.step hq hb9; clear hb9 hq))
  go_ret
  exact ⟨rfl, b9⟩
end Go.Proofs.Ytakpbpabblgobaa
