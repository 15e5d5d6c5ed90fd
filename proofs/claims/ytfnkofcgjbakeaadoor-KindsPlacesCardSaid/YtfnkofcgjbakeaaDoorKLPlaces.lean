/- KindsPlaces walks to true. -/
import Derived.Test.YtfnkofcgjbakeaaDoorKAlive
namespace Go.Proofs.YtfnkofcgjbakeaaDoor.K6
open Go.ChangeShapes Go.WideShapes Go.ChangeAt Go.RowKit N4
set_option linter.unusedVariables false
set_option linter.unusedSimpArgs false
set_option maxRecDepth 100000

/-- A field of a node in a row of nodes. -/
theorem nd_set (M : List Nd) : ∀ (k j : Nat) (x x' : Nd) (v : Value), M[k]? = some x → j < 5 → (ndC x).set j v = ndC x' → (ndCells M).set (k * 5 + j) v = ndCells (M.set k x') := by
  induction M with
  | nil => intro k j x x' v h; simp at h
  | cons t r ih =>
    intro k j x x' v h hj hx
    have e : ∀ (t : Nd) (r : List Nd), ndCells (t :: r) = ndC t ++ ndCells r := fun _ _ => rfl
    have l5 : (ndC t).length = 5 := rfl
    cases k with
    | zero =>
      simp only [List.getElem?_cons_zero, Option.some.injEq] at h
      subst h
      rw [List.set_cons_zero, e, e, Nat.zero_mul, Nat.zero_add, List.set_append_left _ _ (by omega), hx]
    | succ k =>
      rw [List.getElem?_cons_succ] at h
      rw [List.set_cons_succ, e, e, List.set_append_right _ _ (by omega), show (k + 1) * 5 + j - (ndC t).length = k * 5 + j by omega, ih k j x x' v h hj hx]
def mk (L : List Nd) (f : Nd → Nd) (k : Nat) : List Nd := (L.take k).map f ++ L.drop k
theorem mk_zero (L : List Nd) (f : Nd → Nd) : mk L f 0 = L := by simp [mk]
theorem mk_all (L : List Nd) (f : Nd → Nd) {k : Nat} (h : L.length ≤ k) : mk L f k = L.map f := by
  unfold mk; rw [List.take_of_length_le h, List.drop_of_length_le h, List.append_nil]
theorem mk_at (L : List Nd) (f : Nd → Nd) {k : Nat} {x : Nd} (h : L[k]? = some x) : (mk L f k)[k]? = some x ∧ (mk L f k).set k (f x) = mk L f (k + 1) := by
  obtain ⟨hl, e⟩ := List.getElem?_eq_some_iff.1 h
  have h1 : ((L.take k).map f).length = k := by rw [List.length_map, List.length_take]; omega
  unfold mk
  refine ⟨?_, ?_⟩
  · rw [List.getElem?_append_right (by omega), h1, Nat.sub_self, List.getElem?_drop, Nat.add_zero]; exact h
  · rw [List.set_append_right _ _ (by omega), h1, Nat.sub_self, List.drop_eq_getElem_cons hl, e, List.set_cons_zero, (extF_split h).2, List.map_append, List.append_assoc]
    rfl
theorem nd_sets {M : List Nd} {k : Nat} {x : Nd} (h : M[k]? = some x) (lf q : Int) (hx : x.k ≤ 4) :
    ((((ndCells M).set (k * 5 + 4) (.int .i64 q)).set (k * 5) (.int .u8 lf)).set (k * 5 + 1) (.int .i64 0)) = ndCells (M.set k (relf lf q x)) := by
  have hl := (List.getElem?_eq_some_iff.1 h).1
  rw [nd_set M k 4 x ⟨x.k, x.n, x.a, x.b, q⟩ _ h (by decide) rfl]
  have h2 : (M.set k ⟨x.k, x.n, x.a, x.b, q⟩)[k]? = some ⟨x.k, x.n, x.a, x.b, q⟩ := by rw [List.getElem?_set_self hl]
  have e2 := nd_set _ k 0 _ ⟨lf, x.n, x.a, x.b, q⟩ (.int .u8 lf) h2 (by decide) rfl
  rw [Nat.add_zero] at e2
  rw [e2, List.set_set]
  have h3 : (M.set k ⟨lf, x.n, x.a, x.b, q⟩)[k]? = some ⟨lf, x.n, x.a, x.b, q⟩ := by rw [List.getElem?_set_self hl]
  rw [nd_set _ k 1 _ ⟨lf, 0, x.a, x.b, q⟩ (.int .i64 0) h3 (by decide) rfl, List.set_set]
  unfold relf
  rw [if_pos hx]
theorem nd_sets1 {M : List Nd} {k : Nat} {x : Nd} (h : M[k]? = some x) (lf q : Int) (hx : ¬ x.k ≤ 4) :
    ((ndCells M).set (k * 5 + 4) (.int .i64 q)) = ndCells (M.set k (relf lf q x)) := by
  rw [nd_set M k 4 x ⟨x.k, x.n, x.a, x.b, q⟩ _ h (by decide) rfl]
  unfold relf
  rw [if_neg hx]
theorem Bl.setCell {w W : World} (h : Bl w W) {g j : Nat} (hg : w.heap.size ≤ g) (v : Value) : Bl w (W.setCell ⟨g, j, none⟩ v) := Below.setCell h (p := ⟨g, j, none⟩) hg v

theorem pl_great (A : Option Addr) (n c : Nat) (at_ lf : Int) (w : World) (hs : SigT w) (h : 70 < n) :
    Calls Tryd.prog 8 #[.slice A n c, .int .i64 at_, .int .u8 lf] w fun e w' => e = .returned (.bool true) ∧ Below w.heap.size w w' := by
  have HG := Lib.hid (great_any A n c w true (decide_eq_true h))
  have HS := Lib.hid hs
  clear h hs
  go_enter Tryd.func8, Tryd.ntmps8
  go_wp2_with (first
    | (go_at_call 18; refine HG.out.mono ?_; rintro e w1 ⟨rfl, rfl⟩)
    | (go_at_call 17; refine (alive_any _ HS.out).mono ?_; rintro e w1 ⟨rfl, hb⟩))
  go_ret
  exact ⟨rfl, hb⟩
theorem pl_bad (A : Option Addr) (n c : Nat) (L : List Nd) (at_ lf : Int) (w : World) (hs : SigT w) (hn : L.length = n) (h7 : n ≤ 70) (ht : Lies w A (ndCells L)) (h : checkF L ≠ 0) :
    Calls Tryd.prog 8 #[.slice A n c, .int .i64 at_, .int .u8 lf] w fun e w' => e = .returned (.bool true) ∧ Below w.heap.size w w' := by
  have HG := Lib.hid (great_any A n c w false (decide_eq_false (by omega)))
  obtain ⟨v, hv⟩ : ∃ v, checkF L = v := ⟨_, rfl⟩
  have HC := Lib.hid (rcheck_any A c n L w hn (by unfold maxLen; omega) ht v hv)
  have HS := Lib.hid hs
  rw [hv] at h
  have hne := (bne_iff_ne (a := v) (b := 0)).2 h
  clear h hv hn ht h7 hs
  go_enter Tryd.func8, Tryd.ntmps8
  go_wp2_with (first
    | (go_at_call 18; refine HG.out.mono ?_; rintro e w1 ⟨rfl, rfl⟩)
    | (go_at_call 24; refine HC.out.mono ?_; rintro e w1 ⟨rfl, hb1⟩)
    | (go_at_call 17; refine (alive_any _ (HS.out.stays hb1)).mono ?_; rintro e w2 ⟨rfl, hb⟩))
  go_ret
  exact ⟨rfl, hb1.trans (hb.mono hb1.size)⟩
theorem pl_a1 (A : Option Addr) (n c : Nat) (L : List Nd) (at_ lf : Int) (w : World) (hs : SigT w) (hn : L.length = n) (h7 : n ≤ 70) (ht : Lies w A (ndCells L)) (hv : checkF L = 0) (ha : at_ < 0) :
    Calls Tryd.prog 8 #[.slice A n c, .int .i64 at_, .int .u8 lf] w fun e w' => e = .returned (.bool true) ∧ Below w.heap.size w w' := by
  have HG := Lib.hid (great_any A n c w false (decide_eq_false (by omega)))
  have HC := Lib.hid (rcheck_any A c n L w hn (by unfold maxLen; omega) ht 0 hv)
  have HS := Lib.hid hs
  
  clear hv hn ht h7 hs
  go_enter Tryd.func8, Tryd.ntmps8
  go_wp2_with (first
    | (go_at_call 18; refine HG.out.mono ?_; rintro e w1 ⟨rfl, rfl⟩)
    | (go_at_call 24; refine HC.out.mono ?_; rintro e w1 ⟨rfl, hb1⟩)
    | (go_at_call 17; refine (alive_any _ (HS.out.stays hb1)).mono ?_; rintro e w2 ⟨rfl, hb⟩))
  go_ret
  exact ⟨rfl, hb1.trans (hb.mono hb1.size)⟩
theorem pl_a2 (A : Option Addr) (n c : Nat) (L : List Nd) (at_ lf : Int) (w : World) (hs : SigT w) (hn : L.length = n) (h7 : n ≤ 70) (ht : Lies w A (ndCells L)) (hv : checkF L = 0) (h0 : 0 ≤ at_) (ha : 400 < at_) :
    Calls Tryd.prog 8 #[.slice A n c, .int .i64 at_, .int .u8 lf] w fun e w' => e = .returned (.bool true) ∧ Below w.heap.size w w' := by
  have HG := Lib.hid (great_any A n c w false (decide_eq_false (by omega)))
  have HC := Lib.hid (rcheck_any A c n L w hn (by unfold maxLen; omega) ht 0 hv)
  have HS := Lib.hid hs
  have f1 : ¬ at_ < 0 := (by omega)
  clear hv hn ht h7 hs
  go_enter Tryd.func8, Tryd.ntmps8
  go_wp2_with (first
    | (go_at_call 18; refine HG.out.mono ?_; rintro e w1 ⟨rfl, rfl⟩)
    | (go_at_call 24; refine HC.out.mono ?_; rintro e w1 ⟨rfl, hb1⟩)
    | (go_at_call 17; refine (alive_any _ (HS.out.stays hb1)).mono ?_; rintro e w2 ⟨rfl, hb⟩))
  go_ret
  exact ⟨rfl, hb1.trans (hb.mono hb1.size)⟩
theorem pl_l1 (A : Option Addr) (n c : Nat) (L : List Nd) (at_ lf : Int) (w : World) (hs : SigT w) (hn : L.length = n) (h7 : n ≤ 70) (ht : Lies w A (ndCells L)) (hv : checkF L = 0) (h0 : 0 ≤ at_) (h1 : at_ ≤ 400) (ha : lf < 1) :
    Calls Tryd.prog 8 #[.slice A n c, .int .i64 at_, .int .u8 lf] w fun e w' => e = .returned (.bool true) ∧ Below w.heap.size w w' := by
  have HG := Lib.hid (great_any A n c w false (decide_eq_false (by omega)))
  have HC := Lib.hid (rcheck_any A c n L w hn (by unfold maxLen; omega) ht 0 hv)
  have HS := Lib.hid hs
  have f1 : ¬ at_ < 0 := (by omega); have f2 : ¬ 400 < at_ := (by omega)
  clear hv hn ht h7 hs
  go_enter Tryd.func8, Tryd.ntmps8
  go_wp2_with (first
    | (go_at_call 18; refine HG.out.mono ?_; rintro e w1 ⟨rfl, rfl⟩)
    | (go_at_call 24; refine HC.out.mono ?_; rintro e w1 ⟨rfl, hb1⟩)
    | (go_at_call 17; refine (alive_any _ (HS.out.stays hb1)).mono ?_; rintro e w2 ⟨rfl, hb⟩))
  go_ret
  exact ⟨rfl, hb1.trans (hb.mono hb1.size)⟩
theorem pl_l2 (A : Option Addr) (n c : Nat) (L : List Nd) (at_ lf : Int) (w : World) (hs : SigT w) (hn : L.length = n) (h7 : n ≤ 70) (ht : Lies w A (ndCells L)) (hv : checkF L = 0) (h0 : 0 ≤ at_) (h1 : at_ ≤ 400) (h2 : 1 ≤ lf) (ha : 4 < lf) :
    Calls Tryd.prog 8 #[.slice A n c, .int .i64 at_, .int .u8 lf] w fun e w' => e = .returned (.bool true) ∧ Below w.heap.size w w' := by
  have HG := Lib.hid (great_any A n c w false (decide_eq_false (by omega)))
  have HC := Lib.hid (rcheck_any A c n L w hn (by unfold maxLen; omega) ht 0 hv)
  have HS := Lib.hid hs
  have f1 : ¬ at_ < 0 := (by omega); have f2 : ¬ 400 < at_ := (by omega); have f3 : ¬ lf < 1 := (by omega)
  clear hv hn ht h7 hs
  go_enter Tryd.func8, Tryd.ntmps8
  go_wp2_with (first
    | (go_at_call 18; refine HG.out.mono ?_; rintro e w1 ⟨rfl, rfl⟩)
    | (go_at_call 24; refine HC.out.mono ?_; rintro e w1 ⟨rfl, hb1⟩)
    | (go_at_call 17; refine (alive_any _ (HS.out.stays hb1)).mono ?_; rintro e w2 ⟨rfl, hb⟩))
  go_ret
  exact ⟨rfl, hb1.trans (hb.mono hb1.size)⟩
set_option maxHeartbeats 4000000 in
theorem pl_main (ad : Addr) (n c : Nat) (L : List Nd) (E : List Ex) (at_ lf : Int) (t : Bool) (a v : Int) (w : World) (hs : SigT w) (hn : L.length = n) (ht : Lies w (some ad) (ndCells L)) (hg : Good4 L E) (h0 : 1 ≤ n) (ha : 0 ≤ at_) (ha2 : at_ ≤ 400) (hl1 : 1 ≤ lf) (hl4 : lf ≤ 4) (ho : ofF L = (t, a, v)) :
    Calls Tryd.prog 8 #[.slice (some ad) n c, .int .i64 at_, .int .u8 lf] w fun e w' => e = .returned (.bool true) ∧ Below w.heap.size w w' := by
  have hv := checkF_ok hg
  have h60 : n ≤ 60 := by rw [← hn]; exact hg.2.1
  have HG := Lib.hid (great_any (some ad) n c w false (decide_eq_false (by omega)))
  have HC := Lib.hid (rcheck_any (some ad) c n L w hn (by unfold maxLen; omega) ht 0 hv)
  have HO1 := Lib.hid (fun W (hb : Bl w W) => of_any (some ad) c n L W (hb.sig hs) hn (by unfold maxLen; omega) (hb.lies ht) t a v ho)
  have HO2 := Lib.hid (fun A2 c2 W (hb : Bl w W) hl => of_any A2 c2 n (L.map (relf lf at_)) W (hb.sig hs) (by rw [List.length_map, hn]) (by unfold maxLen; omega) hl t a v ((relf_of hl1 hl4 ha ha2 hg).trans ho))
  have HS := Lib.hid hs
  have HT := Lib.hid ht
  have HN := Lib.hid hn
  have HN5 := Lib.hid (show (ndCells L).length = n * 5 by rw [ndCells_length, hn])
  obtain ⟨i0, hi, hz0, hz1, hz2⟩ := info_parts nd_info
  have f1 : ¬ at_ < 0 := by omega
  have f2 : ¬ 400 < at_ := by omega
  have f3 : ¬ lf < 1 := by omega
  have f4 : ¬ 4 < lf := by omega
  clear hn ht hv hg hs ho
  go_enter Tryd.func8, Tryd.ntmps8
  go_wp2_with (first
    | (go_at_call 18; refine HG.out.mono ?_; rintro e w1 ⟨rfl, rfl⟩)
    | (go_at_call 24; refine HC.out.mono ?_; rintro e w1 ⟨rfl, hb1⟩; have b1 := (Bl.start w).step hb1; have HT1 := Lib.hid (b1.lies HT.out); clear hb1)
    | (at_builtin; refine wpList_append_lies _ rfl (.tmp 39) (.tmp 40) 22 rfl w.heap.size 29 i0 _ 5 40 Tryd.underlying22 hi hz0 hz1 hz2 rfl (by decide) (.slice (some ⟨w1.heap.size, 0, none⟩) 0 0) 0 [] rfl (World.ownsRow_lit (base := w.heap.size) (e := 29) (size := 5) w1 #[] 0 (Bl.size b1) (Nat.zero_le _) rfl) ad n c (ndCells L) rfl ?c1 ?c2 ?c3 ?c4 ?c5 ?c6 ?c7 _ rfl ?_))
  case c1 => exact HN5.out
  case c2 => exact (HT1.out.alloc _).cells
  case c3 => exact nd_one _
  case c4 => omega
  case c5 => unfold maxLen; omega
  case c6 => omega
  case c7 => have := Bl.size b1; simp; omega
  intro g cap w5 ho hg _ _
  have HO5 := Lib.hid (show w5.ownsRow w.heap.size 29 5 (.slice (some ⟨g, 0, none⟩) n cap) n (ndCells (mk L (relf lf at_) 0)) by rw [mk_zero]; simpa using ho)
  have HB5 := Lib.hid (show Bl w w5 from (Below.alloc b1 (Bl.size b1) _).grown hg (by have := Bl.size b1; simp; omega) (by intro j hj; injection hj with hj; change w1.heap.size = j at hj; have := Bl.size b1; omega))
  have hgw := (HO5.out.lt g rfl).1
  clear ho hg b1
  go_wp2
  go_loopw [8] (fun iv wr => ∃ k : Nat, iv = .int .i64 k ∧ k ≤ n ∧ wr.ownsRow w.heap.size 29 5 (.slice (some ⟨g, 0, none⟩) n cap) n (ndCells (mk L (relf lf at_) k)) ∧ Bl w wr) (fun iv _ => n - (intOf iv).toNat)
  case atStart => exact ⟨0, rfl, Nat.zero_le _, HO5.out, HB5.out⟩
  case round =>
    obtain ⟨k, rfl, hk, hown, hb⟩ := hrel
    have HO := Lib.hid hown
    have HB := Lib.hid hb
    clear hown hb HO5 HB5
    by_cases hlt : k < n
    · obtain ⟨y, hy⟩ : ∃ y, L[k]? = some y := ⟨_, List.getElem?_eq_getElem (by rw [HN.out]; exact hlt)⟩
      have HM := Lib.hid (mk_at L (relf lf at_) hy)
      have d0 : wr.cell? ⟨g, k * 5, none⟩ = some (.int .u8 y.k) := (HO.out.cellAt (k * 5) (by omega)).trans (ndCells_at _ k y HM.out.1 0 (by decide))
      have HY := Lib.hid hy
      clear hy
      obtain ⟨⟨v0, v1, v2, v3, v4, _, d1, d2', d3, d4⟩, e0, e1, e2, e3, e4⟩ := own_five HO.out k hlt
      clear d2' d3 e2 e3
      by_cases hk4 : y.k ≤ 4
      · go_wp2
        go_roundw
        case rel =>
          refine ⟨k + 1, by go_num, by omega, ?_, ((HB.out.setCell hgw _).setCell hgw _).setCell hgw _⟩
          rw [← HM.out.2, ← nd_sets HM.out.1 lf at_ hk4]
          exact ((((HO.out.stored (k * 5 + 4) _).1).stored (k * 5) _).1.stored (k * 5 + 1) _).1
        case measure => simp [intOf]; omega
      · go_wp2
        go_roundw
        case rel =>
          refine ⟨k + 1, by go_num, by omega, ?_, HB.out.setCell hgw _⟩
          rw [← HM.out.2, ← nd_sets1 HM.out.1 lf at_ hk4]
          exact (HO.out.stored (k * 5 + 4) _).1
        case measure => simp [intOf]; omega
    · obtain rfl : k = n := by omega
      have HL := Lib.hid (show Lies wr (some ⟨g, 0, none⟩) (ndCells (L.map (relf lf at_))) by
        have := HO.out
        rw [mk_all L _ (by rw [HN.out]; exact Nat.le_refl _)] at this
        exact Lies.of_own this (by intro h; omega))
      have b5 := HB.out
      cases t
      all_goals
        go_wp2_with (first
          | (go_at_call 12; (with_reducible refine (HO1.out _ b5).mono ?_); rintro e w6 ⟨rfl, hb6⟩; have b6 := b5.step hb6; have HL6 := Lib.hid (HL.out.below hb6); clear hb6 b5)
          | (go_at_call 12; (with_reducible refine (HO2.out _ _ _ b6 HL6.out).mono ?_); rintro e w7 ⟨rfl, hb7⟩; have b7 := b6.step hb7; clear hb7 b6)
          | (go_at_call 17; refine (alive_any _ (b7.sig HS.out)).mono ?_; rintro e w8 ⟨rfl, hb8⟩; have b8 := b7.step hb8; clear hb8))
        go_ret
        exact ⟨rfl, b8⟩
theorem KindsPlaces_walk (A : Option Addr) (c : Nat) (L : List Nd) (at_ lf : Int) (w : World) (hL : L.length ≤ maxLen) (ht : Lies w A (ndCells L)) (hnc : L.length ≤ c) (hA : (A = none ∧ c = 0 ∧ L = []) ∨ ∃ ad, A = some ad) (_ : (Lit.int .i64 at_).wf = true) (_ : (Lit.int .u8 lf).wf = true) (hs : SigT w) :
    Calls Tryd.prog 8 #[.slice A L.length c, .int .i64 at_, .int .u8 lf] w fun e w' => e = .returned (.bool true) ∧ Below w.heap.size w w' := by
  by_cases h7 : 70 < L.length
  · exact pl_great A _ c at_ lf w hs h7
  by_cases hv : checkF L = 0
  rotate_left
  · exact pl_bad A _ c L at_ lf w hs rfl (by omega) ht hv
  by_cases h1 : at_ < 0
  · exact pl_a1 A _ c L at_ lf w hs rfl (by omega) ht hv h1
  by_cases h2 : 400 < at_
  · exact pl_a2 A _ c L at_ lf w hs rfl (by omega) ht hv (by omega) h2
  by_cases h3 : lf < 1
  · exact pl_l1 A _ c L at_ lf w hs rfl (by omega) ht hv (by omega) (by omega) h3
  by_cases h4 : 4 < lf
  · exact pl_l2 A _ c L at_ lf w hs rfl (by omega) ht hv (by omega) (by omega) (by omega) h4
  obtain ⟨E, hg⟩ := checkF_zero hv
  have h0 := List.length_pos_iff.2 hg.1
  obtain ⟨⟨t, a, v⟩, ho⟩ : ∃ r, ofF L = r := ⟨_, rfl⟩
  rcases hA with ⟨_, _, rfl⟩ | ⟨ad, rfl⟩
  · simp at h0
  · exact pl_main ad _ c L E at_ lf t a v w hs rfl ht hg h0 (by omega) (by omega) (by omega) (by omega) ho
end Go.Proofs.YtfnkofcgjbakeaaDoor.K6
