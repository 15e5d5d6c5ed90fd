/- Contracts of the reference's Of, All, has, Uses and Same. -/
import Derived.Test.YtajchaknfkfljaaDoorVRef
import Derived.Test.YtajchaknfkfljaaDoorKRef2
namespace Go.Proofs.YtajchaknfkfljaaDoor.V7
open Go.ChangeShapes Go.WideShapes Go.ChangeAt Go.RowKit N4 K6
set_option linter.unusedVariables false
set_option linter.unusedSimpArgs false
set_option maxRecDepth 100000

theorem rofe_any (A : Option Addr) (c n : Nat) (L : List Nd) (w : World) (hn : L.length = n) (hL : n ≤ maxLen) (ht : Lies w A (ndCells L)) (v : Int) (h : errF L = v) :
    Calls Tryd.prog 23 #[.slice A n c] w fun e w' => (∃ t a, e = .returned (.tuple #[.bool t, .int .i64 a, .int .i64 v])) ∧ Below w.heap.size w w' := by
  obtain ⟨t, a, v', z⟩ : ∃ t a v', ofF L = (t, a, v') := ⟨_, _, _, rfl⟩
  obtain rfl : v' = v := by rw [← h]; unfold errF; rw [z]
  exact (rof_any A c n L w hn hL ht t a v' z).mono fun e w' h => ⟨⟨t, a, h.1⟩, h.2⟩
theorem rofv_bad (A : Option Addr) (c n : Nat) (L : List Nd) (r : Rc) (w : World) (hn : L.length = n) (hL : n ≤ maxLen) (ht : Lies w A (ndCells L)) (v : Int) (h : errF L = v) (h0 : v ≠ 0) :
    Calls Tryd.prog 19 #[.slice A n c, rcV r] w fun e w' => e = .returned (.tuple #[.int .i64 0, .int .i64 v]) ∧ Below w.heap.size w w' := by
  have HO := Lib.hid (fun W (hb : Below w.heap.size w W) => rofe_any A c n L W hn hL (ht.below hb) v h)
  have hne := (bne_iff_ne (a := v) (b := 0)).2 h0
  have hb0 := fun o => (Below.refl w.heap.size w).alloc (Nat.le_refl _) o
  clear hn hL ht h h0
  go_enter Tryd.func19, Tryd.ntmps19
  go_wp2_with (go_at_call 23; refine (HO.out _ (hb0 _)).mono ?_; rintro e w1 ⟨⟨t, a, rfl⟩, hb⟩)
  go_ret2
  exact ⟨rfl, (hb0 _).trans (hb.mono (by simp))⟩
theorem rofv_ok (A : Option Addr) (c m : Nat) (L : List Nd) (E : List Ex) (r : Rc) (w : World) (hr : RcIn r) (hN : NIn L) (hn : L.length = m + 1) (ht : Lies w A (ndCells L)) (hg : Good4 L E) (h : errF L = 0) (v : Int) (hv : lastV r L = v) :
    Calls Tryd.prog 19 #[.slice A (m + 1) c, rcV r] w fun e w' => e = .returned (.tuple #[.int .i64 v, .int .i64 0]) ∧ Below w.heap.size w w' := by
  have h60 : m + 1 ≤ 60 := by rw [← hn]; exact hg.2.1
  have HO := Lib.hid (fun W (hb : Below w.heap.size w W) => rofe_any A c (m + 1) L W hn (by unfold maxLen; omega) (ht.below hb) 0 h)
  have hlv : getV (valsF r L) m = v := by rw [← hv]; unfold lastV; rw [hn, show (((m + 1 : Nat) : Int) - 1) = (m : Int) by omega]
  have HV := Lib.hid (fun W (hb : Below w.heap.size w W) => rval_any A c (m + 1) L E r hr hN hg.ext hn m (by omega) W (ht.below hb))
  rw [hlv] at HV
  have hb0 := fun o => (Below.refl w.heap.size w).alloc (Nat.le_refl _) o
  have e1 : ((m + 1 : Nat) : Int) - 1 = m := by omega
  obtain ⟨rk, rt, rv⟩ := r
  clear hr hN hn ht hg h hv hlv
  go_enter Tryd.func19, Tryd.ntmps19
  go_wp2_with (first
    | (go_at_call 23; refine (HO.out _ (hb0 _)).mono ?_; rintro e w1 ⟨⟨t, a, rfl⟩, hb⟩; have HB := Lib.hid ((hb0 _).trans (hb.mono (by simp))); have r0 : w1.cell? ⟨w.heap.size, 0, none⟩ = some (.int .i64 rk) := (by rw [hb.cell (p := ⟨w.heap.size, 0, none⟩) (by simp)]; go_simp); have r1 : w1.cell? ⟨w.heap.size, 1, none⟩ = some (.int .i64 rt) := (by rw [hb.cell (p := ⟨w.heap.size, 1, none⟩) (by simp)]; go_simp); have r2 : w1.cell? ⟨w.heap.size, 2, none⟩ = some (.int .i64 rv) := (by rw [hb.cell (p := ⟨w.heap.size, 2, none⟩) (by simp)]; go_simp); clear hb)
    | (go_at_call 33; refine (HV.out _ HB.out).mono ?_; rintro e w2 ⟨rfl, hb2⟩))
  go_ret2
  exact ⟨rfl, HB.out.trans (hb2.mono HB.out.size)⟩
theorem rallv_bad (A : Option Addr) (c n : Nat) (L : List Nd) (r : Rc) (w : World) (hn : L.length = n) (hL : n ≤ maxLen) (ht : Lies w A (ndCells L)) (v : Int) (h : errF L = v) (h0 : v ≠ 0) :
    Calls Tryd.prog 20 #[.slice A n c, rcV r] w fun e w' => e = .returned (.tuple #[.slice none 0 0, .int .i64 v]) ∧ Below w.heap.size w w' := by
  have HO := Lib.hid (fun W (hb : Below w.heap.size w W) => rofe_any A c n L W hn hL (ht.below hb) v h)
  have hne := (bne_iff_ne (a := v) (b := 0)).2 h0
  have hb0 := fun o => (Below.refl w.heap.size w).alloc (Nat.le_refl _) o
  clear hn hL ht h h0
  go_enter Tryd.func20, Tryd.ntmps20
  go_wp2_with (go_at_call 23; refine (HO.out _ (hb0 _)).mono ?_; rintro e w1 ⟨⟨t, a, rfl⟩, hb⟩)
  go_ret2
  exact ⟨rfl, (hb0 _).trans (hb.mono (by simp))⟩
def RVPost (w : World) (vs : List Int) (n : Nat) (e : Ending) (w' : World) : Prop :=
  ∃ A c, e = .returned (.tuple #[.slice A n c, .int .i64 0]) ∧ Lies w' A (iCells vs) ∧ Below w.heap.size w w'
theorem vals_cells {r : Rc} {L : List Nd} {E : List Ex} (hE : extF L = some E) {k : Nat} (hk : k < L.length) : iCells ((valsF r L).take (k + 1)) = iCells ((valsF r L).take k) ++ [.int .i64 (getV (valsF r L) k)] := by
  have hx : (valsF r L)[k]? = some ((valsF r L)[k]'(by rw [vals_length]; exact hk)) := List.getElem?_eq_getElem _
  rw [getV_at hx, List.take_succ_eq_append_getElem (by rw [vals_length]; exact hk), iCells_snoc]
set_option maxHeartbeats 2000000 in
theorem rallv_ok (A : Option Addr) (c n : Nat) (L : List Nd) (E : List Ex) (r : Rc) (w : World) (hr : RcIn r) (hNI : NIn L) (hn : L.length = n) (ht : Lies w A (ndCells L)) (hg : Good4 L E) (h : errF L = 0) :
    Calls Tryd.prog 20 #[.slice A n c, rcV r] w (RVPost w (valsF r L) n) := by
  have h60 : n ≤ 60 := by rw [← hn]; exact hg.2.1
  have HOF := Lib.hid (fun W (hb : Below w.heap.size w W) => rofe_any A c n L W hn (by unfold maxLen; omega) (ht.below hb) 0 h)
  have HVA := Lib.hid (fun k (hk : k < n) W (hb : Below w.heap.size w W) => rval_any A c n L E r hr hNI hg.ext hn k hk W (ht.below hb))
  have HX := Lib.hid (fun k (hk : k < L.length) => vals_cells (r := r) hg.ext hk)
  have HN := Lib.hid hn
  have hb0 := fun o => (Below.refl w.heap.size w).alloc (Nat.le_refl _) o
  obtain ⟨i0, hi, hz0, hz1, hz2⟩ := info_parts i64_info
  obtain ⟨rk, rt, rv⟩ := r
  clear hr hNI hn ht h hg
  go_enter Tryd.func20, Tryd.ntmps20
  go_wp2_with (go_at_call 23; refine (HOF.out _ (hb0 _)).mono ?_; rintro e w1 ⟨⟨t, a, rfl⟩, hb⟩; have HB0 := Lib.hid ((hb0 _).trans (hb.mono (by simp))); have HR := Lib.hid (show w1.cell? ⟨w.heap.size, 0, none⟩ = some (.int .i64 rk) ∧ w1.cell? ⟨w.heap.size, 1, none⟩ = some (.int .i64 rt) ∧ w1.cell? ⟨w.heap.size, 2, none⟩ = some (.int .i64 rv) ∧ w.heap.size < w1.heap.size from ⟨by rw [hb.cell (p := ⟨w.heap.size, 0, none⟩) (by simp)]; go_simp, by rw [hb.cell (p := ⟨w.heap.size, 1, none⟩) (by simp)]; go_simp, by rw [hb.cell (p := ⟨w.heap.size, 2, none⟩) (by simp)]; go_simp, by have := hb.size; simp at this; omega⟩); clear hb HOF)
  go_loopw [9, 10] (fun l iv wr => ∃ k : Nat, iv = .int .i64 k ∧ k ≤ n ∧ wr.ownsRow w1.heap.size 2 1 l k (iCells ((valsF ⟨rk, rt, rv⟩ L).take k)) ∧ Below w1.heap.size w1 wr) (fun _ iv _ => n - (intOf iv).toNat)
  case atStart => exact ⟨0, rfl, Nat.zero_le _, World.ownsRow_nil _ _ _ _, Below.refl _ _⟩
  case round =>
    obtain ⟨k, rfl, hk, hown, hb⟩ := hrel
    obtain ⟨A', c', rfl, hkc, _⟩ := own_form hown
    have HO := Lib.hid hown
    have HB := Lib.hid hb
    clear hown hb
    by_cases hlt : k < n
    · have HXX := Lib.hid (HX.out k (by rw [HN.out]; exact hlt))
      have HBB := Lib.hid (HB0.out.trans (HB.out.mono HB0.out.size))
      have HBR := Lib.hid (fun o => HB.out.cell (p := ⟨w.heap.size, o, none⟩) HR.out.2.2.2)
      have r0 : wr.cell? ⟨w.heap.size, 0, none⟩ = some (.int .i64 rk) := by rw [HBR.out]; exact HR.out.1
      have r1 : wr.cell? ⟨w.heap.size, 1, none⟩ = some (.int .i64 rt) := by rw [HBR.out]; exact HR.out.2.1
      have r2 : wr.cell? ⟨w.heap.size, 2, none⟩ = some (.int .i64 rv) := by rw [HBR.out]; exact HR.out.2.2.1
      have hwr : w.heap.size < wr.heap.size := Nat.lt_of_lt_of_le HR.out.2.2.2 HB.out.size
      obtain ⟨v, hv⟩ : ∃ v, getV (valsF ⟨rk, rt, rv⟩ L) k = v := ⟨_, rfl⟩
      have HV := Lib.hid (HVA.out k hlt wr HBB.out)
      rw [hv] at HXX HV
      clear hv HBR
      go_wp2_with (first
        | (go_at_call 33; refine HV.out.mono ?_; rintro e w3 ⟨rfl, hb2⟩; have HO3 := Lib.hid (own_below HO.out hb2); have HB3 := Lib.hid (HB.out.trans (hb2.mono HB.out.size)); clear hb2)
        | (at_builtin; refine wpList_append_lies _ rfl (.tmp 26) (.tmp 31) 27 rfl w1.heap.size 2 i0 _ 1 8 Tryd.underlying27 hi hz0 hz1 hz2 rfl (by decide) _ k (iCells ((valsF ⟨rk, rt, rv⟩ L).take k)) rfl (HO3.out.alloc _) ⟨w3.heap.size, 0, none⟩ 1 1 [.int .i64 v] rfl rfl ?pa1 ?pa2 (by decide) ?pa3 ?pa4 ?pa5 (w3.heap.size + 1) ?pa6 ?_))
      case pa1 => exact new_one w3 _ rfl _ _
      case pa2 => intro u hu; simp only [List.mem_cons, List.not_mem_nil, or_false] at hu; rcases hu with rfl; rfl
      case pa3 => unfold maxLen; omega
      case pa4 => omega
      case pa5 => have := HB3.out.size; simp; omega
      case pa6 => simp
      intro g cap w5 ho hg _ _
      have HO5 := Lib.hid ho
      have HB5 := Lib.hid (show Below w1.heap.size w1 w5 from (HB3.out.alloc HB3.out.size _).grown hg (by have := HB3.out.size; simp; omega) (fun j hj => (HO3.out.lt j hj).1))
      clear ho hg
      go_wp2
      go_roundw
      case rel =>
        refine ⟨k + 1, by go_num, by omega, ?_, HB5.out⟩
        rw [HXX.out]
        exact HO5.out
      case measure => simp [intOf]; omega
    · obtain rfl : k = n := by omega
      go_wp2
      go_ret2
      refine ⟨A', c', rfl, ?_, HB0.out.trans (HB.out.mono HB0.out.size)⟩
      have := HO.out
      rw [List.take_of_length_le (by rw [vals_length, HN.out]; exact Nat.le_refl _)] at this
      exact Lies.of_own this (by intro h0; exact List.eq_nil_of_length_eq_zero (by have := this.1; omega))

/-! ### has, Uses -/
set_option maxHeartbeats 1000000 in
theorem rhas_any (A : Option Addr) (c n : Nat) (L : List Nd) (q : Int) (w : World) (hn : L.length = n) (hL : n ≤ maxLen) (ht : Lies w A (ndCells L)) (b : Bool) (hb : usesF L q = b) :
    Calls Tryd.prog 34 #[.slice A n c, .int .u8 q] w fun e w' => e = .returned (.bool b) ∧ Below w.heap.size w w' := by
  have HT := Lib.hid ht
  have HN := Lib.hid hn
  have HU := Lib.hid hb
  unfold maxLen at hL
  clear hn ht hb
  go_enter Tryd.func34, Tryd.ntmps34
  go_wp2
  go_loopw [5] (fun i wr => ∃ k : Nat, i = .int .i64 k ∧ k ≤ n ∧ Hid (NoneTo L q k) ∧ Hid (Below w.heap.size w wr)) (fun i _ => n - (intOf i).toNat)
  case atStart => exact ⟨0, rfl, Nat.zero_le _, Lib.hid (fun j x h => by omega), Lib.hid (Below.refl _ _)⟩
  case round =>
    obtain ⟨k, rfl, hk, HF, HB⟩ := hrel
    by_cases hlt : k < n
    · obtain ⟨x, hx⟩ : ∃ x, L[k]? = some x := ⟨_, List.getElem?_eq_getElem (by rw [HN.out]; exact hlt)⟩
      have HL := Lib.hid hx
      obtain ⟨ad, rfl, hadl, c0, c1, c2, c3, c4⟩ := (HT.out.below HB.out).nd hx
      have hab : (ad.add (k * 5)).block < wr.heap.size := by rw [add_block]; exact hadl
      clear hx hadl
      cases hb : (x.k == q)
      · have HQ := Lib.hid hb
        go_wp2
        go_roundw
        case rel => exact ⟨k + 1, by go_num, by omega, Lib.hid (HF.out.step HL.out HQ.out), HB⟩
        case measure => simp [intOf]; omega
      · have HQ := Lib.hid hb
        go_wp2
        go_ret
        exact ⟨ret_bool' (by rw [← HU.out, uses_mem (List.mem_of_getElem? HL.out) (by simpa using HQ.out)]), HB.out⟩
    · obtain rfl : k = n := by omega
      go_wp2
      go_ret
      exact ⟨ret_bool' (by rw [← HU.out, HF.out.all HN.out]), HB.out⟩
theorem ruses_bad (A : Option Addr) (c n : Nat) (L : List Nd) (w : World) (hn : L.length = n) (hL : n ≤ maxLen) (ht : Lies w A (ndCells L)) (v : Int) (h : errF L = v) (h0 : v ≠ 0) :
    Calls Tryd.prog 21 #[.slice A n c] w fun e w' => e = .returned (.tuple #[.bool false, .bool false, .bool false, .int .i64 v]) ∧ Below w.heap.size w w' := by
  have HO := Lib.hid (rofe_any A c n L w hn hL ht v h)
  have hne := (bne_iff_ne (a := v) (b := 0)).2 h0
  clear hn hL ht h h0
  go_enter Tryd.func21, Tryd.ntmps21
  go_wp2_with (go_at_call 23; refine HO.out.mono ?_; rintro e w1 ⟨⟨t, a, rfl⟩, hb⟩)
  refine bodyPost_ret (v := .tuple #[.bool false, .bool false, .bool false, .int .i64 v]) (by simp [results, Tryd.results21, go_sem]) rfl ?_
  exact ⟨rfl, hb⟩
theorem ruses_ok (A : Option Addr) (c n : Nat) (L : List Nd) (w : World) (hn : L.length = n) (hL : n ≤ maxLen) (ht : Lies w A (ndCells L)) (h : errF L = 0) (b2 b3 b4 : Bool) (h2 : usesF L 2 = b2) (h3 : usesF L 3 = b3) (h4 : usesF L 4 = b4) :
    Calls Tryd.prog 21 #[.slice A n c] w fun e w' => e = .returned (.tuple #[.bool b2, .bool b3, .bool b4, .int .i64 0]) ∧ Below w.heap.size w w' := by
  have HO := Lib.hid (rofe_any A c n L w hn hL ht 0 h)
  have HH := Lib.hid (fun W (hb : Below w.heap.size w W) q b hq => rhas_any A c n L q W hn hL (ht.below hb) b hq)
  have H2 := Lib.hid (fun W hb => HH.out W hb 2 b2 h2)
  have H3 := Lib.hid (fun W hb => HH.out W hb 3 b3 h3)
  have H4 := Lib.hid (fun W hb => HH.out W hb 4 b4 h4)
  clear hn hL ht h h2 h3 h4 HH
  go_enter Tryd.func21, Tryd.ntmps21
  go_wp2_with (first
    | (go_at_call 23; refine HO.out.mono ?_; rintro e w1 ⟨⟨t, a, rfl⟩, hb⟩; have B1 := Lib.hid hb; clear hb)
    | (go_at_call 34; (with_reducible refine (H2.out _ B1.out).mono ?_); rintro e w2 ⟨rfl, hb⟩; have B2 := Lib.hid (B1.out.trans (hb.mono B1.out.size)); clear hb)
    | (go_at_call 34; (with_reducible refine (H3.out _ B2.out).mono ?_); rintro e w3 ⟨rfl, hb⟩; have B3 := Lib.hid (B2.out.trans (hb.mono B2.out.size)); clear hb)
    | (go_at_call 34; (with_reducible refine (H4.out _ B3.out).mono ?_); rintro e w4 ⟨rfl, hb⟩; have B4 := Lib.hid (B3.out.trans (hb.mono B3.out.size)); clear hb))
  refine bodyPost_ret (v := .tuple #[.bool b2, .bool b3, .bool b4, .int .i64 0]) (by simp [results, Tryd.results21, go_sem]) rfl ?_
  exact ⟨rfl, B4.out⟩
set_option maxHeartbeats 1000000 in
/-- Same, of the same numbers. -/
theorem rsame_same (A A' : Option Addr) (n c c' : Nat) (vs : List Int) (w : World) (hn : vs.length = n) (hL : n ≤ 1000) (ht : Lies w A (iCells vs)) (ht' : Lies w A' (iCells vs)) :
    Calls Tryd.prog 16 #[.slice A n c, .slice A' n c'] w fun e w' => e = .returned (.bool true) ∧ Below w.heap.size w w' := by
  have HT := Lib.hid ht
  have HT' := Lib.hid ht'
  have HN := Lib.hid hn
  clear ht ht' hn
  go_enter Tryd.func16, Tryd.ntmps16
  go_wp2
  go_loopw [5] (fun i wr => ∃ k m : Nat, k ≤ n ∧ i = .int .i64 k ∧ wr = w.drewN m) (fun i _ => n - (intOf i).toNat)
  case atStart => exact ⟨0, 0, Nat.zero_le _, rfl, rfl⟩
  case round =>
    obtain ⟨k, m, hk, rfl, rfl⟩ := hrel
    by_cases hlt : k < n
    · obtain ⟨ad, rfl, hadl, c0⟩ := Lies.val HT.out (i := k) (by rw [HN.out]; exact hlt)
      obtain ⟨ad', rfl, hadl', d0⟩ := Lies.val HT'.out (i := k) (by rw [HN.out]; exact hlt)
      have q3 : (0 : Int) ≤ k := by omega
      have q4 : (k : Int) < n := by omega
      clear hadl hadl'
      go_wp2
      go_quiet (fail)
      go_wp2
      go_roundw
      case rel => exact ⟨k + 1, _, by omega, by go_num, rfl⟩
      case measure => simp [intOf]; omega
    · go_wp2
      go_ret
      exact ⟨rfl, bd_drewN _ _⟩
end Go.Proofs.YtajchaknfkfljaaDoor.V7
