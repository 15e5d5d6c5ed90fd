/- The contract of All. -/
import Derived.Test.YtajchaknfkfljaaDoorVAll
namespace Go.Proofs.YtajchaknfkfljaaDoor.V7
open Go.ChangeShapes Go.WideShapes Go.ChangeAt Go.RowKit N4 K6
set_option linter.unusedVariables false
set_option linter.unusedSimpArgs false
set_option maxRecDepth 100000

/-- What a cell holds, as a name that a store does not hurt. -/
def cv (W : World) (p : Addr) : Value := (W.cell? p).getD (.int .i64 0)
theorem cv_of {W : World} {p : Addr} {u : Value} (h : W.cell? p = some u) : W.cell? p = some (cv W p) := by unfold cv; rw [h]; rfl
theorem VRel.keep {w : World} {M : List Int} {n k : Nat} {wr : World} (h : VRel w M n k wr) (hk : k < n) (v : Value) : VRel w M n k (wr.setCell ⟨w.heap.size, k, none⟩ v) := by
  obtain ⟨xs, ho, hx, hb⟩ := h
  refine ⟨_, (ho.stored k v).1, ?_, hb.setCell (Nat.le_refl _) _⟩
  rw [List.take_set_of_le (Nat.le_refl _)]
  exact hx
/-- What stands throughout All's region that draws. -/
def VSt (w1 : World) (M : List Int) (n k B1 B2 : Nat) (W : World) : Prop := VRel w1 M n k W ∧ B1 < W.heap.size ∧ B2 < W.heap.size
abbrev VHd (w1 : World) (M : List Int) (n k B1 B2 : Nat) (xk xn xa xb xp rk rt rv : Int) (W : World) : Prop :=
  W.cell? ⟨B2, 0, none⟩ = some (.int .u8 xk) ∧ W.cell? ⟨B2, 1, none⟩ = some (.int .i64 xn) ∧ W.cell? ⟨B2, 2, none⟩ = some (.int .i64 xa) ∧ W.cell? ⟨B2, 3, none⟩ = some (.int .i64 xb) ∧ W.cell? ⟨B2, 4, none⟩ = some (.int .i64 xp) ∧
  W.cell? ⟨B1, 0, none⟩ = some (.int .i64 rk) ∧ W.cell? ⟨B1, 1, none⟩ = some (.int .i64 rt) ∧ W.cell? ⟨B1, 2, none⟩ = some (.int .i64 rv) ∧
  W.cell? ⟨w1.heap.size, k, none⟩ = some (cv W ⟨w1.heap.size, k, none⟩) ∧ W.frozen? ⟨w1.heap.size, k, none⟩ = false ∧ w1.heap.size < W.heap.size ∧ VSt w1 M n k B1 B2 W
theorem VHd.below {w1 : World} {M : List Int} {n k B1 B2 : Nat} {xk xn xa xb xp rk rt rv : Int} {W W' : World} (h : VHd w1 M n k B1 B2 xk xn xa xb xp rk rt rv W) (hb : Below W.heap.size W W') : VHd w1 M n k B1 B2 xk xn xa xb xp rk rt rv W' := by
  obtain ⟨a1, a2, a3, a4, a5, b1, b2, b3, d1, d2, d3, hv, h1, h2⟩ := h
  have e1 : ∀ o, W'.cell? ⟨B1, o, none⟩ = W.cell? ⟨B1, o, none⟩ := fun o => hb.cell (p := ⟨B1, o, none⟩) h1
  have e2 : ∀ o, W'.cell? ⟨B2, o, none⟩ = W.cell? ⟨B2, o, none⟩ := fun o => hb.cell (p := ⟨B2, o, none⟩) h2
  have hs := hb.size
  exact ⟨by rw [e2]; exact a1, by rw [e2]; exact a2, by rw [e2]; exact a3, by rw [e2]; exact a4, by rw [e2]; exact a5, by rw [e1]; exact b1, by rw [e1]; exact b2, by rw [e1]; exact b3,
    cv_of ((hb.cell (p := ⟨w1.heap.size, k, none⟩) d3).trans d1), by rw [hb.frozen (p := ⟨w1.heap.size, k, none⟩) d3]; exact d2, by omega, hv.below hb, by omega, by omega⟩
theorem VHd.set {w1 : World} {M : List Int} {n k B1 B2 : Nat} {xk xn xa xb xp rk rt rv : Int} {W : World} (h : VHd w1 M n k B1 B2 xk xn xa xb xp rk rt rv W) (hk : k < n) (h1 : B1 < w1.heap.size) (h2 : w1.heap.size < B2) (v : Value) :
    VHd w1 M n k B1 B2 xk xn xa xb xp rk rt rv (W.setCell ⟨w1.heap.size, k, none⟩ v) := by
  obtain ⟨a1, a2, a3, a4, a5, b1, b2, b3, d1, d2, d3, hv, s1, s2⟩ := h
  have e1 : ∀ b o, w1.heap.size ≠ b → (W.setCell ⟨w1.heap.size, k, none⟩ v).cell? ⟨b, o, none⟩ = W.cell? ⟨b, o, none⟩ := fun b o hb => World.cell?_setCell_far W ⟨w1.heap.size, k, none⟩ ⟨b, o, none⟩ v hb
  refine ⟨(e1 _ _ (by omega)).trans a1, (e1 _ _ (by omega)).trans a2, (e1 _ _ (by omega)).trans a3, (e1 _ _ (by omega)).trans a4, (e1 _ _ (by omega)).trans a5, (e1 _ _ (by omega)).trans b1, (e1 _ _ (by omega)).trans b2, (e1 _ _ (by omega)).trans b3,
    cv_of (World.cell?_setCell_same _ _ v d1), by simpa using d2, by simpa using d3, hv.keep hk v, by simpa using s1, by simpa using s2⟩
theorem VHd.vst {w1 : World} {M : List Int} {n k B1 B2 : Nat} {xk xn xa xb xp rk rt rv : Int} {W : World} (h : VHd w1 M n k B1 B2 xk xn xa xb xp rk rt rv W) : VRel w1 M n k W := h.2.2.2.2.2.2.2.2.2.2.2.1
theorem node_front {L : List Nd} {E : List Ex} (h : extF L = some E) {i : Nat} {x : Nd} (hx : L[i]? = some x) : x.k ≤ 4 ∨ (4 < x.k ∧ x.k ≤ 6 ∧ ∃ (i1 : Nat), x.a = i1 ∧ x.b = 0 ∧ i1 < i) ∨ (6 < x.k ∧ ∃ (i1 i2 : Nat), x.a = i1 ∧ x.b = i2 ∧ i1 < i ∧ i2 < i) := by
  rcases (node_parts h hx).2.2 with hk | ⟨hk, hk2, i1, y, ha, hb, hi, _⟩ | ⟨hk, i1, i2, y, z, ha, hb, hi1, hi2, _, _⟩
  · exact .inl hk
  · exact .inr (.inl ⟨hk, hk2, i1, ha, hb, hi⟩)
  · exact .inr (.inr ⟨hk, i1, i2, ha, hb, hi1, hi2⟩)
set_option maxHeartbeats 2000000 in
theorem allv_ok (A : Option Addr) (c n : Nat) (L : List Nd) (E : List Ex) (r : Rc) (w : World) (hs : SigT w) (hn : L.length = n) (ht : Lies w A (ndCells L)) (hg : Good4 L E) (h : errF L = 0) :
    Calls Tryd.prog 10 #[.slice A n c, rcV r] w (VAllPost w (valsF r L) n) := by
  have h60 : n ≤ 60 := by rw [← hn]; exact hg.2.1
  have HOF := Lib.hid (fun W (hb : Below w.heap.size w W) => check_ev A c n L W (hs.stays hb) hn (by unfold maxLen; omega) (ht.below hb) 0 h)
  have HT := Lib.hid ht
  have HN := Lib.hid hn
  have HG := Lib.hid hg
  have hb0 := fun o => (Below.refl w.heap.size w).alloc (Nat.le_refl _) o
  obtain ⟨i0, hi, hz0, hz1, hz2⟩ := info_parts i64_info
  obtain ⟨rk, rt, rv⟩ := r
  clear hs hn ht h hg
  go_enter Tryd.func10, Tryd.ntmps10
  go_wp2_with (first
    | (go_at_call 29; refine (HOF.out _ (hb0 _)).mono ?_; rintro e w1 ⟨rfl, hb⟩; have HB0 := Lib.hid ((hb0 _).trans (hb.mono (by simp))); have HR := Lib.hid (show w1.cell? ⟨w.heap.size, 0, none⟩ = some (.int .i64 rk) ∧ w1.cell? ⟨w.heap.size, 1, none⟩ = some (.int .i64 rt) ∧ w1.cell? ⟨w.heap.size, 2, none⟩ = some (.int .i64 rv) ∧ w.heap.size < w1.heap.size from ⟨by rw [hb.cell (p := ⟨w.heap.size, 0, none⟩) (by simp)]; go_simp, by rw [hb.cell (p := ⟨w.heap.size, 1, none⟩) (by simp)]; go_simp, by rw [hb.cell (p := ⟨w.heap.size, 2, none⟩) (by simp)]; go_simp, by have := hb.size; simp at this; omega⟩); clear hb)
    | (refine wpList_make_full _ rfl _ _ 27 rfl w1.heap.size 2 i0 _ 1 Tryd.underlying27 hi hz0 hz1 .i64 .i64 _ _ n rfl rfl (by rfl) (by rfl) ?c1 ?c2 ?c3 ?_))
  case c1 => rw [hz2]; omega
  case c2 => unfold maxLen; omega
  case c3 => exact Nat.le_refl _
  intro w2 hown1 hgw
  have HB1 := Lib.hid (show Below w1.heap.size w1 w2 from (Below.refl _ _).grown hgw (Nat.le_refl _) (fun j hj => by cases hj))
  have HO1 := Lib.hid hown1
  clear hown1 hgw HOF
  go_wp2
  go_loopw [20] (fun i wr => ∃ k : Nat, i = .int .i64 k ∧ k ≤ n ∧ VRel w1 (valsF ⟨rk, rt, rv⟩ L) n k wr) (fun i _ => n - (intOf i).toNat)
  case atStart => exact ⟨0, rfl, Nat.zero_le _, _, HO1.out, by simp [iCells], HB1.out⟩
  case round =>
    obtain ⟨k, rfl, hk, hrel⟩ := hrel
    have HV := Lib.hid hrel
    have HB := Lib.hid hrel.choose_spec.2.2
    clear hrel HO1 HB1
    by_cases hlt : k < n
    · obtain ⟨x, hx⟩ : ∃ x, L[k]? = some x := ⟨_, List.getElem?_eq_getElem (by rw [HN.out]; exact hlt)⟩
      have HL := Lib.hid hx
      have HBB := Lib.hid (HB0.out.trans (HB.out.mono HB0.out.size))
      obtain ⟨ad, rfl, hadl, c0, c1, c2, c3, c4⟩ := (HT.out.below HBB.out).nd hx
      have hab : (ad.add (k * 5)).block < wr.heap.size := by rw [add_block]; exact hadl
      obtain ⟨⟨v0, hv0⟩, hfr⟩ := HV.out.cell hlt
      have HBR := Lib.hid (fun o => HB.out.cell (p := ⟨w.heap.size, o, none⟩) HR.out.2.2.2)
      have r0 : wr.cell? ⟨w.heap.size, 0, none⟩ = some (.int .i64 rk) := by rw [HBR.out]; exact HR.out.1
      have r1 : wr.cell? ⟨w.heap.size, 1, none⟩ = some (.int .i64 rt) := by rw [HBR.out]; exact HR.out.2.1
      have r2 : wr.cell? ⟨w.heap.size, 2, none⟩ = some (.int .i64 rv) := by rw [HBR.out]; exact HR.out.2.2.1
      have hwr : w.heap.size < wr.heap.size := Nat.lt_of_lt_of_le HR.out.2.2.2 HB.out.size
      have hwl : w1.heap.size < wr.heap.size := cell_lt hv0
      obtain ⟨xk, xn, xa, xb, xp⟩ := x
      have HVO := Lib.hid (fun W (hS : VHd w1 (valsF ⟨rk, rt, rv⟩ L) n k w.heap.size wr.heap.size xk xn xa xb xp rk rt rv W) => 
        (valof_any ⟨rk, rt, rv⟩ _ k n _ ⟨xk, xn, xa, xb, xp⟩ W (node_parts HG.out.ext HL.out).1 (node_parts HG.out.ext HL.out).2.1 (hS.vst.lies hlt) (by rw [List.length_take, vals_length, HN.out]; omega) (node_front HG.out.ext HL.out)).mono fun e w' h => (⟨h.1, hS.below h.2⟩ : _ ∧ VHd w1 (valsF ⟨rk, rt, rv⟩ L) n k w.heap.size wr.heap.size xk xn xa xb xp rk rt rv w'))
      obtain ⟨y, hy⟩ : ∃ y, valF ⟨rk, rt, rv⟩ ((valsF ⟨rk, rt, rv⟩ L).take k) ⟨xk, xn, xa, xb, xp⟩ = y := ⟨_, rfl⟩
      rw [hy] at HVO
      have HY := Lib.hid (show (valsF ⟨rk, rt, rv⟩ L)[k]? = some y by rw [← hy]; exact vals_get _ HL.out)
      have HS0 := Lib.hid (fun t => (show VHd w1 (valsF ⟨rk, rt, rv⟩ L) n k w.heap.size wr.heap.size xk xn xa xb xp rk rt rv (wr.alloc (.cells #[.int .u8 xk, .int .i64 xn, .int .i64 xa, .int .i64 xb, .int .i64 xp] t)).drew from
        ⟨by go_simp, by go_simp, by go_simp, by go_simp, by go_simp, by go_simp, by go_simp, by go_simp, cv_of (u := v0) (by go_simp), by go_simp, by have := hwl; simp; omega, HV.out.below ((Below.refl _ _).alloc (Nat.le_refl _) _).drew, by simp; omega, by simp⟩))
      clear hx hadl hy HBR hv0 hfr
      go_wp2
      go_region_held3 (fun w' => w'.cell? ⟨wr.heap.size, 0, none⟩ = some (.int .u8 xk) ∧ w'.cell? ⟨wr.heap.size, 1, none⟩ = some (.int .i64 xn) ∧ w'.cell? ⟨wr.heap.size, 2, none⟩ = some (.int .i64 xa) ∧ w'.cell? ⟨wr.heap.size, 3, none⟩ = some (.int .i64 xb) ∧ w'.cell? ⟨wr.heap.size, 4, none⟩ = some (.int .i64 xp) ∧
        w'.cell? ⟨w.heap.size, 0, none⟩ = some (.int .i64 rk) ∧ w'.cell? ⟨w.heap.size, 1, none⟩ = some (.int .i64 rt) ∧ w'.cell? ⟨w.heap.size, 2, none⟩ = some (.int .i64 rv) ∧
        w'.cell? ⟨w1.heap.size, k, none⟩ = some (cv w' ⟨w1.heap.size, k, none⟩) ∧ w'.frozen? ⟨w1.heap.size, k, none⟩ = false ∧ w1.heap.size < w'.heap.size ∧ VSt w1 (valsF ⟨rk, rt, rv⟩ L) n k w.heap.size wr.heap.size w') (first | exact HS0.out _ | assumption | exact VHd.set (by assumption) hlt HR.out.2.2.2 hwl _)
        (first | (go_at_call 30; (with_reducible refine (HVO.out _ (by assumption)).mono ?_); rintro e w' ⟨rfl, hS⟩))
      have HN1 := Lib.hid (hS.vst.step HY.out hlt)
      go_wp2
      go_roundw
      case rel => exact ⟨k + 1, by go_num, by omega, HN1.out⟩
      case measure => simp [intOf]; omega
    · obtain rfl : k = n := by omega
      go_wp2
      go_ret2
      obtain ⟨xs, ho, hx, hb⟩ := HV.out
      refine ⟨⟨w1.heap.size, 0, none⟩, rfl, ?_, HB0.out.trans (hb.mono HB0.out.size)⟩
      have hl := Lies.of_own ho (by intro h0; exact List.eq_nil_of_length_eq_zero (by have := ho.1; omega))
      rw [List.take_of_length_le (by have := ho.1; omega), List.take_of_length_le (by rw [vals_length, HN.out]; exact Nat.le_refl _)] at hx
      rw [← hx]; exact hl
end Go.Proofs.YtajchaknfkfljaaDoor.V7
