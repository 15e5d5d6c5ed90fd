/- The contract of the reference's Value. -/
import Derived.Test.YtajchaknfkfljaaDoorVUse
import Derived.Test.YtajchaknfkfljaaDoorKRef
namespace Go.Proofs.YtajchaknfkfljaaDoor.V7
open Go.ChangeShapes Go.WideShapes Go.ChangeAt Go.RowKit N4 K6
set_option linter.unusedVariables false
set_option linter.unusedSimpArgs false
set_option maxRecDepth 100000

theorem rval_1 (ad : Addr) (c n i : Nat) (xn xa xb xp rk rt rv : Int) (w : World) (hi : i < n) (hal : ad.block < w.heap.size) (hn : NdAt w ad i ⟨1, xn, xa, xb, xp⟩) :
    Calls Tryd.prog 33 #[.slice (some ad) n c, .int .i64 i, .agg #[.int .i64 rk, .int .i64 rt, .int .i64 rv]] w fun e w' => e = .returned (.int .i64 xn) ∧ Below w.heap.size w w' := by
  obtain ⟨d0, d1, d2, d3, d4⟩ := hn
  have hab : (ad.add (i * 5)).block < w.heap.size := by rw [add_block]; exact hal
  have j1 : (0 : Int) ≤ i := by omega
  have j2 : (i : Int) < n := by omega
  clear hal hi
  go_enter Tryd.func33, Tryd.ntmps33
  go_wp2
  go_ret
  exact ⟨rfl, ((Below.refl _ _).alloc (Nat.le_refl _) _).alloc (by simp) _⟩
theorem rval_2 (ad : Addr) (c n i : Nat) (xn xa xb xp rk rt rv : Int) (w : World) (hi : i < n) (hal : ad.block < w.heap.size) (hn : NdAt w ad i ⟨2, xn, xa, xb, xp⟩) :
    Calls Tryd.prog 33 #[.slice (some ad) n c, .int .i64 i, .agg #[.int .i64 rk, .int .i64 rt, .int .i64 rv]] w fun e w' => e = .returned (.int .i64 rk) ∧ Below w.heap.size w w' := by
  obtain ⟨d0, d1, d2, d3, d4⟩ := hn
  have hab : (ad.add (i * 5)).block < w.heap.size := by rw [add_block]; exact hal
  have j1 : (0 : Int) ≤ i := by omega
  have j2 : (i : Int) < n := by omega
  clear hal hi
  go_enter Tryd.func33, Tryd.ntmps33
  go_wp2
  go_ret
  exact ⟨rfl, ((Below.refl _ _).alloc (Nat.le_refl _) _).alloc (by simp) _⟩
theorem rval_3 (ad : Addr) (c n i : Nat) (xn xa xb xp rk rt rv : Int) (w : World) (hi : i < n) (hal : ad.block < w.heap.size) (hn : NdAt w ad i ⟨3, xn, xa, xb, xp⟩) :
    Calls Tryd.prog 33 #[.slice (some ad) n c, .int .i64 i, .agg #[.int .i64 rk, .int .i64 rt, .int .i64 rv]] w fun e w' => e = .returned (.int .i64 rt) ∧ Below w.heap.size w w' := by
  obtain ⟨d0, d1, d2, d3, d4⟩ := hn
  have hab : (ad.add (i * 5)).block < w.heap.size := by rw [add_block]; exact hal
  have j1 : (0 : Int) ≤ i := by omega
  have j2 : (i : Int) < n := by omega
  clear hal hi
  go_enter Tryd.func33, Tryd.ntmps33
  go_wp2
  go_ret
  exact ⟨rfl, ((Below.refl _ _).alloc (Nat.le_refl _) _).alloc (by simp) _⟩
theorem rval_4 (ad : Addr) (c n i : Nat) (xn xa xb xp rk rt rv : Int) (w : World) (hi : i < n) (hal : ad.block < w.heap.size) (hn : NdAt w ad i ⟨4, xn, xa, xb, xp⟩) :
    Calls Tryd.prog 33 #[.slice (some ad) n c, .int .i64 i, .agg #[.int .i64 rk, .int .i64 rt, .int .i64 rv]] w fun e w' => e = .returned (.int .i64 rv) ∧ Below w.heap.size w w' := by
  obtain ⟨d0, d1, d2, d3, d4⟩ := hn
  have hab : (ad.add (i * 5)).block < w.heap.size := by rw [add_block]; exact hal
  have j1 : (0 : Int) ≤ i := by omega
  have j2 : (i : Int) < n := by omega
  clear hal hi
  go_enter Tryd.func33, Tryd.ntmps33
  go_wp2
  go_ret
  exact ⟨rfl, ((Below.refl _ _).alloc (Nat.le_refl _) _).alloc (by simp) _⟩
def RSt (w : World) (B1 B2 : Nat) (W : World) : Prop := Below w.heap.size w W ∧ B1 < W.heap.size ∧ B2 < W.heap.size
abbrev RHd (w : World) (B1 B2 : Nat) (xk xa rk rt rv : Int) (W : World) : Prop :=
  W.cell? ⟨B2, 0, none⟩ = some (.int .u8 xk) ∧ W.cell? ⟨B2, 2, none⟩ = some (.int .i64 xa) ∧ W.cell? ⟨B1, 0, none⟩ = some (.int .i64 rk) ∧ W.cell? ⟨B1, 1, none⟩ = some (.int .i64 rt) ∧ W.cell? ⟨B1, 2, none⟩ = some (.int .i64 rv) ∧ RSt w B1 B2 W
theorem RHd.below {w : World} {B1 B2 : Nat} {xk xa rk rt rv : Int} {W W' : World} (h : RHd w B1 B2 xk xa rk rt rv W) (hb : Below W.heap.size W W') : RHd w B1 B2 xk xa rk rt rv W' := by
  obtain ⟨a1, a2, b1, b2, b3, hv, h1, h2⟩ := h
  have e1 : ∀ o, W'.cell? ⟨B1, o, none⟩ = W.cell? ⟨B1, o, none⟩ := fun o => hb.cell (p := ⟨B1, o, none⟩) h1
  have e2 : ∀ o, W'.cell? ⟨B2, o, none⟩ = W.cell? ⟨B2, o, none⟩ := fun o => hb.cell (p := ⟨B2, o, none⟩) h2
  have hs := hb.size
  exact ⟨by rw [e2]; exact a1, by rw [e2]; exact a2, by rw [e1]; exact b1, by rw [e1]; exact b2, by rw [e1]; exact b3, hv.trans (hb.mono hv.size), by omega, by omega⟩
theorem RHd.bl {w : World} {B1 B2 : Nat} {xk xa rk rt rv : Int} {W : World} (h : RHd w B1 B2 xk xa rk rt rv W) : Below w.heap.size w W := h.2.2.2.2.2.1
abbrev ValIs (A : Option Addr) (c n : Nat) (L : List Nd) (i : Nat) (rk rt rv v : Int) : Prop :=
  ∀ W, Lies W A (ndCells L) → Calls Tryd.prog 33 #[.slice A n c, .int .i64 i, .agg #[.int .i64 rk, .int .i64 rt, .int .i64 rv]] W fun e w' => e = .returned (.int .i64 v) ∧ Below W.heap.size W w'
set_option maxHeartbeats 1000000 in
theorem rval_one (ad : Addr) (c n i i1 : Nat) (L : List Nd) (xk xn xp rk rt rv u1 : Int) (w : World) (h4 : 4 < xk) (h6 : xk ≤ 6) (hi : i < n) (ht : Lies w (some ad) (ndCells L)) (hx : L[i]? = some ⟨xk, xn, i1, 0, xp⟩) (hu : In64 u1)
    (h1 : ValIs (some ad) c n L i1 rk rt rv u1) :
    Calls Tryd.prog 33 #[.slice (some ad) n c, .int .i64 i, .agg #[.int .i64 rk, .int .i64 rt, .int .i64 rv]] w fun e w' => e = .returned (.int .i64 (opV xk u1 0)) ∧ Below w.heap.size w w' := by
  have HV1 := Lib.hid (fun W (hS : RHd w w.heap.size (w.heap.size + 1) xk i1 rk rt rv W) => (h1 W (ht.below hS.bl)).mono fun e w' h => (⟨h.1, hS.below h.2⟩ : _ ∧ RHd w w.heap.size (w.heap.size + 1) xk i1 rk rt rv w'))
  obtain ⟨ad', had, hal, d0, d1, d2, d3, d4⟩ := ht.nd hx
  injection had with had; subst had
  have hab : (ad.add (i * 5)).block < w.heap.size := by rw [add_block]; exact hal
  have HC := Lib.hid (fun w => show Calls Tryd.prog 32 #[.int .u8 xk] w fun e w' => e = .returned (.int .i64 1) ∧ w = w' by have := N4.count_any xk w; rwa [show cnt xk = 1 by unfold cnt; rw [if_neg (by omega), if_pos h6]] at this)
  have HG := Lib.hid (fun W (hS : RHd w w.heap.size (w.heap.size + 1) xk i1 rk rt rv W) => (given_op xk u1 0 (by omega) (by omega) hu W).mono fun e w' h => (⟨h.1, h.2 ▸ hS⟩ : _ ∧ RHd w w.heap.size (w.heap.size + 1) xk i1 rk rt rv w'))
  have HS0 := Lib.hid (fun t1 t2 => (show RHd w w.heap.size (w.heap.size + 1) xk i1 rk rt rv ((w.alloc (.cells #[.int .i64 rk, .int .i64 rt, .int .i64 rv] t1)).alloc (.cells #[.int .u8 xk, .int .i64 xn, .int .i64 i1, .int .i64 0, .int .i64 xp] t2)).drew from
    ⟨by go_simp, by go_simp, by go_simp, by go_simp, by go_simp, (((Below.refl _ _).alloc (Nat.le_refl _) _).alloc (by simp) _).drew, by simp; omega, by simp⟩))
  have g1 : (xk == 1) = false := by rw [beq_eq_false_iff_ne]; omega
  have g2 : (xk == 2) = false := by rw [beq_eq_false_iff_ne]; omega
  have g3 : (xk == 3) = false := by rw [beq_eq_false_iff_ne]; omega
  have g4 : (xk == 4) = false := by rw [beq_eq_false_iff_ne]; omega
  have j1 : (0 : Int) ≤ i := by omega
  have j2 : (i : Int) < n := by omega
  clear hal hi ht hx h1 h4 h6 hu
  go_enter Tryd.func33, Tryd.ntmps33
  go_wp2_with (go_at_call 32; refine (HC.out _).mono ?_; rintro e w' ⟨rfl, rfl⟩)
  go_region_held3 (fun w' => w'.cell? ⟨w.heap.size + 1, 0, none⟩ = some (.int .u8 xk) ∧ w'.cell? ⟨w.heap.size + 1, 2, none⟩ = some (.int .i64 (i1 : Int)) ∧ w'.cell? ⟨w.heap.size, 0, none⟩ = some (.int .i64 rk) ∧ w'.cell? ⟨w.heap.size, 1, none⟩ = some (.int .i64 rt) ∧ w'.cell? ⟨w.heap.size, 2, none⟩ = some (.int .i64 rv) ∧ RSt w w.heap.size (w.heap.size + 1) w')
    (first | exact HS0.out _ _ | assumption)
    (first | (go_at_call 33; (with_reducible refine (HV1.out _ (by assumption)).mono ?_); rintro e w' ⟨rfl, hS⟩) | (go_at_call 48; (with_reducible refine (HG.out _ (by assumption)).mono ?_); rintro e w'' ⟨rfl, hS2⟩))
  go_wp2
  go_ret
  exact ⟨rfl, hS2.bl⟩
set_option maxHeartbeats 1000000 in
theorem rval_two (ad : Addr) (c n i i1 i2 : Nat) (L : List Nd) (xk xn xp rk rt rv u1 u2 : Int) (w : World) (h6 : 6 < xk) (h19 : xk ≤ 19) (hi : i < n) (ht : Lies w (some ad) (ndCells L)) (hx : L[i]? = some ⟨xk, xn, i1, i2, xp⟩) (hu : In64 u1)
    (h1 : ValIs (some ad) c n L i1 rk rt rv u1) (h2 : ValIs (some ad) c n L i2 rk rt rv u2) :
    Calls Tryd.prog 33 #[.slice (some ad) n c, .int .i64 i, .agg #[.int .i64 rk, .int .i64 rt, .int .i64 rv]] w fun e w' => e = .returned (.int .i64 (opV xk u1 u2)) ∧ Below w.heap.size w w' := by
  have HV1 := Lib.hid (fun W (hS : RHd w w.heap.size (w.heap.size + 1) xk i1 rk rt rv W) => (h1 W (ht.below hS.bl)).mono fun e w' h => (⟨h.1, hS.below h.2⟩ : _ ∧ RHd w w.heap.size (w.heap.size + 1) xk i1 rk rt rv w'))
  have HV2 := Lib.hid (fun W (hS : RHd w w.heap.size (w.heap.size + 1) xk i1 rk rt rv W) => (h2 W (ht.below hS.bl)).mono fun e w' h => (⟨h.1, hS.below h.2⟩ : _ ∧ RHd w w.heap.size (w.heap.size + 1) xk i1 rk rt rv w'))
  obtain ⟨ad', had, hal, d0, d1, d2, d3, d4⟩ := ht.nd hx
  injection had with had; subst had
  have hab : (ad.add (i * 5)).block < w.heap.size := by rw [add_block]; exact hal
  have HC := Lib.hid (fun w => show Calls Tryd.prog 32 #[.int .u8 xk] w fun e w' => e = .returned (.int .i64 2) ∧ w = w' by have := N4.count_any xk w; rwa [show cnt xk = 2 by unfold cnt; rw [if_neg (by omega), if_neg (by omega)]] at this)
  have HG := Lib.hid (fun W (hS : RHd w w.heap.size (w.heap.size + 1) xk i1 rk rt rv W) => (given_op xk u1 u2 (by omega) (by omega) hu W).mono fun e w' h => (⟨h.1, h.2 ▸ hS⟩ : _ ∧ RHd w w.heap.size (w.heap.size + 1) xk i1 rk rt rv w'))
  have HS0 := Lib.hid (fun t1 t2 => (show RHd w w.heap.size (w.heap.size + 1) xk i1 rk rt rv ((w.alloc (.cells #[.int .i64 rk, .int .i64 rt, .int .i64 rv] t1)).alloc (.cells #[.int .u8 xk, .int .i64 xn, .int .i64 i1, .int .i64 i2, .int .i64 xp] t2)) from
    ⟨by go_simp, by go_simp, by go_simp, by go_simp, by go_simp, ((Below.refl _ _).alloc (Nat.le_refl _) _).alloc (by simp) _, by simp; omega, by simp⟩))
  have g1 : (xk == 1) = false := by rw [beq_eq_false_iff_ne]; omega
  have g2 : (xk == 2) = false := by rw [beq_eq_false_iff_ne]; omega
  have g3 : (xk == 3) = false := by rw [beq_eq_false_iff_ne]; omega
  have g4 : (xk == 4) = false := by rw [beq_eq_false_iff_ne]; omega
  have j1 : (0 : Int) ≤ i := by omega
  have j2 : (i : Int) < n := by omega
  clear hal hi ht hx h1 h2 h6 h19 hu
  go_enter Tryd.func33, Tryd.ntmps33
  go_wp2_with (first
    | (go_at_call 32; refine (HC.out _).mono ?_; rintro e w' ⟨rfl, rfl⟩)
    | (go_at_call 33; (with_reducible refine (HV2.out _ (HS0.out _ _)).mono ?_); rintro e w1 ⟨rfl, hS1⟩; have hS1' := hS1; obtain ⟨s0, s1, s2, s3, s4, s5⟩ := hS1'))
  have HD := Lib.hid (show RHd w w.heap.size (w.heap.size + 1) xk i1 rk rt rv w1.drew from ⟨s0, s1, s2, s3, s4, s5.1.drew, s5.2.1, s5.2.2⟩)
  go_region_held3 (fun w' => w'.cell? ⟨w.heap.size + 1, 0, none⟩ = some (.int .u8 xk) ∧ w'.cell? ⟨w.heap.size + 1, 2, none⟩ = some (.int .i64 (i1 : Int)) ∧ w'.cell? ⟨w.heap.size, 0, none⟩ = some (.int .i64 rk) ∧ w'.cell? ⟨w.heap.size, 1, none⟩ = some (.int .i64 rt) ∧ w'.cell? ⟨w.heap.size, 2, none⟩ = some (.int .i64 rv) ∧ RSt w w.heap.size (w.heap.size + 1) w')
    (first | exact HD.out | assumption)
    (first | (go_at_call 33; (with_reducible refine (HV1.out _ (by assumption)).mono ?_); rintro e w' ⟨rfl, hS⟩) | (go_at_call 48; (with_reducible refine (HG.out _ (by assumption)).mono ?_); rintro e w'' ⟨rfl, hS2⟩))
  go_wp2
  go_ret
  exact ⟨rfl, hS2.bl⟩
/-- The value of a node of a valid list. -/
theorem rval_any (A : Option Addr) (c n : Nat) (L : List Nd) (E : List Ex) (r : Rc) (hr : RcIn r) (hN : NIn L) (hE : extF L = some E) (hn : L.length = n) : ∀ i, i < n → ValIs A c n L i r.k r.t r.v (getV (valsF r L) i) := by
  intro i
  induction i using Nat.strongRecOn with
  | _ i ih =>
    intro hi w ht
    obtain ⟨x, hx⟩ : ∃ x, L[i]? = some x := ⟨_, List.getElem?_eq_getElem (by omega)⟩
    have hv := getV_at (vals_full r hE hx)
    have hin := fun j => getV_in (vals_in hr hN) j
    rw [hv]
    obtain ⟨h1, h2, h3⟩ := node_parts hE hx
    obtain ⟨ad, rfl, hal, hnd⟩ := ht.nd hx
    obtain ⟨k, xn, a, b, p⟩ := x
    simp only at h1 h2 h3
    rcases h3 with hk | ⟨hk, hk2, i1, y, rfl, rfl, hi1, _⟩ | ⟨hk, i1, i2, y, z, rfl, rfl, hi1, hi2, _, _⟩
    · have h4 : k = 1 ∨ k = 2 ∨ k = 3 ∨ k = 4 := by omega
      rcases h4 with rfl | rfl | rfl | rfl
      · exact rval_1 ad c n i xn a b p _ _ _ w hi hal hnd
      · exact rval_2 ad c n i xn a b p _ _ _ w hi hal hnd
      · exact rval_3 ad c n i xn a b p _ _ _ w hi hal hnd
      · exact rval_4 ad c n i xn a b p _ _ _ w hi hal hnd
    · rw [vals_op (show 4 < (⟨k, xn, (i1 : Int), 0, p⟩ : Nd).k from hk)]
      show Calls Tryd.prog 33 _ _ fun e w' => e = .returned (.int .i64 (opV k (getV (valsF r L) i1) (if k ≤ 6 then 0 else _))) ∧ _
      rw [if_pos hk2]
      exact rval_one ad c n i i1 L k xn p _ _ _ _ w hk hk2 hi ht hx (hin _) (ih i1 hi1 (by omega))
    · rw [vals_op (show 4 < (⟨k, xn, (i1 : Int), (i2 : Int), p⟩ : Nd).k by show 4 < k; omega)]
      show Calls Tryd.prog 33 _ _ fun e w' => e = .returned (.int .i64 (opV k (getV (valsF r L) i1) (if k ≤ 6 then 0 else getV (valsF r L) i2))) ∧ _
      rw [if_neg (by omega)]
      exact rval_two ad c n i i1 i2 L k xn p _ _ _ _ _ w hk h2 hi ht hx (hin _) (ih i1 hi1 (by omega)) (ih i2 hi2 (by omega))
end Go.Proofs.YtajchaknfkfljaaDoor.V7
