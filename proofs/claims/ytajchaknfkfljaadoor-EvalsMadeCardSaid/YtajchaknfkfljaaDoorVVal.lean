/- The contract of valueOf. -/
import Derived.Test.YtajchaknfkfljaaDoorVOp
namespace Go.Proofs.YtajchaknfkfljaaDoor.V7
open Go.ChangeShapes Go.WideShapes Go.ChangeAt Go.RowKit N4 K6
set_option linter.unusedVariables false
set_option linter.unusedSimpArgs false
set_option maxRecDepth 100000

theorem valof_1 (S : Value) (xn xa xb xp rk rt rv : Int) (w : World) :
    Calls Tryd.prog 30 #[.agg #[.int .u8 1, .int .i64 xn, .int .i64 xa, .int .i64 xb, .int .i64 xp], S, .agg #[.int .i64 rk, .int .i64 rt, .int .i64 rv]] w fun e w' => e = .returned (.int .i64 xn) ∧ Below w.heap.size w w' := by
  go_enter Tryd.func30, Tryd.ntmps30
  go_wp2
  go_ret
  exact ⟨rfl, ((Below.refl _ _).alloc (Nat.le_refl _) _).alloc (by simp) _⟩
theorem valof_2 (S : Value) (xn xa xb xp rk rt rv : Int) (w : World) :
    Calls Tryd.prog 30 #[.agg #[.int .u8 2, .int .i64 xn, .int .i64 xa, .int .i64 xb, .int .i64 xp], S, .agg #[.int .i64 rk, .int .i64 rt, .int .i64 rv]] w fun e w' => e = .returned (.int .i64 rk) ∧ Below w.heap.size w w' := by
  go_enter Tryd.func30, Tryd.ntmps30
  go_wp2
  go_ret
  exact ⟨rfl, ((Below.refl _ _).alloc (Nat.le_refl _) _).alloc (by simp) _⟩
theorem valof_3 (S : Value) (xn xa xb xp rk rt rv : Int) (w : World) :
    Calls Tryd.prog 30 #[.agg #[.int .u8 3, .int .i64 xn, .int .i64 xa, .int .i64 xb, .int .i64 xp], S, .agg #[.int .i64 rk, .int .i64 rt, .int .i64 rv]] w fun e w' => e = .returned (.int .i64 rt) ∧ Below w.heap.size w w' := by
  go_enter Tryd.func30, Tryd.ntmps30
  go_wp2
  go_ret
  exact ⟨rfl, ((Below.refl _ _).alloc (Nat.le_refl _) _).alloc (by simp) _⟩
theorem valof_4 (S : Value) (xn xa xb xp rk rt rv : Int) (w : World) :
    Calls Tryd.prog 30 #[.agg #[.int .u8 4, .int .i64 xn, .int .i64 xa, .int .i64 xb, .int .i64 xp], S, .agg #[.int .i64 rk, .int .i64 rt, .int .i64 rv]] w fun e w' => e = .returned (.int .i64 rv) ∧ Below w.heap.size w w' := by
  go_enter Tryd.func30, Tryd.ntmps30
  go_wp2
  go_ret
  exact ⟨rfl, ((Below.refl _ _).alloc (Nat.le_refl _) _).alloc (by simp) _⟩
theorem valof_one (ad : Addr) (i c i1 : Nat) (k xn xp rk rt rv u1 : Int) (w : World) (h4 : 4 < k) (h6 : k ≤ 6) (hi : i1 < i) (hal : ad.block < w.heap.size) (d1 : w.cell? (ad.add i1) = some (.int .i64 u1)) :
    Calls Tryd.prog 30 #[.agg #[.int .u8 k, .int .i64 xn, .int .i64 i1, .int .i64 0, .int .i64 xp], .slice (some ad) i c, .agg #[.int .i64 rk, .int .i64 rt, .int .i64 rv]] w fun e w' => e = .returned (.int .i64 (opV k u1 0)) ∧ Below w.heap.size w w' := by
  have h0 : okK k = true := by simp [okK]; omega
  have hc : cnt k = 1 := by unfold cnt; rw [if_neg (by omega), if_pos h6]
  have HP := Lib.hid (fun w => show Calls Tryd.prog 25 #[.int .u8 k] w fun e w' => e = .returned (.tuple #[.int .i64 1, .int .i64 0]) ∧ w = w' by
    have := parts_any k w
    rwa [show partsN k = 1 by unfold partsN; rw [if_pos h0, hc], show partsE k = 0 by simp [partsE, h0]] at this)
  have HD := Lib.hid (fun (W : World) (m : Nat) => Calls.quiet_of_same (n := m) ((do_op k u1 0 (by omega) (by omega) (W.drewN m)).mono fun _ _ h => ⟨h.1, h.2.symm⟩))
  have g1 : (k == 1) = false := by rw [beq_eq_false_iff_ne]; omega
  have g2 : (k == 2) = false := by rw [beq_eq_false_iff_ne]; omega
  have g3 : (k == 3) = false := by rw [beq_eq_false_iff_ne]; omega
  have g4 : (k == 4) = false := by rw [beq_eq_false_iff_ne]; omega
  have hab1 : (ad.add i1).block < w.heap.size := by rw [add_block]; exact hal
  have j1 : (0 : Int) ≤ i1 := by omega
  have j2 : (i1 : Int) < i := by omega
  clear h0 hc h4 h6 hal
  go_enter Tryd.func30, Tryd.ntmps30
  go_wp2_with (go_at_call 25; refine (HP.out _).mono ?_; rintro e w' ⟨rfl, rfl⟩)
  go_quiet ((go_at_call 26; with_reducible exact HD.out _ _))
  go_wp2
  go_ret
  exact ⟨rfl, Below.drewN' (((Below.refl _ _).alloc (Nat.le_refl _) _).alloc (by simp) _) _⟩
theorem valof_two (ad : Addr) (i c i1 i2 : Nat) (k xn xp rk rt rv u1 u2 : Int) (w : World) (h6 : 6 < k) (h19 : k ≤ 19) (hi : i1 < i) (hi2 : i2 < i) (hal : ad.block < w.heap.size) (d1 : w.cell? (ad.add i1) = some (.int .i64 u1)) (d2 : w.cell? (ad.add i2) = some (.int .i64 u2)) :
    Calls Tryd.prog 30 #[.agg #[.int .u8 k, .int .i64 xn, .int .i64 i1, .int .i64 i2, .int .i64 xp], .slice (some ad) i c, .agg #[.int .i64 rk, .int .i64 rt, .int .i64 rv]] w fun e w' => e = .returned (.int .i64 (opV k u1 u2)) ∧ Below w.heap.size w w' := by
  have h0 : okK k = true := by simp [okK]; omega
  have hc : cnt k = 2 := by unfold cnt; rw [if_neg (by omega), if_neg (by omega)]
  have HP := Lib.hid (fun w => show Calls Tryd.prog 25 #[.int .u8 k] w fun e w' => e = .returned (.tuple #[.int .i64 2, .int .i64 0]) ∧ w = w' by
    have := parts_any k w
    rwa [show partsN k = 2 by unfold partsN; rw [if_pos h0, hc], show partsE k = 0 by simp [partsE, h0]] at this)
  have HD := Lib.hid (fun (W : World) (m : Nat) => Calls.quiet_of_same (n := m) ((do_op k u1 u2 (by omega) (by omega) (W.drewN m)).mono fun _ _ h => ⟨h.1, h.2.symm⟩))
  have g1 : (k == 1) = false := by rw [beq_eq_false_iff_ne]; omega
  have g2 : (k == 2) = false := by rw [beq_eq_false_iff_ne]; omega
  have g3 : (k == 3) = false := by rw [beq_eq_false_iff_ne]; omega
  have g4 : (k == 4) = false := by rw [beq_eq_false_iff_ne]; omega
  have hab1 : (ad.add i1).block < w.heap.size := by rw [add_block]; exact hal
  have hab2 : (ad.add i2).block < w.heap.size := by rw [add_block]; exact hal
  have j1 : (0 : Int) ≤ i1 := by omega
  have j2 : (i1 : Int) < i := by omega
  have j3 : (0 : Int) ≤ i2 := by omega
  have j4 : (i2 : Int) < i := by omega
  clear h0 hc h6 h19 hal
  go_enter Tryd.func30, Tryd.ntmps30
  go_wp2_with (go_at_call 25; refine (HP.out _).mono ?_; rintro e w' ⟨rfl, rfl⟩)
  go_quiet ((go_at_call 26; with_reducible exact HD.out _ _))
  go_wp2
  go_ret
  exact ⟨rfl, Below.drewN' (((Below.refl _ _).alloc (Nat.le_refl _) _).alloc (by simp) _) _⟩
/-- valueOf, of a node whose parts stand in front. -/
theorem valof_any (r : Rc) (A : Option Addr) (i c : Nat) (vs : List Int) (x : Nd) (w : World) (h1 : 1 ≤ x.k) (h2 : x.k ≤ 19) (ht : Lies w A (iCells vs)) (hi : vs.length = i)
    (h3 : x.k ≤ 4 ∨ (4 < x.k ∧ x.k ≤ 6 ∧ ∃ (i1 : Nat), x.a = i1 ∧ x.b = 0 ∧ i1 < i) ∨ (6 < x.k ∧ ∃ (i1 i2 : Nat), x.a = i1 ∧ x.b = i2 ∧ i1 < i ∧ i2 < i)) :
    Calls Tryd.prog 30 #[ndV x, .slice A i c, rcV r] w fun e w' => e = .returned (.int .i64 (valF r vs x)) ∧ Below w.heap.size w w' := by
  obtain ⟨k, n, a, b, p⟩ := x
  simp only at h1 h2 h3
  rcases h3 with hk | ⟨hk, hk2, i1, rfl, rfl, hi1⟩ | ⟨hk, i1, i2, rfl, rfl, hi1, hi2⟩
  · have h4 : k = 1 ∨ k = 2 ∨ k = 3 ∨ k = 4 := by omega
    rcases h4 with rfl | rfl | rfl | rfl
    · exact valof_1 _ n a b p _ _ _ w
    · exact valof_2 _ n a b p _ _ _ w
    · exact valof_3 _ n a b p _ _ _ w
    · exact valof_4 _ n a b p _ _ _ w
  · rw [vals_op (show 4 < (⟨k, n, (i1 : Int), 0, p⟩ : Nd).k from hk)]
    show Calls Tryd.prog 30 _ _ fun e w' => e = .returned (.int .i64 (opV k (getV vs i1) (if k ≤ 6 then 0 else _))) ∧ _
    rw [if_pos hk2]
    obtain ⟨ad, rfl, hal, d1⟩ := Lies.val ht (i := i1) (by omega)
    exact valof_one ad i c i1 k n p _ _ _ _ w hk hk2 hi1 hal d1
  · rw [vals_op (show 4 < (⟨k, n, (i1 : Int), (i2 : Int), p⟩ : Nd).k by show 4 < k; omega)]
    show Calls Tryd.prog 30 _ _ fun e w' => e = .returned (.int .i64 (opV k (getV vs i1) (if k ≤ 6 then 0 else getV vs i2))) ∧ _
    rw [if_neg (by omega)]
    obtain ⟨ad, rfl, hal, d1⟩ := Lies.val ht (i := i1) (by omega)
    obtain ⟨ad', had, _, d2⟩ := Lies.val ht (i := i2) (by omega)
    injection had with had
    subst had
    exact valof_two ad i c i1 i2 k n p _ _ _ _ _ w hk h2 hi1 hi2 hal d1 d2
end Go.Proofs.YtajchaknfkfljaaDoor.V7
