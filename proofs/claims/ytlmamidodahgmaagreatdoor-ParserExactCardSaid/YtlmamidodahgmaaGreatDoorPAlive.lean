/- Contracts over queries as values; fails, alive. -/
import Derived.Test.YtlmamidodahgmaaGreatDoorPParse
import Derived.Test.YtlmamidodahgmaaGreatDoorPLaw0
import Derived.Test.YtlmamidodahgmaaGreatDoorQD
import Derived.Test.YtlmamidodahgmaaGreatDoorQB
import Derived.Test.YtlmamidodahgmaaGreatDoorQE
namespace Go.Proofs.YtlmamidodahgmaaGreatDoor.P9
open Go.ChangeShapes Go.WideShapes Go.ChangeAt Go.RowKit N4 Q8
set_option linter.unusedVariables false
set_option linter.unusedSimpArgs false
set_option maxRecDepth 100000

theorem T9.start {w : World} (h : T9 w) : T9 w := h
/-- Below, and all tables. -/
def G9 (w0 w : World) : Prop := Below w0.heap.size w0 w ∧ T9 w
theorem G9.start {w : World} (h : T9 w) : G9 w w := ⟨Below.refl _ _, h⟩
theorem G9.step {w0 w w' : World} (h : G9 w0 w) (hb : Below w.heap.size w w') : G9 w0 w' := ⟨h.1.trans (hb.mono h.1.size), h.2.stays hb⟩
theorem parse_v (N : List UInt8) (S : ByteArray) (hS : bytesOf N = S) (hN : N.length ≤ maxLen) (w0 w : World) (h : G9 w0 w) : Calls Tryz.prog 11 #[.string S] w (ParP (parF N) w) := by
  subst hS; exact parse_c N w hN h.2
theorem alike_v {p q : Qy} {v v' : Value} {w : World} (h : QV w p v) (h' : QV w q v') (hp : Small p) (hq : Small q) : Calls Tryz.prog 14 #[v, v'] w fun e w' => e = .returned (.bool (sameQ p q)) ∧ Below w.heap.size w w' := by
  obtain ⟨A, c, S, d, B, e, rfl, h2, _⟩ := h
  obtain ⟨A', c', S', d', B', e', rfl, h2', _⟩ := h'
  have := hp.L; have := hp.M; have := hp.l; have := hq.L; have := hq.M; have := hq.l
  exact ralk_any _ _ _ _ _ _ _ _ _ _ _ _ _ _ _ _ _ _ _ _ _ _ _ _ _ _ _ _ _ _ _ _ p.L p.M p.l q.L q.M q.l w h2 h2' (by omega) (by omega) (by omega) (by omega) (by omega) (by omega) _ rfl
theorem equal_v {p q : Qy} {v v' : Value} {w : World} (h : QV w p v) (h' : QV w q v') (hp : Small p) (hq : Small q) : Calls Tryz.prog 23 #[v, v'] w fun e w' => e = .returned (.bool (sameQ p q && (decide (p.L = q.L) && decide (p.M = q.M)))) ∧ Below w.heap.size w w' := by
  obtain ⟨A, c, S, d, B, e, rfl, h2, _⟩ := h
  obtain ⟨A', c', S', d', B', e', rfl, h2', _⟩ := h'
  have := hp.L; have := hp.M; have := hp.l; have := hq.L; have := hq.M; have := hq.l
  exact reqq_any _ _ _ _ _ _ _ _ _ _ _ _ _ _ _ _ _ _ _ _ _ _ _ _ _ _ _ _ _ _ _ _ p.L p.M p.l q.L q.M q.l w h2 h2' (by omega) (by omega) (by omega) (by omega) (by omega) (by omega) _ rfl
theorem rchk_v {p : Qy} {v : Value} {w : World} (h : QV w p v) : Calls Tryz.prog 6 #[v] w fun e w' => e = .returned (.int .i64 (Q8.chkF p)) ∧ Below w.heap.size w w' := by
  obtain ⟨A, c, S, d, B, e, rfl, h2, _⟩ := h
  exact rchk_any _ _ _ _ _ _ _ _ _ _ _ _ _ _ _ _ p.L p.M p.l w h2 _ rfl
theorem chk_v {p : Qy} {v : Value} {w : World} (h : QV w p v) (hp : Small p) : Calls Tryz.prog 33 #[v] w fun e w' => e = .returned (.int .i64 (Q8.chkF p)) ∧ Below w.heap.size w w' := by
  obtain ⟨A, c, S, d, B, e, rfl, h2, _⟩ := h
  exact chk_any _ _ _ _ _ _ _ _ _ _ _ _ _ _ _ _ p.L p.M p.l w h2 hp.s _ rfl
/-! ### closed texts -/
def T0 : List UInt8 := [115, 101, 108, 101, 99, 116, 32, 115, 117, 109, 40, 118, 41, 32, 102, 114, 111, 109, 32, 97, 32, 117, 110, 105, 111, 110, 32, 99, 32, 119, 104, 101, 114, 101, 32, 107, 32, 62, 32, 48, 32, 119, 105, 110, 100, 111, 119, 32, 115, 108, 105, 100, 101, 32, 49, 48, 32, 101, 118, 101, 114, 121, 32, 53, 32, 98, 121, 32, 107, 101, 121, 32, 108, 97, 116, 101, 32, 115, 105, 100, 101]
def T1 : List UInt8 := [115, 101, 108, 101, 99, 116, 32, 99, 111, 117, 110, 116, 40, 42, 41, 32, 102, 114, 111, 109, 32, 97]
def T2 : List UInt8 := [115, 101, 108, 101, 99, 116, 32, 99, 111, 117, 110, 116, 40, 42, 41, 32, 102, 114, 111, 109, 32, 97, 32, 106, 111, 105, 110, 32, 97, 32, 119, 105, 110, 100, 111, 119, 32, 116, 117, 109, 98, 108, 101, 32, 53]
def Q0 : Qy := ⟨2, [⟨4, 0, 0, 0, 11⟩], [0, 2], false, [⟨2, 0, 0, 0, 35⟩, ⟨1, 0, 0, 0, 39⟩, ⟨14, 0, 0, 1, 37⟩], 2, 10, 5, true, 2⟩
set_option maxHeartbeats 4000000 in
theorem t0_er : (parF T0).2.2 = 0 ∧ (parF T0).2.1 = 81 := by decide +kernel
theorem t0_a : (parF T0).1.g = 2 ∧ (parF T0).1.L = Q0.L ∧ (parF T0).1.l = Q0.l ∧ (parF T0).1.j = false ∧ (parF T0).1.M = Q0.M := by decide +kernel
theorem t0_b : (parF T0).1.k = 2 ∧ (parF T0).1.s = 10 ∧ (parF T0).1.v = 5 ∧ (parF T0).1.y = true ∧ (parF T0).1.t = 2 := by decide +kernel
theorem t1_er : (parF T1).2.2 = 12 ∧ (parF T1).2.1 = 22 := by decide +kernel
theorem t2_er : (parF T2).2.2 = 43 ∧ (parF T2).2.1 = 28 := by decide +kernel
theorem t0_eq : parF T0 = (Q0, 81, 0) := by
  obtain ⟨a1, a2, a3, a4, a5⟩ := t0_a
  obtain ⟨b1, b2, b3, b4, b5⟩ := t0_b
  obtain ⟨c1, c2⟩ := t0_er
  generalize parF T0 = r at *
  obtain ⟨⟨g, L, l, j, M, k, s, v, y, t⟩, n, e⟩ := r
  simp only at *
  subst a1 a2 a3 a4 a5 b1 b2 b3 b4 b5 c1 c2
  rfl
theorem fails_c (N : List UInt8) (S : ByteArray) (hS : bytesOf N = S) (hN : N.length ≤ maxLen) (at_ want : Int) (h1 : (parF N).2.2 = want) (h2 : (parF N).2.1 = at_) (h0 : want ≠ 0) (w0 w : World) (h : G9 w0 w) :
    Calls Tryz.prog 9 #[.string S, .int .i64 at_, .int .i64 want] w fun e w' => e = .returned (.bool true) ∧ G9 w0 w' := by
  have hp : parF N = (q0, at_, want) := by
    have := parF_er (N := N) (by rw [h1]; exact h0)
    rw [← this, ← h1, ← h2]
  have HC := Lib.hid (parse_v N S hS hN w0 w h)
  rw [hp] at HC
  have HG := Lib.hid h
  clear h hp h1 h2 hS hN h0
  go_enter Tryz.func9, Tryz.ntmps9
  go_wp2_with (go_at_call 11
               refine HC.out.mono ?_
               rintro e w2 ⟨v, rfl, hq, hb⟩
               obtain ⟨A1, c1, S1, d1, B1, e1, rfl, hqa, _⟩ := hq
               have HG2 := Lib.hid (HG.out.step hb)
               simp only [q0]
               clear hb hqa)
  go_ret
  exact ⟨rfl, HG2.out.step ((Below.refl _ _).alloc (Nat.le_refl _) _)⟩
theorem small0 : Small Q0 := ⟨by decide, by decide, by decide, by decide⟩
theorem equal0 {v v' : Value} {w : World} (h : QV w Q0 v) (h' : QV w Q0 v') : Calls Tryz.prog 23 #[v, v'] w fun e w' => e = .returned (.bool true) ∧ Below w.heap.size w w' := by
  have := equal_v h h' small0 small0
  rwa [show (sameQ Q0 Q0 && (decide (Q0.L = Q0.L) && decide (Q0.M = Q0.M))) = true by decide] at this
theorem al_lies {W : World} {r : Nat} {cs : Array Value} {t : TypeId} {vs : List Value} (hr : W.heap.size = r) (h : cs.toList = vs) {W2 : World} (hb : Below (r + 1) (W.alloc (.cells cs t)) W2) : Lies W2 (some ⟨r, 0, none⟩) vs :=
  (N4.lies_vals W r hr cs t vs h).below (hb.mono (by simp; omega))
theorem bal {B : Nat} {w W : World} (h : Below B w W) (hB : B ≤ W.heap.size) (o : Obj) : Below B w (W.alloc o) := h.alloc hB o
set_option maxHeartbeats 4000000 in
theorem alive_c (w0 w : World) (h : G9 w0 w) : Calls Tryz.prog 7 #[] w fun e w' => e = .returned (.bool true) ∧ G9 w0 w' := by
  have HP := Lib.hid (parse_v T0 _ rfl (by decide) w0 w h)
  rw [t0_eq] at HP
  have HG := Lib.hid h
  have HF1 := Lib.hid (fun W (hg : G9 w0 W) => fails_c T1 ⟨#[115, 101, 108, 101, 99, 116, 32, 99, 111, 117, 110, 116, 40, 42, 41, 32, 102, 114, 111, 109, 32, 97]⟩ rfl (by decide) 22 12 t1_er.1 t1_er.2 (by decide) w0 W hg)
  have HF2 := Lib.hid (fun W (hg : G9 w0 W) => fails_c T2 ⟨#[115, 101, 108, 101, 99, 116, 32, 99, 111, 117, 110, 116, 40, 42, 41, 32, 102, 114, 111, 109, 32, 97, 32, 106, 111, 105, 110, 32, 97, 32, 119, 105, 110, 100, 111, 119, 32, 116, 117, 109, 98, 108, 101, 32, 53]⟩ rfl (by decide) 28 43 t2_er.1 t2_er.2 (by decide) w0 W hg)
  clear h
  go_enter Tryz.func7, Tryz.ntmps7
  go_wp2_with (first
    | (go_at_call 11
       refine HP.out.mono ?_
       rintro e w2 ⟨v, rfl, hq, hb⟩
       obtain ⟨A1, c1, S1, d1, B1, e1, rfl, hqa, hsl⟩ := hq
       have HG2 := Lib.hid (HG.out.step hb)
       have HQ := Lib.hid hqa
       have HSL := Lib.hid hsl
       have HB7 := Lib.hid (fun (o1 o2 o3 o4 o5 : Obj) => (bal (bal (bal (bal (bal (Below.refl w2.heap.size w2) (Nat.le_refl _) o1) (by simp) o2) (by simp <;> omega) o3) (by simp <;> omega) o4) (by simp <;> omega) o5 : Below w2.heap.size w2 (((((w2.alloc o1).alloc o2).alloc o3).alloc o4).alloc o5)))
       simp only [Q0]
       clear hb hqa hsl)
    | (go_at_call 23
       refine (equal0 (v := .agg #[.int .u8 2, .slice A1 1 c1, .slice S1 2 d1, .bool false, .slice B1 3 e1, .int .u8 2, .int .i64 10, .int .i64 5, .bool true, .int .u8 2]) ⟨A1, c1, S1, d1, B1, e1, rfl, HQ.out.step (HB7.out _ _ _ _ _), HSL.out⟩ ⟨_, 1, _, 2, _, 3, rfl, ⟨⟨?l1, rfl, by decide⟩, ⟨?l2, rfl⟩, ⟨?l3, rfl, by decide⟩⟩, ⟨by decide, fun hh => by cases hh⟩, ⟨by decide, fun hh => by cases hh⟩, ⟨by decide, fun hh => by cases hh⟩⟩).mono ?_
       case l1 => exact al_lies (by simp) rfl (bal (bal (bal (Below.refl _ _) (by simp) _) (by simp) _) (by simp <;> omega) _)
       case l2 => exact al_lies (by simp) rfl (bal (bal (Below.refl _ _) (by simp) _) (by simp <;> omega) _)
       case l3 => exact al_lies (by simp) rfl (bal (Below.refl _ _) (by simp) _)
       rintro e w8 ⟨rfl, hb⟩
       have HG8 := Lib.hid ((HG2.out.step (HB7.out _ _ _ _ _)).step hb)
       clear hb)
    | (go_at_call 9; ((with_reducible refine (HF1.out _ HG8.out).mono ?_); rintro e w9 ⟨rfl, hg⟩; have HG9 := Lib.hid hg; clear hg HF1))
    | (go_at_call 9; ((with_reducible refine (HF2.out _ HG9.out).mono ?_); rintro e w10 ⟨rfl, hg⟩; have HG10 := Lib.hid hg; clear hg)))
  go_ret
  exact ⟨rfl, HG10.out⟩
end Go.Proofs.YtlmamidodahgmaaGreatDoor.P9
