/- A reader reads a whole query. -/
import Derived.Test.YtlmamidodahgmaaGreatDoorPWin2
namespace Go.Proofs.YtlmamidodahgmaaGreatDoor.P9
open Go.ChangeShapes Go.WideShapes Go.ChangeAt Go.RowKit N4 Q8
set_option linter.unusedVariables false
set_option linter.unusedSimpArgs false
set_option maxRecDepth 100000

/-- The parts of the grammar, from one on. -/
noncomputable def partsP : Nat → Qy → List Tok → PR
  | 0, q, s => (aggP q s).bind fun q s => (fromP q s).bind fun q s => (whereP q s).bind fun q s => (winP q s).bind fun q s => (keyP q s).bind fun q s => (lateP q s).bind fun q s => endP q s
  | 1, q, s => (fromP q s).bind fun q s => (whereP q s).bind fun q s => (winP q s).bind fun q s => (keyP q s).bind fun q s => (lateP q s).bind fun q s => endP q s
  | 2, q, s => (whereP q s).bind fun q s => (winP q s).bind fun q s => (keyP q s).bind fun q s => (lateP q s).bind fun q s => endP q s
  | 3, q, s => (winP q s).bind fun q s => (keyP q s).bind fun q s => (lateP q s).bind fun q s => endP q s
  | 4, q, s => (keyP q s).bind fun q s => (lateP q s).bind fun q s => endP q s
  | 5, q, s => (lateP q s).bind fun q s => endP q s
  | 6, q, s => endP q s
  | _, q, s => .ok q s
theorem endP_bind (q : Qy) (s : List Tok) : endP q s = (endP q s).bind fun q s => .ok q s := by cases endP q s <;> rfl
def PreK (k : Nat) (VA VS VB : Value) (q : Qy) : Prop := (k = 0 → q = q0 ∧ VA = .slice none 0 0 ∧ VS = .slice none 0 0 ∧ VB = .slice none 0 0) ∧ (k = 1 → q.M = [] ∧ SrcOk q.l)
def FnC (b : Nat) : List Value := [.func (.func 57) #[.pointer (some ⟨b, 0, none⟩)] #[], .func (.func 58) #[.pointer (some ⟨b, 0, none⟩)] #[], .func (.func 59) #[.pointer (some ⟨b, 0, none⟩)] #[],
  .func (.func 60) #[.pointer (some ⟨b, 0, none⟩)] #[], .func (.func 61) #[.pointer (some ⟨b, 0, none⟩)] #[], .func (.func 62) #[.pointer (some ⟨b, 0, none⟩)] #[], .func (.func 63) #[.pointer (some ⟨b, 0, none⟩)] #[]]
section
variable (w0 : World × World) (L : List Tok) (A : Option Addr) (c b : Nat)
theorem agg_bind {s s1 : List Tok} {q1 : Qy} (h : aggP q0 s = .ok q1 s1) : q1.M = [] ∧ SrcOk q1.l := by
  obtain ⟨c, g, L, _, rfl, _⟩ := agg_s h
  exact ⟨rfl, by simp, by simp⟩
/-- The list of parts stands. -/
theorem fn_lies {F w : World} {g : Nat} (h : Fr b F w) (hg : g < F.heap.size) (hb : g ≠ b) {cs : List Value} (hl : Lies F (some ⟨g, 0, none⟩) cs) : Lies w (some ⟨g, 0, none⟩) cs := by
  rcases hl with h0 | ⟨ad, h1, h2, h3⟩
  · exact .inl h0
  · refine .inr ⟨ad, h1, Nat.lt_of_lt_of_le h2 h.1, fun j u hu => ?_⟩
    injection h1 with h1
    subst h1
    have e : ((⟨g, 0, none⟩ : Addr).add j).block = g := by unfold Addr.add; split <;> rfl
    rw [World.cell?_of_block (w := F) (by rw [e]; exact h.2 g hg hb)]
    exact h3 j u hu
theorem codeP_er {v : Int} {s : List Tok} (h : v ≠ 0) : (v == 0) = false ∧ (v != 0) = true := ⟨by simpa using h, by simpa using h⟩
set_option maxHeartbeats 16000000 in
theorem read_q (W0 : World) (w : World) (G : ∀ F, Gx (W0, F) L A c b) (hbl : Below b W0 w) (hr : Rq w b (.slice A L.length c) 0 (QCl q0 (.slice none 0 0) (.slice none 0 0) (.slice none 0 0))) :
    Calls Tryz.prog 31 #[.pointer (some ⟨b, 0, none⟩)] w fun e w' => e = .returned (.int .i64 (codeP (pqF L))) ∧ ∃ F, QMem (W0, F) L A c b (pqF L) w' := by
  obtain ⟨R, hR⟩ : ∃ R, partsP 0 q0 L = R := ⟨_, rfl⟩
  rw [show pqF L = partsP 0 q0 L from rfl, hR]
  have hlt := hr.lt
  obtain ⟨wF, hwF⟩ : ∃ wF, wF = w.alloc (.cells (FnC b).toArray 70) := ⟨_, rfl⟩
  have hbF : Below w.heap.size w wF := by rw [hwF]; exact (Below.refl _ _).alloc (Nat.le_refl _) _
  have hP0 : PQ (W0, wF) L A c b L (.slice none 0 0) (.slice none 0 0) (.slice none 0 0) q0 wF.heap.size wF :=
    { st := ⟨List.suffix_refl _, hbl.trans (hbF.mono (Nat.le_of_lt hlt)), Fr.refl _ _, by rw [Nat.sub_self]; exact hr.below hbF⟩
      arg := NdV.nil _ _
      argB := fun _ _ _ _ hh => absurd rfl hh
      src := World.ownsRow_nil _ _ _ _
      bB := Nat.lt_of_lt_of_le hlt hbF.size
      FB := Nat.le_refl _
      BS := Nat.le_refl _
      whr := NdV.nil _ _
      whrB := fun _ _ _ _ hh => absurd rfl hh }
  have HFN := Lib.hid (fun W (hf : Fr b wF W) => fn_lies b hf (g := w.heap.size) (by rw [hwF]; simp) (by omega) (cs := FnC b) (by rw [hwF]; exact N4.lies_vals w _ rfl (FnC b).toArray 70 _ rfl))
  obtain ⟨w0, hw0⟩ : ∃ w0 : World × World, w0 = (W0, wF) := ⟨_, rfl⟩
  have HG := Lib.hid (show Gx w0 L A c b by rw [hw0]; exact G _)
  have HP0 := Lib.hid (show PQ w0 L A c b L (.slice none 0 0) (.slice none 0 0) (.slice none 0 0) q0 wF.heap.size wF by rw [hw0]; exact hP0)
  have HFIN := Lib.hid (show ∀ r W, QMem w0 L A c b r W → ∃ F, QMem (W0, F) L A c b r W from fun r W h => ⟨wF, hw0 ▸ h⟩)
  have HFN2 := Lib.hid (fun W (s : List Tok) (X : List Value) (hst : St w0 L A c b s X W) => HFN.out W (by have := hst.fr; rw [hw0] at this; exact this))
  have HR0 := Lib.hid hR
  have HWF := Lib.hid hwF
  clear hR hbl hr hP0 hw0 HFN G hbF hwF
  go_enter Tryz.func31, Tryz.ntmps31
  go_wp2
  go_loopw [22] (fun i wr => ∃ (k : Nat) (sk : List Tok) (qk : Qy) (VAk VSk VBk : Value) (Bk : Nat), k ≤ 7 ∧ i = .int .i64 k ∧ Hid (PreK k VAk VSk VBk qk) ∧ Hid (partsP k qk sk = R) ∧ Hid (PQ w0 L A c b sk VAk VSk VBk qk Bk wr)) (fun i _ => 7 - (intOf i).toNat)
  case atStart => exact ⟨0, L, q0, _, _, _, _, Nat.zero_le _, rfl, Lib.hid ⟨fun _ => ⟨rfl, rfl, rfl, rfl⟩, fun hh => by omega⟩, HR0, by have := HP0; rw [HWF.out] at this; exact this⟩
  case round =>
    clear HR0 HP0 HWF
    obtain ⟨k, sk, qk, VAk, VSk, VBk, Bk, hk, rfl, HPR, HR, HPk⟩ := hrel
    obtain ⟨hp0, hp1⟩ := HPR.out
    by_cases hlt7 : k < 7
    · have hc : k = 0 ∨ k = 1 ∨ k = 2 ∨ k = 3 ∨ k = 4 ∨ k = 5 ∨ k = 6 := by omega
      have hfl := HFN2.out wr _ _ HPk.out.st
      have hsz : w.heap.size < wr.heap.size := by
        rcases hfl with h0 | ⟨ad, h1, h2, _⟩
        · cases h0
        · injection h1 with h1; subst h1; exact h2
      clear HPR hlt7
      rcases hc with rfl | rfl | rfl | rfl | rfl | rfl | rfl
      · obtain ⟨ad, hA, hadl, c0⟩ := hfl.one (k := 0) (u := .func (.func 57) #[.pointer (some ⟨b, 0, none⟩)] #[]) rfl
        injection hA with hA
        subst hA
        have c1 : wr.cell? ⟨w.heap.size, 0, none⟩ = some (.func (.func 57) #[.pointer (some ⟨b, 0, none⟩)] #[]) := by rw [← c0]; congr 1
        clear c0 hadl
        have hC := Lib.hid (show Calls Tryz.prog 57 #[.pointer (some ⟨b, 0, none⟩)] wr (QPost w0 L A c b (aggP qk sk)) from by obtain ⟨e1, e2, e3, e4⟩ := hp0 rfl; subst e1 e2 e3 e4; exact agg_q w0 L A c b sk Bk wr HG.out HPk.out)
        have hR := HR.out
        obtain ⟨r, hr⟩ : ∃ r, aggP qk sk = r := ⟨_, rfl⟩
        rw [hr] at hC
        have hR2 : r.bind (fun q s => partsP 1 q s) = R := by rw [← hr, ← hR]; rfl
        clear hR HR
        cases r with
        | er v s2 =>
          have HRE := Lib.hid (show PR.er v s2 = R from hR2)
          clear hr hR2 hfl hp0 hp1
          go_wp2_with (go_at_call 57; refine hC.out.mono ?_; rintro e w2 ⟨rfl, hq⟩; have HQ := Lib.hid hq; obtain ⟨g1, g2⟩ := codeP_er (s := s2) hq.1; clear hq; simp only [codeP])
          go_ret
          rw [← HRE.out]
          exact ⟨rfl, HFIN.out _ _ HQ.out⟩
        | ok q2 s2 =>
          have HRE := Lib.hid (show partsP 1 q2 s2 = R from hR2)
          have HPRE := fun (VA VS VB : Value) => (show Hid (PreK 1 VA VS VB q2) from Lib.hid ⟨fun hh => by omega, fun _ => by obtain ⟨e1, _⟩ := hp0 rfl; subst e1; exact agg_bind hr⟩)
          clear hr hR2 hfl hp0 hp1
          go_wp2_with (go_at_call 57; refine hC.out.mono ?_; rintro e w2 ⟨rfl, VA2, VS2, VB2, B2, hq⟩; have HP2 := Lib.hid hq; clear hq; simp only [codeP])
          go_roundw
          case rel => exact ⟨1, s2, q2, VA2, VS2, VB2, B2, by omega, by go_num, HPRE _ _ _, HRE, HP2⟩
          case measure => simp [intOf]
      · obtain ⟨ad, hA, hadl, c0⟩ := hfl.one (k := 1) (u := .func (.func 58) #[.pointer (some ⟨b, 0, none⟩)] #[]) rfl
        injection hA with hA
        subst hA
        have c1 : wr.cell? ⟨w.heap.size, 1, none⟩ = some (.func (.func 58) #[.pointer (some ⟨b, 0, none⟩)] #[]) := by rw [← c0]; congr 1
        clear c0 hadl
        have hC := Lib.hid (from_q w0 L A c b sk VAk VSk VBk qk Bk wr HG.out HPk.out (hp1 rfl).1 (hp1 rfl).2)
        have hR := HR.out
        obtain ⟨r, hr⟩ : ∃ r, fromP qk sk = r := ⟨_, rfl⟩
        rw [hr] at hC
        have hR2 : r.bind (fun q s => partsP 2 q s) = R := by rw [← hr, ← hR]; rfl
        clear hR HR
        cases r with
        | er v s2 =>
          have HRE := Lib.hid (show PR.er v s2 = R from hR2)
          clear hr hR2 hfl hp0 hp1
          go_wp2_with (go_at_call 58; refine hC.out.mono ?_; rintro e w2 ⟨rfl, hq⟩; have HQ := Lib.hid hq; obtain ⟨g1, g2⟩ := codeP_er (s := s2) hq.1; clear hq; simp only [codeP])
          go_ret
          rw [← HRE.out]
          exact ⟨rfl, HFIN.out _ _ HQ.out⟩
        | ok q2 s2 =>
          have HRE := Lib.hid (show partsP 2 q2 s2 = R from hR2)
          have HPRE := fun (VA VS VB : Value) => (show Hid (PreK 2 VA VS VB q2) from Lib.hid ⟨fun hh => by omega, fun hh => by omega⟩)
          clear hr hR2 hfl hp0 hp1
          go_wp2_with (go_at_call 58; refine hC.out.mono ?_; rintro e w2 ⟨rfl, VA2, VS2, VB2, B2, hq⟩; have HP2 := Lib.hid hq; clear hq; simp only [codeP])
          go_roundw
          case rel => exact ⟨2, s2, q2, VA2, VS2, VB2, B2, by omega, by go_num, HPRE _ _ _, HRE, HP2⟩
          case measure => simp [intOf]
      · obtain ⟨ad, hA, hadl, c0⟩ := hfl.one (k := 2) (u := .func (.func 59) #[.pointer (some ⟨b, 0, none⟩)] #[]) rfl
        injection hA with hA
        subst hA
        have c1 : wr.cell? ⟨w.heap.size, 2, none⟩ = some (.func (.func 59) #[.pointer (some ⟨b, 0, none⟩)] #[]) := by rw [← c0]; congr 1
        clear c0 hadl
        have hC := Lib.hid (where_q w0 L A c b sk VAk VSk VBk qk Bk wr HG.out HPk.out)
        have hR := HR.out
        obtain ⟨r, hr⟩ : ∃ r, whereP qk sk = r := ⟨_, rfl⟩
        rw [hr] at hC
        have hR2 : r.bind (fun q s => partsP 3 q s) = R := by rw [← hr, ← hR]; rfl
        clear hR HR
        cases r with
        | er v s2 =>
          have HRE := Lib.hid (show PR.er v s2 = R from hR2)
          clear hr hR2 hfl hp0 hp1
          go_wp2_with (go_at_call 59; refine hC.out.mono ?_; rintro e w2 ⟨rfl, hq⟩; have HQ := Lib.hid hq; obtain ⟨g1, g2⟩ := codeP_er (s := s2) hq.1; clear hq; simp only [codeP])
          go_ret
          rw [← HRE.out]
          exact ⟨rfl, HFIN.out _ _ HQ.out⟩
        | ok q2 s2 =>
          have HRE := Lib.hid (show partsP 3 q2 s2 = R from hR2)
          have HPRE := fun (VA VS VB : Value) => (show Hid (PreK 3 VA VS VB q2) from Lib.hid ⟨fun hh => by omega, fun hh => by omega⟩)
          clear hr hR2 hfl hp0 hp1
          go_wp2_with (go_at_call 59; refine hC.out.mono ?_; rintro e w2 ⟨rfl, VA2, VS2, VB2, B2, hq⟩; have HP2 := Lib.hid hq; clear hq; simp only [codeP])
          go_roundw
          case rel => exact ⟨3, s2, q2, VA2, VS2, VB2, B2, by omega, by go_num, HPRE _ _ _, HRE, HP2⟩
          case measure => simp [intOf]
      · obtain ⟨ad, hA, hadl, c0⟩ := hfl.one (k := 3) (u := .func (.func 60) #[.pointer (some ⟨b, 0, none⟩)] #[]) rfl
        injection hA with hA
        subst hA
        have c1 : wr.cell? ⟨w.heap.size, 3, none⟩ = some (.func (.func 60) #[.pointer (some ⟨b, 0, none⟩)] #[]) := by rw [← c0]; congr 1
        clear c0 hadl
        have hC := Lib.hid (window_q w0 L A c b sk VAk VSk VBk qk Bk wr HG.out HPk.out)
        have hR := HR.out
        obtain ⟨r, hr⟩ : ∃ r, winP qk sk = r := ⟨_, rfl⟩
        rw [hr] at hC
        have hR2 : r.bind (fun q s => partsP 4 q s) = R := by rw [← hr, ← hR]; rfl
        clear hR HR
        cases r with
        | er v s2 =>
          have HRE := Lib.hid (show PR.er v s2 = R from hR2)
          clear hr hR2 hfl hp0 hp1
          go_wp2_with (go_at_call 60; refine hC.out.mono ?_; rintro e w2 ⟨rfl, hq⟩; have HQ := Lib.hid hq; obtain ⟨g1, g2⟩ := codeP_er (s := s2) hq.1; clear hq; simp only [codeP])
          go_ret
          rw [← HRE.out]
          exact ⟨rfl, HFIN.out _ _ HQ.out⟩
        | ok q2 s2 =>
          have HRE := Lib.hid (show partsP 4 q2 s2 = R from hR2)
          have HPRE := fun (VA VS VB : Value) => (show Hid (PreK 4 VA VS VB q2) from Lib.hid ⟨fun hh => by omega, fun hh => by omega⟩)
          clear hr hR2 hfl hp0 hp1
          go_wp2_with (go_at_call 60; refine hC.out.mono ?_; rintro e w2 ⟨rfl, VA2, VS2, VB2, B2, hq⟩; have HP2 := Lib.hid hq; clear hq; simp only [codeP])
          go_roundw
          case rel => exact ⟨4, s2, q2, VA2, VS2, VB2, B2, by omega, by go_num, HPRE _ _ _, HRE, HP2⟩
          case measure => simp [intOf]
      · obtain ⟨ad, hA, hadl, c0⟩ := hfl.one (k := 4) (u := .func (.func 61) #[.pointer (some ⟨b, 0, none⟩)] #[]) rfl
        injection hA with hA
        subst hA
        have c1 : wr.cell? ⟨w.heap.size, 4, none⟩ = some (.func (.func 61) #[.pointer (some ⟨b, 0, none⟩)] #[]) := by rw [← c0]; congr 1
        clear c0 hadl
        have hC := Lib.hid (key_q w0 L A c b sk VAk VSk VBk qk Bk wr HG.out HPk.out)
        have hR := HR.out
        obtain ⟨r, hr⟩ : ∃ r, keyP qk sk = r := ⟨_, rfl⟩
        rw [hr] at hC
        have hR2 : r.bind (fun q s => partsP 5 q s) = R := by rw [← hr, ← hR]; rfl
        clear hR HR
        cases r with
        | er v s2 =>
          have HRE := Lib.hid (show PR.er v s2 = R from hR2)
          clear hr hR2 hfl hp0 hp1
          go_wp2_with (go_at_call 61; refine hC.out.mono ?_; rintro e w2 ⟨rfl, hq⟩; have HQ := Lib.hid hq; obtain ⟨g1, g2⟩ := codeP_er (s := s2) hq.1; clear hq; simp only [codeP])
          go_ret
          rw [← HRE.out]
          exact ⟨rfl, HFIN.out _ _ HQ.out⟩
        | ok q2 s2 =>
          have HRE := Lib.hid (show partsP 5 q2 s2 = R from hR2)
          have HPRE := fun (VA VS VB : Value) => (show Hid (PreK 5 VA VS VB q2) from Lib.hid ⟨fun hh => by omega, fun hh => by omega⟩)
          clear hr hR2 hfl hp0 hp1
          go_wp2_with (go_at_call 61; refine hC.out.mono ?_; rintro e w2 ⟨rfl, VA2, VS2, VB2, B2, hq⟩; have HP2 := Lib.hid hq; clear hq; simp only [codeP])
          go_roundw
          case rel => exact ⟨5, s2, q2, VA2, VS2, VB2, B2, by omega, by go_num, HPRE _ _ _, HRE, HP2⟩
          case measure => simp [intOf]
      · obtain ⟨ad, hA, hadl, c0⟩ := hfl.one (k := 5) (u := .func (.func 62) #[.pointer (some ⟨b, 0, none⟩)] #[]) rfl
        injection hA with hA
        subst hA
        have c1 : wr.cell? ⟨w.heap.size, 5, none⟩ = some (.func (.func 62) #[.pointer (some ⟨b, 0, none⟩)] #[]) := by rw [← c0]; congr 1
        clear c0 hadl
        have hC := Lib.hid (late_q w0 L A c b sk VAk VSk VBk qk Bk wr HG.out HPk.out)
        have hR := HR.out
        obtain ⟨r, hr⟩ : ∃ r, lateP qk sk = r := ⟨_, rfl⟩
        rw [hr] at hC
        have hR2 : r.bind (fun q s => partsP 6 q s) = R := by rw [← hr, ← hR]; rfl
        clear hR HR
        cases r with
        | er v s2 =>
          have HRE := Lib.hid (show PR.er v s2 = R from hR2)
          clear hr hR2 hfl hp0 hp1
          go_wp2_with (go_at_call 62; refine hC.out.mono ?_; rintro e w2 ⟨rfl, hq⟩; have HQ := Lib.hid hq; obtain ⟨g1, g2⟩ := codeP_er (s := s2) hq.1; clear hq; simp only [codeP])
          go_ret
          rw [← HRE.out]
          exact ⟨rfl, HFIN.out _ _ HQ.out⟩
        | ok q2 s2 =>
          have HRE := Lib.hid (show partsP 6 q2 s2 = R from hR2)
          have HPRE := fun (VA VS VB : Value) => (show Hid (PreK 6 VA VS VB q2) from Lib.hid ⟨fun hh => by omega, fun hh => by omega⟩)
          clear hr hR2 hfl hp0 hp1
          go_wp2_with (go_at_call 62; refine hC.out.mono ?_; rintro e w2 ⟨rfl, VA2, VS2, VB2, B2, hq⟩; have HP2 := Lib.hid hq; clear hq; simp only [codeP])
          go_roundw
          case rel => exact ⟨6, s2, q2, VA2, VS2, VB2, B2, by omega, by go_num, HPRE _ _ _, HRE, HP2⟩
          case measure => simp [intOf]
      · obtain ⟨ad, hA, hadl, c0⟩ := hfl.one (k := 6) (u := .func (.func 63) #[.pointer (some ⟨b, 0, none⟩)] #[]) rfl
        injection hA with hA
        subst hA
        have c1 : wr.cell? ⟨w.heap.size, 6, none⟩ = some (.func (.func 63) #[.pointer (some ⟨b, 0, none⟩)] #[]) := by rw [← c0]; congr 1
        clear c0 hadl
        have hC := Lib.hid (end_q w0 L A c b sk VAk VSk VBk qk Bk wr HG.out HPk.out)
        have hR := HR.out
        obtain ⟨r, hr⟩ : ∃ r, endP qk sk = r := ⟨_, rfl⟩
        rw [hr] at hC
        have hR2 : r.bind (fun q s => partsP 7 q s) = R := by rw [← hr, ← hR]; (show _ = endP qk sk); cases endP qk sk <;> rfl
        clear hR HR
        cases r with
        | er v s2 =>
          have HRE := Lib.hid (show PR.er v s2 = R from hR2)
          clear hr hR2 hfl hp0 hp1
          go_wp2_with (go_at_call 63; refine hC.out.mono ?_; rintro e w2 ⟨rfl, hq⟩; have HQ := Lib.hid hq; obtain ⟨g1, g2⟩ := codeP_er (s := s2) hq.1; clear hq; simp only [codeP])
          go_ret
          rw [← HRE.out]
          exact ⟨rfl, HFIN.out _ _ HQ.out⟩
        | ok q2 s2 =>
          have HRE := Lib.hid (show partsP 7 q2 s2 = R from hR2)
          have HPRE := fun (VA VS VB : Value) => (show Hid (PreK 7 VA VS VB q2) from Lib.hid ⟨fun hh => by omega, fun hh => by omega⟩)
          clear hr hR2 hfl hp0 hp1
          go_wp2_with (go_at_call 63; refine hC.out.mono ?_; rintro e w2 ⟨rfl, VA2, VS2, VB2, B2, hq⟩; have HP2 := Lib.hid hq; clear hq; simp only [codeP])
          go_roundw
          case rel => exact ⟨7, s2, q2, VA2, VS2, VB2, B2, by omega, by go_num, HPRE _ _ _, HRE, HP2⟩
          case measure => simp [intOf]
    · obtain rfl : 7 = k := by omega
      have HRE := Lib.hid (show PR.ok qk sk = R from HR.out)
      clear HPR HR hp0 hp1
      go_wp2
      go_ret
      rw [← HRE.out]
      exact ⟨rfl, HFIN.out (.ok qk sk) _ ⟨_, _, _, _, HPk.out⟩⟩
end
end Go.Proofs.YtlmamidodahgmaaGreatDoor.P9
