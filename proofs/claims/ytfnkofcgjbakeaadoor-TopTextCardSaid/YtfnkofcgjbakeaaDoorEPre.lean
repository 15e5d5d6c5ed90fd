
/- Signs in front of a part. -/
import Derived.Test.YtfnkofcgjbakeaaDoorECmp
namespace Go.Proofs.YtfnkofcgjbakeaaDoor
open Go.ChangeShapes Go.WideShapes Go.ChangeAt Go.RowKit N4
set_option linter.unusedVariables false
set_option maxRecDepth 100000

theorem drop_cons {c : List Tok} {j : Nat} (hj : j < c.length) : ∃ x, c[j]? = some x ∧ c.drop j = x :: c.drop (j + 1) :=
  ⟨c[j], List.getElem?_eq_getElem hj, by rw [List.drop_eq_getElem_cons hj]⟩
/-- One sign more. -/
def stepR (k : Int) (x : Tok) (y : List Tok) : R → R
  | .ok t q => if (Tr.un k x.a t).er = 0 then .ok (.un k x.a t) q else .er (Tr.un k x.a t).er (x :: y)
  | .er e q => .er e q
theorem wrap_step (k : Int) (s : List Tok) (x : Tok) (c : List Tok) (r : R) : wrapR k s (x :: c) r = stepR k x (c ++ s) (wrapR k s c r) := by
  rw [wrapR]
  cases wrapR k s c r <;> rfl
theorem wrap_er (k : Int) (s : List Tok) : ∀ (c : List Tok) (r : R) (v : Int) (q : List Tok), r = .er v q → wrapR k s c r = .er v q := by
  intro c
  induction c with
  | nil => intro r v q h; exact h
  | cons x c ih => intro r v q h; rw [wrap_step, ih r v q h]; rfl
theorem wrap_app (k : Int) (s : List Tok) (d : List Tok) (r : R) : ∀ c : List Tok, wrapR k s (c ++ d) r = wrapR k (d ++ s) c (wrapR k s d r) := by
  intro c
  induction c with
  | nil => rfl
  | cons x c ih => rw [List.cons_append, wrap_step, ih, wrap_step, List.append_assoc]
theorem un_ok {k p : Int} {t : Tr} (hk : 5 ≤ k ∧ k ≤ 6) (hp : 0 ≤ p ∧ p ≤ 400) (ht : t.ok = true) : (Tr.un k p t).ok = true := by
  simp [Tr.ok, hk.1, hk.2, ht, fits_zero (k := k) hp]

set_option maxHeartbeats 1000000 in
/-- The node of a sign. -/
theorem sign_node (w0 : World) (L : List Tok) (A : Option Addr) (c b : Nat) (f : Fx w0 L A c b) (s : List Tok) (w : World) (h : PS w0 L A c b s w) (x : Tok) (y : List Tok) (hy : x :: y <:+ L) (i : Int) (hi : i + (x :: y).length = L.length) (k : Int) (hk : 5 ≤ k ∧ k ≤ 6)
    (t : Tr) (ht : t.ok = true ∧ t.er = 0) (A1 : Option Addr) (c1 : Nat) (hl : Lies w A1 (ndCells t.flat)) (T : TypeId) (r : R) (hr : stepR k x y (.ok t s) = r) :
    Calls Tryd.prog 89 #[.pointer (some ⟨b, 0, none⟩), .int .u8 k, .int .i64 0, .int .i64 i, .slice (some ⟨w.heap.size, 0, none⟩) 1 1] (w.alloc (.cells #[.slice A1 t.sz c1] T)) (LPost L A c b r (w.alloc (.cells #[.slice A1 t.sz c1] T))) := by
  obtain ⟨hx, _⟩ := suf_at hy
  have hle := hy.length_le
  obtain rfl : i = ((L.length - (x :: y).length : Nat) : Int) := by omega
  have hxa := f.mem hy x List.mem_cons_self
  have hbo := un_ok hk hxa ht.1
  have hcf := Tr.check_flat _ hbo
  have hP := h.below ((Below.refl w.heap.size w).alloc (Nat.le_refl _) (.cells #[.slice A1 t.sz c1] T))
  have hcn : cnt k = 1 := by unfold cnt; rw [if_neg (by omega), if_pos (by omega)]
  have hlp : Lies (w.alloc (.cells #[.slice A1 t.sz c1] T)) (some ⟨w.heap.size, 0, none⟩) [.slice A1 t.sz c1] := lies_vals w _ rfl _ T _ rfl
  have HN := node_1 (some ⟨w.heap.size, 0, none⟩) 1 k 0 x.a (w.alloc (.cells #[.slice A1 t.sz c1] T)) A1 c1 t.sz t.flat t.flat_length (hl.below ((Below.refl _ _).alloc (Nat.le_refl _) _)) ((Tr.check_flat t ht.1).trans ht.2) hlp (by simp [okK]; omega) (fits_zero hxa) hcn
  subst hr
  by_cases hz : (Tr.un k x.a t).er = 0
  · rw [stepR, if_pos hz]
    refine (rnode_ok w0 L A c b s _ f hP _ x hx k 0 _ _ _ _ _ HN (hcf.trans hz) (Tr.flat_length (Tr.un k x.a t))).mono ?_
    rintro e w' ⟨A', c', rfl, hl', hb⟩
    exact ⟨Kp.of_below hb, hP.rd.below hb, A', c', rfl, hl'⟩
  · rw [stepR, if_neg hz]
    refine (rnode_er w0 L A c b s _ f hP _ x hx k 0 _ _ _ _ _ HN hcf hz).mono ?_
    rintro e w' ⟨rfl, hk', hr'⟩
    exact ⟨hk', hr', rfl⟩

def PrRun (w0 : World) (L : List Tok) (A : Option Addr) (c b : Nat) (k : Int) (s0 cs : List Tok) (r0 : R) (w : World) (i : Int) (g : Nat) (tv xv ev : Value) (W : World) : Prop :=
  ∃ (j : Nat) (z : Int) (t : Tr) (q : List Tok) (A' : Option Addr) (c' : Nat), j + 1 = g ∧ j ≤ cs.length ∧ z = i + j - 1 ∧ tv = .int .i64 z ∧ xv = .slice A' t.sz (t.sz + c') ∧ ev = .int .i64 0 ∧ Hid (wrapR k s0 (cs.drop j) r0 = .ok t q) ∧ Hid (Lies W A' (ndCells t.flat)) ∧ Hid (t.ok = true ∧ t.er = 0) ∧ Hid (PS w0 L A c b q W) ∧ Hid (Kp b w W)
def PrErr (L : List Tok) (A : Option Addr) (c b : Nat) (r : R) (w : World) (xv ev : Value) (W : World) : Prop :=
  ∃ v q, Hid (r = .er v q) ∧ v ≠ 0 ∧ xv = .slice none 0 0 ∧ ev = .int .i64 v ∧ Hid (Kp b w W) ∧ Hid (Rdr W b (.slice A L.length c) (L.length - q.length))
theorem sq_eq {s t : List UInt8} (h : s = t) : ((bytesOf s).toList == (bytesOf t).toList) = true := beq_bytes h

set_option maxHeartbeats 2000000 in
theorem prefixed_any (w0 : World) (L : List Tok) (A : Option Addr) (c b g n N : Nat) (f : Fx w0 L A c b) (hgc : Ent g) (hn : isPr n) (H : LineC w0 L A c b g (n + 1) N) (s : List Tok) (r : R) (w : World) (hs : s.length ≤ N) (hr : Rd (.line n) s r) (h : PS w0 L A c b s w) :
    Calls Tryd.prog 90 #[.pointer (some ⟨b, 0, none⟩), .string (bytesOf (sgnB n)), .int .u8 (sgnK n), .func (.func g) #[.pointer (some ⟨b, 0, none⟩)] #[]] w (LPost L A c b r w) := by
  obtain ⟨cs, s0, r0, rfl, hc, h0, h1, hre⟩ := hr.inv_pre hn
  have hk := sgn_k n
  generalize sgnK n = k at hk hre
  generalize sgnB n = sb at hc h0
  have hent : ∀ (args : Array Value) (W : World), Sem.run Tryd.prog (callFunc g args) W = .ok (.enter g args) W := hgc
  have HN := Lib.hid (fun (q : List Tok) (W : World) (hP : PS w0 L A c b q W) => next_any w0 L A c b q W f hP)
  have hss : ∀ j, cs.drop j ++ s0 <:+ L := fun j => (show cs.drop j ++ s0 <:+ cs ++ s0 from ⟨cs.take j, by rw [← List.append_assoc, List.take_append_drop]⟩).trans h.suf
  have HSS := Lib.hid hss
  have hlen := h.suf.length_le
  have hL := f.len
  obtain ⟨i, hi⟩ : ∃ i : Nat, i + (cs.length + s0.length) = L.length := ⟨L.length - (cs.length + s0.length), by simp at hlen; omega⟩
  have hlt := h.rd.lt
  have hr1 := h.rd.c1
  rw [show L.length - (cs ++ s0).length = i by simp; omega] at hr1
  have hiz : (i : Int) + cs.length ≤ 200 := by omega
  have HH := Lib.hid (fun (W : World) (hP : PS w0 L A c b s0 W) => H s0 r0 W (by simp at hs; omega) h1 hP)
  have HSG := Lib.hid (fun (q : List Tok) (W : World) (hP : PS w0 L A c b q W) => sign_node w0 L A c b f q W hP)
  have HC := Lib.hid hc
  have HQ0 := Lib.hid (bne_bytes h0)
  have HI := Lib.hid hi
  have HRE := Lib.hid hre
  have HG0 := Lib.hid (show ∀ t q, r0 = .ok t q → t.ok = true ∧ t.er = 0 from fun t q e => h1.good (f.mem (HSS.out cs.length |> fun x => by simpa using x)) trivial e)
  have HV0 := Lib.hid (show ∀ v q, r0 = .er v q → v ≠ 0 from fun v q e => h1.er_ne e)
  have HSU := Lib.hid (show r0.rest <:+ L from h1.suf.trans (by simpa using hss cs.length))
  have HF := Lib.hid f
  have HP0 := Lib.hid h
  clear H h hr hgc f h1 hc h0 hss hi hre hs hlen
  go_enter Tryd.func90, Tryd.ntmps90
  go_wp2
  go_loopg [] cs.length (fun g wx => ∃ j, j + g = cs.length ∧ Hid (PS w0 L A c b (cs.drop j ++ s0) wx) ∧ Hid (Kp b w wx))
  case atStart => exact ⟨0, by omega, HP0, Lib.hid (Kp.refl _ _)⟩
  case round =>
    clear HP0
    obtain ⟨j, hj, HP, HK⟩ := hrel
    have hrj := HP.out.rd.c1
    rw [show ((L.length - (cs.drop j ++ s0).length : Nat) : Int) = (i : Int) + j by have := HI.out; simp; omega] at hrj
    have hfj := HP.out.rd.fz
    have hlj := HP.out.rd.lt
    have hjz : (j : Int) ≤ cs.length := by omega
    cases gk with
    | zero =>
      obtain rfl : j = cs.length := by omega
      have HP' := Lib.hid (show PS w0 L A c b s0 wr by have := HP.out; rwa [List.drop_length, List.nil_append] at this)
      have HNn := Lib.hid (HN.out s0 wr HP'.out)
      have HHn := Lib.hid (fun m => HH.out (wr.drewN m) (HP'.out.drewN m))
      have hq := HQ0.out
      clear hj HP hfj
      cases r0 with
      | er v q =>
        have hv := HV0.out v q rfl
        have hvb : (v == 0) = false := by simpa using hv
        have HRE2 := Lib.hid (show r = .er v q by rw [HRE.out]; exact wrap_er _ _ _ _ _ _ rfl)
        clear hv
        go_wp2_with (go_at_call 88; refine HNn.out.mono ?_; rintro e w2 ⟨rfl, m, rfl⟩)
        refine (HHn.out m).mono ?_
        rintro e w3 ⟨hk3, hr3, rfl⟩
        have HK3 := Lib.hid hk3
        have HR3 := Lib.hid hr3
        clear hk3 hr3
        go_wp2
        refine wp_loop_rounds 1 ?_
        try rw [rounds_succ]
        go_wp2
        go_ret2
        unfold LPost
        rw [HRE2.out]
        exact ⟨(HK.out.trans (Kp.drewN _ _ _)).trans HK3.out, HR3.out, rfl⟩
      | ok t0 q0 =>
        have HG := Lib.hid (HG0.out t0 q0 rfl)
        go_wp2_with (go_at_call 88; refine HNn.out.mono ?_; rintro e w2 ⟨rfl, m, rfl⟩)
        refine (HHn.out m).mono ?_
        rintro e w3 ⟨hk3, hr3, A', c', rfl, hl3⟩
        have HK3 := Lib.hid ((Kp.drewN b wr m).trans hk3)
        have HP3 := Lib.hid (HP'.out.kp HK3.out HSU.out hr3)
        have HL3 := Lib.hid hl3
        clear hk3 hr3 hl3
        go_wp2
        go_loopg [11, 12, 13] (cs.length + 1) (fun g tv xv ev wx => PrRun w0 L A c b k s0 cs (.ok t0 q0) w i g tv xv ev wx ∨ PrErr L A c b r w xv ev wx)
        case atStart => exact .inl ⟨cs.length, _, t0, q0, A', c', rfl, Nat.le_refl _, rfl, rfl, rfl, rfl, Lib.hid (by rw [List.drop_length]; rfl), HL3, HG, HP3, Lib.hid (HK.out.trans HK3.out)⟩
        case round =>
          clear HL3 HG HP3 HK3 HK
          rcases hrel with ⟨j, z, t, q, A', c', hj, hjl, hz, rfl, rfl, rfl, HW, HL, HG, HP, HK⟩ | ⟨v, q, hre, hv, rfl, rfl, HK, HR⟩
          · cases j with
            | zero =>
              have hzl : z < (i : Int) := by omega
              have HRE2 := Lib.hid (show r = .ok t q by rw [HRE.out, ← HW.out, List.drop_zero])
              clear hz
              go_wp2
              go_ret2
              unfold LPost
              rw [HRE2.out]
              exact ⟨HK.out, HP.out.rd, A', c', rfl, HL.out⟩
            | succ j =>
              obtain ⟨x, hx, hd⟩ := drop_cons (show j < cs.length by omega)
              have hzl : (i : Int) ≤ z := by omega
              have hzu : z ≤ 200 := by omega
              have hsf := HSS.out j
              rw [hd] at hsf
              have hlen : z + (x :: (cs.drop (j + 1) ++ s0)).length = L.length := by have := HI.out; simp; omega
              have HS := Lib.hid (fun T r' hr' => HSG.out q wr HP.out x (cs.drop (j + 1) ++ s0) hsf z hlen k hk t HG.out A' (t.sz + c') HL.out T r' hr')
              have HWN := Lib.hid (show wrapR k s0 (cs.drop j) (.ok t0 q0) = stepR k x (cs.drop (j + 1) ++ s0) (.ok t q) by rw [hd, wrap_step, HW.out])
              have HZ := Lib.hid hz
              have HXk := Lib.hid (HF.out.mem hsf x List.mem_cons_self)
              cases hst : stepR k x (cs.drop (j + 1) ++ s0) (.ok t q) with
              | er v y =>
                have HS2 := Lib.hid (fun T => HS.out T _ hst)
                have hv : v ≠ 0 := by
                  rw [stepR] at hst
                  split at hst
                  · simp at hst
                  · injection hst with hst _; subst hst; assumption
                have HRE2 := Lib.hid (show r = .er v y by
                  rw [HRE.out]
                  have e := wrap_app k s0 (cs.drop j) (.ok t0 q0) (cs.take j)
                  rw [List.take_append_drop] at e
                  rw [e, HWN.out, hst]
                  exact wrap_er _ _ _ _ _ _ rfl)
                clear HS hst hsf hlen hd hx hz HXk HWN
                go_wp2_with (go_at_call 89; refine (HS2.out _).mono ?_; rintro e w4 ⟨hk4, hr4, rfl⟩; have HK4 := Lib.hid hk4; have HR4 := Lib.hid hr4; clear hk4 hr4)
                go_roundg 0
                case measure => omega
                case rel => exact .inr ⟨v, y, HRE2, hv, rfl, rfl, Lib.hid ((HK.out.trans (Kp.of_below ((Below.refl _ _).alloc (Nat.le_refl _) _))).trans HK4.out), HR4⟩
              | ok t2 q2 =>
                have HS2 := Lib.hid (fun T => HS.out T _ hst)
                have HT := Lib.hid (show q2 = q ∧ t2.ok = true ∧ t2.er = 0 by
                  rw [stepR] at hst
                  split at hst
                  · rename_i he
                    injection hst with h1 h2; subst h1 h2; exact ⟨rfl, un_ok hk HXk.out HG.out.1, he⟩
                  · simp at hst)
                have HWN2 := Lib.hid (HWN.out.trans hst)
                have hjl2 : j ≤ cs.length := by omega
                have hjk : j + 1 < gk := by omega
                clear HS hst hsf hlen hd hx hz HXk HWN hj
                go_wp2_with (go_at_call 89; refine (HS2.out _).mono ?_; rintro e w4 ⟨hk4, hr4, A4, c4, rfl, hl4⟩; have HK4 := Lib.hid ((Kp.of_below ((Below.refl _ _).alloc (Nat.le_refl _) _)).trans hk4); have HR4 := Lib.hid hr4; have HL4 := Lib.hid hl4; clear hk4 hr4 hl4)
                go_roundg (j + 1)
                case measure => omega
                case rel =>
                  refine .inl ⟨j, z - 1, t2, q2, A4, c4, rfl, hjl2, by have := HZ.out; omega, rfl, rfl, rfl, HWN2, HL4, Lib.hid HT.out.2, Lib.hid ?_, Lib.hid (HK.out.trans HK4.out)⟩
                  have h4 := HR4.out
                  rw [show (R.ok t2 q2).rest = q from HT.out.1] at h4
                  rw [HT.out.1]
                  exact HP.out.kp HK4.out HP.out.suf h4
          · have hvb : (v == 0) = false := by simpa using hv
            clear hv
            go_wp2
            go_ret2
            unfold LPost
            rw [hre.out]
            exact ⟨HK.out, HR.out, rfl⟩
    | succ g2 =>
      obtain ⟨x, hx, hd⟩ := drop_cons (show j < cs.length by omega)
      have hxs : x.s = sb := HC.out x (List.mem_of_getElem? hx)
      have HNn := Lib.hid (HN.out _ wr HP.out)
      rw [hd, List.cons_append, show txt (x :: (cs.drop (j + 1) ++ s0)) = x.s from rfl, hxs] at HNn
      have hq := sq_eq (rfl : sb = sb)
      have hjl : j + 1 ≤ cs.length := by omega
      clear hx hd hxs
      go_wp2_with (go_at_call 88; refine HNn.out.mono ?_; rintro e w2 ⟨rfl, m, rfl⟩)
      go_roundg g2
      case measure => omega
      case rel =>
        have e1 : (i : Int) + j + 1 = ((L.length - (cs.drop (j + 1) ++ s0).length : Nat) : Int) := by have := HI.out; simp; omega
        have k1 := (HP.out.drewN m).kp (Kp.set b (wr.drewN m) 1 (.int .i64 ((L.length - (cs.drop (j + 1) ++ s0).length : Nat) : Int))) (HSS.out (j + 1)) ((HP.out.drewN m).rd.set _)
        have k2 := Kp.set b (wr.drewN m) 1 (.int .i64 ((L.length - (cs.drop (j + 1) ++ s0).length : Nat) : Int))
        rw [← e1] at k1 k2
        exact ⟨j + 1, by omega, Lib.hid k1, Lib.hid ((HK.out.trans (Kp.drewN _ _ _)).trans k2)⟩
end Go.Proofs.YtfnkofcgjbakeaaDoor
