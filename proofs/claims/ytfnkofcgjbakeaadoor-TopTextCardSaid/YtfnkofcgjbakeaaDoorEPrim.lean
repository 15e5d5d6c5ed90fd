
/- Numbers, fields and brackets; all lines of the grammar. -/
import Derived.Test.YtfnkofcgjbakeaaDoorEPre
namespace Go.Proofs.YtfnkofcgjbakeaaDoor
open Go.ChangeShapes Go.WideShapes Go.ChangeAt Go.RowKit N4
set_option linter.unusedVariables false
set_option maxRecDepth 100000

theorem cst_eq {s t : List UInt8} (h : s = t) : ((bytesOf s).toList == t) = true := by subst h; rw [bytesOf_toList]; simp
theorem cst_ne {s t : List UInt8} (h : ¬ s = t) : ((bytesOf s).toList == t) = false := by
  rw [bytesOf_toList]; simpa using h

def brR : R → R
  | .er v q => .er v q
  | .ok t [] => .er 12 []
  | .ok t (y :: q) => if y.s = [41] then .ok t q else .er 12 (y :: q)

set_option maxHeartbeats 1000000 in
theorem bracketed_any (w0 : World) (L : List Tok) (A : Option Addr) (c b N : Nat) (f : Fx w0 L A c b) (H : LineC w0 L A c b 55 0 N) (x : Tok) (s : List Tok) (w : World) (h : PS w0 L A c b (x :: s) w) (hs : s.length ≤ N) (r0 r : R) (hr : Rd (.line 0) s r0) (hb : brR r0 = r) :
    Calls Tryd.prog 110 #[.pointer (some ⟨b, 0, none⟩)] w (LPost L A c b r w) := by
  obtain ⟨hx, hi⟩ := suf_at h.suf
  have hL := f.len
  have hP1 := h.kp (Kp.set b w 1 (.int .i64 ((L.length - s.length : Nat) : Int))) (suf_tail h.suf) (h.rd.set _)
  have hr1 := h.rd.c1
  have hfz := h.rd.fz
  have hlt := h.rd.lt
  have hle := h.suf.length_le
  have HH := Lib.hid (H s _ _ hs hr hP1)
  have HQ := Lib.hid (show ∀ W, Kp b (w.setCell ⟨b, 1, none⟩ (.int .i64 ((L.length - s.length : Nat) : Int))) W → ∀ q, q <:+ L → Rdr W b (.slice A L.length c) (L.length - q.length) → PS w0 L A c b q W from fun W k q hq hr => hP1.kp k hq hr)
  have hi2 : ((L.length - s.length : Nat) : Int) = ((L.length - (x :: s).length : Nat) : Int) + 1 := by omega
  have hbz : ((L.length - (x :: s).length : Nat) : Int) ≤ 200 := by omega
  have HN := Lib.hid (fun (q : List Tok) (W : World) (hP : PS w0 L A c b q W) => next_any w0 L A c b q W f hP)
  have HSU := Lib.hid (show r0.rest <:+ L from hr.suf.trans (suf_tail h.suf))
  rw [hi2] at HH HQ
  have hne := fun v q (e : r0 = .er v q) => hr.er_ne e
  generalize L.length - (x :: s).length = i at hr1 HH hi2 hbz HQ
  clear h f H hx hi hle hr hs hP1 hi2
  cases r0 with
  | er v q =>
    have hv := errno_ne (hne v q rfl)
    obtain rfl : R.er v q = r := hb
    clear hne HN
    go_enter Tryd.func110, Tryd.ntmps110
    go_wp2_with (go_at_call 55; refine HH.out.mono ?_; rintro e w' ⟨hk, hr, rfl⟩; have HK := Lib.hid hk; have HR := Lib.hid hr; clear hk hr)
    go_ret2
    exact ⟨(Kp.set _ _ _ _).trans HK.out, HR.out, rfl⟩
  | ok t q =>
    clear hne
    have hno : txt q ≠ [41] → brR (.ok t q) = .er 12 q := by
      intro h
      cases q with
      | nil => rfl
      | cons y q => exact if_neg h
    by_cases hq : txt q = [41]
    · cases q with
      | nil => simp [txt] at hq
      | cons y q =>
        obtain rfl : R.ok t q = r := by rw [← hb]; exact (if_pos hq).symm
        have hc1 := cst_eq hq
        have hyq := suf_at HSU.out
        have HW := Lib.hid (show ∀ W, Kp b (w.setCell ⟨b, 1, none⟩ (.int .i64 ((i : Int) + 1))) W → Rdr W b (.slice A L.length c) (L.length - (y :: q).length) → b < W.heap.size ∧ W.cell? ⟨b, 1, none⟩ = some (.int .i64 ((L.length - (y :: q).length : Nat) : Int)) ∧ W.frozen? ⟨b, 1, none⟩ = false from fun W k hr => ⟨hr.lt, hr.c1, hr.fz⟩)
        have hz1 : ((L.length - (y :: q).length : Nat) : Int) + 1 = ((L.length - q.length : Nat) : Int) := by omega
        have hz2 : ((L.length - (y :: q).length : Nat) : Int) ≤ 200 := by omega
        have HNO := Lib.hid (fun (W : World) (hP : PS w0 L A c b (y :: q) W) => HN.out (y :: q) W hP)
        generalize txt (y :: q) = ty at hc1 HNO
        have HZ := Lib.hid (show ((L.length - (q.length + 1) : Nat) : Int) + 1 = ((L.length - q.length : Nat) : Int) from hz1)
        clear hyq hno hq hz1 HN hb
        go_enter Tryd.func110, Tryd.ntmps110
        go_wp2_with (first
          | (go_at_call 88; refine (HNO.out _ HP.out).mono ?_; rintro e w2 ⟨rfl, m, rfl⟩)
          | (go_at_call 55; refine HH.out.mono ?_; rintro e w' ⟨hk, hr, A', c', rfl, hl⟩; obtain ⟨g1, g2, g3⟩ := HW.out _ hk hr; have HP := Lib.hid (HQ.out _ hk (y :: q) HSU.out hr); have HK := Lib.hid ((Kp.set _ _ _ _).trans hk); have HL := Lib.hid hl; clear hk hr hl))
        go_ret2
        rw [HZ.out]
        refine ⟨(HK.out.trans (Kp.drewN _ _ _)).trans (Kp.set _ _ _ _), (HP.out.rd.drewN _).set _, A', c', rfl, ?_⟩
        exact (Kp.set _ _ _ _).lies (HL.out.below (bd_drewN _ m)) (Lies.no_rdr (HL.out.below (bd_drewN _ m)) (HP.out.rd.drewN m))
    · obtain rfl : R.er 12 q = r := by rw [← hb]; exact (hno hq).symm
      have hc1 := cst_ne hq
      have HNO := Lib.hid (fun (W : World) (hP : PS w0 L A c b q W) => HN.out q W hP)
      generalize txt q = ty at hc1 HNO
      clear hno HN hb
      go_enter Tryd.func110, Tryd.ntmps110
      go_wp2_with (first
        | (go_at_call 88; refine (HNO.out _ HP.out).mono ?_; rintro e w2 ⟨rfl, m, rfl⟩)
        | (go_at_call 55; refine HH.out.mono ?_; rintro e w' ⟨hk, hr, A', c', rfl, hl⟩; have HP := Lib.hid (HQ.out _ hk q HSU.out hr); have HK := Lib.hid ((Kp.set _ _ _ _).trans hk); have HL := Lib.hid hl; clear hk hr hl))
      go_ret2
      exact ⟨HK.out.trans (Kp.drewN _ _ _), HP.out.rd.drewN _, rfl⟩

theorem Rd.inv_prim {s : List Tok} {r : R} (h : Rd (.line 8) s r) :
    (∃ x s' k m, s = x :: s' ∧ leafOf x.s = some (k, m) ∧ r = .ok (.leaf k m x.a) s') ∨ (txt s ≠ [40] ∧ leafOf (txt s) = none ∧ r = .er 12 s) ∨
    ∃ x s' r0, s = x :: s' ∧ x.s = [40] ∧ Rd (.line 0) s' r0 ∧ brR r0 = r := by
  cases h with
  | first_er hc _ => exact absurd hc (by decide)
  | first_ok hc _ _ => exact absurd hc (by decide)
  | pre hp _ _ _ => exact absurd hp (by decide)
  | leaf hl => exact .inl ⟨_, _, _, _, rfl, hl, rfl⟩
  | bad h1 h2 => exact .inr (.inl ⟨h1, h2, rfl⟩)
  | br_er h1 h2 => exact .inr (.inr ⟨_, _, _, rfl, h1, h2, rfl⟩)
  | br_no h1 h2 h3 =>
    refine .inr (.inr ⟨_, _, _, rfl, h1, h2, ?_⟩)
    rename_i q
    cases q with
    | nil => rfl
    | cons y q => exact if_neg h3
  | br_ok h1 h2 h3 => exact .inr (.inr ⟨_, _, _, rfl, h1, h2, if_pos h3⟩)

set_option maxHeartbeats 1000000 in
theorem primary_any (w0 : World) (L : List Tok) (A : Option Addr) (c b N : Nat) (f : Fx w0 L A c b) (s : List Tok) (H : 1 ≤ s.length → LineC w0 L A c b 55 0 N) (r : R) (w : World) (hs : s.length ≤ N + 1) (hr : Rd (.line 8) s r) (h : PS w0 L A c b s w) :
    Calls Tryd.prog 109 #[.pointer (some ⟨b, 0, none⟩)] w (LPost L A c b r w) := by
  have hL := f.len
  rcases hr.inv_prim with ⟨x, s', k, m, rfl, hl, rfl⟩ | ⟨hn, hl, rfl⟩ | ⟨x, s', r0, rfl, h4, h0, hbr⟩
  · have hne : ¬ x.s = [40] := fun e => by rw [leaf_br e] at hl; cases hl
    have hcc := cst_ne hne
    obtain ⟨hx, hi⟩ := suf_at h.suf
    have hxo := f.ok x (h.suf.subset List.mem_cons_self)
    have hlr := leaf_range hl
    have hle := h.suf.length_le
    have HN := Lib.hid (fun W hW => next_any w0 L A c b (x :: s') W f hW)
    have HLF := Lib.hid (fun W (hW : PS w0 L A c b (x :: s') W) => leaf_any x.s W hxo.2 (hW.tabs f) _ hl)
    have HP := Lib.hid h
    have HP2 := Lib.hid (fun n => (h.drewN n).kp (Kp.set b (w.drewN n) 1 (.int .i64 ((L.length - s'.length : Nat) : Int))) (suf_tail h.suf) ((h.drewN n).rd.set _))
    have hbo : (Tr.leaf k m x.a).ok = true := by simp [Tr.ok, hlr.1, hlr.2.1, fits_leaf hlr.2.2.1 hlr.2.2.2.1 hxo.1]
    have hcn : cnt k = 0 := by unfold cnt; rw [if_pos hlr.2.1]
    have HD := Lib.hid (fun n => rnode_ok w0 L A c b s' _ f (HP2.out n) _ x hx k m none 0 0 (Tr.leaf k m x.a).flat 1 (node_0 none 0 k m x.a _ (.inl rfl) (by simp [okK]; omega) (fits_leaf hlr.2.2.1 hlr.2.2.2.1 hxo.1) hcn) (Tr.check_flat _ hbo) rfl)
    have hr1 := h.rd.c1
    have hfz := h.rd.fz
    have hlt := h.rd.lt
    have hi2 : ((L.length - s'.length : Nat) : Int) = ((L.length - (x :: s').length : Nat) : Int) + 1 := by omega
    have hbz : ((L.length - (x :: s').length : Nat) : Int) ≤ 200 := by omega
    have HI := Lib.hid hi2
    rw [hi2] at HD HP2
    rw [show txt (x :: s') = x.s from rfl] at HN
    generalize L.length - (x :: s').length = i at hr1 hbz HD HP2 HI
    clear h f H hr hs hl hne hx hi hxo hlr hle hbo hcn hi2
    go_enter Tryd.func109, Tryd.ntmps109
    go_wp2_with (first
      | (go_at_call 88; refine (HN.out _ (by first | exact HP.out | exact HP.out.drewN _)).mono ?_; rintro e w2 ⟨rfl, n, rfl⟩)
      | (go_at_call 111; refine (HLF.out _ (by first | exact HP.out | exact HP.out.drewN _ | exact (HP.out.drewN _).drewN _)).mono ?_; rintro e w2 ⟨rfl, rfl⟩)
      | (go_at_call 89; refine (HD.out _).mono ?_; rintro e w2 ⟨A', c', rfl, hl, hb⟩; have HL := Lib.hid hl; have HB := Lib.hid hb; clear hl hb))
    go_ret2
    refine ⟨((Kp.drewN _ _ _).trans (Kp.set _ _ _ _)).trans (Kp.of_below HB.out), (HP2.out _).rd.below HB.out, A', c', rfl, HL.out⟩
  · have hcc := cst_ne hn
    have hxo : (txt s).length ≤ maxLen := by
      cases s with
      | nil => simp [txt]
      | cons x s => exact (f.ok x (h.suf.subset List.mem_cons_self)).2
    have HN := Lib.hid (fun W hW => next_any w0 L A c b s W f hW)
    have HLF := Lib.hid (fun W (hW : PS w0 L A c b s W) => leaf_any (txt s) W hxo (hW.tabs f) _ hl)
    have HP := Lib.hid h
    clear h f H hr hs hl hn hxo
    go_enter Tryd.func109, Tryd.ntmps109
    go_wp2_with (first
      | (go_at_call 88; refine (HN.out _ (by first | exact HP.out | exact HP.out.drewN _)).mono ?_; rintro e w2 ⟨rfl, n, rfl⟩)
      | (go_at_call 111; refine (HLF.out _ (by first | exact HP.out | exact HP.out.drewN _ | exact (HP.out.drewN _).drewN _)).mono ?_; rintro e w2 ⟨rfl, rfl⟩))
    go_ret2
    exact ⟨Kp.drewN _ _ _, HP.out.rd.drewN _, rfl⟩
  · have hcc := cst_eq h4
    have HN := Lib.hid (next_any w0 L A c b (x :: s') w f h)
    rw [show txt (x :: s') = x.s from rfl] at HN
    have HB := Lib.hid (fun n => bracketed_any w0 L A c b N f (H (by simp)) x s' _ (h.drewN n) (by simp at hs; omega) r0 r h0 hbr)
    clear h f H hr hs h4 h0 hbr
    cases r with
    | er v q =>
      go_enter Tryd.func109, Tryd.ntmps109
      go_wp2_with (first
        | (go_at_call 88; refine HN.out.mono ?_; rintro e w2 ⟨rfl, n, rfl⟩)
        | (go_at_call 110; refine (HB.out _).mono ?_; rintro e w2 ⟨hk, hr, rfl⟩; have HK := Lib.hid hk; have HR := Lib.hid hr; clear hk hr))
      go_ret2
      exact ⟨(Kp.drewN _ _ _).trans HK.out, HR.out, rfl⟩
    | ok t q =>
      go_enter Tryd.func109, Tryd.ntmps109
      go_wp2_with (first
        | (go_at_call 88; refine HN.out.mono ?_; rintro e w2 ⟨rfl, n, rfl⟩)
        | (go_at_call 110; refine (HB.out _).mono ?_; rintro e w2 ⟨hk, hr, A', c', rfl, hl⟩; have HK := Lib.hid hk; have HR := Lib.hid hr; have HL := Lib.hid hl; clear hk hr hl))
      go_ret2
      exact ⟨(Kp.drewN _ _ _).trans HK.out, HR.out, A', c', rfl, HL.out⟩
end Go.Proofs.YtfnkofcgjbakeaaDoor
