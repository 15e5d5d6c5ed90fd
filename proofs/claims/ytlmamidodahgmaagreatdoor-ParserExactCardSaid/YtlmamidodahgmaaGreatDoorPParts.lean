/- A reader's sources, its condition, "by key", "late", the end. -/
import Derived.Test.YtlmamidodahgmaaGreatDoorPAgg
import Derived.Deep.LoopGhost
namespace Go.Proofs.YtlmamidodahgmaaGreatDoor.P9
open Go.ChangeShapes Go.WideShapes Go.ChangeAt Go.RowKit N4 Q8
set_option linter.unusedVariables false
set_option linter.unusedSimpArgs false
set_option maxRecDepth 100000

def skipS (T : List UInt8) (s : List Tok) : List Tok := if txt s = T then s.tail else s
theorem skip_p {w0 : World × World} {w : World} {L s : List Tok} {A : Option Addr} {c b : Nat} {X : List Value} (f : Fx w0.1 L A c b) (h : St w0 L A c b s X w) (T : List UInt8) (hT : T ≠ []) (S : ByteArray) (hS : bytesOf T = S) :
    Calls Tryz.prog 87 #[.pointer (some ⟨b, 0, none⟩), .string S] w fun e w' => e = .returned (.bool (decide (txt s = T))) ∧ Kp b w w' ∧ St w0 L A c b (skipS T s) X w' := by
  subst hS
  unfold skipS
  by_cases ht : txt s = T
  · rw [if_pos ht, decide_eq_true ht]
    obtain ⟨x, hs, hx⟩ := txt_cons ht hT
    refine (skip_yes w0 L A c b x s.tail X w f (hs ▸ h) T hx).mono ?_
    rintro e w' ⟨h1, h2, h3⟩
    exact ⟨h1, h2, h3⟩
  · rw [if_neg ht, decide_eq_false ht]
    refine (skip_no w0 L A c b s X w f h T ht).mono ?_
    rintro e w' ⟨h1, m, rfl⟩
    exact ⟨h1, Kp.drewN _ _ _, h.drewN m⟩
theorem unions_step (q : Qy) (s : List Tok) : unionsP s q = if txt s = k_union then (nameP q s.tail).bind (fun q s => unionsP s q) else .ok q s := by
  match s with
  | [] => rfl
  | [x] =>
    rw [unionsP]
    show _ = if x.s = k_union then (nameP q []).bind _ else _
    split
    · rfl
    · rfl
  | x :: y :: s =>
    rw [unionsP]
    show _ = if x.s = k_union then (nameP q (y :: s)).bind _ else _
    split
    · unfold nameP
      show _ = PR.bind (if soE y.s = 0 then (if (q.l.any fun v => v == soF y.s) = true then _ else _) else _) _
      split
      · split
        · rfl
        · rfl
      · rfl
    · rfl
theorem name_facts {q q' : Qy} {s s' : List Tok} (h : nameP q s = .ok q' s') : q'.M = q.M ∧ (SrcOk q.l → SrcOk q'.l) ∧ s'.length < s.length := by
  obtain ⟨x, rfl, h1, h2, rfl⟩ := name_ok h
  exact ⟨rfl, fun hk => hk.snoc h2, by simp⟩
theorem name_er {q : Qy} {v : Int} {s s' : List Tok} (h : nameP q s = .er v s') : v ≠ 0 := by
  unfold nameP at h
  split at h
  · split at h
    · injection h with h _; omega
    · cases h
  · injection h with h _; omega
section
variable (w0 : World × World) (L : List Tok) (A : Option Addr) (c b : Nat)
set_option maxHeartbeats 4000000 in
theorem from_q (s : List Tok) (VA VS VB : Value) (q : Qy) (B : Nat) (w : World) (G : Gx w0 L A c b) (h : PQ w0 L A c b s VA VS VB q B w) (hM : q.M = []) (hsk : SrcOk q.l) :
    Calls Tryz.prog 58 #[.pointer (some ⟨b, 0, none⟩)] w (QPost w0 L A c b (fromP q s)) := by
  have f := G.fx
  have HF := Lib.hid f
  have HX := Lib.hid (expect_lit f h.st [k_from] (by decide) 1 1 rfl (by decide) #[.string ⟨#[102, 114, 111, 109]⟩] 9 rfl)
  have HP := Lib.hid h
  have HNM := Lib.hid (fun (s : List Tok) (VA VS VB : Value) (q : Qy) (B : Nat) (w : World) (hP : PQ w0 L A c b s VA VS VB q B w) (hM : q.M = []) (hsk : SrcOk q.l) => name_q w0 L A c b s VA VS VB q B w f G.nam hP hM (by have := hsk.len; omega))
  unfold fromP
  rw [expP_R]
  have HM := Lib.hid hM
  have HSK := Lib.hid hsk
  cases hb : (expR [k_from] s).1
  · rw [code_f hb] at HX
    clear h f hM hsk
    go_enter Tryz.func58, Tryz.ntmps58
    go_wp2_with (go_at_call 83; refine HX.out.mono ?_; rintro e w2 ⟨rfl, hk, hs⟩; have HS := Lib.hid hs; clear hk hs)
    go_ret
    exact ⟨rfl, by decide, _, HS.out⟩
  · rw [code_t hb] at HX
    obtain ⟨s1, hs1⟩ : ∃ s1, (expR [k_from] s).2 = s1 := ⟨_, rfl⟩
    rw [hs1] at HX ⊢
    rw [if_pos rfl]
    show Calls _ _ _ _ (QPost w0 L A c b ((nameP q s1).bind fun q s => if txt s = k_join then nameP { q with j := true } s.tail else unionsP s q))
    have HN1 := Lib.hid (fun (w : World) (hP : PQ w0 L A c b s1 VA VS VB q B w) => HNM.out s1 VA VS VB q B w hP HM.out HSK.out)
    clear h f hs1 hb hM hsk
    cases hn : nameP q s1 with
    | er v s2 =>
      rw [hn] at HN1
      have hv := name_er hn
      have hvb := errno_ne hv
      clear hn
      go_enter Tryz.func58, Tryz.ntmps58
      go_wp2_with (first
        | (go_at_call 83; refine HX.out.mono ?_; rintro e w2 ⟨rfl, hk, hs⟩; have HP2 := Lib.hid (HP.out.st' hk hs); clear hk hs)
        | (go_at_call 86; refine (HN1.out _ HP2.out).mono ?_; rintro e w3 ⟨rfl, hq⟩; have HQ := Lib.hid hq; clear hq; simp only [codeP]))
      go_ret
      exact ⟨rfl, HQ.out⟩
    | ok q2 s2 =>
      rw [hn] at HN1
      obtain ⟨g1, g2, g3⟩ := name_facts hn
      have HM2 := Lib.hid (g1.trans HM.out)
      have HSK2 := Lib.hid (g2 HSK.out)
      clear hn g1 g2 g3
      show Calls _ _ _ _ (QPost w0 L A c b (if txt s2 = k_join then nameP { q2 with j := true } s2.tail else unionsP s2 q2))
      have HJ := Lib.hid (fun (W : World) (X : List Value) (hst : St w0 L A c b s2 X W) => skip_p HF.out hst k_join (by decide) ⟨#[106, 111, 105, 110]⟩ rfl)
      by_cases hj : txt s2 = k_join
      · rw [if_pos hj]
        rw [decide_eq_true hj, show skipS k_join s2 = s2.tail from if_pos hj] at HJ
        have HN2 := Lib.hid (fun (VA VS VB : Value) (B : Nat) (w : World) (hP : PQ w0 L A c b s2.tail VA VS VB { q2 with j := true } B w) => HNM.out s2.tail VA VS VB { q2 with j := true } B w hP HM2.out HSK2.out)
        clear hj
        go_enter Tryz.func58, Tryz.ntmps58
        go_wp2_with (first
          | (go_at_call 83; refine HX.out.mono ?_; rintro e w2 ⟨rfl, hk, hs⟩; have HP2 := Lib.hid (HP.out.st' hk hs); clear hk hs)
          | (go_at_call 86; ((with_reducible refine (HN1.out _ HP2.out).mono ?_); rintro e w3 ⟨rfl, VA3, VS3, VB3, B3, hq⟩; have HP3 := Lib.hid hq; clear hq HN1; simp only [codeP]))
          | (go_at_call 87; refine (HJ.out _ _ HP3.out.st).mono ?_; rintro e w4 ⟨rfl, hk, hs⟩; have HP4 := Lib.hid (HP3.out.st' hk hs); clear hk hs; obtain ⟨hlt, d0, d1, d2, d3, d4, d5, _⟩ := HP4.out.cells; clear d0 d1 d2 d3 d4; have f5 := HP4.out.st.rd.fz 5)
          | (go_at_call 86; ((with_reducible refine (HN2.out _ _ _ _ _ (HP4.out.kp (q' := { q2 with j := true }) (Kp.set _ _ _ _) HP4.out.st.suf (HP4.out.st.rd.setX 3 _) rfl rfl rfl)).mono ?_); rintro e w5 ⟨rfl, hq⟩; have HQ5 := Lib.hid hq; clear hq)))
        go_ret
        exact ⟨rfl, HQ5.out⟩
      · rw [if_neg hj]
        rw [decide_eq_false hj, show skipS k_join s2 = s2 from if_neg hj] at HJ
        clear hj
        obtain ⟨R, hR⟩ : ∃ R, unionsP s2 q2 = R := ⟨_, rfl⟩
        rw [hR]
        have HR := Lib.hid hR
        clear hR
        go_enter Tryz.func58, Tryz.ntmps58
        go_wp2_with (first
          | (go_at_call 83; refine HX.out.mono ?_; rintro e w2 ⟨rfl, hk, hs⟩; have HP2 := Lib.hid (HP.out.st' hk hs); clear hk hs)
          | (go_at_call 86; ((with_reducible refine (HN1.out _ HP2.out).mono ?_); rintro e w3 ⟨rfl, VA3, VS3, VB3, B3, hq⟩; have HP3 := Lib.hid hq; clear hq HN1; simp only [codeP]))
          | (go_at_call 87; refine (HJ.out _ _ HP3.out.st).mono ?_; rintro e w4 ⟨rfl, hk, hs⟩; have HP4 := Lib.hid (HP3.out.st' hk hs); clear hk hs))
        go_loopg [5] (s2.length + 1) (fun g v wx => ∃ (sk : List Tok) (qk : Qy) (VAk VSk VBk : Value) (Bk : Nat), sk.length < g ∧ Hid (unionsP sk qk = R) ∧ Hid (qk.M = []) ∧ Hid (SrcOk qk.l) ∧ Hid (PQ w0 L A c b sk VAk VSk VBk qk Bk wx))
        case atStart => exact ⟨s2, q2, VA3, VS3, VB3, B3, Nat.lt_succ_self _, HR, HM2, HSK2, HP4⟩
        case round =>
          clear HR HM2 HSK2 HP4 HP3 HP2 HJ HX HP
          obtain ⟨sk, qk, VAk, VSk, VBk, Bk, hg, HR, HMk, HSk, HPk⟩ := hrel
          have HU := Lib.hid (skip_p HF.out HPk.out.st k_union (by decide) ⟨#[117, 110, 105, 111, 110]⟩ rfl)
          have hR := HR.out
          rw [unions_step] at hR
          by_cases hu : txt sk = k_union
          · rw [if_pos hu] at hR
            rw [decide_eq_true hu, show skipS k_union sk = sk.tail from if_pos hu] at HU
            have HNk := Lib.hid (fun (w : World) (hP : PQ w0 L A c b sk.tail VAk VSk VBk qk Bk w) => HNM.out sk.tail VAk VSk VBk qk Bk w hP HMk.out HSk.out)
            cases hn : nameP qk sk.tail with
            | er v s3 =>
              rw [hn] at HNk hR
              have hvb := errno_ne (name_er hn)
              have HRE := Lib.hid (show PR.er v s3 = R from hR)
              clear hn hR hu
              go_wp2_with (first
                | (go_at_call 87; refine HU.out.mono ?_; rintro e w5 ⟨rfl, hk, hs⟩; have HP5 := Lib.hid (HPk.out.st' hk hs); clear hk hs)
                | (go_at_call 86; refine (HNk.out _ HP5.out).mono ?_; rintro e w6 ⟨rfl, hq⟩; have HQ6 := Lib.hid hq; clear hq; simp only [codeP]))
              go_ret
              rw [← HRE.out]
              exact ⟨rfl, HQ6.out⟩
            | ok q3 s3 =>
              rw [hn] at HNk hR
              obtain ⟨g1, g2, g3⟩ := name_facts hn
              have HM3 := Lib.hid (g1.trans HMk.out)
              have HSK3 := Lib.hid (g2 HSk.out)
              have HRE := Lib.hid (show unionsP s3 q3 = R from hR)
              have hl3 : s3.length < gk - 1 := by rw [List.length_tail] at g3; omega
              have hg3 : s3.length + 1 < gk := by omega
              clear hn hR hu g1 g2 g3
              go_wp2_with (first
                | (go_at_call 87; refine HU.out.mono ?_; rintro e w5 ⟨rfl, hk, hs⟩; have HP5 := Lib.hid (HPk.out.st' hk hs); clear hk hs)
                | (go_at_call 86; refine (HNk.out _ HP5.out).mono ?_; rintro e w6 ⟨rfl, VA6, VS6, VB6, B6, hq⟩; have HP6 := Lib.hid hq; clear hq; simp only [codeP]))
              go_roundg (s3.length + 1)
              case measure => omega
              case rel => exact ⟨s3, q3, VA6, VS6, VB6, B6, Nat.lt_succ_self _, HRE, HM3, HSK3, HP6⟩
          · rw [if_neg hu] at hR
            rw [decide_eq_false hu, show skipS k_union sk = sk from if_neg hu] at HU
            have HRE := Lib.hid hR
            clear hR hu
            go_wp2_with (go_at_call 87; refine HU.out.mono ?_; rintro e w5 ⟨rfl, hk, hs⟩; have HP5 := Lib.hid (HPk.out.st' hk hs); clear hk hs)
            go_ret
            rw [← HRE.out]
            exact ⟨rfl, _, _, _, _, HP5.out⟩
set_option maxHeartbeats 4000000 in
theorem where_q (s : List Tok) (VA VS VB : Value) (q : Qy) (B : Nat) (w : World) (G : Gx w0 L A c b) (h : PQ w0 L A c b s VA VS VB q B w) :
    Calls Tryz.prog 59 #[.pointer (some ⟨b, 0, none⟩)] w (QPost w0 L A c b (whereP q s)) := by
  have f := G.fx
  have HP := Lib.hid h
  have HJ := Lib.hid (skip_p f h.st k_where (by decide) ⟨#[119, 104, 101, 114, 101]⟩ rfl)
  unfold whereP
  by_cases hw : txt s = k_where
  · rw [if_pos hw]
    rw [decide_eq_true hw, show skipS k_where s = s.tail from if_pos hw] at HJ
    have HE := Lib.hid (fun W (hst : St w0 L A c b s.tail (QCl q VA VS VB) W) => expr_q w0 L A c b s.tail VA VS VB q W G hst h.arg.no h.noS h.whr.no 4 (.inr rfl))
    have HZ := Lib.hid (fun (hs : s.tail <:+ L) t s' (h : rdL s.tail = .ok t s') => rd_small f hs h)
    unfold exprP
    clear h f hw
    cases hr : rdL s.tail with
    | er v s' =>
      rw [hr] at HE
      clear hr
      go_enter Tryz.func59, Tryz.ntmps59
      go_wp2_with (first
        | (go_at_call 87; refine HJ.out.mono ?_; rintro e w2 ⟨rfl, hk, hs⟩; have HP2 := Lib.hid (HP.out.st' hk hs); have hlt2 := hs.rd.lt; clear hk hs)
        | (go_at_call 88; refine (HE.out _ HP2.out.st).mono ?_; rintro e w3 ⟨_, rfl, h0, hY⟩; have HY := Lib.hid hY; clear hY))
      go_ret
      exact ⟨rfl, h0, HY.out⟩
    | ok t s' =>
      rw [hr] at HE
      have HT := Lib.hid (fun hs => HZ.out hs t s' hr)
      clear hr HZ
      go_enter Tryz.func59, Tryz.ntmps59
      go_wp2_with (first
        | (go_at_call 87; refine HJ.out.mono ?_; rintro e w2 ⟨rfl, hk, hs⟩; have HP2 := Lib.hid (HP.out.st' hk hs); have hlt2 := hs.rd.lt; clear hk hs)
        | (go_at_call 88; refine (HE.out _ HP2.out.st).mono ?_; rintro e w3 ⟨hk, rfl, A', c', hs, hl, hn⟩; have HS3 := Lib.hid hs; have HK3 := Lib.hid hk; have HL3 := Lib.hid hl; have HN3 := Lib.hid hn; clear hk hs hl hn))
      go_ret
      exact ⟨rfl, _, _, _, _, HP2.out.withWhr HK3.out HS3.out HL3.out HN3.out (HT.out HP2.out.st.suf)⟩
  · rw [if_neg hw]
    rw [decide_eq_false hw, show skipS k_where s = s from if_neg hw] at HJ
    clear h f hw
    go_enter Tryz.func59, Tryz.ntmps59
    go_wp2_with (go_at_call 87; refine HJ.out.mono ?_; rintro e w2 ⟨rfl, hk, hs⟩; have HP2 := Lib.hid (HP.out.st' hk hs); clear hk hs)
    go_ret
    exact ⟨rfl, _, _, _, _, HP2.out⟩
set_option maxHeartbeats 4000000 in
theorem key_q (s : List Tok) (VA VS VB : Value) (q : Qy) (B : Nat) (w : World) (G : Gx w0 L A c b) (h : PQ w0 L A c b s VA VS VB q B w) :
    Calls Tryz.prog 61 #[.pointer (some ⟨b, 0, none⟩)] w (QPost w0 L A c b (keyP q s)) := by
  have f := G.fx
  have HF := Lib.hid f
  have HP := Lib.hid h
  have HJ := Lib.hid (skip_p f h.st k_by (by decide) ⟨#[98, 121]⟩ rfl)
  unfold keyP
  by_cases hw : txt s = k_by
  · rw [if_pos hw, expP_R]
    rw [decide_eq_true hw, show skipS k_by s = s.tail from if_pos hw] at HJ
    have HX := Lib.hid (fun (W : World) (X : List Value) (hst : St w0 L A c b s.tail X W) => expect_lit HF.out hst [k_key] (by decide) 1 1 rfl (by decide) #[.string ⟨#[107, 101, 121]⟩] 9 rfl)
    have HSET := Lib.hid (fun (W : World) (hP : PQ w0 L A c b s.tail VA VS VB q B W) => show PQ w0 L A c b s.tail VA VS VB { q with y := true } B (W.setCell ⟨b, 10, none⟩ (.bool true)) from hP.kp (q' := { q with y := true }) (Kp.set _ _ _ _) hP.st.suf (hP.st.rd.setX 8 _) rfl rfl rfl)
    clear h f hw
    cases hb : (expR [k_key] s.tail).1
    · have HX2 := Lib.hid (fun (W : World) (H : Nat) (hH : W.heap.size = H) (X : List Value) (hst : St w0 L A c b s.tail X W) => show Calls Tryz.prog 83 #[.pointer (some ⟨b, 0, none⟩), .slice (some ⟨H, 0, none⟩) 1 1] (W.alloc (.cells #[.string ⟨#[107, 101, 121]⟩] 9)) fun e w' => e = .returned (.int .i64 12) ∧ Kp b W w' ∧ St w0 L A c b (expR [k_key] s.tail).2 X w' from by subst hH; have := HX.out W X hst; rwa [code_f hb] at this)
      clear HX
      go_enter Tryz.func61, Tryz.ntmps61
      go_wp2_with (first
        | (go_at_call 87; refine HJ.out.mono ?_; rintro e w2 ⟨rfl, hk, hs⟩; have HP2 := Lib.hid (HP.out.st' hk hs); have hlt2 := hs.rd.lt; have h10 : w2.cell? ⟨b, 10, none⟩ = some (.bool q.y) := hs.rd.cx (k := 8) rfl; have f10 := hs.rd.fz 10; clear hk hs)
        | (go_at_call 83; refine (HX2.out (w2.setCell ⟨b, 10, none⟩ (.bool true)) w2.heap.size (by simp) _ (HSET.out w2 HP2.out).st).mono ?_; rintro e w3 ⟨rfl, hk, hs⟩; have HS3 := Lib.hid hs; clear hk hs))
      go_ret
      exact ⟨rfl, by decide, _, HS3.out⟩
    · have HX2 := Lib.hid (fun (W : World) (H : Nat) (hH : W.heap.size = H) (X : List Value) (hst : St w0 L A c b s.tail X W) => show Calls Tryz.prog 83 #[.pointer (some ⟨b, 0, none⟩), .slice (some ⟨H, 0, none⟩) 1 1] (W.alloc (.cells #[.string ⟨#[107, 101, 121]⟩] 9)) fun e w' => e = .returned (.int .i64 0) ∧ Kp b W w' ∧ St w0 L A c b (expR [k_key] s.tail).2 X w' from by subst hH; have := HX.out W X hst; rwa [code_t hb] at this)
      clear HX
      go_enter Tryz.func61, Tryz.ntmps61
      go_wp2_with (first
        | (go_at_call 87; refine HJ.out.mono ?_; rintro e w2 ⟨rfl, hk, hs⟩; have HP2 := Lib.hid (HP.out.st' hk hs); have hlt2 := hs.rd.lt; have h10 : w2.cell? ⟨b, 10, none⟩ = some (.bool q.y) := hs.rd.cx (k := 8) rfl; have f10 := hs.rd.fz 10; clear hk hs)
        | (go_at_call 83; refine (HX2.out (w2.setCell ⟨b, 10, none⟩ (.bool true)) w2.heap.size (by simp) _ (HSET.out w2 HP2.out).st).mono ?_; rintro e w3 ⟨rfl, hk, hs⟩; have HP3 := Lib.hid (PQ.st' (HSET.out _ HP2.out) hk hs); clear hk hs))
      go_ret
      exact ⟨rfl, _, _, _, _, HP3.out⟩
  · rw [if_neg hw]
    rw [decide_eq_false hw, show skipS k_by s = s from if_neg hw] at HJ
    clear h f hw
    go_enter Tryz.func61, Tryz.ntmps61
    go_wp2_with (go_at_call 87; refine HJ.out.mono ?_; rintro e w2 ⟨rfl, hk, hs⟩; have HP2 := Lib.hid (HP.out.st' hk hs); clear hk hs)
    go_ret
    exact ⟨rfl, _, _, _, _, HP2.out⟩
set_option maxHeartbeats 4000000 in
theorem late_q (s : List Tok) (VA VS VB : Value) (q : Qy) (B : Nat) (w : World) (G : Gx w0 L A c b) (h : PQ w0 L A c b s VA VS VB q B w) :
    Calls Tryz.prog 62 #[.pointer (some ⟨b, 0, none⟩)] w (QPost w0 L A c b (lateP q s)) := by
  have f := G.fx
  have HF := Lib.hid f
  have HP := Lib.hid (show PQ w0 L A c b s VA VS VB { q with t := 1 } B (w.setCell ⟨b, 11, none⟩ (.int .u8 1)) from h.kp (q' := { q with t := 1 }) (Kp.set _ _ _ _) h.st.suf (h.st.rd.setX 9 _) rfl rfl rfl)
  have HJ := Lib.hid (skip_p f HP.out.st k_late (by decide) ⟨#[108, 97, 116, 101]⟩ rfl)
  have hlt := h.st.rd.lt
  have h11 : w.cell? ⟨b, 11, none⟩ = some (.int .u8 q.t) := h.st.rd.cx (k := 9) rfl
  have f11 := h.st.rd.fz 11
  unfold lateP
  by_cases hw : txt s = k_late
  · rw [if_pos hw]
    rw [decide_eq_true hw, show skipS k_late s = s.tail from if_pos hw] at HJ
    have HC := Lib.hid (fun (W : World) (X : List Value) (hst : St w0 L A c b s.tail X W) => choice_lit HF.out hst lates 2 2 rfl (by decide) #[.string ⟨#[100, 114, 111, 112]⟩, .string ⟨#[115, 105, 100, 101]⟩] 9 rfl)
    clear h f hw
    cases hi : idxOf (txt s.tail) lates with
    | none =>
      rw [hi] at HC
      clear hi
      go_enter Tryz.func62, Tryz.ntmps62
      go_wp2_with (first
        | (go_at_call 87; refine HJ.out.mono ?_; rintro e w2 ⟨rfl, hk, hs⟩; have HP2 := Lib.hid (HP.out.st' hk hs); clear hk hs)
        | (go_at_call 84; refine (HC.out _ _ HP2.out.st).mono ?_; rintro e w3 ⟨rfl, hb⟩; have HB := Lib.hid hb; clear hb; simp only [chV, chE]))
      go_ret
      exact ⟨rfl, by decide, _, HP2.out.st.below HB.out⟩
    | some i =>
      rw [hi] at HC
      have hx := idx_some hi
      have hi4 : i < 2 := (List.getElem?_eq_some_iff.1 hx).1
      obtain ⟨x, hsx, hxs⟩ := txt_cons (s := s.tail) rfl (fun e => by rw [e, show idxOf [] lates = none by decide] at hi; cases hi)
      have HSE := Lib.hid hsx
      clear hi hx hsx hxs
      obtain ⟨m, hm⟩ : ∃ m, L.length - s.tail.length = m := ⟨_, rfl⟩
      have HI := Lib.hid hm
      have hm2 : m < 201 := by have := HF.out.len; omega
      have HSET := Lib.hid (fun (W : World) (hP : PQ w0 L A c b s.tail VA VS VB { q with t := 1 } B W) => show PQ w0 L A c b s.tail.tail VA VS VB { q with t := 1 + (i : Int) } B ((W.setCell ⟨b, 1, none⟩ (.int .i64 ((m : Int) + 1))).setCell ⟨b, 11, none⟩ (.int .u8 (1 + (i : Int)))) from by
        have h1 := (hP.inc HSE.out HI.out).2
        exact h1.kp (q' := { q with t := 1 + (i : Int) }) (Kp.set _ _ _ _) h1.st.suf (h1.st.rd.setX 9 _) rfl rfl rfl)
      clear hm
      have hc : i = 0 ∨ i = 1 := by omega
      rcases hc with rfl | rfl
      all_goals
        clear hi4
        go_enter Tryz.func62, Tryz.ntmps62
        go_wp2_with (first
          | (go_at_call 87; refine HJ.out.mono ?_; rintro e w2 ⟨rfl, hk, hs⟩; have HP2 := Lib.hid (HP.out.st' hk hs); clear hk hs)
          | (go_at_call 84; refine (HC.out _ _ HP2.out.st).mono ?_; rintro e w3 ⟨rfl, hb⟩; have HP3 := Lib.hid (HP2.out.below hb); clear hb; simp only [chV, chE]; obtain ⟨hlt, d0, d1, _, _, _, _, _, _, _, _, _, d11⟩ := HP3.out.cells; rw [HI.out] at d1; have f1 := HP3.out.st.rd.fz 1; have f11 := HP3.out.st.rd.fz 11))
        go_ret
        exact ⟨rfl, _, _, _, _, HSET.out _ HP3.out⟩
  · rw [if_neg hw]
    rw [decide_eq_false hw, show skipS k_late s = s from if_neg hw] at HJ
    clear h f hw
    go_enter Tryz.func62, Tryz.ntmps62
    go_wp2_with (go_at_call 87; refine HJ.out.mono ?_; rintro e w2 ⟨rfl, hk, hs⟩; have HP2 := Lib.hid (HP.out.st' hk hs); clear hk hs)
    go_ret
    exact ⟨rfl, _, _, _, _, HP2.out⟩
theorem end_q (s : List Tok) (VA VS VB : Value) (q : Qy) (B : Nat) (w : World) (G : Gx w0 L A c b) (h : PQ w0 L A c b s VA VS VB q B w) :
    Calls Tryz.prog 63 #[.pointer (some ⟨b, 0, none⟩)] w (QPost w0 L A c b (endP q s)) := by
  have HP := Lib.hid h
  have h0 := h.st.rd.c0
  have h1 := h.st.rd.c1
  have hlt := h.st.rd.lt
  have hl := G.fx.len
  have hle := h.st.suf.length_le
  cases s with
  | nil =>
    rw [show L.length - ([] : List Tok).length = L.length by simp] at h1
    generalize L.length = n at h0 h1 hl
    clear h hle
    go_enter Tryz.func63, Tryz.ntmps63
    go_wp2
    go_quiet (fail)
    go_wp2
    go_ret
    exact ⟨rfl, _, _, _, _, HP.out.drewN _⟩
  | cons x s =>
    obtain ⟨i, hi⟩ : ∃ i, L.length - (x :: s).length = i := ⟨_, rfl⟩
    rw [hi] at h1
    have hin : (i : Int) < L.length := by simp at hle hi; omega
    clear hi hle h
    generalize L.length = n at h0 hin hl
    go_enter Tryz.func63, Tryz.ntmps63
    go_wp2
    go_quiet (fail)
    go_wp2
    go_ret
    exact ⟨rfl, by decide, _, HP.out.st.drewN _⟩
end
end Go.Proofs.YtlmamidodahgmaaGreatDoor.P9
