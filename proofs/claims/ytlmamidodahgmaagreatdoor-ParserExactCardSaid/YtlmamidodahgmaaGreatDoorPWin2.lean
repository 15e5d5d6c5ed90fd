/- A reader's windows, whole. -/
import Derived.Test.YtlmamidodahgmaaGreatDoorPWin
namespace Go.Proofs.YtlmamidodahgmaaGreatDoor.P9
open Go.ChangeShapes Go.WideShapes Go.ChangeAt Go.RowKit N4 Q8
set_option linter.unusedVariables false
set_option linter.unusedSimpArgs false
set_option maxRecDepth 100000

theorem size_er {k : Int} {q : Qy} {v : Int} {s s' : List Tok} (h : sizeP k q s = .er v s') : v ≠ 0 := by
  unfold sizeP at h
  cases hn : numP (fun n => (1, n, 0)) q s with
  | ok q1 s1 => rw [hn] at h; cases h
  | er v1 s1 => rw [hn] at h; injection h with h _; subst h; exact num_er hn
theorem size_facts {k : Int} {q q' : Qy} {s s' : List Tok} (h : sizeP k q s = .ok q' s') : q'.s ≤ 9223372036854775807 := by
  unfold sizeP at h
  obtain ⟨q1, s1, e1, h⟩ := PR.bind_ok h
  obtain ⟨x, _, hx, _, rfl⟩ := num_ok' e1
  injection h with h _
  subst h
  have := val_max hx
  show ((val x.s : Nat) : Int) ≤ _
  omega
section
variable (w0 : World × World) (L : List Tok) (A : Option Addr) (c b : Nat)
set_option maxHeartbeats 8000000 in
theorem window_q (s : List Tok) (VA VS VB : Value) (q : Qy) (B : Nat) (w : World) (G : Gx w0 L A c b) (h : PQ w0 L A c b s VA VS VB q B w) :
    Calls Tryz.prog 60 #[.pointer (some ⟨b, 0, none⟩)] w (QPost w0 L A c b (winP q s)) := by
  have f := G.fx
  have HF := Lib.hid f
  have HP := Lib.hid h
  have HX := Lib.hid (expect_lit f h.st [k_window] (by decide) 1 1 rfl (by decide) #[.string ⟨#[119, 105, 110, 100, 111, 119]⟩] 9 rfl)
  unfold winP
  rw [expP_R]
  cases hb : (expR [k_window] s).1
  · rw [code_f hb] at HX
    clear h f
    go_enter Tryz.func60, Tryz.ntmps60
    go_wp2_with (go_at_call 83; refine HX.out.mono ?_; rintro e w2 ⟨rfl, hk, hs⟩; have HS := Lib.hid hs; clear hk hs)
    go_ret
    exact ⟨rfl, by decide, _, HS.out⟩
  · rw [code_t hb] at HX
    obtain ⟨s1, hs1⟩ : ∃ s1, (expR [k_window] s).2 = s1 := ⟨_, rfl⟩
    rw [hs1] at HX ⊢
    rw [if_pos rfl]
    show Calls _ _ _ _ (QPost w0 L A c b (match idxOf (txt s1) wins with | none => .er 12 s1 | some i => if q.j = true ∧ i ≠ 0 then .er 8 s1 else (sizeP (1 + (i : Int)) q s1.tail).bind fun q s => if i = 1 then everyP q s else .ok q s))
    have HC := Lib.hid (fun (W : World) (X : List Value) (hst : St w0 L A c b s1 X W) => choice_lit HF.out hst wins 3 3 rfl (by decide) #[.string ⟨#[116, 117, 109, 98, 108, 101]⟩, .string ⟨#[115, 108, 105, 100, 101]⟩, .string ⟨#[115, 101, 115, 115, 105, 111, 110]⟩] 9 rfl)
    clear h f hs1 hb
    cases hi : idxOf (txt s1) wins with
    | none =>
      rw [hi] at HC
      clear hi
      go_enter Tryz.func60, Tryz.ntmps60
      go_wp2_with (first
        | (go_at_call 83; refine HX.out.mono ?_; rintro e w2 ⟨rfl, hk, hs⟩; have HP2 := Lib.hid (HP.out.st' hk hs); clear hk hs)
        | (go_at_call 84; refine (HC.out _ _ HP2.out.st).mono ?_; rintro e w3 ⟨rfl, hb⟩; have HB := Lib.hid hb; clear hb; simp only [chV, chE]))
      go_ret
      exact ⟨rfl, by decide, _, HP2.out.st.below HB.out⟩
    | some i =>
      rw [hi] at HC
      simp only
      have hx := idx_some hi
      have hi4 : i < 3 := (List.getElem?_eq_some_iff.1 hx).1
      obtain ⟨x, hsx, hxs⟩ := txt_cons (s := s1) rfl (fun e => by rw [e, show idxOf [] wins = none by decide] at hi; cases hi)
      have HSE := Lib.hid hsx
      clear hi hx hsx hxs
      obtain ⟨m, hm⟩ : ∃ m, L.length - s1.length = m := ⟨_, rfl⟩
      have HI := Lib.hid hm
      have hm2 : m < 201 := by have := HF.out.len; omega
      clear hm
      obtain ⟨j, hj⟩ : ∃ j, q.j = j := ⟨_, rfl⟩
      have HJ := Lib.hid hj
      rw [hj]
      have HZ := Lib.hid (fun (W : World) (k : Int) (hP : PQ w0 L A c b s1.tail VA VS VB q B W) => size_q w0 L A c b s1.tail VA VS VB q B W G hP k)
      have HEV := Lib.hid (fun (W : World) (q1 : Qy) (s2 : List Tok) (VA VS VB : Value) (B : Nat) (hP : PQ w0 L A c b s2 VA VS VB q1 B W) (hz : q1.s ≤ 9223372036854775807) => every_q w0 L A c b s2 VA VS VB q1 B W G hP hz)
      clear hj
      have hc : i = 0 ∨ i = 1 ∨ i = 2 := by omega
      clear hi4
      have case0 : ∀ r, sizeP 1 q s1.tail = r → i = 0 → Calls Tryz.prog 60 #[.pointer (some ⟨b, 0, none⟩)] w (QPost w0 L A c b (if j = true ∧ 0 ≠ 0 then .er 8 s1 else r.bind fun q s => if 0 = 1 then everyP q s else .ok q s)) := by
        intro r hr hi
        subst hi
        have HZ0 := Lib.hid (fun (W : World) (hP : PQ w0 L A c b s1.tail VA VS VB q B W) => HZ.out W 1 hP)
        rw [hr] at HZ0
        cases r with
        | er v s2 =>
          have hvb := errno_ne (size_er hr)
          clear hr hc HZ
          cases j
          all_goals
            go_enter Tryz.func60, Tryz.ntmps60
            go_wp2_with (first
              | (go_at_call 83; refine HX.out.mono ?_; rintro e w2 ⟨rfl, hk, hs⟩; have HP2 := Lib.hid (HP.out.st' hk hs); clear hk hs)
              | (go_at_call 84; refine (HC.out _ _ HP2.out.st).mono ?_; rintro e w3 ⟨rfl, hb⟩; have HP3 := Lib.hid (HP2.out.below hb); clear hb; simp only [chV, chE]; obtain ⟨hlt, d0, d1, _, _, _, d5, _⟩ := HP3.out.cells; rw [HI.out] at d1; rw [HJ.out] at d5; have f1 := HP3.out.st.rd.fz 1)
              | (go_at_call 89; refine (HZ0.out _ (HP3.out.inc HSE.out HI.out).2).mono ?_; rintro e w4 ⟨rfl, hq⟩; have HQ := Lib.hid hq; clear hq; simp only [codeP]))
            go_ret
            first
              | exact ⟨rfl, HQ.out⟩
              | exact ⟨rfl, by decide, _, HP3.out.st⟩
        | ok q1 s2 =>
          have hz := size_facts hr
          have HEV2 := Lib.hid (fun (W : World) (VA VS VB : Value) (B : Nat) (hP : PQ w0 L A c b s2 VA VS VB q1 B W) => HEV.out W q1 s2 VA VS VB B hP hz)
          clear hr hc HZ hz HEV
          cases j
          all_goals
            go_enter Tryz.func60, Tryz.ntmps60
            go_wp2_with (first
              | (go_at_call 83; refine HX.out.mono ?_; rintro e w2 ⟨rfl, hk, hs⟩; have HP2 := Lib.hid (HP.out.st' hk hs); clear hk hs)
              | (go_at_call 84; refine (HC.out _ _ HP2.out.st).mono ?_; rintro e w3 ⟨rfl, hb⟩; have HP3 := Lib.hid (HP2.out.below hb); clear hb; simp only [chV, chE]; obtain ⟨hlt, d0, d1, _, _, _, d5, _⟩ := HP3.out.cells; rw [HI.out] at d1; rw [HJ.out] at d5; have f1 := HP3.out.st.rd.fz 1)
              | (go_at_call 89; refine (HZ0.out _ (HP3.out.inc HSE.out HI.out).2).mono ?_; rintro e w4 ⟨rfl, VA4, VS4, VB4, B4, hq⟩; have HP4 := Lib.hid hq; clear hq; simp only [codeP])
              | (go_at_call 90; refine (HEV2.out _ _ _ _ _ HP4.out).mono ?_; rintro e w5 ⟨rfl, hq⟩; have HQ5 := Lib.hid hq; clear hq))
            go_ret
            first
              | exact ⟨rfl, HQ5.out⟩
              | exact ⟨rfl, _, _, _, _, HP4.out⟩
              | exact ⟨rfl, by decide, _, HP3.out.st⟩
      have case1 : ∀ r, sizeP 2 q s1.tail = r → i = 1 → Calls Tryz.prog 60 #[.pointer (some ⟨b, 0, none⟩)] w (QPost w0 L A c b (if j = true ∧ 1 ≠ 0 then .er 8 s1 else r.bind fun q s => if 1 = 1 then everyP q s else .ok q s)) := by
        intro r hr hi
        subst hi
        have HZ1 := Lib.hid (fun (W : World) (hP : PQ w0 L A c b s1.tail VA VS VB q B W) => HZ.out W 2 hP)
        rw [hr] at HZ1
        cases r with
        | er v s2 =>
          have hvb := errno_ne (size_er hr)
          clear hr hc HZ
          cases j
          all_goals
            go_enter Tryz.func60, Tryz.ntmps60
            go_wp2_with (first
              | (go_at_call 83; refine HX.out.mono ?_; rintro e w2 ⟨rfl, hk, hs⟩; have HP2 := Lib.hid (HP.out.st' hk hs); clear hk hs)
              | (go_at_call 84; refine (HC.out _ _ HP2.out.st).mono ?_; rintro e w3 ⟨rfl, hb⟩; have HP3 := Lib.hid (HP2.out.below hb); clear hb; simp only [chV, chE]; obtain ⟨hlt, d0, d1, _, _, _, d5, _⟩ := HP3.out.cells; rw [HI.out] at d1; rw [HJ.out] at d5; have f1 := HP3.out.st.rd.fz 1)
              | (go_at_call 89; refine (HZ1.out _ (HP3.out.inc HSE.out HI.out).2).mono ?_; rintro e w4 ⟨rfl, hq⟩; have HQ := Lib.hid hq; clear hq; simp only [codeP]))
            go_ret
            first
              | exact ⟨rfl, HQ.out⟩
              | exact ⟨rfl, by decide, _, HP3.out.st⟩
        | ok q1 s2 =>
          have hz := size_facts hr
          have HEV2 := Lib.hid (fun (W : World) (VA VS VB : Value) (B : Nat) (hP : PQ w0 L A c b s2 VA VS VB q1 B W) => HEV.out W q1 s2 VA VS VB B hP hz)
          clear hr hc HZ hz HEV
          cases j
          all_goals
            go_enter Tryz.func60, Tryz.ntmps60
            go_wp2_with (first
              | (go_at_call 83; refine HX.out.mono ?_; rintro e w2 ⟨rfl, hk, hs⟩; have HP2 := Lib.hid (HP.out.st' hk hs); clear hk hs)
              | (go_at_call 84; refine (HC.out _ _ HP2.out.st).mono ?_; rintro e w3 ⟨rfl, hb⟩; have HP3 := Lib.hid (HP2.out.below hb); clear hb; simp only [chV, chE]; obtain ⟨hlt, d0, d1, _, _, _, d5, _⟩ := HP3.out.cells; rw [HI.out] at d1; rw [HJ.out] at d5; have f1 := HP3.out.st.rd.fz 1)
              | (go_at_call 89; refine (HZ1.out _ (HP3.out.inc HSE.out HI.out).2).mono ?_; rintro e w4 ⟨rfl, VA4, VS4, VB4, B4, hq⟩; have HP4 := Lib.hid hq; clear hq; simp only [codeP])
              | (go_at_call 90; refine (HEV2.out _ _ _ _ _ HP4.out).mono ?_; rintro e w5 ⟨rfl, hq⟩; have HQ5 := Lib.hid hq; clear hq))
            go_ret
            first
              | exact ⟨rfl, HQ5.out⟩
              | exact ⟨rfl, _, _, _, _, HP4.out⟩
              | exact ⟨rfl, by decide, _, HP3.out.st⟩
      have case2 : ∀ r, sizeP 3 q s1.tail = r → i = 2 → Calls Tryz.prog 60 #[.pointer (some ⟨b, 0, none⟩)] w (QPost w0 L A c b (if j = true ∧ 2 ≠ 0 then .er 8 s1 else r.bind fun q s => if 2 = 1 then everyP q s else .ok q s)) := by
        intro r hr hi
        subst hi
        have HZ2 := Lib.hid (fun (W : World) (hP : PQ w0 L A c b s1.tail VA VS VB q B W) => HZ.out W 3 hP)
        rw [hr] at HZ2
        cases r with
        | er v s2 =>
          have hvb := errno_ne (size_er hr)
          clear hr hc HZ
          cases j
          all_goals
            go_enter Tryz.func60, Tryz.ntmps60
            go_wp2_with (first
              | (go_at_call 83; refine HX.out.mono ?_; rintro e w2 ⟨rfl, hk, hs⟩; have HP2 := Lib.hid (HP.out.st' hk hs); clear hk hs)
              | (go_at_call 84; refine (HC.out _ _ HP2.out.st).mono ?_; rintro e w3 ⟨rfl, hb⟩; have HP3 := Lib.hid (HP2.out.below hb); clear hb; simp only [chV, chE]; obtain ⟨hlt, d0, d1, _, _, _, d5, _⟩ := HP3.out.cells; rw [HI.out] at d1; rw [HJ.out] at d5; have f1 := HP3.out.st.rd.fz 1)
              | (go_at_call 89; refine (HZ2.out _ (HP3.out.inc HSE.out HI.out).2).mono ?_; rintro e w4 ⟨rfl, hq⟩; have HQ := Lib.hid hq; clear hq; simp only [codeP]))
            go_ret
            first
              | exact ⟨rfl, HQ.out⟩
              | exact ⟨rfl, by decide, _, HP3.out.st⟩
        | ok q1 s2 =>
          have hz := size_facts hr
          have HEV2 := Lib.hid (fun (W : World) (VA VS VB : Value) (B : Nat) (hP : PQ w0 L A c b s2 VA VS VB q1 B W) => HEV.out W q1 s2 VA VS VB B hP hz)
          clear hr hc HZ hz HEV
          cases j
          all_goals
            go_enter Tryz.func60, Tryz.ntmps60
            go_wp2_with (first
              | (go_at_call 83; refine HX.out.mono ?_; rintro e w2 ⟨rfl, hk, hs⟩; have HP2 := Lib.hid (HP.out.st' hk hs); clear hk hs)
              | (go_at_call 84; refine (HC.out _ _ HP2.out.st).mono ?_; rintro e w3 ⟨rfl, hb⟩; have HP3 := Lib.hid (HP2.out.below hb); clear hb; simp only [chV, chE]; obtain ⟨hlt, d0, d1, _, _, _, d5, _⟩ := HP3.out.cells; rw [HI.out] at d1; rw [HJ.out] at d5; have f1 := HP3.out.st.rd.fz 1)
              | (go_at_call 89; refine (HZ2.out _ (HP3.out.inc HSE.out HI.out).2).mono ?_; rintro e w4 ⟨rfl, VA4, VS4, VB4, B4, hq⟩; have HP4 := Lib.hid hq; clear hq; simp only [codeP])
              | (go_at_call 90; refine (HEV2.out _ _ _ _ _ HP4.out).mono ?_; rintro e w5 ⟨rfl, hq⟩; have HQ5 := Lib.hid hq; clear hq))
            go_ret
            first
              | exact ⟨rfl, HQ5.out⟩
              | exact ⟨rfl, _, _, _, _, HP4.out⟩
              | exact ⟨rfl, by decide, _, HP3.out.st⟩
      rcases hc with rfl | rfl | rfl
      · exact case0 _ rfl rfl
      · exact case1 _ rfl rfl
      · exact case2 _ rfl rfl
end
end Go.Proofs.YtlmamidodahgmaaGreatDoor.P9
