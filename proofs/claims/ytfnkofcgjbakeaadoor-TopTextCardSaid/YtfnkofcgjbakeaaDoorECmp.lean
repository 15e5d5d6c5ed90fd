
/- Lines of the grammar with one operator, and with signs in front. -/
import Derived.Test.YtfnkofcgjbakeaaDoorEChain
namespace Go.Proofs.YtfnkofcgjbakeaaDoor
open Go.ChangeShapes Go.WideShapes Go.ChangeAt Go.RowKit N4
set_option linter.unusedVariables false
set_option maxRecDepth 100000

theorem ent_shift : Ent 94 := fun args W => Tryd.call94 args W
set_option maxHeartbeats 2000000 in
theorem compare_any (w0 : World) (L : List Tok) (A : Option Addr) (c b N : Nat) (f : Fx w0 L A c b) (H : LineC w0 L A c b 94 4 N) (s : List Tok) (r : R) (w : World) (hs : s.length ≤ N) (hr : Rd (.line 3) s r) (h : PS w0 L A c b s w) :
    Calls Tryd.prog 91 #[.pointer (some ⟨b, 0, none⟩)] w (LPost L A c b r w) := by
  have HOP := Lib.hid (fun (q : List Tok) (W : World) (hP : PS w0 L A c b q W) (o : Option Int) (ho : opOf (loK 3) (hiK 3) (txt q) = o) => show Calls Tryd.prog 83 #[.pointer (some ⟨b, 0, none⟩), .int .u8 12, .int .u8 17] W (opPost o W) from operator_any w0 L A c b q W f hP 5 10 (by omega) (by omega) o ho)
  have HJ := Lib.hid (fun (x : Tok) (q : List Tok) (W : World) (hP : PS w0 L A c b (x :: q) W) (hq : q.length ≤ N) => joined_any w0 L A c b _ 4 N f ent_shift H x q W hP hq)
  have HF := Lib.hid f
  rcases hr.inv_ch (by decide) with ⟨v, q, rfl, h1⟩ | ⟨t, q, h1, h2⟩
  · have HH := Lib.hid (H s _ w hs h1 h)
    have hv := errno_ne (h1.er_ne rfl)
    clear H h hr f h1 HOP HJ HF
    go_enter Tryd.func91, Tryd.ntmps91
    go_wp2_with (go_at_call 94; refine HH.out.mono ?_; rintro e w' ⟨hk, hrd, rfl⟩; have HK := Lib.hid hk; have HR := Lib.hid hrd; clear hk hrd)
    go_ret2
    exact ⟨HK.out, HR.out, rfl⟩
  · have HH := Lib.hid (H s _ w hs h1 h)
    have HG := Lib.hid (h1.good (f.mem h.suf) trivial rfl)
    have HQ := Lib.hid (show ∀ w', Kp b w w' → Rdr w' b (.slice A L.length c) (L.length - q.length) → PS w0 L A c b q w' from fun w' hk hr => h.kp hk (h1.suf.trans h.suf) hr)
    have hqN : q.length ≤ N := Nat.le_trans (h1.lt rfl).1 hs
    rcases h2.inv_chain with ⟨hre, ho⟩ | ⟨x, q', k, r1, hqe, ho, h3, hj⟩
    · subst hre
      clear H h hr f h1 HJ HF hqN h2 hs HG
      go_enter Tryd.func91, Tryd.ntmps91
      go_wp2_with (first
        | (go_at_call 83; refine (HOP.out q _ HP.out none ho).mono ?_; rintro e w2 ⟨rfl, m, rfl⟩)
        | (go_at_call 94; refine HH.out.mono ?_; rintro e w' ⟨hk, hrd, A', c', rfl, hl⟩; have HK := Lib.hid hk; have HR := Lib.hid hrd; have HL := Lib.hid hl; have HP := Lib.hid (HQ.out _ hk hrd); clear hk hrd hl))
      go_ret2
      exact ⟨HK.out.trans (Kp.drewN _ _ _), HR.out.drewN _, A', c', rfl, HL.out.below (bd_drewN _ _)⟩
    · subst hqe
      have hkr := op_range ho
      have hk7 := lo7 3
      have hkk : 7 ≤ k ∧ k ≤ 19 := ⟨by omega, by omega⟩
      have hq' : q'.length ≤ N := by simp at hqN; omega
      have hjr : joinR k x q' t r1 = r := by
        rcases hj with ⟨v, q1, hj, hre⟩ | ⟨u, q1, hj, hre, _⟩
        · rw [hj, hre]
        · rw [hj, hre rfl]
      have HJ2 := Lib.hid (fun m A' c' (W : World) (hP : PS w0 L A c b (x :: q') W) (hl : Lies W A' (ndCells t.flat)) => HJ.out x q' (W.drewN m) (hP.drewN m) hq' k hkk t HG.out A' (t.sz + c') (hl.below (bd_drewN _ _)) r1 r h3 hjr)
      have HO := Lib.hid ho
      clear H h hr f h1 HJ HF hqN h2 hs HG hkr hk7 hkk hq' hj hjr h3 ho
      cases r with
      | er v q2 =>
        go_enter Tryd.func91, Tryd.ntmps91
        go_wp2_with (first
          | (go_at_call 84; refine (HJ2.out _ _ _ _ HP.out HL.out).mono ?_; rintro e w3 ⟨hk3, hr3, rfl⟩; have HK3 := Lib.hid hk3; have HR3 := Lib.hid hr3; clear hk3 hr3)
          | (go_at_call 83; refine (HOP.out _ _ HP.out (some k) HO.out).mono ?_; rintro e w2 ⟨rfl, m, rfl⟩)
          | (go_at_call 94; refine HH.out.mono ?_; rintro e w' ⟨hk, hrd, A', c', rfl, hl⟩; have HK := Lib.hid hk; have HR := Lib.hid hrd; have HL := Lib.hid hl; have HP := Lib.hid (HQ.out _ hk hrd); clear hk hrd hl))
        go_ret2
        exact ⟨(HK.out.trans (Kp.drewN _ _ _)).trans HK3.out, HR3.out, rfl⟩
      | ok u q2 =>
        go_enter Tryd.func91, Tryd.ntmps91
        go_wp2_with (first
          | (go_at_call 84; refine (HJ2.out _ _ _ _ HP.out HL.out).mono ?_; rintro e w3 ⟨hk3, hr3, A4, c4, rfl, hl4⟩; have HK3 := Lib.hid hk3; have HR3 := Lib.hid hr3; clear hk3 hr3)
          | (go_at_call 83; refine (HOP.out _ _ HP.out (some k) HO.out).mono ?_; rintro e w2 ⟨rfl, m, rfl⟩)
          | (go_at_call 94; refine HH.out.mono ?_; rintro e w' ⟨hk, hrd, A', c', rfl, hl⟩; have HK := Lib.hid hk; have HR := Lib.hid hrd; have HL := Lib.hid hl; have HP := Lib.hid (HQ.out _ hk hrd); clear hk hrd hl))
        go_ret2
        exact ⟨(HK.out.trans (Kp.drewN _ _ _)).trans HK3.out, HR3.out, A4, c4, rfl, hl4⟩
end Go.Proofs.YtfnkofcgjbakeaaDoor
