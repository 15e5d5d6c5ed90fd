/- A reader's expression. -/
import Derived.Test.YtlmamidodahgmaaGreatDoorPMem2
import Derived.Deep.RegionLaw
namespace Go.Proofs.YtlmamidodahgmaaGreatDoor.P9
open Go.ChangeShapes Go.WideShapes Go.ChangeAt Go.RowKit N4 Q8
set_option linter.unusedVariables false
set_option linter.unusedSimpArgs false
set_option maxRecDepth 100000

/-- What stands throughout a reading, with all tables. -/
structure Gx (w0 : World × World) (L : List Tok) (A : Option Addr) (c b : Nat) : Prop where
  fx : Fx w0.1 L A c b
  nam : NamT w0.1
  chars : Tabs w0.1
  chk : chkF L = 0
def EPost (w0 : World × World) (L : List Tok) (A : Option Addr) (c b : Nat) (X : List Value) (k : Nat) (r : R) (w : World) (e : Ending) (w' : World) : Prop :=
  Kp b w w' ∧
  match r with
  | .ok t s => e = .returned (.int .i64 0) ∧ ∃ A' c', St w0 L A c b s (X.set k (.slice A' t.sz (t.sz + c'))) w' ∧ Lies w' A' (ndCells t.flat) ∧ ∀ a, A' = some a → a.block ≠ b
  | .er v s => e = .returned (.int .i64 v) ∧ v ≠ 0 ∧ ∃ Y, St w0 L A c b s Y w'
set_option maxHeartbeats 4000000 in
theorem expr_q (w0 : World × World) (L : List Tok) (A : Option Addr) (c b : Nat) (s : List Tok) (VA VS VB : Value) (q : Qy) (w : World) (G : Gx w0 L A c b) (h : St w0 L A c b s (QCl q VA VS VB) w) (hA : noInt VA) (hS : noInt VS) (hB : noInt VB) (k : Nat) (hk : k = 1 ∨ k = 4) :
    Calls Tryz.prog 88 #[.pointer (some ⟨b, 0, none⟩), .pointer (some ⟨b, k + 2, none⟩)] w (EPost w0 L A c b (QCl q VA VS VB) k (rdL s) w) := by
  have f := G.fx
  have hz := chk_zero G.chk
  obtain ⟨i, hi⟩ : ∃ i, L.length - s.length = i := ⟨_, rfl⟩
  have hil : i ≤ L.length := by omega
  have hdr : L.drop i = s := by rw [← hi]; exact suf_drop h.suf
  have hP := Lib.hid (fun W (hb : Below w.heap.size w W) => parse_any A c L.length L i W rfl ((h.toks f).below hb) (fun t ht => (f.ok t ht).2) ((G.chars.stays (f.base.symm ▸ h.bl)).stays hb) ((h.tabs f).stays hb) G.chk hil (rdL s) (by rw [hdr]; exact rdL_rd s))
  have c0 := h.rd.c0
  have c1 := h.rd.c1
  rw [hi] at c1
  have hlt := h.rd.lt
  have HH := Lib.hid h
  have hsf := (rdL_rd s).suf.trans h.suf
  have hne : ∀ v q, rdL s = .er v q → v ≠ 0 := fun v q h => (rdL_rd s).er_ne h
  obtain ⟨r, hr⟩ : ∃ r, rdL s = r := ⟨_, rfl⟩
  rw [hr] at hP hsf hne ⊢
  obtain ⟨n, hn⟩ : ∃ n, L.length = n := ⟨_, rfl⟩
  rw [hn] at c0 hP
  have HN := Lib.hid hn
  clear hr hn
  clear hz f h hdr hi hil
  have HB := Lib.hid (fun W (hb : Below (w.drewN 1).heap.size (w.drewN 1) W) => HH.out.below ((bd_drewN w 1).trans (hb.mono (Nat.le_of_eq (by simp)))))
  have HK := Lib.hid (fun W (hb : Below (w.drewN 1).heap.size (w.drewN 1) W) => (Kp.drewN b w 1).trans (Kp.of_below hb))
  cases r with
  | ok t s' =>
    unfold PPost at hP
    simp only at hP
    have HSF := Lib.hid (show s' <:+ L from hsf)
    clear hsf hne
    rcases hk with rfl | rfl
    · go_enter Tryz.func88, Tryz.ntmps88
      go_wp2
      go_region_law (first
        | (go_simp; go_at_call 16; refine (hP.out _ (bd_drewN _ 1)).mono ?_; rintro e w3 ⟨hb, A', c', rfl, hl⟩; have h3 := HB.out _ hb; have hk3 := HK.out _ hb; have r1 := h3.rd.c1; have r3 : w3.cell? ⟨b, 3, none⟩ = some VA := h3.rd.cx (k := 1) rfl; have f1 := h3.rd.fz 1; have f3 := h3.rd.fz 3; have l3 := h3.rd.lt; have HL := Lib.hid hl; have HS3 := Lib.hid h3; have HK3 := Lib.hid hk3; clear hb hl h3 hk3))
      all_goals
        go_wp2
        go_ret
        have hno := lies_no_rq HL.out HS3.out.rd (noInt_slice _ _ _) hA hS hB
        have hno' : ∀ a, A' = some a → a.block ≠ b := fun a ha => hno a ha t.flat_ne
        have hkk : ∀ i u j v, Kp b w3 ((w3.setCell ⟨b, i, none⟩ u).setCell ⟨b, j, none⟩ v) := fun _ _ _ _ => (Kp.set _ _ _ _).trans (Kp.set _ _ _ _)
        have h3r : Rq w3 b (.slice A n c) (n - s.length) (QCl q VA VS VB) := by have := HS3.out.rd; rwa [HN.out] at this
        have e1 : Rq ((w3.setCell ⟨b, 3, none⟩ (.slice A' t.sz (t.sz + c'))).setCell ⟨b, 1, none⟩ (.int .i64 ((n - s'.length : Nat) : Int))) b (.slice A n c) (n - s'.length) ((QCl q VA VS VB).set 1 (.slice A' t.sz (t.sz + c'))) := (h3r.setX 1 _).set1 _
        have e2 : Rq ((w3.setCell ⟨b, 1, none⟩ (.int .i64 ((n - s'.length : Nat) : Int))).setCell ⟨b, 3, none⟩ (.slice A' t.sz (t.sz + c'))) b (.slice A n c) (n - s'.length) ((QCl q VA VS VB).set 1 (.slice A' t.sz (t.sz + c'))) := (h3r.set1 _).setX 1 _
        refine ⟨HK3.out.trans (hkk _ _ _ _), rfl, A', c', HS3.out.kp (hkk _ _ _ _) HSF.out ?_, (hkk _ _ _ _).lies HL.out (fun a ha _ => hno' a ha), hno'⟩
        rw [HN.out]
        first
          | with_reducible exact e1
          | with_reducible exact e2
    · go_enter Tryz.func88, Tryz.ntmps88
      go_wp2
      go_region_law (first
        | (go_simp; go_at_call 16; refine (hP.out _ (bd_drewN _ 1)).mono ?_; rintro e w3 ⟨hb, A', c', rfl, hl⟩; have h3 := HB.out _ hb; have hk3 := HK.out _ hb; have r1 := h3.rd.c1; have r3 : w3.cell? ⟨b, 6, none⟩ = some VB := h3.rd.cx (k := 4) rfl; have f1 := h3.rd.fz 1; have f3 := h3.rd.fz 6; have l3 := h3.rd.lt; have HL := Lib.hid hl; have HS3 := Lib.hid h3; have HK3 := Lib.hid hk3; clear hb hl h3 hk3))
      all_goals
        go_wp2
        go_ret
        have hno := lies_no_rq HL.out HS3.out.rd (noInt_slice _ _ _) hA hS hB
        have hno' : ∀ a, A' = some a → a.block ≠ b := fun a ha => hno a ha t.flat_ne
        have hkk : ∀ i u j v, Kp b w3 ((w3.setCell ⟨b, i, none⟩ u).setCell ⟨b, j, none⟩ v) := fun _ _ _ _ => (Kp.set _ _ _ _).trans (Kp.set _ _ _ _)
        have h3r : Rq w3 b (.slice A n c) (n - s.length) (QCl q VA VS VB) := by have := HS3.out.rd; rwa [HN.out] at this
        have e1 : Rq ((w3.setCell ⟨b, 6, none⟩ (.slice A' t.sz (t.sz + c'))).setCell ⟨b, 1, none⟩ (.int .i64 ((n - s'.length : Nat) : Int))) b (.slice A n c) (n - s'.length) ((QCl q VA VS VB).set 4 (.slice A' t.sz (t.sz + c'))) := (h3r.setX 4 _).set1 _
        have e2 : Rq ((w3.setCell ⟨b, 1, none⟩ (.int .i64 ((n - s'.length : Nat) : Int))).setCell ⟨b, 6, none⟩ (.slice A' t.sz (t.sz + c'))) b (.slice A n c) (n - s'.length) ((QCl q VA VS VB).set 4 (.slice A' t.sz (t.sz + c'))) := (h3r.set1 _).setX 4 _
        refine ⟨HK3.out.trans (hkk _ _ _ _), rfl, A', c', HS3.out.kp (hkk _ _ _ _) HSF.out ?_, (hkk _ _ _ _).lies HL.out (fun a ha _ => hno' a ha), hno'⟩
        rw [HN.out]
        first
          | with_reducible exact e1
          | with_reducible exact e2
  | er v s' =>
    unfold PPost at hP
    simp only at hP
    have HSF := Lib.hid (show s' <:+ L from hsf)
    have hv0 := hne _ _ rfl
    clear hsf hne
    rcases hk with rfl | rfl
    · go_enter Tryz.func88, Tryz.ntmps88
      go_wp2
      go_region_law (first
        | (go_simp; go_at_call 16; refine (hP.out _ (bd_drewN _ 1)).mono ?_; rintro e w3 ⟨hb, rfl⟩; have h3 := HB.out _ hb; have hk3 := HK.out _ hb; have r1 := h3.rd.c1; have r3 : w3.cell? ⟨b, 3, none⟩ = some VA := h3.rd.cx (k := 1) rfl; have f1 := h3.rd.fz 1; have f3 := h3.rd.fz 3; have l3 := h3.rd.lt; have HS3 := Lib.hid h3; have HK3 := Lib.hid hk3; clear hb h3 hk3))
      all_goals
        go_wp2
        go_ret
        have hkk : ∀ i u j v, Kp b w3 ((w3.setCell ⟨b, i, none⟩ u).setCell ⟨b, j, none⟩ v) := fun _ _ _ _ => (Kp.set _ _ _ _).trans (Kp.set _ _ _ _)
        have h3r : Rq w3 b (.slice A n c) (n - s.length) (QCl q VA VS VB) := by have := HS3.out.rd; rwa [HN.out] at this
        have e1 : Rq ((w3.setCell ⟨b, 3, none⟩ (.slice none 0 0)).setCell ⟨b, 1, none⟩ (.int .i64 ((n - s'.length : Nat) : Int))) b (.slice A n c) (n - s'.length) ((QCl q VA VS VB).set 1 (.slice none 0 0)) := (h3r.setX 1 _).set1 _
        have e2 : Rq ((w3.setCell ⟨b, 1, none⟩ (.int .i64 ((n - s'.length : Nat) : Int))).setCell ⟨b, 3, none⟩ (.slice none 0 0)) b (.slice A n c) (n - s'.length) ((QCl q VA VS VB).set 1 (.slice none 0 0)) := (h3r.set1 _).setX 1 _
        refine ⟨HK3.out.trans (hkk _ _ _ _), rfl, hv0, (QCl q VA VS VB).set 1 (.slice none 0 0), HS3.out.kp (hkk _ _ _ _) HSF.out ?_⟩
        rw [HN.out]
        first
          | with_reducible exact e1
          | with_reducible exact e2
    · go_enter Tryz.func88, Tryz.ntmps88
      go_wp2
      go_region_law (first
        | (go_simp; go_at_call 16; refine (hP.out _ (bd_drewN _ 1)).mono ?_; rintro e w3 ⟨hb, rfl⟩; have h3 := HB.out _ hb; have hk3 := HK.out _ hb; have r1 := h3.rd.c1; have r3 : w3.cell? ⟨b, 6, none⟩ = some VB := h3.rd.cx (k := 4) rfl; have f1 := h3.rd.fz 1; have f3 := h3.rd.fz 6; have l3 := h3.rd.lt; have HS3 := Lib.hid h3; have HK3 := Lib.hid hk3; clear hb h3 hk3))
      all_goals
        go_wp2
        go_ret
        have hkk : ∀ i u j v, Kp b w3 ((w3.setCell ⟨b, i, none⟩ u).setCell ⟨b, j, none⟩ v) := fun _ _ _ _ => (Kp.set _ _ _ _).trans (Kp.set _ _ _ _)
        have h3r : Rq w3 b (.slice A n c) (n - s.length) (QCl q VA VS VB) := by have := HS3.out.rd; rwa [HN.out] at this
        have e1 : Rq ((w3.setCell ⟨b, 6, none⟩ (.slice none 0 0)).setCell ⟨b, 1, none⟩ (.int .i64 ((n - s'.length : Nat) : Int))) b (.slice A n c) (n - s'.length) ((QCl q VA VS VB).set 4 (.slice none 0 0)) := (h3r.setX 4 _).set1 _
        have e2 : Rq ((w3.setCell ⟨b, 1, none⟩ (.int .i64 ((n - s'.length : Nat) : Int))).setCell ⟨b, 6, none⟩ (.slice none 0 0)) b (.slice A n c) (n - s'.length) ((QCl q VA VS VB).set 4 (.slice none 0 0)) := (h3r.set1 _).setX 4 _
        refine ⟨HK3.out.trans (hkk _ _ _ _), rfl, hv0, (QCl q VA VS VB).set 4 (.slice none 0 0), HS3.out.kp (hkk _ _ _ _) HSF.out ?_⟩
        rw [HN.out]
        first
          | with_reducible exact e1
          | with_reducible exact e2
end Go.Proofs.YtlmamidodahgmaaGreatDoor.P9
