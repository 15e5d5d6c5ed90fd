/- Merged: ETextW, ETextB, EOpen. -/
import Derived.Test.YtlmamidodahgmaaGreatDoorEC
import Derived.Test.YtlmamidodahgmaaGreatDoorEA
import Derived.Test.YtlmamidodahgmaaGreatDoorNB
/- ETextW: The contract of Text. -/
namespace Go.Proofs.YtlmamidodahgmaaGreatDoor
open Go.ChangeShapes Go.WideShapes Go.ChangeAt Go.RowKit N4
set_option linter.unusedVariables false
set_option maxRecDepth 100000

theorem bytes_app (l m : List UInt8) : bytesOf l ++ bytesOf m = bytesOf (l ++ m) := by
  apply ByteArray.ext
  simp [bytesOf, ByteArray.data_append]
theorem ret_s {a b : ByteArray} (h : a = b) : Ending.returned (.string a) = .returned (.string b) := by rw [h]
theorem br_bytes (T : List UInt8) : ((⟨#[40]⟩ : ByteArray) ++ bytesOf T) ++ ⟨#[41]⟩ = bytesOf (40 :: (T ++ [41])) := by
  apply ByteArray.ext
  simp [bytesOf, ByteArray.data_append]
def TX (w0 : World) (A : Option Addr) (L : List Nd) (w : World) : Prop := Below w0.heap.size w0 w ∧ Lies w A (ndCells L) ∧ Tab5 w ∧ Pow w
theorem TX.step {w0 w w' : World} {A : Option Addr} {L : List Nd} (h : TX w0 A L w) (hb : Below w.heap.size w w') : TX w0 A L w' := ⟨h.1.trans (hb.mono h.1.size), h.2.1.below hb, h.2.2.1.stays hb, h.2.2.2.stays hb⟩
def TC (A : Option Addr) (L : List Nd) (c n : Nat) (t : Tr) (j : Nat) (f : Nat) (T : List UInt8) : Prop :=
  ∀ (w0 w : World), TX w0 A L w → Calls Tryz.prog f #[.slice A n c, .int .i64 ((j : Int) + t.sz - 1)] w fun e w' => e = .returned (.string (bytesOf T)) ∧ TX w0 A L w'
theorem nd_at {w0 w : World} {A : Option Addr} {L : List Nd} (h : TX w0 A L w) {i : Nat} {x : Nd} (hx : L[i]? = some x) : ∃ ad, A = some ad ∧ ad.block < w.heap.size ∧ NdAt w ad i x := Lies.nd h.2.1 hx

set_option maxHeartbeats 1000000 in
theorem text_leaf (A : Option Addr) (L : List Nd) (c n : Nat) (hn : L.length = n) (hL : n ≤ 60) (k m p : Int) (j : Nat) (hs : Sub L j (.leaf k m p)) (ht : (Tr.leaf k m p).ok = true) (hb : (Tr.leaf k m p).big) : TC A L c n (.leaf k m p) j 50 (Tr.leaf k m p).wr := by
  intro w0 w h
  simp only [Tr.ok, Bool.and_eq_true, decide_eq_true_eq] at ht
  have hf := ht.2
  simp only [fitsF, Bool.and_eq_true, Bool.or_eq_true, decide_eq_true_eq] at hf
  have hlen := hs.len
  have hx := hs.leafAt ht.1.2
  obtain ⟨ad, rfl, had, hc0, hc1, hc2, hc3, hc4⟩ := nd_at h hx
  have H := Lib.hid h
  have HIT := Lib.hid (fun (W : World) (hW : TX w0 (some ad) L W) => itext_any m W (by omega) hb hW.2.2.2)
  simp only [Tr.sz] at hlen ⊢
  rw [show (j : Int) + ((1 : Nat) : Int) - 1 = j by omega]
  have hj : j < n := by omega
  have HT := Lib.hid h.2.2.1
  have hlt0 := h.2.2.1.2.lt
  have hk : k = 1 ∨ k = 2 ∨ k = 3 ∨ k = 4 := by omega
  clear hs hf hx h hlen ht hb hn
  rcases hk with rfl | rfl | rfl | rfl
  · show Calls _ _ _ _ fun e w' => e = .returned (.string (bytesOf (numT m))) ∧ _
    go_enter Tryz.func50, Tryz.ntmps50
    go_wp2_with (go_at_call 76; refine (HIT.out _ (H.out.step ((Below.refl _ _).alloc (Nat.le_refl _) _))).mono ?_; rintro e w2 ⟨rfl, hb⟩; have HB := Lib.hid hb; clear hb)
    go_ret
    exact ⟨rfl, (H.out.step ((Below.refl _ _).alloc (Nat.le_refl _) _)).step HB.out⟩
  · have hcell := HT.out.2.cellAt (i := 2 - 2) (s := fldB (2 - 2)) rfl
    show Calls _ _ _ _ fun e w' => e = .returned (.string (bytesOf (fldB (2 - 2)))) ∧ _
    generalize fldB (2 - 2) = fb at hcell
    go_enter Tryz.func50, Tryz.ntmps50
    go_wp2
    go_ret
    exact ⟨rfl, H.out.step ((Below.refl _ _).alloc (Nat.le_refl _) _)⟩
  · have hcell := HT.out.2.cellAt (i := 3 - 2) (s := fldB (3 - 2)) rfl
    show Calls _ _ _ _ fun e w' => e = .returned (.string (bytesOf (fldB (3 - 2)))) ∧ _
    generalize fldB (3 - 2) = fb at hcell
    go_enter Tryz.func50, Tryz.ntmps50
    go_wp2
    go_ret
    exact ⟨rfl, H.out.step ((Below.refl _ _).alloc (Nat.le_refl _) _)⟩
  · have hcell := HT.out.2.cellAt (i := 4 - 2) (s := fldB (4 - 2)) rfl
    show Calls _ _ _ _ fun e w' => e = .returned (.string (bytesOf (fldB (4 - 2)))) ∧ _
    generalize fldB (4 - 2) = fb at hcell
    go_enter Tryz.func50, Tryz.ntmps50
    go_wp2
    go_ret
    exact ⟨rfl, H.out.step ((Below.refl _ _).alloc (Nat.le_refl _) _)⟩

set_option maxHeartbeats 1000000 in
theorem text_un (A : Option Addr) (L : List Nd) (c n : Nat) (hn : L.length = n) (hL : n ≤ 60) (k p : Int) (a : Tr) (j : Nat) (hs : Sub L j (.un k p a)) (hk : 5 ≤ k ∧ k ≤ 6) (hl : a.pt.length ≤ 40 * a.sz + 2) (HP : TC A L c n a j 77 a.pt) : TC A L c n (.un k p a) j 50 (Tr.un k p a).wr := by
  intro w0 w h
  have hlen := hs.len
  have hx := (hs.unAt hk).2
  obtain ⟨ad, rfl, had, hc0, hc1, hc2, hc3, hc4⟩ := nd_at h hx
  have H := Lib.hid h
  have HPT := Lib.hid (fun (W : World) (hW : TX w0 (some ad) L W) => HP w0 W hW)
  simp only [Tr.sz] at hlen ⊢
  rw [show (j : Int) + ((a.sz + 1 : Nat) : Int) - 1 = ((j + a.sz : Nat) : Int) by omega]
  have hj : j + a.sz < n := by omega
  have hlb : (bytesOf a.pt).size ≤ 3000 := by rw [bytesOf_size]; omega
  have hwr := Tr.wr_un k p a
  generalize (j : Int) + a.sz - 1 = z at HPT hc2
  generalize j + a.sz = i at hc0 hc1 hc2 hc3 hc4 hj
  rw [hwr]
  generalize a.pt = T at HPT hlb
  clear hs hx h hlen hn HP hl hwr
  have hk' : k = 5 ∨ k = 6 := by omega
  clear hk
  rcases hk' with rfl | rfl
  · show Calls _ _ _ _ fun e w' => e = .returned (.string (bytesOf ([45, 32] ++ T))) ∧ _
    go_enter Tryz.func50, Tryz.ntmps50
    go_wp2_with (go_at_call 77; refine (HPT.out _ (H.out.step ((Below.refl _ _).alloc (Nat.le_refl _) _))).mono ?_; rintro e w2 ⟨rfl, hb⟩; have HB := Lib.hid hb; clear hb)
    go_ret
    exact ⟨ret_s (bytes_app [45, 32] T), HB.out⟩
  · show Calls _ _ _ _ fun e w' => e = .returned (.string (bytesOf ([110, 111, 116, 32] ++ T))) ∧ _
    go_enter Tryz.func50, Tryz.ntmps50
    go_wp2_with (go_at_call 77; refine (HPT.out _ (H.out.step ((Below.refl _ _).alloc (Nat.le_refl _) _))).mono ?_; rintro e w2 ⟨rfl, hb⟩; have HB := Lib.hid hb; clear hb)
    go_ret
    exact ⟨ret_s (bytes_app [110, 111, 116, 32] T), HB.out⟩

set_option maxHeartbeats 1000000 in
theorem part_of (A : Option Addr) (L : List Nd) (c n : Nat) (hn : L.length = n) (hL : n ≤ 60) (t : Tr) (j : Nat) (x : Nd) (hx : L[j + t.sz - 1]? = some x) (hok : okK x.k = true) (hlf : (cnt x.k = 0 ↔ t.isLeaf = true)) (hl : t.wr.length ≤ 40 * t.sz) (hsz : j + t.sz ≤ n) (HP : TC A L c n t j 50 t.wr) : TC A L c n t j 77 t.pt := by
  intro w0 w h
  obtain ⟨ad, rfl, had, hc0, hc1, hc2, hc3, hc4⟩ := nd_at h hx
  have H := Lib.hid h
  have HPT := Lib.hid (fun (W : World) (hW : TX w0 (some ad) L W) => HP w0 W hW)
  have hp := t.sz_pos
  have e1 : (j : Int) + (t.sz : Int) - 1 = ((j + t.sz - 1 : Nat) : Int) := by omega
  rw [e1] at HPT ⊢
  have hj : j + t.sz - 1 < n := by omega
  have hlb : (bytesOf t.wr).size ≤ 3000 := by rw [bytesOf_size]; omega
  have HPA := Lib.hid (fun W => parts_any x.k W)
  rw [show partsN x.k = cnt x.k by unfold partsN; rw [if_pos hok], show partsE x.k = 0 by simp [partsE, hok]] at HPA
  generalize j + t.sz - 1 = i at HPT hc0 hc1 hc2 hc3 hc4 hj
  obtain ⟨xk, xn, xa, xb, xp⟩ := x
  simp only at hc0 hlf HPA hok
  cases hL' : t.isLeaf with
  | true =>
    have hz := hlf.2 hL'
    rw [hz] at HPA
    rw [Tr.pt_leaf hL']
    generalize t.wr = T at HPT hlb
    clear hx h hn HP hl hlf hL' hz hp e1 hsz hok
    go_enter Tryz.func77, Tryz.ntmps77
    go_wp2_with (first
      | (go_at_call 100; refine (HPA.out _).mono ?_; rintro e w2 ⟨rfl, rfl⟩)
      | (go_at_call 50; refine (HPT.out _ H.out).mono ?_; rintro e w2 ⟨rfl, hb⟩; have HB := Lib.hid hb; clear hb))
    go_ret
    exact ⟨rfl, HB.out⟩
  | false =>
    have hz : ¬ cnt xk = 0 := fun e => by rw [hlf.1 e] at hL'; cases hL'
    rw [Tr.pt_no hL']
    generalize t.wr = T at HPT hlb
    generalize cnt xk = q at HPA hz
    clear hx h hn HP hl hlf hL' hp e1 hsz hok
    go_enter Tryz.func77, Tryz.ntmps77
    go_wp2_with (first
      | (go_at_call 100; refine (HPA.out _).mono ?_; rintro e w2 ⟨rfl, rfl⟩)
      | (go_at_call 50; refine (HPT.out _ H.out).mono ?_; rintro e w2 ⟨rfl, hb⟩; have HB := Lib.hid hb; clear hb))
    go_ret
    exact ⟨ret_s (br_bytes T), HB.out⟩
end Go.Proofs.YtlmamidodahgmaaGreatDoor

/- ETextB: The contract of Text: binary kinds, and all. -/
namespace Go.Proofs.YtlmamidodahgmaaGreatDoor
open Go.ChangeShapes Go.WideShapes Go.ChangeAt Go.RowKit N4
set_option linter.unusedVariables false
set_option maxRecDepth 100000

def SB (w0 : World) (A : Option Addr) (L : List Nd) (D m : Nat) (a b : Int) (w : World) : Prop :=
  w.cell? ⟨D, 0, none⟩ = some (.int .u8 (7 + (m : Int))) ∧ w.cell? ⟨D, 2, none⟩ = some (.int .i64 a) ∧ w.cell? ⟨D, 3, none⟩ = some (.int .i64 b) ∧ w.cell? ⟨2, m, none⟩ = some (.string (bytesOf (opB (7 + (m : Int))))) ∧ D < w.heap.size ∧ TX w0 A L w
theorem SB.step {w0 w w' : World} {A : Option Addr} {L : List Nd} {D m : Nat} {a b : Int} (h : SB w0 A L D m a b w) (hb : Below w.heap.size w w') : SB w0 A L D m a b w' := by
  obtain ⟨h1, h2, h3, h4, h5, h6⟩ := h
  have hg := h6.2.2.1.1.lt
  exact ⟨by rw [hb.cell (p := ⟨D, 0, none⟩) h5]; exact h1, by rw [hb.cell (p := ⟨D, 2, none⟩) h5]; exact h2, by rw [hb.cell (p := ⟨D, 3, none⟩) h5]; exact h3, by rw [hb.cell (p := ⟨2, m, none⟩) hg]; exact h4, Nat.lt_of_lt_of_le h5 hb.size, h6.step hb⟩
theorem TC.held {A : Option Addr} {L : List Nd} {c n : Nat} {t : Tr} {j f : Nat} {T : List UInt8} (h : TC A L c n t j f T) {w0 : World} {D m : Nat} {a b : Int} (w : World) (hs : SB w0 A L D m a b w) :
    Calls Tryz.prog f #[.slice A n c, .int .i64 ((j : Int) + t.sz - 1)] w fun e w' => e = .returned (.string (bytesOf T)) ∧ SB w0 A L D m a b w' := by
  refine (h w w ⟨Below.refl _ _, hs.2.2.2.2.2.2⟩).mono ?_
  rintro e w' ⟨rfl, hb, _⟩
  exact ⟨rfl, hs.step hb⟩

set_option maxHeartbeats 4000000 in
theorem text_bin (A : Option Addr) (L : List Nd) (c n : Nat) (hn : L.length = n) (hL : n ≤ 60) (m : Nat) (hm : m < 13) (p : Int) (a b : Tr) (j : Nat) (hs : Sub L j (.bin (7 + (m : Int)) p a b)) (hla : a.pt.length ≤ 40 * a.sz + 2) (hlb : b.pt.length ≤ 40 * b.sz + 2)
    (HA : TC A L c n a j 77 a.pt) (HB : TC A L c n b (j + a.sz) 77 b.pt) : TC A L c n (.bin (7 + (m : Int)) p a b) j 50 (Tr.bin (7 + (m : Int)) p a b).wr := by
  intro w0 w h
  have hlen := hs.len
  have hx := (hs.binAt (by omega)).2.2
  obtain ⟨ad, rfl, had, hc0, hc1, hc2, hc3, hc4⟩ := nd_at h hx
  have H := Lib.hid h
  have HPA := Lib.hid (fun (W : World) (D : Nat) (x y : Int) (hW : SB w0 (some ad) L D m x y W) => HA.held W hW)
  have HPB := Lib.hid (fun (W : World) (D : Nat) (x y : Int) (hW : SB w0 (some ad) L D m x y W) => HB.held W hW)
  have HCO := Lib.hid (h.2.2.1.1.cellAt (op_table m hm))
  have hgl := h.2.2.1.1.lt
  simp only [Tr.sz] at hlen ⊢
  rw [show (j : Int) + ((a.sz + b.sz + 1 : Nat) : Int) - 1 = ((j + (a.sz + b.sz) : Nat) : Int) by omega]
  rw [show ((j + a.sz : Nat) : Int) + b.sz - 1 = (j : Int) + a.sz + b.sz - 1 by omega] at HPB
  have hj : j + (a.sz + b.sz) < n := by omega
  have hl1 : (bytesOf a.pt).size ≤ 3000 := by rw [bytesOf_size]; omega
  have hl2 : (bytesOf b.pt).size ≤ 3000 := by rw [bytesOf_size]; omega
  have hl3 : (bytesOf (opB (7 + (m : Int)))).size ≤ 3 := by rw [bytesOf_size]; exact opB_len _
  have hwr := Tr.wr_bin (7 + (m : Int)) p a b
  generalize (j : Int) + a.sz + b.sz - 1 = y at HPB hc3
  generalize (j : Int) + a.sz - 1 = x at HPA hc2
  generalize j + (a.sz + b.sz) = i at hc0 hc1 hc2 hc3 hc4 hj
  rw [hwr]
  have HSB := Lib.hid (show SB w0 (some ad) L w.heap.size m x y (w.alloc (.cells #[.int .u8 (7 + (m : Int)), .int .i64 0, .int .i64 x, .int .i64 y, .int .i64 p] 58)) from by
    have hb := (Below.refl w.heap.size w).alloc (Nat.le_refl _) (.cells #[.int .u8 (7 + (m : Int)), .int .i64 0, .int .i64 x, .int .i64 y, .int .i64 p] 58)
    refine ⟨by go_simp, by go_simp, by go_simp, ?_, by simp, H.out.step hb⟩
    rw [hb.cell (p := ⟨2, m, none⟩) hgl]
    exact HCO.out)
  generalize a.pt = T1 at HPA hl1
  generalize b.pt = T2 at HPB hl2
  unfold SB at HPA HPB HSB
  generalize opB (7 + (m : Int)) = T3 at hl3 HCO HPA HPB HSB
  have z1 : (⟨#[32]⟩ : ByteArray).size = 1 := rfl
  have z2 : (bytesOf T1 ++ ⟨#[32]⟩).size ≤ 3001 := by rw [ByteArray.size_append]; omega
  have z3 : ((bytesOf T1 ++ ⟨#[32]⟩) ++ bytesOf T3).size ≤ 3004 := by rw [ByteArray.size_append]; omega
  have z4 : (((bytesOf T1 ++ ⟨#[32]⟩) ++ bytesOf T3) ++ ⟨#[32]⟩).size ≤ 3005 := by rw [ByteArray.size_append]; omega
  have k1 := fun W => run_string_add_sum (P := Tryz.prog) W (bytesOf T1) ⟨#[32]⟩ (by omega)
  have k2 := fun W => run_string_add_sum (P := Tryz.prog) W (bytesOf T1 ++ ⟨#[32]⟩) (bytesOf T3) (by omega)
  have k3 := fun W => run_string_add_sum (P := Tryz.prog) W ((bytesOf T1 ++ ⟨#[32]⟩) ++ bytesOf T3) ⟨#[32]⟩ (by omega)
  have k4 := fun W => run_string_add_sum (P := Tryz.prog) W (((bytesOf T1 ++ ⟨#[32]⟩) ++ bytesOf T3) ++ ⟨#[32]⟩) (bytesOf T2) (by omega)
  have HEQ := Lib.hid (show (((bytesOf T1 ++ ⟨#[32]⟩) ++ bytesOf T3) ++ ⟨#[32]⟩) ++ bytesOf T2 = bytesOf (T1 ++ [32] ++ T3 ++ [32] ++ T2) by
    rw [show (⟨#[32]⟩ : ByteArray) = bytesOf [32] from rfl, bytes_app, bytes_app, bytes_app, bytes_app])
  rw [← HEQ.out]
  have hm5 : IntKind.u8.wrap (m : Int) = (m : Int) := by unfold IntKind.wrap; simp [IntKind.bits, IntKind.signed]; omega
  have hm6 : decide ((m : Int) < 13) = true := by simp; omega
  have hm7 : (m : Int) < ((13 : Nat) : Int) := by omega
  have hm8 : (m : Int).toNat = m := by omega
  have hm1 : (0 : Int) ≤ (m : Int) := by omega
  have hm2 : (m : Int) < 13 := by omega
  have hm3 : (7 + (m : Int)) - 7 = (m : Int) := by omega
  have hm4 : IntKind.u8.wrap ((7 + (m : Int)) - 7) = (m : Int) := by rw [hm3]; unfold IntKind.wrap; simp [IntKind.bits, IntKind.signed]; omega
  clear hs hx h hlen hn HA HB hla hlb hwr z1 z2 z3 z4
  go_enter Tryz.func50, Tryz.ntmps50
  go_wp2
  generalize w.heap.size = D at HSB ⊢
  refine wp_gen (fun W => W.cell? ⟨D, 0, none⟩ = some (.int .u8 (7 + (m : Int))) ∧ W.cell? ⟨D, 2, none⟩ = some (.int .i64 x) ∧ W.cell? ⟨D, 3, none⟩ = some (.int .i64 y) ∧ W.cell? ⟨2, m, none⟩ = some (.string (bytesOf T3)) ∧ D < W.heap.size ∧ TX w0 (some ad) L W) HSB.out ?_
  clear HSB hc0 hc1 hc2 hc3 hc4
  intro W hS
  have hT := Lib.hid hS.2.2.2.2.2
  have hS2 := Lib.hid (show W.drew.cell? ⟨D, 0, none⟩ = some (.int .u8 (7 + (m : Int))) ∧ W.drew.cell? ⟨D, 2, none⟩ = some (.int .i64 x) ∧ W.drew.cell? ⟨D, 3, none⟩ = some (.int .i64 y) ∧ W.drew.cell? ⟨2, m, none⟩ = some (.string (bytesOf T3)) ∧ D < W.drew.heap.size ∧ TX w0 (some ad) L W.drew from ⟨hS.1, hS.2.1, hS.2.2.1, hS.2.2.2.1, hS.2.2.2.2.1, hT.out.step (bd_drewN _ 1)⟩)
  clear hS
  go_region_held3 (fun w' => w'.cell? ⟨D, 0, none⟩ = some (.int .u8 (7 + (m : Int))) ∧ w'.cell? ⟨D, 2, none⟩ = some (.int .i64 x) ∧ w'.cell? ⟨D, 3, none⟩ = some (.int .i64 y) ∧ w'.cell? ⟨2, m, none⟩ = some (.string (bytesOf T3)) ∧ D < w'.heap.size ∧ TX w0 (some ad) L w') (first | exact hS2.out | assumption)
    (first
      | (go_at_call 77; with_reducible refine (HPA.out _ _ _ _ (by assumption)).mono ?_; rintro e w6 ⟨rfl, hs6⟩)
      | (go_at_call 77; with_reducible refine (HPB.out _ _ _ _ (by assumption)).mono ?_; rintro e w7 ⟨rfl, hs7⟩))
  go_wp2
  go_ret
  exact ⟨rfl, by first | exact hs7.2.2.2.2.2 | exact hs6.2.2.2.2.2⟩

theorem text_all (A : Option Addr) (L : List Nd) (c n : Nat) (hn : L.length = n) (hL : n ≤ 60) : ∀ (t : Tr), t.ok = true → t.big → ∀ j, Sub L j t → TC A L c n t j 50 t.wr ∧ TC A L c n t j 77 t.pt := by
  intro t
  induction t with
  | leaf k m p =>
    intro ht hb j hs
    have h1 := text_leaf A L c n hn hL k m p j hs ht hb
    have ht' := ht
    simp only [Tr.ok, Bool.and_eq_true, decide_eq_true_eq] at ht'
    refine ⟨h1, part_of A L c n hn hL _ j ⟨k, m, 0, 0, p⟩ (hs.leafAt ht'.1.2) (Tr.fits_okK (k := k) ht'.1.1 (by omega)) ?_ (Tr.wr_len _ ht hb).1 (by rw [← hn]; exact hs.len) h1⟩
    simp [Tr.isLeaf, cnt, ht'.1.2]
  | un k p a ih =>
    intro ht hb j hs
    have ht' := ht
    simp only [Tr.ok, Bool.and_eq_true, decide_eq_true_eq] at ht'
    obtain ⟨h2, hx⟩ := hs.unAt ht'.1.1
    have h1 := text_un A L c n hn hL k p a j hs ht'.1.1 (Tr.wr_len a ht'.2 hb).2 (ih ht'.2 hb j h2).2
    refine ⟨h1, part_of A L c n hn hL _ j _ (by rw [show j + (Tr.un k p a).sz - 1 = j + a.sz by simp only [Tr.sz]; omega]; exact hx) (Tr.fits_okK (k := k) (by omega) (by omega)) ?_ (Tr.wr_len _ ht hb).1 (by rw [← hn]; exact hs.len) h1⟩
    have : cnt k = 1 := by unfold cnt; rw [if_neg (by omega), if_pos (by omega)]
    simp [Tr.isLeaf, this]
  | bin k p a b iha ihb =>
    intro ht hb j hs
    have ht' := ht
    simp only [Tr.ok, Bool.and_eq_true, decide_eq_true_eq] at ht'
    obtain ⟨⟨⟨⟨hk1, hk2⟩, _⟩, hta⟩, htb⟩ := ht'
    obtain ⟨h2, h3, hx⟩ := hs.binAt hk1
    obtain ⟨m, hm⟩ : ∃ m : Nat, k = 7 + (m : Int) := ⟨(k - 7).toNat, by omega⟩
    subst hm
    have h1 := text_bin A L c n hn hL m (by omega) p a b j hs (Tr.wr_len a hta hb.1).2 (Tr.wr_len b htb hb.2).2 (iha hta hb.1 j h2).2 (ihb htb hb.2 _ h3).2
    refine ⟨h1, part_of A L c n hn hL _ j _ (by rw [show j + (Tr.bin (7 + (m : Int)) p a b).sz - 1 = j + (a.sz + b.sz) by simp only [Tr.sz]; omega]; exact hx) (Tr.fits_okK (k := 7 + (m : Int)) (by omega) (by omega)) ?_ (Tr.wr_len _ ht hb).1 (by rw [← hn]; exact hs.len) h1⟩
    have : cnt (7 + (m : Int)) = 2 := by unfold cnt; rw [if_neg (by omega), if_neg (by omega)]
    simp [Tr.isLeaf, this]

theorem textF_ok (A : Option Addr) (c n : Nat) (t : Tr) (w : World) (hn : t.sz = n) (ht : Lies w A (ndCells t.flat)) (hok : t.ok = true) (her : t.er = 0) (hb : t.big) (t5 : Tab5 w) (hp : Pow w) :
    Calls Tryz.prog 24 #[.slice A n c] w fun e w' => e = .returned (.tuple #[.string (bytesOf t.wr), .int .i64 0]) ∧ Below w.heap.size w w' := by
  have h60 := (Tr.er_zero.1 her).1
  have h1 := t.sz_pos
  have HC := Lib.hid (N4.check_any A c t.flat w (by rw [t.flat_length]; unfold maxLen; omega) ht 0 ((t.check_flat hok).trans her))
  rw [t.flat_length] at HC
  have HT := Lib.hid (fun (W : World) (hb' : Below w.heap.size w W) => (text_all A t.flat c n (by rw [t.flat_length, hn]) (by omega) t hok hb 0 (Sub.whole t)).1 w W ⟨hb', ht.below hb', t5.stays hb', hp.stays hb'⟩)
  rw [show ((0 : Nat) : Int) + (t.sz : Int) - 1 = (n : Int) - 1 by omega] at HT
  rw [hn] at HC h60 h1
  generalize t.wr = T at HT
  clear ht hok her hb t5 hp hn
  go_enter Tryz.func24, Tryz.ntmps24
  go_wp2_with (first
    | (go_at_call 49; refine HC.out.mono ?_; rintro e w2 ⟨rfl, hb⟩; have HB := Lib.hid hb; clear hb)
    | (go_at_call 50; refine (HT.out _ HB.out).mono ?_; rintro e w3 ⟨rfl, hb⟩; have HB3 := Lib.hid hb.1; clear hb))
  go_ret2
  exact ⟨rfl, HB3.out⟩
theorem textF_bad (A : Option Addr) (c n : Nat) (L : List Nd) (w : World) (hn : L.length = n) (hL : n ≤ maxLen) (ht : Lies w A (ndCells L)) (v : Int) (hv : checkF L = v) (h0 : v ≠ 0) :
    Calls Tryz.prog 24 #[.slice A n c] w fun e w' => e = .returned (.tuple #[.string ⟨#[]⟩, .int .i64 v]) ∧ Below w.heap.size w w' := by
  subst hn
  have HC := Lib.hid (N4.check_any A c L w hL ht v hv)
  have hvb := errno_ne h0
  generalize L.length = n at HC hL
  clear ht hv h0
  go_enter Tryz.func24, Tryz.ntmps24
  go_wp2_with (go_at_call 49; refine HC.out.mono ?_; rintro e w2 ⟨rfl, hb⟩; have HB := Lib.hid hb; clear hb)
  go_ret2
  exact ⟨rfl, HB.out⟩
end Go.Proofs.YtlmamidodahgmaaGreatDoor

/- EOpen: What an argument that is a slice of nodes reads as: numbers fit. -/
namespace Go.Proofs.YtlmamidodahgmaaGreatDoor.N4
open Go.ChangeShapes Go.WideShapes Go.ChangeAt Go.RowKit Go.Deep
set_option linter.unusedVariables false
set_option linter.unusedSimpArgs false

section
variable {H : Type} {enc : TypeId × Value → H} {W : World} {sp : Nat → Bool} {held : Bool}
theorem i64_hi {n : Int} (h : (Lit.int .i64 n).wf = true) : n ≤ 9223372036854775807 := by
  simp [Lit.wf, IntKind.wrap, IntKind.bits, IntKind.signed] at h
  omega
set_option maxRecDepth 100000 in
theorem open_nd5 {n : Nat} {cs : List Value} {x : DataW H × List MemPlace} (h : DataW.trod enc Tryz.prog W 0 sp held n 58 cs = some x) : ∃ x : Nd, cs = ndC x ∧ x.n ≤ 9223372036854775807 := by
  obtain ⟨xs, n', _, _, hlen, hxl, hf⟩ := DataW.trod_struct Tryz.underlying58 h
  rw [nd_cells] at hlen
  match cs, hlen with
  | [c0, c1, c2, c3, c4], _ =>
    have h0 : DataW.trod enc Tryz.prog W 0 sp held n' 5 (([c0, c1, c2, c3, c4].drop 0).take (Tryz.prog.cellsOf 5)) = xs[0]? := hf 0 _ rfl
    have h1 : DataW.trod enc Tryz.prog W 0 sp held n' 2 (([c0, c1, c2, c3, c4].drop 1).take (Tryz.prog.cellsOf 2)) = xs[1]? := hf 1 _ rfl
    have h2 : DataW.trod enc Tryz.prog W 0 sp held n' 3 (([c0, c1, c2, c3, c4].drop 2).take (Tryz.prog.cellsOf 3)) = xs[2]? := hf 2 _ rfl
    have h3 : DataW.trod enc Tryz.prog W 0 sp held n' 3 (([c0, c1, c2, c3, c4].drop 3).take (Tryz.prog.cellsOf 3)) = xs[3]? := hf 3 _ rfl
    have h4 : DataW.trod enc Tryz.prog W 0 sp held n' 3 (([c0, c1, c2, c3, c4].drop 4).take (Tryz.prog.cellsOf 3)) = xs[4]? := hf 4 _ rfl
    simp only [u8_cells, i64_cells, int_cells, List.drop_zero, List.drop_succ_cons, List.take_succ_cons, List.take_zero] at h0 h1 h2 h3 h4
    match xs, hxl with
    | [y0, y1, y2, y3, y4], _ =>
      obtain ⟨k, e0, _⟩ := DataW.trod_int Tryz.underlying5 h0
      obtain ⟨n, e1, _, w1⟩ := DataW.trod_int Tryz.underlying2 h1
      obtain ⟨a, e2, _⟩ := DataW.trod_int Tryz.underlying3 h2
      obtain ⟨b, e3, _⟩ := DataW.trod_int Tryz.underlying3 h3
      obtain ⟨p, e4, _⟩ := DataW.trod_int Tryz.underlying3 h4
      simp only [List.cons.injEq, and_true] at e0 e1 e2 e3 e4
      subst e0 e1 e2 e3 e4
      exact ⟨⟨k, n, a, b, p⟩, rfl, i64_hi w1⟩
theorem nds_of5 (a : Addr) (len : Nat) (hi : ∀ i, i < len → ∃ x : Nd, x.n ≤ 9223372036854775807 ∧ ∀ j u, (ndC x)[j]? = some u → W.cell? (a.add (i * 5 + j)) = some u) :
    ∃ L : List Nd, L.length = len ∧ Lies W (some a) (ndCells L) ∧ ∀ x ∈ L, x.n ≤ 9223372036854775807 := by
  have key : ∀ m, m ≤ len → ∃ L : List Nd, L.length = m ∧ (∀ j u, (ndCells L)[j]? = some u → W.cell? (a.add j) = some u) ∧ ∀ x ∈ L, x.n ≤ 9223372036854775807 := by
    intro m
    induction m with
    | zero => intro _; exact ⟨[], rfl, by intro j u h; simp [ndCells] at h, by simp⟩
    | succ m ih =>
      intro hm
      obtain ⟨L, hL, hc, hb⟩ := ih (by omega)
      obtain ⟨x, hxb, hx⟩ := hi m (by omega)
      refine ⟨L ++ [x], by simp [hL], ?_, fun z hz => by rcases List.mem_append.1 hz with hz | hz; exact hb z hz; simp only [List.mem_singleton] at hz; subst hz; exact hxb⟩
      intro j u h
      rw [ndCells_snoc] at h
      have hl := ndCells_length L
      rw [hL] at hl
      rcases Nat.lt_or_ge j (m * 5) with hj | hj
      · rw [List.getElem?_append_left (by omega)] at h
        exact hc j u h
      · rw [List.getElem?_append_right (by omega), hl] at h
        have := hx _ _ h
        rwa [show m * 5 + (j - m * 5) = j by omega] at this
  obtain ⟨L, hL, hc, hbb⟩ := key len (Nat.le_refl _)
  refine ⟨L, hL, ?_, hbb⟩
  rcases Nat.eq_zero_or_pos len with h0 | h0
  · exact .inl (by rw [List.eq_nil_of_length_eq_zero (show L.length = 0 by omega)]; rfl)
  · obtain ⟨x, _, hx⟩ := hi 0 h0
    have c0 := hx 0 (.int .u8 x.k) rfl
    refine .inr ⟨a, rfl, ?_, hc⟩
    have := cell_lt c0
    rwa [add_block] at this
set_option maxRecDepth 100000 in
theorem open_nds5 {r : Reach} {b0 : Nat} {v : Value} {d : DataW H} {ps : List MemPlace} (hval : Value.okWide Tryz.prog W r b0 22 v) (hd : DataW.Trod enc Tryz.prog W 0 (fun _ => true) held 22 v d ps) :
    ∃ (A : Option Addr) (c : Nat) (L : List Nd), v = .slice A L.length c ∧ L.length ≤ maxLen ∧ Lies W A (ndCells L) ∧ L.length ≤ c ∧ ((A = none ∧ c = 0 ∧ L = []) ∨ ∃ ad, A = some ad) ∧ ∀ x ∈ L, x.n ≤ 9223372036854775807 := by
  obtain ⟨A, n, c, rfl⟩ := okWide_slice Tryz.underlying22 hval
  obtain ⟨fuel, hf⟩ := hd
  rcases open_slice Tryz.underlying22 hf with ⟨hc, _⟩ | ⟨a, len, cap, m, nn, D, Pl, hc, hb, hl, hm, hmm, hx, hi⟩
  · simp [Value.cells] at hc
    obtain ⟨rfl, rfl, rfl⟩ := hc
    exact ⟨none, 0, [], rfl, Nat.zero_le _, .inl rfl, Nat.le_refl _, .inl ⟨rfl, rfl, rfl⟩, by simp⟩
  · simp [Value.cells] at hc
    obtain ⟨rfl, rfl, rfl⟩ := hc
    simp only [if_true] at hmm
    subst hmm
    obtain ⟨L, hL, ht, hbb⟩ := nds_of5 (W := W) a n (fun i hin => by
      obtain ⟨cs, hcs, htr⟩ := hi i (by omega)
      rw [nd_cells] at hcs
      obtain ⟨x, rfl, hxb⟩ := open_nd5 htr
      obtain ⟨_, _, hat⟩ := World.cells?_some hcs
      refine ⟨x, hxb, fun j u hu => ?_⟩
      have hj : j < 5 := (List.getElem?_eq_some_iff.1 hu).1
      have := hat j hj
      rw [add_add'] at this
      rw [this]; exact hu)
    exact ⟨some a, m, L, by rw [hL], by omega, ht, by omega, .inr ⟨a, rfl⟩, hbb⟩
end
end Go.Proofs.YtlmamidodahgmaaGreatDoor.N4
