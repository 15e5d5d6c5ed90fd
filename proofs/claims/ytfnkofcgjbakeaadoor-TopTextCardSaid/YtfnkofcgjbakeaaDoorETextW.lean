
/- The contract of Text. -/
import Derived.Test.YtfnkofcgjbakeaaDoorEText
namespace Go.Proofs.YtfnkofcgjbakeaaDoor
open Go.ChangeShapes Go.WideShapes Go.ChangeAt Go.RowKit N4
set_option linter.unusedVariables false
set_option maxRecDepth 100000

theorem bytes_app (l m : List UInt8) : bytesOf l ++ bytesOf m = bytesOf (l ++ m) := by
  apply ByteArray.ext
  simp [bytesOf, ByteArray.data_append]
theorem ret_s {a b : ByteArray} (h : a = b) : Ending.returned (.string a) = .returned (.string b) := by rw [h]
theorem br_bytes (T : List UInt8) : ((⟨#[40]⟩ : ByteArray) ++ bytesOf T) ++ ⟨#[41]⟩ = bytesOf (40 :: (T ++ [41])) := by
  apply ByteArray.ext
  simp [bytesOf, ByteArray.data_append]
def TX (w0 : World) (A : Option Addr) (L : List Nd) (w : World) : Prop := Below w0.heap.size w0 w ∧ Lies w A (ndCells L) ∧ Tab5 w ∧ Pow w
theorem TX.step {w0 w w' : World} {A : Option Addr} {L : List Nd} (h : TX w0 A L w) (hb : Below w.heap.size w w') : TX w0 A L w' := ⟨h.1.trans (hb.mono h.1.size), h.2.1.below hb, h.2.2.1.stays hb, h.2.2.2.stays hb⟩
def TC (A : Option Addr) (L : List Nd) (c n : Nat) (t : Tr) (j : Nat) (f : Nat) (T : List UInt8) : Prop :=
  ∀ (w0 w : World), TX w0 A L w → Calls Tryd.prog f #[.slice A n c, .int .i64 ((j : Int) + t.sz - 1)] w fun e w' => e = .returned (.string (bytesOf T)) ∧ TX w0 A L w'
theorem nd_at {w0 w : World} {A : Option Addr} {L : List Nd} (h : TX w0 A L w) {i : Nat} {x : Nd} (hx : L[i]? = some x) : ∃ ad, A = some ad ∧ ad.block < w.heap.size ∧ NdAt w ad i x := Lies.nd h.2.1 hx

set_option maxHeartbeats 1000000 in
theorem text_leaf (A : Option Addr) (L : List Nd) (c n : Nat) (hn : L.length = n) (hL : n ≤ 60) (k m p : Int) (j : Nat) (hs : Sub L j (.leaf k m p)) (ht : (Tr.leaf k m p).ok = true) (hb : (Tr.leaf k m p).big) : TC A L c n (.leaf k m p) j 57 (Tr.leaf k m p).wr := by
  intro w0 w h
  simp only [Tr.ok, Bool.and_eq_true, decide_eq_true_eq] at ht
  have hf := ht.2
  simp only [fitsF, Bool.and_eq_true, Bool.or_eq_true, decide_eq_true_eq] at hf
  have hlen := hs.len
  have hx := hs.leafAt ht.1.2
  obtain ⟨ad, rfl, had, hc0, hc1, hc2, hc3, hc4⟩ := nd_at h hx
  have H := Lib.hid h
  have HIT := Lib.hid (fun (W : World) (hW : TX w0 (some ad) L W) => itext_any m W (by omega) hb hW.2.2.2)
  simp only [Tr.sz] at hlen ⊢
  rw [show (j : Int) + ((1 : Nat) : Int) - 1 = j by omega]
  have hj : j < n := by omega
  have HT := Lib.hid h.2.2.1
  have hlt0 := h.2.2.1.2.lt
  have hk : k = 1 ∨ k = 2 ∨ k = 3 ∨ k = 4 := by omega
  clear hs hf hx h hlen ht hb hn
  rcases hk with rfl | rfl | rfl | rfl
  · show Calls _ _ _ _ fun e w' => e = .returned (.string (bytesOf (numT m))) ∧ _
    go_enter Tryd.func57, Tryd.ntmps57
    go_wp2_with (go_at_call 74; refine (HIT.out _ (H.out.step ((Below.refl _ _).alloc (Nat.le_refl _) _))).mono ?_; rintro e w2 ⟨rfl, hb⟩; have HB := Lib.hid hb; clear hb)
    go_ret
    exact ⟨rfl, (H.out.step ((Below.refl _ _).alloc (Nat.le_refl _) _)).step HB.out⟩
  · have hcell := HT.out.2.cellAt (i := 2 - 2) (s := fldB (2 - 2)) rfl
    show Calls _ _ _ _ fun e w' => e = .returned (.string (bytesOf (fldB (2 - 2)))) ∧ _
    generalize fldB (2 - 2) = fb at hcell
    go_enter Tryd.func57, Tryd.ntmps57
    go_wp2
    go_ret
    exact ⟨rfl, H.out.step ((Below.refl _ _).alloc (Nat.le_refl _) _)⟩
  · have hcell := HT.out.2.cellAt (i := 3 - 2) (s := fldB (3 - 2)) rfl
    show Calls _ _ _ _ fun e w' => e = .returned (.string (bytesOf (fldB (3 - 2)))) ∧ _
    generalize fldB (3 - 2) = fb at hcell
    go_enter Tryd.func57, Tryd.ntmps57
    go_wp2
    go_ret
    exact ⟨rfl, H.out.step ((Below.refl _ _).alloc (Nat.le_refl _) _)⟩
  · have hcell := HT.out.2.cellAt (i := 4 - 2) (s := fldB (4 - 2)) rfl
    show Calls _ _ _ _ fun e w' => e = .returned (.string (bytesOf (fldB (4 - 2)))) ∧ _
    generalize fldB (4 - 2) = fb at hcell
    go_enter Tryd.func57, Tryd.ntmps57
    go_wp2
    go_ret
    exact ⟨rfl, H.out.step ((Below.refl _ _).alloc (Nat.le_refl _) _)⟩

set_option maxHeartbeats 1000000 in
theorem text_un (A : Option Addr) (L : List Nd) (c n : Nat) (hn : L.length = n) (hL : n ≤ 60) (k p : Int) (a : Tr) (j : Nat) (hs : Sub L j (.un k p a)) (hk : 5 ≤ k ∧ k ≤ 6) (hl : a.pt.length ≤ 40 * a.sz + 2) (HP : TC A L c n a j 75 a.pt) : TC A L c n (.un k p a) j 57 (Tr.un k p a).wr := by
  intro w0 w h
  have hlen := hs.len
  have hx := (hs.unAt hk).2
  obtain ⟨ad, rfl, had, hc0, hc1, hc2, hc3, hc4⟩ := nd_at h hx
  have H := Lib.hid h
  have HPT := Lib.hid (fun (W : World) (hW : TX w0 (some ad) L W) => HP w0 W hW)
  simp only [Tr.sz] at hlen ⊢
  rw [show (j : Int) + ((a.sz + 1 : Nat) : Int) - 1 = ((j + a.sz : Nat) : Int) by omega]
  have hj : j + a.sz < n := by omega
  have hlb : (bytesOf a.pt).size ≤ 3000 := by rw [bytesOf_size]; omega
  have hwr := Tr.wr_un k p a
  generalize (j : Int) + a.sz - 1 = z at HPT hc2
  generalize j + a.sz = i at hc0 hc1 hc2 hc3 hc4 hj
  rw [hwr]
  generalize a.pt = T at HPT hlb
  clear hs hx h hlen hn HP hl hwr
  have hk' : k = 5 ∨ k = 6 := by omega
  clear hk
  rcases hk' with rfl | rfl
  · show Calls _ _ _ _ fun e w' => e = .returned (.string (bytesOf ([45, 32] ++ T))) ∧ _
    go_enter Tryd.func57, Tryd.ntmps57
    go_wp2_with (go_at_call 75; refine (HPT.out _ (H.out.step ((Below.refl _ _).alloc (Nat.le_refl _) _))).mono ?_; rintro e w2 ⟨rfl, hb⟩; have HB := Lib.hid hb; clear hb)
    go_ret
    exact ⟨ret_s (bytes_app [45, 32] T), HB.out⟩
  · show Calls _ _ _ _ fun e w' => e = .returned (.string (bytesOf ([110, 111, 116, 32] ++ T))) ∧ _
    go_enter Tryd.func57, Tryd.ntmps57
    go_wp2_with (go_at_call 75; refine (HPT.out _ (H.out.step ((Below.refl _ _).alloc (Nat.le_refl _) _))).mono ?_; rintro e w2 ⟨rfl, hb⟩; have HB := Lib.hid hb; clear hb)
    go_ret
    exact ⟨ret_s (bytes_app [110, 111, 116, 32] T), HB.out⟩

set_option maxHeartbeats 1000000 in
theorem part_of (A : Option Addr) (L : List Nd) (c n : Nat) (hn : L.length = n) (hL : n ≤ 60) (t : Tr) (j : Nat) (x : Nd) (hx : L[j + t.sz - 1]? = some x) (hok : okK x.k = true) (hlf : (cnt x.k = 0 ↔ t.isLeaf = true)) (hl : t.wr.length ≤ 40 * t.sz) (hsz : j + t.sz ≤ n) (HP : TC A L c n t j 57 t.wr) : TC A L c n t j 75 t.pt := by
  intro w0 w h
  obtain ⟨ad, rfl, had, hc0, hc1, hc2, hc3, hc4⟩ := nd_at h hx
  have H := Lib.hid h
  have HPT := Lib.hid (fun (W : World) (hW : TX w0 (some ad) L W) => HP w0 W hW)
  have hp := t.sz_pos
  have e1 : (j : Int) + (t.sz : Int) - 1 = ((j + t.sz - 1 : Nat) : Int) := by omega
  rw [e1] at HPT ⊢
  have hj : j + t.sz - 1 < n := by omega
  have hlb : (bytesOf t.wr).size ≤ 3000 := by rw [bytesOf_size]; omega
  have HPA := Lib.hid (fun W => parts_any x.k W)
  rw [show partsN x.k = cnt x.k by unfold partsN; rw [if_pos hok], show partsE x.k = 0 by simp [partsE, hok]] at HPA
  generalize j + t.sz - 1 = i at HPT hc0 hc1 hc2 hc3 hc4 hj
  obtain ⟨xk, xn, xa, xb, xp⟩ := x
  simp only at hc0 hlf HPA hok
  cases hL' : t.isLeaf with
  | true =>
    have hz := hlf.2 hL'
    rw [hz] at HPA
    rw [Tr.pt_leaf hL']
    generalize t.wr = T at HPT hlb
    clear hx h hn HP hl hlf hL' hz hp e1 hsz hok
    go_enter Tryd.func75, Tryd.ntmps75
    go_wp2_with (first
      | (go_at_call 26; refine (HPA.out _).mono ?_; rintro e w2 ⟨rfl, rfl⟩)
      | (go_at_call 57; refine (HPT.out _ H.out).mono ?_; rintro e w2 ⟨rfl, hb⟩; have HB := Lib.hid hb; clear hb))
    go_ret
    exact ⟨rfl, HB.out⟩
  | false =>
    have hz : ¬ cnt xk = 0 := fun e => by rw [hlf.1 e] at hL'; cases hL'
    rw [Tr.pt_no hL']
    generalize t.wr = T at HPT hlb
    generalize cnt xk = q at HPA hz
    clear hx h hn HP hl hlf hL' hp e1 hsz hok
    go_enter Tryd.func75, Tryd.ntmps75
    go_wp2_with (first
      | (go_at_call 26; refine (HPA.out _).mono ?_; rintro e w2 ⟨rfl, rfl⟩)
      | (go_at_call 57; refine (HPT.out _ H.out).mono ?_; rintro e w2 ⟨rfl, hb⟩; have HB := Lib.hid hb; clear hb))
    go_ret
    exact ⟨ret_s (br_bytes T), HB.out⟩
end Go.Proofs.YtfnkofcgjbakeaaDoor
