/- The contract of the reference's Written. -/
import Derived.Test.YtfnkofcgjbakeaaDoorTText
import Derived.Deep.RegionHeld3
namespace Go.Proofs.YtfnkofcgjbakeaaDoor.T6
open Go.ChangeShapes Go.WideShapes Go.ChangeAt Go.RowKit N4
set_option linter.unusedVariables false
set_option linter.unusedSimpArgs false
set_option maxRecDepth 100000

def RX (w0 : World) (A : Option Addr) (L : List Nd) (w : World) : Prop := Below w0.heap.size w0 w ∧ Lies w A (ndCells L)
theorem RX.step {w0 w w' : World} {A : Option Addr} {L : List Nd} (h : RX w0 A L w) (hb : Below w.heap.size w w') : RX w0 A L w' := ⟨h.1.trans (hb.mono h.1.size), h.2.below hb⟩
def RC (A : Option Addr) (L : List Nd) (c n : Nat) (t : Tr) (j : Nat) (f : Nat) (T : List UInt8) : Prop :=
  ∀ (w0 w : World), RX w0 A L w → Calls Tryd.prog f #[.slice A n c, .int .i64 ((j : Int) + t.sz - 1)] w fun e w' => e = .returned (.string (bytesOf T)) ∧ RX w0 A L w'
theorem rnd_at {w0 w : World} {A : Option Addr} {L : List Nd} (h : RX w0 A L w) {i : Nat} {x : Nd} (hx : L[i]? = some x) : ∃ ad, A = some ad ∧ ad.block < w.heap.size ∧ NdAt w ad i x := Lies.nd h.2 hx
theorem rops_tab (w : World) : Calls Tryd.prog 60 #[] w fun e w' => e = .returned (.slice (some ⟨w.heap.size, 0, none⟩) 13 13) ∧ Tab w' w.heap.size opT ∧ Below w.heap.size w w' := by
  have h : Calls Tryd.prog 60 #[] w fun e w' => e = .returned (.slice (some ⟨w.heap.size, 0, none⟩) 13 13) ∧ w.alloc (.cells (strsOf opT) 9) = w' := by
    go_enter Tryd.func60, Tryd.ntmps60
    go_wp2
    go_ret
    exact ⟨rfl, rfl⟩
  refine h.mono ?_
  rintro e w' ⟨rfl, rfl⟩
  exact ⟨rfl, ⟨_, _, heap_alloc_new w _⟩, (Below.refl _ _).alloc (Nat.le_refl _) _⟩

set_option maxHeartbeats 1000000 in
theorem wr_leaf (A : Option Addr) (L : List Nd) (c n : Nat) (hn : L.length = n) (hL : n ≤ 60) (k m p : Int) (j : Nat) (hs : Sub L j (.leaf k m p)) (ht : (Tr.leaf k m p).ok = true) (hb : (Tr.leaf k m p).big) : RC A L c n (.leaf k m p) j 35 (Tr.leaf k m p).wr := by
  intro w0 w h
  simp only [Tr.ok, Bool.and_eq_true, decide_eq_true_eq] at ht
  have hf := ht.2
  simp only [fitsF, Bool.and_eq_true, Bool.or_eq_true, decide_eq_true_eq] at hf
  have hlen := hs.len
  have hx := hs.leafAt ht.1.2
  obtain ⟨ad, rfl, had, hc0, hc1, hc2, hc3, hc4⟩ := rnd_at h hx
  have H := Lib.hid h
  have HLF := Lib.hid (fun (W : World) => rleaf_any k m 0 0 p W ⟨by omega, by omega⟩ (by omega) hb)
  have HCN := Lib.hid (fun W => show Calls Tryd.prog 39 #[.int .u8 k] W fun e w' => e = .returned (.int .i64 0) ∧ W = w' by have := count_any k W; rwa [show cnt k = 0 by unfold cnt; rw [if_pos ht.1.2]] at this)
  simp only [Tr.sz] at hlen ⊢
  rw [show (j : Int) + ((1 : Nat) : Int) - 1 = j by omega]
  have hj : j < n := by omega
  clear hs hf hx h hlen ht hb hn
  show Calls _ _ _ _ fun e w' => e = .returned (.string (bytesOf (leafT k m))) ∧ _
  go_enter Tryd.func35, Tryd.ntmps35
  go_wp2_with (first
    | (go_at_call 39; refine (HCN.out _).mono ?_; rintro e w' ⟨rfl, rfl⟩)
    | (go_at_call 58; refine (HLF.out _).mono ?_; rintro e w2 ⟨rfl, hb⟩; have HB := Lib.hid hb; clear hb))
  go_ret
  exact ⟨rfl, (H.out.step ((Below.refl _ _).alloc (Nat.le_refl _) _)).step HB.out⟩

set_option maxHeartbeats 1000000 in
theorem wr_un (A : Option Addr) (L : List Nd) (c n : Nat) (hn : L.length = n) (hL : n ≤ 60) (k p : Int) (a : Tr) (j : Nat) (hs : Sub L j (.un k p a)) (hk : 5 ≤ k ∧ k ≤ 6) (hl : a.pt.length ≤ 40 * a.sz + 2) (HP : RC A L c n a j 59 a.pt) : RC A L c n (.un k p a) j 35 (Tr.un k p a).wr := by
  intro w0 w h
  have hlen := hs.len
  have hx := (hs.unAt hk).2
  obtain ⟨ad, rfl, had, hc0, hc1, hc2, hc3, hc4⟩ := rnd_at h hx
  have H := Lib.hid h
  have HPT := Lib.hid (fun (W : World) (hW : RX w0 (some ad) L W) => HP w0 W hW)
  have HCN := Lib.hid (fun W => show Calls Tryd.prog 39 #[.int .u8 k] W fun e w' => e = .returned (.int .i64 1) ∧ W = w' by have := count_any k W; rwa [show cnt k = 1 by unfold cnt; rw [if_neg (by omega), if_pos (by omega)]] at this)
  simp only [Tr.sz] at hlen ⊢
  rw [show (j : Int) + ((a.sz + 1 : Nat) : Int) - 1 = ((j + a.sz : Nat) : Int) by omega]
  have hj : j + a.sz < n := by omega
  have hlb : (bytesOf a.pt).size ≤ 3000 := by rw [bytesOf_size]; omega
  have hwr := Tr.wr_un k p a
  generalize (j : Int) + a.sz - 1 = z at HPT hc2
  generalize j + a.sz = i at hc0 hc1 hc2 hc3 hc4 hj
  rw [hwr]
  generalize a.pt = T at HPT hlb
  clear hs hx h hlen hn HP hl hwr
  have hk' : k = 5 ∨ k = 6 := by omega
  clear hk
  rcases hk' with rfl | rfl
  · show Calls _ _ _ _ fun e w' => e = .returned (.string (bytesOf ([45, 32] ++ T))) ∧ _
    go_enter Tryd.func35, Tryd.ntmps35
    go_wp2_with (first
      | (go_at_call 39; refine (HCN.out _).mono ?_; rintro e w' ⟨rfl, rfl⟩)
      | (go_at_call 59; refine (HPT.out _ (H.out.step ((Below.refl _ _).alloc (Nat.le_refl _) _))).mono ?_; rintro e w2 ⟨rfl, hb⟩; have HB := Lib.hid hb; clear hb))
    go_ret
    exact ⟨ret_s (bytes_app [45, 32] T), HB.out⟩
  · show Calls _ _ _ _ fun e w' => e = .returned (.string (bytesOf ([110, 111, 116, 32] ++ T))) ∧ _
    go_enter Tryd.func35, Tryd.ntmps35
    go_wp2_with (first
      | (go_at_call 39; refine (HCN.out _).mono ?_; rintro e w' ⟨rfl, rfl⟩)
      | (go_at_call 59; refine (HPT.out _ (H.out.step ((Below.refl _ _).alloc (Nat.le_refl _) _))).mono ?_; rintro e w2 ⟨rfl, hb⟩; have HB := Lib.hid hb; clear hb))
    go_ret
    exact ⟨ret_s (bytes_app [110, 111, 116, 32] T), HB.out⟩

set_option maxHeartbeats 1000000 in
theorem rpart_leaf (A : Option Addr) (L : List Nd) (c n : Nat) (hn : L.length = n) (hL : n ≤ 60) (k m p : Int) (j : Nat) (hs : Sub L j (.leaf k m p)) (ht : (Tr.leaf k m p).ok = true) (hb : (Tr.leaf k m p).big) : RC A L c n (.leaf k m p) j 59 (Tr.leaf k m p).pt := by
  intro w0 w h
  simp only [Tr.ok, Bool.and_eq_true, decide_eq_true_eq] at ht
  have hf := ht.2
  simp only [fitsF, Bool.and_eq_true, Bool.or_eq_true, decide_eq_true_eq] at hf
  have hlen := hs.len
  have hx := hs.leafAt ht.1.2
  obtain ⟨ad, rfl, had, hc0, hc1, hc2, hc3, hc4⟩ := rnd_at h hx
  have H := Lib.hid h
  have HLF := Lib.hid (fun (W : World) => rleaf_any k m 0 0 p W ⟨by omega, by omega⟩ (by omega) hb)
  have HCN := Lib.hid (fun W => show Calls Tryd.prog 39 #[.int .u8 k] W fun e w' => e = .returned (.int .i64 0) ∧ W = w' by have := count_any k W; rwa [show cnt k = 0 by unfold cnt; rw [if_pos ht.1.2]] at this)
  simp only [Tr.sz] at hlen ⊢
  rw [show (j : Int) + ((1 : Nat) : Int) - 1 = j by omega]
  have hj : j < n := by omega
  clear hs hf hx h hlen ht hb hn
  show Calls _ _ _ _ fun e w' => e = .returned (.string (bytesOf (leafT k m))) ∧ _
  go_enter Tryd.func59, Tryd.ntmps59
  go_wp2_with (first
    | (go_at_call 39; refine (HCN.out _).mono ?_; rintro e w' ⟨rfl, rfl⟩)
    | (go_at_call 58; refine (HLF.out _).mono ?_; rintro e w2 ⟨rfl, hb⟩; have HB := Lib.hid hb; clear hb))
  go_ret
  exact ⟨rfl, H.out.step HB.out⟩
set_option maxHeartbeats 1000000 in
theorem rpart_of (A : Option Addr) (L : List Nd) (c n : Nat) (hn : L.length = n) (hL : n ≤ 60) (t : Tr) (j : Nat) (x : Nd) (hx : L[j + t.sz - 1]? = some x) (hc : cnt x.k ≠ 0) (hlf : t.isLeaf = false) (hl : t.wr.length ≤ 40 * t.sz) (hsz : j + t.sz ≤ n) (HP : RC A L c n t j 35 t.wr) : RC A L c n t j 59 t.pt := by
  intro w0 w h
  obtain ⟨ad, rfl, had, hc0, hc1, hc2, hc3, hc4⟩ := rnd_at h hx
  have H := Lib.hid h
  have HPT := Lib.hid (fun (W : World) (hW : RX w0 (some ad) L W) => HP w0 W hW)
  have hp := t.sz_pos
  have e1 : (j : Int) + (t.sz : Int) - 1 = ((j + t.sz - 1 : Nat) : Int) := by omega
  rw [e1] at HPT ⊢
  have hj : j + t.sz - 1 < n := by omega
  have hlb : (bytesOf t.wr).size ≤ 3000 := by rw [bytesOf_size]; omega
  have HPA := Lib.hid (fun W => count_any x.k W)
  generalize j + t.sz - 1 = i at HPT hc0 hc1 hc2 hc3 hc4 hj
  obtain ⟨xk, xn, xa, xb, xp⟩ := x
  simp only at hc0 hc HPA
  rw [Tr.pt_no hlf]
  generalize t.wr = T at HPT hlb
  generalize cnt xk = z at HPA hc
  clear hx h hn HP hl hlf hp e1 hsz
  go_enter Tryd.func59, Tryd.ntmps59
  go_wp2_with (first
    | (go_at_call 39; refine (HPA.out _).mono ?_; rintro e w2 ⟨rfl, rfl⟩)
    | (go_at_call 35; refine (HPT.out _ H.out).mono ?_; rintro e w2 ⟨rfl, hb⟩; have HB := Lib.hid hb; clear hb))
  go_ret
  exact ⟨ret_s (br_bytes T), HB.out⟩
end Go.Proofs.YtfnkofcgjbakeaaDoor.T6
