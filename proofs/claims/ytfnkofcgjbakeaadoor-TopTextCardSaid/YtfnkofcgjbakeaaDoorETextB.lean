
/- The contract of Text: binary kinds, and all. -/
import Derived.Test.YtfnkofcgjbakeaaDoorETextW
import Derived.Test.YtfnkofcgjbakeaaDoorEOp
namespace Go.Proofs.YtfnkofcgjbakeaaDoor
open Go.ChangeShapes Go.WideShapes Go.ChangeAt Go.RowKit N4
set_option linter.unusedVariables false
set_option maxRecDepth 100000

def SB (w0 : World) (A : Option Addr) (L : List Nd) (D m : Nat) (a b : Int) (w : World) : Prop :=
  w.cell? ⟨D, 0, none⟩ = some (.int .u8 (7 + (m : Int))) ∧ w.cell? ⟨D, 2, none⟩ = some (.int .i64 a) ∧ w.cell? ⟨D, 3, none⟩ = some (.int .i64 b) ∧ w.cell? ⟨2, m, none⟩ = some (.string (bytesOf (opB (7 + (m : Int))))) ∧ D < w.heap.size ∧ TX w0 A L w
theorem SB.step {w0 w w' : World} {A : Option Addr} {L : List Nd} {D m : Nat} {a b : Int} (h : SB w0 A L D m a b w) (hb : Below w.heap.size w w') : SB w0 A L D m a b w' := by
  obtain ⟨h1, h2, h3, h4, h5, h6⟩ := h
  have hg := h6.2.2.1.1.lt
  exact ⟨by rw [hb.cell (p := ⟨D, 0, none⟩) h5]; exact h1, by rw [hb.cell (p := ⟨D, 2, none⟩) h5]; exact h2, by rw [hb.cell (p := ⟨D, 3, none⟩) h5]; exact h3, by rw [hb.cell (p := ⟨2, m, none⟩) hg]; exact h4, Nat.lt_of_lt_of_le h5 hb.size, h6.step hb⟩
theorem TC.held {A : Option Addr} {L : List Nd} {c n : Nat} {t : Tr} {j f : Nat} {T : List UInt8} (h : TC A L c n t j f T) {w0 : World} {D m : Nat} {a b : Int} (w : World) (hs : SB w0 A L D m a b w) :
    Calls Tryd.prog f #[.slice A n c, .int .i64 ((j : Int) + t.sz - 1)] w fun e w' => e = .returned (.string (bytesOf T)) ∧ SB w0 A L D m a b w' := by
  refine (h w w ⟨Below.refl _ _, hs.2.2.2.2.2.2⟩).mono ?_
  rintro e w' ⟨rfl, hb, _⟩
  exact ⟨rfl, hs.step hb⟩

set_option maxHeartbeats 4000000 in
theorem text_bin (A : Option Addr) (L : List Nd) (c n : Nat) (hn : L.length = n) (hL : n ≤ 60) (m : Nat) (hm : m < 13) (p : Int) (a b : Tr) (j : Nat) (hs : Sub L j (.bin (7 + (m : Int)) p a b)) (hla : a.pt.length ≤ 40 * a.sz + 2) (hlb : b.pt.length ≤ 40 * b.sz + 2)
    (HA : TC A L c n a j 75 a.pt) (HB : TC A L c n b (j + a.sz) 75 b.pt) : TC A L c n (.bin (7 + (m : Int)) p a b) j 57 (Tr.bin (7 + (m : Int)) p a b).wr := by
  intro w0 w h
  have hlen := hs.len
  have hx := (hs.binAt (by omega)).2.2
  obtain ⟨ad, rfl, had, hc0, hc1, hc2, hc3, hc4⟩ := nd_at h hx
  have H := Lib.hid h
  have HPA := Lib.hid (fun (W : World) (D : Nat) (x y : Int) (hW : SB w0 (some ad) L D m x y W) => HA.held W hW)
  have HPB := Lib.hid (fun (W : World) (D : Nat) (x y : Int) (hW : SB w0 (some ad) L D m x y W) => HB.held W hW)
  have HCO := Lib.hid (h.2.2.1.1.cellAt (op_table m hm))
  have hgl := h.2.2.1.1.lt
  simp only [Tr.sz] at hlen ⊢
  rw [show (j : Int) + ((a.sz + b.sz + 1 : Nat) : Int) - 1 = ((j + (a.sz + b.sz) : Nat) : Int) by omega]
  rw [show ((j + a.sz : Nat) : Int) + b.sz - 1 = (j : Int) + a.sz + b.sz - 1 by omega] at HPB
  have hj : j + (a.sz + b.sz) < n := by omega
  have hl1 : (bytesOf a.pt).size ≤ 3000 := by rw [bytesOf_size]; omega
  have hl2 : (bytesOf b.pt).size ≤ 3000 := by rw [bytesOf_size]; omega
  have hl3 : (bytesOf (opB (7 + (m : Int)))).size ≤ 3 := by rw [bytesOf_size]; exact opB_len _
  have hwr := Tr.wr_bin (7 + (m : Int)) p a b
  generalize (j : Int) + a.sz + b.sz - 1 = y at HPB hc3
  generalize (j : Int) + a.sz - 1 = x at HPA hc2
  generalize j + (a.sz + b.sz) = i at hc0 hc1 hc2 hc3 hc4 hj
  rw [hwr]
  have HSB := Lib.hid (show SB w0 (some ad) L w.heap.size m x y (w.alloc (.cells #[.int .u8 (7 + (m : Int)), .int .i64 0, .int .i64 x, .int .i64 y, .int .i64 p] 29)) from by
    have hb := (Below.refl w.heap.size w).alloc (Nat.le_refl _) (.cells #[.int .u8 (7 + (m : Int)), .int .i64 0, .int .i64 x, .int .i64 y, .int .i64 p] 29)
    refine ⟨by go_simp, by go_simp, by go_simp, ?_, by simp, H.out.step hb⟩
    rw [hb.cell (p := ⟨2, m, none⟩) hgl]
    exact HCO.out)
  generalize a.pt = T1 at HPA hl1
  generalize b.pt = T2 at HPB hl2
  unfold SB at HPA HPB HSB
  generalize opB (7 + (m : Int)) = T3 at hl3 HCO HPA HPB HSB
  have z1 : (⟨#[32]⟩ : ByteArray).size = 1 := rfl
  have z2 : (bytesOf T1 ++ ⟨#[32]⟩).size ≤ 3001 := by rw [ByteArray.size_append]; omega
  have z3 : ((bytesOf T1 ++ ⟨#[32]⟩) ++ bytesOf T3).size ≤ 3004 := by rw [ByteArray.size_append]; omega
  have z4 : (((bytesOf T1 ++ ⟨#[32]⟩) ++ bytesOf T3) ++ ⟨#[32]⟩).size ≤ 3005 := by rw [ByteArray.size_append]; omega
  have k1 := fun W => run_string_add_sum (P := Tryd.prog) W (bytesOf T1) ⟨#[32]⟩ (by omega)
  have k2 := fun W => run_string_add_sum (P := Tryd.prog) W (bytesOf T1 ++ ⟨#[32]⟩) (bytesOf T3) (by omega)
  have k3 := fun W => run_string_add_sum (P := Tryd.prog) W ((bytesOf T1 ++ ⟨#[32]⟩) ++ bytesOf T3) ⟨#[32]⟩ (by omega)
  have k4 := fun W => run_string_add_sum (P := Tryd.prog) W (((bytesOf T1 ++ ⟨#[32]⟩) ++ bytesOf T3) ++ ⟨#[32]⟩) (bytesOf T2) (by omega)
  have HEQ := Lib.hid (show (((bytesOf T1 ++ ⟨#[32]⟩) ++ bytesOf T3) ++ ⟨#[32]⟩) ++ bytesOf T2 = bytesOf (T1 ++ [32] ++ T3 ++ [32] ++ T2) by
    rw [show (⟨#[32]⟩ : ByteArray) = bytesOf [32] from rfl, bytes_app, bytes_app, bytes_app, bytes_app])
  rw [← HEQ.out]
  have hm5 : IntKind.u8.wrap (m : Int) = (m : Int) := by unfold IntKind.wrap; simp [IntKind.bits, IntKind.signed]; omega
  have hm6 : decide ((m : Int) < 13) = true := by simp; omega
  have hm7 : (m : Int) < ((13 : Nat) : Int) := by omega
  have hm8 : (m : Int).toNat = m := by omega
  have hm1 : (0 : Int) ≤ (m : Int) := by omega
  have hm2 : (m : Int) < 13 := by omega
  have hm3 : (7 + (m : Int)) - 7 = (m : Int) := by omega
  have hm4 : IntKind.u8.wrap ((7 + (m : Int)) - 7) = (m : Int) := by rw [hm3]; unfold IntKind.wrap; simp [IntKind.bits, IntKind.signed]; omega
  clear hs hx h hlen hn HA HB hla hlb hwr z1 z2 z3 z4
  go_enter Tryd.func57, Tryd.ntmps57
  go_wp2
  generalize w.heap.size = D at HSB ⊢
  refine wp_gen (fun W => W.cell? ⟨D, 0, none⟩ = some (.int .u8 (7 + (m : Int))) ∧ W.cell? ⟨D, 2, none⟩ = some (.int .i64 x) ∧ W.cell? ⟨D, 3, none⟩ = some (.int .i64 y) ∧ W.cell? ⟨2, m, none⟩ = some (.string (bytesOf T3)) ∧ D < W.heap.size ∧ TX w0 (some ad) L W) HSB.out ?_
  clear HSB hc0 hc1 hc2 hc3 hc4
  intro W hS
  have hT := Lib.hid hS.2.2.2.2.2
  have hS2 := Lib.hid (show W.drew.cell? ⟨D, 0, none⟩ = some (.int .u8 (7 + (m : Int))) ∧ W.drew.cell? ⟨D, 2, none⟩ = some (.int .i64 x) ∧ W.drew.cell? ⟨D, 3, none⟩ = some (.int .i64 y) ∧ W.drew.cell? ⟨2, m, none⟩ = some (.string (bytesOf T3)) ∧ D < W.drew.heap.size ∧ TX w0 (some ad) L W.drew from ⟨hS.1, hS.2.1, hS.2.2.1, hS.2.2.2.1, hS.2.2.2.2.1, hT.out.step (bd_drewN _ 1)⟩)
  clear hS
  go_region_held3 (fun w' => w'.cell? ⟨D, 0, none⟩ = some (.int .u8 (7 + (m : Int))) ∧ w'.cell? ⟨D, 2, none⟩ = some (.int .i64 x) ∧ w'.cell? ⟨D, 3, none⟩ = some (.int .i64 y) ∧ w'.cell? ⟨2, m, none⟩ = some (.string (bytesOf T3)) ∧ D < w'.heap.size ∧ TX w0 (some ad) L w') (first | exact hS2.out | assumption)
    (first
      | (go_at_call 75; with_reducible refine (HPA.out _ _ _ _ (by assumption)).mono ?_; rintro e w6 ⟨rfl, hs6⟩)
      | (go_at_call 75; with_reducible refine (HPB.out _ _ _ _ (by assumption)).mono ?_; rintro e w7 ⟨rfl, hs7⟩))
  go_wp2
  go_ret
  exact ⟨rfl, by first | exact hs7.2.2.2.2.2 | exact hs6.2.2.2.2.2⟩

theorem text_all (A : Option Addr) (L : List Nd) (c n : Nat) (hn : L.length = n) (hL : n ≤ 60) : ∀ (t : Tr), t.ok = true → t.big → ∀ j, Sub L j t → TC A L c n t j 57 t.wr ∧ TC A L c n t j 75 t.pt := by
  intro t
  induction t with
  | leaf k m p =>
    intro ht hb j hs
    have h1 := text_leaf A L c n hn hL k m p j hs ht hb
    have ht' := ht
    simp only [Tr.ok, Bool.and_eq_true, decide_eq_true_eq] at ht'
    refine ⟨h1, part_of A L c n hn hL _ j ⟨k, m, 0, 0, p⟩ (hs.leafAt ht'.1.2) (Tr.fits_okK (k := k) ht'.1.1 (by omega)) ?_ (Tr.wr_len _ ht hb).1 (by rw [← hn]; exact hs.len) h1⟩
    simp [Tr.isLeaf, cnt, ht'.1.2]
  | un k p a ih =>
    intro ht hb j hs
    have ht' := ht
    simp only [Tr.ok, Bool.and_eq_true, decide_eq_true_eq] at ht'
    obtain ⟨h2, hx⟩ := hs.unAt ht'.1.1
    have h1 := text_un A L c n hn hL k p a j hs ht'.1.1 (Tr.wr_len a ht'.2 hb).2 (ih ht'.2 hb j h2).2
    refine ⟨h1, part_of A L c n hn hL _ j _ (by rw [show j + (Tr.un k p a).sz - 1 = j + a.sz by simp only [Tr.sz]; omega]; exact hx) (Tr.fits_okK (k := k) (by omega) (by omega)) ?_ (Tr.wr_len _ ht hb).1 (by rw [← hn]; exact hs.len) h1⟩
    have : cnt k = 1 := by unfold cnt; rw [if_neg (by omega), if_pos (by omega)]
    simp [Tr.isLeaf, this]
  | bin k p a b iha ihb =>
    intro ht hb j hs
    have ht' := ht
    simp only [Tr.ok, Bool.and_eq_true, decide_eq_true_eq] at ht'
    obtain ⟨⟨⟨⟨hk1, hk2⟩, _⟩, hta⟩, htb⟩ := ht'
    obtain ⟨h2, h3, hx⟩ := hs.binAt hk1
    obtain ⟨m, hm⟩ : ∃ m : Nat, k = 7 + (m : Int) := ⟨(k - 7).toNat, by omega⟩
    subst hm
    have h1 := text_bin A L c n hn hL m (by omega) p a b j hs (Tr.wr_len a hta hb.1).2 (Tr.wr_len b htb hb.2).2 (iha hta hb.1 j h2).2 (ihb htb hb.2 _ h3).2
    refine ⟨h1, part_of A L c n hn hL _ j _ (by rw [show j + (Tr.bin (7 + (m : Int)) p a b).sz - 1 = j + (a.sz + b.sz) by simp only [Tr.sz]; omega]; exact hx) (Tr.fits_okK (k := 7 + (m : Int)) (by omega) (by omega)) ?_ (Tr.wr_len _ ht hb).1 (by rw [← hn]; exact hs.len) h1⟩
    have : cnt (7 + (m : Int)) = 2 := by unfold cnt; rw [if_neg (by omega), if_neg (by omega)]
    simp [Tr.isLeaf, this]

theorem textF_ok (A : Option Addr) (c n : Nat) (t : Tr) (w : World) (hn : t.sz = n) (ht : Lies w A (ndCells t.flat)) (hok : t.ok = true) (her : t.er = 0) (hb : t.big) (t5 : Tab5 w) (hp : Pow w) :
    Calls Tryd.prog 34 #[.slice A n c] w fun e w' => e = .returned (.tuple #[.string (bytesOf t.wr), .int .i64 0]) ∧ Below w.heap.size w w' := by
  have h60 := (Tr.er_zero.1 her).1
  have h1 := t.sz_pos
  have HC := Lib.hid (N4.check_any A c t.flat w (by rw [t.flat_length]; unfold maxLen; omega) ht 0 ((t.check_flat hok).trans her))
  rw [t.flat_length] at HC
  have HT := Lib.hid (fun (W : World) (hb' : Below w.heap.size w W) => (text_all A t.flat c n (by rw [t.flat_length, hn]) (by omega) t hok hb 0 (Sub.whole t)).1 w W ⟨hb', ht.below hb', t5.stays hb', hp.stays hb'⟩)
  rw [show ((0 : Nat) : Int) + (t.sz : Int) - 1 = (n : Int) - 1 by omega] at HT
  rw [hn] at HC h60 h1
  generalize t.wr = T at HT
  clear ht hok her hb t5 hp hn
  go_enter Tryd.func34, Tryd.ntmps34
  go_wp2_with (first
    | (go_at_call 36; refine HC.out.mono ?_; rintro e w2 ⟨rfl, hb⟩; have HB := Lib.hid hb; clear hb)
    | (go_at_call 57; refine (HT.out _ HB.out).mono ?_; rintro e w3 ⟨rfl, hb⟩; have HB3 := Lib.hid hb.1; clear hb))
  go_ret2
  exact ⟨rfl, HB3.out⟩
theorem textF_bad (A : Option Addr) (c n : Nat) (L : List Nd) (w : World) (hn : L.length = n) (hL : n ≤ maxLen) (ht : Lies w A (ndCells L)) (v : Int) (hv : checkF L = v) (h0 : v ≠ 0) :
    Calls Tryd.prog 34 #[.slice A n c] w fun e w' => e = .returned (.tuple #[.string ⟨#[]⟩, .int .i64 v]) ∧ Below w.heap.size w w' := by
  subst hn
  have HC := Lib.hid (N4.check_any A c L w hL ht v hv)
  have hvb := errno_ne h0
  generalize L.length = n at HC hL
  clear ht hv h0
  go_enter Tryd.func34, Tryd.ntmps34
  go_wp2_with (go_at_call 36; refine HC.out.mono ?_; rintro e w2 ⟨rfl, hb⟩; have HB := Lib.hid hb; clear hb)
  go_ret2
  exact ⟨rfl, HB.out⟩
end Go.Proofs.YtfnkofcgjbakeaaDoor
