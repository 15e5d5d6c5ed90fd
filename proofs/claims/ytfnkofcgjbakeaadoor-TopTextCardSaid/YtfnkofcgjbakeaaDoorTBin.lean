/- The contract of the reference's Written: kinds with two parts, and all. -/
import Derived.Test.YtfnkofcgjbakeaaDoorTWr
import Derived.Deep.RegionHeld3
import Derived.Outline
import Derived.Tactics2
namespace Go.Proofs.YtfnkofcgjbakeaaDoor.T6
open Go.ChangeShapes Go.WideShapes Go.ChangeAt Go.RowKit N4
set_option linter.unusedVariables false
set_option linter.unusedSimpArgs false
set_option maxRecDepth 100000

section
variable {P : Program} {ops : Array Oper} {Q : Exit → Act → World → Prop} {md : Region.Mode} {S : World → Prop}
/-- One that yields in every world that meets S. -/
theorem take_yes {i d : Nat} {oi : Oper} {v : Value} {fuel : Nat} {listed : Array Bool} {a : Act} {w : World} (hi : ops[i]? = some oi) (hd : oi.dst = some d)
    (hs : Region.noSelect ops = true) (hf : Region.free md ops listed i = true) (hr : (Region.ready md ops listed).contains i = true)
    (hQ : ∀ c a w, Q (.panic c) (a.put (some d) v) w → Q (.panic c) a w) (hw : Region.wanted oi (yielded ops a.tmps) = true) (hv : ∀ w, S w → (execOp a.eval oi).run P w = .ok (.value v) w) (hS : S w)
    (h : wpAnyH P md ops Q S fuel (listed.setIfInBounds i true) (a.put (some d) v) w) : wpAnyH P md ops Q S (fuel + 1) listed a w :=
  wpAnyH_take hi hs hf hr (by rw [hd]; exact hQ) (Or.inl ⟨hw, hv⟩) hS (by rw [hd]; exact h)
/-- More is known from here on. -/
theorem wpAnyH_more {S' : World → Prop} (hS : ∀ w, S' w → S w) : ∀ (fuel : Nat) (listed : Array Bool) (a : Act) (w : World), wpAnyH P md ops Q S' fuel listed a w → wpAnyH P md ops Q S fuel listed a w
  | 0, _, _, _, h => h
  | fuel + 1, _, _, _, h => ⟨h.1, fun i hi => wpOp_mono (fun a' w' h' => ⟨hS _ h'.1, wpAnyH_more hS fuel _ a' w' h'.2⟩) (h.2 i hi)⟩
end

def SR (w0 : World) (A : Option Addr) (L : List Nd) (D m : Nat) (a b : Int) (w : World) : Prop :=
  w.cell? ⟨D, 0, none⟩ = some (.int .u8 (7 + (m : Int))) ∧ w.cell? ⟨D, 2, none⟩ = some (.int .i64 a) ∧ w.cell? ⟨D, 3, none⟩ = some (.int .i64 b) ∧ D < w.heap.size ∧ RX w0 A L w
theorem SR.step {w0 w w' : World} {A : Option Addr} {L : List Nd} {D m : Nat} {a b : Int} (h : SR w0 A L D m a b w) (hb : Below w.heap.size w w') : SR w0 A L D m a b w' := by
  obtain ⟨h1, h2, h3, h5, h6⟩ := h
  exact ⟨by rw [hb.cell (p := ⟨D, 0, none⟩) h5]; exact h1, by rw [hb.cell (p := ⟨D, 2, none⟩) h5]; exact h2, by rw [hb.cell (p := ⟨D, 3, none⟩) h5]; exact h3, Nat.lt_of_lt_of_le h5 hb.size, h6.step hb⟩
/-- .. and the operator's text stands at its place. -/
def S2 (w0 : World) (A : Option Addr) (L : List Nd) (D m : Nat) (a b : Int) (B : Nat) (T : List UInt8) (w : World) : Prop :=
  w.cell? ⟨B, m, none⟩ = some (.string (bytesOf T)) ∧ B < w.heap.size ∧ SR w0 A L D m a b w
theorem S2.step {w0 w w' : World} {A : Option Addr} {L : List Nd} {D m : Nat} {a b : Int} {B : Nat} {T : List UInt8} (h : S2 w0 A L D m a b B T w) (hb : Below w.heap.size w w') : S2 w0 A L D m a b B T w' := by
  obtain ⟨h1, h2, h3⟩ := h
  exact ⟨by rw [hb.cell (p := ⟨B, m, none⟩) h2]; exact h1, Nat.lt_of_lt_of_le h2 hb.size, h3.step hb⟩
theorem RC.held {A : Option Addr} {L : List Nd} {c n : Nat} {t : Tr} {j f : Nat} {T : List UInt8} (h : RC A L c n t j f T) {w0 : World} (w : World) (hs : RX w0 A L w) :
    Calls Tryd.prog f #[.slice A n c, .int .i64 ((j : Int) + t.sz - 1)] w fun e w' => e = .returned (.string (bytesOf T)) ∧ Below w.heap.size w w' :=
  (h w w ⟨Below.refl _ _, hs.2⟩).mono fun e w' ⟨he, hb⟩ => ⟨he, hb.1⟩

set_option maxHeartbeats 4000000 in
theorem wr_bin (A : Option Addr) (L : List Nd) (c n : Nat) (hn : L.length = n) (hL : n ≤ 60) (m : Nat) (hm : m < 13) (p : Int) (a b : Tr) (j : Nat) (hs : Sub L j (.bin (7 + (m : Int)) p a b)) (hla : a.pt.length ≤ 40 * a.sz + 2) (hlb : b.pt.length ≤ 40 * b.sz + 2)
    (HA : RC A L c n a j 59 a.pt) (HB : RC A L c n b (j + a.sz) 59 b.pt) : RC A L c n (.bin (7 + (m : Int)) p a b) j 35 (Tr.bin (7 + (m : Int)) p a b).wr := by
  intro w0 w h
  have hlen := hs.len
  have hx := (hs.binAt (by omega)).2.2
  obtain ⟨ad, rfl, had, hc0, hc1, hc2, hc3, hc4⟩ := rnd_at h hx
  have H := Lib.hid h
  have HPA := Lib.hid (fun (W : World) (hW : RX w0 (some ad) L W) => HA.held W hW)
  have HPB := Lib.hid (fun (W : World) (hW : RX w0 (some ad) L W) => HB.held W hW)
  have HOP := Lib.hid (fun (W : World) => (rops_tab W).mono fun (e : Ending) (w' : World) ⟨he, ht, hb⟩ => (⟨he, ht.cellAt (op_table m hm), ht.lt, hb⟩ : e = Ending.returned (Value.slice (some ⟨W.heap.size, 0, none⟩) 13 13) ∧ w'.cell? ⟨W.heap.size, m, none⟩ = some (Value.string (bytesOf (opB (7 + (m : Int))))) ∧ W.heap.size < w'.heap.size ∧ Below W.heap.size W w'))
  have HCN := Lib.hid (fun W => show Calls Tryd.prog 39 #[.int .u8 (7 + (m : Int))] W fun e w' => e = .returned (.int .i64 2) ∧ W = w' by have := count_any (7 + (m : Int)) W; rwa [show cnt (7 + (m : Int)) = 2 by unfold cnt; rw [if_neg (by omega), if_neg (by omega)]] at this)
  simp only [Tr.sz] at hlen ⊢
  rw [show (j : Int) + ((a.sz + b.sz + 1 : Nat) : Int) - 1 = ((j + (a.sz + b.sz) : Nat) : Int) by omega]
  rw [show ((j + a.sz : Nat) : Int) + b.sz - 1 = (j : Int) + a.sz + b.sz - 1 by omega] at HPB
  have hj : j + (a.sz + b.sz) < n := by omega
  have hl1 : (bytesOf a.pt).size ≤ 3000 := by rw [bytesOf_size]; omega
  have hl2 : (bytesOf b.pt).size ≤ 3000 := by rw [bytesOf_size]; omega
  have hl3 : (bytesOf (opB (7 + (m : Int)))).size ≤ 3 := by rw [bytesOf_size]; exact opB_len _
  have hwr := Tr.wr_bin (7 + (m : Int)) p a b
  generalize (j : Int) + a.sz + b.sz - 1 = y at HPB hc3
  generalize (j : Int) + a.sz - 1 = x at HPA hc2
  generalize j + (a.sz + b.sz) = i at hc0 hc1 hc2 hc3 hc4 hj
  rw [hwr]
  have HSB := Lib.hid (show SR w0 (some ad) L w.heap.size m x y (w.alloc (.cells #[.int .u8 (7 + (m : Int)), .int .i64 0, .int .i64 x, .int .i64 y, .int .i64 p] 29)).drew from
    SR.step (w := w.alloc (.cells #[.int .u8 (7 + (m : Int)), .int .i64 0, .int .i64 x, .int .i64 y, .int .i64 p] 29)) ⟨by go_simp, by go_simp, by go_simp, by simp, H.out.step ((Below.refl w.heap.size w).alloc (Nat.le_refl _) _)⟩ (bd_drewN _ 1))
  generalize a.pt = T1 at HPA hl1
  generalize b.pt = T2 at HPB hl2
  generalize opB (7 + (m : Int)) = T3 at hl3 HOP
  have z1 : (⟨#[32]⟩ : ByteArray).size = 1 := rfl
  have z2 : (bytesOf T1 ++ ⟨#[32]⟩).size ≤ 3001 := by rw [ByteArray.size_append]; omega
  have z3 : ((bytesOf T1 ++ ⟨#[32]⟩) ++ bytesOf T3).size ≤ 3004 := by rw [ByteArray.size_append]; omega
  have z4 : (((bytesOf T1 ++ ⟨#[32]⟩) ++ bytesOf T3) ++ ⟨#[32]⟩).size ≤ 3005 := by rw [ByteArray.size_append]; omega
  have k1 := fun W => run_string_add_sum (P := Tryd.prog) W (bytesOf T1) ⟨#[32]⟩ (by omega)
  have k2 := fun W => run_string_add_sum (P := Tryd.prog) W (bytesOf T1 ++ ⟨#[32]⟩) (bytesOf T3) (by omega)
  have k3 := fun W => run_string_add_sum (P := Tryd.prog) W ((bytesOf T1 ++ ⟨#[32]⟩) ++ bytesOf T3) ⟨#[32]⟩ (by omega)
  have k4 := fun W => run_string_add_sum (P := Tryd.prog) W (((bytesOf T1 ++ ⟨#[32]⟩) ++ bytesOf T3) ++ ⟨#[32]⟩) (bytesOf T2) (by omega)
  have HEQ := Lib.hid (show (((bytesOf T1 ++ ⟨#[32]⟩) ++ bytesOf T3) ++ ⟨#[32]⟩) ++ bytesOf T2 = bytesOf (T1 ++ [32] ++ T3 ++ [32] ++ T2) by
    rw [show (⟨#[32]⟩ : ByteArray) = bytesOf [32] from rfl, bytes_app, bytes_app, bytes_app, bytes_app])
  rw [← HEQ.out]
  have hm5 : IntKind.u8.wrap (m : Int) = (m : Int) := by unfold IntKind.wrap; simp [IntKind.bits, IntKind.signed]; omega
  have hm6 : decide ((m : Int) < 13) = true := by simp; omega
  have hm7 : (m : Int) < ((13 : Nat) : Int) := by omega
  have hm8 : (m : Int).toNat = m := by omega
  have hm1 : (0 : Int) ≤ (m : Int) := by omega
  have hm2 : (m : Int) < 13 := by omega
  have hm3 : (7 + (m : Int)) - 7 = (m : Int) := by omega
  have hm4 : IntKind.u8.wrap ((7 + (m : Int)) - 7) = (m : Int) := by rw [hm3]; unfold IntKind.wrap; simp [IntKind.bits, IntKind.signed]; omega
  clear hs hx h hlen hn HA HB hla hlb hwr z1 z2 z3 z4
  go_enter Tryd.func35, Tryd.ntmps35
  go_wp2_with (go_at_call 39; refine (HCN.out _).mono ?_; rintro e w' ⟨rfl, rfl⟩)
  refine wp_region_held_drew (S := SR w0 (some ad) L w.heap.size m x y) (by kernel_rfl) HSB.out (fun hHeld => ?_)
  clear HSB hc0 hc1 hc2 hc3 hc4
  refine take_yes (i := 0) (d := 32) (v := ?v0) rfl rfl (by kernel_rfl) (by kernel_rfl) (by kernel_rfl) (fun _ _ _ h => h) (by rfl) ?y0 (by assumption) ?z0
  case y0 => (intro w' hSw; (try unfold SR at hSw); (try unfold SR at hSw); go_split_ands; go_simp; try with_reducible rfl)
  try simp only [Act.put, List.setIfInBounds_toArray, List.set_cons_zero, List.set_cons_succ]
  refine take_yes (i := 1) (d := 33) (v := ?v1) rfl rfl (by kernel_rfl) (by kernel_rfl) (by kernel_rfl) (fun _ _ _ h => h) (by rfl) ?y1 (by assumption) ?z1
  case y1 => (intro w' hSw; (try unfold SR at hSw); (try unfold SR at hSw); go_split_ands; go_simp; try with_reducible rfl)
  try simp only [Act.put, List.setIfInBounds_toArray, List.set_cons_zero, List.set_cons_succ]
  refine take_yes (i := 2) (d := 34) (v := ?v2) rfl rfl (by kernel_rfl) (by kernel_rfl) (by kernel_rfl) (fun _ _ _ h => h) (by rfl) ?y2 (by assumption) ?z2
  case y2 => (intro w' hSw; (try unfold SR at hSw); (try unfold SR at hSw); go_split_ands; go_simp; try with_reducible rfl)
  try simp only [Act.put, List.setIfInBounds_toArray, List.set_cons_zero, List.set_cons_succ]
  refine take_yes (i := 6) (d := 38) (v := ?v6) rfl rfl (by kernel_rfl) (by kernel_rfl) (by kernel_rfl) (fun _ _ _ h => h) (by rfl) ?y6 (by assumption) ?z6
  case y6 => (intro w' hSw; (try unfold SR at hSw); (try unfold SR at hSw); go_split_ands; go_simp; try with_reducible rfl)
  try simp only [Act.put, List.setIfInBounds_toArray, List.set_cons_zero, List.set_cons_succ]
  refine take_yes (i := 7) (d := 39) (v := ?v7) rfl rfl (by kernel_rfl) (by kernel_rfl) (by kernel_rfl) (fun _ _ _ h => h) (by rfl) ?y7 (by assumption) ?z7
  case y7 => (intro w' hSw; (try unfold SR at hSw); (try unfold SR at hSw); go_split_ands; go_simp; try with_reducible rfl)
  try simp only [Act.put, List.setIfInBounds_toArray, List.set_cons_zero, List.set_cons_succ]
  refine take_yes (i := 8) (d := 40) (v := ?v8) rfl rfl (by kernel_rfl) (by kernel_rfl) (by kernel_rfl) (fun _ _ _ h => h) (by rfl) ?y8 (by assumption) ?z8
  case y8 => (intro w' hSw; (try unfold SR at hSw); (try unfold SR at hSw); go_split_ands; go_simp; try with_reducible rfl)
  try simp only [Act.put, List.setIfInBounds_toArray, List.set_cons_zero, List.set_cons_succ]
  refine take_yes (i := 13) (d := 45) (v := ?v13) rfl rfl (by kernel_rfl) (by kernel_rfl) (by kernel_rfl) (fun _ _ _ h => h) (by rfl) ?y13 (by assumption) ?z13
  case y13 => (intro w' hSw; (try unfold SR at hSw); (try unfold SR at hSw); go_split_ands; go_simp; try with_reducible rfl)
  try simp only [Act.put, List.setIfInBounds_toArray, List.set_cons_zero, List.set_cons_succ]
  refine take_yes (i := 14) (d := 46) (v := ?v14) rfl rfl (by kernel_rfl) (by kernel_rfl) (by kernel_rfl) (fun _ _ _ h => h) (by rfl) ?y14 (by assumption) ?z14
  case y14 => (intro w' hSw; (try unfold SR at hSw); (try unfold SR at hSw); go_split_ands; go_simp; try with_reducible rfl)
  try simp only [Act.put, List.setIfInBounds_toArray, List.set_cons_zero, List.set_cons_succ]
  refine take_yes (i := 15) (d := 47) (v := ?v15) rfl rfl (by kernel_rfl) (by kernel_rfl) (by kernel_rfl) (fun _ _ _ h => h) (by rfl) ?y15 (by assumption) ?z15
  case y15 => (intro w' hSw; (try unfold SR at hSw); (try unfold SR at hSw); go_split_ands; go_simp; try with_reducible rfl)
  try simp only [Act.put, List.setIfInBounds_toArray, List.set_cons_zero, List.set_cons_succ]
  refine wpAnyH_ready (rs := [3]) (by kernel_rfl) (by simp) ?_
  refine AllReadyH.cons rfl (fun K hK => ?_) AllReadyH.nil
  go_simp
  (go_at_call 59; refine (HPA.out _ hHeld.2.2.2.2).mono ?_; rintro e w6 ⟨rfl, hb⟩)
  refine hK.out _ _ (hHeld.step hb) (fun hHeld => ?_)
  clear hK K
  try simp only [Act.put, List.setIfInBounds_toArray, List.set_cons_zero, List.set_cons_succ]
  refine take_yes (i := 4) (d := 36) (v := ?v4) rfl rfl (by kernel_rfl) (by kernel_rfl) (by kernel_rfl) (fun _ _ _ h => h) (by rfl) ?y4 (by assumption) ?z4
  case y4 => (intro w' hSw; (try unfold SR at hSw); (try unfold SR at hSw); go_split_ands; go_simp; try with_reducible rfl)
  try simp only [Act.put, List.setIfInBounds_toArray, List.set_cons_zero, List.set_cons_succ]
  refine wpAnyH_ready (rs := [5]) (by kernel_rfl) (by simp) ?_
  refine AllReadyH.cons rfl (fun K hK => ?_) AllReadyH.nil
  go_simp
  (go_at_call 60; refine (HOP.out _).mono ?_; rintro e w7 ⟨rfl, hq, hlt, hb2⟩)
  have h7 := (show SR w0 (some ad) L w.heap.size m x y w7 from (by assumption : SR w0 (some ad) L w.heap.size m x y w6).step hb2)
  refine hK.out _ _ h7 (fun hHeld => ?_)
  clear hK K
  try simp only [Act.put, List.setIfInBounds_toArray, List.set_cons_zero, List.set_cons_succ]
  have h2 : S2 w0 (some ad) L w.heap.size m x y w6.heap.size T3 w7 := ⟨hq, hlt, hHeld⟩
  refine wpAnyH_more (S' := S2 w0 (some ad) L w.heap.size m x y w6.heap.size T3) (fun _ h => h.2.2) _ _ _ _ ?_
  refine take_yes (i := 9) (d := 41) (v := ?v9) rfl rfl (by kernel_rfl) (by kernel_rfl) (by kernel_rfl) (fun _ _ _ h => h) (by rfl) ?y9 (by assumption) ?z9
  case y9 => (intro w' hSw; (try unfold S2 at hSw); (try unfold SR at hSw); go_split_ands; go_simp; try with_reducible rfl)
  try simp only [Act.put, List.setIfInBounds_toArray, List.set_cons_zero, List.set_cons_succ]
  refine take_yes (i := 10) (d := 42) (v := ?v10) rfl rfl (by kernel_rfl) (by kernel_rfl) (by kernel_rfl) (fun _ _ _ h => h) (by rfl) ?y10 (by assumption) ?z10
  case y10 => (intro w' hSw; (try unfold S2 at hSw); (try unfold SR at hSw); go_split_ands; go_simp; try with_reducible rfl)
  try simp only [Act.put, List.setIfInBounds_toArray, List.set_cons_zero, List.set_cons_succ]
  refine take_yes (i := 11) (d := 43) (v := ?v11) rfl rfl (by kernel_rfl) (by kernel_rfl) (by kernel_rfl) (fun _ _ _ h => h) (by rfl) ?y11 (by assumption) ?z11
  case y11 => (intro w' hSw; (try unfold S2 at hSw); (try unfold SR at hSw); go_split_ands; go_simp; try with_reducible rfl)
  try simp only [Act.put, List.setIfInBounds_toArray, List.set_cons_zero, List.set_cons_succ]
  refine take_yes (i := 12) (d := 44) (v := ?v12) rfl rfl (by kernel_rfl) (by kernel_rfl) (by kernel_rfl) (fun _ _ _ h => h) (by rfl) ?y12 (by assumption) ?z12
  case y12 => (intro w' hSw; (try unfold S2 at hSw); (try unfold SR at hSw); go_split_ands; go_simp; try with_reducible rfl)
  try simp only [Act.put, List.setIfInBounds_toArray, List.set_cons_zero, List.set_cons_succ]
  refine wpAnyH_ready (rs := [16]) (by kernel_rfl) (by simp) ?_
  refine AllReadyH.cons rfl (fun K hK => ?_) AllReadyH.nil
  go_simp
  (go_at_call 59; refine (HPB.out _ h2.2.2.2.2.2.2).mono ?_; rintro e w8 ⟨rfl, hb3⟩)
  refine hK.out _ _ (h2.step hb3) (fun hHeld => ?_)
  clear hK K
  try simp only [Act.put, List.setIfInBounds_toArray, List.set_cons_zero, List.set_cons_succ]
  refine take_yes (i := 17) (d := 49) (v := ?v17) rfl rfl (by kernel_rfl) (by kernel_rfl) (by kernel_rfl) (fun _ _ _ h => h) (by rfl) ?y17 (by assumption) ?z17
  case y17 => (intro w' hSw; (try unfold S2 at hSw); (try unfold SR at hSw); go_split_ands; go_simp; try with_reducible rfl)
  try simp only [Act.put, List.setIfInBounds_toArray, List.set_cons_zero, List.set_cons_succ]
  refine take_yes (i := 18) (d := 4) (v := ?v18) rfl rfl (by kernel_rfl) (by kernel_rfl) (by kernel_rfl) (fun _ _ _ h => h) (by rfl) ?y18 (by assumption) ?z18
  case y18 => (intro w' hSw; (try unfold S2 at hSw); (try unfold SR at hSw); go_split_ands; go_simp; try with_reducible rfl)
  try simp only [Act.put, List.setIfInBounds_toArray, List.set_cons_zero, List.set_cons_succ]
  refine wpAnyH_done (by kernel_rfl) ?_ _
  go_wp2
  go_ret
  exact ⟨rfl, (h2.step hb3).2.2.2.2.2.2⟩

theorem wr_all (A : Option Addr) (L : List Nd) (c n : Nat) (hn : L.length = n) (hL : n ≤ 60) : ∀ (t : Tr), t.ok = true → t.big → ∀ j, Sub L j t → RC A L c n t j 35 t.wr ∧ RC A L c n t j 59 t.pt := by
  intro t
  induction t with
  | leaf k m p =>
    intro ht hb j hs
    exact ⟨wr_leaf A L c n hn hL k m p j hs ht hb, rpart_leaf A L c n hn hL k m p j hs ht hb⟩
  | un k p a ih =>
    intro ht hb j hs
    have ht' := ht
    simp only [Tr.ok, Bool.and_eq_true, decide_eq_true_eq] at ht'
    obtain ⟨h2, hx⟩ := hs.unAt ht'.1.1
    have h1 := wr_un A L c n hn hL k p a j hs ht'.1.1 (Tr.wr_len a ht'.2 hb).2 (ih ht'.2 hb j h2).2
    refine ⟨h1, rpart_of A L c n hn hL _ j _ (by rw [show j + (Tr.un k p a).sz - 1 = j + a.sz by simp only [Tr.sz]; omega]; exact hx) ?_ rfl (Tr.wr_len _ ht hb).1 (by rw [← hn]; exact hs.len) h1⟩
    show cnt k ≠ 0
    unfold cnt; rw [if_neg (by omega), if_pos (by omega)]; decide
  | bin k p a b iha ihb =>
    intro ht hb j hs
    have ht' := ht
    simp only [Tr.ok, Bool.and_eq_true, decide_eq_true_eq] at ht'
    obtain ⟨⟨⟨⟨hk1, hk2⟩, _⟩, hta⟩, htb⟩ := ht'
    obtain ⟨h2, h3, hx⟩ := hs.binAt hk1
    obtain ⟨m, hm⟩ : ∃ m : Nat, k = 7 + (m : Int) := ⟨(k - 7).toNat, by omega⟩
    subst hm
    have h1 := wr_bin A L c n hn hL m (by omega) p a b j hs (Tr.wr_len a hta hb.1).2 (Tr.wr_len b htb hb.2).2 (iha hta hb.1 j h2).2 (ihb htb hb.2 _ h3).2
    refine ⟨h1, rpart_of A L c n hn hL _ j _ (by rw [show j + (Tr.bin (7 + (m : Int)) p a b).sz - 1 = j + (a.sz + b.sz) by simp only [Tr.sz]; omega]; exact hx) ?_ rfl (Tr.wr_len _ ht hb).1 (by rw [← hn]; exact hs.len) h1⟩
    show cnt (7 + (m : Int)) ≠ 0
    unfold cnt; rw [if_neg (by omega), if_neg (by omega)]; decide
theorem written_any (A : Option Addr) (c n : Nat) (t : Tr) (w : World) (hn : t.sz = n) (h60 : n ≤ 60) (ht : Lies w A (ndCells t.flat)) (hok : t.ok = true) (hb : t.big) (z : Int) (hz : z = (n : Int) - 1) :
    Calls Tryd.prog 35 #[.slice A n c, .int .i64 z] w fun e w' => e = .returned (.string (bytesOf t.wr)) ∧ Below w.heap.size w w' := by
  have h := (wr_all A t.flat c n (by rw [t.flat_length, hn]) h60 t hok hb 0 (Sub.whole t)).1.held (w0 := w) w ⟨Below.refl _ _, ht⟩
  rw [hz]
  rwa [show ((0 : Nat) : Int) + (t.sz : Int) - 1 = (n : Int) - 1 by omega] at h
end Go.Proofs.YtfnkofcgjbakeaaDoor.T6
