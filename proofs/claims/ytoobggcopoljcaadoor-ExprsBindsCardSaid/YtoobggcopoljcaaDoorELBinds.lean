/- ExprsBinds: what binds first. -/
import Derived.Test.YtoobggcopoljcaaDoorELBack
import Derived.Test.YtoobggcopoljcaaDoorEBinds
namespace Go.Proofs.YtoobggcopoljcaaDoor
open Go.ChangeShapes Go.WideShapes Go.ChangeAt Go.RowKit N4
set_option linter.unusedVariables false
set_option maxRecDepth 100000

theorem rops_tab (w : World) : Calls Tryd.prog 21 #[] w fun e w' => e = .returned (.slice (some ⟨w.heap.size, 0, none⟩) 13 13) ∧ Tab w' w.heap.size opT ∧ Below w.heap.size w w' := by
  have h : Calls Tryd.prog 21 #[] w fun e w' => e = .returned (.slice (some ⟨w.heap.size, 0, none⟩) 13 13) ∧ w.alloc (.cells (strsOf opT) 9) = w' := by
    go_enter Tryd.func21, Tryd.ntmps21
    go_wp2
    go_ret
    exact ⟨rfl, rfl⟩
  exact h.mono fun e w' ⟨h, hw⟩ => by subst hw; exact ⟨h, Tab.new _ _ _, (Below.refl _ _).alloc (Nat.le_refl _) _⟩
theorem stren_7 (w : World) : Calls Tryd.prog 22 #[.int .u8 7] w fun e w' => e = .returned (.int .i64 6) ∧ w = w' := by
  go_enter Tryd.func22, Tryd.ntmps22
  go_wp2
  go_ret
  exact ⟨rfl, rfl⟩
theorem stren_8 (w : World) : Calls Tryd.prog 22 #[.int .u8 8] w fun e w' => e = .returned (.int .i64 5) ∧ w = w' := by
  go_enter Tryd.func22, Tryd.ntmps22
  go_wp2
  go_ret
  exact ⟨rfl, rfl⟩
theorem stren_9 (w : World) : Calls Tryd.prog 22 #[.int .u8 9] w fun e w' => e = .returned (.int .i64 5) ∧ w = w' := by
  go_enter Tryd.func22, Tryd.ntmps22
  go_wp2
  go_ret
  exact ⟨rfl, rfl⟩
theorem stren_10 (w : World) : Calls Tryd.prog 22 #[.int .u8 10] w fun e w' => e = .returned (.int .i64 4) ∧ w = w' := by
  go_enter Tryd.func22, Tryd.ntmps22
  go_wp2
  go_ret
  exact ⟨rfl, rfl⟩
theorem stren_11 (w : World) : Calls Tryd.prog 22 #[.int .u8 11] w fun e w' => e = .returned (.int .i64 4) ∧ w = w' := by
  go_enter Tryd.func22, Tryd.ntmps22
  go_wp2
  go_ret
  exact ⟨rfl, rfl⟩
theorem stren_12 (w : World) : Calls Tryd.prog 22 #[.int .u8 12] w fun e w' => e = .returned (.int .i64 3) ∧ w = w' := by
  go_enter Tryd.func22, Tryd.ntmps22
  go_wp2
  go_ret
  exact ⟨rfl, rfl⟩
theorem stren_13 (w : World) : Calls Tryd.prog 22 #[.int .u8 13] w fun e w' => e = .returned (.int .i64 3) ∧ w = w' := by
  go_enter Tryd.func22, Tryd.ntmps22
  go_wp2
  go_ret
  exact ⟨rfl, rfl⟩
theorem stren_14 (w : World) : Calls Tryd.prog 22 #[.int .u8 14] w fun e w' => e = .returned (.int .i64 3) ∧ w = w' := by
  go_enter Tryd.func22, Tryd.ntmps22
  go_wp2
  go_ret
  exact ⟨rfl, rfl⟩
theorem stren_15 (w : World) : Calls Tryd.prog 22 #[.int .u8 15] w fun e w' => e = .returned (.int .i64 3) ∧ w = w' := by
  go_enter Tryd.func22, Tryd.ntmps22
  go_wp2
  go_ret
  exact ⟨rfl, rfl⟩
theorem stren_16 (w : World) : Calls Tryd.prog 22 #[.int .u8 16] w fun e w' => e = .returned (.int .i64 3) ∧ w = w' := by
  go_enter Tryd.func22, Tryd.ntmps22
  go_wp2
  go_ret
  exact ⟨rfl, rfl⟩
theorem stren_17 (w : World) : Calls Tryd.prog 22 #[.int .u8 17] w fun e w' => e = .returned (.int .i64 3) ∧ w = w' := by
  go_enter Tryd.func22, Tryd.ntmps22
  go_wp2
  go_ret
  exact ⟨rfl, rfl⟩
theorem stren_18 (w : World) : Calls Tryd.prog 22 #[.int .u8 18] w fun e w' => e = .returned (.int .i64 2) ∧ w = w' := by
  go_enter Tryd.func22, Tryd.ntmps22
  go_wp2
  go_ret
  exact ⟨rfl, rfl⟩
theorem stren_19 (w : World) : Calls Tryd.prog 22 #[.int .u8 19] w fun e w' => e = .returned (.int .i64 1) ∧ w = w' := by
  go_enter Tryd.func22, Tryd.ntmps22
  go_wp2
  go_ret
  exact ⟨rfl, rfl⟩
theorem stren_any (k : Int) (hk : 7 ≤ k ∧ k ≤ 19) (w : World) : Calls Tryd.prog 22 #[.int .u8 k] w fun e w' => e = .returned (.int .i64 (st k : Nat)) ∧ w = w' := by
  have : k = 7 ∨ k = 8 ∨ k = 9 ∨ k = 10 ∨ k = 11 ∨ k = 12 ∨ k = 13 ∨ k = 14 ∨ k = 15 ∨ k = 16 ∨ k = 17 ∨ k = 18 ∨ k = 19 := by omega
  rcases this with rfl | rfl | rfl | rfl | rfl | rfl | rfl | rfl | rfl | rfl | rfl | rfl | rfl
  · exact stren_7 w
  · exact stren_8 w
  · exact stren_9 w
  · exact stren_10 w
  · exact stren_11 w
  · exact stren_12 w
  · exact stren_13 w
  · exact stren_14 w
  · exact stren_15 w
  · exact stren_16 w
  · exact stren_17 w
  · exact stren_18 w
  · exact stren_19 w

/-- The three expressions, and two kinds, are not as the law asks. -/
def BOut (n1 n2 n3 : Nat) (v1 v2 v3 f g : Int) : Prop := 8 < n1 ∨ 8 < n2 ∨ 8 < n3 ∨ v1 ≠ 0 ∨ v2 ≠ 0 ∨ v3 ≠ 0 ∨ f < 7 ∨ 19 < f ∨ g < 7 ∨ 19 < g
set_option maxHeartbeats 4000000 in
theorem binds_out (A1 A2 A3 : Option Addr) (c1 c2 c3 n1 n2 n3 : Nat) (L1 L2 L3 : List Nd) (f g : Int) (w : World) (hg : G5 w w) (hn1 : L1.length = n1) (hn2 : L2.length = n2) (hn3 : L3.length = n3) (hm1 : n1 ≤ maxLen) (hm2 : n2 ≤ maxLen) (hm3 : n3 ≤ maxLen)
    (t1 : Lies w A1 (ndCells L1)) (t2 : Lies w A2 (ndCells L2)) (t3 : Lies w A3 (ndCells L3)) (v1 v2 v3 : Int) (hv1 : checkF L1 = v1) (hv2 : checkF L2 = v2) (hv3 : checkF L3 = v3) (h : BOut n1 n2 n3 v1 v2 v3 f g) :
    Calls Tryd.prog 7 #[.slice A1 n1 c1, .slice A2 n2 c2, .slice A3 n3 c3, .int .u8 f, .int .u8 g] w fun e w' => e = .returned (.bool true) ∧ G5 w w' := by
  have K1 := Lib.hid (fun (W : World) (hW : G5 w W) => (rcheck_any A1 c1 n1 L1 W hn1 hm1 (t1.below hW.1) v1 hv1).mono fun e w' ⟨he, hb⟩ => (⟨he, hW.step hb⟩ : e = Ending.returned (.int .i64 v1) ∧ G5 w w'))
  have K2 := Lib.hid (fun (W : World) (hW : G5 w W) => (rcheck_any A2 c2 n2 L2 W hn2 hm2 (t2.below hW.1) v2 hv2).mono fun e w' ⟨he, hb⟩ => (⟨he, hW.step hb⟩ : e = Ending.returned (.int .i64 v2) ∧ G5 w w'))
  have K3 := Lib.hid (fun (W : World) (hW : G5 w W) => (rcheck_any A3 c3 n3 L3 W hn3 hm3 (t3.below hW.1) v3 hv3).mono fun e w' ⟨he, hb⟩ => (⟨he, hW.step hb⟩ : e = Ending.returned (.int .i64 v3) ∧ G5 w w'))
  have hG := hg
  have HO := Lib.hid h
  clear hg hn1 hn2 hn3 t1 t2 t3 hv1 hv2 hv3 h
  unfold maxLen at hm1 hm2 hm3
  by_cases e0 : 8 < n1
  · go_enter Tryd.func7, Tryd.ntmps7
    go_wp2_with (first
    | (go_at_call 14; with_reducible refine (K1.out _ (by assumption)).mono ?_; rintro e w1 ⟨rfl, hg1⟩)
    | (go_at_call 14; with_reducible refine (K2.out _ (by assumption)).mono ?_; rintro e w2 ⟨rfl, hg2⟩)
    | (go_at_call 14; with_reducible refine (K3.out _ (by assumption)).mono ?_; rintro e w3 ⟨rfl, hg3⟩)
    | (go_at_call 12; refine (alive_g w _ (by assumption)).mono ?_; rintro e w' ⟨rfl, hga⟩))
    go_ret
    exact ⟨rfl, by assumption⟩
  by_cases e1 : 8 < n2
  · go_enter Tryd.func7, Tryd.ntmps7
    go_wp2_with (first
    | (go_at_call 14; with_reducible refine (K1.out _ (by assumption)).mono ?_; rintro e w1 ⟨rfl, hg1⟩)
    | (go_at_call 14; with_reducible refine (K2.out _ (by assumption)).mono ?_; rintro e w2 ⟨rfl, hg2⟩)
    | (go_at_call 14; with_reducible refine (K3.out _ (by assumption)).mono ?_; rintro e w3 ⟨rfl, hg3⟩)
    | (go_at_call 12; refine (alive_g w _ (by assumption)).mono ?_; rintro e w' ⟨rfl, hga⟩))
    go_ret
    exact ⟨rfl, by assumption⟩
  by_cases e2 : 8 < n3
  · go_enter Tryd.func7, Tryd.ntmps7
    go_wp2_with (first
    | (go_at_call 14; with_reducible refine (K1.out _ (by assumption)).mono ?_; rintro e w1 ⟨rfl, hg1⟩)
    | (go_at_call 14; with_reducible refine (K2.out _ (by assumption)).mono ?_; rintro e w2 ⟨rfl, hg2⟩)
    | (go_at_call 14; with_reducible refine (K3.out _ (by assumption)).mono ?_; rintro e w3 ⟨rfl, hg3⟩)
    | (go_at_call 12; refine (alive_g w _ (by assumption)).mono ?_; rintro e w' ⟨rfl, hga⟩))
    go_ret
    exact ⟨rfl, by assumption⟩
  by_cases e3 : v1 ≠ 0
  · have eb3 := errno_ne e3
    go_enter Tryd.func7, Tryd.ntmps7
    go_wp2_with (first
    | (go_at_call 14; with_reducible refine (K1.out _ (by assumption)).mono ?_; rintro e w1 ⟨rfl, hg1⟩)
    | (go_at_call 14; with_reducible refine (K2.out _ (by assumption)).mono ?_; rintro e w2 ⟨rfl, hg2⟩)
    | (go_at_call 14; with_reducible refine (K3.out _ (by assumption)).mono ?_; rintro e w3 ⟨rfl, hg3⟩)
    | (go_at_call 12; refine (alive_g w _ (by assumption)).mono ?_; rintro e w' ⟨rfl, hga⟩))
    go_ret
    exact ⟨rfl, by assumption⟩
  replace e3 : v1 = 0 := by omega
  subst e3
  by_cases e4 : v2 ≠ 0
  · have eb4 := errno_ne e4
    go_enter Tryd.func7, Tryd.ntmps7
    go_wp2_with (first
    | (go_at_call 14; with_reducible refine (K1.out _ (by assumption)).mono ?_; rintro e w1 ⟨rfl, hg1⟩)
    | (go_at_call 14; with_reducible refine (K2.out _ (by assumption)).mono ?_; rintro e w2 ⟨rfl, hg2⟩)
    | (go_at_call 14; with_reducible refine (K3.out _ (by assumption)).mono ?_; rintro e w3 ⟨rfl, hg3⟩)
    | (go_at_call 12; refine (alive_g w _ (by assumption)).mono ?_; rintro e w' ⟨rfl, hga⟩))
    go_ret
    exact ⟨rfl, by assumption⟩
  replace e4 : v2 = 0 := by omega
  subst e4
  by_cases e5 : v3 ≠ 0
  · have eb5 := errno_ne e5
    go_enter Tryd.func7, Tryd.ntmps7
    go_wp2_with (first
    | (go_at_call 14; with_reducible refine (K1.out _ (by assumption)).mono ?_; rintro e w1 ⟨rfl, hg1⟩)
    | (go_at_call 14; with_reducible refine (K2.out _ (by assumption)).mono ?_; rintro e w2 ⟨rfl, hg2⟩)
    | (go_at_call 14; with_reducible refine (K3.out _ (by assumption)).mono ?_; rintro e w3 ⟨rfl, hg3⟩)
    | (go_at_call 12; refine (alive_g w _ (by assumption)).mono ?_; rintro e w' ⟨rfl, hga⟩))
    go_ret
    exact ⟨rfl, by assumption⟩
  replace e5 : v3 = 0 := by omega
  subst e5
  by_cases e6 : f < 7
  · go_enter Tryd.func7, Tryd.ntmps7
    go_wp2_with (first
    | (go_at_call 14; with_reducible refine (K1.out _ (by assumption)).mono ?_; rintro e w1 ⟨rfl, hg1⟩)
    | (go_at_call 14; with_reducible refine (K2.out _ (by assumption)).mono ?_; rintro e w2 ⟨rfl, hg2⟩)
    | (go_at_call 14; with_reducible refine (K3.out _ (by assumption)).mono ?_; rintro e w3 ⟨rfl, hg3⟩)
    | (go_at_call 12; refine (alive_g w _ (by assumption)).mono ?_; rintro e w' ⟨rfl, hga⟩))
    go_ret
    exact ⟨rfl, by assumption⟩
  by_cases e7 : 19 < f
  · go_enter Tryd.func7, Tryd.ntmps7
    go_wp2_with (first
    | (go_at_call 14; with_reducible refine (K1.out _ (by assumption)).mono ?_; rintro e w1 ⟨rfl, hg1⟩)
    | (go_at_call 14; with_reducible refine (K2.out _ (by assumption)).mono ?_; rintro e w2 ⟨rfl, hg2⟩)
    | (go_at_call 14; with_reducible refine (K3.out _ (by assumption)).mono ?_; rintro e w3 ⟨rfl, hg3⟩)
    | (go_at_call 12; refine (alive_g w _ (by assumption)).mono ?_; rintro e w' ⟨rfl, hga⟩))
    go_ret
    exact ⟨rfl, by assumption⟩
  by_cases e8 : g < 7
  · go_enter Tryd.func7, Tryd.ntmps7
    go_wp2_with (first
    | (go_at_call 14; with_reducible refine (K1.out _ (by assumption)).mono ?_; rintro e w1 ⟨rfl, hg1⟩)
    | (go_at_call 14; with_reducible refine (K2.out _ (by assumption)).mono ?_; rintro e w2 ⟨rfl, hg2⟩)
    | (go_at_call 14; with_reducible refine (K3.out _ (by assumption)).mono ?_; rintro e w3 ⟨rfl, hg3⟩)
    | (go_at_call 12; refine (alive_g w _ (by assumption)).mono ?_; rintro e w' ⟨rfl, hga⟩))
    go_ret
    exact ⟨rfl, by assumption⟩
  have e9 : 19 < g := by have := HO.out; unfold BOut at this; omega
  go_enter Tryd.func7, Tryd.ntmps7
  go_wp2_with (first
    | (go_at_call 14; with_reducible refine (K1.out _ (by assumption)).mono ?_; rintro e w1 ⟨rfl, hg1⟩)
    | (go_at_call 14; with_reducible refine (K2.out _ (by assumption)).mono ?_; rintro e w2 ⟨rfl, hg2⟩)
    | (go_at_call 14; with_reducible refine (K3.out _ (by assumption)).mono ?_; rintro e w3 ⟨rfl, hg3⟩)
    | (go_at_call 12; refine (alive_g w _ (by assumption)).mono ?_; rintro e w' ⟨rfl, hga⟩))
  go_ret
  exact ⟨rfl, by assumption⟩

/-- The text of the law. -/
def bT (a b c : Tr) (f g : Int) : List UInt8 := (([40] ++ a.wr ++ [41]) ++ [32] ++ opB f ++ [32] ++ ([40] ++ b.wr ++ [41])) ++ [32] ++ opB g ++ [32] ++ ([40] ++ c.wr ++ [41])
def bX (a b c : Tr) (f g : Int) : List (List UInt8) := (([[40]] ++ a.tx ++ [[41]]) ++ [opB f] ++ ([[40]] ++ b.tx ++ [[41]])) ++ [opB g] ++ ([[40]] ++ c.tx ++ [[41]])
theorem bT_bytes (A B C F G : ByteArray) (a b c f g : List UInt8) (hA : A = bytesOf a) (hB : B = bytesOf b) (hC : C = bytesOf c) (hF : F = bytesOf f) (hG : G = bytesOf g) :
    ((((((((((⟨#[40]⟩ : ByteArray) ++ A) ++ ⟨#[41, 32]⟩) ++ F) ++ ⟨#[32, 40]⟩) ++ B) ++ ⟨#[41, 32]⟩) ++ G) ++ ⟨#[32, 40]⟩) ++ C) ++ ⟨#[41]⟩ = bytesOf ((([40] ++ a ++ [41]) ++ [32] ++ f ++ [32] ++ ([40] ++ b ++ [41])) ++ [32] ++ g ++ [32] ++ ([40] ++ c ++ [41])) := by
  subst hA hB hC hF hG
  rw [show (⟨#[40]⟩ : ByteArray) = bytesOf [40] from rfl, show (⟨#[41, 32]⟩ : ByteArray) = bytesOf [41, 32] from rfl, show (⟨#[32, 40]⟩ : ByteArray) = bytesOf [32, 40] from rfl, show (⟨#[41]⟩ : ByteArray) = bytesOf [41] from rfl]
  simp only [bytes_app]
  congr 1
  simp
end Go.Proofs.YtoobggcopoljcaaDoor
