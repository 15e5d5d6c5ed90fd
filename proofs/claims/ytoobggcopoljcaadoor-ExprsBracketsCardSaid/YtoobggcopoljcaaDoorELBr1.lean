/- ExprsBrackets: the region that draws. -/
import Derived.Test.YtoobggcopoljcaaDoorELBack
import Derived.Test.YtoobggcopoljcaaDoorEAsk
import Derived.Test.YtoobggcopoljcaaDoorEBrk
import Derived.Test.YtoobggcopoljcaaDoorETApp
import Derived.Test.YtoobggcopoljcaaDoorENm1
import Derived.Deep.RegionHeld3
import Derived.Outline
import Derived.Tactics2
import Derived.Deep.DeepCutAuto
import Derived.Deep.CutBlock


namespace Go.Proofs.YtoobggcopoljcaaDoor
open Go.ChangeShapes Go.WideShapes Go.ChangeAt Go.RowKit N4
set_option linter.unusedVariables false
set_option linter.unusedSimpArgs false
set_option maxRecDepth 100000

section
variable {P : Program} {ops : Array Oper} {Q : Exit → Act → World → Prop} {md : Region.Mode} {S : World → Prop}
/-- An operation whose guard says no. -/
theorem take_no {i d : Nat} {oi : Oper} {fuel : Nat} {listed : Array Bool} {a : Act} {w : World} (hi : ops[i]? = some oi) (hd : oi.dst = some d)
    (hs : Region.noSelect ops = true) (hf : Region.free md ops listed i = true) (hr : (Region.ready md ops listed).contains i = true)
    (hQ : ∀ c a w, Q (.panic c) (a.put (some d) undef) w → Q (.panic c) a w) (hw : Region.wanted oi (yielded ops a.tmps) = false) (hS : S w)
    (h : wpAnyH P md ops Q S fuel (listed.setIfInBounds i true) (a.put (some d) undef) w) : wpAnyH P md ops Q S (fuel + 1) listed a w :=
  wpAnyH_take hi hs hf hr (by rw [hd]; exact hQ) (Or.inr ⟨hw, rfl⟩) hS (by rw [hd]; exact h)
/-- One that yields in every world that meets S. -/
theorem take_yes {i d : Nat} {oi : Oper} {v : Value} {fuel : Nat} {listed : Array Bool} {a : Act} {w : World} (hi : ops[i]? = some oi) (hd : oi.dst = some d)
    (hs : Region.noSelect ops = true) (hf : Region.free md ops listed i = true) (hr : (Region.ready md ops listed).contains i = true)
    (hQ : ∀ c a w, Q (.panic c) (a.put (some d) v) w → Q (.panic c) a w) (hw : Region.wanted oi (yielded ops a.tmps) = true) (hv : ∀ w, S w → (execOp a.eval oi).run P w = .ok (.value v) w) (hS : S w)
    (h : wpAnyH P md ops Q S fuel (listed.setIfInBounds i true) (a.put (some d) v) w) : wpAnyH P md ops Q S (fuel + 1) listed a w :=
  wpAnyH_take hi hs hf hr (by rw [hd]; exact hQ) (Or.inl ⟨hw, hv⟩) hS (by rw [hd]; exact h)
end

/-- The token behind, in its block, and the world. -/
def BS (w : World) (b : Nat) (k a : Int) (s : ByteArray) (W : World) : Prop := G5 w W ∧ b < W.heap.size ∧ W.cell? ⟨b, 0, none⟩ = some (.int .u8 k) ∧ W.cell? ⟨b, 1, none⟩ = some (.string s) ∧ W.cell? ⟨b, 2, none⟩ = some (.int .i64 a)
theorem BS.step {w W W' : World} {b : Nat} {k a : Int} {s : ByteArray} (h : BS w b k a s W) (hb : Below W.heap.size W W') : BS w b k a s W' :=
  ⟨h.1.step hb, Nat.lt_of_lt_of_le h.2.1 hb.size, by rw [hb.cell (p := ⟨b, 0, none⟩) h.2.1]; exact h.2.2.1, by rw [hb.cell (p := ⟨b, 1, none⟩) h.2.1]; exact h.2.2.2.1, by rw [hb.cell (p := ⟨b, 2, none⟩) h.2.1]; exact h.2.2.2.2⟩
theorem BS.new (w : World) (hg : G5 w w) (k a : Int) (s : ByteArray) (t : TypeId) : BS w w.heap.size k a s (w.alloc (.cells #[.int .u8 k, .string s, .int .i64 a] t)).drew := by
  have h0 : BS w w.heap.size k a s (w.alloc (.cells #[.int .u8 k, .string s, .int .i64 a] t)) := ⟨hg.step ((Below.refl w.heap.size w).alloc (Nat.le_refl _) _), by simp, by go_simp, by go_simp, by go_simp⟩
  exact h0.step (bd_drewN _ 1)

set_option maxHeartbeats 4000000 in
theorem brk_great (A1 A2 : Option Addr) (c1 c2 n1 n2 : Nat) (k a : Int) (s : List UInt8) (w : World) (hg : G5 w w) (h : 70 < n1) :
    Calls Tryd.prog 6 #[.slice A1 n1 c1, .slice A2 n2 c2, .agg #[.int .u8 k, .string (bytesOf s), .int .i64 a]] w fun e w' => e = .returned (.bool true) ∧ G5 w w' := by
  have HA := Lib.hid (fun W => N4.great_any A1 n1 c1 W true (by simpa using h))
  have HS := Lib.hid (BS.new w hg k a (bytesOf s) 33)
  have HG := Lib.hid hg
  clear hg
  go_enter Tryd.func6, Tryd.ntmps6
  go_upto_region 1 with fail
  refine wp_region_held_drew (S := BS w w.heap.size k a (bytesOf s)) (by kernel_rfl) HS.out (fun hHeld => ?_)
  refine take_yes (i := 0) (d := 21) (v := ?v0) rfl rfl (by kernel_rfl) (by kernel_rfl) (by kernel_rfl) (fun _ _ _ h => h) (by rfl) ?y0 (by assumption) ?z0
  case y0 => (intro w' hSw; (try unfold BS at hSw); go_split_ands; go_simp; try with_reducible rfl)
  try simp only [Act.put, List.setIfInBounds_toArray, List.set_cons_zero, List.set_cons_succ]
  refine wpAnyH_ready (rs := [1]) (by kernel_rfl) (by simp) ?_
  refine AllReadyH.cons rfl (fun K hK => ?_) AllReadyH.nil
  go_simp
  (go_at_call 13; refine (HA.out _).mono ?_; rintro e w' ⟨rfl, rfl⟩)
  refine hK.out _ _ (by assumption) (fun hHeld => ?_)
  clear hK K
  try simp only [Act.put, List.setIfInBounds_toArray, List.set_cons_zero, List.set_cons_succ]
  refine take_yes (i := 2) (d := 23) (v := ?v2) rfl rfl (by kernel_rfl) (by kernel_rfl) (by kernel_rfl) (fun _ _ _ h => h) (by rfl) ?y2 (by assumption) ?z2
  case y2 => (intro w' hSw; (try unfold BS at hSw); go_split_ands; go_simp; try with_reducible rfl)
  try simp only [Act.put, List.setIfInBounds_toArray, List.set_cons_zero, List.set_cons_succ]
  refine take_no (i := 3) (d := 24) rfl rfl (by kernel_rfl) (by kernel_rfl) (by kernel_rfl) (fun _ _ _ h => h) (by rfl) (by assumption) ?_
  try simp only [Act.put, List.setIfInBounds_toArray, List.set_cons_zero, List.set_cons_succ]
  refine take_no (i := 4) (d := 25) rfl rfl (by kernel_rfl) (by kernel_rfl) (by kernel_rfl) (fun _ _ _ h => h) (by rfl) (by assumption) ?_
  try simp only [Act.put, List.setIfInBounds_toArray, List.set_cons_zero, List.set_cons_succ]
  refine take_no (i := 5) (d := 26) rfl rfl (by kernel_rfl) (by kernel_rfl) (by kernel_rfl) (fun _ _ _ h => h) (by rfl) (by assumption) ?_
  try simp only [Act.put, List.setIfInBounds_toArray, List.set_cons_zero, List.set_cons_succ]
  refine take_yes (i := 6) (d := 27) (v := ?v6) rfl rfl (by kernel_rfl) (by kernel_rfl) (by kernel_rfl) (fun _ _ _ h => h) (by rfl) ?y6 (by assumption) ?z6
  case y6 => (intro w' hSw; (try unfold BS at hSw); go_split_ands; go_simp; try with_reducible rfl)
  try simp only [Act.put, List.setIfInBounds_toArray, List.set_cons_zero, List.set_cons_succ]
  refine take_yes (i := 7) (d := 28) (v := ?v7) rfl rfl (by kernel_rfl) (by kernel_rfl) (by kernel_rfl) (fun _ _ _ h => h) (by rfl) ?y7 (by assumption) ?z7
  case y7 => (intro w' hSw; (try unfold BS at hSw); go_split_ands; go_simp; try with_reducible rfl)
  try simp only [Act.put, List.setIfInBounds_toArray, List.set_cons_zero, List.set_cons_succ]
  refine take_no (i := 8) (d := 29) rfl rfl (by kernel_rfl) (by kernel_rfl) (by kernel_rfl) (fun _ _ _ h => h) (by rfl) (by assumption) ?_
  try simp only [Act.put, List.setIfInBounds_toArray, List.set_cons_zero, List.set_cons_succ]
  refine take_no (i := 9) (d := 30) rfl rfl (by kernel_rfl) (by kernel_rfl) (by kernel_rfl) (fun _ _ _ h => h) (by rfl) (by assumption) ?_
  try simp only [Act.put, List.setIfInBounds_toArray, List.set_cons_zero, List.set_cons_succ]
  refine take_no (i := 10) (d := 31) rfl rfl (by kernel_rfl) (by kernel_rfl) (by kernel_rfl) (fun _ _ _ h => h) (by rfl) (by assumption) ?_
  try simp only [Act.put, List.setIfInBounds_toArray, List.set_cons_zero, List.set_cons_succ]
  refine take_yes (i := 11) (d := 32) (v := ?v11) rfl rfl (by kernel_rfl) (by kernel_rfl) (by kernel_rfl) (fun _ _ _ h => h) (by rfl) ?y11 (by assumption) ?z11
  case y11 => (intro w' hSw; (try unfold BS at hSw); go_split_ands; go_simp; try with_reducible rfl)
  try simp only [Act.put, List.setIfInBounds_toArray, List.set_cons_zero, List.set_cons_succ]
  refine take_yes (i := 12) (d := 33) (v := ?v12) rfl rfl (by kernel_rfl) (by kernel_rfl) (by kernel_rfl) (fun _ _ _ h => h) (by rfl) ?y12 (by assumption) ?z12
  case y12 => (intro w' hSw; (try unfold BS at hSw); go_split_ands; go_simp; try with_reducible rfl)
  try simp only [Act.put, List.setIfInBounds_toArray, List.set_cons_zero, List.set_cons_succ]
  refine take_no (i := 13) (d := 34) rfl rfl (by kernel_rfl) (by kernel_rfl) (by kernel_rfl) (fun _ _ _ h => h) (by rfl) (by assumption) ?_
  try simp only [Act.put, List.setIfInBounds_toArray, List.set_cons_zero, List.set_cons_succ]
  refine take_no (i := 14) (d := 35) rfl rfl (by kernel_rfl) (by kernel_rfl) (by kernel_rfl) (fun _ _ _ h => h) (by rfl) (by assumption) ?_
  try simp only [Act.put, List.setIfInBounds_toArray, List.set_cons_zero, List.set_cons_succ]
  refine take_no (i := 15) (d := 36) rfl rfl (by kernel_rfl) (by kernel_rfl) (by kernel_rfl) (fun _ _ _ h => h) (by rfl) (by assumption) ?_
  try simp only [Act.put, List.setIfInBounds_toArray, List.set_cons_zero, List.set_cons_succ]
  refine take_no (i := 16) (d := 37) rfl rfl (by kernel_rfl) (by kernel_rfl) (by kernel_rfl) (fun _ _ _ h => h) (by rfl) (by assumption) ?_
  try simp only [Act.put, List.setIfInBounds_toArray, List.set_cons_zero, List.set_cons_succ]
  refine take_no (i := 17) (d := 38) rfl rfl (by kernel_rfl) (by kernel_rfl) (by kernel_rfl) (fun _ _ _ h => h) (by rfl) (by assumption) ?_
  try simp only [Act.put, List.setIfInBounds_toArray, List.set_cons_zero, List.set_cons_succ]
  refine take_no (i := 18) (d := 39) rfl rfl (by kernel_rfl) (by kernel_rfl) (by kernel_rfl) (fun _ _ _ h => h) (by rfl) (by assumption) ?_
  try simp only [Act.put, List.setIfInBounds_toArray, List.set_cons_zero, List.set_cons_succ]
  refine take_no (i := 19) (d := 40) rfl rfl (by kernel_rfl) (by kernel_rfl) (by kernel_rfl) (fun _ _ _ h => h) (by rfl) (by assumption) ?_
  try simp only [Act.put, List.setIfInBounds_toArray, List.set_cons_zero, List.set_cons_succ]
  refine take_no (i := 20) (d := 41) rfl rfl (by kernel_rfl) (by kernel_rfl) (by kernel_rfl) (fun _ _ _ h => h) (by rfl) (by assumption) ?_
  try simp only [Act.put, List.setIfInBounds_toArray, List.set_cons_zero, List.set_cons_succ]
  refine take_yes (i := 21) (d := 42) (v := ?v21) rfl rfl (by kernel_rfl) (by kernel_rfl) (by kernel_rfl) (fun _ _ _ h => h) (by rfl) ?y21 (by assumption) ?z21
  case y21 => (intro w' hSw; (try unfold BS at hSw); go_split_ands; go_simp; try with_reducible rfl)
  try simp only [Act.put, List.setIfInBounds_toArray, List.set_cons_zero, List.set_cons_succ]
  refine wpAnyH_done (by kernel_rfl) ?_ _
  have HGx := Lib.hid hHeld.1
  go_wp2_with (go_at_call 12; refine (alive_g w _ HGx.out).mono ?_; rintro e w' ⟨rfl, hg⟩; have HG2 := Lib.hid hg; clear hg)
  go_ret
  exact ⟨rfl, HG2.out⟩
set_option maxHeartbeats 4000000 in
theorem brk_bad (A1 A2 : Option Addr) (c1 c2 n1 n2 : Nat) (k a : Int) (s : List UInt8) (w : World) (hg : G5 w w) (h : ¬ 70 < n1) (L : List Nd) (hn : L.length = n1) (ht : Lies w A1 (ndCells L)) (v : Int) (hv : checkF L = v) (h0 : v ≠ 0) :
    Calls Tryd.prog 6 #[.slice A1 n1 c1, .slice A2 n2 c2, .agg #[.int .u8 k, .string (bytesOf s), .int .i64 a]] w fun e w' => e = .returned (.bool true) ∧ G5 w w' := by
  have HA := Lib.hid (fun W => N4.great_any A1 n1 c1 W false (by simpa using h))
  have HC := Lib.hid (fun W (hW : BS w w.heap.size k a (bytesOf s) W) => rcheck_any A1 c1 n1 L W hn (by unfold maxLen; omega) (ht.below hW.1.1) v hv)
  have hvb := errno_ne h0
  have HS := Lib.hid (BS.new w hg k a (bytesOf s) 33)
  have HG := Lib.hid hg
  clear hg
  go_enter Tryd.func6, Tryd.ntmps6
  go_upto_region 1 with fail
  refine wp_region_held_drew (S := BS w w.heap.size k a (bytesOf s)) (by kernel_rfl) HS.out (fun hHeld => ?_)
  refine take_yes (i := 0) (d := 21) (v := ?v0) rfl rfl (by kernel_rfl) (by kernel_rfl) (by kernel_rfl) (fun _ _ _ h => h) (by rfl) ?y0 (by assumption) ?z0
  case y0 => (intro w' hSw; (try unfold BS at hSw); go_split_ands; go_simp; try with_reducible rfl)
  try simp only [Act.put, List.setIfInBounds_toArray, List.set_cons_zero, List.set_cons_succ]
  refine wpAnyH_ready (rs := [1]) (by kernel_rfl) (by simp) ?_
  refine AllReadyH.cons rfl (fun K hK => ?_) AllReadyH.nil
  go_simp
  (go_at_call 13; refine (HA.out _).mono ?_; rintro e w' ⟨rfl, rfl⟩)
  refine hK.out _ _ (by assumption) (fun hHeld => ?_)
  clear hK K
  try simp only [Act.put, List.setIfInBounds_toArray, List.set_cons_zero, List.set_cons_succ]
  refine take_yes (i := 2) (d := 23) (v := ?v2) rfl rfl (by kernel_rfl) (by kernel_rfl) (by kernel_rfl) (fun _ _ _ h => h) (by rfl) ?y2 (by assumption) ?z2
  case y2 => (intro w' hSw; (try unfold BS at hSw); go_split_ands; go_simp; try with_reducible rfl)
  try simp only [Act.put, List.setIfInBounds_toArray, List.set_cons_zero, List.set_cons_succ]
  refine take_yes (i := 3) (d := 24) (v := ?v3) rfl rfl (by kernel_rfl) (by kernel_rfl) (by kernel_rfl) (fun _ _ _ h => h) (by rfl) ?y3 (by assumption) ?z3
  case y3 => (intro w' hSw; (try unfold BS at hSw); go_split_ands; go_simp; try with_reducible rfl)
  try simp only [Act.put, List.setIfInBounds_toArray, List.set_cons_zero, List.set_cons_succ]
  refine wpAnyH_ready (rs := [4]) (by kernel_rfl) (by simp) ?_
  refine AllReadyH.cons rfl (fun K hK => ?_) AllReadyH.nil
  go_simp
  (go_at_call 14; refine (HC.out _ (by assumption)).mono ?_; rintro e w2 ⟨rfl, hb⟩)
  have hB2 := hHeld.step hb
  clear hb
  refine hK.out _ _ (by assumption) (fun hHeld => ?_)
  clear hK K
  try simp only [Act.put, List.setIfInBounds_toArray, List.set_cons_zero, List.set_cons_succ]
  refine take_yes (i := 5) (d := 26) (v := ?v5) rfl rfl (by kernel_rfl) (by kernel_rfl) (by kernel_rfl) (fun _ _ _ h => h) (by rfl) ?y5 (by assumption) ?z5
  case y5 => (intro w' hSw; (try unfold BS at hSw); go_split_ands; go_simp; try with_reducible rfl)
  try simp only [Act.put, List.setIfInBounds_toArray, List.set_cons_zero, List.set_cons_succ]
  refine take_yes (i := 6) (d := 27) (v := ?v6) rfl rfl (by kernel_rfl) (by kernel_rfl) (by kernel_rfl) (fun _ _ _ h => h) (by rfl) ?y6 (by assumption) ?z6
  case y6 => (intro w' hSw; (try unfold BS at hSw); go_split_ands; go_simp; try with_reducible rfl)
  try simp only [Act.put, List.setIfInBounds_toArray, List.set_cons_zero, List.set_cons_succ]
  refine take_yes (i := 7) (d := 28) (v := ?v7) rfl rfl (by kernel_rfl) (by kernel_rfl) (by kernel_rfl) (fun _ _ _ h => h) (by rfl) ?y7 (by assumption) ?z7
  case y7 => (intro w' hSw; (try unfold BS at hSw); go_split_ands; go_simp; try with_reducible rfl)
  try simp only [Act.put, List.setIfInBounds_toArray, List.set_cons_zero, List.set_cons_succ]
  refine take_no (i := 8) (d := 29) rfl rfl (by kernel_rfl) (by kernel_rfl) (by kernel_rfl) (fun _ _ _ h => h) (by rfl) (by assumption) ?_
  try simp only [Act.put, List.setIfInBounds_toArray, List.set_cons_zero, List.set_cons_succ]
  refine take_no (i := 9) (d := 30) rfl rfl (by kernel_rfl) (by kernel_rfl) (by kernel_rfl) (fun _ _ _ h => h) (by rfl) (by assumption) ?_
  try simp only [Act.put, List.setIfInBounds_toArray, List.set_cons_zero, List.set_cons_succ]
  refine take_no (i := 10) (d := 31) rfl rfl (by kernel_rfl) (by kernel_rfl) (by kernel_rfl) (fun _ _ _ h => h) (by rfl) (by assumption) ?_
  try simp only [Act.put, List.setIfInBounds_toArray, List.set_cons_zero, List.set_cons_succ]
  refine take_yes (i := 11) (d := 32) (v := ?v11) rfl rfl (by kernel_rfl) (by kernel_rfl) (by kernel_rfl) (fun _ _ _ h => h) (by rfl) ?y11 (by assumption) ?z11
  case y11 => (intro w' hSw; (try unfold BS at hSw); go_split_ands; go_simp; try with_reducible rfl)
  try simp only [Act.put, List.setIfInBounds_toArray, List.set_cons_zero, List.set_cons_succ]
  refine take_yes (i := 12) (d := 33) (v := ?v12) rfl rfl (by kernel_rfl) (by kernel_rfl) (by kernel_rfl) (fun _ _ _ h => h) (by rfl) ?y12 (by assumption) ?z12
  case y12 => (intro w' hSw; (try unfold BS at hSw); go_split_ands; go_simp; try with_reducible rfl)
  try simp only [Act.put, List.setIfInBounds_toArray, List.set_cons_zero, List.set_cons_succ]
  refine take_no (i := 13) (d := 34) rfl rfl (by kernel_rfl) (by kernel_rfl) (by kernel_rfl) (fun _ _ _ h => h) (by rfl) (by assumption) ?_
  try simp only [Act.put, List.setIfInBounds_toArray, List.set_cons_zero, List.set_cons_succ]
  refine take_no (i := 14) (d := 35) rfl rfl (by kernel_rfl) (by kernel_rfl) (by kernel_rfl) (fun _ _ _ h => h) (by rfl) (by assumption) ?_
  try simp only [Act.put, List.setIfInBounds_toArray, List.set_cons_zero, List.set_cons_succ]
  refine take_no (i := 15) (d := 36) rfl rfl (by kernel_rfl) (by kernel_rfl) (by kernel_rfl) (fun _ _ _ h => h) (by rfl) (by assumption) ?_
  try simp only [Act.put, List.setIfInBounds_toArray, List.set_cons_zero, List.set_cons_succ]
  refine take_no (i := 16) (d := 37) rfl rfl (by kernel_rfl) (by kernel_rfl) (by kernel_rfl) (fun _ _ _ h => h) (by rfl) (by assumption) ?_
  try simp only [Act.put, List.setIfInBounds_toArray, List.set_cons_zero, List.set_cons_succ]
  refine take_no (i := 17) (d := 38) rfl rfl (by kernel_rfl) (by kernel_rfl) (by kernel_rfl) (fun _ _ _ h => h) (by rfl) (by assumption) ?_
  try simp only [Act.put, List.setIfInBounds_toArray, List.set_cons_zero, List.set_cons_succ]
  refine take_no (i := 18) (d := 39) rfl rfl (by kernel_rfl) (by kernel_rfl) (by kernel_rfl) (fun _ _ _ h => h) (by rfl) (by assumption) ?_
  try simp only [Act.put, List.setIfInBounds_toArray, List.set_cons_zero, List.set_cons_succ]
  refine take_no (i := 19) (d := 40) rfl rfl (by kernel_rfl) (by kernel_rfl) (by kernel_rfl) (fun _ _ _ h => h) (by rfl) (by assumption) ?_
  try simp only [Act.put, List.setIfInBounds_toArray, List.set_cons_zero, List.set_cons_succ]
  refine take_no (i := 20) (d := 41) rfl rfl (by kernel_rfl) (by kernel_rfl) (by kernel_rfl) (fun _ _ _ h => h) (by rfl) (by assumption) ?_
  try simp only [Act.put, List.setIfInBounds_toArray, List.set_cons_zero, List.set_cons_succ]
  refine take_yes (i := 21) (d := 42) (v := ?v21) rfl rfl (by kernel_rfl) (by kernel_rfl) (by kernel_rfl) (fun _ _ _ h => h) (by rfl) ?y21 (by assumption) ?z21
  case y21 => (intro w' hSw; (try unfold BS at hSw); go_split_ands; go_simp; try with_reducible rfl)
  try simp only [Act.put, List.setIfInBounds_toArray, List.set_cons_zero, List.set_cons_succ]
  refine wpAnyH_done (by kernel_rfl) ?_ _
  have HGx := Lib.hid hHeld.1
  go_wp2_with (go_at_call 12; refine (alive_g w _ HGx.out).mono ?_; rintro e w' ⟨rfl, hg⟩; have HG2 := Lib.hid hg; clear hg)
  go_ret
  exact ⟨rfl, HG2.out⟩
set_option maxHeartbeats 4000000 in
theorem brk_long (A1 A2 : Option Addr) (c1 c2 n1 n2 : Nat) (k a : Int) (s : List UInt8) (w : World) (hg : G5 w w) (h : ¬ 70 < n1) (L : List Nd) (hn : L.length = n1) (ht : Lies w A1 (ndCells L)) (hv : checkF L = 0) (h2 : 30 < n2) :
    Calls Tryd.prog 6 #[.slice A1 n1 c1, .slice A2 n2 c2, .agg #[.int .u8 k, .string (bytesOf s), .int .i64 a]] w fun e w' => e = .returned (.bool true) ∧ G5 w w' := by
  have HA := Lib.hid (fun W => N4.great_any A1 n1 c1 W false (by simpa using h))
  have HC := Lib.hid (fun W (hW : BS w w.heap.size k a (bytesOf s) W) => rcheck_any A1 c1 n1 L W hn (by unfold maxLen; omega) (ht.below hW.1.1) 0 hv)
  have hi2 : (30 : Int) < n2 := by omega
  have HS := Lib.hid (BS.new w hg k a (bytesOf s) 33)
  have HG := Lib.hid hg
  clear hg
  go_enter Tryd.func6, Tryd.ntmps6
  go_upto_region 1 with fail
  refine wp_region_held_drew (S := BS w w.heap.size k a (bytesOf s)) (by kernel_rfl) HS.out (fun hHeld => ?_)
  refine take_yes (i := 0) (d := 21) (v := ?v0) rfl rfl (by kernel_rfl) (by kernel_rfl) (by kernel_rfl) (fun _ _ _ h => h) (by rfl) ?y0 (by assumption) ?z0
  case y0 => (intro w' hSw; (try unfold BS at hSw); go_split_ands; go_simp; try with_reducible rfl)
  try simp only [Act.put, List.setIfInBounds_toArray, List.set_cons_zero, List.set_cons_succ]
  refine wpAnyH_ready (rs := [1]) (by kernel_rfl) (by simp) ?_
  refine AllReadyH.cons rfl (fun K hK => ?_) AllReadyH.nil
  go_simp
  (go_at_call 13; refine (HA.out _).mono ?_; rintro e w' ⟨rfl, rfl⟩)
  refine hK.out _ _ (by assumption) (fun hHeld => ?_)
  clear hK K
  try simp only [Act.put, List.setIfInBounds_toArray, List.set_cons_zero, List.set_cons_succ]
  refine take_yes (i := 2) (d := 23) (v := ?v2) rfl rfl (by kernel_rfl) (by kernel_rfl) (by kernel_rfl) (fun _ _ _ h => h) (by rfl) ?y2 (by assumption) ?z2
  case y2 => (intro w' hSw; (try unfold BS at hSw); go_split_ands; go_simp; try with_reducible rfl)
  try simp only [Act.put, List.setIfInBounds_toArray, List.set_cons_zero, List.set_cons_succ]
  refine take_yes (i := 3) (d := 24) (v := ?v3) rfl rfl (by kernel_rfl) (by kernel_rfl) (by kernel_rfl) (fun _ _ _ h => h) (by rfl) ?y3 (by assumption) ?z3
  case y3 => (intro w' hSw; (try unfold BS at hSw); go_split_ands; go_simp; try with_reducible rfl)
  try simp only [Act.put, List.setIfInBounds_toArray, List.set_cons_zero, List.set_cons_succ]
  refine wpAnyH_ready (rs := [4]) (by kernel_rfl) (by simp) ?_
  refine AllReadyH.cons rfl (fun K hK => ?_) AllReadyH.nil
  go_simp
  (go_at_call 14; refine (HC.out _ (by assumption)).mono ?_; rintro e w2 ⟨rfl, hb⟩)
  have hB2 := hHeld.step hb
  clear hb
  refine hK.out _ _ (by assumption) (fun hHeld => ?_)
  clear hK K
  try simp only [Act.put, List.setIfInBounds_toArray, List.set_cons_zero, List.set_cons_succ]
  refine take_yes (i := 5) (d := 26) (v := ?v5) rfl rfl (by kernel_rfl) (by kernel_rfl) (by kernel_rfl) (fun _ _ _ h => h) (by rfl) ?y5 (by assumption) ?z5
  case y5 => (intro w' hSw; (try unfold BS at hSw); go_split_ands; go_simp; try with_reducible rfl)
  try simp only [Act.put, List.setIfInBounds_toArray, List.set_cons_zero, List.set_cons_succ]
  refine take_yes (i := 6) (d := 27) (v := ?v6) rfl rfl (by kernel_rfl) (by kernel_rfl) (by kernel_rfl) (fun _ _ _ h => h) (by rfl) ?y6 (by assumption) ?z6
  case y6 => (intro w' hSw; (try unfold BS at hSw); go_split_ands; go_simp; try with_reducible rfl)
  try simp only [Act.put, List.setIfInBounds_toArray, List.set_cons_zero, List.set_cons_succ]
  refine take_yes (i := 7) (d := 28) (v := ?v7) rfl rfl (by kernel_rfl) (by kernel_rfl) (by kernel_rfl) (fun _ _ _ h => h) (by rfl) ?y7 (by assumption) ?z7
  case y7 => (intro w' hSw; (try unfold BS at hSw); go_split_ands; go_simp; try with_reducible rfl)
  try simp only [Act.put, List.setIfInBounds_toArray, List.set_cons_zero, List.set_cons_succ]
  refine take_yes (i := 8) (d := 29) (v := ?v8) rfl rfl (by kernel_rfl) (by kernel_rfl) (by kernel_rfl) (fun _ _ _ h => h) (by rfl) ?y8 (by assumption) ?z8
  case y8 => (intro w' hSw; (try unfold BS at hSw); go_split_ands; go_simp; try with_reducible rfl)
  try simp only [Act.put, List.setIfInBounds_toArray, List.set_cons_zero, List.set_cons_succ]
  refine take_yes (i := 9) (d := 30) (v := ?v9) rfl rfl (by kernel_rfl) (by kernel_rfl) (by kernel_rfl) (fun _ _ _ h => h) (by rfl) ?y9 (by assumption) ?z9
  case y9 => (intro w' hSw; (try unfold BS at hSw); go_split_ands; go_simp; try with_reducible rfl)
  try simp only [Act.put, List.setIfInBounds_toArray, List.set_cons_zero, List.set_cons_succ]
  refine take_yes (i := 10) (d := 31) (v := ?v10) rfl rfl (by kernel_rfl) (by kernel_rfl) (by kernel_rfl) (fun _ _ _ h => h) (by rfl) ?y10 (by assumption) ?z10
  case y10 => (intro w' hSw; (try unfold BS at hSw); go_split_ands; go_simp; try with_reducible rfl)
  try simp only [Act.put, List.setIfInBounds_toArray, List.set_cons_zero, List.set_cons_succ]
  refine take_yes (i := 11) (d := 32) (v := ?v11) rfl rfl (by kernel_rfl) (by kernel_rfl) (by kernel_rfl) (fun _ _ _ h => h) (by rfl) ?y11 (by assumption) ?z11
  case y11 => (intro w' hSw; (try unfold BS at hSw); go_split_ands; go_simp; try with_reducible rfl)
  try simp only [Act.put, List.setIfInBounds_toArray, List.set_cons_zero, List.set_cons_succ]
  refine take_yes (i := 12) (d := 33) (v := ?v12) rfl rfl (by kernel_rfl) (by kernel_rfl) (by kernel_rfl) (fun _ _ _ h => h) (by rfl) ?y12 (by assumption) ?z12
  case y12 => (intro w' hSw; (try unfold BS at hSw); go_split_ands; go_simp; try with_reducible rfl)
  try simp only [Act.put, List.setIfInBounds_toArray, List.set_cons_zero, List.set_cons_succ]
  refine take_no (i := 13) (d := 34) rfl rfl (by kernel_rfl) (by kernel_rfl) (by kernel_rfl) (fun _ _ _ h => h) (by rfl) (by assumption) ?_
  try simp only [Act.put, List.setIfInBounds_toArray, List.set_cons_zero, List.set_cons_succ]
  refine take_no (i := 14) (d := 35) rfl rfl (by kernel_rfl) (by kernel_rfl) (by kernel_rfl) (fun _ _ _ h => h) (by rfl) (by assumption) ?_
  try simp only [Act.put, List.setIfInBounds_toArray, List.set_cons_zero, List.set_cons_succ]
  refine take_no (i := 15) (d := 36) rfl rfl (by kernel_rfl) (by kernel_rfl) (by kernel_rfl) (fun _ _ _ h => h) (by rfl) (by assumption) ?_
  try simp only [Act.put, List.setIfInBounds_toArray, List.set_cons_zero, List.set_cons_succ]
  refine take_no (i := 16) (d := 37) rfl rfl (by kernel_rfl) (by kernel_rfl) (by kernel_rfl) (fun _ _ _ h => h) (by rfl) (by assumption) ?_
  try simp only [Act.put, List.setIfInBounds_toArray, List.set_cons_zero, List.set_cons_succ]
  refine take_no (i := 17) (d := 38) rfl rfl (by kernel_rfl) (by kernel_rfl) (by kernel_rfl) (fun _ _ _ h => h) (by rfl) (by assumption) ?_
  try simp only [Act.put, List.setIfInBounds_toArray, List.set_cons_zero, List.set_cons_succ]
  refine take_no (i := 18) (d := 39) rfl rfl (by kernel_rfl) (by kernel_rfl) (by kernel_rfl) (fun _ _ _ h => h) (by rfl) (by assumption) ?_
  try simp only [Act.put, List.setIfInBounds_toArray, List.set_cons_zero, List.set_cons_succ]
  refine take_no (i := 19) (d := 40) rfl rfl (by kernel_rfl) (by kernel_rfl) (by kernel_rfl) (fun _ _ _ h => h) (by rfl) (by assumption) ?_
  try simp only [Act.put, List.setIfInBounds_toArray, List.set_cons_zero, List.set_cons_succ]
  refine take_no (i := 20) (d := 41) rfl rfl (by kernel_rfl) (by kernel_rfl) (by kernel_rfl) (fun _ _ _ h => h) (by rfl) (by assumption) ?_
  try simp only [Act.put, List.setIfInBounds_toArray, List.set_cons_zero, List.set_cons_succ]
  refine take_yes (i := 21) (d := 42) (v := ?v21) rfl rfl (by kernel_rfl) (by kernel_rfl) (by kernel_rfl) (fun _ _ _ h => h) (by rfl) ?y21 (by assumption) ?z21
  case y21 => (intro w' hSw; (try unfold BS at hSw); go_split_ands; go_simp; try with_reducible rfl)
  try simp only [Act.put, List.setIfInBounds_toArray, List.set_cons_zero, List.set_cons_succ]
  refine wpAnyH_done (by kernel_rfl) ?_ _
  have HGx := Lib.hid hHeld.1
  go_wp2_with (go_at_call 12; refine (alive_g w _ HGx.out).mono ?_; rintro e w' ⟨rfl, hg⟩; have HG2 := Lib.hid hg; clear hg)
  go_ret
  exact ⟨rfl, HG2.out⟩
theorem src_grown {W W' : World} {row : Option Nat} {b m c : Nat} {M : List Tok} (h : Src W (some ⟨b, 0, none⟩) m c M) (hg : W.grownBy W' row) (hne : row ≠ some b) : Src W' (some ⟨b, 0, none⟩) m c M := by
  refine ⟨?_, h.2⟩
  rcases h.1 with h0 | ⟨ad, h1, h2, h3⟩
  · exact .inl h0
  · injection h1 with h1
    subst h1
    refine .inr ⟨_, rfl, Nat.lt_of_lt_of_le h2 hg.size, fun j u hu => hg.cell (h3 j u hu) ?_⟩
    rw [show ((⟨b, 0, none⟩ : Addr).add j).block = b by unfold Addr.add; split <;> rfl]
    exact Ne.symm hne
theorem Src.step {W W' : World} {A : Option Addr} {m c : Nat} {M : List Tok} (h : Src W A m c M) (hb : Below W.heap.size W W') : Src W' A m c M := ⟨h.1.below hb, h.2⟩
theorem bs_app {w W W' : World} {k a : Int} {s : ByteArray} {v v' : Value} {n m : Nat} {L M : List Tok} (hT : TB w) (ho : Ow w.heap.size W v n L) (hv : BS w w.heap.size k a s W) (hm : M.length = m)
    (h1 : W'.ownsRow (w.heap.size + 1) 33 3 v' (n + m) (tokCells (L ++ M))) (h2 : W.grownBy W' v.ownBlock) : Ow w.heap.size W' v' (n + m) (L ++ M) ∧ BS w w.heap.size k a s W' := by
  have hb : Below w.heap.size w W' := hv.1.1.grown h2 hv.1.1.size (fun k hk => by have := (ho.1.lt k hk).1; omega)
  have hne := ho.ne
  refine ⟨⟨h1, by rw [List.length_append, ho.2, hm]⟩, ⟨hb, hT.stays hb⟩, Nat.lt_of_lt_of_le hv.2.1 h2.size, h2.cell hv.2.2.1 (Ne.symm hne), h2.cell hv.2.2.2.1 (Ne.symm hne), h2.cell hv.2.2.2.2 (Ne.symm hne)⟩
set_option maxHeartbeats 8000000 in
theorem brk_ask (A1 A2 : Option Addr) (c1 c2 n1 n2 : Nat) (k a : Int) (s : List UInt8) (w : World) (hg : G5 w w) (h : ¬ 70 < n1) (L : List Nd) (hn : L.length = n1) (ht : Lies w A1 (ndCells L)) (hv : checkF L = 0) (h2 : ¬ 30 < n2) (F : List Tok) (hFn : F.length = n2) (hF : Toks w A2 F) (hFa : (A2 = none ∧ c2 = 0 ∧ n2 = 0) ∨ ∃ ad, A2 = some ad) (hFs : ∀ t ∈ F, t.s.length ≤ maxLen) (hsl : s.length ≤ maxLen) (v : Int) (hav : askF (F ++ [⟨k, s, a⟩]) 0 = v) (h0 : v ≠ 0) :
    Calls Tryd.prog 6 #[.slice A1 n1 c1, .slice A2 n2 c2, .agg #[.int .u8 k, .string (bytesOf s), .int .i64 a]] w fun e w' => e = .returned (.bool true) ∧ G5 w w' := by
  have HA := Lib.hid (fun W => N4.great_any A1 n1 c1 W false (by simpa using h))
  have HC := Lib.hid (fun W (hW : BS w w.heap.size k a (bytesOf s) W) => rcheck_any A1 c1 n1 L W hn (by unfold maxLen; omega) (ht.below hW.1.1) 0 hv)
  have hi2 : ¬ (30 : Int) < n2 := by omega
  have HF := Lib.hid (fun W (hW : BS w w.heap.size k a (bytesOf s) W) => (⟨hF.below hW.1.1, hFn, hFa⟩ : Src W A2 n2 c2 F))
  have HK := Lib.hid (fun A c W (hW : BS w w.heap.size k a (bytesOf s) W) (ht : Toks W A (F ++ [⟨k, s, a⟩])) => asked_any A c (n2 + 1) (F ++ [⟨k, s, a⟩]) 0 W (by simp [hFn]) (by unfold maxLen; omega) ht (by intro t ht; rcases List.mem_append.1 ht with ht | ht; exact hFs t ht; simp only [List.mem_singleton] at ht; subst ht; exact hsl) v hav)
  have hvb := errno_ne h0
  clear hF hFa hFs hsl ht hv hav hn
  have HS := Lib.hid (BS.new w hg k a (bytesOf s) 33)
  have HG := Lib.hid hg
  clear hg
  go_enter Tryd.func6, Tryd.ntmps6
  go_upto_region 1 with fail
  refine wp_region_held_drew (S := BS w w.heap.size k a (bytesOf s)) (by kernel_rfl) HS.out (fun hHeld => ?_)
  refine take_yes (i := 0) (d := 21) (v := ?v0) rfl rfl (by kernel_rfl) (by kernel_rfl) (by kernel_rfl) (fun _ _ _ h => h) (by rfl) ?y0 (by assumption) ?z0
  case y0 => (intro w' hSw; (try unfold BS at hSw); go_split_ands; go_simp; try with_reducible rfl)
  try simp only [Act.put, List.setIfInBounds_toArray, List.set_cons_zero, List.set_cons_succ]
  refine wpAnyH_ready (rs := [1]) (by kernel_rfl) (by simp) ?_
  refine AllReadyH.cons rfl (fun K hK => ?_) AllReadyH.nil
  go_simp
  (go_at_call 13; refine (HA.out _).mono ?_; rintro e w' ⟨rfl, rfl⟩)
  refine hK.out _ _ (by assumption) (fun hHeld => ?_)
  clear hK K
  try simp only [Act.put, List.setIfInBounds_toArray, List.set_cons_zero, List.set_cons_succ]
  refine take_yes (i := 2) (d := 23) (v := ?v2) rfl rfl (by kernel_rfl) (by kernel_rfl) (by kernel_rfl) (fun _ _ _ h => h) (by rfl) ?y2 (by assumption) ?z2
  case y2 => (intro w' hSw; (try unfold BS at hSw); go_split_ands; go_simp; try with_reducible rfl)
  try simp only [Act.put, List.setIfInBounds_toArray, List.set_cons_zero, List.set_cons_succ]
  refine take_yes (i := 3) (d := 24) (v := ?v3) rfl rfl (by kernel_rfl) (by kernel_rfl) (by kernel_rfl) (fun _ _ _ h => h) (by rfl) ?y3 (by assumption) ?z3
  case y3 => (intro w' hSw; (try unfold BS at hSw); go_split_ands; go_simp; try with_reducible rfl)
  try simp only [Act.put, List.setIfInBounds_toArray, List.set_cons_zero, List.set_cons_succ]
  refine wpAnyH_ready (rs := [4]) (by kernel_rfl) (by simp) ?_
  refine AllReadyH.cons rfl (fun K hK => ?_) AllReadyH.nil
  go_simp
  (go_at_call 14; refine (HC.out _ (by assumption)).mono ?_; rintro e w2 ⟨rfl, hb⟩)
  have hB2 := hHeld.step hb
  clear hb
  refine hK.out _ _ (by assumption) (fun hHeld => ?_)
  clear hK K
  try simp only [Act.put, List.setIfInBounds_toArray, List.set_cons_zero, List.set_cons_succ]
  refine take_yes (i := 5) (d := 26) (v := ?v5) rfl rfl (by kernel_rfl) (by kernel_rfl) (by kernel_rfl) (fun _ _ _ h => h) (by rfl) ?y5 (by assumption) ?z5
  case y5 => (intro w' hSw; (try unfold BS at hSw); go_split_ands; go_simp; try with_reducible rfl)
  try simp only [Act.put, List.setIfInBounds_toArray, List.set_cons_zero, List.set_cons_succ]
  refine take_yes (i := 6) (d := 27) (v := ?v6) rfl rfl (by kernel_rfl) (by kernel_rfl) (by kernel_rfl) (fun _ _ _ h => h) (by rfl) ?y6 (by assumption) ?z6
  case y6 => (intro w' hSw; (try unfold BS at hSw); go_split_ands; go_simp; try with_reducible rfl)
  try simp only [Act.put, List.setIfInBounds_toArray, List.set_cons_zero, List.set_cons_succ]
  refine take_yes (i := 7) (d := 28) (v := ?v7) rfl rfl (by kernel_rfl) (by kernel_rfl) (by kernel_rfl) (fun _ _ _ h => h) (by rfl) ?y7 (by assumption) ?z7
  case y7 => (intro w' hSw; (try unfold BS at hSw); go_split_ands; go_simp; try with_reducible rfl)
  try simp only [Act.put, List.setIfInBounds_toArray, List.set_cons_zero, List.set_cons_succ]
  refine take_yes (i := 8) (d := 29) (v := ?v8) rfl rfl (by kernel_rfl) (by kernel_rfl) (by kernel_rfl) (fun _ _ _ h => h) (by rfl) ?y8 (by assumption) ?z8
  case y8 => (intro w' hSw; (try unfold BS at hSw); go_split_ands; go_simp; try with_reducible rfl)
  try simp only [Act.put, List.setIfInBounds_toArray, List.set_cons_zero, List.set_cons_succ]
  refine take_yes (i := 9) (d := 30) (v := ?v9) rfl rfl (by kernel_rfl) (by kernel_rfl) (by kernel_rfl) (fun _ _ _ h => h) (by rfl) ?y9 (by assumption) ?z9
  case y9 => (intro w' hSw; (try unfold BS at hSw); go_split_ands; go_simp; try with_reducible rfl)
  try simp only [Act.put, List.setIfInBounds_toArray, List.set_cons_zero, List.set_cons_succ]
  refine take_yes (i := 10) (d := 31) (v := ?v10) rfl rfl (by kernel_rfl) (by kernel_rfl) (by kernel_rfl) (fun _ _ _ h => h) (by rfl) ?y10 (by assumption) ?z10
  case y10 => (intro w' hSw; (try unfold BS at hSw); go_split_ands; go_simp; try with_reducible rfl)
  try simp only [Act.put, List.setIfInBounds_toArray, List.set_cons_zero, List.set_cons_succ]
  refine take_yes (i := 11) (d := 32) (v := ?v11) rfl rfl (by kernel_rfl) (by kernel_rfl) (by kernel_rfl) (fun _ _ _ h => h) (by rfl) ?y11 (by assumption) ?z11
  case y11 => (intro w' hSw; (try unfold BS at hSw); go_split_ands; go_simp; try with_reducible rfl)
  try simp only [Act.put, List.setIfInBounds_toArray, List.set_cons_zero, List.set_cons_succ]
  refine take_yes (i := 12) (d := 33) (v := ?v12) rfl rfl (by kernel_rfl) (by kernel_rfl) (by kernel_rfl) (fun _ _ _ h => h) (by rfl) ?y12 (by assumption) ?z12
  case y12 => (intro w' hSw; (try unfold BS at hSw); go_split_ands; go_simp; try with_reducible rfl)
  try simp only [Act.put, List.setIfInBounds_toArray, List.set_cons_zero, List.set_cons_succ]
  refine take_yes (i := 14) (d := 35) (v := ?v14) rfl rfl (by kernel_rfl) (by kernel_rfl) (by kernel_rfl) (fun _ _ _ h => h) (by rfl) ?y14 (by assumption) ?z14
  case y14 => (intro w' hSw; (try unfold BS at hSw); go_split_ands; go_simp; try with_reducible rfl)
  try simp only [Act.put, List.setIfInBounds_toArray, List.set_cons_zero, List.set_cons_succ]
  refine take_yes (i := 16) (d := 37) (v := ?v16) rfl rfl (by kernel_rfl) (by kernel_rfl) (by kernel_rfl) (fun _ _ _ h => h) (by rfl) ?y16 (by assumption) ?z16
  case y16 => (intro w' hSw; (try unfold BS at hSw); go_split_ands; go_simp; try with_reducible rfl)
  try simp only [Act.put, List.setIfInBounds_toArray, List.set_cons_zero, List.set_cons_succ]
  refine wpAnyH_ready (rs := [13, 17]) (by kernel_rfl) (by simp) ?_
  refine AllReadyH.cons rfl (fun K hK => ?_) (AllReadyH.cons rfl (fun K hK => ?_) AllReadyH.nil)
  · go_simp
    have hO3 := ow_lit w.heap.size (w2) #[] 0 [] rfl rfl (by decide) hB2.2.1
    have hB3 := hB2.step ((Below.refl (w2).heap.size (w2)).alloc (Nat.le_refl _) (.cells #[] 33))
    refine hK.out _ _ hB3 (fun _ => ?_)
    clear hK K
    try simp only [Act.put, List.setIfInBounds_toArray, List.set_cons_zero, List.set_cons_succ]
    refine wpAnyH_ready (rs := [15, 17]) (by kernel_rfl) (by simp) ?_
    refine AllReadyH.cons rfl (fun K hK => ?_) (AllReadyH.cons rfl (fun K hK => ?_) AllReadyH.nil)
    · refine step_app_tok (by rfl) (.tmp 34) (.tmp 35) rfl (w.heap.size + 1) _ 0 [] rfl hO3.1 A2 n2 c2 F rfl (HF.out _ hB3) (by omega) (by have := hB3.2.1; omega) ?_
      intro v36 w4 ha hb _
      obtain ⟨hO4, hB4⟩ := bs_app HG.out.2 hO3 hB3 (by assumption) ha hb
      rw [Nat.zero_add, List.nil_append] at hO4
      clear ha hb
      refine hK.out _ _ hB4 (fun _ => ?_)
      clear hK K
      try simp only [Act.put, List.setIfInBounds_toArray, List.set_cons_zero, List.set_cons_succ]
      refine wpAnyH_ready (rs := [17]) (by kernel_rfl) (by simp) ?_
      refine AllReadyH.cons rfl (fun K hK => ?_) AllReadyH.nil
      go_simp
      have hs5 := src_lit (w4) #[.int .u8 k, .string (bytesOf s), .int .i64 a] 33 1 1 [⟨k, s, a⟩] rfl rfl
      have hB5 := hB4.step ((Below.refl (w4).heap.size (w4)).alloc (Nat.le_refl _) (.cells #[.int .u8 k, .string (bytesOf s), .int .i64 a] 33))
      refine hK.out _ _ hB5 (fun _ => ?_)
      clear hK K
      try simp only [Act.put, List.setIfInBounds_toArray, List.set_cons_zero, List.set_cons_succ]
      have hO5 := hO4.step ((Below.refl (w4).heap.size (w4)).alloc (Nat.le_refl _) (.cells #[.int .u8 k, .string (bytesOf s), .int .i64 a] 33))
      refine wpAnyH_ready (rs := [18]) (by kernel_rfl) (by simp) ?_
      refine AllReadyH.cons rfl (fun K hK => ?_) AllReadyH.nil
      refine step_app_tok (by rfl) (.tmp 36) (.tmp 38) rfl (w.heap.size + 1) _ n2 F rfl hO5.1 _ 1 1 [⟨k, s, a⟩] rfl hs5 (by omega) (by have := hB5.2.1; omega) ?_
      intro v39 w9 ha hb _
      obtain ⟨hO9, hB9⟩ := bs_app HG.out.2 hO5 hB5 rfl ha hb
      obtain ⟨A9, c9, rfl, ht9⟩ := hO9.src
      clear ha hb
      refine hK.out _ _ hB9 (fun _ => ?_)
      clear hK K
      try simp only [Act.put, List.setIfInBounds_toArray, List.set_cons_zero, List.set_cons_succ]
      refine wpAnyH_ready (rs := [19]) (by kernel_rfl) (by simp) ?_
      refine AllReadyH.cons rfl (fun K hK => ?_) AllReadyH.nil
      go_simp
      (go_at_call 17; refine (HK.out _ _ _ hB9 ht9).mono ?_; rintro e w10 ⟨rfl, hb⟩)
      have hBz := hB9.step hb
      clear hb
      refine hK.out _ _ hBz (fun _ => ?_)
      clear hK K
      try simp only [Act.put, List.setIfInBounds_toArray, List.set_cons_zero, List.set_cons_succ]
      refine take_yes (i := 20) (d := 41) (v := ?v20a) rfl rfl (by kernel_rfl) (by kernel_rfl) (by kernel_rfl) (fun _ _ _ h => h) (by rfl) ?y20a (by assumption) ?z20a
      case y20a => (intro w' hSw; (try unfold BS at hSw); go_split_ands; go_simp; try with_reducible rfl)
      try simp only [Act.put, List.setIfInBounds_toArray, List.set_cons_zero, List.set_cons_succ]
      refine take_yes (i := 21) (d := 42) (v := ?v21a) rfl rfl (by kernel_rfl) (by kernel_rfl) (by kernel_rfl) (fun _ _ _ h => h) (by rfl) ?y21a (by assumption) ?z21a
      case y21a => (intro w' hSw; (try unfold BS at hSw); go_split_ands; go_simp; try with_reducible rfl)
      try simp only [Act.put, List.setIfInBounds_toArray, List.set_cons_zero, List.set_cons_succ]
      refine wpAnyH_done (by kernel_rfl) ?_ _
      have HGx := Lib.hid hBz.1
      go_wp2_with (go_at_call 12; refine (alive_g w _ HGx.out).mono ?_; rintro e w' ⟨rfl, hg⟩; have HG2 := Lib.hid hg; clear hg)
      go_ret
      exact ⟨rfl, HG2.out⟩
    · go_simp
      have hs4 := src_lit (w2.alloc (.cells #[] 33)) #[.int .u8 k, .string (bytesOf s), .int .i64 a] 33 1 1 [⟨k, s, a⟩] rfl rfl
      have hB4 := hB3.step ((Below.refl (w2.alloc (.cells #[] 33)).heap.size (w2.alloc (.cells #[] 33))).alloc (Nat.le_refl _) (.cells #[.int .u8 k, .string (bytesOf s), .int .i64 a] 33))
      rw [show (w2.alloc (.cells #[] 33)).heap.size = w2.heap.size + 1 by simp] at hs4
      refine hK.out _ _ hB4 (fun _ => ?_)
      clear hK K
      try simp only [Act.put, List.setIfInBounds_toArray, List.set_cons_zero, List.set_cons_succ]
      have hO4 := hO3.step ((Below.refl (w2.alloc (.cells #[] 33)).heap.size (w2.alloc (.cells #[] 33))).alloc (Nat.le_refl _) (.cells #[.int .u8 k, .string (bytesOf s), .int .i64 a] 33))
      refine wpAnyH_ready (rs := [15]) (by kernel_rfl) (by simp) ?_
      refine AllReadyH.cons rfl (fun K hK => ?_) AllReadyH.nil
      refine step_app_tok (by rfl) (.tmp 34) (.tmp 35) rfl (w.heap.size + 1) _ 0 [] rfl hO4.1 A2 n2 c2 F rfl (HF.out _ hB4) (by omega) (by have := hB4.2.1; omega) ?_
      intro v36 w5 ha hb _
      obtain ⟨hO5, hB5⟩ := bs_app HG.out.2 hO4 hB4 (by assumption) ha hb
      rw [Nat.zero_add, List.nil_append] at hO5
      have hs5 := src_grown hs4 hb (by intro e; injection e with e; change w2.heap.size = _ at e; omega)
      skip
      clear ha hb
      refine hK.out _ _ hB5 (fun _ => ?_)
      clear hK K
      try simp only [Act.put, List.setIfInBounds_toArray, List.set_cons_zero, List.set_cons_succ]
      refine wpAnyH_ready (rs := [18]) (by kernel_rfl) (by simp) ?_
      refine AllReadyH.cons rfl (fun K hK => ?_) AllReadyH.nil
      refine step_app_tok (by rfl) (.tmp 36) (.tmp 38) rfl (w.heap.size + 1) _ n2 F rfl hO5.1 _ 1 1 [⟨k, s, a⟩] rfl hs5 (by omega) (by have := hB5.2.1; omega) ?_
      intro v39 w9 ha hb _
      obtain ⟨hO9, hB9⟩ := bs_app HG.out.2 hO5 hB5 rfl ha hb
      obtain ⟨A9, c9, rfl, ht9⟩ := hO9.src
      clear ha hb
      refine hK.out _ _ hB9 (fun _ => ?_)
      clear hK K
      try simp only [Act.put, List.setIfInBounds_toArray, List.set_cons_zero, List.set_cons_succ]
      refine wpAnyH_ready (rs := [19]) (by kernel_rfl) (by simp) ?_
      refine AllReadyH.cons rfl (fun K hK => ?_) AllReadyH.nil
      go_simp
      (go_at_call 17; refine (HK.out _ _ _ hB9 ht9).mono ?_; rintro e w10 ⟨rfl, hb⟩)
      have hBz := hB9.step hb
      clear hb
      refine hK.out _ _ hBz (fun _ => ?_)
      clear hK K
      try simp only [Act.put, List.setIfInBounds_toArray, List.set_cons_zero, List.set_cons_succ]
      refine take_yes (i := 20) (d := 41) (v := ?v20b) rfl rfl (by kernel_rfl) (by kernel_rfl) (by kernel_rfl) (fun _ _ _ h => h) (by rfl) ?y20b (by assumption) ?z20b
      case y20b => (intro w' hSw; (try unfold BS at hSw); go_split_ands; go_simp; try with_reducible rfl)
      try simp only [Act.put, List.setIfInBounds_toArray, List.set_cons_zero, List.set_cons_succ]
      refine take_yes (i := 21) (d := 42) (v := ?v21b) rfl rfl (by kernel_rfl) (by kernel_rfl) (by kernel_rfl) (fun _ _ _ h => h) (by rfl) ?y21b (by assumption) ?z21b
      case y21b => (intro w' hSw; (try unfold BS at hSw); go_split_ands; go_simp; try with_reducible rfl)
      try simp only [Act.put, List.setIfInBounds_toArray, List.set_cons_zero, List.set_cons_succ]
      refine wpAnyH_done (by kernel_rfl) ?_ _
      have HGx := Lib.hid hBz.1
      go_wp2_with (go_at_call 12; refine (alive_g w _ HGx.out).mono ?_; rintro e w' ⟨rfl, hg⟩; have HG2 := Lib.hid hg; clear hg)
      go_ret
      exact ⟨rfl, HG2.out⟩
  · go_simp
    have hs3 := src_lit (w2) #[.int .u8 k, .string (bytesOf s), .int .i64 a] 33 1 1 [⟨k, s, a⟩] rfl rfl
    have hB3 := hB2.step ((Below.refl (w2).heap.size (w2)).alloc (Nat.le_refl _) (.cells #[.int .u8 k, .string (bytesOf s), .int .i64 a] 33))
    refine hK.out _ _ hB3 (fun _ => ?_)
    clear hK K
    try simp only [Act.put, List.setIfInBounds_toArray, List.set_cons_zero, List.set_cons_succ]
    refine wpAnyH_ready (rs := [13]) (by kernel_rfl) (by simp) ?_
    refine AllReadyH.cons rfl (fun K hK => ?_) AllReadyH.nil
    go_simp
    have hO4 := ow_lit w.heap.size (w2.alloc (.cells #[.int .u8 k, .string (bytesOf s), .int .i64 a] 33)) #[] 0 [] rfl rfl (by decide) hB3.2.1
    have hB4 := hB3.step ((Below.refl (w2.alloc (.cells #[.int .u8 k, .string (bytesOf s), .int .i64 a] 33)).heap.size (w2.alloc (.cells #[.int .u8 k, .string (bytesOf s), .int .i64 a] 33))).alloc (Nat.le_refl _) (.cells #[] 33))
    rw [show (w2.alloc (.cells #[.int .u8 k, .string (bytesOf s), .int .i64 a] 33)).heap.size = w2.heap.size + 1 by simp] at hO4
    refine hK.out _ _ hB4 (fun _ => ?_)
    clear hK K
    try simp only [Act.put, List.setIfInBounds_toArray, List.set_cons_zero, List.set_cons_succ]
    have hs4 := hs3.step ((Below.refl (w2.alloc (.cells #[.int .u8 k, .string (bytesOf s), .int .i64 a] 33)).heap.size (w2.alloc (.cells #[.int .u8 k, .string (bytesOf s), .int .i64 a] 33))).alloc (Nat.le_refl _) (.cells #[] 33))
    refine wpAnyH_ready (rs := [15]) (by kernel_rfl) (by simp) ?_
    refine AllReadyH.cons rfl (fun K hK => ?_) AllReadyH.nil
    refine step_app_tok (by rfl) (.tmp 34) (.tmp 35) rfl (w.heap.size + 1) _ 0 [] rfl hO4.1 A2 n2 c2 F rfl (HF.out _ hB4) (by omega) (by have := hB4.2.1; omega) ?_
    intro v36 w5 ha hb _
    obtain ⟨hO5, hB5⟩ := bs_app HG.out.2 hO4 hB4 (by assumption) ha hb
    rw [Nat.zero_add, List.nil_append] at hO5
    have hs5 := src_grown hs4 hb (by intro e; injection e with e; change w2.heap.size + 1 = _ at e; omega)
    skip
    clear ha hb
    refine hK.out _ _ hB5 (fun _ => ?_)
    clear hK K
    try simp only [Act.put, List.setIfInBounds_toArray, List.set_cons_zero, List.set_cons_succ]
    refine wpAnyH_ready (rs := [18]) (by kernel_rfl) (by simp) ?_
    refine AllReadyH.cons rfl (fun K hK => ?_) AllReadyH.nil
    refine step_app_tok (by rfl) (.tmp 36) (.tmp 38) rfl (w.heap.size + 1) _ n2 F rfl hO5.1 _ 1 1 [⟨k, s, a⟩] rfl hs5 (by omega) (by have := hB5.2.1; omega) ?_
    intro v39 w9 ha hb _
    obtain ⟨hO9, hB9⟩ := bs_app HG.out.2 hO5 hB5 rfl ha hb
    obtain ⟨A9, c9, rfl, ht9⟩ := hO9.src
    clear ha hb
    refine hK.out _ _ hB9 (fun _ => ?_)
    clear hK K
    try simp only [Act.put, List.setIfInBounds_toArray, List.set_cons_zero, List.set_cons_succ]
    refine wpAnyH_ready (rs := [19]) (by kernel_rfl) (by simp) ?_
    refine AllReadyH.cons rfl (fun K hK => ?_) AllReadyH.nil
    go_simp
    (go_at_call 17; refine (HK.out _ _ _ hB9 ht9).mono ?_; rintro e w10 ⟨rfl, hb⟩)
    have hBz := hB9.step hb
    clear hb
    refine hK.out _ _ hBz (fun _ => ?_)
    clear hK K
    try simp only [Act.put, List.setIfInBounds_toArray, List.set_cons_zero, List.set_cons_succ]
    refine take_yes (i := 20) (d := 41) (v := ?v20c) rfl rfl (by kernel_rfl) (by kernel_rfl) (by kernel_rfl) (fun _ _ _ h => h) (by rfl) ?y20c (by assumption) ?z20c
    case y20c => (intro w' hSw; (try unfold BS at hSw); go_split_ands; go_simp; try with_reducible rfl)
    try simp only [Act.put, List.setIfInBounds_toArray, List.set_cons_zero, List.set_cons_succ]
    refine take_yes (i := 21) (d := 42) (v := ?v21c) rfl rfl (by kernel_rfl) (by kernel_rfl) (by kernel_rfl) (fun _ _ _ h => h) (by rfl) ?y21c (by assumption) ?z21c
    case y21c => (intro w' hSw; (try unfold BS at hSw); go_split_ands; go_simp; try with_reducible rfl)
    try simp only [Act.put, List.setIfInBounds_toArray, List.set_cons_zero, List.set_cons_succ]
    refine wpAnyH_done (by kernel_rfl) ?_ _
    have HGx := Lib.hid hBz.1
    go_wp2_with (go_at_call 12; refine (alive_g w _ HGx.out).mono ?_; rintro e w' ⟨rfl, hg⟩; have HG2 := Lib.hid hg; clear hg)
    go_ret
    exact ⟨rfl, HG2.out⟩
end Go.Proofs.YtoobggcopoljcaaDoor
