/- ClausesParts walks to true. -/
import Derived.Test.YtaijhkfbfkdepaaDoorQTab
import Derived.Test.YtaijhkfbfkdepaaDoorQSrc2
import Derived.Test.YtaijhkfbfkdepaaDoorQReg
import Derived.Test.YtaijhkfbfkdepaaDoorQOpen
import Derived.Deep.RegionHeld3
import Derived.Outline
import Derived.Tactics2
import Derived.Deep.DeepCutAuto
import Derived.Deep.CutBlock
namespace Go.Proofs.YtaijhkfbfkdepaaDoor.Q8
open Go.ChangeShapes Go.WideShapes Go.ChangeAt Go.RowKit N4
set_option linter.unusedVariables false
set_option linter.unusedSimpArgs false
set_option maxRecDepth 100000

/-- A window's box. -/
def WX (w0 : World) (b : Nat) (k s v : Int) (W : World) : Prop := Bl w0 W ∧ b < W.heap.size ∧ W.cell? ⟨b, 0, none⟩ = some (.int .u8 k) ∧ W.cell? ⟨b, 1, none⟩ = some (.int .i64 s) ∧ W.cell? ⟨b, 2, none⟩ = some (.int .i64 v)
theorem WX.step {w0 : World} {b : Nat} {k s v : Int} {W W' : World} (h : WX w0 b k s v W) (hb : Below W.heap.size W W') : WX w0 b k s v W' := by
  obtain ⟨h1, h2, h3⟩ := h
  have e : ∀ o, W'.cell? ⟨b, o, none⟩ = W.cell? ⟨b, o, none⟩ := fun o => hb.cell (p := ⟨b, o, none⟩) h2
  refine ⟨h1.step hb, Nat.lt_of_lt_of_le h2 hb.size, ?_⟩
  simp only [e]
  exact h3
theorem WX.new {w0 w : World} (h : Bl w0 w) (k s v : Int) (t : TypeId) : WX w0 w.heap.size k s v (w.alloc (.cells #[.int .u8 k, .int .i64 s, .int .i64 v] t)) :=
  ⟨h.al _, by simp, by go_simp, by go_simp, by go_simp⟩
theorem WX.bl {w0 : World} {b : Nat} {k s v : Int} {W : World} (h : WX w0 b k s v W) : Bl w0 W := h.1
theorem lp_great (k s v : Int) (A : Option Addr) (n c : Nat) (j : Bool) (i : Int) (x : ByteArray) (w : World) (h : 10 < n ∨ n ≤ 10 ∧ 20 < x.size) :
    Calls Tryd.prog 4 #[.agg #[.int .u8 k, .int .i64 s, .int .i64 v], .slice A n c, .bool j, .int .i64 i, .string x] w fun e w' => e = .returned (.bool true) ∧ Below w.heap.size w w' := by
  rcases h with h | ⟨h, h'⟩
  · have i1 : (10 : Int) < n := by omega
    clear h
    go_enter Tryd.func4, Tryd.ntmps4
    go_wp2
    go_ret
    exact ⟨rfl, (Below.refl _ _).alloc (Nat.le_refl _) _⟩
  · have i1 : ¬ ((10 : Int) < n) := by omega
    have i2 : (20 : Int) < x.size := by omega
    clear h h'
    go_enter Tryd.func4, Tryd.ntmps4
    go_wp2
    go_ret
    exact ⟨rfl, (Below.refl _ _).alloc (Nat.le_refl _) _⟩
set_option maxHeartbeats 4000000 in
theorem lp_main (k s v : Int) (A : Option Addr) (n c : Nat) (l : List Int) (j : Bool) (i : Int) (x : ByteArray) (w : World) (hs : s ≤ 9223372036854775807) (hn : l.length = n) (ht : Lies w A (iC l)) (h : n ≤ 10) (h' : x.size ≤ 20) (hT : NamT w) :
    Calls Tryd.prog 4 #[.agg #[.int .u8 k, .int .i64 s, .int .i64 v], .slice A n c, .bool j, .int .i64 i, .string x] w fun e w' => e = .returned (.bool true) ∧ Below w.heap.size w w' := by
  have i1 : ¬ ((10 : Int) < n) := by omega
  have i2 : ¬ ((20 : Int) < x.size) := by omega
  have HN := Lib.hid (fun W (hb : Bl w W) => name_any i W (hT.stays hb))
  have HRN := Lib.hid (fun W => rname_any i W)
  have HS := Lib.hid (fun W (hb : Bl w W) => source_any x W (hT.stays hb))
  have HRS := Lib.hid (fun W => rsource_any x W)
  have HW := Lib.hid (fun W => win_any k s v W hs _ rfl)
  have HRW := Lib.hid (fun W => rwin_any k s v W _ rfl)
  have HO := Lib.hid (fun W (hb : Bl w W) => src_any A c n l j W hn (hb.lies ht) _ rfl)
  have HRO := Lib.hid (fun W (hb : Bl w W) => rsrc_any A c n l j W hn (hb.lies ht) _ rfl)
  generalize winE k s v = r1 at HW HRW
  generalize srcF l j = r2 at HO HRO
  generalize nmF i = r3 at HN HRN
  generalize nmE i = r4 at HN HRN
  generalize soF x.data.toList = r5 at HS HRS
  generalize soE x.data.toList = r6 at HS HRS
  have b0 := fun t => WX.new (Bl.start w) k s v t
  clear hs hn ht h h' hT
  go_enter Tryd.func4, Tryd.ntmps4
  go_wp2_with (first
    | (go_at_call 12; ((with_reducible refine (HN.out _ (b0 _).bl).mono ?_); rintro e w1 ⟨rfl, rfl⟩; have b1 := b0 23; clear b0))
    | (go_at_call 15; ((with_reducible refine (HRN.out _).mono ?_); rintro e w2 ⟨rfl, hb⟩; have b2 := b1.step hb; clear hb b1))
    | (go_at_call 13; ((with_reducible refine (HS.out _ b2.bl).mono ?_); rintro e w3 ⟨rfl, rfl⟩))
    | (go_at_call 16; ((with_reducible refine (HRS.out _).mono ?_); rintro e w4 ⟨rfl, hb⟩; have b4 := Lib.hid (b2.step hb); clear hb b2)))
  refine wp_region_pre (S := WX w w.heap.size k s v) 0 (by kernel_rfl) (b4.out.step (bd_drewN _ 1)) ?_
  refine Pre.pure (i := 0) (d := 47) (v := ?v0) rfl rfl (by rfl) ?yy0 ?zz0
  case yy0 => (intro w' hSw; (try unfold WX at hSw); go_split_ands; go_simp; try with_reducible rfl)
  try simp only [Act.put, List.setIfInBounds_toArray, List.set_cons_zero, List.set_cons_succ]
  refine Pre.call (i := 1) (d := 48) (v := .int .i64 r1) (f := ?f1) (args := ?a1) rfl rfl (by rfl) ?yy1 ?cc1 ?zz1
  case yy1 => (intro w' hSw; (try unfold WX at hSw); go_split_ands; go_simp; refine ⟨?_, ?_⟩ <;> with_reducible rfl)
  case cc1 => (intro w' hSw; exact (HW.out _).mono (fun e w2 hh => ⟨hh.1, hSw.step hh.2⟩))
  try simp only [Act.put, List.setIfInBounds_toArray, List.set_cons_zero, List.set_cons_succ]
  refine Pre.pure (i := 2) (d := 49) (v := ?v2) rfl rfl (by rfl) ?yy2 ?zz2
  case yy2 => (intro w' hSw; (try unfold WX at hSw); go_split_ands; go_simp; try with_reducible rfl)
  try simp only [Act.put, List.setIfInBounds_toArray, List.set_cons_zero, List.set_cons_succ]
  refine Pre.call (i := 3) (d := 50) (v := .int .i64 r1) (f := ?f3) (args := ?a3) rfl rfl (by rfl) ?yy3 ?cc3 ?zz3
  case yy3 => (intro w' hSw; (try unfold WX at hSw); go_split_ands; go_simp; refine ⟨?_, ?_⟩ <;> with_reducible rfl)
  case cc3 => (intro w' hSw; exact (HRW.out _).mono (fun e w2 hh => ⟨hh.1, hSw.step hh.2⟩))
  try simp only [Act.put, List.setIfInBounds_toArray, List.set_cons_zero, List.set_cons_succ]
  refine Pre.pure (i := 4) (d := 51) (v := ?v4) rfl rfl (by rfl) ?yy4 ?zz4
  case yy4 => (intro w' hSw; (try unfold WX at hSw); go_split_ands; go_simp; try with_reducible rfl)
  try simp only [Act.put, List.setIfInBounds_toArray, List.set_cons_zero, List.set_cons_succ]
  refine Pre.pure (i := 5) (d := 52) (v := ?v5) rfl rfl (by rfl) ?yy5 ?zz5
  case yy5 => (intro w' hSw; (try unfold WX at hSw); go_split_ands; go_simp; try with_reducible rfl)
  try simp only [Act.put, List.setIfInBounds_toArray, List.set_cons_zero, List.set_cons_succ]
  refine Pre.pure (i := 6) (d := 53) (v := ?v6) rfl rfl (by rfl) ?yy6 ?zz6
  case yy6 => (intro w' hSw; (try unfold WX at hSw); go_split_ands; go_simp; try with_reducible rfl)
  try simp only [Act.put, List.setIfInBounds_toArray, List.set_cons_zero, List.set_cons_succ]
  refine Pre.pure (i := 7) (d := 54) (v := ?v7) rfl rfl (by rfl) ?yy7 ?zz7
  case yy7 => (intro w' hSw; (try unfold WX at hSw); go_split_ands; go_simp; try with_reducible rfl)
  try simp only [Act.put, List.setIfInBounds_toArray, List.set_cons_zero, List.set_cons_succ]
  refine Pre.call (i := 8) (d := 55) (v := .int .i64 r2) (f := ?f8) (args := ?a8) rfl rfl (by rfl) ?yy8 ?cc8 ?zz8
  case yy8 => (intro w' hSw; (try unfold WX at hSw); go_split_ands; go_simp; refine ⟨?_, ?_⟩ <;> with_reducible rfl)
  case cc8 => (intro w' hSw; exact (HO.out _ hSw.bl).mono (fun e w2 hh => ⟨hh.1, hSw.step hh.2⟩))
  try simp only [Act.put, List.setIfInBounds_toArray, List.set_cons_zero, List.set_cons_succ]
  refine Pre.pure (i := 9) (d := 56) (v := ?v9) rfl rfl (by rfl) ?yy9 ?zz9
  case yy9 => (intro w' hSw; (try unfold WX at hSw); go_split_ands; go_simp; try with_reducible rfl)
  try simp only [Act.put, List.setIfInBounds_toArray, List.set_cons_zero, List.set_cons_succ]
  refine Pre.pure (i := 10) (d := 57) (v := ?v10) rfl rfl (by rfl) ?yy10 ?zz10
  case yy10 => (intro w' hSw; (try unfold WX at hSw); go_split_ands; go_simp; try with_reducible rfl)
  try simp only [Act.put, List.setIfInBounds_toArray, List.set_cons_zero, List.set_cons_succ]
  refine Pre.call (i := 11) (d := 58) (v := .int .i64 r2) (f := ?f11) (args := ?a11) rfl rfl (by rfl) ?yy11 ?cc11 ?zz11
  case yy11 => (intro w' hSw; (try unfold WX at hSw); go_split_ands; go_simp; refine ⟨?_, ?_⟩ <;> with_reducible rfl)
  case cc11 => (intro w' hSw; exact (HRO.out _ hSw.bl).mono (fun e w2 hh => ⟨hh.1, hSw.step hh.2⟩))
  try simp only [Act.put, List.setIfInBounds_toArray, List.set_cons_zero, List.set_cons_succ]
  refine Pre.pure (i := 12) (d := 59) (v := ?v12) rfl rfl (by rfl) ?yy12 ?zz12
  case yy12 => (intro w' hSw; (try unfold WX at hSw); go_split_ands; go_simp; try with_reducible rfl)
  try simp only [Act.put, List.setIfInBounds_toArray, List.set_cons_zero, List.set_cons_succ]
  refine Pre.pure (i := 13) (d := 60) (v := ?v13) rfl rfl (by rfl) ?yy13 ?zz13
  case yy13 => (intro w' hSw; (try unfold WX at hSw); go_split_ands; go_simp; try with_reducible rfl)
  try simp only [Act.put, List.setIfInBounds_toArray, List.set_cons_zero, List.set_cons_succ]
  refine Pre.pure (i := 14) (d := 61) (v := ?v14) rfl rfl (by rfl) ?yy14 ?zz14
  case yy14 => (intro w' hSw; (try unfold WX at hSw); go_split_ands; go_simp; try with_reducible rfl)
  try simp only [Act.put, List.setIfInBounds_toArray, List.set_cons_zero, List.set_cons_succ]
  refine Pre.pure (i := 15) (d := 62) (v := ?v15) rfl rfl (by rfl) ?yy15 ?zz15
  case yy15 => (intro w' hSw; (try unfold WX at hSw); go_split_ands; go_simp; try with_reducible rfl)
  try simp only [Act.put, List.setIfInBounds_toArray, List.set_cons_zero, List.set_cons_succ]
  refine Pre.pure (i := 16) (d := 63) (v := ?v16) rfl rfl (by rfl) ?yy16 ?zz16
  case yy16 => (intro w' hSw; (try unfold WX at hSw); go_split_ands; go_simp; try with_reducible rfl)
  try simp only [Act.put, List.setIfInBounds_toArray, List.set_cons_zero, List.set_cons_succ]
  refine Pre.pure (i := 17) (d := 64) (v := ?v17) rfl rfl (by rfl) ?yy17 ?zz17
  case yy17 => (intro w' hSw; (try unfold WX at hSw); go_split_ands; go_simp; try with_reducible rfl)
  try simp only [Act.put, List.setIfInBounds_toArray, List.set_cons_zero, List.set_cons_succ]
  refine Pre.pure (i := 18) (d := 65) (v := ?v18) rfl rfl (by rfl) ?yy18 ?zz18
  case yy18 => (intro w' hSw; (try unfold WX at hSw); go_split_ands; go_simp; try with_reducible rfl)
  try simp only [Act.put, List.setIfInBounds_toArray, List.set_cons_zero, List.set_cons_succ]
  refine Pre.pure (i := 19) (d := 66) (v := ?v19) rfl rfl (by rfl) ?yy19 ?zz19
  case yy19 => (intro w' hSw; (try unfold WX at hSw); go_split_ands; go_simp; try with_reducible rfl)
  try simp only [Act.put, List.setIfInBounds_toArray, List.set_cons_zero, List.set_cons_succ]
  refine Pre.pure (i := 20) (d := 67) (v := ?v20) rfl rfl (by rfl) ?yy20 ?zz20
  case yy20 => (intro w' hSw; (try unfold WX at hSw); go_split_ands; go_simp; try with_reducible rfl)
  try simp only [Act.put, List.setIfInBounds_toArray, List.set_cons_zero, List.set_cons_succ]
  refine Pre.pure (i := 21) (d := 68) (v := ?v21) rfl rfl (by rfl) ?yy21 ?zz21
  case yy21 => (intro w' hSw; (try unfold WX at hSw); go_split_ands; go_simp; try with_reducible rfl)
  try simp only [Act.put, List.setIfInBounds_toArray, List.set_cons_zero, List.set_cons_succ]
  refine Pre.pure (i := 22) (d := 69) (v := ?v22) rfl rfl (by rfl) ?yy22 ?zz22
  case yy22 => (intro w' hSw; (try unfold WX at hSw); go_split_ands; go_simp; try with_reducible rfl)
  try simp only [Act.put, List.setIfInBounds_toArray, List.set_cons_zero, List.set_cons_succ]
  refine Pre.pure (i := 23) (d := 70) (v := ?v23) rfl rfl (by rfl) ?yy23 ?zz23
  case yy23 => (intro w' hSw; (try unfold WX at hSw); go_split_ands; go_simp; try with_reducible rfl)
  try simp only [Act.put, List.setIfInBounds_toArray, List.set_cons_zero, List.set_cons_succ]
  refine Pre.pure (i := 24) (d := 71) (v := ?v24) rfl rfl (by rfl) ?yy24 ?zz24
  case yy24 => (intro w' hSw; (try unfold WX at hSw); go_split_ands; go_simp; try with_reducible rfl)
  try simp only [Act.put, List.setIfInBounds_toArray, List.set_cons_zero, List.set_cons_succ]
  refine Pre.pure (i := 25) (d := 72) (v := ?v25) rfl rfl (by rfl) ?yy25 ?zz25
  case yy25 => (intro w' hSw; (try unfold WX at hSw); go_split_ands; go_simp; try with_reducible rfl)
  try simp only [Act.put, List.setIfInBounds_toArray, List.set_cons_zero, List.set_cons_succ]
  refine Pre.pure (i := 26) (d := 73) (v := ?v26) rfl rfl (by rfl) ?yy26 ?zz26
  case yy26 => (intro w' hSw; (try unfold WX at hSw); go_split_ands; go_simp; try with_reducible rfl)
  try simp only [Act.put, List.setIfInBounds_toArray, List.set_cons_zero, List.set_cons_succ]
  refine Pre.pure (i := 27) (d := 74) (v := ?v27) rfl rfl (by rfl) ?yy27 ?zz27
  case yy27 => (intro w' hSw; (try unfold WX at hSw); go_split_ands; go_simp; try with_reducible rfl)
  try simp only [Act.put, List.setIfInBounds_toArray, List.set_cons_zero, List.set_cons_succ]
  refine Pre.pure (i := 28) (d := 75) (v := ?v28) rfl rfl (by rfl) ?yy28 ?zz28
  case yy28 => (intro w' hSw; (try unfold WX at hSw); go_split_ands; go_simp; try with_reducible rfl)
  try simp only [Act.put, List.setIfInBounds_toArray, List.set_cons_zero, List.set_cons_succ]
  refine Pre.pure (i := 29) (d := 76) (v := ?v29) rfl rfl (by rfl) ?yy29 ?zz29
  case yy29 => (intro w' hSw; (try unfold WX at hSw); go_split_ands; go_simp; try with_reducible rfl)
  try simp only [Act.put, List.setIfInBounds_toArray, List.set_cons_zero, List.set_cons_succ]
  refine Pre.pure (i := 30) (d := 77) (v := ?v30) rfl rfl (by rfl) ?yy30 ?zz30
  case yy30 => (intro w' hSw; (try unfold WX at hSw); go_split_ands; go_simp; try with_reducible rfl)
  try simp only [Act.put, List.setIfInBounds_toArray, List.set_cons_zero, List.set_cons_succ]
  refine Pre.pure (i := 31) (d := 78) (v := ?v31) rfl rfl (by rfl) ?yy31 ?zz31
  case yy31 => (intro w' hSw; (try unfold WX at hSw); go_split_ands; go_simp; try with_reducible rfl)
  try simp only [Act.put, List.setIfInBounds_toArray, List.set_cons_zero, List.set_cons_succ]
  refine Pre.pure (i := 32) (d := 79) (v := ?v32) rfl rfl (by rfl) ?yy32 ?zz32
  case yy32 => (intro w' hSw; (try unfold WX at hSw); go_split_ands; go_simp; try with_reducible rfl)
  try simp only [Act.put, List.setIfInBounds_toArray, List.set_cons_zero, List.set_cons_succ]
  refine Pre.pure (i := 33) (d := 80) (v := ?v33) rfl rfl (by rfl) ?yy33 ?zz33
  case yy33 => (intro w' hSw; (try unfold WX at hSw); go_split_ands; go_simp; try with_reducible rfl)
  try simp only [Act.put, List.setIfInBounds_toArray, List.set_cons_zero, List.set_cons_succ]
  refine Pre.pure (i := 34) (d := 10) (v := ?v34) rfl rfl (by rfl) ?yy34 ?zz34
  case yy34 => (intro w' hSw; (try unfold WX at hSw); go_split_ands; go_simp; try with_reducible rfl)
  try simp only [Act.put, List.setIfInBounds_toArray, List.set_cons_zero, List.set_cons_succ]
  refine Pre.done (by kernel_rfl) (by kernel_rfl) ?_
  intro W hS
  refine wpAnyH_done (by kernel_rfl) ?_ _
  go_wp2
  go_ret
  exact ⟨rfl, hS.bl⟩
theorem ClausesParts_walk (k s v : Int) (A : Option Addr) (c : Nat) (l : List Int) (j : Bool) (i : Int) (x : ByteArray) (w : World) (hs : In64 s) (hL : l.length ≤ maxLen) (ht : Lies w A (iC l)) (_ : SlOk A l.length c) (_ : l.length ≤ c) (_ : ∀ x ∈ l, In64 x) (_ : (Lit.int .i64 i).wf = true) (_ : x.size ≤ maxLen) (hT : NamT w) :
    Calls Tryd.prog 4 #[.agg #[.int .u8 k, .int .i64 s, .int .i64 v], .slice A l.length c, .bool j, .int .i64 i, .string x] w fun e w' => e = .returned (.bool true) ∧ Below w.heap.size w w' := by
  by_cases h1 : 10 < l.length
  · exact lp_great k s v A _ c j i x w (.inl h1)
  by_cases h2 : 20 < x.size
  · exact lp_great k s v A _ c j i x w (.inr ⟨by omega, h2⟩)
  · exact lp_main k s v A _ c l j i x w hs.2 rfl ht (by omega) (by omega) hT
end Go.Proofs.YtaijhkfbfkdepaaDoor.Q8
