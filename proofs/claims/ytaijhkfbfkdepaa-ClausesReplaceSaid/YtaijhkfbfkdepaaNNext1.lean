
/- Walks of next, way by way. -/
import Derived.Test.YtaijhkfbfkdepaaNMem
import Derived.Deep.RegionHeld3
import Derived.Laws.StructEq
import Derived.LoopTactic
import Derived.LoopN
import Derived.Outline
namespace Go.Proofs.Ytaijhkfbfkdepaa.N4
open Go.ChangeShapes Go.WideShapes Go.ChangeAt Go.RowKit
set_option linter.unusedVariables false
set_option maxRecDepth 100000
set_option linter.unusedSimpArgs false

theorem wp_gen {c : Code} {K : Exit → Act → World → Prop} {a : Act} {W : World} (P : World → Prop) (h : P W) (h2 : ∀ W', P W' → Code.wp Try.prog c K a W') : Code.wp Try.prog c K a W := h2 W h
def NextNo (w : World) (e : Ending) (w' : World) : Prop := ∃ s d : Int, e = .returned (.tuple #[.agg #[.int .i64 s, .int .i64 d], .bool false]) ∧ Below w.heap.size w w'

theorem next_bad (A : Option Addr) (n c : Nat) (x : Nd) (w : World) (h : (okK x.k && fitsF x.k x.n x.p) = false) :
    Calls Try.prog 41 #[.slice A n c, ndV x] w (NextNo w) := by
  have HF := Lib.hid (fun w => fits_any x.k x.n x.p _ rfl w)
  by_cases ho : okK x.k = true
  · have e1 : (partsE x.k != 0) = false := by simp [partsE, ho]
    have hf : fitsF x.k x.n x.p = false := by simpa [ho] using h
    rw [hf] at HF
    clear ho h hf
    go_enter Try.func41, Try.ntmps41
    go_wp2_with (first
      | (go_at_call 50; refine (parts_any _ _).mono ?_; rintro e w' ⟨rfl, rfl⟩)
      | (go_at_call 51; refine (HF.out _).mono ?_; rintro e w' ⟨rfl, rfl⟩))
    refine bodyPost_ret (v := .tuple #[.agg #[.int .i64 0, .int .i64 0], .bool false]) (by simp [results, Try.results41, go_sem]) rfl ⟨0, 0, rfl, ?_⟩
    repeat (first | exact Below.refl _ _ | refine Below.alloc ?_ (by simp; try omega) _ | refine Below.setCell ?_ (by simp; try omega) _)
  · have e1 : (partsE x.k != 0) = true := by simp [partsE, ho]
    clear ho h
    go_enter Try.func41, Try.ntmps41
    go_wp2_with (first
      | (go_at_call 50; refine (parts_any _ _).mono ?_; rintro e w' ⟨rfl, rfl⟩)
      | (go_at_call 51; refine (HF.out _).mono ?_; rintro e w' ⟨rfl, rfl⟩))
    refine bodyPost_ret (v := .tuple #[.agg #[.int .i64 0, .int .i64 0], .bool false]) (by simp [results, Try.results41, go_sem]) rfl ⟨0, 0, rfl, ?_⟩
    repeat (first | exact Below.refl _ _ | refine Below.alloc ?_ (by simp; try omega) _ | refine Below.setCell ?_ (by simp; try omega) _)

set_option maxHeartbeats 2000000 in
theorem next_v0_tt (k nn a b p : Int) (w : World) (A : Option Addr) (n c : Nat) (e2 : partsN k = 0) (h0 : okK k = true) (h1 : fitsF k nn p = true)  :
    Calls Try.prog 41 #[.slice A n c, .agg #[.int .u8 k, .int .i64 nn, .int .i64 0, .int .i64 0, .int .i64 p]] w fun e w' => e = .returned (.tuple #[.agg #[.int .i64 (1 : Nat), .int .i64 (1 : Nat)], .bool true]) ∧ Below w.heap.size w w' := by
  have e3 : partsE k = 0 := by simp [partsE, h0]
  have HP := Lib.hid (fun w => show Calls Try.prog 50 #[.int .u8 k] w fun e w' => e = .returned (.tuple #[.int .i64 0, .int .i64 0]) ∧ w = w' by have := parts_any k w; rwa [e2, e3] at this)
  have HF := Lib.hid (fun w => fits_any k nn p true h1 w)
  have hgt : Try.prog.eqGuardType Try.prog.depth 45 = false := by kernel_rfl
  clear e2 e3 h1
  go_enter Try.func41, Try.ntmps41
  go_wp2_with (first
      | (go_at_call 50; refine (HP.out _).mono ?_; rintro e w' ⟨rfl, rfl⟩)
      | (go_at_call 51; refine (HF.out _).mono ?_; rintro e w' ⟨rfl, rfl⟩))
  refine wp_loop_rounds 1 ?_
  rw [rounds_succ]; go_wp2
  refine wp_gen (fun W => W.cell? ⟨w.heap.size, 0, none⟩ = some (.int .u8 k) ∧ W.cell? ⟨w.heap.size, 1, none⟩ = some (.int .i64 nn) ∧ W.cell? ⟨w.heap.size, 2, none⟩ = some (.int .i64 0) ∧ W.cell? ⟨w.heap.size, 3, none⟩ = some (.int .i64 0) ∧ W.cell? ⟨w.heap.size, 4, none⟩ = some (.int .i64 p) ∧ W.cell? ⟨w.heap.size + 1 + 1, 0, none⟩ = some (.int .i64 1) ∧ W.cell? ⟨w.heap.size + 1 + 1, 1, none⟩ = some (.int .i64 1) ∧ W.cell? ⟨w.heap.size + 1 + 1 + 1, 0, none⟩ = some (.int .i64 0) ∧ W.cell? ⟨w.heap.size + 1 + 1 + 1, 1, none⟩ = some (.int .i64 0) ∧ W.cell? ⟨w.heap.size + 1, 0, none⟩ = some (.int .i64 0) ∧ W.cell? ⟨w.heap.size + 1, 1, none⟩ = some (.int .i64 0) ∧ W.frozen? ⟨w.heap.size + 1, 0, none⟩ = false ∧ W.frozen? ⟨w.heap.size + 1, 1, none⟩ = false ∧ w.heap.size + 1 + 1 + 1 < W.heap.size ∧ Hid (Below w.heap.size w W)) ⟨by go_simp, by go_simp, by go_simp, by go_simp, by go_simp, by go_simp, by go_simp, by go_simp, by go_simp, by go_simp, by go_simp, by go_simp, by go_simp, by simp, Lib.hid (by repeat (first | exact Below.refl _ _ | refine Below.alloc ?_ (by simp; try omega) _ | refine Below.setCell ?_ (by simp; try omega) _ | refine Below.drew ?_))⟩ ?_
  rintro W ⟨c0, c1, c2, c3, c4, w0, w1, e0, e1, r0, r1, f0, f1, hsz, HBW⟩
  clear h0 HP HF
  go_region_held3 (fun w' => w'.cell? ⟨w.heap.size, 0, none⟩ = some (.int .u8 k) ∧ w'.cell? ⟨w.heap.size, 1, none⟩ = some (.int .i64 nn) ∧ w'.cell? ⟨w.heap.size, 2, none⟩ = some (.int .i64 0) ∧ w'.cell? ⟨w.heap.size, 3, none⟩ = some (.int .i64 0) ∧ w'.cell? ⟨w.heap.size, 4, none⟩ = some (.int .i64 p) ∧ w'.cell? ⟨w.heap.size + 1 + 1, 0, none⟩ = some (.int .i64 1) ∧ w'.cell? ⟨w.heap.size + 1 + 1, 1, none⟩ = some (.int .i64 1) ∧ w'.cell? ⟨w.heap.size + 1 + 1 + 1, 0, none⟩ = some (.int .i64 0) ∧ w'.cell? ⟨w.heap.size + 1 + 1 + 1, 1, none⟩ = some (.int .i64 0)) (go_keep) (fail)
  go_wp2
  refine bodyPost_ret (v := .tuple #[.agg #[.int .i64 (1 : Nat), .int .i64 (1 : Nat)], .bool true]) (by simp [results, Try.results41, go_sem, r0, r1, f0, f1, hsz]) rfl ⟨rfl, ?_⟩
  exact (HBW.out.drew.setCell (by simp) _).setCell (by simp) _
set_option maxHeartbeats 2000000 in
theorem next_v0_tf (k nn a b p : Int) (w : World) (A : Option Addr) (n c : Nat) (e2 : partsN k = 0) (h0 : okK k = true) (h1 : fitsF k nn p = true) (hb : ¬ b = 0) :
    Calls Try.prog 41 #[.slice A n c, .agg #[.int .u8 k, .int .i64 nn, .int .i64 0, .int .i64 b, .int .i64 p]] w fun e w' => e = .returned (.tuple #[.agg #[.int .i64 (1 : Nat), .int .i64 (1 : Nat)], .bool false]) ∧ Below w.heap.size w w' := by
  have e3 : partsE k = 0 := by simp [partsE, h0]
  have HP := Lib.hid (fun w => show Calls Try.prog 50 #[.int .u8 k] w fun e w' => e = .returned (.tuple #[.int .i64 0, .int .i64 0]) ∧ w = w' by have := parts_any k w; rwa [e2, e3] at this)
  have HF := Lib.hid (fun w => fits_any k nn p true h1 w)
  have hgt : Try.prog.eqGuardType Try.prog.depth 45 = false := by kernel_rfl
  clear e2 e3 h1
  go_enter Try.func41, Try.ntmps41
  go_wp2_with (first
      | (go_at_call 50; refine (HP.out _).mono ?_; rintro e w' ⟨rfl, rfl⟩)
      | (go_at_call 51; refine (HF.out _).mono ?_; rintro e w' ⟨rfl, rfl⟩))
  refine wp_loop_rounds 1 ?_
  rw [rounds_succ]; go_wp2
  refine wp_gen (fun W => W.cell? ⟨w.heap.size, 0, none⟩ = some (.int .u8 k) ∧ W.cell? ⟨w.heap.size, 1, none⟩ = some (.int .i64 nn) ∧ W.cell? ⟨w.heap.size, 2, none⟩ = some (.int .i64 0) ∧ W.cell? ⟨w.heap.size, 3, none⟩ = some (.int .i64 b) ∧ W.cell? ⟨w.heap.size, 4, none⟩ = some (.int .i64 p) ∧ W.cell? ⟨w.heap.size + 1 + 1, 0, none⟩ = some (.int .i64 1) ∧ W.cell? ⟨w.heap.size + 1 + 1, 1, none⟩ = some (.int .i64 1) ∧ W.cell? ⟨w.heap.size + 1 + 1 + 1, 0, none⟩ = some (.int .i64 0) ∧ W.cell? ⟨w.heap.size + 1 + 1 + 1, 1, none⟩ = some (.int .i64 0) ∧ W.cell? ⟨w.heap.size + 1, 0, none⟩ = some (.int .i64 0) ∧ W.cell? ⟨w.heap.size + 1, 1, none⟩ = some (.int .i64 0) ∧ W.frozen? ⟨w.heap.size + 1, 0, none⟩ = false ∧ W.frozen? ⟨w.heap.size + 1, 1, none⟩ = false ∧ w.heap.size + 1 + 1 + 1 < W.heap.size ∧ Hid (Below w.heap.size w W)) ⟨by go_simp, by go_simp, by go_simp, by go_simp, by go_simp, by go_simp, by go_simp, by go_simp, by go_simp, by go_simp, by go_simp, by go_simp, by go_simp, by simp, Lib.hid (by repeat (first | exact Below.refl _ _ | refine Below.alloc ?_ (by simp; try omega) _ | refine Below.setCell ?_ (by simp; try omega) _ | refine Below.drew ?_))⟩ ?_
  rintro W ⟨c0, c1, c2, c3, c4, w0, w1, e0, e1, r0, r1, f0, f1, hsz, HBW⟩
  clear h0 HP HF
  go_region_held3 (fun w' => w'.cell? ⟨w.heap.size, 0, none⟩ = some (.int .u8 k) ∧ w'.cell? ⟨w.heap.size, 1, none⟩ = some (.int .i64 nn) ∧ w'.cell? ⟨w.heap.size, 2, none⟩ = some (.int .i64 0) ∧ w'.cell? ⟨w.heap.size, 3, none⟩ = some (.int .i64 b) ∧ w'.cell? ⟨w.heap.size, 4, none⟩ = some (.int .i64 p) ∧ w'.cell? ⟨w.heap.size + 1 + 1, 0, none⟩ = some (.int .i64 1) ∧ w'.cell? ⟨w.heap.size + 1 + 1, 1, none⟩ = some (.int .i64 1) ∧ w'.cell? ⟨w.heap.size + 1 + 1 + 1, 0, none⟩ = some (.int .i64 0) ∧ w'.cell? ⟨w.heap.size + 1 + 1 + 1, 1, none⟩ = some (.int .i64 0)) (go_keep) (fail)
  go_wp2
  refine bodyPost_ret (v := .tuple #[.agg #[.int .i64 (1 : Nat), .int .i64 (1 : Nat)], .bool false]) (by simp [results, Try.results41, go_sem, r0, r1, f0, f1, hsz]) rfl ⟨rfl, ?_⟩
  exact (HBW.out.drew.setCell (by simp) _).setCell (by simp) _
set_option maxHeartbeats 2000000 in
theorem next_v0_f (k nn a b p : Int) (w : World) (A : Option Addr) (n c : Nat) (e2 : partsN k = 0) (h0 : okK k = true) (h1 : fitsF k nn p = true) (ha : ¬ a = 0) :
    Calls Try.prog 41 #[.slice A n c, .agg #[.int .u8 k, .int .i64 nn, .int .i64 a, .int .i64 b, .int .i64 p]] w fun e w' => e = .returned (.tuple #[.agg #[.int .i64 (1 : Nat), .int .i64 (1 : Nat)], .bool false]) ∧ Below w.heap.size w w' := by
  have e3 : partsE k = 0 := by simp [partsE, h0]
  have HP := Lib.hid (fun w => show Calls Try.prog 50 #[.int .u8 k] w fun e w' => e = .returned (.tuple #[.int .i64 0, .int .i64 0]) ∧ w = w' by have := parts_any k w; rwa [e2, e3] at this)
  have HF := Lib.hid (fun w => fits_any k nn p true h1 w)
  have hgt : Try.prog.eqGuardType Try.prog.depth 45 = false := by kernel_rfl
  clear e2 e3 h1
  go_enter Try.func41, Try.ntmps41
  go_wp2_with (first
      | (go_at_call 50; refine (HP.out _).mono ?_; rintro e w' ⟨rfl, rfl⟩)
      | (go_at_call 51; refine (HF.out _).mono ?_; rintro e w' ⟨rfl, rfl⟩))
  refine wp_loop_rounds 1 ?_
  rw [rounds_succ]; go_wp2
  refine wp_gen (fun W => W.cell? ⟨w.heap.size, 0, none⟩ = some (.int .u8 k) ∧ W.cell? ⟨w.heap.size, 1, none⟩ = some (.int .i64 nn) ∧ W.cell? ⟨w.heap.size, 2, none⟩ = some (.int .i64 a) ∧ W.cell? ⟨w.heap.size, 3, none⟩ = some (.int .i64 b) ∧ W.cell? ⟨w.heap.size, 4, none⟩ = some (.int .i64 p) ∧ W.cell? ⟨w.heap.size + 1 + 1, 0, none⟩ = some (.int .i64 1) ∧ W.cell? ⟨w.heap.size + 1 + 1, 1, none⟩ = some (.int .i64 1) ∧ W.cell? ⟨w.heap.size + 1 + 1 + 1, 0, none⟩ = some (.int .i64 0) ∧ W.cell? ⟨w.heap.size + 1 + 1 + 1, 1, none⟩ = some (.int .i64 0) ∧ W.cell? ⟨w.heap.size + 1, 0, none⟩ = some (.int .i64 0) ∧ W.cell? ⟨w.heap.size + 1, 1, none⟩ = some (.int .i64 0) ∧ W.frozen? ⟨w.heap.size + 1, 0, none⟩ = false ∧ W.frozen? ⟨w.heap.size + 1, 1, none⟩ = false ∧ w.heap.size + 1 + 1 + 1 < W.heap.size ∧ Hid (Below w.heap.size w W)) ⟨by go_simp, by go_simp, by go_simp, by go_simp, by go_simp, by go_simp, by go_simp, by go_simp, by go_simp, by go_simp, by go_simp, by go_simp, by go_simp, by simp, Lib.hid (by repeat (first | exact Below.refl _ _ | refine Below.alloc ?_ (by simp; try omega) _ | refine Below.setCell ?_ (by simp; try omega) _ | refine Below.drew ?_))⟩ ?_
  rintro W ⟨c0, c1, c2, c3, c4, w0, w1, e0, e1, r0, r1, f0, f1, hsz, HBW⟩
  clear h0 HP HF
  go_region_held3 (fun w' => w'.cell? ⟨w.heap.size, 0, none⟩ = some (.int .u8 k) ∧ w'.cell? ⟨w.heap.size, 1, none⟩ = some (.int .i64 nn) ∧ w'.cell? ⟨w.heap.size, 2, none⟩ = some (.int .i64 a) ∧ w'.cell? ⟨w.heap.size, 3, none⟩ = some (.int .i64 b) ∧ w'.cell? ⟨w.heap.size, 4, none⟩ = some (.int .i64 p) ∧ w'.cell? ⟨w.heap.size + 1 + 1, 0, none⟩ = some (.int .i64 1) ∧ w'.cell? ⟨w.heap.size + 1 + 1, 1, none⟩ = some (.int .i64 1) ∧ w'.cell? ⟨w.heap.size + 1 + 1 + 1, 0, none⟩ = some (.int .i64 0) ∧ w'.cell? ⟨w.heap.size + 1 + 1 + 1, 1, none⟩ = some (.int .i64 0)) (go_keep) (fail)
  go_wp2
  refine bodyPost_ret (v := .tuple #[.agg #[.int .i64 (1 : Nat), .int .i64 (1 : Nat)], .bool false]) (by simp [results, Try.results41, go_sem, r0, r1, f0, f1, hsz]) rfl ⟨rfl, ?_⟩
  exact (HBW.out.drew.setCell (by simp) _).setCell (by simp) _

theorem next_n1_1 (k nn a b p : Int) (w : World) (A : Option Addr) (c : Nat) (h0 : okK k = true) (h1 : fitsF k nn p = true) (e2 : partsN k = 1) :
    Calls Try.prog 41 #[.slice A 0 c, .agg #[.int .u8 k, .int .i64 nn, .int .i64 a, .int .i64 b, .int .i64 p]] w (NextNo w) := by
  have e3 : partsE k = 0 := by simp [partsE, h0]
  have HP := Lib.hid (fun w => show Calls Try.prog 50 #[.int .u8 k] w fun e w' => e = .returned (.tuple #[.int .i64 1, .int .i64 0]) ∧ w = w' by have := parts_any k w; rwa [e2, e3] at this)
  have HF := Lib.hid (fun w => fits_any k nn p true h1 w)
  clear e2 e3 h1
  go_enter Try.func41, Try.ntmps41
  go_wp2_with (first
      | (go_at_call 50; refine (HP.out _).mono ?_; rintro e w' ⟨rfl, rfl⟩)
      | (go_at_call 51; refine (HF.out _).mono ?_; rintro e w' ⟨rfl, rfl⟩))
  refine wp_loop_rounds 1 ?_
  rw [rounds_succ]; go_wp2
  refine bodyPost_ret (v := .tuple #[.agg #[.int .i64 0, .int .i64 0], .bool false]) (by simp [results, Try.results41, go_sem]) rfl ⟨0, 0, rfl, ?_⟩
  repeat (first | exact Below.refl _ _ | refine Below.alloc ?_ (by simp; try omega) _ | refine Below.setCell ?_ (by simp; try omega) _ | refine Below.drew ?_)
theorem next_n1_2 (k nn a b p : Int) (w : World) (A : Option Addr) (c : Nat) (h0 : okK k = true) (h1 : fitsF k nn p = true) (e2 : partsN k = 2) :
    Calls Try.prog 41 #[.slice A 0 c, .agg #[.int .u8 k, .int .i64 nn, .int .i64 a, .int .i64 b, .int .i64 p]] w (NextNo w) := by
  have e3 : partsE k = 0 := by simp [partsE, h0]
  have HP := Lib.hid (fun w => show Calls Try.prog 50 #[.int .u8 k] w fun e w' => e = .returned (.tuple #[.int .i64 2, .int .i64 0]) ∧ w = w' by have := parts_any k w; rwa [e2, e3] at this)
  have HF := Lib.hid (fun w => fits_any k nn p true h1 w)
  clear e2 e3 h1
  go_enter Try.func41, Try.ntmps41
  go_wp2_with (first
      | (go_at_call 50; refine (HP.out _).mono ?_; rintro e w' ⟨rfl, rfl⟩)
      | (go_at_call 51; refine (HF.out _).mono ?_; rintro e w' ⟨rfl, rfl⟩))
  refine wp_loop_rounds 1 ?_
  rw [rounds_succ]; go_wp2
  refine bodyPost_ret (v := .tuple #[.agg #[.int .i64 0, .int .i64 0], .bool false]) (by simp [results, Try.results41, go_sem]) rfl ⟨0, 0, rfl, ?_⟩
  repeat (first | exact Below.refl _ _ | refine Below.alloc ?_ (by simp; try omega) _ | refine Below.setCell ?_ (by simp; try omega) _ | refine Below.drew ?_)

set_option maxHeartbeats 2000000 in
theorem next_v1_tt (k nn a b p : Int) (w : World) (ad : Addr) (m c es ed : Nat) (d0 : w.cell? (ad.add (m * 2)) = some (.int .i64 es)) (d1 : w.cell? ⟨(ad.add (m * 2)).block, (ad.add (m * 2)).off + 1, none⟩ = some (.int .i64 ed)) (hab : (ad.add (m * 2)).block < w.heap.size) (hn : m ≤ 60) (q4 : es ≤ 60) (q5 : ed ≤ 60) (q6 : 1 ≤ ed) (e2 : partsN k = 1) (h0 : okK k = true) (h1 : fitsF k nn p = true)  :
    Calls Try.prog 41 #[.slice (some ad) (m + 1) c, .agg #[.int .u8 k, .int .i64 nn, .int .i64 (m : Int), .int .i64 0, .int .i64 p]] w fun e w' => e = .returned (.tuple #[.agg #[.int .i64 (1 + es : Nat), .int .i64 (ed + 1 : Nat)], .bool true]) ∧ Below w.heap.size w w' := by
  have e3 : partsE k = 0 := by simp [partsE, h0]
  have HP := Lib.hid (fun w => show Calls Try.prog 50 #[.int .u8 k] w fun e w' => e = .returned (.tuple #[.int .i64 1, .int .i64 0]) ∧ w = w' by have := parts_any k w; rwa [e2, e3] at this)
  have HF := Lib.hid (fun w => fits_any k nn p true h1 w)
  have hgt : Try.prog.eqGuardType Try.prog.depth 45 = false := by kernel_rfl
  clear e2 e3 h1
  have q1 : (ad.add (m * 2)).block < w.heap.size + 1 := by omega
  have q2 : (ad.add (m * 2)).block < w.heap.size + 1 + 1 := by omega
  have q3 : (ad.add (m * 2)).block < w.heap.size + 1 + 1 + 1 := by omega
  have q7 : ¬ ((ed : Int) + 1 ≤ 1) := by omega
  go_enter Try.func41, Try.ntmps41
  go_wp2_with (first
      | (go_at_call 50; refine (HP.out _).mono ?_; rintro e w' ⟨rfl, rfl⟩)
      | (go_at_call 51; refine (HF.out _).mono ?_; rintro e w' ⟨rfl, rfl⟩))
  refine wp_loop_rounds 2 ?_
  rw [rounds_succ]; go_wp2
  go_region
  go_wp2
  go_region
  go_wp2
  rw [rounds_succ]; go_wp2
  refine wp_gen (fun W => W.cell? ⟨w.heap.size, 0, none⟩ = some (.int .u8 k) ∧ W.cell? ⟨w.heap.size, 1, none⟩ = some (.int .i64 nn) ∧ W.cell? ⟨w.heap.size, 2, none⟩ = some (.int .i64 (m : Int)) ∧ W.cell? ⟨w.heap.size, 3, none⟩ = some (.int .i64 0) ∧ W.cell? ⟨w.heap.size, 4, none⟩ = some (.int .i64 p) ∧ W.cell? ⟨w.heap.size + 1 + 1, 0, none⟩ = some (.int .i64 (1 + es)) ∧ W.cell? ⟨w.heap.size + 1 + 1, 1, none⟩ = some (.int .i64 (ed + 1)) ∧ W.cell? ⟨w.heap.size + 1 + 1 + 1, 0, none⟩ = some (.int .i64 m) ∧ W.cell? ⟨w.heap.size + 1 + 1 + 1, 1, none⟩ = some (.int .i64 0) ∧ W.cell? ⟨w.heap.size + 1, 0, none⟩ = some (.int .i64 0) ∧ W.cell? ⟨w.heap.size + 1, 1, none⟩ = some (.int .i64 0) ∧ W.frozen? ⟨w.heap.size + 1, 0, none⟩ = false ∧ W.frozen? ⟨w.heap.size + 1, 1, none⟩ = false ∧ w.heap.size + 1 + 1 + 1 < W.heap.size ∧ Hid (Below w.heap.size w W)) ⟨by go_simp, by go_simp, by go_simp, by go_simp, by go_simp, by go_simp, by go_simp, by go_simp, by go_simp, by go_simp, by go_simp, by go_simp, by go_simp, by simp, Lib.hid (by repeat (first | exact Below.refl _ _ | refine Below.alloc ?_ (by simp; try omega) _ | refine Below.setCell ?_ (by simp; try omega) _ | refine Below.drew ?_))⟩ ?_
  rintro W ⟨c0, c1, c2, c3, c4, w0, w1, e0, e1, r0, r1, f0, f1, hsz, HBW⟩
  clear hab q1 q2 q3 q7 d0 d1 q4 q5 q6 hn h0 HP HF
  go_region_held3 (fun w' => w'.cell? ⟨w.heap.size, 0, none⟩ = some (.int .u8 k) ∧ w'.cell? ⟨w.heap.size, 1, none⟩ = some (.int .i64 nn) ∧ w'.cell? ⟨w.heap.size, 2, none⟩ = some (.int .i64 (m : Int)) ∧ w'.cell? ⟨w.heap.size, 3, none⟩ = some (.int .i64 0) ∧ w'.cell? ⟨w.heap.size, 4, none⟩ = some (.int .i64 p) ∧ w'.cell? ⟨w.heap.size + 1 + 1, 0, none⟩ = some (.int .i64 (1 + es)) ∧ w'.cell? ⟨w.heap.size + 1 + 1, 1, none⟩ = some (.int .i64 (ed + 1)) ∧ w'.cell? ⟨w.heap.size + 1 + 1 + 1, 0, none⟩ = some (.int .i64 m) ∧ w'.cell? ⟨w.heap.size + 1 + 1 + 1, 1, none⟩ = some (.int .i64 0)) (go_keep) (fail)
  go_wp2
  refine bodyPost_ret (v := .tuple #[.agg #[.int .i64 (1 + es : Nat), .int .i64 (ed + 1 : Nat)], .bool true]) (by simp [results, Try.results41, go_sem, r0, r1, f0, f1, hsz]) rfl ⟨rfl, ?_⟩
  exact (HBW.out.drew.setCell (by simp) _).setCell (by simp) _
set_option maxHeartbeats 2000000 in
theorem next_v1_tf (k nn a b p : Int) (w : World) (ad : Addr) (m c es ed : Nat) (d0 : w.cell? (ad.add (m * 2)) = some (.int .i64 es)) (d1 : w.cell? ⟨(ad.add (m * 2)).block, (ad.add (m * 2)).off + 1, none⟩ = some (.int .i64 ed)) (hab : (ad.add (m * 2)).block < w.heap.size) (hn : m ≤ 60) (q4 : es ≤ 60) (q5 : ed ≤ 60) (q6 : 1 ≤ ed) (e2 : partsN k = 1) (h0 : okK k = true) (h1 : fitsF k nn p = true) (hb : ¬ b = 0) :
    Calls Try.prog 41 #[.slice (some ad) (m + 1) c, .agg #[.int .u8 k, .int .i64 nn, .int .i64 (m : Int), .int .i64 b, .int .i64 p]] w fun e w' => e = .returned (.tuple #[.agg #[.int .i64 (1 + es : Nat), .int .i64 (ed + 1 : Nat)], .bool false]) ∧ Below w.heap.size w w' := by
  have e3 : partsE k = 0 := by simp [partsE, h0]
  have HP := Lib.hid (fun w => show Calls Try.prog 50 #[.int .u8 k] w fun e w' => e = .returned (.tuple #[.int .i64 1, .int .i64 0]) ∧ w = w' by have := parts_any k w; rwa [e2, e3] at this)
  have HF := Lib.hid (fun w => fits_any k nn p true h1 w)
  have hgt : Try.prog.eqGuardType Try.prog.depth 45 = false := by kernel_rfl
  clear e2 e3 h1
  have q1 : (ad.add (m * 2)).block < w.heap.size + 1 := by omega
  have q2 : (ad.add (m * 2)).block < w.heap.size + 1 + 1 := by omega
  have q3 : (ad.add (m * 2)).block < w.heap.size + 1 + 1 + 1 := by omega
  have q7 : ¬ ((ed : Int) + 1 ≤ 1) := by omega
  go_enter Try.func41, Try.ntmps41
  go_wp2_with (first
      | (go_at_call 50; refine (HP.out _).mono ?_; rintro e w' ⟨rfl, rfl⟩)
      | (go_at_call 51; refine (HF.out _).mono ?_; rintro e w' ⟨rfl, rfl⟩))
  refine wp_loop_rounds 2 ?_
  rw [rounds_succ]; go_wp2
  go_region
  go_wp2
  go_region
  go_wp2
  rw [rounds_succ]; go_wp2
  refine wp_gen (fun W => W.cell? ⟨w.heap.size, 0, none⟩ = some (.int .u8 k) ∧ W.cell? ⟨w.heap.size, 1, none⟩ = some (.int .i64 nn) ∧ W.cell? ⟨w.heap.size, 2, none⟩ = some (.int .i64 (m : Int)) ∧ W.cell? ⟨w.heap.size, 3, none⟩ = some (.int .i64 b) ∧ W.cell? ⟨w.heap.size, 4, none⟩ = some (.int .i64 p) ∧ W.cell? ⟨w.heap.size + 1 + 1, 0, none⟩ = some (.int .i64 (1 + es)) ∧ W.cell? ⟨w.heap.size + 1 + 1, 1, none⟩ = some (.int .i64 (ed + 1)) ∧ W.cell? ⟨w.heap.size + 1 + 1 + 1, 0, none⟩ = some (.int .i64 m) ∧ W.cell? ⟨w.heap.size + 1 + 1 + 1, 1, none⟩ = some (.int .i64 0) ∧ W.cell? ⟨w.heap.size + 1, 0, none⟩ = some (.int .i64 0) ∧ W.cell? ⟨w.heap.size + 1, 1, none⟩ = some (.int .i64 0) ∧ W.frozen? ⟨w.heap.size + 1, 0, none⟩ = false ∧ W.frozen? ⟨w.heap.size + 1, 1, none⟩ = false ∧ w.heap.size + 1 + 1 + 1 < W.heap.size ∧ Hid (Below w.heap.size w W)) ⟨by go_simp, by go_simp, by go_simp, by go_simp, by go_simp, by go_simp, by go_simp, by go_simp, by go_simp, by go_simp, by go_simp, by go_simp, by go_simp, by simp, Lib.hid (by repeat (first | exact Below.refl _ _ | refine Below.alloc ?_ (by simp; try omega) _ | refine Below.setCell ?_ (by simp; try omega) _ | refine Below.drew ?_))⟩ ?_
  rintro W ⟨c0, c1, c2, c3, c4, w0, w1, e0, e1, r0, r1, f0, f1, hsz, HBW⟩
  clear hab q1 q2 q3 q7 d0 d1 q4 q5 q6 hn h0 HP HF
  go_region_held3 (fun w' => w'.cell? ⟨w.heap.size, 0, none⟩ = some (.int .u8 k) ∧ w'.cell? ⟨w.heap.size, 1, none⟩ = some (.int .i64 nn) ∧ w'.cell? ⟨w.heap.size, 2, none⟩ = some (.int .i64 (m : Int)) ∧ w'.cell? ⟨w.heap.size, 3, none⟩ = some (.int .i64 b) ∧ w'.cell? ⟨w.heap.size, 4, none⟩ = some (.int .i64 p) ∧ w'.cell? ⟨w.heap.size + 1 + 1, 0, none⟩ = some (.int .i64 (1 + es)) ∧ w'.cell? ⟨w.heap.size + 1 + 1, 1, none⟩ = some (.int .i64 (ed + 1)) ∧ w'.cell? ⟨w.heap.size + 1 + 1 + 1, 0, none⟩ = some (.int .i64 m) ∧ w'.cell? ⟨w.heap.size + 1 + 1 + 1, 1, none⟩ = some (.int .i64 0)) (go_keep) (fail)
  go_wp2
  refine bodyPost_ret (v := .tuple #[.agg #[.int .i64 (1 + es : Nat), .int .i64 (ed + 1 : Nat)], .bool false]) (by simp [results, Try.results41, go_sem, r0, r1, f0, f1, hsz]) rfl ⟨rfl, ?_⟩
  exact (HBW.out.drew.setCell (by simp) _).setCell (by simp) _
set_option maxHeartbeats 2000000 in
theorem next_v1_f (k nn a b p : Int) (w : World) (ad : Addr) (m c es ed : Nat) (d0 : w.cell? (ad.add (m * 2)) = some (.int .i64 es)) (d1 : w.cell? ⟨(ad.add (m * 2)).block, (ad.add (m * 2)).off + 1, none⟩ = some (.int .i64 ed)) (hab : (ad.add (m * 2)).block < w.heap.size) (hn : m ≤ 60) (q4 : es ≤ 60) (q5 : ed ≤ 60) (q6 : 1 ≤ ed) (e2 : partsN k = 1) (h0 : okK k = true) (h1 : fitsF k nn p = true) (ha : ¬ a = (m : Int)) :
    Calls Try.prog 41 #[.slice (some ad) (m + 1) c, .agg #[.int .u8 k, .int .i64 nn, .int .i64 a, .int .i64 b, .int .i64 p]] w fun e w' => e = .returned (.tuple #[.agg #[.int .i64 (1 + es : Nat), .int .i64 (ed + 1 : Nat)], .bool false]) ∧ Below w.heap.size w w' := by
  have e3 : partsE k = 0 := by simp [partsE, h0]
  have HP := Lib.hid (fun w => show Calls Try.prog 50 #[.int .u8 k] w fun e w' => e = .returned (.tuple #[.int .i64 1, .int .i64 0]) ∧ w = w' by have := parts_any k w; rwa [e2, e3] at this)
  have HF := Lib.hid (fun w => fits_any k nn p true h1 w)
  have hgt : Try.prog.eqGuardType Try.prog.depth 45 = false := by kernel_rfl
  clear e2 e3 h1
  have q1 : (ad.add (m * 2)).block < w.heap.size + 1 := by omega
  have q2 : (ad.add (m * 2)).block < w.heap.size + 1 + 1 := by omega
  have q3 : (ad.add (m * 2)).block < w.heap.size + 1 + 1 + 1 := by omega
  have q7 : ¬ ((ed : Int) + 1 ≤ 1) := by omega
  go_enter Try.func41, Try.ntmps41
  go_wp2_with (first
      | (go_at_call 50; refine (HP.out _).mono ?_; rintro e w' ⟨rfl, rfl⟩)
      | (go_at_call 51; refine (HF.out _).mono ?_; rintro e w' ⟨rfl, rfl⟩))
  refine wp_loop_rounds 2 ?_
  rw [rounds_succ]; go_wp2
  go_region
  go_wp2
  go_region
  go_wp2
  rw [rounds_succ]; go_wp2
  refine wp_gen (fun W => W.cell? ⟨w.heap.size, 0, none⟩ = some (.int .u8 k) ∧ W.cell? ⟨w.heap.size, 1, none⟩ = some (.int .i64 nn) ∧ W.cell? ⟨w.heap.size, 2, none⟩ = some (.int .i64 a) ∧ W.cell? ⟨w.heap.size, 3, none⟩ = some (.int .i64 b) ∧ W.cell? ⟨w.heap.size, 4, none⟩ = some (.int .i64 p) ∧ W.cell? ⟨w.heap.size + 1 + 1, 0, none⟩ = some (.int .i64 (1 + es)) ∧ W.cell? ⟨w.heap.size + 1 + 1, 1, none⟩ = some (.int .i64 (ed + 1)) ∧ W.cell? ⟨w.heap.size + 1 + 1 + 1, 0, none⟩ = some (.int .i64 m) ∧ W.cell? ⟨w.heap.size + 1 + 1 + 1, 1, none⟩ = some (.int .i64 0) ∧ W.cell? ⟨w.heap.size + 1, 0, none⟩ = some (.int .i64 0) ∧ W.cell? ⟨w.heap.size + 1, 1, none⟩ = some (.int .i64 0) ∧ W.frozen? ⟨w.heap.size + 1, 0, none⟩ = false ∧ W.frozen? ⟨w.heap.size + 1, 1, none⟩ = false ∧ w.heap.size + 1 + 1 + 1 < W.heap.size ∧ Hid (Below w.heap.size w W)) ⟨by go_simp, by go_simp, by go_simp, by go_simp, by go_simp, by go_simp, by go_simp, by go_simp, by go_simp, by go_simp, by go_simp, by go_simp, by go_simp, by simp, Lib.hid (by repeat (first | exact Below.refl _ _ | refine Below.alloc ?_ (by simp; try omega) _ | refine Below.setCell ?_ (by simp; try omega) _ | refine Below.drew ?_))⟩ ?_
  rintro W ⟨c0, c1, c2, c3, c4, w0, w1, e0, e1, r0, r1, f0, f1, hsz, HBW⟩
  clear hab q1 q2 q3 q7 d0 d1 q4 q5 q6 hn h0 HP HF
  go_region_held3 (fun w' => w'.cell? ⟨w.heap.size, 0, none⟩ = some (.int .u8 k) ∧ w'.cell? ⟨w.heap.size, 1, none⟩ = some (.int .i64 nn) ∧ w'.cell? ⟨w.heap.size, 2, none⟩ = some (.int .i64 a) ∧ w'.cell? ⟨w.heap.size, 3, none⟩ = some (.int .i64 b) ∧ w'.cell? ⟨w.heap.size, 4, none⟩ = some (.int .i64 p) ∧ w'.cell? ⟨w.heap.size + 1 + 1, 0, none⟩ = some (.int .i64 (1 + es)) ∧ w'.cell? ⟨w.heap.size + 1 + 1, 1, none⟩ = some (.int .i64 (ed + 1)) ∧ w'.cell? ⟨w.heap.size + 1 + 1 + 1, 0, none⟩ = some (.int .i64 m) ∧ w'.cell? ⟨w.heap.size + 1 + 1 + 1, 1, none⟩ = some (.int .i64 0)) (go_keep) (fail)
  go_wp2
  refine bodyPost_ret (v := .tuple #[.agg #[.int .i64 (1 + es : Nat), .int .i64 (ed + 1 : Nat)], .bool false]) (by simp [results, Try.results41, go_sem, r0, r1, f0, f1, hsz]) rfl ⟨rfl, ?_⟩
  exact (HBW.out.drew.setCell (by simp) _).setCell (by simp) _

set_option maxHeartbeats 2000000 in
theorem next_n2 (k nn a b p : Int) (w : World) (ad : Addr) (m c es ed : Nat) (d0 : w.cell? (ad.add (m * 2)) = some (.int .i64 es)) (d1 : w.cell? ⟨(ad.add (m * 2)).block, (ad.add (m * 2)).off + 1, none⟩ = some (.int .i64 ed)) (hab : (ad.add (m * 2)).block < w.heap.size) (hn : m ≤ 60) (q4 : es ≤ 60) (q5 : ed ≤ 60) (q6 : 1 ≤ ed) (e2 : partsN k = 2) (h0 : okK k = true) (h1 : fitsF k nn p = true) (hx : m < es) :
    Calls Try.prog 41 #[.slice (some ad) (m + 1) c, .agg #[.int .u8 k, .int .i64 nn, .int .i64 a, .int .i64 b, .int .i64 p]] w (NextNo w) := by
  have e3 : partsE k = 0 := by simp [partsE, h0]
  have HP := Lib.hid (fun w => show Calls Try.prog 50 #[.int .u8 k] w fun e w' => e = .returned (.tuple #[.int .i64 2, .int .i64 0]) ∧ w = w' by have := parts_any k w; rwa [e2, e3] at this)
  have HF := Lib.hid (fun w => fits_any k nn p true h1 w)
  have hgt : Try.prog.eqGuardType Try.prog.depth 45 = false := by kernel_rfl
  clear e2 e3 h1
  have q1 : (ad.add (m * 2)).block < w.heap.size + 1 := by omega
  have q2 : (ad.add (m * 2)).block < w.heap.size + 1 + 1 := by omega
  have q3 : (ad.add (m * 2)).block < w.heap.size + 1 + 1 + 1 := by omega
  have q8 : (m : Int) + 1 - (1 + es) < 0 := by omega
  have q7 : ¬ ((ed : Int) + 1 ≤ 1) := by omega
  go_enter Try.func41, Try.ntmps41
  go_wp2_with (first
      | (go_at_call 50; refine (HP.out _).mono ?_; rintro e w' ⟨rfl, rfl⟩)
      | (go_at_call 51; refine (HF.out _).mono ?_; rintro e w' ⟨rfl, rfl⟩))
  refine wp_loop_rounds 2 ?_
  rw [rounds_succ]; go_wp2
  go_region
  go_wp2
  go_region
  go_wp2
  rw [rounds_succ]; go_wp2
  refine bodyPost_ret (v := .tuple #[.agg #[.int .i64 0, .int .i64 0], .bool false]) (by simp [results, Try.results41, go_sem]) rfl ⟨0, 0, rfl, ?_⟩
  repeat (first | exact Below.refl _ _ | refine Below.alloc ?_ (by simp; try omega) _ | refine Below.setCell ?_ (by simp; try omega) _ | refine Below.drew ?_)
end Go.Proofs.Ytaijhkfbfkdepaa.N4
