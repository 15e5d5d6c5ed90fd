
/- Walks of next where a node has two parts. -/
import Derived.Test.YtaijhkfbfkdepaaNNext1
namespace Go.Proofs.Ytaijhkfbfkdepaa.N4
open Go.ChangeShapes Go.WideShapes Go.ChangeAt Go.RowKit
set_option linter.unusedVariables false
set_option maxRecDepth 100000
set_option linter.unusedSimpArgs false

set_option maxHeartbeats 2000000 in
theorem next_v2_tta (k nn a b p : Int) (w : World) (ad : Addr) (m c es ed fs fd g : Nat) (d0 : w.cell? (ad.add ((m + es) * 2)) = some (.int .i64 es)) (d1 : w.cell? ⟨(ad.add ((m + es) * 2)).block, (ad.add ((m + es) * 2)).off + 1, none⟩ = some (.int .i64 ed)) (hab : (ad.add ((m + es) * 2)).block < w.heap.size) (g0 : w.cell? (ad.add (m * 2)) = some (.int .i64 fs)) (g1 : w.cell? ⟨(ad.add (m * 2)).block, (ad.add (m * 2)).off + 1, none⟩ = some (.int .i64 fd)) (hab' : (ad.add (m * 2)).block < w.heap.size) (hn : m ≤ 60) (q4 : es ≤ 60) (q5 : ed ≤ 60) (q6 : 1 ≤ ed) (q4' : fs ≤ 60) (q5' : fd ≤ 60) (e2 : partsN k = 2) (h0 : okK k = true) (h1 : fitsF k nn p = true)  (hx : ed < fd) :
    Calls Try.prog 41 #[.slice (some ad) (m + es + 1) c, .agg #[.int .u8 k, .int .i64 nn, .int .i64 (m : Int), .int .i64 ((m : Int) + es), .int .i64 p]] w fun e w' => e = .returned (.tuple #[.agg #[.int .i64 (1 + es + fs : Nat), .int .i64 (fd + 1 : Nat)], .bool true]) ∧ Below w.heap.size w w' := by
  have e3 : partsE k = 0 := by simp [partsE, h0]
  have HP := Lib.hid (fun w => show Calls Try.prog 50 #[.int .u8 k] w fun e w' => e = .returned (.tuple #[.int .i64 2, .int .i64 0]) ∧ w = w' by have := parts_any k w; rwa [e2, e3] at this)
  have HF := Lib.hid (fun w => fits_any k nn p true h1 w)
  have hgt : Try.prog.eqGuardType Try.prog.depth 45 = false := by kernel_rfl
  clear e2 e3 h1
  have q1 : (ad.add ((m + es) * 2)).block < w.heap.size + 1 := by omega
  have q2 : (ad.add ((m + es) * 2)).block < w.heap.size + 1 + 1 := by omega
  have q3 : (ad.add ((m + es) * 2)).block < w.heap.size + 1 + 1 + 1 := by omega
  have q1' : (ad.add (m * 2)).block < w.heap.size + 1 := by omega
  have q2' : (ad.add (m * 2)).block < w.heap.size + 1 + 1 := by omega
  have q3' : (ad.add (m * 2)).block < w.heap.size + 1 + 1 + 1 := by omega
  have q8 : (m : Int) + es + 1 - (1 + es) = m := by omega
  have q7 : ¬ ((ed : Int) + 1 ≤ 1) := by omega
  go_enter Try.func41, Try.ntmps41
  go_wp2_with (first
      | (go_at_call 50; refine (HP.out _).mono ?_; rintro e w' ⟨rfl, rfl⟩)
      | (go_at_call 51; refine (HF.out _).mono ?_; rintro e w' ⟨rfl, rfl⟩))
  refine wp_loop_rounds 3 ?_
  rw [rounds_succ]; go_wp2
  go_region
  go_wp2
  go_region
  go_wp2
  rw [rounds_succ]; go_wp2
  go_region
  go_wp2
  go_region
  go_wp2
  rw [rounds_succ]; go_wp2
  refine wp_gen (fun W => W.cell? ⟨w.heap.size, 0, none⟩ = some (.int .u8 k) ∧ W.cell? ⟨w.heap.size, 1, none⟩ = some (.int .i64 nn) ∧ W.cell? ⟨w.heap.size, 2, none⟩ = some (.int .i64 (m : Int)) ∧ W.cell? ⟨w.heap.size, 3, none⟩ = some (.int .i64 ((m : Int) + es)) ∧ W.cell? ⟨w.heap.size, 4, none⟩ = some (.int .i64 p) ∧ W.cell? ⟨w.heap.size + 1 + 1, 0, none⟩ = some (.int .i64 (1 + es + fs)) ∧ W.cell? ⟨w.heap.size + 1 + 1, 1, none⟩ = some (.int .i64 (fd + 1)) ∧ W.cell? ⟨w.heap.size + 1 + 1 + 1, 0, none⟩ = some (.int .i64 m) ∧ W.cell? ⟨w.heap.size + 1 + 1 + 1, 1, none⟩ = some (.int .i64 ((m : Int) + es)) ∧ W.cell? ⟨w.heap.size + 1, 0, none⟩ = some (.int .i64 0) ∧ W.cell? ⟨w.heap.size + 1, 1, none⟩ = some (.int .i64 0) ∧ W.frozen? ⟨w.heap.size + 1, 0, none⟩ = false ∧ W.frozen? ⟨w.heap.size + 1, 1, none⟩ = false ∧ w.heap.size + 1 + 1 + 1 < W.heap.size ∧ Hid (Below w.heap.size w W)) ⟨by go_simp, by go_simp, by go_simp, by go_simp, by go_simp, by go_simp, by go_simp, by go_simp, by go_simp, by go_simp, by go_simp, by go_simp, by go_simp, by simp, Lib.hid (by repeat (first | exact Below.refl _ _ | refine Below.alloc ?_ (by simp; try omega) _ | refine Below.setCell ?_ (by simp; try omega) _ | refine Below.drew ?_))⟩ ?_
  rintro W ⟨c0, c1, c2, c3, c4, w0, w1, e0, e1, r0, r1, f0, f1, hsz, HBW⟩
  clear hab q1 q2 q3 q7 d0 d1 q4 q5 q6 hn h0 HP HF hab' q1' q2' q3' g0 g1 q4' q5' q8 hx
  go_region_held3 (fun w' => w'.cell? ⟨w.heap.size, 0, none⟩ = some (.int .u8 k) ∧ w'.cell? ⟨w.heap.size, 1, none⟩ = some (.int .i64 nn) ∧ w'.cell? ⟨w.heap.size, 2, none⟩ = some (.int .i64 (m : Int)) ∧ w'.cell? ⟨w.heap.size, 3, none⟩ = some (.int .i64 ((m : Int) + es)) ∧ w'.cell? ⟨w.heap.size, 4, none⟩ = some (.int .i64 p) ∧ w'.cell? ⟨w.heap.size + 1 + 1, 0, none⟩ = some (.int .i64 (1 + es + fs)) ∧ w'.cell? ⟨w.heap.size + 1 + 1, 1, none⟩ = some (.int .i64 (fd + 1)) ∧ w'.cell? ⟨w.heap.size + 1 + 1 + 1, 0, none⟩ = some (.int .i64 m) ∧ w'.cell? ⟨w.heap.size + 1 + 1 + 1, 1, none⟩ = some (.int .i64 ((m : Int) + es))) (go_keep) (fail)
  go_wp2
  refine bodyPost_ret (v := .tuple #[.agg #[.int .i64 (1 + es + fs : Nat), .int .i64 (fd + 1 : Nat)], .bool true]) (by simp [results, Try.results41, go_sem, r0, r1, f0, f1, hsz]) rfl ⟨rfl, ?_⟩
  exact (HBW.out.drew.setCell (by simp) _).setCell (by simp) _
set_option maxHeartbeats 2000000 in
theorem next_v2_ttb (k nn a b p : Int) (w : World) (ad : Addr) (m c es ed fs fd g : Nat) (d0 : w.cell? (ad.add ((m + es) * 2)) = some (.int .i64 es)) (d1 : w.cell? ⟨(ad.add ((m + es) * 2)).block, (ad.add ((m + es) * 2)).off + 1, none⟩ = some (.int .i64 ed)) (hab : (ad.add ((m + es) * 2)).block < w.heap.size) (g0 : w.cell? (ad.add (m * 2)) = some (.int .i64 fs)) (g1 : w.cell? ⟨(ad.add (m * 2)).block, (ad.add (m * 2)).off + 1, none⟩ = some (.int .i64 fd)) (hab' : (ad.add (m * 2)).block < w.heap.size) (hn : m ≤ 60) (q4 : es ≤ 60) (q5 : ed ≤ 60) (q6 : 1 ≤ ed) (q4' : fs ≤ 60) (q5' : fd ≤ 60) (e2 : partsN k = 2) (h0 : okK k = true) (h1 : fitsF k nn p = true)  (hx : ¬ ed < fd) :
    Calls Try.prog 41 #[.slice (some ad) (m + es + 1) c, .agg #[.int .u8 k, .int .i64 nn, .int .i64 (m : Int), .int .i64 ((m : Int) + es), .int .i64 p]] w fun e w' => e = .returned (.tuple #[.agg #[.int .i64 (1 + es + fs : Nat), .int .i64 (ed + 1 : Nat)], .bool true]) ∧ Below w.heap.size w w' := by
  have e3 : partsE k = 0 := by simp [partsE, h0]
  have HP := Lib.hid (fun w => show Calls Try.prog 50 #[.int .u8 k] w fun e w' => e = .returned (.tuple #[.int .i64 2, .int .i64 0]) ∧ w = w' by have := parts_any k w; rwa [e2, e3] at this)
  have HF := Lib.hid (fun w => fits_any k nn p true h1 w)
  have hgt : Try.prog.eqGuardType Try.prog.depth 45 = false := by kernel_rfl
  clear e2 e3 h1
  have q1 : (ad.add ((m + es) * 2)).block < w.heap.size + 1 := by omega
  have q2 : (ad.add ((m + es) * 2)).block < w.heap.size + 1 + 1 := by omega
  have q3 : (ad.add ((m + es) * 2)).block < w.heap.size + 1 + 1 + 1 := by omega
  have q1' : (ad.add (m * 2)).block < w.heap.size + 1 := by omega
  have q2' : (ad.add (m * 2)).block < w.heap.size + 1 + 1 := by omega
  have q3' : (ad.add (m * 2)).block < w.heap.size + 1 + 1 + 1 := by omega
  have q8 : (m : Int) + es + 1 - (1 + es) = m := by omega
  have q7 : ¬ ((ed : Int) + 1 ≤ 1) := by omega
  go_enter Try.func41, Try.ntmps41
  go_wp2_with (first
      | (go_at_call 50; refine (HP.out _).mono ?_; rintro e w' ⟨rfl, rfl⟩)
      | (go_at_call 51; refine (HF.out _).mono ?_; rintro e w' ⟨rfl, rfl⟩))
  refine wp_loop_rounds 3 ?_
  rw [rounds_succ]; go_wp2
  go_region
  go_wp2
  go_region
  go_wp2
  rw [rounds_succ]; go_wp2
  go_region
  go_wp2
  go_region
  go_wp2
  rw [rounds_succ]; go_wp2
  refine wp_gen (fun W => W.cell? ⟨w.heap.size, 0, none⟩ = some (.int .u8 k) ∧ W.cell? ⟨w.heap.size, 1, none⟩ = some (.int .i64 nn) ∧ W.cell? ⟨w.heap.size, 2, none⟩ = some (.int .i64 (m : Int)) ∧ W.cell? ⟨w.heap.size, 3, none⟩ = some (.int .i64 ((m : Int) + es)) ∧ W.cell? ⟨w.heap.size, 4, none⟩ = some (.int .i64 p) ∧ W.cell? ⟨w.heap.size + 1 + 1, 0, none⟩ = some (.int .i64 (1 + es + fs)) ∧ W.cell? ⟨w.heap.size + 1 + 1, 1, none⟩ = some (.int .i64 (ed + 1)) ∧ W.cell? ⟨w.heap.size + 1 + 1 + 1, 0, none⟩ = some (.int .i64 m) ∧ W.cell? ⟨w.heap.size + 1 + 1 + 1, 1, none⟩ = some (.int .i64 ((m : Int) + es)) ∧ W.cell? ⟨w.heap.size + 1, 0, none⟩ = some (.int .i64 0) ∧ W.cell? ⟨w.heap.size + 1, 1, none⟩ = some (.int .i64 0) ∧ W.frozen? ⟨w.heap.size + 1, 0, none⟩ = false ∧ W.frozen? ⟨w.heap.size + 1, 1, none⟩ = false ∧ w.heap.size + 1 + 1 + 1 < W.heap.size ∧ Hid (Below w.heap.size w W)) ⟨by go_simp, by go_simp, by go_simp, by go_simp, by go_simp, by go_simp, by go_simp, by go_simp, by go_simp, by go_simp, by go_simp, by go_simp, by go_simp, by simp, Lib.hid (by repeat (first | exact Below.refl _ _ | refine Below.alloc ?_ (by simp; try omega) _ | refine Below.setCell ?_ (by simp; try omega) _ | refine Below.drew ?_))⟩ ?_
  rintro W ⟨c0, c1, c2, c3, c4, w0, w1, e0, e1, r0, r1, f0, f1, hsz, HBW⟩
  clear hab q1 q2 q3 q7 d0 d1 q4 q5 q6 hn h0 HP HF hab' q1' q2' q3' g0 g1 q4' q5' q8 hx
  go_region_held3 (fun w' => w'.cell? ⟨w.heap.size, 0, none⟩ = some (.int .u8 k) ∧ w'.cell? ⟨w.heap.size, 1, none⟩ = some (.int .i64 nn) ∧ w'.cell? ⟨w.heap.size, 2, none⟩ = some (.int .i64 (m : Int)) ∧ w'.cell? ⟨w.heap.size, 3, none⟩ = some (.int .i64 ((m : Int) + es)) ∧ w'.cell? ⟨w.heap.size, 4, none⟩ = some (.int .i64 p) ∧ w'.cell? ⟨w.heap.size + 1 + 1, 0, none⟩ = some (.int .i64 (1 + es + fs)) ∧ w'.cell? ⟨w.heap.size + 1 + 1, 1, none⟩ = some (.int .i64 (ed + 1)) ∧ w'.cell? ⟨w.heap.size + 1 + 1 + 1, 0, none⟩ = some (.int .i64 m) ∧ w'.cell? ⟨w.heap.size + 1 + 1 + 1, 1, none⟩ = some (.int .i64 ((m : Int) + es))) (go_keep) (fail)
  go_wp2
  refine bodyPost_ret (v := .tuple #[.agg #[.int .i64 (1 + es + fs : Nat), .int .i64 (ed + 1 : Nat)], .bool true]) (by simp [results, Try.results41, go_sem, r0, r1, f0, f1, hsz]) rfl ⟨rfl, ?_⟩
  exact (HBW.out.drew.setCell (by simp) _).setCell (by simp) _
set_option maxHeartbeats 2000000 in
theorem next_v2_tfa (k nn a b p : Int) (w : World) (ad : Addr) (m c es ed fs fd g : Nat) (d0 : w.cell? (ad.add ((m + es) * 2)) = some (.int .i64 es)) (d1 : w.cell? ⟨(ad.add ((m + es) * 2)).block, (ad.add ((m + es) * 2)).off + 1, none⟩ = some (.int .i64 ed)) (hab : (ad.add ((m + es) * 2)).block < w.heap.size) (g0 : w.cell? (ad.add (m * 2)) = some (.int .i64 fs)) (g1 : w.cell? ⟨(ad.add (m * 2)).block, (ad.add (m * 2)).off + 1, none⟩ = some (.int .i64 fd)) (hab' : (ad.add (m * 2)).block < w.heap.size) (hn : m ≤ 60) (q4 : es ≤ 60) (q5 : ed ≤ 60) (q6 : 1 ≤ ed) (q4' : fs ≤ 60) (q5' : fd ≤ 60) (e2 : partsN k = 2) (h0 : okK k = true) (h1 : fitsF k nn p = true) (hb : ¬ b = (m : Int) + es) (hx : ed < fd) :
    Calls Try.prog 41 #[.slice (some ad) (m + es + 1) c, .agg #[.int .u8 k, .int .i64 nn, .int .i64 (m : Int), .int .i64 b, .int .i64 p]] w fun e w' => e = .returned (.tuple #[.agg #[.int .i64 (1 + es + fs : Nat), .int .i64 (fd + 1 : Nat)], .bool false]) ∧ Below w.heap.size w w' := by
  have e3 : partsE k = 0 := by simp [partsE, h0]
  have HP := Lib.hid (fun w => show Calls Try.prog 50 #[.int .u8 k] w fun e w' => e = .returned (.tuple #[.int .i64 2, .int .i64 0]) ∧ w = w' by have := parts_any k w; rwa [e2, e3] at this)
  have HF := Lib.hid (fun w => fits_any k nn p true h1 w)
  have hgt : Try.prog.eqGuardType Try.prog.depth 45 = false := by kernel_rfl
  clear e2 e3 h1
  have q1 : (ad.add ((m + es) * 2)).block < w.heap.size + 1 := by omega
  have q2 : (ad.add ((m + es) * 2)).block < w.heap.size + 1 + 1 := by omega
  have q3 : (ad.add ((m + es) * 2)).block < w.heap.size + 1 + 1 + 1 := by omega
  have q1' : (ad.add (m * 2)).block < w.heap.size + 1 := by omega
  have q2' : (ad.add (m * 2)).block < w.heap.size + 1 + 1 := by omega
  have q3' : (ad.add (m * 2)).block < w.heap.size + 1 + 1 + 1 := by omega
  have q8 : (m : Int) + es + 1 - (1 + es) = m := by omega
  have q7 : ¬ ((ed : Int) + 1 ≤ 1) := by omega
  go_enter Try.func41, Try.ntmps41
  go_wp2_with (first
      | (go_at_call 50; refine (HP.out _).mono ?_; rintro e w' ⟨rfl, rfl⟩)
      | (go_at_call 51; refine (HF.out _).mono ?_; rintro e w' ⟨rfl, rfl⟩))
  refine wp_loop_rounds 3 ?_
  rw [rounds_succ]; go_wp2
  go_region
  go_wp2
  go_region
  go_wp2
  rw [rounds_succ]; go_wp2
  go_region
  go_wp2
  go_region
  go_wp2
  rw [rounds_succ]; go_wp2
  refine wp_gen (fun W => W.cell? ⟨w.heap.size, 0, none⟩ = some (.int .u8 k) ∧ W.cell? ⟨w.heap.size, 1, none⟩ = some (.int .i64 nn) ∧ W.cell? ⟨w.heap.size, 2, none⟩ = some (.int .i64 (m : Int)) ∧ W.cell? ⟨w.heap.size, 3, none⟩ = some (.int .i64 b) ∧ W.cell? ⟨w.heap.size, 4, none⟩ = some (.int .i64 p) ∧ W.cell? ⟨w.heap.size + 1 + 1, 0, none⟩ = some (.int .i64 (1 + es + fs)) ∧ W.cell? ⟨w.heap.size + 1 + 1, 1, none⟩ = some (.int .i64 (fd + 1)) ∧ W.cell? ⟨w.heap.size + 1 + 1 + 1, 0, none⟩ = some (.int .i64 m) ∧ W.cell? ⟨w.heap.size + 1 + 1 + 1, 1, none⟩ = some (.int .i64 ((m : Int) + es)) ∧ W.cell? ⟨w.heap.size + 1, 0, none⟩ = some (.int .i64 0) ∧ W.cell? ⟨w.heap.size + 1, 1, none⟩ = some (.int .i64 0) ∧ W.frozen? ⟨w.heap.size + 1, 0, none⟩ = false ∧ W.frozen? ⟨w.heap.size + 1, 1, none⟩ = false ∧ w.heap.size + 1 + 1 + 1 < W.heap.size ∧ Hid (Below w.heap.size w W)) ⟨by go_simp, by go_simp, by go_simp, by go_simp, by go_simp, by go_simp, by go_simp, by go_simp, by go_simp, by go_simp, by go_simp, by go_simp, by go_simp, by simp, Lib.hid (by repeat (first | exact Below.refl _ _ | refine Below.alloc ?_ (by simp; try omega) _ | refine Below.setCell ?_ (by simp; try omega) _ | refine Below.drew ?_))⟩ ?_
  rintro W ⟨c0, c1, c2, c3, c4, w0, w1, e0, e1, r0, r1, f0, f1, hsz, HBW⟩
  clear hab q1 q2 q3 q7 d0 d1 q4 q5 q6 hn h0 HP HF hab' q1' q2' q3' g0 g1 q4' q5' q8 hx
  go_region_held3 (fun w' => w'.cell? ⟨w.heap.size, 0, none⟩ = some (.int .u8 k) ∧ w'.cell? ⟨w.heap.size, 1, none⟩ = some (.int .i64 nn) ∧ w'.cell? ⟨w.heap.size, 2, none⟩ = some (.int .i64 (m : Int)) ∧ w'.cell? ⟨w.heap.size, 3, none⟩ = some (.int .i64 b) ∧ w'.cell? ⟨w.heap.size, 4, none⟩ = some (.int .i64 p) ∧ w'.cell? ⟨w.heap.size + 1 + 1, 0, none⟩ = some (.int .i64 (1 + es + fs)) ∧ w'.cell? ⟨w.heap.size + 1 + 1, 1, none⟩ = some (.int .i64 (fd + 1)) ∧ w'.cell? ⟨w.heap.size + 1 + 1 + 1, 0, none⟩ = some (.int .i64 m) ∧ w'.cell? ⟨w.heap.size + 1 + 1 + 1, 1, none⟩ = some (.int .i64 ((m : Int) + es))) (go_keep) (fail)
  go_wp2
  refine bodyPost_ret (v := .tuple #[.agg #[.int .i64 (1 + es + fs : Nat), .int .i64 (fd + 1 : Nat)], .bool false]) (by simp [results, Try.results41, go_sem, r0, r1, f0, f1, hsz]) rfl ⟨rfl, ?_⟩
  exact (HBW.out.drew.setCell (by simp) _).setCell (by simp) _
set_option maxHeartbeats 2000000 in
theorem next_v2_tfb (k nn a b p : Int) (w : World) (ad : Addr) (m c es ed fs fd g : Nat) (d0 : w.cell? (ad.add ((m + es) * 2)) = some (.int .i64 es)) (d1 : w.cell? ⟨(ad.add ((m + es) * 2)).block, (ad.add ((m + es) * 2)).off + 1, none⟩ = some (.int .i64 ed)) (hab : (ad.add ((m + es) * 2)).block < w.heap.size) (g0 : w.cell? (ad.add (m * 2)) = some (.int .i64 fs)) (g1 : w.cell? ⟨(ad.add (m * 2)).block, (ad.add (m * 2)).off + 1, none⟩ = some (.int .i64 fd)) (hab' : (ad.add (m * 2)).block < w.heap.size) (hn : m ≤ 60) (q4 : es ≤ 60) (q5 : ed ≤ 60) (q6 : 1 ≤ ed) (q4' : fs ≤ 60) (q5' : fd ≤ 60) (e2 : partsN k = 2) (h0 : okK k = true) (h1 : fitsF k nn p = true) (hb : ¬ b = (m : Int) + es) (hx : ¬ ed < fd) :
    Calls Try.prog 41 #[.slice (some ad) (m + es + 1) c, .agg #[.int .u8 k, .int .i64 nn, .int .i64 (m : Int), .int .i64 b, .int .i64 p]] w fun e w' => e = .returned (.tuple #[.agg #[.int .i64 (1 + es + fs : Nat), .int .i64 (ed + 1 : Nat)], .bool false]) ∧ Below w.heap.size w w' := by
  have e3 : partsE k = 0 := by simp [partsE, h0]
  have HP := Lib.hid (fun w => show Calls Try.prog 50 #[.int .u8 k] w fun e w' => e = .returned (.tuple #[.int .i64 2, .int .i64 0]) ∧ w = w' by have := parts_any k w; rwa [e2, e3] at this)
  have HF := Lib.hid (fun w => fits_any k nn p true h1 w)
  have hgt : Try.prog.eqGuardType Try.prog.depth 45 = false := by kernel_rfl
  clear e2 e3 h1
  have q1 : (ad.add ((m + es) * 2)).block < w.heap.size + 1 := by omega
  have q2 : (ad.add ((m + es) * 2)).block < w.heap.size + 1 + 1 := by omega
  have q3 : (ad.add ((m + es) * 2)).block < w.heap.size + 1 + 1 + 1 := by omega
  have q1' : (ad.add (m * 2)).block < w.heap.size + 1 := by omega
  have q2' : (ad.add (m * 2)).block < w.heap.size + 1 + 1 := by omega
  have q3' : (ad.add (m * 2)).block < w.heap.size + 1 + 1 + 1 := by omega
  have q8 : (m : Int) + es + 1 - (1 + es) = m := by omega
  have q7 : ¬ ((ed : Int) + 1 ≤ 1) := by omega
  go_enter Try.func41, Try.ntmps41
  go_wp2_with (first
      | (go_at_call 50; refine (HP.out _).mono ?_; rintro e w' ⟨rfl, rfl⟩)
      | (go_at_call 51; refine (HF.out _).mono ?_; rintro e w' ⟨rfl, rfl⟩))
  refine wp_loop_rounds 3 ?_
  rw [rounds_succ]; go_wp2
  go_region
  go_wp2
  go_region
  go_wp2
  rw [rounds_succ]; go_wp2
  go_region
  go_wp2
  go_region
  go_wp2
  rw [rounds_succ]; go_wp2
  refine wp_gen (fun W => W.cell? ⟨w.heap.size, 0, none⟩ = some (.int .u8 k) ∧ W.cell? ⟨w.heap.size, 1, none⟩ = some (.int .i64 nn) ∧ W.cell? ⟨w.heap.size, 2, none⟩ = some (.int .i64 (m : Int)) ∧ W.cell? ⟨w.heap.size, 3, none⟩ = some (.int .i64 b) ∧ W.cell? ⟨w.heap.size, 4, none⟩ = some (.int .i64 p) ∧ W.cell? ⟨w.heap.size + 1 + 1, 0, none⟩ = some (.int .i64 (1 + es + fs)) ∧ W.cell? ⟨w.heap.size + 1 + 1, 1, none⟩ = some (.int .i64 (ed + 1)) ∧ W.cell? ⟨w.heap.size + 1 + 1 + 1, 0, none⟩ = some (.int .i64 m) ∧ W.cell? ⟨w.heap.size + 1 + 1 + 1, 1, none⟩ = some (.int .i64 ((m : Int) + es)) ∧ W.cell? ⟨w.heap.size + 1, 0, none⟩ = some (.int .i64 0) ∧ W.cell? ⟨w.heap.size + 1, 1, none⟩ = some (.int .i64 0) ∧ W.frozen? ⟨w.heap.size + 1, 0, none⟩ = false ∧ W.frozen? ⟨w.heap.size + 1, 1, none⟩ = false ∧ w.heap.size + 1 + 1 + 1 < W.heap.size ∧ Hid (Below w.heap.size w W)) ⟨by go_simp, by go_simp, by go_simp, by go_simp, by go_simp, by go_simp, by go_simp, by go_simp, by go_simp, by go_simp, by go_simp, by go_simp, by go_simp, by simp, Lib.hid (by repeat (first | exact Below.refl _ _ | refine Below.alloc ?_ (by simp; try omega) _ | refine Below.setCell ?_ (by simp; try omega) _ | refine Below.drew ?_))⟩ ?_
  rintro W ⟨c0, c1, c2, c3, c4, w0, w1, e0, e1, r0, r1, f0, f1, hsz, HBW⟩
  clear hab q1 q2 q3 q7 d0 d1 q4 q5 q6 hn h0 HP HF hab' q1' q2' q3' g0 g1 q4' q5' q8 hx
  go_region_held3 (fun w' => w'.cell? ⟨w.heap.size, 0, none⟩ = some (.int .u8 k) ∧ w'.cell? ⟨w.heap.size, 1, none⟩ = some (.int .i64 nn) ∧ w'.cell? ⟨w.heap.size, 2, none⟩ = some (.int .i64 (m : Int)) ∧ w'.cell? ⟨w.heap.size, 3, none⟩ = some (.int .i64 b) ∧ w'.cell? ⟨w.heap.size, 4, none⟩ = some (.int .i64 p) ∧ w'.cell? ⟨w.heap.size + 1 + 1, 0, none⟩ = some (.int .i64 (1 + es + fs)) ∧ w'.cell? ⟨w.heap.size + 1 + 1, 1, none⟩ = some (.int .i64 (ed + 1)) ∧ w'.cell? ⟨w.heap.size + 1 + 1 + 1, 0, none⟩ = some (.int .i64 m) ∧ w'.cell? ⟨w.heap.size + 1 + 1 + 1, 1, none⟩ = some (.int .i64 ((m : Int) + es))) (go_keep) (fail)
  go_wp2
  refine bodyPost_ret (v := .tuple #[.agg #[.int .i64 (1 + es + fs : Nat), .int .i64 (ed + 1 : Nat)], .bool false]) (by simp [results, Try.results41, go_sem, r0, r1, f0, f1, hsz]) rfl ⟨rfl, ?_⟩
  exact (HBW.out.drew.setCell (by simp) _).setCell (by simp) _
set_option maxHeartbeats 2000000 in
theorem next_v2_fa (k nn a b p : Int) (w : World) (ad : Addr) (m c es ed fs fd g : Nat) (d0 : w.cell? (ad.add ((m + es) * 2)) = some (.int .i64 es)) (d1 : w.cell? ⟨(ad.add ((m + es) * 2)).block, (ad.add ((m + es) * 2)).off + 1, none⟩ = some (.int .i64 ed)) (hab : (ad.add ((m + es) * 2)).block < w.heap.size) (g0 : w.cell? (ad.add (m * 2)) = some (.int .i64 fs)) (g1 : w.cell? ⟨(ad.add (m * 2)).block, (ad.add (m * 2)).off + 1, none⟩ = some (.int .i64 fd)) (hab' : (ad.add (m * 2)).block < w.heap.size) (hn : m ≤ 60) (q4 : es ≤ 60) (q5 : ed ≤ 60) (q6 : 1 ≤ ed) (q4' : fs ≤ 60) (q5' : fd ≤ 60) (e2 : partsN k = 2) (h0 : okK k = true) (h1 : fitsF k nn p = true) (ha : ¬ a = (m : Int)) (hx : ed < fd) :
    Calls Try.prog 41 #[.slice (some ad) (m + es + 1) c, .agg #[.int .u8 k, .int .i64 nn, .int .i64 a, .int .i64 b, .int .i64 p]] w fun e w' => e = .returned (.tuple #[.agg #[.int .i64 (1 + es + fs : Nat), .int .i64 (fd + 1 : Nat)], .bool false]) ∧ Below w.heap.size w w' := by
  have e3 : partsE k = 0 := by simp [partsE, h0]
  have HP := Lib.hid (fun w => show Calls Try.prog 50 #[.int .u8 k] w fun e w' => e = .returned (.tuple #[.int .i64 2, .int .i64 0]) ∧ w = w' by have := parts_any k w; rwa [e2, e3] at this)
  have HF := Lib.hid (fun w => fits_any k nn p true h1 w)
  have hgt : Try.prog.eqGuardType Try.prog.depth 45 = false := by kernel_rfl
  clear e2 e3 h1
  have q1 : (ad.add ((m + es) * 2)).block < w.heap.size + 1 := by omega
  have q2 : (ad.add ((m + es) * 2)).block < w.heap.size + 1 + 1 := by omega
  have q3 : (ad.add ((m + es) * 2)).block < w.heap.size + 1 + 1 + 1 := by omega
  have q1' : (ad.add (m * 2)).block < w.heap.size + 1 := by omega
  have q2' : (ad.add (m * 2)).block < w.heap.size + 1 + 1 := by omega
  have q3' : (ad.add (m * 2)).block < w.heap.size + 1 + 1 + 1 := by omega
  have q8 : (m : Int) + es + 1 - (1 + es) = m := by omega
  have q7 : ¬ ((ed : Int) + 1 ≤ 1) := by omega
  go_enter Try.func41, Try.ntmps41
  go_wp2_with (first
      | (go_at_call 50; refine (HP.out _).mono ?_; rintro e w' ⟨rfl, rfl⟩)
      | (go_at_call 51; refine (HF.out _).mono ?_; rintro e w' ⟨rfl, rfl⟩))
  refine wp_loop_rounds 3 ?_
  rw [rounds_succ]; go_wp2
  go_region
  go_wp2
  go_region
  go_wp2
  rw [rounds_succ]; go_wp2
  go_region
  go_wp2
  go_region
  go_wp2
  rw [rounds_succ]; go_wp2
  refine wp_gen (fun W => W.cell? ⟨w.heap.size, 0, none⟩ = some (.int .u8 k) ∧ W.cell? ⟨w.heap.size, 1, none⟩ = some (.int .i64 nn) ∧ W.cell? ⟨w.heap.size, 2, none⟩ = some (.int .i64 a) ∧ W.cell? ⟨w.heap.size, 3, none⟩ = some (.int .i64 b) ∧ W.cell? ⟨w.heap.size, 4, none⟩ = some (.int .i64 p) ∧ W.cell? ⟨w.heap.size + 1 + 1, 0, none⟩ = some (.int .i64 (1 + es + fs)) ∧ W.cell? ⟨w.heap.size + 1 + 1, 1, none⟩ = some (.int .i64 (fd + 1)) ∧ W.cell? ⟨w.heap.size + 1 + 1 + 1, 0, none⟩ = some (.int .i64 m) ∧ W.cell? ⟨w.heap.size + 1 + 1 + 1, 1, none⟩ = some (.int .i64 ((m : Int) + es)) ∧ W.cell? ⟨w.heap.size + 1, 0, none⟩ = some (.int .i64 0) ∧ W.cell? ⟨w.heap.size + 1, 1, none⟩ = some (.int .i64 0) ∧ W.frozen? ⟨w.heap.size + 1, 0, none⟩ = false ∧ W.frozen? ⟨w.heap.size + 1, 1, none⟩ = false ∧ w.heap.size + 1 + 1 + 1 < W.heap.size ∧ Hid (Below w.heap.size w W)) ⟨by go_simp, by go_simp, by go_simp, by go_simp, by go_simp, by go_simp, by go_simp, by go_simp, by go_simp, by go_simp, by go_simp, by go_simp, by go_simp, by simp, Lib.hid (by repeat (first | exact Below.refl _ _ | refine Below.alloc ?_ (by simp; try omega) _ | refine Below.setCell ?_ (by simp; try omega) _ | refine Below.drew ?_))⟩ ?_
  rintro W ⟨c0, c1, c2, c3, c4, w0, w1, e0, e1, r0, r1, f0, f1, hsz, HBW⟩
  clear hab q1 q2 q3 q7 d0 d1 q4 q5 q6 hn h0 HP HF hab' q1' q2' q3' g0 g1 q4' q5' q8 hx
  go_region_held3 (fun w' => w'.cell? ⟨w.heap.size, 0, none⟩ = some (.int .u8 k) ∧ w'.cell? ⟨w.heap.size, 1, none⟩ = some (.int .i64 nn) ∧ w'.cell? ⟨w.heap.size, 2, none⟩ = some (.int .i64 a) ∧ w'.cell? ⟨w.heap.size, 3, none⟩ = some (.int .i64 b) ∧ w'.cell? ⟨w.heap.size, 4, none⟩ = some (.int .i64 p) ∧ w'.cell? ⟨w.heap.size + 1 + 1, 0, none⟩ = some (.int .i64 (1 + es + fs)) ∧ w'.cell? ⟨w.heap.size + 1 + 1, 1, none⟩ = some (.int .i64 (fd + 1)) ∧ w'.cell? ⟨w.heap.size + 1 + 1 + 1, 0, none⟩ = some (.int .i64 m) ∧ w'.cell? ⟨w.heap.size + 1 + 1 + 1, 1, none⟩ = some (.int .i64 ((m : Int) + es))) (go_keep) (fail)
  go_wp2
  refine bodyPost_ret (v := .tuple #[.agg #[.int .i64 (1 + es + fs : Nat), .int .i64 (fd + 1 : Nat)], .bool false]) (by simp [results, Try.results41, go_sem, r0, r1, f0, f1, hsz]) rfl ⟨rfl, ?_⟩
  exact (HBW.out.drew.setCell (by simp) _).setCell (by simp) _
set_option maxHeartbeats 2000000 in
theorem next_v2_fb (k nn a b p : Int) (w : World) (ad : Addr) (m c es ed fs fd g : Nat) (d0 : w.cell? (ad.add ((m + es) * 2)) = some (.int .i64 es)) (d1 : w.cell? ⟨(ad.add ((m + es) * 2)).block, (ad.add ((m + es) * 2)).off + 1, none⟩ = some (.int .i64 ed)) (hab : (ad.add ((m + es) * 2)).block < w.heap.size) (g0 : w.cell? (ad.add (m * 2)) = some (.int .i64 fs)) (g1 : w.cell? ⟨(ad.add (m * 2)).block, (ad.add (m * 2)).off + 1, none⟩ = some (.int .i64 fd)) (hab' : (ad.add (m * 2)).block < w.heap.size) (hn : m ≤ 60) (q4 : es ≤ 60) (q5 : ed ≤ 60) (q6 : 1 ≤ ed) (q4' : fs ≤ 60) (q5' : fd ≤ 60) (e2 : partsN k = 2) (h0 : okK k = true) (h1 : fitsF k nn p = true) (ha : ¬ a = (m : Int)) (hx : ¬ ed < fd) :
    Calls Try.prog 41 #[.slice (some ad) (m + es + 1) c, .agg #[.int .u8 k, .int .i64 nn, .int .i64 a, .int .i64 b, .int .i64 p]] w fun e w' => e = .returned (.tuple #[.agg #[.int .i64 (1 + es + fs : Nat), .int .i64 (ed + 1 : Nat)], .bool false]) ∧ Below w.heap.size w w' := by
  have e3 : partsE k = 0 := by simp [partsE, h0]
  have HP := Lib.hid (fun w => show Calls Try.prog 50 #[.int .u8 k] w fun e w' => e = .returned (.tuple #[.int .i64 2, .int .i64 0]) ∧ w = w' by have := parts_any k w; rwa [e2, e3] at this)
  have HF := Lib.hid (fun w => fits_any k nn p true h1 w)
  have hgt : Try.prog.eqGuardType Try.prog.depth 45 = false := by kernel_rfl
  clear e2 e3 h1
  have q1 : (ad.add ((m + es) * 2)).block < w.heap.size + 1 := by omega
  have q2 : (ad.add ((m + es) * 2)).block < w.heap.size + 1 + 1 := by omega
  have q3 : (ad.add ((m + es) * 2)).block < w.heap.size + 1 + 1 + 1 := by omega
  have q1' : (ad.add (m * 2)).block < w.heap.size + 1 := by omega
  have q2' : (ad.add (m * 2)).block < w.heap.size + 1 + 1 := by omega
  have q3' : (ad.add (m * 2)).block < w.heap.size + 1 + 1 + 1 := by omega
  have q8 : (m : Int) + es + 1 - (1 + es) = m := by omega
  have q7 : ¬ ((ed : Int) + 1 ≤ 1) := by omega
  go_enter Try.func41, Try.ntmps41
  go_wp2_with (first
      | (go_at_call 50; refine (HP.out _).mono ?_; rintro e w' ⟨rfl, rfl⟩)
      | (go_at_call 51; refine (HF.out _).mono ?_; rintro e w' ⟨rfl, rfl⟩))
  refine wp_loop_rounds 3 ?_
  rw [rounds_succ]; go_wp2
  go_region
  go_wp2
  go_region
  go_wp2
  rw [rounds_succ]; go_wp2
  go_region
  go_wp2
  go_region
  go_wp2
  rw [rounds_succ]; go_wp2
  refine wp_gen (fun W => W.cell? ⟨w.heap.size, 0, none⟩ = some (.int .u8 k) ∧ W.cell? ⟨w.heap.size, 1, none⟩ = some (.int .i64 nn) ∧ W.cell? ⟨w.heap.size, 2, none⟩ = some (.int .i64 a) ∧ W.cell? ⟨w.heap.size, 3, none⟩ = some (.int .i64 b) ∧ W.cell? ⟨w.heap.size, 4, none⟩ = some (.int .i64 p) ∧ W.cell? ⟨w.heap.size + 1 + 1, 0, none⟩ = some (.int .i64 (1 + es + fs)) ∧ W.cell? ⟨w.heap.size + 1 + 1, 1, none⟩ = some (.int .i64 (ed + 1)) ∧ W.cell? ⟨w.heap.size + 1 + 1 + 1, 0, none⟩ = some (.int .i64 m) ∧ W.cell? ⟨w.heap.size + 1 + 1 + 1, 1, none⟩ = some (.int .i64 ((m : Int) + es)) ∧ W.cell? ⟨w.heap.size + 1, 0, none⟩ = some (.int .i64 0) ∧ W.cell? ⟨w.heap.size + 1, 1, none⟩ = some (.int .i64 0) ∧ W.frozen? ⟨w.heap.size + 1, 0, none⟩ = false ∧ W.frozen? ⟨w.heap.size + 1, 1, none⟩ = false ∧ w.heap.size + 1 + 1 + 1 < W.heap.size ∧ Hid (Below w.heap.size w W)) ⟨by go_simp, by go_simp, by go_simp, by go_simp, by go_simp, by go_simp, by go_simp, by go_simp, by go_simp, by go_simp, by go_simp, by go_simp, by go_simp, by simp, Lib.hid (by repeat (first | exact Below.refl _ _ | refine Below.alloc ?_ (by simp; try omega) _ | refine Below.setCell ?_ (by simp; try omega) _ | refine Below.drew ?_))⟩ ?_
  rintro W ⟨c0, c1, c2, c3, c4, w0, w1, e0, e1, r0, r1, f0, f1, hsz, HBW⟩
  clear hab q1 q2 q3 q7 d0 d1 q4 q5 q6 hn h0 HP HF hab' q1' q2' q3' g0 g1 q4' q5' q8 hx
  go_region_held3 (fun w' => w'.cell? ⟨w.heap.size, 0, none⟩ = some (.int .u8 k) ∧ w'.cell? ⟨w.heap.size, 1, none⟩ = some (.int .i64 nn) ∧ w'.cell? ⟨w.heap.size, 2, none⟩ = some (.int .i64 a) ∧ w'.cell? ⟨w.heap.size, 3, none⟩ = some (.int .i64 b) ∧ w'.cell? ⟨w.heap.size, 4, none⟩ = some (.int .i64 p) ∧ w'.cell? ⟨w.heap.size + 1 + 1, 0, none⟩ = some (.int .i64 (1 + es + fs)) ∧ w'.cell? ⟨w.heap.size + 1 + 1, 1, none⟩ = some (.int .i64 (ed + 1)) ∧ w'.cell? ⟨w.heap.size + 1 + 1 + 1, 0, none⟩ = some (.int .i64 m) ∧ w'.cell? ⟨w.heap.size + 1 + 1 + 1, 1, none⟩ = some (.int .i64 ((m : Int) + es))) (go_keep) (fail)
  go_wp2
  refine bodyPost_ret (v := .tuple #[.agg #[.int .i64 (1 + es + fs : Nat), .int .i64 (ed + 1 : Nat)], .bool false]) (by simp [results, Try.results41, go_sem, r0, r1, f0, f1, hsz]) rfl ⟨rfl, ?_⟩
  exact (HBW.out.drew.setCell (by simp) _).setCell (by simp) _
end Go.Proofs.Ytaijhkfbfkdepaa.N4
