
/- Contracts of the reference: Gives, fits, Wrong, Of, Want. -/
import Derived.Test.YtajchaknfkfljaaDoorKAll
import Derived.Test.YtajchaknfkfljaaDoorNC
namespace Go.Proofs.YtajchaknfkfljaaDoor.K6
open Go.ChangeShapes Go.WideShapes Go.ChangeAt Go.RowKit N4
set_option linter.unusedVariables false
set_option maxRecDepth 100000

theorem rgives_any (k : Int) (v : Bool) (hv : gvK k = v) (w : World) : Calls Tryd.prog 37 #[.int .u8 k] w fun e w' => e = .returned (.bool v) ∧ w = w' := by
  subst hv
  by_cases h1 : k = 6
  · subst h1
    go_enter Tryd.func37, Tryd.ntmps37
    go_wp2
    go_ret
    exact ⟨rfl, rfl⟩
  · have h2 : (k == 6) = false := by rw [beq_eq_false_iff_ne]; exact h1
    by_cases h3 : 12 ≤ k
    · have hv : gvK k = true := by unfold gvK; rw [decide_eq_true h3, Bool.or_true]
      rw [hv]
      clear h1 hv
      go_enter Tryd.func37, Tryd.ntmps37
      go_wp2
      go_ret
      exact ⟨rfl, rfl⟩
    · have hv : gvK k = false := by unfold gvK; rw [decide_eq_false h1, decide_eq_false h3]; rfl
      rw [hv]
      clear h1 hv
      go_enter Tryd.func37, Tryd.ntmps37
      go_wp2
      go_ret
      exact ⟨rfl, rfl⟩
/-! fits -/
set_option maxHeartbeats 1000000 in
theorem rfits_leaf (A : Option Addr) (c n : Nat) (L : List Nd) (i i1 i2 : Nat) (q : Nat) (xn xp : Int) (y z : Nd) (a b : Bool) (w : World) (ht : Lies w A (ndCells L)) (hn : L.length = n) (hx : L[i]? = some ⟨(q : Nat), xn, i1, i2, xp⟩) (hy : L[i1]? = some y) (hz : L[i2]? = some z) (ha : gvK y.k = a) (hb : gvK z.k = b) (hk : q ≤ 4) :
    Calls Tryd.prog 50 #[.slice A n c, .int .i64 i] w fun e w' => e = .returned (.bool (true)) ∧ Below w.heap.size w w' := by
  have hin : i < n := by rw [← hn]; exact (List.getElem?_eq_some_iff.1 hx).1
  have hin1 : i1 < n := by rw [← hn]; exact (List.getElem?_eq_some_iff.1 hy).1
  have hin2 : i2 < n := by rw [← hn]; exact (List.getElem?_eq_some_iff.1 hz).1
  obtain ⟨ad, rfl, hadl, d0, d1, d2, d3, d4⟩ := ht.nd hx
  obtain ⟨ad', hadd, _, y0, _⟩ := ht.nd hy
  injection hadd with hadd; subst hadd
  obtain ⟨ad', hadd, _, z0, _⟩ := ht.nd hz
  injection hadd with hadd; subst hadd
  have hab : (ad.add (i * 5)).block < w.heap.size := by rw [add_block]; exact hadl
  have hab1 : (ad.add (i1 * 5)).block < w.heap.size := by rw [add_block]; exact hadl
  have hab2 : (ad.add (i2 * 5)).block < w.heap.size := by rw [add_block]; exact hadl
  have HY := Lib.hid (fun (W : World) (m : Nat) => Calls.quiet_of_same (n := m) ((rgives_any y.k a ha (W.drewN m)).mono fun _ _ h => ⟨h.1, h.2.symm⟩))
  have HZ := Lib.hid (fun (W : World) (m : Nat) => Calls.quiet_of_same (n := m) ((rgives_any z.k b hb (W.drewN m)).mono fun _ _ h => ⟨h.1, h.2.symm⟩))
  have j0 : (0 : Int) ≤ i := by omega
  have j1 : (0 : Int) ≤ i1 := by omega
  have j2 : (0 : Int) ≤ i2 := by omega
  have j3 : (i : Int) < n := by omega
  have j4 : (i1 : Int) < n := by omega
  have j5 : (i2 : Int) < n := by omega
  have k1 : (q : Int) ≤ 4 := by omega
  clear ht hn hx hy hz hin hin1 hin2 hadl ha hb hk
  all_goals
    go_enter Tryd.func50, Tryd.ntmps50
    go_wp2
    go_quiet (first | (go_at_call 37; with_reducible exact HY.out _ _) | (go_at_call 37; with_reducible exact HZ.out _ _))
    go_wp2
    go_ret
    exact ⟨rfl, Below.drewN' ((Below.refl _ _).alloc (Nat.le_refl _) _) _⟩
set_option maxHeartbeats 1000000 in
theorem rfits_neg (A : Option Addr) (c n : Nat) (L : List Nd) (i i1 i2 : Nat) (q : Nat) (xn xp : Int) (y z : Nd) (a b : Bool) (w : World) (ht : Lies w A (ndCells L)) (hn : L.length = n) (hx : L[i]? = some ⟨5, xn, i1, i2, xp⟩) (hy : L[i1]? = some y) (hz : L[i2]? = some z) (ha : gvK y.k = a) (hb : gvK z.k = b) :
    Calls Tryd.prog 50 #[.slice A n c, .int .i64 i] w fun e w' => e = .returned (.bool (!a)) ∧ Below w.heap.size w w' := by
  have hin : i < n := by rw [← hn]; exact (List.getElem?_eq_some_iff.1 hx).1
  have hin1 : i1 < n := by rw [← hn]; exact (List.getElem?_eq_some_iff.1 hy).1
  have hin2 : i2 < n := by rw [← hn]; exact (List.getElem?_eq_some_iff.1 hz).1
  obtain ⟨ad, rfl, hadl, d0, d1, d2, d3, d4⟩ := ht.nd hx
  obtain ⟨ad', hadd, _, y0, _⟩ := ht.nd hy
  injection hadd with hadd; subst hadd
  obtain ⟨ad', hadd, _, z0, _⟩ := ht.nd hz
  injection hadd with hadd; subst hadd
  have hab : (ad.add (i * 5)).block < w.heap.size := by rw [add_block]; exact hadl
  have hab1 : (ad.add (i1 * 5)).block < w.heap.size := by rw [add_block]; exact hadl
  have hab2 : (ad.add (i2 * 5)).block < w.heap.size := by rw [add_block]; exact hadl
  have HY := Lib.hid (fun (W : World) (m : Nat) => Calls.quiet_of_same (n := m) ((rgives_any y.k a ha (W.drewN m)).mono fun _ _ h => ⟨h.1, h.2.symm⟩))
  have HZ := Lib.hid (fun (W : World) (m : Nat) => Calls.quiet_of_same (n := m) ((rgives_any z.k b hb (W.drewN m)).mono fun _ _ h => ⟨h.1, h.2.symm⟩))
  have j0 : (0 : Int) ≤ i := by omega
  have j1 : (0 : Int) ≤ i1 := by omega
  have j2 : (0 : Int) ≤ i2 := by omega
  have j3 : (i : Int) < n := by omega
  have j4 : (i1 : Int) < n := by omega
  have j5 : (i2 : Int) < n := by omega
  clear ht hn hx hy hz hin hin1 hin2 hadl ha hb
  cases a
  all_goals
    go_enter Tryd.func50, Tryd.ntmps50
    go_wp2
    go_quiet (first | (go_at_call 37; with_reducible exact HY.out _ _) | (go_at_call 37; with_reducible exact HZ.out _ _))
    go_wp2
    go_ret
    exact ⟨rfl, Below.drewN' ((Below.refl _ _).alloc (Nat.le_refl _) _) _⟩
set_option maxHeartbeats 1000000 in
theorem rfits_not (A : Option Addr) (c n : Nat) (L : List Nd) (i i1 i2 : Nat) (q : Nat) (xn xp : Int) (y z : Nd) (a b : Bool) (w : World) (ht : Lies w A (ndCells L)) (hn : L.length = n) (hx : L[i]? = some ⟨6, xn, i1, i2, xp⟩) (hy : L[i1]? = some y) (hz : L[i2]? = some z) (ha : gvK y.k = a) (hb : gvK z.k = b) :
    Calls Tryd.prog 50 #[.slice A n c, .int .i64 i] w fun e w' => e = .returned (.bool (a)) ∧ Below w.heap.size w w' := by
  have hin : i < n := by rw [← hn]; exact (List.getElem?_eq_some_iff.1 hx).1
  have hin1 : i1 < n := by rw [← hn]; exact (List.getElem?_eq_some_iff.1 hy).1
  have hin2 : i2 < n := by rw [← hn]; exact (List.getElem?_eq_some_iff.1 hz).1
  obtain ⟨ad, rfl, hadl, d0, d1, d2, d3, d4⟩ := ht.nd hx
  obtain ⟨ad', hadd, _, y0, _⟩ := ht.nd hy
  injection hadd with hadd; subst hadd
  obtain ⟨ad', hadd, _, z0, _⟩ := ht.nd hz
  injection hadd with hadd; subst hadd
  have hab : (ad.add (i * 5)).block < w.heap.size := by rw [add_block]; exact hadl
  have hab1 : (ad.add (i1 * 5)).block < w.heap.size := by rw [add_block]; exact hadl
  have hab2 : (ad.add (i2 * 5)).block < w.heap.size := by rw [add_block]; exact hadl
  have HY := Lib.hid (fun (W : World) (m : Nat) => Calls.quiet_of_same (n := m) ((rgives_any y.k a ha (W.drewN m)).mono fun _ _ h => ⟨h.1, h.2.symm⟩))
  have HZ := Lib.hid (fun (W : World) (m : Nat) => Calls.quiet_of_same (n := m) ((rgives_any z.k b hb (W.drewN m)).mono fun _ _ h => ⟨h.1, h.2.symm⟩))
  have j0 : (0 : Int) ≤ i := by omega
  have j1 : (0 : Int) ≤ i1 := by omega
  have j2 : (0 : Int) ≤ i2 := by omega
  have j3 : (i : Int) < n := by omega
  have j4 : (i1 : Int) < n := by omega
  have j5 : (i2 : Int) < n := by omega
  clear ht hn hx hy hz hin hin1 hin2 hadl ha hb
  cases a
  all_goals
    go_enter Tryd.func50, Tryd.ntmps50
    go_wp2
    go_quiet (first | (go_at_call 37; with_reducible exact HY.out _ _) | (go_at_call 37; with_reducible exact HZ.out _ _))
    go_wp2
    go_ret
    exact ⟨rfl, Below.drewN' ((Below.refl _ _).alloc (Nat.le_refl _) _) _⟩
set_option maxHeartbeats 1000000 in
theorem rfits_eq (A : Option Addr) (c n : Nat) (L : List Nd) (i i1 i2 : Nat) (q : Nat) (xn xp : Int) (y z : Nd) (a b : Bool) (w : World) (ht : Lies w A (ndCells L)) (hn : L.length = n) (hx : L[i]? = some ⟨16, xn, i1, i2, xp⟩) (hy : L[i1]? = some y) (hz : L[i2]? = some z) (ha : gvK y.k = a) (hb : gvK z.k = b) :
    Calls Tryd.prog 50 #[.slice A n c, .int .i64 i] w fun e w' => e = .returned (.bool (a == b)) ∧ Below w.heap.size w w' := by
  have hin : i < n := by rw [← hn]; exact (List.getElem?_eq_some_iff.1 hx).1
  have hin1 : i1 < n := by rw [← hn]; exact (List.getElem?_eq_some_iff.1 hy).1
  have hin2 : i2 < n := by rw [← hn]; exact (List.getElem?_eq_some_iff.1 hz).1
  obtain ⟨ad, rfl, hadl, d0, d1, d2, d3, d4⟩ := ht.nd hx
  obtain ⟨ad', hadd, _, y0, _⟩ := ht.nd hy
  injection hadd with hadd; subst hadd
  obtain ⟨ad', hadd, _, z0, _⟩ := ht.nd hz
  injection hadd with hadd; subst hadd
  have hab : (ad.add (i * 5)).block < w.heap.size := by rw [add_block]; exact hadl
  have hab1 : (ad.add (i1 * 5)).block < w.heap.size := by rw [add_block]; exact hadl
  have hab2 : (ad.add (i2 * 5)).block < w.heap.size := by rw [add_block]; exact hadl
  have HY := Lib.hid (fun (W : World) (m : Nat) => Calls.quiet_of_same (n := m) ((rgives_any y.k a ha (W.drewN m)).mono fun _ _ h => ⟨h.1, h.2.symm⟩))
  have HZ := Lib.hid (fun (W : World) (m : Nat) => Calls.quiet_of_same (n := m) ((rgives_any z.k b hb (W.drewN m)).mono fun _ _ h => ⟨h.1, h.2.symm⟩))
  have j0 : (0 : Int) ≤ i := by omega
  have j1 : (0 : Int) ≤ i1 := by omega
  have j2 : (0 : Int) ≤ i2 := by omega
  have j3 : (i : Int) < n := by omega
  have j4 : (i1 : Int) < n := by omega
  have j5 : (i2 : Int) < n := by omega
  clear ht hn hx hy hz hin hin1 hin2 hadl ha hb
  cases a <;> cases b
  all_goals
    go_enter Tryd.func50, Tryd.ntmps50
    go_wp2
    go_quiet (first | (go_at_call 37; with_reducible exact HY.out _ _) | (go_at_call 37; with_reducible exact HZ.out _ _))
    go_wp2
    go_ret
    exact ⟨rfl, Below.drewN' ((Below.refl _ _).alloc (Nat.le_refl _) _) _⟩
set_option maxHeartbeats 1000000 in
theorem rfits_oth (A : Option Addr) (c n : Nat) (L : List Nd) (i i1 i2 : Nat) (q : Nat) (xn xp : Int) (y z : Nd) (a b : Bool) (w : World) (ht : Lies w A (ndCells L)) (hn : L.length = n) (hx : L[i]? = some ⟨17, xn, i1, i2, xp⟩) (hy : L[i1]? = some y) (hz : L[i2]? = some z) (ha : gvK y.k = a) (hb : gvK z.k = b) :
    Calls Tryd.prog 50 #[.slice A n c, .int .i64 i] w fun e w' => e = .returned (.bool (a == b)) ∧ Below w.heap.size w w' := by
  have hin : i < n := by rw [← hn]; exact (List.getElem?_eq_some_iff.1 hx).1
  have hin1 : i1 < n := by rw [← hn]; exact (List.getElem?_eq_some_iff.1 hy).1
  have hin2 : i2 < n := by rw [← hn]; exact (List.getElem?_eq_some_iff.1 hz).1
  obtain ⟨ad, rfl, hadl, d0, d1, d2, d3, d4⟩ := ht.nd hx
  obtain ⟨ad', hadd, _, y0, _⟩ := ht.nd hy
  injection hadd with hadd; subst hadd
  obtain ⟨ad', hadd, _, z0, _⟩ := ht.nd hz
  injection hadd with hadd; subst hadd
  have hab : (ad.add (i * 5)).block < w.heap.size := by rw [add_block]; exact hadl
  have hab1 : (ad.add (i1 * 5)).block < w.heap.size := by rw [add_block]; exact hadl
  have hab2 : (ad.add (i2 * 5)).block < w.heap.size := by rw [add_block]; exact hadl
  have HY := Lib.hid (fun (W : World) (m : Nat) => Calls.quiet_of_same (n := m) ((rgives_any y.k a ha (W.drewN m)).mono fun _ _ h => ⟨h.1, h.2.symm⟩))
  have HZ := Lib.hid (fun (W : World) (m : Nat) => Calls.quiet_of_same (n := m) ((rgives_any z.k b hb (W.drewN m)).mono fun _ _ h => ⟨h.1, h.2.symm⟩))
  have j0 : (0 : Int) ≤ i := by omega
  have j1 : (0 : Int) ≤ i1 := by omega
  have j2 : (0 : Int) ≤ i2 := by omega
  have j3 : (i : Int) < n := by omega
  have j4 : (i1 : Int) < n := by omega
  have j5 : (i2 : Int) < n := by omega
  clear ht hn hx hy hz hin hin1 hin2 hadl ha hb
  cases a <;> cases b
  all_goals
    go_enter Tryd.func50, Tryd.ntmps50
    go_wp2
    go_quiet (first | (go_at_call 37; with_reducible exact HY.out _ _) | (go_at_call 37; with_reducible exact HZ.out _ _))
    go_wp2
    go_ret
    exact ⟨rfl, Below.drewN' ((Below.refl _ _).alloc (Nat.le_refl _) _) _⟩
set_option maxHeartbeats 1000000 in
theorem rfits_log (A : Option Addr) (c n : Nat) (L : List Nd) (i i1 i2 : Nat) (q : Nat) (xn xp : Int) (y z : Nd) (a b : Bool) (w : World) (ht : Lies w A (ndCells L)) (hn : L.length = n) (hx : L[i]? = some ⟨(q : Nat), xn, i1, i2, xp⟩) (hy : L[i1]? = some y) (hz : L[i2]? = some z) (ha : gvK y.k = a) (hb : gvK z.k = b) (hk : 18 ≤ q) :
    Calls Tryd.prog 50 #[.slice A n c, .int .i64 i] w fun e w' => e = .returned (.bool (a && b)) ∧ Below w.heap.size w w' := by
  have hin : i < n := by rw [← hn]; exact (List.getElem?_eq_some_iff.1 hx).1
  have hin1 : i1 < n := by rw [← hn]; exact (List.getElem?_eq_some_iff.1 hy).1
  have hin2 : i2 < n := by rw [← hn]; exact (List.getElem?_eq_some_iff.1 hz).1
  obtain ⟨ad, rfl, hadl, d0, d1, d2, d3, d4⟩ := ht.nd hx
  obtain ⟨ad', hadd, _, y0, _⟩ := ht.nd hy
  injection hadd with hadd; subst hadd
  obtain ⟨ad', hadd, _, z0, _⟩ := ht.nd hz
  injection hadd with hadd; subst hadd
  have hab : (ad.add (i * 5)).block < w.heap.size := by rw [add_block]; exact hadl
  have hab1 : (ad.add (i1 * 5)).block < w.heap.size := by rw [add_block]; exact hadl
  have hab2 : (ad.add (i2 * 5)).block < w.heap.size := by rw [add_block]; exact hadl
  have HY := Lib.hid (fun (W : World) (m : Nat) => Calls.quiet_of_same (n := m) ((rgives_any y.k a ha (W.drewN m)).mono fun _ _ h => ⟨h.1, h.2.symm⟩))
  have HZ := Lib.hid (fun (W : World) (m : Nat) => Calls.quiet_of_same (n := m) ((rgives_any z.k b hb (W.drewN m)).mono fun _ _ h => ⟨h.1, h.2.symm⟩))
  have j0 : (0 : Int) ≤ i := by omega
  have j1 : (0 : Int) ≤ i1 := by omega
  have j2 : (0 : Int) ≤ i2 := by omega
  have j3 : (i : Int) < n := by omega
  have j4 : (i1 : Int) < n := by omega
  have j5 : (i2 : Int) < n := by omega
  have k1 : ¬ (q : Int) ≤ 4 := by omega
  have k5 : ((q : Int) == 5) = false := by rw [beq_eq_false_iff_ne]; omega
  have k6 : ((q : Int) == 6) = false := by rw [beq_eq_false_iff_ne]; omega
  have k16 : ((q : Int) == 16) = false := by rw [beq_eq_false_iff_ne]; omega
  have k17 : ((q : Int) == 17) = false := by rw [beq_eq_false_iff_ne]; omega
  have k2 : 18 ≤ (q : Int) := by omega
  clear ht hn hx hy hz hin hin1 hin2 hadl ha hb hk
  cases a <;> cases b
  all_goals
    go_enter Tryd.func50, Tryd.ntmps50
    go_wp2
    go_quiet (first | (go_at_call 37; with_reducible exact HY.out _ _) | (go_at_call 37; with_reducible exact HZ.out _ _))
    go_wp2
    go_ret
    exact ⟨rfl, Below.drewN' ((Below.refl _ _).alloc (Nat.le_refl _) _) _⟩
set_option maxHeartbeats 1000000 in
theorem rfits_num (A : Option Addr) (c n : Nat) (L : List Nd) (i i1 i2 : Nat) (q : Nat) (xn xp : Int) (y z : Nd) (a b : Bool) (w : World) (ht : Lies w A (ndCells L)) (hn : L.length = n) (hx : L[i]? = some ⟨(q : Nat), xn, i1, i2, xp⟩) (hy : L[i1]? = some y) (hz : L[i2]? = some z) (ha : gvK y.k = a) (hb : gvK z.k = b) (hk : 7 ≤ q) (hk2 : q ≤ 15) :
    Calls Tryd.prog 50 #[.slice A n c, .int .i64 i] w fun e w' => e = .returned (.bool (!a && !b)) ∧ Below w.heap.size w w' := by
  have hin : i < n := by rw [← hn]; exact (List.getElem?_eq_some_iff.1 hx).1
  have hin1 : i1 < n := by rw [← hn]; exact (List.getElem?_eq_some_iff.1 hy).1
  have hin2 : i2 < n := by rw [← hn]; exact (List.getElem?_eq_some_iff.1 hz).1
  obtain ⟨ad, rfl, hadl, d0, d1, d2, d3, d4⟩ := ht.nd hx
  obtain ⟨ad', hadd, _, y0, _⟩ := ht.nd hy
  injection hadd with hadd; subst hadd
  obtain ⟨ad', hadd, _, z0, _⟩ := ht.nd hz
  injection hadd with hadd; subst hadd
  have hab : (ad.add (i * 5)).block < w.heap.size := by rw [add_block]; exact hadl
  have hab1 : (ad.add (i1 * 5)).block < w.heap.size := by rw [add_block]; exact hadl
  have hab2 : (ad.add (i2 * 5)).block < w.heap.size := by rw [add_block]; exact hadl
  have HY := Lib.hid (fun (W : World) (m : Nat) => Calls.quiet_of_same (n := m) ((rgives_any y.k a ha (W.drewN m)).mono fun _ _ h => ⟨h.1, h.2.symm⟩))
  have HZ := Lib.hid (fun (W : World) (m : Nat) => Calls.quiet_of_same (n := m) ((rgives_any z.k b hb (W.drewN m)).mono fun _ _ h => ⟨h.1, h.2.symm⟩))
  have j0 : (0 : Int) ≤ i := by omega
  have j1 : (0 : Int) ≤ i1 := by omega
  have j2 : (0 : Int) ≤ i2 := by omega
  have j3 : (i : Int) < n := by omega
  have j4 : (i1 : Int) < n := by omega
  have j5 : (i2 : Int) < n := by omega
  have k1 : ¬ (q : Int) ≤ 4 := by omega
  have k5 : ((q : Int) == 5) = false := by rw [beq_eq_false_iff_ne]; omega
  have k6 : ((q : Int) == 6) = false := by rw [beq_eq_false_iff_ne]; omega
  have k16 : ((q : Int) == 16) = false := by rw [beq_eq_false_iff_ne]; omega
  have k17 : ((q : Int) == 17) = false := by rw [beq_eq_false_iff_ne]; omega
  have k2 : ¬ 18 ≤ (q : Int) := by omega
  clear ht hn hx hy hz hin hin1 hin2 hadl ha hb hk hk2
  cases a <;> cases b
  all_goals
    go_enter Tryd.func50, Tryd.ntmps50
    go_wp2
    go_quiet (first | (go_at_call 37; with_reducible exact HY.out _ _) | (go_at_call 37; with_reducible exact HZ.out _ _))
    go_wp2
    go_ret
    exact ⟨rfl, Below.drewN' ((Below.refl _ _).alloc (Nat.le_refl _) _) _⟩
theorem rfits_any (A : Option Addr) (c n : Nat) (L : List Nd) (E : List Ex) (i : Nat) (x : Nd) (v : Bool) (w : World) (ht : Lies w A (ndCells L)) (hn : L.length = n) (hE : extF L = some E) (hx : L[i]? = some x) (hv : fitN L x = v) :
    Calls Tryd.prog 50 #[.slice A n c, .int .i64 i] w fun e w' => e = .returned (.bool v) ∧ Below w.heap.size w w' := by
  obtain ⟨q1, q2, _⟩ := node_parts hE hx
  obtain ⟨i1, i2, y, z, ha, hb, hy, hz⟩ := node_ab hE hx
  have hf := (fit_two (x := x) ha hb hy hz).symm.trans hv
  obtain ⟨k, xn, xa, xb, xp⟩ := x
  simp only at q1 q2 ha hb hf
  subst ha hb
  obtain ⟨q, rfl⟩ : ∃ q : Nat, k = q := ⟨k.toNat, by omega⟩
  rcases (by omega : q ≤ 4 ∨ q = 5 ∨ q = 6 ∨ (7 ≤ q ∧ q ≤ 15) ∨ q = 16 ∨ q = 17 ∨ 18 ≤ q) with h | rfl | rfl | ⟨h, h2⟩ | rfl | rfl | h
  · obtain rfl : true = v := by rw [← hf]; unfold fitK; rw [if_pos (by omega)]
    exact rfits_leaf A c n L i i1 i2 q xn xp y z _ _ w ht hn hx hy hz rfl rfl h
  · obtain rfl : (!gvK y.k) = v := by rw [← hf]; rfl
    exact rfits_neg A c n L i i1 i2 0 xn xp y z _ _ w ht hn hx hy hz rfl rfl
  · obtain rfl : (gvK y.k) = v := by rw [← hf]; rfl
    exact rfits_not A c n L i i1 i2 0 xn xp y z _ _ w ht hn hx hy hz rfl rfl
  · obtain rfl : (!gvK y.k && !gvK z.k) = v := by rw [← hf]; unfold fitK; rw [if_neg (by omega), if_neg (by omega), if_neg (by omega), if_neg (by omega), if_neg (by omega)]
    exact rfits_num A c n L i i1 i2 q xn xp y z _ _ w ht hn hx hy hz rfl rfl h h2
  · obtain rfl : (gvK y.k == gvK z.k) = v := by rw [← hf]; rfl
    exact rfits_eq A c n L i i1 i2 0 xn xp y z _ _ w ht hn hx hy hz rfl rfl
  · obtain rfl : (gvK y.k == gvK z.k) = v := by rw [← hf]; rfl
    exact rfits_oth A c n L i i1 i2 0 xn xp y z _ _ w ht hn hx hy hz rfl rfl
  · obtain rfl : (gvK y.k && gvK z.k) = v := by rw [← hf]; unfold fitK; rw [if_neg (by omega), if_neg (by omega), if_neg (by omega), if_neg (by omega), if_pos (by omega)]
    exact rfits_log A c n L i i1 i2 q xn xp y z _ _ w ht hn hx hy hz rfl rfl h
theorem rwrong_any (A : Option Addr) (c n : Nat) (L : List Nd) (E : List Ex) (w : World) (ht : Lies w A (ndCells L)) (hn : L.length = n) (h60 : n ≤ 60) (hE : extF L = some E) (v : Nat) (hv : wrongF L = v) :
    Calls Tryd.prog 36 #[.slice A n c] w fun e w' => e = .returned (.int .i64 v) ∧ Below w.heap.size w w' := by
  have HT := Lib.hid ht
  have HN := Lib.hid hn
  have HE := Lib.hid hE
  have HV := Lib.hid hv
  clear ht hn hE hv
  go_enter Tryd.func36, Tryd.ntmps36
  go_wp2
  go_loopw [3] (fun i wr => ∃ k : Nat, i = .int .i64 k ∧ k ≤ n ∧ Hid (FitTo L k) ∧ Hid (Below w.heap.size w wr)) (fun i _ => n - (intOf i).toNat)
  case atStart => exact ⟨0, rfl, Nat.zero_le _, Lib.hid (FitTo.start L), Lib.hid (Below.refl _ _)⟩
  case round =>
    obtain ⟨k, rfl, hk, HF, HB⟩ := hrel
    by_cases hlt : k < n
    · obtain ⟨x, hx⟩ : ∃ x, L[k]? = some x := ⟨_, List.getElem?_eq_getElem (by rw [HN.out]; exact hlt)⟩
      have HX := Lib.hid hx
      obtain ⟨b, hb⟩ : ∃ b, fitN L x = b := ⟨_, rfl⟩
      have HC := Lib.hid (rfits_any A c n L E k x b wr (HT.out.below HB.out) HN.out HE.out hx hb)
      have HFV := Lib.hid hb
      clear hx hb
      cases b
      · have HW := Lib.hid (HF.out.stop HX.out HFV.out)
        go_wp2_with (go_at_call 50; refine HC.out.mono ?_; rintro e w1 ⟨rfl, hb1⟩)
        go_ret
        exact ⟨ret_int' (by rw [← HV.out, HW.out]), HB.out.trans (hb1.mono HB.out.size)⟩
      · have HW := Lib.hid (HF.out.step HX.out HFV.out)
        go_wp2_with (go_at_call 50; refine HC.out.mono ?_; rintro e w1 ⟨rfl, hb1⟩)
        go_roundw
        case rel => exact ⟨k + 1, by go_num, by omega, HW, Lib.hid (HB.out.trans (hb1.mono HB.out.size))⟩
        case measure => simp [intOf]; omega
    · obtain rfl : k = n := by omega
      have HW := Lib.hid (HF.out.whole HN.out)
      go_wp2
      go_ret
      exact ⟨ret_int' (by rw [← HV.out, HW.out]), HB.out⟩
end Go.Proofs.YtajchaknfkfljaaDoor.K6
