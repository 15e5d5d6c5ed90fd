
/- Contracts of givesTruth, of the closure of misfit and of parts. -/
import Derived.Test.YtajchaknfkfljaaDoorKMem
import Derived.Test.YtajchaknfkfljaaDoorNC
namespace Go.Proofs.YtajchaknfkfljaaDoor.K6
open Go.ChangeShapes Go.WideShapes Go.ChangeAt Go.RowKit N4
set_option linter.unusedVariables false
set_option maxRecDepth 100000

theorem gives_t (q : Nat) (n a b p : Int) (w : World) (hs : SigT w) (h1 : 1 ≤ q) (h2 : q ≤ 19) (hv : gvK q = true) :
    Calls Tryd.prog 55 #[.agg #[.int .u8 q, .int .i64 n, .int .i64 a, .int .i64 b, .int .i64 p]] w fun e w' => e = .returned (.bool true) ∧ Below w.heap.size w w' := by
  obtain ⟨_, c1⟩ := hs.cells (k := q) (by omega)
  have hlt := hs.lt
  rcases giveB_vals (k := (q : Int)) (by omega) with ⟨g1, g2⟩ | ⟨g1, g2⟩
  all_goals first
    | (exfalso; rw [hv] at g1; cases g1; done)
    | skip
  rw [g2] at c1
  clear hs hv g1 g2
  go_enter Tryd.func55, Tryd.ntmps55
  go_wp2
  go_ret
  exact ⟨rfl, (Below.refl _ _).alloc (Nat.le_refl _) _⟩
theorem gives_f (q : Nat) (n a b p : Int) (w : World) (hs : SigT w) (h1 : 1 ≤ q) (h2 : q ≤ 19) (hv : gvK q = false) :
    Calls Tryd.prog 55 #[.agg #[.int .u8 q, .int .i64 n, .int .i64 a, .int .i64 b, .int .i64 p]] w fun e w' => e = .returned (.bool false) ∧ Below w.heap.size w w' := by
  obtain ⟨_, c1⟩ := hs.cells (k := q) (by omega)
  have hlt := hs.lt
  rcases giveB_vals (k := (q : Int)) (by omega) with ⟨g1, g2⟩ | ⟨g1, g2⟩
  all_goals first
    | (exfalso; rw [hv] at g1; cases g1; done)
    | skip
  rw [g2] at c1
  clear hs hv g1 g2
  go_enter Tryd.func55, Tryd.ntmps55
  go_wp2
  go_ret
  exact ⟨rfl, (Below.refl _ _).alloc (Nat.le_refl _) _⟩
theorem gives_any (x : Nd) (w : World) (hs : SigT w) (h1 : 1 ≤ x.k) (h2 : x.k ≤ 19) (v : Bool) (hv : gvK x.k = v) :
    Calls Tryd.prog 55 #[ndV x] w fun e w' => e = .returned (.bool v) ∧ Below w.heap.size w w' := by
  obtain ⟨k, n, a, b, p⟩ := x
  simp only at h1 h2 hv
  obtain ⟨q, rfl⟩ : ∃ q : Nat, k = q := ⟨k.toNat, by omega⟩
  cases v
  · exact gives_f q n a b p w hs (by omega) (by omega) hv
  · exact gives_t q n a b p w hs (by omega) (by omega) hv
theorem clos_of (A : Option Addr) (c n : Nat) (L : List Nd) (g : Nat) (j q : Nat) (xn xa xb xp : Int) (v : Int) (w : World) (hs : SigT w) (ht : Lies w A (ndCells L)) (hn : L.length = n) (hg : w.cell? ⟨g, 0, none⟩ = some (.slice A n c)) (hgl : g < w.heap.size)
    (hj : L[j]? = some ⟨q, xn, xa, xb, xp⟩) (h1 : 1 ≤ q) (h2 : q ≤ 19) (hv : giveB q = v) :
    Calls Tryd.prog 64 #[.int .i64 j, .pointer (some ⟨g, 0, none⟩)] w fun e w' => e = .returned (.int .u8 v) ∧ Below w.heap.size w w' := by
  obtain ⟨_, c1⟩ := hs.cells (k := q) (by omega)
  have hlt := hs.lt
  rw [hv] at c1
  obtain ⟨ad, rfl, hadl, d0, d1, d2, d3, d4⟩ := ht.nd hj
  have hab : (ad.add (j * 5)).block < w.heap.size := by rw [add_block]; exact hadl
  have hjl : j < n := by rw [← hn]; exact (List.getElem?_eq_some_iff.1 hj).1
  have j2 : (0 : Int) ≤ j := by omega
  have j3 : (j : Int) < n := by omega
  clear hs hv ht hj hn hadl
  go_enter Tryd.func64, Tryd.ntmps64
  go_wp2
  go_ret
  exact ⟨rfl, Below.refl _ _⟩
theorem clos_any (A : Option Addr) (c n : Nat) (L : List Nd) (g : Nat) (j : Nat) (x : Nd) (i : Int) (v : Int) (w : World) (hs : SigT w) (ht : Lies w A (ndCells L)) (hn : L.length = n) (hg : w.cell? ⟨g, 0, none⟩ = some (.slice A n c)) (hgl : g < w.heap.size)
    (hj : L[j]? = some x) (hi : i = j) (h1 : 1 ≤ x.k) (h2 : x.k ≤ 19) (hv : giveB x.k = v) :
    Calls Tryd.prog 64 #[.int .i64 i, .pointer (some ⟨g, 0, none⟩)] w fun e w' => e = .returned (.int .u8 v) ∧ Below w.heap.size w w' := by
  subst hi
  obtain ⟨k, n', a, b, p⟩ := x
  simp only at h1 h2 hv
  obtain ⟨q, rfl⟩ : ∃ q : Nat, k = q := ⟨k.toNat, by omega⟩
  exact clos_of A c n L g j q n' a b p v w hs ht hn hg hgl hj (by omega) (by omega) hv
def PtPost (w : World) (m : Nat) (a b : Int) (e : Ending) (w' : World) : Prop :=
  ∃ ad, e = .returned (.slice (some ad) m 2) ∧ Lies w' (some ad) [.int .i64 a, .int .i64 b] ∧ Below w.heap.size w w'
theorem parts_0 (k n a b p : Int) (w : World) (h0 : okK k = true) (hc : cnt k = 0) :
    Calls Tryd.prog 65 #[.agg #[.int .u8 k, .int .i64 n, .int .i64 a, .int .i64 b, .int .i64 p]] w (PtPost w 0 a b) := by
  have HP := Lib.hid (fun w => show Calls Tryd.prog 25 #[.int .u8 k] w fun e w' => e = .returned (.tuple #[.int .i64 0, .int .i64 0]) ∧ w = w' by
    have := parts_any k w
    rwa [show partsN k = 0 by unfold partsN; rw [if_pos h0, hc], show partsE k = 0 by simp [partsE, h0]] at this)
  clear hc h0
  go_enter Tryd.func65, Tryd.ntmps65
  go_wp2_with (go_at_call 25; refine (HP.out _).mono ?_; rintro e w' ⟨rfl, rfl⟩)
  go_ret
  exact ⟨_, rfl, lies_vals (w.alloc _) _ (by simp) _ _ _ rfl, ((Below.refl _ _).alloc (Nat.le_refl _) _).alloc (by simp) _⟩
theorem parts_1 (k n a b p : Int) (w : World) (h0 : okK k = true) (hc : cnt k = 1) :
    Calls Tryd.prog 65 #[.agg #[.int .u8 k, .int .i64 n, .int .i64 a, .int .i64 b, .int .i64 p]] w (PtPost w 1 a b) := by
  have HP := Lib.hid (fun w => show Calls Tryd.prog 25 #[.int .u8 k] w fun e w' => e = .returned (.tuple #[.int .i64 1, .int .i64 0]) ∧ w = w' by
    have := parts_any k w
    rwa [show partsN k = 1 by unfold partsN; rw [if_pos h0, hc], show partsE k = 0 by simp [partsE, h0]] at this)
  clear hc h0
  go_enter Tryd.func65, Tryd.ntmps65
  go_wp2_with (go_at_call 25; refine (HP.out _).mono ?_; rintro e w' ⟨rfl, rfl⟩)
  go_ret
  exact ⟨_, rfl, lies_vals (w.alloc _) _ (by simp) _ _ _ rfl, ((Below.refl _ _).alloc (Nat.le_refl _) _).alloc (by simp) _⟩
theorem parts_2 (k n a b p : Int) (w : World) (h0 : okK k = true) (hc : cnt k = 2) :
    Calls Tryd.prog 65 #[.agg #[.int .u8 k, .int .i64 n, .int .i64 a, .int .i64 b, .int .i64 p]] w (PtPost w 2 a b) := by
  have HP := Lib.hid (fun w => show Calls Tryd.prog 25 #[.int .u8 k] w fun e w' => e = .returned (.tuple #[.int .i64 2, .int .i64 0]) ∧ w = w' by
    have := parts_any k w
    rwa [show partsN k = 2 by unfold partsN; rw [if_pos h0, hc], show partsE k = 0 by simp [partsE, h0]] at this)
  clear hc h0
  go_enter Tryd.func65, Tryd.ntmps65
  go_wp2_with (go_at_call 25; refine (HP.out _).mono ?_; rintro e w' ⟨rfl, rfl⟩)
  go_ret
  exact ⟨_, rfl, lies_vals (w.alloc _) _ (by simp) _ _ _ rfl, ((Below.refl _ _).alloc (Nat.le_refl _) _).alloc (by simp) _⟩
end Go.Proofs.YtajchaknfkfljaaDoor.K6
