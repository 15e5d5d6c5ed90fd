/- Contracts of check, All and Of. -/
import Derived.Test.YtajchaknfkfljaaDoorVVal
import Derived.Test.YtajchaknfkfljaaDoorKAll
import Derived.Deep.RegionHeld3
namespace Go.Proofs.YtajchaknfkfljaaDoor.V7
open Go.ChangeShapes Go.WideShapes Go.ChangeAt Go.RowKit N4 K6
set_option linter.unusedVariables false
set_option linter.unusedSimpArgs false
set_option maxRecDepth 100000

/-- The error that all functions answer first. -/
def errF (L : List Nd) : Int := (ofF L).2.2
theorem check_ev (A : Option Addr) (c n : Nat) (L : List Nd) (w : World) (hs : SigT w) (hn : L.length = n) (hL : n ≤ maxLen) (ht : Lies w A (ndCells L)) (v : Int) (h : errF L = v) :
    Calls Tryd.prog 29 #[.slice A n c] w fun e w' => e = .returned (.int .i64 v) ∧ Below w.heap.size w w' := by
  obtain ⟨t, a, v', z⟩ : ∃ t a v', ofF L = (t, a, v') := ⟨_, _, _, rfl⟩
  have HO := Lib.hid (of_any A c n L w hs hn hL ht t a v' z)
  obtain rfl : v' = v := by rw [← h]; unfold errF; rw [z]
  clear hs hn hL ht z h
  go_enter Tryd.func29, Tryd.ntmps29
  go_wp2_with (go_at_call 45; refine HO.out.mono ?_; rintro e w1 ⟨rfl, hb⟩)
  go_ret
  exact ⟨rfl, hb⟩

theorem i64_info : (Tryd.prog.info? 2).map (fun i => (i.zero, i.size, i.bytes)) = some (some (.int .i64 0), 1, 8) := by kernel_rfl
/-- In the midst of All: the first k values stand. -/
def VRel (w : World) (M : List Int) (n k : Nat) (wr : World) : Prop :=
  ∃ xs, wr.ownsRow w.heap.size 2 1 (.slice (some ⟨w.heap.size, 0, none⟩) n n) n xs ∧ xs.take k = iCells (M.take k) ∧ Below w.heap.size w wr
theorem VRel.step {w : World} {M : List Int} {n k : Nat} {wr : World} {y : Int} (h : VRel w M n k wr) (hy : M[k]? = some y) (hk : k < n) :
    VRel w M n (k + 1) (wr.setCell ⟨w.heap.size, k, none⟩ (.int .i64 y)) := by
  obtain ⟨xs, ho, hx, hb⟩ := h
  refine ⟨_, (ho.stored k (.int .i64 y)).1, ?_, hb.setCell (Nat.le_refl _) _⟩
  have hl : xs.length = n * 1 := ho.1
  obtain ⟨hlt, e⟩ := List.getElem?_eq_some_iff.1 hy
  rw [set1_take xs k _ (by omega), hx, List.take_succ_eq_append_getElem hlt, e, iCells_snoc]
theorem VRel.below {w : World} {M : List Int} {n k : Nat} {wr wr' : World} (h : VRel w M n k wr) (hb : Below wr.heap.size wr wr') : VRel w M n k wr' := by
  obtain ⟨xs, ho, hx, hb0⟩ := h
  exact ⟨xs, own_below ho hb, hx, hb0.trans (hb.mono hb0.size)⟩
theorem VRel.cell {w : World} {M : List Int} {n k : Nat} {wr : World} (h : VRel w M n k wr) (hk : k < n) : (∃ v0, wr.cell? ⟨w.heap.size, k, none⟩ = some v0) ∧ wr.frozen? ⟨w.heap.size, k, none⟩ = false := by
  obtain ⟨xs, ho, _, _⟩ := h
  exact own_one ho k hk
theorem VRel.lies {w : World} {M : List Int} {n k : Nat} {wr : World} (h : VRel w M n k wr) (hk : k < n) : Lies wr (some ⟨w.heap.size, 0, none⟩) (iCells (M.take k)) := by
  obtain ⟨xs, ho, hx, hb⟩ := h
  have hl := Lies.of_own ho (by intro h; omega)
  rcases hl with h0 | ⟨ad, h1, h2, h3⟩
  · subst h0; have := ho.1; simp at this; omega
  · refine .inr ⟨ad, h1, h2, fun j u hj => h3 j u ?_⟩
    rw [← hx] at hj
    rw [List.getElem?_take] at hj
    split at hj
    · exact hj
    · cases hj
/-- What is held in the region in the midst of All's round. -/
def VAllPost (w : World) (vs : List Int) (n : Nat) (e : Ending) (w' : World) : Prop :=
  ∃ ad, e = .returned (.tuple #[.slice (some ad) n n, .int .i64 0]) ∧ Lies w' (some ad) (iCells vs) ∧ Below w.heap.size w w'
theorem allv_bad (A : Option Addr) (c n : Nat) (L : List Nd) (r : Rc) (w : World) (hs : SigT w) (hn : L.length = n) (hL : n ≤ maxLen) (ht : Lies w A (ndCells L)) (v : Int) (h : errF L = v) (h0 : v ≠ 0) :
    Calls Tryd.prog 10 #[.slice A n c, rcV r] w fun e w' => e = .returned (.tuple #[.slice none 0 0, .int .i64 v]) ∧ Below w.heap.size w w' := by
  have HO := Lib.hid (fun W (hb : Below w.heap.size w W) => check_ev A c n L W (hs.stays hb) hn hL (ht.below hb) v h)
  have hne := errno_ne h0
  have hb0 := fun o => (Below.refl w.heap.size w).alloc (Nat.le_refl _) o
  clear hs hn hL ht h h0
  go_enter Tryd.func10, Tryd.ntmps10
  go_wp2_with (go_at_call 29; refine (HO.out _ (hb0 _)).mono ?_; rintro e w1 ⟨rfl, hb⟩)
  go_ret2
  exact ⟨rfl, (hb0 _).trans (hb.mono (by simp))⟩
end Go.Proofs.YtajchaknfkfljaaDoor.V7
