
/- Contracts of binary, typed and alive. -/
import Derived.Test.YtajchaknfkfljaaDoorKMade
import Derived.Test.YtajchaknfkfljaaDoorKMath3
namespace Go.Proofs.YtajchaknfkfljaaDoor.K6
open Go.ChangeShapes Go.WideShapes Go.ChangeAt Go.RowKit N4
set_option linter.unusedVariables false
set_option linter.unusedSimpArgs false
set_option maxRecDepth 100000

theorem rmade_1 (PA : Option Addr) (pc : Nat) (kk nn p : Int) (w : World) (A1 : Option Addr) (c1 n1 : Nat) (P : List Nd) (hn1 : P.length = n1) (h1 : Lies w A1 (ndCells P)) (hv1 : checkF P = 0) (hs1 : n1 ≤ 10) (hp : Lies w PA [.slice A1 n1 c1]) (N : Nat) (hN : n1 + 1 = N) :
    Calls Tryd.prog 14 #[.int .u8 kk, .int .i64 nn, .int .i64 p, .slice PA 1 pc] w (MdPost w (made1 kk nn p P) N) := by
  have h := rmade_any PA pc 1 [.slice A1 n1 c1] [P] kk nn p w rfl rfl (by omega) hp (by
    intro i u P' hu hP
    have hi := (List.getElem?_eq_some_iff.1 hu).1
    obtain rfl : i = 0 := by simpa using hi
    simp only [List.getElem?_cons_zero, Option.some.injEq] at hu hP
    subst hu hP
    exact ⟨A1, c1, by rw [hn1], h1, by unfold maxLen; omega⟩) (by simpa using hv1) (by simp; omega) N (by simp [catF, catS]; omega)
  have e : catF [P] ++ [⟨kk, nn, aF [P] 1, bF [P] 1, p⟩] = made1 kk nn p P := by simp [catF, catS, aF, bF, made1]
  rwa [e] at h
theorem rmade_2 (PA : Option Addr) (pc : Nat) (kk nn p : Int) (w : World) (A1 : Option Addr) (c1 n1 : Nat) (P : List Nd) (hn1 : P.length = n1) (h1 : Lies w A1 (ndCells P)) (hv1 : checkF P = 0) (hs1 : n1 ≤ 10) (A2 : Option Addr) (c2 n2 : Nat) (Q : List Nd) (hn2 : Q.length = n2) (h2 : Lies w A2 (ndCells Q)) (hv2 : checkF Q = 0) (hs2 : n2 ≤ 10) (hp : Lies w PA [.slice A1 n1 c1, .slice A2 n2 c2]) (N : Nat) (hN : n1 + n2 + 1 = N) :
    Calls Tryd.prog 14 #[.int .u8 kk, .int .i64 nn, .int .i64 p, .slice PA 2 pc] w (MdPost w (made2 kk nn p P Q) N) := by
  have h := rmade_any PA pc 2 [.slice A1 n1 c1, .slice A2 n2 c2] [P, Q] kk nn p w rfl rfl (by omega) hp (by
    intro i u P' hu hP
    have hi := (List.getElem?_eq_some_iff.1 hu).1
    rcases (by simp at hi; omega : i = 0 ∨ i = 1) with rfl | rfl
    · simp only [List.getElem?_cons_zero, Option.some.injEq] at hu hP
      subst hu hP
      exact ⟨A1, c1, by rw [hn1], h1, by unfold maxLen; omega⟩
    · simp only [List.getElem?_cons_succ, List.getElem?_cons_zero, Option.some.injEq] at hu hP
      subst hu hP
      exact ⟨A2, c2, by rw [hn2], h2, by unfold maxLen; omega⟩) (by simpa using ⟨hv1, hv2⟩) (by simp; omega) N (by simp [catF, catS]; omega)
  have e : catF [P, Q] ++ [⟨kk, nn, aF [P, Q] 2, bF [P, Q] 2, p⟩] = made2 kk nn p P Q := by simp [catF, catS, aF, bF, made2]
  rwa [e] at h
def vL : List Nd := [⟨4, 0, 0, 0, 0⟩]
def tL : List Nd := [⟨1, 1, 0, 0, 0⟩, ⟨1, 2, 0, 0, 0⟩, ⟨12, 0, 0, 1, 0⟩]
theorem vL_ok : checkF vL = 0 := by decide +kernel
theorem tL_ok : checkF tL = 0 := by decide +kernel
def Bl (w0 w : World) : Prop := Below w0.heap.size w0 w
theorem Bl.start (w : World) : Bl w w := Below.refl _ _
theorem Bl.step {w0 w w' : World} (h : Bl w0 w) (hb : Below w.heap.size w w') : Bl w0 w' := Below.trans h (Below.mono hb (Below.size h))
theorem Bl.size {w0 w : World} (h : Bl w0 w) : w0.heap.size ≤ w.heap.size := Below.size h
theorem Bl.al {w0 w : World} (h : Bl w0 w) (o : Obj) : Bl w0 (w.alloc o) := h.step ((Below.refl _ _).alloc (Nat.le_refl _) _)
theorem Bl.lies {w0 w : World} {A : Option Addr} {cs : List Value} (h : Bl w0 w) (hl : Lies w0 A cs) : Lies w A cs := hl.below h
theorem Bl.sig {w0 w : World} (h : Bl w0 w) (hs : SigT w0) : SigT w := hs.stays h

theorem of_a1 : ofF (made2 8 0 0 vL tL) = (false, 4, 42) := by decide +kernel
theorem of_a2 : ofF (made1 6 0 0 vL) = (false, 1, 42) := by decide +kernel
theorem of_a3 : ofF (made2 12 0 0 tL vL) = (false, 4, 42) := by decide +kernel
theorem of_a4 : ofF (made2 12 0 0 vL vL) = (true, 2, 0) := by decide +kernel
theorem of_a5 : ofF (made2 16 0 0 tL tL) = (true, 6, 0) := by decide +kernel
end Go.Proofs.YtajchaknfkfljaaDoor.K6
