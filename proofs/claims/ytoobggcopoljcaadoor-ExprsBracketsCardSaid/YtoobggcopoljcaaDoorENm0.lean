/- ExprsNames: the closed facts. -/
import Derived.Test.YtoobggcopoljcaaDoorEAlive
namespace Go.Proofs.YtoobggcopoljcaaDoor
open Go.RowKit N4
set_option linter.unusedVariables false
set_option maxRecDepth 100000

theorem nr_0 : readF [48, 48, 55] [55] = true := by decide +kernel
theorem nr_1 : readF [116] [116] = true := by decide +kernel
theorem nr_2 : readF [107, 32, 45, 32, 116, 32, 45, 32, 118] [40, 107, 32, 45, 32, 116, 41, 32, 45, 32, 118] = true := by decide +kernel
theorem nr_3 : readF [107, 32, 60, 60, 32, 49, 32, 62, 62, 32, 50] [40, 107, 32, 60, 60, 32, 49, 41, 32, 62, 62, 32, 50] = true := by decide +kernel
theorem nr_4 : readF [45, 45, 118] [45, 32, 40, 45, 32, 118, 41] = true := by decide +kernel
theorem nr_5 : readF [45, 118, 32, 42, 32, 45, 50] [40, 45, 32, 118, 41, 32, 42, 32, 40, 45, 32, 50, 41] = true := by decide +kernel
theorem nr_6 : readF [110, 111, 116, 32, 110, 111, 116, 32, 118, 32, 60, 32, 49] [110, 111, 116, 32, 40, 110, 111, 116, 32, 40, 118, 32, 60, 32, 49, 41, 41] = true := by decide +kernel
theorem nr_7 : readF [107, 32, 61, 32, 49, 32, 111, 114, 32, 116, 32, 61, 32, 50, 32, 97, 110, 100, 32, 118, 32, 61, 32, 51] [40, 107, 32, 61, 32, 49, 41, 32, 111, 114, 32, 40, 40, 116, 32, 61, 32, 50, 41, 32, 97, 110, 100, 32, 40, 118, 32, 61, 32, 51, 41, 41] = true := by decide +kernel
theorem nr_8 : readF [49, 32, 43, 32, 50, 32, 60, 60, 32, 51, 32, 43, 32, 52] [40, 49, 32, 43, 32, 50, 41, 32, 60, 60, 32, 40, 51, 32, 43, 32, 52, 41] = true := by decide +kernel
theorem nr_9 : readF [40, 40, 118, 41, 41] [118] = true := by decide +kernel
theorem nr_10 : readF [118, 32, 62, 61, 32, 49, 32, 60, 60, 32, 50] [118, 32, 62, 61, 32, 40, 49, 32, 60, 60, 32, 50, 41] = true := by decide +kernel
theorem nr_11 : readF [40, 118, 32, 60, 32, 49, 41, 32, 33, 61, 32, 40, 107, 32, 60, 61, 32, 50, 41] [40, 118, 32, 60, 32, 49, 41, 32, 33, 61, 32, 40, 107, 32, 60, 61, 32, 50, 41] = true := by decide +kernel
theorem nr_12 : readF [107, 32, 111, 114, 32, 116, 32, 111, 114, 32, 118] [40, 107, 32, 111, 114, 32, 116, 41, 32, 111, 114, 32, 118] = true := by decide +kernel
theorem nr_13 : readF [45, 32, 40, 110, 111, 116, 32, 118, 41] [45, 32, 40, 110, 111, 116, 32, 118, 41] = true := by decide +kernel
theorem nr_14 : readF [107, 32, 62, 32, 116] [107, 32, 62, 32, 116] = true := by decide +kernel
def wrongL : List (List UInt8) := [[], [41], [40], [40, 118], [40, 41], [118, 32, 118], [45, 32], [110, 111, 116], [118, 32, 43, 32, 110, 111, 116, 32, 107], [45, 110, 111, 116, 32, 118], [118, 32, 42], [115, 101, 108, 101, 99, 116], [60, 32, 49], [118, 32, 60, 32, 110, 111, 116, 32, 107], [61, 32, 118], [107, 32, 97, 110, 100], [49, 32, 50]]
def atsL : List Int := [0, 0, 1, 2, 1, (-1), 1, 1, 2, 1, 2, 0, 0, 2, 0, 2, (-1)]
/-- A text is parsed as the law says: no expression, or up to a token. -/
def wrongF (s : List UInt8) (a : Int) : Bool := decide (s.length ≤ 400) && decide ((allF s).2.2 = 0) && (match prsF s with
  | some (.er v q) => decide (v = 12) && decide (a = (((allF s).1.length - q.length : Nat) : Int))
  | some (.ok t q) => decide (a = -1) && decide ((allF s).1.length - q.length = 1)
  | none => false)
theorem wrong_facts : ∀ i : Fin 17, wrongF (wrongL.getD i.val []) (atsL.getD i.val 0) = true := by decide +kernel
theorem wrongF_ok {s : List UInt8} {a : Int} (h : wrongF s a = true) : s.length ≤ 400 ∧ ∃ L q r, allF s = (L, q, 0) ∧ Rd (.line 0) L r ∧ ((∃ p, r = .er 12 p ∧ a = ((L.length - p.length : Nat) : Int)) ∨ ∃ t p, r = .ok t p ∧ a = -1 ∧ L.length - p.length = 1) := by
  simp only [wrongF, Bool.and_eq_true, decide_eq_true_eq] at h
  obtain ⟨⟨h1, h2⟩, h3⟩ := h
  refine ⟨h1, (allF s).1, (allF s).2.1, ?_⟩
  split at h3
  · rename_i v q hp
    simp only [Bool.and_eq_true, decide_eq_true_eq] at h3
    obtain ⟨rfl, h5⟩ := h3
    exact ⟨_, by rw [← h2], rdF_Rd _ _ _ _ (by exact trivial) hp, .inl ⟨q, rfl, h5⟩⟩
  · rename_i t q hp
    simp only [Bool.and_eq_true, decide_eq_true_eq] at h3
    exact ⟨_, by rw [← h2], rdF_Rd _ _ _ _ (by exact trivial) hp, .inr ⟨t, q, rfl, h3.1, h3.2⟩⟩
  · cases h3

def vTk : Tok := ⟨2, [118], 0⟩
def sumT : Nat → List Tok
  | 0 => [vTk]
  | k + 1 => sumT k ++ [⟨3, [43], (k : Int) + 1⟩, vTk]
def sgnT (k : Nat) : List Tok := List.replicate k ⟨3, [45], 0⟩
def opnT (k : Nat) : List Tok := List.replicate k ⟨3, [40], 0⟩
def clsT (k : Nat) : List Tok := List.replicate k ⟨3, [41], 0⟩
theorem sum_len (k : Nat) : (sumT k).length = 2 * k + 1 := by
  induction k with
  | zero => rfl
  | succ k ih => rw [sumT, List.length_append, ih]; simp; omega
theorem sum_chk : chkF (sumT 20) = 0 := by decide +kernel
theorem sgn_chk : chkF (sgnT 20 ++ [vTk]) = 0 := by decide +kernel
theorem brk_chk : chkF (opnT 60 ++ [vTk] ++ clsT 60) = 0 := by decide +kernel
theorem sum_rd : Rd (.line 0) (sumT 20) (.er 34 ((sumT 20).drop 39)) := rdF_Rd 4000 _ _ _ (by exact trivial) (by decide +kernel)
theorem sgn_rd : Rd (.line 0) (sgnT 20 ++ [vTk]) (.er 34 (sgnT 20 ++ [vTk])) := rdF_Rd 4000 _ _ _ (by exact trivial) (by decide +kernel)
theorem brk_rd : Rd (.line 0) (opnT 60 ++ [vTk] ++ clsT 60) (.ok (.leaf 4 0 0) []) := rdF_Rd 4000 _ _ _ (by exact trivial) (by decide +kernel)
theorem many_chk : chkF (List.replicate 201 ⟨0, [], 0⟩) = 4 := by decide +kernel
theorem empty_chk : chkF [⟨0, [], 0⟩] = 8 := by decide +kernel
theorem far_chk : chkF [⟨2, [118], 401⟩] = 8 := by decide +kernel
theorem v_chk : chkF [vTk] = 0 := by decide +kernel
theorem end_rd : Rd (.line 0) [] (.er 12 []) := rdF_Rd 4000 _ _ _ (by exact trivial) (by decide +kernel)
end Go.Proofs.YtoobggcopoljcaaDoor
