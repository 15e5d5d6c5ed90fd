/- Windows, sources and queries in plain mathematics: no program is imported. -/
import Derived.Test.YtaijhkfbfkdepaaNPart
namespace Go.Proofs.Ytaijhkfbfkdepaa.Q8
open N4
set_option linter.unusedVariables false
set_option linter.unusedSimpArgs false

def inB (v a b : Int) : Bool := decide (a ≤ v) && decide (v ≤ b)
def badE (b : Bool) : Int := if b then 0 else 8
def slidesF (s e : Int) : Bool := inB e 1 s && decide (s ≤ 16 * e)
def fitsW (k s e : Int) : Bool := inB s 1 1073741824 && (if k = 2 then slidesF s e else (decide (k = 1) || decide (k = 3)) && decide (e = 0))
def winE (k s e : Int) : Int := badE (fitsW k s e)
def nl (x : Int) : Bool := !inB x 0 3
def srcF (l : List Int) (j : Bool) : Int :=
  if 4 < l.length then 4 else if l.length = 0 then 8 else if j = true ∧ l.length ≠ 2 then 8 else if l.any nl = true then 8 else if l.Nodup then 0 else 43
structure Qy where
  g : Int
  L : List Nd
  l : List Int
  j : Bool
  M : List Nd
  k : Int
  s : Int
  v : Int
  y : Bool
  t : Int
def argE (g : Int) (L : List Nd) : Int := if g = 1 then badE (decide (L.length = 0)) else checkF L
def whrE (M : List Nd) : Int := if M.length = 0 then 0 else checkF M
def chkL (q : Qy) : List Int := [badE (inB q.g 1 4 && inB q.t 1 2), argE q.g q.L, whrE q.M, srcF q.l q.j, winE q.k q.s q.v, badE (!q.j || decide (q.k = 1))]
def chkF (q : Qy) : Int := firstE (chkL q)
def alikeF (L M : List Nd) : Bool := decide (L.map unp = M.map unp)
def sameQ (p q : Qy) : Bool := decide (p.g = q.g) && (alikeF p.L q.L && (decide (p.l = q.l) && ((p.j == q.j) && (alikeF p.M q.M && ((decide (p.k = q.k) && decide (p.s = q.s) && decide (p.v = q.v)) && ((p.y == q.y) && decide (p.t = q.t)))))))
def sameQE (p q : Qy) : Int := firstE [chkF p, chkF q]

theorem inB_true {v a b : Int} : inB v a b = true ↔ a ≤ v ∧ v ≤ b := by simp [inB]
theorem badE_vals (b : Bool) : badE b = 0 ∨ badE b = 8 := by cases b <;> simp [badE]
theorem badE_zero {b : Bool} : badE b = 0 ↔ b = true := by cases b <;> simp [badE]
theorem firstE_zero : ∀ {l : List Int}, firstE l = 0 ↔ ∀ v ∈ l, v = 0 := by
  intro l
  induction l with
  | nil => simp [firstE]
  | cons v r ih =>
    unfold firstE
    by_cases h : v = 0
    · rw [if_pos h, ih]; simp [h]
    · rw [if_neg h]; simp [h]
theorem chk_zero (q : Qy) : chkF q = 0 ↔ (inB q.g 1 4 = true ∧ inB q.t 1 2 = true) ∧ argE q.g q.L = 0 ∧ whrE q.M = 0 ∧ srcF q.l q.j = 0 ∧ fitsW q.k q.s q.v = true ∧ (q.j = true → q.k = 1) := by
  unfold chkF
  rw [firstE_zero]
  simp only [chkL, List.mem_cons, List.not_mem_nil, or_false, forall_eq_or_imp, forall_eq, winE, badE_zero, Bool.and_eq_true]
  have : ((!q.j || decide (q.k = 1)) = true) ↔ (q.j = true → q.k = 1) := by cases q.j <;> simp
  rw [this]
theorem srcF_vals (l : List Int) (j : Bool) : srcF l j = 0 ∨ srcF l j = 4 ∨ srcF l j = 8 ∨ srcF l j = 43 := by
  unfold srcF; split <;> (try split) <;> (try split) <;> (try split) <;> (try split) <;> simp
theorem srcF_zero {l : List Int} {j : Bool} : srcF l j = 0 ↔ l.length ≤ 4 ∧ l.length ≠ 0 ∧ (j = true → l.length = 2) ∧ l.any nl = false ∧ l.Nodup := by
  unfold srcF
  by_cases h1 : 4 < l.length
  · rw [if_pos h1]; simp; intro h; omega
  rw [if_neg h1]
  by_cases h2 : l.length = 0
  · rw [if_pos h2]; simp [h2]
  rw [if_neg h2]
  by_cases h3 : j = true ∧ l.length ≠ 2
  · rw [if_pos h3]; simp [h3.1, h3.2]
  rw [if_neg h3]
  cases h4 : l.any nl with
  | true => simp
  | false =>
    by_cases h5 : l.Nodup
    · simp only [Bool.false_eq_true, if_false, if_pos h5, true_iff]
      exact ⟨by omega, h2, fun hj => Decidable.byContradiction fun hn => h3 ⟨hj, hn⟩, trivial, h5⟩
    · simp [h5]
theorem alike_nil {L M : List Nd} (h : L.length = 0 ∨ M.length = 0) : alikeF L M = decide (L.length = M.length) := by
  unfold alikeF
  rcases h with h | h
  · obtain rfl := List.eq_nil_of_length_eq_zero h
    cases M <;> simp
  · obtain rfl := List.eq_nil_of_length_eq_zero h
    cases L <;> simp
theorem nodup_snoc {l : List Int} {k : Nat} (hk : k < l.length) : (l.take (k + 1)).Nodup ↔ (l.take k).Nodup ∧ l[k] ∉ l.take k := by
  rw [List.take_succ_eq_append_getElem hk, List.nodup_append]
  constructor
  · rintro ⟨h1, _, h2⟩
    exact ⟨h1, fun hm => h2 _ hm _ (List.mem_singleton.2 rfl) rfl⟩
  · rintro ⟨h1, h2⟩
    refine ⟨h1, by simp, fun a ha b hb e => ?_⟩
    rw [List.mem_singleton.1 hb] at e
    exact h2 (e ▸ ha)
theorem nodup_take {l : List Int} (h : l.Nodup) (k : Nat) : (l.take k).Nodup := h.sublist (List.take_sublist _ _)
theorem any_snoc {l : List Int} {k : Nat} (hk : k < l.length) : (l.take (k + 1)).any nl = ((l.take k).any nl || nl l[k]) := by
  rw [List.take_succ_eq_append_getElem hk, List.any_append]; simp
end Go.Proofs.Ytaijhkfbfkdepaa.Q8
