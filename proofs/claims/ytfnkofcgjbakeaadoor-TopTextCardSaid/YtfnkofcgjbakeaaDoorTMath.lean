/- The bytes of tokens, and the numbers of an expression in their order: plain mathematics. -/
import Derived.Test.YtfnkofcgjbakeaaDoorEBack
namespace Go.Proofs.YtfnkofcgjbakeaaDoor.T6
open Go.RowKit N4
set_option linter.unusedVariables false
set_option maxRecDepth 100000

theorem check_kinds {k : Int} {s : List UInt8} (h : checkE k s = 0) : (k = 1 ∧ rdErr s = 0 ∧ ∀ c ∈ s, kindB c = 2) ∨ (k = 2 ∧ ∀ c ∈ s, kindB c = 3) ∨ (k = 3 ∧ ∀ c ∈ s, kindB c = 4) := by
  unfold checkE at h
  by_cases h1 : k = 1
  · rw [if_pos h1] at h
    refine .inl ⟨h1, h, ?_⟩
    unfold rdErr at h
    by_cases hd : (allDig s && !s.isEmpty) = true
    · simp only [Bool.and_eq_true, allDig, List.all_eq_true, Bool.not_eq_true', List.isEmpty_eq_false_iff] at hd
      intro c hc
      have := hd.1 c hc
      simp only [isDig, Bool.and_eq_true, decide_eq_true_eq, UInt8.le_iff_toNat_le] at this
      exact kind_digit _ (by have := this.1; simp at this; omega) (by have := this.2; simp at this; omega)
    · rw [if_neg hd] at h; exact absurd h (by decide)
  · rw [if_neg h1] at h
    by_cases h2 : k = 2
    · rw [if_pos h2] at h
      by_cases hw : isWord s = true
      · have hm : s ∈ wordL := by simpa [isWord] using hw
        exact .inr (.inl ⟨h2, (word_facts s hm).2⟩)
      · rw [if_neg hw] at h; exact absurd h (by decide)
    · rw [if_neg h2] at h
      by_cases h3 : k = 3
      · rw [if_pos h3] at h
        by_cases hl : longL s = s.length ∧ s ≠ []
        · obtain ⟨hl, hs⟩ := hl
          have hm : s ∈ symL := by
            have := longL_mem s (by rw [hl]; exact fun e => hs (List.eq_nil_of_length_eq_zero e))
            rwa [hl, List.take_length] at this
          exact .inr (.inr ⟨h3, (sym_facts s hm).2⟩)
        · rw [if_neg hl] at h; exact absurd h (by decide)
      · rw [if_neg h3] at h; omega
/-- A text of digits is not one of letters or of symbols. -/
theorem rd_kind {s : List UInt8} (h : rdErr s = 0) : s ≠ [] ∧ ∀ c ∈ s, kindB c = 2 := by
  have h2 : checkE 1 s = 0 := by unfold checkE; rw [if_pos rfl]; exact h
  refine ⟨(checkE_ok 1 s h2).1, ?_⟩
  rcases check_kinds h2 with ⟨_, _, h⟩ | ⟨h, _⟩ | ⟨h, _⟩
  · exact h
  · cases h
  · cases h
theorem rd_ne {k : Int} {s : List UInt8} (h : checkE k s = 0) (hk : k ≠ 1) : rdErr s ≠ 0 := by
  intro hr
  obtain ⟨hn, h2⟩ := rd_kind hr
  obtain ⟨c, hc⟩ := List.exists_mem_of_ne_nil s hn
  have := h2 c hc
  rcases check_kinds h with ⟨h, _⟩ | ⟨_, h⟩ | ⟨_, h⟩
  · exact hk h
  · rw [h c hc] at this; cases this
  · rw [h c hc] at this; cases this

/-! ### numbers, in order -/
def nmT (x : Tok) : List (Int × Int) := if rdErr x.s = 0 then [((val x.s : Nat), x.a)] else []
def nmsT (c : List Tok) : List (Int × Int) := c.flatMap nmT
def nmN (x : Nd) : List (Int × Int) := if x.k = 1 then [(x.n, x.p)] else []
def nmsN (l : List Nd) : List (Int × Int) := l.flatMap nmN
def nmsR : Tr → List (Int × Int)
  | .leaf k n p => if k = 1 then [(n, p)] else []
  | .un _ _ a => nmsR a
  | .bin _ _ a b => nmsR a ++ nmsR b
theorem nmsT_app (c d : List Tok) : nmsT (c ++ d) = nmsT c ++ nmsT d := by simp [nmsT]
theorem nmsT_cons (x : Tok) (d : List Tok) : nmsT (x :: d) = nmT x ++ nmsT d := rfl
theorem nmsN_app (c d : List Nd) : nmsN (c ++ d) = nmsN c ++ nmsN d := by simp [nmsN]
theorem nmsN_shift (d : Int) (l : List Nd) : nmsN (l.map (shift d)) = nmsN l := by
  induction l with
  | nil => rfl
  | cons x c ih => rw [List.map_cons]; show nmN (shift d x) ++ nmsN (c.map (shift d)) = nmN x ++ nmsN c; rw [ih]; rfl
theorem nms_flat (t : Tr) (h : t.ok = true) : nmsN t.flat = nmsR t := by
  induction t with
  | leaf k n p => simp [Tr.flat, made0, nmsN, nmN, nmsR]
  | un k p a ih =>
    simp only [Tr.ok, Bool.and_eq_true, decide_eq_true_eq] at h
    show nmsN (made1 k 0 p a.flat) = _
    unfold made1
    rw [nmsN_app, nmsN_shift, ih h.2]
    have hk : ¬ k = 1 := by omega
    simp [nmsN, nmN, nmsR, hk]
  | bin k p a b iha ihb =>
    simp only [Tr.ok, Bool.and_eq_true, decide_eq_true_eq] at h
    show nmsN (made2 k 0 p a.flat b.flat) = _
    unfold made2
    rw [nmsN_app, nmsN_app, nmsN_shift, nmsN_shift, iha h.1.2, ihb h.2]
    have hk : ¬ k = 1 := by omega
    simp [nmsN, nmN, nmsR, hk]
theorem op_nord {k : Int} (hk : 7 ≤ k ∧ k ≤ 19) : rdErr (opB k) ≠ 0 := by
  have key : ∀ m : Fin 13, rdErr (opB (7 + (m.val : Int))) ≠ 0 := by decide
  have := key ⟨(k - 7).toNat, by omega⟩
  simp only [show 7 + (((k - 7).toNat : Nat) : Int) = k by omega] at this
  exact this
theorem sgn_nord (n : Nat) : rdErr (sgnB n) ≠ 0 := by unfold sgnB; split <;> decide
theorem nm_no {x : Tok} (h : rdErr x.s ≠ 0) : nmT x = [] := by unfold nmT; rw [if_neg h]
theorem nms_no {c : List Tok} (h : ∀ x ∈ c, rdErr x.s ≠ 0) : nmsT c = [] := by
  induction c with
  | nil => rfl
  | cons x c ih => rw [nmsT_cons, nm_no (h x List.mem_cons_self), ih (fun y hy => h y (List.mem_cons_of_mem _ hy))]; rfl
theorem wrap_nms {k : Int} {s : List Tok} : ∀ {c : List Tok} {u t : Tr} {q : List Tok}, wrapR k s c (.ok u q) = .ok t q → nmsR t = nmsR u := by
  intro c
  induction c with
  | nil => intro u t q hw; injection hw with h1 _; subst h1; rfl
  | cons x c ih =>
    intro u t q hw
    rw [wrapR] at hw
    cases hr : wrapR k s c (.ok u q) with
    | er e q' => rw [hr] at hw; simp at hw
    | ok u' q' =>
      rw [hr] at hw
      simp only at hw
      split at hw
      · injection hw with h1 h2
        subst h1 h2
        exact (ih hr : nmsR u' = nmsR u)
      · simp at hw
theorem leaf_nms {x : Tok} {k m : Int} (h : leafOf x.s = some (k, m)) : nmT x = nmsR (.leaf k m x.a) := by
  unfold leafOf at h
  unfold nmT
  show _ = if k = 1 then [(m, x.a)] else []
  by_cases h0 : rdErr x.s = 0
  · rw [if_pos h0] at h
    injection h with h
    injection h with h1 h2
    rw [if_pos h0, if_pos h1.symm, h2]
  · rw [if_neg h0] at h
    rw [if_neg h0]
    have hk : ¬ k = 1 := by
      intro e
      subst e
      split at h
      · injection h with h; injection h with h _; exact absurd h (by decide)
      · split at h
        · injection h with h; injection h with h _; exact absurd h (by decide)
        · split at h
          · injection h with h; injection h with h _; exact absurd h (by decide)
          · cases h
    rw [if_neg hk]
def mb : Md → List (Int × Int)
  | .line _ => []
  | .chain _ t => nmsR t
theorem Rd_nms {m : Md} {s : List Tok} {r : R} (h : Rd m s r) : ∀ {t q}, r = .ok t q → ∃ c, s = c ++ q ∧ mb m ++ nmsT c = nmsR t := by
  induction h with
  | first_er _ _ ih => intro t q h; simp at h
  | first_ok _ _ _ ih1 ih2 =>
    intro t q h
    obtain ⟨c1, rfl, a1⟩ := ih1 rfl
    obtain ⟨c2, rfl, b1⟩ := ih2 h
    refine ⟨c1 ++ c2, by rw [List.append_assoc], ?_⟩
    rw [nmsT_app, ← b1]
    simp only [mb, List.nil_append] at *
    rw [a1]
  | stop _ _ =>
    intro t q h; injection h with h1 h2; subst h1 h2
    exact ⟨[], rfl, by simp [nmsT, mb]⟩
  | next_er _ _ _ ih => intro t q h; simp at h
  | next_node _ _ _ _ _ => intro t q h; simp at h
  | @next_ok n t k x s u q r hc h3 ho h1 he h2 ih1 ih2 =>
    intro t' q' h
    have hr := op_range ho
    have h7 := lo7 n
    have hx := nm_no (x := x) (by rw [hr.2.2]; exact op_nord ⟨by omega, by omega⟩)
    obtain ⟨c1, rfl, a1⟩ := ih1 rfl
    obtain ⟨c2, rfl, b1⟩ := ih2 h
    refine ⟨x :: (c1 ++ c2), by simp, ?_⟩
    simp only [mb, nmsR, List.nil_append] at *
    rw [nmsT_cons, hx, List.nil_append, nmsT_app, ← b1, a1, List.append_assoc]
  | @next_one t k x s u q ho h1 he ih =>
    intro t' q' h
    have hr := op_range ho
    have h7 := lo7 3
    have hx := nm_no (x := x) (by rw [hr.2.2]; exact op_nord ⟨by omega, by omega⟩)
    injection h with h1 h2; subst h1 h2
    obtain ⟨c1, rfl, a1⟩ := ih rfl
    refine ⟨x :: c1, by simp, ?_⟩
    simp only [mb, nmsR, List.nil_append] at *
    rw [nmsT_cons, hx, List.nil_append, a1]
  | @pre n c s r0 hp hc hn h1 ih =>
    intro t q h
    obtain ⟨u, hu⟩ := wrap_ok h
    subst hu
    obtain ⟨c1, rfl, a1⟩ := ih rfl
    refine ⟨c ++ c1, by rw [List.append_assoc], ?_⟩
    rw [nmsT_app, nms_no (fun x hx => by rw [hc x hx]; exact sgn_nord n), wrap_nms h]
    simp only [mb, List.nil_append] at *
    exact a1
  | @leaf x s k m hl =>
    intro t q h; injection h with h1 h2; subst h1 h2
    refine ⟨[x], rfl, ?_⟩
    rw [nmsT_cons, leaf_nms hl]
    simp [mb, nmsT]
  | bad _ _ => intro t q h; simp at h
  | br_er _ _ ih => intro t q h; simp at h
  | br_no _ _ _ ih => intro t q h; simp at h
  | @br_ok x s t y q h4 h1 h5 ih =>
    intro t' q' h; injection h with h1 h2; subst h1 h2
    obtain ⟨c1, rfl, a1⟩ := ih rfl
    have hx := nm_no (x := x) (by rw [h4]; decide)
    have hy := nm_no (x := y) (by rw [h5]; decide)
    refine ⟨x :: (c1 ++ [y]), by simp, ?_⟩
    rw [nmsT_cons, hx, nmsT_app, nmsT_cons, hy]
    simp only [mb, List.nil_append] at *
    simpa [nmsT] using a1
end Go.Proofs.YtfnkofcgjbakeaaDoor.T6
