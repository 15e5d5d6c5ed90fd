/- Each token of what is parsed is that of one node, or a bracket. -/
import Derived.Test.YtoobggcopoljcaaDoorEBack
namespace Go.Proofs.YtoobggcopoljcaaDoor
open Go.RowKit N4
set_option linter.unusedVariables false
set_option maxRecDepth 100000

def isBr (x : Tok) : Bool := decide (x.s = [40]) || decide (x.s = [41])
/-- How deep in brackets, behind some tokens. -/
def dep : Int → List Tok → Option Int
  | o, [] => some o
  | o, x :: c => if isBr x = true then (if (if x.s = [40] then o + 1 else o - 1) < 0 then none else dep (if x.s = [40] then o + 1 else o - 1) c) else dep o c
theorem dep_app (c d : List Tok) : ∀ o, dep o (c ++ d) = (dep o c).bind fun o' => dep o' d := by
  induction c with
  | nil => intro o; rfl
  | cons x c ih =>
    intro o
    rw [List.cons_append, dep, dep]
    by_cases h : isBr x = true
    · rw [if_pos h, if_pos h]
      by_cases h2 : (if x.s = [40] then o + 1 else o - 1) < 0
      · rw [if_pos h2, if_pos h2]; rfl
      · rw [if_neg h2, if_neg h2]; exact ih _
    · rw [if_neg h, if_neg h]; exact ih _
def Bal (c : List Tok) : Prop := ∀ o, 0 ≤ o → dep o c = some o
theorem Bal.nil : Bal [] := fun o _ => rfl
theorem Bal.app {c d : List Tok} (h : Bal c) (g : Bal d) : Bal (c ++ d) := fun o ho => by rw [dep_app, h o ho]; exact g o ho
theorem Bal.one {x : Tok} (h : isBr x = false) : Bal [x] := fun o _ => by rw [dep, if_neg (by rw [h]; decide)]; rfl
theorem Bal.cons {x : Tok} {c : List Tok} (h : isBr x = false) (g : Bal c) : Bal (x :: c) := (Bal.one h).app g
theorem Bal.brackets {x y : Tok} {c : List Tok} (hx : x.s = [40]) (hy : y.s = [41]) (h : Bal c) : Bal (x :: (c ++ [y])) := by
  intro o ho
  have h1 : isBr x = true := by simp [isBr, hx]
  have h2 : isBr y = true := by simp [isBr, hy]
  rw [dep, if_pos h1, if_pos hx, if_neg (by omega), dep_app, h (o + 1) (by omega)]
  show dep (o + 1) [y] = some o
  have h3 : ¬ y.s = [40] := by rw [hy]; decide
  rw [dep, if_pos h2, if_neg h3, if_neg (by omega)]
  show some (o + 1 - 1) = some o
  congr 1; omega
/-- How many tokens that are no brackets have an At; how many there are. -/
def nb (v : Int) : List Tok → Nat
  | [] => 0
  | x :: c => (if isBr x = false ∧ x.a = v then 1 else 0) + nb v c
def nbs : List Tok → Nat
  | [] => 0
  | x :: c => (if isBr x = false then 1 else 0) + nbs c
theorem nb_app (v : Int) (c d : List Tok) : nb v (c ++ d) = nb v c + nb v d := by
  induction c with
  | nil => simp [nb]
  | cons x c ih => rw [List.cons_append, nb, nb, ih]; omega
theorem nbs_app (c d : List Tok) : nbs (c ++ d) = nbs c + nbs d := by
  induction c with
  | nil => simp [nbs]
  | cons x c ih => rw [List.cons_append, nbs, nbs, ih]; omega
def pc (v : Int) : Tr → Nat
  | .leaf _ _ p => if p = v then 1 else 0
  | .un _ p a => (if p = v then 1 else 0) + pc v a
  | .bin _ p a b => (if p = v then 1 else 0) + pc v a + pc v b
def pl (v : Int) : List Nd → Nat
  | [] => 0
  | x :: l => (if x.p = v then 1 else 0) + pl v l
theorem pl_app (v : Int) (l m : List Nd) : pl v (l ++ m) = pl v l + pl v m := by
  induction l with
  | nil => simp [pl]
  | cons x c ih => rw [List.cons_append, pl, pl, ih]; omega
theorem pl_shift (v d : Int) (l : List Nd) : pl v (l.map (shift d)) = pl v l := by
  induction l with
  | nil => rfl
  | cons x c ih => rw [List.map_cons, pl, pl, ih]; rfl
theorem pl_flat (v : Int) (t : Tr) : pl v t.flat = pc v t := by
  induction t with
  | leaf k n p => simp [Tr.flat, made0, pl, pc]
  | un k p a ih => show pl v (made1 k 0 p a.flat) = _; unfold made1; rw [pl_app, pl_shift, ih]; simp only [pl, pc]; omega
  | bin k p a b iha ihb => show pl v (made2 k 0 p a.flat b.flat) = _; unfold made2; rw [pl_app, pl_app, pl_shift, pl_shift, iha, ihb]; simp only [pl, pc]; omega

theorem nobr {x : Tok} (h1 : x.s ≠ [40]) (h2 : x.s ≠ [41]) : isBr x = false := by simp [isBr, h1, h2]
theorem op_nobr {k : Int} (hk : 7 ≤ k ∧ k ≤ 19) : opB k ≠ [40] ∧ opB k ≠ [41] := by
  have key : ∀ m : Fin 13, opB (7 + (m.val : Int)) ≠ [40] ∧ opB (7 + (m.val : Int)) ≠ [41] := by decide
  have := key ⟨(k - 7).toNat, by omega⟩
  simp only [show 7 + (((k - 7).toNat : Nat) : Int) = k by omega] at this
  exact this
theorem sgn_nobr (n : Nat) : sgnB n ≠ [40] ∧ sgnB n ≠ [41] := by unfold sgnB; split <;> decide
theorem leaf_nobr {s : List UInt8} {km : Int × Int} (h : leafOf s = some km) : s ≠ [40] ∧ s ≠ [41] := by
  constructor
  · intro e; rw [leaf_br e] at h; cases h
  · intro e; subst e; rw [show leafOf [41] = none by decide] at h; cases h

def Cnt (c : List Tok) (b : Int → Nat) (z : Nat) (t : Tr) : Prop := Bal c ∧ (∀ v, nb v c + b v = pc v t) ∧ nbs c + z = t.sz
def Md.pb : Md → Int → Nat
  | .line _, _ => 0
  | .chain _ t, v => pc v t
def Md.zb : Md → Nat
  | .line _ => 0
  | .chain _ t => t.sz
theorem wrap_cnt {k : Int} {s : List Tok} : ∀ {c : List Tok} {u t : Tr} {q : List Tok}, (∀ x ∈ c, isBr x = false) → wrapR k s c (.ok u q) = .ok t q → Bal c ∧ (∀ v, nb v c + pc v u = pc v t) ∧ nbs c + u.sz = t.sz := by
  intro c
  induction c with
  | nil => intro u t q _ hw; injection hw with h1 _; subst h1; exact ⟨Bal.nil, fun v => by simp [nb], by simp [nbs]⟩
  | cons x c ih =>
    intro u t q hc hw
    rw [wrapR] at hw
    cases hr : wrapR k s c (.ok u q) with
    | er e q' => rw [hr] at hw; simp at hw
    | ok u' q' =>
      rw [hr] at hw
      simp only at hw
      have hx := hc x List.mem_cons_self
      split at hw
      · injection hw with h1 h2
        subst h1 h2
        obtain ⟨g1, g2, g3⟩ := ih (fun y hy => hc y (List.mem_cons_of_mem _ hy)) hr
        refine ⟨Bal.cons hx g1, fun v => ?_, ?_⟩
        · have := g2 v
          simp only [nb, pc, hx, true_and]
          omega
        · simp only [nbs, Tr.sz, hx, if_true]
          omega
      · simp at hw
theorem Rd.cnt {m : Md} {s : List Tok} {r : R} (h : Rd m s r) : ∀ {t q}, r = .ok t q → ∃ c, s = c ++ q ∧ Cnt c m.pb m.zb t := by
  induction h with
  | first_er _ _ ih => intro t q h; simp at h
  | first_ok _ _ _ ih1 ih2 =>
    intro t q h
    obtain ⟨c1, rfl, a1, a2, a3⟩ := ih1 rfl
    obtain ⟨c2, rfl, b1, b2, b3⟩ := ih2 h
    refine ⟨c1 ++ c2, by rw [List.append_assoc], a1.app b1, fun v => ?_, ?_⟩
    · have h1 := a2 v; have h2 := b2 v; simp only [Md.pb] at *; rw [nb_app]; omega
    · simp only [Md.zb] at *; rw [nbs_app]; omega
  | stop _ _ =>
    intro t q h; injection h with h1 h2; subst h1 h2
    exact ⟨[], rfl, Bal.nil, fun v => by simp [nb, Md.pb], by simp [nbs, Md.zb]⟩
  | next_er _ _ _ ih => intro t q h; simp at h
  | next_node _ _ _ _ _ => intro t q h; simp at h
  | @next_ok n t k x s u q r hc h3 ho h1 he h2 ih1 ih2 =>
    intro t' q' h
    have hr := op_range ho
    have h7 := lo7 n
    have hno := op_nobr (k := k) ⟨by omega, by omega⟩
    have hx := nobr (x := x) (by rw [hr.2.2]; exact hno.1) (by rw [hr.2.2]; exact hno.2)
    obtain ⟨c1, rfl, a1, a2, a3⟩ := ih1 rfl
    obtain ⟨c2, rfl, b1, b2, b3⟩ := ih2 h
    refine ⟨x :: (c1 ++ c2), by simp, Bal.cons hx (a1.app b1), fun v => ?_, ?_⟩
    · have g1 := a2 v; have g2 := b2 v; simp only [Md.pb, pc] at *; simp only [nb, nb_app, hx, true_and]; omega
    · simp only [Md.zb, Tr.sz] at *; simp only [nbs, nbs_app, hx, if_true]; omega
  | @next_one t k x s u q ho h1 he ih =>
    intro t' q' h
    have hr := op_range ho
    have h7 := lo7 3
    have hno := op_nobr (k := k) ⟨by omega, by omega⟩
    have hx := nobr (x := x) (by rw [hr.2.2]; exact hno.1) (by rw [hr.2.2]; exact hno.2)
    injection h with h1 h2; subst h1 h2
    obtain ⟨c1, rfl, a1, a2, a3⟩ := ih rfl
    refine ⟨x :: c1, by simp, Bal.cons hx a1, fun v => ?_, ?_⟩
    · have g1 := a2 v; simp only [Md.pb, pc] at *; simp only [nb, hx, true_and]; omega
    · simp only [Md.zb, Tr.sz] at *; simp only [nbs, hx, if_true]; omega
  | @pre n c s r0 hp hc hn h1 ih =>
    intro t q h
    obtain ⟨u, hu⟩ := wrap_ok h
    subst hu
    obtain ⟨c1, rfl, a1, a2, a3⟩ := ih rfl
    have hs := sgn_nobr n
    obtain ⟨b1, b2, b3⟩ := wrap_cnt (fun x hx => nobr (x := x) (by rw [hc x hx]; exact hs.1) (by rw [hc x hx]; exact hs.2)) h
    refine ⟨c ++ c1, by rw [List.append_assoc], b1.app a1, fun v => ?_, ?_⟩
    · have h1 := a2 v; have h2 := b2 v; simp only [Md.pb] at *; rw [nb_app]; omega
    · simp only [Md.zb] at *; rw [nbs_app]; omega
  | @leaf x s k m hl =>
    intro t q h; injection h with h1 h2; subst h1 h2
    have hno := leaf_nobr hl
    have hx := nobr (x := x) hno.1 hno.2
    exact ⟨[x], rfl, Bal.one hx, fun v => by simp [nb, hx, Md.pb, pc], by simp [nbs, hx, Md.zb, Tr.sz]⟩
  | bad _ _ => intro t q h; simp at h
  | br_er _ _ ih => intro t q h; simp at h
  | br_no _ _ _ ih => intro t q h; simp at h
  | @br_ok x s t y q h4 h1 h5 ih =>
    intro t' q' h; injection h with h1 h2; subst h1 h2
    obtain ⟨c1, rfl, a1, a2, a3⟩ := ih rfl
    have hx : isBr x = true := by simp [isBr, h4]
    have hy : isBr y = true := by simp [isBr, h5]
    refine ⟨x :: (c1 ++ [y]), by simp, a1.brackets h4 h5, fun v => ?_, ?_⟩
    · have g1 := a2 v; simp only [Md.pb] at *; simp [nb, nb_app, hx, hy]; omega
    · simp only [Md.zb] at *; simp [nbs, nbs_app, hx, hy]; omega
/-- The kind of a bracket. -/
theorem br_kind {k : Int} {s : List UInt8} (h : checkE k s = 0) (hs : s = [40] ∨ s = [41]) : k = 3 := by
  unfold checkE at h
  by_cases h1 : k = 1
  · rw [if_pos h1] at h; rcases hs with rfl | rfl <;> exact absurd h (by decide)
  · rw [if_neg h1] at h
    by_cases h2 : k = 2
    · rw [if_pos h2] at h; rcases hs with rfl | rfl <;> exact absurd h (by decide)
    · rw [if_neg h2] at h
      by_cases h3 : k = 3
      · exact h3
      · rw [if_neg h3] at h; omega
theorem nb_snoc (v : Int) (c : List Tok) (x : Tok) : nb v (c ++ [x]) = nb v c + if isBr x = false ∧ x.a = v then 1 else 0 := by rw [nb_app]; simp [nb]
theorem nbs_snoc (c : List Tok) (x : Tok) : nbs (c ++ [x]) = nbs c + if isBr x = false then 1 else 0 := by rw [nbs_app]; simp [nbs]
theorem pl_snoc (v : Int) (l : List Nd) (x : Nd) : pl v (l ++ [x]) = pl v l + if x.p = v then 1 else 0 := by rw [pl_app]; simp [pl]
theorem nbs_le (c : List Tok) : nbs c ≤ c.length := by
  induction c with
  | nil => simp [nbs]
  | cons x c ih => simp only [nbs, List.length_cons]; split <;> omega
theorem nb_le (v : Int) (c : List Tok) : nb v c ≤ c.length := by
  induction c with
  | nil => simp [nb]
  | cons x c ih => simp only [nb, List.length_cons]; split <;> omega
theorem dep_le (c : List Tok) : ∀ o o', dep o c = some o' → o' ≤ o + c.length := by
  induction c with
  | nil => intro o o' h; injection h with h; subst h; simp
  | cons x c ih =>
    intro o o' h
    rw [dep] at h
    by_cases h1 : isBr x = true
    · rw [if_pos h1] at h
      by_cases h2 : (if x.s = [40] then o + 1 else o - 1) < 0
      · rw [if_pos h2] at h; cases h
      · rw [if_neg h2] at h
        have := ih _ _ h
        simp only [List.length_cons]
        split at this <;> omega
    · rw [if_neg h1] at h
      have := ih _ _ h; simp only [List.length_cons]; omega
end Go.Proofs.YtoobggcopoljcaaDoor
