
/- How tokens are parsed: the grammar as a relation, and a function beside it. -/
import Derived.Test.YtfnkofcgjbakeaaDoorEMath
namespace Go.Proofs.YtfnkofcgjbakeaaDoor
open Go.RowKit N4
set_option linter.unusedVariables false
set_option maxRecDepth 100000

def opT : List (List UInt8) := [[42], [43], [45], [60, 60], [62, 62], [60], [60, 61], [62], [62, 61], [61], [33, 61], [97, 110, 100], [111, 114]]
def opB (k : Int) : List UInt8 := (opT[(k - 7).toNat]?).getD []
def opFrom : Nat → Int → List UInt8 → Option Int
  | 0, _, _ => none
  | f + 1, k, s => if s = opB k then some k else opFrom f (k + 1) s
def opOf (lo hi : Int) (s : List UInt8) : Option Int := opFrom (hi + 1 - lo).toNat lo s
def loK (n : Nat) : Int := if n = 0 then 19 else if n = 1 then 18 else if n = 3 then 12 else if n = 4 then 10 else if n = 5 then 8 else 7
def hiK (n : Nat) : Int := if n = 0 then 19 else if n = 1 then 18 else if n = 3 then 17 else if n = 4 then 11 else if n = 5 then 9 else 7
def sgnB (n : Nat) : List UInt8 := if n = 2 then [110, 111, 116] else [45]
def sgnK (n : Nat) : Int := if n = 2 then 6 else 5
def isCh (n : Nat) : Prop := n = 0 ∨ n = 1 ∨ n = 3 ∨ n = 4 ∨ n = 5 ∨ n = 6
instance (n : Nat) : Decidable (isCh n) := by unfold isCh; infer_instance
def isPr (n : Nat) : Prop := n = 2 ∨ n = 7
instance (n : Nat) : Decidable (isPr n) := by unfold isPr; infer_instance
def leafOf (s : List UInt8) : Option (Int × Int) :=
  if rdErr s = 0 then some (1, (val s : Nat)) else if s = [107] then some (2, 0) else if s = [116] then some (3, 0) else if s = [118] then some (4, 0) else none
def txt : List Tok → List UInt8
  | [] => []
  | x :: _ => x.s

inductive R where
  | ok (t : Tr) (s : List Tok) : R
  | er (e : Int) (s : List Tok) : R
deriving DecidableEq
def R.rest : R → List Tok
  | .ok _ s => s
  | .er _ s => s
inductive Md where
  | line (n : Nat) : Md
  | chain (n : Nat) (t : Tr) : Md

/-- Signs in front of a part: the innermost node first. -/
def wrapR (k : Int) (s : List Tok) : List Tok → R → R
  | [], r => r
  | x :: c, r => match wrapR k s c r with
    | .ok t q => if (Tr.un k x.a t).er = 0 then .ok (.un k x.a t) q else .er (Tr.un k x.a t).er (x :: c ++ s)
    | .er e q => .er e q

inductive Rd : Md → List Tok → R → Prop
  | first_er {n s e q} : isCh n → Rd (.line (n + 1)) s (.er e q) → Rd (.line n) s (.er e q)
  | first_ok {n s t q r} : isCh n → Rd (.line (n + 1)) s (.ok t q) → Rd (.chain n t) q r → Rd (.line n) s r
  | stop {n t s} : isCh n → opOf (loK n) (hiK n) (txt s) = none → Rd (.chain n t) s (.ok t s)
  | next_er {n t k x s e q} : isCh n → opOf (loK n) (hiK n) x.s = some k → Rd (.line (n + 1)) s (.er e q) → Rd (.chain n t) (x :: s) (.er e q)
  | next_node {n t k x s u q} : isCh n → opOf (loK n) (hiK n) x.s = some k → Rd (.line (n + 1)) s (.ok u q) → (Tr.bin k x.a t u).er ≠ 0 → Rd (.chain n t) (x :: s) (.er (Tr.bin k x.a t u).er (x :: s))
  | next_ok {n t k x s u q r} : isCh n → n ≠ 3 → opOf (loK n) (hiK n) x.s = some k → Rd (.line (n + 1)) s (.ok u q) → (Tr.bin k x.a t u).er = 0 → Rd (.chain n (.bin k x.a t u)) q r → Rd (.chain n t) (x :: s) r
  | next_one {t k x s u q} : opOf (loK 3) (hiK 3) x.s = some k → Rd (.line 4) s (.ok u q) → (Tr.bin k x.a t u).er = 0 → Rd (.chain 3 t) (x :: s) (.ok (.bin k x.a t u) q)
  | pre {n c s r0} : isPr n → (∀ x ∈ c, x.s = sgnB n) → txt s ≠ sgnB n → Rd (.line (n + 1)) s r0 → Rd (.line n) (c ++ s) (wrapR (sgnK n) s c r0)
  | leaf {x s k m} : leafOf x.s = some (k, m) → Rd (.line 8) (x :: s) (.ok (.leaf k m x.a) s)
  | bad {s} : txt s ≠ [40] → leafOf (txt s) = none → Rd (.line 8) s (.er 12 s)
  | br_er {x s e q} : x.s = [40] → Rd (.line 0) s (.er e q) → Rd (.line 8) (x :: s) (.er e q)
  | br_no {x s t q} : x.s = [40] → Rd (.line 0) s (.ok t q) → txt q ≠ [41] → Rd (.line 8) (x :: s) (.er 12 q)
  | br_ok {x s t y q} : x.s = [40] → Rd (.line 0) s (.ok t (y :: q)) → y.s = [41] → Rd (.line 8) (x :: s) (.ok t q)

/-! ### the function -/
def rdF : Nat → Md → List Tok → Option R
  | 0, _, _ => none
  | f + 1, .line n, s =>
    if n = 8 then
      match s with
      | [] => some (.er 12 [])
      | x :: q => match leafOf x.s with
        | some (k, m) => some (.ok (.leaf k m x.a) q)
        | none => if x.s = [40] then
            match rdF f (.line 0) q with
            | some (.ok t []) => some (.er 12 [])
            | some (.ok t (y :: q')) => if y.s = [41] then some (.ok t q') else some (.er 12 (y :: q'))
            | some (.er e q') => some (.er e q')
            | none => none
          else some (.er 12 (x :: q))
    else if isPr n then
      match rdF f (.line (n + 1)) (s.dropWhile (fun x => x.s == sgnB n)) with
      | some r => some (wrapR (sgnK n) (s.dropWhile (fun x => x.s == sgnB n)) (s.takeWhile (fun x => x.s == sgnB n)) r)
      | none => none
    else if isCh n then
      match rdF f (.line (n + 1)) s with
      | some (.ok t q) => rdF f (.chain n t) q
      | some (.er e q) => some (.er e q)
      | none => none
    else none
  | f + 1, .chain n t, s =>
    match s with
    | [] => some (.ok t [])
    | x :: q => match opOf (loK n) (hiK n) x.s with
      | none => some (.ok t (x :: q))
      | some k => match rdF f (.line (n + 1)) q with
        | none => none
        | some (.er e q') => some (.er e q')
        | some (.ok u q') => if (Tr.bin k x.a t u).er = 0 then (if n = 3 then some (.ok (.bin k x.a t u) q') else rdF f (.chain n (.bin k x.a t u)) q') else some (.er (Tr.bin k x.a t u).er (x :: q))

theorem op_nil (n : Nat) : opOf (loK n) (hiK n) [] = none := by
  unfold loK hiK
  repeat' split
  all_goals decide
theorem tw_mem {α : Type} (p : α → Bool) (s : List α) : ∀ x ∈ s.takeWhile p, p x = true := by
  induction s with
  | nil => intro x hx; simp at hx
  | cons y s ih =>
    intro x hx
    rw [List.takeWhile_cons] at hx
    split at hx
    · rcases List.mem_cons.1 hx with rfl | hx
      · assumption
      · exact ih x hx
    · simp at hx
theorem dw_txt (b : List UInt8) (hb : b ≠ []) (s : List Tok) : txt (s.dropWhile (fun x => x.s == b)) ≠ b := by
  induction s with
  | nil => exact fun h => hb h.symm
  | cons y s ih =>
    rw [List.dropWhile_cons]
    split
    · exact ih
    · rename_i h
      intro h2
      exact h (by simpa [txt] using h2)
theorem sgn_ne (n : Nat) : sgnB n ≠ [] := by unfold sgnB; split <;> simp
theorem leaf_nil : leafOf [] = none := by decide
theorem leaf_br {s : List UInt8} (h : s = [40]) : leafOf s = none := by subst h; decide

def Md.ch : Md → Prop
  | .line _ => True
  | .chain n _ => isCh n
theorem rdF_Rd (f : Nat) : ∀ (m : Md) (s : List Tok) (r : R), m.ch → rdF f m s = some r → Rd m s r := by
  induction f with
  | zero => intro m s r _ h; simp [rdF] at h
  | succ f ih =>
    intro m s r hm h
    cases m with
    | line n =>
      rw [rdF.eq_def] at h
      simp only at h
      by_cases h8 : n = 8
      · subst h8
        rw [if_pos rfl] at h
        cases s with
        | nil => simp only [Option.some.injEq] at h; subst h; exact .bad (by simp [txt]) leaf_nil
        | cons x q =>
          cases hl : leafOf x.s with
          | some km =>
            obtain ⟨k, mm⟩ := km
            simp only [hl, Option.some.injEq] at h; subst h
            exact .leaf hl
          | none =>
            simp only [hl] at h
            by_cases h4 : x.s = [40]
            · rw [if_pos h4] at h
              cases hr : rdF f (.line 0) q with
              | none => rw [hr] at h; simp at h
              | some r0 =>
                have hR := ih _ _ _ (by exact trivial) hr
                rw [hr] at h
                cases r0 with
                | er e q' => simp only [Option.some.injEq] at h; subst h; exact .br_er h4 hR
                | ok t q' =>
                  cases q' with
                  | nil => simp only [Option.some.injEq] at h; subst h; exact .br_no h4 hR (by simp [txt])
                  | cons y q' =>
                    simp only at h
                    by_cases h5 : y.s = [41]
                    · rw [if_pos h5] at h; simp only [Option.some.injEq] at h; subst h; exact .br_ok h4 hR h5
                    · rw [if_neg h5] at h; simp only [Option.some.injEq] at h; subst h; exact .br_no h4 hR h5
            · rw [if_neg h4] at h; simp only [Option.some.injEq] at h; subst h
              exact .bad h4 hl
      · rw [if_neg h8] at h
        by_cases hp : isPr n
        · rw [if_pos hp] at h
          cases hr : rdF f (.line (n + 1)) (s.dropWhile (fun x => x.s == sgnB n)) with
          | none => rw [hr] at h; simp at h
          | some r0 =>
            rw [hr] at h
            simp only [Option.some.injEq] at h; subst h
            have hR := ih _ _ _ (by exact trivial) hr
            have := Rd.pre hp (c := s.takeWhile (fun x => x.s == sgnB n)) (fun x hx => by simpa using tw_mem _ _ x hx) (dw_txt _ (sgn_ne n) s) hR
            rwa [List.takeWhile_append_dropWhile] at this
        · rw [if_neg hp] at h
          by_cases hc : isCh n
          · rw [if_pos hc] at h
            cases hr : rdF f (.line (n + 1)) s with
            | none => rw [hr] at h; simp at h
            | some r0 =>
              have hR := ih _ _ _ (by exact trivial) hr
              rw [hr] at h
              cases r0 with
              | er e q' => simp only [Option.some.injEq] at h; subst h; exact .first_er hc hR
              | ok t q' => exact .first_ok hc hR (ih _ _ _ hc h)
          · rw [if_neg hc] at h; simp at h
    | chain n t =>
      have hc : isCh n := hm
      rw [rdF.eq_def] at h
      simp only at h
      cases s with
      | nil => simp only [Option.some.injEq] at h; subst h; exact .stop hc (op_nil n)
      | cons x q =>
        simp only at h
        cases ho : opOf (loK n) (hiK n) x.s with
        | none => rw [ho] at h; simp only [Option.some.injEq] at h; subst h; exact .stop hc ho
        | some k =>
          rw [ho] at h
          simp only at h
          cases hr : rdF f (.line (n + 1)) q with
          | none => rw [hr] at h; simp at h
          | some r0 =>
            have hR := ih _ _ _ (by exact trivial) hr
            rw [hr] at h
            cases r0 with
            | er e q' => simp only [Option.some.injEq] at h; subst h; exact .next_er hc ho hR
            | ok u q' =>
              simp only at h
              by_cases he : (Tr.bin k x.a t u).er = 0
              · rw [if_pos he] at h
                by_cases h3 : n = 3
                · rw [if_pos h3] at h; simp only [Option.some.injEq] at h; subst h; subst h3; exact .next_one ho hR he
                · rw [if_neg h3] at h; exact .next_ok hc h3 ho hR he (ih _ _ _ hc h)
              · rw [if_neg he] at h; simp only [Option.some.injEq] at h; subst h; exact .next_node hc ho hR he

/-! ### what is left is an end of it -/
theorem wrap_rest (k : Int) (s : List Tok) : ∀ (c : List Tok) (r : R), r.rest <:+ s → (wrapR k s c r).rest <:+ c ++ s := by
  intro c
  induction c with
  | nil => intro r h; exact h
  | cons x c ih =>
    intro r h
    have := ih r h
    rw [wrapR]
    cases hw : wrapR k s c r with
    | er e q => rw [hw] at this; exact this.trans (List.suffix_cons x _)
    | ok t q =>
      rw [hw] at this
      simp only
      split
      · exact this.trans (List.suffix_cons x _)
      · exact List.suffix_refl _
theorem Rd.suf {m : Md} {s : List Tok} {r : R} (h : Rd m s r) : r.rest <:+ s := by
  induction h with
  | first_er _ _ ih => exact ih
  | first_ok _ _ _ ih1 ih2 => exact ih2.trans ih1
  | stop _ _ => exact List.suffix_refl _
  | next_er _ _ _ ih => exact ih.trans (List.suffix_cons _ _)
  | next_node _ _ _ _ _ => exact List.suffix_refl _
  | next_ok _ _ _ _ _ _ ih1 ih2 => exact (ih2.trans ih1).trans (List.suffix_cons _ _)
  | next_one _ _ _ ih => exact ih.trans (List.suffix_cons _ _)
  | pre _ _ _ _ ih => exact wrap_rest _ _ _ _ ih
  | leaf _ => exact List.suffix_cons _ _
  | bad _ _ => exact List.suffix_refl _
  | br_er _ _ ih => exact ih.trans (List.suffix_cons _ _)
  | br_no _ _ _ ih => exact ih.trans (List.suffix_cons _ _)
  | br_ok _ _ _ ih => exact ((List.suffix_cons _ _).trans ih).trans (List.suffix_cons _ _)
theorem wrap_ok {k : Int} {s : List Tok} : ∀ {c : List Tok} {r : R} {t : Tr} {q : List Tok}, wrapR k s c r = .ok t q → ∃ u, r = .ok u q := by
  intro c
  induction c with
  | nil => intro r t q h; exact ⟨t, h⟩
  | cons x c ih =>
    intro r t q h
    rw [wrapR] at h
    cases hw : wrapR k s c r with
    | er e q' => rw [hw] at h; simp at h
    | ok u q' =>
      rw [hw] at h
      simp only at h
      split at h
      · injection h with h1 h2; subst h2; exact ih hw
      · simp at h
theorem Rd.lt {m : Md} {s : List Tok} {r : R} (h : Rd m s r) : ∀ {t q}, r = .ok t q → q.length ≤ s.length ∧ ((∃ n, m = .line n) → q.length < s.length) := by
  have hs := h.suf.length_le
  induction h with
  | first_er _ _ ih => intro t q h; simp at h
  | first_ok _ h1 h2 ih1 ih2 =>
    intro t q h; subst h
    have a := (ih1 h1.suf.length_le rfl).2 ⟨_, rfl⟩
    have b := (ih2 h2.suf.length_le rfl).1
    exact ⟨by omega, fun _ => by omega⟩
  | stop _ _ => intro t q h; injection h with h1 h2; subst h2; exact ⟨Nat.le_refl _, fun ⟨_, h⟩ => by simp at h⟩
  | next_er _ _ _ ih => intro t q h; simp at h
  | next_node _ _ _ _ _ => intro t q h; simp at h
  | next_ok _ _ _ h1 _ h2 ih1 ih2 =>
    intro t q h; subst h
    have a := (ih1 h1.suf.length_le rfl).1
    have b := (ih2 h2.suf.length_le rfl).1
    exact ⟨by simp; omega, fun ⟨_, h⟩ => by simp at h⟩
  | next_one _ h1 _ ih =>
    intro t q h; injection h with _ h; subst h
    have a := (ih h1.suf.length_le rfl).1
    exact ⟨by simp; omega, fun ⟨_, h⟩ => by simp at h⟩
  | pre _ _ _ h1 ih =>
    intro t q h
    obtain ⟨u, rfl⟩ := wrap_ok h
    have a := (ih h1.suf.length_le rfl).2 ⟨_, rfl⟩
    exact ⟨by simp; omega, fun _ => by simp; omega⟩
  | leaf _ => intro t q h; injection h with _ h; subst h; exact ⟨by simp, fun _ => by simp⟩
  | bad _ _ => intro t q h; simp at h
  | br_er _ _ ih => intro t q h; simp at h
  | br_no _ _ _ ih => intro t q h; simp at h
  | br_ok _ h1 _ ih =>
    intro t q h; injection h with _ h; subst h
    have a := (ih h1.suf.length_le rfl).1
    simp at a
    exact ⟨by simp; omega, fun _ => by simp; omega⟩
/-- A number, and an At. -/
def TkOk (x : Tok) : Prop := 0 ≤ x.a ∧ x.a ≤ 400
theorem op_range {n : Nat} {s : List UInt8} {k : Int} (h : opOf (loK n) (hiK n) s = some k) : loK n ≤ k ∧ k ≤ hiK n ∧ s = opB k := by
  have key : ∀ (f : Nat) (a : Int), opFrom f a s = some k → a ≤ k ∧ k < a + f ∧ s = opB k := by
    intro f
    induction f with
    | zero => intro a h; simp [opFrom] at h
    | succ f ih =>
      intro a h
      rw [opFrom] at h
      split at h
      · injection h with h; subst h; rename_i hs; exact ⟨by omega, by omega, hs⟩
      · have := ih _ h; exact ⟨by omega, by omega, this.2.2⟩
  have := key _ _ h
  have hle : loK n ≤ hiK n := by unfold loK hiK; repeat' split
                                 all_goals omega
  exact ⟨this.1, by omega, this.2.2⟩
theorem lo7 (n : Nat) : 7 ≤ loK n ∧ hiK n ≤ 19 := by
  unfold loK hiK
  repeat' split
  all_goals omega
theorem leaf_range {s : List UInt8} {k m : Int} (h : leafOf s = some (k, m)) : 1 ≤ k ∧ k ≤ 4 ∧ 0 ≤ m ∧ (m = 0 ∨ k = 1) ∧ m ≤ 9223372036854775807 := by
  unfold leafOf at h
  split at h
  · rename_i h0
    simp only [Option.some.injEq, Prod.mk.injEq] at h
    obtain ⟨rfl, rfl⟩ := h
    have : val s ≤ 9223372036854775807 := by
      unfold rdErr rdE at h0
      split at h0
      · split at h0
        · assumption
        · omega
      · omega
    exact ⟨by omega, by omega, by omega, .inr rfl, by omega⟩
  · repeat' (split at h)
    all_goals (try simp only [Option.some.injEq, Prod.mk.injEq] at h)
    all_goals (first | (obtain ⟨rfl, rfl⟩ := h; exact ⟨by omega, by omega, by omega, .inl rfl, by omega⟩) | cases h)
theorem fits_leaf {k m p : Int} (h0 : 0 ≤ m) (h : m = 0 ∨ k = 1) (hp : 0 ≤ p ∧ p ≤ 400) : fitsF k m p = true := by
  simp [fitsF, h0, h, hp.1, hp.2]
theorem fits_zero {k p : Int} (hp : 0 ≤ p ∧ p ≤ 400) : fitsF k 0 p = true := fits_leaf (by omega) (.inl rfl) hp
theorem wrap_good {k : Int} (hk : 5 ≤ k ∧ k ≤ 6) {s : List Tok} : ∀ {c : List Tok} {r : R} {t : Tr} {q : List Tok}, (∀ x ∈ c, TkOk x) → (∀ u q, r = .ok u q → u.ok = true ∧ u.er = 0) → wrapR k s c r = .ok t q → t.ok = true ∧ t.er = 0 := by
  intro c
  induction c with
  | nil => intro r t q _ h hw; exact h _ _ hw
  | cons x c ih =>
    intro r t q hc h hw
    rw [wrapR] at hw
    cases hr : wrapR k s c r with
    | er e q' => rw [hr] at hw; simp at hw
    | ok u q' =>
      rw [hr] at hw
      simp only at hw
      have := ih (fun y hy => hc y (List.mem_cons_of_mem _ hy)) h hr
      split at hw
      · injection hw with h1 h2
        subst h1
        rename_i he
        exact ⟨by simp [Tr.ok, hk.1, hk.2, this.1, fits_zero (k := k) (hc x (List.mem_cons_self))], he⟩
      · simp at hw
def Md.good : Md → Prop
  | .line _ => True
  | .chain _ t => t.ok = true ∧ t.er = 0
theorem bin_ok {k p : Int} {t u : Tr} (hk : 7 ≤ k ∧ k ≤ 19) (hp : 0 ≤ p ∧ p ≤ 400) (ht : t.ok = true) (hu : u.ok = true) : (Tr.bin k p t u).ok = true := by
  simp [Tr.ok, hk.1, hk.2, ht, hu, fits_zero (k := k) hp]
theorem sgn_k (n : Nat) : 5 ≤ sgnK n ∧ sgnK n ≤ 6 := by unfold sgnK; split <;> omega
theorem Rd.good {m : Md} {s : List Tok} {r : R} (h : Rd m s r) (hs : ∀ x ∈ s, TkOk x) (hm : m.good) : ∀ {t q}, r = .ok t q → t.ok = true ∧ t.er = 0 := by
  induction h with
  | first_er _ _ ih => intro t q h; simp at h
  | first_ok _ h1 h2 ih1 ih2 =>
    intro t q h
    exact ih2 (fun x hx => hs x (h1.suf.subset hx)) (ih1 hs trivial rfl) h
  | stop _ _ => intro t q h; injection h with h1 h2; subst h1; exact hm
  | next_er _ _ _ ih => intro t q h; simp at h
  | next_node _ _ _ _ _ => intro t q h; simp at h
  | @next_ok n t k x s u q r hc h3 ho h1 he h2 ih1 ih2 =>
    intro t' q' h
    have hs' : ∀ x ∈ s, TkOk x := fun y hy => hs y (List.mem_cons_of_mem _ hy)
    have hr := op_range ho
    have := lo7 n
    have := ih1 hs' trivial rfl
    refine ih2 (fun x hx => hs' x (h1.suf.subset hx)) ⟨bin_ok (by omega) (hs x (List.mem_cons_self)) hm.1 this.1, he⟩ h
  | @next_one t k x s u q ho h1 he ih =>
    intro t' q' h
    have hs' : ∀ x ∈ s, TkOk x := fun y hy => hs y (List.mem_cons_of_mem _ hy)
    have hr := op_range ho
    have := lo7 3
    have := ih hs' trivial rfl
    injection h with h _
    subst h
    exact ⟨bin_ok (by omega) (hs x (List.mem_cons_self)) hm.1 this.1, he⟩
  | @pre n c s r0 hp hc hn h1 ih =>
    intro t q h
    exact wrap_good (sgn_k n) (fun x hx => hs x (List.mem_append_left _ hx)) (fun u q hu => ih (fun x hx => hs x (List.mem_append_right _ hx)) trivial hu) h
  | @leaf x s k m hl =>
    intro t q h; injection h with h _; subst h
    have := leaf_range hl
    exact ⟨by simp [Tr.ok, this.1, this.2.1, fits_leaf this.2.2.1 this.2.2.2.1 (hs x (List.mem_cons_self))], by rfl⟩
  | bad _ _ => intro t q h; simp at h
  | br_er _ _ ih => intro t q h; simp at h
  | br_no _ _ _ ih => intro t q h; simp at h
  | br_ok _ h1 _ ih =>
    intro t q h; injection h with h _; subst h
    exact ih (fun x hx => hs x (List.mem_cons_of_mem _ hx)) trivial rfl
end Go.Proofs.YtfnkofcgjbakeaaDoor
