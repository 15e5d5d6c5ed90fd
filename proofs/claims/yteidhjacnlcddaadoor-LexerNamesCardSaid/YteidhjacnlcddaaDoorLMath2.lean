/- Tokens of a text: joined, covered, cut at an error, with blanks put in: plain mathematics. -/
import Derived.Test.YteidhjacnlcddaaDoorLMath
namespace Go.Proofs.YteidhjacnlcddaaDoor
open Go.RowKit
set_option linter.unusedVariables false

def al (L : List Tok) : List (Int × List UInt8) := L.map fun t => (t.k, t.s)
theorem al_mv (d : Nat) (L : List Tok) : al (L.map (mv d)) = al L := by unfold al; rw [List.map_map]; rfl
theorem al_length {L M : List Tok} (h : al L = al M) : L.length = M.length := by simpa [al] using congrArg List.length h

/-! ### valid tokens -/
theorem span_full (k : Int) (s : List UInt8) (h : ∀ c ∈ s, kindB c = k) : spanK k s = s.length := by
  have := spanK_append k s [] h
  rwa [List.append_nil] at this
theorem word_facts : ∀ x ∈ wordL, x ≠ [] ∧ ∀ c ∈ x, kindB c = 3 := by decide
theorem checkE_ok (k : Int) (s : List UInt8) (h : checkE k s = 0) : s ≠ [] ∧ ext s = (k, s.length) ∧ spanK 1 s = 0 := by
  unfold checkE at h
  have key : ∀ j : Int, j ≠ 1 → s ≠ [] → (∀ c ∈ s, kindB c = j) → spanK 1 s = 0 := by
    intro j hj hs hc
    cases s with
    | nil => exact absurd rfl hs
    | cons c r => exact spanK_cons_not 1 c r (by rw [hc c (by simp)]; exact hj)
  by_cases h1 : k = 1
  · rw [if_pos h1] at h
    subst h1
    unfold rdErr at h
    by_cases hd : (allDig s && !s.isEmpty) = true
    · simp only [Bool.and_eq_true, allDig, List.all_eq_true, Bool.not_eq_true', List.isEmpty_eq_false_iff] at hd
      obtain ⟨hd, hs⟩ := hd
      have hk : ∀ c ∈ s, kindB c = 2 := by
        intro c hc
        have := hd c hc
        simp only [isDig, Bool.and_eq_true, decide_eq_true_eq, UInt8.le_iff_toNat_le] at this
        exact kind_digit _ (by have := this.1; simp at this; omega) (by have := this.2; simp at this; omega)
      refine ⟨hs, ?_, key 2 (by decide) hs hk⟩
      cases s with
      | nil => exact absurd rfl hs
      | cons c r => rw [ext_cons2 c r (hk c (by simp)), span_full 2 _ hk]
    · rw [if_neg hd] at h; exact absurd h (by decide)
  · rw [if_neg h1] at h
    by_cases h2 : k = 2
    · rw [if_pos h2] at h
      subst h2
      by_cases hw : isWord s = true
      · have hm : s ∈ wordL := by simpa [isWord] using hw
        obtain ⟨hs, hk⟩ := word_facts s hm
        refine ⟨hs, ?_, key 3 (by decide) hs hk⟩
        cases s with
        | nil => exact absurd rfl hs
        | cons c r => rw [ext_cons3 c r (hk c (by simp)), span_full 3 _ hk]
      · rw [if_neg hw] at h; exact absurd h (by decide)
    · rw [if_neg h2] at h
      by_cases h3 : k = 3
      · rw [if_pos h3] at h
        subst h3
        by_cases hl : longL s = s.length ∧ s ≠ []
        · obtain ⟨hl, hs⟩ := hl
          have hm : s ∈ symL := by
            have := longL_mem s (by rw [hl]; exact fun e => hs (List.eq_nil_of_length_eq_zero e))
            rwa [hl, List.take_length] at this
          have hk := (sym_facts s hm).2
          refine ⟨hs, ?_, key 4 (by decide) hs hk⟩
          cases s with
          | nil => exact absurd rfl hs
          | cons c r =>
            have hc := hk c (by simp)
            rw [ext_cons4 c r (by rw [hc]; decide) (by rw [hc]; decide), hl]
        · rw [if_neg hl] at h; exact absurd h (by decide)
      · rw [if_neg h3] at h; exact absurd h (by decide)
theorem tkE_ok (k : Int) (s : List UInt8) (h : checkE k s = 0) : tkE s = 0 := by
  obtain ⟨_, he, _⟩ := checkE_ok k s h
  rw [tkE, he, List.take_length]; exact h

/-! ### joined -/
def jn : List (List UInt8) → List UInt8
  | [] => []
  | x :: r => x ++ r.flatMap fun y => 32 :: y
theorem jn_snoc (L : List (List UInt8)) (y : List UInt8) : jn (L ++ [y]) = if L = [] then y else jn L ++ 32 :: y := by
  cases L with
  | nil => simp [jn]
  | cons x r => simp [jn]
theorem jn_take_le (L : List (List UInt8)) (k : Nat) : (jn (L.take k)).length ≤ (jn L).length := by
  cases L with
  | nil => simp [jn]
  | cons x r =>
    cases k with
    | zero => simp [jn]
    | succ k =>
      rw [List.take_succ_cons]
      simp only [jn, List.length_append]
      have : ((r.take k).flatMap fun y => 32 :: y).length ≤ (r.flatMap fun y => 32 :: y).length := by
        conv => rhs; rw [← List.take_append_drop k r, List.flatMap_append]
        rw [List.length_append]; omega
      omega

theorem Lex.tail (L : List Tok) : ∀ (p n : Nat), (∀ t ∈ L, checkE t.k t.s = 0) → n + L.length ≤ 200 →
    ∃ ts, Lex (L.flatMap fun t => 32 :: t.s) p n ts (p + (L.flatMap fun t => 32 :: t.s).length) 0 ∧ al ts = al L := by
  induction L with
  | nil => intro p n _ _; exact ⟨[], @Lex.done [] p n rfl, rfl⟩
  | cons t r ih =>
    intro p n hv hn
    rw [List.length_cons] at hn
    have hc := hv t (by simp)
    obtain ⟨hs, he, h1⟩ := checkE_ok _ _ hc
    obtain ⟨ts, hl, ha⟩ := ih (p + 1 + t.s.length) (n + 1) (fun x hx => hv x (by simp [hx])) (by omega)
    have hap : Apart t.s (r.flatMap fun t => 32 :: t.s) := by
      cases r with
      | nil => exact .inl rfl
      | cons y z => exact .inr (.inl ⟨32, _, List.flatMap_cons, by decide⟩)
    have hf := @Lex.first t.s (r.flatMap fun t => 32 :: t.s) (p + 1) n ts _ _ hs (tkE_ok _ _ hc) h1 (by omega) hap (by rw [he]; exact hl)
    rw [he, List.take_length] at hf
    have hfr := @Lex.front [32] (t.s ++ (r.flatMap fun t => 32 :: t.s)) p n _ _ _ (by intro c hc; simp only [List.mem_singleton] at hc; subst hc; decide) hf
    refine ⟨⟨t.k, t.s, ((p + 1 : Nat) : Int)⟩ :: ts, ?_, ?_⟩
    · rw [List.flatMap_cons]
      have e : (32 :: t.s ++ (r.flatMap fun t => 32 :: t.s)).length = 1 + t.s.length + (r.flatMap fun t => 32 :: t.s).length := by simp; omega
      rw [e, show p + (1 + t.s.length + (r.flatMap fun t => 32 :: t.s).length) = p + 1 + t.s.length + (r.flatMap fun t => 32 :: t.s).length by omega]
      exact hfr
    · show (t.k, t.s) :: al ts = (t.k, t.s) :: al r
      rw [ha]
theorem Lex.join (L : List Tok) (hv : ∀ t ∈ L, checkE t.k t.s = 0) (hn : L.length ≤ 200) :
    ∃ ts, Lex (jn (L.map (·.s))) 0 0 ts (jn (L.map (·.s))).length 0 ∧ al ts = al L := by
  cases L with
  | nil => exact ⟨[], @Lex.done [] 0 0 rfl, rfl⟩
  | cons t r =>
    rw [List.length_cons] at hn
    have hc := hv t (by simp)
    obtain ⟨hs, he, h1⟩ := checkE_ok _ _ hc
    obtain ⟨ts, hl, ha⟩ := Lex.tail r t.s.length 1 (fun x hx => hv x (by simp [hx])) (by omega)
    have hap : Apart t.s (r.flatMap fun t => 32 :: t.s) := by
      cases r with
      | nil => exact .inl rfl
      | cons y z => exact .inr (.inl ⟨32, _, List.flatMap_cons, by decide⟩)
    have hf := @Lex.first t.s (r.flatMap fun t => 32 :: t.s) 0 0 ts _ _ hs (tkE_ok _ _ hc) h1 (by decide) hap (by rw [he, Nat.zero_add]; exact hl)
    rw [he, List.take_length] at hf
    have e : jn ((t :: r).map (·.s)) = t.s ++ (r.flatMap fun t => 32 :: t.s) := by simp [jn, List.flatMap_map]
    refine ⟨⟨t.k, t.s, ((0 : Nat) : Int)⟩ :: ts, ?_, ?_⟩
    · rw [e, List.length_append]; exact hf
    · show (t.k, t.s) :: al ts = (t.k, t.s) :: al r
      rw [ha]

/-! ### what All and Join return -/
def allF (s : List UInt8) : List Tok × Nat × Int :=
  if 400 < s.length then ([], 0, 4) else if (lexF (s.length + 1) s 0 0).2.2 = 0 then lexF (s.length + 1) s 0 0 else ([], (lexF (s.length + 1) s 0 0).2)
theorem allF_big (s : List UInt8) (h : 400 < s.length) : allF s = ([], 0, 4) := by rw [allF, if_pos h]
theorem allF_of {s : List UInt8} {ts : List Tok} {q : Nat} {e : Int} (hs : s.length ≤ 400) (h : Lex s 0 0 ts q e) : allF s = (if e = 0 then ts else [], q, e) := by
  obtain ⟨h1, h2, h3⟩ := h.det (lexF_Lex (s.length + 1) s 0 0 (by omega))
  rw [allF, if_neg (by omega), ← h3]
  by_cases he : e = 0
  · rw [if_pos he, if_pos he, h1, h2, h3]
  · rw [if_neg he, if_neg he, h2, h3]
theorem allF_lex (s : List UInt8) (hs : s.length ≤ 400) : ∃ ts q e, Lex s 0 0 ts q e ∧ allF s = (if e = 0 then ts else [], q, e) :=
  ⟨_, _, _, lexF_Lex (s.length + 1) s 0 0 (by omega), allF_of hs (lexF_Lex (s.length + 1) s 0 0 (by omega))⟩
def okL (L : List Tok) : Bool := L.all fun t => checkE t.k t.s == 0
def joinF (L : List Tok) : List UInt8 × Int :=
  if 200 < L.length then ([], 4) else if okL L = true then (if 400 < (jn (L.map (·.s))).length then ([], 18) else (jn (L.map (·.s)), 0)) else ([], 8)

theorem Lex.count {l p n ts q e} (h : Lex l p n ts q e) : n ≤ 200 → n + ts.length ≤ 200 := by
  induction h with
  | done | many | err => intro h; exact h
  | tok _ _ h3 _ _ ih => intro h; rw [List.length_cons]; have := ih (by omega); omega
theorem Lex.valid {l p n ts q e} (h : Lex l p n ts q e) : ∀ t ∈ ts, checkE t.k t.s = 0 := by
  induction h with
  | done | many | err => intro t ht; cases ht
  | tok _ _ _ h4 _ ih =>
    intro t ht
    rcases List.mem_cons.1 ht with rfl | ht
    · exact h4
    · exact ih t ht
theorem checkE_four (k : Int) (s : List UInt8) : checkE k s ≠ 4 := by
  unfold checkE rdErr rdE
  repeat' split
  all_goals decide

/-! ### what stands where -/
def Cover (s : List UInt8) : Nat → List Tok → Prop
  | a, [] => ∀ i (h : i < s.length), a ≤ i → kindB s[i] = 1
  | a, t :: ts => ∃ x : Nat, t.a = x ∧ a ≤ x ∧ x + t.s.length ≤ s.length ∧ (∀ i (h : i < s.length), a ≤ i → i < x → kindB s[i] = 1) ∧ (s.drop x).take t.s.length = t.s ∧ checkE t.k t.s = 0 ∧ Cover s (x + t.s.length) ts
theorem span_at {s : List UInt8} {p : Nat} (i : Nat) (h : i < s.length) (h1 : p ≤ i) (h2 : i < p + spanK 1 (s.drop p)) : kindB s[i] = 1 := by
  have hm : s[i] ∈ (s.drop p).take (spanK 1 (s.drop p)) := by
    rw [List.mem_iff_getElem?]
    refine ⟨i - p, ?_⟩
    rw [List.getElem?_take_of_lt (by omega), List.getElem?_drop, show p + (i - p) = i by omega, List.getElem?_eq_getElem h]
  exact spanK_all 1 _ _ hm
theorem Lex.cover {l p n ts q e} (h : Lex l p n ts q e) : e = 0 → ∀ s : List UInt8, l = s.drop p → p ≤ s.length → Cover s p ts := by
  induction h with
  | @done l p n h1 =>
    intro _ s hl hp i hi hpi
    subst hl
    apply span_at i hi hpi
    have := congrArg List.length h1
    rw [List.length_drop, List.length_drop, List.length_nil] at this
    omega
  | many => intro h; exact absurd h (by decide)
  | err _ _ h3 => intro h; exact absurd h h3
  | @tok l p n m ts q e h1 h2 h3 h4 h5 ih =>
    intro he s hl hp
    subst h1
    have hle := ext_le (l.drop (spanK 1 l))
    have hsl := spanK_le 1 l
    have hll : l.length = s.length - p := by rw [hl, List.length_drop]
    have hml : (l.drop (spanK 1 l)).length = l.length - spanK 1 l := List.length_drop
    have htl : ((l.drop (spanK 1 l)).take (ext (l.drop (spanK 1 l))).2).length = (ext (l.drop (spanK 1 l))).2 := by rw [List.length_take]; omega
    have hm : l.drop (spanK 1 l) = s.drop (p + spanK 1 l) := by rw [hl, List.drop_drop]
    refine ⟨p + spanK 1 l, rfl, by omega, by rw [htl]; omega, ?_, ?_, h4, ?_⟩
    · intro i hi h6 h7
      subst hl
      exact span_at i hi h6 h7
    · rw [htl, ← hm]
    · rw [htl]
      exact ih he s (by rw [hm, List.drop_drop]) (by omega)

/-! ### where an error is -/
theorem Lex.done_take (l : List UInt8) (p n k : Nat) (hk : k ≤ spanK 1 l) : Lex (l.take k) p n [] (p + k) 0 := by
  have hle := spanK_le 1 l
  have hl : (l.take k).length = k := by rw [List.length_take]; omega
  have hs : spanK 1 (l.take k) = k := by
    rw [span_full 1, hl]
    intro c hc
    apply spanK_all 1 l
    have : l.take k = (l.take (spanK 1 l)).take k := by rw [List.take_take, Nat.min_eq_left hk]
    rw [this] at hc
    exact List.mem_of_mem_take hc
  have := @Lex.done (l.take k) p n (by rw [hs, List.drop_of_length_le (by omega)])
  rwa [hs] at this
theorem Lex.prefix {l p n ts q e} (h : Lex l p n ts q e) : e ≠ 0 → ∃ x : Nat, q = p + x ∧ (∃ hx : x < l.length, kindB l[x] ≠ 1) ∧ Lex (l.take x) p n ts q 0 ∧ (e ≠ 4 → Lex (l.drop x) 0 0 [] 0 e) := by
  have hd : ∀ l : List UInt8, l.drop (spanK 1 l) ≠ [] → ∃ hx : spanK 1 l < l.length, kindB l[spanK 1 l] ≠ 1 := by
    intro l h1
    have hl := List.length_pos_iff.2 h1
    rw [List.length_drop] at hl
    refine ⟨by omega, ?_⟩
    exact spanK_next 1 l _ _ (List.drop_eq_getElem_cons (by omega))
  induction h with
  | done => intro h; exact absurd rfl h
  | @many l p h1 => intro _; exact ⟨_, rfl, hd l h1, Lex.done_take l p 200 _ (Nat.le_refl _), fun h => absurd rfl h⟩
  | @err l p n h1 h2 h3 =>
    intro _
    refine ⟨_, rfl, hd l h1, Lex.done_take l p n _ (Nat.le_refl _), fun _ => ?_⟩
    have h0 := spanK_drop 1 l
    have := @Lex.err (l.drop (spanK 1 l)) 0 0 (by rw [h0]; exact h1) (by decide) (by rw [h0]; exact h3)
    rw [h0] at this
    exact this
  | @tok l p n m ts q e h1 h2 h3 h4 h5 ih =>
    intro he
    obtain ⟨x, hq, ⟨hx, hk⟩, hp, ho⟩ := ih he
    subst h1
    have hle := ext_le (l.drop (spanK 1 l))
    have hsl := spanK_le 1 l
    have hml : (l.drop (spanK 1 l)).length = l.length - spanK 1 l := List.length_drop
    rw [List.length_drop] at hx
    have hdd : l.drop (spanK 1 l + (ext (l.drop (spanK 1 l))).2 + x) = ((l.drop (spanK 1 l)).drop (ext (l.drop (spanK 1 l))).2).drop x := by
      rw [List.drop_drop, List.drop_drop, Nat.add_assoc]
    refine ⟨spanK 1 l + (ext (l.drop (spanK 1 l))).2 + x, by omega, ⟨by omega, ?_⟩, ?_, fun h => ?_⟩
    · rw [List.getElem_drop, List.getElem_drop] at hk
      rw [show l[spanK 1 l + (ext (l.drop (spanK 1 l))).2 + x]'(by omega) = l[spanK 1 l + ((ext (l.drop (spanK 1 l))).2 + x)]'(by omega) from by congr 1; omega]
      exact hk
    · have hap : Apart (l.drop (spanK 1 l)) (((l.drop (spanK 1 l)).drop (ext (l.drop (spanK 1 l))).2).take x) := by
        cases x with
        | zero => exact .inl rfl
        | succ x =>
          cases hc : (l.drop (spanK 1 l)).drop (ext (l.drop (spanK 1 l))).2 with
          | nil => exact .inl rfl
          | cons b Z => exact .inr (.inr ⟨b, Z.take x, Z, by rw [List.take_succ_cons], hc⟩)
      have hf := Lex.first h2 h4 (spanK_drop 1 l) h3 hap hp
      have hfr := @Lex.front (l.take (spanK 1 l)) _ p n _ _ _ (spanK_all 1 l) (by rw [List.length_take, Nat.min_eq_left hsl]; exact hf)
      have e1 : l.take (spanK 1 l + (ext (l.drop (spanK 1 l))).2 + x) = l.take (spanK 1 l) ++ ((l.drop (spanK 1 l)).take (ext (l.drop (spanK 1 l))).2 ++ ((l.drop (spanK 1 l)).drop (ext (l.drop (spanK 1 l))).2).take x) := by
        rw [Nat.add_assoc, List.take_add, List.take_add]
      rw [e1]; exact hfr
    · rw [hdd]; exact ho h

/-! ### blanks in front of a token -/
theorem Lex.insert {l p n ts q e} (h : Lex l p n ts q e) {g : List UInt8} (hg : Blanks g) : e = 0 → ∀ i (hi : i < ts.length), ∃ x : Nat, ts[i].a = ((p + x : Nat) : Int) ∧ x ≤ l.length ∧
    ∃ ts', Lex (l.take x ++ (g ++ l.drop x)) p n ts' (q + g.length) 0 ∧ al ts' = al ts := by
  induction h with
  | done => intro _ i hi; simp at hi
  | many => intro h; exact absurd h (by decide)
  | err _ _ h3 => intro h; exact absurd h h3
  | @tok l p n m ts q e h1 h2 h3 h4 h5 ih =>
    intro he i hi
    have hself := @Lex.tok l p n m ts q e h1 h2 h3 h4 h5
    subst he
    subst h1
    have hsl := spanK_le 1 l
    have hle := ext_le (l.drop (spanK 1 l))
    have hml : (l.drop (spanK 1 l)).length = l.length - spanK 1 l := List.length_drop
    have htl : (l.take (spanK 1 l)).length = spanK 1 l := by rw [List.length_take, Nat.min_eq_left hsl]
    cases i with
    | zero =>
      refine ⟨spanK 1 l, rfl, hsl, _, ?_, al_mv g.length _⟩
      rw [← List.append_assoc]
      apply Lex.front
      · intro c hc
        rcases List.mem_append.1 hc with hc | hc
        · exact spanK_all 1 l c hc
        · exact hg c hc
      · rw [List.length_append, htl, ← Nat.add_assoc]
        exact hself.skip.shift g.length
    | succ i =>
      obtain ⟨x, hx, hxl, ts', hl, ha⟩ := ih rfl i (by simpa using hi)
      rw [List.length_drop] at hxl
      refine ⟨spanK 1 l + (ext (l.drop (spanK 1 l))).2 + x, ?_, by omega, ?_⟩
      · rw [List.getElem_cons_succ, hx]; congr 1; omega
      · have hap : Apart (l.drop (spanK 1 l)) (((l.drop (spanK 1 l)).drop (ext (l.drop (spanK 1 l))).2).take x ++ (g ++ ((l.drop (spanK 1 l)).drop (ext (l.drop (spanK 1 l))).2).drop x)) := by
          cases hc : (l.drop (spanK 1 l)).drop (ext (l.drop (spanK 1 l))).2 with
          | nil =>
            cases g with
            | nil => left; simp
            | cons b t => exact .inr (.inl ⟨b, t, by simp, hg b (by simp)⟩)
          | cons b Z =>
            cases x with
            | zero =>
              cases g with
              | nil => exact .inr (.inr ⟨b, Z, Z, by simp, hc⟩)
              | cons y t => exact .inr (.inl ⟨y, t ++ b :: Z, by simp, hg y (by simp)⟩)
            | succ x => exact .inr (.inr ⟨b, _, Z, by rw [List.take_succ_cons, List.cons_append], hc⟩)
        have hf := Lex.first h2 h4 (spanK_drop 1 l) h3 hap hl
        have hfr := @Lex.front (l.take (spanK 1 l)) _ p n _ _ _ (spanK_all 1 l) (by rw [htl]; exact hf)
        refine ⟨⟨(ext (l.drop (spanK 1 l))).1, (l.drop (spanK 1 l)).take (ext (l.drop (spanK 1 l))).2, ((p + spanK 1 l : Nat) : Int)⟩ :: ts', ?_, ?_⟩
        · have e1 : l.take (spanK 1 l + (ext (l.drop (spanK 1 l))).2 + x) = l.take (spanK 1 l) ++ ((l.drop (spanK 1 l)).take (ext (l.drop (spanK 1 l))).2 ++ ((l.drop (spanK 1 l)).drop (ext (l.drop (spanK 1 l))).2).take x) := by
            rw [Nat.add_assoc, List.take_add, List.take_add]
          have e2 : l.drop (spanK 1 l + (ext (l.drop (spanK 1 l))).2 + x) = ((l.drop (spanK 1 l)).drop (ext (l.drop (spanK 1 l))).2).drop x := by
            rw [List.drop_drop, List.drop_drop, Nat.add_assoc]
          rw [e1, e2]
          simp only [List.append_assoc] at hfr ⊢
          exact hfr
        · show (_, _) :: al ts' = (_, _) :: al ts
          rw [ha]
end Go.Proofs.YteidhjacnlcddaaDoor
