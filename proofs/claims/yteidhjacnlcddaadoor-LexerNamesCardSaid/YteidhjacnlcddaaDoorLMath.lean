/- Tokens of a text: what the laws of layer 3 rest on, in plain mathematics. -/
import Derived.Test.YteidhjacnlcddaaDoorLPlain
namespace Go.Proofs.YteidhjacnlcddaaDoor
open Go.RowKit
set_option linter.unusedVariables false

/-! ### one token -/
theorem ext_cons2 (c : UInt8) (r : List UInt8) (h : kindB c = 2) : ext (c :: r) = (1, spanK 2 (c :: r)) := by rw [ext, if_pos h]
theorem ext_cons3 (c : UInt8) (r : List UInt8) (h : kindB c = 3) : ext (c :: r) = (2, spanK 3 (c :: r)) := by rw [ext, if_neg (by omega), if_pos h]
theorem ext_cons4 (c : UInt8) (r : List UInt8) (h2 : kindB c ≠ 2) (h3 : kindB c ≠ 3) : ext (c :: r) = (3, longL (c :: r)) := by rw [ext, if_neg h2, if_neg h3]
theorem ext_le (l : List UInt8) : (ext l).2 ≤ l.length := by
  cases l with
  | nil => exact Nat.le_refl _
  | cons c r =>
    by_cases h2 : kindB c = 2
    · rw [ext_cons2 c r h2]; exact spanK_le _ _
    · by_cases h3 : kindB c = 3
      · rw [ext_cons3 c r h3]; exact spanK_le _ _
      · rw [ext_cons4 c r h2 h3]; exact longL_le _
theorem ext_pos (l : List UInt8) (h : l ≠ []) (he : tkE l = 0) : 0 < (ext l).2 := by
  cases l with
  | nil => exact absurd rfl h
  | cons c r =>
    by_cases h2 : kindB c = 2
    · rw [ext_cons2 c r h2]
      show 0 < spanK 2 (c :: r)
      rw [spanK_cons 2 c r h2]; omega
    · by_cases h3 : kindB c = 3
      · rw [ext_cons3 c r h3]
        show 0 < spanK 3 (c :: r)
        rw [spanK_cons 3 c r h3]; omega
      · rw [tkE, ext_cons4 c r h2 h3] at he
        rw [ext_cons4 c r h2 h3]
        show 0 < longL (c :: r)
        rcases Nat.eq_zero_or_pos (longL (c :: r)) with h0 | h0
        · have he' : checkE 3 ((c :: r).take (longL (c :: r))) = 0 := he
          rw [h0, List.take_zero] at he'
          exact absurd he' (by decide)
        · exact h0

theorem lexF_Lex (f : Nat) : ∀ (l : List UInt8) (p n : Nat), l.length < f → Lex l p n (lexF f l p n).1 (lexF f l p n).2.1 (lexF f l p n).2.2 := by
  induction f with
  | zero => intro l p n h; omega
  | succ f ih =>
    intro l p n h
    rw [lexF]
    by_cases h1 : l.drop (spanK 1 l) = []
    · simp only [if_pos h1]; exact .done h1
    · by_cases h2 : n = 200
      · simp only [if_neg h1, if_pos h2]; subst h2; exact .many h1
      · by_cases h3 : tkE (l.drop (spanK 1 l)) = 0
        · simp only [if_neg h1, if_neg h2, h3]
          refine .tok rfl h1 h2 h3 ?_
          apply ih
          have := ext_pos _ h1 h3
          have := List.length_pos_iff.2 h1
          simp only [List.length_drop] at this ⊢
          omega
        · simp only [if_neg h1, if_neg h2, if_pos h3]; exact .err h1 h2 h3

theorem Lex.det {l p n ts q e} (h : Lex l p n ts q e) : ∀ {ts' q' e'}, Lex l p n ts' q' e' → ts = ts' ∧ q = q' ∧ e = e' := by
  induction h with
  | done h1 => intro ts' q' e' h'; cases h' with
    | done => exact ⟨rfl, rfl, rfl⟩
    | many h2 => exact absurd h1 h2
    | err h2 => exact absurd h1 h2
    | tok h2 h3 => exact absurd (h2 ▸ h1) h3
  | many h1 => intro ts' q' e' h'; cases h' with
    | done h2 => exact absurd h2 h1
    | many => exact ⟨rfl, rfl, rfl⟩
    | err _ h2 => exact absurd rfl h2
    | tok _ _ h2 => exact absurd rfl h2
  | err h1 h2 h3 => intro ts' q' e' h'; cases h' with
    | done h4 => exact absurd h4 h1
    | many => exact absurd rfl h2
    | err => exact ⟨rfl, rfl, rfl⟩
    | tok h4 _ _ h5 => subst h4; exact absurd h5 h3
  | tok h1 h2 h3 h4 h5 ih => intro ts' q' e' h'; cases h' with
    | done h6 => subst h1; exact absurd h6 h2
    | many => exact absurd rfl h3
    | err h6 _ h7 => subst h1; exact absurd h4 h7
    | tok h6 _ _ _ h7 =>
      subst h1; subst h6
      obtain ⟨rfl, rfl, rfl⟩ := ih h7
      exact ⟨rfl, rfl, rfl⟩

/-- Skipping the blanks in front. -/
theorem Lex.skip {l p n ts q e} (h : Lex l p n ts q e) : Lex (l.drop (spanK 1 l)) (p + spanK 1 l) n ts q e := by
  have h0 := spanK_drop 1 l
  have hd : (l.drop (spanK 1 l)).drop (spanK 1 (l.drop (spanK 1 l))) = l.drop (spanK 1 l) := by rw [h0, List.drop_zero]
  have hp : p + spanK 1 l + spanK 1 (l.drop (spanK 1 l)) = p + spanK 1 l := by rw [h0]; rfl
  cases h with
  | done h1 => have := @Lex.done (l.drop (spanK 1 l)) (p + spanK 1 l) n (by rw [hd]; exact h1); rwa [hp] at this
  | many h1 => have := @Lex.many (l.drop (spanK 1 l)) (p + spanK 1 l) (by rw [hd]; exact h1); rwa [hp] at this
  | err h1 h2 h3 => have := @Lex.err (l.drop (spanK 1 l)) (p + spanK 1 l) n (by rw [hd]; exact h1) h2 (by rw [hd]; exact h3); rwa [hp, hd] at this
  | tok h1 h2 h3 h4 h5 =>
    subst h1
    have := @Lex.tok (l.drop (spanK 1 l)) (p + spanK 1 l) n (l.drop (spanK 1 l)) _ _ _ hd h2 h3 h4 (by rw [hp]; exact h5)
    rwa [hp] at this
theorem Lex.unskip {l p n ts q e} (h : Lex (l.drop (spanK 1 l)) (p + spanK 1 l) n ts q e) : Lex l p n ts q e := by
  have h0 := lexF_Lex (l.length + 1) l p n (by omega)
  obtain ⟨e1, e2, e3⟩ := h0.skip.det h
  rw [← e1, ← e2, ← e3]; exact h0
theorem Lex.skip' {l p n ts q e} (h : Lex l p n ts q e) (h0 : spanK 1 l = 0) :
    (l = [] ∧ ts = [] ∧ q = p ∧ e = 0) ∨ (l ≠ [] ∧ n = 200 ∧ ts = [] ∧ q = p ∧ e = 4) ∨ (l ≠ [] ∧ n ≠ 200 ∧ tkE l ≠ 0 ∧ ts = [] ∧ q = p ∧ e = tkE l) ∨
    (l ≠ [] ∧ n ≠ 200 ∧ tkE l = 0 ∧ ∃ ts', ts = ⟨(ext l).1, l.take (ext l).2, (p : Nat)⟩ :: ts' ∧ Lex (l.drop (ext l).2) (p + (ext l).2) (n + 1) ts' q e) := by
  cases h with
  | done h1 => rw [h0, List.drop_zero] at h1; exact .inl ⟨h1, rfl, by rw [h0]; rfl, rfl⟩
  | many h1 => rw [h0, List.drop_zero] at h1; exact .inr (.inl ⟨h1, rfl, rfl, by rw [h0]; rfl, rfl⟩)
  | err h1 h2 h3 => rw [h0, List.drop_zero] at h1 h3 ⊢; exact .inr (.inr (.inl ⟨h1, h2, h3, rfl, rfl, rfl⟩))
  | tok h1 h2 h3 h4 h5 =>
    rw [h0, List.drop_zero] at h1; subst h1
    rw [h0] at h5
    exact .inr (.inr (.inr ⟨h2, h3, h4, _, by rw [h0]; rfl, h5⟩))

/-! ### what a token needs of what stands behind it -/
theorem kindB_blank (c : UInt8) (h : kindB c = 1) : c = 32 ∨ c = 10 := by
  unfold kindB kindI at h
  have h' : (c.toNat : Int) = 32 ∨ (c.toNat : Int) = 10 := by
    repeat' split at h
    all_goals first | assumption | omega
  rcases h' with h' | h'
  · exact .inl (UInt8.toNat_inj.1 (by show c.toNat = 32; omega))
  · exact .inr (UInt8.toNat_inj.1 (by show c.toNat = 10; omega))
theorem long_b32 : ∀ n : Fin 256, longL [UInt8.ofNat n.val, 32] = longL [UInt8.ofNat n.val] ∧ longL [UInt8.ofNat n.val, 10] = longL [UInt8.ofNat n.val] := by decide +kernel
theorem long_blank (x b : UInt8) (h : kindB b = 1) : longL [x, b] = longL [x] := by
  have hx : UInt8.ofNat x.toNat = x := by simp
  have := long_b32 ⟨x.toNat, x.toNat_lt⟩
  simp only [hx] at this
  rcases kindB_blank b h with rfl | rfl
  · exact this.1
  · exact this.2
theorem longL_two_of (x y : UInt8) (r : List UInt8) : longL (x :: y :: r) = longL [x, y] := by
  rw [← longL_take (x :: y :: r)]; rfl

/-- What may stand behind a token without touching it. -/
def Apart (m : List UInt8) (X : List UInt8) : Prop := X = [] ∨ (∃ b Y, X = b :: Y ∧ kindB b = 1) ∨ (∃ b Y Z, X = b :: Y ∧ m.drop (ext m).2 = b :: Z)
theorem Apart.head {m X : List UInt8} {k : Int} (h : Apart m X) (hk : k ≠ 1) (hm : ∀ c, (m.drop (ext m).2).head? = some c → kindB c ≠ k) : ∀ c, X.head? = some c → kindB c ≠ k := by
  intro c hc
  rcases h with rfl | ⟨b, Y, rfl, hb⟩ | ⟨b, Y, Z, rfl, hd⟩
  · cases hc
  · simp only [List.head?_cons, Option.some.injEq] at hc; subst hc; rw [hb]; exact fun e => hk e.symm
  · simp only [List.head?_cons, Option.some.injEq] at hc; subst hc; exact hm _ (by rw [hd]; rfl)

theorem loc_span {m X : List UInt8} {k : Int} (hk : k ≠ 1) (he : (ext m).2 = spanK k m) (h : Apart m X) : spanK k (m.take (ext m).2 ++ X) = (ext m).2 := by
  have h1 : ∀ c ∈ m.take (ext m).2, kindB c = k := by rw [he]; exact spanK_all k m
  rw [spanK_append k _ _ h1, spanK_stop k X (h.head hk ?_), List.length_take]
  · have := ext_le m; omega
  · intro c hc
    rw [he] at hc
    cases hd : m.drop (spanK k m) with
    | nil => rw [hd] at hc; cases hc
    | cons x r =>
      rw [hd] at hc
      simp only [List.head?_cons, Option.some.injEq] at hc
      subst hc
      exact spanK_next k m _ r hd

theorem ext_loc {m X : List UInt8} (hm : m ≠ []) (he : tkE m = 0) (h : Apart m X) : ext (m.take (ext m).2 ++ X) = ext m := by
  have hp := ext_pos m hm he
  cases m with
  | nil => exact absurd rfl hm
  | cons c r =>
    have hc : ((c :: r).take (ext (c :: r)).2 ++ X) = c :: (r.take ((ext (c :: r)).2 - 1) ++ X) := by
      obtain ⟨n, hn⟩ : ∃ n, (ext (c :: r)).2 = n + 1 := ⟨(ext (c :: r)).2 - 1, by omega⟩
      rw [hn, List.take_succ_cons]; rfl
    by_cases h2 : kindB c = 2
    · rw [hc, ext_cons2 c _ h2, ← hc, loc_span (by decide) (by rw [ext_cons2 c r h2]) h, ext_cons2 c r h2]
    · by_cases h3 : kindB c = 3
      · rw [hc, ext_cons3 c _ h3, ← hc, loc_span (by decide) (by rw [ext_cons3 c r h3]) h, ext_cons3 c r h3]
      · have e4 := ext_cons4 c r h2 h3
        rw [hc, ext_cons4 c _ h2 h3, ← hc]
        have hl : (ext (c :: r)).2 = longL (c :: r) := by rw [e4]
        have ht : (ext (c :: r)).2 ≤ 2 := by rw [hl]; exact longL_two _
        have hle := ext_le (c :: r)
        suffices hs : longL ((c :: r).take (ext (c :: r)).2 ++ X) = longL (c :: r) by rw [hs, e4]
        rcases Nat.lt_or_ge (ext (c :: r)).2 2 with h1 | h1
        · have hn : (ext (c :: r)).2 = 1 := by omega
          have hone : longL [c] = 1 := by
            have := longL_own (c :: r)
            rw [← hl, hn] at this
            exact this
          rw [← hl, hn]
          show longL (c :: X) = 1
          rcases h with rfl | ⟨b, Y, rfl, hb⟩ | ⟨b, Y, Z, rfl, hd⟩
          · exact hone
          · rw [longL_two_of, long_blank c b hb]; exact hone
          · rw [hn] at hd
            have hr : r = b :: Z := hd
            rw [longL_two_of, ← longL_two_of c b Z, ← hr, ← hl, hn]
        · have hn : (ext (c :: r)).2 = 2 := by omega
          rw [← longL_take, hn, ← longL_take (c :: r), List.take_append_of_le_length (by rw [List.length_take]; omega), List.take_take]
          rfl
theorem take_loc (m X : List UInt8) : (m.take (ext m).2 ++ X).take (ext m).2 = m.take (ext m).2 := by
  have := ext_le m
  rw [List.take_append_of_le_length (by rw [List.length_take]; omega), List.take_take, Nat.min_self]
theorem drop_loc (m X : List UInt8) : (m.take (ext m).2 ++ X).drop (ext m).2 = X := by
  have := ext_le m
  have hl : (m.take (ext m).2).length = (ext m).2 := by rw [List.length_take]; omega
  rw [List.drop_append, hl, Nat.sub_self, List.drop_zero, List.drop_of_length_le (by omega)]; rfl
theorem tkE_loc {m X : List UInt8} (hm : m ≠ []) (he : tkE m = 0) (h : Apart m X) : tkE (m.take (ext m).2 ++ X) = 0 := by
  rw [tkE, ext_loc hm he h, take_loc]; exact he
theorem ext_no1 {m : List UInt8} (hm : m ≠ []) (he : tkE m = 0) (h1 : spanK 1 m = 0) (X : List UInt8) : spanK 1 (m.take (ext m).2 ++ X) = 0 := by
  have hp := ext_pos m hm he
  cases m with
  | nil => exact absurd rfl hm
  | cons c r =>
    obtain ⟨n, hn⟩ : ∃ n, (ext (c :: r)).2 = n + 1 := ⟨(ext (c :: r)).2 - 1, by omega⟩
    rw [hn, List.take_succ_cons, List.cons_append]
    apply spanK_cons_not
    intro hk
    rw [spanK_cons 1 c r hk] at h1
    omega

/-- A first token, by itself. -/
theorem Lex.first {m X : List UInt8} {p n ts q e} (hm : m ≠ []) (he : tkE m = 0) (h1 : spanK 1 m = 0) (hn : n ≠ 200) (ha : Apart m X) (h : Lex X (p + (ext m).2) (n + 1) ts q e) :
    Lex (m.take (ext m).2 ++ X) p n (⟨(ext m).1, m.take (ext m).2, (p : Nat)⟩ :: ts) q e := by
  have h0 := ext_no1 hm he h1 X
  have hx := ext_loc hm he ha
  have hne : m.take (ext m).2 ++ X ≠ [] := by
    have hp := ext_pos m hm he
    have hle := ext_le m
    intro hnil
    have hml := List.length_pos_iff.2 hm
    have := congrArg List.length hnil
    rw [List.length_append, List.length_take, List.length_nil] at this
    omega
  have := @Lex.tok (m.take (ext m).2 ++ X) p n (m.take (ext m).2 ++ X) ts q e (by rw [h0, List.drop_zero]) hne hn (tkE_loc hm he ha) (by rw [hx, drop_loc, h0]; exact h)
  rwa [hx, take_loc, h0] at this

/-! ### places moved, blanks in front and behind -/
def mv (d : Nat) (t : Tok) : Tok := ⟨t.k, t.s, t.a + (d : Int)⟩
theorem Lex.shift {l p n ts q e} (h : Lex l p n ts q e) (d : Nat) : Lex l (p + d) n (ts.map (mv d)) (q + d) e := by
  induction h with
  | @done l p n h1 => have := @Lex.done l (p + d) n h1; rwa [show p + d + spanK 1 l = p + spanK 1 l + d by omega] at this
  | @many l p h1 => have := @Lex.many l (p + d) h1; rwa [show p + d + spanK 1 l = p + spanK 1 l + d by omega] at this
  | @err l p n h1 h2 h3 => have := @Lex.err l (p + d) n h1 h2 h3; rwa [show p + d + spanK 1 l = p + spanK 1 l + d by omega] at this
  | @tok l p n m ts q e h1 h2 h3 h4 h5 ih =>
    have := @Lex.tok l (p + d) n m (ts.map (mv d)) (q + d) e h1 h2 h3 h4 (by rwa [show p + d + spanK 1 l + (ext m).2 = p + spanK 1 l + (ext m).2 + d by omega])
    rw [List.map_cons]
    have hh : mv d ⟨(ext m).1, m.take (ext m).2, ((p + spanK 1 l : Nat) : Int)⟩ = ⟨(ext m).1, m.take (ext m).2, ((p + d + spanK 1 l : Nat) : Int)⟩ := by
      unfold mv; simp only [Tok.mk.injEq, true_and]; omega
    rw [hh]; exact this
def Blanks (g : List UInt8) : Prop := ∀ c ∈ g, kindB c = 1
theorem Lex.front {g l p n ts q e} (hg : Blanks g) (h : Lex l (p + g.length) n ts q e) : Lex (g ++ l) p n ts q e := by
  apply Lex.unskip
  have hs := spanK_append 1 g l hg
  have hd : (g ++ l).drop (spanK 1 (g ++ l)) = l.drop (spanK 1 l) := by
    rw [hs, List.drop_append]
    rw [List.drop_of_length_le (by omega), show g.length + spanK 1 l - g.length = spanK 1 l by omega]; rfl
  rw [hd, hs, ← Nat.add_assoc]
  exact h.skip

theorem ext_behind {m g : List UInt8} (hm : m ≠ []) (hg : Blanks g) : ext (m ++ g) = ext m := by
  have hsp : ∀ k : Int, k ≠ 1 → spanK k (m ++ g) = spanK k m := by
    intro k hk
    obtain ⟨b, r, hbr, hbl, hb, hr, _⟩ := spanK_split k m
    rw [← hbl]
    conv => lhs; rw [hbr]
    rw [List.append_assoc, spanK_append k b _ hb, spanK_stop, Nat.add_zero]
    intro c hc
    cases r with
    | nil =>
      cases g with
      | nil => cases hc
      | cons y t => simp only [List.nil_append, List.head?_cons, Option.some.injEq] at hc; subst hc; rw [hg _ (by simp)]; exact fun e => hk e.symm
    | cons x t => exact hr c (by simpa using hc)
  cases m with
  | nil => exact absurd rfl hm
  | cons c r =>
    by_cases h2 : kindB c = 2
    · have := hsp 2 (by decide)
      rw [List.cons_append] at this ⊢
      rw [ext_cons2 c _ h2, ext_cons2 c _ h2, this]
    · by_cases h3 : kindB c = 3
      · have := hsp 3 (by decide)
        rw [List.cons_append] at this ⊢
        rw [ext_cons3 c _ h3, ext_cons3 c _ h3, this]
      · rw [List.cons_append, ext_cons4 c _ h2 h3, ext_cons4 c _ h2 h3]
        cases r with
        | nil =>
          cases g with
          | nil => rfl
          | cons y t => rw [List.nil_append, longL_two_of, long_blank c y (hg _ (by simp))]
        | cons x t => rw [List.cons_append, longL_two_of, longL_two_of c x t]
theorem tkE_behind {m g : List UInt8} (hm : m ≠ []) (hg : Blanks g) : tkE (m ++ g) = tkE m := by
  have := ext_le m
  rw [tkE, ext_behind hm hg, List.take_append_of_le_length (by omega)]; rfl

theorem span_behind (l g : List UInt8) (hg : Blanks g) (h : l.drop (spanK 1 l) ≠ []) : spanK 1 (l ++ g) = spanK 1 l := by
  obtain ⟨b, r, hbr, hbl, hb, hr, hrd⟩ := spanK_split 1 l
  rw [← hbl]
  conv => lhs; rw [hbr]
  rw [List.append_assoc, spanK_append 1 b _ hb, spanK_stop, Nat.add_zero]
  intro c hc
  cases r with
  | nil => rw [← hrd] at h; exact absurd rfl h
  | cons x t => exact hr c (by simpa using hc)
theorem Lex.behind {l p n ts q e} (h : Lex l p n ts q e) {g : List UInt8} (hg : Blanks g) : Lex (l ++ g) p n ts (if e = 0 then q + g.length else q) e := by
  induction h with
  | @done l p n h1 =>
    rw [if_pos rfl]
    have hall : ∀ c ∈ l ++ g, kindB c = 1 := by
      intro c hc
      rcases List.mem_append.1 hc with hc | hc
      · have hle := spanK_le 1 l
        have hlen := congrArg List.length h1
        rw [List.length_drop] at hlen
        simp at hlen
        have := spanK_all 1 l c
        rw [List.take_of_length_le (by omega)] at this
        exact this hc
      · exact hg c hc
    have hs : spanK 1 (l ++ g) = l.length + g.length := by
      have := spanK_append 1 (l ++ g) [] hall
      rw [List.append_nil, List.length_append] at this
      exact this
    have hs2 : spanK 1 l = l.length := by
      have := spanK_append 1 l [] (fun c hc => hall c (by simp [hc]))
      rwa [List.append_nil] at this
    have := @Lex.done (l ++ g) p n (by rw [hs, List.drop_of_length_le (by rw [List.length_append]; omega)])
    rw [hs] at this
    rw [hs2, Nat.add_assoc]; exact this
  | @many l p h1 =>
    rw [if_neg (by decide)]
    have hs := span_behind l g hg h1
    have hd : (l ++ g).drop (spanK 1 (l ++ g)) = l.drop (spanK 1 l) ++ g := by rw [hs, List.drop_append_of_le_length (spanK_le _ _)]
    have := @Lex.many (l ++ g) p (by rw [hd]; exact fun e => h1 (List.append_eq_nil_iff.1 e).1)
    rwa [hs] at this
  | @err l p n h1 h2 h3 =>
    rw [if_neg h3]
    have hs := span_behind l g hg h1
    have hd : (l ++ g).drop (spanK 1 (l ++ g)) = l.drop (spanK 1 l) ++ g := by rw [hs, List.drop_append_of_le_length (spanK_le _ _)]
    have ht := tkE_behind h1 hg
    have := @Lex.err (l ++ g) p n (by rw [hd]; exact fun e => h1 (List.append_eq_nil_iff.1 e).1) h2 (by rw [hd, ht]; exact h3)
    rw [hd, ht, hs] at this
    exact this
  | @tok l p n m ts q e h1 h2 h3 h4 h5 ih =>
    subst h1
    have hs := span_behind l g hg h2
    have hd : (l ++ g).drop (spanK 1 (l ++ g)) = l.drop (spanK 1 l) ++ g := by rw [hs, List.drop_append_of_le_length (spanK_le _ _)]
    have hx := ext_behind h2 hg
    have hle := ext_le (l.drop (spanK 1 l))
    have := @Lex.tok (l ++ g) p n (l.drop (spanK 1 l) ++ g) ts (if e = 0 then q + g.length else q) e hd (fun e => h2 (List.append_eq_nil_iff.1 e).1) h3 (by rw [tkE_behind h2 hg]; exact h4)
      (by rw [hx, hs, List.drop_append_of_le_length hle]; exact ih)
    rwa [hx, hs, List.take_append_of_le_length hle] at this
end Go.Proofs.YteidhjacnlcddaaDoor
