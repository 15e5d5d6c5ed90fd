/- The words of a query's text: with however many tokens. -/
import Derived.Test.YtlmamidodahgmaaGreatDoorPLaw0
import Derived.Test.YtlmamidodahgmaaGreatDoorEC
namespace Go.Proofs.YtlmamidodahgmaaGreatDoor.P9
open Go.RowKit N4 Q8
set_option linter.unusedVariables false
set_option maxRecDepth 100000

def LexU (T : List UInt8) (tx : List (List UInt8)) : Prop :=
  ∀ (X : List UInt8) (p n : Nat) (ts : List Tok) (q : Nat) (e : Int), Bh X → (n + tx.length ≤ 200 ∨ 200 < n) → Lex X (p + T.length) (n + tx.length) ts q e →
    ∃ M : List Tok, M.map (·.s) = tx ∧ Lex (T ++ X) p n (M ++ ts) q e
theorem lexU_br {T : List UInt8} {tx : List (List UInt8)} (h : LexU T tx) (hT : T ≠ []) : LexU ([40] ++ T ++ [41]) ([[40]] ++ tx ++ [[41]]) := by
  intro X p n ts q e hX hn hl
  simp only [List.length_append, List.length_cons, List.length_nil] at hn hl
  have h1 : Lex ([41] ++ X) (p + (1 + T.length)) (n + (1 + tx.length)) (⟨3, [41], ((p + (1 + T.length) : Nat) : Int)⟩ :: ts) q e :=
    Lex.one (by decide +kernel) (Bh.cases hX (by decide +kernel)) (by omega) (by simpa [Nat.add_assoc, Nat.add_comm, Nat.add_left_comm] using hl)
  obtain ⟨M, hM, h2⟩ := h ([41] ++ X) (p + 1) (n + 1) _ q e (.inr (.inr ⟨X, rfl⟩)) (by omega) (by rw [show p + 1 + T.length = p + (1 + T.length) by omega, show n + 1 + tx.length = n + (1 + tx.length) by omega]; exact h1)
  refine ⟨⟨3, [40], (p : Nat)⟩ :: (M ++ [⟨3, [41], ((p + (1 + T.length) : Nat) : Int)⟩]), by simp [hM], ?_⟩
  cases T with
  | nil => exact absurd rfl hT
  | cons b T =>
    have := Lex.one (k := 3) (s := [40]) (X := (b :: T) ++ ([41] ++ X)) (by decide +kernel) (.inr (.inr ⟨b, T ++ ([41] ++ X), rfl, ext_open b⟩)) (show n ≠ 200 by omega) h2
    simpa [List.append_assoc] using this
theorem lexU_leaf {k n : Int} (hk : 1 ≤ k ∧ k ≤ 4) (h0 : 0 ≤ n) (h1 : n ≤ 9223372036854775807) : LexU (leafT k n) [leafT k n] := by
  intro X p m ts q e hX hn hl
  obtain ⟨kk, hc, he⟩ := leafT_tok hk h0 h1
  exact ⟨[⟨kk, leafT k n, (p : Nat)⟩], rfl, Lex.one hc (hX.cases he) (by simp only [List.length_cons, List.length_nil] at hn; omega) hl⟩
theorem lexU_tree (t : Tr) (h : t.ok = true) (hb : t.big) : (LexU t.wr t.tx ∧ t.wr ≠ []) ∧ (LexU t.pt t.px ∧ t.pt ≠ []) := by
  induction t with
  | leaf k n p =>
    obtain ⟨hk, h0⟩ := Tr.ok_leaf h
    exact ⟨⟨lexU_leaf hk h0 hb, leafT_ne hk h0 hb⟩, ⟨lexU_leaf hk h0 hb, leafT_ne hk h0 hb⟩⟩
  | un k p a ih =>
    simp only [Tr.ok, Bool.and_eq_true, decide_eq_true_eq] at h
    obtain ⟨_, h2, h3⟩ := ih h.2 hb
    have main : LexU (Tr.un k p a).wr (Tr.un k p a).tx := by
      rw [Tr.wr_un, Tr.tx_un]
      have hs : ∃ kk, checkE kk (sgnB (if k = 5 then 7 else 2)) = 0 ∧ (if k = 5 then ([45, 32] : List UInt8) else [110, 111, 116, 32]) = sgnB (if k = 5 then 7 else 2) ++ [32] := by
        by_cases h5 : k = 5
        · rw [if_pos h5, if_pos h5]; exact ⟨3, by decide +kernel, rfl⟩
        · rw [if_neg h5, if_neg h5]; exact ⟨2, by decide +kernel, rfl⟩
      obtain ⟨kk, hc, he⟩ := hs
      rw [he]
      generalize sgnB (if k = 5 then 7 else 2) = sg at hc
      intro X p0 n ts q e hX hn hl
      simp only [List.length_append, List.length_cons, List.length_nil] at hn hl
      obtain ⟨M, hM, h4⟩ := h2 X (p0 + sg.length + 1) (n + 1) ts q e hX (by omega) (by rw [show p0 + sg.length + 1 + a.pt.length = p0 + (sg.length + (0 + 1) + a.pt.length) by omega, show n + 1 + a.px.length = n + (a.px.length + 1) by omega]; exact hl)
      refine ⟨⟨kk, sg, (p0 : Nat)⟩ :: M, by simp [hM], ?_⟩
      have := Lex.one (k := kk) (s := sg) (X := 32 :: (a.pt ++ X)) hc (.inr (.inl ⟨_, rfl⟩)) (show n ≠ 200 by omega) (Lex.blank h4)
      simpa [List.append_assoc] using this
    have hne : (Tr.un k p a).wr ≠ [] := by rw [Tr.wr_un]; split <;> simp
    exact ⟨⟨main, hne⟩, ⟨lexU_br main hne, by show [40] ++ (Tr.un k p a).wr ++ [41] ≠ []; simp⟩⟩
  | bin k p a b iha ihb =>
    simp only [Tr.ok, Bool.and_eq_true, decide_eq_true_eq] at h
    obtain ⟨_, h2, h3⟩ := iha h.1.2 hb.1
    obtain ⟨_, g2, g3⟩ := ihb h.2 hb.2
    have main : LexU (Tr.bin k p a b).wr (Tr.bin k p a b).tx := by
      rw [Tr.wr_bin, Tr.tx_bin]
      obtain ⟨kk, hc⟩ := op_tok k h.1.1.1
      generalize opB k = sg at hc
      intro X p0 n ts q e hX hn hl
      simp only [List.length_append, List.length_cons, List.length_nil] at hn hl
      obtain ⟨M, hM, h4⟩ := g2 X (p0 + a.pt.length + 1 + sg.length + 1) (n + a.px.length + 1) ts q e hX (by omega) (by
        rw [show p0 + a.pt.length + 1 + sg.length + 1 + b.pt.length = p0 + (a.pt.length + (0 + 1) + sg.length + (0 + 1) + b.pt.length) by omega, show n + a.px.length + 1 + b.px.length = n + (a.px.length + (0 + 1) + b.px.length) by omega]; exact hl)
      have h5 := Lex.one (k := kk) (s := sg) (X := 32 :: (b.pt ++ X)) hc (.inr (.inl ⟨_, rfl⟩)) (show n + a.px.length ≠ 200 by omega) (Lex.blank h4)
      obtain ⟨M2, hM2, h6⟩ := h2 (32 :: (sg ++ 32 :: (b.pt ++ X))) p0 n _ q e (.inr (.inl ⟨_, rfl⟩)) (by omega) (Lex.blank h5)
      refine ⟨M2 ++ (⟨kk, sg, ((p0 + a.pt.length + 1 : Nat) : Int)⟩ :: M), by simp [hM, hM2], ?_⟩
      simpa [List.append_assoc] using h6
    have hne : (Tr.bin k p a b).wr ≠ [] := by rw [Tr.wr_bin]; simp
    exact ⟨⟨main, hne⟩, ⟨lexU_br main hne, by show [40] ++ (Tr.bin k p a b).wr ++ [41] ≠ []; simp⟩⟩

theorem Lex.cap {l : List UInt8} {p n : Nat} {ts : List Tok} {q : Nat} {e : Int} (h : Lex l p n ts q e) : e = 0 → 200 < n → ∀ m, m ≤ 200 → (m + ts.length ≤ 200 → Lex l p m ts q 0) ∧ (200 < m + ts.length → ∃ ts' q', Lex l p m ts' q' 4) := by
  induction h with
  | @done l p n h1 =>
    intro _ _ m hm
    exact ⟨fun _ => .done h1, fun h => by simp at h; omega⟩
  | many _ => intro h; omega
  | err _ _ h3 => intro h; exact absurd h h3
  | @tok l p n m ts q e h1 h2 h3 h4 h5 ih =>
    intro he hn k hk
    by_cases hk2 : k = 200
    · subst hk2
      exact ⟨fun h => absurd h (by rw [List.length_cons]; omega), fun _ => ⟨_, _, .many (by rw [h1]; exact h2)⟩⟩
    · obtain ⟨i1, i2⟩ := ih he (by omega) (k + 1) (by omega)
      refine ⟨fun h => .tok h1 h2 hk2 h4 (i1 (by simp at h; omega)), fun h => ?_⟩
      obtain ⟨ts', q', h6⟩ := i2 (by simp at h; omega)
      exact ⟨_, _, .tok h1 h2 hk2 h4 h6⟩
theorem LexU.app {T1 T2 : List UInt8} {x1 x2 : List (List UInt8)} (h1 : LexU T1 x1) (h2 : LexU T2 x2) : LexU (T1 ++ 32 :: T2) (x1 ++ x2) := by
  intro X p n ts q e hX hn hl
  simp only [List.length_append, List.length_cons] at hn hl
  obtain ⟨M2, m2, g2⟩ := h2 X (p + T1.length + 1) (n + x1.length) ts q e hX (by omega) (by rw [show p + T1.length + 1 + T2.length = p + (T1.length + (T2.length + 1)) by omega, show n + x1.length + x2.length = n + (x1.length + x2.length) by omega]; exact hl)
  obtain ⟨M1, m1, g1⟩ := h1 (32 :: (T2 ++ X)) p n _ q e (.inr (.inl ⟨_, rfl⟩)) (by omega) (Lex.blank g2)
  refine ⟨M1 ++ M2, by simp [m1, m2], ?_⟩
  simpa [List.append_assoc] using g1
theorem LexU.one {k : Int} {s : List UInt8} (hc : checkE k s = 0) (he : ext (s ++ [41]) = (k, s.length)) : LexU s [s] := by
  intro X p n ts q e hX hn hl
  exact ⟨[⟨k, s, (p : Nat)⟩], rfl, Lex.one hc (hX.cases he) (by simp only [List.length_cons, List.length_nil] at hn; omega) hl⟩
theorem LexU.call {k : Int} {s T : List UInt8} {tx : List (List UInt8)} (hc : checkE k s = 0) (he : ext (s ++ [40]) = (k, s.length)) (h : LexU T tx) (hT : T ≠ []) : LexU (s ++ ([40] ++ T ++ [41])) ([s] ++ ([[40]] ++ tx ++ [[41]])) := by
  intro X p n ts q e hX hn hl
  have hb := lexU_br h hT
  rw [List.length_append] at hn hl
  obtain ⟨M, m, g⟩ := hb X (p + s.length) (n + 1) ts q e hX (by simp only [List.length_append, List.length_cons, List.length_nil] at hn ⊢; omega) (by
    have e1 := @List.length_append _ [s] ([[40]] ++ tx ++ [[41]])
    rw [e1, ← Nat.add_assoc, ← Nat.add_assoc] at hl
    exact hl)
  refine ⟨⟨k, s, (p : Nat)⟩ :: M, by rw [List.map_cons, m]; rfl, ?_⟩
  have := Lex.one (k := k) (s := s) (X := [40] ++ T ++ [41] ++ X) hc (.inr (.inr ⟨40, T ++ [41] ++ X, by simp, he⟩)) (show n ≠ 200 by simp only [List.length_append, List.length_cons, List.length_nil] at hn; omega) g
  simpa [List.append_assoc] using this
/-- Chunks joined by blanks. -/
theorem LexU.jn : ∀ (P : List (List UInt8 × List (List UInt8))), (∀ x ∈ P, LexU x.1 x.2) → P ≠ [] → LexU (jn (P.map (·.1))) (P.flatMap (·.2)) := by
  have key : ∀ (P : List (List UInt8 × List (List UInt8))) (T : List UInt8) (tx : List (List UInt8)), LexU T tx → (∀ x ∈ P, LexU x.1 x.2) → LexU (T ++ (P.map (·.1)).flatMap fun y => 32 :: y) (tx ++ P.flatMap (·.2)) := by
    intro P
    induction P with
    | nil => intro T tx h _; simpa using h
    | cons x P ih =>
      intro T tx h hP
      have h1 := LexU.app h (hP x List.mem_cons_self)
      have h2 := ih _ _ h1 (fun y hy => hP y (List.mem_cons_of_mem _ hy))
      simpa [List.append_assoc] using h2
  intro P hP h0
  cases P with
  | nil => exact absurd rfl h0
  | cons x P =>
    have := key P x.1 x.2 (hP x List.mem_cons_self) (fun y hy => hP y (List.mem_cons_of_mem _ hy))
    simpa [_root_.Go.Proofs.YtlmamidodahgmaaGreatDoor.jn] using this
/-- What such a text's tokens are. -/
theorem LexU.all {T : List UInt8} {tx : List (List UInt8)} (h : LexU T tx) (hT : T.length ≤ 400) : (∃ M : List Tok, M.map (·.s) = tx ∧ allF T = (M, T.length, 0)) ∨ ∃ q, allF T = ([], q, 4) := by
  obtain ⟨M, hM, h2⟩ := h [] 0 201 [] (0 + T.length) 0 (.inl rfl) (.inr (by omega)) (by have := @Lex.done [] (0 + T.length) (201 + tx.length) rfl; simpa [spanK] using this)
  rw [List.append_nil, List.append_nil] at h2
  obtain ⟨h3, h4⟩ := Lex.cap h2 rfl (by omega) 0 (by omega)
  rcases Nat.lt_or_ge 200 (0 + M.length) with hl | hl
  · obtain ⟨ts, q', h5⟩ := h4 hl
    have := allF_of hT h5
    exact .inr ⟨q', by simpa using this⟩
  · have h5 := h3 hl
    have := allF_of hT h5
    rw [if_pos rfl] at this
    have hq := Lex.fin h5 rfl
    refine .inl ⟨M, hM, ?_⟩
    rw [this, hq, Nat.zero_add]
end Go.Proofs.YtlmamidodahgmaaGreatDoor.P9
