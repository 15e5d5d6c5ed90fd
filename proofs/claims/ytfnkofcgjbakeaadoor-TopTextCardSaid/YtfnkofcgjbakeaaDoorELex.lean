
/- The tokens of a text with brackets. -/
import Derived.Test.YtfnkofcgjbakeaaDoorEMath2
namespace Go.Proofs.YtfnkofcgjbakeaaDoor
open Go.RowKit N4
set_option linter.unusedVariables false
set_option maxRecDepth 100000

/-- The texts of the tokens. -/
def Tr.tx : Tr → List (List UInt8)
  | .leaf k n _ => [leafT k n]
  | .un k _ a => sgnB (if k = 5 then 7 else 2) :: (match a with | .leaf k n _ => [leafT k n] | a => [[40]] ++ a.tx ++ [[41]])
  | .bin k _ a b => (match a with | .leaf k n _ => [leafT k n] | a => [[40]] ++ a.tx ++ [[41]]) ++ [opB k] ++ (match b with | .leaf k n _ => [leafT k n] | b => [[40]] ++ b.tx ++ [[41]])
def Tr.px : Tr → List (List UInt8)
  | .leaf k n _ => [leafT k n]
  | .un k p a => [[40]] ++ (Tr.un k p a).tx ++ [[41]]
  | .bin k p a b => [[40]] ++ (Tr.bin k p a b).tx ++ [[41]]
theorem Tr.tx_un (k p : Int) (a : Tr) : (Tr.un k p a).tx = sgnB (if k = 5 then 7 else 2) :: a.px := by cases a <;> rfl
theorem Tr.tx_bin (k p : Int) (a b : Tr) : (Tr.bin k p a b).tx = a.px ++ [opB k] ++ b.px := by cases a <;> cases b <;> rfl
theorem Tr.px_leaf {t : Tr} (h : t.isLeaf = true) : t.px = t.tx := by cases t <;> first | rfl | cases h
theorem Tr.px_no {t : Tr} (h : t.isLeaf = false) : t.px = [[40]] ++ t.tx ++ [[41]] := by cases t <;> first | rfl | cases h

/-- What may stand behind a token: nothing, a blank, a bracket. -/
def Bh (X : List UInt8) : Prop := X = [] ∨ (∃ Y, X = 32 :: Y) ∨ ∃ Y, X = 41 :: Y
theorem ext_full {k : Int} {s : List UInt8} (h : checkE k s = 0) : s ≠ [] ∧ ext s = (k, s.length) ∧ spanK 1 s = 0 := checkE_ok k s h
theorem Lex.one {k : Int} {s X : List UInt8} {p n ts q e} (hc : checkE k s = 0) (hX : X = [] ∨ (∃ Y, X = 32 :: Y) ∨ ∃ b Y, X = b :: Y ∧ ext (s ++ [b]) = (k, s.length)) (hn : n ≠ 200) (h : Lex X (p + s.length) (n + 1) ts q e) :
    Lex (s ++ X) p n (⟨k, s, (p : Nat)⟩ :: ts) q e := by
  obtain ⟨h0, h1, h2⟩ := ext_full hc
  have ht := tkE_ok k s hc
  rcases hX with rfl | ⟨Y, rfl⟩ | ⟨b, Y, rfl, hb⟩
  · have := Lex.first (X := []) h0 ht h2 hn (.inl rfl) (by rw [h1]; exact h)
    rw [h1] at this
    simpa using this
  · have := Lex.first (X := 32 :: Y) h0 ht h2 hn (.inr (.inl ⟨32, Y, rfl, by decide⟩)) (by rw [h1]; exact h)
    rw [h1] at this
    simpa using this
  · have hm : (s ++ [b]) ≠ [] := by simp
    have hta : (s ++ [b]).take (ext (s ++ [b])).2 = s := by rw [hb]; simp
    have htk : tkE (s ++ [b]) = 0 := by
      rw [tkE, hta, hb]; exact hc
    have hsp : spanK 1 (s ++ [b]) = 0 := by
      cases s with
      | nil => exact absurd rfl h0
      | cons c r =>
        rw [spanK] at h2
        rw [List.cons_append, spanK]
        split at h2
        · omega
        · rename_i hne; rw [if_neg hne]
    have := Lex.first (m := s ++ [b]) (X := b :: Y) hm htk hsp hn (.inr (.inr ⟨b, Y, [], rfl, by rw [hb]; simp⟩)) (by rw [hb]; exact h)
    rw [hta, hb] at this
    exact this
theorem Lex.blank {X : List UInt8} {p n ts q e} (h : Lex X (p + 1) n ts q e) : Lex (32 :: X) p n ts q e :=
  Lex.front (g := [32]) (by intro c hc; simp at hc; subst hc; decide) h

theorem long_open : ∀ n : Fin 256, ext [40, UInt8.ofNat n.val] = (3, 1) := by decide +kernel
theorem ext_open (b : UInt8) : ext ([40] ++ [b]) = (3, ([40] : List UInt8).length) := by
  have := long_open ⟨b.toNat, b.toNat_lt⟩
  rwa [show UInt8.ofNat b.toNat = b from by simp] at this
theorem span_dig (s : List UInt8) (h : ∀ c ∈ s, isDig c = true) (b : UInt8) (hb : kindB b ≠ 2) : spanK 2 (s ++ [b]) = s.length := by
  induction s with
  | nil => rw [List.nil_append, spanK, if_neg hb]; rfl
  | cons c r ih =>
    have hc : kindB c = 2 := by
      have := h c List.mem_cons_self
      have key : ∀ n : Fin 256, isDig (UInt8.ofNat n.val) = true → kindB (UInt8.ofNat n.val) = 2 := by decide +kernel
      have h2 := key ⟨c.toNat, c.toNat_lt⟩
      rw [show UInt8.ofNat c.toNat = c from by simp] at h2
      exact h2 this
    rw [List.cons_append, spanK_cons 2 c _ hc, ih (fun x hx => h x (List.mem_cons_of_mem _ hx))]; rfl
theorem ext_num {n : Int} (h0 : 0 ≤ n) (h1 : n ≤ 9223372036854775807) : ext (numT n ++ [41]) = (1, (numT n).length) := by
  obtain ⟨_, _, h2, h3, _⟩ := num_ok h0 h1
  have h4 := span_dig (numT n) h3 41 (by decide)
  cases hs : numT n with
  | nil => exact absurd hs h2
  | cons c r =>
    rw [hs] at h3 h4
    have hc : kindB c = 2 := by
      have := h3 c List.mem_cons_self
      have key : ∀ n : Fin 256, isDig (UInt8.ofNat n.val) = true → kindB (UInt8.ofNat n.val) = 2 := by decide +kernel
      have h2 := key ⟨c.toNat, c.toNat_lt⟩
      rw [show UInt8.ofNat c.toNat = c from by simp] at h2
      exact h2 this
    rw [List.cons_append, ext_cons2 c _ hc]
    rw [List.cons_append] at h4
    rw [h4]
theorem leafT_tok {k n : Int} (hk : 1 ≤ k ∧ k ≤ 4) (h0 : 0 ≤ n) (h1 : n ≤ 9223372036854775807) : ∃ kk, checkE kk (leafT k n) = 0 ∧ ext (leafT k n ++ [41]) = (kk, (leafT k n).length) := by
  unfold leafT
  by_cases h : k = 1
  · rw [if_pos h]
    exact ⟨1, by rw [checkE, if_pos rfl]; exact (num_ok h0 h1).1, ext_num h0 h1⟩
  · rw [if_neg h]
    have hk' : k = 2 ∨ k = 3 ∨ k = 4 := by omega
    rcases hk' with rfl | rfl | rfl
    · exact ⟨2, by decide +kernel, by decide +kernel⟩
    · exact ⟨2, by decide +kernel, by decide +kernel⟩
    · exact ⟨2, by decide +kernel, by decide +kernel⟩
theorem Bh.cases {X : List UInt8} (h : Bh X) {s : List UInt8} {k : Int} (hs : ext (s ++ [41]) = (k, s.length)) : X = [] ∨ (∃ Y, X = 32 :: Y) ∨ ∃ b Y, X = b :: Y ∧ ext (s ++ [b]) = (k, s.length) := by
  rcases h with h | h | ⟨Y, rfl⟩
  · exact .inl h
  · exact .inr (.inl h)
  · exact .inr (.inr ⟨41, Y, rfl, hs⟩)
theorem op_tok (k : Int) (hk : 7 ≤ k ∧ k ≤ 19) : ∃ kk, checkE kk (opB k) = 0 := by
  have key : ∀ m : Fin 13, ∃ kk, checkE kk (opB (7 + (m.val : Int))) = 0 := by
    have h : ∀ m : Fin 13, checkE 3 (opB (7 + (m.val : Int))) = 0 ∨ checkE 2 (opB (7 + (m.val : Int))) = 0 := by decide +kernel
    intro m
    rcases h m with h | h
    · exact ⟨3, h⟩
    · exact ⟨2, h⟩
  have := key ⟨(k - 7).toNat, by omega⟩
  rwa [show 7 + (((k - 7).toNat : Nat) : Int) = k by omega] at this

def LexP (T : List UInt8) (tx : List (List UInt8)) : Prop :=
  ∀ (X : List UInt8) (p n : Nat) (ts : List Tok) (q : Nat) (e : Int), Bh X → n + tx.length ≤ 200 → Lex X (p + T.length) (n + tx.length) ts q e →
    ∃ M : List Tok, M.map (·.s) = tx ∧ Lex (T ++ X) p n (M ++ ts) q e
theorem lex_brackets {T : List UInt8} {tx : List (List UInt8)} (h : LexP T tx) (hT : T ≠ []) : LexP ([40] ++ T ++ [41]) ([[40]] ++ tx ++ [[41]]) := by
  intro X p n ts q e hX hn hl
  simp only [List.length_append, List.length_cons, List.length_nil] at hn hl
  have h1 : Lex ([41] ++ X) (p + (1 + T.length)) (n + (1 + tx.length)) (⟨3, [41], ((p + (1 + T.length) : Nat) : Int)⟩ :: ts) q e :=
    Lex.one (by decide +kernel) (Bh.cases hX (by decide +kernel)) (by omega) (by simpa [Nat.add_assoc, Nat.add_comm, Nat.add_left_comm] using hl)
  obtain ⟨M, hM, h2⟩ := h ([41] ++ X) (p + 1) (n + 1) _ q e (.inr (.inr ⟨X, rfl⟩)) (by omega) (by rw [show p + 1 + T.length = p + (1 + T.length) by omega, show n + 1 + tx.length = n + (1 + tx.length) by omega]; exact h1)
  refine ⟨⟨3, [40], (p : Nat)⟩ :: (M ++ [⟨3, [41], ((p + (1 + T.length) : Nat) : Int)⟩]), by simp [hM], ?_⟩
  cases T with
  | nil => exact absurd rfl hT
  | cons b T =>
    have := Lex.one (k := 3) (s := [40]) (X := (b :: T) ++ ([41] ++ X)) (by decide +kernel) (.inr (.inr ⟨b, T ++ ([41] ++ X), rfl, ext_open b⟩)) (show n ≠ 200 by omega) h2
    simpa [List.append_assoc] using this
theorem leafT_ne {k n : Int} (hk : 1 ≤ k ∧ k ≤ 4) (h0 : 0 ≤ n) (h1 : n ≤ 9223372036854775807) : leafT k n ≠ [] := by
  obtain ⟨kk, h, _⟩ := leafT_tok hk h0 h1
  exact (ext_full h).1
theorem lex_leaf {k n : Int} (hk : 1 ≤ k ∧ k ≤ 4) (h0 : 0 ≤ n) (h1 : n ≤ 9223372036854775807) : LexP (leafT k n) [leafT k n] := by
  intro X p m ts q e hX hn hl
  obtain ⟨kk, hc, he⟩ := leafT_tok hk h0 h1
  exact ⟨[⟨kk, leafT k n, (p : Nat)⟩], rfl, Lex.one hc (hX.cases he) (by simp at hn; omega) hl⟩
theorem Tr.ok_leaf {k n p : Int} (h : (Tr.leaf k n p).ok = true) : (1 ≤ k ∧ k ≤ 4) ∧ 0 ≤ n := by
  simp only [Tr.ok, fitsF, Bool.and_eq_true, Bool.or_eq_true, decide_eq_true_eq] at h
  exact ⟨⟨h.1.1, h.1.2⟩, by omega⟩
theorem lex_tree (t : Tr) (h : t.ok = true) (hb : t.big) : (LexP t.wr t.tx ∧ t.wr ≠ []) ∧ (LexP t.pt t.px ∧ t.pt ≠ []) := by
  induction t with
  | leaf k n p =>
    obtain ⟨hk, h0⟩ := Tr.ok_leaf h
    exact ⟨⟨lex_leaf hk h0 hb, leafT_ne hk h0 hb⟩, ⟨lex_leaf hk h0 hb, leafT_ne hk h0 hb⟩⟩
  | un k p a ih =>
    simp only [Tr.ok, Bool.and_eq_true, decide_eq_true_eq] at h
    obtain ⟨_, h2, h3⟩ := ih h.2 hb
    have main : LexP (Tr.un k p a).wr (Tr.un k p a).tx := by
      rw [Tr.wr_un, Tr.tx_un]
      have hs : ∃ kk, checkE kk (sgnB (if k = 5 then 7 else 2)) = 0 ∧ (if k = 5 then ([45, 32] : List UInt8) else [110, 111, 116, 32]) = sgnB (if k = 5 then 7 else 2) ++ [32] := by
        by_cases h5 : k = 5
        · rw [if_pos h5, if_pos h5]; exact ⟨3, by decide +kernel, rfl⟩
        · rw [if_neg h5, if_neg h5]; exact ⟨2, by decide +kernel, rfl⟩
      obtain ⟨kk, hc, he⟩ := hs
      rw [he]
      generalize sgnB (if k = 5 then 7 else 2) = sg at hc
      intro X p0 n ts q e hX hn hl
      simp only [List.length_append, List.length_cons, List.length_nil] at hn hl
      obtain ⟨M, hM, h4⟩ := h2 X (p0 + sg.length + 1) (n + 1) ts q e hX (by omega) (by rw [show p0 + sg.length + 1 + a.pt.length = p0 + (sg.length + (0 + 1) + a.pt.length) by omega, show n + 1 + a.px.length = n + (a.px.length + 1) by omega]; exact hl)
      refine ⟨⟨kk, sg, (p0 : Nat)⟩ :: M, by simp [hM], ?_⟩
      have := Lex.one (k := kk) (s := sg) (X := 32 :: (a.pt ++ X)) hc (.inr (.inl ⟨_, rfl⟩)) (show n ≠ 200 by omega) (Lex.blank h4)
      simpa [List.append_assoc] using this
    have hne : (Tr.un k p a).wr ≠ [] := by rw [Tr.wr_un]; split <;> simp
    exact ⟨⟨main, hne⟩, ⟨lex_brackets main hne, by show [40] ++ (Tr.un k p a).wr ++ [41] ≠ []; simp⟩⟩
  | bin k p a b iha ihb =>
    simp only [Tr.ok, Bool.and_eq_true, decide_eq_true_eq] at h
    obtain ⟨_, h2, h3⟩ := iha h.1.2 hb.1
    obtain ⟨_, g2, g3⟩ := ihb h.2 hb.2
    have main : LexP (Tr.bin k p a b).wr (Tr.bin k p a b).tx := by
      rw [Tr.wr_bin, Tr.tx_bin]
      obtain ⟨kk, hc⟩ := op_tok k h.1.1.1
      generalize opB k = sg at hc
      intro X p0 n ts q e hX hn hl
      simp only [List.length_append, List.length_cons, List.length_nil] at hn hl
      obtain ⟨M, hM, h4⟩ := g2 X (p0 + a.pt.length + 1 + sg.length + 1) (n + a.px.length + 1) ts q e hX (by omega) (by
        rw [show p0 + a.pt.length + 1 + sg.length + 1 + b.pt.length = p0 + (a.pt.length + (0 + 1) + sg.length + (0 + 1) + b.pt.length) by omega, show n + a.px.length + 1 + b.px.length = n + (a.px.length + (0 + 1) + b.px.length) by omega]; exact hl)
      have h5 := Lex.one (k := kk) (s := sg) (X := 32 :: (b.pt ++ X)) hc (.inr (.inl ⟨_, rfl⟩)) (show n + a.px.length ≠ 200 by omega) (Lex.blank h4)
      obtain ⟨M2, hM2, h6⟩ := h2 (32 :: (sg ++ 32 :: (b.pt ++ X))) p0 n _ q e (.inr (.inl ⟨_, rfl⟩)) (by omega) (Lex.blank h5)
      refine ⟨M2 ++ (⟨kk, sg, ((p0 + a.pt.length + 1 : Nat) : Int)⟩ :: M), by simp [hM, hM2], ?_⟩
      simpa [List.append_assoc] using h6
    have hne : (Tr.bin k p a b).wr ≠ [] := by rw [Tr.wr_bin]; simp
    exact ⟨⟨main, hne⟩, ⟨lex_brackets main hne, by show [40] ++ (Tr.bin k p a b).wr ++ [41] ≠ []; simp⟩⟩
/-- The tokens of the text of an expression. -/
theorem lex_whole {T : List UInt8} {tx : List (List UInt8)} (h : LexP T tx) (hn : tx.length ≤ 200) : ∃ (M : List Tok) (q : Nat), M.map (·.s) = tx ∧ Lex T 0 0 M q 0 := by
  obtain ⟨M, hM, h2⟩ := h [] 0 0 [] (0 + T.length) 0 (.inl rfl) (by omega) (by have := @Lex.done [] (0 + T.length) (0 + tx.length) rfl; simpa [spanK] using this)
  exact ⟨M, _, hM, by simpa using h2⟩
end Go.Proofs.YtfnkofcgjbakeaaDoor
