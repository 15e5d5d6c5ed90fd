/- What a text is parsed as, for the laws. -/
import Derived.Test.YtlmamidodahgmaaGreatDoorPMath2
namespace Go.Proofs.YtlmamidodahgmaaGreatDoor.P9
open Go.RowKit N4 Q8
set_option linter.unusedVariables false
set_option maxRecDepth 100000

/-- An answer: an error is none of nothing, and what is left is an end of the tokens. -/
def Fine (s : List Tok) : PR → Prop
  | .ok _ p => p <:+ s
  | .er v p => v ≠ 0 ∧ p <:+ s
theorem Fine.bind {s : List Tok} {r : PR} {f : Qy → List Tok → PR} (h : Fine s r) (hf : ∀ q p, Fine p (f q p)) : Fine s (r.bind f) := by
  cases r with
  | ok q p =>
    have h2 := hf q p
    show Fine s (f q p)
    cases hr : f q p with
    | ok q' p' => rw [hr] at h2; exact h2.trans h
    | er v p' => rw [hr] at h2; exact ⟨h2.1, h2.2.trans h⟩
  | er v p => exact h
theorem fine_exp : ∀ (Ts : List (List UInt8)) (q : Qy) (s : List Tok), Fine s (expP Ts q s) := by
  intro Ts
  induction Ts with
  | nil => intro q s; exact List.suffix_refl _
  | cons T Ts ih =>
    intro q s
    rw [expP]
    split
    · have := ih q s.tail
      cases hr : expP Ts q s.tail with
      | ok q' p => rw [hr] at this; exact List.IsSuffix.trans this (List.tail_suffix s)
      | er v p => rw [hr] at this; exact ⟨this.1, this.2.trans (List.tail_suffix s)⟩
    · exact ⟨by decide, List.suffix_refl _⟩
theorem fine_tail {s : List Tok} {r : PR} (h : Fine s.tail r) : Fine s r := by
  cases r with
  | ok q p => exact List.IsSuffix.trans h (List.tail_suffix s)
  | er v p => exact ⟨h.1, h.2.trans (List.tail_suffix s)⟩
theorem fine_expr (f : List Nd → Qy) (s : List Tok) : Fine s (exprP f s) := by
  have h1 := (rdL_rd s).suf
  have h2 := fun v q => (rdL_rd s).er_ne (v := v) (q := q)
  unfold exprP
  cases hr : rdL s with
  | ok t p => rw [hr] at h1; exact h1
  | er v p => rw [hr] at h1; exact ⟨h2 _ _ hr, h1⟩
theorem fine_arg (q : Qy) (s : List Tok) : Fine s (argP q s) := by
  unfold argP
  split
  · exact fine_exp _ _ _
  · exact (fine_exp _ _ _).bind fun q p => (fine_expr _ _).bind fun q p => fine_exp _ _ _
theorem fine_agg (q : Qy) (s : List Tok) : Fine s (aggP q s) := by
  unfold aggP
  refine (fine_exp _ _ _).bind fun q p => ?_
  cases idxOf (txt p) aggs with
  | none => exact ⟨by decide, List.suffix_refl _⟩
  | some i => exact fine_tail (fine_arg _ _)
theorem fine_name (q : Qy) (s : List Tok) : Fine s (nameP q s) := by
  unfold nameP
  split
  · split
    · exact ⟨by decide, List.suffix_refl _⟩
    · exact List.tail_suffix s
  · exact ⟨by decide, List.suffix_refl _⟩
theorem fine_unions : ∀ (n : Nat) (q : Qy) (s : List Tok), s.length ≤ n → Fine s (unionsP s q) := by
  intro n
  induction n with
  | zero =>
    intro q s hn
    obtain rfl : s = [] := List.eq_nil_of_length_eq_zero (by omega)
    exact List.suffix_refl _
  | succ n ih =>
    intro q s hn
    match s, hn with
    | [], _ => exact List.suffix_refl _
    | [x], _ =>
      rw [unionsP]
      split
      · exact ⟨by decide, List.nil_suffix⟩
      · exact List.suffix_refl _
    | x :: y :: s, hn =>
      rw [unionsP]
      split
      · split
        · split
          · exact ⟨by decide, List.suffix_cons _ _⟩
          · exact fine_tail (s := x :: y :: s) (fine_tail (s := y :: s) (ih _ s (by simp at hn; omega)))
        · exact ⟨by decide, List.suffix_cons _ _⟩
      · exact List.suffix_refl _
theorem fine_from (q : Qy) (s : List Tok) : Fine s (fromP q s) := by
  unfold fromP
  refine (fine_exp _ _ _).bind fun q p => (fine_name _ _).bind fun q p => ?_
  split
  · exact fine_tail (fine_name _ _)
  · exact fine_unions _ _ _ (Nat.le_refl _)
theorem fine_where (q : Qy) (s : List Tok) : Fine s (whereP q s) := by
  unfold whereP
  split
  · exact fine_tail (fine_expr _ _)
  · exact List.suffix_refl _
theorem fine_num (f : Int → Int × Int × Int) (q : Qy) (s : List Tok) : Fine s (numP f q s) := by
  unfold numP
  split
  · split
    · exact List.tail_suffix s
    · exact ⟨by decide, List.suffix_refl _⟩
  · exact ⟨by decide, List.suffix_refl _⟩
theorem fine_win (q : Qy) (s : List Tok) : Fine s (winP q s) := by
  unfold winP
  refine (fine_exp _ _ _).bind fun q p => ?_
  cases idxOf (txt p) wins with
  | none => exact ⟨by decide, List.suffix_refl _⟩
  | some i =>
    simp only
    split
    · exact ⟨by decide, List.suffix_refl _⟩
    · refine fine_tail (Fine.bind ?_ fun q p => ?_)
      · unfold sizeP; exact (fine_num _ _ _).bind fun q p => List.suffix_refl _
      · split
        · unfold everyP; exact (fine_exp _ _ _).bind fun q p => fine_num _ _ _
        · exact List.suffix_refl _
theorem fine_key (q : Qy) (s : List Tok) : Fine s (keyP q s) := by
  unfold keyP
  split
  · exact fine_tail (fine_exp _ _ _)
  · exact List.suffix_refl _
theorem fine_late (q : Qy) (s : List Tok) : Fine s (lateP q s) := by
  unfold lateP
  split
  · cases idxOf (txt s.tail) lates with
    | none => exact ⟨by decide, List.tail_suffix s⟩
    | some i => exact (List.tail_suffix _).trans (List.tail_suffix s)
  · exact List.suffix_refl _
theorem fine_end (q : Qy) (s : List Tok) : Fine s (endP q s) := by
  cases s with
  | nil => exact List.suffix_refl _
  | cons x s => exact ⟨by decide, List.suffix_refl _⟩
theorem fine_pq (s : List Tok) : Fine s (pqF s) := by
  unfold pqF
  exact (fine_agg _ _).bind fun _ _ => (fine_from _ _).bind fun _ _ => (fine_where _ _).bind fun _ _ => (fine_win _ _).bind fun _ _ => (fine_key _ _).bind fun _ _ => (fine_late _ _).bind fun _ _ => fine_end _ _

theorem Lex.fin {l : List UInt8} {p n : Nat} {ts : List Tok} {q : Nat} {e : Int} (h : Lex l p n ts q e) : e = 0 → q = p + l.length := by
  induction h with
  | @done l p n h1 =>
    intro _
    have h2 := spanK_le 1 l
    have h3 := congrArg List.length h1
    rw [List.length_drop] at h3
    simp at h3
    omega
  | many _ => intro h; omega
  | err _ _ h3 => intro h; exact absurd h h3
  | @tok l p n m ts q e h1 h2 h3 h4 h5 ih =>
    intro he
    have hl : m.length = l.length - spanK 1 l := by rw [← h1, List.length_drop]
    have h6 := spanK_le 1 l
    have h7 := ext_le m
    have := ih he
    rw [List.length_drop] at this
    omega
theorem allF_0 {N : List UInt8} {L : List Tok} {n : Nat} (h : allF N = (L, n, 0)) : n = N.length ∧ N.length ≤ 400 ∧ Lex N 0 0 L n 0 := by
  by_cases hs : N.length ≤ 400
  · obtain ⟨ts, q, e, h1, h2⟩ := allF_lex N hs
    rw [h2] at h
    injection h with h3 h4
    injection h4 with h4 h5
    subst h5 h4
    rw [if_pos rfl] at h3
    subst h3
    exact ⟨by have := Lex.fin h1 rfl; omega, hs, h1⟩
  · rw [allF_big N (by omega)] at h
    injection h with _ h4
    injection h4 with _ h5
    omega
/-- The three ways. -/
theorem parF_ways (N : List UInt8) : (∃ L q ca cf cw cn ck cl, allF N = (L, N.length, 0) ∧ pqF L = .ok q [] ∧ Shp L q ca cf cw cn ck cl ∧ parF N = (q, (N.length : Int), 0)) ∨
    (∃ L v s, allF N = (L, N.length, 0) ∧ pqF L = .er v s ∧ v ≠ 0 ∧ s <:+ L ∧ parF N = (q0, placeP N.length s, v)) ∨ ∃ L n e, allF N = (L, n, e) ∧ e ≠ 0 ∧ parF N = (q0, (n : Int), e) := by
  obtain ⟨L, n, e, h⟩ : ∃ L n e, allF N = (L, n, e) := ⟨_, _, _, rfl⟩
  unfold parF
  rw [h]
  simp only
  by_cases he : e = 0
  · subst he
    obtain ⟨hn, _, _⟩ := allF_0 h
    subst hn
    rw [if_pos rfl]
    have hf := fine_pq L
    cases hp : pqF L with
    | ok q s =>
      obtain ⟨rfl, ca, cf, cw, cn, ck, cl, hs⟩ := pq_shape hp
      exact .inl ⟨L, q, ca, cf, cw, cn, ck, cl, rfl, hp, hs, rfl⟩
    | er v s =>
      rw [hp] at hf
      exact .inr (.inl ⟨L, v, s, rfl, hp, hf.1, hf.2, rfl⟩)
  · rw [if_neg he]
    exact .inr (.inr ⟨L, n, e, rfl, he, rfl⟩)
/-- What is small. -/
structure Small (q : Qy) : Prop where
  L : q.L.length ≤ 60
  M : q.M.length ≤ 60
  l : q.l.length ≤ 4
  s : q.s ≤ 9223372036854775807
theorem Small.zero : Small q0 := ⟨by decide, by decide, by decide, by decide⟩
theorem small_chk {q : Qy} (h : Q8.chkF q = 0) : Small q := by
  obtain ⟨_, h2, h3, h4, h5, _⟩ := (Q8.chk_zero q).1 h
  have key : ∀ L : List Nd, N4.checkF L = 0 → L.length ≤ 60 := by
    intro L hL
    obtain ⟨t, _, t2, t3⟩ := Tr.of_check hL
    rw [← t3, t.flat_length]
    exact (Tr.er_zero.1 t2).1
  refine ⟨?_, ?_, (srcF_zero.1 h4).1, ?_⟩
  · unfold argE at h2
    split at h2
    · rw [badE_zero] at h2; simp at h2; rw [h2]; decide
    · exact key _ h2
  · unfold whrE at h3
    split at h3
    · omega
    · exact key _ h3
  · unfold fitsW at h5
    simp only [Bool.and_eq_true] at h5
    have := inB_true.1 h5.1
    omega
theorem parF_chk {N : List UInt8} (h : (parF N).2.2 = 0) : Q8.chkF (parF N).1 = 0 := by
  rcases parF_ways N with ⟨L, q, ca, cf, cw, cn, ck, cl, ha, _, hs, hp⟩ | ⟨L, v, s, _, _, h0, _, hp⟩ | ⟨L, n, e, _, h0, hp⟩
  · rw [hp]
    refine hs.chk fun x hx => ?_
    have := (chk_zero (allF_chk N)).2.2 x
    rw [ha] at this
    exact this hx
  · rw [hp] at h; exact absurd h h0
  · rw [hp] at h; exact absurd h h0
theorem parF_small (N : List UInt8) : Small (parF N).1 := by
  rcases parF_ways N with ⟨L, q, ca, cf, cw, cn, ck, cl, ha, _, hs, hp⟩ | ⟨L, v, s, _, _, h0, _, hp⟩ | ⟨L, n, e, _, h0, hp⟩
  · exact small_chk (parF_chk (by rw [hp]))
  · rw [hp]; exact Small.zero
  · rw [hp]; exact Small.zero
theorem parF_er {N : List UInt8} (h : (parF N).2.2 ≠ 0) : (parF N).1 = q0 := by
  rcases parF_ways N with ⟨L, q, ca, cf, cw, cn, ck, cl, ha, _, hs, hp⟩ | ⟨L, v, s, _, _, h0, _, hp⟩ | ⟨L, n, e, _, h0, hp⟩
  · rw [hp] at h; exact absurd rfl h
  · rw [hp]
  · rw [hp]
theorem alQ_same {p q : Qy} (h : alQ p q) : sameQ p q = true := by
  obtain ⟨h1, h2, h3, h4, h5, h6, h7, h8, h9, h10⟩ := h
  simp [sameQ, alikeF, h1, h2, h3, h4, h5, h6, h7, h8, h9, h10]
theorem parF_al {N N' : List UInt8} {L L' : List Tok} {n n' : Nat} (h : allF N = (L, n, 0)) (h' : allF N' = (L', n', 0)) (hal : al L = al L') : (parF N).2.2 = (parF N').2.2 ∧ sameQ (parF N).1 (parF N').1 = true := by
  have := pq_al hal
  unfold parF
  rw [h, h']
  simp only [if_pos]
  cases hp : pqF L with
  | ok q s =>
    rw [hp] at this
    cases hp' : pqF L' with
    | ok q' s' => rw [hp'] at this; exact ⟨rfl, alQ_same this.1⟩
    | er v' s' => rw [hp'] at this; exact this.elim
  | er v s =>
    rw [hp] at this
    cases hp' : pqF L' with
    | ok q' s' => rw [hp'] at this; exact this.elim
    | er v' s' => rw [hp'] at this; exact ⟨this.1, alQ_same (alQ.refl _)⟩
end Go.Proofs.YtlmamidodahgmaaGreatDoor.P9
