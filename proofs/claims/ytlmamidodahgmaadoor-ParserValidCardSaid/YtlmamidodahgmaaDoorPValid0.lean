/- A text cut in front of its last token. -/
import Derived.Test.YtlmamidodahgmaaDoorPLaw0
namespace Go.Proofs.YtlmamidodahgmaaDoor.P9
open Go.RowKit N4 Q8
set_option linter.unusedVariables false
set_option maxRecDepth 100000

theorem Lex.cut {l : List UInt8} {p n : Nat} {ts : List Tok} {q : Nat} {e : Int} (h : Lex l p n ts q e) : ∀ (ts' : List Tok) (t : Tok), ts = ts' ++ [t] → ∃ x : Nat, t.a = ((p + x : Nat) : Int) ∧ x ≤ l.length ∧ Lex (l.take x) p n ts' (p + x) 0 := by
  induction h with
  | done _ => intro ts' t h; simp at h
  | many _ => intro ts' t h; simp at h
  | err _ _ _ => intro ts' t h; simp at h
  | @tok l p n m ts q e h1 h2 h3 h4 h5 ih =>
    intro ts' t ht
    subst h1
    have hle := ext_le (l.drop (spanK 1 l))
    have hsl := spanK_le 1 l
    have hml : (l.drop (spanK 1 l)).length = l.length - spanK 1 l := List.length_drop
    cases ts' with
    | nil =>
      rw [List.nil_append] at ht
      injection ht with ht _
      subst ht
      exact ⟨spanK 1 l, rfl, hsl, Lex.done_take l p n _ (Nat.le_refl _)⟩
    | cons u ts' =>
      rw [List.cons_append] at ht
      injection ht with hu ht
      subst hu
      obtain ⟨x, hx, hxl, hp⟩ := ih ts' t ht
      rw [List.length_drop] at hxl
      refine ⟨spanK 1 l + (ext (l.drop (spanK 1 l))).2 + x, by rw [hx]; congr 1; omega, by omega, ?_⟩
      have hap : Apart (l.drop (spanK 1 l)) (((l.drop (spanK 1 l)).drop (ext (l.drop (spanK 1 l))).2).take x) := by
        cases x with
        | zero => exact .inl rfl
        | succ x =>
          cases hc : (l.drop (spanK 1 l)).drop (ext (l.drop (spanK 1 l))).2 with
          | nil => exact .inl rfl
          | cons b Z => exact .inr (.inr ⟨b, Z.take x, Z, by rw [List.take_succ_cons], hc⟩)
      have hf := Lex.first h2 h4 (spanK_drop 1 l) h3 hap hp
      have hfr := @Lex.front (l.take (spanK 1 l)) _ p n _ _ _ (spanK_all 1 l) (by rw [List.length_take, Nat.min_eq_left hsl]; exact hf)
      have e1 : l.take (spanK 1 l + (ext (l.drop (spanK 1 l))).2 + x) = l.take (spanK 1 l) ++ ((l.drop (spanK 1 l)).take (ext (l.drop (spanK 1 l))).2 ++ ((l.drop (spanK 1 l)).drop (ext (l.drop (spanK 1 l))).2).take x) := by
        rw [Nat.add_assoc, List.take_add, List.take_add]
      rw [e1, show p + (spanK 1 l + (ext (l.drop (spanK 1 l))).2 + x) = p + spanK 1 l + (ext (l.drop (spanK 1 l))).2 + x by omega]
      exact hfr
/-- Without its last token it is none. -/
theorem valid_cut {N : List UInt8} {L : List Tok} {q : Qy} {ca cf cw cn ck cl : List Tok} (h : allF N = (L, N.length, 0)) (hs : Shp L q ca cf cw cn ck cl) :
    ∃ (t : Tok) (x : Nat), L[L.length - 1]? = some t ∧ 0 < L.length ∧ t.a = (x : Int) ∧ x ≤ N.length ∧ (parF (N.take x)).2.2 ≠ 0 := by
  obtain ⟨_, h400, hL⟩ := allF_0 h
  have hlen := hs.long
  obtain ⟨ts', t, hts⟩ : ∃ ts' t, L = ts' ++ [t] := ⟨L.dropLast, L.getLast (by intro e; rw [e] at hlen; simp at hlen), (List.dropLast_concat_getLast _).symm⟩
  obtain ⟨x, hx, hxl, hp⟩ := Lex.cut hL ts' t hts
  obtain ⟨v, s, hd⟩ := hs.drop
  refine ⟨t, x, by rw [hts]; simp, by omega, by rw [hx]; simp, hxl, ?_⟩
  have hf := allF_of (s := N.take x) (by rw [List.length_take]; omega) hp
  rw [if_pos rfl] at hf
  have hdl : L.dropLast = ts' := by rw [hts]; simp
  rw [hdl] at hd
  have hv := fine_pq ts'
  rw [hd] at hv
  unfold parF
  rw [hf]
  simp only [if_pos]
  rw [hd]
  exact hv.1
end Go.Proofs.YtlmamidodahgmaaDoor.P9
