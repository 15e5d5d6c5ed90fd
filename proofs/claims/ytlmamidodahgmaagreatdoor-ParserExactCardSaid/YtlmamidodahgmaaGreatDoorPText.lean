/- The text of a query: what its tokens are, and what it is parsed as. -/
import Derived.Test.YtlmamidodahgmaaGreatDoorPBack
import Derived.Test.YtlmamidodahgmaaGreatDoorED
namespace Go.Proofs.YtlmamidodahgmaaGreatDoor.P9
open Go.RowKit N4 Q8
set_option linter.unusedVariables false
set_option maxRecDepth 100000

abbrev Ch := List UInt8 × List (List UInt8)
def one (s : List UInt8) : Ch := (s, [s])
def srcCh (j : Bool) : List Int → List Ch
  | [] => []
  | v :: l => one (nmB v) :: l.flatMap fun u => [one (if j then k_join else k_union), one (nmB u)]
def argT (g : Int) (t : Tr) : List UInt8 := if g = 1 then [42] else t.wr
def chunks (q : Qy) (ta tm : Tr) : List Ch :=
  [one k_select, (aggB q.g ++ ([40] ++ argT q.g ta ++ [41]), [aggB q.g] ++ ([[40]] ++ (if q.g = 1 then [[42]] else ta.tx) ++ [[41]])), one k_from] ++
  (srcCh q.j q.l ++ ((if !q.M.isEmpty then [one k_where, (tm.wr, tm.tx)] else []) ++ ([one k_window, one (winB q.k), one (numT q.s)] ++ ((if q.k = 2 then [one k_every, one (numT q.v)] else []) ++ ((if q.y then [one k_by, one k_key] else []) ++ (if q.t = 2 then [one k_late, one k_side] else []))))))
def textQ (q : Qy) (ta tm : Tr) : List UInt8 := jn ((chunks q ta tm).map (·.1))
theorem srcCh_words (j : Bool) (l : List Int) : (srcCh j l).flatMap (·.2) = srcW j l := by
  cases l with
  | nil => rfl
  | cons v l =>
    show [nmB v] ++ (List.flatMap _ _) = nmB v :: _
    rw [List.flatMap_assoc]; rfl
theorem chunks_words (q : Qy) (ta tm : Tr) : (chunks q ta tm).flatMap (·.2) = wordsQ q ta tm := by
  unfold chunks wordsQ aggW fromW whereW winW keyW lateW
  simp only [List.flatMap_append, srcCh_words]
  cases q.M.isEmpty <;> cases q.y <;> by_cases h1 : q.k = 2 <;> by_cases h2 : q.t = 2 <;> simp [h1, h2, one, List.flatMap_cons]
theorem word_u {s : List UInt8} (h : s ∈ [k_select, k_from, k_join, k_union, k_where, k_window, k_tumble, k_slide, k_session, k_every, k_by, k_key, k_late, k_side, [97], [98], [99], [100]]) : LexU s [s] := by
  have key : ∀ s ∈ [k_select, k_from, k_join, k_union, k_where, k_window, k_tumble, k_slide, k_session, k_every, k_by, k_key, k_late, k_side, [97], [98], [99], [100]], checkE 2 s = 0 ∧ ext (s ++ [41]) = (2, s.length) := by decide +kernel
  exact LexU.one (key s h).1 (key s h).2
theorem nm_mem (v : Int) : nmB v ∈ [[97], [98], [99], [100]] := by
  unfold nmB; repeat' split
  all_goals simp
theorem num_u {n : Int} (h0 : 0 ≤ n) (h1 : n ≤ 9223372036854775807) : LexU (numT n) [numT n] := by
  have := lexU_leaf (k := 1) (n := n) (by decide) h0 h1
  rwa [show leafT 1 n = numT n from if_pos rfl] at this
theorem chunks_u {q : Qy} {ta tm : Tr} (h : Trees q ta tm) : ∀ x ∈ chunks q ta tm, LexU x.1 x.2 := by
  obtain ⟨hgt, _, _, _, hfit, _⟩ := (Q8.chk_zero q).1 h.chk
  obtain ⟨hs, hk, h2, hn2, _⟩ := fits_small hfit
  have hg := inB_true.1 hgt.1
  have W : ∀ s ∈ [k_select, k_from, k_join, k_union, k_where, k_window, k_tumble, k_slide, k_session, k_every, k_by, k_key, k_late, k_side, [97], [98], [99], [100]], LexU (one s).1 (one s).2 := fun s hs => word_u hs
  have N : ∀ v, LexU (one (nmB v)).1 (one (nmB v)).2 := fun v => W _ (by have := nm_mem v; simp at this ⊢; rcases this with h | h | h | h <;> simp [h])
  intro x hx
  unfold chunks at hx
  simp only [List.mem_append] at hx
  rcases hx with hx | hx | hx | hx | hx | hx | hx
  · simp only [List.mem_cons, List.not_mem_nil, or_false] at hx
    rcases hx with rfl | rfl | rfl
    · exact W _ (by decide)
    · have ha : checkE 2 (aggB q.g) = 0 ∧ ext (aggB q.g ++ [40]) = (2, (aggB q.g).length) := by
        have hv : q.g = 1 ∨ q.g = 2 ∨ q.g = 3 ∨ q.g = 4 := by omega
        rcases hv with e | e | e | e <;> rw [e] <;> decide +kernel
      have hu : LexU (argT q.g ta) (if q.g = 1 then [[42]] else ta.tx) ∧ argT q.g ta ≠ [] := by
        unfold argT
        by_cases h1 : q.g = 1
        · rw [if_pos h1, if_pos h1]; exact ⟨LexU.one (k := 3) (by decide +kernel) (by decide +kernel), by decide⟩
        · rw [if_neg h1, if_neg h1]; exact (lexU_tree ta (h.a h1).ok (h.a h1).big).1
      exact LexU.call ha.1 ha.2 hu.1 hu.2
    · exact W _ (by decide)
  · cases hl : q.l with
    | nil => rw [hl] at hx; simp [srcCh] at hx
    | cons v l =>
      rw [hl] at hx
      unfold srcCh at hx
      rcases List.mem_cons.1 hx with rfl | hx
      · exact N v
      · obtain ⟨u, _, hu⟩ := List.mem_flatMap.1 hx
        simp only [List.mem_cons, List.not_mem_nil, or_false] at hu
        rcases hu with rfl | rfl
        · cases q.j
          · exact W _ (by decide)
          · exact W _ (by decide)
        · exact N u
  · cases hM : q.M.isEmpty
    · rw [hM] at hx
      rcases List.mem_cons.1 hx with rfl | hx
      · exact W _ (by decide)
      · rcases List.mem_cons.1 hx with rfl | hx
        · have hm := h.m (by intro e; rw [e] at hM; cases hM)
          exact (lexU_tree tm hm.ok hm.big).1.1
        · simp at hx
    · rw [hM] at hx; simp at hx
  · simp only [List.mem_cons, List.not_mem_nil, or_false] at hx
    rcases hx with rfl | rfl | rfl
    · exact W _ (by decide)
    · have hv : q.k = 1 ∨ q.k = 2 ∨ q.k = 3 := by omega
      rcases hv with e | e | e <;> rw [e] <;> exact W _ (by decide)
    · exact num_u (by omega) (by omega)
  · by_cases hk2 : q.k = 2
    · rw [if_pos hk2] at hx
      have := h2 hk2
      rcases List.mem_cons.1 hx with rfl | hx
      · exact W _ (by decide)
      · rcases List.mem_cons.1 hx with rfl | hx
        · exact num_u (by omega) (by omega)
        · simp at hx
    · rw [if_neg hk2] at hx; simp at hx
  · cases hy : q.y
    · rw [hy] at hx; simp at hx
    · rw [hy] at hx
      rcases List.mem_cons.1 hx with rfl | hx
      · exact W _ (by decide)
      · rcases List.mem_cons.1 hx with rfl | hx
        · exact W _ (by decide)
        · simp at hx
  · by_cases ht2 : q.t = 2
    · rw [if_pos ht2] at hx
      rcases List.mem_cons.1 hx with rfl | hx
      · exact W _ (by decide)
      · rcases List.mem_cons.1 hx with rfl | hx
        · exact W _ (by decide)
        · simp at hx
    · rw [if_neg ht2] at hx; simp at hx
theorem text_u {q : Qy} {ta tm : Tr} (h : Trees q ta tm) : LexU (textQ q ta tm) (wordsQ q ta tm) := by
  rw [← chunks_words]
  exact LexU.jn _ (chunks_u h) (by unfold chunks; simp)
/-- What it is parsed as. -/
theorem text_ways {q : Qy} {ta tm : Tr} (h : Trees q ta tm) : (400 < (textQ q ta tm).length ∧ parF (textQ q ta tm) = (q0, 0, 4)) ∨
    ((textQ q ta tm).length ≤ 400 ∧ ∃ n : Nat, allF (textQ q ta tm) = ([], n, 4) ∧ parF (textQ q ta tm) = (q0, (n : Int), 4)) ∨
    ((textQ q ta tm).length ≤ 400 ∧ ∃ M q' ca cf cw cn ck cl, allF (textQ q ta tm) = (M, (textQ q ta tm).length, 0) ∧ parF (textQ q ta tm) = (q', ((textQ q ta tm).length : Int), 0) ∧ alQ q' q ∧ Shp M q' ca cf cw cn ck cl) := by
  have hu := text_u h
  have hw := @pq_back q ta tm h
  generalize textQ q ta tm = T at hu
  generalize wordsQ q ta tm = tx at hu hw
  rcases Nat.lt_or_ge 400 T.length with hT | hT
  · refine .inl ⟨hT, ?_⟩
    unfold parF
    rw [allF_big T hT]
    exact if_neg (by decide)
  · rcases hu.all hT with ⟨M, hM, ha⟩ | ⟨n, ha⟩
    · obtain ⟨q', hp, hal⟩ := hw hM
      obtain ⟨_, ca, cf, cw, cn, ck, cl, hs⟩ := pq_shape hp
      refine .inr (.inr ⟨hT, M, q', ca, cf, cw, cn, ck, cl, ha, ?_, hal, hs⟩)
      unfold parF
      rw [ha]
      simp only [if_pos]
      rw [hp]
    · refine .inr (.inl ⟨hT, n, ha, ?_⟩)
      unfold parF
      rw [ha]
      exact if_neg (show ¬ ((4 : Int) = 0) by decide)
theorem sameQ_par {p q : Qy} (h : sameQ p q = true) : par p = par q := by
  simp only [sameQ, Bool.and_eq_true, decide_eq_true_eq, alikeF] at h
  obtain ⟨h1, h2, _, _, h5, _⟩ := h
  have e2 := congrArg List.length h2
  have e5 := congrArg List.length h5
  rw [List.length_map, List.length_map] at e2 e5
  unfold par
  rw [h1, e2, e5]
/-- Without one of its tokens it is none, or another one. -/
theorem cut_par {N : List UInt8} {L : List Tok} {n : Nat} (h : allF N = (L, n, 0)) {q p : Qy} {ca cf cw cn ck cl : List Tok} (hs : Shp L p ca cf cw cn ck cl) (hal : alQ p q) {i : Nat} (hi : i < L.length) {T : List UInt8} {f : Int} (hj : joinF (L.take i ++ L.drop (i + 1)) = (T, f)) :
    (f = 18) ∨ (f = 0 ∧ T.length ≤ 400 ∧ ((parF T).2.2 ≠ 0 ∨ sameQ (parF T).1 q = false)) := by
  obtain ⟨_, _, hL⟩ := allF_0 h
  have hv := hL.valid
  have hlen := (chk_zero (allF_chk N)).1
  rw [h] at hlen
  simp only at hlen
  have hv' : ∀ t ∈ L.take i ++ L.drop (i + 1), checkE t.k t.s = 0 := fun t ht => by
    rcases List.mem_append.1 ht with ht | ht
    · exact hv t (List.mem_of_mem_take ht)
    · exact hv t (List.mem_of_mem_drop ht)
  have hl' : (L.take i ++ L.drop (i + 1)).length + 1 = L.length := by rw [List.length_append, List.length_take, List.length_drop]; omega
  generalize L.take i ++ L.drop (i + 1) = K at hj hv' hl'
  unfold joinF at hj
  rw [if_neg (by omega), if_pos (okL_all K hv')] at hj
  by_cases hb : 400 < (jn (K.map (·.s))).length
  · rw [if_pos hb] at hj; injection hj with _ e; exact .inl e.symm
  · rw [if_neg hb] at hj
    injection hj with e1 e2
    subst e1 e2
    refine .inr ⟨rfl, by omega, ?_⟩
    obtain ⟨ts, h6, h7⟩ := Lex.join K hv' (by omega)
    have hf := allF_of (s := jn (K.map (·.s))) (by omega) h6
    rw [if_pos rfl] at hf
    have hts : ts.length = K.length := al_length h7
    rcases parF_ways (jn (K.map (·.s))) with ⟨L2, q2, da, df, dw, dn, dk, dl, ha, _, hs2, hp⟩ | ⟨L2, v, s, _, _, h0, _, hp⟩ | ⟨L2, n2, e, _, h0, hp⟩
    · refine .inr ?_
      rw [hp]
      show sameQ q2 q = false
      rw [hf] at ha
      injection ha with ha _
      subst ha
      cases hsm : sameQ q2 q with
      | false => rfl
      | true =>
        have p1 := sameQ_par hsm
        have p2 := sameQ_par (alQ_same hal)
        have p3 := hs.par
        have p4 := hs2.par
        rw [p1, hts] at p4
        rw [p2] at p3
        omega
    · exact .inl (by rw [hp]; exact h0)
    · exact .inl (by rw [hp]; exact h0)
end Go.Proofs.YtlmamidodahgmaaGreatDoor.P9
