/- A slice of tokens of its own whose whole block is tokens: what lies elsewhere stays when tokens are appended. -/
import Derived.Test.YtoobggcopoljcaaDoorENm1
namespace Go.Proofs.YtoobggcopoljcaaDoor
open Go.ChangeShapes Go.WideShapes Go.ChangeAt Go.RowKit N4
set_option linter.unusedVariables false
set_option maxRecDepth 100000

def OwT (V : Nat) (W : World) (v : Value) (n : Nat) (L : List Tok) : Prop :=
  ∃ g cap T, v = .slice (some ⟨g, 0, none⟩) n cap ∧ V + 1 ≤ g ∧ W.heap[g]? = some (.cells (tokCells T).toArray 33 (0, 0)) ∧ T.length = cap ∧ n ≤ cap ∧ cap ≤ maxLen ∧ T.take n = L
theorem tok_take {T : List Tok} {n : Nat} (h : n ≤ T.length) : (tokCells T).take (n * 3) = tokCells (T.take n) := by
  have hl : (tokCells (T.take n)).length = n * 3 := by rw [tokCells_length, List.length_take, Nat.min_eq_left h]
  have h1 : tokCells T = tokCells (T.take n) ++ tokCells (T.drop n) := by rw [← tok_app, List.take_append_drop]
  rw [h1, List.take_left' hl]
theorem tok_drop {T : List Tok} {n : Nat} (h : n ≤ T.length) : (tokCells T).drop (n * 3) = tokCells (T.drop n) := by
  have hl : (tokCells (T.take n)).length = n * 3 := by rw [tokCells_length, List.length_take, Nat.min_eq_left h]
  have h1 : tokCells T = tokCells (T.take n) ++ tokCells (T.drop n) := by rw [← tok_app, List.take_append_drop]
  rw [h1, List.drop_left' hl]
theorem OwT.ow {V : Nat} {W : World} {v : Value} {n : Nat} {L : List Tok} (h : OwT V W v n L) : Ow V W v n L := by
  obtain ⟨g, cap, T, rfl, h1, h2, h3, h4, h5, h6⟩ := h
  have hl : L.length = n := by rw [← h6, List.length_take]; omega
  refine ⟨⟨by rw [tokCells_length, hl], .inr ⟨g, cap, _, rfl, h1, h2, h4, h5, by simp [tokCells_length, h3], ?_⟩⟩, hl⟩
  show List.take (n * 3) (tokCells T) = _
  rw [tok_take (by omega), h6]
theorem OwT.step {V : Nat} {W W' : World} {v : Value} {n : Nat} {L : List Tok} (h : OwT V W v n L) (hb : Below W.heap.size W W') : OwT V W' v n L := by
  obtain ⟨g, cap, T, rfl, h1, h2, h3⟩ := h
  exact ⟨g, cap, T, rfl, h1, by rw [hb.block g (Array.getElem?_eq_some_iff.1 h2).1]; exact h2, h3⟩
theorem owt_lit (V : Nat) (W : World) (hV : V < W.heap.size) : OwT V (W.alloc (.cells #[] 33)) (.slice (some ⟨W.heap.size, 0, none⟩) 0 0) 0 [] :=
  ⟨W.heap.size, 0, [], rfl, hV, heap_alloc_new W _, rfl, Nat.le_refl _, Nat.zero_le _, rfl⟩
theorem zero_toks (k : Nat) : Builtin.zeroCells #[.int .u8 0, .string ByteArray.empty, .int .i64 0] k = (tokCells (List.replicate k ⟨0, [], 0⟩)).toArray := by
  have := made_tok k
  apply Array.toList_inj.1
  rw [← this]
  simp [Builtin.zeroCells, madeCells]
theorem run_app_T (w : World) (ty : TypeId) (V : Nat) (v : Value) (n : Nat) (L : List Tok) (ho : OwT V w v n L) (A : Option Addr) (m c : Nat) (M : List Tok) (hs : Src w A m c M) (hsum : n + m ≤ 100000) (hV : V < w.heap.size) :
    ∃ v' w', (Builtin.append_ #[25, 25] ty #[v, .slice A m c]).run Tryd.prog w = .ok v' w' ∧ OwT V w' v' (n + m) (L ++ M) ∧ w.grownBy w' v.ownBlock := by
  have how := ho.ow
  obtain ⟨ht, hm, hA⟩ := hs
  obtain ⟨i0, hi0, hz0, hz1, hz2⟩ := info_parts tok_info
  rcases hA with ⟨rfl, rfl, rfl⟩ | ⟨ad, rfl⟩
  · have hM : M = [] := List.eq_nil_of_length_eq_zero hm
    subst hM
    exact ⟨v, w, run_append_owned_none w (V + 1) _ ty _ i0 3 Tryd.underlying25 hi0 v n _ how.1, by simpa using ho, ⟨rfl, rfl, rfl, Nat.le_refl _, fun k _ _ => rfl⟩⟩
  · have hnews : ∀ j u, (tokCells M)[j]? = some u → w.cell? (ad.add j) = some u := by
      rcases ht with h0 | ⟨ad', h1, _, h3⟩
      · subst h0; intro j u hu; simp [tokCells] at hu
      · injection h1 with h1; subst h1; exact h3
    obtain ⟨g, cap, T, rfl, h1, h2, h3, h4, h5, h6⟩ := ho
    have hl : (tokCells M).length = m * i0.size := by rw [hz1, tokCells_length, hm]
    have hLn : L.length = n := how.2
    by_cases hroom : n + m ≤ cap
    · have hr := run_append_room (P := Tryd.prog) w 25 ty 33 i0 Tryd.underlying25 hi0 g n cap _ h2 ad m c (tokCells M) hl hnews (tok_one M) hroom (by rw [hz1]; simp [tokCells_length, hm, h3]; omega)
      refine ⟨_, _, hr, ⟨g, cap, T.take n ++ M ++ T.drop (n + m), rfl, h1, ?_, ?_, hroom, h5, ?_⟩, ⟨rfl, rfl, rfl, by simp, fun k _ hk => setRow_other w g k _ (fun e => hk (by simp [Value.ownBlock, e]))⟩⟩
      · rw [setRow_heap w g _ _ _ _ h2]
        congr 2
        apply Array.toList_inj.1
        show (List.take (n * i0.size) (tokCells T) ++ tokCells M ++ List.drop (n * i0.size + (tokCells M).length) (tokCells T)) = tokCells _
        rw [hz1, tokCells_length, hm, ← Nat.add_mul, tok_take (by omega), tok_drop (by omega), tok_app, tok_app]
      · simp [hm]; omega
      · rw [List.append_assoc, h6, ← List.append_assoc]
        exact List.take_left' (by rw [List.length_append, hLn, hm])
    · have holds : ∀ j u, (tokCells L)[j]? = some u → w.cell? ((⟨g, 0, none⟩ : Addr).add j) = some u := how.1.cells (g := g) rfl
      have hr := run_append_grow (P := Tryd.prog) w 25 ty 33 i0 _ Tryd.underlying25 hi0 hz0 ⟨g, 0, none⟩ n cap (tokCells L) (by rw [hz1, tokCells_length, hLn]) holds ad m c (tokCells M) hl hnews (by omega) (by omega) (growslice_fits (by omega) (by rw [hz2]; omega))
      have hge := grownCap_ge w (n + m) cap 33
      have hcm := grownCap_le_maxLen w (n + m) cap 33 (by unfold maxLen; omega)
      refine ⟨_, _, hr, ⟨w.heap.size, _, L ++ M ++ List.replicate (grownCap w (n + m) cap 33 - (n + m)) ⟨0, [], 0⟩, rfl, hV, ?_, ?_, hge, hcm, ?_⟩, ⟨rfl, rfl, rfl, by simp, fun k hk _ => (World.grownBy_alloc w.drew _ none).block k hk (by simp)⟩⟩
      · have hz : (Value.agg #[.int .u8 0, .string ByteArray.empty, .int .i64 0]).cells = #[.int .u8 0, .string ByteArray.empty, .int .i64 0] := by rfl
        rw [hz, zero_toks, tok_app, tok_app]
        have := heap_alloc_new w.drew (.cells ((tokCells L).toArray ++ (tokCells M).toArray ++ (tokCells (List.replicate (grownCap w (n + m) cap 33 - (n + m)) ⟨0, [], 0⟩)).toArray) 33)
        simpa using this
      · simp [hLn, hm]; omega
      · exact List.take_left' (by rw [List.length_append, hLn, hm])
theorem wpList_app_T {ops : Array Oper} {rest : List Oper} {o : Oper} {a : Act} {w : World} {Q : Exit → Act → World → Prop} (hgd : o.guard = none) (s x : Operand)
    (ho : o.op = .call { callee := .builtin .append, args := #[s, x], argTypes := #[25, 25] })
    (V : Nat) (v : Value) (n : Nat) (L : List Tok) (he : a.eval s = v) (hown : OwT V w v n L) (A : Option Addr) (m c : Nat) (M : List Tok) (hx : a.eval x = .slice A m c) (hs : Src w A m c M) (hsum : n + m ≤ 100000) (hV : V < w.heap.size)
    (h : ∀ v' w', OwT V w' v' (n + m) (L ++ M) → w.grownBy w' v.ownBlock → wpList Tryd.prog ops Q rest (a.put o.dst v') w') : wpList Tryd.prog ops Q (o :: rest) a w := by
  refine wpList_plain hgd fun K hK => ?_
  obtain ⟨v', w', hr, h2, h3⟩ := run_app_T w o.type V v n L hown A m c M hs hsum hV
  unfold Oper.wp execOp
  simp only [ho, resolve, invoke, builtin, Sem.run_bind, Sem.run_pure, Result.andThen_ok, List.map_toArray, List.map_cons, List.map_nil, he, hx, hr]
  exact hK _ _ (h v' w' h2 h3)
/-- What is a list of nodes lies elsewhere. -/
theorem lies_far {V : Nat} {W : World} {v : Value} {n : Nat} {L : List Tok} {N : List Nd} {A : Option Addr} (ho : OwT V W v n L) (hN : N ≠ []) (h : Lies W A (ndCells N)) : ∀ ad, A = some ad → some ad.block ≠ v.ownBlock := by
  intro ad hA e
  obtain ⟨g, cap, T, rfl, h1, h2, h3, h4, h5, h6⟩ := ho
  obtain ⟨x, N', rfl⟩ := List.exists_cons_of_ne_nil hN
  rcases h with h0 | ⟨ad', hA', _, hc⟩
  · simp [ndCells, ndC] at h0
  · obtain rfl : ad = ad' := Option.some.inj (hA.symm.trans hA')
    have hg : ad.block = g := by simpa [Value.ownBlock] using e
    have key : ∀ j u, (ndCells (x :: N'))[j]? = some u → j < 5 → (tokCells T)[ad.off + j]? = some u := by
      intro j u hu hj
      have := hc j u hu
      unfold World.cell? at this
      have hb : (ad.add j).block = g := by rw [← hg]; unfold Addr.add; split <;> rfl
      rw [hb, h2] at this
      simp only at this
      split at this
      · cases this
      · have ho : (ad.add j).off = ad.off + j := by unfold Addr.add; split <;> simp_all
        rw [ho] at this
        simpa using this
    have hj : ∀ j, j < 3 → ∃ kk z, (ndCells (x :: N'))[j]? = some (.int kk z) := by
      intro j hj
      have : j = 0 ∨ j = 1 ∨ j = 2 := by omega
      rcases this with rfl | rfl | rfl
      · exact ⟨_, _, rfl⟩
      · exact ⟨_, _, rfl⟩
      · exact ⟨_, _, rfl⟩
    obtain ⟨j, hj3, hmod⟩ : ∃ j, j < 3 ∧ (ad.off + j) % 3 = 1 := ⟨(3 + 1 - ad.off % 3) % 3, by omega, by omega⟩
    obtain ⟨kk, z, hkz⟩ := hj j hj3
    have hc2 := key j _ hkz (by omega)
    have hlt : ad.off + j < T.length * 3 := by
      have := (List.getElem?_eq_some_iff.1 hc2).1
      rwa [tokCells_length] at this
    have hst := (tokCells_at T ((ad.off + j) / 3) (by omega)).2.1
    rw [show (ad.off + j) / 3 * 3 + 1 = ad.off + j by omega, hc2] at hst
    cases hst
theorem lies_grown {W W' : World} {row : Option Nat} {A : Option Addr} {cs : List Value} (h : Lies W A cs) (hg : W.grownBy W' row) (hne : ∀ ad, A = some ad → some ad.block ≠ row) : Lies W' A cs := by
  rcases h with h0 | ⟨ad, h1, h2, h3⟩
  · exact .inl h0
  · refine .inr ⟨ad, h1, Nat.lt_of_lt_of_le h2 hg.size, fun j u hu => hg.cell (h3 j u hu) ?_⟩
    rw [show (ad.add j).block = ad.block by unfold Addr.add; split <;> rfl]
    exact hne ad h1
end Go.Proofs.YtoobggcopoljcaaDoor
