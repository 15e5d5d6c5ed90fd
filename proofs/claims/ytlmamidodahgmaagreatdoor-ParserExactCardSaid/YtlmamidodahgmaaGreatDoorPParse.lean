/- The contract of the parser's Parse. -/
import Derived.Test.YtlmamidodahgmaaGreatDoorPRead
import Derived.Test.YtlmamidodahgmaaGreatDoorPMath2
namespace Go.Proofs.YtlmamidodahgmaaGreatDoor.P9
open Go.ChangeShapes Go.WideShapes Go.ChangeAt Go.RowKit N4 Q8
set_option linter.unusedVariables false
set_option linter.unusedSimpArgs false
set_option maxRecDepth 100000

def Sl (A : Option Addr) (n c : Nat) : Prop := n ≤ c ∧ (A = none → c = 0)
/-- A query's value, and its slices in memory. -/
def QV (w : World) (q : Qy) (v : Value) : Prop := ∃ A c S d B e, v = .agg #[.int .u8 q.g, .slice A q.L.length c, .slice S q.l.length d, .bool q.j, .slice B q.M.length e, .int .u8 q.k, .int .i64 q.s, .int .i64 q.v, .bool q.y, .int .u8 q.t] ∧
  QA w A q.L.length S q.l.length B q.M.length q.L q.M q.l ∧ Sl A q.L.length c ∧ Sl S q.l.length d ∧ Sl B q.M.length e
theorem QV.step {w w' : World} {q : Qy} {v : Value} (h : QV w q v) (hb : Below w.heap.size w w') : QV w' q v := by
  obtain ⟨A, c, S, d, B, e, h1, h2, h3⟩ := h
  exact ⟨A, c, S, d, B, e, h1, h2.step hb, h3⟩
def zeroQ : Value := .agg #[.int .u8 0, .slice none 0 0, .slice none 0 0, .bool false, .slice none 0 0, .int .u8 0, .int .i64 0, .int .i64 0, .bool false, .int .u8 0]
theorem QV.zero (w : World) : QV w q0 zeroQ := ⟨none, 0, none, 0, none, 0, rfl, ⟨⟨.inl rfl, rfl, by decide⟩, ⟨.inl rfl, rfl⟩, ⟨.inl rfl, rfl, by decide⟩⟩, ⟨Nat.le_refl _, fun _ => rfl⟩, ⟨Nat.le_refl _, fun _ => rfl⟩, ⟨Nat.le_refl _, fun _ => rfl⟩⟩
/-- All tables of this layer. -/
def T9 (w : World) : Prop := Tabs w ∧ Tab5 w ∧ NamT w
theorem T9.stays {w w' : World} (h : T9 w) (hb : Below w.heap.size w w') : T9 w' := ⟨h.1.stays hb, h.2.1.stays hb, h.2.2.stays hb⟩
def ParP (r : Qy × Int × Int) (w : World) (e : Ending) (w' : World) : Prop := ∃ v, e = .returned (.tuple #[v, .int .i64 r.2.1, .int .i64 r.2.2]) ∧ QV w' r.1 v ∧ Below w.heap.size w w'
theorem lex_toks {N : List UInt8} (hN : N.length ≤ maxLen) : ∀ t ∈ (allF N).1, TkOk t ∧ t.s.length ≤ maxLen := by
  intro t ht
  refine ⟨(chk_zero (allF_chk N)).2.2 t ht, ?_⟩
  by_cases hs : N.length ≤ 400
  · obtain ⟨ts, q, e, h, h2⟩ := allF_lex N hs
    rw [h2] at ht
    simp only at ht
    have key : ∀ {l p n ts q e}, Lex l p n ts q e → ∀ t ∈ ts, t.s.length ≤ l.length := by
      intro l p n ts q e h
      induction h with
      | done _ => intro t ht; simp at ht
      | many _ => intro t ht; simp at ht
      | err _ _ _ => intro t ht; simp at ht
      | @tok l p n m ts q e h1 h2 h3 h4 h5 ih =>
        intro t ht
        have hl : m.length = l.length - spanK 1 l := by rw [← h1, List.length_drop]
        rcases List.mem_cons.1 ht with rfl | ht
        · show (m.take _).length ≤ _
          rw [List.length_take]; omega
        · have := ih t ht
          rw [List.length_drop] at this
          omega
    split at ht
    · have := key h t ht; unfold maxLen at *; omega
    · simp at ht
  · rw [allF_big N (by omega)] at ht
    simp at ht
theorem set1c {w : World} {r : Nat} {C : Array Value} {T : TypeId} {z : Nat × Nat} (h : w.heap[r]? = some (.cells C T z)) (k : Nat) (u : Value) : (w.setCell ⟨r, k, none⟩ u).heap[r]? = some (.cells (C.setIfInBounds k u) T z) := by
  unfold World.setCell
  simp only [Array.getElem?_modify, h]
  rfl
/-- Ten cells stored one behind the other. -/
theorem set10 {w W : World} {r : Nat} {T : TypeId} {x0 x1 x2 x3 x4 x5 x6 x7 x8 x9 y0 y1 y2 y3 y4 y5 y6 y7 y8 y9 : Value} (h : w.heap[r]? = some (.cells #[x0, x1, x2, x3, x4, x5, x6, x7, x8, x9] T (0, 0))) (hW : W = ((((((((((w.setCell ⟨r, 0, none⟩ y0).setCell ⟨r, 1, none⟩ y1).setCell ⟨r, 2, none⟩ y2).setCell ⟨r, 3, none⟩ y3).setCell ⟨r, 4, none⟩ y4).setCell ⟨r, 5, none⟩ y5).setCell ⟨r, 6, none⟩ y6).setCell ⟨r, 7, none⟩ y7).setCell ⟨r, 8, none⟩ y8).setCell ⟨r, 9, none⟩ y9)) : W.heap[r]? = some (.cells #[y0, y1, y2, y3, y4, y5, y6, y7, y8, y9] T (0, 0)) ∧ r < W.heap.size := by
  have hlt := (Array.getElem?_eq_some_iff.1 h).1
  subst hW
  have h0 := set1c h 0 y0
  have h1 := set1c h0 1 y1
  have h2 := set1c h1 2 y2
  have h3 := set1c h2 3 y3
  have h4 := set1c h3 4 y4
  have h5 := set1c h4 5 y5
  have h6 := set1c h5 6 y6
  have h7 := set1c h6 7 y7
  have h8 := set1c h7 8 y8
  have h9 := set1c h8 9 y9
  refine ⟨by rw [h9]; simp only [List.setIfInBounds_toArray, List.set_cons_zero, List.set_cons_succ], ?_⟩
  exact (Array.getElem?_eq_some_iff.1 h9).1
theorem cells10 {W : World} {r : Nat} {T : TypeId} {y0 y1 y2 y3 y4 y5 y6 y7 y8 y9 : Value} (h : W.heap[r]? = some (.cells #[y0, y1, y2, y3, y4, y5, y6, y7, y8, y9] T (0, 0))) : W.cell? ⟨r, 0, none⟩ = some y0 ∧ W.cell? ⟨r, 1, none⟩ = some y1 ∧ W.cell? ⟨r, 2, none⟩ = some y2 ∧ W.cell? ⟨r, 3, none⟩ = some y3 ∧ W.cell? ⟨r, 4, none⟩ = some y4 ∧ W.cell? ⟨r, 5, none⟩ = some y5 ∧ W.cell? ⟨r, 6, none⟩ = some y6 ∧ W.cell? ⟨r, 7, none⟩ = some y7 ∧ W.cell? ⟨r, 8, none⟩ = some y8 ∧ W.cell? ⟨r, 9, none⟩ = some y9 := by
  refine ⟨?_, ?_, ?_, ?_, ?_, ?_, ?_, ?_, ?_, ?_⟩ <;> simp [World.cell?, h]
theorem below10 {B r : Nat} {w0 w W : World} {y0 y1 y2 y3 y4 y5 y6 y7 y8 y9 : Value} (h : Below B w0 w) (hr : B ≤ r) (hW : W = ((((((((((w.setCell ⟨r, 0, none⟩ y0).setCell ⟨r, 1, none⟩ y1).setCell ⟨r, 2, none⟩ y2).setCell ⟨r, 3, none⟩ y3).setCell ⟨r, 4, none⟩ y4).setCell ⟨r, 5, none⟩ y5).setCell ⟨r, 6, none⟩ y6).setCell ⟨r, 7, none⟩ y7).setCell ⟨r, 8, none⟩ y8).setCell ⟨r, 9, none⟩ y9)) : Below B w0 W := by
  subst hW
  exact ((((((((((h.setCell (p := ⟨r, 0, none⟩) hr _).setCell (p := ⟨r, 1, none⟩) hr _).setCell (p := ⟨r, 2, none⟩) hr _).setCell (p := ⟨r, 3, none⟩) hr _).setCell (p := ⟨r, 4, none⟩) hr _).setCell (p := ⟨r, 5, none⟩) hr _).setCell (p := ⟨r, 6, none⟩) hr _).setCell (p := ⟨r, 7, none⟩) hr _).setCell (p := ⟨r, 8, none⟩) hr _).setCell (p := ⟨r, 9, none⟩) hr _)
theorem lies_blocks {w W : World} {r : Nat} {A : Option Addr} {cs : List Value} (hl : Lies w A cs) (hne : ∀ a, A = some a → cs ≠ [] → a.block ≠ r) (hW : ∀ k, k ≠ r → W.heap[k]? = w.heap[k]?) (hs : w.heap.size ≤ W.heap.size) : Lies W A cs := by
  by_cases hc : cs = []
  · exact .inl hc
  · rcases hl with h0 | ⟨ad, h1, h2, h3⟩
    · exact absurd h0 hc
    · refine .inr ⟨ad, h1, Nat.lt_of_lt_of_le h2 hs, fun j u hu => ?_⟩
      rw [World.cell?_of_block (w := w) (by rw [add_block]; exact hW _ (hne ad h1 hc))]
      exact h3 j u hu
/-- Nodes lie in no query that is zero. -/
theorem lies_no_zero {w : World} {r : Nat} {T : TypeId} {A : Option Addr} {P : List Nd} (h : Lies w A (ndCells P)) (hr : w.heap[r]? = some (.cells #[.int .u8 0, .slice none 0 0, .slice none 0 0, .bool false, .slice none 0 0, .int .u8 0, .int .i64 0, .int .i64 0, .bool false, .int .u8 0] T (0, 0))) :
    ∀ a, A = some a → ndCells P ≠ [] → a.block ≠ r := by
  intro a ha hne
  rcases h with h0 | ⟨ad, h1, h2, h3⟩
  · exact absurd h0 hne
  · obtain rfl : a = ad := Option.some.inj (ha.symm.trans h1)
    intro hb
    cases P with
    | nil => exact hne rfl
    | cons x P =>
      have hr' : w.heap[a.block]? = some (.cells #[.int .u8 0, .slice none 0 0, .slice none 0 0, .bool false, .slice none 0 0, .int .u8 0, .int .i64 0, .int .i64 0, .bool false, .int .u8 0] T (0, 0)) := by rw [hb]; exact hr
      have key : ∀ j u, (ndCells (x :: P))[j]? = some u → j < 5 → ([.int .u8 0, .slice none 0 0, .slice none 0 0, .bool false, .slice none 0 0, .int .u8 0, .int .i64 0, .int .i64 0, .bool false, .int .u8 0] : List Value)[a.off + j]? = some u := by
        intro j u hu hj
        have := h3 j u hu
        unfold World.cell? at this
        have hb : (a.add j).block = a.block := by unfold Addr.add; split <;> rfl
        rw [hb, hr'] at this
        simp only at this
        split at this
        · cases this
        · have ho : (a.add j).off = a.off + j := by unfold Addr.add; split <;> simp_all
          rw [ho] at this
          simpa using this
      have k0 := key 0 (.int .u8 x.k) rfl (by decide)
      have k1 := key 1 (.int .i64 x.n) rfl (by decide)
      have k2 := key 2 (.int .i64 x.a) rfl (by decide)
      have k3 := key 3 (.int .i64 x.b) rfl (by decide)
      have hlt : a.off < 10 := by
        have := (List.getElem?_eq_some_iff.1 k0).1
        simpa using this
      obtain ⟨o, ho⟩ : ∃ o, a.off = o := ⟨_, rfl⟩
      rw [ho] at k0 k1 k2 k3 hlt
      have hc : o = 0 ∨ o = 1 ∨ o = 2 ∨ o = 3 ∨ o = 4 ∨ o = 5 ∨ o = 6 ∨ o = 7 ∨ o = 8 ∨ o = 9 := by omega
      rcases hc with rfl | rfl | rfl | rfl | rfl | rfl | rfl | rfl | rfl | rfl
      all_goals first
        | (cases k0; done)
        | (cases k1; done)
        | (cases k2; done)
        | (cases k3; done)
theorem read_c {w2 : World} {L : List Tok} {A : Option Addr} {c : Nat} (t9 : T9 w2) (htk : Toks w2 A L) (hto : ∀ t ∈ L, TkOk t ∧ t.s.length ≤ maxLen) (hck : chkF L = 0) :
    Calls Tryz.prog 31 #[.pointer (some ⟨w2.heap.size, 0, none⟩)] (w2.alloc (.cells #[.slice A L.length c, .int .i64 0, .int .u8 0, .slice none 0 0, .slice none 0 0, .bool false, .slice none 0 0, .int .u8 0, .int .i64 0, .int .i64 0, .bool false, .int .u8 0] 69)) fun e w' => e = .returned (.int .i64 (codeP (pqF L))) ∧ ∃ F, QMem (w2, F) L A c w2.heap.size (pqF L) w' := by
  refine read_q L A c w2.heap.size w2 _ (fun F => ⟨⟨rfl, htk, t9.2.1, (chk_zero hck).1, hto⟩, t9.2.2, t9.1, hck⟩) ((Below.refl _ _).alloc (Nat.le_refl _) _) ?_
  exact Rq.of_alloc (i := 0) (X := QCl q0 (.slice none 0 0) (.slice none 0 0) (.slice none 0 0)) rfl
set_option maxHeartbeats 8000000 in
theorem parse_c (N : List UInt8) (w : World) (hN : N.length ≤ maxLen) (ht : T9 w) :
    Calls Tryz.prog 11 #[.string (bytesOf N)] w (ParP (parF N) w) := by
  obtain ⟨L, n, er, ha⟩ : ∃ L n er, allF N = (L, n, er) := ⟨_, _, _, rfl⟩
  have hA := Lib.hid (fun W (hb : Below w.heap.size w W) => all_any (bytesOf N) W (by rw [bytesOf_size]; exact hN) (ht.1.stays hb) L n er (by rw [bytesOf_list]; exact ha))
  unfold parF
  have htk := lex_toks hN
  have hck := allF_chk N
  rw [ha] at htk hck ⊢
  simp only at htk hck ⊢
  by_cases he : er = 0
  · rw [if_pos he]
    subst he
    have HT := Lib.hid ht
    have HTO := Lib.hid htk
    have HCK := Lib.hid hck
    have hl200 := (chk_zero hck).1
    clear ht htk hck ha
    cases hpq : pqF L with
    | er v s =>
      simp only
      by_cases hs : s = []
      · subst hs
        go_enter Tryz.func11, Tryz.ntmps11
        go_wp2_with (first
          | (go_at_call 10; refine (hA.out _ ((Below.refl _ _).alloc (Nat.le_refl _) _)).mono ?_; rintro e w2 ⟨A, c, rfl, hl, hg, hsl⟩; have hb := hg.1; have HR := Lib.hid ((hb.block w.heap.size (by simp)).trans (heap_alloc_new w _)); have HB := Lib.hid (((Below.refl w.heap.size w).alloc (Nat.le_refl _) _).trans (hb.mono (by simp))); have hlt2 : w.heap.size < w2.heap.size := Nat.lt_of_lt_of_le (by simp) hb.size; have HTK := Lib.hid hl; clear hl hg hb)
          | (go_at_call 31
             refine (read_c (HT.out.stays HB.out) HTK.out HTO.out HCK.out).mono ?_
             rintro e w4 ⟨rfl, F, hq⟩
             rw [hpq] at hq
             rw [hpq]
             simp only [codeP]
             obtain ⟨h0, X, hst⟩ := hq
             obtain ⟨g1, g2⟩ := codeP_er (s := []) h0
             have HR4 := Lib.hid ((hst.bl.block w.heap.size hlt2).trans HR.out)
             have HB4 := Lib.hid (HB.out.trans (hst.bl.mono (Nat.le_of_lt hlt2)))
             have r1 := hst.rd.c1
             have nb : w.heap.size ≠ w2.heap.size := by omega
             have nb' : w2.heap.size ≠ w.heap.size := Ne.symm nb
             have l4 := hst.rd.lt
             have lw4 : w.heap.size < w4.heap.size := by omega
             have hc4 : ∀ o, w4.cell? ⟨w.heap.size, o, none⟩ = (w.alloc (.cells #[.int .u8 0, .slice none 0 0, .slice none 0 0, .bool false, .slice none 0 0, .int .u8 0, .int .i64 0, .int .i64 0, .bool false, .int .u8 0] 27)).cell? ⟨w.heap.size, o, none⟩ := fun o => World.cell?_of_block (HR4.out.trans (heap_alloc_new w _).symm)
             have hf4 : ∀ o, w4.frozen? ⟨w.heap.size, o, none⟩ = false := fun o => (by simp [World.frozen?, HR4.out])
             rw [show L.length - ([] : List Tok).length = L.length by simp] at r1
             clear hst))
        obtain ⟨W, hW⟩ : ∃ W, W = ((((((((((w4.setCell ⟨w.heap.size, 0, none⟩ (.int .u8 0)).setCell ⟨w.heap.size, 1, none⟩ (.slice none 0 0)).setCell ⟨w.heap.size, 2, none⟩ (.slice none 0 0)).setCell ⟨w.heap.size, 3, none⟩ (.bool false)).setCell ⟨w.heap.size, 4, none⟩ (.slice none 0 0)).setCell ⟨w.heap.size, 5, none⟩ (.int .u8 0)).setCell ⟨w.heap.size, 6, none⟩ (.int .i64 0)).setCell ⟨w.heap.size, 7, none⟩ (.int .i64 0)).setCell ⟨w.heap.size, 8, none⟩ (.bool false)).setCell ⟨w.heap.size, 9, none⟩ (.int .u8 0)) := ⟨_, rfl⟩
        rw [← hW]
        obtain ⟨hW1, hW2⟩ := set10 (HR4.out) hW
        obtain ⟨z0, z1, z2, z3, z4, z5, z6, z7, z8, z9⟩ := cells10 hW1
        refine bodyPost_ret (v := .tuple #[zeroQ, .int .i64 n, .int .i64 v]) (by simp [results, Tryz.results11, go_sem, zeroQ, z0, z1, z2, z3, z4, z5, z6, z7, z8, z9]) rfl ⟨_, rfl, QV.zero _, below10 HB4.out (Nat.le_refl _) hW⟩
      · obtain ⟨x, s', rfl⟩ := List.exists_cons_of_ne_nil hs
        go_enter Tryz.func11, Tryz.ntmps11
        go_wp2_with (first
          | (go_at_call 10; refine (hA.out _ ((Below.refl _ _).alloc (Nat.le_refl _) _)).mono ?_; rintro e w2 ⟨A, c, rfl, hl, hg, hsl⟩; have hb := hg.1; have HR := Lib.hid ((hb.block w.heap.size (by simp)).trans (heap_alloc_new w _)); have HB := Lib.hid (((Below.refl w.heap.size w).alloc (Nat.le_refl _) _).trans (hb.mono (by simp))); have hlt2 : w.heap.size < w2.heap.size := Nat.lt_of_lt_of_le (by simp) hb.size; have HTK := Lib.hid hl; clear hl hg hb)
          | (go_at_call 31
             refine (read_c (HT.out.stays HB.out) HTK.out HTO.out HCK.out).mono ?_
             rintro e w4 ⟨rfl, F, hq⟩
             rw [hpq] at hq
             rw [hpq]
             simp only [codeP]
             obtain ⟨h0, X, hst⟩ := hq
             obtain ⟨g1, g2⟩ := codeP_er (s := []) h0
             have HR4 := Lib.hid ((hst.bl.block w.heap.size hlt2).trans HR.out)
             have HB4 := Lib.hid (HB.out.trans (hst.bl.mono (Nat.le_of_lt hlt2)))
             have r1 := hst.rd.c1
             have nb : w.heap.size ≠ w2.heap.size := by omega
             have nb' : w2.heap.size ≠ w.heap.size := Ne.symm nb
             have l4 := hst.rd.lt
             have lw4 : w.heap.size < w4.heap.size := by omega
             have hc4 : ∀ o, w4.cell? ⟨w.heap.size, o, none⟩ = (w.alloc (.cells #[.int .u8 0, .slice none 0 0, .slice none 0 0, .bool false, .slice none 0 0, .int .u8 0, .int .i64 0, .int .i64 0, .bool false, .int .u8 0] 27)).cell? ⟨w.heap.size, o, none⟩ := fun o => World.cell?_of_block (HR4.out.trans (heap_alloc_new w _).symm)
             have hf4 : ∀ o, w4.frozen? ⟨w.heap.size, o, none⟩ = false := fun o => (by simp [World.frozen?, HR4.out])
             obtain ⟨hx, hi1⟩ := suf_at hst.suf
             have hle := hst.suf.length_le
             obtain ⟨i, hi⟩ : ∃ i, L.length - (x :: s').length = i := ⟨_, rfl⟩
             rw [hi] at r1 hx
             have hil : i < L.length := (List.getElem?_eq_some_iff.1 hx).1
             have hin : (i : Int) < (L.length : Int) := by omega
             obtain ⟨ad, hA2, hcc⟩ : ∃ ad, A = some ad ∧ TokAt w4 ad i x := by
               obtain ⟨ad, t, k1, k2, k3⟩ := (HTK.out.below hst.bl).at_ i hil
               have k4 : t = x := Option.some.inj (k3.symm.trans hx)
               exact ⟨ad, k1, k4 ▸ k2⟩
             subst hA2
             obtain ⟨hc1, hc2, hc3⟩ := hcc
             clear hx hi1 hle hi
             clear hst))
        obtain ⟨W, hW⟩ : ∃ W, W = ((((((((((w4.setCell ⟨w.heap.size, 0, none⟩ (.int .u8 0)).setCell ⟨w.heap.size, 1, none⟩ (.slice none 0 0)).setCell ⟨w.heap.size, 2, none⟩ (.slice none 0 0)).setCell ⟨w.heap.size, 3, none⟩ (.bool false)).setCell ⟨w.heap.size, 4, none⟩ (.slice none 0 0)).setCell ⟨w.heap.size, 5, none⟩ (.int .u8 0)).setCell ⟨w.heap.size, 6, none⟩ (.int .i64 0)).setCell ⟨w.heap.size, 7, none⟩ (.int .i64 0)).setCell ⟨w.heap.size, 8, none⟩ (.bool false)).setCell ⟨w.heap.size, 9, none⟩ (.int .u8 0)) := ⟨_, rfl⟩
        rw [← hW]
        obtain ⟨hW1, hW2⟩ := set10 (HR4.out) hW
        obtain ⟨z0, z1, z2, z3, z4, z5, z6, z7, z8, z9⟩ := cells10 hW1
        refine bodyPost_ret (v := .tuple #[zeroQ, .int .i64 x.a, .int .i64 v]) (by simp [results, Tryz.results11, go_sem, zeroQ, z0, z1, z2, z3, z4, z5, z6, z7, z8, z9]) rfl ⟨_, rfl, QV.zero _, below10 HB4.out (Nat.le_refl _) hW⟩
    | ok q s =>
      simp only
      go_enter Tryz.func11, Tryz.ntmps11
      go_wp2_with (first
        | (go_at_call 10; refine (hA.out _ ((Below.refl _ _).alloc (Nat.le_refl _) _)).mono ?_; rintro e w2 ⟨A, c, rfl, hl, hg, hsl⟩; have hb := hg.1; have HR := Lib.hid ((hb.block w.heap.size (by simp)).trans (heap_alloc_new w _)); have HB := Lib.hid (((Below.refl w.heap.size w).alloc (Nat.le_refl _) _).trans (hb.mono (by simp))); have hlt2 : w.heap.size < w2.heap.size := Nat.lt_of_lt_of_le (by simp) hb.size; have HTK := Lib.hid hl; clear hl hg hb)
        | (go_at_call 31
           refine (read_c (HT.out.stays HB.out) HTK.out HTO.out HCK.out).mono ?_
           rintro e w4 ⟨rfl, F, hq⟩
           rw [hpq] at hq
           rw [hpq]
           simp only [codeP]
           obtain ⟨VA, VS, VB, B, hp⟩ := hq
           obtain ⟨A1, c1, hVA, lA, nA, bA, cA⟩ := hp.arg
           obtain ⟨S1, c2, hVS, nS, _⟩ := N4.own_form hp.src
           obtain ⟨B1, c3, hVB, lB, nB, bB, cB⟩ := hp.whr
           subst hVA hVS hVB
           have hst := hp.st
           obtain ⟨_, _, _, d2, d3, d4, d5, d6, d7, d8, d9, d10, d11⟩ := hp.cells
           have HPQ := Lib.hid hp
           clear hp
           have HR4 := Lib.hid ((hst.bl.block w.heap.size hlt2).trans HR.out)
           have HB4 := Lib.hid (HB.out.trans (hst.bl.mono (Nat.le_of_lt hlt2)))
           have r1 := hst.rd.c1
           have nb : w.heap.size ≠ w2.heap.size := by omega
           have nb' : w2.heap.size ≠ w.heap.size := Ne.symm nb
           have l4 := hst.rd.lt
           have lw4 : w.heap.size < w4.heap.size := by omega
           have hc4 : ∀ o, w4.cell? ⟨w.heap.size, o, none⟩ = (w.alloc (.cells #[.int .u8 0, .slice none 0 0, .slice none 0 0, .bool false, .slice none 0 0, .int .u8 0, .int .i64 0, .int .i64 0, .bool false, .int .u8 0] 27)).cell? ⟨w.heap.size, o, none⟩ := fun o => World.cell?_of_block (HR4.out.trans (heap_alloc_new w _).symm)
           have hf4 : ∀ o, w4.frozen? ⟨w.heap.size, o, none⟩ = false := fun o => (by simp [World.frozen?, HR4.out])
           clear hst))
      obtain ⟨W, hW⟩ : ∃ W, W = ((((((((((w4.setCell ⟨w.heap.size, 0, none⟩ (.int .u8 q.g)).setCell ⟨w.heap.size, 1, none⟩ (.slice A1 q.L.length (q.L.length + c1))).setCell ⟨w.heap.size, 2, none⟩ (.slice S1 q.l.length c2)).setCell ⟨w.heap.size, 3, none⟩ (.bool q.j)).setCell ⟨w.heap.size, 4, none⟩ (.slice B1 q.M.length (q.M.length + c3))).setCell ⟨w.heap.size, 5, none⟩ (.int .u8 q.k)).setCell ⟨w.heap.size, 6, none⟩ (.int .i64 q.s)).setCell ⟨w.heap.size, 7, none⟩ (.int .i64 q.v)).setCell ⟨w.heap.size, 8, none⟩ (.bool q.y)).setCell ⟨w.heap.size, 9, none⟩ (.int .u8 q.t)) := ⟨_, rfl⟩
      rw [← hW]
      obtain ⟨hW1, hW2⟩ := set10 (HR4.out) hW
      obtain ⟨z0, z1, z2, z3, z4, z5, z6, z7, z8, z9⟩ := cells10 hW1
      refine bodyPost_ret (v := .tuple #[.agg #[.int .u8 q.g, .slice A1 q.L.length (q.L.length + c1), .slice S1 q.l.length c2, .bool q.j, .slice B1 q.M.length (q.M.length + c3), .int .u8 q.k, .int .i64 q.s, .int .i64 q.v, .bool q.y, .int .u8 q.t], .int .i64 n, .int .i64 0]) (by simp [results, Tryz.results11, go_sem, z0, z1, z2, z3, z4, z5, z6, z7, z8, z9]) rfl ⟨_, rfl, ?_, below10 HB4.out (Nat.le_refl _) hW⟩
      have hbW : ∀ k, k ≠ w.heap.size → W.heap[k]? = w4.heap[k]? := by
        intro k hk
        rw [hW]
        simp only [Below.heap_setCell _ ⟨w.heap.size, _, none⟩ _ k hk]
      have hsW : w4.heap.size ≤ W.heap.size := by rw [hW]; simp
      have hmL : q.L.length ≤ maxLen := by unfold maxLen; omega
      have hmM : q.M.length ≤ maxLen := by unfold maxLen; omega
      refine ⟨A1, q.L.length + c1, S1, c2, B1, q.M.length + c3, rfl, ⟨⟨lies_blocks lA (lies_no_zero lA HR4.out) hbW hsW, rfl, hmL⟩, ⟨?_, rfl⟩, ⟨lies_blocks lB (lies_no_zero lB HR4.out) hbW hsW, rfl, hmM⟩⟩, ⟨Nat.le_add_right _ _, fun hA => ?_⟩, ⟨nS, fun hS => ?_⟩, ⟨Nat.le_add_right _ _, fun hB => ?_⟩⟩
      · refine lies_blocks (Lies.of_own HPQ.out.src (fun h0 => by rw [List.eq_nil_of_length_eq_zero h0]; rfl)) (fun a ha _ => ?_) hbW hsW
        rcases HPQ.out.src.2 with ⟨e, _⟩ | ⟨g', cap', cur', e, h1, _⟩
        · injection e with e; rw [e] at ha; cases ha
        · injection e with e
          rw [e] at ha; injection ha with ha; subst ha
          have := HPQ.out.bB
          show g' ≠ _
          omega
      · have hc0 := cA hA
        have hL0 : q.L = [] := by
          rcases lA with h0 | ⟨ad, h1, _⟩
          · cases hq : q.L with
            | nil => rfl
            | cons x l => rw [hq] at h0; simp [ndCells, ndC] at h0
          · rw [h1] at hA; cases hA
        rw [hL0, hc0]; rfl
      · rcases HPQ.out.src.2 with ⟨e, _⟩ | ⟨g', cap', cur', e, h1, _⟩
        · injection e
        · injection e with e; rw [e] at hS; cases hS
      · have hc0 := cB hB
        have hL0 : q.M = [] := by
          rcases lB with h0 | ⟨ad, h1, _⟩
          · cases hq : q.M with
            | nil => rfl
            | cons x l => rw [hq] at h0; simp [ndCells, ndC] at h0
          · rw [h1] at hB; cases hB
        rw [hL0, hc0]; rfl
  · rw [if_neg he]
    obtain ⟨g1, g2⟩ := codeP_er (s := []) he
    clear ht htk hck ha
    go_enter Tryz.func11, Tryz.ntmps11
    go_wp2_with (go_at_call 10; refine (hA.out _ ((Below.refl _ _).alloc (Nat.le_refl _) _)).mono ?_; rintro e w2 ⟨A, c, rfl, hl, hg, _⟩; have hb := hg.1; obtain ⟨hc, hf⟩ := bcell hb; have hz := hb.size; have HR := Lib.hid ((hb.block w.heap.size (by simp)).trans (heap_alloc_new w _)); have HB := Lib.hid (((Below.refl w.heap.size w).alloc (Nat.le_refl _) _).trans (hb.mono (by simp))); clear hl hg hb)
    obtain ⟨W, hW⟩ : ∃ W, W = ((((((((((w2.setCell ⟨w.heap.size, 0, none⟩ (.int .u8 0)).setCell ⟨w.heap.size, 1, none⟩ (.slice none 0 0)).setCell ⟨w.heap.size, 2, none⟩ (.slice none 0 0)).setCell ⟨w.heap.size, 3, none⟩ (.bool false)).setCell ⟨w.heap.size, 4, none⟩ (.slice none 0 0)).setCell ⟨w.heap.size, 5, none⟩ (.int .u8 0)).setCell ⟨w.heap.size, 6, none⟩ (.int .i64 0)).setCell ⟨w.heap.size, 7, none⟩ (.int .i64 0)).setCell ⟨w.heap.size, 8, none⟩ (.bool false)).setCell ⟨w.heap.size, 9, none⟩ (.int .u8 0)) := ⟨_, rfl⟩
    rw [← hW]
    obtain ⟨hW1, hW2⟩ := set10 (HR.out) hW
    obtain ⟨z0, z1, z2, z3, z4, z5, z6, z7, z8, z9⟩ := cells10 hW1
    refine bodyPost_ret (v := .tuple #[zeroQ, .int .i64 n, .int .i64 er]) (by simp [results, Tryz.results11, go_sem, zeroQ, z0, z1, z2, z3, z4, z5, z6, z7, z8, z9]) rfl ⟨_, rfl, QV.zero _, below10 HB.out (Nat.le_refl _) hW⟩
end Go.Proofs.YtlmamidodahgmaaGreatDoor.P9
