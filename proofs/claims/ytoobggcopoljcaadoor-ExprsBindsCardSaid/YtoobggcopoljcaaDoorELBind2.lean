/- ExprsBinds: what its walks rest on. -/
import Derived.Test.YtoobggcopoljcaaDoorELBinds
namespace Go.Proofs.YtoobggcopoljcaaDoor
open Go.ChangeShapes Go.WideShapes Go.ChangeAt Go.RowKit N4
set_option linter.unusedVariables false
set_option maxRecDepth 100000

def Adds (a b s : ByteArray) : Prop := ∀ W : World, Sem.run Tryd.prog (Op.stringOp BinOp.add a b) W = .ok (.string s) W
theorem adds_of (a b : ByteArray) (h : a.size + b.size ≤ 100000) : Adds a b (a ++ b) := fun W => run_string_add_sum (P := Tryd.prog) W a b (by omega)
theorem adds10 (TA TB TC F G : ByteArray) (a b c f g : List UInt8) (hA : TA = bytesOf a) (hB : TB = bytesOf b) (hC : TC = bytesOf c) (hF : F = bytesOf f) (hG : G = bytesOf g) (ha : a.length ≤ 400) (hb : b.length ≤ 400) (hc : c.length ≤ 400) (hf : f.length ≤ 3) (hg : g.length ≤ 3) :
    ∃ s1 s2 s3 s4 s5 s6 s7 s8 s9 : ByteArray, Adds ⟨#[40]⟩ TA s1 ∧ Adds s1 ⟨#[41, 32]⟩ s2 ∧ Adds s2 F s3 ∧ Adds s3 ⟨#[32, 40]⟩ s4 ∧ Adds s4 TB s5 ∧ Adds s5 ⟨#[41, 32]⟩ s6 ∧ Adds s6 G s7 ∧ Adds s7 ⟨#[32, 40]⟩ s8 ∧ Adds s8 TC s9 ∧
      Adds s9 ⟨#[41]⟩ (bytesOf ((([40] ++ a ++ [41]) ++ [32] ++ f ++ [32] ++ ([40] ++ b ++ [41])) ++ [32] ++ g ++ [32] ++ ([40] ++ c ++ [41]))) := by
  have za : TA.size ≤ 400 := by rw [hA, bytesOf_size]; exact ha
  have zb : TB.size ≤ 400 := by rw [hB, bytesOf_size]; exact hb
  have zc : TC.size ≤ 400 := by rw [hC, bytesOf_size]; exact hc
  have zf : F.size ≤ 3 := by rw [hF, bytesOf_size]; exact hf
  have zg : G.size ≤ 3 := by rw [hG, bytesOf_size]; exact hg
  have e1 : (⟨#[40]⟩ : ByteArray).size = 1 := rfl
  have e2 : (⟨#[41, 32]⟩ : ByteArray).size = 2 := rfl
  have e3 : (⟨#[32, 40]⟩ : ByteArray).size = 2 := rfl
  have e4 : (⟨#[41]⟩ : ByteArray).size = 1 := rfl
  refine ⟨_, _, _, _, _, _, _, _, _, adds_of _ _ ?_, adds_of _ _ ?_, adds_of _ _ ?_, adds_of _ _ ?_, adds_of _ _ ?_, adds_of _ _ ?_, adds_of _ _ ?_, adds_of _ _ ?_, adds_of _ _ ?_, ?_⟩
  case refine_10 =>
    rw [← bT_bytes TA TB TC F G a b c f g hA hB hC hF hG]
    refine adds_of _ _ ?_
    simp only [ByteArray.size_append]; omega
  all_goals ((try simp only [ByteArray.size_append]); omega)

/-- What the law asks of its expressions. -/
structure BIn (w : World) (A : Option Addr) (c n : Nat) (t : Tr) : Prop where
  lies : Lies w A (ndCells t.flat)
  sz : t.sz = n
  le : n ≤ 8
  ok : t.ok = true
  er : t.er = 0
  big : t.big
theorem BIn.wr_len {w : World} {A : Option Addr} {c n : Nat} {t : Tr} (h : BIn w A c n t) : t.wr.length ≤ 400 := by
  have := (t.wr_len h.ok h.big).1
  have := h.sz
  have := h.le
  omega
theorem BIn.check {w : World} {A : Option Addr} {c n : Nat} {t : Tr} (h : BIn w A c n t) (W : World) (hW : G5 w W) : Calls Tryd.prog 14 #[.slice A n c] W fun e w' => e = .returned (.int .i64 0) ∧ G5 w w' :=
  (rcheck_any A c n t.flat W (by rw [t.flat_length, h.sz]) (by have := h.le; unfold maxLen; omega) (h.lies.below hW.1) 0 ((t.check_flat h.ok).trans h.er)).mono fun e w' ⟨he, hb⟩ => ⟨he, hW.step hb⟩
theorem BIn.text {w : World} {A : Option Addr} {c n : Nat} {t : Tr} (h : BIn w A c n t) (W : World) (hW : G5 w W) : Calls Tryd.prog 11 #[.slice A n c] W fun e w' => e = .returned (.tuple #[.string (bytesOf t.wr), .int .i64 0]) ∧ G5 w w' :=
  (textF_ok A c n t W h.sz (h.lies.below hW.1) h.ok h.er h.big hW.2.2.1 hW.2.2.2).mono fun e w' ⟨he, hb⟩ => ⟨he, hW.step hb⟩
/-- A node of two expressions. -/
theorem bin_node (w : World) (A1 A2 : Option Addr) (c1 c2 n1 n2 : Nat) (a b : Tr) (k : Int) (hk : 7 ≤ k ∧ k ≤ 19) (hn1 : a.sz = n1) (hn2 : b.sz = n2) (ha : a.ok = true ∧ a.er = 0) (hb : b.ok = true ∧ b.er = 0) (her : (Tr.bin k 0 a b).er = 0) (n : Nat) (hn : (Tr.bin k 0 a b).sz = n)
    (W : World) (hW : G5 w W) (h1 : Lies W A1 (ndCells a.flat)) (h2 : Lies W A2 (ndCells b.flat)) (T : TypeId) :
    Calls Tryd.prog 23 #[.int .u8 k, .int .i64 0, .int .i64 0, .slice (some ⟨W.heap.size, 0, none⟩) 2 2] (W.alloc (.cells #[.slice A1 n1 c1, .slice A2 n2 c2] T)) fun e w' => ∃ A3 c3, e = .returned (.tuple #[.slice A3 n c3, .int .i64 0]) ∧ Lies w' A3 (ndCells (Tr.bin k 0 a b).flat) ∧ Below W.heap.size W w' ∧ G5 w w' := by
  have hal := (Below.refl W.heap.size W).alloc (Nat.le_refl _) (.cells #[.slice A1 n1 c1, .slice A2 n2 c2] T)
  have hbo : (Tr.bin k 0 a b).ok = true := bin_ok hk ⟨by omega, by omega⟩ ha.1 hb.1
  have HN := node_2 (some ⟨W.heap.size, 0, none⟩) 2 k 0 0 (W.alloc (.cells #[.slice A1 n1 c1, .slice A2 n2 c2] T)) A1 c1 n1 a.flat (by rw [a.flat_length, hn1]) (h1.below hal) ((a.check_flat ha.1).trans ha.2) A2 c2 n2 b.flat (by rw [b.flat_length, hn2]) (h2.below hal) ((b.check_flat hb.1).trans hb.2) (two_lies _ _ _ _)
    (by simp [okK]; omega) (fits_zero ⟨by omega, by omega⟩) (by unfold cnt; rw [if_neg (by omega), if_neg (by omega)])
  refine (node_ok HN (((Tr.bin k 0 a b).check_flat hbo).trans her) (n := n) (by subst hn; exact (Tr.bin k 0 a b).flat_length)).mono ?_
  rintro e w' ⟨A3, c3, rfl, hl, hb'⟩
  have hb2 : Below W.heap.size W w' := hal.trans (hb'.mono (by simp))
  exact ⟨A3, c3, rfl, hl, hb2, hW.step hb2⟩
theorem small_er {t : Tr} (h : t.sz ≤ 20) : t.er = 0 := Tr.er_zero.2 ⟨by omega, by have := t.dp_le; omega⟩
theorem er_bin_small {k p : Int} {a b a' b' : Tr} (h1 : a'.z = a.z) (h2 : b'.z = b.z) (h : (Tr.bin k 0 a b).er = 0) : (Tr.bin k p a' b').er = 0 := by rw [bin_er (p' := 0) h1 h2]; exact h
theorem bin_small {k p : Int} {a b : Tr} (ha : a.dp ≤ 19) (hb : b.dp ≤ 19) (hs : a.sz + b.sz ≤ 59) : (Tr.bin k p a b).er = 0 := Tr.er_zero.2 ⟨by simp only [Tr.sz]; omega, by simp only [Tr.dp]; omega⟩
/-- The tokens of the law's text. -/
theorem binds_lex {w : World} {A1 A2 A3 : Option Addr} {c1 c2 c3 n1 n2 n3 : Nat} {a b c : Tr} (h1 : BIn w A1 c1 n1 a) (h2 : BIn w A2 c2 n2 b) (h3 : BIn w A3 c3 n3 c) {f g : Int} (hf : 7 ≤ f ∧ f ≤ 19) (hg : 7 ≤ g ∧ g ≤ 19) :
    ∃ (M1 M2 M3 : List Tok) (x1 x2 : Tok) (q : Nat), Lex (bT a b c f g) 0 0 (M1 ++ x1 :: (M2 ++ x2 :: M3)) q 0 ∧ M1.map (·.s) = [[40]] ++ a.tx ++ [[41]] ∧ M2.map (·.s) = [[40]] ++ b.tx ++ [[41]] ∧ M3.map (·.s) = [[40]] ++ c.tx ++ [[41]] ∧ x1.s = opB f ∧ x2.s = opB g := by
  have p1 := lex_brackets (lex_tree a h1.ok h1.big).1.1 (lex_tree a h1.ok h1.big).1.2
  have p2 := lex_brackets (lex_tree b h2.ok h2.big).1.1 (lex_tree b h2.ok h2.big).1.2
  have p3 := lex_brackets (lex_tree c h3.ok h3.big).1.1 (lex_tree c h3.ok h3.big).1.2
  have P := lex_bin (lex_bin p1 p2 (op_tok f hf)) p3 (op_tok g hg)
  have l1 := (tx_len a).1
  have l2 := (tx_len b).1
  have l3 := (tx_len c).1
  have s1 := h1.sz
  have s2 := h2.sz
  have s3 := h3.sz
  have u1 := h1.le
  have u2 := h2.le
  have u3 := h3.le
  obtain ⟨M, q, hM, hl⟩ := lex_whole P (by simp only [List.length_append, List.length_cons, List.length_nil]; omega)
  obtain ⟨N1, M3', rfl, g1, g2⟩ := map_app_inv hM
  obtain ⟨N2, N3, rfl, g3, g4⟩ := map_app_inv g1
  obtain ⟨M2', N4', rfl, g5, g6⟩ := map_app_inv g3
  obtain ⟨M1', N5, rfl, g7, g8⟩ := map_app_inv g5
  obtain ⟨x1, N6, rfl, g9, g10⟩ := map_cons_inv g8
  obtain rfl : N6 = [] := by simpa using g10
  obtain ⟨x2, N7, rfl, g11, g12⟩ := map_cons_inv g4
  obtain rfl : N7 = [] := by simpa using g12
  refine ⟨M1', N4', M3', x1, x2, q, ?_, g7, g6, g2, g9, g11⟩
  unfold bT
  simpa [List.append_assoc] using hl
end Go.Proofs.YtoobggcopoljcaaDoor
