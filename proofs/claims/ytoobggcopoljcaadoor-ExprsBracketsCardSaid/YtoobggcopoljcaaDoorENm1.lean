/- ExprsNames: slices of tokens of its own. -/
import Derived.Test.YtoobggcopoljcaaDoorENm0
import Derived.Test.YtoobggcopoljcaaDoorETApp
namespace Go.Proofs.YtoobggcopoljcaaDoor
open Go.ChangeShapes Go.WideShapes Go.ChangeAt Go.RowKit N4
set_option linter.unusedVariables false
set_option maxRecDepth 100000

/-- The token v, in its block. -/
def VB (W : World) (V : Nat) : Prop := V < W.heap.size ∧ W.cell? ⟨V, 0, none⟩ = some (.int .u8 2) ∧ W.cell? ⟨V, 1, none⟩ = some (.string ⟨#[118]⟩) ∧ W.cell? ⟨V, 2, none⟩ = some (.int .i64 0)
theorem VB.step {W W' : World} {V : Nat} (h : VB W V) (hb : Below W.heap.size W W') : VB W' V :=
  ⟨Nat.lt_of_lt_of_le h.1 hb.size, by rw [hb.cell (p := ⟨V, 0, none⟩) h.1]; exact h.2.1, by rw [hb.cell (p := ⟨V, 1, none⟩) h.1]; exact h.2.2.1, by rw [hb.cell (p := ⟨V, 2, none⟩) h.1]; exact h.2.2.2⟩
theorem VB.new (W : World) (t : TypeId) : VB (W.alloc (.cells #[.int .u8 2, .string ⟨#[118]⟩, .int .i64 0] t)) W.heap.size := ⟨by simp, by go_simp, by go_simp, by go_simp⟩
theorem VB.grown {W W' : World} {V : Nat} {row : Option Nat} (h : VB W V) (hg : W.grownBy W' row) (hne : row ≠ some V) : VB W' V :=
  ⟨Nat.lt_of_lt_of_le h.1 hg.size, hg.cell h.2.1 (Ne.symm hne), hg.cell h.2.2.1 (Ne.symm hne), hg.cell h.2.2.2 (Ne.symm hne)⟩
/-- A slice of tokens of its own, behind the block of v. -/
def Ow (V : Nat) (W : World) (v : Value) (n : Nat) (L : List Tok) : Prop := W.ownsRow (V + 1) 33 3 v n (tokCells L) ∧ L.length = n
theorem Ow.step {V : Nat} {W W' : World} {v : Value} {n : Nat} {L : List Tok} (h : Ow V W v n L) (hb : Below W.heap.size W W') : Ow V W' v n L := ⟨own_below h.1 hb, h.2⟩
theorem Ow.nil (V : Nat) (W : World) : Ow V W (.slice none 0 0) 0 [] := ⟨⟨rfl, .inl ⟨rfl, rfl⟩⟩, rfl⟩
theorem Ow.ne {V : Nat} {W : World} {v : Value} {n : Nat} {L : List Tok} (h : Ow V W v n L) : v.ownBlock ≠ some V := by
  intro e
  have := (h.1.lt V e).1
  omega
theorem Ow.src {V : Nat} {W : World} {v : Value} {n : Nat} {L : List Tok} (h : Ow V W v n L) : ∃ A c, v = .slice A n c ∧ Toks W A L := by
  obtain ⟨A, c, rfl, _⟩ := own_form h.1
  refine ⟨A, c, rfl, ?_⟩
  have h1 := h.1
  rw [← h.2] at h1
  exact Toks.of_own h1
theorem src_lit (W : World) (cs : Array Value) (t : TypeId) (m c : Nat) (M : List Tok) (h : cs.toList = tokCells M) (hm : M.length = m) : Src (W.alloc (.cells cs t)) (some ⟨W.heap.size, 0, none⟩) m c M := by
  refine ⟨?_, hm, .inr ⟨_, rfl⟩⟩
  have := lies_vals W W.heap.size rfl cs t (tokCells M) h
  rcases this with h0 | h0
  · cases M with
    | nil => exact .inl rfl
    | cons x M => simp [tokCells, tokC] at h0
  · exact .inr h0
theorem toks_lit (W : World) (cs : Array Value) (t : TypeId) (M : List Tok) (h : cs.toList = tokCells M) : Toks (W.alloc (.cells cs t)) (some ⟨W.heap.size, 0, none⟩) M := (src_lit W cs t M.length 0 M h rfl).1
theorem ow_lit (V : Nat) (W : World) (cs : Array Value) (n : Nat) (M : List Tok) (h : cs.toList = tokCells M) (hm : M.length = n) (hn : n ≤ 1000) (hV : V < W.heap.size) : Ow V (W.alloc (.cells cs 33)) (.slice (some ⟨W.heap.size, 0, none⟩) n n) n M := by
  refine ⟨?_, hm⟩
  rw [← h]
  refine World.ownsRow_lit (base := V + 1) (e := 33) (size := 3) W cs n hV (by unfold maxLen; omega) ?_
  rw [← Array.length_toList, h, tokCells_length, hm]
/-- The state of the law: v, and what is its own. -/
theorem ow_app {w W W' : World} {V : Nat} {v v' : Value} {n m : Nat} {L M : List Tok} (hT : TB w) (hV : w.heap.size ≤ V) (ho : Ow V W v n L) (hv : VB W V) (hg : G5 w W) (hm : M.length = m)
    (h1 : W'.ownsRow (V + 1) 33 3 v' (n + m) (tokCells (L ++ M))) (h2 : W.grownBy W' v.ownBlock) : Ow V W' v' (n + m) (L ++ M) ∧ VB W' V ∧ G5 w W' := by
  have hb : Below w.heap.size w W' := hg.1.grown h2 hg.1.size (fun k hk => by have := (ho.1.lt k hk).1; omega)
  refine ⟨⟨h1, by rw [List.length_append, ho.2, hm]⟩, hv.grown h2 ho.ne, hb, ?_⟩
  exact hT.stays hb
theorem sgn_succ (k : Nat) : sgnT (k + 1) = sgnT k ++ [⟨3, [45], 0⟩] := List.replicate_succ'
theorem opn_succ (k : Nat) : opnT (k + 1) = opnT k ++ [⟨3, [40], 0⟩] := List.replicate_succ'
theorem cls_succ (k : Nat) : clsT (k + 1) = clsT k ++ [⟨3, [41], 0⟩] := List.replicate_succ'
/-- The second slice: W0 is the world ahead of it, what lies there stays. -/
theorem ow_app3 {W0 W W' : World} {B : Nat} {v v' : Value} {n m : Nat} {L M : List Tok} (hB : W0.heap.size ≤ B) (ho : Ow B W v n L) (hb : Below W0.heap.size W0 W) (hm : M.length = m)
    (h1 : W'.ownsRow (B + 1) 33 3 v' (n + m) (tokCells (L ++ M))) (h2 : W.grownBy W' v.ownBlock) : Ow B W' v' (n + m) (L ++ M) ∧ Below W0.heap.size W0 W' :=
  ⟨⟨h1, by rw [List.length_append, ho.2, hm]⟩, hb.grown h2 hb.size (fun k hk => by have := (ho.1.lt k hk).1; omega)⟩
theorem ow_sep {W0 W W' : World} {V B n m : Nat} {s b : Value} {L M : List Tok} (hs : Ow V W0 s n L) (hB : W0.heap.size ≤ B) (ho : Ow B W b m M) (h2 : W.grownBy W' s.ownBlock) : Ow B W' b m M := by
  refine ⟨ho.1.kept h2 ?_, ho.2⟩
  cases hb : b.ownBlock with
  | none => exact .inl rfl
  | some k =>
    refine .inr fun e => ?_
    have h3 := (hs.1.lt k e.symm).2
    have h4 := (ho.1.lt k hb).1
    omega
theorem made_tok (n : Nat) : (madeCells #[.int .u8 0, .string ByteArray.empty, .int .i64 0] (n * 3)).toList = tokCells (List.replicate n ⟨0, [], 0⟩) := by
  have key : ∀ n : Nat, (List.range (n * 3)).map (fun k => (#[Value.int .u8 0, .string ByteArray.empty, .int .i64 0] : Array Value)[k % 3]!) = tokCells (List.replicate n ⟨0, [], 0⟩) := by
    intro n
    induction n with
    | zero => rfl
    | succ n ih =>
      rw [show (n + 1) * 3 = n * 3 + 1 + 1 + 1 by omega, List.range_succ, List.range_succ, List.range_succ, List.replicate_succ', tok_app, ← ih]
      simp only [List.map_append, List.map_cons, List.map_nil, List.append_assoc]
      rw [show n * 3 % 3 = 0 by omega, show (n * 3 + 1) % 3 = 1 by omega, show (n * 3 + 1 + 1) % 3 = 2 by omega]
      rfl
  rw [← key n]
  simp [madeCells]
theorem rep_sm (n : Nat) : ∀ t ∈ List.replicate n (⟨0, [], 0⟩ : Tok), t.s.length ≤ maxLen := by
  intro t ht
  rw [List.eq_of_mem_replicate ht]
  exact Nat.zero_le _
theorem made_toks {W : World} {b n c : Nat} {A : Option Addr} (h : W.ownsRow b 33 3 (.slice A n c) n (madeCells #[.int .u8 0, .string ByteArray.empty, .int .i64 0] (n * 3)).toList) : Toks W A (List.replicate n ⟨0, [], 0⟩) := by
  rw [made_tok] at h
  have h2 : W.ownsRow b 33 3 (.slice A (List.replicate n (⟨0, [], 0⟩ : Tok)).length c) (List.replicate n (⟨0, [], 0⟩ : Tok)).length (tokCells (List.replicate n ⟨0, [], 0⟩)) := by rw [List.length_replicate]; exact h
  exact Toks.of_own h2
theorem many_g {w W : World} {V : Nat} (hV : VB W V) (hg : G5 w W) {b c : Nat} {A : Option Addr} (h : W.ownsRow b 33 3 (.slice A 201 c) 201 (madeCells #[.int .u8 0, .string ByteArray.empty, .int .i64 0] (201 * 3)).toList) :
    Calls Tryd.prog 10 #[.slice A 201 c, .int .i64 0] W fun e w' => e = .returned (.tuple #[.slice none 0 0, .int .i64 0, .int .i64 4]) ∧ VB w' V ∧ G5 w w' :=
  (parse_bad A c 201 (List.replicate 201 ⟨0, [], 0⟩) 0 W List.length_replicate (by unfold maxLen; omega) (made_toks h) (rep_sm 201) hg.2.1 4 many_chk (by decide)).mono fun e w' h => ⟨h.1, hV.step h.2, hg.step h.2⟩
/-- Calls on tokens written out. -/
theorem lit_bad (M : List Tok) (at_ v : Int) (hs : ∀ t ∈ M, t.s.length ≤ maxLen) (hv : chkF M = v) (h0 : v ≠ 0) {n : Nat} (hn : M.length = n) (hL : n ≤ 1000) {w W : World} {V : Nat} (hV : VB W V) (hg : G5 w W) (cs : Array Value) (t : TypeId) (c : Nat) (h : cs.toList = tokCells M) :
    Calls Tryd.prog 10 #[.slice (some ⟨W.heap.size, 0, none⟩) n c, .int .i64 at_] (W.alloc (.cells cs t)) fun e w' => e = .returned (.tuple #[.slice none 0 0, .int .i64 0, .int .i64 v]) ∧ VB w' V ∧ G5 w w' := by
  have hal := (Below.refl W.heap.size W).alloc (Nat.le_refl _) (.cells cs t)
  exact (parse_bad _ c n M at_ _ hn (by unfold maxLen; omega) (toks_lit W cs t M h) hs (hg.step hal).2.1 v hv h0).mono fun e w' h => ⟨h.1, (hV.step hal).step h.2, (hg.step hal).step h.2⟩
theorem lit_arg (M : List Tok) (at_ : Int) (hs : ∀ t ∈ M, t.s.length ≤ maxLen) (hv : chkF M = 0) {n : Nat} (ha : at_ < 0 ∨ n < at_) (hn : M.length = n) (hL : n ≤ 1000) {w W : World} {V : Nat} (hV : VB W V) (hg : G5 w W) (cs : Array Value) (t : TypeId) (c : Nat) (h : cs.toList = tokCells M) :
    Calls Tryd.prog 10 #[.slice (some ⟨W.heap.size, 0, none⟩) n c, .int .i64 at_] (W.alloc (.cells cs t)) fun e w' => e = .returned (.tuple #[.slice none 0 0, .int .i64 0, .int .i64 2]) ∧ VB w' V ∧ G5 w w' := by
  have hal := (Below.refl W.heap.size W).alloc (Nat.le_refl _) (.cells cs t)
  exact (parse_arg _ c n M at_ _ hn (by unfold maxLen; omega) (toks_lit W cs t M h) hs (hg.step hal).2.1 hv ha).mono fun e w' h => ⟨h.1, (hV.step hal).step h.2, (hg.step hal).step h.2⟩
theorem lit_er (M : List Tok) (i : Nat) (hs : ∀ t ∈ M, t.s.length ≤ maxLen) (hv : chkF M = 0) {n : Nat} (hi : i ≤ n) {v : Int} {q : List Tok} (hr : Rd (.line 0) (M.drop i) (.er v q)) {j : Nat} (hj : n - q.length = j) (hn : M.length = n) {w W : World} {V : Nat} (hV : VB W V) (hg : G5 w W) (cs : Array Value) (t : TypeId) (c : Nat) (h : cs.toList = tokCells M) :
    Calls Tryd.prog 10 #[.slice (some ⟨W.heap.size, 0, none⟩) n c, .int .i64 i] (W.alloc (.cells cs t)) fun e w' => e = .returned (.tuple #[.slice none 0 0, .int .i64 j, .int .i64 v]) ∧ VB w' V ∧ G5 w w' := by
  have hal := (Below.refl W.heap.size W).alloc (Nat.le_refl _) (.cells cs t)
  subst hj
  exact (parse_g _ c n M i _ hn hs hv hi hr w _ (hg.step hal) (toks_lit W cs t M h)).mono fun e w' h => ⟨h.1.2, (hV.step hal).step h.1.1, h.2⟩
theorem nil_g {w W : World} (hg : G5 w W) : Calls Tryd.prog 11 #[.slice none 0 0] W fun e w' => e = .returned (.tuple #[.string ⟨#[]⟩, .int .i64 8]) ∧ G5 w w' :=
  (textF_bad none 0 0 [] W rfl (Nat.zero_le _) (.inl rfl) 8 rfl (by decide)).mono fun e w' h => ⟨h.1, hg.step h.2⟩
/-- Facts of the calls that are refused. -/
theorem emp_sm : ∀ t ∈ ([⟨0, [], 0⟩] : List Tok), t.s.length ≤ maxLen := by decide +kernel
theorem far_sm : ∀ t ∈ ([⟨2, [118], 401⟩] : List Tok), t.s.length ≤ maxLen := by decide +kernel
theorem v_sm : ∀ t ∈ [vTk], t.s.length ≤ maxLen := by decide +kernel
theorem sum_sm : ∀ t ∈ sumT 20, t.s.length ≤ maxLen := by decide +kernel
theorem sgn_sm : ∀ t ∈ sgnT 20 ++ [vTk], t.s.length ≤ maxLen := by decide +kernel
theorem brk_sm : ∀ t ∈ opnT 60 ++ [vTk] ++ clsT 60, t.s.length ≤ maxLen := by decide +kernel
end Go.Proofs.YtoobggcopoljcaaDoor
