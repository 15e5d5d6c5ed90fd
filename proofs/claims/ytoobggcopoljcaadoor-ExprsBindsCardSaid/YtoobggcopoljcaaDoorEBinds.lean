/- What binds first. -/
import Derived.Test.YtoobggcopoljcaaDoorEBack
namespace Go.Proofs.YtoobggcopoljcaaDoor
open Go.RowKit N4
set_option linter.unusedVariables false
set_option maxRecDepth 100000

theorem up' {n m : Nat} (hn : n ≤ 8) (hm : m ≤ n) {s : List Tok} {t : Tr} {q : List Tok} (h : Rd (.line n) s (.ok t q)) (ho : ∀ j, m ≤ j → j < n → isCh j → opOf (loK j) (hiK j) (txt q) = none) (hs : ∀ j, m ≤ j → j < n → isPr j → txt s ≠ sgnB j) : Rd (.line m) s (.ok t q) := by
  induction n with
  | zero => obtain rfl : m = 0 := by omega
            exact h
  | succ n ih =>
    by_cases he : m = n + 1
    · subst he; exact h
    · have h1 : isCh n ∨ isPr n := by unfold isCh isPr; omega
      have h2 : Rd (.line n) s (.ok t q) := by
        rcases h1 with h1 | h1
        · exact up1 h1 h (ho n (by omega) (by omega) h1)
        · exact up2 h1 h (hs n (by omega) (by omega) h1)
      exact ih (by omega) (by omega) h2 (fun j a b => ho j a (by omega)) (fun j a b => hs j a (by omega))
/-- A part in brackets, with what stands behind it. -/
theorem par_rd {t : Tr} {tx : List (List UInt8)} (h : ExprP t tx) {M q : List Tok} (hM : M.map (·.s) = [[40]] ++ tx ++ [[41]]) : ∃ t', t'.z = t.z ∧ Rd (.line 8) (M ++ q) (.ok t' q) ∧ txt (M ++ q) = [40] := by
  obtain ⟨t', hz, hr⟩ := prim_brackets h M q hM
  exact ⟨t', hz, hr, head_app (r := tx ++ [[41]]) (by simpa using hM)⟩
theorem open_sg (j : Nat) (hj : isPr j) : ([40] : List UInt8) ≠ sgnB j := by rcases hj with rfl | rfl <;> decide

def st (k : Int) : Nat := if 3 ≤ lvl k then lvl k else lvl k + 1
def bindT (f g : Int) (a b c : Tr) : Tr := if st g ≤ st f then .bin g 0 (.bin f 0 a b) c else .bin f 0 a (.bin g 0 b c)
theorem st_lt {f g : Int} : (st g ≤ st f ↔ lvl g ≤ lvl f) := by
  have hf := lvl_ch f
  have hg := lvl_ch g
  unfold isCh at hf hg
  unfold st
  split <;> split <;> omega
section
variable {a b c : Tr} {f g : Int} {M1 M2 M3 : List Tok} {x1 x2 : Tok} {ta tb tc : List (List UInt8)}
theorem binds_both (ha : ExprP a ta) (hb : ExprP b tb) (h1 : M1.map (·.s) = [[40]] ++ ta ++ [[41]]) (h2 : M2.map (·.s) = [[40]] ++ tb ++ [[41]]) (hf : 7 ≤ f ∧ f ≤ 19) (hg : 7 ≤ g ∧ g ≤ 19) (hx1 : x1.s = opB f) (hx2 : x2.s = opB g)
    (hl : lvl f = 3) (hl2 : lvl g = 3) (her : ∀ a' b' p, a'.z = a.z → b'.z = b.z → (Tr.bin f p a' b').er = 0) :
    ∃ t', t'.z = (Tr.bin f 0 a b).z ∧ Rd (.line 0) (M1 ++ x1 :: (M2 ++ x2 :: M3)) (.ok t' (x2 :: M3)) := by
  obtain ⟨a', hza, hra, hha⟩ := par_rd ha h1 (q := x1 :: (M2 ++ x2 :: M3))
  obtain ⟨b', hzb, hrb, hhb⟩ := par_rd hb h2 (q := x2 :: M3)
  have e1 := (op_lvl hf).2
  have e2 := (op_lvl hg).2
  have a1 := up' (m := lvl f + 1) (by omega) (by omega) hra (fun j h1 h2 hj => by show opOf _ _ x1.s = none; rw [hx1]; exact e1 j hj (by omega)) (fun j _ _ hj => by rw [hha]; exact open_sg j hj)
  have b1 := up' (m := lvl f + 1) (by omega) (by omega) hrb (fun j h1 h2 hj => by show opOf _ _ x2.s = none; rw [hx2]; exact e2 j hj (by omega)) (fun j _ _ hj => by rw [hhb]; exact open_sg j hj)
  have B := bin_rd hf hx1 a1 b1 (her a' b' x1.a hza hzb) (fun h => absurd hl h)
  refine ⟨_, by simp [Tr.z, hza, hzb], up' (by omega) (by omega) B (fun j h1 h2 hj => by show opOf _ _ x2.s = none; rw [hx2]; exact e2 j hj (by omega)) (fun j _ _ hj => by rw [hha]; exact open_sg j hj)⟩
theorem binds_left (ha : ExprP a ta) (hb : ExprP b tb) (hc : ExprP c tc) (h1 : M1.map (·.s) = [[40]] ++ ta ++ [[41]]) (h2 : M2.map (·.s) = [[40]] ++ tb ++ [[41]]) (h3 : M3.map (·.s) = [[40]] ++ tc ++ [[41]]) (hf : 7 ≤ f ∧ f ≤ 19) (hg : 7 ≤ g ∧ g ≤ 19) (hx1 : x1.s = opB f) (hx2 : x2.s = opB g)
    (hl : lvl g ≤ lvl f) (hl2 : ¬ (lvl f = 3 ∧ lvl g = 3)) (her : ∀ a' b' p, a'.z = a.z → b'.z = b.z → (Tr.bin f p a' b').er = 0) (her2 : ∀ t' c' p, t'.z = (Tr.bin f 0 a b).z → c'.z = c.z → (Tr.bin g p t' c').er = 0) :
    ∃ t', t'.z = (Tr.bin g 0 (.bin f 0 a b) c).z ∧ Rd (.line 0) (M1 ++ x1 :: (M2 ++ x2 :: M3)) (.ok t' []) := by
  obtain ⟨a', hza, hra, hha⟩ := par_rd ha h1 (q := x1 :: (M2 ++ x2 :: M3))
  obtain ⟨b', hzb, hrb, hhb⟩ := par_rd hb h2 (q := x2 :: M3)
  obtain ⟨c', hzc, hrc, hhc⟩ := par_rd hc h3 (q := [])
  rw [List.append_nil] at hrc hhc
  have e1 := (op_lvl hf).2
  have e2 := (op_lvl hg).2
  have l1 := lvl_le f
  have l2 := lvl_le g
  have a1 := up' (m := lvl f + 1) (by omega) (by omega) hra (fun j h1 h2 hj => by show opOf _ _ x1.s = none; rw [hx1]; exact e1 j hj (by omega)) (fun j _ _ hj => by rw [hha]; exact open_sg j hj)
  have b1 := up' (m := lvl f + 1) (by omega) (by omega) hrb (fun j h1 h2 hj => by show opOf _ _ x2.s = none; rw [hx2]; exact e2 j hj (by omega)) (fun j _ _ hj => by rw [hhb]; exact open_sg j hj)
  have c1 := up' (m := lvl g + 1) (by omega) (by omega) hrc (fun j h1 h2 hj => op_nil j) (fun j _ _ hj => by rw [hhc]; exact open_sg j hj)
  have hz1 : (Tr.bin f x1.a a' b').z = (Tr.bin f 0 a b).z := by simp [Tr.z, hza, hzb]
  by_cases he : lvl f = lvl g
  · have k1 := (op_lvl hf).1
    have k2 := (op_lvl hg).1
    rw [← hx1] at k1
    rw [← hx2] at k2
    have n3 : lvl f ≠ 3 := fun e => hl2 ⟨e, by omega⟩
    rw [← he] at k2 c1
    have hch := lvl_ch f
    have R : Rd (.line (lvl f)) (M1 ++ x1 :: (M2 ++ x2 :: M3)) (.ok (.bin g x2.a (.bin f x1.a a' b') c') []) :=
      .first_ok hch a1 (.next_ok hch n3 k1 b1 (her a' b' x1.a hza hzb) (.next_ok hch n3 k2 c1 (her2 _ c' x2.a hz1 hzc) (.stop hch (op_nil _))))
    exact ⟨_, by simp [Tr.z, hza, hzb, hzc], up' (by omega) (by omega) R (fun j h1 h2 hj => op_nil j) (fun j _ _ hj => by rw [hha]; exact open_sg j hj)⟩
  · have B := bin_rd hf hx1 a1 b1 (her a' b' x1.a hza hzb) (fun _ => by show opOf _ _ x2.s = none; rw [hx2]; exact e2 _ (lvl_ch f) he)
    have B2 := up' (m := lvl g + 1) (by omega) (by omega) B (fun j h1 h2 hj => by show opOf _ _ x2.s = none; rw [hx2]; exact e2 j hj (by omega)) (fun j _ _ hj => by rw [hha]; exact open_sg j hj)
    have R := bin_rd hg hx2 B2 c1 (her2 _ c' x2.a hz1 hzc) (fun _ => op_nil _)
    exact ⟨_, by simp [Tr.z, hza, hzb, hzc], up' (by omega) (by omega) R (fun j h1 h2 hj => op_nil j) (fun j _ _ hj => by rw [hha]; exact open_sg j hj)⟩
theorem binds_right (ha : ExprP a ta) (hb : ExprP b tb) (hc : ExprP c tc) (h1 : M1.map (·.s) = [[40]] ++ ta ++ [[41]]) (h2 : M2.map (·.s) = [[40]] ++ tb ++ [[41]]) (h3 : M3.map (·.s) = [[40]] ++ tc ++ [[41]]) (hf : 7 ≤ f ∧ f ≤ 19) (hg : 7 ≤ g ∧ g ≤ 19) (hx1 : x1.s = opB f) (hx2 : x2.s = opB g)
    (hl : lvl f < lvl g) (her : ∀ b' c' p, b'.z = b.z → c'.z = c.z → (Tr.bin g p b' c').er = 0) (her2 : ∀ a' t' p, a'.z = a.z → t'.z = (Tr.bin g 0 b c).z → (Tr.bin f p a' t').er = 0) :
    ∃ t', t'.z = (Tr.bin f 0 a (.bin g 0 b c)).z ∧ Rd (.line 0) (M1 ++ x1 :: (M2 ++ x2 :: M3)) (.ok t' []) := by
  obtain ⟨a', hza, hra, hha⟩ := par_rd ha h1 (q := x1 :: (M2 ++ x2 :: M3))
  obtain ⟨b', hzb, hrb, hhb⟩ := par_rd hb h2 (q := x2 :: M3)
  obtain ⟨c', hzc, hrc, hhc⟩ := par_rd hc h3 (q := [])
  rw [List.append_nil] at hrc hhc
  have e1 := (op_lvl hf).2
  have e2 := (op_lvl hg).2
  have l1 := lvl_le f
  have l2 := lvl_le g
  have a1 := up' (m := lvl f + 1) (by omega) (by omega) hra (fun j h1 h2 hj => by show opOf _ _ x1.s = none; rw [hx1]; exact e1 j hj (by omega)) (fun j _ _ hj => by rw [hha]; exact open_sg j hj)
  have b1 := up' (m := lvl g + 1) (by omega) (by omega) hrb (fun j h1 h2 hj => by show opOf _ _ x2.s = none; rw [hx2]; exact e2 j hj (by omega)) (fun j _ _ hj => by rw [hhb]; exact open_sg j hj)
  have c1 := up' (m := lvl g + 1) (by omega) (by omega) hrc (fun j h1 h2 hj => op_nil j) (fun j _ _ hj => by rw [hhc]; exact open_sg j hj)
  have B := bin_rd hg hx2 b1 c1 (her b' c' x2.a hzb hzc) (fun _ => op_nil _)
  have hz1 : (Tr.bin g x2.a b' c').z = (Tr.bin g 0 b c).z := by simp [Tr.z, hzb, hzc]
  have B2 := up' (m := lvl f + 1) (by omega) (by omega) B (fun j h1 h2 hj => op_nil j) (fun j _ _ hj => by rw [hhb]; exact open_sg j hj)
  have R := bin_rd hf hx1 a1 B2 (her2 a' _ x1.a hza hz1) (fun _ => op_nil _)
  exact ⟨_, by simp [Tr.z, hza, hzb, hzc], up' (by omega) (by omega) R (fun j h1 h2 hj => op_nil j) (fun j _ _ hj => by rw [hha]; exact open_sg j hj)⟩
end
/-- The text with two operators. -/
theorem lex_bin {T1 T2 op : List UInt8} {x1 x2 : List (List UInt8)} (h1 : LexP T1 x1) (h2 : LexP T2 x2) (hc : ∃ kk, checkE kk op = 0) : LexP (T1 ++ [32] ++ op ++ [32] ++ T2) (x1 ++ [op] ++ x2) := by
  obtain ⟨kk, hc⟩ := hc
  intro X p0 n ts q e hX hn hl
  simp only [List.length_append, List.length_cons, List.length_nil] at hn hl
  obtain ⟨M, hM, h4⟩ := h2 X (p0 + T1.length + 1 + op.length + 1) (n + x1.length + 1) ts q e hX (by omega) (by
    rw [show p0 + T1.length + 1 + op.length + 1 + T2.length = p0 + (T1.length + (0 + 1) + op.length + (0 + 1) + T2.length) by omega, show n + x1.length + 1 + x2.length = n + (x1.length + (0 + 1) + x2.length) by omega]; exact hl)
  have h5 := Lex.one (k := kk) (s := op) (X := 32 :: (T2 ++ X)) hc (.inr (.inl ⟨_, rfl⟩)) (show n + x1.length ≠ 200 by omega) (Lex.blank h4)
  obtain ⟨M2, hM2, h6⟩ := h1 (32 :: (op ++ 32 :: (T2 ++ X))) p0 n _ q e (.inr (.inl ⟨_, rfl⟩)) (by omega) (Lex.blank h5)
  refine ⟨M2 ++ (⟨kk, op, ((p0 + T1.length + 1 : Nat) : Int)⟩ :: M), by simp [hM, hM2], ?_⟩
  simpa [List.append_assoc] using h6
end Go.Proofs.YtoobggcopoljcaaDoor
