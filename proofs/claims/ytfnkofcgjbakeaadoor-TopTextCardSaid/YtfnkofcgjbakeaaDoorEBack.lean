
/- Written with brackets it is read: what tokens are parsed as. -/
import Derived.Test.YtfnkofcgjbakeaaDoorELex
namespace Go.Proofs.YtfnkofcgjbakeaaDoor
open Go.RowKit N4
set_option linter.unusedVariables false
set_option maxRecDepth 100000

/-- A tree without its places. -/
def Tr.z : Tr → Tr
  | .leaf k n _ => .leaf k n 0
  | .un k _ a => .un k 0 a.z
  | .bin k _ a b => .bin k 0 a.z b.z
theorem Tr.z_sz (t : Tr) : t.z.sz = t.sz ∧ t.z.dp = t.dp := by
  induction t with
  | leaf => exact ⟨rfl, rfl⟩
  | un k p a ih => simp [Tr.z, Tr.sz, Tr.dp, ih.1, ih.2]
  | bin k p a b iha ihb => simp [Tr.z, Tr.sz, Tr.dp, iha.1, iha.2, ihb.1, ihb.2]
theorem Tr.er_z {t u : Tr} (h : t.z = u.z) : t.er = u.er := by
  have h1 := t.z_sz
  have h2 := u.z_sz
  rw [h] at h1
  unfold Tr.er
  rw [← h1.1, ← h1.2, h2.1, h2.2]
theorem Tr.flat_z {t u : Tr} (h : t.z = u.z) : t.flat.map unp = u.flat.map unp := by
  have key : ∀ t : Tr, t.flat.map unp = t.z.flat.map unp := by
    intro t
    have cm : ∀ (d : Int) (l : List Nd), (l.map (shift d)).map unp = (l.map unp).map (shift d) := by
      intro d l; rw [List.map_map, List.map_map]; rfl
    induction t with
    | leaf => rfl
    | un k p a ih =>
      show (made1 k 0 p a.flat).map unp = (made1 k 0 0 a.z.flat).map unp
      unfold made1
      rw [List.map_append, List.map_append, cm, cm, ih, a.flat_length, a.z.flat_length, a.z_sz.1]; rfl
    | bin k p a b iha ihb =>
      show (made2 k 0 p a.flat b.flat).map unp = (made2 k 0 0 a.z.flat b.z.flat).map unp
      unfold made2
      rw [List.map_append, List.map_append, List.map_append, List.map_append, cm, cm, cm, cm, iha, ihb, a.flat_length, b.flat_length, a.z.flat_length, b.z.flat_length, a.z_sz.1, b.z_sz.1]; rfl
  rw [key t, key u, h]

/-- No operator of the lines from one on. -/
def NoOp (m : Nat) (s : List UInt8) : Prop := ∀ j, m ≤ j → isCh j → opOf (loK j) (hiK j) s = none
def NoSg (s : List UInt8) : Prop := s ≠ sgnB 2 ∧ s ≠ sgnB 7
theorem NoOp.mono {m m' : Nat} {s : List UInt8} (h : NoOp m s) (hm : m ≤ m') : NoOp m' s := fun j hj => h j (by omega)
theorem up1 {n : Nat} {s : List Tok} {t : Tr} {q : List Tok} (hn : isCh n) (h : Rd (.line (n + 1)) s (.ok t q)) (ho : opOf (loK n) (hiK n) (txt q) = none) : Rd (.line n) s (.ok t q) := .first_ok hn h (.stop hn ho)
theorem up2 {n : Nat} {s : List Tok} {r : R} (hn : isPr n) (h : Rd (.line (n + 1)) s r) (hs : txt s ≠ sgnB n) : Rd (.line n) s r := .pre (c := []) hn (by simp) hs h
theorem up {n m : Nat} (hn : n ≤ 8) (hm : m ≤ n) {s : List Tok} {t : Tr} {q : List Tok} (h : Rd (.line n) s (.ok t q)) (ho : NoOp m (txt q)) (hs : ∀ j, m ≤ j → j < n → isPr j → txt s ≠ sgnB j) : Rd (.line m) s (.ok t q) := by
  induction n with
  | zero => obtain rfl : m = 0 := by omega
            exact h
  | succ n ih =>
    by_cases he : m = n + 1
    · subst he; exact h
    · have h1 : isCh n ∨ isPr n := by unfold isCh isPr; omega
      have h2 : Rd (.line n) s (.ok t q) := by
        rcases h1 with h1 | h1
        · exact up1 h1 h (ho n (by omega) h1)
        · exact up2 h1 h (hs n (by omega) (by omega) h1)
      exact ih (by omega) (by omega) h2 (fun j a b => hs j a (by omega))
theorem NoSg.all {s : List UInt8} (h : NoSg s) (j : Nat) (hj : isPr j) : s ≠ sgnB j := by
  rcases hj with rfl | rfl
  · exact h.1
  · exact h.2

/-- The line of a binary kind. -/
def lvl (k : Int) : Nat := if k = 19 then 0 else if k = 18 then 1 else if 12 ≤ k then 3 else if 10 ≤ k then 4 else if 8 ≤ k then 5 else 6
theorem lvl_ch (k : Int) : isCh (lvl k) := by unfold lvl isCh; repeat' split
                                              all_goals omega
theorem lvl_le (k : Int) : lvl k ≤ 6 := by unfold lvl; repeat' split
                                           all_goals omega
theorem ch_le {j : Nat} (h : isCh j) : j ≤ 6 := by unfold isCh at h; omega
theorem op_lvl {k : Int} (hk : 7 ≤ k ∧ k ≤ 19) : opOf (loK (lvl k)) (hiK (lvl k)) (opB k) = some k ∧ ∀ j, isCh j → j ≠ lvl k → opOf (loK j) (hiK j) (opB k) = none := by
  have key : ∀ m : Fin 13, opOf (loK (lvl (7 + (m.val : Int)))) (hiK (lvl (7 + (m.val : Int)))) (opB (7 + (m.val : Int))) = some (7 + (m.val : Int)) ∧ ∀ j : Fin 7, isCh j.val → j.val ≠ lvl (7 + (m.val : Int)) → opOf (loK j.val) (hiK j.val) (opB (7 + (m.val : Int))) = none := by decide +kernel
  obtain ⟨h1, h2⟩ := key ⟨(k - 7).toNat, by omega⟩
  simp only [show 7 + (((k - 7).toNat : Nat) : Int) = k by omega] at h1 h2
  exact ⟨h1, fun j hj hne => h2 ⟨j, by have := ch_le hj; omega⟩ hj hne⟩
theorem no_nil : NoOp 0 [] := fun j _ _ => op_nil j
theorem no_close : NoOp 0 [41] := by
  intro j _ hj
  have key : ∀ j : Fin 7, opOf (loK j.val) (hiK j.val) [41] = none := by decide +kernel
  exact key ⟨j, by have := ch_le hj; omega⟩

def PrimP (t : Tr) (tx : List (List UInt8)) : Prop := ∀ (M q : List Tok), M.map (·.s) = tx → ∃ t', t'.z = t.z ∧ Rd (.line 8) (M ++ q) (.ok t' q)
def ExprP (t : Tr) (tx : List (List UInt8)) : Prop := ∀ (M q : List Tok), M.map (·.s) = tx → NoOp 0 (txt q) → ∃ t', t'.z = t.z ∧ Rd (.line 0) (M ++ q) (.ok t' q)
theorem map_cons_inv {M : List Tok} {s : List UInt8} {r : List (List UInt8)} (h : M.map (·.s) = s :: r) : ∃ x M', M = x :: M' ∧ x.s = s ∧ M'.map (·.s) = r := by
  cases M with
  | nil => simp at h
  | cons x M => simp at h; exact ⟨x, M, rfl, h.1, h.2⟩
theorem map_app_inv {M : List Tok} {r1 r2 : List (List UInt8)} (h : M.map (·.s) = r1 ++ r2) : ∃ M1 M2, M = M1 ++ M2 ∧ M1.map (·.s) = r1 ∧ M2.map (·.s) = r2 :=
  List.map_eq_append_iff.1 h
theorem prim_brackets {t : Tr} {tx : List (List UInt8)} (h : ExprP t tx) : PrimP t ([[40]] ++ tx ++ [[41]]) := by
  intro M q hM
  have hM' : M.map (·.s) = [40] :: (tx ++ [[41]]) := by simpa using hM
  obtain ⟨x, M1, rfl, hx, h1⟩ := map_cons_inv hM'
  obtain ⟨M2, M3, rfl, h2, h3⟩ := map_app_inv h1
  obtain ⟨y, M4, rfl, hy, h4⟩ := map_cons_inv h3
  obtain rfl : M4 = [] := by simpa using h4
  obtain ⟨t', hz, hr⟩ := h M2 (y :: q) h2 (by show NoOp 0 y.s; rw [hy]; exact no_close)
  refine ⟨t', hz, ?_⟩
  have := Rd.br_ok (x := x) hx hr hy
  simpa [List.append_assoc] using this
theorem leafOf_leafT {k n : Int} (hk : 1 ≤ k ∧ k ≤ 4) (h0 : 0 ≤ n) (h1 : n ≤ 9223372036854775807) (hn : n = 0 ∨ k = 1) : leafOf (leafT k n) = some (k, n) := by
  unfold leafT
  by_cases h : k = 1
  · subst h
    obtain ⟨g1, g2, _⟩ := num_ok h0 h1
    rw [if_pos rfl, leafOf, if_pos g1, g2]
  · rw [if_neg h]
    obtain rfl : n = 0 := by omega
    have hk' : k = 2 ∨ k = 3 ∨ k = 4 := by omega
    rcases hk' with rfl | rfl | rfl <;> decide +kernel
theorem head_app {M q : List Tok} {s : List UInt8} {r : List (List UInt8)} (h : M.map (·.s) = s :: r) : txt (M ++ q) = s := by
  obtain ⟨x, M', rfl, hx, _⟩ := map_cons_inv h
  exact hx
theorem leafT_sg {k n : Int} (hk : 1 ≤ k ∧ k ≤ 4) (h0 : 0 ≤ n) (h1 : n ≤ 9223372036854775807) : NoSg (leafT k n) := by
  unfold leafT
  by_cases h : k = 1
  · rw [if_pos h]
    obtain ⟨_, _, g3, g4, _⟩ := num_ok h0 h1
    cases hs : numT n with
    | nil => exact absurd hs g3
    | cons c r =>
      rw [hs] at g4
      have := g4 c List.mem_cons_self
      constructor
      · intro e; injection e with e _; subst e; revert this; decide
      · intro e; injection e with e _; subst e; revert this; decide
  · rw [if_neg h]
    have hk' : k = 2 ∨ k = 3 ∨ k = 4 := by omega
    rcases hk' with rfl | rfl | rfl <;> exact ⟨by decide, by decide⟩
/-- What stands in front of a part is no sign. -/
theorem px_sg (t : Tr) (h : t.ok = true) (hb : t.big) : ∃ s r, t.px = s :: r ∧ NoSg s := by
  cases t with
  | leaf k n p => obtain ⟨hk, h0⟩ := Tr.ok_leaf h; exact ⟨_, _, rfl, leafT_sg hk h0 hb⟩
  | un k p a => exact ⟨[40], _, rfl, by decide, by decide⟩
  | bin k p a b => exact ⟨[40], _, rfl, by decide, by decide⟩
theorem bin_rd {k : Int} (hk : 7 ≤ k ∧ k ≤ 19) {a b : Tr} {s q : List Tok} {x : Tok} {sb : List Tok} (hx : x.s = opB k) (ha : Rd (.line (lvl k + 1)) s (.ok a (x :: sb))) (hb : Rd (.line (lvl k + 1)) sb (.ok b q)) (he : (Tr.bin k x.a a b).er = 0)
    (ho : lvl k ≠ 3 → opOf (loK (lvl k)) (hiK (lvl k)) (txt q) = none) : Rd (.line (lvl k)) s (.ok (.bin k x.a a b) q) := by
  have h1 := (op_lvl hk).1
  rw [← hx] at h1
  by_cases h3 : lvl k = 3
  · rw [h3] at ha hb h1 ⊢
    exact .first_ok (by decide) ha (.next_one h1 hb he)
  · exact .first_ok (lvl_ch k) ha (.next_ok (lvl_ch k) h3 h1 hb he (.stop (lvl_ch k) (ho h3)))
theorem un_er {k p p' : Int} {t u : Tr} (h : t.z = u.z) : (Tr.un k p t).er = (Tr.un k p' u).er := Tr.er_z (by simp [Tr.z, h])
theorem bin_er {k p p' : Int} {t u t' u' : Tr} (h : t.z = t'.z) (h2 : u.z = u'.z) : (Tr.bin k p t u).er = (Tr.bin k p' t' u').er := Tr.er_z (by simp [Tr.z, h, h2])
theorem NoOp.op {k : Int} (hk : 7 ≤ k ∧ k ≤ 19) : NoOp (lvl k + 1) (opB k) := fun j hj hc => (op_lvl hk).2 j hc (by omega)

theorem back (t : Tr) (h : t.ok = true) (hb : t.big) (he : t.er = 0) : ExprP t t.tx ∧ PrimP t t.px := by
  induction t with
  | leaf k n p =>
    obtain ⟨hk, h0⟩ := Tr.ok_leaf h
    have hn : n = 0 ∨ k = 1 := by
      simp only [Tr.ok, fitsF, Bool.and_eq_true, Bool.or_eq_true, decide_eq_true_eq] at h; exact h.2.1.1.2
    have hp : PrimP (.leaf k n p) [leafT k n] := by
      intro M q hM
      obtain ⟨x, M', rfl, hx, h1⟩ := map_cons_inv hM
      obtain rfl : M' = [] := by simpa using h1
      exact ⟨.leaf k n x.a, rfl, .leaf (by rw [hx]; exact leafOf_leafT hk h0 hb hn)⟩
    refine ⟨?_, hp⟩
    intro M q hM hq
    obtain ⟨t', hz, hr⟩ := hp M q hM
    exact ⟨t', hz, up (by omega) (by omega) hr hq (fun j _ _ hj => by rw [head_app hM]; exact (leafT_sg hk h0 hb).all j hj)⟩
  | un k p a ih =>
    simp only [Tr.ok, Bool.and_eq_true, decide_eq_true_eq] at h
    obtain ⟨_, hpa⟩ := ih h.2 hb (Tr.er_un he)
    obtain ⟨s0, r0, hpx, hsg⟩ := px_sg a h.2 hb
    have main : ExprP (.un k p a) (Tr.un k p a).tx := by
      rw [Tr.tx_un]
      intro M q hM hq
      obtain ⟨x, M', rfl, hx, h1⟩ := map_cons_inv hM
      obtain ⟨a', hz, hr⟩ := hpa M' q h1
      have hhd : txt (M' ++ q) = s0 := head_app (h1.trans hpx)
      have hk' : k = 5 ∨ k = 6 := by omega
      rcases hk' with rfl | rfl
      · have h7 : Rd (.line 7) ([x] ++ (M' ++ q)) (wrapR (sgnK 7) (M' ++ q) [x] (.ok a' q)) := .pre (by decide) (by simpa using hx) (by rw [hhd]; exact hsg.2) hr
        have hw : wrapR (sgnK 7) (M' ++ q) [x] (.ok a' q) = .ok (.un 5 x.a a') q := by
          show (if (Tr.un 5 x.a a').er = 0 then R.ok (.un 5 x.a a') q else _) = _
          rw [if_pos (by rw [un_er (p' := p) hz]; exact he)]
        rw [hw] at h7
        refine ⟨.un 5 x.a a', by simp [Tr.z, hz], up (by omega) (by omega) h7 hq ?_⟩
        intro j _ hj7 hj
        show x.s ≠ sgnB j
        rw [hx]
        rcases hj with rfl | rfl
        · decide
        · omega
      · have h3 : Rd (.line 3) (M' ++ q) (.ok a' q) := up (by omega) (by omega) hr (hq.mono (by omega)) (fun j _ _ hj => by rw [hhd]; exact hsg.all j hj)
        have h2 : Rd (.line 2) ([x] ++ (M' ++ q)) (wrapR (sgnK 2) (M' ++ q) [x] (.ok a' q)) := .pre (by decide) (by simpa using hx) (by rw [hhd]; exact hsg.1) h3
        have hw : wrapR (sgnK 2) (M' ++ q) [x] (.ok a' q) = .ok (.un 6 x.a a') q := by
          show (if (Tr.un 6 x.a a').er = 0 then R.ok (.un 6 x.a a') q else _) = _
          rw [if_pos (by rw [un_er (p' := p) hz]; exact he)]
        rw [hw] at h2
        exact ⟨.un 6 x.a a', by simp [Tr.z, hz], up (by omega) (by omega) h2 hq (fun j h0 h1 hj => by rcases hj with rfl | rfl <;> omega)⟩
    exact ⟨main, prim_brackets main⟩
  | bin k p a b iha ihb =>
    simp only [Tr.ok, Bool.and_eq_true, decide_eq_true_eq] at h
    obtain ⟨hea, heb⟩ := Tr.er_bin he
    obtain ⟨_, hpa⟩ := iha h.1.2 hb.1 hea
    obtain ⟨_, hpb⟩ := ihb h.2 hb.2 heb
    obtain ⟨sa, ra, hpxa, hsga⟩ := px_sg a h.1.2 hb.1
    obtain ⟨sb, rb, hpxb, hsgb⟩ := px_sg b h.2 hb.2
    have hk := h.1.1.1
    have main : ExprP (.bin k p a b) (Tr.bin k p a b).tx := by
      rw [Tr.tx_bin]
      intro M q hM hq
      rw [List.append_assoc] at hM
      obtain ⟨M1, M2, rfl, h1, h2⟩ := map_app_inv hM
      obtain ⟨x, M3, rfl, hx, h3⟩ := map_cons_inv h2
      obtain ⟨a', hza, hra⟩ := hpa M1 (x :: (M3 ++ q)) h1
      obtain ⟨b', hzb, hrb⟩ := hpb M3 q h3
      have hl := lvl_le k
      have ha1 := up (m := lvl k + 1) (by omega) (by omega) hra (by show NoOp _ x.s; rw [hx]; exact NoOp.op hk) (fun j _ _ hj => by rw [head_app (h1.trans hpxa)]; exact hsga.all j hj)
      have hb1 := up (m := lvl k + 1) (by omega) (by omega) hrb (hq.mono (by omega)) (fun j _ _ hj => by rw [head_app (h3.trans hpxb)]; exact hsgb.all j hj)
      have hB := bin_rd hk hx ha1 hb1 (by rw [bin_er (p' := p) hza hzb]; exact he) (fun _ => hq (lvl k) (by omega) (lvl_ch k))
      refine ⟨.bin k x.a a' b', by simp [Tr.z, hza, hzb], ?_⟩
      rw [List.append_assoc]
      exact up (by omega) (by omega) hB hq (fun j _ _ hj => by rw [head_app (h1.trans hpxa)]; exact hsga.all j hj)
    exact ⟨main, prim_brackets main⟩
theorem tx_len (t : Tr) : t.tx.length + 2 ≤ 3 * t.sz ∧ t.px.length ≤ 3 * t.sz := by
  induction t with
  | leaf => simp [Tr.tx, Tr.px, Tr.sz]
  | un k p a ih =>
    have e : (Tr.un k p a).tx.length + 2 ≤ 3 * (Tr.un k p a).sz := by rw [Tr.tx_un]; simp [Tr.sz]; omega
    exact ⟨e, by show ([[40]] ++ (Tr.un k p a).tx ++ [[41]]).length ≤ _; simp; omega⟩
  | bin k p a b iha ihb =>
    have e : (Tr.bin k p a b).tx.length + 2 ≤ 3 * (Tr.bin k p a b).sz := by rw [Tr.tx_bin]; simp [Tr.sz]; omega
    exact ⟨e, by show ([[40]] ++ (Tr.bin k p a b).tx ++ [[41]]).length ≤ _; simp; omega⟩
end Go.Proofs.YtfnkofcgjbakeaaDoor
