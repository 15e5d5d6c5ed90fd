/- Brackets around all of it: the same answer whatever stands behind. -/
import Derived.Test.YtoobggcopoljcaaDoorEBack
namespace Go.Proofs.YtoobggcopoljcaaDoor
open Go.RowKit N4
set_option linter.unusedVariables false
set_option maxRecDepth 100000

def PrimQ (t : Tr) (tx : List (List UInt8)) : Prop := ∀ M : List Tok, M.map (·.s) = tx → ∃ t', t'.z = t.z ∧ ∀ q, Rd (.line 8) (M ++ q) (.ok t' q)
def ExprQ (t : Tr) (tx : List (List UInt8)) : Prop := ∀ M : List Tok, M.map (·.s) = tx → ∃ t', t'.z = t.z ∧ ∀ q, NoOp 0 (txt q) → Rd (.line 0) (M ++ q) (.ok t' q)
theorem prim_bracketsQ {t : Tr} {tx : List (List UInt8)} (h : ExprQ t tx) : PrimQ t ([[40]] ++ tx ++ [[41]]) := by
  intro M hM
  have hM' : M.map (·.s) = [40] :: (tx ++ [[41]]) := by simpa using hM
  obtain ⟨x, M1, rfl, hx, h1⟩ := map_cons_inv hM'
  obtain ⟨M2, M3, rfl, h2, h3⟩ := map_app_inv h1
  obtain ⟨y, M4, rfl, hy, h4⟩ := map_cons_inv h3
  obtain rfl : M4 = [] := by simpa using h4
  obtain ⟨t', hz, hr⟩ := h M2 h2
  refine ⟨t', hz, fun q => ?_⟩
  have := Rd.br_ok (x := x) hx (hr (y :: q) (by show NoOp 0 y.s; rw [hy]; exact no_close)) hy
  simpa [List.append_assoc] using this
theorem back2 (t : Tr) (h : t.ok = true) (hb : t.big) (he : t.er = 0) : ExprQ t t.tx ∧ PrimQ t t.px := by
  induction t with
  | leaf k n p =>
    obtain ⟨hk, h0⟩ := Tr.ok_leaf h
    have hn : n = 0 ∨ k = 1 := by
      simp only [Tr.ok, fitsF, Bool.and_eq_true, Bool.or_eq_true, decide_eq_true_eq] at h; exact h.2.1.1.2
    have hp : PrimQ (.leaf k n p) [leafT k n] := by
      intro M hM
      obtain ⟨x, M', rfl, hx, h1⟩ := map_cons_inv hM
      obtain rfl : M' = [] := by simpa using h1
      exact ⟨.leaf k n x.a, rfl, fun q => .leaf (by rw [hx]; exact leafOf_leafT hk h0 hb hn)⟩
    refine ⟨?_, hp⟩
    intro M hM
    obtain ⟨t', hz, hr⟩ := hp M hM
    exact ⟨t', hz, fun q hq => up (by omega) (by omega) (hr q) hq (fun j _ _ hj => by rw [head_app hM]; exact (leafT_sg hk h0 hb).all j hj)⟩
  | un k p a ih =>
    simp only [Tr.ok, Bool.and_eq_true, decide_eq_true_eq] at h
    obtain ⟨_, hpa⟩ := ih h.2 hb (Tr.er_un he)
    obtain ⟨s0, r0, hpx, hsg⟩ := px_sg a h.2 hb
    have main : ExprQ (.un k p a) (Tr.un k p a).tx := by
      rw [Tr.tx_un]
      intro M hM
      obtain ⟨x, M', rfl, hx, h1⟩ := map_cons_inv hM
      obtain ⟨a', hz, hr'⟩ := hpa M' h1
      have hk' : k = 5 ∨ k = 6 := by omega
      rcases hk' with rfl | rfl
      · refine ⟨.un 5 x.a a', by simp [Tr.z, hz], fun q hq => ?_⟩
        have hr := hr' q
        have hhd : txt (M' ++ q) = s0 := head_app (h1.trans hpx)
        have h7 : Rd (.line 7) ([x] ++ (M' ++ q)) (wrapR (sgnK 7) (M' ++ q) [x] (.ok a' q)) := .pre (by decide) (by simpa using hx) (by rw [hhd]; exact hsg.2) hr
        have hw : wrapR (sgnK 7) (M' ++ q) [x] (.ok a' q) = .ok (.un 5 x.a a') q := by
          show (if (Tr.un 5 x.a a').er = 0 then R.ok (.un 5 x.a a') q else _) = _
          rw [if_pos (by rw [un_er (p' := p) hz]; exact he)]
        rw [hw] at h7
        refine up (by omega) (by omega) h7 hq ?_
        intro j _ hj7 hj
        show x.s ≠ sgnB j
        rw [hx]
        rcases hj with rfl | rfl
        · decide
        · omega
      · refine ⟨.un 6 x.a a', by simp [Tr.z, hz], fun q hq => ?_⟩
        have hr := hr' q
        have hhd : txt (M' ++ q) = s0 := head_app (h1.trans hpx)
        have h3 : Rd (.line 3) (M' ++ q) (.ok a' q) := up (by omega) (by omega) hr (hq.mono (by omega)) (fun j _ _ hj => by rw [hhd]; exact hsg.all j hj)
        have h2 : Rd (.line 2) ([x] ++ (M' ++ q)) (wrapR (sgnK 2) (M' ++ q) [x] (.ok a' q)) := .pre (by decide) (by simpa using hx) (by rw [hhd]; exact hsg.1) h3
        have hw : wrapR (sgnK 2) (M' ++ q) [x] (.ok a' q) = .ok (.un 6 x.a a') q := by
          show (if (Tr.un 6 x.a a').er = 0 then R.ok (.un 6 x.a a') q else _) = _
          rw [if_pos (by rw [un_er (p' := p) hz]; exact he)]
        rw [hw] at h2
        exact up (by omega) (by omega) h2 hq (fun j h0 h1 hj => by rcases hj with rfl | rfl <;> omega)
    exact ⟨main, prim_bracketsQ main⟩
  | bin k p a b iha ihb =>
    simp only [Tr.ok, Bool.and_eq_true, decide_eq_true_eq] at h
    obtain ⟨hea, heb⟩ := Tr.er_bin he
    obtain ⟨_, hpa⟩ := iha h.1.2 hb.1 hea
    obtain ⟨_, hpb⟩ := ihb h.2 hb.2 heb
    obtain ⟨sa, ra, hpxa, hsga⟩ := px_sg a h.1.2 hb.1
    obtain ⟨sb, rb, hpxb, hsgb⟩ := px_sg b h.2 hb.2
    have hk := h.1.1.1
    have main : ExprQ (.bin k p a b) (Tr.bin k p a b).tx := by
      rw [Tr.tx_bin]
      intro M hM
      rw [List.append_assoc] at hM
      obtain ⟨M1, M2, rfl, h1, h2⟩ := map_app_inv hM
      obtain ⟨x, M3, rfl, hx, h3⟩ := map_cons_inv h2
      obtain ⟨a', hza, hra'⟩ := hpa M1 h1
      obtain ⟨b', hzb, hrb'⟩ := hpb M3 h3
      refine ⟨.bin k x.a a' b', by simp [Tr.z, hza, hzb], fun q hq => ?_⟩
      have hra := hra' (x :: (M3 ++ q))
      have hrb := hrb' q
      have hl := lvl_le k
      have ha1 := up (m := lvl k + 1) (by omega) (by omega) hra (by show NoOp _ x.s; rw [hx]; exact NoOp.op hk) (fun j _ _ hj => by rw [head_app (h1.trans hpxa)]; exact hsga.all j hj)
      have hb1 := up (m := lvl k + 1) (by omega) (by omega) hrb (hq.mono (by omega)) (fun j _ _ hj => by rw [head_app (h3.trans hpxb)]; exact hsgb.all j hj)
      have hB := bin_rd hk hx ha1 hb1 (by rw [bin_er (p' := p) hza hzb]; exact he) (fun _ => hq (lvl k) (by omega) (lvl_ch k))
      rw [List.append_assoc]
      exact up (by omega) (by omega) hB hq (fun j _ _ hj => by rw [head_app (h1.trans hpxa)]; exact hsga.all j hj)
    exact ⟨main, prim_bracketsQ main⟩
/-- What may stand behind, and does not go on. -/
theorem no_behind {k : Int} {s : List UInt8} (hv : checkE k s = 0) (h : k = 1 ∨ s = [107] ∨ s = [41] ∨ s = [40]) : NoOp 0 s := by
  rcases h with rfl | rfl | rfl | rfl
  · intro j _ hj
    cases ho : opOf (loK j) (hiK j) s with
    | none => rfl
    | some m =>
      obtain ⟨h1, h2, h3⟩ := op_range ho
      have h7 := lo7 j
      have key : ∀ m : Fin 13, checkE 1 (opB (7 + (m.val : Int))) ≠ 0 := by decide +kernel
      have := key ⟨(m - 7).toNat, by omega⟩
      simp only [show 7 + (((m - 7).toNat : Nat) : Int) = m by omega] at this
      rw [h3] at hv
      exact absurd hv this
  all_goals
    intro j _ hj
    have hj' : j ≤ 6 := ch_le hj
    have : j = 0 ∨ j = 1 ∨ j = 3 ∨ j = 4 ∨ j = 5 ∨ j = 6 := hj
    rcases this with rfl | rfl | rfl | rfl | rfl | rfl <;> decide +kernel
/-- An expression in brackets, and what stands behind. -/
theorem brackets_rd {t : Tr} (h : t.ok = true) (hb : t.big) (he : t.er = 0) {M : List Tok} (hM : M.map (·.s) = [[40]] ++ t.tx ++ [[41]]) :
    ∃ t', t'.z = t.z ∧ ∀ q, NoOp 0 (txt q) → Rd (.line 0) (M ++ q) (.ok t' q) := by
  obtain ⟨t', hz, hr⟩ := prim_bracketsQ (back2 t h hb he).1 M hM
  refine ⟨t', hz, fun q hq => up (by omega) (by omega) (hr q) hq (fun j _ _ hj => ?_)⟩
  rw [head_app (r := t.tx ++ [[41]]) (by simpa using hM)]
  rcases hj with rfl | rfl <;> decide
end Go.Proofs.YtoobggcopoljcaaDoor
