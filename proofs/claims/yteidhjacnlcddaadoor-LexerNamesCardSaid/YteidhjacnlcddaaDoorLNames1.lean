/- The walk of LexerNames. -/
import Derived.Test.YteidhjacnlcddaaDoorLNames0
import Derived.Test.YteidhjacnlcddaaDoorLOpen
namespace Go.Proofs.YteidhjacnlcddaaDoor
open Go.ChangeShapes Go.WideShapes Go.ChangeAt Go.RowKit
set_option linter.unusedVariables false

def badToks : List Tok := [⟨0, [], 0⟩, ⟨1, [], 0⟩, ⟨1, [97], 0⟩, ⟨2, [49], 0⟩, ⟨2, [101], 0⟩, ⟨3, [33], 0⟩, ⟨3, [60, 61, 61], 0⟩, ⟨4, [97], 0⟩, ⟨3, [], 0⟩, ⟨1, [32, 49], 0⟩, ⟨1, [57, 50, 50, 51, 51, 55, 50, 48, 51, 54, 56, 53, 52, 55, 55, 53, 56, 48, 56], 0⟩]
theorem bad_join : ∀ t ∈ badToks, joinF [t] = ([], 8) ∧ t.s.length ≤ 100 := by decide +kernel
theorem toks_lit (w : World) (cs : Array Value) (t : TypeId) (L : List Tok) (B : Nat) (hB : w.heap.size = B) (h : cs.toList = tokCells L) : Toks (w.alloc (.cells cs t)) (some ⟨B, 0, none⟩) L := by
  subst hB
  refine .inr ⟨_, rfl, by simp, fun j u hu => ?_⟩
  rw [← h] at hu
  have e : (⟨w.heap.size, 0, none⟩ : Addr).add j = ⟨w.heap.size, j, none⟩ := by unfold Addr.add; split <;> simp_all
  rw [e, cell_of_row _ _ j cs t (0, 0) (heap_alloc_new w _)]
  simpa using hu
theorem toks_sub {w : World} {g : Nat} {L : List Tok} (h : Toks w (some ⟨g, 0, none⟩) L) (k : Nat) (t : Tok) (hk : L[k]? = some t) : Toks w (some ⟨g, k * 3, none⟩) [t] := by
  obtain ⟨hkl, e⟩ := List.getElem?_eq_some_iff.1 hk
  rcases h with rfl | ⟨ad, h1, h2, h3⟩
  · simp at hkl
  · obtain rfl := Option.some.inj h1
    obtain ⟨c0, c1, c2⟩ := tokCells_at L k hkl
    rw [e] at c0 c1 c2
    have aa : ∀ j : Nat, (⟨g, 0, none⟩ : Addr).add j = ⟨g, j, none⟩ := fun j => by unfold Addr.add; split <;> simp_all
    have ab : ∀ j : Nat, (⟨g, k * 3, none⟩ : Addr).add j = ⟨g, k * 3 + j, none⟩ := fun j => by unfold Addr.add; split <;> simp_all
    refine .inr ⟨_, rfl, h2, fun j u hu => ?_⟩
    rw [ab]
    have hj : j < 3 := by
      obtain ⟨hx, _⟩ := List.getElem?_eq_some_iff.1 hu
      exact hx
    rcases (by omega : j = 0 ∨ j = 1 ∨ j = 2) with rfl | rfl | rfl
    · have := h3 _ _ c0; rw [aa] at this; rw [Nat.add_zero, this]; exact hu
    · have := h3 _ _ c1; rw [aa] at this; rw [this]; exact hu
    · have := h3 _ _ c2; rw [aa] at this; rw [this]; exact hu

theorem many_g (w0 w : World) (A : Option Addr) (c : Nat) (hg : Good w0 w) : Calls Tryd.prog 12 #[.slice A 201 c] w fun e w' => e = .returned (.tuple #[.string ⟨#[]⟩, .int .i64 4]) ∧ Below w.heap.size w w' ∧ Good w0 w' := by
  have h := join_many A c (List.replicate 201 ⟨0, [], 0⟩) w (by rw [List.length_replicate]; unfold maxLen; omega) (by rw [List.length_replicate]; omega) hg.2
  rw [List.length_replicate] at h
  exact h.mono fun e w' ⟨he, hgg⟩ => ⟨he, hgg.1, hg.step hgg.1⟩

/-- A row of 200 tokens of which the first k are laid. -/
def Full (w : World) (g k : Nat) : Prop := ∃ cur, w.heap[g]? = some (.cells cur 30 (0, 0)) ∧ cur.size = 600 ∧ ∀ j, j < k → cur[j * 3]? = some (.int .u8 2) ∧ cur[j * 3 + 1]? = some (.string ⟨#[97]⟩) ∧ cur[j * 3 + 2]? = some (.int .i64 0)
theorem Full.start (w : World) (C : Array Value) (h : C.size = 600) (g : Nat) (hg : w.heap.size = g) : Full (w.alloc (.cells C 30)) g 0 := by
  subst hg; exact ⟨C, heap_alloc_new w _, h, fun j hj => by omega⟩
theorem Full.cell {w : World} {g k : Nat} (h : Full w g k) (j : Nat) (hj : j < 600) : (∃ v, w.cell? ⟨g, j, none⟩ = some v) ∧ w.frozen? ⟨g, j, none⟩ = false := by
  obtain ⟨cur, h1, h2, _⟩ := h
  refine ⟨⟨cur[j], ?_⟩, Lib.frozen_of_heap h1 j⟩
  rw [Lib.cell_of_heap h1]; exact Array.getElem?_eq_getElem (by omega)
theorem heap_set {w : World} {g : Nat} {cs : Array Value} {t : TypeId} (h : w.heap[g]? = some (.cells cs t (0, 0))) (i : Nat) (u : Value) : (w.setCell ⟨g, i, none⟩ u).heap[g]? = some (.cells (cs.setIfInBounds i u) t (0, 0)) := by
  simp [World.setCell, Array.getElem?_modify, h]
theorem Full.step {w : World} {g k : Nat} (h : Full w g k) (hk : k < 200) : Full (((w.setCell ⟨g, k * 3, none⟩ (.int .u8 2)).setCell ⟨g, k * 3 + 1, none⟩ (.string ⟨#[97]⟩)).setCell ⟨g, k * 3 + 2, none⟩ (.int .i64 0)) g (k + 1) := by
  obtain ⟨cur, h1, h2, h3⟩ := h
  refine ⟨_, heap_set (heap_set (heap_set h1 _ _) _ _) _ _, by simp [h2], fun j hj => ?_⟩
  by_cases hjk : j = k
  · subst hjk
    refine ⟨?_, ?_, ?_⟩
    · rw [Array.getElem?_setIfInBounds_ne (by omega), Array.getElem?_setIfInBounds_ne (by omega), Array.getElem?_setIfInBounds_self_of_lt (by omega)]
    · rw [Array.getElem?_setIfInBounds_ne (by omega), Array.getElem?_setIfInBounds_self_of_lt (by simp; omega)]
    · rw [Array.getElem?_setIfInBounds_self_of_lt (by simp; omega)]
  · obtain ⟨a1, a2, a3⟩ := h3 j (by omega)
    refine ⟨?_, ?_, ?_⟩
    · rw [Array.getElem?_setIfInBounds_ne (by omega), Array.getElem?_setIfInBounds_ne (by omega), Array.getElem?_setIfInBounds_ne (by omega)]; exact a1
    · rw [Array.getElem?_setIfInBounds_ne (by omega), Array.getElem?_setIfInBounds_ne (by omega), Array.getElem?_setIfInBounds_ne (by omega)]; exact a2
    · rw [Array.getElem?_setIfInBounds_ne (by omega), Array.getElem?_setIfInBounds_ne (by omega), Array.getElem?_setIfInBounds_ne (by omega)]; exact a3
theorem Full.below {w w' : World} {g k : Nat} (h : Full w g k) (hb : Below w.heap.size w w') : Full w' g k := by
  obtain ⟨cur, h1, h2, h3⟩ := h
  exact ⟨cur, (hb.block g (Array.getElem?_eq_some_iff.1 h1).1).trans h1, h2, h3⟩
def fullToks : List Tok := List.replicate 200 ⟨2, [97], 0⟩
def countToks : List Tok := ⟨2, [99, 111, 117, 110, 116], 0⟩ :: List.replicate 199 ⟨2, [97], 0⟩
theorem full_length : fullToks.length = 200 := List.length_replicate
theorem count_length : countToks.length = 200 := by unfold countToks; rw [List.length_cons, List.length_replicate]
theorem full_join : (joinF fullToks).2 = 0 ∧ (joinF fullToks).1.length = 399 := by decide +kernel
theorem count_join : joinF countToks = ([], 18) := by decide +kernel
theorem toks_of_at {w : World} {g : Nat} {L : List Tok} (h0 : g < w.heap.size) (h : ∀ k t, L[k]? = some t → w.cell? ⟨g, k * 3, none⟩ = some (.int .u8 t.k) ∧ w.cell? ⟨g, k * 3 + 1, none⟩ = some (.string (bytesOf t.s)) ∧ w.cell? ⟨g, k * 3 + 2, none⟩ = some (.int .i64 t.a)) : Toks w (some ⟨g, 0, none⟩) L := by
  refine .inr ⟨_, rfl, h0, fun j u hu => ?_⟩
  have aa : (⟨g, 0, none⟩ : Addr).add j = ⟨g, j, none⟩ := by unfold Addr.add; split <;> simp_all
  rw [aa]
  have hjl : j < L.length * 3 := by
    obtain ⟨hx, _⟩ := List.getElem?_eq_some_iff.1 hu
    rwa [tokCells_length] at hx
  obtain ⟨k, hk⟩ : ∃ k, j / 3 = k := ⟨_, rfl⟩
  have hkl : k < L.length := by omega
  obtain ⟨c0, c1, c2⟩ := h k L[k] (List.getElem?_eq_getElem hkl)
  obtain ⟨d0, d1, d2⟩ := tokCells_at L k hkl
  rcases (by omega : j = k * 3 ∨ j = k * 3 + 1 ∨ j = k * 3 + 2) with rfl | rfl | rfl
  · rw [c0, ← d0, hu]
  · rw [c1, ← d1, hu]
  · rw [c2, ← d2, hu]
theorem Full.toks {w : World} {g : Nat} (h : Full w g 200) : Toks w (some ⟨g, 0, none⟩) fullToks := by
  obtain ⟨cur, h1, h2, h3⟩ := h
  refine toks_of_at (Array.getElem?_eq_some_iff.1 h1).1 (fun k t ht => ?_)
  obtain ⟨hk, e⟩ := List.getElem?_eq_some_iff.1 ht
  rw [full_length] at hk
  obtain ⟨a1, a2, a3⟩ := h3 k hk
  have ht2 : t = ⟨2, [97], 0⟩ := List.eq_of_mem_replicate (List.mem_of_getElem? ht)
  subst ht2
  rw [Lib.cell_of_heap h1, Lib.cell_of_heap h1, Lib.cell_of_heap h1]
  exact ⟨a1, a2, a3⟩
theorem Full.count {w : World} {g : Nat} (h : Full w g 200) : Toks (w.setCell ⟨g, 1, none⟩ (.string ⟨#[99, 111, 117, 110, 116]⟩)) (some ⟨g, 0, none⟩) countToks := by
  obtain ⟨cur, h1, h2, h3⟩ := h
  have hh := heap_set h1 1 (.string ⟨#[99, 111, 117, 110, 116]⟩)
  refine toks_of_at (Array.getElem?_eq_some_iff.1 hh).1 (fun k t ht => ?_)
  obtain ⟨hk, _⟩ := List.getElem?_eq_some_iff.1 ht
  rw [count_length] at hk
  obtain ⟨a1, a2, a3⟩ := h3 k hk
  rw [Lib.cell_of_heap hh, Lib.cell_of_heap hh, Lib.cell_of_heap hh, Array.getElem?_setIfInBounds_ne (i := 1) (j := k * 3) (by omega), Array.getElem?_setIfInBounds_ne (i := 1) (j := k * 3 + 2) (by omega)]
  cases k with
  | zero =>
    have ht2 : t = ⟨2, [99, 111, 117, 110, 116], 0⟩ := (Option.some.inj ht).symm
    subst ht2
    exact ⟨a1, Array.getElem?_setIfInBounds_self_of_lt (by omega), a3⟩
  | succ k =>
    rw [Array.getElem?_setIfInBounds_ne (i := 1) (j := (k + 1) * 3 + 1) (by omega)]
    have ht2 : t = ⟨2, [97], 0⟩ := by
      have : (List.replicate 199 (⟨2, [97], 0⟩ : Tok))[k]? = some t := ht
      exact List.eq_of_mem_replicate (List.mem_of_getElem? this)
    subst ht2
    exact ⟨a1, a2, a3⟩

theorem fl_big (N : ByteArray) (hz : N.size ≤ 1000) (ha : allF N.data.toList = ([], 399, 4)) (w0 w : World) (hg : Good w0 w) : Calls Tryd.prog 10 #[.string N, .int .i64 399, .int .i64 4] w fun e w' => e = .returned (.bool true) ∧ Below w.heap.size w w' ∧ Good w0 w' :=
  fails_g N 399 4 w0 w hz ha hg

set_option maxHeartbeats 8000000 in
set_option maxRecDepth 100000 in
theorem LexerNames_walk (w : World) (tb : Tabs w) :
    Calls Tryd.prog 3 #[] w fun e w' => e = .returned (.bool true) ∧ Below w.heap.size w w' := by
  suffices hh : Calls Tryd.prog 3 #[] w fun e w' => e = .returned (.bool true) ∧ Good w w' from hh.mono fun e w' ⟨he, hg⟩ => ⟨he, hg.1⟩
  have hg := Good.start tb
  obtain ⟨i0, hi, hz0, hz1, hz2⟩ := info_parts tok_info
  obtain ⟨M1, hM1⟩ : ∃ M1, M1 = bytesOf (rep 401 [97]) := ⟨_, rfl⟩
  obtain ⟨M2, hM2⟩ : ∃ M2, M2 = bytesOf (rep 199 [49, 32]) := ⟨_, rfl⟩
  have l1 : M1.data.toList = rep 401 [97] := by rw [hM1, bytesOf_list]
  have l2 : M2.data.toList = rep 199 [49, 32] := by rw [hM2, bytesOf_list]
  have s1 : M1.size = 401 := by rw [hM1, bytesOf_size, rep_length]; rfl
  have s2 : M2.size ≤ 398 := by rw [hM2, bytesOf_size, rep_length]; decide
  have Q1 := Lib.hid (fun w => show Calls Tryd.prog 11 #[.string ⟨#[97]⟩, .int .i64 401] w fun e w' => e = .returned (.string M1) ∧ w = w' from many_any ⟨#[97]⟩ 401 w (by decide) (by decide) M1 l1)
  have Q2 := Lib.hid (fun w => show Calls Tryd.prog 11 #[.string ⟨#[49, 32]⟩, .int .i64 199] w fun e w' => e = .returned (.string M2) ∧ w = w' from many_any ⟨#[49, 32]⟩ 199 w (by decide) (by decide) M2 l2)
  have z2 : (M2 ++ (⟨#[40, 40]⟩ : ByteArray)).size ≤ 1000 := by
    rw [ByteArray.size_append]
    have : (ByteArray.mk #[40, 40]).size = 2 := rfl
    omega
  have a2 : allF (M2 ++ (⟨#[40, 40]⟩ : ByteArray)).data.toList = ([], 399, 4) := by
    have h1 : (M2 ++ (⟨#[40, 40]⟩ : ByteArray)).data.toList = rep 199 [49, 32] ++ [40, 40] := by
      rw [ByteArray.data_append, Array.toList_append, l2]
    exact (congrArg allF h1).trans two_hundred
  have a1 : allF M1.data.toList = ([], 0, 4) := (congrArg allF l1).trans big_all
  have F1 := Lib.hid (fun w1 h => show Calls Tryd.prog 10 #[.string M1, .int .i64 0, .int .i64 4] w1 fun e w' => e = .returned (.bool true) ∧ Below w1.heap.size w1 w' ∧ Good w w' from fails_g M1 0 4 w w1 (by omega) a1 h)
  have F2 := Lib.hid (fun w1 (h : Good w w1) => fl_big (M2 ++ (⟨#[40, 40]⟩ : ByteArray)) z2 a2 w w1 h)
  have hmk : ∀ W : World, (Instr.makeSlice 28 (.int .i64 201) (.int .i64 201)).run Tryd.prog W = .ok (.slice (some ⟨W.heap.size, 0, none⟩) 201 201) (W.alloc (.cells (madeCells (Value.agg #[.int .u8 0, .string ByteArray.empty, .int .i64 0]).cells (201 * i0.size)) 30)) := fun W =>
    run_make (P := Tryd.prog) W 28 30 i0 _ Tryd.underlying28 hi hz0 .i64 .i64 201 201 (by decide) (by decide) (by rw [hz2]; decide) (by decide)
  have hmk2 : ∀ W : World, (Instr.makeSlice 28 (.int .i64 200) (.int .i64 200)).run Tryd.prog W = .ok (.slice (some ⟨W.heap.size, 0, none⟩) 200 200) (W.alloc (.cells (madeCells (Value.agg #[.int .u8 0, .string ByteArray.empty, .int .i64 0]).cells (200 * i0.size)) 30)) := fun W =>
    run_make (P := Tryd.prog) W 28 30 i0 _ Tryd.underlying28 hi hz0 .i64 .i64 200 200 (by decide) (by decide) (by rw [hz2]; decide) (by decide)
  obtain ⟨C2, hC2⟩ : ∃ C2, madeCells (Value.agg #[.int .u8 0, .string ByteArray.empty, .int .i64 0]).cells (200 * i0.size) = C2 := ⟨_, rfl⟩
  have HC2 := Lib.hid (show C2.size = 600 by rw [← hC2, size_madeCells, hz1])
  rw [hC2] at hmk2
  clear hC2
  obtain ⟨C1, hC1⟩ : ∃ C1, madeCells (Value.agg #[.int .u8 0, .string ByteArray.empty, .int .i64 0]).cells (201 * i0.size) = C1 := ⟨_, rfl⟩
  rw [hC1] at hmk
  clear hM1 hM2 l1 l2 s1 hC1 a1 a2 z2
  go_enter Tryd.func3, Tryd.ntmps3
  go_wp2_with (first
    | (go_at_call 9; (first | (with_reducible refine (jn_0 w _ (by assumption)).mono ?_) | (with_reducible refine (jn_1 w _ (by assumption)).mono ?_) | (with_reducible refine (jn_2 w _ (by assumption)).mono ?_) | (with_reducible refine (jn_3 w _ (by assumption)).mono ?_) | (with_reducible refine (jn_4 w _ (by assumption)).mono ?_) | (with_reducible refine (jn_no w _ (by assumption)).mono ?_) | (with_reducible refine (jn_5 w _ (by assumption)).mono ?_) | (with_reducible refine (jn_6 w _ (by assumption)).mono ?_) | (with_reducible refine (jn_7 w _ (by assumption)).mono ?_)); rintro e w2 ⟨rfl, _, hg⟩)
    | (go_at_call 11; (first | (with_reducible refine (Q1.out _).mono ?_) | (with_reducible refine (Q2.out _).mono ?_)); rintro e w2 ⟨rfl, rfl⟩)
    | (go_at_call 10; (first | (with_reducible refine (F1.out _ (by assumption)).mono ?_) | (with_reducible refine (F2.out _ (by assumption)).mono ?_) | (with_reducible refine (fl_0 w _ (by assumption)).mono ?_) | (with_reducible refine (fl_1 w _ (by assumption)).mono ?_) | (with_reducible refine (fl_2 w _ (by assumption)).mono ?_) | (with_reducible refine (fl_3 w _ (by assumption)).mono ?_) | (with_reducible refine (fl_4 w _ (by assumption)).mono ?_) | (with_reducible refine (fl_5 w _ (by assumption)).mono ?_)); rintro e w2 ⟨rfl, _, hg⟩)
    | (go_at_call 12; refine (many_g w _ _ _ (Good.step (by assumption) ((Below.refl _ _).alloc (Nat.le_refl _) _))).mono ?_; rintro e w3 ⟨rfl, _, hg3⟩))
  have HG3 := Lib.hid hg3
  obtain ⟨g, hgz⟩ : ∃ g, w3.heap.size = g := ⟨_, rfl⟩
  have hgw : w.heap.size ≤ g := by have := hg3.1.size; omega
  rw [hgz]
  go_loopw [6] (fun i wr => ∃ k : Nat, k ≤ 11 ∧ i = .int .i64 k ∧ Hid (Toks wr (some ⟨g, 0, none⟩) badToks) ∧ Hid (Good w wr)) (fun i _ => 11 - (intOf i).toNat)
  case atStart => exact ⟨0, Nat.zero_le _, rfl, Lib.hid (toks_lit _ _ _ badToks _ hgz rfl), Lib.hid (HG3.out.step ((Below.refl _ _).alloc (Nat.le_refl _) _))⟩
  case round =>
    clear hgz
    obtain ⟨k, hk, rfl, ht, hg⟩ := hrel
    by_cases hlt : k < 11
    · obtain ⟨t, htk⟩ : ∃ t, badToks[k]? = some t := ⟨_, List.getElem?_eq_getElem hlt⟩
      obtain ⟨hj, hts⟩ := bad_join t (List.mem_of_getElem? htk)
      have HJ := Lib.hid (fun c => join_g (some ⟨g, k * 3, none⟩) c [t] 1 ⟨#[]⟩ 8 w wr rfl (by decide) (toks_sub ht.out k t htk) (fun u hu => by simp only [List.mem_singleton] at hu; rw [hu]; unfold maxLen; omega) hj hg.out)
      have f1 : (0 : Int) ≤ (k : Int) := by omega
      have f2 : (k : Int) ≤ (k : Int) + 1 := by omega
      have f3 : (k : Int) + 1 ≤ 11 := by omega
      have f4 : ((k : Int) + 1).toNat = k + 1 := by omega
      clear hj hts htk
      go_wp2_with (go_at_call 12; refine (HJ.out _).mono ?_; rintro e w4 ⟨rfl, hb4, hg4⟩; have HT4 := Lib.hid (ht.out.below hb4); have HG4 := Lib.hid hg4; clear hb4 hg4)
      go_roundw
      case rel => exact ⟨k + 1, by omega, by go_num, HT4, HG4⟩
      case measure => simp [intOf]; omega
    · clear ht
      go_wp2
      obtain ⟨g2, hg2⟩ : ∃ g2, wr.heap.size = g2 := ⟨_, rfl⟩
      have hgw2 : w.heap.size ≤ g2 := by have := hg.out.1.size; omega
      rw [hg2]
      have HF0 := Lib.hid (Full.start wr C2 HC2.out g2 hg2)
      have HG0 := Lib.hid (hg.out.step ((Below.refl _ _).alloc (Nat.le_refl _) (.cells C2 30)))
      clear hg hg2 hlt
      go_loopw [10] (fun i wx => ∃ k : Nat, k ≤ 200 ∧ i = .int .i64 k ∧ Hid (Full wx g2 k) ∧ Hid (Good w wx)) (fun i _ => 200 - (intOf i).toNat)
      case atStart => exact ⟨0, Nat.zero_le _, rfl, HF0, HG0⟩
      case round =>
        clear HF0 HG0
        obtain ⟨j, hj, rfl, hf, hg⟩ := hrel
        by_cases hlt : j < 200
        · obtain ⟨⟨v0, c0⟩, f0⟩ := hf.out.cell (j * 3) (by omega)
          obtain ⟨⟨v1, c1⟩, f1⟩ := hf.out.cell (j * 3 + 1) (by omega)
          obtain ⟨⟨v2, c2⟩, f2⟩ := hf.out.cell (j * 3 + 2) (by omega)
          have HF1 := Lib.hid (hf.out.step hlt)
          have HG1 := Lib.hid (show Good w _ from ⟨((hg.out.1.setCell (p := ⟨g2, j * 3, none⟩) hgw2 (.int .u8 2)).setCell (p := ⟨g2, j * 3 + 1, none⟩) hgw2 (.string ⟨#[97]⟩)).setCell (p := ⟨g2, j * 3 + 2, none⟩) hgw2 (.int .i64 0), tb.stays (((hg.out.1.setCell (p := ⟨g2, j * 3, none⟩) hgw2 (.int .u8 2)).setCell (p := ⟨g2, j * 3 + 1, none⟩) hgw2 (.string ⟨#[97]⟩)).setCell (p := ⟨g2, j * 3 + 2, none⟩) hgw2 (.int .i64 0))⟩)
          go_wp2
          go_roundw
          case rel => exact ⟨j + 1, by omega, by go_num, HF1, HG1⟩
          case measure => simp [intOf]; omega
        · obtain rfl : j = 200 := by omega
          obtain ⟨Z, er, hj2⟩ : ∃ Z er, joinF fullToks = (Z, er) := ⟨_, _, rfl⟩
          have hfj := full_join
          rw [hj2] at hfj
          obtain ⟨he0, hzl⟩ := hfj
          simp only at he0 hzl
          subst he0
          have hzb : (bytesOf Z).size = 399 := by rw [bytesOf_size]; exact hzl
          obtain ⟨Y, hY⟩ : ∃ Y, bytesOf Z = Y := ⟨_, rfl⟩
          rw [hY] at hzb
          have hYZ : Y.data.toList = Z := by rw [← hY, bytesOf_list]
          have HJ1 := Lib.hid (fun c => join_g (some ⟨g2, 0, none⟩) c fullToks 200 Y 0 w wr full_length (by decide) hf.out.toks (fun u hu => by rw [List.eq_of_mem_replicate hu]; decide) (by rw [hYZ]; exact hj2) hg.out)
          have eZ : ((Y.size : Int) == 399) = true := by rw [hzb]; rfl
          have eZn : (Y.size == 399) = true := by rw [hzb]; rfl
          have HJ2 := Lib.hid (fun c w5 (hf5 : Full w5 g2 200) (hg5 : Good w w5) => join_g (some ⟨g2, 0, none⟩) c countToks 200 ⟨#[]⟩ 18 w (w5.setCell ⟨g2, 1, none⟩ (.string ⟨#[99, 111, 117, 110, 116]⟩)) count_length (by decide) hf5.count (fun u hu => by
            rcases List.mem_cons.1 hu with rfl | hu
            · decide
            · rw [List.eq_of_mem_replicate hu]; decide) count_join ⟨hg5.1.setCell (p := ⟨g2, 1, none⟩) hgw2 _, tb.stays (hg5.1.setCell (p := ⟨g2, 1, none⟩) hgw2 _)⟩)
          clear hj2 hzl hY hYZ hzb
          go_wp2_with (first
            | (go_at_call 12; (first
              | ((with_reducible refine (HJ1.out _).mono ?_); rintro e w5 ⟨rfl, hb5, hg5⟩; have HF5 := Lib.hid (hf.out.below hb5); have HG5 := Lib.hid hg5; obtain ⟨⟨v1, c1⟩, f1⟩ := (hf.out.below hb5).cell 1 (by decide); clear hb5 hg5)
              | ((with_reducible refine (HJ2.out _ _ HF5.out HG5.out).mono ?_); rintro e w6 ⟨rfl, hb6, hg6⟩)))
            | (go_at_call 13; refine (alive_g w _ hg6).mono ?_; rintro e w' ⟨rfl, _, hg⟩))
          go_ret
          exact ⟨rfl, by assumption⟩
end Go.Proofs.YteidhjacnlcddaaDoor
