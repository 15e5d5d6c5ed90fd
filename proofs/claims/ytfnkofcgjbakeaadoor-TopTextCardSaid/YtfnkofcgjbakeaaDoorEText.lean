
/- Expressions as text with brackets. -/
import Derived.Test.YtfnkofcgjbakeaaDoorEItoa
import Derived.Test.YtfnkofcgjbakeaaDoorELeaf
import Derived.Deep.RegionHeld3
namespace Go.Proofs.YtfnkofcgjbakeaaDoor
open Go.ChangeShapes Go.WideShapes Go.ChangeAt Go.RowKit N4
set_option linter.unusedVariables false
set_option maxRecDepth 100000

def leafT (k n : Int) : List UInt8 := if k = 1 then numT n else fldB (k - 2).toNat
def Tr.wr : Tr → List UInt8
  | .leaf k n _ => leafT k n
  | .un k _ a => (if k = 5 then [45, 32] else [110, 111, 116, 32]) ++ (match a with | .leaf k n _ => leafT k n | a => [40] ++ a.wr ++ [41])
  | .bin k _ a b => (match a with | .leaf k n _ => leafT k n | a => [40] ++ a.wr ++ [41]) ++ [32] ++ opB k ++ [32] ++ (match b with | .leaf k n _ => leafT k n | b => [40] ++ b.wr ++ [41])
def Tr.pt : Tr → List UInt8
  | .leaf k n _ => leafT k n
  | .un k p a => [40] ++ (Tr.un k p a).wr ++ [41]
  | .bin k p a b => [40] ++ (Tr.bin k p a b).wr ++ [41]
theorem Tr.wr_un (k p : Int) (a : Tr) : (Tr.un k p a).wr = (if k = 5 then [45, 32] else [110, 111, 116, 32]) ++ a.pt := by cases a <;> rfl
theorem Tr.wr_bin (k p : Int) (a b : Tr) : (Tr.bin k p a b).wr = a.pt ++ [32] ++ opB k ++ [32] ++ b.pt := by cases a <;> cases b <;> rfl
def Tr.isLeaf : Tr → Bool
  | .leaf _ _ _ => true
  | _ => false
theorem Tr.pt_leaf {t : Tr} (h : t.isLeaf = true) : t.pt = t.wr := by cases t <;> first | rfl | cases h
theorem Tr.pt_no {t : Tr} (h : t.isLeaf = false) : t.pt = [40] ++ t.wr ++ [41] := by cases t <;> first | rfl | cases h
theorem opB_len (k : Int) : (opB k).length ≤ 3 := by
  unfold opB
  cases h : opT[(k - 7).toNat]? with
  | none => simp
  | some x =>
    have : ∀ x ∈ opT, x.length ≤ 3 := by decide
    exact this x (List.mem_of_getElem? h)
def Tr.big : Tr → Prop
  | .leaf _ n _ => n ≤ 9223372036854775807
  | .un _ _ a => a.big
  | .bin _ _ a b => a.big ∧ b.big
theorem Tr.wr_len (t : Tr) (h : t.ok = true) (hb : t.big) : t.wr.length ≤ 40 * t.sz ∧ t.pt.length ≤ 40 * t.sz + 2 := by
  induction t with
  | leaf k n p =>
    simp only [Tr.ok, Bool.and_eq_true, decide_eq_true_eq] at h
    have hf := h.2
    simp only [fitsF, Bool.and_eq_true, Bool.or_eq_true, decide_eq_true_eq] at hf
    have : (leafT k n).length ≤ 40 := by
      unfold leafT
      split
      · have := (num_ok (show 0 ≤ n by omega) hb).2.2.2.2; omega
      · unfold fldB
        cases h : fldT[(k - 2).toNat]? with
        | none => simp
        | some x =>
          have : ∀ x ∈ fldT, x.length ≤ 40 := by decide
          exact this x (List.mem_of_getElem? h)
    exact ⟨this, by show (leafT k n).length ≤ _; simp only [Tr.sz]; omega⟩
  | un k p a ih =>
    simp only [Tr.ok, Bool.and_eq_true, decide_eq_true_eq] at h
    have := ih h.2 hb
    have e : (Tr.un k p a).wr.length ≤ 40 * (Tr.un k p a).sz := by
      rw [Tr.wr_un, List.length_append]; simp only [Tr.sz]; split <;> simp <;> omega
    exact ⟨e, by show ([40] ++ (Tr.un k p a).wr ++ [41]).length ≤ _; simp; omega⟩
  | bin k p a b iha ihb =>
    simp only [Tr.ok, Bool.and_eq_true, decide_eq_true_eq] at h
    have := iha h.1.2 hb.1
    have := ihb h.2 hb.2
    have := opB_len k
    have e : (Tr.bin k p a b).wr.length ≤ 40 * (Tr.bin k p a b).sz := by
      rw [Tr.wr_bin]; simp only [Tr.sz, List.length_append, List.length_cons, List.length_nil]; omega
    exact ⟨e, by show ([40] ++ (Tr.bin k p a b).wr ++ [41]).length ≤ _; simp; omega⟩

/-- A tree's nodes lie in a list, from a place on. -/
def Sub (L : List Nd) (j : Nat) (t : Tr) : Prop := (L.drop j).take t.sz = t.flat.map (shift (j : Int))
theorem Sub.whole (t : Tr) : Sub t.flat 0 t := by
  unfold Sub
  rw [List.drop_zero, ← t.flat_length, List.take_length]
  exact (map_shift_zero _).symm
theorem Sub.len {L : List Nd} {j : Nat} {t : Tr} (h : Sub L j t) : j + t.sz ≤ L.length := by
  have := congrArg List.length h
  simp [t.flat_length] at this
  have := t.sz_pos
  omega
theorem take_take_of {L M : List Nd} {n m : Nat} (h : L.take n = M) (hm : m ≤ n) : L.take m = M.take m := by
  rw [← h, List.take_take, Nat.min_eq_left hm]
theorem at_of {L M : List Nd} {j n i : Nat} {x : Nd} (h : (L.drop j).take n = M) (hx : M[i]? = some x) : L[j + i]? = some x := by
  rw [← h] at hx
  rw [List.getElem?_take] at hx
  split at hx
  · rwa [List.getElem?_drop] at hx
  · cases hx
theorem Sub.leafAt {L : List Nd} {j : Nat} {k n p : Int} (h : Sub L j (.leaf k n p)) (hk : k ≤ 4) : L[j]? = some ⟨k, n, 0, 0, p⟩ := by
  refine at_of (i := 0) h ?_
  simp [Tr.flat, made0, shift, cnt, hk]
theorem Sub.unAt {L : List Nd} {j : Nat} {k p : Int} {a : Tr} (h : Sub L j (.un k p a)) (hk : 5 ≤ k ∧ k ≤ 6) : Sub L j a ∧ L[j + a.sz]? = some ⟨k, 0, (j : Int) + a.sz - 1, 0, p⟩ := by
  have hc : cnt k = 1 := by unfold cnt; rw [if_neg (by omega), if_pos (by omega)]
  have e : (Tr.un k p a).flat = a.flat ++ [⟨k, 0, (a.sz : Int) - 1, 0, p⟩] := by
    show made1 k 0 p a.flat = _
    unfold made1
    rw [map_shift_zero, a.flat_length]
  unfold Sub at h
  rw [e] at h
  refine ⟨?_, at_of (i := a.sz) h ?_⟩
  · unfold Sub
    rw [take_take_of h (by simp [Tr.sz]), List.map_append, List.take_append_of_le_length (by simp [a.flat_length]), List.take_of_length_le (by simp [a.flat_length])]
  · rw [List.map_append, List.getElem?_append_right (by simp [a.flat_length])]
    simp [a.flat_length, shift, hc]
    omega
theorem Sub.binAt {L : List Nd} {j : Nat} {k p : Int} {a b : Tr} (h : Sub L j (.bin k p a b)) (hk : 7 ≤ k) : Sub L j a ∧ Sub L (j + a.sz) b ∧ L[j + (a.sz + b.sz)]? = some ⟨k, 0, (j : Int) + a.sz - 1, (j : Int) + a.sz + b.sz - 1, p⟩ := by
  have hc : cnt k = 2 := by unfold cnt; rw [if_neg (by omega), if_neg (by omega)]
  have e : (Tr.bin k p a b).flat = a.flat ++ (b.flat.map (shift a.sz) ++ [⟨k, 0, (a.sz : Int) - 1, (a.sz : Int) + b.sz - 1, p⟩]) := by
    show made2 k 0 p a.flat b.flat = _
    unfold made2
    rw [map_shift_zero, a.flat_length, b.flat_length, List.append_assoc]
  have hs : (Tr.bin k p a b).sz = a.sz + b.sz + 1 := rfl
  unfold Sub at h
  rw [e, hs] at h
  refine ⟨?_, ?_, at_of (i := a.sz + b.sz) h ?_⟩
  · unfold Sub
    rw [take_take_of h (by omega), List.map_append, List.take_append_of_le_length (by simp [a.flat_length]), List.take_of_length_le (by simp [a.flat_length])]
  · unfold Sub
    have h2 := congrArg (fun l => (l.drop a.sz).take b.sz) h
    simp only [List.drop_take, List.drop_drop, List.take_take] at h2
    rw [show min b.sz (a.sz + b.sz + 1 - a.sz) = b.sz by omega] at h2
    rw [h2, List.map_append, List.drop_append_of_le_length (by simp [a.flat_length]), List.drop_of_length_le (by simp [a.flat_length]), List.nil_append, List.map_append, List.take_append_of_le_length (by simp [b.flat_length]), List.take_of_length_le (by simp [b.flat_length]), List.map_map]
    apply List.map_congr_left
    intro x _
    rw [Function.comp, shift_shift]
    congr 1
    omega
  · rw [List.map_append, List.getElem?_append_right (by simp [a.flat_length]), List.map_append, List.getElem?_append_right (by simp [a.flat_length, b.flat_length])]
    simp [a.flat_length, b.flat_length, shift, hc]
    omega
end Go.Proofs.YtfnkofcgjbakeaaDoor
