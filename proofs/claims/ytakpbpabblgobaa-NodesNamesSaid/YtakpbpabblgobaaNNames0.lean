/- Lists that are no expressions, and what holds in the midst of NodesNames. -/
import Derived.Test.YtakpbpabblgobaaNLMade
namespace Go.Proofs.Ytakpbpabblgobaa
open Go.ChangeShapes Go.WideShapes Go.ChangeAt Go.RowKit
set_option linter.unusedVariables false
set_option linter.unusedSimpArgs false

def vN : Nd := ⟨4, 0, 0, 0, 0⟩
def badsL : List (List Nd) := [[], [⟨0, 0, 0, 0, 0⟩], [⟨20, 0, 0, 0, 0⟩], [⟨2, 1, 0, 0, 0⟩], [⟨1, -1, 0, 0, 0⟩], [⟨3, 0, 1, 0, 0⟩], [⟨3, 0, 0, 1, 0⟩], [⟨3, 0, 0, 0, -1⟩], [⟨3, 0, 0, 0, 401⟩], [vN, vN], [⟨5, 0, 0, 0, 0⟩],
  [vN, ⟨5, 0, 1, 0, 0⟩], [vN, ⟨5, 0, 0, 1, 0⟩], [vN, ⟨8, 0, 0, 0, 0⟩], [vN, vN, ⟨8, 0, 1, 0, 0⟩], [vN, vN, ⟨8, 0, 0, 0, 0⟩], [vN, vN, ⟨6, 0, 0, 0, 0⟩], [vN, vN, vN, ⟨8, 0, 1, 2, 0⟩], [vN, vN, ⟨8, 5, 0, 1, 0⟩]]
theorem bads_facts : ∀ L ∈ badsL, checkF L = 8 ∧ L.length ≤ 4 := by decide
def AllAt (W : World) : List Value → List (List Nd) → Prop
  | [], [] => True
  | u :: us, L :: Ls => ExprAt W u L ∧ AllAt W us Ls
  | _, _ => False
theorem AllAt.get {W : World} : ∀ {us : List Value} {Ls : List (List Nd)}, AllAt W us Ls → ∀ {i : Nat} {L : List Nd}, Ls[i]? = some L → ∃ u, us[i]? = some u ∧ ExprAt W u L
  | [], [], _, i, L, h => by simp at h
  | u :: us, L' :: Ls, h, 0, L, hL => by
    simp only [List.getElem?_cons_zero, Option.some.injEq] at hL
    subst hL
    exact ⟨u, rfl, h.1⟩
  | u :: us, L' :: Ls, h, i + 1, L, hL => by
    rw [List.getElem?_cons_succ] at hL ⊢
    exact AllAt.get h.2 hL
  | [], _ :: _, h, _, _, _ => h.elim
  | _ :: _, [], h, _, _, _ => h.elim
theorem AllAt.below {W W' : World} (hb : Below W.heap.size W W') : ∀ {us : List Value} {Ls : List (List Nd)}, AllAt W us Ls → AllAt W' us Ls
  | [], [], _ => trivial
  | u :: us, L :: Ls, h => ⟨h.1.below hb, AllAt.below hb h.2⟩
  | [], _ :: _, h => h
  | _ :: _, [], h => h
def St (w : World) (B : Nat) (us : List Value) (W : World) : Prop := Bl w W ∧ X5 W w.heap.size vN ∧ Lies W (some ⟨B, 0, none⟩) us ∧ AllAt W us badsL
theorem St.step {w W W' : World} {B : Nat} {us : List Value} (h : St w B us W) (hb : Below W.heap.size W W') : St w B us W' :=
  ⟨Bl.step h.1 hb, h.2.1.below hb, h.2.2.1.below hb, h.2.2.2.below hb⟩
theorem Lies.al {W : World} {A : Option Addr} {cs : List Value} {o : Obj} (h : Lies W A cs) : Lies (W.alloc o) A cs := h.alloc o
theorem X5.al {W : World} {B : Nat} {x : Nd} {o : Obj} (h : X5 W B x) : X5 (W.alloc o) B x := h.below ((Below.refl _ _).alloc (Nat.le_refl _) _)
theorem Bl.al {w W : World} {o : Obj} (h : Bl w W) : Bl w (W.alloc o) := h.step ((Below.refl _ _).alloc (Nat.le_refl _) _)
theorem AllAt.nil {W : World} : AllAt W [] [] := trivial
theorem AllAt.cons {W : World} {u : Value} {L : List Nd} {us : List Value} {Ls : List (List Nd)} (h : ExprAt W u L) (h2 : AllAt W us Ls) : AllAt W (u :: us) (L :: Ls) := ⟨h, h2⟩
theorem lies_vals (w : World) (B : Nat) (hB : w.heap.size = B) (cs : Array Value) (t : TypeId) (vs : List Value) (h : cs.toList = vs) : Lies (w.alloc (.cells cs t)) (some ⟨B, 0, none⟩) vs := by
  rw [← h]; exact lies_lit w B hB cs t
theorem lies_nds (w : World) (B : Nat) (hB : w.heap.size = B) (cs : Array Value) (t : TypeId) (L : List Nd) (h : cs.toList = ndCells L) : Lies (w.alloc (.cells cs t)) (some ⟨B, 0, none⟩) (ndCells L) := lies_vals w B hB cs t _ h

def us19 (w : World) : List Value := [.slice (some ⟨w.heap.size + 1, 0, none⟩) 0 0, .slice (some ⟨w.heap.size + 1 + 1, 0, none⟩) 1 1, .slice (some ⟨w.heap.size + 1 + 1 + 1, 0, none⟩) 1 1, .slice (some ⟨w.heap.size + 1 + 1 + 1 + 1, 0, none⟩) 1 1, .slice (some ⟨w.heap.size + 1 + 1 + 1 + 1 + 1, 0, none⟩) 1 1, .slice (some ⟨w.heap.size + 1 + 1 + 1 + 1 + 1 + 1, 0, none⟩) 1 1, .slice (some ⟨w.heap.size + 1 + 1 + 1 + 1 + 1 + 1 + 1, 0, none⟩) 1 1, .slice (some ⟨w.heap.size + 1 + 1 + 1 + 1 + 1 + 1 + 1 + 1, 0, none⟩) 1 1, .slice (some ⟨w.heap.size + 1 + 1 + 1 + 1 + 1 + 1 + 1 + 1 + 1, 0, none⟩) 1 1, .slice (some ⟨w.heap.size + 1 + 1 + 1 + 1 + 1 + 1 + 1 + 1 + 1 + 1, 0, none⟩) 2 2, .slice (some ⟨w.heap.size + 1 + 1 + 1 + 1 + 1 + 1 + 1 + 1 + 1 + 1 + 1, 0, none⟩) 1 1, .slice (some ⟨w.heap.size + 1 + 1 + 1 + 1 + 1 + 1 + 1 + 1 + 1 + 1 + 1 + 1, 0, none⟩) 2 2, .slice (some ⟨w.heap.size + 1 + 1 + 1 + 1 + 1 + 1 + 1 + 1 + 1 + 1 + 1 + 1 + 1, 0, none⟩) 2 2, .slice (some ⟨w.heap.size + 1 + 1 + 1 + 1 + 1 + 1 + 1 + 1 + 1 + 1 + 1 + 1 + 1 + 1, 0, none⟩) 2 2, .slice (some ⟨w.heap.size + 1 + 1 + 1 + 1 + 1 + 1 + 1 + 1 + 1 + 1 + 1 + 1 + 1 + 1 + 1, 0, none⟩) 3 3, .slice (some ⟨w.heap.size + 1 + 1 + 1 + 1 + 1 + 1 + 1 + 1 + 1 + 1 + 1 + 1 + 1 + 1 + 1 + 1, 0, none⟩) 3 3, .slice (some ⟨w.heap.size + 1 + 1 + 1 + 1 + 1 + 1 + 1 + 1 + 1 + 1 + 1 + 1 + 1 + 1 + 1 + 1 + 1, 0, none⟩) 3 3, .slice (some ⟨w.heap.size + 1 + 1 + 1 + 1 + 1 + 1 + 1 + 1 + 1 + 1 + 1 + 1 + 1 + 1 + 1 + 1 + 1 + 1, 0, none⟩) 4 4, .slice (some ⟨w.heap.size + 1 + 1 + 1 + 1 + 1 + 1 + 1 + 1 + 1 + 1 + 1 + 1 + 1 + 1 + 1 + 1 + 1 + 1 + 1, 0, none⟩) 3 3]

set_option maxHeartbeats 1000000 in
theorem node_bad1 (PA : Option Addr) (pc : Nat) (k nn p : Int) (w : World) (A1 : Option Addr) (c1 n1 : Nat) (P : List Nd) (hn1 : P.length = n1) (h1 : Lies w A1 (ndCells P)) (hl : n1 ≤ maxLen) (v : Int) (hv : checkF P = v) (hv0 : v ≠ 0) (hp : Lies w PA [.slice A1 n1 c1]) (h0 : okK k = true) (hf : fitsF k nn p = true) (hc : cnt k = 1) :
    Calls Try.prog 14 #[.int .u8 k, .int .i64 nn, .int .i64 p, .slice PA 1 pc] w fun e w' => e = .returned (.tuple #[.slice none 0 0, .int .i64 v]) ∧ Below w.heap.size w w' := by
  have HP := Lib.hid (fun w => show Calls Try.prog 16 #[.int .u8 k] w fun e w' => e = .returned (.tuple #[.int .i64 1, .int .i64 0]) ∧ w = w' by have := parts_any k w; rwa [show partsN k = 1 from partsN_of h0 hc, show partsE k = 0 by simp [partsE, h0]] at this)
  have HF := Lib.hid (fun w => fits_any k nn p true hf w)
  have HE := Lib.hid (first_any PA pc 1 [.slice A1 n1 c1] [P] w rfl rfl (by decide) hp (by intro i u L h h'; match i with | 0 => (simp at h h'; subst h h'; exact ⟨A1, c1, by rw [hn1], h1, by rw [hn1]; exact hl⟩) | i + 1 => simp at h) v (by simp [firstE, hv, hv0]; try omega))
  have hne := (bne_iff_ne (a := v) (b := 0)).2 hv0
  clear hp h0 hf hc h1 hv hn1 hv0
  go_enter Try.func14, Try.ntmps14
  go_wp2_with (first
      | (go_at_call 16; refine (HP.out _).mono ?_; rintro e w' ⟨rfl, rfl⟩)
      | (go_at_call 31; refine (HF.out _).mono ?_; rintro e w' ⟨rfl, rfl⟩)
      | (go_at_call 27; refine HE.out.mono ?_; rintro e w1 ⟨rfl, hb1⟩))
  go_ret2
  exact ⟨rfl, hb1⟩

theorem X5.v {W : World} {B : Nat} (h : X5 W B vN) : W.cell? ⟨B, 0, none⟩ = some (.int .u8 4) ∧ W.cell? ⟨B, 1, none⟩ = some (.int .i64 0) ∧ W.cell? ⟨B, 2, none⟩ = some (.int .i64 0) ∧ W.cell? ⟨B, 3, none⟩ = some (.int .i64 0) ∧ W.cell? ⟨B, 4, none⟩ = some (.int .i64 0) ∧ B < W.heap.size := h
/-! ### nineteen negatives, and sums nested to the left -/
def deepL (k : Nat) : List Nd := vN :: (List.range k).map fun i => ⟨5, 0, (i : Nat), 0, 0⟩
theorem deepL_succ (k : Nat) : deepL (k + 1) = deepL k ++ [⟨5, 0, (k : Nat), 0, 0⟩] := by
  unfold deepL; rw [List.range_succ, List.map_append]; rfl
theorem deepL_len (k : Nat) : (deepL k).length = k + 1 := by simp [deepL]
theorem deep_check : checkF (deepL 19) = 0 := by decide +kernel
theorem deep_depth : depF (deepL 19) = 20 := by decide +kernel
theorem deep_more : checkF (made1 5 0 0 (deepL 19)) = 34 := by decide +kernel
def wideL : Nat → List Nd
  | 0 => [vN]
  | k + 1 => made2 8 0 0 (wideL k) [vN]
theorem wide_facts : ∀ k, k < 20 → checkF (wideL k) = 0 ∧ (wideL k).length = 2 * k + 1 := by decide +kernel
theorem wide_more : checkF (wideL 20) = 34 := by decide +kernel
theorem one_check : checkF [vN] = 0 := by decide
theorem node_err {args : Array Value} {w : World} {M : List Nd} {v : Int} (h : Calls Try.prog 14 args w (NPost M w)) (hv : checkF M = v) (h0 : v ≠ 0) :
    Calls Try.prog 14 args w fun e w' => e = .returned (.tuple #[.slice none 0 0, .int .i64 v]) ∧ Below w.heap.size w w' := by
  refine h.mono ?_
  rintro e w' ⟨hb, ⟨_, rfl⟩ | ⟨h1, _⟩⟩
  · rw [hv]; exact ⟨rfl, hb⟩
  · exact absurd (hv.symm.trans h1) h0
theorem check_many (A : Option Addr) (n c : Nat) (w : World) (h : 60 < n) (hn : n ≤ maxLen) :
    Calls Try.prog 15 #[.slice A n c] w fun e w' => e = .returned (.int .i64 4) ∧ Below w.heap.size w w' := by
  have HM := Lib.hid (meas_many A c (List.replicate n vN) w (by rw [List.length_replicate]; exact hn) (by rw [List.length_replicate]; exact h))
  have hv : checkF (List.replicate n vN) = 4 := checkF_many (by rw [List.length_replicate]; exact h)
  rw [List.length_replicate] at HM
  have HV := Lib.hid hv
  clear h hn hv
  go_enter Try.func15, Try.ntmps15
  go_wp2_with (go_at_call 25; refine (HM.out.mono (fun e w' (h : MPost _ _ e w') => (show e = .returned (.tuple #[.slice none 0 0, .int .i64 4]) ∧ Below w.heap.size w w' from by obtain ⟨hb, ⟨_, h2⟩ | ⟨E, _, _, hg, _⟩⟩ := h; exact ⟨by rw [h2, HV.out], hb⟩; exact absurd ((checkF_ok hg).symm.trans HV.out) (by decide)))).mono ?_; rintro e w1 ⟨rfl, hb⟩)
  go_ret
  exact ⟨rfl, hb⟩
end Go.Proofs.Ytakpbpabblgobaa
