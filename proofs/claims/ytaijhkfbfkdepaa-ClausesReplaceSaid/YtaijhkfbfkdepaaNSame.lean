
/- The contract of Same. -/
import Derived.Test.YtaijhkfbfkdepaaNPart
import Derived.Test.YtaijhkfbfkdepaaNEq
namespace Go.Proofs.Ytaijhkfbfkdepaa.N4
open Go.ChangeShapes Go.WideShapes Go.ChangeAt Go.RowKit
set_option linter.unusedVariables false
set_option maxRecDepth 100000

theorem two_lies (w : World) (u v : Value) (t : TypeId) : Lies (w.alloc (.cells #[u, v] t)) (some ⟨w.heap.size, 0, none⟩) [u, v] := by
  refine .inr ⟨_, rfl, by simp, fun j z hz => ?_⟩
  exact World.news_of_block (w := w.alloc (.cells #[u, v] t)) (B := w.heap.size) (cs := #[u, v]) (t := t) (fr := (0, 0)) (heap_alloc_new w _) j z hz
theorem two_at {w : World} {u v : Value} {L M : List Nd} (hu : ExprAt w u L) (hv : ExprAt w v M) : ∀ (i : Nat) (u' : Value) (L' : List Nd), [u, v][i]? = some u' → [L, M][i]? = some L' → ExprAt w u' L' := by
  intro i u' L' h1 h2
  match i with
  | 0 => simp at h1 h2; subst h1 h2; exact hu
  | 1 => simp at h1 h2; subst h1 h2; exact hv
  | i + 2 => simp at h1
theorem ExprAt.below {w w' : World} {u : Value} {L : List Nd} (h : ExprAt w u L) (hb : Below w.heap.size w w') : ExprAt w' u L := by
  obtain ⟨A, c, h1, h2, h3⟩ := h
  exact ⟨A, c, h1, h2.below hb, h3⟩
def sameE (L M : List Nd) : Int := firstE [checkF L, checkF M]

theorem same_bad (A A' : Option Addr) (n n' c c' : Nat) (L M : List Nd) (w : World) (hn : L.length = n) (hn' : M.length = n') (hL : n ≤ maxLen) (hM : n' ≤ maxLen) (ht : Lies w A (ndCells L)) (ht' : Lies w A' (ndCells M)) (v : Int) (hv : sameE L M = v) (h0 : v ≠ 0) :
    Calls Try.prog 37 #[.slice A n c, .slice A' n' c'] w fun e w' => e = .returned (.tuple #[.bool false, .int .i64 v]) ∧ Below w.heap.size w w' := by
  subst hn hn'
  have hb0 : ∀ o, Below w.heap.size w (w.alloc o) := fun o => (Below.refl _ _).alloc (Nat.le_refl _) _
  have HF := Lib.hid (first_any (some ⟨w.heap.size, 0, none⟩) 2 2 [.slice A L.length c, .slice A' M.length c'] [L, M] (w.alloc (.cells #[.slice A L.length c, .slice A' M.length c'] 22)) rfl rfl (by decide) (two_lies w _ _ _)
    (two_at (ExprAt.below ⟨A, c, rfl, ht, hL⟩ (hb0 _)) (ExprAt.below ⟨A', c', rfl, ht', hM⟩ (hb0 _))) v hv)
  have hne := errno_ne h0
  clear ht ht' hv h0 hb0
  obtain ⟨n, hn⟩ : ∃ n, L.length = n := ⟨_, rfl⟩
  obtain ⟨n', hn'⟩ : ∃ n, M.length = n := ⟨_, rfl⟩
  rw [hn, hn'] at HF ⊢
  clear hn hn'
  go_enter Try.func37, Try.ntmps37
  go_wp2_with (go_at_call 44; refine HF.out.mono ?_; rintro e w1 ⟨rfl, hb⟩)
  go_ret2
  exact ⟨rfl, ((Below.refl _ _).alloc (Nat.le_refl _) _).trans (hb.mono (by simp))⟩
def sameF (L M : List Nd) : Bool := decide (L.map unp = M.map unp)
set_option maxHeartbeats 1000000 in
theorem same_ok (A A' : Option Addr) (n n' c c' : Nat) (L M : List Nd) (w : World) (hn : L.length = n) (hn' : M.length = n') (ht : Lies w A (ndCells L)) (ht' : Lies w A' (ndCells M)) (h1 : checkF L = 0) (h2 : checkF M = 0) (v : Bool) (hv : sameF L M = v) :
    Calls Try.prog 37 #[.slice A n c, .slice A' n' c'] w fun e w' => e = .returned (.tuple #[.bool v, .int .i64 0]) ∧ Below w.heap.size w w' := by
  subst hn hn'
  obtain ⟨E1, g1⟩ := checkF_zero h1
  obtain ⟨E2, g2⟩ := checkF_zero h2
  have l1 := g1.2.1
  have l2 := g2.2.1
  have hb0 : ∀ o, Below w.heap.size w (w.alloc o) := fun o => (Below.refl _ _).alloc (Nat.le_refl _) _
  have HF := Lib.hid (first_any (some ⟨w.heap.size, 0, none⟩) 2 2 [.slice A L.length c, .slice A' M.length c'] [L, M] (w.alloc (.cells #[.slice A L.length c, .slice A' M.length c'] 22)) rfl rfl (by decide) (two_lies w _ _ _)
    (two_at (ExprAt.below ⟨A, c, rfl, ht, by unfold maxLen; omega⟩ (hb0 _)) (ExprAt.below ⟨A', c', rfl, ht', by unfold maxLen; omega⟩ (hb0 _))) 0 (by simp [firstE, h1, h2]))
  have HE1 := Lib.hid (fun w' (hb : Below w.heap.size w w') => each_unp A c _ L w' rfl (by omega) (ht.below hb))
  have HE2 := Lib.hid (fun w' (hb : Below w.heap.size w w') => each_unp A' c' _ M w' rfl (by omega) (ht'.below hb))
  have HQ := Lib.hid (fun (B B' : Option Addr) (d d' : Nat) w' (hb : Lies w' B (ndCells (L.map unp))) (hb' : Lies w' B' (ndCells (M.map unp))) => sequal_any B B' _ _ d d' (L.map unp) (M.map unp) w' (List.length_map ..) (List.length_map ..) (by omega) (by omega) hb hb' v hv)
  clear ht ht' hv hb0 g1 g2 h1 h2
  obtain ⟨n, hn⟩ : ∃ n, L.length = n := ⟨_, rfl⟩
  obtain ⟨n', hn'⟩ : ∃ n, M.length = n := ⟨_, rfl⟩
  rw [hn] at HF HE1 HQ l1 ⊢
  rw [hn'] at HF HE2 HQ l2 ⊢
  clear hn hn'
  go_enter Try.func37, Try.ntmps37
  go_wp2_with (first
    | (go_at_call 44; refine HF.out.mono ?_; rintro e w1 ⟨rfl, hb⟩; have HB1 := Lib.hid (((Below.refl _ _).alloc (Nat.le_refl _) _).trans (hb.mono (by simp))); clear hb)
    | (go_at_call 46; refine (HE1.out _ HB1.out).mono ?_; rintro e w2 ⟨ad1, rfl, hl1, hb⟩; have HL1 := Lib.hid hl1; have HB2 := Lib.hid (HB1.out.trans (hb.mono HB1.out.size)); clear hb hl1 HE1)
    | (go_at_call 46; refine (HE2.out _ HB2.out).mono ?_; rintro e w3 ⟨ad2, rfl, hl2, hb⟩; have HL2 := Lib.hid hl2; have HL3 := Lib.hid (HL1.out.below hb); have HB3 := Lib.hid (HB2.out.trans (hb.mono HB2.out.size)); clear hb hl2)
    | (go_at_call 45; refine (HQ.out _ _ _ _ _ HL3.out HL2.out).mono ?_; rintro e w4 ⟨rfl, hb4⟩))
  go_ret2
  exact ⟨rfl, HB3.out.trans (hb4.mono HB3.out.size)⟩
end Go.Proofs.Ytaijhkfbfkdepaa.N4
