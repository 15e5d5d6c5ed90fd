/- What ClausesNames calls and makes: good, windows in memory, the queries that are not valid. -/
import Derived.Test.YtaijhkfbfkdepaaDoorQTab
import Derived.Test.YtaijhkfbfkdepaaDoorQSame3
namespace Go.Proofs.YtaijhkfbfkdepaaDoor.Q8
open Go.ChangeShapes Go.WideShapes Go.ChangeAt Go.RowKit N4
set_option linter.unusedVariables false
set_option linter.unusedSimpArgs false
set_option maxRecDepth 100000

def vN : Nd := ⟨4, 0, 0, 0, 0⟩
/-- The slices of a query with the node lists L, M and sources l. -/
def GA (w : World) (a b : Nat) : Prop := QA w (some ⟨a, 0, none⟩) 1 (some ⟨b, 0, none⟩) 2 (some ⟨a, 0, none⟩) 1 [vN] [vN] [1, 0]
theorem GA.step {w w' : World} {a b : Nat} (h : GA w a b) (hb : Below w.heap.size w w') : GA w' a b := QA.step h hb
def GoodP (w : World) (e : Ending) (w' : World) : Prop :=
  ∃ a b, e = .returned (.agg #[.int .u8 2, .slice (some ⟨a, 0, none⟩) 1 1, .slice (some ⟨b, 0, none⟩) 2 2, .bool false, .slice (some ⟨a, 0, none⟩) 1 1, .int .u8 1, .int .i64 5, .int .i64 0, .bool false, .int .u8 2]) ∧ GA w' a b ∧ Below w.heap.size w w'
theorem good_any (w : World) : Calls Tryd.prog 9 #[] w (GoodP w) := by
  go_enter Tryd.func9, Tryd.ntmps9
  go_wp2
  refine bodyPost_ret (v := .agg #[.int .u8 2, .slice (some ⟨w.heap.size + 1, 0, none⟩) 1 1, .slice (some ⟨w.heap.size + 1 + 1, 0, none⟩) 2 2, .bool false, .slice (some ⟨w.heap.size + 1, 0, none⟩) 1 1, .int .u8 1, .int .i64 5, .int .i64 0, .bool false, .int .u8 2]) (by simp [results, Tryd.results9, go_sem]) rfl ?_
  refine ⟨_, _, rfl, ?_, (((Below.refl _ _).alloc (Nat.le_refl _) _).alloc (by simp) _).alloc (by simp <;> omega) _⟩
  have hv : ∀ (W : World) (t : TypeId) (cs : Array Value) (B : Nat) (hB : W.heap.size = B) (o : Obj) (hcs : cs.toList = ndCells [vN]), Lies ((W.alloc (.cells cs t)).alloc o) (some ⟨B, 0, none⟩) (ndCells [vN]) := fun W t cs B hB o hcs =>
    (lies_vals W B hB cs t _ hcs).below ((Below.refl _ _).alloc (Nat.le_refl _) _)
  refine ⟨⟨hv _ _ _ _ (by simp) _ rfl, rfl, by decide⟩, ⟨lies_vals _ _ (by simp) _ _ _ rfl, rfl⟩, ⟨hv _ _ _ _ (by simp) _ rfl, rfl, by decide⟩⟩
theorem good_chk : chkF ⟨2, [vN], [1, 0], false, [vN], 1, 5, 0, false, 2⟩ = 0 := by decide

/-! ### windows in memory -/
def wnC (x : Int × Int × Int) : List Value := [.int .u8 x.1, .int .i64 x.2.1, .int .i64 x.2.2]
def wnCells (L : List (Int × Int × Int)) : List Value := L.flatMap wnC
theorem wnCells_at (L : List (Int × Int × Int)) : ∀ (i : Nat) (x : Int × Int × Int), L[i]? = some x → ∀ j, j < 3 → (wnCells L)[i * 3 + j]? = (wnC x)[j]? := by
  induction L with
  | nil => intro i x h; simp at h
  | cons t r ih =>
    intro i x h j hj
    have e : wnCells (t :: r) = wnC t ++ wnCells r := rfl
    have l5 : (wnC t).length = 3 := rfl
    rw [e]
    cases i with
    | zero =>
      rw [List.getElem?_cons_zero] at h
      injection h with h
      subst h
      rw [Nat.zero_mul, Nat.zero_add, List.getElem?_append_left (by omega)]
    | succ i =>
      rw [List.getElem?_cons_succ] at h
      rw [List.getElem?_append_right (by omega), show (i + 1) * 3 + j - (wnC t).length = i * 3 + j by omega]
      exact ih i x h j hj
theorem lies_win {w : World} {A : Option Addr} {L : List (Int × Int × Int)} (h : Lies w A (wnCells L)) {k : Nat} {x : Int × Int × Int} (hk : L[k]? = some x) : ∃ ad, A = some ad ∧ ad.block < w.heap.size ∧
    w.cell? (ad.add (k * 3)) = some (.int .u8 x.1) ∧ w.cell? ⟨(ad.add (k * 3)).block, (ad.add (k * 3)).off + 1, none⟩ = some (.int .i64 x.2.1) ∧ w.cell? ⟨(ad.add (k * 3)).block, (ad.add (k * 3)).off + 2, none⟩ = some (.int .i64 x.2.2) := by
  have c := wnCells_at L k x hk
  rcases h with h0 | ⟨ad, h1, h2, h3⟩
  · have := c 0 (by decide)
    rw [h0] at this
    simp [wnC] at this
  · refine ⟨ad, h1, h2, ?_, ?_, ?_⟩
    · exact h3 _ _ (c 0 (by decide))
    · rw [← add_more ad (k * 3) 1 (by decide)]; exact h3 _ _ (c 1 (by decide))
    · rw [← add_more ad (k * 3) 2 (by decide)]; exact h3 _ _ (c 2 (by decide))
theorem add_base (g n : Nat) : (⟨g, 0, none⟩ : Addr).add n = ⟨g, n, none⟩ := by
  unfold Addr.add; split
  · rename_i h; rw [h]
  · simp
theorem lies_win0 {w : World} {g : Nat} {L : List (Int × Int × Int)} (h : Lies w (some ⟨g, 0, none⟩) (wnCells L)) {k : Nat} {x : Int × Int × Int} (hk : L[k]? = some x) : g < w.heap.size ∧
    w.cell? ⟨g, k * 3, none⟩ = some (.int .u8 x.1) ∧ w.cell? ⟨g, k * 3 + 1, none⟩ = some (.int .i64 x.2.1) ∧ w.cell? ⟨g, k * 3 + 2, none⟩ = some (.int .i64 x.2.2) := by
  obtain ⟨ad, h1, h2, h3, h4, h5⟩ := lies_win h hk
  injection h1 with h1
  subst h1
  rw [add_base] at h3 h4 h5
  exact ⟨h2, h3, h4, h5⟩
/-- A query's box and its slices. -/
def QT (w : World) (b : Nat) (g1 : Int) (A1 : Option Addr) (n1 c1 : Nat) (S1 : Option Addr) (m1 d1 : Nat) (j1 : Bool) (B1 : Option Addr) (o1 e1 : Nat) (k1 s1 v1 : Int) (y1 : Bool) (t1 : Int) (L1 M1 : List Nd) (l1 : List Int) (W : World) : Prop := QX w b g1 A1 n1 c1 S1 m1 d1 j1 B1 o1 e1 k1 s1 v1 y1 t1 W ∧ QA W A1 n1 S1 m1 B1 o1 L1 M1 l1
theorem QT.step {w : World} {b : Nat} {g1 : Int} {A1 : Option Addr} {n1 c1 : Nat} {S1 : Option Addr} {m1 d1 : Nat} {j1 : Bool} {B1 : Option Addr} {o1 e1 : Nat} {k1 s1 v1 : Int} {y1 : Bool} {t1 : Int} {L1 M1 : List Nd} {l1 : List Int} {W W' : World} (h : QT w b g1 A1 n1 c1 S1 m1 d1 j1 B1 o1 e1 k1 s1 v1 y1 t1 L1 M1 l1 W) (hb : Below W.heap.size W W') : QT w b g1 A1 n1 c1 S1 m1 d1 j1 B1 o1 e1 k1 s1 v1 y1 t1 L1 M1 l1 W' := ⟨h.1.step hb, h.2.step hb⟩
theorem QT.bl {w : World} {b : Nat} {g1 : Int} {A1 : Option Addr} {n1 c1 : Nat} {S1 : Option Addr} {m1 d1 : Nat} {j1 : Bool} {B1 : Option Addr} {o1 e1 : Nat} {k1 s1 v1 : Int} {y1 : Bool} {t1 : Int} {L1 M1 : List Nd} {l1 : List Int} {W : World} (h : QT w b g1 A1 n1 c1 S1 m1 d1 j1 B1 o1 e1 k1 s1 v1 y1 t1 L1 M1 l1 W) : Bl w W := h.1.1
theorem QT.qa {w : World} {b : Nat} {g1 : Int} {A1 : Option Addr} {n1 c1 : Nat} {S1 : Option Addr} {m1 d1 : Nat} {j1 : Bool} {B1 : Option Addr} {o1 e1 : Nat} {k1 s1 v1 : Int} {y1 : Bool} {t1 : Int} {L1 M1 : List Nd} {l1 : List Int} {W : World} (h : QT w b g1 A1 n1 c1 S1 m1 d1 j1 B1 o1 e1 k1 s1 v1 y1 t1 L1 M1 l1 W) : QA W A1 n1 S1 m1 B1 o1 L1 M1 l1 := h.2
def wins : List (Int × Int × Int) := [(0, 0, 0), (1, 0, 0), (4, 5, 0), (1, -1, 0), (1, 1073741825, 0), (1, 5, 5), (3, 5, 1), (2, 5, 0), (2, 5, -1), (2, 5, -9223372036854775808), (2, 0, 0), (3, 0, 0)]
theorem wins_bad : ∀ x ∈ wins, winE x.1 x.2.1 x.2.2 = 8 ∧ x.2.1 ≤ 9223372036854775807 := by decide
theorem made_61 : (madeCells #[.int .u8 0, .int .i64 0, .int .i64 0, .int .i64 0, .int .i64 0] 305).toList = ndCells (List.replicate 61 ⟨0, 0, 0, 0, 0⟩) := by kernel_rfl
end Go.Proofs.YtaijhkfbfkdepaaDoor.Q8
