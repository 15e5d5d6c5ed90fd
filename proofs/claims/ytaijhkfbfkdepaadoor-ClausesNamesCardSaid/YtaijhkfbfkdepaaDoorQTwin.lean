
/- Twin: a query whose slices are new. -/
import Derived.Test.YtaijhkfbfkdepaaDoorQBox
import Derived.Test.YtaijhkfbfkdepaaDoorNEach
import Derived.Deep.AppendLies
import Derived.Laws.AppendOwnNone
namespace Go.Proofs.YtaijhkfbfkdepaaDoor.Q8
open Go.ChangeShapes Go.WideShapes Go.ChangeAt Go.RowKit N4
set_option linter.unusedVariables false
set_option linter.unusedSimpArgs false
set_option maxRecDepth 100000

def SlOk (A : Option Addr) (n c : Nat) : Prop := (A = none ∧ n = 0 ∧ c = 0) ∨ ∃ ad, A = some ad
theorem own_lit1 (W : World) (base B : Nat) (e : TypeId) (size : Nat) (hB : W.heap.size = B) (hb : base ≤ B) : (W.alloc (.cells #[] e)).ownsRow base e size (.slice (some ⟨B, 0, none⟩) 0 0) 0 [] := by
  subst hB
  exact World.ownsRow_lit (base := base) (e := e) (size := size) W #[] 0 hb (Nat.zero_le _) (by simp)
theorem lies_at {w : World} {ad : Addr} {cs : List Value} (h : Lies w (some ad) cs) : ∀ j u, cs[j]? = some u → w.cell? (ad.add j) = some u := by
  intro j u hu
  rcases h with h0 | ⟨ad', he, _, hc⟩
  · rw [h0] at hu; simp at hu
  · injection he with he; subst he; exact hc j u hu
/-- 'append([]T{}, xs...)', xs nil, empty or not. -/
theorem wpList_append0 {P : Program} {w : World} {ops : Array Oper} {rest : List Oper} {o : Oper} {a : Act} {Q : Exit → Act → World → Prop} (hgd : o.guard = none) (s x : Operand) (t : TypeId)
    (ho : o.op = .call { callee := .builtin .append, args := #[s, x], argTypes := #[t, t] })
    (base : Nat) (e : TypeId) (i : TypeInfo) (z : Value) (size bytes : Nat) (ht : P.underlying t = some (.slice e)) (hi : P.info? e = some i) (hz : i.zero = some z)
    (hsize : i.size = size) (hby : i.bytes = bytes) (hzs : z.cells.size = size) (hsz : 0 < size)
    (g0 : Nat) (hs : a.eval s = .slice (some ⟨g0, 0, none⟩) 0 0) (hown : w.ownsRow base e size (.slice (some ⟨g0, 0, none⟩) 0 0) 0 [])
    (A : Option Addr) (m c : Nat) (hA : SlOk A m c) (news : List Value) (hx : a.eval x = .slice A m c) (hl : news.length = m * size) (hlie : Lies w A news) (h1 : ∀ u ∈ news, u.oneCell' = true)
    (h63 : m ≤ maxLen) (hbytes : m * bytes ≤ 140737488355328) (hbase : base ≤ w.heap.size)
    (h : ∀ g cap w', w'.ownsRow base e size (.slice (some ⟨g, 0, none⟩) m cap) m news → w.grownBy w' (some g0) → (g = g0 ∨ g = w.heap.size) → wpList P ops Q rest (a.put o.dst (.slice (some ⟨g, 0, none⟩) m cap)) w') :
    wpList P ops Q (o :: rest) a w := by
  rcases hA with ⟨rfl, rfl, rfl⟩ | ⟨ad, rfl⟩
  · obtain rfl : news = [] := List.eq_nil_of_length_eq_zero (by rw [hl]; omega)
    exact wpList_append_own_none hgd s x t ho base e i size ht hi _ 0 [] hs hown hx (h g0 0 w hown ⟨rfl, rfl, rfl, Nat.le_refl _, fun _ _ _ => rfl⟩ (.inl rfl))
  · refine wpList_append_own_at w hgd s x t ho base e i z size bytes ht hi hz hsize hby hzs hsz _ 0 [] hs hown ad m c news hx hl (lies_at hlie) h1 (by omega) (by rw [Nat.zero_add]; exact hbytes) hbase ?_
    intro v' w' h2 h3 h4 h5
    rw [List.nil_append, Nat.zero_add] at h2
    rcases h2.2 with ⟨hv, _⟩ | ⟨g, cap, cur, rfl, _⟩
    · have := (h4.1 hv).1
      cases this
    · refine h g cap w' h2 h3 ?_
      simpa [Value.ownBlock] using h5
theorem nd_one' (L : List Nd) : ∀ u ∈ ndCells L, u.oneCell' = true := by
  intro u hu
  obtain ⟨x, _, hx⟩ := List.mem_flatMap.1 hu
  simp only [ndC, List.mem_cons, List.not_mem_nil, or_false] at hx
  rcases hx with rfl | rfl | rfl | rfl | rfl <;> rfl
theorem iC_one (l : List Int) : ∀ u ∈ iC l, u.oneCell' = true := by
  intro u hu
  obtain ⟨x, _, rfl⟩ := List.mem_map.1 hu
  rfl
theorem int_info : (Tryd.prog.info? 3).map (fun i => (i.zero, i.size, i.bytes)) = some (some (.int .i64 0), 1, 8) := by kernel_rfl

/-- The box and the result's own block. -/
def TwS (w : World) (bx : List Value) (W : World) : Prop :=
  Bl w W ∧ W.ownsRow w.heap.size 32 1 (.slice (some ⟨w.heap.size, 0, none⟩) 10 10) 10 bx ∧ ∃ rs, W.ownsRow w.heap.size 32 1 (.slice (some ⟨w.heap.size + 1, 0, none⟩) 10 10) 10 rs
theorem TwS.new (w : World) (bx rs : Array Value) (h1 : bx.size = 10) (h2 : rs.size = 10) : TwS w bx.toList ((w.alloc (.cells bx 32)).alloc (.cells rs 32)) := by
  refine ⟨((Bl.start w).al _).al _, (World.ownsRow_lit (base := w.heap.size) (e := 32) (size := 1) w bx 10 (Nat.le_refl _) (by decide) (by omega)).alloc _, rs.toList, ?_⟩
  have := World.ownsRow_lit (base := w.heap.size) (e := 32) (size := 1) (w.alloc (.cells bx 32)) rs 10 (by simp) (by decide) (by omega)
  rwa [show (w.alloc (.cells bx 32)).heap.size = w.heap.size + 1 by simp] at this
theorem TwS.al {w W : World} {bx : List Value} (h : TwS w bx W) (o : Obj) : TwS w bx (W.alloc o) := by
  obtain ⟨h1, h2, rs, h3⟩ := h
  exact ⟨h1.al o, h2.alloc o, rs, h3.alloc o⟩
theorem TwS.size {w W : World} {bx : List Value} (h : TwS w bx W) : w.heap.size + 1 < W.heap.size := by
  obtain ⟨_, _, rs, h3⟩ := h
  exact (h3.lt _ rfl).2
theorem TwS.grown {w W W' : World} {bx : List Value} {g : Nat} (h : TwS w bx W) (hg : W.grownBy W' (some g)) (hw : w.heap.size + 1 < g) : TwS w bx W' := by
  have hz := h.size
  obtain ⟨h1, h2, rs, h3⟩ := h
  refine ⟨Below.grown h1 hg h1.size (fun j hj => (by injection hj with hj; subst hj; omega)), h2.kept hg (.inr ?_), rs, h3.kept hg (.inr ?_)⟩
  · simp [Value.ownBlock]; omega
  · simp [Value.ownBlock]; omega
theorem TwS.put {w W : World} {bx : List Value} (h : TwS w bx W) (i : Nat) (v : Value) : TwS w (bx.set i v) (W.setCell ⟨w.heap.size, i, none⟩ v) := by
  obtain ⟨h1, h2, rs, h3⟩ := h
  obtain ⟨h4, h5⟩ := h2.stored i v
  exact ⟨h1.setCell (Nat.le_refl _) v, h4, rs, h3.kept h5 (.inr (by simp [Value.ownBlock]))⟩
theorem TwS.puts {w W : World} {bx : List Value} (h : TwS w bx W) (i : Nat) (v : Value) : W.grownBy (W.setCell ⟨w.heap.size, i, none⟩ v) (some w.heap.size) := (h.2.1.stored i v).2
theorem TwS.cells {w W : World} {a0 a1 a2 a3 a4 a5 a6 a7 a8 a9 : Value} (h : TwS w [a0, a1, a2, a3, a4, a5, a6, a7, a8, a9] W) :
    W.cell? ⟨w.heap.size, 0, none⟩ = some a0 ∧ W.cell? ⟨w.heap.size, 1, none⟩ = some a1 ∧ W.cell? ⟨w.heap.size, 2, none⟩ = some a2 ∧ W.cell? ⟨w.heap.size, 3, none⟩ = some a3 ∧ W.cell? ⟨w.heap.size, 4, none⟩ = some a4 ∧
    W.cell? ⟨w.heap.size, 5, none⟩ = some a5 ∧ W.cell? ⟨w.heap.size, 6, none⟩ = some a6 ∧ W.cell? ⟨w.heap.size, 7, none⟩ = some a7 ∧ W.cell? ⟨w.heap.size, 8, none⟩ = some a8 ∧ W.cell? ⟨w.heap.size, 9, none⟩ = some a9 ∧
    W.frozen? ⟨w.heap.size, 1, none⟩ = false ∧ W.frozen? ⟨w.heap.size, 2, none⟩ = false ∧ W.frozen? ⟨w.heap.size, 4, none⟩ = false :=
  ⟨h.2.1.cellAt 0 (by decide), h.2.1.cellAt 1 (by decide), h.2.1.cellAt 2 (by decide), h.2.1.cellAt 3 (by decide), h.2.1.cellAt 4 (by decide), h.2.1.cellAt 5 (by decide), h.2.1.cellAt 6 (by decide), h.2.1.cellAt 7 (by decide), h.2.1.cellAt 8 (by decide), h.2.1.cellAt 9 (by decide), h.2.1.frozenAt 1, h.2.1.frozenAt 2, h.2.1.frozenAt 4⟩
theorem TwS.res {w W : World} {bx : List Value} (h : TwS w bx W) : ∃ u0 u1 u2 u3 u4 u5 u6 u7 u8 u9,
    (W.cell? ⟨w.heap.size + 1, 0, none⟩ = some u0 ∧ W.cell? ⟨w.heap.size + 1, 1, none⟩ = some u1 ∧ W.cell? ⟨w.heap.size + 1, 2, none⟩ = some u2 ∧ W.cell? ⟨w.heap.size + 1, 3, none⟩ = some u3 ∧ W.cell? ⟨w.heap.size + 1, 4, none⟩ = some u4 ∧
    W.cell? ⟨w.heap.size + 1, 5, none⟩ = some u5 ∧ W.cell? ⟨w.heap.size + 1, 6, none⟩ = some u6 ∧ W.cell? ⟨w.heap.size + 1, 7, none⟩ = some u7 ∧ W.cell? ⟨w.heap.size + 1, 8, none⟩ = some u8 ∧ W.cell? ⟨w.heap.size + 1, 9, none⟩ = some u9) ∧
    (W.frozen? ⟨w.heap.size + 1, 0, none⟩ = false ∧ W.frozen? ⟨w.heap.size + 1, 1, none⟩ = false ∧ W.frozen? ⟨w.heap.size + 1, 2, none⟩ = false ∧ W.frozen? ⟨w.heap.size + 1, 3, none⟩ = false ∧ W.frozen? ⟨w.heap.size + 1, 4, none⟩ = false ∧
    W.frozen? ⟨w.heap.size + 1, 5, none⟩ = false ∧ W.frozen? ⟨w.heap.size + 1, 6, none⟩ = false ∧ W.frozen? ⟨w.heap.size + 1, 7, none⟩ = false ∧ W.frozen? ⟨w.heap.size + 1, 8, none⟩ = false ∧ W.frozen? ⟨w.heap.size + 1, 9, none⟩ = false) := by
  obtain ⟨_, _, rs, h3⟩ := h
  have hl : rs.length = 10 := h3.1
  match rs, hl, h3 with
  | [u0, u1, u2, u3, u4, u5, u6, u7, u8, u9], _, h3 =>
    exact ⟨u0, u1, u2, u3, u4, u5, u6, u7, u8, u9, ⟨h3.cellAt 0 (by decide), h3.cellAt 1 (by decide), h3.cellAt 2 (by decide), h3.cellAt 3 (by decide), h3.cellAt 4 (by decide), h3.cellAt 5 (by decide), h3.cellAt 6 (by decide), h3.cellAt 7 (by decide), h3.cellAt 8 (by decide), h3.cellAt 9 (by decide)⟩,
      h3.frozenAt 0, h3.frozenAt 1, h3.frozenAt 2, h3.frozenAt 3, h3.frozenAt 4, h3.frozenAt 5, h3.frozenAt 6, h3.frozenAt 7, h3.frozenAt 8, h3.frozenAt 9⟩
/-- With the three new slices. -/
def TwO (w : World) (bx : List Value) (a ca n b cb o d cd m : Nat) (L M : List Nd) (l : List Int) (W : World) : Prop :=
  TwS w bx W ∧ W.ownsRow w.heap.size 35 5 (.slice (some ⟨a, 0, none⟩) n ca) n (ndCells L) ∧ W.ownsRow w.heap.size 35 5 (.slice (some ⟨b, 0, none⟩) o cb) o (ndCells M) ∧ W.ownsRow w.heap.size 3 1 (.slice (some ⟨d, 0, none⟩) m cd) m (iC l) ∧
    w.heap.size + 1 < a ∧ w.heap.size + 1 < b ∧ w.heap.size + 1 < d
theorem TwO.rput {w W : World} {bx : List Value} {a ca n b cb o d cd m : Nat} {L M : List Nd} {l : List Int} (h : TwO w bx a ca n b cb o d cd m L M l W) (i : Nat) (v : Value) : TwO w bx a ca n b cb o d cd m L M l (W.setCell ⟨w.heap.size + 1, i, none⟩ v) := by
  obtain ⟨⟨h1, h2, rs, h3⟩, h4, h5, h6, h7, h8, h9⟩ := h
  obtain ⟨h10, h11⟩ := h3.stored i v
  exact ⟨⟨h1.setCell (by omega) v, h2.kept h11 (.inr (by simp [Value.ownBlock])), _, h10⟩, h4.kept h11 (.inr (by simp [Value.ownBlock]; omega)), h5.kept h11 (.inr (by simp [Value.ownBlock]; omega)), h6.kept h11 (.inr (by simp [Value.ownBlock]; omega)), h7, h8, h9⟩
def TwinP (g1 : Int) (A1 : Option Addr) (n1 c1 : Nat) (S1 : Option Addr) (m1 d1 : Nat) (j1 : Bool) (B1 : Option Addr) (o1 e1 : Nat) (k1 s1 v1 : Int) (y1 : Bool) (t1 : Int) (L1 M1 : List Nd) (l1 : List Int) (w : World) (e : Ending) (w' : World) : Prop :=
  ∃ a ca b cb d cd, e = .returned (.agg #[.int .u8 g1, .slice (some ⟨a, 0, none⟩) n1 ca, .slice (some ⟨d, 0, none⟩) m1 cd, .bool j1, .slice (some ⟨b, 0, none⟩) o1 cb, .int .u8 k1, .int .i64 s1, .int .i64 v1, .bool y1, .int .u8 t1]) ∧
    w'.ownsRow w.heap.size 35 5 (.slice (some ⟨a, 0, none⟩) n1 ca) n1 (ndCells L1) ∧ w'.ownsRow w.heap.size 35 5 (.slice (some ⟨b, 0, none⟩) o1 cb) o1 (ndCells M1) ∧ w'.ownsRow w.heap.size 3 1 (.slice (some ⟨d, 0, none⟩) m1 cd) m1 (iC l1) ∧
    a ≠ b ∧ a ≠ d ∧ b ≠ d ∧ Bl w w'
end Go.Proofs.YtaijhkfbfkdepaaDoor.Q8
