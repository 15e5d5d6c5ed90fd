/- Twin: a query whose slices are new. -/
import Derived.Test.YtaijhkfbfkdepaaQBox
import Derived.Test.YtaijhkfbfkdepaaNEach
import Derived.Deep.AppendLies
import Derived.Laws.AppendOwnNone
namespace Go.Proofs.Ytaijhkfbfkdepaa.Q8
open Go.ChangeShapes Go.WideShapes Go.ChangeAt Go.RowKit N4
set_option linter.unusedVariables false
set_option linter.unusedSimpArgs false
set_option maxRecDepth 100000

def SlOk (A : Option Addr) (n c : Nat) : Prop := (A = none ∧ n = 0 ∧ c = 0) ∨ ∃ ad, A = some ad
theorem own_lit1 (W : World) (base B : Nat) (e : TypeId) (size : Nat) (hB : W.heap.size = B) (hb : base ≤ B) : (W.alloc (.cells #[] e)).ownsRow base e size (.slice (some ⟨B, 0, none⟩) 0 0) 0 [] := by
  subst hB
  exact World.ownsRow_lit (base := base) (e := e) (size := size) W #[] 0 hb (Nat.zero_le _) (by simp)
theorem lies_at {w : World} {ad : Addr} {cs : List Value} (h : Lies w (some ad) cs) : ∀ j u, cs[j]? = some u → w.cell? (ad.add j) = some u := by
  intro j u hu
  rcases h with h0 | ⟨ad', he, _, hc⟩
  · rw [h0] at hu; simp at hu
  · injection he with he; subst he; exact hc j u hu
/-- 'append([]T{}, xs...)', xs nil, empty or not. -/
theorem wpList_append0 {P : Program} {w : World} {ops : Array Oper} {rest : List Oper} {o : Oper} {a : Act} {Q : Exit → Act → World → Prop} (hgd : o.guard = none) (s x : Operand) (t : TypeId)
    (ho : o.op = .call { callee := .builtin .append, args := #[s, x], argTypes := #[t, t] })
    (base : Nat) (e : TypeId) (i : TypeInfo) (z : Value) (size bytes : Nat) (ht : P.underlying t = some (.slice e)) (hi : P.info? e = some i) (hz : i.zero = some z)
    (hsize : i.size = size) (hby : i.bytes = bytes) (hzs : z.cells.size = size) (hsz : 0 < size)
    (g0 : Nat) (hs : a.eval s = .slice (some ⟨g0, 0, none⟩) 0 0) (hown : w.ownsRow base e size (.slice (some ⟨g0, 0, none⟩) 0 0) 0 [])
    (A : Option Addr) (m c : Nat) (hA : SlOk A m c) (news : List Value) (hx : a.eval x = .slice A m c) (hl : news.length = m * size) (hlie : Lies w A news) (h1 : ∀ u ∈ news, u.oneCell' = true)
    (h63 : m ≤ maxLen) (hbytes : m * bytes ≤ 140737488355328) (hbase : base ≤ w.heap.size)
    (h : ∀ g cap w', w'.ownsRow base e size (.slice (some ⟨g, 0, none⟩) m cap) m news → w.grownBy w' (some g0) → (g = g0 ∨ g = w.heap.size) → wpList P ops Q rest (a.put o.dst (.slice (some ⟨g, 0, none⟩) m cap)) w') :
    wpList P ops Q (o :: rest) a w := by
  rcases hA with ⟨rfl, rfl, rfl⟩ | ⟨ad, rfl⟩
  · obtain rfl : news = [] := List.eq_nil_of_length_eq_zero (by rw [hl]; omega)
    exact wpList_append_own_none hgd s x t ho base e i size ht hi _ 0 [] hs hown hx (h g0 0 w hown ⟨rfl, rfl, rfl, Nat.le_refl _, fun _ _ _ => rfl⟩ (.inl rfl))
  · refine wpList_append_own_at w hgd s x t ho base e i z size bytes ht hi hz hsize hby hzs hsz _ 0 [] hs hown ad m c news hx hl (lies_at hlie) h1 (by omega) (by rw [Nat.zero_add]; exact hbytes) hbase ?_
    intro v' w' h2 h3 h4 h5
    rw [List.nil_append, Nat.zero_add] at h2
    rcases h2.2 with ⟨hv, _⟩ | ⟨g, cap, cur, rfl, _⟩
    · have := (h4.1 hv).1
      cases this
    · refine h g cap w' h2 h3 ?_
      simpa [Value.ownBlock] using h5
theorem nd_one' (L : List Nd) : ∀ u ∈ ndCells L, u.oneCell' = true := by
  intro u hu
  obtain ⟨x, _, hx⟩ := List.mem_flatMap.1 hu
  simp only [ndC, List.mem_cons, List.not_mem_nil, or_false] at hx
  rcases hx with rfl | rfl | rfl | rfl | rfl <;> rfl
theorem iC_one (l : List Int) : ∀ u ∈ iC l, u.oneCell' = true := by
  intro u hu
  obtain ⟨x, _, rfl⟩ := List.mem_map.1 hu
  rfl
theorem int_info : (Try.prog.info? 3).map (fun i => (i.zero, i.size, i.bytes)) = some (some (.int .i64 0), 1, 8) := by kernel_rfl

/-- The box and the result's own block. -/
def TwS (w : World) (bx : List Value) (W : World) : Prop :=
  Bl w W ∧ W.ownsRow w.heap.size 27 1 (.slice (some ⟨w.heap.size, 0, none⟩) 10 10) 10 bx ∧ ∃ rs, W.ownsRow w.heap.size 27 1 (.slice (some ⟨w.heap.size + 1, 0, none⟩) 10 10) 10 rs
theorem TwS.new (w : World) (bx rs : Array Value) (h1 : bx.size = 10) (h2 : rs.size = 10) : TwS w bx.toList ((w.alloc (.cells bx 27)).alloc (.cells rs 27)) := by
  refine ⟨((Bl.start w).al _).al _, (World.ownsRow_lit (base := w.heap.size) (e := 27) (size := 1) w bx 10 (Nat.le_refl _) (by decide) (by omega)).alloc _, rs.toList, ?_⟩
  have := World.ownsRow_lit (base := w.heap.size) (e := 27) (size := 1) (w.alloc (.cells bx 27)) rs 10 (by simp) (by decide) (by omega)
  rwa [show (w.alloc (.cells bx 27)).heap.size = w.heap.size + 1 by simp] at this
theorem TwS.al {w W : World} {bx : List Value} (h : TwS w bx W) (o : Obj) : TwS w bx (W.alloc o) := by
  obtain ⟨h1, h2, rs, h3⟩ := h
  exact ⟨h1.al o, h2.alloc o, rs, h3.alloc o⟩
theorem TwS.size {w W : World} {bx : List Value} (h : TwS w bx W) : w.heap.size + 1 < W.heap.size := by
  obtain ⟨_, _, rs, h3⟩ := h
  exact (h3.lt _ rfl).2
theorem TwS.grown {w W W' : World} {bx : List Value} {g : Nat} (h : TwS w bx W) (hg : W.grownBy W' (some g)) (hw : w.heap.size + 1 < g) : TwS w bx W' := by
  have hz := h.size
  obtain ⟨h1, h2, rs, h3⟩ := h
  refine ⟨Below.grown h1 hg h1.size (fun j hj => (by injection hj with hj; subst hj; omega)), h2.kept hg (.inr ?_), rs, h3.kept hg (.inr ?_)⟩
  · simp [Value.ownBlock]; omega
  · simp [Value.ownBlock]; omega
theorem TwS.put {w W : World} {bx : List Value} (h : TwS w bx W) (i : Nat) (v : Value) : TwS w (bx.set i v) (W.setCell ⟨w.heap.size, i, none⟩ v) := by
  obtain ⟨h1, h2, rs, h3⟩ := h
  obtain ⟨h4, h5⟩ := h2.stored i v
  exact ⟨h1.setCell (Nat.le_refl _) v, h4, rs, h3.kept h5 (.inr (by simp [Value.ownBlock]))⟩
theorem TwS.puts {w W : World} {bx : List Value} (h : TwS w bx W) (i : Nat) (v : Value) : W.grownBy (W.setCell ⟨w.heap.size, i, none⟩ v) (some w.heap.size) := (h.2.1.stored i v).2
theorem TwS.cells {w W : World} {a0 a1 a2 a3 a4 a5 a6 a7 a8 a9 : Value} (h : TwS w [a0, a1, a2, a3, a4, a5, a6, a7, a8, a9] W) :
    W.cell? ⟨w.heap.size, 0, none⟩ = some a0 ∧ W.cell? ⟨w.heap.size, 1, none⟩ = some a1 ∧ W.cell? ⟨w.heap.size, 2, none⟩ = some a2 ∧ W.cell? ⟨w.heap.size, 3, none⟩ = some a3 ∧ W.cell? ⟨w.heap.size, 4, none⟩ = some a4 ∧
    W.cell? ⟨w.heap.size, 5, none⟩ = some a5 ∧ W.cell? ⟨w.heap.size, 6, none⟩ = some a6 ∧ W.cell? ⟨w.heap.size, 7, none⟩ = some a7 ∧ W.cell? ⟨w.heap.size, 8, none⟩ = some a8 ∧ W.cell? ⟨w.heap.size, 9, none⟩ = some a9 ∧
    W.frozen? ⟨w.heap.size, 1, none⟩ = false ∧ W.frozen? ⟨w.heap.size, 2, none⟩ = false ∧ W.frozen? ⟨w.heap.size, 4, none⟩ = false :=
  ⟨h.2.1.cellAt 0 (by decide), h.2.1.cellAt 1 (by decide), h.2.1.cellAt 2 (by decide), h.2.1.cellAt 3 (by decide), h.2.1.cellAt 4 (by decide), h.2.1.cellAt 5 (by decide), h.2.1.cellAt 6 (by decide), h.2.1.cellAt 7 (by decide), h.2.1.cellAt 8 (by decide), h.2.1.cellAt 9 (by decide), h.2.1.frozenAt 1, h.2.1.frozenAt 2, h.2.1.frozenAt 4⟩
theorem TwS.res {w W : World} {bx : List Value} (h : TwS w bx W) : ∃ u0 u1 u2 u3 u4 u5 u6 u7 u8 u9,
    (W.cell? ⟨w.heap.size + 1, 0, none⟩ = some u0 ∧ W.cell? ⟨w.heap.size + 1, 1, none⟩ = some u1 ∧ W.cell? ⟨w.heap.size + 1, 2, none⟩ = some u2 ∧ W.cell? ⟨w.heap.size + 1, 3, none⟩ = some u3 ∧ W.cell? ⟨w.heap.size + 1, 4, none⟩ = some u4 ∧
    W.cell? ⟨w.heap.size + 1, 5, none⟩ = some u5 ∧ W.cell? ⟨w.heap.size + 1, 6, none⟩ = some u6 ∧ W.cell? ⟨w.heap.size + 1, 7, none⟩ = some u7 ∧ W.cell? ⟨w.heap.size + 1, 8, none⟩ = some u8 ∧ W.cell? ⟨w.heap.size + 1, 9, none⟩ = some u9) ∧
    (W.frozen? ⟨w.heap.size + 1, 0, none⟩ = false ∧ W.frozen? ⟨w.heap.size + 1, 1, none⟩ = false ∧ W.frozen? ⟨w.heap.size + 1, 2, none⟩ = false ∧ W.frozen? ⟨w.heap.size + 1, 3, none⟩ = false ∧ W.frozen? ⟨w.heap.size + 1, 4, none⟩ = false ∧
    W.frozen? ⟨w.heap.size + 1, 5, none⟩ = false ∧ W.frozen? ⟨w.heap.size + 1, 6, none⟩ = false ∧ W.frozen? ⟨w.heap.size + 1, 7, none⟩ = false ∧ W.frozen? ⟨w.heap.size + 1, 8, none⟩ = false ∧ W.frozen? ⟨w.heap.size + 1, 9, none⟩ = false) := by
  obtain ⟨_, _, rs, h3⟩ := h
  have hl : rs.length = 10 := h3.1
  match rs, hl, h3 with
  | [u0, u1, u2, u3, u4, u5, u6, u7, u8, u9], _, h3 =>
    exact ⟨u0, u1, u2, u3, u4, u5, u6, u7, u8, u9, ⟨h3.cellAt 0 (by decide), h3.cellAt 1 (by decide), h3.cellAt 2 (by decide), h3.cellAt 3 (by decide), h3.cellAt 4 (by decide), h3.cellAt 5 (by decide), h3.cellAt 6 (by decide), h3.cellAt 7 (by decide), h3.cellAt 8 (by decide), h3.cellAt 9 (by decide)⟩,
      h3.frozenAt 0, h3.frozenAt 1, h3.frozenAt 2, h3.frozenAt 3, h3.frozenAt 4, h3.frozenAt 5, h3.frozenAt 6, h3.frozenAt 7, h3.frozenAt 8, h3.frozenAt 9⟩
/-- With the three new slices. -/
def TwO (w : World) (bx : List Value) (a ca n b cb o d cd m : Nat) (L M : List Nd) (l : List Int) (W : World) : Prop :=
  TwS w bx W ∧ W.ownsRow w.heap.size 45 5 (.slice (some ⟨a, 0, none⟩) n ca) n (ndCells L) ∧ W.ownsRow w.heap.size 45 5 (.slice (some ⟨b, 0, none⟩) o cb) o (ndCells M) ∧ W.ownsRow w.heap.size 3 1 (.slice (some ⟨d, 0, none⟩) m cd) m (iC l) ∧
    w.heap.size + 1 < a ∧ w.heap.size + 1 < b ∧ w.heap.size + 1 < d
theorem TwO.rput {w W : World} {bx : List Value} {a ca n b cb o d cd m : Nat} {L M : List Nd} {l : List Int} (h : TwO w bx a ca n b cb o d cd m L M l W) (i : Nat) (v : Value) : TwO w bx a ca n b cb o d cd m L M l (W.setCell ⟨w.heap.size + 1, i, none⟩ v) := by
  obtain ⟨⟨h1, h2, rs, h3⟩, h4, h5, h6, h7, h8, h9⟩ := h
  obtain ⟨h10, h11⟩ := h3.stored i v
  exact ⟨⟨h1.setCell (by omega) v, h2.kept h11 (.inr (by simp [Value.ownBlock])), _, h10⟩, h4.kept h11 (.inr (by simp [Value.ownBlock]; omega)), h5.kept h11 (.inr (by simp [Value.ownBlock]; omega)), h6.kept h11 (.inr (by simp [Value.ownBlock]; omega)), h7, h8, h9⟩
def TwinP (g1 : Int) (A1 : Option Addr) (n1 c1 : Nat) (S1 : Option Addr) (m1 d1 : Nat) (j1 : Bool) (B1 : Option Addr) (o1 e1 : Nat) (k1 s1 v1 : Int) (y1 : Bool) (t1 : Int) (L1 M1 : List Nd) (l1 : List Int) (w : World) (e : Ending) (w' : World) : Prop :=
  ∃ a ca b cb d cd, e = .returned (.agg #[.int .u8 g1, .slice (some ⟨a, 0, none⟩) n1 ca, .slice (some ⟨d, 0, none⟩) m1 cd, .bool j1, .slice (some ⟨b, 0, none⟩) o1 cb, .int .u8 k1, .int .i64 s1, .int .i64 v1, .bool y1, .int .u8 t1]) ∧
    w'.ownsRow w.heap.size 45 5 (.slice (some ⟨a, 0, none⟩) n1 ca) n1 (ndCells L1) ∧ w'.ownsRow w.heap.size 45 5 (.slice (some ⟨b, 0, none⟩) o1 cb) o1 (ndCells M1) ∧ w'.ownsRow w.heap.size 3 1 (.slice (some ⟨d, 0, none⟩) m1 cd) m1 (iC l1) ∧
    a ≠ b ∧ a ≠ d ∧ b ≠ d ∧ Bl w w'
set_option maxHeartbeats 4000000 in
theorem twin_any (g1 : Int) (A1 : Option Addr) (n1 c1 : Nat) (S1 : Option Addr) (m1 d1 : Nat) (j1 : Bool) (B1 : Option Addr) (o1 e1 : Nat) (k1 s1 v1 : Int) (y1 : Bool) (t1 : Int) (L1 M1 : List Nd) (l1 : List Int) (w : World) (h : QA w A1 n1 S1 m1 B1 o1 L1 M1 l1) (z1 : n1 ≤ 70) (z2 : o1 ≤ 70) (z3 : m1 ≤ 10) (hA : SlOk A1 n1 c1) (hB : SlOk B1 o1 e1) (hS : SlOk S1 m1 d1) :
    Calls Try.prog 8 #[.agg #[.int .u8 g1, .slice A1 n1 c1, .slice S1 m1 d1, .bool j1, .slice B1 o1 e1, .int .u8 k1, .int .i64 s1, .int .i64 v1, .bool y1, .int .u8 t1]] w (TwinP g1 A1 n1 c1 S1 m1 d1 j1 B1 o1 e1 k1 s1 v1 y1 t1 L1 M1 l1 w) := by
  obtain ⟨i0, hi, hz0, hz1, hz2'⟩ := info_parts nd_info
  obtain ⟨i1, hj, hy0, hy1, hy2⟩ := info_parts int_info
  have HA := Lib.hid hA
  have HB := Lib.hid hB
  have HS := Lib.hid hS
  have HLA := Lib.hid (fun W (hb : Bl w W) => hb.lies h.1.1)
  have HLB := Lib.hid (fun W (hb : Bl w W) => hb.lies h.2.2.1)
  have HLS := Lib.hid (fun W (hb : Bl w W) => hb.lies h.2.1.1)
  have HNA := Lib.hid (show (ndCells L1).length = n1 * 5 by rw [ndCells_length, h.1.2.1])
  have HNB := Lib.hid (show (ndCells M1).length = o1 * 5 by rw [ndCells_length, h.2.2.2.1])
  have HNS := Lib.hid (show (iC l1).length = m1 * 1 by rw [iC, List.length_map, h.2.1.2, Nat.mul_one])
  have hT0 : ∀ rs : Array Value, rs.size = 10 → TwS w #[.int .u8 g1, .slice A1 n1 c1, .slice S1 m1 d1, .bool j1, .slice B1 o1 e1, .int .u8 k1, .int .i64 s1, .int .i64 v1, .bool y1, .int .u8 t1].toList ((w.alloc (.cells #[.int .u8 g1, .slice A1 n1 c1, .slice S1 m1 d1, .bool j1, .slice B1 o1 e1, .int .u8 k1, .int .i64 s1, .int .i64 v1, .bool y1, .int .u8 t1] 27)).alloc (.cells rs 27)) := fun rs hr => TwS.new w _ rs rfl hr
  have HT0 := Lib.hid hT0
  clear h hA hB hS hT0
  go_enter Try.func8, Try.ntmps8
  go_wp2_with (at_builtin; refine wpList_append0 rfl (.tmp 3) (.tmp 5) 22 rfl w.heap.size 45 i0 _ 5 40 Try.underlying22 hi hz0 hz1 hz2' rfl (by decide) (w.heap.size + 1 + 1) rfl (own_lit1 _ _ _ _ _ (by simp) (by omega)) A1 n1 c1 HA.out (ndCells L1) rfl HNA.out (HLA.out _ ((HT0.out _ (by rfl)).al _).1) (nd_one' _) (by unfold maxLen; omega) (by omega) (by simp; omega) ?_)
  intro a ca w2 ho1 hg1 hl1
  have ht2 := ((HT0.out _ (by rfl)).al _).grown hg1 (by omega)
  have ha1 : w.heap.size + 2 ≤ a := by rcases hl1 with rfl | rfl <;> simp <;> omega
  have ha2 := (ho1.lt a rfl).2
  have ht3 := ht2.put 1 (.slice (some ⟨a, 0, none⟩) n1 ca)
  have HO1 := Lib.hid (ho1.kept (ht2.puts 1 (.slice (some ⟨a, 0, none⟩) n1 ca)) (.inr (by simp [Value.ownBlock]; omega)))
  have HT3 := Lib.hid ht3
  have hz2 := ht2.size
  have hz3 : w.heap.size < w2.heap.size := by omega
  have hz4 : w2.heap.size ≠ w.heap.size := by omega
  have hz5 : w.heap.size ≠ w2.heap.size := by omega
  obtain ⟨c0, c1', c2, c3, c4, c5, c6, c7, c8, c9, f1, f2, f4⟩ := ht2.cells
  clear ho1 hg1 hl1 ht2 ht3
  go_wp2_with (at_builtin; refine wpList_append0 rfl (.tmp 8) (.tmp 10) 22 rfl w.heap.size 45 i0 _ 5 40 Try.underlying22 hi hz0 hz1 hz2' rfl (by decide) w2.heap.size rfl (own_lit1 _ _ _ _ _ (by simp) (by omega)) B1 o1 e1 HB.out (ndCells M1) rfl HNB.out (HLB.out _ (HT3.out.al _).1) (nd_one' _) (by unfold maxLen; omega) (by omega) (by simp; omega) ?_)
  intro b cb w4 ho2 hg2 hl2
  have ht4 := (HT3.out.al _).grown hg2 (by omega)
  have hb1 : w2.heap.size ≤ b := by rcases hl2 with rfl | rfl <;> simp
  have hb2 := (ho2.lt b rfl).2
  have HO3 := Lib.hid (((HO1.out.alloc _).kept hg2 (.inr (by simp [Value.ownBlock]; omega))).kept (ht4.puts 4 (.slice (some ⟨b, 0, none⟩) o1 cb)) (.inr (by simp [Value.ownBlock]; omega)))
  have HO2 := Lib.hid (ho2.kept (ht4.puts 4 (.slice (some ⟨b, 0, none⟩) o1 cb)) (.inr (by simp [Value.ownBlock]; omega)))
  have HT5 := Lib.hid (ht4.put 4 (.slice (some ⟨b, 0, none⟩) o1 cb))
  have hz6 := ht4.size
  have hz7 : w.heap.size < w4.heap.size := by omega
  have hz8 : w4.heap.size ≠ w.heap.size := by omega
  have hz9 : w.heap.size ≠ w4.heap.size := by omega
  obtain ⟨x0, x1, x2, x3, x4, x5, x6, x7, x8, x9, p1, p2, p4⟩ := ht4.cells
  clear ho2 hg2 hl2 ht4 c0 c1' c2 c3 c4 c5 c6 c7 c8 c9 f1 f2 f4 HO1 HT3
  go_wp2_with (at_builtin; refine wpList_append0 rfl (.tmp 13) (.tmp 15) 23 rfl w.heap.size 3 i1 _ 1 8 Try.underlying23 hj hy0 hy1 hy2 rfl (by decide) w4.heap.size rfl (own_lit1 _ _ _ _ _ (by simp) (by omega)) S1 m1 d1 HS.out (iC l1) rfl HNS.out (HLS.out _ (HT5.out.al _).1) (iC_one _) (by unfold maxLen; omega) (by omega) (by simp; omega) ?_)
  intro d cd w6 ho4 hg4 hl4
  have ht6 := (HT5.out.al _).grown hg4 (by omega)
  have hd1 : w4.heap.size ≤ d := by rcases hl4 with rfl | rfl <;> simp
  have HO5 := Lib.hid (((HO3.out.alloc _).kept hg4 (.inr (by simp [Value.ownBlock]; omega))).kept (ht6.puts 2 (.slice (some ⟨d, 0, none⟩) m1 cd)) (.inr (by simp [Value.ownBlock]; omega)))
  have HO6 := Lib.hid (((HO2.out.alloc _).kept hg4 (.inr (by simp [Value.ownBlock]; omega))).kept (ht6.puts 2 (.slice (some ⟨d, 0, none⟩) m1 cd)) (.inr (by simp [Value.ownBlock]; omega)))
  have HO7 := Lib.hid (ho4.kept (ht6.puts 2 (.slice (some ⟨d, 0, none⟩) m1 cd)) (.inr (by simp [Value.ownBlock]; omega)))
  have HT7 := Lib.hid (ht6.put 2 (.slice (some ⟨d, 0, none⟩) m1 cd))
  have hq6 := ht6.size
  have hq7 : w.heap.size < w6.heap.size := by omega
  obtain ⟨r0, r1, r2, r3, r4, r5, r6, r7, r8, r9, q1, q2, q4⟩ := ht6.cells
  obtain ⟨u0, u1, u2, u3, u4, u5, u6, u7, u8, u9, ⟨e0, e1', e2, e3, e4, e5, e6, e7, e8, e9⟩, h0, h1, h2, h3, h4, h5, h6, h7, h8, h9⟩ := ht6.res
  clear ho4 hg4 hl4 ht6 x0 x1 x2 x3 x4 x5 x6 x7 x8 x9 p1 p2 p4 HO3 HO2 HT5
  have HTO := Lib.hid (show TwO w _ a ca n1 b cb o1 d cd m1 L1 M1 l1 _ from ⟨HT7.out, HO5.out, HO6.out, HO7.out, by omega, by omega, by omega⟩)
  go_wp2
  refine bodyPost_ret (v := .agg #[.int .u8 g1, .slice (some ⟨a, 0, none⟩) n1 ca, .slice (some ⟨d, 0, none⟩) m1 cd, .bool j1, .slice (some ⟨b, 0, none⟩) o1 cb, .int .u8 k1, .int .i64 s1, .int .i64 v1, .bool y1, .int .u8 t1]) (by simp [results, Try.results8, go_sem, e0, e1', e2, e3, e4, e5, e6, e7, e8, e9]) rfl ?_
  have HW := ((((((((((HTO.out.rput 0 (.int .u8 g1)).rput 1 (.slice (some ⟨a, 0, none⟩) n1 ca)).rput 2 (.slice (some ⟨d, 0, none⟩) m1 cd)).rput 3 (.bool j1)).rput 4 (.slice (some ⟨b, 0, none⟩) o1 cb)).rput 5 (.int .u8 k1)).rput 6 (.int .i64 s1)).rput 7 (.int .i64 v1)).rput 8 (.bool y1)).rput 9 (.int .u8 t1))
  exact ⟨a, ca, b, cb, d, cd, rfl, HW.2.1, HW.2.2.1, HW.2.2.2.1, by omega, by omega, by omega, HW.1.1⟩
end Go.Proofs.Ytaijhkfbfkdepaa.Q8
