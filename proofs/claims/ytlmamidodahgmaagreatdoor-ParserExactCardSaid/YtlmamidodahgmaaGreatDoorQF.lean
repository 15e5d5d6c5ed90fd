/- Merged: QTwin, QOpen, QLQ. -/
import Derived.Test.YtlmamidodahgmaaGreatDoorQB
import Derived.Test.YtlmamidodahgmaaGreatDoorNB
import Derived.Deep.AppendLies
import Derived.Laws.AppendOwnNone
import Derived.Test.YtlmamidodahgmaaGreatDoorED
import Derived.Test.YtlmamidodahgmaaGreatDoorQD
/- QTwin: Twin: a query whose slices are new. -/
namespace Go.Proofs.YtlmamidodahgmaaGreatDoor.Q8
open Go.ChangeShapes Go.WideShapes Go.ChangeAt Go.RowKit N4
set_option linter.unusedVariables false
set_option linter.unusedSimpArgs false
set_option maxRecDepth 100000

def SlOk (A : Option Addr) (n c : Nat) : Prop := (A = none ∧ n = 0 ∧ c = 0) ∨ ∃ ad, A = some ad
theorem own_lit1 (W : World) (base B : Nat) (e : TypeId) (size : Nat) (hB : W.heap.size = B) (hb : base ≤ B) : (W.alloc (.cells #[] e)).ownsRow base e size (.slice (some ⟨B, 0, none⟩) 0 0) 0 [] := by
  subst hB
  exact World.ownsRow_lit (base := base) (e := e) (size := size) W #[] 0 hb (Nat.zero_le _) (by simp)
theorem lies_at {w : World} {ad : Addr} {cs : List Value} (h : Lies w (some ad) cs) : ∀ j u, cs[j]? = some u → w.cell? (ad.add j) = some u := by
  intro j u hu
  rcases h with h0 | ⟨ad', he, _, hc⟩
  · rw [h0] at hu; simp at hu
  · injection he with he; subst he; exact hc j u hu
/-- 'append([]T{}, xs...)', xs nil, empty or not. -/
theorem wpList_append0 {P : Program} {w : World} {ops : Array Oper} {rest : List Oper} {o : Oper} {a : Act} {Q : Exit → Act → World → Prop} (hgd : o.guard = none) (s x : Operand) (t : TypeId)
    (ho : o.op = .call { callee := .builtin .append, args := #[s, x], argTypes := #[t, t] })
    (base : Nat) (e : TypeId) (i : TypeInfo) (z : Value) (size bytes : Nat) (ht : P.underlying t = some (.slice e)) (hi : P.info? e = some i) (hz : i.zero = some z)
    (hsize : i.size = size) (hby : i.bytes = bytes) (hzs : z.cells.size = size) (hsz : 0 < size)
    (g0 : Nat) (hs : a.eval s = .slice (some ⟨g0, 0, none⟩) 0 0) (hown : w.ownsRow base e size (.slice (some ⟨g0, 0, none⟩) 0 0) 0 [])
    (A : Option Addr) (m c : Nat) (hA : SlOk A m c) (news : List Value) (hx : a.eval x = .slice A m c) (hl : news.length = m * size) (hlie : Lies w A news) (h1 : ∀ u ∈ news, u.oneCell' = true)
    (h63 : m ≤ maxLen) (hbytes : m * bytes ≤ 140737488355328) (hbase : base ≤ w.heap.size)
    (h : ∀ g cap w', w'.ownsRow base e size (.slice (some ⟨g, 0, none⟩) m cap) m news → w.grownBy w' (some g0) → (g = g0 ∨ g = w.heap.size) → wpList P ops Q rest (a.put o.dst (.slice (some ⟨g, 0, none⟩) m cap)) w') :
    wpList P ops Q (o :: rest) a w := by
  rcases hA with ⟨rfl, rfl, rfl⟩ | ⟨ad, rfl⟩
  · obtain rfl : news = [] := List.eq_nil_of_length_eq_zero (by rw [hl]; omega)
    exact wpList_append_own_none hgd s x t ho base e i size ht hi _ 0 [] hs hown hx (h g0 0 w hown ⟨rfl, rfl, rfl, Nat.le_refl _, fun _ _ _ => rfl⟩ (.inl rfl))
  · refine wpList_append_own_at w hgd s x t ho base e i z size bytes ht hi hz hsize hby hzs hsz _ 0 [] hs hown ad m c news hx hl (lies_at hlie) h1 (by omega) (by rw [Nat.zero_add]; exact hbytes) hbase ?_
    intro v' w' h2 h3 h4 h5
    rw [List.nil_append, Nat.zero_add] at h2
    rcases h2.2 with ⟨hv, _⟩ | ⟨g, cap, cur, rfl, _⟩
    · have := (h4.1 hv).1
      cases this
    · refine h g cap w' h2 h3 ?_
      simpa [Value.ownBlock] using h5
theorem nd_one' (L : List Nd) : ∀ u ∈ ndCells L, u.oneCell' = true := by
  intro u hu
  obtain ⟨x, _, hx⟩ := List.mem_flatMap.1 hu
  simp only [ndC, List.mem_cons, List.not_mem_nil, or_false] at hx
  rcases hx with rfl | rfl | rfl | rfl | rfl <;> rfl
theorem iC_one (l : List Int) : ∀ u ∈ iC l, u.oneCell' = true := by
  intro u hu
  obtain ⟨x, _, rfl⟩ := List.mem_map.1 hu
  rfl
theorem int_info : (Tryz.prog.info? 3).map (fun i => (i.zero, i.size, i.bytes)) = some (some (.int .i64 0), 1, 8) := by kernel_rfl

/-- The box and the result's own block. -/
def TwS (w : World) (bx : List Value) (W : World) : Prop :=
  Bl w W ∧ W.ownsRow w.heap.size 27 1 (.slice (some ⟨w.heap.size, 0, none⟩) 10 10) 10 bx ∧ ∃ rs, W.ownsRow w.heap.size 27 1 (.slice (some ⟨w.heap.size + 1, 0, none⟩) 10 10) 10 rs
theorem TwS.new (w : World) (bx rs : Array Value) (h1 : bx.size = 10) (h2 : rs.size = 10) : TwS w bx.toList ((w.alloc (.cells bx 27)).alloc (.cells rs 27)) := by
  refine ⟨((Bl.start w).al _).al _, (World.ownsRow_lit (base := w.heap.size) (e := 27) (size := 1) w bx 10 (Nat.le_refl _) (by decide) (by omega)).alloc _, rs.toList, ?_⟩
  have := World.ownsRow_lit (base := w.heap.size) (e := 27) (size := 1) (w.alloc (.cells bx 27)) rs 10 (by simp) (by decide) (by omega)
  rwa [show (w.alloc (.cells bx 27)).heap.size = w.heap.size + 1 by simp] at this
theorem TwS.al {w W : World} {bx : List Value} (h : TwS w bx W) (o : Obj) : TwS w bx (W.alloc o) := by
  obtain ⟨h1, h2, rs, h3⟩ := h
  exact ⟨h1.al o, h2.alloc o, rs, h3.alloc o⟩
theorem TwS.size {w W : World} {bx : List Value} (h : TwS w bx W) : w.heap.size + 1 < W.heap.size := by
  obtain ⟨_, _, rs, h3⟩ := h
  exact (h3.lt _ rfl).2
theorem TwS.grown {w W W' : World} {bx : List Value} {g : Nat} (h : TwS w bx W) (hg : W.grownBy W' (some g)) (hw : w.heap.size + 1 < g) : TwS w bx W' := by
  have hz := h.size
  obtain ⟨h1, h2, rs, h3⟩ := h
  refine ⟨Below.grown h1 hg h1.size (fun j hj => (by injection hj with hj; subst hj; omega)), h2.kept hg (.inr ?_), rs, h3.kept hg (.inr ?_)⟩
  · simp [Value.ownBlock]; omega
  · simp [Value.ownBlock]; omega
theorem TwS.put {w W : World} {bx : List Value} (h : TwS w bx W) (i : Nat) (v : Value) : TwS w (bx.set i v) (W.setCell ⟨w.heap.size, i, none⟩ v) := by
  obtain ⟨h1, h2, rs, h3⟩ := h
  obtain ⟨h4, h5⟩ := h2.stored i v
  exact ⟨h1.setCell (Nat.le_refl _) v, h4, rs, h3.kept h5 (.inr (by simp [Value.ownBlock]))⟩
theorem TwS.puts {w W : World} {bx : List Value} (h : TwS w bx W) (i : Nat) (v : Value) : W.grownBy (W.setCell ⟨w.heap.size, i, none⟩ v) (some w.heap.size) := (h.2.1.stored i v).2
theorem TwS.cells {w W : World} {a0 a1 a2 a3 a4 a5 a6 a7 a8 a9 : Value} (h : TwS w [a0, a1, a2, a3, a4, a5, a6, a7, a8, a9] W) :
    W.cell? ⟨w.heap.size, 0, none⟩ = some a0 ∧ W.cell? ⟨w.heap.size, 1, none⟩ = some a1 ∧ W.cell? ⟨w.heap.size, 2, none⟩ = some a2 ∧ W.cell? ⟨w.heap.size, 3, none⟩ = some a3 ∧ W.cell? ⟨w.heap.size, 4, none⟩ = some a4 ∧
    W.cell? ⟨w.heap.size, 5, none⟩ = some a5 ∧ W.cell? ⟨w.heap.size, 6, none⟩ = some a6 ∧ W.cell? ⟨w.heap.size, 7, none⟩ = some a7 ∧ W.cell? ⟨w.heap.size, 8, none⟩ = some a8 ∧ W.cell? ⟨w.heap.size, 9, none⟩ = some a9 ∧
    W.frozen? ⟨w.heap.size, 1, none⟩ = false ∧ W.frozen? ⟨w.heap.size, 2, none⟩ = false ∧ W.frozen? ⟨w.heap.size, 4, none⟩ = false :=
  ⟨h.2.1.cellAt 0 (by decide), h.2.1.cellAt 1 (by decide), h.2.1.cellAt 2 (by decide), h.2.1.cellAt 3 (by decide), h.2.1.cellAt 4 (by decide), h.2.1.cellAt 5 (by decide), h.2.1.cellAt 6 (by decide), h.2.1.cellAt 7 (by decide), h.2.1.cellAt 8 (by decide), h.2.1.cellAt 9 (by decide), h.2.1.frozenAt 1, h.2.1.frozenAt 2, h.2.1.frozenAt 4⟩
theorem TwS.res {w W : World} {bx : List Value} (h : TwS w bx W) : ∃ u0 u1 u2 u3 u4 u5 u6 u7 u8 u9,
    (W.cell? ⟨w.heap.size + 1, 0, none⟩ = some u0 ∧ W.cell? ⟨w.heap.size + 1, 1, none⟩ = some u1 ∧ W.cell? ⟨w.heap.size + 1, 2, none⟩ = some u2 ∧ W.cell? ⟨w.heap.size + 1, 3, none⟩ = some u3 ∧ W.cell? ⟨w.heap.size + 1, 4, none⟩ = some u4 ∧
    W.cell? ⟨w.heap.size + 1, 5, none⟩ = some u5 ∧ W.cell? ⟨w.heap.size + 1, 6, none⟩ = some u6 ∧ W.cell? ⟨w.heap.size + 1, 7, none⟩ = some u7 ∧ W.cell? ⟨w.heap.size + 1, 8, none⟩ = some u8 ∧ W.cell? ⟨w.heap.size + 1, 9, none⟩ = some u9) ∧
    (W.frozen? ⟨w.heap.size + 1, 0, none⟩ = false ∧ W.frozen? ⟨w.heap.size + 1, 1, none⟩ = false ∧ W.frozen? ⟨w.heap.size + 1, 2, none⟩ = false ∧ W.frozen? ⟨w.heap.size + 1, 3, none⟩ = false ∧ W.frozen? ⟨w.heap.size + 1, 4, none⟩ = false ∧
    W.frozen? ⟨w.heap.size + 1, 5, none⟩ = false ∧ W.frozen? ⟨w.heap.size + 1, 6, none⟩ = false ∧ W.frozen? ⟨w.heap.size + 1, 7, none⟩ = false ∧ W.frozen? ⟨w.heap.size + 1, 8, none⟩ = false ∧ W.frozen? ⟨w.heap.size + 1, 9, none⟩ = false) := by
  obtain ⟨_, _, rs, h3⟩ := h
  have hl : rs.length = 10 := h3.1
  match rs, hl, h3 with
  | [u0, u1, u2, u3, u4, u5, u6, u7, u8, u9], _, h3 =>
    exact ⟨u0, u1, u2, u3, u4, u5, u6, u7, u8, u9, ⟨h3.cellAt 0 (by decide), h3.cellAt 1 (by decide), h3.cellAt 2 (by decide), h3.cellAt 3 (by decide), h3.cellAt 4 (by decide), h3.cellAt 5 (by decide), h3.cellAt 6 (by decide), h3.cellAt 7 (by decide), h3.cellAt 8 (by decide), h3.cellAt 9 (by decide)⟩,
      h3.frozenAt 0, h3.frozenAt 1, h3.frozenAt 2, h3.frozenAt 3, h3.frozenAt 4, h3.frozenAt 5, h3.frozenAt 6, h3.frozenAt 7, h3.frozenAt 8, h3.frozenAt 9⟩
/-- With the three new slices. -/
def TwO (w : World) (bx : List Value) (a ca n b cb o d cd m : Nat) (L M : List Nd) (l : List Int) (W : World) : Prop :=
  TwS w bx W ∧ W.ownsRow w.heap.size 58 5 (.slice (some ⟨a, 0, none⟩) n ca) n (ndCells L) ∧ W.ownsRow w.heap.size 58 5 (.slice (some ⟨b, 0, none⟩) o cb) o (ndCells M) ∧ W.ownsRow w.heap.size 3 1 (.slice (some ⟨d, 0, none⟩) m cd) m (iC l) ∧
    w.heap.size + 1 < a ∧ w.heap.size + 1 < b ∧ w.heap.size + 1 < d
theorem TwO.rput {w W : World} {bx : List Value} {a ca n b cb o d cd m : Nat} {L M : List Nd} {l : List Int} (h : TwO w bx a ca n b cb o d cd m L M l W) (i : Nat) (v : Value) : TwO w bx a ca n b cb o d cd m L M l (W.setCell ⟨w.heap.size + 1, i, none⟩ v) := by
  obtain ⟨⟨h1, h2, rs, h3⟩, h4, h5, h6, h7, h8, h9⟩ := h
  obtain ⟨h10, h11⟩ := h3.stored i v
  exact ⟨⟨h1.setCell (by omega) v, h2.kept h11 (.inr (by simp [Value.ownBlock])), _, h10⟩, h4.kept h11 (.inr (by simp [Value.ownBlock]; omega)), h5.kept h11 (.inr (by simp [Value.ownBlock]; omega)), h6.kept h11 (.inr (by simp [Value.ownBlock]; omega)), h7, h8, h9⟩
def TwinP (g1 : Int) (A1 : Option Addr) (n1 c1 : Nat) (S1 : Option Addr) (m1 d1 : Nat) (j1 : Bool) (B1 : Option Addr) (o1 e1 : Nat) (k1 s1 v1 : Int) (y1 : Bool) (t1 : Int) (L1 M1 : List Nd) (l1 : List Int) (w : World) (e : Ending) (w' : World) : Prop :=
  ∃ a ca b cb d cd, e = .returned (.agg #[.int .u8 g1, .slice (some ⟨a, 0, none⟩) n1 ca, .slice (some ⟨d, 0, none⟩) m1 cd, .bool j1, .slice (some ⟨b, 0, none⟩) o1 cb, .int .u8 k1, .int .i64 s1, .int .i64 v1, .bool y1, .int .u8 t1]) ∧
    w'.ownsRow w.heap.size 58 5 (.slice (some ⟨a, 0, none⟩) n1 ca) n1 (ndCells L1) ∧ w'.ownsRow w.heap.size 58 5 (.slice (some ⟨b, 0, none⟩) o1 cb) o1 (ndCells M1) ∧ w'.ownsRow w.heap.size 3 1 (.slice (some ⟨d, 0, none⟩) m1 cd) m1 (iC l1) ∧
    a ≠ b ∧ a ≠ d ∧ b ≠ d ∧ Bl w w'
end Go.Proofs.YtlmamidodahgmaaGreatDoor.Q8

/- QOpen: What arguments that are queries, windows, lists of integers read as. -/
namespace Go.Proofs.YtlmamidodahgmaaGreatDoor.Q8
open Go.ChangeShapes Go.WideShapes Go.ChangeAt Go.RowKit Go.Deep N4
set_option linter.unusedVariables false
set_option linter.unusedSimpArgs false

section
variable {H : Type} {enc : TypeId × Value → H} {W : World} {sp : Nat → Bool} {held : Bool}
def In64 (n : Int) : Prop := -9223372036854775808 ≤ n ∧ n ≤ 9223372036854775807
theorem i64_in {n : Int} (h : (Lit.int .i64 n).wf = true) : In64 n := by
  have := bounds_i64 h
  exact ⟨this.1, this.2⟩
theorem win_cells : Tryz.prog.cellsOf 25 = 3 := by kernel_rfl
theorem qry_cells : Tryz.prog.cellsOf 27 = 10 := by kernel_rfl
theorem bool_cells : Tryz.prog.cellsOf 4 = 1 := by kernel_rfl
theorem nds_sl_cells : Tryz.prog.cellsOf 22 = 1 := by kernel_rfl
theorem ints_sl_cells : Tryz.prog.cellsOf 23 = 1 := by kernel_rfl
set_option maxRecDepth 100000 in
theorem nds_core {n : Nat} {cs : List Value} {x : DataW H × List MemPlace} (hf : DataW.trod enc Tryz.prog W 0 (fun _ => true) held n 22 cs = some x) :
    ∃ (A : Option Addr) (c : Nat) (L : List Nd), cs = [.slice A L.length c] ∧ L.length ≤ maxLen ∧ Lies W A (ndCells L) ∧ SlOk A L.length c ∧ L.length ≤ c ∧ ∀ x ∈ L, x.n ≤ 9223372036854775807 := by
  rcases open_slice Tryz.underlying22 hf with ⟨hc, _⟩ | ⟨a, len, cap, m, nn, D, Pl, hc, hb, hl, hm, hmm, hx, hi⟩
  · exact ⟨none, 0, [], hc, Nat.zero_le _, .inl rfl, .inl ⟨rfl, rfl, rfl⟩, Nat.le_refl _, by simp⟩
  · simp only [if_true] at hmm
    subst hmm
    obtain ⟨L, hL, ht, hbb⟩ := nds_of5 (W := W) a len (fun i hin => by
      obtain ⟨cs, hcs, htr⟩ := hi i (by omega)
      rw [nd_cells] at hcs
      obtain ⟨x, rfl, hxb⟩ := open_nd5 htr
      obtain ⟨_, _, hat⟩ := World.cells?_some hcs
      refine ⟨x, hxb, fun j u hu => ?_⟩
      have hj : j < 5 := (List.getElem?_eq_some_iff.1 hu).1
      have := hat j hj
      rw [add_add'] at this
      rw [this]; exact hu)
    exact ⟨some a, _, L, by rw [hc, hL], by omega, ht, .inr ⟨a, rfl⟩, by omega, hbb⟩
theorem ints_of_cells (a : Addr) (len : Nat) (hi : ∀ i, i < len → ∃ x : Int, In64 x ∧ W.cell? (a.add i) = some (.int .i64 x)) :
    ∃ l : List Int, l.length = len ∧ Lies W (some a) (iC l) ∧ ∀ x ∈ l, In64 x := by
  have key : ∀ m, m ≤ len → ∃ l : List Int, l.length = m ∧ (∀ j u, (iC l)[j]? = some u → W.cell? (a.add j) = some u) ∧ ∀ x ∈ l, In64 x := by
    intro m
    induction m with
    | zero => intro _; exact ⟨[], rfl, by intro j u h; simp [iC] at h, by simp⟩
    | succ m ih =>
      intro hm
      obtain ⟨l, hl, hc, hb⟩ := ih (by omega)
      obtain ⟨x, hxb, hx⟩ := hi m (by omega)
      refine ⟨l ++ [x], by simp [hl], ?_, fun z hz => by rcases List.mem_append.1 hz with hz | hz; exact hb z hz; simp only [List.mem_singleton] at hz; subst hz; exact hxb⟩
      intro j u h
      have hlen : (iC l).length = m := by simp [iC, hl]
      rw [show iC (l ++ [x]) = iC l ++ [.int .i64 x] by simp [iC]] at h
      rcases Nat.lt_or_ge j m with hj | hj
      · rw [List.getElem?_append_left (by omega)] at h
        exact hc j u h
      · rw [List.getElem?_append_right (by omega), hlen] at h
        have hj0 : j - m = 0 := by
          have := (List.getElem?_eq_some_iff.1 h).1
          simp at this
          omega
        rw [hj0] at h
        simp only [List.getElem?_cons_zero, Option.some.injEq] at h
        subst h
        rwa [show j = m by omega]
  obtain ⟨l, hl, hc, hbb⟩ := key len (Nat.le_refl _)
  refine ⟨l, hl, ?_, hbb⟩
  rcases Nat.eq_zero_or_pos len with h0 | h0
  · exact .inl (by rw [List.eq_nil_of_length_eq_zero (show l.length = 0 by omega)]; rfl)
  · obtain ⟨x, _, hx⟩ := hi 0 h0
    refine .inr ⟨a, rfl, ?_, hc⟩
    have := cell_lt hx
    rwa [add_block] at this
set_option maxRecDepth 100000 in
theorem ints_core {n : Nat} {cs : List Value} {x : DataW H × List MemPlace} (hf : DataW.trod enc Tryz.prog W 0 (fun _ => true) held n 23 cs = some x) :
    ∃ (A : Option Addr) (c : Nat) (l : List Int), cs = [.slice A l.length c] ∧ l.length ≤ maxLen ∧ Lies W A (iC l) ∧ SlOk A l.length c ∧ l.length ≤ c ∧ ∀ x ∈ l, In64 x := by
  rcases Go.Deep.open_slice1 Tryz.underlying23 int_cells hf with ⟨hc, _⟩ | ⟨a, len, cap, m, nn, V, D, Pl, hc, hb, hl, hm, hmm, hx, hi⟩
  · exact ⟨none, 0, [], hc, Nat.zero_le _, .inl rfl, .inl ⟨rfl, rfl, rfl⟩, Nat.le_refl _, by simp⟩
  · simp only [if_true] at hmm
    subst hmm
    obtain ⟨l, hL, ht, hbb⟩ := ints_of_cells (W := W) a len (fun i hin => by
      obtain ⟨b, h1, _, h2⟩ := DataW.trod_int Tryz.underlying3 (hi i (by omega)).2
      refine ⟨b, i64_in h2, ?_⟩
      rw [(hi i (by omega)).1]
      simpa using h1)
    exact ⟨some a, _, l, by rw [hc, hL], by omega, ht, .inr ⟨a, rfl⟩, by omega, hbb⟩
set_option maxRecDepth 100000 in
theorem win_core {n : Nat} {cs : List Value} {x : DataW H × List MemPlace} (h : DataW.trod enc Tryz.prog W 0 sp held n 25 cs = some x) : ∃ k s v : Int, cs = [.int .u8 k, .int .i64 s, .int .i64 v] ∧ In64 s ∧ In64 v := by
  obtain ⟨xs, n', _, _, hlen, hxl, hf⟩ := DataW.trod_struct Tryz.underlying25 h
  rw [win_cells] at hlen
  match cs, hlen with
  | [c0, c1, c2], _ =>
    have h0 : DataW.trod enc Tryz.prog W 0 sp held n' 5 (([c0, c1, c2].drop 0).take (Tryz.prog.cellsOf 5)) = xs[0]? := hf 0 _ rfl
    have h1 : DataW.trod enc Tryz.prog W 0 sp held n' 2 (([c0, c1, c2].drop 1).take (Tryz.prog.cellsOf 2)) = xs[1]? := hf 1 _ rfl
    have h2 : DataW.trod enc Tryz.prog W 0 sp held n' 2 (([c0, c1, c2].drop 2).take (Tryz.prog.cellsOf 2)) = xs[2]? := hf 2 _ rfl
    simp only [u8_cells, i64_cells, List.drop_zero, List.drop_succ_cons, List.take_succ_cons, List.take_zero] at h0 h1 h2
    match xs, hxl with
    | [y0, y1, y2], _ =>
      obtain ⟨k, e0, _⟩ := DataW.trod_int Tryz.underlying5 h0
      obtain ⟨s, e1, _, w1⟩ := DataW.trod_int Tryz.underlying2 h1
      obtain ⟨v, e2, _, w2⟩ := DataW.trod_int Tryz.underlying2 h2
      simp only [List.cons.injEq, and_true] at e0 e1 e2
      subst e0 e1 e2
      exact ⟨k, s, v, rfl, i64_in w1, i64_in w2⟩
/-- A query as an argument. -/
def QO (W : World) (A : Option Addr) (c : Nat) (L : List Nd) (S : Option Addr) (d : Nat) (l : List Int) (B : Option Addr) (e : Nat) (M : List Nd) (s v t : Int) : Prop :=
  QA W A L.length S l.length B M.length L M l ∧ SlOk A L.length c ∧ SlOk S l.length d ∧ SlOk B M.length e ∧ In64 s ∧ In64 v ∧ (Lit.int .u8 t).wf = true ∧ ((L.length ≤ c ∧ l.length ≤ d ∧ M.length ≤ e) ∧ (∀ x ∈ L, x.n ≤ 9223372036854775807) ∧ ∀ x ∈ M, x.n ≤ 9223372036854775807)
set_option maxRecDepth 100000 in
theorem qry_core {n : Nat} {cs : List Value} {x : DataW H × List MemPlace} (h : DataW.trod enc Tryz.prog W 0 (fun _ => true) held n 27 cs = some x) :
    ∃ (g : Int) (A : Option Addr) (c : Nat) (L : List Nd) (S : Option Addr) (d : Nat) (l : List Int) (j : Bool) (B : Option Addr) (e : Nat) (M : List Nd) (k s v : Int) (y : Bool) (t : Int),
      cs = [.int .u8 g, .slice A L.length c, .slice S l.length d, .bool j, .slice B M.length e, .int .u8 k, .int .i64 s, .int .i64 v, .bool y, .int .u8 t] ∧ QO W A c L S d l B e M s v t := by
  obtain ⟨xs, n', _, _, hlen, hxl, hf⟩ := DataW.trod_struct Tryz.underlying27 h
  rw [qry_cells] at hlen
  match cs, hlen with
  | [c0, c1, c2, c3, c4, c5, c6, c7, c8, c9], _ =>
    have h0 : DataW.trod enc Tryz.prog W 0 (fun _ => true) held n' 5 (([c0, c1, c2, c3, c4, c5, c6, c7, c8, c9].drop 0).take (Tryz.prog.cellsOf 5)) = xs[0]? := hf 0 _ rfl
    have h1 : DataW.trod enc Tryz.prog W 0 (fun _ => true) held n' 22 (([c0, c1, c2, c3, c4, c5, c6, c7, c8, c9].drop 1).take (Tryz.prog.cellsOf 22)) = xs[1]? := hf 1 _ rfl
    have h2 : DataW.trod enc Tryz.prog W 0 (fun _ => true) held n' 23 (([c0, c1, c2, c3, c4, c5, c6, c7, c8, c9].drop 2).take (Tryz.prog.cellsOf 23)) = xs[2]? := hf 2 _ rfl
    have h3 : DataW.trod enc Tryz.prog W 0 (fun _ => true) held n' 4 (([c0, c1, c2, c3, c4, c5, c6, c7, c8, c9].drop 3).take (Tryz.prog.cellsOf 4)) = xs[3]? := hf 3 _ rfl
    have h4 : DataW.trod enc Tryz.prog W 0 (fun _ => true) held n' 22 (([c0, c1, c2, c3, c4, c5, c6, c7, c8, c9].drop 4).take (Tryz.prog.cellsOf 22)) = xs[4]? := hf 4 _ rfl
    have h5 : DataW.trod enc Tryz.prog W 0 (fun _ => true) held n' 25 (([c0, c1, c2, c3, c4, c5, c6, c7, c8, c9].drop 5).take (Tryz.prog.cellsOf 25)) = xs[5]? := hf 5 _ rfl
    have h6 : DataW.trod enc Tryz.prog W 0 (fun _ => true) held n' 4 (([c0, c1, c2, c3, c4, c5, c6, c7, c8, c9].drop 8).take (Tryz.prog.cellsOf 4)) = xs[6]? := hf 6 _ rfl
    have h7 : DataW.trod enc Tryz.prog W 0 (fun _ => true) held n' 5 (([c0, c1, c2, c3, c4, c5, c6, c7, c8, c9].drop 9).take (Tryz.prog.cellsOf 5)) = xs[7]? := hf 7 _ rfl
    simp only [u8_cells, bool_cells, win_cells, nds_sl_cells, ints_sl_cells, List.drop_zero, List.drop_succ_cons, List.take_succ_cons, List.take_zero] at h0 h1 h2 h3 h4 h5 h6 h7
    match xs, hxl with
    | [y0, y1, y2, y3, y4, y5, y6, y7], _ =>
      obtain ⟨g, e0, _⟩ := DataW.trod_int Tryz.underlying5 h0
      obtain ⟨A, c, L, e1, q1, q2, q3, z1, y1⟩ := nds_core h1
      obtain ⟨S, d, l, e2, q4, q5, q6, z2, _⟩ := ints_core h2
      obtain ⟨j, e3, _⟩ := DataW.trod_bool Tryz.underlying4 h3
      obtain ⟨B, e, M, e4, q7, q8, q9, z4, y4⟩ := nds_core h4
      obtain ⟨k, s, v, e5, i1, i2⟩ := win_core h5
      obtain ⟨y, e6, _⟩ := DataW.trod_bool Tryz.underlying4 h6
      obtain ⟨t, e7, _, wt⟩ := DataW.trod_int Tryz.underlying5 h7
      simp only [List.cons.injEq, and_true] at e0 e1 e2 e3 e4 e5 e6 e7
      obtain ⟨e5, e5', e5''⟩ := e5
      subst e0 e1 e2 e3 e4 e5 e5' e5'' e6 e7
      exact ⟨g, A, c, L, S, d, l, j, B, e, M, k, s, v, y, t, rfl, ⟨⟨q2, rfl, q1⟩, ⟨q5, rfl⟩, ⟨q8, rfl, q7⟩⟩, q3, q6, q9, i1, i2, wt, ⟨z1, z2, z4⟩, y1, y4⟩
set_option maxRecDepth 100000 in
theorem open_qryv {r : Reach} {b0 : Nat} {v : Value} {d : DataW H} {ps : List MemPlace} (hval : Value.okWide Tryz.prog W r b0 27 v) (hd : DataW.Trod enc Tryz.prog W 0 (fun _ => true) held 27 v d ps) :
    ∃ (g : Int) (A : Option Addr) (c : Nat) (L : List Nd) (S : Option Addr) (d : Nat) (l : List Int) (j : Bool) (B : Option Addr) (e : Nat) (M : List Nd) (k s u : Int) (y : Bool) (t : Int),
      v = .agg #[.int .u8 g, .slice A L.length c, .slice S l.length d, .bool j, .slice B M.length e, .int .u8 k, .int .i64 s, .int .i64 u, .bool y, .int .u8 t] ∧ QO W A c L S d l B e M s u t := by
  obtain ⟨cs, rfl, _⟩ := okWide_struct Tryz.underlying27 hval
  obtain ⟨fuel, hf⟩ := hd
  obtain ⟨g, A, c, L, S, d, l, j, B, e, M, k, s, u, y, t, h, hs⟩ := qry_core hf
  refine ⟨g, A, c, L, S, d, l, j, B, e, M, k, s, u, y, t, ?_, hs⟩
  have : cs = #[.int .u8 g, .slice A L.length c, .slice S l.length d, .bool j, .slice B M.length e, .int .u8 k, .int .i64 s, .int .i64 u, .bool y, .int .u8 t] := Array.toList_inj.1 h
  rw [this]
set_option maxRecDepth 100000 in
theorem open_winv {r : Reach} {b0 : Nat} {v : Value} {d : DataW H} {ps : List MemPlace} (hval : Value.okWide Tryz.prog W r b0 25 v) (hd : DataW.Trod enc Tryz.prog W 0 sp held 25 v d ps) :
    ∃ k s u : Int, v = .agg #[.int .u8 k, .int .i64 s, .int .i64 u] ∧ In64 s := by
  obtain ⟨cs, rfl, _⟩ := okWide_struct Tryz.underlying25 hval
  obtain ⟨fuel, hf⟩ := hd
  obtain ⟨k, s, u, h, hs, _⟩ := win_core hf
  refine ⟨k, s, u, ?_, hs⟩
  have : cs = #[.int .u8 k, .int .i64 s, .int .i64 u] := Array.toList_inj.1 h
  rw [this]
set_option maxRecDepth 100000 in
theorem open_intsl {r : Reach} {b0 : Nat} {v : Value} {d : DataW H} {ps : List MemPlace} (hval : Value.okWide Tryz.prog W r b0 23 v) (hd : DataW.Trod enc Tryz.prog W 0 (fun _ => true) held 23 v d ps) :
    ∃ (A : Option Addr) (c : Nat) (l : List Int), v = .slice A l.length c ∧ l.length ≤ maxLen ∧ Lies W A (iC l) ∧ SlOk A l.length c ∧ l.length ≤ c ∧ ∀ x ∈ l, In64 x := by
  obtain ⟨A, n, c, rfl⟩ := okWide_slice Tryz.underlying23 hval
  obtain ⟨fuel, hf⟩ := hd
  have hf0 := hf
  obtain ⟨A', c', l, h, h1, h2, h3, _, h5⟩ := ints_core hf
  have hnc : n ≤ c := by
    rcases Go.Deep.open_slice1 Tryz.underlying23 int_cells hf0 with ⟨hc, _⟩ | ⟨a, len, cap, m, nn, V, D, Pl, hc, hb, hl, hm, hmm, hx, hi⟩
    · simp [Value.cells] at hc; omega
    · simp [Value.cells] at hc; omega
  simp only [Value.cells, List.cons.injEq, and_true, Value.slice.injEq] at h
  obtain ⟨rfl, rfl, rfl⟩ := h
  exact ⟨A, c, l, rfl, h1, h2, h3, hnc, h5⟩
end
end Go.Proofs.YtlmamidodahgmaaGreatDoor.Q8

/- QLQ: ClausesQueries walks to true. -/
namespace Go.Proofs.YtlmamidodahgmaaGreatDoor.Q8
open Go.ChangeShapes Go.WideShapes Go.ChangeAt Go.RowKit N4
set_option linter.unusedVariables false
set_option linter.unusedSimpArgs false
set_option maxRecDepth 100000

theorem great_false {n o m : Nat} (h : greatQ n o m = false) : n ≤ 70 ∧ o ≤ 70 ∧ m ≤ 10 := by
  simp [greatQ] at h; omega
theorem sameQ_self (p : Qy) : sameQ p p = true := by simp [sameQ, alikeF]
theorem lies_own {W : World} {base : Nat} {e : TypeId} {size n a ca : Nat} {cs : List Value} (h : W.ownsRow base e size (.slice (some ⟨a, 0, none⟩) n ca) n cs) : Lies W (some ⟨a, 0, none⟩) cs := by
  refine Lies.of_own h (fun h0 => ?_)
  have := h.1
  rw [h0, Nat.zero_mul] at this
  exact List.eq_nil_of_length_eq_zero this
/-- The twin's own box, and its slices. -/
def QT (w : World) (b : Nat) (g1 : Int) (A1 : Option Addr) (n1 c1 : Nat) (S1 : Option Addr) (m1 d1 : Nat) (j1 : Bool) (B1 : Option Addr) (o1 e1 : Nat) (k1 s1 v1 : Int) (y1 : Bool) (t1 : Int) (L1 M1 : List Nd) (l1 : List Int) (W : World) : Prop := QX w b g1 A1 n1 c1 S1 m1 d1 j1 B1 o1 e1 k1 s1 v1 y1 t1 W ∧ QA W A1 n1 S1 m1 B1 o1 L1 M1 l1
theorem QT.step {w : World} {b : Nat} {g1 : Int} {A1 : Option Addr} {n1 c1 : Nat} {S1 : Option Addr} {m1 d1 : Nat} {j1 : Bool} {B1 : Option Addr} {o1 e1 : Nat} {k1 s1 v1 : Int} {y1 : Bool} {t1 : Int} {L1 M1 : List Nd} {l1 : List Int} {W W' : World} (h : QT w b g1 A1 n1 c1 S1 m1 d1 j1 B1 o1 e1 k1 s1 v1 y1 t1 L1 M1 l1 W) (hb : Below W.heap.size W W') : QT w b g1 A1 n1 c1 S1 m1 d1 j1 B1 o1 e1 k1 s1 v1 y1 t1 L1 M1 l1 W' := ⟨h.1.step hb, h.2.step hb⟩
def SQ (w : World) (b : Nat) (g1 : Int) (A1 : Option Addr) (n1 c1 : Nat) (S1 : Option Addr) (m1 d1 : Nat) (j1 : Bool) (B1 : Option Addr) (o1 e1 : Nat) (k1 s1 v1 : Int) (y1 : Bool) (t1 : Int) (g2 : Int) (A2 : Option Addr) (n2 c2 : Nat) (S2 : Option Addr) (m2 d2 : Nat) (j2 : Bool) (B2 : Option Addr) (o2 e2 : Nat) (k2 s2 v2 : Int) (y2 : Bool) (t2 : Int) (g3 : Int) (A3 : Option Addr) (n3 c3 : Nat) (S3 : Option Addr) (m3 d3 : Nat) (j3 : Bool) (B3 : Option Addr) (o3 e3 : Nat) (k3 s3 v3 : Int) (y3 : Bool) (t3 : Int) (L1 M1 : List Nd) (l1 : List Int) (W : World) : Prop := QX2 w w.heap.size (w.heap.size + 1) g1 A1 n1 c1 S1 m1 d1 j1 B1 o1 e1 k1 s1 v1 y1 t1 g2 A2 n2 c2 S2 m2 d2 j2 B2 o2 e2 k2 s2 v2 y2 t2 W ∧ QT w b g3 A3 n3 c3 S3 m3 d3 j3 B3 o3 e3 k3 s3 v3 y3 t3 L1 M1 l1 W
theorem SQ.step {w : World} {b : Nat} {g1 : Int} {A1 : Option Addr} {n1 c1 : Nat} {S1 : Option Addr} {m1 d1 : Nat} {j1 : Bool} {B1 : Option Addr} {o1 e1 : Nat} {k1 s1 v1 : Int} {y1 : Bool} {t1 : Int} {g2 : Int} {A2 : Option Addr} {n2 c2 : Nat} {S2 : Option Addr} {m2 d2 : Nat} {j2 : Bool} {B2 : Option Addr} {o2 e2 : Nat} {k2 s2 v2 : Int} {y2 : Bool} {t2 : Int} {g3 : Int} {A3 : Option Addr} {n3 c3 : Nat} {S3 : Option Addr} {m3 d3 : Nat} {j3 : Bool} {B3 : Option Addr} {o3 e3 : Nat} {k3 s3 v3 : Int} {y3 : Bool} {t3 : Int} {L1 M1 : List Nd} {l1 : List Int} {W W' : World} (h : SQ w b g1 A1 n1 c1 S1 m1 d1 j1 B1 o1 e1 k1 s1 v1 y1 t1 g2 A2 n2 c2 S2 m2 d2 j2 B2 o2 e2 k2 s2 v2 y2 t2 g3 A3 n3 c3 S3 m3 d3 j3 B3 o3 e3 k3 s3 v3 y3 t3 L1 M1 l1 W) (hb : Below W.heap.size W W') : SQ w b g1 A1 n1 c1 S1 m1 d1 j1 B1 o1 e1 k1 s1 v1 y1 t1 g2 A2 n2 c2 S2 m2 d2 j2 B2 o2 e2 k2 s2 v2 y2 t2 g3 A3 n3 c3 S3 m3 d3 j3 B3 o3 e3 k3 s3 v3 y3 t3 L1 M1 l1 W' := ⟨h.1.step hb, h.2.step hb⟩
theorem SQ.bl {w : World} {b : Nat} {g1 : Int} {A1 : Option Addr} {n1 c1 : Nat} {S1 : Option Addr} {m1 d1 : Nat} {j1 : Bool} {B1 : Option Addr} {o1 e1 : Nat} {k1 s1 v1 : Int} {y1 : Bool} {t1 : Int} {g2 : Int} {A2 : Option Addr} {n2 c2 : Nat} {S2 : Option Addr} {m2 d2 : Nat} {j2 : Bool} {B2 : Option Addr} {o2 e2 : Nat} {k2 s2 v2 : Int} {y2 : Bool} {t2 : Int} {g3 : Int} {A3 : Option Addr} {n3 c3 : Nat} {S3 : Option Addr} {m3 d3 : Nat} {j3 : Bool} {B3 : Option Addr} {o3 e3 : Nat} {k3 s3 v3 : Int} {y3 : Bool} {t3 : Int} {L1 M1 : List Nd} {l1 : List Int} {W : World} (h : SQ w b g1 A1 n1 c1 S1 m1 d1 j1 B1 o1 e1 k1 s1 v1 y1 t1 g2 A2 n2 c2 S2 m2 d2 j2 B2 o2 e2 k2 s2 v2 y2 t2 g3 A3 n3 c3 S3 m3 d3 j3 B3 o3 e3 k3 s3 v3 y3 t3 L1 M1 l1 W) : Bl w W := h.1.1.1
theorem SQ.qa {w : World} {b : Nat} {g1 : Int} {A1 : Option Addr} {n1 c1 : Nat} {S1 : Option Addr} {m1 d1 : Nat} {j1 : Bool} {B1 : Option Addr} {o1 e1 : Nat} {k1 s1 v1 : Int} {y1 : Bool} {t1 : Int} {g2 : Int} {A2 : Option Addr} {n2 c2 : Nat} {S2 : Option Addr} {m2 d2 : Nat} {j2 : Bool} {B2 : Option Addr} {o2 e2 : Nat} {k2 s2 v2 : Int} {y2 : Bool} {t2 : Int} {g3 : Int} {A3 : Option Addr} {n3 c3 : Nat} {S3 : Option Addr} {m3 d3 : Nat} {j3 : Bool} {B3 : Option Addr} {o3 e3 : Nat} {k3 s3 v3 : Int} {y3 : Bool} {t3 : Int} {L1 M1 : List Nd} {l1 : List Int} {W : World} (h : SQ w b g1 A1 n1 c1 S1 m1 d1 j1 B1 o1 e1 k1 s1 v1 y1 t1 g2 A2 n2 c2 S2 m2 d2 j2 B2 o2 e2 k2 s2 v2 y2 t2 g3 A3 n3 c3 S3 m3 d3 j3 B3 o3 e3 k3 s3 v3 y3 t3 L1 M1 l1 W) : QA W A3 n3 S3 m3 B3 o3 L1 M1 l1 := h.2.2
end Go.Proofs.YtlmamidodahgmaaGreatDoor.Q8
