/- Merged: LBuild, LPlain, LRead, LMath, LMath2, LFun, LFun2. -/
import Derived.Shelf.Strings.Builder1
import Derived.Shelf.Strconv.Clone
import Derived.Test.YtlmamidodahgmaaGreatDoorShelf
import Derived.Test.YtlmamidodahgmaaGreatDoorChecked
import Derived.WalkKit
import Derived.ProofKit
import Derived.Lib.Hide
import Derived.Test.YtlmamidodahgmaaGreatDoorCA
import Derived.LoopTactic
/- LBuild: strings.Builder and strings.Clone at this program: what a builder of the call's own holds behind each writing method. -/
namespace Go.Proofs.YtlmamidodahgmaaGreatDoor
open Go.ChangeShapes Go.WideShapes Go.ChangeAt Go.RowKit
set_option linter.unusedVariables false

def BAt (B b : Nat) (p : Value) (l : List UInt8) (w : World) : Prop := Lib.BuilderAt 77 5 B b p (Lib.byteCells l) w
def BIs (B b : Nat) (l : List UInt8) (w : World) : Prop := Lib.IsBuilder 77 5 B b (Lib.byteCells l) w

/-- What a write leaves: every row of cells but block b, and but the rows of bytes. -/
def Kept (b : Nat) (w w' : World) : Prop := ∀ g cs t fr, w.heap[g]? = some (.cells cs t fr) → t ≠ 5 → g ≠ b → w'.heap[g]? = some (.cells cs t fr)
theorem Kept.refl (b : Nat) (w : World) : Kept b w w := fun _ _ _ _ h _ _ => h
theorem Kept.set (b : Nat) (w : World) (i : Nat) (u : Value) : Kept b w (w.setCell ⟨b, i, none⟩ u) := fun g cs t fr h _ hg => (Below.heap_setCell w ⟨b, i, none⟩ u g hg).trans h
theorem Kept.alloc (b : Nat) (w : World) (o : Obj) : Kept b w (w.alloc o) := fun g cs t fr h _ _ => (Below.heap_alloc w o g (by
  rcases Nat.lt_or_ge g w.heap.size with hl | hl
  · exact hl
  · rw [Array.getElem?_eq_none hl] at h; cases h)).trans h
theorem Kept.trans {b : Nat} {u v w : World} (h : Kept b u v) (k : Kept b v w) : Kept b u w := fun g cs t fr e ht hg => k g cs t fr (h g cs t fr e ht hg) ht hg
theorem Kept.grown {b : Nat} {w w' : World} {base size n : Nat} {v : Value} {xs : List Value} (hown : w.ownsRow base 5 size v n xs) (hg : w.grownBy w' v.ownBlock) : Kept b w w' := by
  intro g cs t fr h ht _
  rw [hg.block g ?_ ?_]
  · exact h
  · rcases Nat.lt_or_ge g w.heap.size with hl | hl
    · exact hl
    · rw [Array.getElem?_eq_none hl] at h; cases h
  · intro he
    rcases hown.2 with ⟨rfl, _⟩ | ⟨g', cap, cur, rfl, _, hh, _⟩
    · simp [Value.ownBlock] at he
    · simp only [Value.ownBlock, Option.some.injEq] at he
      subst he
      rw [hh] at h
      injection h with h
      injection h with _ h
      exact ht h.symm

theorem builder_size : (Tryz.prog.info? 77).map (·.size) = some 2 := by kernel_rfl
theorem builder_lies : liesAt Tryz.prog Tryz.prog.depth 77 (2 / Tryz.prog.cellsOf 77) 0 77 1 = true := by kernel_rfl
theorem byte_info : (Tryz.prog.info? 5).map (fun i => (i.zero, i.size, i.bytes)) = some (some (.int .u8 0), 1, 1) := by kernel_rfl

set_option maxHeartbeats 1000000 in
theorem bcheck_used (b : Nat) (w : World) (h0 : w.cell? ⟨b, 0, none⟩ = some (.pointer (some ⟨b, 0, none⟩))) :
    Calls Tryz.prog 70 #[.pointer (some ⟨b, 0, none⟩)] w fun e w' => e = .returned (.tuple #[]) ∧ w = w' := by
  obtain ⟨j, hj, _⟩ := Option.map_eq_some_iff.1 builder_size
  have hne := fun w => Lib.run_neq_ptr_same (P := Tryz.prog) w ⟨b, 0, none⟩ Tryz.underlying74 hj
  clear hj
  go_enter Tryz.func70, Tryz.ntmps70
  go_wp2
  go_end0
  exact ⟨rfl, rfl⟩

set_option maxRecDepth 100000 in
set_option maxHeartbeats 1000000 in
theorem bcheck_fresh (b : Nat) (w : World) (h0 : w.cell? ⟨b, 0, none⟩ = some (.pointer none)) (hsh : w.shape? b = some (77, 2)) (hfz : w.frozen? ⟨b, 0, none⟩ = false) :
    Calls Tryz.prog 70 #[.pointer (some ⟨b, 0, none⟩)] w fun e w' => e = .returned (.tuple #[]) ∧ w' = w.setCell ⟨b, 0, none⟩ (.pointer (some ⟨b, 0, none⟩)) := by
  obtain ⟨j, hj, hjs⟩ := Option.map_eq_some_iff.1 builder_size
  have hto := Lib.run_to_unsafe (P := Tryz.prog) w ⟨b, 0, none⟩ Tryz.underlying74 Tryz.underlying137 hj (by rw [hjs]; decide) hsh (Nat.zero_lt_succ 1)
  have hfrom := Lib.run_from_unsafe (P := Tryz.prog) w ⟨b, 0, none⟩ Tryz.underlying137 Tryz.underlying74 hj hsh builder_lies
  clear hj hjs
  go_enter Tryz.func70, Tryz.ntmps70
  go_wp2
  rw [run_callFunc_extern Tryz.func94 (by kernel_rfl) (by kernel_rfl) (by kernel_rfl) (e := Extern.AbiNoEscape.same) (by kernel_rfl)]
  rw [Lib.run_noEscape]
  simp only [Result.andThen]
  rw [Oper.upon_value]
  go_wp2
  go_end0
  exact ⟨rfl, rfl⟩

theorem bcheck_any (B b : Nat) (l : List UInt8) (w : World) (h : BIs B b l w) :
    Calls Tryz.prog 70 #[.pointer (some ⟨b, 0, none⟩)] w fun e w' => e = .returned (.tuple #[]) ∧ BAt B b (.pointer (some ⟨b, 0, none⟩)) l w' ∧ Below B w w' ∧ Kept b w w' := by
  rcases h with h | h
  · exact (bcheck_fresh b w h.cell0 h.shape h.frozen0).mono fun e w' ⟨he, hw⟩ => by subst hw; exact ⟨he, h.used _, (Below.refl B w).setCell (p := ⟨b, 0, none⟩) h.1 _, Kept.set b w 0 _⟩
  · exact (bcheck_used b w h.cell0).mono fun e w' ⟨he, hw⟩ => by subst hw; exact ⟨he, h, Below.refl B _, Kept.refl b _⟩

theorem bcells_snoc (l : List UInt8) (c : UInt8) : Lib.byteCells (l ++ [c]) = Lib.byteCells l ++ [.int .u8 c.toNat] := by simp [Lib.byteCells]
theorem bcells_cat (l m : List UInt8) : Lib.byteCells (l ++ m) = Lib.byteCells l ++ Lib.byteCells m := by simp [Lib.byteCells]

set_option maxHeartbeats 1000000 in
theorem bwrite_byte (B b : Nat) (l : List UInt8) (c : UInt8) (w : World) (h : BIs B b l w) (hlen : l.length + 1 ≤ 1000) (hBw : B ≤ w.heap.size) :
    Calls Tryz.prog 36 #[.pointer (some ⟨b, 0, none⟩), .int .u8 c.toNat] w fun e w' => e = .returned .nilIface ∧ BIs B b (l ++ [c]) w' ∧ Below B w w' ∧ Kept b w w' := by
  obtain ⟨i0, hi, hz0, hz1, hz2⟩ := info_parts byte_info
  have hll := Lib.hid (Lib.byteCells_length l)
  go_enter Tryz.func36, Tryz.ntmps36
  go_wp2_with (go_at_call 70; refine (bcheck_any B b l _ h).mono ?_)
  rintro e w1 ⟨rfl, h1, hb1, hk1⟩
  have HK1 := Lib.hid hk1
  clear hk1
  obtain ⟨hB, v, hbk, hown, hne⟩ := h1
  have c0 : w1.cell? ⟨b, 0, none⟩ = some (.pointer (some ⟨b, 0, none⟩)) := by rw [Lib.cell_of_heap hbk]; rfl
  have c1 : w1.cell? ⟨b, 1, none⟩ = some v := by rw [Lib.cell_of_heap hbk]; rfl
  go_wp2_with (at_builtin; refine wpList_append_own _ rfl _ _ 75 rfl B 5 i0 (.int .u8 0) 1 1 Tryz.underlying75 hi hz0 hz1 hz2 rfl (by decide) _ _ _ rfl (hown.alloc _) ⟨w1.heap.size, 0, none⟩ 1 1 [.int .u8 c.toNat] rfl rfl ?c1 ?c2 ?c3 ?c4 ?c5 ?_)
  case c1 =>
    intro j u hj
    match j, hj with
    | 0, hj => simp at hj; subst hj; simp [Addr.add]
  case c2 => intro u hu; simp at hu; subst hu; rfl
  case c3 => have := hll.out; unfold maxLen; omega
  case c4 => have := hll.out; omega
  case c5 => have := hb1.size; simp; omega
  intro v' w2 hown' hgrow _
  have hlt : b < w1.heap.size := Lib.BuilderAt.lt ⟨hB, v, hbk, hown, hne⟩
  have hb2 : w2.heap[b]? = some (.cells #[.pointer (some ⟨b, 0, none⟩), v] 77 (0, 0)) := by
    rw [hgrow.block b (by simp; omega) (fun e => hne e.symm), Lib.alloc_old w1 _ b hlt]
    exact hbk
  have d0 : w2.cell? ⟨b, 0, none⟩ = some (.pointer (some ⟨b, 0, none⟩)) := by rw [Lib.cell_of_heap hb2]; rfl
  have d1 : w2.cell? ⟨b, 1, none⟩ = some v := by rw [Lib.cell_of_heap hb2]; rfl
  have f1 : w2.frozen? ⟨b, 1, none⟩ = false := Lib.frozen_of_heap hb2 1
  have HK2 := Lib.hid (show Kept b w1 w2 from (Kept.alloc b w1 _).trans (Kept.grown (hown.alloc _) hgrow))
  obtain ⟨g, cap, rfl⟩ : ∃ g cap, v' = .slice (some ⟨g, 0, none⟩) ((Lib.byteCells l).length + 1) cap := by
    rcases hown'.2 with ⟨_, h0⟩ | ⟨g, cap, cur, hv, _⟩
    · omega
    · exact ⟨g, cap, hv⟩
  go_wp2
  go_ret
  refine ⟨rfl, .inr ?_, ?_, (HK1.out.trans HK2.out).trans (Kept.set b w2 1 _)⟩
  · exact Lib.BuilderAt.put (T := 77) (e := 5) hB hb2 (bs' := Lib.byteCells (l ++ [c])) (by rw [bcells_snoc]; simpa using hown') (by decide)
  · exact ((hb1.alloc (by have := hb1.size; omega) _).grown hgrow (by have := hb1.size; simp; omega) (fun k hk => (hown.lt k hk).1)).setCell (p := ⟨b, 1, none⟩) hB _

set_option maxHeartbeats 2000000 in
theorem bwrite_string (B b : Nat) (l : List UInt8) (s : ByteArray) (w : World) (h : BIs B b l w) (hlen : l.length + s.size ≤ 1000) (hBw : B ≤ w.heap.size) :
    Calls Tryz.prog 38 #[.pointer (some ⟨b, 0, none⟩), .string s] w fun e w' => e = .returned (.tuple #[.int .i64 s.size, .nilIface]) ∧ BIs B b (l ++ s.data.toList) w' ∧ Below B w w' ∧ Kept b w w' := by
  obtain ⟨i0, hi, hz0, hz1, hz2⟩ := info_parts byte_info
  have hll := Lib.hid (Lib.byteCells_length l)
  go_enter Tryz.func38, Tryz.ntmps38
  go_wp2_with (go_at_call 70; refine (bcheck_any B b l _ h).mono ?_)
  rintro e w1 ⟨rfl, h1, hb1, hk1⟩
  have HK1 := Lib.hid hk1
  clear hk1
  obtain ⟨hB, v, hbk, hown, hne⟩ := h1
  have c0 : w1.cell? ⟨b, 0, none⟩ = some (.pointer (some ⟨b, 0, none⟩)) := by rw [Lib.cell_of_heap hbk]; rfl
  have c1 : w1.cell? ⟨b, 1, none⟩ = some v := by rw [Lib.cell_of_heap hbk]; rfl
  go_wp2_with (at_builtin; refine Lib.wpList_append_own_string _ rfl _ _ 75 9 rfl B 5 i0 Tryz.underlying75 Tryz.underlying9 hi hz0 hz1 hz2 _ _ _ rfl hown s rfl ?c3 ?c4 ?c5 ?_)
  case c3 => have := hll.out; unfold maxLen; omega
  case c4 => have := hll.out; omega
  case c5 => have := hb1.size; omega
  intro v' w2 hown' hgrow _
  have hlt : b < w1.heap.size := Lib.BuilderAt.lt ⟨hB, v, hbk, hown, hne⟩
  have hb2 : w2.heap[b]? = some (.cells #[.pointer (some ⟨b, 0, none⟩), v] 77 (0, 0)) := by
    rw [hgrow.block b hlt (fun e => hne e.symm)]
    exact hbk
  have d0 : w2.cell? ⟨b, 0, none⟩ = some (.pointer (some ⟨b, 0, none⟩)) := by rw [Lib.cell_of_heap hb2]; rfl
  have d1 : w2.cell? ⟨b, 1, none⟩ = some v := by rw [Lib.cell_of_heap hb2]; rfl
  have f1 : w2.frozen? ⟨b, 1, none⟩ = false := Lib.frozen_of_heap hb2 1
  have HK2 := Lib.hid (show Kept b w1 w2 from Kept.grown hown hgrow)
  obtain ⟨ao, n', cap, rfl⟩ : ∃ ao n' cap, v' = .slice ao n' cap := by
    rcases hown'.2 with ⟨hv, _⟩ | ⟨g, cap, cur, hv, _⟩
    · exact ⟨_, _, _, hv⟩
    · exact ⟨_, _, _, hv⟩
  go_wp2
  go_ret2
  have hsc : Lib.byteCells (l ++ s.data.toList) = Lib.byteCells l ++ Lib.strCells s := by rw [bcells_cat]; rfl
  refine ⟨rfl, .inr ?_, ?_, (HK1.out.trans HK2.out).trans (Kept.set b w2 1 _)⟩
  · exact Lib.BuilderAt.put (T := 77) (e := 5) hB hb2 (bs' := Lib.byteCells (l ++ s.data.toList)) (by rw [hsc]; simpa [Lib.strCells_length] using hown') (by decide)
  · exact (hb1.grown hgrow (by have := hb1.size; omega) (fun k hk => (hown.lt k hk).1)).setCell (p := ⟨b, 1, none⟩) hB _

theorem bfresh (w : World) : BIs w.heap.size w.heap.size [] (w.alloc (.cells #[.pointer none, .slice none 0 0] 77)) := Lib.fresh_isBuilder _ _ w
theorem blen (B b : Nat) (l : List UInt8) (w : World) (h : BIs B b l w) :
    Calls Tryz.prog 37 #[.pointer (some ⟨b, 0, none⟩)] w fun e w' => e = .returned (.int .i64 l.length) ∧ w = w' :=
  (Tryz.Builder_Len B b _ w h).mono fun e w' ⟨he, hw⟩ => by rw [Lib.byteCells_length] at he; exact ⟨he, hw.symm⟩
theorem bstring (B b : Nat) (l : List UInt8) (w : World) (h : BIs B b l w) (hBw : B ≤ w.heap.size) :
    Calls Tryz.prog 39 #[.pointer (some ⟨b, 0, none⟩)] w fun e w' => e = .returned (.string ⟨l.toArray⟩) ∧ Below B w w' :=
  Tryz.Builder_String_any B b l w h hBw
theorem BIs.alloc {B b : Nat} {l : List UInt8} {w : World} (h : BIs B b l w) (o : Obj) : BIs B b l (w.alloc o) := by
  have : ∀ p, BAt B b p l w → BAt B b p l (w.alloc o) := fun p hp => by
    have hlt := Lib.BuilderAt.lt hp
    obtain ⟨hB, v, hbk, hown, hne⟩ := hp
    exact ⟨hB, v, by rw [Lib.alloc_old w o b hlt]; exact hbk, hown.alloc o, hne⟩
  exact h.imp (this _) (this _)
theorem BIs.drewN {B b : Nat} {l : List UInt8} {w : World} (h : BIs B b l w) (n : Nat) : BIs B b l (w.drewN n) := h

set_option maxHeartbeats 1000000 in
theorem clone_any (s : ByteArray) (w : World) (hs : s.size ≤ 1000) :
    Calls Tryz.prog 30 #[.string s] w fun e w' => e = .returned (.string s) ∧ Below w.heap.size w w' := by
  go_enter Tryz.func30, Tryz.ntmps30
  go_wp2_with (go_at_call 56; refine (Tryz.stringslite_Clone s _ (by omega)).mono ?_; rintro e w' ⟨rfl, hb⟩)
  go_ret
  exact ⟨rfl, hb⟩
end Go.Proofs.YtlmamidodahgmaaGreatDoor

/- LPlain: Tokens of a text, in plain mathematics: no program is imported but for the facts on bytes. -/
namespace Go.Proofs.YtlmamidodahgmaaGreatDoor
open Go.RowKit
set_option linter.unusedVariables false

def isDig (c : UInt8) : Bool := 48 ≤ c && c ≤ 57
def allDig (l : List UInt8) : Bool := l.all isDig
def val (l : List UInt8) : Nat := l.foldl (fun n c => 10 * n + (c.toNat - 48)) 0
def rdE (l : List UInt8) : Int := if val l ≤ 9223372036854775807 then 0 else 16
/-- The error of Read, of whatever text. -/
def rdErr (l : List UInt8) : Int := if (allDig l && !l.isEmpty) = true then rdE l else 12

structure Tok where
  k : Int
  s : List UInt8
  a : Int
deriving DecidableEq

def kindB (c : UInt8) : Int := kindI (c.toNat : Int)
/-- How many bytes of a kind stand in front. -/
def spanK (k : Int) : List UInt8 → Nat
  | [] => 0
  | c :: r => if kindB c = k then spanK k r + 1 else 0
/-- The error of a token of a kind with a text. -/
def checkE (k : Int) (s : List UInt8) : Int :=
  if k = 1 then rdErr s else if k = 2 then (if isWord s then 0 else 32) else if k = 3 then (if longL s = s.length ∧ s ≠ [] then 0 else 32) else 32
/-- Kind and length of the token in front. -/
def ext : List UInt8 → Int × Nat
  | [] => (3, 0)
  | c :: r => if kindB c = 2 then (1, spanK 2 (c :: r)) else if kindB c = 3 then (2, spanK 3 (c :: r)) else (3, longL (c :: r))
def tkE (l : List UInt8) : Int := checkE (ext l).1 (l.take (ext l).2)

/-- The tokens from a place on, the place at which it ends, and the error there. -/
def lexF : Nat → List UInt8 → Nat → Nat → List Tok × Nat × Int
  | 0, _, p, _ => ([], p, 0)
  | f + 1, l, p, n =>
    let q := p + spanK 1 l
    let m := l.drop (spanK 1 l)
    if m = [] then ([], q, 0)
    else if n = 200 then ([], q, 4)
    else if tkE m ≠ 0 then ([], q, tkE m)
    else
      let r := lexF f (m.drop (ext m).2) (q + (ext m).2) (n + 1)
      (⟨(ext m).1, m.take (ext m).2, q⟩ :: r.1, r.2)

inductive Lex : List UInt8 → Nat → Nat → List Tok → Nat → Int → Prop
  | done {l p n} : l.drop (spanK 1 l) = [] → Lex l p n [] (p + spanK 1 l) 0
  | many {l p} : l.drop (spanK 1 l) ≠ [] → Lex l p 200 [] (p + spanK 1 l) 4
  | err {l p n} : l.drop (spanK 1 l) ≠ [] → n ≠ 200 → tkE (l.drop (spanK 1 l)) ≠ 0 → Lex l p n [] (p + spanK 1 l) (tkE (l.drop (spanK 1 l)))
  | tok {l p n m ts q e} : l.drop (spanK 1 l) = m → m ≠ [] → n ≠ 200 → tkE m = 0 → Lex (m.drop (ext m).2) (p + spanK 1 l + (ext m).2) (n + 1) ts q e →
      Lex l p n (⟨(ext m).1, m.take (ext m).2, ((p + spanK 1 l : Nat) : Int)⟩ :: ts) q e

/-! ### spans -/
theorem spanK_le (k : Int) (l : List UInt8) : spanK k l ≤ l.length := by
  induction l with
  | nil => exact Nat.le_refl _
  | cons c r ih => rw [spanK]; split <;> simp <;> omega
theorem spanK_cons (k : Int) (c : UInt8) (r : List UInt8) (h : kindB c = k) : spanK k (c :: r) = spanK k r + 1 := by rw [spanK, if_pos h]
theorem spanK_cons_not (k : Int) (c : UInt8) (r : List UInt8) (h : kindB c ≠ k) : spanK k (c :: r) = 0 := by rw [spanK, if_neg h]
theorem spanK_all (k : Int) (l : List UInt8) : ∀ c ∈ l.take (spanK k l), kindB c = k := by
  induction l with
  | nil => simp [spanK]
  | cons c r ih =>
    rw [spanK]
    split
    · rename_i h
      intro x hx
      rw [List.take_succ_cons, List.mem_cons] at hx
      rcases hx with rfl | hx
      · exact h
      · exact ih x hx
    · simp
theorem spanK_next (k : Int) (l : List UInt8) (c : UInt8) (r : List UInt8) (h : l.drop (spanK k l) = c :: r) : kindB c ≠ k := by
  induction l with
  | nil => simp [spanK] at h
  | cons x t ih =>
    rw [spanK] at h
    split at h
    · exact ih (by simpa using h)
    · rename_i hx
      simp only [List.drop_zero, List.cons.injEq] at h
      rw [← h.1]; exact hx
/-- A span, and what stands behind it, of another kind. -/
theorem spanK_append (k : Int) (b r : List UInt8) (hb : ∀ c ∈ b, kindB c = k) : spanK k (b ++ r) = b.length + spanK k r := by
  induction b with
  | nil => simp
  | cons c t ih =>
    rw [List.cons_append, spanK_cons k c _ (hb c (by simp)), ih (fun x hx => hb x (by simp [hx]))]
    simp; omega
theorem spanK_stop (k : Int) (r : List UInt8) (hr : ∀ c, r.head? = some c → kindB c ≠ k) : spanK k r = 0 := by
  cases r with
  | nil => rfl
  | cons c t => exact spanK_cons_not k c t (hr c rfl)
theorem spanK_drop (k : Int) (l : List UInt8) : spanK k (l.drop (spanK k l)) = 0 := by
  apply spanK_stop
  intro c hc
  cases h : l.drop (spanK k l) with
  | nil => rw [h] at hc; cases hc
  | cons x r =>
    rw [h] at hc
    simp only [List.head?_cons, Option.some.injEq] at hc
    subst hc
    exact spanK_next k l _ r h
theorem spanK_split (k : Int) (l : List UInt8) : ∃ b r, l = b ++ r ∧ b.length = spanK k l ∧ (∀ c ∈ b, kindB c = k) ∧ (∀ c, r.head? = some c → kindB c ≠ k) ∧ r = l.drop (spanK k l) :=
  ⟨l.take (spanK k l), l.drop (spanK k l), (List.take_append_drop _ _).symm, by rw [List.length_take]; have := spanK_le k l; omega, spanK_all k l, by
    intro c hc
    cases h : l.drop (spanK k l) with
    | nil => rw [h] at hc; cases hc
    | cons x r =>
      rw [h] at hc
      simp only [List.head?_cons, Option.some.injEq] at hc
      subst hc
      exact spanK_next k l _ r h, rfl⟩

/-! ### symbols -/
def blankB (c : UInt8) : Prop := kindB c = 1
theorem sym_facts : ∀ x ∈ symL, (x.length = 1 ∨ x.length = 2) ∧ (∀ c ∈ x, kindB c = 4) := by decide
theorem longIn_le (L : List (List UInt8)) (l : List UInt8) : longIn L l ≤ l.length := by
  induction L with
  | nil => exact Nat.zero_le _
  | cons x r ih =>
    rw [longIn]
    split
    · rename_i h; exact ((isPrefixOf_iff_take x l).1 h).1
    · exact ih
theorem longL_le (l : List UInt8) : longL l ≤ l.length := longIn_le _ _
theorem longIn_two (L : List (List UInt8)) (hL : ∀ x ∈ L, x.length = 1 ∨ x.length = 2) (l : List UInt8) : longIn L l ≤ 2 := by
  induction L with
  | nil => exact Nat.zero_le _
  | cons x r ih =>
    rw [longIn]
    split
    · have := hL x (by simp); omega
    · exact ih fun y hy => hL y (by simp [hy])
theorem longL_two (l : List UInt8) : longL l ≤ 2 := longIn_two _ (fun x hx => (sym_facts x hx).1) l
/-- Only the first two bytes count. -/
theorem longIn_take (L : List (List UInt8)) (hL : ∀ x ∈ L, x.length = 1 ∨ x.length = 2) (l : List UInt8) : longIn L (l.take 2) = longIn L l := by
  induction L with
  | nil => rfl
  | cons x r ih =>
    have hx := hL x (by simp)
    have e : x.isPrefixOf (l.take 2) = x.isPrefixOf l := by
      rw [Bool.eq_iff_iff, isPrefixOf_iff_take, isPrefixOf_iff_take, List.take_take, List.length_take, show min x.length 2 = x.length by omega]
      constructor
      · rintro ⟨h1, h2⟩; exact ⟨by omega, h2⟩
      · rintro ⟨h1, h2⟩; exact ⟨by omega, h2⟩
    rw [longIn, longIn, e, ih fun y hy => hL y (by simp [hy])]
theorem longL_take (l : List UInt8) : longL (l.take 2) = longL l := longIn_take _ (fun x hx => (sym_facts x hx).1) l
theorem longL_nil : longL [] = 0 := by decide
/-- A symbol of one byte, or of two, by its own bytes. -/
theorem longIn_mem (L : List (List UInt8)) (l : List UInt8) (h : longIn L l ≠ 0) : ∃ x ∈ L, x.length = longIn L l ∧ l.take (longIn L l) = x := by
  induction L with
  | nil => exact absurd rfl h
  | cons x r ih =>
    rw [longIn] at h ⊢
    split
    · rename_i hp
      exact ⟨x, by simp, rfl, ((isPrefixOf_iff_take x l).1 hp).2⟩
    · rename_i hp
      rw [if_neg hp] at h
      obtain ⟨y, hy, h1, h2⟩ := ih h
      exact ⟨y, by simp [hy], h1, h2⟩
theorem longL_mem (l : List UInt8) (h : longL l ≠ 0) : l.take (longL l) ∈ symL := by
  obtain ⟨x, hx, h1, h2⟩ := longIn_mem symL l h
  show l.take (longIn symL l) ∈ symL
  rw [h2]; exact hx
theorem long_self : ∀ x ∈ symL, longL x = x.length := by decide
theorem longL_own (l : List UInt8) : longL (l.take (longL l)) = longL l := by
  by_cases h : longL l = 0
  · rw [h, List.take_zero]; rfl
  · rw [long_self _ (longL_mem l h), List.length_take]
    have := longL_le l
    omega
end Go.Proofs.YtlmamidodahgmaaGreatDoor

/- LRead: Contracts of ints.Read and of the reference's Read. -/
namespace Go.Proofs.YtlmamidodahgmaaGreatDoor
open Go.ChangeShapes Go.WideShapes Go.ChangeAt Go.RowKit
set_option linter.unusedVariables false

/-! ### digits and Read -/

theorem isDig_iff (c : UInt8) : isDig c = true ↔ 48 ≤ (c.toNat : Int) ∧ (c.toNat : Int) ≤ 57 := by
  unfold isDig; simp [UInt8.le_iff_toNat_le]; omega
theorem take_snoc (s : ByteArray) (k : Nat) (h : k < s.size) : s.data.toList.take (k + 1) = s.data.toList.take k ++ [s[k]] := by
  rw [List.take_succ_eq_append_getElem (by simpa using h)]; rfl
theorem allDig_snoc (l : List UInt8) (c : UInt8) : allDig (l ++ [c]) = (allDig l && isDig c) := by simp [allDig]
theorem val_snoc (l : List UInt8) (c : UInt8) : val (l ++ [c]) = 10 * val l + (c.toNat - 48) := by simp [val]
theorem allDig_at (s : ByteArray) (k : Nat) (h : k < s.size) (ha : allDig s.data.toList = true) : isDig s[k] = true := by
  unfold allDig at ha
  rw [List.all_eq_true] at ha
  exact ha _ (by rw [show s[k] = s.data.toList[k]'(by simpa using h) from rfl]; exact List.getElem_mem _)
theorem allDig_not (s : ByteArray) (k : Nat) (h : k < s.size) (hk : isDig s[k] = false) : allDig s.data.toList = false := by
  cases ha : allDig s.data.toList
  · rfl
  · rw [allDig_at s k h ha] at hk; cases hk
theorem val_append_ge (l m : List UInt8) : val l ≤ val (l ++ m) := by
  unfold val
  rw [List.foldl_append]
  generalize List.foldl (fun n c => 10 * n + (UInt8.toNat c - 48)) 0 l = x
  induction m generalizing x with
  | nil => exact Nat.le_refl _
  | cons c m ih => exact Nat.le_trans (show x ≤ 10 * x + (c.toNat - 48) by omega) (ih _)
theorem val_take_le (l : List UInt8) (k : Nat) : val (l.take k) ≤ val l := by
  have := val_append_ge (l.take k) (l.drop k)
  rwa [List.take_append_drop] at this

theorem isDig_no (c : UInt8) (h : ¬(48 ≤ (c.toNat : Int) ∧ (c.toNat : Int) ≤ 57)) : isDig c = false := by
  cases hc : isDig c
  · rfl
  · exact absurd ((isDig_iff c).1 hc) h

theorem digits_any (s : ByteArray) (w : World) (hs : s.size ≤ maxLen) :
    Calls Tryz.prog 82 #[.string s] w fun e w' => e = .returned (.bool (allDig s.data.toList && !s.data.toList.isEmpty)) ∧ w = w' := by
  unfold maxLen at hs
  go_enter Tryz.func82, Tryz.ntmps82
  go_wp2
  go_loop [6] (fun i => ∃ k : Nat, k ≤ s.size ∧ i = .int .i64 k ∧ allDig (s.data.toList.take k) = true) (fun i => s.size - (intOf i).toNat)
  case atStart => exact ⟨0, Nat.zero_le _, rfl, rfl⟩
  case round =>
    obtain ⟨k, hk, rfl, hd⟩ := hrel
    by_cases hlt : k < s.size
    · have HS := Lib.hid (take_snoc s k hlt)
      have HN := Lib.hid (allDig_not s k hlt)
      have HD := Lib.hid hd
      clear hd
      by_cases hc : 48 ≤ (s[k].toNat : Int) ∧ (s[k].toNat : Int) ≤ 57
      · have HI := Lib.hid ((isDig_iff s[k]).2 hc)
        obtain ⟨h1, h2⟩ := hc
        go_wp2
        go_round
        case rel => exact ⟨k + 1, by omega, by go_num, by rw [HS.out, allDig_snoc, HD.out, HI.out]; rfl⟩
        case measure => simp [intOf]; omega
      · have HI := Lib.hid (isDig_no s[k] hc)
        by_cases h1 : (s[k].toNat : Int) < 48
        · clear hc
          go_wp2
          go_ret
          exact ⟨ret_bool' (by rw [HN.out HI.out]; rfl), rfl⟩
        · have h2 : 57 < (s[k].toNat : Int) := by omega
          clear hc
          go_wp2
          go_ret
          exact ⟨ret_bool' (by rw [HN.out HI.out]; rfl), rfl⟩
    · have HD := Lib.hid (show allDig s.data.toList = true by rw [← hd, List.take_of_length_le (by simp; omega)])
      clear hd
      go_wp2
      go_ret
      exact ⟨ret_bool' (by rw [HD.out, Bool.true_and, ByteArray.toList_eq]; simp), rfl⟩

theorem read_form (s : ByteArray) (w : World) (hs : s.size ≤ maxLen) (hf : (allDig s.data.toList && !s.data.toList.isEmpty) = false) :
    Calls Tryz.prog 54 #[.string s] w fun e w' => e = .returned (.tuple #[.int .i64 0, .int .i64 12]) ∧ w = w' := by
  have HF := Lib.hid hf
  clear hf
  go_enter Tryz.func54, Tryz.ntmps54
  go_wp2_with (go_at_call 82; refine (digits_any _ _ hs).mono ?_; rw [HF.out]; rintro e w' ⟨rfl, rfl⟩)
  go_ret2
  exact ⟨rfl, rfl⟩

def rdN (l : List UInt8) : Int := if val l ≤ 9223372036854775807 then val l else 0
theorem ret_two' {k j : IntKind} {a b c d : Int} (h : a = b) (g : c = d) : Ending.returned (.tuple #[.int k a, .int j c]) = .returned (.tuple #[.int k b, .int j d]) := by rw [h, g]

theorem dig_conv (c : UInt8) (h1 : 48 ≤ (c.toNat : Int)) : ((c.toNat - 48 : Nat) : Int) = (c.toNat : Int) - 48 := by omega

theorem read_dig (s : ByteArray) (w : World) (hs : s.size ≤ maxLen) (hf : (allDig s.data.toList && !s.data.toList.isEmpty) = true) :
    Calls Tryz.prog 54 #[.string s] w fun e w' => e = .returned (.tuple #[.int .i64 (rdN s.data.toList), .int .i64 (rdE s.data.toList)]) ∧ w = w' := by
  have HF := Lib.hid hf
  clear hf
  have HM := Lib.hid hs
  unfold maxLen at hs
  go_enter Tryz.func54, Tryz.ntmps54
  go_wp2_with (go_at_call 82; refine (digits_any _ _ HM.out).mono ?_; rw [HF.out]; rintro e w' ⟨rfl, rfl⟩)
  go_loop [4, 12] (fun n i => ∃ k m : Nat, k ≤ s.size ∧ m ≤ 9223372036854775807 ∧ i = .int .i64 k ∧ n = .int .i64 m ∧ m = val (s.data.toList.take k)) (fun _ i => s.size - (intOf i).toNat)
  case atStart => exact ⟨0, 0, Nat.zero_le _, Nat.zero_le _, rfl, rfl, rfl⟩
  case round =>
    obtain ⟨k, m, hk, hm, rfl, rfl, hv⟩ := hrel
    have HV := Lib.hid hv
    clear hv
    by_cases hlt : k < s.size
    · have HS := Lib.hid (take_snoc s k hlt)
      have HD := Lib.hid ((isDig_iff s[k]).1 (allDig_at s k hlt (by have := HF.out; simp only [Bool.and_eq_true] at this; exact this.1)))
      obtain ⟨h1, h2⟩ := HD.out
      clear HD
      have HN := Lib.hid (show val (s.data.toList.take (k + 1)) = 10 * m + (s[k].toNat - 48) by rw [HS.out, val_snoc, HV.out])
      have HL := Lib.hid (val_take_le s.data.toList (k + 1))
      by_cases hm2 : (9223372036854775807 - ((s[k].toNat : Int) - 48)) / 10 < m
      · go_wp2
        go_ret2
        have h3 := HL.out
        rw [HN.out] at h3
        exact ⟨ret_two' (by rw [rdN, if_neg (by omega)]) (by rw [rdE, if_neg (by omega)]), rfl⟩
      · go_wp2
        go_round
        case rel => exact ⟨k + 1, 10 * m + (s[k].toNat - 48), by omega, by omega, by go_num, by go_num, by rw [HN.out]⟩
        case measure => simp [intOf]; omega
    · have HL := Lib.hid (show val s.data.toList = m by rw [HV.out, List.take_of_length_le (by simp; omega)])
      go_wp2
      go_ret2
      exact ⟨ret_two' (by rw [rdN, HL.out, if_pos hm]) (by rw [rdE, HL.out, if_pos hm]), rfl⟩

/-! ### the reference's Read -/
theorem iread_any (s : ByteArray) (w : World) (hs : s.size ≤ maxLen) : ∃ x : Int,
    Calls Tryz.prog 54 #[.string s] w fun e w' => e = .returned (.tuple #[.int .i64 x, .int .i64 (rdErr s.data.toList)]) ∧ w = w' := by
  cases hf : (allDig s.data.toList && !s.data.toList.isEmpty)
  · refine ⟨0, ?_⟩
    rw [rdErr, if_neg (by rw [hf]; decide)]
    exact read_form s w hs hf
  · refine ⟨rdN s.data.toList, ?_⟩
    rw [rdErr, if_pos hf]
    exact read_dig s w hs hf
end Go.Proofs.YtlmamidodahgmaaGreatDoor

/- LMath: Tokens of a text: what the laws of layer 3 rest on, in plain mathematics. -/
namespace Go.Proofs.YtlmamidodahgmaaGreatDoor
open Go.RowKit
set_option linter.unusedVariables false

/-! ### one token -/
theorem ext_cons2 (c : UInt8) (r : List UInt8) (h : kindB c = 2) : ext (c :: r) = (1, spanK 2 (c :: r)) := by rw [ext, if_pos h]
theorem ext_cons3 (c : UInt8) (r : List UInt8) (h : kindB c = 3) : ext (c :: r) = (2, spanK 3 (c :: r)) := by rw [ext, if_neg (by omega), if_pos h]
theorem ext_cons4 (c : UInt8) (r : List UInt8) (h2 : kindB c ≠ 2) (h3 : kindB c ≠ 3) : ext (c :: r) = (3, longL (c :: r)) := by rw [ext, if_neg h2, if_neg h3]
theorem ext_le (l : List UInt8) : (ext l).2 ≤ l.length := by
  cases l with
  | nil => exact Nat.le_refl _
  | cons c r =>
    by_cases h2 : kindB c = 2
    · rw [ext_cons2 c r h2]; exact spanK_le _ _
    · by_cases h3 : kindB c = 3
      · rw [ext_cons3 c r h3]; exact spanK_le _ _
      · rw [ext_cons4 c r h2 h3]; exact longL_le _
theorem ext_pos (l : List UInt8) (h : l ≠ []) (he : tkE l = 0) : 0 < (ext l).2 := by
  cases l with
  | nil => exact absurd rfl h
  | cons c r =>
    by_cases h2 : kindB c = 2
    · rw [ext_cons2 c r h2]
      show 0 < spanK 2 (c :: r)
      rw [spanK_cons 2 c r h2]; omega
    · by_cases h3 : kindB c = 3
      · rw [ext_cons3 c r h3]
        show 0 < spanK 3 (c :: r)
        rw [spanK_cons 3 c r h3]; omega
      · rw [tkE, ext_cons4 c r h2 h3] at he
        rw [ext_cons4 c r h2 h3]
        show 0 < longL (c :: r)
        rcases Nat.eq_zero_or_pos (longL (c :: r)) with h0 | h0
        · have he' : checkE 3 ((c :: r).take (longL (c :: r))) = 0 := he
          rw [h0, List.take_zero] at he'
          exact absurd he' (by decide)
        · exact h0

theorem lexF_Lex (f : Nat) : ∀ (l : List UInt8) (p n : Nat), l.length < f → Lex l p n (lexF f l p n).1 (lexF f l p n).2.1 (lexF f l p n).2.2 := by
  induction f with
  | zero => intro l p n h; omega
  | succ f ih =>
    intro l p n h
    rw [lexF]
    by_cases h1 : l.drop (spanK 1 l) = []
    · simp only [if_pos h1]; exact .done h1
    · by_cases h2 : n = 200
      · simp only [if_neg h1, if_pos h2]; subst h2; exact .many h1
      · by_cases h3 : tkE (l.drop (spanK 1 l)) = 0
        · simp only [if_neg h1, if_neg h2, h3]
          refine .tok rfl h1 h2 h3 ?_
          apply ih
          have := ext_pos _ h1 h3
          have := List.length_pos_iff.2 h1
          simp only [List.length_drop] at this ⊢
          omega
        · simp only [if_neg h1, if_neg h2, if_pos h3]; exact .err h1 h2 h3

theorem Lex.det {l p n ts q e} (h : Lex l p n ts q e) : ∀ {ts' q' e'}, Lex l p n ts' q' e' → ts = ts' ∧ q = q' ∧ e = e' := by
  induction h with
  | done h1 => intro ts' q' e' h'; cases h' with
    | done => exact ⟨rfl, rfl, rfl⟩
    | many h2 => exact absurd h1 h2
    | err h2 => exact absurd h1 h2
    | tok h2 h3 => exact absurd (h2 ▸ h1) h3
  | many h1 => intro ts' q' e' h'; cases h' with
    | done h2 => exact absurd h2 h1
    | many => exact ⟨rfl, rfl, rfl⟩
    | err _ h2 => exact absurd rfl h2
    | tok _ _ h2 => exact absurd rfl h2
  | err h1 h2 h3 => intro ts' q' e' h'; cases h' with
    | done h4 => exact absurd h4 h1
    | many => exact absurd rfl h2
    | err => exact ⟨rfl, rfl, rfl⟩
    | tok h4 _ _ h5 => subst h4; exact absurd h5 h3
  | tok h1 h2 h3 h4 h5 ih => intro ts' q' e' h'; cases h' with
    | done h6 => subst h1; exact absurd h6 h2
    | many => exact absurd rfl h3
    | err h6 _ h7 => subst h1; exact absurd h4 h7
    | tok h6 _ _ _ h7 =>
      subst h1; subst h6
      obtain ⟨rfl, rfl, rfl⟩ := ih h7
      exact ⟨rfl, rfl, rfl⟩

/-- Skipping the blanks in front. -/
theorem Lex.skip {l p n ts q e} (h : Lex l p n ts q e) : Lex (l.drop (spanK 1 l)) (p + spanK 1 l) n ts q e := by
  have h0 := spanK_drop 1 l
  have hd : (l.drop (spanK 1 l)).drop (spanK 1 (l.drop (spanK 1 l))) = l.drop (spanK 1 l) := by rw [h0, List.drop_zero]
  have hp : p + spanK 1 l + spanK 1 (l.drop (spanK 1 l)) = p + spanK 1 l := by rw [h0]; rfl
  cases h with
  | done h1 => have := @Lex.done (l.drop (spanK 1 l)) (p + spanK 1 l) n (by rw [hd]; exact h1); rwa [hp] at this
  | many h1 => have := @Lex.many (l.drop (spanK 1 l)) (p + spanK 1 l) (by rw [hd]; exact h1); rwa [hp] at this
  | err h1 h2 h3 => have := @Lex.err (l.drop (spanK 1 l)) (p + spanK 1 l) n (by rw [hd]; exact h1) h2 (by rw [hd]; exact h3); rwa [hp, hd] at this
  | tok h1 h2 h3 h4 h5 =>
    subst h1
    have := @Lex.tok (l.drop (spanK 1 l)) (p + spanK 1 l) n (l.drop (spanK 1 l)) _ _ _ hd h2 h3 h4 (by rw [hp]; exact h5)
    rwa [hp] at this
theorem Lex.unskip {l p n ts q e} (h : Lex (l.drop (spanK 1 l)) (p + spanK 1 l) n ts q e) : Lex l p n ts q e := by
  have h0 := lexF_Lex (l.length + 1) l p n (by omega)
  obtain ⟨e1, e2, e3⟩ := h0.skip.det h
  rw [← e1, ← e2, ← e3]; exact h0
theorem Lex.skip' {l p n ts q e} (h : Lex l p n ts q e) (h0 : spanK 1 l = 0) :
    (l = [] ∧ ts = [] ∧ q = p ∧ e = 0) ∨ (l ≠ [] ∧ n = 200 ∧ ts = [] ∧ q = p ∧ e = 4) ∨ (l ≠ [] ∧ n ≠ 200 ∧ tkE l ≠ 0 ∧ ts = [] ∧ q = p ∧ e = tkE l) ∨
    (l ≠ [] ∧ n ≠ 200 ∧ tkE l = 0 ∧ ∃ ts', ts = ⟨(ext l).1, l.take (ext l).2, (p : Nat)⟩ :: ts' ∧ Lex (l.drop (ext l).2) (p + (ext l).2) (n + 1) ts' q e) := by
  cases h with
  | done h1 => rw [h0, List.drop_zero] at h1; exact .inl ⟨h1, rfl, by rw [h0]; rfl, rfl⟩
  | many h1 => rw [h0, List.drop_zero] at h1; exact .inr (.inl ⟨h1, rfl, rfl, by rw [h0]; rfl, rfl⟩)
  | err h1 h2 h3 => rw [h0, List.drop_zero] at h1 h3 ⊢; exact .inr (.inr (.inl ⟨h1, h2, h3, rfl, rfl, rfl⟩))
  | tok h1 h2 h3 h4 h5 =>
    rw [h0, List.drop_zero] at h1; subst h1
    rw [h0] at h5
    exact .inr (.inr (.inr ⟨h2, h3, h4, _, by rw [h0]; rfl, h5⟩))

/-! ### what a token needs of what stands behind it -/
theorem kindB_blank (c : UInt8) (h : kindB c = 1) : c = 32 ∨ c = 10 := by
  unfold kindB kindI at h
  have h' : (c.toNat : Int) = 32 ∨ (c.toNat : Int) = 10 := by
    repeat' split at h
    all_goals first | assumption | omega
  rcases h' with h' | h'
  · exact .inl (UInt8.toNat_inj.1 (by show c.toNat = 32; omega))
  · exact .inr (UInt8.toNat_inj.1 (by show c.toNat = 10; omega))
theorem long_b32 : ∀ n : Fin 256, longL [UInt8.ofNat n.val, 32] = longL [UInt8.ofNat n.val] ∧ longL [UInt8.ofNat n.val, 10] = longL [UInt8.ofNat n.val] := by decide +kernel
theorem long_blank (x b : UInt8) (h : kindB b = 1) : longL [x, b] = longL [x] := by
  have hx : UInt8.ofNat x.toNat = x := by simp
  have := long_b32 ⟨x.toNat, x.toNat_lt⟩
  simp only [hx] at this
  rcases kindB_blank b h with rfl | rfl
  · exact this.1
  · exact this.2
theorem longL_two_of (x y : UInt8) (r : List UInt8) : longL (x :: y :: r) = longL [x, y] := by
  rw [← longL_take (x :: y :: r)]; rfl

/-- What may stand behind a token without touching it. -/
def Apart (m : List UInt8) (X : List UInt8) : Prop := X = [] ∨ (∃ b Y, X = b :: Y ∧ kindB b = 1) ∨ (∃ b Y Z, X = b :: Y ∧ m.drop (ext m).2 = b :: Z)
theorem Apart.head {m X : List UInt8} {k : Int} (h : Apart m X) (hk : k ≠ 1) (hm : ∀ c, (m.drop (ext m).2).head? = some c → kindB c ≠ k) : ∀ c, X.head? = some c → kindB c ≠ k := by
  intro c hc
  rcases h with rfl | ⟨b, Y, rfl, hb⟩ | ⟨b, Y, Z, rfl, hd⟩
  · cases hc
  · simp only [List.head?_cons, Option.some.injEq] at hc; subst hc; rw [hb]; exact fun e => hk e.symm
  · simp only [List.head?_cons, Option.some.injEq] at hc; subst hc; exact hm _ (by rw [hd]; rfl)

theorem loc_span {m X : List UInt8} {k : Int} (hk : k ≠ 1) (he : (ext m).2 = spanK k m) (h : Apart m X) : spanK k (m.take (ext m).2 ++ X) = (ext m).2 := by
  have h1 : ∀ c ∈ m.take (ext m).2, kindB c = k := by rw [he]; exact spanK_all k m
  rw [spanK_append k _ _ h1, spanK_stop k X (h.head hk ?_), List.length_take]
  · have := ext_le m; omega
  · intro c hc
    rw [he] at hc
    cases hd : m.drop (spanK k m) with
    | nil => rw [hd] at hc; cases hc
    | cons x r =>
      rw [hd] at hc
      simp only [List.head?_cons, Option.some.injEq] at hc
      subst hc
      exact spanK_next k m _ r hd

theorem ext_loc {m X : List UInt8} (hm : m ≠ []) (he : tkE m = 0) (h : Apart m X) : ext (m.take (ext m).2 ++ X) = ext m := by
  have hp := ext_pos m hm he
  cases m with
  | nil => exact absurd rfl hm
  | cons c r =>
    have hc : ((c :: r).take (ext (c :: r)).2 ++ X) = c :: (r.take ((ext (c :: r)).2 - 1) ++ X) := by
      obtain ⟨n, hn⟩ : ∃ n, (ext (c :: r)).2 = n + 1 := ⟨(ext (c :: r)).2 - 1, by omega⟩
      rw [hn, List.take_succ_cons]; rfl
    by_cases h2 : kindB c = 2
    · rw [hc, ext_cons2 c _ h2, ← hc, loc_span (by decide) (by rw [ext_cons2 c r h2]) h, ext_cons2 c r h2]
    · by_cases h3 : kindB c = 3
      · rw [hc, ext_cons3 c _ h3, ← hc, loc_span (by decide) (by rw [ext_cons3 c r h3]) h, ext_cons3 c r h3]
      · have e4 := ext_cons4 c r h2 h3
        rw [hc, ext_cons4 c _ h2 h3, ← hc]
        have hl : (ext (c :: r)).2 = longL (c :: r) := by rw [e4]
        have ht : (ext (c :: r)).2 ≤ 2 := by rw [hl]; exact longL_two _
        have hle := ext_le (c :: r)
        suffices hs : longL ((c :: r).take (ext (c :: r)).2 ++ X) = longL (c :: r) by rw [hs, e4]
        rcases Nat.lt_or_ge (ext (c :: r)).2 2 with h1 | h1
        · have hn : (ext (c :: r)).2 = 1 := by omega
          have hone : longL [c] = 1 := by
            have := longL_own (c :: r)
            rw [← hl, hn] at this
            exact this
          rw [← hl, hn]
          show longL (c :: X) = 1
          rcases h with rfl | ⟨b, Y, rfl, hb⟩ | ⟨b, Y, Z, rfl, hd⟩
          · exact hone
          · rw [longL_two_of, long_blank c b hb]; exact hone
          · rw [hn] at hd
            have hr : r = b :: Z := hd
            rw [longL_two_of, ← longL_two_of c b Z, ← hr, ← hl, hn]
        · have hn : (ext (c :: r)).2 = 2 := by omega
          rw [← longL_take, hn, ← longL_take (c :: r), List.take_append_of_le_length (by rw [List.length_take]; omega), List.take_take]
          rfl
theorem take_loc (m X : List UInt8) : (m.take (ext m).2 ++ X).take (ext m).2 = m.take (ext m).2 := by
  have := ext_le m
  rw [List.take_append_of_le_length (by rw [List.length_take]; omega), List.take_take, Nat.min_self]
theorem drop_loc (m X : List UInt8) : (m.take (ext m).2 ++ X).drop (ext m).2 = X := by
  have := ext_le m
  have hl : (m.take (ext m).2).length = (ext m).2 := by rw [List.length_take]; omega
  rw [List.drop_append, hl, Nat.sub_self, List.drop_zero, List.drop_of_length_le (by omega)]; rfl
theorem tkE_loc {m X : List UInt8} (hm : m ≠ []) (he : tkE m = 0) (h : Apart m X) : tkE (m.take (ext m).2 ++ X) = 0 := by
  rw [tkE, ext_loc hm he h, take_loc]; exact he
theorem ext_no1 {m : List UInt8} (hm : m ≠ []) (he : tkE m = 0) (h1 : spanK 1 m = 0) (X : List UInt8) : spanK 1 (m.take (ext m).2 ++ X) = 0 := by
  have hp := ext_pos m hm he
  cases m with
  | nil => exact absurd rfl hm
  | cons c r =>
    obtain ⟨n, hn⟩ : ∃ n, (ext (c :: r)).2 = n + 1 := ⟨(ext (c :: r)).2 - 1, by omega⟩
    rw [hn, List.take_succ_cons, List.cons_append]
    apply spanK_cons_not
    intro hk
    rw [spanK_cons 1 c r hk] at h1
    omega

/-- A first token, by itself. -/
theorem Lex.first {m X : List UInt8} {p n ts q e} (hm : m ≠ []) (he : tkE m = 0) (h1 : spanK 1 m = 0) (hn : n ≠ 200) (ha : Apart m X) (h : Lex X (p + (ext m).2) (n + 1) ts q e) :
    Lex (m.take (ext m).2 ++ X) p n (⟨(ext m).1, m.take (ext m).2, (p : Nat)⟩ :: ts) q e := by
  have h0 := ext_no1 hm he h1 X
  have hx := ext_loc hm he ha
  have hne : m.take (ext m).2 ++ X ≠ [] := by
    have hp := ext_pos m hm he
    have hle := ext_le m
    intro hnil
    have hml := List.length_pos_iff.2 hm
    have := congrArg List.length hnil
    rw [List.length_append, List.length_take, List.length_nil] at this
    omega
  have := @Lex.tok (m.take (ext m).2 ++ X) p n (m.take (ext m).2 ++ X) ts q e (by rw [h0, List.drop_zero]) hne hn (tkE_loc hm he ha) (by rw [hx, drop_loc, h0]; exact h)
  rwa [hx, take_loc, h0] at this

/-! ### places moved, blanks in front and behind -/
def mv (d : Nat) (t : Tok) : Tok := ⟨t.k, t.s, t.a + (d : Int)⟩
theorem Lex.shift {l p n ts q e} (h : Lex l p n ts q e) (d : Nat) : Lex l (p + d) n (ts.map (mv d)) (q + d) e := by
  induction h with
  | @done l p n h1 => have := @Lex.done l (p + d) n h1; rwa [show p + d + spanK 1 l = p + spanK 1 l + d by omega] at this
  | @many l p h1 => have := @Lex.many l (p + d) h1; rwa [show p + d + spanK 1 l = p + spanK 1 l + d by omega] at this
  | @err l p n h1 h2 h3 => have := @Lex.err l (p + d) n h1 h2 h3; rwa [show p + d + spanK 1 l = p + spanK 1 l + d by omega] at this
  | @tok l p n m ts q e h1 h2 h3 h4 h5 ih =>
    have := @Lex.tok l (p + d) n m (ts.map (mv d)) (q + d) e h1 h2 h3 h4 (by rwa [show p + d + spanK 1 l + (ext m).2 = p + spanK 1 l + (ext m).2 + d by omega])
    rw [List.map_cons]
    have hh : mv d ⟨(ext m).1, m.take (ext m).2, ((p + spanK 1 l : Nat) : Int)⟩ = ⟨(ext m).1, m.take (ext m).2, ((p + d + spanK 1 l : Nat) : Int)⟩ := by
      unfold mv; simp only [Tok.mk.injEq, true_and]; omega
    rw [hh]; exact this
def Blanks (g : List UInt8) : Prop := ∀ c ∈ g, kindB c = 1
theorem Lex.front {g l p n ts q e} (hg : Blanks g) (h : Lex l (p + g.length) n ts q e) : Lex (g ++ l) p n ts q e := by
  apply Lex.unskip
  have hs := spanK_append 1 g l hg
  have hd : (g ++ l).drop (spanK 1 (g ++ l)) = l.drop (spanK 1 l) := by
    rw [hs, List.drop_append]
    rw [List.drop_of_length_le (by omega), show g.length + spanK 1 l - g.length = spanK 1 l by omega]; rfl
  rw [hd, hs, ← Nat.add_assoc]
  exact h.skip

theorem ext_behind {m g : List UInt8} (hm : m ≠ []) (hg : Blanks g) : ext (m ++ g) = ext m := by
  have hsp : ∀ k : Int, k ≠ 1 → spanK k (m ++ g) = spanK k m := by
    intro k hk
    obtain ⟨b, r, hbr, hbl, hb, hr, _⟩ := spanK_split k m
    rw [← hbl]
    conv => lhs; rw [hbr]
    rw [List.append_assoc, spanK_append k b _ hb, spanK_stop, Nat.add_zero]
    intro c hc
    cases r with
    | nil =>
      cases g with
      | nil => cases hc
      | cons y t => simp only [List.nil_append, List.head?_cons, Option.some.injEq] at hc; subst hc; rw [hg _ (by simp)]; exact fun e => hk e.symm
    | cons x t => exact hr c (by simpa using hc)
  cases m with
  | nil => exact absurd rfl hm
  | cons c r =>
    by_cases h2 : kindB c = 2
    · have := hsp 2 (by decide)
      rw [List.cons_append] at this ⊢
      rw [ext_cons2 c _ h2, ext_cons2 c _ h2, this]
    · by_cases h3 : kindB c = 3
      · have := hsp 3 (by decide)
        rw [List.cons_append] at this ⊢
        rw [ext_cons3 c _ h3, ext_cons3 c _ h3, this]
      · rw [List.cons_append, ext_cons4 c _ h2 h3, ext_cons4 c _ h2 h3]
        cases r with
        | nil =>
          cases g with
          | nil => rfl
          | cons y t => rw [List.nil_append, longL_two_of, long_blank c y (hg _ (by simp))]
        | cons x t => rw [List.cons_append, longL_two_of, longL_two_of c x t]
theorem tkE_behind {m g : List UInt8} (hm : m ≠ []) (hg : Blanks g) : tkE (m ++ g) = tkE m := by
  have := ext_le m
  rw [tkE, ext_behind hm hg, List.take_append_of_le_length (by omega)]; rfl

theorem span_behind (l g : List UInt8) (hg : Blanks g) (h : l.drop (spanK 1 l) ≠ []) : spanK 1 (l ++ g) = spanK 1 l := by
  obtain ⟨b, r, hbr, hbl, hb, hr, hrd⟩ := spanK_split 1 l
  rw [← hbl]
  conv => lhs; rw [hbr]
  rw [List.append_assoc, spanK_append 1 b _ hb, spanK_stop, Nat.add_zero]
  intro c hc
  cases r with
  | nil => rw [← hrd] at h; exact absurd rfl h
  | cons x t => exact hr c (by simpa using hc)
theorem Lex.behind {l p n ts q e} (h : Lex l p n ts q e) {g : List UInt8} (hg : Blanks g) : Lex (l ++ g) p n ts (if e = 0 then q + g.length else q) e := by
  induction h with
  | @done l p n h1 =>
    rw [if_pos rfl]
    have hall : ∀ c ∈ l ++ g, kindB c = 1 := by
      intro c hc
      rcases List.mem_append.1 hc with hc | hc
      · have hle := spanK_le 1 l
        have hlen := congrArg List.length h1
        rw [List.length_drop] at hlen
        simp at hlen
        have := spanK_all 1 l c
        rw [List.take_of_length_le (by omega)] at this
        exact this hc
      · exact hg c hc
    have hs : spanK 1 (l ++ g) = l.length + g.length := by
      have := spanK_append 1 (l ++ g) [] hall
      rw [List.append_nil, List.length_append] at this
      exact this
    have hs2 : spanK 1 l = l.length := by
      have := spanK_append 1 l [] (fun c hc => hall c (by simp [hc]))
      rwa [List.append_nil] at this
    have := @Lex.done (l ++ g) p n (by rw [hs, List.drop_of_length_le (by rw [List.length_append]; omega)])
    rw [hs] at this
    rw [hs2, Nat.add_assoc]; exact this
  | @many l p h1 =>
    rw [if_neg (by decide)]
    have hs := span_behind l g hg h1
    have hd : (l ++ g).drop (spanK 1 (l ++ g)) = l.drop (spanK 1 l) ++ g := by rw [hs, List.drop_append_of_le_length (spanK_le _ _)]
    have := @Lex.many (l ++ g) p (by rw [hd]; exact fun e => h1 (List.append_eq_nil_iff.1 e).1)
    rwa [hs] at this
  | @err l p n h1 h2 h3 =>
    rw [if_neg h3]
    have hs := span_behind l g hg h1
    have hd : (l ++ g).drop (spanK 1 (l ++ g)) = l.drop (spanK 1 l) ++ g := by rw [hs, List.drop_append_of_le_length (spanK_le _ _)]
    have ht := tkE_behind h1 hg
    have := @Lex.err (l ++ g) p n (by rw [hd]; exact fun e => h1 (List.append_eq_nil_iff.1 e).1) h2 (by rw [hd, ht]; exact h3)
    rw [hd, ht, hs] at this
    exact this
  | @tok l p n m ts q e h1 h2 h3 h4 h5 ih =>
    subst h1
    have hs := span_behind l g hg h2
    have hd : (l ++ g).drop (spanK 1 (l ++ g)) = l.drop (spanK 1 l) ++ g := by rw [hs, List.drop_append_of_le_length (spanK_le _ _)]
    have hx := ext_behind h2 hg
    have hle := ext_le (l.drop (spanK 1 l))
    have := @Lex.tok (l ++ g) p n (l.drop (spanK 1 l) ++ g) ts (if e = 0 then q + g.length else q) e hd (fun e => h2 (List.append_eq_nil_iff.1 e).1) h3 (by rw [tkE_behind h2 hg]; exact h4)
      (by rw [hx, hs, List.drop_append_of_le_length hle]; exact ih)
    rwa [hx, hs, List.take_append_of_le_length hle] at this
end Go.Proofs.YtlmamidodahgmaaGreatDoor

/- LMath2: Tokens of a text: joined, covered, cut at an error, with blanks put in: plain mathematics. -/
namespace Go.Proofs.YtlmamidodahgmaaGreatDoor
open Go.RowKit
set_option linter.unusedVariables false

def al (L : List Tok) : List (Int × List UInt8) := L.map fun t => (t.k, t.s)
theorem al_mv (d : Nat) (L : List Tok) : al (L.map (mv d)) = al L := by unfold al; rw [List.map_map]; rfl
theorem al_length {L M : List Tok} (h : al L = al M) : L.length = M.length := by simpa [al] using congrArg List.length h

/-! ### valid tokens -/
theorem span_full (k : Int) (s : List UInt8) (h : ∀ c ∈ s, kindB c = k) : spanK k s = s.length := by
  have := spanK_append k s [] h
  rwa [List.append_nil] at this
theorem word_facts : ∀ x ∈ wordL, x ≠ [] ∧ ∀ c ∈ x, kindB c = 3 := by decide
theorem checkE_ok (k : Int) (s : List UInt8) (h : checkE k s = 0) : s ≠ [] ∧ ext s = (k, s.length) ∧ spanK 1 s = 0 := by
  unfold checkE at h
  have key : ∀ j : Int, j ≠ 1 → s ≠ [] → (∀ c ∈ s, kindB c = j) → spanK 1 s = 0 := by
    intro j hj hs hc
    cases s with
    | nil => exact absurd rfl hs
    | cons c r => exact spanK_cons_not 1 c r (by rw [hc c (by simp)]; exact hj)
  by_cases h1 : k = 1
  · rw [if_pos h1] at h
    subst h1
    unfold rdErr at h
    by_cases hd : (allDig s && !s.isEmpty) = true
    · simp only [Bool.and_eq_true, allDig, List.all_eq_true, Bool.not_eq_true', List.isEmpty_eq_false_iff] at hd
      obtain ⟨hd, hs⟩ := hd
      have hk : ∀ c ∈ s, kindB c = 2 := by
        intro c hc
        have := hd c hc
        simp only [isDig, Bool.and_eq_true, decide_eq_true_eq, UInt8.le_iff_toNat_le] at this
        exact kind_digit _ (by have := this.1; simp at this; omega) (by have := this.2; simp at this; omega)
      refine ⟨hs, ?_, key 2 (by decide) hs hk⟩
      cases s with
      | nil => exact absurd rfl hs
      | cons c r => rw [ext_cons2 c r (hk c (by simp)), span_full 2 _ hk]
    · rw [if_neg hd] at h; exact absurd h (by decide)
  · rw [if_neg h1] at h
    by_cases h2 : k = 2
    · rw [if_pos h2] at h
      subst h2
      by_cases hw : isWord s = true
      · have hm : s ∈ wordL := by simpa [isWord] using hw
        obtain ⟨hs, hk⟩ := word_facts s hm
        refine ⟨hs, ?_, key 3 (by decide) hs hk⟩
        cases s with
        | nil => exact absurd rfl hs
        | cons c r => rw [ext_cons3 c r (hk c (by simp)), span_full 3 _ hk]
      · rw [if_neg hw] at h; exact absurd h (by decide)
    · rw [if_neg h2] at h
      by_cases h3 : k = 3
      · rw [if_pos h3] at h
        subst h3
        by_cases hl : longL s = s.length ∧ s ≠ []
        · obtain ⟨hl, hs⟩ := hl
          have hm : s ∈ symL := by
            have := longL_mem s (by rw [hl]; exact fun e => hs (List.eq_nil_of_length_eq_zero e))
            rwa [hl, List.take_length] at this
          have hk := (sym_facts s hm).2
          refine ⟨hs, ?_, key 4 (by decide) hs hk⟩
          cases s with
          | nil => exact absurd rfl hs
          | cons c r =>
            have hc := hk c (by simp)
            rw [ext_cons4 c r (by rw [hc]; decide) (by rw [hc]; decide), hl]
        · rw [if_neg hl] at h; exact absurd h (by decide)
      · rw [if_neg h3] at h; exact absurd h (by decide)
theorem tkE_ok (k : Int) (s : List UInt8) (h : checkE k s = 0) : tkE s = 0 := by
  obtain ⟨_, he, _⟩ := checkE_ok k s h
  rw [tkE, he, List.take_length]; exact h

/-! ### joined -/
def jn : List (List UInt8) → List UInt8
  | [] => []
  | x :: r => x ++ r.flatMap fun y => 32 :: y
theorem jn_snoc (L : List (List UInt8)) (y : List UInt8) : jn (L ++ [y]) = if L = [] then y else jn L ++ 32 :: y := by
  cases L with
  | nil => simp [jn]
  | cons x r => simp [jn]
theorem jn_take_le (L : List (List UInt8)) (k : Nat) : (jn (L.take k)).length ≤ (jn L).length := by
  cases L with
  | nil => simp [jn]
  | cons x r =>
    cases k with
    | zero => simp [jn]
    | succ k =>
      rw [List.take_succ_cons]
      simp only [jn, List.length_append]
      have : ((r.take k).flatMap fun y => 32 :: y).length ≤ (r.flatMap fun y => 32 :: y).length := by
        conv => rhs; rw [← List.take_append_drop k r, List.flatMap_append]
        rw [List.length_append]; omega
      omega

theorem Lex.tail (L : List Tok) : ∀ (p n : Nat), (∀ t ∈ L, checkE t.k t.s = 0) → n + L.length ≤ 200 →
    ∃ ts, Lex (L.flatMap fun t => 32 :: t.s) p n ts (p + (L.flatMap fun t => 32 :: t.s).length) 0 ∧ al ts = al L := by
  induction L with
  | nil => intro p n _ _; exact ⟨[], @Lex.done [] p n rfl, rfl⟩
  | cons t r ih =>
    intro p n hv hn
    rw [List.length_cons] at hn
    have hc := hv t (by simp)
    obtain ⟨hs, he, h1⟩ := checkE_ok _ _ hc
    obtain ⟨ts, hl, ha⟩ := ih (p + 1 + t.s.length) (n + 1) (fun x hx => hv x (by simp [hx])) (by omega)
    have hap : Apart t.s (r.flatMap fun t => 32 :: t.s) := by
      cases r with
      | nil => exact .inl rfl
      | cons y z => exact .inr (.inl ⟨32, _, List.flatMap_cons, by decide⟩)
    have hf := @Lex.first t.s (r.flatMap fun t => 32 :: t.s) (p + 1) n ts _ _ hs (tkE_ok _ _ hc) h1 (by omega) hap (by rw [he]; exact hl)
    rw [he, List.take_length] at hf
    have hfr := @Lex.front [32] (t.s ++ (r.flatMap fun t => 32 :: t.s)) p n _ _ _ (by intro c hc; simp only [List.mem_singleton] at hc; subst hc; decide) hf
    refine ⟨⟨t.k, t.s, ((p + 1 : Nat) : Int)⟩ :: ts, ?_, ?_⟩
    · rw [List.flatMap_cons]
      have e : (32 :: t.s ++ (r.flatMap fun t => 32 :: t.s)).length = 1 + t.s.length + (r.flatMap fun t => 32 :: t.s).length := by simp; omega
      rw [e, show p + (1 + t.s.length + (r.flatMap fun t => 32 :: t.s).length) = p + 1 + t.s.length + (r.flatMap fun t => 32 :: t.s).length by omega]
      exact hfr
    · show (t.k, t.s) :: al ts = (t.k, t.s) :: al r
      rw [ha]
theorem Lex.join (L : List Tok) (hv : ∀ t ∈ L, checkE t.k t.s = 0) (hn : L.length ≤ 200) :
    ∃ ts, Lex (jn (L.map (·.s))) 0 0 ts (jn (L.map (·.s))).length 0 ∧ al ts = al L := by
  cases L with
  | nil => exact ⟨[], @Lex.done [] 0 0 rfl, rfl⟩
  | cons t r =>
    rw [List.length_cons] at hn
    have hc := hv t (by simp)
    obtain ⟨hs, he, h1⟩ := checkE_ok _ _ hc
    obtain ⟨ts, hl, ha⟩ := Lex.tail r t.s.length 1 (fun x hx => hv x (by simp [hx])) (by omega)
    have hap : Apart t.s (r.flatMap fun t => 32 :: t.s) := by
      cases r with
      | nil => exact .inl rfl
      | cons y z => exact .inr (.inl ⟨32, _, List.flatMap_cons, by decide⟩)
    have hf := @Lex.first t.s (r.flatMap fun t => 32 :: t.s) 0 0 ts _ _ hs (tkE_ok _ _ hc) h1 (by decide) hap (by rw [he, Nat.zero_add]; exact hl)
    rw [he, List.take_length] at hf
    have e : jn ((t :: r).map (·.s)) = t.s ++ (r.flatMap fun t => 32 :: t.s) := by simp [jn, List.flatMap_map]
    refine ⟨⟨t.k, t.s, ((0 : Nat) : Int)⟩ :: ts, ?_, ?_⟩
    · rw [e, List.length_append]; exact hf
    · show (t.k, t.s) :: al ts = (t.k, t.s) :: al r
      rw [ha]

/-! ### what All and Join return -/
def allF (s : List UInt8) : List Tok × Nat × Int :=
  if 400 < s.length then ([], 0, 4) else if (lexF (s.length + 1) s 0 0).2.2 = 0 then lexF (s.length + 1) s 0 0 else ([], (lexF (s.length + 1) s 0 0).2)
theorem allF_big (s : List UInt8) (h : 400 < s.length) : allF s = ([], 0, 4) := by rw [allF, if_pos h]
theorem allF_of {s : List UInt8} {ts : List Tok} {q : Nat} {e : Int} (hs : s.length ≤ 400) (h : Lex s 0 0 ts q e) : allF s = (if e = 0 then ts else [], q, e) := by
  obtain ⟨h1, h2, h3⟩ := h.det (lexF_Lex (s.length + 1) s 0 0 (by omega))
  rw [allF, if_neg (by omega), ← h3]
  by_cases he : e = 0
  · rw [if_pos he, if_pos he, h1, h2, h3]
  · rw [if_neg he, if_neg he, h2, h3]
theorem allF_lex (s : List UInt8) (hs : s.length ≤ 400) : ∃ ts q e, Lex s 0 0 ts q e ∧ allF s = (if e = 0 then ts else [], q, e) :=
  ⟨_, _, _, lexF_Lex (s.length + 1) s 0 0 (by omega), allF_of hs (lexF_Lex (s.length + 1) s 0 0 (by omega))⟩
def okL (L : List Tok) : Bool := L.all fun t => checkE t.k t.s == 0
def joinF (L : List Tok) : List UInt8 × Int :=
  if 200 < L.length then ([], 4) else if okL L = true then (if 400 < (jn (L.map (·.s))).length then ([], 18) else (jn (L.map (·.s)), 0)) else ([], 8)

theorem Lex.count {l p n ts q e} (h : Lex l p n ts q e) : n ≤ 200 → n + ts.length ≤ 200 := by
  induction h with
  | done | many | err => intro h; exact h
  | tok _ _ h3 _ _ ih => intro h; rw [List.length_cons]; have := ih (by omega); omega
theorem Lex.valid {l p n ts q e} (h : Lex l p n ts q e) : ∀ t ∈ ts, checkE t.k t.s = 0 := by
  induction h with
  | done | many | err => intro t ht; cases ht
  | tok _ _ _ h4 _ ih =>
    intro t ht
    rcases List.mem_cons.1 ht with rfl | ht
    · exact h4
    · exact ih t ht
theorem checkE_four (k : Int) (s : List UInt8) : checkE k s ≠ 4 := by
  unfold checkE rdErr rdE
  repeat' split
  all_goals decide

/-! ### what stands where -/
def Cover (s : List UInt8) : Nat → List Tok → Prop
  | a, [] => ∀ i (h : i < s.length), a ≤ i → kindB s[i] = 1
  | a, t :: ts => ∃ x : Nat, t.a = x ∧ a ≤ x ∧ x + t.s.length ≤ s.length ∧ (∀ i (h : i < s.length), a ≤ i → i < x → kindB s[i] = 1) ∧ (s.drop x).take t.s.length = t.s ∧ checkE t.k t.s = 0 ∧ Cover s (x + t.s.length) ts
theorem span_at {s : List UInt8} {p : Nat} (i : Nat) (h : i < s.length) (h1 : p ≤ i) (h2 : i < p + spanK 1 (s.drop p)) : kindB s[i] = 1 := by
  have hm : s[i] ∈ (s.drop p).take (spanK 1 (s.drop p)) := by
    rw [List.mem_iff_getElem?]
    refine ⟨i - p, ?_⟩
    rw [List.getElem?_take_of_lt (by omega), List.getElem?_drop, show p + (i - p) = i by omega, List.getElem?_eq_getElem h]
  exact spanK_all 1 _ _ hm
theorem Lex.cover {l p n ts q e} (h : Lex l p n ts q e) : e = 0 → ∀ s : List UInt8, l = s.drop p → p ≤ s.length → Cover s p ts := by
  induction h with
  | @done l p n h1 =>
    intro _ s hl hp i hi hpi
    subst hl
    apply span_at i hi hpi
    have := congrArg List.length h1
    rw [List.length_drop, List.length_drop, List.length_nil] at this
    omega
  | many => intro h; exact absurd h (by decide)
  | err _ _ h3 => intro h; exact absurd h h3
  | @tok l p n m ts q e h1 h2 h3 h4 h5 ih =>
    intro he s hl hp
    subst h1
    have hle := ext_le (l.drop (spanK 1 l))
    have hsl := spanK_le 1 l
    have hll : l.length = s.length - p := by rw [hl, List.length_drop]
    have hml : (l.drop (spanK 1 l)).length = l.length - spanK 1 l := List.length_drop
    have htl : ((l.drop (spanK 1 l)).take (ext (l.drop (spanK 1 l))).2).length = (ext (l.drop (spanK 1 l))).2 := by rw [List.length_take]; omega
    have hm : l.drop (spanK 1 l) = s.drop (p + spanK 1 l) := by rw [hl, List.drop_drop]
    refine ⟨p + spanK 1 l, rfl, by omega, by rw [htl]; omega, ?_, ?_, h4, ?_⟩
    · intro i hi h6 h7
      subst hl
      exact span_at i hi h6 h7
    · rw [htl, ← hm]
    · rw [htl]
      exact ih he s (by rw [hm, List.drop_drop]) (by omega)

/-! ### where an error is -/
theorem Lex.done_take (l : List UInt8) (p n k : Nat) (hk : k ≤ spanK 1 l) : Lex (l.take k) p n [] (p + k) 0 := by
  have hle := spanK_le 1 l
  have hl : (l.take k).length = k := by rw [List.length_take]; omega
  have hs : spanK 1 (l.take k) = k := by
    rw [span_full 1, hl]
    intro c hc
    apply spanK_all 1 l
    have : l.take k = (l.take (spanK 1 l)).take k := by rw [List.take_take, Nat.min_eq_left hk]
    rw [this] at hc
    exact List.mem_of_mem_take hc
  have := @Lex.done (l.take k) p n (by rw [hs, List.drop_of_length_le (by omega)])
  rwa [hs] at this
theorem Lex.prefix {l p n ts q e} (h : Lex l p n ts q e) : e ≠ 0 → ∃ x : Nat, q = p + x ∧ (∃ hx : x < l.length, kindB l[x] ≠ 1) ∧ Lex (l.take x) p n ts q 0 ∧ (e ≠ 4 → Lex (l.drop x) 0 0 [] 0 e) := by
  have hd : ∀ l : List UInt8, l.drop (spanK 1 l) ≠ [] → ∃ hx : spanK 1 l < l.length, kindB l[spanK 1 l] ≠ 1 := by
    intro l h1
    have hl := List.length_pos_iff.2 h1
    rw [List.length_drop] at hl
    refine ⟨by omega, ?_⟩
    exact spanK_next 1 l _ _ (List.drop_eq_getElem_cons (by omega))
  induction h with
  | done => intro h; exact absurd rfl h
  | @many l p h1 => intro _; exact ⟨_, rfl, hd l h1, Lex.done_take l p 200 _ (Nat.le_refl _), fun h => absurd rfl h⟩
  | @err l p n h1 h2 h3 =>
    intro _
    refine ⟨_, rfl, hd l h1, Lex.done_take l p n _ (Nat.le_refl _), fun _ => ?_⟩
    have h0 := spanK_drop 1 l
    have := @Lex.err (l.drop (spanK 1 l)) 0 0 (by rw [h0]; exact h1) (by decide) (by rw [h0]; exact h3)
    rw [h0] at this
    exact this
  | @tok l p n m ts q e h1 h2 h3 h4 h5 ih =>
    intro he
    obtain ⟨x, hq, ⟨hx, hk⟩, hp, ho⟩ := ih he
    subst h1
    have hle := ext_le (l.drop (spanK 1 l))
    have hsl := spanK_le 1 l
    have hml : (l.drop (spanK 1 l)).length = l.length - spanK 1 l := List.length_drop
    rw [List.length_drop] at hx
    have hdd : l.drop (spanK 1 l + (ext (l.drop (spanK 1 l))).2 + x) = ((l.drop (spanK 1 l)).drop (ext (l.drop (spanK 1 l))).2).drop x := by
      rw [List.drop_drop, List.drop_drop, Nat.add_assoc]
    refine ⟨spanK 1 l + (ext (l.drop (spanK 1 l))).2 + x, by omega, ⟨by omega, ?_⟩, ?_, fun h => ?_⟩
    · rw [List.getElem_drop, List.getElem_drop] at hk
      rw [show l[spanK 1 l + (ext (l.drop (spanK 1 l))).2 + x]'(by omega) = l[spanK 1 l + ((ext (l.drop (spanK 1 l))).2 + x)]'(by omega) from by congr 1; omega]
      exact hk
    · have hap : Apart (l.drop (spanK 1 l)) (((l.drop (spanK 1 l)).drop (ext (l.drop (spanK 1 l))).2).take x) := by
        cases x with
        | zero => exact .inl rfl
        | succ x =>
          cases hc : (l.drop (spanK 1 l)).drop (ext (l.drop (spanK 1 l))).2 with
          | nil => exact .inl rfl
          | cons b Z => exact .inr (.inr ⟨b, Z.take x, Z, by rw [List.take_succ_cons], hc⟩)
      have hf := Lex.first h2 h4 (spanK_drop 1 l) h3 hap hp
      have hfr := @Lex.front (l.take (spanK 1 l)) _ p n _ _ _ (spanK_all 1 l) (by rw [List.length_take, Nat.min_eq_left hsl]; exact hf)
      have e1 : l.take (spanK 1 l + (ext (l.drop (spanK 1 l))).2 + x) = l.take (spanK 1 l) ++ ((l.drop (spanK 1 l)).take (ext (l.drop (spanK 1 l))).2 ++ ((l.drop (spanK 1 l)).drop (ext (l.drop (spanK 1 l))).2).take x) := by
        rw [Nat.add_assoc, List.take_add, List.take_add]
      rw [e1]; exact hfr
    · rw [hdd]; exact ho h

/-! ### blanks in front of a token -/
theorem Lex.insert {l p n ts q e} (h : Lex l p n ts q e) {g : List UInt8} (hg : Blanks g) : e = 0 → ∀ i (hi : i < ts.length), ∃ x : Nat, ts[i].a = ((p + x : Nat) : Int) ∧ x ≤ l.length ∧
    ∃ ts', Lex (l.take x ++ (g ++ l.drop x)) p n ts' (q + g.length) 0 ∧ al ts' = al ts := by
  induction h with
  | done => intro _ i hi; simp at hi
  | many => intro h; exact absurd h (by decide)
  | err _ _ h3 => intro h; exact absurd h h3
  | @tok l p n m ts q e h1 h2 h3 h4 h5 ih =>
    intro he i hi
    have hself := @Lex.tok l p n m ts q e h1 h2 h3 h4 h5
    subst he
    subst h1
    have hsl := spanK_le 1 l
    have hle := ext_le (l.drop (spanK 1 l))
    have hml : (l.drop (spanK 1 l)).length = l.length - spanK 1 l := List.length_drop
    have htl : (l.take (spanK 1 l)).length = spanK 1 l := by rw [List.length_take, Nat.min_eq_left hsl]
    cases i with
    | zero =>
      refine ⟨spanK 1 l, rfl, hsl, _, ?_, al_mv g.length _⟩
      rw [← List.append_assoc]
      apply Lex.front
      · intro c hc
        rcases List.mem_append.1 hc with hc | hc
        · exact spanK_all 1 l c hc
        · exact hg c hc
      · rw [List.length_append, htl, ← Nat.add_assoc]
        exact hself.skip.shift g.length
    | succ i =>
      obtain ⟨x, hx, hxl, ts', hl, ha⟩ := ih rfl i (by simpa using hi)
      rw [List.length_drop] at hxl
      refine ⟨spanK 1 l + (ext (l.drop (spanK 1 l))).2 + x, ?_, by omega, ?_⟩
      · rw [List.getElem_cons_succ, hx]; congr 1; omega
      · have hap : Apart (l.drop (spanK 1 l)) (((l.drop (spanK 1 l)).drop (ext (l.drop (spanK 1 l))).2).take x ++ (g ++ ((l.drop (spanK 1 l)).drop (ext (l.drop (spanK 1 l))).2).drop x)) := by
          cases hc : (l.drop (spanK 1 l)).drop (ext (l.drop (spanK 1 l))).2 with
          | nil =>
            cases g with
            | nil => left; simp
            | cons b t => exact .inr (.inl ⟨b, t, by simp, hg b (by simp)⟩)
          | cons b Z =>
            cases x with
            | zero =>
              cases g with
              | nil => exact .inr (.inr ⟨b, Z, Z, by simp, hc⟩)
              | cons y t => exact .inr (.inl ⟨y, t ++ b :: Z, by simp, hg y (by simp)⟩)
            | succ x => exact .inr (.inr ⟨b, _, Z, by rw [List.take_succ_cons, List.cons_append], hc⟩)
        have hf := Lex.first h2 h4 (spanK_drop 1 l) h3 hap hl
        have hfr := @Lex.front (l.take (spanK 1 l)) _ p n _ _ _ (spanK_all 1 l) (by rw [htl]; exact hf)
        refine ⟨⟨(ext (l.drop (spanK 1 l))).1, (l.drop (spanK 1 l)).take (ext (l.drop (spanK 1 l))).2, ((p + spanK 1 l : Nat) : Int)⟩ :: ts', ?_, ?_⟩
        · have e1 : l.take (spanK 1 l + (ext (l.drop (spanK 1 l))).2 + x) = l.take (spanK 1 l) ++ ((l.drop (spanK 1 l)).take (ext (l.drop (spanK 1 l))).2 ++ ((l.drop (spanK 1 l)).drop (ext (l.drop (spanK 1 l))).2).take x) := by
            rw [Nat.add_assoc, List.take_add, List.take_add]
          have e2 : l.drop (spanK 1 l + (ext (l.drop (spanK 1 l))).2 + x) = ((l.drop (spanK 1 l)).drop (ext (l.drop (spanK 1 l))).2).drop x := by
            rw [List.drop_drop, List.drop_drop, Nat.add_assoc]
          rw [e1, e2]
          simp only [List.append_assoc] at hfr ⊢
          exact hfr
        · show (_, _) :: al ts' = (_, _) :: al ts
          rw [ha]
end Go.Proofs.YtlmamidodahgmaaGreatDoor

/- LFun: Contracts of behind, extent and check of package lexer, and of the reference's run. -/
namespace Go.Proofs.YtlmamidodahgmaaGreatDoor
open Go.ChangeShapes Go.WideShapes Go.ChangeAt Go.RowKit
set_option linter.unusedVariables false

theorem kind_v (c v : Int) (w : World) (hv : kindI c = v) : Calls Tryz.prog 52 #[.int .u8 c] w fun e w' => e = .returned (.int .u8 v) ∧ Below w.heap.size w w' := by
  subst hv; exact kind_any c w
theorem span_yes (k : Int) (s : ByteArray) (j : Nat) (h : j < s.size) (hk : kindI (s[j].toNat : Int) = k) : spanK k (s.data.toList.drop j) = spanK k (s.data.toList.drop (j + 1)) + 1 := by
  rw [List.drop_eq_getElem_cons (by simpa using h)]
  exact spanK_cons k _ _ hk
theorem span_no (k : Int) (s : ByteArray) (j : Nat) (h : j < s.size) (hk : kindI (s[j].toNat : Int) ≠ k) : spanK k (s.data.toList.drop j) = 0 := by
  rw [List.drop_eq_getElem_cons (by simpa using h)]
  exact spanK_cons_not k _ _ hk
theorem span_end (k : Int) (s : ByteArray) (j : Nat) (h : ¬ j < s.size) : spanK k (s.data.toList.drop j) = 0 := by
  rw [List.drop_eq_nil_of_le (by simp; omega)]; rfl

set_option maxHeartbeats 400000 in
theorem behind_any (s : ByteArray) (a : Nat) (k : Int) (r : Nat) (w : World) (hs : s.size ≤ maxLen) (ha : a ≤ s.size) (hr : a + spanK k (s.data.toList.drop a) = r) :
    Calls Tryz.prog 27 #[.string s, .int .i64 a, .int .u8 k] w fun e w' => e = .returned (.int .i64 r) ∧ Below w.heap.size w w' := by
  unfold maxLen at hs
  have HR := Lib.hid hr
  clear hr
  go_enter Tryz.func27, Tryz.ntmps27
  go_wp2
  go_loopw [1] (fun i wr => ∃ j : Nat, a ≤ j ∧ j ≤ s.size ∧ i = .int .i64 j ∧ j + spanK k (s.data.toList.drop j) = r ∧ Below w.heap.size w wr) (fun i _ => s.size - (intOf i).toNat)
  case atStart => exact ⟨a, Nat.le_refl _, ha, rfl, HR.out, Below.refl _ _⟩
  case round =>
    obtain ⟨j, hj1, hj, rfl, hd, hb⟩ := hrel
    have HD := Lib.hid hd
    clear hd
    by_cases hlt : j < s.size
    · obtain ⟨v, hv⟩ : ∃ v, kindI (s[j].toNat : Int) = v := ⟨_, rfl⟩
      have HV := Lib.hid hv
      clear hv
      by_cases he : v = k
      · have HS := Lib.hid (span_yes k s j hlt (HV.out.trans he))
        have he' : (v == k) = true := by simpa using he
        clear he
        go_wp2_with (go_at_call 52; refine (kind_v _ v _ HV.out).mono ?_; rintro e w' ⟨rfl, hb1⟩)
        go_roundw
        case rel => exact ⟨j + 1, by omega, by omega, by go_num, by rw [← HD.out, HS.out]; omega, hb.trans (hb1.mono hb.size)⟩
        case measure => simp [intOf]; omega
      · have HS := Lib.hid (span_no k s j hlt (by rw [HV.out]; exact he))
        have he' : (v == k) = false := by simpa using he
        clear he
        go_wp2_with (go_at_call 52; refine (kind_v _ v _ HV.out).mono ?_; rintro e w' ⟨rfl, hb1⟩)
        go_ret
        exact ⟨ret_int' (by rw [← HD.out, HS.out]; rfl), hb.trans (hb1.mono hb.size)⟩
    · have HS := Lib.hid (span_end k s j hlt)
      go_wp2
      go_ret
      exact ⟨ret_int' (by rw [← HD.out, HS.out]; rfl), hb⟩
end Go.Proofs.YtlmamidodahgmaaGreatDoor

/- LFun2: Contracts of extent and check of package lexer. -/
namespace Go.Proofs.YtlmamidodahgmaaGreatDoor
open Go.ChangeShapes Go.WideShapes Go.ChangeAt Go.RowKit
set_option linter.unusedVariables false

theorem bd_drewN (w : World) (n : Nat) : Below w.heap.size w (w.drewN n) := Below.drewN' (Below.refl _ _) n
theorem symbol_b (s : ByteArray) (a m : Nat) (w : World) (hs : s.size ≤ maxLen) (ha : a ≤ s.size) (hn : longL (s.data.toList.drop a) = m) (ht : Tabs w) :
    Calls Tryz.prog 53 #[.string s, .int .i64 a] w fun e w' => e = .returned (.tuple #[.int .i64 m, .int .i64 0]) ∧ Below w.heap.size w w' := by
  subst hn
  exact (symbol_in s a w hs ht ha).mono fun e w' ⟨he, n, hw⟩ => by subst hw; exact ⟨he, bd_drewN _ _⟩
theorem symbol_0 (s : ByteArray) (m : Nat) (w : World) (hs : s.size ≤ maxLen) (hn : longL s.data.toList = m) (ht : Tabs w) :
    Calls Tryz.prog 53 #[.string s, .int .i64 0] w fun e w' => e = .returned (.tuple #[.int .i64 m, .int .i64 0]) ∧ Below w.heap.size w w' :=
  symbol_b s 0 m w hs (Nat.zero_le _) (by rw [List.drop_zero]; exact hn) ht
theorem word_v (s : ByteArray) (b : Bool) (w : World) (hb : isWord s.data.toList = b) (ht : Tabs w) : Calls Tryz.prog 55 #[.string s] w fun e w' => e = .returned (.bool b) ∧ w = w' := by
  subst hb; exact word_any s w ht

/-- What extent returns. -/
theorem drop_at (s : ByteArray) (a : Nat) (h : a < s.size) : s.data.toList.drop a = s[a] :: s.data.toList.drop (a + 1) := List.drop_eq_getElem_cons (by simpa using h)

theorem extent_d (s : ByteArray) (a : Nat) (r : Nat) (w : World) (hs : s.size ≤ maxLen) (ha : a < s.size) (ht : Tabs w) (hk : kindI (s[a].toNat : Int) = 2) (hr : a + spanK 2 (s.data.toList.drop a) = r) :
    Calls Tryz.prog 28 #[.string s, .int .i64 a] w fun e w' => e = .returned (.tuple #[.int .u8 1, .int .i64 r]) ∧ Below w.heap.size w w' := by
  have HR := Lib.hid (fun w => behind_any s a 2 r w hs (Nat.le_of_lt ha) hr)
  have HK := Lib.hid (fun w => kind_v _ 2 w hk)
  clear hr hk ht
  go_enter Tryz.func28, Tryz.ntmps28
  go_wp2_with (first | (go_at_call 52; refine (HK.out _).mono ?_; rintro e w1 ⟨rfl, hb1⟩) | (go_at_call 27; refine (HR.out _).mono ?_; rintro e w2 ⟨rfl, hb2⟩))
  go_ret2
  exact ⟨rfl, hb1.trans (hb2.mono hb1.size)⟩
theorem extent_w (s : ByteArray) (a : Nat) (r : Nat) (w : World) (hs : s.size ≤ maxLen) (ha : a < s.size) (ht : Tabs w) (hk : kindI (s[a].toNat : Int) = 3) (hr : a + spanK 3 (s.data.toList.drop a) = r) :
    Calls Tryz.prog 28 #[.string s, .int .i64 a] w fun e w' => e = .returned (.tuple #[.int .u8 2, .int .i64 r]) ∧ Below w.heap.size w w' := by
  have HR := Lib.hid (fun w => behind_any s a 3 r w hs (Nat.le_of_lt ha) hr)
  have HK := Lib.hid (fun w => kind_v _ 3 w hk)
  clear hr hk ht
  go_enter Tryz.func28, Tryz.ntmps28
  go_wp2_with (first | (go_at_call 52; refine (HK.out _).mono ?_; rintro e w1 ⟨rfl, hb1⟩) | (go_at_call 27; refine (HR.out _).mono ?_; rintro e w2 ⟨rfl, hb2⟩))
  go_ret2
  exact ⟨rfl, hb1.trans (hb2.mono hb1.size)⟩
theorem extent_s (s : ByteArray) (a : Nat) (m r : Nat) (w : World) (hs : s.size ≤ maxLen) (ha : a < s.size) (ht : Tabs w) (v : Int) (hk : kindI (s[a].toNat : Int) = v) (h2 : v ≠ 2) (h3 : v ≠ 3) (hm : longL (s.data.toList.drop a) = m) (hr : a + m = r) :
    Calls Tryz.prog 28 #[.string s, .int .i64 a] w fun e w' => e = .returned (.tuple #[.int .u8 3, .int .i64 r]) ∧ Below w.heap.size w w' := by
  have hle := longL_two (s.data.toList.drop a)
  rw [hm] at hle
  have hml : a + m ≤ s.size := by
    have := longL_le (s.data.toList.drop a)
    rw [hm, List.length_drop] at this
    simp at this
    omega
  have HR := Lib.hid (fun w ht => symbol_b s a m w hs (Nat.le_of_lt ha) hm ht)
  have HK := Lib.hid (fun w => kind_v _ v w hk)
  have HT := Lib.hid ht
  have hv2 : (v == 2) = false := by simpa using h2
  have hv3 : (v == 3) = false := by simpa using h3
  have hE : ∀ (e : Ending), e = .returned (.tuple #[.int .u8 3, .int .i64 ((a : Int) + (m : Int))]) → e = .returned (.tuple #[.int .u8 3, .int .i64 r]) := fun e h => by rw [h, ← hr]; rfl
  have HE := Lib.hid hE
  clear hr hk ht h2 h3 hm hE
  unfold maxLen at hs
  go_enter Tryz.func28, Tryz.ntmps28
  go_wp2_with (first | (go_at_call 52; refine (HK.out _).mono ?_; rintro e w1 ⟨rfl, hb1⟩) | (go_at_call 53; refine (HR.out _ (HT.out.stays hb1)).mono ?_; rintro e w2 ⟨rfl, hb2⟩))
  go_ret2
  exact ⟨HE.out _ rfl, hb1.trans (hb2.mono hb1.size)⟩
theorem extent_any (s : ByteArray) (a : Nat) (k : Int) (n r : Nat) (w : World) (hs : s.size ≤ maxLen) (ha : a < s.size) (ht : Tabs w) (he : ext (s.data.toList.drop a) = (k, n)) (hr : a + n = r) :
    Calls Tryz.prog 28 #[.string s, .int .i64 a] w fun e w' => e = .returned (.tuple #[.int .u8 k, .int .i64 r]) ∧ Below w.heap.size w w' := by
  have hd := drop_at s a ha
  rw [hd] at he
  by_cases h2 : kindI (s[a].toNat : Int) = 2
  · rw [ext_cons2 _ _ h2, ← hd] at he
    obtain ⟨rfl, rfl⟩ := Prod.mk.inj he
    exact extent_d s a r w hs ha ht h2 hr
  · by_cases h3 : kindI (s[a].toNat : Int) = 3
    · rw [ext_cons3 _ _ h3, ← hd] at he
      obtain ⟨rfl, rfl⟩ := Prod.mk.inj he
      exact extent_w s a r w hs ha ht h3 hr
    · rw [ext_cons4 _ _ h2 h3, ← hd] at he
      obtain ⟨rfl, rfl⟩ := Prod.mk.inj he
      exact extent_s s a _ r w hs ha ht _ rfl h2 h3 rfl hr

theorem check_1 (s : ByteArray) (v : Int) (w : World) (hs : s.size ≤ maxLen) (hv : rdErr s.data.toList = v) :
    Calls Tryz.prog 29 #[.int .u8 1, .string s] w fun e w' => e = .returned (.int .i64 v) ∧ Below w.heap.size w w' := by
  obtain ⟨y, hy⟩ := iread_any s w hs
  rw [hv] at hy
  have HY := Lib.hid hy
  clear hy hv
  go_enter Tryz.func29, Tryz.ntmps29
  go_wp2_with (go_at_call 54; refine (HY.out).mono ?_; rintro e w1 ⟨rfl, rfl⟩)
  go_ret
  exact ⟨rfl, Below.refl _ _⟩
theorem check_2y (s : ByteArray) (w : World) (ht : Tabs w) (hv : isWord s.data.toList = true) :
    Calls Tryz.prog 29 #[.int .u8 2, .string s] w fun e w' => e = .returned (.int .i64 0) ∧ Below w.heap.size w w' := by
  have HY := Lib.hid (word_v s true w hv ht)
  clear ht hv
  go_enter Tryz.func29, Tryz.ntmps29
  go_wp2_with (go_at_call 55; refine (HY.out).mono ?_; rintro e w1 ⟨rfl, rfl⟩)
  go_ret
  exact ⟨rfl, Below.refl _ _⟩
theorem check_2n (s : ByteArray) (w : World) (ht : Tabs w) (hv : isWord s.data.toList = false) :
    Calls Tryz.prog 29 #[.int .u8 2, .string s] w fun e w' => e = .returned (.int .i64 32) ∧ Below w.heap.size w w' := by
  have HY := Lib.hid (word_v s false w hv ht)
  clear ht hv
  go_enter Tryz.func29, Tryz.ntmps29
  go_wp2_with (go_at_call 55; refine (HY.out).mono ?_; rintro e w1 ⟨rfl, rfl⟩)
  go_ret
  exact ⟨rfl, Below.refl _ _⟩
theorem check_3y (s : ByteArray) (m : Nat) (w : World) (hs : s.size ≤ maxLen) (ht : Tabs w) (hm : longL s.data.toList = m) (h0 : 0 < m) (h1 : m = s.size) :
    Calls Tryz.prog 29 #[.int .u8 3, .string s] w fun e w' => e = .returned (.int .i64 0) ∧ Below w.heap.size w w' := by
  have HY := Lib.hid (symbol_0 s m w hs hm ht)
  have e1 : ((m : Int) == (s.size : Int)) = true := by rw [h1]; simp
  have e2 : decide ((m : Int) = (s.size : Int)) = true := by rw [h1]; simp
  clear ht hm
  go_enter Tryz.func29, Tryz.ntmps29
  go_wp2_with (go_at_call 53; refine (HY.out).mono ?_; rintro e w1 ⟨rfl, hb1⟩)
  go_ret
  exact ⟨rfl, hb1⟩
theorem check_3z (s : ByteArray) (m : Nat) (w : World) (hs : s.size ≤ maxLen) (ht : Tabs w) (hm : longL s.data.toList = m) (h0 : m = 0) :
    Calls Tryz.prog 29 #[.int .u8 3, .string s] w fun e w' => e = .returned (.int .i64 32) ∧ Below w.heap.size w w' := by
  have HY := Lib.hid (symbol_0 s m w hs hm ht)
  have e1 : ¬ 0 < m := by omega
  clear ht hm
  go_enter Tryz.func29, Tryz.ntmps29
  go_wp2_with (go_at_call 53; refine (HY.out).mono ?_; rintro e w1 ⟨rfl, hb1⟩)
  go_ret
  exact ⟨rfl, hb1⟩
theorem check_3n (s : ByteArray) (m : Nat) (w : World) (hs : s.size ≤ maxLen) (ht : Tabs w) (hm : longL s.data.toList = m) (h0 : 0 < m) (h1 : m ≠ s.size) :
    Calls Tryz.prog 29 #[.int .u8 3, .string s] w fun e w' => e = .returned (.int .i64 32) ∧ Below w.heap.size w w' := by
  have HY := Lib.hid (symbol_0 s m w hs hm ht)
  have e1 : ((m : Int) == (s.size : Int)) = false := by simp; omega
  clear ht hm
  go_enter Tryz.func29, Tryz.ntmps29
  go_wp2_with (go_at_call 53; refine (HY.out).mono ?_; rintro e w1 ⟨rfl, hb1⟩)
  go_ret
  exact ⟨rfl, hb1⟩
theorem check_o (s : ByteArray) (k : Int) (w : World) (h1 : k ≠ 1) (h2 : k ≠ 2) (h3 : k ≠ 3) :
    Calls Tryz.prog 29 #[.int .u8 k, .string s] w fun e w' => e = .returned (.int .i64 32) ∧ Below w.heap.size w w' := by
  have e1 : (k == 1) = false := by simpa using h1
  have e2 : (k == 2) = false := by simpa using h2
  have e3 : (k == 3) = false := by simpa using h3
  clear h1 h2 h3
  go_enter Tryz.func29, Tryz.ntmps29
  go_wp2
  go_ret
  exact ⟨rfl, Below.refl _ _⟩
theorem check_any (k : Int) (s : ByteArray) (v : Int) (w : World) (hs : s.size ≤ maxLen) (ht : Tabs w) (hv : checkE k s.data.toList = v) :
    Calls Tryz.prog 29 #[.int .u8 k, .string s] w fun e w' => e = .returned (.int .i64 v) ∧ Below w.heap.size w w' := by
  unfold checkE at hv
  have hlen : s.data.toList.length = s.size := by simp
  by_cases h1 : k = 1
  · rw [if_pos h1] at hv; subst h1; exact check_1 s v w hs hv
  · rw [if_neg h1] at hv
    by_cases h2 : k = 2
    · rw [if_pos h2] at hv; subst h2
      cases hw : isWord s.data.toList
      · rw [if_neg (by rw [hw]; decide)] at hv; subst hv; exact check_2n s w ht hw
      · rw [if_pos hw] at hv; subst hv; exact check_2y s w ht hw
    · rw [if_neg h2] at hv
      by_cases h3 : k = 3
      · rw [if_pos h3] at hv; subst h3
        by_cases hl : longL s.data.toList = s.data.toList.length ∧ s.data.toList ≠ []
        · rw [if_pos hl] at hv; subst hv
          have := List.length_pos_iff.2 hl.2
          exact check_3y s _ w hs ht rfl (by omega) (by omega)
        · rw [if_neg hl] at hv; subst hv
          rcases Nat.eq_zero_or_pos (longL s.data.toList) with h0 | h0
          · exact check_3z s _ w hs ht rfl h0
          · refine check_3n s _ w hs ht rfl h0 (fun e => hl ⟨by omega, ?_⟩)
            intro hn
            rw [hn] at h0
            exact absurd h0 (by decide)
      · rw [if_neg h3] at hv; subst hv; exact check_o s k w h1 h2 h3
end Go.Proofs.YtlmamidodahgmaaGreatDoor
