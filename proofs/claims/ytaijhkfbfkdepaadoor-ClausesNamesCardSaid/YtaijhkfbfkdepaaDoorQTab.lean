/- The table of names; contracts of Name, Source, and of the reference's Name, Source, Window. -/
import Derived.Test.YtaijhkfbfkdepaaDoorQSrc
import Derived.Test.YtaijhkfbfkdepaaDoorRows
import Derived.LaidMore
import Derived.Stop.Joined
import Derived.Stop.LaidErr
import Derived.Lib.LaidTab
import Derived.Laws.Rows
import Derived.LoopTactic
namespace Go.Proofs.YtaijhkfbfkdepaaDoor.Q8
open Go.Lib Go.ChangeShapes Go.WideShapes Go.ChangeAt Go.RowKit N4
set_option linter.unusedVariables false
set_option linter.unusedSimpArgs false
set_option maxRecDepth 100000

def bytesOf (l : List UInt8) : ByteArray := ⟨l.toArray⟩
theorem bytesOf_toList (l : List UInt8) : (bytesOf l).toList = l := by rw [ByteArray.toList_eq]; simp [bytesOf]
def strsOf (L : List (List UInt8)) : Array Value := (L.map fun b => Value.string (bytesOf b)).toArray
def namL : List (List UInt8) := [[97], [98], [99], [100]]
/-- Global g of array type holds the strings L. -/
def Tab (w : World) (g : Nat) (L : List (List UInt8)) : Prop := ∃ t fr, w.heap[g]? = some (.cells (strsOf L) t fr)
theorem Tab.stays {w w' : World} {g : Nat} {L : List (List UInt8)} (h : Tab w g L) (hb : Below w.heap.size w w') : Tab w' g L := by
  obtain ⟨t, fr, h⟩ := h
  refine ⟨t, fr, ?_⟩
  rw [hb.block g ?_, h]
  exact (Array.getElem?_eq_some_iff.1 h).1
def NamT (w : World) : Prop := Tab w 0 namL
theorem NamT.stays {w w' : World} (h : NamT w) (hb : Below w.heap.size w w') : NamT w' := Tab.stays h hb
def strData {H : Type} (L : List (List UInt8)) : DataW H := .agg (L.map fun b => .lit (.string b))
theorem cells_of_strs {H : Type} {enc : TypeId × Value → H} {P : Program} {w : World} {base : Nat} {sp : Nat → Bool} {held : Bool} {fuel : Nat} {t e : TypeId} {n : Nat} {cs : List Value} {L : List (List UInt8)} {p : List MemPlace}
    (ht : P.underlying t = some (.array n e)) (he : P.underlying e = some .string) (hce : P.cellsOf e = 1) (hct : P.cellsOf t = n)
    (h : DataW.trod enc P w base sp held fuel t cs = some (strData L, p)) : cs.toArray = strsOf L := by
  cases fuel with
  | zero => simp [DataW.trod] at h
  | succ fuel =>
    simp only [DataW.trod, ht, hce, hct, Nat.mul_one] at h
    split at h
    · rename_i hl
      obtain ⟨xs, hm, hx⟩ := Option.map_eq_some_iff.1 h
      have hxs : xs.map (·.1) = L.map fun b => (DataW.lit (.string b) : DataW H) := by
        have := congrArg Prod.fst hx
        simpa [strData] using this
      have hxl : xs.length = n := by simpa using mapM_length hm
      have hzl : L.length = n := by
        have := congrArg List.length hxs
        simp at this
        omega
      have : cs = L.map fun b => Value.string (bytesOf b) := by
        apply List.ext_getElem?
        intro i
        by_cases hi : i < n
        · obtain ⟨b, hb, hf⟩ := mapM_at hm i i (by simp [hi])
          obtain ⟨z, hc, rfl, _⟩ := DataW.trod_string he hf
          have h1 : cs[i]? = some (.string z) := by
            have := congrArg (·[0]?) hc
            simpa [List.getElem?_take, List.getElem?_drop] using this
          have h2 : (xs.map (·.1))[i]? = some (DataW.lit (.string z.data.toList) : DataW H) := by simp [hb]
          rw [hxs] at h2
          simp only [List.getElem?_map, Option.map_eq_some_iff, DataW.lit.injEq, Lit.string.injEq] at h2
          obtain ⟨z', hz', rfl⟩ := h2
          simp [h1, hz', bytesOf]
        · rw [List.getElem?_eq_none (by omega), List.getElem?_eq_none (by simp; omega)]
      rw [this]; rfl
    · cases h
theorem strs_of_head {P : Program} {W : World} {name : String} {L : List (List UInt8)} {rest : List (String × DataW Unit)} {g : Nat} {t e : TypeId} {n : Nat}
    (hg : P.globalNamed name = some g) (hty : (P.globals[g]?).map (·.type) = some t) (ht : P.underlying t = some (.array n e)) (he : P.underlying e = some .string) (hce : P.cellsOf e = 1) (hct : P.cellsOf t = n)
    (h : laidMet P ((name, strData L) :: rest) W) : Tab W g L := by
  obtain ⟨ps, ⟨g', t', cs, fuel, p, q, hg', ht', hvar, hd, _, _⟩, _⟩ := h
  obtain rfl := Option.some.inj (hg.symm.trans hg')
  obtain rfl := Option.some.inj (hty.symm.trans ht')
  have hc := cells_of_strs ht he hce hct hd
  unfold World.var? at hvar
  rw [hg] at hvar
  simp only [Option.bind_some] at hvar
  split at hvar
  · rename_i cs' t2 fr hh
    simp only [Option.some.injEq] at hvar
    subst hvar
    rw [Array.toArray_toList] at hc
    subst hc
    exact ⟨t2, fr, hh⟩
  · cases hvar
theorem nam_of_laid {W : World} (h : laidMet Tryd.prog [("tailwater/clauses.names", Rows.laid_tailwater_clauses_names)] W) : NamT W := by
  have h' : laidMet Tryd.prog (("tailwater/clauses.names", strData namL) :: []) W := h
  exact strs_of_head (by kernel_rfl) (by kernel_rfl) Tryd.underlying62 Tryd.underlying9 (by kernel_rfl) (by kernel_rfl) h'
theorem NamT.cells {w : World} (h : NamT w) : 0 < w.heap.size ∧ w.cell? ⟨0, 0, none⟩ = some (.string ⟨#[97]⟩) ∧ w.cell? ⟨0, 1, none⟩ = some (.string ⟨#[98]⟩) ∧ w.cell? ⟨0, 2, none⟩ = some (.string ⟨#[99]⟩) ∧ w.cell? ⟨0, 3, none⟩ = some (.string ⟨#[100]⟩) := by
  obtain ⟨t, fr, hg⟩ := h
  refine ⟨(Array.getElem?_eq_some_iff.1 hg).1, ?_, ?_, ?_, ?_⟩ <;> (unfold World.cell?; rw [hg]; rfl)
def nmF (i : Int) : ByteArray := if i = 0 then ⟨#[97]⟩ else if i = 1 then ⟨#[98]⟩ else if i = 2 then ⟨#[99]⟩ else if i = 3 then ⟨#[100]⟩ else ⟨#[]⟩
def nmE (i : Int) : Int := if inB i 0 3 then 0 else 2
theorem nm_out {i : Int} (h : inB i 0 3 = false) : nmF i = ⟨#[]⟩ ∧ nmE i = 2 := by
  have hn : ¬ (0 ≤ i ∧ i ≤ 3) := fun hh => by rw [inB_true.2 hh] at h; cases h
  refine ⟨?_, by simp [nmE, h]⟩
  unfold nmF
  rw [if_neg (by omega), if_neg (by omega), if_neg (by omega), if_neg (by omega)]
theorem name_any (i : Int) (w : World) (h : NamT w) : Calls Tryd.prog 12 #[.int .i64 i] w fun e w' => e = .returned (.tuple #[.string (nmF i), .int .i64 (nmE i)]) ∧ w = w' := by
  cases hin : inB i 0 3
  · have HN := Lib.hid (fun W => nameless_any i W true (by simp [nl, hin]))
    obtain ⟨e1, e2⟩ := nm_out hin
    rw [e1, e2]
    clear hin h e1 e2
    go_enter Tryd.func12, Tryd.ntmps12
    go_wp2_with (go_at_call 23; refine (HN.out _).mono ?_; rintro e w1 ⟨rfl, rfl⟩)
    go_ret2
    exact ⟨rfl, rfl⟩
  · have HN := Lib.hid (fun W => nameless_any i W false (by simp [nl, hin]))
    obtain ⟨c0, c1, c2, c3, c4⟩ := h.cells
    obtain ⟨h1, h2⟩ := inB_true.1 hin
    have hi : i = 0 ∨ i = 1 ∨ i = 2 ∨ i = 3 := by omega
    clear hin h h1 h2
    rcases hi with rfl | rfl | rfl | rfl
    all_goals
      go_enter Tryd.func12, Tryd.ntmps12
      go_wp2_with (go_at_call 23; refine (HN.out _).mono ?_; rintro e w1 ⟨rfl, rfl⟩)
      go_ret2
      exact ⟨rfl, rfl⟩
theorem rname_any (i : Int) (w : World) : Calls Tryd.prog 15 #[.int .i64 i] w fun e w' => e = .returned (.tuple #[.string (nmF i), .int .i64 (nmE i)]) ∧ Below w.heap.size w w' := by
  cases hin : inB i 0 3
  · obtain ⟨e1, e2⟩ := nm_out hin
    rw [e1, e2]
    have hn : i < 0 ∨ 0 ≤ i ∧ 3 < i := by
      have : ¬ (0 ≤ i ∧ i ≤ 3) := fun hh => by rw [inB_true.2 hh] at hin; cases hin
      omega
    clear hin e1 e2
    rcases hn with h1 | ⟨h1, h2⟩
    all_goals
      go_enter Tryd.func15, Tryd.ntmps15
      go_wp2
      go_ret2
      exact ⟨rfl, Below.refl _ _⟩
  · obtain ⟨h1, h2⟩ := inB_true.1 hin
    have hi : i = 0 ∨ i = 1 ∨ i = 2 ∨ i = 3 := by omega
    clear hin h1 h2
    rcases hi with rfl | rfl | rfl | rfl
    all_goals
      go_enter Tryd.func15, Tryd.ntmps15
      go_wp2
      go_ret2
      exact ⟨rfl, (Below.refl _ _).alloc (Nat.le_refl _) _⟩
theorem rwin_any (k s v : Int) (w : World) (x : Int) (hx : winE k s v = x) : Calls Tryd.prog 17 #[.agg #[.int .u8 k, .int .i64 s, .int .i64 v]] w fun e w' => e = .returned (.int .i64 x) ∧ Below w.heap.size w w' := by
  cases hf : fitsW k s v
  all_goals
    have HF := Lib.hid (fun W => fits_any k s v W _ hf)
    have HX := Lib.hid (show badE (fitsW k s v) = x from hx)
    rw [hf] at HX
    clear hf hx
    go_enter Tryd.func17, Tryd.ntmps17
    go_wp2_with (go_at_call 30; refine (HF.out _).mono ?_; rintro e w1 ⟨rfl, hb⟩)
    go_ret
    exact ⟨ret_int' HX.out, ((Below.refl _ _).alloc (Nat.le_refl _) _).trans (hb.mono (by simp))⟩

/-! ### the source with a name -/
def soF (l : List UInt8) : Int := if l = [97] then 0 else if l = [98] then 1 else if l = [99] then 2 else if l = [100] then 3 else 0
def soE (l : List UInt8) : Int := if l = [97] ∨ l = [98] ∨ l = [99] ∨ l = [100] then 0 else 2
theorem so_hit {k : Nat} (hk : k < 4) {l : List UInt8} (h : l = namL[k]'hk) : soF l = k ∧ soE l = 0 := by
  have : k = 0 ∨ k = 1 ∨ k = 2 ∨ k = 3 := by omega
  rcases this with rfl | rfl | rfl | rfl <;> (subst h; exact ⟨rfl, rfl⟩)
theorem so_none {l : List UInt8} (h : l ∉ namL.take 4) : soF l = 0 ∧ soE l = 2 := by
  simp only [namL, List.take_succ_cons, List.take_zero, List.mem_cons, List.not_mem_nil, or_false, not_or] at h
  exact ⟨by simp [soF, h.1, h.2.1, h.2.2.1, h.2.2.2], by simp [soE, h.1, h.2.1, h.2.2.1, h.2.2.2]⟩
theorem so_snoc {k : Nat} (hk : k < 4) {l : List UInt8} (h : l ∉ namL.take k) (hn : l ≠ namL[k]'hk) : l ∉ namL.take (k + 1) := by
  rw [List.take_succ_eq_append_getElem hk, List.mem_append, not_or]
  exact ⟨h, by simpa using hn⟩
theorem nmF_at {k : Nat} (hk : k < 4) : nmF k = bytesOf (namL[k]'hk) ∧ nmE k = 0 := by
  have : k = 0 ∨ k = 1 ∨ k = 2 ∨ k = 3 := by omega
  rcases this with rfl | rfl | rfl | rfl <;> exact ⟨rfl, rfl⟩
theorem run_index_str {P : Program} (w : World) (t e : TypeId) (n : Nat) (cs : Array Value) (k : Nat) (v : Value) (ie : TypeInfo) (h : P.underlying t = some (.array n e)) (hi : P.info? e = some ie) (he : P.underlying e = some .string) (hce : P.cellsOf e = 1) (hk : k < n) (hv : cs[k]? = some v) :
    (Instr.index t (.agg cs) (.int .i64 (k : Int))).run P w = .ok v w := by
  have h1 : (isAgg e).run P w = .ok false w := by
    unfold isAgg
    rw [Sem.run_bind, run_underlying he w]
    rfl
  simp [Instr.index, run_underlying h, asIntOf, Sem.run_bind, run_sizeOf w hi, hce, go_sem, hk, part, h1, hv]
theorem strsOf_at (L : List (List UInt8)) (k : Nat) (h : k < L.length) : (strsOf L)[k]? = some (.string (bytesOf L[k])) := by
  unfold strsOf; simp [h]
theorem info_string : (Tryd.prog.info? 9).isSome = true := by kernel_rfl
theorem cells_string : Tryd.prog.cellsOf 9 = 1 := by kernel_rfl
theorem index_nam (w : World) (k : Nat) (hk : k < 4) : (Instr.index 62 (.agg (strsOf namL)) (.int .i64 (k : Int))).run Tryd.prog w = .ok (.string (bytesOf (namL[k]'hk))) w := by
  obtain ⟨ie, hi⟩ := Option.isSome_iff_exists.1 info_string
  exact run_index_str w _ _ 4 _ k _ ie Tryd.underlying62 hi Tryd.underlying9 cells_string hk (strsOf_at namL k hk)
theorem sized_nam : (Tryd.prog.info? 62).map (·.size) = some (strsOf namL).size := by
  rw [show (strsOf namL).size = 4 from rfl]; kernel_rfl
theorem source_any (s : ByteArray) (w : World) (ht : NamT w) :
    Calls Tryd.prog 13 #[.string s] w fun e w' => e = .returned (.tuple #[.int .i64 (soF s.data.toList), .int .i64 (soE s.data.toList)]) ∧ w = w' := by
  obtain ⟨t, fr, hg⟩ := ht
  have HG := Lib.hid hg
  clear hg
  go_enter Tryd.func13, Tryd.ntmps13
  go_wp2_with (refine wpList_load_row rfl _ _ rfl 0 rfl t (strsOf namL) fr _ HG.out Tryd.underlying62 rfl sized_nam ?_)
  go_loop [7] (fun i => ∃ k : Nat, k ≤ 4 ∧ i = .int .i64 k ∧ Hid (s.data.toList ∉ namL.take k)) (fun i => 4 - (intOf i).toNat)
  case atStart => exact ⟨0, Nat.zero_le _, rfl, by show s.data.toList ∉ namL.take 0; simp⟩
  case round =>
    obtain ⟨k, hk, rfl, HD⟩ := hrel
    by_cases hlt : k < 4
    · have hix := fun w => index_nam w k hlt
      have HS := Lib.hid (fun hn => so_snoc hlt HD.out hn)
      have HH := Lib.hid (fun he => so_hit hlt (l := s.data.toList) he)
      generalize namL[k]'hlt = x at hix HS HH
      cases hq : (s.data.toList == x)
      · have hq2 : (s.toList == (bytesOf x).toList) = false := by rw [bytesOf_toList, ByteArray.toList_eq]; exact hq
        have HD' := Lib.hid (HS.out (by simpa using hq))
        clear hq
        go_wp2
        go_round
        case rel => exact ⟨k + 1, by omega, by go_num, HD'⟩
        case measure => simp [intOf]; omega
      · have hq2 : (s.toList == (bytesOf x).toList) = true := by rw [bytesOf_toList, ByteArray.toList_eq]; exact hq
        obtain ⟨e1, e2⟩ := HH.out (by simpa using hq)
        have H1 := Lib.hid e1
        have H2 := Lib.hid e2
        clear hq e1 e2
        go_wp2
        go_ret2
        exact ⟨by rw [H1.out, H2.out] <;> rfl, rfl⟩
    · obtain rfl : k = 4 := by omega
      obtain ⟨e1, e2⟩ := so_none HD.out
      have H1 := Lib.hid e1
      have H2 := Lib.hid e2
      clear e1 e2
      go_wp2
      go_ret2
      exact ⟨by rw [H1.out, H2.out] <;> rfl, rfl⟩
theorem rsource_any (s : ByteArray) (w : World) :
    Calls Tryd.prog 16 #[.string s] w fun e w' => e = .returned (.tuple #[.int .i64 (soF s.data.toList), .int .i64 (soE s.data.toList)]) ∧ Below w.heap.size w w' := by
  go_enter Tryd.func16, Tryd.ntmps16
  go_wp2
  go_loopw [4] (fun i wr => ∃ k : Nat, k ≤ 4 ∧ i = .int .i64 k ∧ Hid (s.data.toList ∉ namL.take k) ∧ Hid (Bl w wr)) (fun i _ => 4 - (intOf i).toNat)
  case atStart => exact ⟨0, Nat.zero_le _, rfl, by show s.data.toList ∉ namL.take 0; simp, Bl.start w⟩
  case round =>
    obtain ⟨k, hk, rfl, HD, HB⟩ := hrel
    by_cases hlt : k < 4
    · have HN := Lib.hid (fun W => show Calls Tryd.prog 15 #[.int .i64 (k : Int)] W fun e w' => e = .returned (.tuple #[.string (bytesOf (namL[k]'hlt)), .int .i64 0]) ∧ Below W.heap.size W w' by
        have := rname_any (k : Int) W
        rwa [(nmF_at hlt).1, (nmF_at hlt).2] at this)
      have HS := Lib.hid (fun hn => so_snoc hlt HD.out hn)
      have HH := Lib.hid (fun he => so_hit hlt (l := s.data.toList) he)
      generalize namL[k]'hlt = x at HN HS HH
      cases hq : (s.data.toList == x)
      · have hq2 : ((bytesOf x).toList == s.toList) = false := by rw [bytesOf_toList, ByteArray.toList_eq, beq_eq_false_iff_ne]; intro hh; rw [← hh] at hq; simp at hq
        have HD' := Lib.hid (HS.out (by simpa using hq))
        clear hq
        go_wp2_with (go_at_call 15; refine (HN.out _).mono ?_; rintro e w1 ⟨rfl, hb⟩; have HB1 := Lib.hid (HB.out.step hb); clear hb)
        go_roundw
        case rel => exact ⟨k + 1, by omega, by go_num, HD', HB1⟩
        case measure => simp [intOf]; omega
      · have hq2 : ((bytesOf x).toList == s.toList) = true := by rw [bytesOf_toList, ByteArray.toList_eq, beq_iff_eq]; exact (by simpa using hq : s.data.toList = x).symm
        obtain ⟨e1, e2⟩ := HH.out (by simpa using hq)
        have H1 := Lib.hid e1
        have H2 := Lib.hid e2
        clear hq e1 e2
        go_wp2_with (go_at_call 15; refine (HN.out _).mono ?_; rintro e w1 ⟨rfl, hb⟩; have HB1 := Lib.hid (HB.out.step hb); clear hb)
        go_ret2
        exact ⟨by rw [H1.out, H2.out] <;> rfl, HB1.out⟩
    · obtain rfl : k = 4 := by omega
      obtain ⟨e1, e2⟩ := so_none HD.out
      have H1 := Lib.hid e1
      have H2 := Lib.hid e2
      clear e1 e2
      go_wp2
      go_ret2
      exact ⟨by rw [H1.out, H2.out] <;> rfl, HB.out⟩
end Go.Proofs.YtaijhkfbfkdepaaDoor.Q8
