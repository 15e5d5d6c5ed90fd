/- Merged: CPlain, CKind, CTab, CLong, CRef, CRef2, CLaid. -/
import Derived.RowKit
import Derived.Laws.Strings
import Derived.Test.YtlmamidodahgmaaGreatDoorChecked
import Derived.WalkKit
import Derived.ProofKit
import Derived.Carry
import Derived.Lib.Hide
import Derived.Deep.QuietTactic
import Derived.BigQuiet
import Derived.Laws.Rows
import Derived.LoopTactic
import Derived.Lib.LaidTab
import Derived.Deep.LoopGhost
import Derived.Outline
import Derived.IntWalk
import Derived.Test.YtlmamidodahgmaaGreatDoorRows
import Derived.LaidMore
import Derived.Stop.Joined
import Derived.Stop.LaidErr
/- CPlain: Plain facts on bytes, symbols and words: no program is imported. -/
namespace Go.Proofs.YtlmamidodahgmaaGreatDoor
open Go.RowKit
set_option linter.unusedVariables false

def kindI (c : Int) : Int := if c = 32 ∨ c = 10 then 1 else if 48 ≤ c ∧ c ≤ 57 then 2 else if 97 ≤ c ∧ c ≤ 122 then 3 else if c = 40 ∨ c = 41 ∨ c = 42 ∨ c = 43 ∨ c = 45 ∨ c = 60 ∨ c = 61 ∨ c = 62 ∨ c = 33 then 4 else 0
theorem kind_blank (c : Int) (h : c = 32 ∨ c = 10) : kindI c = 1 := by unfold kindI; rw [if_pos h]
theorem kind_digit (c : Int) (h1 : 48 ≤ c) (h2 : c ≤ 57) : kindI c = 2 := by unfold kindI; rw [if_neg (by omega), if_pos (by omega)]
theorem kind_letter (c : Int) (h1 : 97 ≤ c) (h2 : c ≤ 122) : kindI c = 3 := by unfold kindI; rw [if_neg (by omega), if_neg (by omega), if_pos (by omega)]
theorem kind_symbol (c : Int) (h : c = 40 ∨ c = 41 ∨ c = 42 ∨ c = 43 ∨ c = 45 ∨ c = 60 ∨ c = 61 ∨ c = 62 ∨ c = 33) : kindI c = 4 := by unfold kindI; rw [if_neg (by omega), if_neg (by omega), if_neg (by omega), if_pos h]
theorem kind_none (c : Int) (h0 : ¬(c = 32 ∨ c = 10)) (h1 : ¬(48 ≤ c ∧ c ≤ 57)) (h2 : ¬(97 ≤ c ∧ c ≤ 122)) (h3 : ¬(c = 40 ∨ c = 41 ∨ c = 42 ∨ c = 43 ∨ c = 45 ∨ c = 60 ∨ c = 61 ∨ c = 62 ∨ c = 33)) : kindI c = 0 := by
  unfold kindI; rw [if_neg h0, if_neg h1, if_neg h2, if_neg h3]
theorem kind_range (c : Int) : 0 ≤ kindI c ∧ kindI c ≤ 4 := by unfold kindI; repeat' split <;> omega
def isSymb (c : Int) : Bool := decide (c = 40 ∨ c = 41 ∨ c = 42 ∨ c = 43 ∨ c = 45 ∨ c = 60 ∨ c = 61 ∨ c = 62 ∨ c = 33)

def symL : List (List UInt8) := [[60, 61], [60, 60], [62, 61], [62, 62], [33, 61], [40], [41], [42], [43], [45], [60], [62], [61]]
def wordL : List (List UInt8) := [[115, 101, 108, 101, 99, 116], [99, 111, 117, 110, 116], [115, 117, 109], [109, 105, 110], [109, 97, 120], [102, 114, 111, 109], [117, 110, 105, 111, 110], [106, 111, 105, 110], [119, 104, 101, 114, 101], [119, 105, 110, 100, 111, 119], [116, 117, 109, 98, 108, 101], [115, 108, 105, 100, 101], [101, 118, 101, 114, 121], [115, 101, 115, 115, 105, 111, 110], [98, 121], [107, 101, 121], [108, 97, 116, 101], [100, 114, 111, 112], [115, 105, 100, 101], [97, 110, 100], [111, 114], [110, 111, 116], [97], [98], [99], [100], [107], [116], [118]]
def bytesOf (l : List UInt8) : ByteArray := ⟨l.toArray⟩
def strsOf (l : List (List UInt8)) : Array Value := (l.map fun b => Value.string (bytesOf b)).toArray
theorem bytesOf_list (l : List UInt8) : (bytesOf l).data.toList = l := by simp [bytesOf]
theorem bytesOf_toList (l : List UInt8) : (bytesOf l).toList = l := by rw [ByteArray.toList_eq]; simp [bytesOf]
theorem bytesOf_size (l : List UInt8) : (bytesOf l).size = l.length := by show l.toArray.size = _; simp

/-- Is it a word? -/
def isWord (l : List UInt8) : Bool := wordL.contains l
/-- How many bytes the longest symbol has with which a list begins. -/
def longIn : List (List UInt8) → List UInt8 → Nat
  | [], _ => 0
  | x :: r, l => if x.isPrefixOf l then x.length else longIn r l
def longL (l : List UInt8) : Nat := longIn symL l
theorem longIn_drop (L : List (List UInt8)) (k : Nat) (hk : k < L.length) (l : List UInt8) :
    longIn (L.drop k) l = if (L[k]).isPrefixOf l then (L[k]).length else longIn (L.drop (k + 1)) l := by
  rw [List.drop_eq_getElem_cons hk]; rfl
theorem isPrefixOf_iff_take (x l : List UInt8) : x.isPrefixOf l = true ↔ x.length ≤ l.length ∧ l.take x.length = x := by
  rw [List.isPrefixOf_iff_prefix]
  constructor
  · intro h; exact ⟨h.length_le, (List.prefix_iff_eq_take.1 h).symm⟩
  · intro h; rw [← h.2]; exact List.take_prefix _ _
theorem pre_step (l x : List UInt8) (j : Nat) (hj : j < l.length) (hx : j < x.length) (h : l.take j = x.take j) (e : l[j] = x[j]) : l.take (j + 1) = x.take (j + 1) := by
  rw [List.take_succ_eq_append_getElem hj, List.take_succ_eq_append_getElem hx, h, e]
theorem pre_short (l x : List UInt8) (h : l.length < x.length) : x.isPrefixOf l = false := by
  rw [Bool.eq_false_iff]; intro h'; have := (isPrefixOf_iff_take x l).1 h'; omega
theorem pre_yes (l x : List UInt8) (h : x.length ≤ l.length) (e : l.take x.length = x.take x.length) : x.isPrefixOf l = true := by
  rw [isPrefixOf_iff_take]; exact ⟨h, by rw [e, List.take_length]⟩
theorem pre_no (l x : List UInt8) (j : Nat) (hj : j < l.length) (hx : j < x.length) (e : l[j] ≠ x[j]) : x.isPrefixOf l = false := by
  rw [Bool.eq_false_iff]; intro h'
  obtain ⟨h1, h2⟩ := (isPrefixOf_iff_take x l).1 h'
  apply e
  have : (l.take x.length)[j]? = x[j]? := by rw [h2]
  rw [List.getElem?_take_of_lt hx, List.getElem?_eq_getElem hj, List.getElem?_eq_getElem hx] at this
  exact Option.some.inj this
end Go.Proofs.YtlmamidodahgmaaGreatDoor

/- CKind: The kind of a byte: contracts of inSymbol, of the closure in Kind, and of Kind. -/
namespace Go.Proofs.YtlmamidodahgmaaGreatDoor
open Go.ChangeShapes Go.WideShapes Go.ChangeAt Go.RowKit
set_option linter.unusedVariables false

theorem ret_bool' {a b : Bool} (h : a = b) : Ending.returned (.bool a) = .returned (.bool b) := by rw [h]
theorem ret_int' {k : IntKind} {a b : Int} (h : a = b) : Ending.returned (.int k a) = .returned (.int k b) := by rw [h]

theorem insym_yes (c : Int) (w : World) (h : c = 40 ∨ c = 41 ∨ c = 42 ∨ c = 43 ∨ c = 45 ∨ c = 60 ∨ c = 61 ∨ c = 62 ∨ c = 33) :
    Calls Tryz.prog 80 #[.int .u8 c] w fun e w' => e = .returned (.bool true) ∧ w = w' := by
  rcases h with rfl | rfl | rfl | rfl | rfl | rfl | rfl | rfl | rfl
  all_goals
    go_enter Tryz.func80, Tryz.ntmps80
    go_wp2
    go_ret
    exact ⟨rfl, rfl⟩
theorem insym_no (c : Int) (w : World) (h : ¬(c = 40 ∨ c = 41 ∨ c = 42 ∨ c = 43 ∨ c = 45 ∨ c = 60 ∨ c = 61 ∨ c = 62 ∨ c = 33)) :
    Calls Tryz.prog 80 #[.int .u8 c] w fun e w' => e = .returned (.bool false) ∧ w = w' := by
  simp only [not_or] at h
  obtain ⟨h1, h2, h3, h4, h5, h6, h7, h8, h9⟩ := h
  go_enter Tryz.func80, Tryz.ntmps80
  go_wp2
  go_ret
  exact ⟨rfl, rfl⟩

theorem within_any (a b c : Int) (p : Addr) (r : Bool) (w : World) (hc : w.cell? p = some (.int .u8 c)) (hr : r = true ↔ a ≤ c ∧ c ≤ b) :
    Calls Tryz.prog 79 #[.int .u8 a, .int .u8 b, .pointer (some p)] w fun e w' => e = .returned (.bool r) ∧ w = w' := by
  cases r
  · by_cases h : a ≤ c
    · have h2 : b < c := by
        have : ¬ (a ≤ c ∧ c ≤ b) := fun h' => by simpa using hr.2 h'
        omega
      have h3 : decide (c ≤ b) = false := by simpa using h2
      clear hr h2
      go_enter Tryz.func79, Tryz.ntmps79
      go_wp2
      go_ret
      exact ⟨rfl, rfl⟩
    · have h' : decide (a ≤ c) = false := by simpa using h
      clear hr h
      go_enter Tryz.func79, Tryz.ntmps79
      go_wp2
      go_ret
      exact ⟨rfl, rfl⟩
  · obtain ⟨h1, h2⟩ := hr.1 rfl
    clear hr
    go_enter Tryz.func79, Tryz.ntmps79
    go_wp2
    go_ret
    exact ⟨rfl, rfl⟩

def Win (a b c : Int) (r : Bool) : Prop := r = true ↔ a ≤ c ∧ c ≤ b
theorem within_at (a b c : Int) (r : Bool) (w : World) (hr : Win a b c r) :
    Calls Tryz.prog 79 #[.int .u8 a, .int .u8 b, .pointer (some ⟨w.heap.size, 0, none⟩)] (w.alloc (.cells #[.int .u8 c] 5)) fun e w' => e = .returned (.bool r) ∧ w.alloc (.cells #[.int .u8 c] 5) = w' :=
  within_any a b c _ r _ (by go_simp) hr

theorem kind_b (c : Int) (w : World) (hb : c = 32 ∨ c = 10) :
    Calls Tryz.prog 52 #[.int .u8 c] w fun e w' => e = .returned (.int .u8 (kindI c)) ∧ Below w.heap.size w w' := by
  rw [kind_blank c hb]
  rcases hb with rfl | rfl
  all_goals
    go_enter Tryz.func52, Tryz.ntmps52
    go_wp2
    go_ret
    exact ⟨rfl, (Below.refl _ _).alloc (Nat.le_refl _) _⟩
theorem kind_d (c : Int) (w : World) (h0 : ¬(c = 32 ∨ c = 10)) (hd : 48 ≤ c ∧ c ≤ 57) :
    Calls Tryz.prog 52 #[.int .u8 c] w fun e w' => e = .returned (.int .u8 (kindI c)) ∧ Below w.heap.size w w' := by
  simp only [not_or] at h0
  obtain ⟨b1, b2⟩ := h0
  have e1 : (c == 32) = false := by simpa using b1
  have e2 : (c == 10) = false := by simpa using b2
  have HK := Lib.hid (kind_digit c hd.1 hd.2)
  have H1 : Win 48 57 c true := ⟨fun h => hd, fun h => rfl⟩
  clear hd b1 b2
  go_enter Tryz.func52, Tryz.ntmps52
  go_wp2_with (go_at_call 79; refine (within_at 48 57 c true _ H1).mono ?_; rintro e w' ⟨rfl, rfl⟩)
  go_ret
  exact ⟨ret_int' HK.out.symm, (Below.refl _ _).alloc (Nat.le_refl _) _⟩
theorem kind_l (c : Int) (w : World) (h0 : ¬(c = 32 ∨ c = 10)) (hd : ¬(48 ≤ c ∧ c ≤ 57)) (hl : 97 ≤ c ∧ c ≤ 122) :
    Calls Tryz.prog 52 #[.int .u8 c] w fun e w' => e = .returned (.int .u8 (kindI c)) ∧ Below w.heap.size w w' := by
  simp only [not_or] at h0
  obtain ⟨b1, b2⟩ := h0
  have e1 : (c == 32) = false := by simpa using b1
  have e2 : (c == 10) = false := by simpa using b2
  have HK := Lib.hid (kind_letter c hl.1 hl.2)
  have H1 : Win 48 57 c false := ⟨fun h => absurd h (by decide), fun h => absurd h hd⟩
  have H2 : Win 97 122 c true := ⟨fun h => hl, fun h => rfl⟩
  clear hd hl b1 b2
  go_enter Tryz.func52, Tryz.ntmps52
  go_wp2_with ((go_at_call 79; ((first | (with_reducible refine (within_at 48 57 c false _ H1).mono ?_) | (with_reducible refine (within_at 97 122 c true _ H2).mono ?_)); rintro e w' ⟨rfl, rfl⟩)))
  go_ret
  exact ⟨ret_int' HK.out.symm, (Below.refl _ _).alloc (Nat.le_refl _) _⟩
theorem kind_s (c : Int) (w : World) (h0 : ¬(c = 32 ∨ c = 10)) (hd : ¬(48 ≤ c ∧ c ≤ 57)) (hl : ¬(97 ≤ c ∧ c ≤ 122)) (hs : (c = 40 ∨ c = 41 ∨ c = 42 ∨ c = 43 ∨ c = 45 ∨ c = 60 ∨ c = 61 ∨ c = 62 ∨ c = 33)) :
    Calls Tryz.prog 52 #[.int .u8 c] w fun e w' => e = .returned (.int .u8 (kindI c)) ∧ Below w.heap.size w w' := by
  have h00 := h0
  simp only [not_or] at h0
  obtain ⟨b1, b2⟩ := h0
  have e1 : (c == 32) = false := by simpa using b1
  have e2 : (c == 10) = false := by simpa using b2
  have HK := Lib.hid (kind_symbol c hs)
  have H1 : Win 48 57 c false := ⟨fun h => absurd h (by decide), fun h => absurd h hd⟩
  have H2 : Win 97 122 c false := ⟨fun h => absurd h (by decide), fun h => absurd h hl⟩
  have HS := Lib.hid hs
  clear hd hl b1 b2 hs h00
  go_enter Tryz.func52, Tryz.ntmps52
  go_wp2_with (first | (go_at_call 79; ((first | (with_reducible refine (within_at 48 57 c false _ H1).mono ?_) | (with_reducible refine (within_at 97 122 c false _ H2).mono ?_)); rintro e w' ⟨rfl, rfl⟩)) | (go_at_call 80; refine (insym_yes c _ HS.out).mono ?_; rintro e w' ⟨rfl, rfl⟩))
  go_ret
  exact ⟨ret_int' HK.out.symm, (Below.refl _ _).alloc (Nat.le_refl _) _⟩
theorem kind_n (c : Int) (w : World) (h0 : ¬(c = 32 ∨ c = 10)) (hd : ¬(48 ≤ c ∧ c ≤ 57)) (hl : ¬(97 ≤ c ∧ c ≤ 122)) (hs : ¬(c = 40 ∨ c = 41 ∨ c = 42 ∨ c = 43 ∨ c = 45 ∨ c = 60 ∨ c = 61 ∨ c = 62 ∨ c = 33)) :
    Calls Tryz.prog 52 #[.int .u8 c] w fun e w' => e = .returned (.int .u8 (kindI c)) ∧ Below w.heap.size w w' := by
  have h00 := h0
  simp only [not_or] at h0
  obtain ⟨b1, b2⟩ := h0
  have e1 : (c == 32) = false := by simpa using b1
  have e2 : (c == 10) = false := by simpa using b2
  have HK := Lib.hid (kind_none c h00 hd hl hs)
  have H1 : Win 48 57 c false := ⟨fun h => absurd h (by decide), fun h => absurd h hd⟩
  have H2 : Win 97 122 c false := ⟨fun h => absurd h (by decide), fun h => absurd h hl⟩
  have HS := Lib.hid hs
  clear hd hl b1 b2 hs h00
  go_enter Tryz.func52, Tryz.ntmps52
  go_wp2_with (first | (go_at_call 79; ((first | (with_reducible refine (within_at 48 57 c false _ H1).mono ?_) | (with_reducible refine (within_at 97 122 c false _ H2).mono ?_)); rintro e w' ⟨rfl, rfl⟩)) | (go_at_call 80; refine (insym_no c _ HS.out).mono ?_; rintro e w' ⟨rfl, rfl⟩))
  go_ret
  exact ⟨ret_int' HK.out.symm, (Below.refl _ _).alloc (Nat.le_refl _) _⟩
theorem kind_any (c : Int) (w : World)  :
    Calls Tryz.prog 52 #[.int .u8 c] w fun e w' => e = .returned (.int .u8 (kindI c)) ∧ Below w.heap.size w w' := by
  by_cases h0 : c = 32 ∨ c = 10
  · exact kind_b c w h0
  · by_cases hd : 48 ≤ c ∧ c ≤ 57
    · exact kind_d c w h0 hd
    · by_cases hl : 97 ≤ c ∧ c ≤ 122
      · exact kind_l c w h0 hd hl
      · by_cases hs : (c = 40 ∨ c = 41 ∨ c = 42 ∨ c = 43 ∨ c = 45 ∨ c = 60 ∨ c = 61 ∨ c = 62 ∨ c = 33)
        · exact kind_s c w h0 hd hl hs
        · exact kind_n c w h0 hd hl hs
end Go.Proofs.YtlmamidodahgmaaGreatDoor

/- CTab: The two tables of package chars, as the laws' walks meet them; the contract of Word. -/
namespace Go.Proofs.YtlmamidodahgmaaGreatDoor
open Go.ChangeShapes Go.WideShapes Go.ChangeAt Go.RowKit
set_option linter.unusedVariables false

/-- Global g of array type holds the strings L. -/
def Tab (w : World) (g : Nat) (L : List (List UInt8)) : Prop := ∃ t fr, w.heap[g]? = some (.cells (strsOf L) t fr)
theorem Tab.stays {w w' : World} {g : Nat} {L : List (List UInt8)} (h : Tab w g L) (hb : Below w.heap.size w w') : Tab w' g L := by
  obtain ⟨t, fr, h⟩ := h
  refine ⟨t, fr, ?_⟩
  rw [hb.block g ?_, h]
  exact (Array.getElem?_eq_some_iff.1 h).1
def Tabs (w : World) : Prop := Tab w 4 symL ∧ Tab w 3 wordL
theorem Tabs.stays {w w' : World} (h : Tabs w) (hb : Below w.heap.size w w') : Tabs w' := ⟨h.1.stays hb, h.2.stays hb⟩

theorem run_index_str {P : Program} (w : World) (t e : TypeId) (n : Nat) (cs : Array Value) (k : Nat) (v : Value) (ie : TypeInfo) (h : P.underlying t = some (.array n e)) (hi : P.info? e = some ie) (he : P.underlying e = some .string) (hce : P.cellsOf e = 1) (hk : k < n) (hv : cs[k]? = some v) :
    (Instr.index t (.agg cs) (.int .i64 (k : Int))).run P w = .ok v w := by
  have h1 : (isAgg e).run P w = .ok false w := by
    unfold isAgg
    rw [Sem.run_bind, run_underlying he w]
    rfl
  simp [Instr.index, run_underlying h, asIntOf, Sem.run_bind, run_sizeOf w hi, hce, go_sem, hk, part, h1, hv]
theorem strsOf_at (L : List (List UInt8)) (k : Nat) (h : k < L.length) : (strsOf L)[k]? = some (.string (bytesOf L[k])) := by
  unfold strsOf; simp [h]

theorem info_string : (Tryz.prog.info? 9).isSome = true := by kernel_rfl
theorem cells_string : Tryz.prog.cellsOf 9 = 1 := by kernel_rfl
theorem index_words (w : World) (k : Nat) (hk : k < 29) : (Instr.index 127 (.agg (strsOf wordL)) (.int .i64 (k : Int))).run Tryz.prog w = .ok (.string (bytesOf (wordL[k]'hk))) w := by
  obtain ⟨ie, hi⟩ := Option.isSome_iff_exists.1 info_string
  exact run_index_str w _ _ 29 _ k _ ie Tryz.underlying127 hi Tryz.underlying9 cells_string hk (strsOf_at wordL k hk)
theorem index_syms (w : World) (k : Nat) (hk : k < 13) : (Instr.index 122 (.agg (strsOf symL)) (.int .i64 (k : Int))).run Tryz.prog w = .ok (.string (bytesOf (symL[k]'hk))) w := by
  obtain ⟨ie, hi⟩ := Option.isSome_iff_exists.1 info_string
  exact run_index_str w _ _ 13 _ k _ ie Tryz.underlying122 hi Tryz.underlying9 cells_string hk (strsOf_at symL k hk)
theorem drop_contains (L : List (List UInt8)) (k : Nat) (h : k < L.length) (l : List UInt8) : (L.drop k).contains l = (l == L[k] || (L.drop (k + 1)).contains l) := by
  rw [List.drop_eq_getElem_cons h, List.contains_cons]
theorem size_strs (L : List (List UInt8)) (n : Nat) (h : L.length = n) : some n = some (strsOf L).size := by simp [strsOf, h]
theorem sized_words : (Tryz.prog.info? 127).map (·.size) = some (strsOf wordL).size := by
  rw [← size_strs wordL 29 rfl]; kernel_rfl
theorem sized_syms : (Tryz.prog.info? 122).map (·.size) = some (strsOf symL).size := by
  rw [← size_strs symL 13 rfl]; kernel_rfl

theorem word_any (s : ByteArray) (w : World) (ht : Tabs w) :
    Calls Tryz.prog 55 #[.string s] w fun e w' => e = .returned (.bool (isWord s.data.toList)) ∧ w = w' := by
  obtain ⟨_, t, fr, hg⟩ := ht
  have HG := Lib.hid hg
  clear hg
  go_enter Tryz.func55, Tryz.ntmps55
  go_wp2_with (refine wpList_load_row rfl _ _ rfl 3 rfl t (strsOf wordL) fr _ HG.out Tryz.underlying127 rfl sized_words ?_)
  go_loop [6] (fun i => ∃ k : Nat, k ≤ 29 ∧ i = .int .i64 k ∧ (wordL.drop k).contains s.data.toList = isWord s.data.toList) (fun i => 29 - (intOf i).toNat)
  case atStart => exact ⟨0, Nat.zero_le _, rfl, rfl⟩
  case round =>
    obtain ⟨k, hk, rfl, hd⟩ := hrel
    have HD := Lib.hid hd
    clear hd
    by_cases hlt : k < 29
    · have HC := Lib.hid (drop_contains wordL k hlt s.data.toList)
      have hix := fun w => index_words w k hlt
      obtain ⟨x, hx⟩ : ∃ x, wordL[k]'hlt = x := ⟨_, rfl⟩
      rw [hx] at hix HC
      clear hx
      cases hq : (s.data.toList == x)
      · have hq2 : (s.toList == (bytesOf x).toList) = false := by rw [bytesOf_toList, ByteArray.toList_eq]; exact hq
        have HQ := Lib.hid hq
        clear hq
        go_wp2
        go_round
        case rel => exact ⟨k + 1, by omega, by go_num, by rw [← HD.out, HC.out, HQ.out]; rfl⟩
        case measure => simp [intOf]; omega
      · have hq2 : (s.toList == (bytesOf x).toList) = true := by rw [bytesOf_toList, ByteArray.toList_eq]; exact hq
        have HQ := Lib.hid hq
        clear hq
        go_wp2
        go_ret
        exact ⟨ret_bool' (by rw [← HD.out, HC.out, HQ.out]; rfl), rfl⟩
    · obtain rfl : k = 29 := by omega
      go_wp2
      go_ret
      exact ⟨ret_bool' (by rw [← HD.out]; rfl), rfl⟩
end Go.Proofs.YtlmamidodahgmaaGreatDoor

/- CLong: The contract of longest and Symbol. -/
namespace Go.Proofs.YtlmamidodahgmaaGreatDoor
open Go.ChangeShapes Go.WideShapes Go.ChangeAt Go.RowKit
set_option linter.unusedVariables false

theorem symL_small (k : Nat) (hk : k < 13) : 1 ≤ (symL[k]'hk).length ∧ (symL[k]'hk).length ≤ 2 := by
  have h : ∀ x ∈ symL, 1 ≤ x.length ∧ x.length ≤ 2 := by decide
  exact h _ (List.getElem_mem _)

theorem bne_same {s : ByteArray} {x : List UInt8} {i : Nat} {h1 : i < s.size} {h2 : i < (bytesOf x).size} {h3 : i < s.data.toList.length} {h4 : i < x.length} (he : s.data.toList[i]'h3 = x[i]'h4) : (((s[i]'h1).toNat : Int) != ((bytesOf x)[i]'h2).toNat) = false := by
  have e : s[i]'h1 = (bytesOf x)[i]'h2 := he
  rw [e]; simp
theorem bne_other {s : ByteArray} {x : List UInt8} {i : Nat} {h1 : i < s.size} {h2 : i < (bytesOf x).size} {h3 : i < s.data.toList.length} {h4 : i < x.length} (he : ¬ s.data.toList[i]'h3 = x[i]'h4) : (((s[i]'h1).toNat : Int) != ((bytesOf x)[i]'h2).toNat) = true := by
  have e : ¬ s[i]'h1 = (bytesOf x)[i]'h2 := he
  simp only [bne_iff_ne, ne_eq]
  intro h
  exact e (UInt8.toNat_inj.1 (by omega))

theorem longest_any (s : ByteArray) (w : World) (hs : s.size ≤ maxLen) (ht : Tabs w) :
    Calls Tryz.prog 81 #[.string s] w fun e w' => e = .returned (.int .i64 (longL s.data.toList)) ∧ ∃ n, w' = w.drewN n := by
  unfold maxLen at hs
  obtain ⟨⟨t, fr, hg⟩, _⟩ := ht
  have HG := Lib.hid hg
  clear hg
  go_enter Tryz.func81, Tryz.ntmps81
  go_wp2
  go_step3
  go_wp2
  go_step3
  go_wp2_with (refine wpList_load_row rfl _ _ rfl 4 rfl t (strsOf symL) fr _ HG.out Tryz.underlying122 rfl sized_syms ?_)
  clear HG
  go_loopg [7] 13 (fun g i wx => ∃ k : Nat, k + g = 13 ∧ i = .int .i64 k ∧ longIn (symL.drop k) s.data.toList = longL s.data.toList ∧ ∃ n, wx = w.drewN n)
  case atStart => exact ⟨0, rfl, rfl, rfl, 0, rfl⟩
  case round =>
    obtain ⟨k, hk, rfl, hd, n, rfl⟩ := hrel
    have HD := Lib.hid hd
    clear hd
    cases gk with
    | zero =>
      obtain rfl : k = 13 := by omega
      clear hk
      go_wp2
      rw [Exit.noGoto_ret]
      go_ret
      exact ⟨ret_int' (by rw [← HD.out]; rfl), n, rfl⟩
    | succ g =>
      have hlt : k < 13 := by omega
      have HC := Lib.hid (longIn_drop symL k hlt s.data.toList)
      have hix := fun w => index_syms w k hlt
      obtain ⟨hx1, hx2⟩ := symL_small k hlt
      obtain ⟨x, hx⟩ : ∃ x, symL[k]'hlt = x := ⟨_, rfl⟩
      rw [hx] at hix HC hx1 hx2
      clear hx
      have hbs := bytesOf_size x
      by_cases hlen : s.size < x.length
      · have HP := Lib.hid (show x.isPrefixOf s.data.toList = false from pre_short _ _ (by simpa using hlen))
        have hlen2 : (s.size : Int) < (bytesOf x).size := by omega
        clear hbs
        go_wp2
        go_roundg g
        case measure => omega
        case rel => exact ⟨k + 1, by omega, by go_num, by rw [← HD.out, HC.out, HP.out]; rfl, n, rfl⟩
      · have hlen2 : ¬ ((s.size : Int) < (bytesOf x).size) := by omega
        have hll : x.length ≤ s.size := by omega
        clear hlen
        go_wp2
        go_loopg [17] x.length (fun g2 j wy => ∃ i : Nat, i + g2 = x.length ∧ j = .int .i64 i ∧ s.data.toList.take i = x.take i ∧ ∃ n, wy = w.drewN n)
        case atStart => exact ⟨0, by omega, rfl, rfl, n, rfl⟩
        case round =>
          obtain ⟨i, hi, rfl, hp, n2, rfl⟩ := hrel
          have HP := Lib.hid hp
          clear hp
          cases gk with
          | zero =>
            obtain rfl : i = x.length := by omega
            clear hi
            have HY := Lib.hid (pre_yes _ _ (by simpa using hll) HP.out)
            go_wp2
            rw [Exit.noGoto_ret]
            go_ret
            exact ⟨ret_int' (by rw [← HD.out, HC.out, HY.out]; rfl), n2, rfl⟩
          | succ g2 =>
            have hix2 : i < x.length := by omega
            have his : i < s.size := by omega
            have hib : i < (bytesOf x).size := by omega
            have hl0 : i < s.data.toList.length := by simpa using his
            by_cases he : s.data.toList[i]'hl0 = x[i]'hix2
            · have HS := Lib.hid (pre_step _ _ i hl0 hix2 HP.out he)
              have hne : (((s[i]'his).toNat : Int) != ((bytesOf x)[i]'hib).toNat) = false := bne_same he
              go_wp2
              go_quiet (fail)
              go_wp2
              go_roundg g2
              case measure => omega
              case rel => exact ⟨i + 1, by omega, by go_num, HS.out, _, rfl⟩
            · have HN := Lib.hid (pre_no _ _ i hl0 hix2 he)
              have hne : (((s[i]'his).toNat : Int) != ((bytesOf x)[i]'hib).toNat) = true := bne_other he
              go_wp2
              go_quiet (fail)
              go_wp2
              go_roundg g
              case measure => omega
              case rel => exact ⟨k + 1, by omega, by go_num, by rw [← HD.out, HC.out, HN.out]; rfl, _, rfl⟩

theorem symbol_in (s : ByteArray) (at_ : Nat) (w : World) (hs : s.size ≤ maxLen) (ht : Tabs w) (h : at_ ≤ s.size) :
    Calls Tryz.prog 53 #[.string s, .int .i64 at_] w fun e w' => e = .returned (.tuple #[.int .i64 (longL (s.data.toList.drop at_)), .int .i64 0]) ∧ ∃ n, w' = w.drewN n := by
  have hz : (s.extract at_ s.size).size ≤ maxLen := by rw [ByteArray.size_extract]; omega
  have HL := longest_any (s.extract at_ s.size) w hz ht
  rw [show (s.extract at_ s.size).data.toList = s.data.toList.drop at_ from by simp; rw [List.take_of_length_le]; simp] at HL
  have HL := Lib.hid HL
  unfold maxLen at hs
  clear hz
  go_enter Tryz.func53, Tryz.ntmps53
  go_wp2_with (go_at_call 81; refine HL.out.mono ?_; rintro e w' ⟨rfl, n, rfl⟩)
  go_ret2
  exact ⟨rfl, n, rfl⟩
theorem symbol_neg (s : ByteArray) (a : Int) (w : World) (hs : s.size ≤ maxLen) (h : a < 0) :
    Calls Tryz.prog 53 #[.string s, .int .i64 a] w fun e w' => e = .returned (.tuple #[.int .i64 0, .int .i64 2]) ∧ w = w' := by
  unfold maxLen at hs
  go_enter Tryz.func53, Tryz.ntmps53
  go_wp2
  go_ret2
  exact ⟨rfl, rfl⟩
theorem symbol_big (s : ByteArray) (a : Int) (w : World) (hs : s.size ≤ maxLen) (h : (s.size : Int) < a) :
    Calls Tryz.prog 53 #[.string s, .int .i64 a] w fun e w' => e = .returned (.tuple #[.int .i64 0, .int .i64 2]) ∧ w = w' := by
  have h0 : ¬ a < 0 := by omega
  unfold maxLen at hs
  go_enter Tryz.func53, Tryz.ntmps53
  go_wp2
  go_ret2
  exact ⟨rfl, rfl⟩
end Go.Proofs.YtlmamidodahgmaaGreatDoor

/- CRef: Contracts of the reference of layer 2. -/
namespace Go.Proofs.YtlmamidodahgmaaGreatDoor
open Go.ChangeShapes Go.WideShapes Go.ChangeAt Go.RowKit
set_option linter.unusedVariables false

def hasB (l : List UInt8) (c : Int) : Bool := l.any fun b => (b.toNat : Int) == c
theorem hasB_drop (l : List UInt8) (k : Nat) (h : k < l.length) (c : Int) : hasB (l.drop k) c = (((l[k].toNat : Int) == c) || hasB (l.drop (k + 1)) c) := by
  unfold hasB; rw [List.drop_eq_getElem_cons h, List.any_cons]

theorem has_blank (c : Int) : hasB [32, 10] c = decide (c = 32 ∨ c = 10) := by
  rw [Bool.eq_iff_iff]; simp [hasB]; omega
theorem has_digit (c : Int) : hasB [48, 49, 50, 51, 52, 53, 54, 55, 56, 57] c = decide (48 ≤ c ∧ c ≤ 57) := by
  rw [Bool.eq_iff_iff]; simp [hasB]; omega
theorem has_letter (c : Int) : hasB [97, 98, 99, 100, 101, 102, 103, 104, 105, 106, 107, 108, 109, 110, 111, 112, 113, 114, 115, 116, 117, 118, 119, 120, 121, 122] c = decide (97 ≤ c ∧ c ≤ 122) := by
  rw [Bool.eq_iff_iff]; simp [hasB]; omega
theorem has_symbol (c : Int) : hasB [40, 41, 42, 43, 45, 60, 61, 62, 33] c = decide (c = 40 ∨ c = 41 ∨ c = 42 ∨ c = 43 ∨ c = 45 ∨ c = 60 ∨ c = 61 ∨ c = 62 ∨ c = 33) := by
  rw [Bool.eq_iff_iff]; simp [hasB]; omega

def kindOf5 (b d l s : Bool) : Int := if b then 1 else if d then 2 else if l then 3 else if s then 4 else 0
theorem kindOf5_eq (c : Int) : kindOf5 (decide (c = 32 ∨ c = 10)) (decide (48 ≤ c ∧ c ≤ 57)) (decide (97 ≤ c ∧ c ≤ 122)) (decide (c = 40 ∨ c = 41 ∨ c = 42 ∨ c = 43 ∨ c = 45 ∨ c = 60 ∨ c = 61 ∨ c = 62 ∨ c = 33)) = kindI c := by
  unfold kindOf5 kindI; simp only [decide_eq_true_eq]
end Go.Proofs.YtlmamidodahgmaaGreatDoor

/- CRef2: Contracts of the reference's Word, Longest and Symbol. -/
namespace Go.Proofs.YtlmamidodahgmaaGreatDoor
open Go.ChangeShapes Go.WideShapes Go.ChangeAt Go.RowKit
set_option linter.unusedVariables false

theorem Tab.cell {w : World} {b : Nat} {L : List (List UInt8)} (h : Tab w b L) (k : Nat) (hk : k < L.length) : w.cell? ⟨b, k, none⟩ = some (.string (bytesOf L[k])) := by
  obtain ⟨t, fr, h⟩ := h
  rw [cell_of_row w b k _ t fr h, strsOf_at L k hk]
theorem Tab.new (w : World) (L : List (List UInt8)) (t : TypeId) : Tab (w.alloc (.cells (strsOf L) t)) w.heap.size L := ⟨t, (0, 0), by show (w.heap.push _)[w.heap.size]? = _; simp⟩

theorem Below.drewN' {B : Nat} {a w : World} (h : Below B a w) (n : Nat) : Below B a (w.drewN n) := ⟨h.os, h.tape, h.output, h.size, h.block⟩
theorem cut_eq (s : ByteArray) (a : Nat) (x : List UInt8) (h : a + x.length ≤ s.size) : ((s.extract a (a + (bytesOf x).size)).toList == (bytesOf x).toList) = x.isPrefixOf (s.data.toList.drop a) := by
  rw [bytesOf_toList, bytesOf_size, ByteArray.toList_eq, Bool.eq_iff_iff, isPrefixOf_iff_take, beq_iff_eq]
  have e : (s.extract a (a + x.length)).data.toList = (s.data.toList.drop a).take x.length := by simp
  rw [e]
  have hl : x.length ≤ (s.data.toList.drop a).length := by simp; omega
  exact ⟨fun h => ⟨hl, h⟩, fun h => h.2⟩

end Go.Proofs.YtlmamidodahgmaaGreatDoor

/- CLaid: From the row's premise on the laid tables of package chars to the fact that the walks take. -/
namespace Go.Proofs.YtlmamidodahgmaaGreatDoor
open Go.Lib Go.RowKit
set_option linter.unusedVariables false

def strData {H : Type} (L : List (List UInt8)) : DataW H := .agg (L.map fun b => .lit (.string b))

theorem cells_of_strs {H : Type} {enc : TypeId × Value → H} {P : Program} {w : World} {base : Nat} {sp : Nat → Bool} {held : Bool} {fuel : Nat} {t e : TypeId} {n : Nat} {cs : List Value} {L : List (List UInt8)} {p : List MemPlace}
    (ht : P.underlying t = some (.array n e)) (he : P.underlying e = some .string) (hce : P.cellsOf e = 1) (hct : P.cellsOf t = n)
    (h : DataW.trod enc P w base sp held fuel t cs = some (strData L, p)) : cs.toArray = strsOf L := by
  cases fuel with
  | zero => simp [DataW.trod] at h
  | succ fuel =>
    simp only [DataW.trod, ht, hce, hct, Nat.mul_one] at h
    split at h
    · rename_i hl
      obtain ⟨xs, hm, hx⟩ := Option.map_eq_some_iff.1 h
      have hxs : xs.map (·.1) = L.map fun b => (DataW.lit (.string b) : DataW H) := by
        have := congrArg Prod.fst hx
        simpa [strData] using this
      have hxl : xs.length = n := by simpa using mapM_length hm
      have hzl : L.length = n := by
        have := congrArg List.length hxs
        simp at this
        omega
      have : cs = L.map fun b => Value.string (bytesOf b) := by
        apply List.ext_getElem?
        intro i
        by_cases hi : i < n
        · obtain ⟨b, hb, hf⟩ := mapM_at hm i i (by simp [hi])
          obtain ⟨z, hc, rfl, _⟩ := DataW.trod_string he hf
          have h1 : cs[i]? = some (.string z) := by
            have := congrArg (·[0]?) hc
            simpa [List.getElem?_take, List.getElem?_drop] using this
          have h2 : (xs.map (·.1))[i]? = some (DataW.lit (.string z.data.toList) : DataW H) := by simp [hb]
          rw [hxs] at h2
          simp only [List.getElem?_map, Option.map_eq_some_iff, DataW.lit.injEq, Lit.string.injEq] at h2
          obtain ⟨z', hz', rfl⟩ := h2
          simp [h1, hz', bytesOf]
        · rw [List.getElem?_eq_none (by omega), List.getElem?_eq_none (by simp; omega)]
      rw [this]; rfl
    · cases h

theorem strs_of_head {P : Program} {W : World} {name : String} {L : List (List UInt8)} {rest : List (String × DataW Unit)} {g : Nat} {t e : TypeId} {n : Nat}
    (hg : P.globalNamed name = some g) (hty : (P.globals[g]?).map (·.type) = some t) (ht : P.underlying t = some (.array n e)) (he : P.underlying e = some .string) (hce : P.cellsOf e = 1) (hct : P.cellsOf t = n)
    (h : laidMet P ((name, strData L) :: rest) W) : Tab W g L := by
  obtain ⟨ps, ⟨g', t', cs, fuel, p, q, hg', ht', hvar, hd, _, _⟩, _⟩ := h
  obtain rfl := Option.some.inj (hg.symm.trans hg')
  obtain rfl := Option.some.inj (hty.symm.trans ht')
  have hc := cells_of_strs ht he hce hct hd
  unfold World.var? at hvar
  rw [hg] at hvar
  simp only [Option.bind_some] at hvar
  split at hvar
  · rename_i cs' t2 fr hh
    simp only [Option.some.injEq] at hvar
    subst hvar
    rw [Array.toArray_toList] at hc
    subst hc
    exact ⟨t2, fr, hh⟩
  · cases hvar

theorem tabs_of_laid {W : World} (h : laidMet Tryz.prog [("tailwater/chars.symbols", Rows.laid_tailwater_chars_symbols), ("tailwater/chars.words", Rows.laid_tailwater_chars_words)] W) : Tabs W := by
  refine ⟨?_, ?_⟩
  · have h' : laidMet Tryz.prog (("tailwater/chars.symbols", strData symL) :: [("tailwater/chars.words", Rows.laid_tailwater_chars_words)]) W := h
    exact strs_of_head (by kernel_rfl) (by kernel_rfl) Tryz.underlying122 Tryz.underlying9 (by kernel_rfl) (by kernel_rfl) h'
  · have h' : laidMet Tryz.prog (("tailwater/chars.words", strData wordL) :: []) W := h.tail
    exact strs_of_head (by kernel_rfl) (by kernel_rfl) Tryz.underlying127 Tryz.underlying9 (by kernel_rfl) (by kernel_rfl) h'
end Go.Proofs.YtlmamidodahgmaaGreatDoor
