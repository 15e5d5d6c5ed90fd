/- Plain facts on bytes, symbols and words: no program is imported. -/
import Derived.RowKit
import Derived.Laws.Strings
namespace Go.Proofs.YteidhjacnlcddaaDoor
open Go.RowKit
set_option linter.unusedVariables false

def kindI (c : Int) : Int := if c = 32 ∨ c = 10 then 1 else if 48 ≤ c ∧ c ≤ 57 then 2 else if 97 ≤ c ∧ c ≤ 122 then 3 else if c = 40 ∨ c = 41 ∨ c = 42 ∨ c = 43 ∨ c = 45 ∨ c = 60 ∨ c = 61 ∨ c = 62 ∨ c = 33 then 4 else 0
theorem kind_blank (c : Int) (h : c = 32 ∨ c = 10) : kindI c = 1 := by unfold kindI; rw [if_pos h]
theorem kind_digit (c : Int) (h1 : 48 ≤ c) (h2 : c ≤ 57) : kindI c = 2 := by unfold kindI; rw [if_neg (by omega), if_pos (by omega)]
theorem kind_letter (c : Int) (h1 : 97 ≤ c) (h2 : c ≤ 122) : kindI c = 3 := by unfold kindI; rw [if_neg (by omega), if_neg (by omega), if_pos (by omega)]
theorem kind_symbol (c : Int) (h : c = 40 ∨ c = 41 ∨ c = 42 ∨ c = 43 ∨ c = 45 ∨ c = 60 ∨ c = 61 ∨ c = 62 ∨ c = 33) : kindI c = 4 := by unfold kindI; rw [if_neg (by omega), if_neg (by omega), if_neg (by omega), if_pos h]
theorem kind_none (c : Int) (h0 : ¬(c = 32 ∨ c = 10)) (h1 : ¬(48 ≤ c ∧ c ≤ 57)) (h2 : ¬(97 ≤ c ∧ c ≤ 122)) (h3 : ¬(c = 40 ∨ c = 41 ∨ c = 42 ∨ c = 43 ∨ c = 45 ∨ c = 60 ∨ c = 61 ∨ c = 62 ∨ c = 33)) : kindI c = 0 := by
  unfold kindI; rw [if_neg h0, if_neg h1, if_neg h2, if_neg h3]
theorem kind_range (c : Int) : 0 ≤ kindI c ∧ kindI c ≤ 4 := by unfold kindI; repeat' split <;> omega
def isSymb (c : Int) : Bool := decide (c = 40 ∨ c = 41 ∨ c = 42 ∨ c = 43 ∨ c = 45 ∨ c = 60 ∨ c = 61 ∨ c = 62 ∨ c = 33)

def symL : List (List UInt8) := [[60, 61], [60, 60], [62, 61], [62, 62], [33, 61], [40], [41], [42], [43], [45], [60], [62], [61]]
def wordL : List (List UInt8) := [[115, 101, 108, 101, 99, 116], [99, 111, 117, 110, 116], [115, 117, 109], [109, 105, 110], [109, 97, 120], [102, 114, 111, 109], [117, 110, 105, 111, 110], [106, 111, 105, 110], [119, 104, 101, 114, 101], [119, 105, 110, 100, 111, 119], [116, 117, 109, 98, 108, 101], [115, 108, 105, 100, 101], [101, 118, 101, 114, 121], [115, 101, 115, 115, 105, 111, 110], [98, 121], [107, 101, 121], [108, 97, 116, 101], [100, 114, 111, 112], [115, 105, 100, 101], [97, 110, 100], [111, 114], [110, 111, 116], [97], [98], [99], [100], [107], [116], [118]]
def bytesOf (l : List UInt8) : ByteArray := ⟨l.toArray⟩
def strsOf (l : List (List UInt8)) : Array Value := (l.map fun b => Value.string (bytesOf b)).toArray
theorem bytesOf_list (l : List UInt8) : (bytesOf l).data.toList = l := by simp [bytesOf]
theorem bytesOf_toList (l : List UInt8) : (bytesOf l).toList = l := by rw [ByteArray.toList_eq]; simp [bytesOf]
theorem bytesOf_size (l : List UInt8) : (bytesOf l).size = l.length := by show l.toArray.size = _; simp

/-- Is it a word? -/
def isWord (l : List UInt8) : Bool := wordL.contains l
/-- How many bytes the longest symbol has with which a list begins. -/
def longIn : List (List UInt8) → List UInt8 → Nat
  | [], _ => 0
  | x :: r, l => if x.isPrefixOf l then x.length else longIn r l
def longL (l : List UInt8) : Nat := longIn symL l
theorem longIn_drop (L : List (List UInt8)) (k : Nat) (hk : k < L.length) (l : List UInt8) :
    longIn (L.drop k) l = if (L[k]).isPrefixOf l then (L[k]).length else longIn (L.drop (k + 1)) l := by
  rw [List.drop_eq_getElem_cons hk]; rfl
theorem isPrefixOf_iff_take (x l : List UInt8) : x.isPrefixOf l = true ↔ x.length ≤ l.length ∧ l.take x.length = x := by
  rw [List.isPrefixOf_iff_prefix]
  constructor
  · intro h; exact ⟨h.length_le, (List.prefix_iff_eq_take.1 h).symm⟩
  · intro h; rw [← h.2]; exact List.take_prefix _ _
theorem pre_step (l x : List UInt8) (j : Nat) (hj : j < l.length) (hx : j < x.length) (h : l.take j = x.take j) (e : l[j] = x[j]) : l.take (j + 1) = x.take (j + 1) := by
  rw [List.take_succ_eq_append_getElem hj, List.take_succ_eq_append_getElem hx, h, e]
theorem pre_short (l x : List UInt8) (h : l.length < x.length) : x.isPrefixOf l = false := by
  rw [Bool.eq_false_iff]; intro h'; have := (isPrefixOf_iff_take x l).1 h'; omega
theorem pre_yes (l x : List UInt8) (h : x.length ≤ l.length) (e : l.take x.length = x.take x.length) : x.isPrefixOf l = true := by
  rw [isPrefixOf_iff_take]; exact ⟨h, by rw [e, List.take_length]⟩
theorem pre_no (l x : List UInt8) (j : Nat) (hj : j < l.length) (hx : j < x.length) (e : l[j] ≠ x[j]) : x.isPrefixOf l = false := by
  rw [Bool.eq_false_iff]; intro h'
  obtain ⟨h1, h2⟩ := (isPrefixOf_iff_take x l).1 h'
  apply e
  have : (l.take x.length)[j]? = x[j]? := by rw [h2]
  rw [List.getElem?_take_of_lt hx, List.getElem?_eq_getElem hj, List.getElem?_eq_getElem hx] at this
  exact Option.some.inj this
end Go.Proofs.YteidhjacnlcddaaDoor
