/- ExprsBrackets: the walk, all cases, and how a token by value is opened. -/
import Derived.Test.YtoobggcopoljcaaDoorELBr2
import Derived.Test.YtoobggcopoljcaaDoorLB
namespace Go.Proofs.YtoobggcopoljcaaDoor
open Go.ChangeShapes Go.WideShapes Go.ChangeAt Go.RowKit Go.Deep N4
set_option linter.unusedVariables false
set_option maxRecDepth 100000

section
variable {H : Type} {enc : TypeId × Value → H} {W : World} {sp : Nat → Bool} {held : Bool}
theorem open_toksS {r : Reach} {b0 : Nat} {v : Value} {d : DataW H} {ps : List MemPlace} (hval : Value.okWide Tryd.prog W r b0 25 v) (hd : DataW.Trod enc Tryd.prog W 0 (fun _ => true) held 25 v d ps) :
    ∃ (A : Option Addr) (c : Nat) (L : List Tok), v = .slice A L.length c ∧ L.length ≤ maxLen ∧ Toks W A L ∧ (∀ t ∈ L, t.s.length ≤ maxLen) ∧ ((A = none ∧ c = 0 ∧ L.length = 0) ∨ ∃ ad, A = some ad) := by
  obtain ⟨A, c, L, rfl, h1, h2, h3⟩ := open_toks hval hd
  refine ⟨A, c, L, rfl, h1, h2, h3, ?_⟩
  cases A with
  | some ad => exact .inr ⟨ad, rfl⟩
  | none =>
    left
    obtain ⟨fuel, hf⟩ := hd
    rcases open_slice Tryd.underlying25 hf with ⟨hc, _⟩ | ⟨a, len, cap, m, nn, D, Pl, hc, _⟩
    · simp [Value.cells] at hc
      exact ⟨rfl, hc.2, by simp [hc.1]⟩
    · simp [Value.cells] at hc
theorem open_tokv {r : Reach} {b0 : Nat} {v : Value} {d : DataW H} {ps : List MemPlace} (hval : Value.okWide Tryd.prog W r b0 33 v) (hd : DataW.Trod enc Tryd.prog W 0 sp held 33 v d ps) :
    ∃ (k : Int) (s : ByteArray) (a : Int), v = .agg #[.int .u8 k, .string s, .int .i64 a] ∧ s.size ≤ maxLen := by
  obtain ⟨cs, rfl, _⟩ := okWide_struct Tryd.underlying33 hval
  obtain ⟨fuel, hf⟩ := hd
  obtain ⟨k, s, a, h, hs⟩ := open_tok hf
  refine ⟨k, s, a, ?_, hs⟩
  have : cs = #[.int .u8 k, .string s, .int .i64 a] := Array.toList_inj.1 h
  rw [this]
end
theorem ExprsBrackets_walk (A1 : Option Addr) (c1 : Nat) (L : List Nd) (A2 : Option Addr) (c2 : Nat) (F : List Tok) (k : Int) (S : ByteArray) (a : Int) (w : World) (hL : L.length ≤ maxLen) (ht : Lies w A1 (ndCells L)) (hc : L.length ≤ c1) (hA : (A1 = none ∧ c1 = 0 ∧ L = []) ∨ ∃ ad, A1 = some ad) (hbig : ∀ x ∈ L, x.n ≤ 9223372036854775807)
    (hF : F.length ≤ maxLen) (htF : Toks w A2 F) (hFs : ∀ t ∈ F, t.s.length ≤ maxLen) (hFa : (A2 = none ∧ c2 = 0 ∧ F.length = 0) ∨ ∃ ad, A2 = some ad) (hS : S.size ≤ maxLen) (tb : TB w) :
    Calls Tryd.prog 6 #[.slice A1 L.length c1, .slice A2 F.length c2, .agg #[.int .u8 k, .string S, .int .i64 a]] w fun e w' => e = .returned (.bool true) ∧ Below w.heap.size w w' := by
  obtain ⟨s, rfl⟩ : ∃ s, S = bytesOf s := ⟨S.data.toList, by apply ByteArray.ext; simp [bytesOf]⟩
  rw [bytesOf_size] at hS
  have hg := G5.start tb
  suffices hh : Calls Tryd.prog 6 #[.slice A1 L.length c1, .slice A2 F.length c2, .agg #[.int .u8 k, .string (bytesOf s), .int .i64 a]] w fun e w' => e = .returned (.bool true) ∧ G5 w w' from hh.mono fun e w' ⟨he, hg⟩ => ⟨he, hg.1⟩
  by_cases h1 : 70 < L.length
  · exact brk_great A1 A2 c1 c2 _ _ k a s w hg h1
  · by_cases h2 : checkF L = 0
    · by_cases h3 : 30 < F.length
      · exact brk_long A1 A2 c1 c2 _ _ k a s w hg h1 L rfl ht h2 h3
      · by_cases h4 : askF (F ++ [⟨k, s, a⟩]) 0 = 0
        · obtain ⟨t, h5, h6, rfl⟩ := Tr.of_check h2
          have hb := t.big_of hbig
          by_cases h7 : 390 < t.wr.length
          · exact brk_tl A1 A2 c1 c2 _ _ k a s w hg t t.flat_length.symm ht h5 h6 hb h3 F rfl htF hFa hFs hS h4 h7
          · have hlen : ∀ M : List Tok, M.map (·.s) = [[40]] ++ t.tx ++ [[41]] → M.length = ([[40]] ++ t.tx ++ [[41]]).length := fun M hM => by rw [← hM, List.length_map]
            by_cases h8 : 150 < ([[40]] ++ t.tx ++ [[41]]).length
            · exact brk_lm A1 A2 c1 c2 _ _ k a s w hg t t.flat_length.symm ht h5 h6 hb h3 F rfl htF hFa hFs hS h4 h7 (fun M hM => by rw [hlen M hM]; exact h8)
            · by_cases h9 : k = 1 ∨ s = [107] ∨ s = [41] ∨ s = [40]
              · exact brk_go A1 A2 c1 c2 _ _ k a s w hg t t.flat_length.symm ht h5 h6 hb h3 F rfl htF hFa hFs hS h4 h7 (fun M hM => by rw [hlen M hM]; exact h8) h9
              · exact brk_no A1 A2 c1 c2 _ _ k a s w hg t t.flat_length.symm ht h5 h6 hb h3 F rfl htF hFa hFs hS h4 h7 (fun M hM => by rw [hlen M hM]; exact h8) h9
        · exact brk_ask A1 A2 c1 c2 _ _ k a s w hg h1 L rfl ht h2 h3 F rfl htF hFa hFs hS _ rfl h4
    · exact brk_bad A1 A2 c1 c2 _ _ k a s w hg h1 L rfl ht _ rfl h2
end Go.Proofs.YtoobggcopoljcaaDoor
