/- ExprsBinds, whole. -/
import Derived.Test.YtoobggcopoljcaaDoorELBd1
import Derived.Test.YtoobggcopoljcaaDoorELBd2
import Derived.Test.YtoobggcopoljcaaDoorELBd3
import Derived.Test.YtoobggcopoljcaaDoorELBd4
import Derived.Test.YtoobggcopoljcaaDoorELBd5
namespace Go.Proofs.YtoobggcopoljcaaDoor
open Go.ChangeShapes Go.WideShapes Go.ChangeAt Go.RowKit N4
set_option linter.unusedVariables false
set_option maxRecDepth 100000

theorem st_three {k : Int} (hk : 7 ≤ k ∧ k ≤ 19) : st k = 3 ↔ lvl k = 3 := by
  have := lvl_ch k
  unfold isCh at this
  unfold st
  split <;> omega
theorem ExprsBinds_walk (A1 : Option Addr) (c1 : Nat) (L1 : List Nd) (A2 : Option Addr) (c2 : Nat) (L2 : List Nd) (A3 : Option Addr) (c3 : Nat) (L3 : List Nd) (f g : Int) (w : World)
    (hL1 : L1.length ≤ maxLen) (ht1 : Lies w A1 (ndCells L1)) (hc1 : L1.length ≤ c1) (hA1 : (A1 = none ∧ c1 = 0 ∧ L1 = []) ∨ ∃ ad, A1 = some ad) (hb1 : ∀ x ∈ L1, x.n ≤ 9223372036854775807)
    (hL2 : L2.length ≤ maxLen) (ht2 : Lies w A2 (ndCells L2)) (hc2 : L2.length ≤ c2) (hA2 : (A2 = none ∧ c2 = 0 ∧ L2 = []) ∨ ∃ ad, A2 = some ad) (hb2 : ∀ x ∈ L2, x.n ≤ 9223372036854775807)
    (hL3 : L3.length ≤ maxLen) (ht3 : Lies w A3 (ndCells L3)) (hc3 : L3.length ≤ c3) (hA3 : (A3 = none ∧ c3 = 0 ∧ L3 = []) ∨ ∃ ad, A3 = some ad) (hb3 : ∀ x ∈ L3, x.n ≤ 9223372036854775807)
    (wf : (Lit.int .u8 f).wf = true) (wg : (Lit.int .u8 g).wf = true) (tb : TB w) :
    Calls Tryd.prog 7 #[.slice A1 L1.length c1, .slice A2 L2.length c2, .slice A3 L3.length c3, .int .u8 f, .int .u8 g] w fun e w' => e = .returned (.bool true) ∧ Below w.heap.size w w' := by
  suffices hh : Calls Tryd.prog 7 #[.slice A1 L1.length c1, .slice A2 L2.length c2, .slice A3 L3.length c3, .int .u8 f, .int .u8 g] w fun e w' => e = .returned (.bool true) ∧ G5 w w' from hh.mono fun e w' ⟨he, hg⟩ => ⟨he, hg.1⟩
  have hg := G5.start tb
  by_cases h : BOut L1.length L2.length L3.length (checkF L1) (checkF L2) (checkF L3) f g
  · exact binds_out A1 A2 A3 c1 c2 c3 _ _ _ L1 L2 L3 f g w hg rfl rfl rfl hL1 hL2 hL3 ht1 ht2 ht3 _ _ _ rfl rfl rfl h
  · unfold BOut at h
    obtain ⟨a, a1, a2, rfl⟩ := Tr.of_check (show checkF L1 = 0 by omega)
    obtain ⟨b, b1, b2, rfl⟩ := Tr.of_check (show checkF L2 = 0 by omega)
    obtain ⟨c, d1, d2, rfl⟩ := Tr.of_check (show checkF L3 = 0 by omega)
    obtain ⟨mf, rfl⟩ : ∃ mf : Nat, f = 7 + (mf : Int) := ⟨(f - 7).toNat, by omega⟩
    obtain ⟨mg, rfl⟩ : ∃ mg : Nat, g = 7 + (mg : Int) := ⟨(g - 7).toNat, by omega⟩
    have i1 : BIn w A1 c1 a.flat.length a := ⟨ht1, a.flat_length.symm, by omega, a1, a2, a.big_of hb1⟩
    have i2 : BIn w A2 c2 b.flat.length b := ⟨ht2, b.flat_length.symm, by omega, b1, b2, b.big_of hb2⟩
    have i3 : BIn w A3 c3 c.flat.length c := ⟨ht3, c.flat_length.symm, by omega, d1, d2, c.big_of hb3⟩
    have hmf : mf < 13 := by omega
    have hmg : mg < 13 := by omega
    have hf : 7 ≤ 7 + (mf : Int) ∧ 7 + (mf : Int) ≤ 19 := by omega
    have hgg : 7 ≤ 7 + (mg : Int) ∧ 7 + (mg : Int) ≤ 19 := by omega
    by_cases hl : 400 < (bT a b c (7 + (mf : Int)) (7 + (mg : Int))).length
    · exact binds_long A1 A2 A3 c1 c2 c3 _ _ _ a b c mf mg hmf hmg w hg i1 i2 i3 hl
    · have hle : (bT a b c (7 + (mf : Int)) (7 + (mg : Int))).length ≤ 400 := by omega
      by_cases h3 : lvl (7 + (mf : Int)) = 3 ∧ lvl (7 + (mg : Int)) = 3
      · exact binds_both3 A1 A2 A3 c1 c2 c3 _ _ _ a b c mf mg hmf hmg w hg i1 i2 i3 hle h3.1 h3.2
      · by_cases hst : st (7 + (mg : Int)) ≤ st (7 + (mf : Int))
        · by_cases h33 : st (7 + (mf : Int)) = 3
          · exact binds_left3 A1 A2 A3 c1 c2 c3 _ _ _ a b c mf mg hmf hmg w hg i1 i2 i3 hle hst h3 h33 (fun e => h3 ⟨(st_three hf).1 h33, (st_three hgg).1 e⟩)
          · exact binds_leftn A1 A2 A3 c1 c2 c3 _ _ _ a b c mf mg hmf hmg w hg i1 i2 i3 hle hst h3 h33
        · by_cases h33 : st (7 + (mf : Int)) = 3
          · exact binds_right3 A1 A2 A3 c1 c2 c3 _ _ _ a b c mf mg hmf hmg w hg i1 i2 i3 hle (by omega) h33
          · exact binds_rightn A1 A2 A3 c1 c2 c3 _ _ _ a b c mf mg hmf hmg w hg i1 i2 i3 hle (by omega) h33
end Go.Proofs.YtoobggcopoljcaaDoor
