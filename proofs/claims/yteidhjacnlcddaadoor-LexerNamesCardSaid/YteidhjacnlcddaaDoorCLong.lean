/- The contract of longest and Symbol. -/
import Derived.Test.YteidhjacnlcddaaDoorCTab
import Derived.Deep.LoopGhost
import Derived.Outline
namespace Go.Proofs.YteidhjacnlcddaaDoor
open Go.ChangeShapes Go.WideShapes Go.ChangeAt Go.RowKit
set_option linter.unusedVariables false

theorem symL_small (k : Nat) (hk : k < 13) : 1 ≤ (symL[k]'hk).length ∧ (symL[k]'hk).length ≤ 2 := by
  have h : ∀ x ∈ symL, 1 ≤ x.length ∧ x.length ≤ 2 := by decide
  exact h _ (List.getElem_mem _)

theorem bne_same {s : ByteArray} {x : List UInt8} {i : Nat} {h1 : i < s.size} {h2 : i < (bytesOf x).size} {h3 : i < s.data.toList.length} {h4 : i < x.length} (he : s.data.toList[i]'h3 = x[i]'h4) : (((s[i]'h1).toNat : Int) != ((bytesOf x)[i]'h2).toNat) = false := by
  have e : s[i]'h1 = (bytesOf x)[i]'h2 := he
  rw [e]; simp
theorem bne_other {s : ByteArray} {x : List UInt8} {i : Nat} {h1 : i < s.size} {h2 : i < (bytesOf x).size} {h3 : i < s.data.toList.length} {h4 : i < x.length} (he : ¬ s.data.toList[i]'h3 = x[i]'h4) : (((s[i]'h1).toNat : Int) != ((bytesOf x)[i]'h2).toNat) = true := by
  have e : ¬ s[i]'h1 = (bytesOf x)[i]'h2 := he
  simp only [bne_iff_ne, ne_eq]
  intro h
  exact e (UInt8.toNat_inj.1 (by omega))

theorem longest_any (s : ByteArray) (w : World) (hs : s.size ≤ maxLen) (ht : Tabs w) :
    Calls Tryd.prog 46 #[.string s] w fun e w' => e = .returned (.int .i64 (longL s.data.toList)) ∧ ∃ n, w' = w.drewN n := by
  unfold maxLen at hs
  obtain ⟨⟨t, fr, hg⟩, _⟩ := ht
  have HG := Lib.hid hg
  clear hg
  go_enter Tryd.func46, Tryd.ntmps46
  go_wp2
  go_step3
  go_wp2
  go_step3
  go_wp2_with (refine wpList_load_row rfl _ _ rfl 1 rfl t (strsOf symL) fr _ HG.out Tryd.underlying80 rfl sized_syms ?_)
  clear HG
  go_loopg [7] 13 (fun g i wx => ∃ k : Nat, k + g = 13 ∧ i = .int .i64 k ∧ longIn (symL.drop k) s.data.toList = longL s.data.toList ∧ ∃ n, wx = w.drewN n)
  case atStart => exact ⟨0, rfl, rfl, rfl, 0, rfl⟩
  case round =>
    obtain ⟨k, hk, rfl, hd, n, rfl⟩ := hrel
    have HD := Lib.hid hd
    clear hd
    cases gk with
    | zero =>
      obtain rfl : k = 13 := by omega
      clear hk
      go_wp2
      rw [Exit.noGoto_ret]
      go_ret
      exact ⟨ret_int' (by rw [← HD.out]; rfl), n, rfl⟩
    | succ g =>
      have hlt : k < 13 := by omega
      have HC := Lib.hid (longIn_drop symL k hlt s.data.toList)
      have hix := fun w => index_syms w k hlt
      obtain ⟨hx1, hx2⟩ := symL_small k hlt
      obtain ⟨x, hx⟩ : ∃ x, symL[k]'hlt = x := ⟨_, rfl⟩
      rw [hx] at hix HC hx1 hx2
      clear hx
      have hbs := bytesOf_size x
      by_cases hlen : s.size < x.length
      · have HP := Lib.hid (show x.isPrefixOf s.data.toList = false from pre_short _ _ (by simpa using hlen))
        have hlen2 : (s.size : Int) < (bytesOf x).size := by omega
        clear hbs
        go_wp2
        go_roundg g
        case measure => omega
        case rel => exact ⟨k + 1, by omega, by go_num, by rw [← HD.out, HC.out, HP.out]; rfl, n, rfl⟩
      · have hlen2 : ¬ ((s.size : Int) < (bytesOf x).size) := by omega
        have hll : x.length ≤ s.size := by omega
        clear hlen
        go_wp2
        go_loopg [17] x.length (fun g2 j wy => ∃ i : Nat, i + g2 = x.length ∧ j = .int .i64 i ∧ s.data.toList.take i = x.take i ∧ ∃ n, wy = w.drewN n)
        case atStart => exact ⟨0, by omega, rfl, rfl, n, rfl⟩
        case round =>
          obtain ⟨i, hi, rfl, hp, n2, rfl⟩ := hrel
          have HP := Lib.hid hp
          clear hp
          cases gk with
          | zero =>
            obtain rfl : i = x.length := by omega
            clear hi
            have HY := Lib.hid (pre_yes _ _ (by simpa using hll) HP.out)
            go_wp2
            rw [Exit.noGoto_ret]
            go_ret
            exact ⟨ret_int' (by rw [← HD.out, HC.out, HY.out]; rfl), n2, rfl⟩
          | succ g2 =>
            have hix2 : i < x.length := by omega
            have his : i < s.size := by omega
            have hib : i < (bytesOf x).size := by omega
            have hl0 : i < s.data.toList.length := by simpa using his
            by_cases he : s.data.toList[i]'hl0 = x[i]'hix2
            · have HS := Lib.hid (pre_step _ _ i hl0 hix2 HP.out he)
              have hne : (((s[i]'his).toNat : Int) != ((bytesOf x)[i]'hib).toNat) = false := bne_same he
              go_wp2
              go_quiet (fail)
              go_wp2
              go_roundg g2
              case measure => omega
              case rel => exact ⟨i + 1, by omega, by go_num, HS.out, _, rfl⟩
            · have HN := Lib.hid (pre_no _ _ i hl0 hix2 he)
              have hne : (((s[i]'his).toNat : Int) != ((bytesOf x)[i]'hib).toNat) = true := bne_other he
              go_wp2
              go_quiet (fail)
              go_wp2
              go_roundg g
              case measure => omega
              case rel => exact ⟨k + 1, by omega, by go_num, by rw [← HD.out, HC.out, HN.out]; rfl, _, rfl⟩

theorem symbol_in (s : ByteArray) (at_ : Nat) (w : World) (hs : s.size ≤ maxLen) (ht : Tabs w) (h : at_ ≤ s.size) :
    Calls Tryd.prog 39 #[.string s, .int .i64 at_] w fun e w' => e = .returned (.tuple #[.int .i64 (longL (s.data.toList.drop at_)), .int .i64 0]) ∧ ∃ n, w' = w.drewN n := by
  have hz : (s.extract at_ s.size).size ≤ maxLen := by rw [ByteArray.size_extract]; omega
  have HL := longest_any (s.extract at_ s.size) w hz ht
  rw [show (s.extract at_ s.size).data.toList = s.data.toList.drop at_ from by simp; rw [List.take_of_length_le]; simp] at HL
  have HL := Lib.hid HL
  unfold maxLen at hs
  clear hz
  go_enter Tryd.func39, Tryd.ntmps39
  go_wp2_with (go_at_call 46; refine HL.out.mono ?_; rintro e w' ⟨rfl, n, rfl⟩)
  go_ret2
  exact ⟨rfl, n, rfl⟩
theorem symbol_neg (s : ByteArray) (a : Int) (w : World) (hs : s.size ≤ maxLen) (h : a < 0) :
    Calls Tryd.prog 39 #[.string s, .int .i64 a] w fun e w' => e = .returned (.tuple #[.int .i64 0, .int .i64 2]) ∧ w = w' := by
  unfold maxLen at hs
  go_enter Tryd.func39, Tryd.ntmps39
  go_wp2
  go_ret2
  exact ⟨rfl, rfl⟩
theorem symbol_big (s : ByteArray) (a : Int) (w : World) (hs : s.size ≤ maxLen) (h : (s.size : Int) < a) :
    Calls Tryd.prog 39 #[.string s, .int .i64 a] w fun e w' => e = .returned (.tuple #[.int .i64 0, .int .i64 2]) ∧ w = w' := by
  have h0 : ¬ a < 0 := by omega
  unfold maxLen at hs
  go_enter Tryd.func39, Tryd.ntmps39
  go_wp2
  go_ret2
  exact ⟨rfl, rfl⟩
end Go.Proofs.YteidhjacnlcddaaDoor
