/- The contract of the reference's Join. -/
import Derived.Test.YteidhjacnlcddaaDoorLJoin
namespace Go.Proofs.YteidhjacnlcddaaDoor
open Go.ChangeShapes Go.WideShapes Go.ChangeAt Go.RowKit
set_option linter.unusedVariables false

theorem valid_any (k a : Int) (s : ByteArray) (b : Bool) (w : World) (hs : s.size ≤ maxLen) (hb : (checkE k s.data.toList == 0) = b) :
    Calls Tryd.prog 19 #[.agg #[.int .u8 k, .string s, .int .i64 a]] w fun e w' => e = .returned (.bool b) ∧ Below w.heap.size w w' := by
  have hlen : s.data.toList.length = s.size := by simp
  unfold checkE at hb
  by_cases h1 : k = 1
  · rw [if_pos h1] at hb; subst h1; exact valid_1 a s w hs _ b rfl hb
  · rw [if_neg h1] at hb
    by_cases h2 : k = 2
    · rw [if_pos h2] at hb; subst h2
      refine valid_2 a s w b ?_
      rw [← hb]
      cases isWord s.data.toList <;> rfl
    · rw [if_neg h2] at hb
      by_cases h3 : k = 3
      · rw [if_pos h3] at hb; subst h3
        rcases Nat.eq_zero_or_pos s.size with h0 | h0
        · rw [if_neg (fun e => e.2 (List.eq_nil_of_length_eq_zero (by omega)))] at hb
          subst hb
          exact valid_3e a s w h0
        · refine valid_3 a s _ w hs h0 rfl b ?_
          rw [← hb]
          by_cases hl : longL s.data.toList = s.size
          · rw [if_pos ⟨by omega, fun e => by rw [e] at hlen; simp at hlen; omega⟩, hl]; simp
          · rw [if_neg (fun e => hl (by omega))]; simp; omega
      · rw [if_neg h3] at hb; subst hb; exact valid_o k a s w h1 h2 h3

theorem rjoin_many (A : Option Addr) (c : Nat) (L : List Tok) (w : World) (hL : L.length ≤ maxLen) (h : 200 < L.length) (tb : Tabs w) :
    Calls Tryd.prog 17 #[.slice A L.length c] w (JoinPost w [] 4) := by
  have HT := Lib.hid tb
  obtain ⟨n, hn⟩ : ∃ n, L.length = n := ⟨_, rfl⟩
  rw [hn] at hL h ⊢
  clear hn tb
  unfold maxLen at hL
  go_enter Tryd.func17, Tryd.ntmps17
  go_wp2
  go_ret2
  exact ⟨rfl, Good.start HT.out⟩

set_option maxHeartbeats 4000000 in
set_option maxRecDepth 100000 in
theorem rjoin_go (A : Option Addr) (c : Nat) (L : List Tok) (w : World) (hL : L.length ≤ 200) (ht : Toks w A L) (hs : ∀ t ∈ L, t.s.length ≤ 500) (tb : Tabs w) (T : List UInt8) (er : Int) (hj : joinF L = (T, er)) :
    Calls Tryd.prog 17 #[.slice A L.length c] w (JoinPost w T er) := by
  have HA := Lib.hid ht
  have HT := Lib.hid tb
  have HS := Lib.hid hs
  obtain ⟨n, hn⟩ : ∃ n, L.length = n := ⟨_, rfl⟩
  have HJ := Lib.hid hj
  have HN := Lib.hid hn
  rw [hn] at hL ⊢
  clear hn ht tb hs hj
  have h200 : ¬ (200 : Int) < n := by omega
  go_enter Tryd.func17, Tryd.ntmps17
  go_wp2
  go_loopw [5] (fun i wr => ∃ k : Nat, k ≤ n ∧ i = .int .i64 k ∧ Hid (∀ t ∈ L.take k, checkE t.k t.s = 0) ∧ Hid (Good w wr)) (fun i _ => n - (intOf i).toNat)
  case atStart => exact ⟨0, Nat.zero_le _, rfl, Lib.hid (by simp), Lib.hid (Good.start HT.out)⟩
  case round =>
    obtain ⟨k, hk, rfl, hd, hg⟩ := hrel
    by_cases hlt : k < n
    · obtain ⟨ad, t, rfl, ⟨c0, c1, c2⟩, htk⟩ := (HA.out.below hg.out.1).at_ k (by rw [HN.out]; exact hlt)
      have HK := Lib.hid htk
      obtain ⟨v, hv⟩ : ∃ v, (checkE t.k t.s == 0) = v := ⟨_, rfl⟩
      have HV := Lib.hid hv
      have hsz := HS.out t (List.mem_of_getElem? htk)
      obtain ⟨K, hK⟩ : ∃ K, t.k = K := ⟨_, rfl⟩
      obtain ⟨S, hS⟩ : ∃ S, bytesOf t.s = S := ⟨_, rfl⟩
      obtain ⟨a, ha⟩ : ∃ a, t.a = a := ⟨_, rfl⟩
      rw [hK] at c0
      rw [hS] at c1
      rw [ha] at c2
      have HC := Lib.hid (fun w => valid_any K a S v w (by rw [← hS, bytesOf_size]; unfold maxLen; omega) (by rw [← hS, bytesOf_list, ← hK]; exact hv))
      clear hK hS ha hv htk hsz
      cases v
      · have HB := Lib.hid (show T = [] ∧ er = 8 by
          have h1 := HJ.out
          rw [joinF, if_neg (by rw [HN.out]; omega), if_neg (by rw [okL_bad L t k HK.out (fun e => by have := HV.out; rw [e] at this; exact absurd this (by decide))]; decide)] at h1
          exact ⟨(Prod.mk.inj h1).1.symm, (Prod.mk.inj h1).2.symm⟩)
        obtain ⟨hT, hE⟩ := HB.out
        subst hT hE
        go_wp2_with (go_at_call 19; refine (HC.out _).mono ?_; rintro e w1 ⟨rfl, hb1⟩; have HG1 := Lib.hid (hg.out.step hb1); clear hb1)
        go_ret2
        exact ⟨rfl, HG1.out⟩
      · have HD := Lib.hid (show ∀ u ∈ L.take (k + 1), checkE u.k u.s = 0 by
          rw [take_snoc_tok L k t HK.out]
          intro u hu
          rcases List.mem_append.1 hu with hu | hu
          · exact hd.out u hu
          · simp only [List.mem_singleton] at hu; rw [hu]; have := HV.out; simpa using this)
        go_wp2_with (go_at_call 19; refine (HC.out _).mono ?_; rintro e w1 ⟨rfl, hb1⟩; have HG1 := Lib.hid (hg.out.step hb1); clear hb1)
        go_roundw
        case rel => exact ⟨k + 1, by omega, by go_num, HD, HG1⟩
        case measure => simp [intOf]; omega
    · have hall := hd.out
      rw [List.take_of_length_le (by rw [HN.out]; omega)] at hall
      have HJ2 := Lib.hid (show (if 400 < (jn (L.map (·.s))).length then (([] : List UInt8), (18 : Int)) else (jn (L.map (·.s)), 0)) = (T, er) by
        have h1 := HJ.out
        rwa [joinF, if_neg (by rw [HN.out]; omega), if_pos (okL_all L hall)] at h1)
      clear hall HJ hd
      go_wp2
      clear hlt hk
      go_loopw [4, 6] (fun z i wx => ∃ (k : Nat) (Z : ByteArray), k ≤ n ∧ i = .int .i64 k ∧ z = .string Z ∧ Z.size ≤ 501 * k ∧ Hid (Z.data.toList = jn ((L.take k).map (·.s))) ∧ Hid (Good w wx)) (fun _ i _ => n - (intOf i).toNat)
      case atStart => exact ⟨0, ⟨#[]⟩, Nat.zero_le _, rfl, rfl, Nat.zero_le _, Lib.hid (by rfl), hg⟩
      case round =>
        clear hg
        obtain ⟨k, Z, hk, rfl, rfl, hz, hzl, hg⟩ := hrel
        by_cases hlt : k < n
        · obtain ⟨ad, t, rfl, ⟨c0, c1, c2⟩, htk⟩ := (HA.out.below hg.out.1).at_ k (by rw [HN.out]; exact hlt)
          have HK := Lib.hid htk
          have hsz := HS.out t (List.mem_of_getElem? htk)
          obtain ⟨S, hS⟩ : ∃ S, bytesOf t.s = S := ⟨_, rfl⟩
          rw [hS] at c1
          have HSS := Lib.hid (show S.data.toList = t.s by rw [← hS, bytesOf_list])
          have hss : S.size ≤ 500 := by rw [← hS, bytesOf_size]; exact hsz
          clear hS htk hsz c0 c2
          by_cases h0 : k = 0
          · subst h0
            simp only [Nat.zero_mul, Addr.add_zero'] at c1
            have HL := Lib.hid (show jn ((L.take (0 + 1)).map (·.s)) = t.s from jn_first L t HK.out)
            go_wp2
            go_roundw
            case rel =>
              refine ⟨0 + 1, Z ++ S, by omega, by go_num, rfl, by rw [ByteArray.size_append]; omega, Lib.hid ?_, hg⟩
              have hz0 := hzl.out
              rw [HL.out, ByteArray.data_append, Array.toList_append, hz0, HSS.out]; rfl
            case measure => simp [intOf]; omega
          · have hk0 : 0 < k := by omega
            have HL := Lib.hid (show jn ((L.take (k + 1)).map (·.s)) = (jn ((L.take k).map (·.s)) ++ [32]) ++ t.s by rw [jn_step L k t HK.out hk0])
            have hz5 : Z.size ≤ 100200 := by omega
            clear h0
            go_wp2
            go_roundw
            case rel =>
              refine ⟨k + 1, (Z ++ ⟨#[32]⟩) ++ S, by omega, by go_num, rfl, ?_, Lib.hid ?_, hg⟩
              · rw [ByteArray.size_append, ByteArray.size_append, show (ByteArray.mk #[32]).size = 1 from rfl]; omega
              · rw [HL.out, ByteArray.data_append, Array.toList_append, ByteArray.data_append, Array.toList_append, hzl.out, HSS.out]
            case measure => simp [intOf]; omega
        · have hZ : Z.data.toList = jn (L.map (·.s)) := by
            have := hzl.out
            rwa [List.take_of_length_le (by rw [HN.out]; omega)] at this
          have hZs : Z.size = (jn (L.map (·.s))).length := by rw [← hZ]; simp
          by_cases h4 : 400 < Z.size
          · have HE := Lib.hid (show T = [] ∧ er = 18 by
              have h1 := HJ2.out
              rw [if_pos (by omega)] at h1
              exact ⟨(Prod.mk.inj h1).1.symm, (Prod.mk.inj h1).2.symm⟩)
            obtain ⟨hT, hE⟩ := HE.out
            subst hT hE
            clear hZ hZs
            go_wp2
            go_ret2
            exact ⟨rfl, hg.out⟩
          · have HE := Lib.hid (show Z = bytesOf T ∧ er = 0 by
              have h1 := HJ2.out
              rw [if_neg (by omega)] at h1
              refine ⟨?_, (Prod.mk.inj h1).2.symm⟩
              apply ByteArray.ext
              apply Array.toList_inj.1
              rw [bytesOf_list, hZ, (Prod.mk.inj h1).1])
            obtain ⟨hT, hE⟩ := HE.out
            subst hT hE
            clear hZ hZs
            go_wp2
            go_ret2
            exact ⟨rfl, hg.out⟩

theorem rjoin_any (A : Option Addr) (c : Nat) (L : List Tok) (w : World) (hL : L.length ≤ maxLen) (ht : Toks w A L) (hs : ∀ t ∈ L, t.s.length ≤ 500) (tb : Tabs w) (T : List UInt8) (er : Int) (hj : joinF L = (T, er)) :
    Calls Tryd.prog 17 #[.slice A L.length c] w (JoinPost w T er) := by
  by_cases h : 200 < L.length
  · rw [joinF, if_pos h] at hj
    obtain ⟨h1, h2⟩ := Prod.mk.inj hj
    subst h1 h2
    exact rjoin_many A c L w hL h tb
  · exact rjoin_go A c L w (by omega) ht hs tb T er hj
end Go.Proofs.YteidhjacnlcddaaDoor
