/- The walk of LexerJoin. -/
import Derived.Test.YteidhjacnlcddaaDoorLFinds
import Derived.Test.YteidhjacnlcddaaDoorLOpen
namespace Go.Proofs.YteidhjacnlcddaaDoor
open Go.ChangeShapes Go.WideShapes Go.ChangeAt Go.RowKit
set_option linter.unusedVariables false

theorem jl_great (A : Option Addr) (c : Nat) (L : List Tok) (n : Nat) (w : World) (hn : L.length = n) (hL : n ≤ maxLen) (ht : Toks w A L) (hgr : greatF L = true) (hg : Good w w) :
    Calls Tryd.prog 5 #[.slice A n c] w fun e w' => e = .returned (.bool true) ∧ Good w w' := by
  have HG := Lib.hid (great_g A c L n w hn hL ht true hgr)
  clear hn hL ht hgr
  go_enter Tryd.func5, Tryd.ntmps5
  go_wp2_with (first
    | (go_at_call 14; refine HG.out.mono ?_; rintro e w1 ⟨rfl, rfl⟩)
    | (go_at_call 13; refine (alive_g w _ (by assumption)).mono ?_; rintro e w' ⟨rfl, _, hg⟩))
  go_ret
  exact ⟨rfl, by assumption⟩

theorem joinF_ok {L : List Tok} {T : List UInt8} {er : Int} (hv : ∀ t ∈ L, checkE t.k t.s = 0) (hj : joinF L = (T, er)) :
    (er = 0 ∧ T = jn (L.map (·.s)) ∧ T.length ≤ 400 ∧ L.length ≤ 200) ∨ ((er = 4 ∨ er = 18) ∧ T = []) := by
  unfold joinF at hj
  by_cases h : 200 < L.length
  · rw [if_pos h] at hj
    obtain ⟨h1, h2⟩ := Prod.mk.inj hj
    exact .inr ⟨.inl h2.symm, h1.symm⟩
  · rw [if_neg h, if_pos (okL_all L hv)] at hj
    by_cases h4 : 400 < (jn (L.map (·.s))).length
    · rw [if_pos h4] at hj
      obtain ⟨h1, h2⟩ := Prod.mk.inj hj
      exact .inr ⟨.inr h2.symm, h1.symm⟩
    · rw [if_neg h4] at hj
      obtain ⟨h1, h2⟩ := Prod.mk.inj hj
      exact .inl ⟨h2.symm, h1.symm, by rw [← h1]; omega, by omega⟩
theorem joinF_al {L M : List Tok} (h : al L = al M) : joinF L = joinF M := by
  have h1 := al_length h
  have h2 : L.map (·.s) = M.map (·.s) := by
    have := congrArg (List.map Prod.snd) h
    simpa [al, List.map_map, Function.comp_def] using this
  have h3 : okL L = okL M := by
    have : ∀ K : List Tok, okL K = (al K).all fun p => checkE p.1 p.2 == 0 := by
      intro K; unfold okL al; rw [List.all_map]; rfl
    rw [this, this, h]
  unfold joinF
  rw [h1, h2, h3]

set_option maxHeartbeats 4000000 in
set_option maxRecDepth 100000 in
theorem jl_go (A : Option Addr) (c : Nat) (L : List Tok) (n : Nat) (w : World) (hn : L.length = n) (ht : Toks w A L) (hgr : greatF L = false) (hg : Good w w) :
    Calls Tryd.prog 5 #[.slice A n c] w fun e w' => e = .returned (.bool true) ∧ Good w w' := by
  obtain ⟨hL, hs⟩ := great_small hgr
  obtain ⟨Z, ej, hj⟩ := joinF_bytes L
  have HA := Lib.hid ht
  have HS := Lib.hid hs
  have HN := Lib.hid hn
  have HG := Lib.hid (great_g A c L n w hn (by unfold maxLen; omega) ht false hgr)
  have HJ := Lib.hid (fun w1 (h : Good w w1) => join_g A c L n Z ej w w1 hn (by omega) (ht.below h.1) (fun t ht => by have := hs t ht; unfold maxLen; omega) hj h)
  have HJF := Lib.hid hj
  have hn2 : n ≤ 220 := by omega
  have HGW := Lib.hid hg
  clear hn hL hs ht hgr hj hg
  go_enter Tryd.func5, Tryd.ntmps5
  go_wp2_with (go_at_call 14; refine HG.out.mono ?_; rintro e w1 ⟨rfl, rfl⟩)
  go_loopw [3] (fun i wr => ∃ k : Nat, k ≤ n ∧ i = .int .i64 k ∧ Hid (∀ t ∈ L.take k, checkE t.k t.s = 0) ∧ Hid (Good w wr)) (fun i _ => n - (intOf i).toNat)
  case atStart => exact ⟨0, Nat.zero_le _, rfl, Lib.hid (by simp), HGW⟩
  case round =>
    obtain ⟨k, hk, rfl, hd, hg⟩ := hrel
    by_cases hlt : k < n
    · obtain ⟨ad, t, rfl, ⟨c0, c1, c2⟩, htk⟩ := (HA.out.below hg.out.1).at_ k (by rw [HN.out]; exact hlt)
      have HK := Lib.hid htk
      obtain ⟨v, hv⟩ : ∃ v, (checkE t.k t.s == 0) = v := ⟨_, rfl⟩
      have HV := Lib.hid hv
      have hsz := HS.out t (List.mem_of_getElem? htk)
      obtain ⟨K, hK⟩ : ∃ K, t.k = K := ⟨_, rfl⟩
      obtain ⟨S, hS⟩ : ∃ S, bytesOf t.s = S := ⟨_, rfl⟩
      obtain ⟨a, ha⟩ : ∃ a, t.a = a := ⟨_, rfl⟩
      rw [hK] at c0
      rw [hS] at c1
      rw [ha] at c2
      have HC := Lib.hid (fun w => valid_any K a S v w (by rw [← hS, bytesOf_size]; unfold maxLen; omega) (by rw [← hS, bytesOf_list, ← hK]; exact hv))
      clear hK hS ha hv htk hsz
      cases v
      · go_wp2_with (first
          | (go_at_call 19; refine (HC.out _).mono ?_; rintro e w1 ⟨rfl, hb1⟩; have HG1 := Lib.hid (hg.out.step hb1); clear hb1)
          | (go_at_call 13; refine (alive_g w _ HG1.out).mono ?_; rintro e w' ⟨rfl, _, hg⟩))
        go_ret
        exact ⟨rfl, by assumption⟩
      · have HD := Lib.hid (show ∀ u ∈ L.take (k + 1), checkE u.k u.s = 0 by
          rw [take_snoc_tok L k t HK.out]
          intro u hu
          rcases List.mem_append.1 hu with hu | hu
          · exact hd.out u hu
          · simp only [List.mem_singleton] at hu; rw [hu]; have := HV.out; simpa using this)
        go_wp2_with (go_at_call 19; refine (HC.out _).mono ?_; rintro e w1 ⟨rfl, hb1⟩; have HG1 := Lib.hid (hg.out.step hb1); clear hb1)
        go_roundw
        case rel => exact ⟨k + 1, by omega, by go_num, HD, HG1⟩
        case measure => simp [intOf]; omega
    · have hall := hd.out
      rw [List.take_of_length_le (by rw [HN.out]; omega)] at hall
      have hg := hg.out
      rcases joinF_ok hall HJF.out with ⟨h1, h2, h3, h4⟩ | ⟨h1, h2⟩
      · subst h1
        obtain ⟨ts, hlex, hal⟩ := Lex.join L hall h4
        rw [← h2] at hlex
        have ha := allF_of h3 hlex
        rw [if_pos rfl] at ha
        have hZ : Z.data.toList.length = Z.size := by simp
        rw [hZ] at ha
        have hm : ts.length = n := by rw [al_length hal]; exact HN.out
        have h400 : ∀ t ∈ ts, t.s.length ≤ 400 := (lex_small ha).2.1
        have HA2 := Lib.hid (fun w1 h => all_g Z ts Z.size 0 n w w1 (by unfold maxLen; omega) ha hm h)
        have HJ2 := Lib.hid (fun A2 c2 w1 (ht2 : Toks w1 A2 ts) h => join_g A2 c2 ts n Z 0 w w1 hm (by omega) ht2 (fun t ht => by have := h400 t ht; unfold maxLen; omega) (by rw [joinF_al hal]; exact HJF.out) h)
        have HAl := Lib.hid (fun A2 c2 w1 (ht2 : Toks w1 A2 ts) (h : Good w w1) => alike_g A A2 c c2 L ts n w w1 HN.out hm (by omega) (HA.out.below h.1) ht2 hal.symm h)
        have e3 : (Z.toList == Z.toList) = true := by simp
        clear hall h2 h3 h4 hlex hal ha hZ hm h400 hd HJF
        go_wp2_with (first
          | (go_at_call 12; (first | ((with_reducible refine (HJ.out _ (by assumption)).mono ?_); rintro e w3 ⟨rfl, hb3, hg3⟩) | ((with_reducible refine (HJ2.out _ _ _ (HT2.out.below hb5) (by assumption)).mono ?_); rintro e w6 ⟨rfl, hb6, hg6⟩)))
          | (go_at_call 15; refine (HA2.out _ (by assumption)).mono ?_; rintro e w4 ⟨A2, c2, rfl, ht2, hb4, hg4⟩; have HT2 := Lib.hid ht2; clear ht2)
          | (go_at_call 20; refine (HAl.out _ _ _ HT2.out (by assumption)).mono ?_; rintro e w5 ⟨rfl, hb5, hg5⟩)
          | (go_at_call 13; refine (alive_g w _ (by assumption)).mono ?_; rintro e w' ⟨rfl, _, hg⟩))
        go_ret
        exact ⟨rfl, by assumption⟩
      · have hZ : Z = ⟨#[]⟩ := by apply ByteArray.ext; apply Array.toList_inj.1; exact h2
        subst hZ
        clear hall h2 hd HJF
        rcases h1 with rfl | rfl
        all_goals
          go_wp2_with (first
            | (go_at_call 12; refine (HJ.out _ (by assumption)).mono ?_; rintro e w3 ⟨rfl, hb3, hg3⟩)
            | (go_at_call 13; refine (alive_g w _ (by assumption)).mono ?_; rintro e w' ⟨rfl, _, hg⟩))
          go_ret
          exact ⟨rfl, by assumption⟩

theorem LexerJoin_walk (A : Option Addr) (c : Nat) (L : List Tok) (w : World) (hL : L.length ≤ maxLen) (ht : Toks w A L) (tb : Tabs w) :
    Calls Tryd.prog 5 #[.slice A L.length c] w fun e w' => e = .returned (.bool true) ∧ Below w.heap.size w w' := by
  suffices hh : Calls Tryd.prog 5 #[.slice A L.length c] w fun e w' => e = .returned (.bool true) ∧ Good w w' from hh.mono fun e w' ⟨he, hg⟩ => ⟨he, hg.1⟩
  have hg := Good.start tb
  cases hgr : greatF L
  · exact jl_go A c L _ w rfl ht hgr hg
  · exact jl_great A c L _ w rfl hL ht hgr hg
end Go.Proofs.YteidhjacnlcddaaDoor
