/- The walk of LexerBlanks. -/
import Derived.Test.YteidhjacnlcddaaDoorLFinds
import Derived.Test.YteidhjacnlcddaaDoorLCovers
import Derived.Test.YteidhjacnlcddaaDoorLOpen
namespace Go.Proofs.YteidhjacnlcddaaDoor
open Go.ChangeShapes Go.WideShapes Go.ChangeAt Go.RowKit
set_option linter.unusedVariables false

/-- A slice holds bools. -/
def Bls (w : World) (A : Option Addr) (B : List Bool) : Prop :=
  B = [] ∨ ∃ ad, A = some ad ∧ ad.block < w.heap.size ∧ ∀ (j : Nat) (b : Bool), B[j]? = some b → w.cell? (ad.add j) = some (.bool b)
theorem Bls.below {w w' : World} {A : Option Addr} {B : List Bool} (h : Bls w A B) (hb : Below w.heap.size w w') : Bls w' A B := by
  rcases h with h | ⟨ad, h1, h2, h3⟩
  · exact .inl h
  · refine .inr ⟨ad, h1, Nat.lt_of_lt_of_le h2 hb.size, fun j u hu => ?_⟩
    rw [hb.cell (p := ad.add j) (by rw [show (ad.add j).block = ad.block by unfold Addr.add; split <;> rfl]; exact h2)]
    exact h3 j u hu
theorem Bls.at_ {w : World} {A : Option Addr} {B : List Bool} (h : Bls w A B) (k : Nat) (hk : k < B.length) : ∃ ad b, A = some ad ∧ w.cell? (ad.add k) = some (.bool b) := by
  rcases h with rfl | ⟨ad, h1, h2, h3⟩
  · simp at hk
  · exact ⟨ad, B[k], h1, h3 k _ (List.getElem?_eq_getElem hk)⟩

theorem blanks_front {s G : List UInt8} (hs : s.length ≤ 300) (hG : G.length ≤ 20) (hb : Blanks G) {L : List Tok} {q : Nat} {er : Int} (ha : allF s = (L, q, er)) :
    ∃ X q', allF ((G ++ s) ++ G) = (X, q', er) ∧ al X = al L ∧ (er ≠ 0 → q' = q + G.length ∧ X = [] ∧ L = []) := by
  obtain ⟨ts, q1, e1, hL, hf⟩ := allF_lex s (by omega)
  rw [hf] at ha
  obtain ⟨h1, h2⟩ := Prod.mk.inj ha
  obtain ⟨h2, h3⟩ := Prod.mk.inj h2
  subst h2 h3
  have hlex := Lex.front (p := 0) hb ((hL.behind hb).shift G.length)
  have hf2 := allF_of (s := (G ++ s) ++ G) (by simp only [List.length_append]; omega) (by rw [List.append_assoc]; exact hlex)
  by_cases h0 : e1 = 0
  · rw [if_pos h0] at h1 hf2
    exact ⟨_, _, hf2, by rw [al_mv, h1], fun h => absurd h0 h⟩
  · rw [if_neg h0] at h1 hf2
    rw [if_neg h0] at hf2
    exact ⟨_, _, hf2, by rw [← h1], fun _ => ⟨rfl, rfl, h1.symm⟩⟩
theorem blanks_cut {s G : List UInt8} (hs : s.length ≤ 300) (hG : G.length ≤ 20) (hb : Blanks G) {L : List Tok} {q : Nat} (ha : allF s = (L, q, 0)) (i : Nat) (hi : i < L.length) :
    ∃ x : Nat, L[i].a = (x : Int) ∧ x ≤ s.length ∧ ∃ Y q', allF ((s.take x ++ G) ++ s.drop x) = (Y, q', 0) ∧ al Y = al L := by
  obtain ⟨ts, q1, e1, hL, hf⟩ := allF_lex s (by omega)
  rw [hf] at ha
  obtain ⟨h1, h2⟩ := Prod.mk.inj ha
  obtain ⟨h2, h3⟩ := Prod.mk.inj h2
  subst h2 h3
  rw [if_pos rfl] at h1
  subst h1
  obtain ⟨x, hx, hxl, ts', hl, hal⟩ := hL.insert hb rfl i hi
  rw [Nat.zero_add] at hx
  have hf2 := allF_of (s := (s.take x ++ G) ++ s.drop x) (by simp only [List.length_append, List.length_take, List.length_drop]; omega) (by rw [List.append_assoc]; exact hl)
  rw [if_pos rfl] at hf2
  exact ⟨x, hx, hxl, _, _, hf2, hal⟩

theorem bl_s (s : ByteArray) (A : Option Addr) (c n : Nat) (a : Int) (w : World) (hs : s.size ≤ maxLen) (hn : n ≤ maxLen) (h1 : 300 < s.size) (hg : Good w w) :
    Calls Tryd.prog 6 #[.string s, .slice A n c, .int .i64 a] w fun e w' => e = .returned (.bool true) ∧ Good w w' := by
  unfold maxLen at hs hn
  go_enter Tryd.func6, Tryd.ntmps6
  go_wp2_with (go_at_call 13; refine (alive_g w _ (by assumption)).mono ?_; rintro e w' ⟨rfl, _, hg⟩)
  go_ret
  exact ⟨rfl, by assumption⟩
theorem bl_b (s : ByteArray) (A : Option Addr) (c n : Nat) (a : Int) (w : World) (hs : s.size ≤ maxLen) (hn : n ≤ maxLen) (h0 : ¬ 300 < s.size) (h1 : 20 < n) (hg : Good w w) :
    Calls Tryd.prog 6 #[.string s, .slice A n c, .int .i64 a] w fun e w' => e = .returned (.bool true) ∧ Good w w' := by
  unfold maxLen at hs hn
  go_enter Tryd.func6, Tryd.ntmps6
  go_wp2_with (go_at_call 13; refine (alive_g w _ (by assumption)).mono ?_; rintro e w' ⟨rfl, _, hg⟩)
  go_ret
  exact ⟨rfl, by assumption⟩
theorem bl_a (s : ByteArray) (A : Option Addr) (c n : Nat) (a : Int) (w : World) (hs : s.size ≤ maxLen) (hn : n ≤ maxLen) (h0 : ¬ 300 < s.size) (h1 : ¬ 20 < n) (h2 : a < 0) (hg : Good w w) :
    Calls Tryd.prog 6 #[.string s, .slice A n c, .int .i64 a] w fun e w' => e = .returned (.bool true) ∧ Good w w' := by
  unfold maxLen at hs hn
  go_enter Tryd.func6, Tryd.ntmps6
  go_wp2_with (go_at_call 13; refine (alive_g w _ (by assumption)).mono ?_; rintro e w' ⟨rfl, _, hg⟩)
  go_ret
  exact ⟨rfl, by assumption⟩

theorem cat_list (x y : ByteArray) : (x ++ y).data.toList = x.data.toList ++ y.data.toList := by rw [ByteArray.data_append, Array.toList_append]
theorem blank_snoc {G : ByteArray} (c : UInt8) (hc : kindB c = 1) (h : Blanks G.data.toList) : Blanks (G ++ ⟨#[c]⟩).data.toList := by
  rw [cat_list]
  intro x hx
  rcases List.mem_append.1 hx with hx | hx
  · exact h x hx
  · have : x = c := by simpa using hx
    rw [this]; exact hc

set_option maxHeartbeats 4000000 in
set_option maxRecDepth 100000 in
theorem bl_err (s : ByteArray) (A : Option Addr) (c n : Nat) (B : List Bool) (a : Nat) (w : World) (hs : s.size ≤ 300) (hn : n ≤ 20) (hB : B.length = n) (hbl : Bls w A B) (L : List Tok) (q : Nat) (er : Int) (m : Nat) (ha : allF s.data.toList = (L, q, er)) (hm : L.length = m) (h0 : er ≠ 0) (ha63 : a ≤ 9223372036854775807) (hg : Good w w) :
    Calls Tryd.prog 6 #[.string s, .slice A n c, .int .i64 a] w fun e w' => e = .returned (.bool true) ∧ Good w w' := by
  have HA := Lib.hid (all_g s L q er m w w (by unfold maxLen; omega) ha hm hg)
  have HF := Lib.hid ha
  have HM := Lib.hid hm
  have HB := Lib.hid hbl
  have HN := Lib.hid hB
  have hm2 : m ≤ 200 := by have := (lex_small ha).1; omega
  have hlen := Lib.hid (show s.data.toList.length = s.size by simp)
  have h1 : ¬ 300 < s.size := by omega
  have h2 : ¬ 20 < n := by omega
  clear ha hm hbl hB hg
  go_enter Tryd.func6, Tryd.ntmps6
  go_wp2_with (go_at_call 15; refine HA.out.mono ?_; rintro e w1 ⟨A1, c1, rfl, ht1, hb1, hg1⟩; have HT1 := Lib.hid ht1; have HG1 := Lib.hid hg1; have HB1 := Lib.hid (HB.out.below hg1.1); clear ht1 hb1 hg1)
  go_loop [10, 11] (fun z i => ∃ (k : Nat) (G : ByteArray), k ≤ n ∧ i = .int .i64 k ∧ z = .string G ∧ G.size = k ∧ Hid (Blanks G.data.toList)) (fun _ i => n - (intOf i).toNat)
  case atStart => exact ⟨0, ⟨#[]⟩, Nat.zero_le _, rfl, rfl, rfl, Lib.hid (by intro x hx; simp at hx)⟩
  case round =>
    obtain ⟨k, G, hk, rfl, rfl, hgk, hbk⟩ := hrel
    by_cases hlt : k < n
    · have hgs : G.size ≤ 20 := by omega
      have HK := Lib.hid hgk
      obtain ⟨ad, b, rfl, hc⟩ := HB1.out.at_ k (by rw [HN.out]; exact hlt)
      clear hgk
      cases b
      · go_wp2
        go_round
        case rel => exact ⟨k + 1, G ++ ⟨#[10]⟩, by omega, by go_num, rfl, by rw [ByteArray.size_append, HK.out]; rfl, Lib.hid (blank_snoc 10 (by decide) hbk.out)⟩
        case measure => simp [intOf]; omega
      · go_wp2
        go_round
        case rel => exact ⟨k + 1, G ++ ⟨#[32]⟩, by omega, by go_num, rfl, by rw [ByteArray.size_append, HK.out]; rfl, Lib.hid (blank_snoc 32 (by decide) hbk.out)⟩
        case measure => simp [intOf]; omega
    · have hgs : G.size ≤ 20 := by omega
      have hGl := Lib.hid (show G.data.toList.length = G.size by simp)
      obtain ⟨X, q2, hx1, hx2, hx3⟩ := blanks_front (by rw [hlen.out]; exact hs) (by rw [hGl.out]; exact hgs) hbk.out HF.out
      have hmx : X.length = m := by rw [al_length hx2]; exact HM.out
      have HX := Lib.hid (fun w1 h => all_g ((G ++ s) ++ G) X q2 er m w w1 (by rw [ByteArray.size_append, ByteArray.size_append]; unfold maxLen; omega) (by rw [cat_list, cat_list]; exact hx1) hmx h)
      have HAl := Lib.hid (fun A2 c2 w1 h1 (h2 : Toks w1 A2 X) h => alike_g A1 A2 c1 c2 L X m w w1 HM.out hmx (by omega) h1 h2 hx2.symm h)
      have hz1 : (G ++ s).size ≤ 320 := by rw [ByteArray.size_append]; omega
      have hq2 : q2 ≤ 1000 := by
        have := (lex_small hx1).2.2
        simp only [List.length_append] at this
        rw [hlen.out, hGl.out] at this
        omega
      have hq1 : q ≤ 1000 := by have := (lex_small HF.out).2.2; rw [hlen.out] at this; omega
      have hee : ((er : Int) == er) = true := by simp
      have hen : ((er : Int) != er) = false := by simp
      clear hgk
      have HQ := Lib.hid (show q2 = q + G.size by rw [(hx3 h0).1, hGl.out])
      have hqq : ((q2 : Int) == (q : Int) + G.size) = true := by rw [HQ.out]; simp
      have hm0 : m = 0 := by rw [← HM.out, (hx3 h0).2.2]; rfl
      subst hm0
      have he1 : (er != 0) = true := by simpa using h0
      clear hx1 hx2 hx3 hmx h0
      go_wp2_with (first
        | (go_at_call 15; refine (HX.out _ HG1.out).mono ?_; rintro e w2 ⟨A2, c2, rfl, ht2, hb2, hg2⟩; have HT2 := Lib.hid (And.intro (HT1.out.below hb2) ht2); clear ht2)
        | (go_at_call 20; refine (HAl.out _ _ _ HT2.out.1 HT2.out.2 hg2).mono ?_; rintro e w3 ⟨rfl, hb3, hg3⟩)
        | (go_at_call 13; refine (alive_g w _ (by assumption)).mono ?_; rintro e w' ⟨rfl, _, hg⟩))
      go_ret
      exact ⟨rfl, by assumption⟩


set_option maxHeartbeats 4000000 in
set_option maxRecDepth 100000 in
theorem bl_none (s : ByteArray) (A : Option Addr) (c n : Nat) (B : List Bool) (a : Nat) (w : World) (hs : s.size ≤ 300) (hn : n ≤ 20) (hB : B.length = n) (hbl : Bls w A B) (L : List Tok) (q : Nat)  (ha : allF s.data.toList = (L, q, 0)) (hm : L.length = 0)  (ha63 : a ≤ 9223372036854775807) (hg : Good w w) :
    Calls Tryd.prog 6 #[.string s, .slice A n c, .int .i64 a] w fun e w' => e = .returned (.bool true) ∧ Good w w' := by
  have HA := Lib.hid (all_g s L q 0 0 w w (by unfold maxLen; omega) ha hm hg)
  have HF := Lib.hid ha
  have HM := Lib.hid hm
  have HB := Lib.hid hbl
  have HN := Lib.hid hB
  have hm2 : 0 ≤ 200 := by have := (lex_small ha).1; omega
  have hlen := Lib.hid (show s.data.toList.length = s.size by simp)
  have h1 : ¬ 300 < s.size := by omega
  have h2 : ¬ 20 < n := by omega
  clear ha hm hbl hB hg
  go_enter Tryd.func6, Tryd.ntmps6
  go_wp2_with (go_at_call 15; refine HA.out.mono ?_; rintro e w1 ⟨A1, c1, rfl, ht1, hb1, hg1⟩; have HT1 := Lib.hid ht1; have HG1 := Lib.hid hg1; have HB1 := Lib.hid (HB.out.below hg1.1); clear ht1 hb1 hg1)
  go_loop [10, 11] (fun z i => ∃ (k : Nat) (G : ByteArray), k ≤ n ∧ i = .int .i64 k ∧ z = .string G ∧ G.size = k ∧ Hid (Blanks G.data.toList)) (fun _ i => n - (intOf i).toNat)
  case atStart => exact ⟨0, ⟨#[]⟩, Nat.zero_le _, rfl, rfl, rfl, Lib.hid (by intro x hx; simp at hx)⟩
  case round =>
    obtain ⟨k, G, hk, rfl, rfl, hgk, hbk⟩ := hrel
    by_cases hlt : k < n
    · have hgs : G.size ≤ 20 := by omega
      have HK := Lib.hid hgk
      obtain ⟨ad, b, rfl, hc⟩ := HB1.out.at_ k (by rw [HN.out]; exact hlt)
      clear hgk
      cases b
      · go_wp2
        go_round
        case rel => exact ⟨k + 1, G ++ ⟨#[10]⟩, by omega, by go_num, rfl, by rw [ByteArray.size_append, HK.out]; rfl, Lib.hid (blank_snoc 10 (by decide) hbk.out)⟩
        case measure => simp [intOf]; omega
      · go_wp2
        go_round
        case rel => exact ⟨k + 1, G ++ ⟨#[32]⟩, by omega, by go_num, rfl, by rw [ByteArray.size_append, HK.out]; rfl, Lib.hid (blank_snoc 32 (by decide) hbk.out)⟩
        case measure => simp [intOf]; omega
    · have hgs : G.size ≤ 20 := by omega
      have hGl := Lib.hid (show G.data.toList.length = G.size by simp)
      obtain ⟨X, q2, hx1, hx2, hx3⟩ := blanks_front (by rw [hlen.out]; exact hs) (by rw [hGl.out]; exact hgs) hbk.out HF.out
      have hmx : X.length = 0 := by rw [al_length hx2]; exact HM.out
      have HX := Lib.hid (fun w1 h => all_g ((G ++ s) ++ G) X q2 0 0 w w1 (by rw [ByteArray.size_append, ByteArray.size_append]; unfold maxLen; omega) (by rw [cat_list, cat_list]; exact hx1) hmx h)
      have HAl := Lib.hid (fun A2 c2 w1 h1 (h2 : Toks w1 A2 X) h => alike_g A1 A2 c1 c2 L X 0 w w1 HM.out hmx (by omega) h1 h2 hx2.symm h)
      have hz1 : (G ++ s).size ≤ 320 := by rw [ByteArray.size_append]; omega
      have hq2 : q2 ≤ 1000 := by
        have := (lex_small hx1).2.2
        simp only [List.length_append] at this
        rw [hlen.out, hGl.out] at this
        omega
      have hq1 : q ≤ 1000 := by have := (lex_small HF.out).2.2; rw [hlen.out] at this; omega
      have hee : ((0 : Int) == 0) = true := by simp
      have hen : ((0 : Int) != 0) = false := by simp
      clear hgk
      clear hx1 hx2 hx3 hmx
      go_wp2_with (first
        | (go_at_call 15; refine (HX.out _ HG1.out).mono ?_; rintro e w2 ⟨A2, c2, rfl, ht2, hb2, hg2⟩; have HT2 := Lib.hid (And.intro (HT1.out.below hb2) ht2); clear ht2)
        | (go_at_call 20; refine (HAl.out _ _ _ HT2.out.1 HT2.out.2 hg2).mono ?_; rintro e w3 ⟨rfl, hb3, hg3⟩)
        | (go_at_call 13; refine (alive_g w _ (by assumption)).mono ?_; rintro e w' ⟨rfl, _, hg⟩))
      go_ret
      exact ⟨rfl, by assumption⟩


set_option maxHeartbeats 4000000 in
set_option maxRecDepth 100000 in
theorem bl_cut (s : ByteArray) (A : Option Addr) (c n : Nat) (B : List Bool) (a : Nat) (w : World) (hs : s.size ≤ 300) (hn : n ≤ 20) (hB : B.length = n) (hbl : Bls w A B) (L : List Tok) (q : Nat) (m : Nat) (ha : allF s.data.toList = (L, q, 0)) (hm : L.length = m) (hm0 : 0 < m) (ha63 : a ≤ 9223372036854775807) (hg : Good w w) :
    Calls Tryd.prog 6 #[.string s, .slice A n c, .int .i64 a] w fun e w' => e = .returned (.bool true) ∧ Good w w' := by
  have HA := Lib.hid (all_g s L q 0 m w w (by unfold maxLen; omega) ha hm hg)
  have HF := Lib.hid ha
  have HM := Lib.hid hm
  have HB := Lib.hid hbl
  have HN := Lib.hid hB
  have hm2 : m ≤ 200 := by have := (lex_small ha).1; omega
  have hlen := Lib.hid (show s.data.toList.length = s.size by simp)
  have h1 : ¬ 300 < s.size := by omega
  have h2 : ¬ 20 < n := by omega
  clear ha hm hbl hB hg
  go_enter Tryd.func6, Tryd.ntmps6
  go_wp2_with (go_at_call 15; refine HA.out.mono ?_; rintro e w1 ⟨A1, c1, rfl, ht1, hb1, hg1⟩; have HT1 := Lib.hid ht1; have HG1 := Lib.hid hg1; have HB1 := Lib.hid (HB.out.below hg1.1); clear ht1 hb1 hg1)
  go_loop [10, 11] (fun z i => ∃ (k : Nat) (G : ByteArray), k ≤ n ∧ i = .int .i64 k ∧ z = .string G ∧ G.size = k ∧ Hid (Blanks G.data.toList)) (fun _ i => n - (intOf i).toNat)
  case atStart => exact ⟨0, ⟨#[]⟩, Nat.zero_le _, rfl, rfl, rfl, Lib.hid (by intro x hx; simp at hx)⟩
  case round =>
    obtain ⟨k, G, hk, rfl, rfl, hgk, hbk⟩ := hrel
    by_cases hlt : k < n
    · have hgs : G.size ≤ 20 := by omega
      have HK := Lib.hid hgk
      obtain ⟨ad, b, rfl, hc⟩ := HB1.out.at_ k (by rw [HN.out]; exact hlt)
      clear hgk
      cases b
      · go_wp2
        go_round
        case rel => exact ⟨k + 1, G ++ ⟨#[10]⟩, by omega, by go_num, rfl, by rw [ByteArray.size_append, HK.out]; rfl, Lib.hid (blank_snoc 10 (by decide) hbk.out)⟩
        case measure => simp [intOf]; omega
      · go_wp2
        go_round
        case rel => exact ⟨k + 1, G ++ ⟨#[32]⟩, by omega, by go_num, rfl, by rw [ByteArray.size_append, HK.out]; rfl, Lib.hid (blank_snoc 32 (by decide) hbk.out)⟩
        case measure => simp [intOf]; omega
    · have hgs : G.size ≤ 20 := by omega
      have hGl := Lib.hid (show G.data.toList.length = G.size by simp)
      obtain ⟨X, q2, hx1, hx2, hx3⟩ := blanks_front (by rw [hlen.out]; exact hs) (by rw [hGl.out]; exact hgs) hbk.out HF.out
      have hmx : X.length = m := by rw [al_length hx2]; exact HM.out
      have HX := Lib.hid (fun w1 h => all_g ((G ++ s) ++ G) X q2 0 m w w1 (by rw [ByteArray.size_append, ByteArray.size_append]; unfold maxLen; omega) (by rw [cat_list, cat_list]; exact hx1) hmx h)
      have HAl := Lib.hid (fun A2 c2 w1 h1 (h2 : Toks w1 A2 X) h => alike_g A1 A2 c1 c2 L X m w w1 HM.out hmx (by omega) h1 h2 hx2.symm h)
      have hz1 : (G ++ s).size ≤ 320 := by rw [ByteArray.size_append]; omega
      have hq2 : q2 ≤ 1000 := by
        have := (lex_small hx1).2.2
        simp only [List.length_append] at this
        rw [hlen.out, hGl.out] at this
        omega
      have hq1 : q ≤ 1000 := by have := (lex_small HF.out).2.2; rw [hlen.out] at this; omega
      have hee : ((0 : Int) == 0) = true := by simp
      have hen : ((0 : Int) != 0) = false := by simp
      clear hgk
      obtain ⟨i, hi⟩ : ∃ i, a % m = i := ⟨_, rfl⟩
      have him : i < m := by rw [← hi]; exact Nat.mod_lt _ hm0
      have hrem : (a : Int) % (m : Int) = (i : Int) := by rw [← hi]; rfl
      obtain ⟨ad, t, rfl, _, htk⟩ := HT1.out.at_ i (by rw [HM.out]; exact him)
      obtain ⟨x, hxa, hxl, Y, q3, hy1, hy2⟩ := blanks_cut (by rw [hlen.out]; exact hs) (by rw [hGl.out]; exact hgs) hbk.out HF.out i (by rw [HM.out]; exact him)
      rw [hlen.out] at hxl
      have hta : t.a = x := by
        obtain ⟨hi2, e⟩ := List.getElem?_eq_some_iff.1 htk
        rw [← e]; exact hxa
      have HTV := Lib.hid (show ∀ w1, Toks w1 (some ad) L → w1.cell? ⟨(ad.add (i * 3)).block, (ad.add (i * 3)).off + 2, none⟩ = some (.int .i64 (x : Int)) by
        intro w1 h
        obtain ⟨_, _, d2⟩ := toks_val htk w1 h
        rw [d2, hta])
      have hmy : Y.length = m := by rw [al_length hy2]; exact HM.out
      have hcutl : ((s.extract 0 x ++ G) ++ s.extract x s.size).data.toList = (s.data.toList.take x ++ G.data.toList) ++ s.data.toList.drop x := by
        rw [cat_list, cat_list]
        congr 1
        · congr 1; simp
        · simp; rw [List.take_of_length_le]; simp
      have hz2 : (s.extract 0 x).size ≤ 300 := by rw [ByteArray.size_extract]; omega
      have hz3 : (s.extract x s.size).size ≤ 300 := by rw [ByteArray.size_extract]; omega
      have hz4 : (s.extract 0 x ++ G).size ≤ 320 := by rw [ByteArray.size_append]; omega
      have HY := Lib.hid (fun w1 (h : Toks w1 (some ad) L ∧ Good w w1) => (all_g ((s.extract 0 x ++ G) ++ s.extract x s.size) Y q3 0 m w w1 (by rw [ByteArray.size_append]; unfold maxLen; omega) (by rw [hcutl]; exact hy1) hmy h.2).mono
        fun e w' ⟨A, c, he, ht, hb, hg⟩ => (⟨A, c, he, ht, h.1.below hb, hg⟩ : ∃ A c, e = Ending.returned (.tuple #[.slice A m c, .int .i64 q3, .int .i64 0]) ∧ Toks w' A Y ∧ Toks w' (some ad) L ∧ Good w w'))
      have HAl2 := Lib.hid (fun A2 c2 w1 h1 (h2 : Toks w1 A2 Y) h => alike_g (some ad) A2 c1 c2 L Y m w w1 HM.out hmy (by omega) h1 h2 hy2.symm h)
      have q63 : a ≤ 9223372036854775807 := ha63
      clear hx1 hx2 hx3 hmx hi hxa hy1 hy2 hta hmy hcutl htk
      go_wp2_with (first
        | (go_at_call 15; refine (HX.out _ HG1.out).mono ?_; rintro e w2 ⟨A2, c2, rfl, ht2, hb2, hg2⟩; have HT2 := Lib.hid (And.intro (HT1.out.below hb2) ht2); clear ht2)
        | (go_at_call 20; refine (HAl.out _ _ _ HT2.out.1 HT2.out.2 hg2).mono ?_; rintro e w3 ⟨rfl, hb3, hg3⟩; have HT3 := Lib.hid (HT2.out.1.below hb3); have d2 := HTV.out _ HT3.out))
      have k1 := fun W => run_string_add_sum (P := Tryd.prog) W (s.extract 0 x) G (by omega)
      have k2 := fun W => run_string_add_sum (P := Tryd.prog) W (s.extract 0 x ++ G) (s.extract x s.size) (by omega)
      have hS := Lib.hid (show Toks w3.drew (some ad) L ∧ Good w w3.drew from ⟨HT3.out.below (bd_drewN _ 1), hg3.step (bd_drewN _ 1)⟩)
      go_region_held3 (fun w' => Toks w' (some ad) L ∧ Good w w') (first | exact hS.out | assumption)
        (first | (go_at_call 15; refine (HY.out _ (by assumption)).mono ?_; rintro e w4 ⟨A4, c4, rfl, ht4, hs4⟩; have HT4 := Lib.hid ht4; clear ht4))
      go_wp2_with (first
        | (go_at_call 20; refine (HAl2.out _ _ _ hs4.1 HT4.out hs4.2).mono ?_; rintro e w5 ⟨rfl, hb5, hg5⟩)
        | (go_at_call 13; refine (alive_g w _ (by assumption)).mono ?_; rintro e w' ⟨rfl, _, hg⟩))
      go_ret
      exact ⟨rfl, by assumption⟩


theorem LexerBlanks_walk (s : ByteArray) (A : Option Addr) (c : Nat) (B : List Bool) (a : Int) (w : World) (hs : s.size ≤ maxLen) (hB : B.length ≤ maxLen) (hbl : Bls w A B) (wa : (Lit.int .i64 a).wf = true) (tb : Tabs w) :
    Calls Tryd.prog 6 #[.string s, .slice A B.length c, .int .i64 a] w fun e w' => e = .returned (.bool true) ∧ Below w.heap.size w w' := by
  suffices hh : Calls Tryd.prog 6 #[.string s, .slice A B.length c, .int .i64 a] w fun e w' => e = .returned (.bool true) ∧ Good w w' from hh.mono fun e w' ⟨he, hg⟩ => ⟨he, hg.1⟩
  have hg := Good.start tb
  by_cases h1 : 300 < s.size
  · exact bl_s s A c _ a w hs hB h1 hg
  by_cases h2 : 20 < B.length
  · exact bl_b s A c _ a w hs hB h1 h2 hg
  by_cases h3 : a < 0
  · exact bl_a s A c _ a w hs hB h1 h2 h3 hg
  obtain ⟨a, rfl⟩ := Int.eq_ofNat_of_zero_le (show 0 ≤ a by omega)
  have ha63 : a ≤ 9223372036854775807 := by have := (bounds_i64 wa).2; omega
  obtain ⟨L, q, er, ha⟩ : ∃ L q er, allF s.data.toList = (L, q, er) := ⟨_, _, _, rfl⟩
  by_cases h0 : er = 0
  · subst h0
    rcases Nat.eq_zero_or_pos L.length with hm | hm
    · exact bl_none s A c _ B a w (by omega) (by omega) rfl hbl L q ha hm ha63 hg
    · exact bl_cut s A c _ B a w (by omega) (by omega) rfl hbl L q _ ha rfl hm ha63 hg
  · exact bl_err s A c _ B a w (by omega) (by omega) rfl hbl L q er _ ha rfl h0 ha63 hg

section
variable {H : Type} {enc : TypeId × Value → H} {W : World} {held : Bool}
theorem open_boolsl {r : Reach} {b0 : Nat} {v : Value} {d : DataW H} {ps : List MemPlace} (hval : Value.okWide Tryd.prog W r b0 42 v) (hd : DataW.Trod enc Tryd.prog W 0 (fun _ => true) held 42 v d ps) :
    ∃ (A : Option Addr) (c : Nat) (B : List Bool), v = .slice A B.length c ∧ B.length ≤ maxLen ∧ Bls W A B := by
  obtain ⟨A, n, c, rfl⟩ := okWide_slice Tryd.underlying42 hval
  obtain ⟨fuel, hf⟩ := hd
  rcases Go.Deep.open_slice1 Tryd.underlying42 bool_cells hf with ⟨hc, _⟩ | ⟨a, len, cap, m, nn, V, D, Pl, hc, hb, hl, hm, hmm, hx, hi⟩
  · simp [Value.cells] at hc
    obtain ⟨rfl, rfl, rfl⟩ := hc
    exact ⟨none, 0, [], rfl, Nat.zero_le _, .inl rfl⟩
  · simp [Value.cells] at hc
    obtain ⟨rfl, rfl, rfl⟩ := hc
    simp only [if_true] at hmm
    subst hmm
    have key : ∀ i, i < n → ∃ b, V i = .bool b := by
      intro i hin
      obtain ⟨b, h1, _⟩ := DataW.trod_bool Tryd.underlying4 (hi i (by omega)).2
      exact ⟨b, by simpa using h1⟩
    have hB : ∀ k, k ≤ n → ∃ B : List Bool, B.length = k ∧ ∀ (j : Nat) (b : Bool), B[j]? = some b → W.cell? (a.add j) = some (.bool b) := by
      intro k
      induction k with
      | zero => intro _; exact ⟨[], rfl, by intro j b h; simp at h⟩
      | succ k ih =>
        intro hk
        obtain ⟨B, h1, h2⟩ := ih (by omega)
        obtain ⟨b, hb⟩ := key k (by omega)
        refine ⟨B ++ [b], by simp [h1], ?_⟩
        intro j x hx
        rcases Nat.lt_or_ge j k with hj | hj
        · rw [List.getElem?_append_left (by omega)] at hx; exact h2 j x hx
        · have hjk : j = k := by
            obtain ⟨hx1, _⟩ := List.getElem?_eq_some_iff.1 hx
            rw [List.length_append, h1] at hx1
            simp at hx1
            omega
          subst hjk
          rw [List.getElem?_append_right (by omega), h1, Nat.sub_self] at hx
          simp only [List.getElem?_cons_zero, Option.some.injEq] at hx
          subst hx
          rw [(hi j (by omega)).1, hb]
    obtain ⟨B, h1, h2⟩ := hB n (Nat.le_refl _)
    refine ⟨some a, m, B, by rw [h1], by omega, ?_⟩
    rcases Nat.eq_zero_or_pos n with h0 | h0
    · exact .inl (List.eq_nil_of_length_eq_zero (by omega))
    · obtain ⟨b, hb⟩ := key 0 h0
      refine .inr ⟨a, rfl, ?_, h2⟩
      have hc0 := (hi 0 (by omega)).1
      have := cell_lt hc0
      rwa [show (a.add 0).block = a.block by unfold Addr.add; rfl] at this
end
end Go.Proofs.YteidhjacnlcddaaDoor
