/- What is asked of tokens and an index. -/
import Derived.Test.YtoobggcopoljcaaDoorEParse
namespace Go.Proofs.YtoobggcopoljcaaDoor
open Go.ChangeShapes Go.WideShapes Go.ChangeAt Go.RowKit N4
set_option linter.unusedVariables false
set_option maxRecDepth 100000

theorem valid_any (k a : Int) (s : ByteArray) (b : Bool) (w : World) (hs : s.size ≤ maxLen) (hb : (checkE k s.data.toList == 0) = b) :
    Calls Tryd.prog 37 #[.agg #[.int .u8 k, .string s, .int .i64 a]] w fun e w' => e = .returned (.bool b) ∧ Below w.heap.size w w' := by
  have hlen : s.data.toList.length = s.size := by simp
  unfold checkE at hb
  by_cases h1 : k = 1
  · rw [if_pos h1] at hb; subst h1; exact valid_1 a s w hs _ b rfl hb
  · rw [if_neg h1] at hb
    by_cases h2 : k = 2
    · rw [if_pos h2] at hb; subst h2
      refine valid_2 a s w b ?_
      rw [← hb]
      cases isWord s.data.toList <;> rfl
    · rw [if_neg h2] at hb
      by_cases h3 : k = 3
      · rw [if_pos h3] at hb; subst h3
        rcases Nat.eq_zero_or_pos s.size with h0 | h0
        · rw [if_neg (fun e => e.2 (List.eq_nil_of_length_eq_zero (by omega)))] at hb
          subst hb
          exact valid_3e a s w h0
        · refine valid_3 a s _ w hs h0 rfl b ?_
          rw [← hb]
          by_cases hl : longL s.data.toList = s.size
          · rw [if_pos ⟨by omega, fun e => by rw [e] at hlen; simp at hlen; omega⟩, hl]; simp
          · rw [if_neg (fun e => hl (by omega))]; simp; omega
      · rw [if_neg h3] at hb; subst hb; exact valid_o k a s w h1 h2 h3

def askF (L : List Tok) (a : Int) : Int := if chkF L = 0 then (if a < 0 ∨ (L.length : Int) < a then 2 else 0) else chkF L
theorem chk_tok {L : List Tok} {k : Nat} {t : Tok} (hl : L.length ≤ 200) (hk : L[k]? = some t) (h : checkE t.k t.s ≠ 0 ∨ t.a < 0 ∨ 400 < t.a) : chkF L = 8 := by
  rw [chkF, if_neg (show ¬ 200 < L.length by omega)]
  rcases h with h | h
  · rw [if_neg (by rw [okL_bad L t k hk h]; decide)]
  · split
    · rw [if_neg (by rw [at_bad hk h]; decide)]
    · rfl
def TkGood (t : Tok) : Prop := checkE t.k t.s = 0 ∧ TkOk t
theorem chk_all {L : List Tok} (hl : L.length ≤ 200) (h : ∀ t ∈ L, TkGood t) : chkF L = 0 := by
  rw [chkF, if_neg (show ¬ 200 < L.length by omega), if_pos (okL_all L (fun t ht => (h t ht).1)), if_pos (at_all (fun t ht => (h t ht).2))]
theorem asked_many (A : Option Addr) (c n : Nat) (L : List Tok) (a : Int) (w : World) (hn : L.length = n) (hL : n ≤ maxLen) (h : 200 < n) :
    Calls Tryd.prog 17 #[.slice A n c, .int .i64 a] w fun e w' => e = .returned (.int .i64 4) ∧ Below w.heap.size w w' := by
  unfold maxLen at hL
  go_enter Tryd.func17, Tryd.ntmps17
  go_wp2
  go_ret
  exact ⟨rfl, Below.refl _ _⟩
set_option maxHeartbeats 2000000 in
theorem asked_go (A : Option Addr) (c n : Nat) (L : List Tok) (a : Int) (w : World) (hn : L.length = n) (h : n ≤ 200) (ht : Toks w A L) (hs : ∀ t ∈ L, t.s.length ≤ maxLen) (v : Int) (hv : askF L a = v) :
    Calls Tryd.prog 17 #[.slice A n c, .int .i64 a] w fun e w' => e = .returned (.int .i64 v) ∧ Below w.heap.size w w' := by
  have HN := Lib.hid hn
  have HS := Lib.hid hs
  have HV := Lib.hid hv
  have HT := Lib.hid (show ∀ W, Below w.heap.size w W → Toks W A L from fun W hb => ht.below hb)
  clear hn hs hv ht
  go_enter Tryd.func17, Tryd.ntmps17
  go_wp2
  go_loopw [5] (fun i wr => ∃ k : Nat, k ≤ n ∧ i = .int .i64 k ∧ Hid (∀ t ∈ L.take k, TkGood t) ∧ Hid (Below w.heap.size w wr)) (fun i _ => n - (intOf i).toNat)
  case atStart => exact ⟨0, Nat.zero_le _, rfl, Lib.hid (by simp), Lib.hid (Below.refl _ _)⟩
  case round =>
    obtain ⟨k, hk, rfl, hd, hg⟩ := hrel
    by_cases hlt : k < n
    · obtain ⟨ad, t, rfl, ⟨c0, c1, c2⟩, htk⟩ := (HT.out wr hg.out).at_ k (by rw [HN.out]; exact hlt)
      have HK := Lib.hid htk
      obtain ⟨v', hv'⟩ : ∃ v', (checkE t.k t.s == 0) = v' := ⟨_, rfl⟩
      have HVV := Lib.hid hv'
      have hsz := HS.out t (List.mem_of_getElem? htk)
      have HTA := Lib.hid (show ∀ W, Below w.heap.size w W → W.cell? ⟨(ad.add (k * 3)).block, (ad.add (k * 3)).off + 2, none⟩ = some (.int .i64 t.a) from fun W hb => by
        obtain ⟨ad', t', e1, ⟨_, _, h3⟩, e2⟩ := (HT.out W hb).at_ k (by rw [HN.out]; exact hlt)
        obtain rfl := Option.some.inj e1
        have e3 : t' = t := Option.some.inj (e2.symm.trans htk)
        rw [e3] at h3; exact h3)
      obtain ⟨K, hK⟩ : ∃ K, t.k = K := ⟨_, rfl⟩
      obtain ⟨S, hS⟩ : ∃ S, bytesOf t.s = S := ⟨_, rfl⟩
      obtain ⟨y, hy⟩ : ∃ y, t.a = y := ⟨_, rfl⟩
      rw [hK] at c0
      rw [hS] at c1
      rw [hy] at c2 HTA
      have HY := Lib.hid hy
      have HC := Lib.hid (fun w => valid_any K y S v' w (by rw [← hS, bytesOf_size]; exact hsz) (by rw [← hS, bytesOf_list, ← hK]; exact hv'))
      clear hK hS hy hv' htk hsz
      cases v'
      · have HB := Lib.hid (show v = 8 by
          rw [← HV.out, askF, chk_tok (by rw [HN.out]; exact h) HK.out (.inl (fun e => by have := HVV.out; rw [e] at this; exact absurd this (by decide)))]; rfl)
        go_wp2_with (go_at_call 37; refine (HC.out _).mono ?_; rintro e w1 ⟨rfl, hb1⟩; have HG1 := Lib.hid (hg.out.trans (hb1.mono hg.out.size)); clear hb1)
        go_ret
        exact ⟨ret_int' HB.out.symm, HG1.out⟩
      · by_cases h1 : y < 0
        · have HB := Lib.hid (show v = 8 by
            rw [← HV.out, askF, chk_tok (by rw [HN.out]; exact h) HK.out (.inr (.inl (by rw [HY.out]; exact h1)))]; rfl)
          go_wp2_with (go_at_call 37; refine (HC.out _).mono ?_; rintro e w1 ⟨rfl, hb1⟩; have HG1 := Lib.hid (hg.out.trans (hb1.mono hg.out.size)); have d2 := HTA.out _ HG1.out; clear hb1)
          go_ret
          exact ⟨ret_int' HB.out.symm, HG1.out⟩
        · by_cases h2 : 400 < y
          · have HB := Lib.hid (show v = 8 by
              rw [← HV.out, askF, chk_tok (by rw [HN.out]; exact h) HK.out (.inr (.inr (by rw [HY.out]; exact h2)))]; rfl)
            go_wp2_with (go_at_call 37; refine (HC.out _).mono ?_; rintro e w1 ⟨rfl, hb1⟩; have HG1 := Lib.hid (hg.out.trans (hb1.mono hg.out.size)); have d2 := HTA.out _ HG1.out; clear hb1)
            go_ret
            exact ⟨ret_int' HB.out.symm, HG1.out⟩
          · have HD := Lib.hid (show ∀ u ∈ L.take (k + 1), TkGood u by
              rw [take_snoc_tok L k t HK.out]
              intro u hu
              rcases List.mem_append.1 hu with hu | hu
              · exact hd.out u hu
              · simp only [List.mem_singleton] at hu; rw [hu]; have := HVV.out; exact ⟨by simpa using this, by rw [HY.out]; omega, by rw [HY.out]; omega⟩)
            go_wp2_with (go_at_call 37; refine (HC.out _).mono ?_; rintro e w1 ⟨rfl, hb1⟩; have HG1 := Lib.hid (hg.out.trans (hb1.mono hg.out.size)); have d2 := HTA.out _ HG1.out; clear hb1)
            go_roundw
            case rel => exact ⟨k + 1, by omega, by go_num, HD, HG1⟩
            case measure => simp [intOf]; omega
    · have hall := hd.out
      rw [List.take_of_length_le (by rw [HN.out]; omega)] at hall
      have hz := chk_all (by rw [HN.out]; exact h) hall
      have HVV := Lib.hid (show (if a < 0 ∨ (n : Int) < a then (2 : Int) else 0) = v by rw [← HV.out, askF, if_pos hz, HN.out])
      clear hall hz hd
      by_cases h1 : a < 0
      · have HB := Lib.hid (show v = 2 by rw [← HVV.out, if_pos (.inl h1)])
        go_wp2
        go_ret
        exact ⟨ret_int' HB.out.symm, hg.out⟩
      · by_cases h2 : (n : Int) < a
        · have HB := Lib.hid (show v = 2 by rw [← HVV.out, if_pos (.inr h2)])
          go_wp2
          go_ret
          exact ⟨ret_int' HB.out.symm, hg.out⟩
        · have HB := Lib.hid (show v = 0 by rw [← HVV.out, if_neg (by omega)])
          go_wp2
          go_ret
          exact ⟨ret_int' HB.out.symm, hg.out⟩
theorem asked_any (A : Option Addr) (c n : Nat) (L : List Tok) (a : Int) (w : World) (hn : L.length = n) (hL : n ≤ maxLen) (ht : Toks w A L) (hs : ∀ t ∈ L, t.s.length ≤ maxLen) (v : Int) (hv : askF L a = v) :
    Calls Tryd.prog 17 #[.slice A n c, .int .i64 a] w fun e w' => e = .returned (.int .i64 v) ∧ Below w.heap.size w w' := by
  by_cases h : 200 < n
  · have : v = 4 := by rw [← hv, askF, chkF, if_pos (show 200 < L.length by omega)]; rfl
    subst this
    exact asked_many A c n L a w hn hL h
  · exact asked_go A c n L a w hn (by omega) ht hs v hv
theorem ask_zero {L : List Tok} {a : Int} (h : askF L a = 0) : chkF L = 0 ∧ 0 ≤ a ∧ a ≤ L.length := by
  unfold askF at h
  by_cases h1 : chkF L = 0
  · rw [if_pos h1] at h
    by_cases h2 : a < 0 ∨ (L.length : Int) < a
    · rw [if_pos h2] at h; omega
    · exact ⟨h1, by omega, by omega⟩
  · rw [if_neg h1] at h; exact absurd h h1
end Go.Proofs.YtoobggcopoljcaaDoor
