/- The contract of lexer.Join. -/
import Derived.Test.YteidhjacnlcddaaDoorLTok
namespace Go.Proofs.YteidhjacnlcddaaDoor
open Go.ChangeShapes Go.WideShapes Go.ChangeAt Go.RowKit
set_option linter.unusedVariables false

def JoinPost (w : World) (T : List UInt8) (er : Int) (e : Ending) (w' : World) : Prop := e = .returned (.tuple #[.string (bytesOf T), .int .i64 er]) ∧ Good w w'
theorem bytesOf_nil : bytesOf [] = ⟨#[]⟩ := rfl

theorem okL_bad (L : List Tok) (t : Tok) (k : Nat) (h : L[k]? = some t) (h2 : checkE t.k t.s ≠ 0) : okL L = false := by
  unfold okL
  rw [List.all_eq_false]
  exact ⟨t, List.mem_of_getElem? h, by simpa using h2⟩
theorem okL_all (L : List Tok) (h : ∀ t ∈ L, checkE t.k t.s = 0) : okL L = true := by
  unfold okL
  rw [List.all_eq_true]
  intro t ht
  simpa using h t ht
theorem okL_mem {L : List Tok} (h : okL L = true) : ∀ t ∈ L, checkE t.k t.s = 0 := by
  unfold okL at h
  rw [List.all_eq_true] at h
  intro t ht
  simpa using h t ht
theorem jn_step (L : List Tok) (k : Nat) (t : Tok) (h : L[k]? = some t) (h0 : 0 < k) : jn ((L.take (k + 1)).map (·.s)) = (jn ((L.take k).map (·.s)) ++ [32]) ++ t.s := by
  rw [take_snoc_tok L k t h, List.map_append, List.map_cons, List.map_nil, jn_snoc, if_neg ?_]
  · simp
  · intro he
    have h1 := congrArg List.length he
    rw [List.length_map, List.length_take, List.length_nil] at h1
    have h2 := (List.getElem?_eq_some_iff.1 h).1
    omega
theorem jn_first (L : List Tok) (t : Tok) (h : L[0]? = some t) : jn ((L.take (0 + 1)).map (·.s)) = t.s := by
  rw [take_snoc_tok L 0 t h]; simp [jn]
theorem jn_le (L : List Tok) (k : Nat) : (jn ((L.take k).map (·.s))).length ≤ (jn (L.map (·.s))).length := by
  rw [List.map_take]; exact jn_take_le _ _

theorem BIs.lt {B b : Nat} {l : List UInt8} {w : World} (h : BIs B b l w) : b < w.heap.size := h.elim Lib.BuilderAt.lt Lib.BuilderAt.lt

theorem join_many (A : Option Addr) (c : Nat) (L : List Tok) (w : World) (hL : L.length ≤ maxLen) (h : 200 < L.length) (tb : Tabs w) :
    Calls Tryd.prog 12 #[.slice A L.length c] w (JoinPost w [] 4) := by
  have HT := Lib.hid tb
  obtain ⟨n, hn⟩ : ∃ n, L.length = n := ⟨_, rfl⟩
  rw [hn] at hL h ⊢
  clear hn tb
  unfold maxLen at hL
  go_enter Tryd.func12, Tryd.ntmps12
  go_wp2
  go_ret2
  exact ⟨rfl, Good.start HT.out⟩

set_option maxHeartbeats 4000000 in
set_option maxRecDepth 100000 in
theorem join_go (A : Option Addr) (c : Nat) (L : List Tok) (w : World) (hL : L.length ≤ 200) (ht : Toks w A L) (hs : ∀ t ∈ L, t.s.length ≤ maxLen) (tb : Tabs w) (T : List UInt8) (er : Int) (hj : joinF L = (T, er)) :
    Calls Tryd.prog 12 #[.slice A L.length c] w (JoinPost w T er) := by
  have HA := Lib.hid ht
  have HT := Lib.hid tb
  have HS := Lib.hid hs
  obtain ⟨n, hn⟩ : ∃ n, L.length = n := ⟨_, rfl⟩
  have HJ := Lib.hid hj
  have HN := Lib.hid hn
  rw [hn] at hL ⊢
  clear hn ht tb hs hj
  have h200 : ¬ (200 : Int) < n := by omega
  go_enter Tryd.func12, Tryd.ntmps12
  go_wp2
  go_loopw [14] (fun i wr => ∃ k : Nat, k ≤ n ∧ i = .int .i64 k ∧ Hid (∀ t ∈ L.take k, checkE t.k t.s = 0) ∧ Hid (Good w wr)) (fun i _ => n - (intOf i).toNat)
  case atStart => exact ⟨0, Nat.zero_le _, rfl, Lib.hid (by simp), Lib.hid (Good.start HT.out)⟩
  case round =>
    obtain ⟨k, hk, rfl, hd, hg⟩ := hrel
    by_cases hlt : k < n
    · obtain ⟨ad, t, rfl, ⟨c0, c1, c2⟩, htk⟩ := (HA.out.below hg.out.1).at_ k (by rw [HN.out]; exact hlt)
      have HK := Lib.hid htk
      obtain ⟨v, hv⟩ : ∃ v, checkE t.k t.s = v := ⟨_, rfl⟩
      have HV := Lib.hid hv
      have hsz := HS.out t (List.mem_of_getElem? htk)
      obtain ⟨K, hK⟩ : ∃ K, t.k = K := ⟨_, rfl⟩
      obtain ⟨S, hS⟩ : ∃ S, bytesOf t.s = S := ⟨_, rfl⟩
      obtain ⟨a, ha⟩ : ∃ a, t.a = a := ⟨_, rfl⟩
      rw [hK] at c0
      rw [hS] at c1
      rw [ha] at c2
      have HC := Lib.hid (fun w hb => check_any K S v w (by rw [← hS, bytesOf_size]; exact hsz) hb (by rw [← hS, bytesOf_list, ← hK]; exact hv))
      clear hK hS ha hv htk hsz
      by_cases h0 : v = 0
      · have e0 : (v != 0) = false := by simp [h0]
        have HD := Lib.hid (show ∀ u ∈ L.take (k + 1), checkE u.k u.s = 0 by
          rw [take_snoc_tok L k t HK.out]
          intro u hu
          rcases List.mem_append.1 hu with hu | hu
          · exact hd.out u hu
          · simp only [List.mem_singleton] at hu; rw [hu, HV.out]; exact h0)
        clear h0
        go_wp2_with (go_at_call 22; refine (HC.out _ (hg.out.2.stays ((Below.refl _ _).alloc (Nat.le_refl _) _))).mono ?_; rintro e w1 ⟨rfl, hb1⟩; have HG1 := Lib.hid ((hg.out.step ((Below.refl _ _).alloc (Nat.le_refl _) _)).step hb1); clear hb1)
        go_roundw
        case rel => exact ⟨k + 1, by omega, by go_num, HD, HG1⟩
        case measure => simp [intOf]; omega
      · have e0 : (v != 0) = true := by simp [h0]
        have HB := Lib.hid (show T = [] ∧ er = 8 by
          have h1 := HJ.out
          rw [joinF, if_neg (by rw [HN.out]; omega), if_neg (by rw [okL_bad L t k HK.out (by rw [HV.out]; exact h0)]; decide)] at h1
          exact ⟨(Prod.mk.inj h1).1.symm, (Prod.mk.inj h1).2.symm⟩)
        clear h0
        obtain ⟨hT, hE⟩ := HB.out
        subst hT hE
        go_wp2_with (go_at_call 22; refine (HC.out _ (hg.out.2.stays ((Below.refl _ _).alloc (Nat.le_refl _) _))).mono ?_; rintro e w1 ⟨rfl, hb1⟩; have HG1 := Lib.hid ((hg.out.step ((Below.refl _ _).alloc (Nat.le_refl _) _)).step hb1); clear hb1)
        go_ret2
        exact ⟨rfl, HG1.out⟩
    · have hall := hd.out
      rw [List.take_of_length_le (by rw [HN.out]; omega)] at hall
      have HJ2 := Lib.hid (show (if 400 < (jn (L.map (·.s))).length then (([] : List UInt8), (18 : Int)) else (jn (L.map (·.s)), 0)) = (T, er) by
        have h1 := HJ.out
        rwa [joinF, if_neg (by rw [HN.out]; omega), if_pos (okL_all L hall)] at h1)
      clear hall HJ
      have hgs := hg.out.1.size
      go_wp2
      obtain ⟨B0, hB0⟩ : ∃ B0, wr.heap.size = B0 := ⟨_, rfl⟩
      have HB0 := Lib.hid (show BIs B0 B0 [] (wr.alloc (.cells #[.pointer none, .slice none 0 0] 50)) by rw [← hB0]; exact bfresh wr)
      have HG0 := Lib.hid (hg.out.step ((Below.refl _ _).alloc (Nat.le_refl _) (.cells #[.pointer none, .slice none 0 0] 50)))
      have HW0 := Lib.hid (show B0 ≤ (wr.alloc (.cells #[.pointer none, .slice none 0 0] 50)).heap.size by simp; omega)
      have hwB : w.heap.size ≤ B0 := by omega
      rw [hB0]
      clear hd hg hgs hlt hk hB0
      go_loopw [27] (fun i wx => ∃ k : Nat, k ≤ n ∧ i = .int .i64 k ∧ Hid (BIs B0 B0 (jn ((L.take k).map (·.s))) wx) ∧ Hid ((jn ((L.take k).map (·.s))).length ≤ 400) ∧ Hid (Good w wx)) (fun i _ => n - (intOf i).toNat)
      case atStart => exact ⟨0, Nat.zero_le _, rfl, HB0, Lib.hid (Nat.zero_le _), HG0⟩
      case round =>
        clear HB0 HG0 HW0
        obtain ⟨k, hk, rfl, hbi, hle, hg⟩ := hrel
        by_cases hlt : k < n
        · obtain ⟨ad, t, rfl, ⟨c0, c1, c2⟩, htk⟩ := (HA.out.below hg.out.1).at_ k (by rw [HN.out]; exact hlt)
          have HK := Lib.hid htk
          have hsz := HS.out t (List.mem_of_getElem? htk)
          obtain ⟨K, hK⟩ : ∃ K, t.k = K := ⟨_, rfl⟩
          obtain ⟨S, hS⟩ : ∃ S, bytesOf t.s = S := ⟨_, rfl⟩
          obtain ⟨a, ha⟩ : ∃ a, t.a = a := ⟨_, rfl⟩
          rw [hK] at c0
          rw [hS] at c1
          rw [ha] at c2
          have HSS := Lib.hid (show S.data.toList = t.s by rw [← hS, bytesOf_list])
          have hss : S.size ≤ maxLen := by rw [← hS, bytesOf_size]; exact hsz
          have HSZ := Lib.hid (show S.size = t.s.length by rw [← hS, bytesOf_size])
          unfold maxLen at hss
          clear hK hS ha htk hsz
          have hlt0 := BIs.lt hbi.out
          have HW := Lib.hid (show w.heap.size ≤ wr.heap.size by omega)
          have hba := Lib.hid (hbi.out.alloc (.cells #[.int .u8 K, .string S, .int .i64 a] 30))
          have hga := Lib.hid (hg.out.step ((Below.refl _ _).alloc (Nat.le_refl _) (.cells #[.int .u8 K, .string S, .int .i64 a] 30)))
          have hblk := Lib.hid (heap_alloc_new wr (.cells #[.int .u8 K, .string S, .int .i64 a] 30))
          by_cases h0 : k = 0
          · subst h0
            simp only [Nat.zero_mul, Addr.add_zero'] at c0 c1 c2
            have HL := Lib.hid (show jn ((L.take (0 + 1)).map (·.s)) = t.s from jn_first L t HK.out)
            have HB2 := Lib.hid (show BIs B0 B0 [] (wr.alloc (.cells #[.int .u8 K, .string S, .int .i64 a] 30)) from hba.out)
            clear hba hle hbi
            have HLN := Lib.hid (fun (m : Nat) => show Calls Tryd.prog 24 #[.pointer (some ⟨B0, 0, none⟩)] ((wr.alloc (.cells #[.int .u8 K, .string S, .int .i64 a] 30)).drewN m) fun e w' => e = .returned (.int .i64 0) ∧ ∃ m', w' = (wr.alloc (.cells #[.int .u8 K, .string S, .int .i64 a] 30)).drewN m' by
              have h := blen B0 B0 _ ((wr.alloc (.cells #[.int .u8 K, .string S, .int .i64 a] 30)).drewN m) (HB2.out.drewN m)
              exact h.mono fun e w' ⟨he, hw⟩ => ⟨he, m, hw.symm⟩)
            have HWS := Lib.hid (fun (m : Nat) (h1 : ([] : List UInt8).length + S.size ≤ 1000) => bwrite_string B0 B0 [] S ((wr.alloc (.cells #[.int .u8 K, .string S, .int .i64 a] 30)).drewN m) (HB2.out.drewN m) h1 (Nat.le_of_lt (BIs.lt HB2.out)))
            by_cases h5 : 400 < S.size
            · have HE := Lib.hid (show T = [] ∧ er = 18 by
                have h1 := HJ2.out
                have h2 := jn_le L (0 + 1)
                rw [HL.out, ← HSZ.out] at h2
                rw [if_pos (by omega)] at h1
                exact ⟨(Prod.mk.inj h1).1.symm, (Prod.mk.inj h1).2.symm⟩)
              obtain ⟨hT, hE⟩ := HE.out
              subst hT hE
              clear hwB hlt0 hk
              go_wp2
              go_quiet ((go_at_call 24; exact HLN.out _))
              go_wp2
              go_ret2
              exact ⟨rfl, hga.out.step (bd_drewN _ _)⟩
            · have HS1 := Lib.hid (show ([] : List UInt8).length + S.size ≤ 1000 by simp; omega)
              go_wp2
              go_quiet ((go_at_call 24; exact HLN.out _))
              go_wp2_with (go_at_call 25; refine (HWS.out _ HS1.out).mono ?_; rintro e w3 ⟨rfl, hb3, hbb3, _⟩; have HB3 := Lib.hid hb3; have HG3 := Lib.hid (show Good w w3 from ⟨(hga.out.step (bd_drewN _ _)).1.trans (hbb3.mono hwB), HT.out.stays ((hga.out.step (bd_drewN _ _)).1.trans (hbb3.mono hwB))⟩); clear hb3 hbb3)
              go_roundw
              case rel =>
                refine ⟨0 + 1, by omega, by go_num, Lib.hid ?_, Lib.hid ?_, HG3⟩
                · rw [HL.out, ← HSS.out]; exact HB3.out
                · rw [HL.out, ← HSZ.out]; omega
              case measure => simp [intOf]; omega
          · obtain ⟨l, hl⟩ : ∃ l, jn ((L.take k).map (·.s)) = l := ⟨_, rfl⟩
            rw [hl] at hba hle
            obtain ⟨q, hq⟩ : ∃ q, (l ++ [32]).length = q := ⟨_, rfl⟩
            have hq1 : q ≤ 401 := by have := hle.out; rw [← hq, List.length_append]; simp; omega
            have HL := Lib.hid (show jn ((L.take (k + 1)).map (·.s)) = (l ++ [32]) ++ t.s by rw [jn_step L k t HK.out (by omega), hl])
            have HQ := Lib.hid hq
            have hk0 : 0 < k := by omega
            have hq2 : l.length + 1 ≤ 1000 := by have := hle.out; omega
            have HWB := Lib.hid (fun W h hW => bwrite_byte B0 B0 l 32 W h hq2 hW)
            clear hl hq h0 hq2
            go_wp2_with (first
              | (go_at_call 23; (refine (HWB.out _ hba.out (Nat.le_trans (Nat.le_of_lt hlt0) ((Below.refl _ _).alloc (Nat.le_refl _) _).size)).mono ?_; rintro e w2 ⟨rfl, hb2, hbb2, hkk2⟩; have hnb := hkk2 _ _ _ _ hblk.out (by decide) (by omega); have d1 : w2.cell? ⟨wr.heap.size, 1, none⟩ = some (.string S) := (Lib.cell_of_heap hnb 1).trans rfl; have HB2 := Lib.hid hb2; have HG2 := Lib.hid (show Good w w2 from ⟨hga.out.1.trans (hbb2.mono hwB), HT.out.stays (hga.out.1.trans (hbb2.mono hwB))⟩); clear hkk2 hnb hbb2 hb2)))
            have HLN := Lib.hid (fun (m : Nat) => show Calls Tryd.prog 24 #[.pointer (some ⟨B0, 0, none⟩)] (w2.drewN m) fun e w' => e = .returned (.int .i64 q) ∧ ∃ m', w' = w2.drewN m' by
              have h := blen B0 B0 _ (w2.drewN m) (HB2.out.drewN m)
              rw [HQ.out] at h
              exact h.mono fun e w' ⟨he, hw⟩ => ⟨he, m, hw.symm⟩)
            have HWS := Lib.hid (fun (m : Nat) (h1 : (l ++ [32]).length + S.size ≤ 1000) => bwrite_string B0 B0 (l ++ [32]) S (w2.drewN m) (HB2.out.drewN m) h1 (Nat.le_of_lt (BIs.lt HB2.out)))
            have hw1 : IntKind.i64.wrap (400 - (q : Int)) = 400 - (q : Int) := IntWalk.i64_in _ (by omega)
            by_cases h5 : 400 - (q : Int) < S.size
            · have HE := Lib.hid (show T = [] ∧ er = 18 by
                have h1 := HJ2.out
                have h2 := jn_le L (k + 1)
                rw [HL.out, List.length_append, HQ.out, ← HSZ.out] at h2
                rw [if_pos (by omega)] at h1
                exact ⟨(Prod.mk.inj h1).1.symm, (Prod.mk.inj h1).2.symm⟩)
              obtain ⟨hT, hE⟩ := HE.out
              subst hT hE
              clear hwB hlt0 hk hq1
              go_quiet ((go_at_call 24; exact HLN.out _))
              clear hw1
              go_wp2
              go_ret2
              exact ⟨rfl, HG2.out.step (bd_drewN _ _)⟩
            · have HS1 := Lib.hid (show (l ++ [32]).length + S.size ≤ 1000 by rw [HQ.out]; omega)
              go_quiet ((go_at_call 24; exact HLN.out _))
              clear hw1
              go_wp2_with (go_at_call 25; refine (HWS.out _ HS1.out).mono ?_; rintro e w3 ⟨rfl, hb3, hbb3, _⟩; have HB3 := Lib.hid hb3; have HG3 := Lib.hid (show Good w w3 from ⟨(HG2.out.step (bd_drewN _ _)).1.trans (hbb3.mono hwB), HT.out.stays ((HG2.out.step (bd_drewN _ _)).1.trans (hbb3.mono hwB))⟩); clear hb3 hbb3)
              go_roundw
              case rel =>
                refine ⟨k + 1, by omega, by go_num, Lib.hid ?_, Lib.hid ?_, HG3⟩
                · rw [HL.out, ← HSS.out]; exact HB3.out
                · rw [HL.out, List.length_append, HQ.out, ← HSZ.out]; omega
              case measure => simp [intOf]; omega
        · obtain ⟨l, hl⟩ : ∃ l, jn ((L.take k).map (·.s)) = l := ⟨_, rfl⟩
          have HEnd := Lib.hid (show bytesOf l = bytesOf T ∧ er = 0 by
            have h1 := HJ2.out
            rw [← hl, List.take_of_length_le (by rw [HN.out]; omega)]
            have h2 := hle.out
            rw [List.take_of_length_le (by rw [HN.out]; omega)] at h2
            rw [if_neg (by omega)] at h1
            exact ⟨by rw [(Prod.mk.inj h1).1], (Prod.mk.inj h1).2.symm⟩)
          rw [hl] at hbi
          have HST := Lib.hid (bstring B0 B0 _ wr hbi.out (Nat.le_of_lt (BIs.lt hbi.out)))
          clear hl
          go_wp2_with (go_at_call 26; refine (HST.out).mono ?_; rintro e w3 ⟨rfl, hbb3⟩)
          go_ret2
          refine ⟨?_, hg.out.1.trans (hbb3.mono hwB), HT.out.stays (hg.out.1.trans (hbb3.mono hwB))⟩
          rw [HEnd.out.2, ← HEnd.out.1]; rfl

theorem join_any (A : Option Addr) (c : Nat) (L : List Tok) (w : World) (hL : L.length ≤ maxLen) (ht : Toks w A L) (hs : ∀ t ∈ L, t.s.length ≤ maxLen) (tb : Tabs w) (T : List UInt8) (er : Int) (hj : joinF L = (T, er)) :
    Calls Tryd.prog 12 #[.slice A L.length c] w (JoinPost w T er) := by
  by_cases h : 200 < L.length
  · rw [joinF, if_pos h] at hj
    obtain ⟨h1, h2⟩ := Prod.mk.inj hj
    subst h1 h2
    exact join_many A c L w hL h tb
  · exact join_go A c L w (by omega) ht hs tb T er hj
end Go.Proofs.YteidhjacnlcddaaDoor
