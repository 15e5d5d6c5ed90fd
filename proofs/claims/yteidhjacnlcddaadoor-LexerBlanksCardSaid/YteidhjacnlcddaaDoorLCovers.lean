/- The walk of LexerCovers. -/
import Derived.Test.YteidhjacnlcddaaDoorLError
namespace Go.Proofs.YteidhjacnlcddaaDoor
open Go.ChangeShapes Go.WideShapes Go.ChangeAt Go.RowKit
set_option linter.unusedVariables false

theorem cov_big (s : ByteArray) (w : World) (hs : s.size ≤ maxLen) (h4 : 1000 < s.size) (hg : Good w w) :
    Calls Tryd.prog 7 #[.string s] w fun e w' => e = .returned (.bool true) ∧ Good w w' := by
  unfold maxLen at hs
  go_enter Tryd.func7, Tryd.ntmps7
  go_wp2_with (first
    | (go_at_call 13; refine (alive_g w _ (by assumption)).mono ?_; rintro e w' ⟨rfl, _, hg⟩))
  go_ret
  exact ⟨rfl, by assumption⟩
theorem cov_bad (s : ByteArray) (q : Nat) (er : Int) (w : World) (h4 : s.size ≤ 1000) (ha : allF s.data.toList = ([], q, er)) (h0 : er ≠ 0) (h3 : q < s.size ∨ 400 < s.size) (hg : Good w w) :
    Calls Tryd.prog 7 #[.string s] w fun e w' => e = .returned (.bool true) ∧ Good w w' := by
  have HA := Lib.hid (all_g s [] q er 0 w w (by unfold maxLen; omega) ha rfl hg)
  have e1 : (er != 0) = true := by simpa using h0
  have h6 : ¬ 1000 < s.size := by omega
  have H3 := Lib.hid h3
  clear hg ha h0 h3
  go_enter Tryd.func7, Tryd.ntmps7
  go_wp2_with (first
    | (go_at_call 15; refine HA.out.mono ?_; rintro e w1 ⟨A, c, rfl, _, _, hg1⟩)
    | (go_at_call 13; refine (alive_g w _ (by assumption)).mono ?_; rintro e w' ⟨rfl, _, hg⟩))
  all_goals
    go_ret
    have h3 := H3.out
    exact ⟨ret_bool' (by first | rfl | (simp; omega)), by assumption⟩

theorem toks_val {ad : Addr} {L : List Tok} {k : Nat} {t : Tok} (h : L[k]? = some t) : ∀ w, Toks w (some ad) L → TokAt w ad k t := by
  intro w ht
  obtain ⟨hk, e⟩ := List.getElem?_eq_some_iff.1 h
  obtain ⟨ad', t', h1, h2, h3⟩ := ht.at_ k hk
  obtain rfl := Option.some.inj h1
  obtain rfl := Option.some.inj (h.symm.trans h3)
  exact h2
def TokV (w : World) (ad : Addr) (k : Nat) (K : Int) (S : ByteArray) (x : Int) : Prop :=
  w.cell? (ad.add (k * 3)) = some (.int .u8 K) ∧ w.cell? ⟨(ad.add (k * 3)).block, (ad.add (k * 3)).off + 1, none⟩ = some (.string S) ∧ w.cell? ⟨(ad.add (k * 3)).block, (ad.add (k * 3)).off + 2, none⟩ = some (.int .i64 x)
theorem valid_k (ad : Addr) (L : List Tok) (w0 w : World) (i : Nat) (k a : Int) (S : ByteArray) (hs : S.size ≤ 1000) (hv : checkE k S.data.toList = 0) (hT : ∀ w, Toks w (some ad) L → TokV w ad i k S a)
    (h : w.cell? (ad.add (i * 3)) = some (.int .u8 k) ∧ w.cell? ⟨(ad.add (i * 3)).block, (ad.add (i * 3)).off + 1, none⟩ = some (.string S) ∧ w.cell? ⟨(ad.add (i * 3)).block, (ad.add (i * 3)).off + 2, none⟩ = some (.int .i64 a) ∧ Toks w (some ad) L ∧ Good w0 w) :
    Calls Tryd.prog 19 #[.agg #[.int .u8 k, .string S, .int .i64 a]] w fun e w' => e = .returned (.bool true) ∧ w'.cell? (ad.add (i * 3)) = some (.int .u8 k) ∧ w'.cell? ⟨(ad.add (i * 3)).block, (ad.add (i * 3)).off + 1, none⟩ = some (.string S) ∧ w'.cell? ⟨(ad.add (i * 3)).block, (ad.add (i * 3)).off + 2, none⟩ = some (.int .i64 a) ∧ Toks w' (some ad) L ∧ Good w0 w' :=
  (valid_any k a S true w (by unfold maxLen; omega) (by rw [hv]; rfl)).mono fun e w' ⟨he, hb⟩ => by
    have h1 := h.2.2.2.1.below hb
    obtain ⟨c0, c1, c2⟩ := hT w' h1
    exact ⟨he, c0, c1, c2, h1, h.2.2.2.2.step hb⟩
theorem cover_take (s : ByteArray) (x : Nat) (t : List UInt8) (h : (s.data.toList.drop x).take t.length = t) : s.extract x (x + t.length) = bytesOf t := by
  rw [← cut_bytes, h]

set_option maxHeartbeats 4000000 in
set_option maxRecDepth 100000 in
theorem cov_ok (s : ByteArray) (L : List Tok) (n : Nat) (w : World) (h4 : s.size ≤ 400) (ha : allF s.data.toList = (L, s.size, 0)) (hc : Cover s.data.toList 0 L) (hn : L.length = n) (hg : Good w w) :
    Calls Tryd.prog 7 #[.string s] w fun e w' => e = .returned (.bool true) ∧ Good w w' := by
  have HA := Lib.hid (all_g s L s.size 0 n w w (by unfold maxLen; omega) ha hn hg)
  have HN := Lib.hid hn
  have HC := Lib.hid hc
  have hn2 : n ≤ 200 := by have := (lex_small ha).1; omega
  have h6 : ¬ 1000 < s.size := by omega
  have hlen := Lib.hid (show s.data.toList.length = s.size by simp)
  clear hg ha hn hc
  go_enter Tryd.func7, Tryd.ntmps7
  go_wp2_with (first
    | (go_at_call 15; refine HA.out.mono ?_; rintro e w1 ⟨A, c, rfl, ht1, _, hg1⟩; have HT1 := Lib.hid ht1; have HG1 := Lib.hid hg1; clear ht1 hg1))
  go_loopw [6, 7] (fun p i wr => ∃ a k : Nat, k ≤ n ∧ a ≤ s.size ∧ p = .int .i64 a ∧ i = .int .i64 k ∧ Hid (Cover s.data.toList a (L.drop k)) ∧ Hid (Toks wr A L) ∧ Hid (Good w wr)) (fun _ i _ => n + 1 - (intOf i).toNat)
  case atStart => exact ⟨0, 0, Nat.zero_le _, Nat.zero_le _, rfl, rfl, HC, HT1, HG1⟩
  case round =>
    clear HT1 HG1
    obtain ⟨a, k, hk, has, rfl, rfl, hcov, ht, hg⟩ := hrel
    obtain ⟨wo, hwo⟩ : ∃ wo : World, wo = wr := ⟨_, rfl⟩
    subst hwo
    by_cases hlt : k < n
    · obtain ⟨ad, t, rfl, ⟨c0, c1, c2⟩, htk⟩ := ht.out.at_ k (by rw [HN.out]; exact hlt)
      have hdr : L.drop k = t :: L.drop (k + 1) := by
        obtain ⟨hk1, e⟩ := List.getElem?_eq_some_iff.1 htk
        rw [List.drop_eq_getElem_cons hk1, e]
      have hcv := hcov.out
      rw [hdr] at hcv
      obtain ⟨x, hx1, hx2, hx3, hx4, hx5, hx6, hx7⟩ := hcv
      rw [hlen.out] at hx3
      obtain ⟨m, hm⟩ : ∃ m, t.s.length = m := ⟨_, rfl⟩
      obtain ⟨K, hK⟩ : ∃ K, t.k = K := ⟨_, rfl⟩
      obtain ⟨S, hS⟩ : ∃ S, bytesOf t.s = S := ⟨_, rfl⟩
      rw [hx1] at c2
      rw [hK] at c0
      rw [hS] at c1
      have hcut := cover_take s x t.s hx5
      have hSl : S.data.toList = t.s := by rw [← hS, bytesOf_list]
      have hSs : S.size = m := by rw [← hS, bytesOf_size, hm]
      rw [hm] at hx3 hx7 hcut
      rw [hS] at hcut
      have HB := Lib.hid hx4
      have HTV := Lib.hid (show ∀ w1, Toks w1 (some ad) L → TokV w1 ad k K S x by
        intro w1 h
        obtain ⟨d0, d1, d2⟩ := toks_val htk w1 h
        exact ⟨by rw [d0, hK], by rw [d1, hS], by rw [d2, hx1]⟩)
      have HV := Lib.hid (fun w1 h => valid_k ad L w w1 k K x S (by omega) (by rw [hSl, ← hK]; exact hx6) HTV.out h)
      have HR := Lib.hid hx7
      have q1 : ((s.extract x (x + m)).toList != S.toList) = false := by rw [hcut]; simp
      have q1' : ((s.extract x (x + S.size)).toList != S.toList) = false := by rw [hSs]; exact q1
      have q2' : ((s.extract x (x + S.size)).toList == S.toList) = true := by rw [hSs, hcut]; simp
      have HSS := Lib.hid hSs
      have hm4 : x + S.size ≤ s.size := by omega
      have hm5 : S.size ≤ 400 := by omega
      clear hdr hcov hx1 hx4 hx5 hx6 hx7 hm hK hS hcut hSl htk hSs q1
      have e8 : decide (x < a) = false := decide_eq_false (by omega)
      have e9 : decide (s.size < x) = false := decide_eq_false (by omega)
      go_wp2
      go_loopw [9] (fun j wx => ∃ b : Nat, a ≤ b ∧ b ≤ x ∧ j = .int .i64 b ∧ Hid (Toks wx (some ad) L) ∧ Hid (Good w wx)) (fun j _ => x - (intOf j).toNat)
      case atStart => exact ⟨a, Nat.le_refl _, hx2, rfl, ht, hg⟩
      case round =>
        clear hg ht c0 c1 c2
        obtain ⟨b, hb1, hb2, rfl, ht, hg⟩ := hrel
        by_cases hlt2 : b < x
        · have hbs : b < s.size := by omega
          have HK := Lib.hid (fun w1 h => kind_g _ 1 w w1 (HB.out b (by rw [hlen.out]; exact hbs) hb1 hlt2) h)
          go_wp2_with (go_at_call 21; refine (HK.out _ hg.out).mono ?_; rintro e w1 ⟨rfl, hbb, hg1⟩; have HG2 := Lib.hid hg1; have HT2 := Lib.hid (ht.out.below hbb); clear hg1 hbb)
          go_roundw
          case rel => exact ⟨b + 1, by omega, by omega, by go_num, HT2, HG2⟩
          case measure => simp [intOf]; omega
        · obtain rfl : b = x := by omega
          obtain ⟨c0, c1, c2⟩ := HTV.out wr ht.out
          have hS := Lib.hid (show wr.drew.cell? (ad.add (k * 3)) = some (.int .u8 K) ∧ wr.drew.cell? ⟨(ad.add (k * 3)).block, (ad.add (k * 3)).off + 1, none⟩ = some (.string S) ∧ wr.drew.cell? ⟨(ad.add (k * 3)).block, (ad.add (k * 3)).off + 2, none⟩ = some (.int .i64 (b : Int)) ∧ Toks wr.drew (some ad) L ∧ Good w wr.drew from ⟨c0, c1, c2, ht.out.below (bd_drewN _ 1), hg.out.step (bd_drewN _ 1)⟩)
          have f1 : (0 : Int) ≤ (b : Int) + S.size := by omega
          have f2 : ((b : Int) + S.size).toNat = b + S.size := by omega
          have f3 : (b : Int) ≤ (b : Int) + S.size := by omega
          have f4 : (b : Int) + S.size ≤ s.size := by omega
          have f5 : decide ((s.size : Int) < (b : Int) + S.size) = false := decide_eq_false (by omega)
          have f6 : decide (s.size < b + S.size) = false := decide_eq_false (by omega)
          go_wp2
          go_region_held3 (fun w' => w'.cell? (ad.add (k * 3)) = some (.int .u8 K) ∧ w'.cell? ⟨(ad.add (k * 3)).block, (ad.add (k * 3)).off + 1, none⟩ = some (.string S) ∧ w'.cell? ⟨(ad.add (k * 3)).block, (ad.add (k * 3)).off + 2, none⟩ = some (.int .i64 (b : Int)) ∧ Toks w' (some ad) L ∧ Good w w') (first | exact hS.out | assumption)
            (first | (go_at_call 19; refine (HV.out _ (by assumption)).mono ?_; rintro e w' ⟨rfl, h1⟩))
          go_wp2
          go_roundw
          case rel =>
            have hh : Toks _ (some ad) L ∧ Good w _ := And.right (And.right (And.right (by assumption)))
            exact ⟨b + S.size, k + 1, by omega, hm4, by go_num, by go_num, by rw [HSS.out]; exact HR, Lib.hid hh.1, Lib.hid hh.2⟩
          case measure => simp [intOf]; omega
    · have HB := Lib.hid (show ∀ i (h : i < s.data.toList.length), a ≤ i → kindB s.data.toList[i] = 1 by
        have := hcov.out
        rw [List.drop_of_length_le (by rw [HN.out]; omega)] at this
        exact this)
      obtain rfl : k = n := by omega
      clear hcov hk hlt
      have hlt : ¬ k < k := Nat.lt_irrefl _
      have e8 : decide (s.size < a) = false := decide_eq_false (by omega)
      go_wp2
      go_loopw [9] (fun j wx => ∃ b : Nat, a ≤ b ∧ b ≤ s.size ∧ j = .int .i64 b ∧ Hid (Good w wx)) (fun j _ => s.size - (intOf j).toNat)
      case atStart => exact ⟨a, Nat.le_refl _, has, rfl, hg⟩
      case round =>
        clear hg
        obtain ⟨b, hb1, hb2, rfl, hg⟩ := hrel
        by_cases hlt2 : b < s.size
        · have HK := Lib.hid (fun w1 h => kind_g _ 1 w w1 (HB.out b (by rw [hlen.out]; exact hlt2) hb1) h)
          go_wp2_with (go_at_call 21; refine (HK.out _ hg.out).mono ?_; rintro e w1 ⟨rfl, _, hg1⟩; have HG2 := Lib.hid hg1; clear hg1)
          go_roundw
          case rel => exact ⟨b + 1, by omega, by omega, by go_num, HG2⟩
          case measure => simp [intOf]; omega
        · go_wp2_with (first
            | (go_at_call 13; refine (alive_g w _ hg.out).mono ?_; rintro e w' ⟨rfl, _, hg⟩))
          go_ret
          exact ⟨rfl, by assumption⟩

theorem LexerCovers_walk (s : ByteArray) (hs : s.size ≤ maxLen) (w : World) (ht : Tabs w) :
    Calls Tryd.prog 7 #[.string s] w fun e w' => e = .returned (.bool true) ∧ Below w.heap.size w w' := by
  suffices hh : Calls Tryd.prog 7 #[.string s] w fun e w' => e = .returned (.bool true) ∧ Good w w' from hh.mono fun e w' ⟨he, hg⟩ => ⟨he, hg.1⟩
  have hg := Good.start ht
  have hlen : s.data.toList.length = s.size := by simp
  by_cases h1 : 1000 < s.size
  · exact cov_big s w hs h1 hg
  by_cases h4 : 400 < s.size
  · exact cov_bad s 0 4 w (by omega) (allF_big _ (by omega)) (by decide) (.inr h4) hg
  · obtain ⟨ts, q, er, hL, hf⟩ := allF_lex s.data.toList (by omega)
    by_cases h0 : er = 0
    · subst h0
      rw [if_pos rfl] at hf
      have hq : q = s.size := by
        have key : ∀ {l p n ts q e}, Lex l p n ts q e → e = 0 → q = p + l.length := by
          intro l p n ts q e h
          induction h with
          | @done l p n h1 =>
            intro _
            have := congrArg List.length h1
            rw [List.length_drop, List.length_nil] at this
            have := spanK_le 1 l
            omega
          | many => intro h; exact absurd h (by decide)
          | err _ _ h3 => intro h; exact absurd h h3
          | @tok l p n m ts q e h1 _ _ _ _ ih =>
            intro he
            subst h1
            have h5 := spanK_le 1 l
            have h6 := ext_le (l.drop (spanK 1 l))
            have := ih he
            rw [List.length_drop, List.length_drop] at this
            rw [List.length_drop] at h6
            omega
        have := key hL rfl
        omega
      subst hq
      exact cov_ok s ts _ w (by omega) hf (hL.cover rfl _ (List.drop_zero).symm (Nat.zero_le _)) rfl hg
    · rw [if_neg h0] at hf
      obtain ⟨x, hx, ⟨hx2, _⟩, _⟩ := hL.prefix h0
      exact cov_bad s q er w (by omega) hf h0 (.inl (by omega)) hg
end Go.Proofs.YteidhjacnlcddaaDoor
