/- Contracts of the reference's Great, Same, Alike and Valid. -/
import Derived.Test.YteidhjacnlcddaaDoorLRef
import Derived.Deep.RegionHeld3
import Derived.Laws.StructEq
namespace Go.Proofs.YteidhjacnlcddaaDoor
open Go.ChangeShapes Go.WideShapes Go.ChangeAt Go.RowKit
set_option linter.unusedVariables false

def greatF (L : List Tok) : Bool := decide (220 < L.length) || L.any fun t => decide (500 < t.s.length)

/-- An element's cells, as the walk spells them. -/
theorem add_more (ad : Addr) (n i : Nat) (hi : 0 < i) : ad.add (n + i) = ⟨(ad.add n).block, (ad.add n).off + i, none⟩ := by
  unfold Addr.add
  rw [if_neg (by omega)]
  by_cases hn : n = 0
  · subst hn; simp
  · rw [if_neg hn]; simp; omega
def TokAt (w : World) (ad : Addr) (k : Nat) (t : Tok) : Prop :=
  w.cell? (ad.add (k * 3)) = some (.int .u8 t.k) ∧ w.cell? ⟨(ad.add (k * 3)).block, (ad.add (k * 3)).off + 1, none⟩ = some (.string (bytesOf t.s)) ∧ w.cell? ⟨(ad.add (k * 3)).block, (ad.add (k * 3)).off + 2, none⟩ = some (.int .i64 t.a)
theorem Toks.at_ {w : World} {A : Option Addr} {L : List Tok} (h : Toks w A L) (k : Nat) (hk : k < L.length) :
    ∃ ad t, A = some ad ∧ TokAt w ad k t ∧ L[k]? = some t := by
  rcases h with rfl | ⟨ad, h1, h2, h3⟩
  · simp at hk
  · obtain ⟨c0, c1, c2⟩ := tokCells_at L k hk
    refine ⟨ad, L[k], h1, ⟨h3 _ _ c0, ?_, ?_⟩, List.getElem?_eq_getElem hk⟩
    · rw [← add_more ad (k * 3) 1 (by decide)]; exact h3 _ _ c1
    · rw [← add_more ad (k * 3) 2 (by decide)]; exact h3 _ _ c2

theorem great_len (L : List Tok) (h : 220 < L.length) : greatF L = true := by unfold greatF; rw [decide_eq_true h]; rfl
theorem great_mem (L : List Tok) (t : Tok) (k : Nat) (h : L[k]? = some t) (h2 : 500 < t.s.length) : greatF L = true := by
  unfold greatF
  rw [Bool.or_eq_true]
  exact .inr (List.any_eq_true.2 ⟨t, List.mem_of_getElem? h, by simpa using h2⟩)
theorem great_no (L : List Tok) (h : L.length ≤ 220) (h2 : ∀ t ∈ L, t.s.length ≤ 500) : greatF L = false := by
  unfold greatF
  rw [Bool.or_eq_false_iff]
  refine ⟨by simpa using h, ?_⟩
  rw [List.any_eq_false]
  intro t ht
  have := h2 t ht
  simpa using this
theorem take_snoc_tok (L : List Tok) (k : Nat) (t : Tok) (h : L[k]? = some t) : L.take (k + 1) = L.take k ++ [t] := by
  obtain ⟨hk, e⟩ := List.getElem?_eq_some_iff.1 h
  rw [List.take_succ_eq_append_getElem hk, e]

set_option maxHeartbeats 1000000 in
set_option maxRecDepth 100000 in
theorem great_any (A : Option Addr) (c : Nat) (L : List Tok) (w : World) (hL : L.length ≤ maxLen) (ht : Toks w A L) (b : Bool) (hb : greatF L = b) :
    Calls Tryd.prog 14 #[.slice A L.length c] w fun e w' => e = .returned (.bool b) ∧ w = w' := by
  have HT := Lib.hid ht
  have HB := Lib.hid hb
  obtain ⟨n, hn⟩ : ∃ n, L.length = n := ⟨_, rfl⟩
  rw [hn] at hL
  have HN := Lib.hid hn
  clear ht hb
  rw [hn]
  clear hn
  unfold maxLen at hL
  go_enter Tryd.func14, Tryd.ntmps14
  go_wp2
  go_loop [3] (fun i => ∃ k : Nat, k ≤ n ∧ k ≤ 220 ∧ i = .int .i64 k ∧ Hid (∀ t ∈ L.take k, t.s.length ≤ 500)) (fun i => n - (intOf i).toNat)
  case atStart => exact ⟨0, Nat.zero_le _, Nat.zero_le _, rfl, Lib.hid (by simp)⟩
  case round =>
    obtain ⟨k, hk, hk2, rfl, hd⟩ := hrel
    by_cases hlt : k < n
    · obtain ⟨ad, t, rfl, ⟨c0, c1, c2⟩, ht⟩ := HT.out.at_ k (by rw [HN.out]; exact hlt)
      have HK := Lib.hid ht
      obtain ⟨S, hS⟩ : ∃ S, bytesOf t.s = S := ⟨_, rfl⟩
      rw [hS] at c1
      have HS := Lib.hid (show S.size = t.s.length by rw [← hS, bytesOf_size])
      clear ht hS
      by_cases h2 : 220 ≤ k
      · have HG := Lib.hid (great_len L (by rw [HN.out]; omega))
        go_wp2
        go_ret
        exact ⟨ret_bool' (HG.out.symm.trans HB.out), rfl⟩
      · by_cases h5 : 500 < S.size
        · have HG := Lib.hid (great_mem L t k HK.out (by rw [← HS.out]; exact h5))
          go_wp2
          go_ret
          exact ⟨ret_bool' (HG.out.symm.trans HB.out), rfl⟩
        · go_wp2
          go_round
          case rel =>
            refine ⟨k + 1, by omega, by omega, by go_num, Lib.hid ?_⟩
            rw [take_snoc_tok L k t HK.out]
            intro u hu
            rcases List.mem_append.1 hu with hu | hu
            · exact hd.out u hu
            · simp only [List.mem_singleton] at hu; subst hu; rw [← HS.out]; omega
          case measure => simp [intOf]; omega
    · have HG := Lib.hid (great_no L (by rw [HN.out]; omega) (by have := hd.out; rwa [List.take_of_length_le (by rw [HN.out]; omega)] at this))
      go_wp2
      go_ret
      exact ⟨ret_bool' (HG.out.symm.trans HB.out), rfl⟩

/-! ### Alike and Same -/
set_option maxHeartbeats 2000000 in
set_option maxRecDepth 100000 in
theorem alike_any (A A' : Option Addr) (c c' : Nat) (L M : List Tok) (w : World) (hL : L.length ≤ maxLen) (hM : M.length ≤ maxLen) (ht : Toks w A L) (ht' : Toks w A' M) (hal : al L = al M) :
    Calls Tryd.prog 20 #[.slice A L.length c, .slice A' M.length c'] w fun e w' => e = .returned (.bool true) ∧ Below w.heap.size w w' := by
  have HT := Lib.hid ht
  have HT' := Lib.hid ht'
  have HA := Lib.hid hal
  obtain ⟨n, hn⟩ : ∃ n, L.length = n := ⟨_, rfl⟩
  have hm : M.length = n := by rw [← al_length hal, hn]
  rw [hn] at hL
  have HN := Lib.hid hn
  have HM := Lib.hid hm
  clear ht ht' hal hM
  rw [hn, hm]
  clear hn hm
  unfold maxLen at hL
  go_enter Tryd.func20, Tryd.ntmps20
  go_wp2
  go_loopw [5] (fun i wr => ∃ k m : Nat, k ≤ n ∧ i = .int .i64 k ∧ wr = w.drewN m) (fun i _ => n - (intOf i).toNat)
  case atStart => exact ⟨0, 0, Nat.zero_le _, rfl, rfl⟩
  case round =>
    obtain ⟨k, m, hk, rfl, rfl⟩ := hrel
    by_cases hlt : k < n
    · obtain ⟨ad, t, rfl, ⟨c0, c1, c2⟩, ht⟩ := HT.out.at_ k (by rw [HN.out]; exact hlt)
      obtain ⟨ad', t', rfl, ⟨d0, d1, d2⟩, ht'⟩ := HT'.out.at_ k (by rw [HM.out]; exact hlt)
      have hkk : (t.k, t.s) = (t'.k, t'.s) := by
        have h1 := congrArg (fun l => l[k]?) HA.out
        simp only [al, List.getElem?_map, ht, ht', Option.map_some, Option.some.injEq] at h1
        exact h1
      obtain ⟨e1, e2⟩ := Prod.mk.inj hkk
      rw [← e1] at d0
      rw [← e2] at d1
      clear hkk e1 e2 ht ht'
      obtain ⟨K, hK⟩ : ∃ K, t.k = K := ⟨_, rfl⟩
      obtain ⟨S, hS⟩ : ∃ S, bytesOf t.s = S := ⟨_, rfl⟩
      rw [hK] at c0 d0
      rw [hS] at c1 d1
      clear hK hS c2 d2
      have q1 : (K != K) = false := by simp
      have q2 : (S.toList != S.toList) = false := by simp
      have q3 : (0 : Int) ≤ k := by omega
      have q4 : (k : Int) < n := by omega
      go_wp2
      go_quiet (fail)
      go_wp2
      go_roundw
      case rel => exact ⟨k + 1, _, by omega, by go_num, rfl⟩
      case measure => simp [intOf]; omega
    · go_wp2
      go_ret
      exact ⟨rfl, bd_drewN _ _⟩

theorem eq_tok (k a k' a' : Int) (s s' : ByteArray) (w : World) : (Op.equalIn 10000 30 (.agg #[.int .u8 k, .string s, .int .i64 a]) (.agg #[.int .u8 k', .string s', .int .i64 a'])).run Tryd.prog w = .ok (k == k' && s.toList == s'.toList && a == a') w := by
  have u1 := Tryd.underlying5
  have u2 := Tryd.underlying9
  have u3 := Tryd.underlying3
  have hS : Tryd.prog.underlying 30 = some (.struct (Tryd.prog.fieldsOf 30)) := by kernel_rfl
  rw [show (10000 : Nat) = 9999 + 1 from rfl, run_equalIn_agg w 9999 30 _ _ hS (by kernel_rfl)]
  simp only [Program.fieldsOf, Tryd.underlying30]
  go_simp
  by_cases h1 : k = k' <;> by_cases h2 : s.toList = s'.toList <;> by_cases h3 : a = a' <;> simp [h1, h2, h3]
theorem neq_tok (k a : Int) (s : ByteArray) (w : World) : (binOp .neq 30 (.agg #[.int .u8 k, .string s, .int .i64 a]) (.agg #[.int .u8 k, .string s, .int .i64 a])).run Tryd.prog w = .ok (.bool false) w := by
  rw [run_neq_struct, eq_tok]; simp

set_option maxHeartbeats 2000000 in
set_option maxRecDepth 100000 in
theorem same_any (A A' : Option Addr) (c c' : Nat) (L : List Tok) (w : World) (hL : L.length ≤ maxLen) (ht : Toks w A L) (ht' : Toks w A' L) :
    Calls Tryd.prog 18 #[.slice A L.length c, .slice A' L.length c'] w fun e w' => e = .returned (.bool true) ∧ Below w.heap.size w w' := by
  have HT := Lib.hid ht
  have HT' := Lib.hid ht'
  obtain ⟨n, hn⟩ : ∃ n, L.length = n := ⟨_, rfl⟩
  rw [hn] at hL
  have HN := Lib.hid hn
  clear ht ht'
  rw [hn]
  clear hn
  unfold maxLen at hL
  have hgt : Tryd.prog.eqGuardType Tryd.prog.depth 30 = false := by kernel_rfl
  go_enter Tryd.func18, Tryd.ntmps18
  go_wp2
  go_loopw [5] (fun i wr => ∃ k m : Nat, k ≤ n ∧ i = .int .i64 k ∧ wr = w.drewN m) (fun i _ => n - (intOf i).toNat)
  case atStart => exact ⟨0, 0, Nat.zero_le _, rfl, rfl⟩
  case round =>
    obtain ⟨k, m, hk, rfl, rfl⟩ := hrel
    by_cases hlt : k < n
    · obtain ⟨ad, t, rfl, ⟨c0, c1, c2⟩, ht⟩ := HT.out.at_ k (by rw [HN.out]; exact hlt)
      obtain ⟨ad', t', rfl, ⟨d0, d1, d2⟩, ht'⟩ := HT'.out.at_ k (by rw [HN.out]; exact hlt)
      obtain rfl : t = t' := Option.some.inj (ht.symm.trans ht')
      clear ht ht'
      obtain ⟨K, hK⟩ : ∃ K, t.k = K := ⟨_, rfl⟩
      obtain ⟨S, hS⟩ : ∃ S, bytesOf t.s = S := ⟨_, rfl⟩
      obtain ⟨a, ha⟩ : ∃ a, t.a = a := ⟨_, rfl⟩
      rw [hK] at c0 d0
      rw [hS] at c1 d1
      rw [ha] at c2 d2
      clear hK hS ha
      have q1 := neq_tok K a S
      have q3 : (0 : Int) ≤ k := by omega
      have q4 : (k : Int) < n := by omega
      go_wp2
      go_quiet (fail)
      go_wp2
      go_roundw
      case rel => exact ⟨k + 1, _, by omega, by go_num, rfl⟩
      case measure => simp [intOf]; omega
    · go_wp2
      go_ret
      exact ⟨rfl, bd_drewN _ _⟩

/-! ### Valid -/
def validF (k : Int) (s : List UInt8) : Bool := checkE k s == 0
set_option maxHeartbeats 1000000 in
theorem valid_o (k a : Int) (s : ByteArray) (w : World) (h1 : k ≠ 1) (h2 : k ≠ 2) (h3 : k ≠ 3) :
    Calls Tryd.prog 19 #[.agg #[.int .u8 k, .string s, .int .i64 a]] w fun e w' => e = .returned (.bool false) ∧ Below w.heap.size w w' := by
  have e1 : (k == 1) = false := by simpa using h1
  have e2 : (k == 2) = false := by simpa using h2
  have e3 : (k == 3) = false := by simpa using h3
  clear h1 h2 h3
  go_enter Tryd.func19, Tryd.ntmps19
  go_wp2
  go_ret
  exact ⟨rfl, (Below.refl _ _).alloc (Nat.le_refl _) _⟩

theorem valid_1 (a : Int) (s : ByteArray) (w : World) (hs : s.size ≤ maxLen) (v : Int) (b : Bool) (hv : rdErr s.data.toList = v) (hb : (v == 0) = b) :
    Calls Tryd.prog 19 #[.agg #[.int .u8 1, .string s, .int .i64 a]] w fun e w' => e = .returned (.bool b) ∧ Below w.heap.size w w' := by
  have HV := Lib.hid (fun w => rread_v s v w hs hv)
  clear hv
  go_enter Tryd.func19, Tryd.ntmps19
  go_wp2_with (go_at_call 32; obtain ⟨x, hx⟩ := HV.out _; refine hx.mono ?_; rintro e w3 ⟨rfl, rfl⟩; clear hx)
  go_ret
  exact ⟨rfl, (Below.refl _ _).alloc (Nat.le_refl _) _⟩
theorem valid_2 (a : Int) (s : ByteArray) (w : World) (b : Bool) (hb : isWord s.data.toList = b) :
    Calls Tryd.prog 19 #[.agg #[.int .u8 2, .string s, .int .i64 a]] w fun e w' => e = .returned (.bool b) ∧ Below w.heap.size w w' := by
  have HV := Lib.hid (fun w => rword_v s b w hb)
  clear hb
  go_enter Tryd.func19, Tryd.ntmps19
  go_wp2_with (go_at_call 33; refine (HV.out _).mono ?_; rintro e w3 ⟨rfl, hb3⟩)
  go_ret
  exact ⟨rfl, ((Below.refl _ _).alloc (Nat.le_refl _) _).trans (hb3.mono (by simp))⟩
theorem valid_3e (a : Int) (s : ByteArray) (w : World) (h : s.size = 0) :
    Calls Tryd.prog 19 #[.agg #[.int .u8 3, .string s, .int .i64 a]] w fun e w' => e = .returned (.bool false) ∧ Below w.heap.size w w' := by
  have hd : decide (0 < s.size) = false := decide_eq_false (by omega)
  have hd2 : decide ((0 : Int) < s.size) = false := decide_eq_false (by omega)
  clear h
  go_enter Tryd.func19, Tryd.ntmps19
  go_wp2
  go_quiet (fail)
  go_wp2
  go_ret
  exact ⟨rfl, ((Below.refl _ _).alloc (Nat.le_refl _) _).trans (bd_drewN _ _ |>.mono (by simp))⟩
theorem rlong_k (s : ByteArray) (m : Nat) (B : Nat) (W w1 : World) (hs : s.size ≤ maxLen) (hm : longL s.data.toList = m) (hB : W.heap.size = B + 1) (h1 : w1.cell? ⟨B, 1, none⟩ = some (.string s)) (h2 : Below (B + 1) W w1) :
    Calls Tryd.prog 34 #[.string s, .int .i64 0] w1 fun e w' => e = .returned (.int .i64 m) ∧ w'.cell? ⟨B, 1, none⟩ = some (.string s) ∧ Below (B + 1) W w' := by
  have := rlongest_any s 0 w1 hs (Nat.zero_le _)
  rw [List.drop_zero, hm] at this
  refine this.mono fun e w' ⟨he, hb⟩ => ?_
  have hsz := h2.size
  exact ⟨he, by rw [hb.cell (p := ⟨B, 1, none⟩) (by show B < _; omega)]; exact h1, h2.trans (hb.mono (by omega))⟩
set_option maxHeartbeats 1000000 in
theorem valid_3 (a : Int) (s : ByteArray) (m : Nat) (w : World) (hs : s.size ≤ maxLen) (hp : 0 < s.size) (hm : longL s.data.toList = m) (b : Bool) (hb : (((m : Nat) : Int) == (s.size : Int)) = b) :
    Calls Tryd.prog 19 #[.agg #[.int .u8 3, .string s, .int .i64 a]] w fun e w' => e = .returned (.bool b) ∧ Below w.heap.size w w' := by
  have HR := Lib.hid (fun (w1 : World) (h : w1.cell? ⟨w.heap.size, 1, none⟩ = some (.string s) ∧ Below (w.heap.size + 1) (w.alloc (.cells #[.int .u8 3, .string s, .int .i64 a] 30)) w1) => rlong_k s m w.heap.size (w.alloc (.cells #[.int .u8 3, .string s, .int .i64 a] 30)) w1 hs hm (by simp) h.1 h.2)
  have hd : decide (0 < s.size) = true := decide_eq_true (by omega)
  have hd2 : decide ((0 : Int) < s.size) = true := decide_eq_true (by omega)
  have hB0 : Below (w.heap.size + 1) (w.alloc (.cells #[.int .u8 3, .string s, .int .i64 a] 30)) (w.alloc (.cells #[.int .u8 3, .string s, .int .i64 a] 30)).drew := (Below.refl _ _).drew
  unfold maxLen at hs
  clear hm
  go_enter Tryd.func19, Tryd.ntmps19
  go_wp2
  go_region_held3 (fun w' => w'.cell? ⟨w.heap.size, 1, none⟩ = some (.string s) ∧ Below (w.heap.size + 1) (w.alloc (.cells #[.int .u8 3, .string s, .int .i64 a] 30)) w') (go_keep)
    (first | (go_at_call 34; refine (HR.out _ (by assumption)).mono ?_; rintro e w' ⟨rfl, h1, h2⟩))
  go_wp2
  go_ret
  exact ⟨rfl, ((Below.refl _ _).alloc (Nat.le_refl _) _).trans (Below.mono (by assumption) (by omega))⟩
end Go.Proofs.YteidhjacnlcddaaDoor
