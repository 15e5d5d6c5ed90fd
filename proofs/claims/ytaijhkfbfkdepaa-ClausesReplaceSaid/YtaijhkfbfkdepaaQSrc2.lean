/- Contracts of the reference's Sources and SameSources, and of slices.Equal. -/
import Derived.Test.YtaijhkfbfkdepaaQMem
import Derived.Test.YtaijhkfbfkdepaaNEq
namespace Go.Proofs.Ytaijhkfbfkdepaa.Q8
open Go.ChangeShapes Go.WideShapes Go.ChangeAt Go.RowKit N4
set_option linter.unusedVariables false
set_option linter.unusedSimpArgs false
set_option maxRecDepth 100000

theorem take_snoc_int {l : List Int} {k : Nat} (hk : k < l.length) : l.take (k + 1) = l.take k ++ [l[k]] := List.take_succ_eq_append_getElem hk
theorem int_at {l m : List Int} {k : Nat} (hk : k < l.length) (hm : k < m.length) (h : l[k] ≠ m[k]) : decide (l = m) = false := by
  rw [decide_eq_false_iff_not]; intro e; subst e; exact h rfl
set_option maxHeartbeats 2000000 in
theorem samesrc_any (A A' : Option Addr) (n n' c c' : Nat) (l m : List Int) (w : World) (hn : l.length = n) (hn' : m.length = n') (hL : n ≤ 1000) (hM : n' ≤ 1000) (ht : Lies w A (iC l)) (ht' : Lies w A' (iC m)) (v : Bool) (hv : decide (l = m) = v) :
    Calls Try.prog 39 #[.slice A n c, .slice A' n' c'] w fun e w' => e = .returned (.bool v) ∧ Below w.heap.size w w' := by
  have HT := Lib.hid ht
  have HT' := Lib.hid ht'
  have HN := Lib.hid hn
  have HN' := Lib.hid hn'
  have HV := Lib.hid hv
  clear ht ht' hn hn' hv
  by_cases hnn : n = n'
  · subst hnn
    go_enter Try.func39, Try.ntmps39
    go_wp2
    go_loopw [5] (fun i wr => ∃ k d : Nat, k ≤ n ∧ i = .int .i64 k ∧ wr = w.drewN d ∧ Hid (l.take k = m.take k)) (fun i _ => n - (intOf i).toNat)
    case atStart => exact ⟨0, 0, Nat.zero_le _, rfl, rfl, Lib.hid (by simp)⟩
    case round =>
      obtain ⟨k, d, hk, rfl, rfl, HK⟩ := hrel
      by_cases hlt : k < n
      · have hkl : k < l.length := by rw [HN.out]; exact hlt
        have hkm : k < m.length := by rw [HN'.out]; exact hlt
        obtain ⟨ad, rfl, hadl, c0⟩ := HT.out.one (iC_at hkl)
        obtain ⟨ad', rfl, hadl', d0⟩ := HT'.out.one (iC_at hkm)
        have HX := Lib.hid (take_snoc_int hkl)
        have HY := Lib.hid (take_snoc_int hkm)
        have HZ := Lib.hid (fun h => int_at (l := l) (m := m) hkl hkm h)
        have q3 : (0 : Int) ≤ k := by omega
        have q4 : (k : Int) < n := by omega
        generalize l[k] = x at c0 HX HZ
        generalize m[k] = y at d0 HY HZ
        clear hkl hkm hadl hadl'
        by_cases hxy : x = y
        · subst hxy
          go_wp2
          go_quiet (fail)
          go_wp2
          go_roundw
          case rel => exact ⟨k + 1, _, by omega, by go_num, rfl, Lib.hid (by rw [HX.out, HY.out, HK.out])⟩
          case measure => simp [intOf]; omega
        · have HF := Lib.hid (HZ.out hxy)
          have q1 : (x == y) = false := by simpa using hxy
          have q2 : (x != y) = true := by simpa using hxy
          go_wp2
          go_quiet (fail)
          go_wp2
          go_ret
          exact ⟨ret_bool' (by rw [← HV.out, HF.out]), Below.drewN' (bd_drewN _ _) _⟩
      · have HF := Lib.hid (show l = m by
          have := HK.out
          rwa [List.take_of_length_le (by rw [HN.out]; omega), List.take_of_length_le (by rw [HN'.out]; omega)] at this)
        go_wp2
        go_ret
        exact ⟨ret_bool' (by rw [← HV.out, HF.out]; simp), bd_drewN _ _⟩
  · have HF := Lib.hid (show decide (l = m) = false by rw [decide_eq_false_iff_not]; intro e; subst e; exact hnn (HN.out.symm.trans HN'.out))
    have e1 : ((n : Int) == n') = false := by simp; omega
    have e2 : ((n : Int) != n') = true := by simp; omega
    clear hnn
    go_enter Try.func39, Try.ntmps39
    go_wp2
    go_ret
    exact ⟨ret_bool' (by rw [← HV.out, HF.out]), Below.refl _ _⟩
set_option maxHeartbeats 2000000 in
theorem eqint_any (A A' : Option Addr) (n n' c c' : Nat) (l m : List Int) (w : World) (hn : l.length = n) (hn' : m.length = n') (hL : n ≤ 1000) (hM : n' ≤ 1000) (ht : Lies w A (iC l)) (ht' : Lies w A' (iC m)) (v : Bool) (hv : decide (l = m) = v) :
    Calls Try.prog 21 #[.slice A n c, .slice A' n' c'] w fun e w' => e = .returned (.bool v) ∧ Below w.heap.size w w' := by
  have HT := Lib.hid ht
  have HT' := Lib.hid ht'
  have HN := Lib.hid hn
  have HN' := Lib.hid hn'
  have HV := Lib.hid hv
  clear ht ht' hn hn' hv
  by_cases hnn : n = n'
  · subst hnn
    go_enter Try.func21, Try.ntmps21
    go_wp2
    go_loopw [13] (fun i wr => ∃ k d : Nat, k ≤ n ∧ i = .int .i64 k ∧ wr = w.drewN d ∧ Hid (l.take k = m.take k)) (fun i _ => n - (intOf i).toNat)
    case atStart => exact ⟨0, 0, Nat.zero_le _, rfl, rfl, Lib.hid (by simp)⟩
    case round =>
      obtain ⟨k, d, hk, rfl, rfl, HK⟩ := hrel
      by_cases hlt : k < n
      · have hkl : k < l.length := by rw [HN.out]; exact hlt
        have hkm : k < m.length := by rw [HN'.out]; exact hlt
        obtain ⟨ad, rfl, hadl, c0⟩ := HT.out.one (iC_at hkl)
        obtain ⟨ad', rfl, hadl', d0⟩ := HT'.out.one (iC_at hkm)
        have HX := Lib.hid (take_snoc_int hkl)
        have HY := Lib.hid (take_snoc_int hkm)
        have HZ := Lib.hid (fun h => int_at (l := l) (m := m) hkl hkm h)
        have q3 : (0 : Int) ≤ k := by omega
        have q4 : (k : Int) < n := by omega
        generalize l[k] = x at c0 HX HZ
        generalize m[k] = y at d0 HY HZ
        clear hkl hkm hadl hadl'
        by_cases hxy : x = y
        · subst hxy
          go_wp2
          go_quiet (fail)
          go_wp2
          go_roundw
          case rel => exact ⟨k + 1, _, by omega, by go_num, rfl, Lib.hid (by rw [HX.out, HY.out, HK.out])⟩
          case measure => simp [intOf]; omega
        · have HF := Lib.hid (HZ.out hxy)
          have q1 : (x == y) = false := by simpa using hxy
          have q2 : (x != y) = true := by simpa using hxy
          go_wp2
          go_quiet (fail)
          go_wp2
          go_ret
          exact ⟨ret_bool' (by rw [← HV.out, HF.out]), Below.drewN' (bd_drewN _ _) _⟩
      · have HF := Lib.hid (show l = m by
          have := HK.out
          rwa [List.take_of_length_le (by rw [HN.out]; omega), List.take_of_length_le (by rw [HN'.out]; omega)] at this)
        go_wp2
        go_ret
        exact ⟨ret_bool' (by rw [← HV.out, HF.out]; simp), bd_drewN _ _⟩
  · have HF := Lib.hid (show decide (l = m) = false by rw [decide_eq_false_iff_not]; intro e; subst e; exact hnn (HN.out.symm.trans HN'.out))
    have e1 : ((n : Int) == n') = false := by simp; omega
    have e2 : ((n : Int) != n') = true := by simp; omega
    clear hnn
    go_enter Try.func21, Try.ntmps21
    go_wp2
    go_ret
    exact ⟨ret_bool' (by rw [← HV.out, HF.out]), Below.refl _ _⟩
set_option maxHeartbeats 2000000 in
theorem rsrc_loop (A : Option Addr) (c n : Nat) (l : List Int) (j : Bool) (w : World) (hn : l.length = n) (h4 : n ≤ 4) (h0 : n ≠ 0) (ht : Lies w A (iC l)) (hB : j = true → ((n : Int) != 2) = false ∧ ((n : Int) == 2) = true) (x : Int) (hx : (if l.any nl = true then (8 : Int) else if l.Nodup then (0 : Int) else 43) = x) :
    Calls Try.prog 28 #[.slice A n c, .bool j] w fun e w' => e = .returned (.int .i64 x) ∧ Below w.heap.size w w' := by
  have HT := Lib.hid ht
  have HN := Lib.hid hn
  have HX := Lib.hid hx
  have hnz : (n == 0) = false := by simpa using h0
  have hni : ((n : Int) == 0) = false := by simpa using h0
  have h5 : ¬ (4 < n) := by omega
  clear ht hn hx h0
  cases hjx : j
  all_goals
    first
      | (have hB1 := (hB hjx).1; have hB2 := (hB hjx).2)
      | skip
    clear hB hjx
    go_enter Try.func28, Try.ntmps28
    go_wp2
    go_loop [5] (fun i => ∃ k : Nat, i = .int .i64 k ∧ k ≤ n ∧ Hid ((l.take k).any nl = false)) (fun i => n - (intOf i).toNat)
    case atStart => exact ⟨0, rfl, Nat.zero_le _, rfl⟩
    case round =>
      obtain ⟨k, rfl, hk, HK⟩ := hrel
      by_cases hlt : k < n
      · have hkl : k < l.length := by rw [HN.out]; exact hlt
        obtain ⟨ad, rfl, hadl, c0⟩ := HT.out.one (iC_at hkl)
        have hab : (ad.add k).block < w.heap.size := by rw [add_block]; exact hadl
        have j1 : (0 : Int) ≤ k := by omega
        have j2 : (k : Int) < (n : Int) := by omega
        have HA := Lib.hid (any_snoc hkl)
        have HG := Lib.hid (show nl l[k] = true → 8 = x from fun hh => by rw [← HX.out, if_pos (List.any_eq_true.2 ⟨l[k], List.getElem_mem hkl, hh⟩)])
        generalize l[k] = v at c0 HA HG
        clear hadl hkl
        by_cases h6 : v < 0
        · have HF := Lib.hid (HG.out (by simp [nl, inB]; omega))
          go_wp2
          go_ret
          exact ⟨ret_int' HF.out, Below.refl _ _⟩
        · by_cases h7 : 3 < v
          · have HF := Lib.hid (HG.out (by simp [nl, inB]; omega))
            go_wp2
            go_ret
            exact ⟨ret_int' HF.out, Below.refl _ _⟩
          · have HK' := Lib.hid (show (l.take (k + 1)).any nl = false by rw [HA.out, HK.out]; simp [nl, inB]; omega)
            go_wp2
            go_round
            case rel => exact ⟨k + 1, by go_num, by omega, HK'⟩
            case measure => simp [intOf]; omega
      · obtain rfl : n = k := by omega
        have HY := Lib.hid (show (if l.Nodup then (0 : Int) else 43) = x by
          have := HK.out; rw [List.take_of_length_le (by rw [HN.out]; exact Nat.le_refl _)] at this
          have hx := HX.out
          rw [this] at hx
          simpa using hx)
        clear HK
        go_wp2
        go_loopw [6] (fun i wr' => ∃ k d : Nat, i = .int .i64 k ∧ k ≤ n ∧ wr' = w.drewN d ∧ Hid ((l.take k).Nodup)) (fun i _ => n - (intOf i).toNat)
        case atStart => exact ⟨0, 0, rfl, Nat.zero_le _, rfl, by show (l.take 0).Nodup; simp⟩
        case round =>
          obtain ⟨i, d, rfl, hi, rfl, HK⟩ := hrel
          by_cases hil : i < n
          · have hii : i < l.length := by rw [HN.out]; exact hil
            have j2 : (i : Int) < (n : Int) := by omega
            have HS := Lib.hid (nodup_snoc hii)
            obtain ⟨ad, hAd, hadl, c0⟩ := HT.out.one (iC_at hii)
            generalize l[i] = u at c0 HS
            clear hlt hii
            go_wp2
            go_loopw [7] (fun jv wr' => ∃ k d : Nat, jv = .int .i64 k ∧ k ≤ i ∧ wr' = w.drewN d ∧ Hid (u ∉ l.take k)) (fun jv _ => i - (intOf jv).toNat)
            case atStart => exact ⟨0, _, rfl, Nat.zero_le _, rfl, by show u ∉ l.take 0; simp⟩
            case round =>
              obtain ⟨k, d, rfl, hk, rfl, HJ⟩ := hrel
              by_cases hki : k < i
              · have hkk : k < l.length := by rw [HN.out]; omega
                obtain ⟨ad', hAd', hadl', d0⟩ := HT.out.one (iC_at hkk)
                obtain rfl : ad = ad' := Option.some.inj (hAd.symm.trans hAd')
                subst hAd
                have q1 : (0 : Int) ≤ k := by omega
                have q2 : (k : Int) < n := by omega
                have q3 : (0 : Int) ≤ i := by omega
                have q4 : (k : Int) < i := by omega
                have HE := Lib.hid (take_snoc_int hkk)
                have HG := Lib.hid (show l[k] ∈ l.take i from List.mem_take_iff_getElem.2 ⟨k, by omega, rfl⟩)
                generalize l[k] = v at d0 HE HG
                clear hkk hAd' hadl hadl'
                by_cases huv : v = u
                · subst huv
                  have HF := Lib.hid (show (43 : Int) = x by rw [← HY.out, if_neg]; intro hh; exact (HS.out.1 (nodup_take hh _)).2 HG.out)
                  go_wp2
                  go_quiet (fail)
                  go_wp2
                  go_ret
                  exact ⟨ret_int' HF.out, Below.drewN' (bd_drewN _ _) _⟩
                · have HJ' := Lib.hid (show u ∉ l.take (k + 1) by rw [HE.out, List.mem_append, not_or]; exact ⟨HJ.out, by simpa using fun h => huv h.symm⟩)
                  have q5 : (v == u) = false := by simpa using huv
                  go_wp2
                  go_quiet (fail)
                  go_wp2
                  go_roundw
                  case rel => exact ⟨k + 1, _, by go_num, by omega, rfl, HJ'⟩
                  case measure => simp [intOf]; omega
              · obtain rfl : i = k := by omega
                have HD' := Lib.hid (HS.out.2 ⟨HK.out, HJ.out⟩)
                go_wp2
                go_roundw
                case rel => exact ⟨i + 1, _, by go_num, by omega, rfl, HD'⟩
                case measure => simp [intOf]; omega
          · obtain rfl : n = i := by omega
            have HF := Lib.hid (show (0 : Int) = x by rw [← HY.out, if_pos]; have := HK.out; rwa [List.take_of_length_le (by rw [HN.out]; exact Nat.le_refl _)] at this)
            go_wp2
            go_ret
            exact ⟨ret_int' HF.out, bd_drewN _ _⟩
theorem rsrc_any (A : Option Addr) (c n : Nat) (l : List Int) (j : Bool) (w : World) (hn : l.length = n) (ht : Lies w A (iC l)) (x : Int) (hx : srcF l j = x) :
    Calls Try.prog 28 #[.slice A n c, .bool j] w fun e w' => e = .returned (.int .i64 x) ∧ Below w.heap.size w w' := by
  unfold srcF at hx
  rw [hn] at hx
  by_cases h4 : 4 < n
  · rw [if_pos h4] at hx
    subst hx
    clear ht hn
    have h4i : (4 : Int) < n := by omega
    go_enter Try.func28, Try.ntmps28
    go_wp2
    go_ret
    exact ⟨rfl, Below.refl _ _⟩
  rw [if_neg h4] at hx
  by_cases h0 : n = 0
  · rw [if_pos h0] at hx
    subst hx h0
    clear ht hn h4
    go_enter Try.func28, Try.ntmps28
    go_wp2
    go_ret
    exact ⟨rfl, Below.refl _ _⟩
  rw [if_neg h0] at hx
  by_cases h2 : j = true ∧ n ≠ 2
  · rw [if_pos h2] at hx
    obtain ⟨rfl, h2⟩ := h2
    subst hx
    have hnz : (n == 0) = false := by simpa using h0
    have hni : ((n : Int) == 0) = false := by simpa using h0
    have hB1 : ((n : Int) != 2) = true := by rw [bne_iff_ne]; omega
    have hB2 : ((n : Int) == 2) = false := by rw [beq_eq_false_iff_ne]; omega
    have h5 : ¬ (4 < n) := by omega
    clear ht hn h4 h0 h2
    go_enter Try.func28, Try.ntmps28
    go_wp2
    go_ret
    exact ⟨rfl, Below.refl _ _⟩
  rw [if_neg h2] at hx
  exact rsrc_loop A c n l j w hn (by omega) h0 ht (fun h => by rw [show n = 2 from Decidable.byContradiction fun hh => h2 ⟨h, hh⟩]; exact ⟨rfl, rfl⟩) x hx
end Go.Proofs.Ytaijhkfbfkdepaa.Q8
