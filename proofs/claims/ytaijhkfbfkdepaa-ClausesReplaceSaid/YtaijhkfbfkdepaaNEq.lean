
/- Contracts of slices.Equal and of the reference's Equal. -/
import Derived.Test.YtaijhkfbfkdepaaNMem
import Derived.Laws.StructEq
import Derived.LoopTactic
namespace Go.Proofs.Ytaijhkfbfkdepaa.N4
open Go.ChangeShapes Go.WideShapes Go.ChangeAt Go.RowKit
set_option linter.unusedVariables false

theorem eqq_nd (k n a b p k' n' a' b' p' : Int) (w : World) : (Op.equalIn 10000 45 (.agg #[.int .u8 k, .int .i64 n, .int .i64 a, .int .i64 b, .int .i64 p]) (.agg #[.int .u8 k', .int .i64 n', .int .i64 a', .int .i64 b', .int .i64 p'])).run Try.prog w = .ok (k == k' && n == n' && a == a' && b == b' && p == p') w := by
  have u1 := Try.underlying5
  have u2 := Try.underlying2
  have u3 := Try.underlying3
  have hS : Try.prog.underlying 45 = some (.struct (Try.prog.fieldsOf 45)) := by kernel_rfl
  rw [show (10000 : Nat) = 9999 + 1 from rfl, run_equalIn_agg w 9999 45 _ _ hS (by kernel_rfl)]
  simp only [Program.fieldsOf, Try.underlying45]
  go_simp
  by_cases h1 : k = k' <;> by_cases h2 : n = n' <;> by_cases h3 : a = a' <;> by_cases h4 : b = b' <;> by_cases h5 : p = p' <;> simp [h1, h2, h3, h4, h5]
theorem neq_nd (x y : Nd) (r : Bool) (hr : (!decide (x = y)) = r) (w : World) : (binOp .neq 45 (ndV x) (ndV y)).run Try.prog w = .ok (.bool r) w := by
  subst hr
  rw [run_neq_struct, eqq_nd]
  obtain ⟨k, n, a, b, p⟩ := x
  obtain ⟨k', n', a', b', p'⟩ := y
  by_cases h1 : k = k' <;> by_cases h2 : n = n' <;> by_cases h3 : a = a' <;> by_cases h4 : b = b' <;> by_cases h5 : p = p' <;> simp [h1, h2, h3, h4, h5]
theorem eq_len {L M : List Nd} (h : L.length ≠ M.length) : decide (L = M) = false := by
  rw [decide_eq_false_iff_not]; intro e; exact h (by rw [e])
theorem eq_at {L M : List Nd} {k : Nat} {x y : Nd} (hx : L[k]? = some x) (hy : M[k]? = some y) (h : x ≠ y) : decide (L = M) = false := by
  rw [decide_eq_false_iff_not]; intro e; subst e; exact h (Option.some.inj (hx.symm.trans hy))
theorem take_snoc_nd {L : List Nd} {k : Nat} {x : Nd} (h : L[k]? = some x) : L.take (k + 1) = L.take k ++ [x] := by
  obtain ⟨hk, e⟩ := List.getElem?_eq_some_iff.1 h
  rw [List.take_succ_eq_append_getElem hk, e]
set_option maxHeartbeats 2000000 in
theorem requal_any (A A' : Option Addr) (n n' c c' : Nat) (L M : List Nd) (w : World) (hn : L.length = n) (hn' : M.length = n') (hL : n ≤ 1000) (hM : n' ≤ 1000) (ht : Lies w A (ndCells L)) (ht' : Lies w A' (ndCells M)) (v : Bool) (hv : decide (L = M) = v) :
    Calls Try.prog 30 #[.slice A n c, .slice A' n' c'] w fun e w' => e = .returned (.bool v) ∧ Below w.heap.size w w' := by
  have HT := Lib.hid ht
  have HT' := Lib.hid ht'
  have HN := Lib.hid hn
  have HN' := Lib.hid hn'
  have HV := Lib.hid hv
  clear ht ht' hn hn' hv
  have hgt : Try.prog.eqGuardType Try.prog.depth 45 = false := by kernel_rfl
  by_cases hnn : n = n'
  · subst hnn
    go_enter Try.func30, Try.ntmps30
    go_wp2
    go_loopw [5] (fun i wr => ∃ k m : Nat, k ≤ n ∧ i = .int .i64 k ∧ wr = w.drewN m ∧ Hid (L.take k = M.take k)) (fun i _ => n - (intOf i).toNat)
    case atStart => exact ⟨0, 0, Nat.zero_le _, rfl, rfl, Lib.hid (by simp)⟩
    case round =>
      obtain ⟨k, m, hk, rfl, rfl, HK⟩ := hrel
      by_cases hlt : k < n
      · obtain ⟨x, hx⟩ : ∃ x, L[k]? = some x := ⟨_, List.getElem?_eq_getElem (by rw [HN.out]; exact hlt)⟩
        obtain ⟨y, hy⟩ : ∃ y, M[k]? = some y := ⟨_, List.getElem?_eq_getElem (by rw [HN'.out]; exact hlt)⟩
        obtain ⟨ad, rfl, hadl, c0, c1, c2, c3, c4⟩ := HT.out.nd hx
        obtain ⟨ad', rfl, hadl', d0, d1, d2, d3, d4⟩ := HT'.out.nd hy
        have HX := Lib.hid hx
        have HY := Lib.hid hy
        have q3 : (0 : Int) ≤ k := by omega
        have q4 : (k : Int) < n := by omega
        clear hx hy hadl hadl'
        by_cases hxy : x = y
        · subst hxy
          have q1 := neq_nd x x false (by simp)
          go_wp2
          go_quiet (fail)
          go_wp2
          go_roundw
          case rel => exact ⟨k + 1, _, by omega, by go_num, rfl, Lib.hid (by rw [take_snoc_nd HX.out, take_snoc_nd HY.out, HK.out])⟩
          case measure => simp [intOf]; omega
        · have q1 := neq_nd x y true (by simp [hxy])
          have HF := Lib.hid (eq_at HX.out HY.out hxy)
          clear hxy
          go_wp2
          go_quiet (fail)
          go_wp2
          go_ret
          exact ⟨ret_bool' (by rw [← HV.out, HF.out]), Below.drewN' (bd_drewN _ _) _⟩
      · have HF := Lib.hid (show L = M by
          have := HK.out
          rwa [List.take_of_length_le (by rw [HN.out]; omega), List.take_of_length_le (by rw [HN'.out]; omega)] at this)
        go_wp2
        go_ret
        exact ⟨ret_bool' (by rw [← HV.out, HF.out]; simp), bd_drewN _ _⟩
  · have HF := Lib.hid (eq_len (L := L) (M := M) (by rw [HN.out, HN'.out]; exact hnn))
    have e1 : ((n : Int) == n') = false := by simp; omega
    have e2 : ((n : Int) != n') = true := by simp; omega
    clear hnn
    go_enter Try.func30, Try.ntmps30
    go_wp2
    go_ret
    exact ⟨ret_bool' (by rw [← HV.out, HF.out]), Below.refl _ _⟩
set_option maxHeartbeats 2000000 in
theorem sequal_any (A A' : Option Addr) (n n' c c' : Nat) (L M : List Nd) (w : World) (hn : L.length = n) (hn' : M.length = n') (hL : n ≤ 1000) (hM : n' ≤ 1000) (ht : Lies w A (ndCells L)) (ht' : Lies w A' (ndCells M)) (v : Bool) (hv : decide (L = M) = v) :
    Calls Try.prog 45 #[.slice A n c, .slice A' n' c'] w fun e w' => e = .returned (.bool v) ∧ Below w.heap.size w w' := by
  have HT := Lib.hid ht
  have HT' := Lib.hid ht'
  have HN := Lib.hid hn
  have HN' := Lib.hid hn'
  have HV := Lib.hid hv
  clear ht ht' hn hn' hv
  have hgt : Try.prog.eqGuardType Try.prog.depth 45 = false := by kernel_rfl
  by_cases hnn : n = n'
  · subst hnn
    go_enter Try.func45, Try.ntmps45
    go_wp2
    go_loopw [13] (fun i wr => ∃ k m : Nat, k ≤ n ∧ i = .int .i64 k ∧ wr = w.drewN m ∧ Hid (L.take k = M.take k)) (fun i _ => n - (intOf i).toNat)
    case atStart => exact ⟨0, 0, Nat.zero_le _, rfl, rfl, Lib.hid (by simp)⟩
    case round =>
      obtain ⟨k, m, hk, rfl, rfl, HK⟩ := hrel
      by_cases hlt : k < n
      · obtain ⟨x, hx⟩ : ∃ x, L[k]? = some x := ⟨_, List.getElem?_eq_getElem (by rw [HN.out]; exact hlt)⟩
        obtain ⟨y, hy⟩ : ∃ y, M[k]? = some y := ⟨_, List.getElem?_eq_getElem (by rw [HN'.out]; exact hlt)⟩
        obtain ⟨ad, rfl, hadl, c0, c1, c2, c3, c4⟩ := HT.out.nd hx
        obtain ⟨ad', rfl, hadl', d0, d1, d2, d3, d4⟩ := HT'.out.nd hy
        have HX := Lib.hid hx
        have HY := Lib.hid hy
        have q3 : (0 : Int) ≤ k := by omega
        have q4 : (k : Int) < n := by omega
        clear hx hy hadl hadl'
        by_cases hxy : x = y
        · subst hxy
          have q1 := neq_nd x x false (by simp)
          go_wp2
          go_quiet (fail)
          go_wp2
          go_roundw
          case rel => exact ⟨k + 1, _, by omega, by go_num, rfl, Lib.hid (by rw [take_snoc_nd HX.out, take_snoc_nd HY.out, HK.out])⟩
          case measure => simp [intOf]; omega
        · have q1 := neq_nd x y true (by simp [hxy])
          have HF := Lib.hid (eq_at HX.out HY.out hxy)
          clear hxy
          go_wp2
          go_quiet (fail)
          go_wp2
          go_ret
          exact ⟨ret_bool' (by rw [← HV.out, HF.out]), Below.drewN' (bd_drewN _ _) _⟩
      · have HF := Lib.hid (show L = M by
          have := HK.out
          rwa [List.take_of_length_le (by rw [HN.out]; omega), List.take_of_length_le (by rw [HN'.out]; omega)] at this)
        go_wp2
        go_ret
        exact ⟨ret_bool' (by rw [← HV.out, HF.out]; simp), bd_drewN _ _⟩
  · have HF := Lib.hid (eq_len (L := L) (M := M) (by rw [HN.out, HN'.out]; exact hnn))
    have e1 : ((n : Int) == n') = false := by simp; omega
    have e2 : ((n : Int) != n') = true := by simp; omega
    clear hnn
    go_enter Try.func45, Try.ntmps45
    go_wp2
    go_ret
    exact ⟨ret_bool' (by rw [← HV.out, HF.out]), Below.refl _ _⟩
end Go.Proofs.Ytaijhkfbfkdepaa.N4
