/- Contracts of within, badUnless, slides, Window, and the reference's Fits. -/
import Derived.Test.YtaijhkfbfkdepaaQMem
namespace Go.Proofs.Ytaijhkfbfkdepaa.Q8
open Go.ChangeShapes Go.WideShapes Go.ChangeAt Go.RowKit N4
set_option linter.unusedVariables false
set_option linter.unusedSimpArgs false
set_option maxRecDepth 100000

theorem within_u8 (v a b : Int) (w : World) (x : Bool) (hx : inB v a b = x) : Calls Try.prog 24 #[.int .u8 v, .int .u8 a, .int .u8 b] w fun e w' => e = .returned (.bool x) ∧ w = w' := by
  have HX := Lib.hid hx
  clear hx
  by_cases h1 : a ≤ v <;> by_cases h2 : v ≤ b
  all_goals
    go_enter Try.func24, Try.ntmps24
    go_wp2
    go_ret
    exact ⟨ret_bool' (by rw [← HX.out]; simp [inB, h1, h2]), rfl⟩
theorem within_i64 (v a b : Int) (w : World) (x : Bool) (hx : inB v a b = x) : Calls Try.prog 34 #[.int .i64 v, .int .i64 a, .int .i64 b] w fun e w' => e = .returned (.bool x) ∧ w = w' := by
  have HX := Lib.hid hx
  clear hx
  by_cases h1 : a ≤ v <;> by_cases h2 : v ≤ b
  all_goals
    go_enter Try.func34, Try.ntmps34
    go_wp2
    go_ret
    exact ⟨ret_bool' (by rw [← HX.out]; simp [inB, h1, h2]), rfl⟩
theorem within_int (v a b : Int) (w : World) (x : Bool) (hx : inB v a b = x) : Calls Try.prog 43 #[.int .i64 v, .int .i64 a, .int .i64 b] w fun e w' => e = .returned (.bool x) ∧ w = w' := by
  have HX := Lib.hid hx
  clear hx
  by_cases h1 : a ≤ v <;> by_cases h2 : v ≤ b
  all_goals
    go_enter Try.func43, Try.ntmps43
    go_wp2
    go_ret
    exact ⟨ret_bool' (by rw [← HX.out]; simp [inB, h1, h2]), rfl⟩
theorem bad_any (b : Bool) (w : World) (v : Int) (hv : badE b = v) : Calls Try.prog 23 #[.bool b] w fun e w' => e = .returned (.int .i64 v) ∧ w = w' := by
  cases b
  · obtain rfl : v = 8 := hv.symm
    clear hv
    go_enter Try.func23, Try.ntmps23
    go_wp2
    go_ret
    exact ⟨rfl, rfl⟩
  · obtain rfl : v = 0 := hv.symm
    clear hv
    go_enter Try.func23, Try.ntmps23
    go_wp2
    go_ret
    exact ⟨rfl, rfl⟩
theorem slides_any (k s v : Int) (w : World) (hs : s ≤ 9223372036854775807) (x : Bool) (hx : slidesF s v = x) : Calls Try.prog 33 #[.agg #[.int .u8 k, .int .i64 s, .int .i64 v]] w fun e w' => e = .returned (.bool x) ∧ Below w.heap.size w w' := by
  have HX := Lib.hid hx
  clear hx
  cases hin : inB v 1 s
  · have HW := Lib.hid (fun W => within_i64 v 1 s W false hin)
    have HF := Lib.hid (show false = x by rw [← HX.out]; simp [slidesF, hin])
    clear hin
    go_enter Try.func33, Try.ntmps33
    go_wp2_with (go_at_call 34; refine (HW.out _).mono ?_; rintro e w1 ⟨rfl, rfl⟩)
    go_ret
    exact ⟨ret_bool' HF.out, (Below.refl _ _).alloc (Nat.le_refl _) _⟩
  · have HW := Lib.hid (fun W => within_i64 v 1 s W true hin)
    obtain ⟨h1, h2⟩ := inB_true.1 hin
    have h0 : 0 ≤ s - 1 := by omega
    by_cases h3 : (s - 1) / 16 < v
    all_goals
      have HF := Lib.hid (show decide ((s - 1) / 16 < v) = x by rw [← HX.out]; simp only [slidesF, hin, Bool.true_and]; exact decide_eq_decide.2 (by omega))
      clear hin
      go_enter Try.func33, Try.ntmps33
      go_wp2_with (go_at_call 34; refine (HW.out _).mono ?_; rintro e w1 ⟨rfl, rfl⟩)
      go_ret
      exact ⟨ret_bool' (by rw [← HF.out] <;> simp [h3]), (Below.refl _ _).alloc (Nat.le_refl _) _⟩
theorem win_slide (s v : Int) (w : World) (hs : s ≤ 9223372036854775807) (x : Int) (hx : winE 2 s v = x) : Calls Try.prog 17 #[.agg #[.int .u8 2, .int .i64 s, .int .i64 v]] w fun e w' => e = .returned (.int .i64 x) ∧ Below w.heap.size w w' := by
  have HX := Lib.hid hx
  clear hx
  have h1 : (Below w.heap.size w w) := Below.refl _ _
  cases hsl : slidesF s v
  · have HS := Lib.hid (fun W => slides_any 2 s v W hs false hsl)
    have HF := Lib.hid (show (8 : Int) = x by rw [← HX.out]; simp [winE, fitsW, hsl, badE])
    clear hsl hs
    go_enter Try.func17, Try.ntmps17
    go_wp2_with (go_at_call 33; refine (HS.out _).mono ?_; rintro e w1 ⟨rfl, hb⟩)
    go_ret
    exact ⟨ret_int' HF.out, ((Below.refl _ _).alloc (Nat.le_refl _) _).trans (hb.mono (by simp))⟩
  · have HS := Lib.hid (fun W => slides_any 2 s v W hs true hsl)
    cases hin : inB s 1 1073741824
    all_goals
      have HW := Lib.hid (fun W => within_i64 s 1 1073741824 W _ hin)
      have HB := Lib.hid (fun W => bad_any (inB s 1 1073741824) W x (by rw [← HX.out]; simp [winE, fitsW, hsl]))
      rw [hin] at HB
      clear hsl hs hin
      go_enter Try.func17, Try.ntmps17
      go_wp2_with (first
        | (go_at_call 33; refine (HS.out _).mono ?_; rintro e w1 ⟨rfl, hb⟩; obtain ⟨hc, hf⟩ := bcell hb; have hz := hb.size; have HB1 := Lib.hid (((Below.refl _ _).alloc (Nat.le_refl _) _).trans (hb.mono (by simp))); clear hb)
        | (go_at_call 34; refine (HW.out _).mono ?_; rintro e w2 ⟨rfl, rfl⟩)
        | (go_at_call 23; refine (HB.out _).mono ?_; rintro e w3 ⟨rfl, rfl⟩))
      go_ret
      exact ⟨rfl, HB1.out.setCell (by simp) _⟩
theorem win_plain (k s v : Int) (w : World) (hk : k = 1 ∨ k = 3) (x : Int) (hx : winE k s v = x) : Calls Try.prog 17 #[.agg #[.int .u8 k, .int .i64 s, .int .i64 v]] w fun e w' => e = .returned (.int .i64 x) ∧ Below w.heap.size w w' := by
  have HX := Lib.hid hx
  clear hx
  cases hin : inB s 1 1073741824 <;> by_cases hv : v = 0
  all_goals
    have HW := Lib.hid (fun W => within_i64 s 1 1073741824 W _ hin)
    have HB := Lib.hid (fun W => bad_any (inB s 1 1073741824 && decide (v = 0)) W x (by rw [← HX.out]; rcases hk with rfl | rfl <;> simp [winE, fitsW]))
    simp only [hin, hv, decide_true, decide_false, Bool.and_true, Bool.and_false, Bool.false_and, Bool.true_and] at HB
    have hvb : (v == 0) = decide (v = 0) := rfl
    simp only [hv, decide_true, decide_false] at hvb
    rcases hk with rfl | rfl
    all_goals
      clear hin
      go_enter Try.func17, Try.ntmps17
      go_wp2_with (first
        | (go_at_call 34; refine (HW.out _).mono ?_; rintro e w2 ⟨rfl, rfl⟩)
        | (go_at_call 23; refine (HB.out _).mono ?_; rintro e w3 ⟨rfl, rfl⟩))
      go_ret
      exact ⟨rfl, (Below.refl _ _).alloc (Nat.le_refl _) _⟩
theorem win_other (k s v : Int) (w : World) (h1 : k ≠ 1) (h2 : k ≠ 2) (h3 : k ≠ 3) (x : Int) (hx : winE k s v = x) : Calls Try.prog 17 #[.agg #[.int .u8 k, .int .i64 s, .int .i64 v]] w fun e w' => e = .returned (.int .i64 x) ∧ Below w.heap.size w w' := by
  have HX := Lib.hid (show (8 : Int) = x by rw [← hx]; simp [winE, fitsW, badE, h1, h2, h3])
  clear hx
  go_enter Try.func17, Try.ntmps17
  go_wp2
  go_ret
  exact ⟨ret_int' HX.out, (Below.refl _ _).alloc (Nat.le_refl _) _⟩
theorem win_any (k s v : Int) (w : World) (hs : s ≤ 9223372036854775807) (x : Int) (hx : winE k s v = x) : Calls Try.prog 17 #[.agg #[.int .u8 k, .int .i64 s, .int .i64 v]] w fun e w' => e = .returned (.int .i64 x) ∧ Below w.heap.size w w' := by
  by_cases h1 : k = 1
  · exact win_plain k s v w (.inl h1) x hx
  by_cases h3 : k = 3
  · exact win_plain k s v w (.inr h3) x hx
  by_cases h2 : k = 2
  · subst h2; exact win_slide s v w hs x hx
  · exact win_other k s v w h1 h2 h3 x hx

/-! ### the reference's -/
theorem fits_out (k s v : Int) (w : World) (h : inB s 1 1073741824 = false) (x : Bool) (hx : fitsW k s v = x) : Calls Try.prog 29 #[.agg #[.int .u8 k, .int .i64 s, .int .i64 v]] w fun e w' => e = .returned (.bool x) ∧ Below w.heap.size w w' := by
  obtain rfl : false = x := by rw [← hx]; simp [fitsW, h]
  have h' : s < 1 ∨ 1 ≤ s ∧ 1073741824 < s := by
    have : ¬ (1 ≤ s ∧ s ≤ 1073741824) := fun hh => by rw [inB_true.2 hh] at h; cases h
    omega
  clear hx h
  rcases h' with h | ⟨h, h'⟩
  all_goals
    go_enter Try.func29, Try.ntmps29
    go_wp2
    go_ret
    exact ⟨rfl, (Below.refl _ _).alloc (Nat.le_refl _) _⟩
theorem fits_slide (s v : Int) (w : World) (h : inB s 1 1073741824 = true) (x : Bool) (hx : fitsW 2 s v = x) : Calls Try.prog 29 #[.agg #[.int .u8 2, .int .i64 s, .int .i64 v]] w fun e w' => e = .returned (.bool x) ∧ Below w.heap.size w w' := by
  obtain ⟨h1, h2⟩ := inB_true.1 h
  have HX := Lib.hid (show (decide (1 ≤ v) && (decide (v ≤ s) && decide (s ≤ 16 * v))) = x by rw [← hx]; simp only [fitsW, h, Bool.true_and, if_true]; simp [slidesF, inB, Bool.and_assoc])
  clear hx h
  by_cases h3 : 1 ≤ v
  · by_cases h4 : v ≤ s
    · have h5 : 0 ≤ 16 * v := by omega
      have h6 : 16 * v ≤ 17179869184 := by omega
      by_cases h7 : s ≤ 16 * v
      all_goals
        go_enter Try.func29, Try.ntmps29
        go_wp2
        go_ret
        exact ⟨ret_bool' (by rw [← HX.out]; simp [h3, h4, h7]), (Below.refl _ _).alloc (Nat.le_refl _) _⟩
    · go_enter Try.func29, Try.ntmps29
      go_wp2
      go_ret
      exact ⟨ret_bool' (by rw [← HX.out]; simp <;> omega), (Below.refl _ _).alloc (Nat.le_refl _) _⟩
  · go_enter Try.func29, Try.ntmps29
    go_wp2
    go_ret
    exact ⟨ret_bool' (by rw [← HX.out]; simp <;> omega), (Below.refl _ _).alloc (Nat.le_refl _) _⟩
theorem fits_other (k s v : Int) (w : World) (h : inB s 1 1073741824 = true) (hk : k ≠ 2) (x : Bool) (hx : fitsW k s v = x) : Calls Try.prog 29 #[.agg #[.int .u8 k, .int .i64 s, .int .i64 v]] w fun e w' => e = .returned (.bool x) ∧ Below w.heap.size w w' := by
  obtain ⟨h1, h2⟩ := inB_true.1 h
  have HX := Lib.hid (show ((decide (k = 1) || decide (k = 3)) && decide (v = 0)) = x by rw [← hx]; simp [fitsW, h, hk])
  clear hx h
  by_cases h3 : k = 1
  · by_cases h4 : v = 0
    all_goals
      subst h3
      go_enter Try.func29, Try.ntmps29
      go_wp2
      go_ret
      exact ⟨ret_bool' (by rw [← HX.out]; simp [h4]), (Below.refl _ _).alloc (Nat.le_refl _) _⟩
  · by_cases h5 : k = 3
    · by_cases h4 : v = 0
      all_goals
        subst h5
        go_enter Try.func29, Try.ntmps29
        go_wp2
        go_ret
        exact ⟨ret_bool' (by rw [← HX.out]; simp [h4]), (Below.refl _ _).alloc (Nat.le_refl _) _⟩
    · go_enter Try.func29, Try.ntmps29
      go_wp2
      go_ret
      exact ⟨ret_bool' (by rw [← HX.out]; simp [h3, h5]), (Below.refl _ _).alloc (Nat.le_refl _) _⟩
theorem fits_any (k s v : Int) (w : World) (x : Bool) (hx : fitsW k s v = x) : Calls Try.prog 29 #[.agg #[.int .u8 k, .int .i64 s, .int .i64 v]] w fun e w' => e = .returned (.bool x) ∧ Below w.heap.size w w' := by
  cases h : inB s 1 1073741824
  · exact fits_out k s v w h x hx
  by_cases hk : k = 2
  · subst hk; exact fits_slide s v w h x hx
  · exact fits_other k s v w h hk x hx
end Go.Proofs.Ytaijhkfbfkdepaa.Q8
