/- Contracts of argument, condition, cmp.Or, Check. -/
import Derived.Test.YtaijhkfbfkdepaaQSrc
import Derived.Test.YtaijhkfbfkdepaaQReg
import Derived.Test.YtaijhkfbfkdepaaNProg
namespace Go.Proofs.Ytaijhkfbfkdepaa.Q8
open Go.ChangeShapes Go.WideShapes Go.ChangeAt Go.RowKit N4
set_option linter.unusedVariables false
set_option linter.unusedSimpArgs false
set_option maxRecDepth 100000

theorem lies_lit (w : World) (B : Nat) (hB : w.heap.size = B) (cs : Array Value) (t : TypeId) : Lies (w.alloc (.cells cs t)) (some ⟨B, 0, none⟩) cs.toList := by
  subst hB
  refine .inr ⟨_, rfl, by simp, fun j z hz => ?_⟩
  exact World.news_of_block (w := w.alloc (.cells cs t)) (B := w.heap.size) (cs := cs) (t := t) (fr := (0, 0)) (heap_alloc_new w _) j z hz
theorem lies_vals (w : World) (B : Nat) (hB : w.heap.size = B) (cs : Array Value) (t : TypeId) (vs : List Value) (h : cs.toList = vs) : Lies (w.alloc (.cells cs t)) (some ⟨B, 0, none⟩) vs := by
  rw [← h]; exact lies_lit w B hB cs t
theorem or_any (A : Option Addr) (c n : Nat) (vs : List Int) (w : World) (hn : vs.length = n) (hL : n ≤ maxLen) (ht : Lies w A (iC vs)) (x : Int) (hx : firstE vs = x) :
    Calls Try.prog 19 #[.slice A n c] w fun e w' => e = .returned (.int .i64 x) ∧ w = w' := by
  have HT := Lib.hid ht
  have HN := Lib.hid hn
  have HX := Lib.hid hx
  unfold maxLen at hL
  clear ht hn hx
  go_enter Try.func19, Try.ntmps19
  go_wp2
  go_loop [8] (fun i => ∃ k : Nat, i = .int .i64 k ∧ k ≤ n ∧ Hid (∀ v ∈ vs.take k, v = 0)) (fun i => n - (intOf i).toNat)
  case atStart => exact ⟨0, rfl, Nat.zero_le _, by show ∀ v ∈ vs.take 0, v = 0; simp⟩
  case round =>
    obtain ⟨k, rfl, hk, HK⟩ := hrel
    by_cases hlt : k < n
    · have hkl : k < vs.length := by rw [HN.out]; exact hlt
      obtain ⟨ad, rfl, hadl, c0⟩ := HT.out.one (iC_at hkl)
      have hab : (ad.add k).block < w.heap.size := by rw [add_block]; exact hadl
      have j2 : (k : Int) < (n : Int) := by omega
      have HE := Lib.hid (show vs.take (k + 1) = vs.take k ++ [vs[k]] from List.take_succ_eq_append_getElem hkl)
      have HD := Lib.hid (show firstE vs = firstE (vs.drop k) from firstE_zeros vs k HK.out)
      have HG := Lib.hid (show vs.drop k = vs[k] :: vs.drop (k + 1) from (List.drop_eq_getElem_cons hkl))
      generalize vs[k] = v at c0 HE HG
      clear hadl hkl
      by_cases h0 : v = 0
      · subst h0
        have HK' := Lib.hid (show ∀ v ∈ vs.take (k + 1), v = 0 by
          rw [HE.out]; intro v hv
          rcases List.mem_append.1 hv with hv | hv
          · exact HK.out v hv
          · simpa using hv)
        go_wp2
        go_round
        case rel => exact ⟨k + 1, by go_num, by omega, HK'⟩
        case measure => simp [intOf]; omega
      · have HF := Lib.hid (show v = x by rw [← HX.out, HD.out, HG.out]; simp [firstE, h0])
        have q1 := errno_ne h0
        go_wp2
        go_ret
        exact ⟨ret_int' HF.out, rfl⟩
    · obtain rfl : n = k := by omega
      have HF := Lib.hid (show (0 : Int) = x by rw [← HX.out]; exact (firstE_zero.2 (by have := HK.out; rwa [List.take_of_length_le (by rw [HN.out]; exact Nat.le_refl _)] at this)).symm)
      go_wp2
      go_ret
      exact ⟨ret_int' HF.out, rfl⟩
theorem arg_any (g1 : Int) (A1 : Option Addr) (n1 c1 : Nat) (S1 : Option Addr) (m1 d1 : Nat) (j1 : Bool) (B1 : Option Addr) (o1 e1 : Nat) (k1 s1 v1 : Int) (y1 : Bool) (t1 : Int) (L1 M1 : List Nd) (l1 : List Int) (w : World) (h : QA w A1 n1 S1 m1 B1 o1 L1 M1 l1) (x : Int) (hx : argE g1 L1 = x) :
    Calls Try.prog 25 #[.agg #[.int .u8 g1, .slice A1 n1 c1, .slice S1 m1 d1, .bool j1, .slice B1 o1 e1, .int .u8 k1, .int .i64 s1, .int .i64 v1, .bool y1, .int .u8 t1]] w fun e w' => e = .returned (.int .i64 x) ∧ Below w.heap.size w w' := by
  obtain ⟨ht, hn, hL⟩ := h.1
  unfold argE at hx
  rw [hn] at hx
  by_cases hg : g1 = 1
  · rw [if_pos hg] at hx
    subst hg
    by_cases h0 : n1 = 0
    · have HB := Lib.hid (fun W => bad_any true W x (by rw [← hx]; simp [h0]))
      subst h0
      clear hx h ht hn hL
      go_enter Try.func25, Try.ntmps25
      go_wp2_with (go_at_call 23; refine (HB.out _).mono ?_; rintro e w3 ⟨rfl, rfl⟩)
      go_ret
      exact ⟨rfl, (Below.refl _ _).alloc (Nat.le_refl _) _⟩
    · have HB := Lib.hid (fun W => bad_any false W x (by rw [← hx]; simp [h0]))
      have q1 : ((n1 : Int) == 0) = false := by simpa using h0
      have q2 : (n1 == 0) = false := by simpa using h0
      clear hx h ht hn hL h0
      go_enter Try.func25, Try.ntmps25
      go_wp2_with (go_at_call 23; refine (HB.out _).mono ?_; rintro e w3 ⟨rfl, rfl⟩)
      go_ret
      exact ⟨rfl, (Below.refl _ _).alloc (Nat.le_refl _) _⟩
  · rw [if_neg hg] at hx
    have HC := Lib.hid (fun W (hb : Below w.heap.size w W) => show Calls Try.prog 16 #[.slice A1 n1 c1] W fun e w' => e = .returned (.int .i64 x) ∧ Below W.heap.size W w' by
      have := check_any A1 c1 L1 W (by rw [hn]; exact hL) (ht.below hb) x hx
      rwa [hn] at this)
    have q1 : (g1 == 1) = false := by simpa using hg
    clear hx h ht hn hL hg
    go_enter Try.func25, Try.ntmps25
    go_wp2_with (go_at_call 16; refine (HC.out _ ((Below.refl _ _).alloc (Nat.le_refl _) _)).mono ?_; rintro e w3 ⟨rfl, hb⟩)
    go_ret
    exact ⟨rfl, ((Below.refl _ _).alloc (Nat.le_refl _) _).trans (hb.mono (by simp))⟩
theorem cond_any (g1 : Int) (A1 : Option Addr) (n1 c1 : Nat) (S1 : Option Addr) (m1 d1 : Nat) (j1 : Bool) (B1 : Option Addr) (o1 e1 : Nat) (k1 s1 v1 : Int) (y1 : Bool) (t1 : Int) (L1 M1 : List Nd) (l1 : List Int) (w : World) (h : QA w A1 n1 S1 m1 B1 o1 L1 M1 l1) (x : Int) (hx : whrE M1 = x) :
    Calls Try.prog 26 #[.agg #[.int .u8 g1, .slice A1 n1 c1, .slice S1 m1 d1, .bool j1, .slice B1 o1 e1, .int .u8 k1, .int .i64 s1, .int .i64 v1, .bool y1, .int .u8 t1]] w fun e w' => e = .returned (.int .i64 x) ∧ Below w.heap.size w w' := by
  obtain ⟨ht, hn, hL⟩ := h.2.2
  unfold whrE at hx
  rw [hn] at hx
  by_cases h0 : o1 = 0
  · rw [if_pos h0] at hx
    subst h0 hx
    clear h ht hn hL
    go_enter Try.func26, Try.ntmps26
    go_wp2
    go_ret
    exact ⟨rfl, (Below.refl _ _).alloc (Nat.le_refl _) _⟩
  · rw [if_neg h0] at hx
    have HC := Lib.hid (fun W (hb : Below w.heap.size w W) => show Calls Try.prog 16 #[.slice B1 o1 e1] W fun e w' => e = .returned (.int .i64 x) ∧ Below W.heap.size W w' by
      have := check_any B1 e1 M1 W (by rw [hn]; exact hL) (ht.below hb) x hx
      rwa [hn] at this)
    have q1 : ((o1 : Int) == 0) = false := by simpa using h0
    have q2 : (o1 == 0) = false := by simpa using h0
    clear hx h ht hn hL h0
    go_enter Try.func26, Try.ntmps26
    go_wp2_with (go_at_call 16; refine (HC.out _ ((Below.refl _ _).alloc (Nat.le_refl _) _)).mono ?_; rintro e w3 ⟨rfl, hb⟩)
    go_ret
    exact ⟨rfl, ((Below.refl _ _).alloc (Nat.le_refl _) _).trans (hb.mono (by simp))⟩
end Go.Proofs.Ytaijhkfbfkdepaa.Q8
