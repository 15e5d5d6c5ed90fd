/- Contracts of Of, has and Uses. -/
import Derived.Test.YtajchaknfkfljaaDoorVAll2
namespace Go.Proofs.YtajchaknfkfljaaDoor.V7
open Go.ChangeShapes Go.WideShapes Go.ChangeAt Go.RowKit N4 K6
set_option linter.unusedVariables false
set_option linter.unusedSimpArgs false
set_option maxRecDepth 100000

theorem ofv_bad (A : Option Addr) (c n : Nat) (L : List Nd) (r : Rc) (w : World) (hs : SigT w) (hn : L.length = n) (hL : n ≤ maxLen) (ht : Lies w A (ndCells L)) (v : Int) (h : errF L = v) (h0 : v ≠ 0) :
    Calls Tryd.prog 9 #[.slice A n c, rcV r] w fun e w' => e = .returned (.tuple #[.int .i64 0, .int .i64 v]) ∧ Below w.heap.size w w' := by
  have HO := Lib.hid (fun W (hb : Below w.heap.size w W) => allv_bad A c n L r W (hs.stays hb) hn hL (ht.below hb) v h h0)
  have hne := errno_ne h0
  have hb0 := fun o => (Below.refl w.heap.size w).alloc (Nat.le_refl _) o
  clear hs hn hL ht h h0
  go_enter Tryd.func9, Tryd.ntmps9
  go_wp2_with (go_at_call 10; refine (HO.out _ (hb0 _)).mono ?_; rintro e w1 ⟨rfl, hb⟩)
  go_ret2
  exact ⟨rfl, (hb0 _).trans (hb.mono (by simp))⟩
theorem ofv_ok (A : Option Addr) (c m : Nat) (L : List Nd) (E : List Ex) (r : Rc) (w : World) (hs : SigT w) (hn : L.length = m + 1) (ht : Lies w A (ndCells L)) (hg : Good4 L E) (h : errF L = 0) (v : Int) (hv : lastV r L = v) :
    Calls Tryd.prog 9 #[.slice A (m + 1) c, rcV r] w fun e w' => e = .returned (.tuple #[.int .i64 v, .int .i64 0]) ∧ Below w.heap.size w w' := by
  have HO := Lib.hid (fun W (hb : Below w.heap.size w W) => allv_ok A c (m + 1) L E r W (hs.stays hb) hn (ht.below hb) hg h)
  have h60 : m + 1 ≤ 60 := by rw [← hn]; exact hg.2.1
  have HL := Lib.hid (show (iCells (valsF r L))[m]? = some (.int .i64 v) by rw [← hv]; exact iCells_at (last_at r hn))
  have hb0 := fun o => (Below.refl w.heap.size w).alloc (Nat.le_refl _) o
  have e1 : ((m + 1 : Nat) : Int) - 1 = m := by omega
  have j1 : (0 : Int) ≤ m := by omega
  have j2 : (m : Int) < ((m + 1 : Nat) : Int) := by omega
  clear hs hn ht h hg hv
  go_enter Tryd.func9, Tryd.ntmps9
  go_wp2_with (go_at_call 10; refine (HO.out _ (hb0 _)).mono ?_; rintro e w1 ⟨ad, rfl, hl, hb⟩; obtain ⟨ad', had, hal, d0⟩ := hl.one HL.out; injection had with had; subst had; have hab : (ad.add m).block < w1.heap.size := by rw [add_block]; exact hal)
  go_ret2
  exact ⟨rfl, (hb0 _).trans (hb.mono (by simp))⟩

/-! ### has -/
theorem hasc_any (x : Nd) (q : Int) (g : Nat) (w : World) (hg : w.cell? ⟨g, 0, none⟩ = some (.int .u8 q)) (hgl : g < w.heap.size) (b : Bool) (hb : (x.k == q) = b) :
    Calls Tryd.prog 47 #[ndV x, .pointer (some ⟨g, 0, none⟩)] w fun e w' => e = .returned (.bool b) ∧ Below w.heap.size w w' := by
  obtain ⟨k, n, a, b', p⟩ := x
  simp only at hb
  go_enter Tryd.func47, Tryd.ntmps47
  go_wp2
  go_ret
  exact ⟨rfl, (Below.refl _ _).alloc (Nat.le_refl _) _⟩
def NoneTo (L : List Nd) (q : Int) (k : Nat) : Prop := ∀ (j : Nat) (x : Nd), j < k → L[j]? = some x → (x.k == q) = false
theorem NoneTo.all {L : List Nd} {q : Int} {k : Nat} (h : NoneTo L q k) (hk : L.length = k) : usesF L q = false := by
  unfold usesF
  rw [List.any_eq_false]
  intro x hx
  obtain ⟨j, hj⟩ := List.mem_iff_getElem?.1 hx
  have := h j x (by have := (List.getElem?_eq_some_iff.1 hj).1; omega) hj
  simpa using this
theorem NoneTo.step {L : List Nd} {q : Int} {k : Nat} {x : Nd} (h : NoneTo L q k) (hx : L[k]? = some x) (hf : (x.k == q) = false) : NoneTo L q (k + 1) := by
  intro j y hj hy
  rcases Nat.lt_or_ge j k with h1 | h1
  · exact h j y h1 hy
  · obtain rfl : j = k := by omega
    rw [hx] at hy; injection hy with hy; rw [← hy]; exact hf
def IPost (w : World) (L : List Nd) (q : Int) (e : Ending) (w' : World) : Prop := ∃ v, e = .returned (.int .i64 v) ∧ decide (0 ≤ v) = usesF L q ∧ Below w.heap.size w w'
set_option maxHeartbeats 1000000 in
theorem index_any (A : Option Addr) (c n : Nat) (L : List Nd) (q : Int) (g : Nat) (w : World) (hn : L.length = n) (hL : n ≤ maxLen) (ht : Lies w A (ndCells L)) (hg : w.cell? ⟨g, 0, none⟩ = some (.int .u8 q)) (hgl : g < w.heap.size) :
    Calls Tryd.prog 56 #[.slice A n c, .func (.func 47) #[] #[.pointer (some ⟨g, 0, none⟩)]] w (IPost w L q) := by
  have HT := Lib.hid ht
  have HN := Lib.hid hn
  have HC := Lib.hid (fun x b (hb : (x.k == q) = b) W (h : Below w.heap.size w W) => hasc_any x q g W (by rw [h.cell (p := ⟨g, 0, none⟩) hgl]; exact hg) (Nat.lt_of_lt_of_le hgl h.size) b hb)
  unfold maxLen at hL
  clear hn ht hg hgl
  go_enter Tryd.func56, Tryd.ntmps56
  go_wp2
  go_loopw [8] (fun i wr => ∃ k : Nat, i = .int .i64 k ∧ k ≤ n ∧ Hid (NoneTo L q k) ∧ Hid (Below w.heap.size w wr)) (fun i _ => n - (intOf i).toNat)
  case atStart => exact ⟨0, rfl, Nat.zero_le _, Lib.hid (fun j x h => by omega), Lib.hid (Below.refl _ _)⟩
  case round =>
    obtain ⟨k, rfl, hk, HF, HB⟩ := hrel
    by_cases hlt : k < n
    · obtain ⟨x, hx⟩ : ∃ x, L[k]? = some x := ⟨_, List.getElem?_eq_getElem (by rw [HN.out]; exact hlt)⟩
      have HL := Lib.hid hx
      obtain ⟨ad, rfl, hadl, c0, c1, c2, c3, c4⟩ := (HT.out.below HB.out).nd hx
      have hab : (ad.add (k * 5)).block < wr.heap.size := by rw [add_block]; exact hadl
      clear hx hadl
      cases hb : (x.k == q)
      · have HCC := Lib.hid (HC.out x false hb wr HB.out)
        have HQ := Lib.hid hb
        clear hb
        go_wp2_with (go_at_call 47; refine HCC.out.mono ?_; rintro e w3 ⟨rfl, hb2⟩; have HB2 := Lib.hid (HB.out.trans (hb2.mono HB.out.size)); clear hb2)
        go_roundw
        case rel => exact ⟨k + 1, by go_num, by omega, Lib.hid (HF.out.step HL.out HQ.out), HB2⟩
        case measure => simp [intOf]; omega
      · have HCC := Lib.hid (HC.out x true hb wr HB.out)
        have HQ := Lib.hid hb
        clear hb
        go_wp2_with (go_at_call 47; refine HCC.out.mono ?_; rintro e w3 ⟨rfl, hb2⟩; have HB2 := Lib.hid (HB.out.trans (hb2.mono HB.out.size)); clear hb2)
        go_ret
        exact ⟨(k : Int), rfl, by rw [uses_mem (List.mem_of_getElem? HL.out) (by simpa using HQ.out)]; exact decide_eq_true (by omega), HB2.out⟩
    · obtain rfl : k = n := by omega
      go_wp2
      go_ret
      exact ⟨-1, rfl, by rw [HF.out.all HN.out]; rfl, HB.out⟩
theorem contains_any (A : Option Addr) (c n : Nat) (L : List Nd) (q : Int) (g : Nat) (w : World) (hn : L.length = n) (hL : n ≤ maxLen) (ht : Lies w A (ndCells L)) (hg : w.cell? ⟨g, 0, none⟩ = some (.int .u8 q)) (hgl : g < w.heap.size) (b : Bool) (hb : usesF L q = b) :
    Calls Tryd.prog 46 #[.slice A n c, .func (.func 47) #[] #[.pointer (some ⟨g, 0, none⟩)]] w fun e w' => e = .returned (.bool b) ∧ Below w.heap.size w w' := by
  have HI := Lib.hid (index_any A c n L q g w hn hL ht hg hgl)
  have HB := Lib.hid hb
  clear hn hL ht hg hgl hb
  go_enter Tryd.func46, Tryd.ntmps46
  go_wp2_with (go_at_call 56; refine HI.out.mono ?_; rintro e w1 ⟨v, rfl, hv, hb⟩)
  go_ret
  exact ⟨ret_bool' (by rw [← HB.out, ← hv]), hb⟩
theorem has_any (A : Option Addr) (c n : Nat) (L : List Nd) (q : Int) (w : World) (hn : L.length = n) (hL : n ≤ maxLen) (ht : Lies w A (ndCells L)) (b : Bool) (hb : usesF L q = b) :
    Calls Tryd.prog 31 #[.slice A n c, .int .u8 q] w fun e w' => e = .returned (.bool b) ∧ Below w.heap.size w w' := by
  have hb0 := fun o => (Below.refl w.heap.size w).alloc (Nat.le_refl _) o
  have HI := Lib.hid (fun t => contains_any A c n L q w.heap.size (w.alloc (.cells #[.int .u8 q] t)) hn hL (ht.below (hb0 _)) (by go_simp) (by simp) b hb)
  clear hn hL ht hb
  go_enter Tryd.func31, Tryd.ntmps31
  go_wp2_with (go_at_call 46; refine (HI.out _).mono ?_; rintro e w1 ⟨rfl, hb⟩)
  go_ret
  exact ⟨rfl, (hb0 _).trans (hb.mono (by simp))⟩
theorem uses_bad (A : Option Addr) (c n : Nat) (L : List Nd) (w : World) (hs : SigT w) (hn : L.length = n) (hL : n ≤ maxLen) (ht : Lies w A (ndCells L)) (v : Int) (h : errF L = v) (h0 : v ≠ 0) :
    Calls Tryd.prog 11 #[.slice A n c] w fun e w' => e = .returned (.tuple #[.bool false, .bool false, .bool false, .int .i64 v]) ∧ Below w.heap.size w w' := by
  have HO := Lib.hid (check_ev A c n L w hs hn hL ht v h)
  have hne := errno_ne h0
  clear hs hn hL ht h h0
  go_enter Tryd.func11, Tryd.ntmps11
  go_wp2_with (go_at_call 29; refine HO.out.mono ?_; rintro e w1 ⟨rfl, hb⟩)
  refine bodyPost_ret (v := .tuple #[.bool false, .bool false, .bool false, .int .i64 v]) (by simp [results, Tryd.results11, go_sem]) rfl ?_
  exact ⟨rfl, hb⟩
theorem uses_ok (A : Option Addr) (c n : Nat) (L : List Nd) (w : World) (hs : SigT w) (hn : L.length = n) (hL : n ≤ maxLen) (ht : Lies w A (ndCells L)) (h : errF L = 0) (b2 b3 b4 : Bool) (h2 : usesF L 2 = b2) (h3 : usesF L 3 = b3) (h4 : usesF L 4 = b4) :
    Calls Tryd.prog 11 #[.slice A n c] w fun e w' => e = .returned (.tuple #[.bool b2, .bool b3, .bool b4, .int .i64 0]) ∧ Below w.heap.size w w' := by
  have HO := Lib.hid (check_ev A c n L w hs hn hL ht 0 h)
  have HH := Lib.hid (fun W (hb : Below w.heap.size w W) q b hq => has_any A c n L q W hn hL (ht.below hb) b hq)
  have H2 := Lib.hid (fun W hb => HH.out W hb 2 b2 h2)
  have H3 := Lib.hid (fun W hb => HH.out W hb 3 b3 h3)
  have H4 := Lib.hid (fun W hb => HH.out W hb 4 b4 h4)
  clear hs hn hL ht h h2 h3 h4 HH
  go_enter Tryd.func11, Tryd.ntmps11
  go_wp2_with (first
    | (go_at_call 29; refine HO.out.mono ?_; rintro e w1 ⟨rfl, hb⟩; have B1 := Lib.hid hb; clear hb)
    | (go_at_call 31; (with_reducible refine (H2.out _ B1.out).mono ?_); rintro e w2 ⟨rfl, hb⟩; have B2 := Lib.hid (B1.out.trans (hb.mono B1.out.size)); clear hb)
    | (go_at_call 31; (with_reducible refine (H3.out _ B2.out).mono ?_); rintro e w3 ⟨rfl, hb⟩; have B3 := Lib.hid (B2.out.trans (hb.mono B2.out.size)); clear hb)
    | (go_at_call 31; (with_reducible refine (H4.out _ B3.out).mono ?_); rintro e w4 ⟨rfl, hb⟩; have B4 := Lib.hid (B3.out.trans (hb.mono B3.out.size)); clear hb))
  refine bodyPost_ret (v := .tuple #[.bool b2, .bool b3, .bool b4, .int .i64 0]) (by simp [results, Tryd.results11, go_sem]) rfl ?_
  exact ⟨rfl, B4.out⟩
end Go.Proofs.YtajchaknfkfljaaDoor.V7
