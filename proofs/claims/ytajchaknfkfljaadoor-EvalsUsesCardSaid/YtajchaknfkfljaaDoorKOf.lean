
/- Contracts of Of, asked, Number and Truth. -/
import Derived.Test.YtajchaknfkfljaaDoorKMis
namespace Go.Proofs.YtajchaknfkfljaaDoor.K6
open Go.ChangeShapes Go.WideShapes Go.ChangeAt Go.RowKit N4
set_option linter.unusedVariables false
set_option maxRecDepth 100000

theorem of_bad_w (A : Option Addr) (c n : Nat) (L : List Nd) (w : World) (hn : L.length = n) (hL : n ≤ maxLen) (ht : Lies w A (ndCells L)) (v : Int) (hv : checkF L = v) (h0 : v ≠ 0) :
    Calls Tryd.prog 45 #[.slice A n c] w fun e w' => e = .returned (.tuple #[.bool false, .int .i64 0, .int .i64 v]) ∧ Below w.heap.size w w' := by
  subst hn
  have HC := Lib.hid (check_any A c L w hL ht v hv)
  have hne := errno_ne h0
  clear ht hv h0
  go_enter Tryd.func45, Tryd.ntmps45
  go_wp2_with (go_at_call 44; refine HC.out.mono ?_; rintro e w1 ⟨rfl, hb⟩)
  refine bodyPost_ret (v := .tuple #[.bool false, .int .i64 0, .int .i64 v]) (by simp [results, Tryd.results45, go_sem]) rfl ?_
  exact ⟨rfl, hb⟩
theorem of_wrong_w (A : Option Addr) (c n : Nat) (L : List Nd) (k : Nat) (w : World) (hs : SigT w) (hn : L.length = n) (ht : Lies w A (ndCells L)) (hv : checkF L = 0) (hk : wrongF L = k) (hkn : k < n) :
    Calls Tryd.prog 45 #[.slice A n c] w fun e w' => e = .returned (.tuple #[.bool false, .int .i64 k, .int .i64 42]) ∧ Below w.heap.size w w' := by
  obtain ⟨E, hg⟩ := checkF_zero hv
  have h60 : n ≤ 60 := by rw [← hn]; exact hg.2.1
  subst hn
  have HC := Lib.hid (check_any A c L w (by unfold maxLen; omega) ht 0 hv)
  have HM := Lib.hid (fun W (hb : Below w.heap.size w W) => misfit_any A c L.length L E W (hs.stays hb) (ht.below hb) rfl hg)
  rw [hk] at HM
  have j1 : (k : Int) < (L.length : Int) := by omega
  clear ht hv hs hg hk
  go_enter Tryd.func45, Tryd.ntmps45
  go_wp2_with (first
    | (go_at_call 44; refine HC.out.mono ?_; rintro e w1 ⟨rfl, hb⟩)
    | (go_at_call 54; refine (HM.out _ hb).mono ?_; rintro e w2 ⟨rfl, hb2⟩))
  refine bodyPost_ret (v := .tuple #[.bool false, .int .i64 k, .int .i64 42]) (by simp [results, Tryd.results45, go_sem]) rfl ?_
  exact ⟨rfl, hb.trans (hb2.mono hb.size)⟩
theorem of_right_w (A : Option Addr) (c m : Nat) (L : List Nd) (x : Nd) (v : Bool) (w : World) (hs : SigT w) (hn : L.length = m + 1) (ht : Lies w A (ndCells L)) (hv : checkF L = 0) (hk : wrongF L = m + 1) (hx : L[m]? = some x) (hgv : gvK x.k = v) :
    Calls Tryd.prog 45 #[.slice A (m + 1) c] w fun e w' => e = .returned (.tuple #[.bool v, .int .i64 m, .int .i64 0]) ∧ Below w.heap.size w w' := by
  obtain ⟨E, hg⟩ := checkF_zero hv
  have h60 : m + 1 ≤ 60 := by rw [← hn]; exact hg.2.1
  have HC := Lib.hid (show Calls Tryd.prog 44 #[.slice A (m + 1) c] w fun e w' => e = .returned (.int .i64 0) ∧ Below w.heap.size w w' by have := check_any A c L w (by unfold maxLen; omega) ht 0 hv; rwa [hn] at this)
  have HM := Lib.hid (fun W (hb : Below w.heap.size w W) => misfit_any A c (m + 1) L E W (hs.stays hb) (ht.below hb) hn hg)
  rw [hk] at HM
  obtain ⟨q1, q2, _⟩ := node_parts hg.ext hx
  have HV := Lib.hid (fun W (hb : Below w.heap.size w W) => gives_any x W (hs.stays hb) q1 q2 v hgv)
  obtain ⟨ad, rfl, hadl, d0⟩ := ht.nd hx
  have HD := Lib.hid (fun W (hb : Below w.heap.size w W) => (ht.below hb).nd hx)
  have hab : (ad.add (m * 5)).block < w.heap.size := by rw [add_block]; exact hadl
  have e1 : ((m + 1 : Nat) : Int) - 1 = m := by omega
  have j1 : ¬ (((m + 1 : Nat) : Int) < ((m + 1 : Nat) : Int)) := by omega
  clear ht hv hs hg hk d0 hx q1 q2 hgv hadl
  go_enter Tryd.func45, Tryd.ntmps45
  go_wp2_with (first
    | (go_at_call 44; refine HC.out.mono ?_; rintro e w1 ⟨rfl, hb⟩)
    | (go_at_call 54; refine (HM.out _ hb).mono ?_; rintro e w2 ⟨rfl, hb2⟩; have hb3 := hb.trans (hb2.mono hb.size); clear hb hb2; obtain ⟨ad', hadd, hadl, d0, d1, d2, d3, d4⟩ := HD.out _ hb3; injection hadd with hadd; subst hadd; have hsz := hb3.size)
    | (go_at_call 55; refine (HV.out _ hb3).mono ?_; rintro e w4 ⟨rfl, hb4⟩))
  refine bodyPost_ret (v := .tuple #[.bool v, .int .i64 m, .int .i64 0]) (by simp [results, Tryd.results45, go_sem]) rfl ?_
  exact ⟨rfl, hb3.trans (hb4.mono hb3.size)⟩
theorem of_any (A : Option Addr) (c n : Nat) (L : List Nd) (w : World) (hs : SigT w) (hn : L.length = n) (hL : n ≤ maxLen) (ht : Lies w A (ndCells L)) (t : Bool) (a v : Int) (h : ofF L = (t, a, v)) :
    Calls Tryd.prog 45 #[.slice A n c] w fun e w' => e = .returned (.tuple #[.bool t, .int .i64 a, .int .i64 v]) ∧ Below w.heap.size w w' := by
  rcases of_cases L with ⟨v', h1, h2, h3⟩ | ⟨k, x, h1, h2, h3, _, _, h4⟩ | ⟨m, x, h1, h2, h3, h4, h5⟩
  · obtain ⟨rfl, rfl, rfl⟩ : false = t ∧ (0 : Int) = a ∧ v' = v := by have := h3.symm.trans h; simpa using this
    exact of_bad_w A c n L w hn hL ht v' h1 h2
  · obtain ⟨rfl, rfl, rfl⟩ : false = t ∧ (k : Int) = a ∧ (42 : Int) = v := by have := h4.symm.trans h; simpa using this
    exact of_wrong_w A c n L k w hs hn ht h1 h2 (by omega)
  · obtain ⟨rfl, rfl, rfl⟩ : gvK x.k = t ∧ (m : Int) = a ∧ (0 : Int) = v := by have := h5.symm.trans h; simpa using this
    rw [← hn, h3]
    exact of_right_w A c m L x _ w hs h3 ht h1 h2 h4 rfl
/-- What asked answers. -/
def wantF (L : List Nd) (t : Bool) : Int × Int := ((ofF L).2.1, if (ofF L).2.2 = 0 ∧ (ofF L).1 ≠ t then 42 else (ofF L).2.2)
end Go.Proofs.YtajchaknfkfljaaDoor.K6
