
/- Contracts of the reference's Of, All, Want, and of the law's same. -/
import Derived.Test.YtajchaknfkfljaaDoorKRef
namespace Go.Proofs.YtajchaknfkfljaaDoor.K6
open Go.ChangeShapes Go.WideShapes Go.ChangeAt Go.RowKit N4
set_option linter.unusedVariables false
set_option linter.unusedSimpArgs false
set_option maxRecDepth 100000

theorem rof_bad_w (A : Option Addr) (c n : Nat) (L : List Nd) (w : World) (hn : L.length = n) (hL : n ≤ maxLen) (ht : Lies w A (ndCells L)) (v : Int) (hv : checkF L = v) (h0 : v ≠ 0) :
    Calls Tryd.prog 23 #[.slice A n c] w fun e w' => e = .returned (.tuple #[.bool false, .int .i64 0, .int .i64 v]) ∧ Below w.heap.size w w' := by
  have HC := Lib.hid (rcheck_any A c n L w hn hL ht v hv)
  have HC2 := Lib.hid (fun W (hb : Below w.heap.size w W) => rcheck_any A c n L W hn hL (ht.below hb) v hv)
  have hne := (bne_iff_ne (a := v) (b := 0)).2 h0
  clear hn hL ht hv h0
  go_enter Tryd.func23, Tryd.ntmps23
  go_wp2_with (first
    | (go_at_call 35; refine HC.out.mono ?_; rintro e w1 ⟨rfl, hb⟩; clear HC)
    | (go_at_call 35; refine (HC2.out _ hb).mono ?_; rintro e w2 ⟨rfl, hb2⟩))
  refine bodyPost_ret (v := .tuple #[.bool false, .int .i64 0, .int .i64 v]) (by simp [results, Tryd.results23, go_sem]) rfl ?_
  exact ⟨rfl, hb.trans (hb2.mono hb.size)⟩
theorem rof_wrong_w (A : Option Addr) (c n : Nat) (L : List Nd) (k : Nat) (w : World) (hn : L.length = n) (ht : Lies w A (ndCells L)) (hv : checkF L = 0) (hk : wrongF L = k) (hkn : k < n) :
    Calls Tryd.prog 23 #[.slice A n c] w fun e w' => e = .returned (.tuple #[.bool false, .int .i64 k, .int .i64 42]) ∧ Below w.heap.size w w' := by
  obtain ⟨E, hg⟩ := checkF_zero hv
  have h60 : n ≤ 60 := by rw [← hn]; exact hg.2.1
  have HC := Lib.hid (rcheck_any A c n L w hn (by unfold maxLen; omega) ht 0 hv)
  have HW := Lib.hid (fun W (hb : Below w.heap.size w W) => rwrong_any A c n L E W (ht.below hb) hn h60 hg.ext k hk)
  have j1 : (k : Int) < (n : Int) := by omega
  clear hn ht hv hk hkn hg
  go_enter Tryd.func23, Tryd.ntmps23
  go_wp2_with (first
    | (go_at_call 35; refine HC.out.mono ?_; rintro e w1 ⟨rfl, hb⟩)
    | (go_at_call 36; refine (HW.out _ hb).mono ?_; rintro e w2 ⟨rfl, hb2⟩))
  refine bodyPost_ret (v := .tuple #[.bool false, .int .i64 k, .int .i64 42]) (by simp [results, Tryd.results23, go_sem]) rfl ?_
  exact ⟨rfl, hb.trans (hb2.mono hb.size)⟩
theorem rof_right_w (A : Option Addr) (c m : Nat) (L : List Nd) (x : Nd) (v : Bool) (w : World) (hn : L.length = m + 1) (ht : Lies w A (ndCells L)) (hv : checkF L = 0) (hk : wrongF L = m + 1) (hx : L[m]? = some x) (hgv : gvK x.k = v) :
    Calls Tryd.prog 23 #[.slice A (m + 1) c] w fun e w' => e = .returned (.tuple #[.bool v, .int .i64 m, .int .i64 0]) ∧ Below w.heap.size w w' := by
  obtain ⟨E, hg⟩ := checkF_zero hv
  have h60 : m + 1 ≤ 60 := by rw [← hn]; exact hg.2.1
  have HC := Lib.hid (rcheck_any A c (m + 1) L w hn (by unfold maxLen; omega) ht 0 hv)
  have HW := Lib.hid (fun W (hb : Below w.heap.size w W) => rwrong_any A c (m + 1) L E W (ht.below hb) hn h60 hg.ext (m + 1) hk)
  have HV := Lib.hid (fun W => rgives_any x.k v hgv W)
  obtain ⟨ad, rfl, hadl, d0⟩ := ht.nd hx
  have HD := Lib.hid (fun W (hb : Below w.heap.size w W) => (ht.below hb).nd hx)
  have hab : (ad.add (m * 5)).block < w.heap.size := by rw [add_block]; exact hadl
  have e1 : ((m + 1 : Nat) : Int) - 1 = m := by omega
  have j1 : ¬ (((m + 1 : Nat) : Int) < ((m + 1 : Nat) : Int)) := by omega
  have j2 : (m : Int) < ((m + 1 : Nat) : Int) := by omega
  clear hn ht hv hk hg d0 hx hgv hadl
  go_enter Tryd.func23, Tryd.ntmps23
  go_wp2_with (first
    | (go_at_call 35; refine HC.out.mono ?_; rintro e w1 ⟨rfl, hb⟩)
    | (go_at_call 36; refine (HW.out _ hb).mono ?_; rintro e w2 ⟨rfl, hb2⟩; have hb3 := hb.trans (hb2.mono hb.size); clear hb hb2; obtain ⟨ad', hadd, hadl, d0, d1, d2, d3, d4⟩ := HD.out _ hb3; injection hadd with hadd; subst hadd; have hsz := hb3.size)
    | (go_at_call 37; refine (HV.out _).mono ?_; rintro e w4 ⟨rfl, rfl⟩))
  refine bodyPost_ret (v := .tuple #[.bool v, .int .i64 m, .int .i64 0]) (by simp [results, Tryd.results23, go_sem]) rfl ?_
  exact ⟨rfl, hb3⟩
theorem rof_any (A : Option Addr) (c n : Nat) (L : List Nd) (w : World) (hn : L.length = n) (hL : n ≤ maxLen) (ht : Lies w A (ndCells L)) (t : Bool) (a v : Int) (h : ofF L = (t, a, v)) :
    Calls Tryd.prog 23 #[.slice A n c] w fun e w' => e = .returned (.tuple #[.bool t, .int .i64 a, .int .i64 v]) ∧ Below w.heap.size w w' := by
  rcases of_cases L with ⟨v', h1, h2, h3⟩ | ⟨k, x, h1, h2, h3, _, _, h4⟩ | ⟨m, x, h1, h2, h3, h4, h5⟩
  · obtain ⟨rfl, rfl, rfl⟩ : false = t ∧ (0 : Int) = a ∧ v' = v := by have := h3.symm.trans h; simpa using this
    exact rof_bad_w A c n L w hn hL ht v' h1 h2
  · obtain ⟨rfl, rfl, rfl⟩ : false = t ∧ (k : Int) = a ∧ (42 : Int) = v := by have := h4.symm.trans h; simpa using this
    exact rof_wrong_w A c n L k w hn ht h1 h2 (by omega)
  · obtain ⟨rfl, rfl, rfl⟩ : gvK x.k = t ∧ (m : Int) = a ∧ (0 : Int) = v := by have := h5.symm.trans h; simpa using this
    rw [← hn, h3]
    exact rof_right_w A c m L x _ w h3 ht h1 h2 h4 rfl
theorem rall_bad (A : Option Addr) (c n : Nat) (L : List Nd) (w : World) (hn : L.length = n) (hL : n ≤ maxLen) (ht : Lies w A (ndCells L)) (t : Bool) (a v : Int) (h : ofF L = (t, a, v)) (h0 : v ≠ 0) :
    Calls Tryd.prog 27 #[.slice A n c] w fun e w' => e = .returned (.tuple #[.slice none 0 0, .int .i64 v]) ∧ Below w.heap.size w w' := by
  have HO := Lib.hid (rof_any A c n L w hn hL ht t a v h)
  have hne := (bne_iff_ne (a := v) (b := 0)).2 h0
  clear hn hL ht h h0
  go_enter Tryd.func27, Tryd.ntmps27
  go_wp2_with (go_at_call 23; refine HO.out.mono ?_; rintro e w1 ⟨rfl, hb⟩)
  go_ret2
  exact ⟨rfl, hb⟩
def RAPost (w : World) (L : List Nd) (n : Nat) (e : Ending) (w' : World) : Prop :=
  ∃ A c, e = .returned (.tuple #[.slice A n c, .int .i64 0]) ∧ Lies w' A (bCells (truF L)) ∧ Below w.heap.size w w'
theorem tru_snoc {L : List Nd} {k : Nat} {x : Nd} (h : L[k]? = some x) : bCells ((truF L).take (k + 1)) = bCells ((truF L).take k) ++ [.bool (gvK x.k)] := by
  obtain ⟨hlt, e⟩ := List.getElem?_eq_some_iff.1 (show (truF L)[k]? = some (gvK x.k) by unfold truF; rw [List.getElem?_map, h]; rfl)
  rw [List.take_succ_eq_append_getElem hlt, e, bCells_snoc]
theorem new_one (w : World) (B : Nat) (hB : w.heap.size = B) (x : Value) (t : TypeId) : ∀ j u, [x][j]? = some u → (w.alloc (.cells #[x] t)).cell? ((⟨B, 0, none⟩ : Addr).add j) = some u := by
  subst hB
  intro j u hj
  exact World.news_of_block (w := w.alloc (.cells #[x] t)) (B := w.heap.size) (cs := #[x]) (t := t) (fr := (0, 0)) (heap_alloc_new w _) j u hj
set_option maxHeartbeats 1000000 in
theorem rall_ok (A : Option Addr) (c n : Nat) (L : List Nd) (w : World) (hn : L.length = n) (h60 : n ≤ 60) (ht : Lies w A (ndCells L)) (t : Bool) (a : Int) (h : ofF L = (t, a, 0)) :
    Calls Tryd.prog 27 #[.slice A n c] w (RAPost w L n) := by
  have HOF := Lib.hid (rof_any A c n L w hn (by unfold maxLen; omega) ht t a 0 h)
  have HT := Lib.hid ht
  have HN := Lib.hid hn
  obtain ⟨i0, hi, hz0, hz1, hz2⟩ := info_parts bool_info
  clear hn ht h
  go_enter Tryd.func27, Tryd.ntmps27
  go_wp2_with (go_at_call 23; refine HOF.out.mono ?_; rintro e w1 ⟨rfl, hb⟩; have HB0 := Lib.hid hb; clear hb HOF)
  go_loopw [7, 8] (fun l iv wr => ∃ k : Nat, iv = .int .i64 k ∧ k ≤ n ∧ wr.ownsRow w1.heap.size 4 1 l k (bCells ((truF L).take k)) ∧ Below w1.heap.size w1 wr) (fun _ iv _ => n - (intOf iv).toNat)
  case atStart => exact ⟨0, rfl, Nat.zero_le _, World.ownsRow_nil _ _ _ _, Below.refl _ _⟩
  case round =>
    obtain ⟨k, rfl, hk, hown, hb⟩ := hrel
    obtain ⟨A', c', rfl, hkc, _⟩ := own_form hown
    have HO := Lib.hid hown
    have HB := Lib.hid hb
    clear hown hb
    by_cases hlt : k < n
    · obtain ⟨x, hx⟩ : ∃ x, L[k]? = some x := ⟨_, List.getElem?_eq_getElem (by rw [HN.out]; exact hlt)⟩
      have HX := Lib.hid (tru_snoc hx)
      obtain ⟨ad, rfl, hadl, c0, c1, c2, c3, c4⟩ := (HT.out.below (HB0.out.trans (HB.out.mono HB0.out.size))).nd hx
      have hab : (ad.add (k * 5)).block < wr.heap.size := by rw [add_block]; exact hadl
      obtain ⟨v, hv⟩ : ∃ v, gvK x.k = v := ⟨_, rfl⟩
      have HV := Lib.hid (fun W => rgives_any x.k v hv W)
      rw [hv] at HX
      clear hx hadl hv
      go_wp2_with (first
        | (go_at_call 37; refine (HV.out _).mono ?_; rintro e w2 ⟨rfl, rfl⟩)
        | (at_builtin; refine wpList_append_lies _ rfl (.tmp 24) (.tmp 31) 59 rfl w1.heap.size 4 i0 _ 1 1 Tryd.underlying59 hi hz0 hz1 hz2 rfl (by decide) _ k (bCells ((truF L).take k)) rfl (HO.out.alloc _) ⟨wr.heap.size, 0, none⟩ 1 1 [.bool v] rfl rfl ?pa1 ?pa2 (by decide) ?pa3 ?pa4 ?pa5 (wr.heap.size + 1) ?pa6 ?_))
      case pa1 => exact new_one wr _ rfl _ _
      case pa2 => intro u hu; simp only [List.mem_cons, List.not_mem_nil, or_false] at hu; rcases hu with rfl; rfl
      case pa3 => unfold maxLen; omega
      case pa4 => omega
      case pa5 => have := HB.out.size; simp; omega
      case pa6 => simp
      intro g cap w5 ho hg _ _
      have HO5 := Lib.hid ho
      have HB5 := Lib.hid (show Below w1.heap.size w1 w5 from (HB.out.alloc HB.out.size _).grown hg (by have := HB.out.size; simp; omega) (fun j hj => (HO.out.lt j hj).1))
      clear ho hg
      go_wp2
      go_roundw
      case rel =>
        refine ⟨k + 1, by go_num, by omega, ?_, HB5.out⟩
        rw [HX.out]
        exact HO5.out
      case measure => simp [intOf]; omega
    · obtain rfl : k = n := by omega
      go_wp2
      go_ret2
      refine ⟨A', c', rfl, ?_, HB0.out.trans (HB.out.mono HB0.out.size)⟩
      have := HO.out
      rw [List.take_of_length_le (by unfold truF; rw [List.length_map, HN.out]; exact Nat.le_refl _)] at this
      exact Lies.of_own this (by intro h0; exact List.eq_nil_of_length_eq_zero (by have := this.1; omega))
end Go.Proofs.YtajchaknfkfljaaDoor.K6
