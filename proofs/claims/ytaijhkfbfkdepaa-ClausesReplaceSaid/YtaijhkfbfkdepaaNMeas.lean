
/- The contract of measure: the extents of an expression, or Check's error. -/
import Derived.Test.YtaijhkfbfkdepaaNNext
namespace Go.Proofs.Ytaijhkfbfkdepaa.N4
open Go.ChangeShapes Go.WideShapes Go.ChangeAt Go.RowKit
set_option linter.unusedVariables false
set_option maxRecDepth 100000

theorem ex_info : (Try.prog.info? 68).map (fun i => (i.zero, i.size, i.bytes)) = some (some (.agg #[.int .i64 0, .int .i64 0]), 2, 16) := by kernel_rfl
theorem Lies.alloc {w : World} {A : Option Addr} {cs : List Value} (h : Lies w A cs) (o : Obj) : Lies (w.alloc o) A cs := h.below ((Below.refl _ _).alloc (Nat.le_refl _) _)
theorem cells_new2 (w : World) (B : Nat) (hB : w.heap.size = B) (x y : Value) (t : TypeId) : ∀ j u, [x, y][j]? = some u → (w.alloc (.cells #[x, y] t)).cell? ((⟨B, 0, none⟩ : Addr).add j) = some u := by
  subst hB
  intro j u hj
  have h := World.news_of_block (w := w.alloc (.cells #[x, y] t)) (B := w.heap.size) (cs := #[x, y]) (t := t) (fr := (0, 0)) (heap_alloc_new w _) j u
  exact h hj

def MPost (L : List Nd) (w : World) (e : Ending) (w' : World) : Prop :=
  Below w.heap.size w w' ∧ ((checkF L ≠ 0 ∧ e = .returned (.tuple #[.slice none 0 0, .int .i64 (checkF L)])) ∨ ∃ E A' c', Good4 L E ∧ e = .returned (.tuple #[.slice A' E.length c', .int .i64 0]) ∧ Lies w' A' (exCells E))

theorem checkF_many {L : List Nd} (h : 60 < L.length) : checkF L = 4 := by unfold checkF; rw [if_pos h]
theorem meas_many (A : Option Addr) (c : Nat) (L : List Nd) (w : World) (hL : L.length ≤ maxLen) (h : 60 < L.length) :
    Calls Try.prog 32 #[.slice A L.length c] w (MPost L w) := by
  have HV := Lib.hid (checkF_many h)
  obtain ⟨n, hn⟩ : ∃ n, L.length = n := ⟨_, rfl⟩
  rw [hn] at hL h ⊢
  unfold maxLen at hL
  clear hn
  go_enter Try.func32, Try.ntmps32
  go_wp2
  go_ret2
  exact ⟨Below.refl _ _, .inl ⟨by rw [HV.out]; decide, by rw [HV.out]; rfl⟩⟩

def MRel (L : List Nd) (w : World) (l : Value) (k : Nat) (wr : World) : Prop :=
  ∃ E, extF (L.take k) = some E ∧ wr.ownsRow w.heap.size 68 2 l k (exCells E) ∧ Below w.heap.size w wr

set_option maxHeartbeats 4000000 in
theorem meas_go (A : Option Addr) (c : Nat) (L : List Nd) (w : World) (hL : L.length ≤ 60) (ht : Lies w A (ndCells L)) :
    Calls Try.prog 32 #[.slice A L.length c] w (MPost L w) := by
  have HT := Lib.hid ht
  obtain ⟨n, hn⟩ : ∃ n, L.length = n := ⟨_, rfl⟩
  rw [hn] at hL ⊢
  have HN := Lib.hid hn
  obtain ⟨i0, hi, hz0, hz1, hz2⟩ := info_parts ex_info
  clear ht hn
  go_enter Try.func32, Try.ntmps32
  go_wp2
  go_loopw [4, 15] (fun l i wr => ∃ k : Nat, i = .int .i64 k ∧ k ≤ n ∧ MRel L w l k wr) (fun _ i _ => n - (intOf i).toNat)
  case atStart =>
    refine ⟨0, rfl, Nat.zero_le _, [], rfl, ?_, (Below.refl _ _).alloc (Nat.le_refl _) _⟩
    exact World.ownsRow_lit (base := w.heap.size) (e := 68) (size := 2) w #[] 0 (Nat.le_refl _) (Nat.zero_le _) rfl
  case round =>
    obtain ⟨k, rfl, hk, E, hE, hown, hb⟩ := hrel
    obtain ⟨A', c', rfl, hkc, hkm⟩ := own_form hown
    have hEl := extF_length hE
    rw [List.length_take, HN.out, Nat.min_eq_left hk] at hEl
    have HEL := Lib.hid hEl
    have HO := Lib.hid hown
    have HB := Lib.hid hb
    have HE := Lib.hid hE
    clear hown hb hE hEl
    by_cases hlt : k < n
    · obtain ⟨x, hx⟩ : ∃ x, L[k]? = some x := ⟨_, List.getElem?_eq_getElem (by rw [HN.out]; exact hlt)⟩
      have HX := Lib.hid hx
      obtain ⟨ad, rfl, hadl, c0, c1, c2, c3, c4⟩ := (HT.out.below HB.out).nd hx
      have HLE := Lib.hid (show Lies wr A' (exCells E) from Lies.of_own HO.out (by intro h0; rw [List.eq_nil_of_length_eq_zero (HEL.out.trans h0)]; rfl))
      have hab : (ad.add (k * 5)).block < wr.heap.size := by rw [add_block]; exact hadl
      clear hx hadl
      cases hy : nextF E x with
      | none =>
        have HC := Lib.hid (fun w' (hl' : Lies w' A' (exCells E)) => show Calls Try.prog 41 #[.slice A' k c', ndV x] w' (NextNo w') by rw [← HEL.out]; exact next_no A' E c' x w' hl' (extF_sz HE.out) (by rw [HEL.out]; omega) hy)
        have HV := Lib.hid (checkF_bad (L := L) (by rw [HN.out]; exact hL) (extF_none HX.out HE.out hy))
        clear hy
        go_wp2_with (go_at_call 41; refine (HC.out _ (HLE.out.alloc _)).mono ?_; rintro e w2 ⟨s, d, rfl, hb2⟩)
        go_ret2
        refine ⟨?_, .inl ⟨by rw [HV.out]; decide, by rw [HV.out]; rfl⟩⟩
        exact (HB.out.alloc HB.out.size _).trans (hb2.mono (by have := HB.out.size; simp; omega)) |>.alloc (by have := HB.out.size; have := hb2.size; simp at this; omega) _
      | some y =>
        have HC := Lib.hid (fun w' (hl' : Lies w' A' (exCells E)) => by have := next_yes A' E c' x y w' hl' (extF_sz HE.out) (by rw [HEL.out]; omega) hy; rw [HEL.out] at this; exact this)
        have HS := Lib.hid (extF_step HX.out HE.out hy)
        clear hy
        go_wp2_with (first
          | (go_at_call 41; refine (HC.out _ (HLE.out.alloc _)).mono ?_; rintro e w2 ⟨rfl, hb2⟩; have HO2 := Lib.hid (own_below (HO.out.alloc _) hb2); have HB2 := Lib.hid ((HB.out.alloc HB.out.size _).trans (hb2.mono (by have := HB.out.size; simp; omega))); clear hb2)
          | (at_builtin; refine wpList_append_lies _ rfl (.tmp 27) (.tmp 29) 56 rfl w.heap.size 68 i0 _ 2 16 Try.underlying56 hi hz0 hz1 hz2 rfl (by decide) (.slice A' k c') k (exCells E) rfl ((HO2.out.alloc _).alloc _) ⟨w2.heap.size + 1, 0, none⟩ 1 1 [.int .i64 y.s, .int .i64 y.d] rfl rfl ?c1 ?c2 (by decide) ?c3 ?c4 ?c5 (w2.heap.size + 2) ?c6 ?_))
        case c1 => exact cells_new2 (w2.alloc _) _ (by simp) _ _ _
        case c2 => intro u hu; simp only [List.mem_cons, List.not_mem_nil, or_false] at hu; rcases hu with rfl | rfl <;> rfl
        case c3 => unfold maxLen; omega
        case c4 => omega
        case c5 => have := HB2.out.size; simp; omega
        case c6 => simp
        intro g cap w5 hown5 hgrow5 hat5 hlt5
        have HB5 := Lib.hid (((HB2.out.alloc HB2.out.size _).alloc (by have := HB2.out.size; simp; omega) _).grown hgrow5 (by have := HB2.out.size; simp; omega) (fun j hj => (HO2.out.lt j hj).1))
        have HO5 := Lib.hid hown5
        clear hown5 hgrow5 hat5 hlt5
        go_wp2
        go_roundw
        case rel =>
          refine ⟨k + 1, rfl, by omega, E ++ [y], HS.out, ?_, HB5.out⟩
          rw [exCells_snoc]; exact HO5.out
        case measure => simp [intOf]; omega
    · obtain rfl : k = n := by omega
      have HE2 := Lib.hid (show extF L = some E by have := HE.out; rwa [List.take_of_length_le (by rw [HN.out]; exact Nat.le_refl _)] at this)
      by_cases h0 : k = 0
      · have HV := Lib.hid (show checkF L = 8 by rw [List.eq_nil_of_length_eq_zero (HN.out.trans h0)]; rfl)
        have e0 : ((k : Int) == 0) = true := by simp; omega
        clear h0
        go_wp2
        go_ret2
        exact ⟨HB.out, .inl ⟨by rw [HV.out]; decide, by rw [HV.out]; rfl⟩⟩
      · obtain ⟨m, rfl⟩ : ∃ m, k = m + 1 := ⟨k - 1, by omega⟩
        obtain ⟨y, hy⟩ : ∃ y, E[m]? = some y := ⟨_, List.getElem?_eq_getElem (by rw [HEL.out]; omega)⟩
        have HLE := Lib.hid (show Lies wr A' (exCells E) from Lies.of_own HO.out (by intro h; omega))
        obtain ⟨ad, rfl, hadl, d0, d1⟩ := HLE.out.ex hy
        have HV := Lib.hid (show checkF L = if y.s < m + 1 then 8 else if 20 < y.d then 34 else 0 by
          unfold checkF; rw [HN.out, if_neg (by omega), HE2.out]; simp only [checkE]; rw [Nat.add_sub_cancel, hy])
        have HS := Lib.hid (extF_sz HE2.out _ _ hy)
        have HY := Lib.hid hy
        have e0 : (((m + 1 : Nat) : Int) == 0) = false := by simp; omega
        have e0' : ((m : Int) + 1 == 0) = false := by simp; omega
        obtain ⟨s, hs⟩ : ∃ s, y.s = s := ⟨_, rfl⟩
        obtain ⟨d, hd⟩ : ∃ d, y.d = d := ⟨_, rfl⟩
        rw [hs] at HV d0 HS
        rw [hd] at HV d1 HS
        have HS1 := Lib.hid hs
        have HD1 := Lib.hid hd
        clear hy hadl hs hd h0
        by_cases h1 : s < m + 1
        · have HV2 := Lib.hid (HV.out.trans (if_pos h1))
          go_wp2
          go_ret2
          exact ⟨HB.out, .inl ⟨by rw [HV2.out]; decide, by rw [HV2.out]; rfl⟩⟩
        · by_cases h2 : 20 < d
          · have HV2 := Lib.hid (HV.out.trans ((if_neg h1).trans (if_pos h2)))
            go_wp2
            go_ret2
            exact ⟨HB.out, .inl ⟨by rw [HV2.out]; decide, by rw [HV2.out]; rfl⟩⟩
          · go_wp2
            go_ret2
            refine ⟨HB.out, .inr ⟨E, some ad, c', ⟨by intro h; have := HN.out; rw [h] at this; simp at this, by rw [HN.out]; exact hL, HE2.out, y, by rw [HN.out]; exact HY.out, by rw [HS1.out, HN.out]; have := HS.out; omega, by rw [HD1.out]; omega⟩, by rw [HEL.out]; rfl, HLE.out⟩⟩

theorem meas_any (A : Option Addr) (c : Nat) (L : List Nd) (w : World) (hL : L.length ≤ maxLen) (ht : Lies w A (ndCells L)) :
    Calls Try.prog 32 #[.slice A L.length c] w (MPost L w) := by
  rcases Nat.lt_or_ge 60 L.length with h | h
  · exact meas_many A c L w hL h
  · exact meas_go A c L w h ht
end Go.Proofs.Ytaijhkfbfkdepaa.N4
