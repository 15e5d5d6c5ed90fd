/- The contract of Part, and that its list lies in new memory. -/
import Derived.Test.YtakpbpabblgobaaNPart
namespace Go.Proofs.Ytakpbpabblgobaa
open Go.ChangeShapes Go.WideShapes Go.ChangeAt Go.RowKit
set_option linter.unusedVariables false

def EPostF (w : World) (M : List Nd) (n : Nat) (e : Ending) (w' : World) : Prop :=
  ∃ ad, e = .returned (.slice (some ad) n n) ∧ Lies w' (some ad) (ndCells M) ∧ Below w.heap.size w w' ∧ w.heap.size ≤ ad.block
def POkF (w : World) (M : List Nd) (s : Nat) (e : Ending) (w' : World) : Prop :=
  ∃ ad, e = .returned (.tuple #[.slice (some ad) s s, .int .i64 0]) ∧ Lies w' (some ad) (ndCells M) ∧ Below w.heap.size w w' ∧ w.heap.size ≤ ad.block
set_option maxHeartbeats 1000000 in
theorem each_mvF (A : Option Addr) (c n : Nat) (L : List Nd) (d : Int) (g : Nat) (w : World) (hg : w.cell? ⟨g, 0, none⟩ = some (.int .i64 d)) (hgl : g < w.heap.size) (hsm : ∀ x ∈ L, Sm d x) (hn : L.length = n) (hL : n ≤ 1000) (ht : Lies w A (ndCells L)) :
    Calls Try.prog 29 #[.slice A n c, .func (.func 36) #[] #[.pointer (some ⟨g, 0, none⟩)]] w (EPostF w (L.map (shift d)) n) := by
  have HT := Lib.hid ht
  have HG := Lib.hid hg
  have HSM := Lib.hid hsm
  have HN := Lib.hid hn
  obtain ⟨i0, hi, hz0, hz1, hz2⟩ := info_parts nd_info
  clear ht hn hg hsm
  go_enter Try.func29, Try.ntmps29
  go_wp2_with (refine wpList_make_full _ rfl _ _ 24 rfl w.heap.size 23 i0 _ 5 Try.underlying24 hi hz0 hz1 .i64 .i64 _ _ n rfl rfl (by rfl) (by rfl) ?c1 ?c2 ?c3 ?_)
  case c1 => rw [hz2]; omega
  case c2 => unfold maxLen; omega
  case c3 => exact Nat.le_refl _
  intro w1 hown1 hgw
  have HB1 := Lib.hid (show Below w.heap.size w w1 from (Below.refl _ _).grown hgw (Nat.le_refl _) (fun j hj => by cases hj))
  have HO1 := Lib.hid hown1
  clear hown1 hgw
  go_wp2
  go_loopw [13] (fun i wr => ∃ k : Nat, i = .int .i64 k ∧ k ≤ n ∧ ERel w (L.map (shift d)) n k wr) (fun i _ => n - (intOf i).toNat)
  case atStart => exact ⟨0, rfl, Nat.zero_le _, _, HO1.out, by simp [ndCells], HB1.out⟩
  case round =>
    obtain ⟨k, rfl, hk, xs, hown, hxs, hb⟩ := hrel
    have HO := Lib.hid hown
    have HX := Lib.hid hxs
    have HB := Lib.hid hb
    clear hown hxs hb HO1 HB1
    by_cases hlt : k < n
    · obtain ⟨x, hx⟩ : ∃ x, L[k]? = some x := ⟨_, List.getElem?_eq_getElem (by rw [HN.out]; exact hlt)⟩
      have HL := Lib.hid hx
      obtain ⟨ad, rfl, hadl, c0, c1, c2, c3, c4⟩ := (HT.out.below HB.out).nd hx
      have hab : (ad.add (k * 5)).block < wr.heap.size := by rw [add_block]; exact hadl
      clear hx hadl
      have hgl2 : g < wr.heap.size + 1 := by have := HB.out.size; omega
      have HU := Lib.hid (fun w' (h1 : Below w.heap.size w w') (h2 : g < w'.heap.size) => moved_nd x d g w' (HSM.out x (List.mem_of_getElem? HL.out)) (by rw [h1.cell (p := ⟨g, 0, none⟩) hgl]; exact HG.out) h2)
      go_wp2_with (go_at_call 36; refine (HU.out _ (HB.out.alloc HB.out.size _) (by simp; omega)).mono ?_; rintro e w2 ⟨rfl, hb2⟩; have HO2 := Lib.hid (own_below (HO.out.alloc _) hb2); obtain ⟨⟨v0, v1, v2, v3, v4, d0, d1, d2, d3, d4⟩, f0, f1, f2, f3, f4⟩ := own_five HO2.out k hlt; have HB2 := Lib.hid ((HB.out.alloc HB.out.size _).trans (hb2.mono (by have := HB.out.size; simp; omega))); clear hb2)
      go_roundw
      case rel => exact ⟨k + 1, by go_num, by omega, erel_step HO2.out HX.out HB2.out (by rw [List.getElem?_map, HL.out]; rfl) hlt⟩
      case measure => simp [intOf]; omega
    · obtain rfl : k = n := by omega
      have HZ := Lib.hid (show xs = ndCells (L.map (shift d)) by
        have := HX.out
        rwa [List.take_of_length_le (by have := HO.out.1; omega), List.take_of_length_le (by rw [List.length_map, HN.out]; exact Nat.le_refl _)] at this)
      go_wp2
      go_ret
      refine ⟨⟨w.heap.size, 0, none⟩, rfl, ?_, HB.out, Nat.le_refl _⟩
      rw [← HZ.out]
      exact Lies.of_own HO.out (by intro h0; exact List.eq_nil_of_length_eq_zero (by have := HO.out.1; omega))

set_option maxHeartbeats 1000000 in
theorem moved_anyF (A : Option Addr) (c n : Nat) (L : List Nd) (d : Int) (w : World) (hn : L.length = n) (hL : n ≤ 1000) (ht : Lies w A (ndCells L)) (hsm : ∀ x ∈ L, Sm d x) :
    Calls Try.prog 26 #[.slice A n c, .int .i64 d] w (EPostF w (L.map (shift d)) n) := by
  have HE := Lib.hid (each_mvF A c n L d w.heap.size (w.alloc (.cells #[.int .i64 d] 3)) (by go_simp) (by simp) hsm hn hL (ht.below ((Below.refl _ _).alloc (Nat.le_refl _) _)))
  clear hn ht hsm
  go_enter Try.func26, Try.ntmps26
  go_wp2_with (go_at_call 29; refine HE.out.mono ?_; rintro e w2 ⟨ad, rfl, hl, hb2, hf2⟩)
  go_ret
  exact ⟨ad, rfl, hl, ((Below.refl _ _).alloc (Nat.le_refl _) _).trans (hb2.mono (by simp)), Nat.le_trans (by simp) hf2⟩
set_option maxHeartbeats 1000000 in
theorem part_okF (A : Option Addr) (c n : Nat) (L : List Nd) (i s : Nat) (w : World) (ht : Lies w A (ndCells L)) (hv : checkF L = 0) (hn : L.length = n) (hnc : n ≤ c) (hi : i < n) (hs : sizF L i = s) :
    Calls Try.prog 11 #[.slice A n c, .int .i64 i] w (POkF w (cutF L i) s) := by
  obtain ⟨E, hg⟩ := checkF_zero hv
  have hc := (hg.size (by rw [hn]; exact hi))
  rw [hs] at hc
  have h60 := hg.2.1
  rw [hn] at h60
  obtain ⟨hs1, hs2, hs3⟩ := hc
  obtain ⟨x, hx⟩ : ∃ x, L[i]? = some x := ⟨_, List.getElem?_eq_getElem (by rw [hn]; exact hi)⟩
  obtain ⟨ad, rfl, _⟩ := ht.nd hx
  have HS := Lib.hid (size_ok (some ad) c n L i s w ht hv hn hi hs)
  obtain ⟨f, hf⟩ : ∃ f, i + 1 - s = f := ⟨_, rfl⟩
  have HM := Lib.hid (fun c' w' (hb : Below w.heap.size w w') => moved_anyF (some (ad.add (f * 5))) c' (i + 1 - f) ((L.drop f).take s) (-(f : Int)) w' (by rw [List.length_take, List.length_drop, hn]; omega) (by omega) ((ht.below hb).part f s) (fun x hx => sm_of hg _ (by omega) (by omega) x (List.mem_of_mem_drop (List.mem_of_mem_take hx))))
  have HC := Lib.hid (show ((L.drop f).take s).map (shift (-(f : Int))) = cutF L i by unfold cutF; rw [hs, hf])
  have hi1 : i + 1 = f + s := by omega
  have q1 : (i : Int) + 1 - s = f := by omega
  have q2 : (i : Int) + 1 = (f : Int) + s := by omega
  have q3 : (f : Int) ≤ f + s := by omega
  have q4 : (f : Int) + s ≤ c := by omega
  have q5 : ((f : Int) + s).toNat = f + s := by omega
  have q6 : (0 : Int) ≤ f := by omega
  have HQ := Lib.hid (show i + 1 - f = s by omega)
  clear ht hv hn hs hf hx hg hs3 q2 hi1
  go_enter Try.func11, Try.ntmps11
  go_wp2_with (first
    | (go_at_call 10; refine HS.out.mono ?_; rintro e w1 ⟨rfl, hb⟩; have HB := Lib.hid hb; clear hb)
    | (go_at_call 26; refine (HM.out _ _ HB.out).mono ?_; rintro e w2 ⟨ad2, rfl, hl2, hb2, hf2⟩))
  go_ret2
  refine ⟨ad2, by rw [← HQ.out]; rfl, by rw [← HC.out]; exact hl2, HB.out.trans (hb2.mono HB.out.size), Nat.le_trans HB.out.size hf2⟩

end Go.Proofs.Ytakpbpabblgobaa
