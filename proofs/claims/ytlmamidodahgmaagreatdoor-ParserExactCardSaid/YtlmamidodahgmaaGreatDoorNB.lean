/- Merged: NEach, NPart, NEq, NSame, NRight, NSizes, NOpen. -/
import Derived.Test.YtlmamidodahgmaaGreatDoorNA
import Derived.LoopTactic
import Derived.Deep.RegionHeld3
import Derived.Outline
import Derived.Laws.StructEq
import Derived.Deep.Slices
import Derived.Deep.Fields
import Derived.ChangeSame
import Derived.OpenShut
import Derived.Carry
/- NEach: Contracts of the closures and of each: lists of what a function makes of each node. -/
namespace Go.Proofs.YtlmamidodahgmaaGreatDoor.N4
open Go.ChangeShapes Go.WideShapes Go.ChangeAt Go.RowKit
set_option linter.unusedVariables false
set_option linter.unusedSimpArgs false

/-- A sum stays small. -/
def Sm (d : Int) (x : Nd) : Prop := okK x.k = true ∧ (0 < cnt x.k → -1000 ≤ x.a + d ∧ x.a + d ≤ 1000) ∧ (1 < cnt x.k → -1000 ≤ x.b + d ∧ x.b + d ≤ 1000)

theorem unplaced_any (k n a b p : Int) (w : World) :
    Calls Tryz.prog 47 #[.agg #[.int .u8 k, .int .i64 n, .int .i64 a, .int .i64 b, .int .i64 p]] w fun e w' => e = .returned (.agg #[.int .u8 k, .int .i64 n, .int .i64 a, .int .i64 b, .int .i64 0]) ∧ Below w.heap.size w w' := by
  go_enter Tryz.func47, Tryz.ntmps47
  go_wp2
  refine bodyPost_ret (v := .agg #[.int .u8 k, .int .i64 n, .int .i64 a, .int .i64 b, .int .i64 0]) (by simp [results, Tryz.results47, go_sem]) rfl ⟨rfl, ?_⟩
  repeat (first | exact Below.refl _ _ | refine Below.alloc ?_ (by simp; try omega) _ | refine Below.setCell ?_ (by simp; try omega) _ | refine Below.drew ?_)

theorem mv0 (k n a b p d : Int) (g : Nat) (w : World) (h0 : okK k = true) (e2 : partsN k = 0)  (hg : w.cell? ⟨g, 0, none⟩ = some (.int .i64 d)) (hgl : g < w.heap.size) :
    Calls Tryz.prog 129 #[.agg #[.int .u8 k, .int .i64 n, .int .i64 a, .int .i64 b, .int .i64 p], .pointer (some ⟨g, 0, none⟩)] w fun e w' => e = .returned (.agg #[.int .u8 k, .int .i64 n, .int .i64 (a), .int .i64 (b), .int .i64 p]) ∧ Below w.heap.size w w' := by
  have e3 : partsE k = 0 := by simp [partsE, h0]
  have HP := Lib.hid (fun w => show Calls Tryz.prog 100 #[.int .u8 k] w fun e w' => e = .returned (.tuple #[.int .i64 0, .int .i64 0]) ∧ w = w' by have := parts_any k w; rwa [e2, e3] at this)
  clear e2 e3 h0
  go_enter Tryz.func129, Tryz.ntmps129
  go_wp2_with (go_at_call 100; refine (HP.out _).mono ?_; rintro e w' ⟨rfl, rfl⟩)
  refine bodyPost_ret (v := .agg #[.int .u8 k, .int .i64 n, .int .i64 (a), .int .i64 (b), .int .i64 p]) (by simp [results, Tryz.results129, go_sem]) rfl ⟨rfl, ?_⟩
  repeat (first | exact Below.refl _ _ | refine Below.alloc ?_ (by simp; try omega) _ | refine Below.setCell ?_ (by simp; try omega) _ | refine Below.drew ?_)
theorem mv1 (k n a b p d : Int) (g : Nat) (w : World) (h0 : okK k = true) (e2 : partsN k = 1) (h1 : -1000 ≤ a + d) (h2 : a + d ≤ 1000) (hg : w.cell? ⟨g, 0, none⟩ = some (.int .i64 d)) (hgl : g < w.heap.size) :
    Calls Tryz.prog 129 #[.agg #[.int .u8 k, .int .i64 n, .int .i64 a, .int .i64 b, .int .i64 p], .pointer (some ⟨g, 0, none⟩)] w fun e w' => e = .returned (.agg #[.int .u8 k, .int .i64 n, .int .i64 (a + d), .int .i64 (b), .int .i64 p]) ∧ Below w.heap.size w w' := by
  have e3 : partsE k = 0 := by simp [partsE, h0]
  have HP := Lib.hid (fun w => show Calls Tryz.prog 100 #[.int .u8 k] w fun e w' => e = .returned (.tuple #[.int .i64 1, .int .i64 0]) ∧ w = w' by have := parts_any k w; rwa [e2, e3] at this)
  clear e2 e3 h0
  go_enter Tryz.func129, Tryz.ntmps129
  go_wp2_with (go_at_call 100; refine (HP.out _).mono ?_; rintro e w' ⟨rfl, rfl⟩)
  refine bodyPost_ret (v := .agg #[.int .u8 k, .int .i64 n, .int .i64 (a + d), .int .i64 (b), .int .i64 p]) (by simp [results, Tryz.results129, go_sem]) rfl ⟨rfl, ?_⟩
  repeat (first | exact Below.refl _ _ | refine Below.alloc ?_ (by simp; try omega) _ | refine Below.setCell ?_ (by simp; try omega) _ | refine Below.drew ?_)
theorem mv2 (k n a b p d : Int) (g : Nat) (w : World) (h0 : okK k = true) (e2 : partsN k = 2) (h1 : -1000 ≤ a + d) (h2 : a + d ≤ 1000) (h3 : -1000 ≤ b + d) (h4 : b + d ≤ 1000) (hg : w.cell? ⟨g, 0, none⟩ = some (.int .i64 d)) (hgl : g < w.heap.size) :
    Calls Tryz.prog 129 #[.agg #[.int .u8 k, .int .i64 n, .int .i64 a, .int .i64 b, .int .i64 p], .pointer (some ⟨g, 0, none⟩)] w fun e w' => e = .returned (.agg #[.int .u8 k, .int .i64 n, .int .i64 (a + d), .int .i64 (b + d), .int .i64 p]) ∧ Below w.heap.size w w' := by
  have e3 : partsE k = 0 := by simp [partsE, h0]
  have HP := Lib.hid (fun w => show Calls Tryz.prog 100 #[.int .u8 k] w fun e w' => e = .returned (.tuple #[.int .i64 2, .int .i64 0]) ∧ w = w' by have := parts_any k w; rwa [e2, e3] at this)
  clear e2 e3 h0
  go_enter Tryz.func129, Tryz.ntmps129
  go_wp2_with (go_at_call 100; refine (HP.out _).mono ?_; rintro e w' ⟨rfl, rfl⟩)
  refine bodyPost_ret (v := .agg #[.int .u8 k, .int .i64 n, .int .i64 (a + d), .int .i64 (b + d), .int .i64 p]) (by simp [results, Tryz.results129, go_sem]) rfl ⟨rfl, ?_⟩
  repeat (first | exact Below.refl _ _ | refine Below.alloc ?_ (by simp; try omega) _ | refine Below.setCell ?_ (by simp; try omega) _ | refine Below.drew ?_)

theorem nd_info : (Tryz.prog.info? 58).map (fun i => (i.zero, i.size, i.bytes)) = some (some (.agg #[.int .u8 0, .int .i64 0, .int .i64 0, .int .i64 0, .int .i64 0]), 5, 40) := by kernel_rfl
theorem unplaced_nd (x : Nd) (w : World) : Calls Tryz.prog 47 #[ndV x] w fun e w' => e = .returned (ndV (unp x)) ∧ Below w.heap.size w w' := unplaced_any x.k x.n x.a x.b x.p w
theorem moved_nd (x : Nd) (d : Int) (g : Nat) (w : World) (hs : Sm d x) (hg : w.cell? ⟨g, 0, none⟩ = some (.int .i64 d)) (hgl : g < w.heap.size) :
    Calls Tryz.prog 129 #[ndV x, .pointer (some ⟨g, 0, none⟩)] w fun e w' => e = .returned (ndV (shift d x)) ∧ Below w.heap.size w w' := by
  obtain ⟨h0, h1, h2⟩ := hs
  have hp : partsN x.k = cnt x.k := by unfold partsN; rw [if_pos h0]
  rcases cnt_vals x.k with ⟨_, h⟩ | ⟨_, _, h⟩ | ⟨_, h⟩
  · rw [h] at hp h1 h2
    have := mv0 x.k x.n x.a x.b x.p d g w h0 hp hg hgl
    simpa [ndV, shift, h] using this
  · rw [h] at hp h1 h2
    obtain ⟨h3, h4⟩ := h1 (by decide)
    have := mv1 x.k x.n x.a x.b x.p d g w h0 hp h3 h4 hg hgl
    simpa [ndV, shift, h] using this
  · rw [h] at hp h1 h2
    obtain ⟨h3, h4⟩ := h1 (by decide)
    obtain ⟨h5, h6⟩ := h2 (by decide)
    have := mv2 x.k x.n x.a x.b x.p d g w h0 hp h3 h4 h5 h6 hg hgl
    simpa [ndV, shift, h] using this

theorem own_five {w : World} {base g n cap : Nat} {e : TypeId} {xs : List Value} (h : w.ownsRow base e 5 (.slice (some ⟨g, 0, none⟩) n cap) n xs) (k : Nat) (hk : k < n) :
    (∃ v0 v1 v2 v3 v4, w.cell? ⟨g, k * 5, none⟩ = some v0 ∧ w.cell? ⟨g, k * 5 + 1, none⟩ = some v1 ∧ w.cell? ⟨g, k * 5 + 2, none⟩ = some v2 ∧ w.cell? ⟨g, k * 5 + 3, none⟩ = some v3 ∧ w.cell? ⟨g, k * 5 + 4, none⟩ = some v4) ∧
    w.frozen? ⟨g, k * 5, none⟩ = false ∧ w.frozen? ⟨g, k * 5 + 1, none⟩ = false ∧ w.frozen? ⟨g, k * 5 + 2, none⟩ = false ∧ w.frozen? ⟨g, k * 5 + 3, none⟩ = false ∧ w.frozen? ⟨g, k * 5 + 4, none⟩ = false := by
  have hl : xs.length = n * 5 := h.1
  have c : ∀ j, j < n * 5 → ∃ v, w.cell? ⟨g, j, none⟩ = some v := fun j hj => ⟨_, (h.cellAt j hj).trans (List.getElem?_eq_getElem (by omega))⟩
  obtain ⟨v0, h0⟩ := c (k * 5) (by omega)
  obtain ⟨v1, h1⟩ := c (k * 5 + 1) (by omega)
  obtain ⟨v2, h2⟩ := c (k * 5 + 2) (by omega)
  obtain ⟨v3, h3⟩ := c (k * 5 + 3) (by omega)
  obtain ⟨v4, h4⟩ := c (k * 5 + 4) (by omega)
  exact ⟨⟨v0, v1, v2, v3, v4, h0, h1, h2, h3, h4⟩, h.frozenAt _, h.frozenAt _, h.frozenAt _, h.frozenAt _, h.frozenAt _⟩
theorem own_set5 {w : World} {base g n cap : Nat} {e : TypeId} {xs : List Value} (h : w.ownsRow base e 5 (.slice (some ⟨g, 0, none⟩) n cap) n xs) (k : Nat) (a b c d f : Value) :
    (((((w.setCell ⟨g, k * 5, none⟩ a).setCell ⟨g, k * 5 + 1, none⟩ b).setCell ⟨g, k * 5 + 2, none⟩ c).setCell ⟨g, k * 5 + 3, none⟩ d).setCell ⟨g, k * 5 + 4, none⟩ f).ownsRow base e 5 (.slice (some ⟨g, 0, none⟩) n cap) n (((((xs.set (k * 5) a).set (k * 5 + 1) b).set (k * 5 + 2) c).set (k * 5 + 3) d).set (k * 5 + 4) f) :=
  (((((h.stored _ a).1.stored _ b).1.stored _ c).1.stored _ d).1.stored _ f).1
theorem set5_take (xs : List Value) (k : Nat) (x : Nd) (h : (k + 1) * 5 ≤ xs.length) :
    (((((xs.set (k * 5) (.int .u8 x.k)).set (k * 5 + 1) (.int .i64 x.n)).set (k * 5 + 2) (.int .i64 x.a)).set (k * 5 + 3) (.int .i64 x.b)).set (k * 5 + 4) (.int .i64 x.p)).take ((k + 1) * 5) = xs.take (k * 5) ++ ndC x := by
  have hl : (xs.take (k * 5)).length = k * 5 := by rw [List.length_take]; omega
  apply List.ext_getElem?
  intro i
  rcases Nat.lt_or_ge i (k * 5) with hi | hi
  · rw [List.getElem?_take, if_pos (by omega), List.getElem?_append_left (by omega), List.getElem?_take, if_pos hi]
    rw [List.getElem?_set_ne (by omega), List.getElem?_set_ne (by omega), List.getElem?_set_ne (by omega), List.getElem?_set_ne (by omega), List.getElem?_set_ne (by omega)]
  · rw [List.getElem?_append_right (by omega), hl, List.getElem?_take]
    rcases Nat.lt_or_ge i ((k + 1) * 5) with h5 | h5
    · rw [if_pos h5]
      rcases (by omega : i = k * 5 ∨ i = k * 5 + 1 ∨ i = k * 5 + 2 ∨ i = k * 5 + 3 ∨ i = k * 5 + 4) with rfl | rfl | rfl | rfl | rfl
      · rw [List.getElem?_set_ne (by omega), List.getElem?_set_ne (by omega), List.getElem?_set_ne (by omega), List.getElem?_set_ne (by omega), List.getElem?_set_self (by omega), Nat.sub_self]; rfl
      · rw [List.getElem?_set_ne (by omega), List.getElem?_set_ne (by omega), List.getElem?_set_ne (by omega), List.getElem?_set_self (by simp; omega), show k * 5 + 1 - k * 5 = 1 by omega]; rfl
      · rw [List.getElem?_set_ne (by omega), List.getElem?_set_ne (by omega), List.getElem?_set_self (by simp; omega), show k * 5 + 2 - k * 5 = 2 by omega]; rfl
      · rw [List.getElem?_set_ne (by omega), List.getElem?_set_self (by simp; omega), show k * 5 + 3 - k * 5 = 3 by omega]; rfl
      · rw [List.getElem?_set_self (by simp; omega), show k * 5 + 4 - k * 5 = 4 by omega]; rfl
    · rw [if_neg (by omega), List.getElem?_eq_none (by show 5 ≤ _; omega)]
def ERel (w : World) (M : List Nd) (n k : Nat) (wr : World) : Prop :=
  ∃ xs, wr.ownsRow w.heap.size 58 5 (.slice (some ⟨w.heap.size, 0, none⟩) n n) n xs ∧ xs.take (k * 5) = ndCells (M.take k) ∧ Below w.heap.size w wr
theorem erel_step {w : World} {M : List Nd} {n k : Nat} {wr : World} {xs : List Value} {y : Nd} (ho : wr.ownsRow w.heap.size 58 5 (.slice (some ⟨w.heap.size, 0, none⟩) n n) n xs) (hx : xs.take (k * 5) = ndCells (M.take k)) (hb : Below w.heap.size w wr) (hy : M[k]? = some y) (hk : k < n) :
    ERel w M n (k + 1) (((((wr.setCell ⟨w.heap.size, k * 5, none⟩ (.int .u8 y.k)).setCell ⟨w.heap.size, k * 5 + 1, none⟩ (.int .i64 y.n)).setCell ⟨w.heap.size, k * 5 + 2, none⟩ (.int .i64 y.a)).setCell ⟨w.heap.size, k * 5 + 3, none⟩ (.int .i64 y.b)).setCell ⟨w.heap.size, k * 5 + 4, none⟩ (.int .i64 y.p)) := by
  refine ⟨_, own_set5 ho k _ _ _ _ _, ?_, ?_⟩
  · have hl : xs.length = n * 5 := ho.1
    rw [set5_take xs k y (by omega), hx, (extF_split hy).2, ndCells_snoc]
  · exact ((((hb.setCell (Nat.le_refl _) _).setCell (Nat.le_refl _) _).setCell (Nat.le_refl _) _).setCell (Nat.le_refl _) _).setCell (Nat.le_refl _) _

def EPost (w : World) (M : List Nd) (n : Nat) (e : Ending) (w' : World) : Prop :=
  ∃ ad, e = .returned (.slice (some ad) n n) ∧ Lies w' (some ad) (ndCells M) ∧ Below w.heap.size w w'
set_option maxHeartbeats 1000000 in
theorem each_unp (A : Option Addr) (c n : Nat) (L : List Nd) (w : World) (hn : L.length = n) (hL : n ≤ 1000) (ht : Lies w A (ndCells L)) :
    Calls Tryz.prog 46 #[.slice A n c, .func (.func 47) #[] #[]] w (EPost w (L.map unp) n) := by
  have HT := Lib.hid ht
  have HN := Lib.hid hn
  obtain ⟨i0, hi, hz0, hz1, hz2⟩ := info_parts nd_info
  clear ht hn
  go_enter Tryz.func46, Tryz.ntmps46
  go_wp2_with (refine wpList_make_full _ rfl _ _ 22 rfl w.heap.size 58 i0 _ 5 Tryz.underlying22 hi hz0 hz1 .i64 .i64 _ _ n rfl rfl (by rfl) (by rfl) ?c1 ?c2 ?c3 ?_)
  case c1 => rw [hz2]; omega
  case c2 => unfold maxLen; omega
  case c3 => exact Nat.le_refl _
  intro w1 hown1 hg1
  have HB1 := Lib.hid (show Below w.heap.size w w1 from (Below.refl _ _).grown hg1 (Nat.le_refl _) (fun j hj => by cases hj))
  have HO1 := Lib.hid hown1
  clear hown1 hg1
  go_wp2
  go_loopw [13] (fun i wr => ∃ k : Nat, i = .int .i64 k ∧ k ≤ n ∧ ERel w (L.map unp) n k wr) (fun i _ => n - (intOf i).toNat)
  case atStart => exact ⟨0, rfl, Nat.zero_le _, _, HO1.out, by simp [ndCells], HB1.out⟩
  case round =>
    obtain ⟨k, rfl, hk, xs, hown, hxs, hb⟩ := hrel
    have HO := Lib.hid hown
    have HX := Lib.hid hxs
    have HB := Lib.hid hb
    clear hown hxs hb HO1 HB1
    by_cases hlt : k < n
    · obtain ⟨x, hx⟩ : ∃ x, L[k]? = some x := ⟨_, List.getElem?_eq_getElem (by rw [HN.out]; exact hlt)⟩
      have HL := Lib.hid hx
      obtain ⟨ad, rfl, hadl, c0, c1, c2, c3, c4⟩ := (HT.out.below HB.out).nd hx
      have hab : (ad.add (k * 5)).block < wr.heap.size := by rw [add_block]; exact hadl
      clear hx hadl
      have HU := Lib.hid (fun w => unplaced_nd x w)
      go_wp2_with (go_at_call 47; refine (HU.out _).mono ?_; rintro e w2 ⟨rfl, hb2⟩; have HO2 := Lib.hid (own_below (HO.out.alloc _) hb2); obtain ⟨⟨v0, v1, v2, v3, v4, d0, d1, d2, d3, d4⟩, f0, f1, f2, f3, f4⟩ := own_five HO2.out k hlt; have HB2 := Lib.hid ((HB.out.alloc HB.out.size _).trans (hb2.mono (by have := HB.out.size; simp; omega))); clear hb2)
      go_roundw
      case rel => exact ⟨k + 1, by go_num, by omega, erel_step HO2.out HX.out HB2.out (by rw [List.getElem?_map, HL.out]; rfl) hlt⟩
      case measure => simp [intOf]; omega
    · obtain rfl : k = n := by omega
      have HZ := Lib.hid (show xs = ndCells (L.map unp) by
        have := HX.out
        rwa [List.take_of_length_le (by have := HO.out.1; omega), List.take_of_length_le (by rw [List.length_map, HN.out]; exact Nat.le_refl _)] at this)
      go_wp2
      go_ret
      refine ⟨⟨w.heap.size, 0, none⟩, rfl, ?_, HB.out⟩
      rw [← HZ.out]
      exact Lies.of_own HO.out (by intro h0; exact List.eq_nil_of_length_eq_zero (by have := HO.out.1; omega))
set_option maxHeartbeats 1000000 in
theorem each_mv (A : Option Addr) (c n : Nat) (L : List Nd) (d : Int) (g : Nat) (w : World) (hg : w.cell? ⟨g, 0, none⟩ = some (.int .i64 d)) (hgl : g < w.heap.size) (hsm : ∀ x ∈ L, Sm d x) (hn : L.length = n) (hL : n ≤ 1000) (ht : Lies w A (ndCells L)) :
    Calls Tryz.prog 46 #[.slice A n c, .func (.func 129) #[] #[.pointer (some ⟨g, 0, none⟩)]] w (EPost w (L.map (shift d)) n) := by
  have HT := Lib.hid ht
  have HG := Lib.hid hg
  have HSM := Lib.hid hsm
  have HN := Lib.hid hn
  obtain ⟨i0, hi, hz0, hz1, hz2⟩ := info_parts nd_info
  clear ht hn hg hsm
  go_enter Tryz.func46, Tryz.ntmps46
  go_wp2_with (refine wpList_make_full _ rfl _ _ 22 rfl w.heap.size 58 i0 _ 5 Tryz.underlying22 hi hz0 hz1 .i64 .i64 _ _ n rfl rfl (by rfl) (by rfl) ?c1 ?c2 ?c3 ?_)
  case c1 => rw [hz2]; omega
  case c2 => unfold maxLen; omega
  case c3 => exact Nat.le_refl _
  intro w1 hown1 hgw
  have HB1 := Lib.hid (show Below w.heap.size w w1 from (Below.refl _ _).grown hgw (Nat.le_refl _) (fun j hj => by cases hj))
  have HO1 := Lib.hid hown1
  clear hown1 hgw
  go_wp2
  go_loopw [13] (fun i wr => ∃ k : Nat, i = .int .i64 k ∧ k ≤ n ∧ ERel w (L.map (shift d)) n k wr) (fun i _ => n - (intOf i).toNat)
  case atStart => exact ⟨0, rfl, Nat.zero_le _, _, HO1.out, by simp [ndCells], HB1.out⟩
  case round =>
    obtain ⟨k, rfl, hk, xs, hown, hxs, hb⟩ := hrel
    have HO := Lib.hid hown
    have HX := Lib.hid hxs
    have HB := Lib.hid hb
    clear hown hxs hb HO1 HB1
    by_cases hlt : k < n
    · obtain ⟨x, hx⟩ : ∃ x, L[k]? = some x := ⟨_, List.getElem?_eq_getElem (by rw [HN.out]; exact hlt)⟩
      have HL := Lib.hid hx
      obtain ⟨ad, rfl, hadl, c0, c1, c2, c3, c4⟩ := (HT.out.below HB.out).nd hx
      have hab : (ad.add (k * 5)).block < wr.heap.size := by rw [add_block]; exact hadl
      clear hx hadl
      have hgl2 : g < wr.heap.size + 1 := by have := HB.out.size; omega
      have HU := Lib.hid (fun w' (h1 : Below w.heap.size w w') (h2 : g < w'.heap.size) => moved_nd x d g w' (HSM.out x (List.mem_of_getElem? HL.out)) (by rw [h1.cell (p := ⟨g, 0, none⟩) hgl]; exact HG.out) h2)
      go_wp2_with (go_at_call 129; refine (HU.out _ (HB.out.alloc HB.out.size _) (by simp; omega)).mono ?_; rintro e w2 ⟨rfl, hb2⟩; have HO2 := Lib.hid (own_below (HO.out.alloc _) hb2); obtain ⟨⟨v0, v1, v2, v3, v4, d0, d1, d2, d3, d4⟩, f0, f1, f2, f3, f4⟩ := own_five HO2.out k hlt; have HB2 := Lib.hid ((HB.out.alloc HB.out.size _).trans (hb2.mono (by have := HB.out.size; simp; omega))); clear hb2)
      go_roundw
      case rel => exact ⟨k + 1, by go_num, by omega, erel_step HO2.out HX.out HB2.out (by rw [List.getElem?_map, HL.out]; rfl) hlt⟩
      case measure => simp [intOf]; omega
    · obtain rfl : k = n := by omega
      have HZ := Lib.hid (show xs = ndCells (L.map (shift d)) by
        have := HX.out
        rwa [List.take_of_length_le (by have := HO.out.1; omega), List.take_of_length_le (by rw [List.length_map, HN.out]; exact Nat.le_refl _)] at this)
      go_wp2
      go_ret
      refine ⟨⟨w.heap.size, 0, none⟩, rfl, ?_, HB.out⟩
      rw [← HZ.out]
      exact Lies.of_own HO.out (by intro h0; exact List.eq_nil_of_length_eq_zero (by have := HO.out.1; omega))

set_option maxHeartbeats 1000000 in
theorem moved_any (A : Option Addr) (c n : Nat) (L : List Nd) (d : Int) (w : World) (hn : L.length = n) (hL : n ≤ 1000) (ht : Lies w A (ndCells L)) (hsm : ∀ x ∈ L, Sm d x) :
    Calls Tryz.prog 122 #[.slice A n c, .int .i64 d] w (EPost w (L.map (shift d)) n) := by
  have HE := Lib.hid (each_mv A c n L d w.heap.size (w.alloc (.cells #[.int .i64 d] 3)) (by go_simp) (by simp) hsm hn hL (ht.below ((Below.refl _ _).alloc (Nat.le_refl _) _)))
  clear hn ht hsm
  go_enter Tryz.func122, Tryz.ntmps122
  go_wp2_with (go_at_call 46; refine HE.out.mono ?_; rintro e w2 ⟨ad, rfl, hl, hb2⟩)
  go_ret
  exact ⟨ad, rfl, hl, ((Below.refl _ _).alloc (Nat.le_refl _) _).trans (hb2.mono (by simp))⟩
end Go.Proofs.YtlmamidodahgmaaGreatDoor.N4

/- NPart: The contracts of Part and of firstError. -/
namespace Go.Proofs.YtlmamidodahgmaaGreatDoor.N4
open Go.ChangeShapes Go.WideShapes Go.ChangeAt Go.RowKit
set_option linter.unusedVariables false
set_option maxRecDepth 100000

theorem sm_of {L : List Nd} {E : List Ex} (h : Good4 L E) (d : Int) (hd : -100 ≤ d) (hd2 : d ≤ 100) : ∀ x ∈ L, Sm d x := by
  intro x hx
  obtain ⟨i, hi⟩ := List.mem_iff_getElem?.1 hx
  have hl := (List.getElem?_eq_some_iff.1 hi).1
  have h60 := h.2.1
  obtain ⟨h1, _, h2⟩ := node_facts h.ext hi
  refine ⟨h1, ?_, ?_⟩
  · rcases h2 with ⟨hk, _⟩ | ⟨hk, _, i1, _, h3, h4, _⟩ | ⟨hk, i1, _, _, h3, h4, h5, _⟩
    · intro h; rw [cnt_pos] at h; omega
    · omega
    · omega
  · rcases h2 with ⟨hk, _⟩ | ⟨hk, h6, _⟩ | ⟨hk, i1, _, _, h3, h4, h5, _⟩
    · intro h; rw [cnt_two] at h; omega
    · intro h; rw [cnt_two] at h; omega
    · omega
theorem Good4.size {L : List Nd} {E : List Ex} (h : Good4 L E) {i : Nat} (hi : i < L.length) : 1 ≤ sizF L i ∧ sizF L i ≤ i + 1 ∧ (cutF L i).length = sizF L i := by
  obtain ⟨y, hy, z1, z2, _⟩ := h.at_ hi
  rw [cutF_length h.ext hy, sizF_of h.ext hy]
  exact ⟨z1, z2, rfl⟩
def POk (w : World) (M : List Nd) (s : Nat) (e : Ending) (w' : World) : Prop :=
  ∃ ad, e = .returned (.tuple #[.slice (some ad) s s, .int .i64 0]) ∧ Lies w' (some ad) (ndCells M) ∧ Below w.heap.size w w'
/-! ### firstError -/
def firstE : List Int → Int
  | [] => 0
  | v :: r => if v = 0 then firstE r else v
theorem firstE_zeros : ∀ (l : List Int) (k : Nat), (∀ v ∈ l.take k, v = 0) → firstE l = firstE (l.drop k)
  | [], k, _ => by simp
  | v :: r, 0, _ => rfl
  | v :: r, k + 1, h => by
    rw [List.take_succ_cons] at h
    have h0 := h v (by simp)
    subst h0
    exact firstE_zeros r k (fun v hv => h v (by simp [hv]))
/-- Slices of expressions, as they lie. -/
def ExprAt (w : World) (u : Value) (L : List Nd) : Prop := ∃ A c, u = .slice A L.length c ∧ Lies w A (ndCells L) ∧ L.length ≤ maxLen
set_option maxHeartbeats 1000000 in
theorem first_any (A : Option Addr) (c n : Nat) (us : List Value) (Ls : List (List Nd)) (w : World) (hn : us.length = n) (hn2 : Ls.length = n) (hc : n ≤ 10) (hl : Lies w A us) (he : ∀ (i : Nat) (u : Value) (L : List Nd), us[i]? = some u → Ls[i]? = some L → ExprAt w u L) (v : Int) (hv : firstE (Ls.map checkF) = v) :
    Calls Tryz.prog 44 #[.slice A n c] w fun e w' => e = .returned (.int .i64 v) ∧ Below w.heap.size w w' := by
  have HL := Lib.hid hl
  have HE := Lib.hid he
  have HV := Lib.hid hv
  have HN := Lib.hid hn
  have HN2 := Lib.hid hn2
  clear hl he hv hn hn2
  go_enter Tryz.func44, Tryz.ntmps44
  go_wp2
  go_loopw [8] (fun i wr => ∃ k : Nat, i = .int .i64 k ∧ k ≤ n ∧ Hid (∀ v ∈ (Ls.map checkF).take k, v = 0) ∧ Hid (Below w.heap.size w wr)) (fun i _ => n - (intOf i).toNat)
  case atStart => exact ⟨0, rfl, Nat.zero_le _, Lib.hid (by simp), Lib.hid (Below.refl _ _)⟩
  case round =>
    obtain ⟨k, rfl, hk, HZ, HB⟩ := hrel
    by_cases hlt : k < n
    · obtain ⟨u, hu⟩ : ∃ u, us[k]? = some u := ⟨_, List.getElem?_eq_getElem (by rw [HN.out]; exact hlt)⟩
      obtain ⟨L, hL⟩ : ∃ L, Ls[k]? = some L := ⟨_, List.getElem?_eq_getElem (by rw [HN2.out]; exact hlt)⟩
      obtain ⟨A', c', rfl, hl', hm'⟩ := HE.out k u L hu hL
      obtain ⟨ad, rfl, hadl, c0⟩ := (HL.out.below HB.out).one hu
      have HC := Lib.hid (check_any A' c' L wr hm' (hl'.below HB.out) _ rfl)
      have hck : (Ls.map checkF)[k]? = some (checkF L) := by rw [List.getElem?_map, hL]; rfl
      have HK := Lib.hid hck
      obtain ⟨m, hm⟩ : ∃ m, L.length = m := ⟨_, rfl⟩
      rw [hm] at c0 HC
      obtain ⟨q, hq⟩ : ∃ q, checkF L = q := ⟨_, rfl⟩
      rw [hq] at HC HK
      clear hu hL hl' hm' hadl hck hm hq
      by_cases h0 : q = 0
      · subst h0
        go_wp2_with (go_at_call 49; refine HC.out.mono ?_; rintro e w1 ⟨rfl, hb1⟩)
        go_roundw
        case rel =>
          refine ⟨k + 1, by go_num, by omega, Lib.hid ?_, Lib.hid (HB.out.trans (hb1.mono HB.out.size))⟩
          intro v hv
          obtain ⟨hlt', e'⟩ := List.getElem?_eq_some_iff.1 HK.out
          rw [List.take_succ_eq_append_getElem hlt', e'] at hv
          rcases List.mem_append.1 hv with hv | hv
          · exact HZ.out v hv
          · simpa using hv
        case measure => simp [intOf]; omega
      · have hne := errno_ne h0
        have HF := Lib.hid (show q = v by
          rw [← HV.out, firstE_zeros _ k HZ.out]
          obtain ⟨hlt', e'⟩ := List.getElem?_eq_some_iff.1 HK.out
          rw [List.drop_eq_getElem_cons hlt', e', firstE, if_neg h0])
        clear h0
        go_wp2_with (go_at_call 49; refine HC.out.mono ?_; rintro e w1 ⟨rfl, hb1⟩)
        go_ret
        exact ⟨ret_int' HF.out, HB.out.trans (hb1.mono HB.out.size)⟩
    · have HF := Lib.hid (show 0 = v by
        rw [← HV.out, firstE_zeros _ k HZ.out, List.drop_of_length_le (by rw [List.length_map, HN2.out]; omega)]; rfl)
      go_wp2
      go_ret
      exact ⟨ret_int' HF.out, HB.out⟩
end Go.Proofs.YtlmamidodahgmaaGreatDoor.N4

/- NEq: Contracts of slices.Equal and of the reference's Equal. -/
namespace Go.Proofs.YtlmamidodahgmaaGreatDoor.N4
open Go.ChangeShapes Go.WideShapes Go.ChangeAt Go.RowKit
set_option linter.unusedVariables false

theorem eqq_nd (k n a b p k' n' a' b' p' : Int) (w : World) : (Op.equalIn 10000 58 (.agg #[.int .u8 k, .int .i64 n, .int .i64 a, .int .i64 b, .int .i64 p]) (.agg #[.int .u8 k', .int .i64 n', .int .i64 a', .int .i64 b', .int .i64 p'])).run Tryz.prog w = .ok (k == k' && n == n' && a == a' && b == b' && p == p') w := by
  have u1 := Tryz.underlying5
  have u2 := Tryz.underlying2
  have u3 := Tryz.underlying3
  have hS : Tryz.prog.underlying 58 = some (.struct (Tryz.prog.fieldsOf 58)) := by kernel_rfl
  rw [show (10000 : Nat) = 9999 + 1 from rfl, run_equalIn_agg w 9999 58 _ _ hS (by kernel_rfl)]
  simp only [Program.fieldsOf, Tryz.underlying58]
  go_simp
  by_cases h1 : k = k' <;> by_cases h2 : n = n' <;> by_cases h3 : a = a' <;> by_cases h4 : b = b' <;> by_cases h5 : p = p' <;> simp [h1, h2, h3, h4, h5]
theorem neq_nd (x y : Nd) (r : Bool) (hr : (!decide (x = y)) = r) (w : World) : (binOp .neq 58 (ndV x) (ndV y)).run Tryz.prog w = .ok (.bool r) w := by
  subst hr
  rw [run_neq_struct, eqq_nd]
  obtain ⟨k, n, a, b, p⟩ := x
  obtain ⟨k', n', a', b', p'⟩ := y
  by_cases h1 : k = k' <;> by_cases h2 : n = n' <;> by_cases h3 : a = a' <;> by_cases h4 : b = b' <;> by_cases h5 : p = p' <;> simp [h1, h2, h3, h4, h5]
theorem eq_len {L M : List Nd} (h : L.length ≠ M.length) : decide (L = M) = false := by
  rw [decide_eq_false_iff_not]; intro e; exact h (by rw [e])
theorem eq_at {L M : List Nd} {k : Nat} {x y : Nd} (hx : L[k]? = some x) (hy : M[k]? = some y) (h : x ≠ y) : decide (L = M) = false := by
  rw [decide_eq_false_iff_not]; intro e; subst e; exact h (Option.some.inj (hx.symm.trans hy))
theorem take_snoc_nd {L : List Nd} {k : Nat} {x : Nd} (h : L[k]? = some x) : L.take (k + 1) = L.take k ++ [x] := by
  obtain ⟨hk, e⟩ := List.getElem?_eq_some_iff.1 h
  rw [List.take_succ_eq_append_getElem hk, e]
set_option maxHeartbeats 2000000 in
theorem requal_any (A A' : Option Addr) (n n' c c' : Nat) (L M : List Nd) (w : World) (hn : L.length = n) (hn' : M.length = n') (hL : n ≤ 1000) (hM : n' ≤ 1000) (ht : Lies w A (ndCells L)) (ht' : Lies w A' (ndCells M)) (v : Bool) (hv : decide (L = M) = v) :
    Calls Tryz.prog 17 #[.slice A n c, .slice A' n' c'] w fun e w' => e = .returned (.bool v) ∧ Below w.heap.size w w' := by
  have HT := Lib.hid ht
  have HT' := Lib.hid ht'
  have HN := Lib.hid hn
  have HN' := Lib.hid hn'
  have HV := Lib.hid hv
  clear ht ht' hn hn' hv
  have hgt : Tryz.prog.eqGuardType Tryz.prog.depth 58 = false := by kernel_rfl
  by_cases hnn : n = n'
  · subst hnn
    go_enter Tryz.func17, Tryz.ntmps17
    go_wp2
    go_loopw [5] (fun i wr => ∃ k m : Nat, k ≤ n ∧ i = .int .i64 k ∧ wr = w.drewN m ∧ Hid (L.take k = M.take k)) (fun i _ => n - (intOf i).toNat)
    case atStart => exact ⟨0, 0, Nat.zero_le _, rfl, rfl, Lib.hid (by simp)⟩
    case round =>
      obtain ⟨k, m, hk, rfl, rfl, HK⟩ := hrel
      by_cases hlt : k < n
      · obtain ⟨x, hx⟩ : ∃ x, L[k]? = some x := ⟨_, List.getElem?_eq_getElem (by rw [HN.out]; exact hlt)⟩
        obtain ⟨y, hy⟩ : ∃ y, M[k]? = some y := ⟨_, List.getElem?_eq_getElem (by rw [HN'.out]; exact hlt)⟩
        obtain ⟨ad, rfl, hadl, c0, c1, c2, c3, c4⟩ := HT.out.nd hx
        obtain ⟨ad', rfl, hadl', d0, d1, d2, d3, d4⟩ := HT'.out.nd hy
        have HX := Lib.hid hx
        have HY := Lib.hid hy
        have q3 : (0 : Int) ≤ k := by omega
        have q4 : (k : Int) < n := by omega
        clear hx hy hadl hadl'
        by_cases hxy : x = y
        · subst hxy
          have q1 := neq_nd x x false (by simp)
          go_wp2
          go_quiet (fail)
          go_wp2
          go_roundw
          case rel => exact ⟨k + 1, _, by omega, by go_num, rfl, Lib.hid (by rw [take_snoc_nd HX.out, take_snoc_nd HY.out, HK.out])⟩
          case measure => simp [intOf]; omega
        · have q1 := neq_nd x y true (by simp [hxy])
          have HF := Lib.hid (eq_at HX.out HY.out hxy)
          clear hxy
          go_wp2
          go_quiet (fail)
          go_wp2
          go_ret
          exact ⟨ret_bool' (by rw [← HV.out, HF.out]), Below.drewN' (bd_drewN _ _) _⟩
      · have HF := Lib.hid (show L = M by
          have := HK.out
          rwa [List.take_of_length_le (by rw [HN.out]; omega), List.take_of_length_le (by rw [HN'.out]; omega)] at this)
        go_wp2
        go_ret
        exact ⟨ret_bool' (by rw [← HV.out, HF.out]; simp), bd_drewN _ _⟩
  · have HF := Lib.hid (eq_len (L := L) (M := M) (by rw [HN.out, HN'.out]; exact hnn))
    have e1 : ((n : Int) == n') = false := by simp; omega
    have e2 : ((n : Int) != n') = true := by simp; omega
    clear hnn
    go_enter Tryz.func17, Tryz.ntmps17
    go_wp2
    go_ret
    exact ⟨ret_bool' (by rw [← HV.out, HF.out]), Below.refl _ _⟩
set_option maxHeartbeats 2000000 in
theorem sequal_any (A A' : Option Addr) (n n' c c' : Nat) (L M : List Nd) (w : World) (hn : L.length = n) (hn' : M.length = n') (hL : n ≤ 1000) (hM : n' ≤ 1000) (ht : Lies w A (ndCells L)) (ht' : Lies w A' (ndCells M)) (v : Bool) (hv : decide (L = M) = v) :
    Calls Tryz.prog 45 #[.slice A n c, .slice A' n' c'] w fun e w' => e = .returned (.bool v) ∧ Below w.heap.size w w' := by
  have HT := Lib.hid ht
  have HT' := Lib.hid ht'
  have HN := Lib.hid hn
  have HN' := Lib.hid hn'
  have HV := Lib.hid hv
  clear ht ht' hn hn' hv
  have hgt : Tryz.prog.eqGuardType Tryz.prog.depth 58 = false := by kernel_rfl
  by_cases hnn : n = n'
  · subst hnn
    go_enter Tryz.func45, Tryz.ntmps45
    go_wp2
    go_loopw [13] (fun i wr => ∃ k m : Nat, k ≤ n ∧ i = .int .i64 k ∧ wr = w.drewN m ∧ Hid (L.take k = M.take k)) (fun i _ => n - (intOf i).toNat)
    case atStart => exact ⟨0, 0, Nat.zero_le _, rfl, rfl, Lib.hid (by simp)⟩
    case round =>
      obtain ⟨k, m, hk, rfl, rfl, HK⟩ := hrel
      by_cases hlt : k < n
      · obtain ⟨x, hx⟩ : ∃ x, L[k]? = some x := ⟨_, List.getElem?_eq_getElem (by rw [HN.out]; exact hlt)⟩
        obtain ⟨y, hy⟩ : ∃ y, M[k]? = some y := ⟨_, List.getElem?_eq_getElem (by rw [HN'.out]; exact hlt)⟩
        obtain ⟨ad, rfl, hadl, c0, c1, c2, c3, c4⟩ := HT.out.nd hx
        obtain ⟨ad', rfl, hadl', d0, d1, d2, d3, d4⟩ := HT'.out.nd hy
        have HX := Lib.hid hx
        have HY := Lib.hid hy
        have q3 : (0 : Int) ≤ k := by omega
        have q4 : (k : Int) < n := by omega
        clear hx hy hadl hadl'
        by_cases hxy : x = y
        · subst hxy
          have q1 := neq_nd x x false (by simp)
          go_wp2
          go_quiet (fail)
          go_wp2
          go_roundw
          case rel => exact ⟨k + 1, _, by omega, by go_num, rfl, Lib.hid (by rw [take_snoc_nd HX.out, take_snoc_nd HY.out, HK.out])⟩
          case measure => simp [intOf]; omega
        · have q1 := neq_nd x y true (by simp [hxy])
          have HF := Lib.hid (eq_at HX.out HY.out hxy)
          clear hxy
          go_wp2
          go_quiet (fail)
          go_wp2
          go_ret
          exact ⟨ret_bool' (by rw [← HV.out, HF.out]), Below.drewN' (bd_drewN _ _) _⟩
      · have HF := Lib.hid (show L = M by
          have := HK.out
          rwa [List.take_of_length_le (by rw [HN.out]; omega), List.take_of_length_le (by rw [HN'.out]; omega)] at this)
        go_wp2
        go_ret
        exact ⟨ret_bool' (by rw [← HV.out, HF.out]; simp), bd_drewN _ _⟩
  · have HF := Lib.hid (eq_len (L := L) (M := M) (by rw [HN.out, HN'.out]; exact hnn))
    have e1 : ((n : Int) == n') = false := by simp; omega
    have e2 : ((n : Int) != n') = true := by simp; omega
    clear hnn
    go_enter Tryz.func45, Tryz.ntmps45
    go_wp2
    go_ret
    exact ⟨ret_bool' (by rw [← HV.out, HF.out]), Below.refl _ _⟩
end Go.Proofs.YtlmamidodahgmaaGreatDoor.N4

/- NSame: The contract of Same. -/
namespace Go.Proofs.YtlmamidodahgmaaGreatDoor.N4
open Go.ChangeShapes Go.WideShapes Go.ChangeAt Go.RowKit
set_option linter.unusedVariables false
set_option maxRecDepth 100000

theorem two_lies (w : World) (u v : Value) (t : TypeId) : Lies (w.alloc (.cells #[u, v] t)) (some ⟨w.heap.size, 0, none⟩) [u, v] := by
  refine .inr ⟨_, rfl, by simp, fun j z hz => ?_⟩
  exact World.news_of_block (w := w.alloc (.cells #[u, v] t)) (B := w.heap.size) (cs := #[u, v]) (t := t) (fr := (0, 0)) (heap_alloc_new w _) j z hz
theorem two_at {w : World} {u v : Value} {L M : List Nd} (hu : ExprAt w u L) (hv : ExprAt w v M) : ∀ (i : Nat) (u' : Value) (L' : List Nd), [u, v][i]? = some u' → [L, M][i]? = some L' → ExprAt w u' L' := by
  intro i u' L' h1 h2
  match i with
  | 0 => simp at h1 h2; subst h1 h2; exact hu
  | 1 => simp at h1 h2; subst h1 h2; exact hv
  | i + 2 => simp at h1
theorem ExprAt.below {w w' : World} {u : Value} {L : List Nd} (h : ExprAt w u L) (hb : Below w.heap.size w w') : ExprAt w' u L := by
  obtain ⟨A, c, h1, h2, h3⟩ := h
  exact ⟨A, c, h1, h2.below hb, h3⟩
def sameE (L M : List Nd) : Int := firstE [checkF L, checkF M]

theorem same_bad (A A' : Option Addr) (n n' c c' : Nat) (L M : List Nd) (w : World) (hn : L.length = n) (hn' : M.length = n') (hL : n ≤ maxLen) (hM : n' ≤ maxLen) (ht : Lies w A (ndCells L)) (ht' : Lies w A' (ndCells M)) (v : Int) (hv : sameE L M = v) (h0 : v ≠ 0) :
    Calls Tryz.prog 18 #[.slice A n c, .slice A' n' c'] w fun e w' => e = .returned (.tuple #[.bool false, .int .i64 v]) ∧ Below w.heap.size w w' := by
  subst hn hn'
  have hb0 : ∀ o, Below w.heap.size w (w.alloc o) := fun o => (Below.refl _ _).alloc (Nat.le_refl _) _
  have HF := Lib.hid (first_any (some ⟨w.heap.size, 0, none⟩) 2 2 [.slice A L.length c, .slice A' M.length c'] [L, M] (w.alloc (.cells #[.slice A L.length c, .slice A' M.length c'] 22)) rfl rfl (by decide) (two_lies w _ _ _)
    (two_at (ExprAt.below ⟨A, c, rfl, ht, hL⟩ (hb0 _)) (ExprAt.below ⟨A', c', rfl, ht', hM⟩ (hb0 _))) v hv)
  have hne := errno_ne h0
  clear ht ht' hv h0 hb0
  obtain ⟨n, hn⟩ : ∃ n, L.length = n := ⟨_, rfl⟩
  obtain ⟨n', hn'⟩ : ∃ n, M.length = n := ⟨_, rfl⟩
  rw [hn, hn'] at HF ⊢
  clear hn hn'
  go_enter Tryz.func18, Tryz.ntmps18
  go_wp2_with (go_at_call 44; refine HF.out.mono ?_; rintro e w1 ⟨rfl, hb⟩)
  go_ret2
  exact ⟨rfl, ((Below.refl _ _).alloc (Nat.le_refl _) _).trans (hb.mono (by simp))⟩
def sameF (L M : List Nd) : Bool := decide (L.map unp = M.map unp)
set_option maxHeartbeats 1000000 in
theorem same_ok (A A' : Option Addr) (n n' c c' : Nat) (L M : List Nd) (w : World) (hn : L.length = n) (hn' : M.length = n') (ht : Lies w A (ndCells L)) (ht' : Lies w A' (ndCells M)) (h1 : checkF L = 0) (h2 : checkF M = 0) (v : Bool) (hv : sameF L M = v) :
    Calls Tryz.prog 18 #[.slice A n c, .slice A' n' c'] w fun e w' => e = .returned (.tuple #[.bool v, .int .i64 0]) ∧ Below w.heap.size w w' := by
  subst hn hn'
  obtain ⟨E1, g1⟩ := checkF_zero h1
  obtain ⟨E2, g2⟩ := checkF_zero h2
  have l1 := g1.2.1
  have l2 := g2.2.1
  have hb0 : ∀ o, Below w.heap.size w (w.alloc o) := fun o => (Below.refl _ _).alloc (Nat.le_refl _) _
  have HF := Lib.hid (first_any (some ⟨w.heap.size, 0, none⟩) 2 2 [.slice A L.length c, .slice A' M.length c'] [L, M] (w.alloc (.cells #[.slice A L.length c, .slice A' M.length c'] 22)) rfl rfl (by decide) (two_lies w _ _ _)
    (two_at (ExprAt.below ⟨A, c, rfl, ht, by unfold maxLen; omega⟩ (hb0 _)) (ExprAt.below ⟨A', c', rfl, ht', by unfold maxLen; omega⟩ (hb0 _))) 0 (by simp [firstE, h1, h2]))
  have HE1 := Lib.hid (fun w' (hb : Below w.heap.size w w') => each_unp A c _ L w' rfl (by omega) (ht.below hb))
  have HE2 := Lib.hid (fun w' (hb : Below w.heap.size w w') => each_unp A' c' _ M w' rfl (by omega) (ht'.below hb))
  have HQ := Lib.hid (fun (B B' : Option Addr) (d d' : Nat) w' (hb : Lies w' B (ndCells (L.map unp))) (hb' : Lies w' B' (ndCells (M.map unp))) => sequal_any B B' _ _ d d' (L.map unp) (M.map unp) w' (List.length_map ..) (List.length_map ..) (by omega) (by omega) hb hb' v hv)
  clear ht ht' hv hb0 g1 g2 h1 h2
  obtain ⟨n, hn⟩ : ∃ n, L.length = n := ⟨_, rfl⟩
  obtain ⟨n', hn'⟩ : ∃ n, M.length = n := ⟨_, rfl⟩
  rw [hn] at HF HE1 HQ l1 ⊢
  rw [hn'] at HF HE2 HQ l2 ⊢
  clear hn hn'
  go_enter Tryz.func18, Tryz.ntmps18
  go_wp2_with (first
    | (go_at_call 44; refine HF.out.mono ?_; rintro e w1 ⟨rfl, hb⟩; have HB1 := Lib.hid (((Below.refl _ _).alloc (Nat.le_refl _) _).trans (hb.mono (by simp))); clear hb)
    | (go_at_call 46; refine (HE1.out _ HB1.out).mono ?_; rintro e w2 ⟨ad1, rfl, hl1, hb⟩; have HL1 := Lib.hid hl1; have HB2 := Lib.hid (HB1.out.trans (hb.mono HB1.out.size)); clear hb hl1 HE1)
    | (go_at_call 46; refine (HE2.out _ HB2.out).mono ?_; rintro e w3 ⟨ad2, rfl, hl2, hb⟩; have HL2 := Lib.hid hl2; have HL3 := Lib.hid (HL1.out.below hb); have HB3 := Lib.hid (HB2.out.trans (hb.mono HB2.out.size)); clear hb hl2)
    | (go_at_call 45; refine (HQ.out _ _ _ _ _ HL3.out HL2.out).mono ?_; rintro e w4 ⟨rfl, hb4⟩))
  go_ret2
  exact ⟨rfl, HB3.out.trans (hb4.mono HB3.out.size)⟩
end Go.Proofs.YtlmamidodahgmaaGreatDoor.N4

/- NRight: Contracts of the reference's right and Equal. -/
namespace Go.Proofs.YtlmamidodahgmaaGreatDoor.N4
open Go.ChangeShapes Go.WideShapes Go.ChangeAt Go.RowKit
set_option linter.unusedVariables false

theorem right_n1 (k n a b p a2 b2 : Int) (h1 : ¬ 1 ≤ k) (w : World) :
    Calls Tryz.prog 74 #[.agg #[.int .u8 k, .int .i64 n, .int .i64 a, .int .i64 b, .int .i64 p], .int .i64 a2, .int .i64 b2] w fun e w' => e = .returned (.bool false) ∧ Below w.heap.size w w' := by
  
  go_enter Tryz.func74, Tryz.ntmps74
  go_wp2
  go_ret
  exact ⟨rfl, (Below.refl _ _).alloc (Nat.le_refl _) _⟩
theorem right_n2 (k n a b p a2 b2 : Int) (h1 : 1 ≤ k) (h2 : ¬ k ≤ 19) (w : World) :
    Calls Tryz.prog 74 #[.agg #[.int .u8 k, .int .i64 n, .int .i64 a, .int .i64 b, .int .i64 p], .int .i64 a2, .int .i64 b2] w fun e w' => e = .returned (.bool false) ∧ Below w.heap.size w w' := by
  
  go_enter Tryz.func74, Tryz.ntmps74
  go_wp2
  go_ret
  exact ⟨rfl, (Below.refl _ _).alloc (Nat.le_refl _) _⟩
theorem right_n3 (k n a b p a2 b2 : Int) (h1 : 1 ≤ k) (h2 : k ≤ 19) (h3 : ¬ 0 ≤ n) (w : World) :
    Calls Tryz.prog 74 #[.agg #[.int .u8 k, .int .i64 n, .int .i64 a, .int .i64 b, .int .i64 p], .int .i64 a2, .int .i64 b2] w fun e w' => e = .returned (.bool false) ∧ Below w.heap.size w w' := by
  
  go_enter Tryz.func74, Tryz.ntmps74
  go_wp2
  go_ret
  exact ⟨rfl, (Below.refl _ _).alloc (Nat.le_refl _) _⟩
theorem right_n4 (k n a b p a2 b2 : Int) (h1 : 1 ≤ k) (h2 : k ≤ 19) (h3 : 0 ≤ n) (h4 : ¬ n = 0) (h5 : ¬ k = 1) (w : World) :
    Calls Tryz.prog 74 #[.agg #[.int .u8 k, .int .i64 n, .int .i64 a, .int .i64 b, .int .i64 p], .int .i64 a2, .int .i64 b2] w fun e w' => e = .returned (.bool false) ∧ Below w.heap.size w w' := by
  
  go_enter Tryz.func74, Tryz.ntmps74
  go_wp2
  go_ret
  exact ⟨rfl, (Below.refl _ _).alloc (Nat.le_refl _) _⟩
theorem right_z5 (k a b p a2 b2 : Int) (h1 : 1 ≤ k) (h2 : k ≤ 19) (h6 : ¬ 0 ≤ p) (w : World) :
    Calls Tryz.prog 74 #[.agg #[.int .u8 k, .int .i64 0, .int .i64 a, .int .i64 b, .int .i64 p], .int .i64 a2, .int .i64 b2] w fun e w' => e = .returned (.bool false) ∧ Below w.heap.size w w' := by
  
  go_enter Tryz.func74, Tryz.ntmps74
  go_wp2
  go_ret
  exact ⟨rfl, (Below.refl _ _).alloc (Nat.le_refl _) _⟩
theorem right_z6 (k a b p a2 b2 : Int) (h1 : 1 ≤ k) (h2 : k ≤ 19) (h6 : 0 ≤ p) (h7 : ¬ p ≤ 400) (w : World) :
    Calls Tryz.prog 74 #[.agg #[.int .u8 k, .int .i64 0, .int .i64 a, .int .i64 b, .int .i64 p], .int .i64 a2, .int .i64 b2] w fun e w' => e = .returned (.bool false) ∧ Below w.heap.size w w' := by
  
  go_enter Tryz.func74, Tryz.ntmps74
  go_wp2
  go_ret
  exact ⟨rfl, (Below.refl _ _).alloc (Nat.le_refl _) _⟩
theorem right_z7 (k a b p a2 b2 : Int) (h1 : 1 ≤ k) (h2 : k ≤ 19) (h6 : 0 ≤ p) (h7 : p ≤ 400) (h8 : ¬ a = a2) (w : World) :
    Calls Tryz.prog 74 #[.agg #[.int .u8 k, .int .i64 0, .int .i64 a, .int .i64 b, .int .i64 p], .int .i64 a2, .int .i64 b2] w fun e w' => e = .returned (.bool false) ∧ Below w.heap.size w w' := by
  
  go_enter Tryz.func74, Tryz.ntmps74
  go_wp2
  go_ret
  exact ⟨rfl, (Below.refl _ _).alloc (Nat.le_refl _) _⟩
theorem right_z8 (k a b p b2 : Int) (h1 : 1 ≤ k) (h2 : k ≤ 19) (h6 : 0 ≤ p) (h7 : p ≤ 400) (h9 : ¬ b = b2) (w : World) :
    Calls Tryz.prog 74 #[.agg #[.int .u8 k, .int .i64 0, .int .i64 a, .int .i64 b, .int .i64 p], .int .i64 a, .int .i64 b2] w fun e w' => e = .returned (.bool false) ∧ Below w.heap.size w w' := by
  have g : (b == b2) = false := by simpa using h9
  go_enter Tryz.func74, Tryz.ntmps74
  go_wp2
  go_ret
  exact ⟨rfl, (Below.refl _ _).alloc (Nat.le_refl _) _⟩
theorem right_z9 (k a b p : Int) (h1 : 1 ≤ k) (h2 : k ≤ 19) (h6 : 0 ≤ p) (h7 : p ≤ 400) (w : World) :
    Calls Tryz.prog 74 #[.agg #[.int .u8 k, .int .i64 0, .int .i64 a, .int .i64 b, .int .i64 p], .int .i64 a, .int .i64 b] w fun e w' => e = .returned (.bool true) ∧ Below w.heap.size w w' := by
  
  go_enter Tryz.func74, Tryz.ntmps74
  go_wp2
  go_ret
  exact ⟨rfl, (Below.refl _ _).alloc (Nat.le_refl _) _⟩
theorem right_o5 (n a b p a2 b2 : Int) (h3 : 0 ≤ n) (h4 : ¬ n = 0) (h6 : ¬ 0 ≤ p) (w : World) :
    Calls Tryz.prog 74 #[.agg #[.int .u8 1, .int .i64 n, .int .i64 a, .int .i64 b, .int .i64 p], .int .i64 a2, .int .i64 b2] w fun e w' => e = .returned (.bool false) ∧ Below w.heap.size w w' := by
  
  go_enter Tryz.func74, Tryz.ntmps74
  go_wp2
  go_ret
  exact ⟨rfl, (Below.refl _ _).alloc (Nat.le_refl _) _⟩
theorem right_o6 (n a b p a2 b2 : Int) (h3 : 0 ≤ n) (h4 : ¬ n = 0) (h6 : 0 ≤ p) (h7 : ¬ p ≤ 400) (w : World) :
    Calls Tryz.prog 74 #[.agg #[.int .u8 1, .int .i64 n, .int .i64 a, .int .i64 b, .int .i64 p], .int .i64 a2, .int .i64 b2] w fun e w' => e = .returned (.bool false) ∧ Below w.heap.size w w' := by
  
  go_enter Tryz.func74, Tryz.ntmps74
  go_wp2
  go_ret
  exact ⟨rfl, (Below.refl _ _).alloc (Nat.le_refl _) _⟩
theorem right_o7 (n a b p a2 b2 : Int) (h3 : 0 ≤ n) (h4 : ¬ n = 0) (h6 : 0 ≤ p) (h7 : p ≤ 400) (h8 : ¬ a = a2) (w : World) :
    Calls Tryz.prog 74 #[.agg #[.int .u8 1, .int .i64 n, .int .i64 a, .int .i64 b, .int .i64 p], .int .i64 a2, .int .i64 b2] w fun e w' => e = .returned (.bool false) ∧ Below w.heap.size w w' := by
  
  go_enter Tryz.func74, Tryz.ntmps74
  go_wp2
  go_ret
  exact ⟨rfl, (Below.refl _ _).alloc (Nat.le_refl _) _⟩
theorem right_o8 (n a b p b2 : Int) (h3 : 0 ≤ n) (h4 : ¬ n = 0) (h6 : 0 ≤ p) (h7 : p ≤ 400) (h9 : ¬ b = b2) (w : World) :
    Calls Tryz.prog 74 #[.agg #[.int .u8 1, .int .i64 n, .int .i64 a, .int .i64 b, .int .i64 p], .int .i64 a, .int .i64 b2] w fun e w' => e = .returned (.bool false) ∧ Below w.heap.size w w' := by
  have g : (b == b2) = false := by simpa using h9
  go_enter Tryz.func74, Tryz.ntmps74
  go_wp2
  go_ret
  exact ⟨rfl, (Below.refl _ _).alloc (Nat.le_refl _) _⟩
theorem right_o9 (n a b p : Int) (h3 : 0 ≤ n) (h4 : ¬ n = 0) (h6 : 0 ≤ p) (h7 : p ≤ 400) (w : World) :
    Calls Tryz.prog 74 #[.agg #[.int .u8 1, .int .i64 n, .int .i64 a, .int .i64 b, .int .i64 p], .int .i64 a, .int .i64 b] w fun e w' => e = .returned (.bool true) ∧ Below w.heap.size w w' := by
  
  go_enter Tryz.func74, Tryz.ntmps74
  go_wp2
  go_ret
  exact ⟨rfl, (Below.refl _ _).alloc (Nat.le_refl _) _⟩

theorem right_any (x : Nd) (a2 b2 : Int) (r : Bool) (w : World) (hr : (okK x.k && fitsF x.k x.n x.p && decide (x.a = a2 ∧ x.b = b2)) = r) :
    Calls Tryz.prog 74 #[ndV x, .int .i64 a2, .int .i64 b2] w fun e w' => e = .returned (.bool r) ∧ Below w.heap.size w w' := by
  obtain ⟨k, n, a, b, p⟩ := x
  dsimp only [ndV] at hr ⊢
  by_cases h1 : 1 ≤ k
  rotate_left
  · obtain rfl : false = r := by rw [← hr]; simp [okK, h1]
    exact right_n1 k n a b p a2 b2 h1 w
  by_cases h2 : k ≤ 19
  rotate_left
  · obtain rfl : false = r := by rw [← hr]; simp [okK, h2]
    exact right_n2 k n a b p a2 b2 h1 h2 w
  by_cases h3 : 0 ≤ n
  rotate_left
  · obtain rfl : false = r := by rw [← hr]; simp [fitsF, h3]
    exact right_n3 k n a b p a2 b2 h1 h2 h3 w
  by_cases h4 : n = 0
  · subst h4
    by_cases h6 : 0 ≤ p
    rotate_left
    · obtain rfl : false = r := by rw [← hr]; simp [fitsF, h6]
      exact right_z5 k a b p a2 b2 h1 h2 h6 w
    by_cases h7 : p ≤ 400
    rotate_left
    · obtain rfl : false = r := by rw [← hr]; simp [fitsF, h7]
      exact right_z6 k a b p a2 b2 h1 h2 h6 h7 w
    by_cases h8 : a = a2
    rotate_left
    · obtain rfl : false = r := by rw [← hr]; simp [h8]
      exact right_z7 k a b p a2 b2 h1 h2 h6 h7 h8 w
    subst h8
    by_cases h9 : b = b2
    rotate_left
    · obtain rfl : false = r := by rw [← hr]; simp [h9]
      exact right_z8 k a b p b2 h1 h2 h6 h7 h9 w
    subst h9
    obtain rfl : true = r := by rw [← hr]; simp [okK, fitsF, h1, h2, h6, h7]
    exact right_z9 k a b p h1 h2 h6 h7 w
  · by_cases h5 : k = 1
    rotate_left
    · obtain rfl : false = r := by rw [← hr]; simp [fitsF, h4, h5]
      exact right_n4 k n a b p a2 b2 h1 h2 h3 h4 h5 w
    subst h5
    by_cases h6 : 0 ≤ p
    rotate_left
    · obtain rfl : false = r := by rw [← hr]; simp [fitsF, h6]
      exact right_o5 n a b p a2 b2 h3 h4 h6 w
    by_cases h7 : p ≤ 400
    rotate_left
    · obtain rfl : false = r := by rw [← hr]; simp [fitsF, h7]
      exact right_o6 n a b p a2 b2 h3 h4 h6 h7 w
    by_cases h8 : a = a2
    rotate_left
    · obtain rfl : false = r := by rw [← hr]; simp [h8]
      exact right_o7 n a b p a2 b2 h3 h4 h6 h7 h8 w
    subst h8
    by_cases h9 : b = b2
    rotate_left
    · obtain rfl : false = r := by rw [← hr]; simp [h9]
      exact right_o8 n a b p b2 h3 h4 h6 h7 h9 w
    subst h9
    obtain rfl : true = r := by rw [← hr]; simp [okK, fitsF, h3, h6, h7]
    exact right_o9 n a b p h3 h4 h6 h7 w
end Go.Proofs.YtlmamidodahgmaaGreatDoor.N4

/- NSizes: The contract of the reference's Sizes. -/
namespace Go.Proofs.YtlmamidodahgmaaGreatDoor.N4
open Go.ChangeShapes Go.WideShapes Go.ChangeAt Go.RowKit
set_option linter.unusedVariables false
set_option linter.unusedSimpArgs false

theorem int_info : (Tryz.prog.info? 3).map (fun i => (i.zero, i.size, i.bytes)) = some (some (.int .i64 0), 1, 8) := by kernel_rfl
theorem cells_new1 (w : World) (B : Nat) (hB : w.heap.size = B) (x : Value) (t : TypeId) : ∀ j u, [x][j]? = some u → (w.alloc (.cells #[x] t)).cell? ((⟨B, 0, none⟩ : Addr).add j) = some u := by
  subst hB
  intro j u hj
  have h := World.news_of_block (w := w.alloc (.cells #[x] t)) (B := w.heap.size) (cs := #[x]) (t := t) (fr := (0, 0)) (heap_alloc_new w _) j u
  exact h hj
theorem two_first {W W' : World} {B k : Nat} {e : TypeId} {l1 l2 : Value} {xs : List Value} {o : Obj} {g : Nat} (h2 : W.ownsRow B e 1 l2 k xs) (hne : l1.ownBlock = none ∨ l1.ownBlock ≠ l2.ownBlock)
    (hg : (W.alloc o).grownBy W' l1.ownBlock) (hat : l1.ownBlock = some g ∨ g = W.heap.size + 1) : W'.ownsRow B e 1 l2 k xs ∧ some g ≠ l2.ownBlock := by
  refine ⟨(h2.alloc o).kept hg ?_, ?_⟩
  · rcases hne with h | h
    · rw [h]; cases l2.ownBlock <;> simp
    · exact .inr (Ne.symm h)
  · rcases hat with h | h
    · rcases hne with h' | h'
      · rw [h] at h'; cases h'
      · rw [← h]; exact h'
    · intro e2
      have := (h2.lt g e2.symm).2
      omega
theorem two_second {W W' : World} {B k n : Nat} {e : TypeId} {l2 : Value} {xs : List Value} {o : Obj} {g cap g' : Nat} (h1 : W.ownsRow B e 1 (.slice (some ⟨g, 0, none⟩) k cap) n xs) (hne : some g ≠ l2.ownBlock)
    (hg : (W.alloc o).grownBy W' l2.ownBlock) (hat : l2.ownBlock = some g' ∨ g' = W.heap.size + 1) : W'.ownsRow B e 1 (.slice (some ⟨g, 0, none⟩) k cap) n xs ∧ (some g : Option Nat) ≠ some g' := by
  have hb : (Value.slice (some ⟨g, 0, none⟩) k cap).ownBlock = some g := rfl
  refine ⟨(h1.alloc o).kept hg (.inr (by rw [hb]; exact hne)), ?_⟩
  rcases hat with h | h
  · rw [← h]; exact hne
  · intro e2
    injection e2 with e2
    have := (h1.lt g hb).2
    omega
theorem nextF_true {E : List Ex} {x : Nd} {y : Ex} {a b : Int} (h : need E x.k = some (y, a, b)) (hr : (okK x.k && fitsF x.k x.n x.p && decide (x.a = a ∧ x.b = b)) = true) : nextF E x = some y := by
  rw [Bool.and_eq_true, Bool.and_eq_true, decide_eq_true_eq] at hr
  obtain ⟨⟨h1, h2⟩, h3, h4⟩ := hr
  subst h3 h4
  exact nextF_mk h1 h2 h
theorem nextF_false {E : List Ex} {x : Nd} {y : Ex} {a b : Int} (h : need E x.k = some (y, a, b)) (hr : (okK x.k && fitsF x.k x.n x.p && decide (x.a = a ∧ x.b = b)) = false) : nextF E x = none := by
  rw [Bool.and_eq_false_iff] at hr
  rcases hr with hr | hr
  · exact nextF_bad hr
  · rw [decide_eq_false_iff_not] at hr
    exact nextF_no h hr
def RPost (L : List Nd) (n : Nat) (w : World) (e : Ending) (w' : World) : Prop :=
  Below w.heap.size w w' ∧ ((extF L = none ∧ e = .returned (.tuple #[.slice none 0 0, .slice none 0 0, .bool false])) ∨
    ∃ E A1 c1 A2 c2, extF L = some E ∧ e = .returned (.tuple #[.slice A1 n c1, .slice A2 n c2, .bool (decide (∃ y, E[n - 1]? = some y ∧ y.s = n))]) ∧ Lies w' A1 (sCells E) ∧ Lies w' A2 (dCells E))
def RRel (L : List Nd) (w : World) (l1 l2 : Value) (k : Nat) (wr : World) : Prop :=
  ∃ E, extF (L.take k) = some E ∧ wr.ownsRow w.heap.size 3 1 l1 k (sCells E) ∧ wr.ownsRow w.heap.size 3 1 l2 k (dCells E) ∧ (l1.ownBlock = none ∨ l1.ownBlock ≠ l2.ownBlock) ∧ Below w.heap.size w wr
set_option maxRecDepth 100000 in
set_option maxHeartbeats 8000000 in
theorem rsizes_any (A : Option Addr) (c n : Nat) (L : List Nd) (w : World) (hn : L.length = n) (hL : n ≤ 60) (ht : Lies w A (ndCells L)) :
    Calls Tryz.prog 48 #[.slice A n c] w (RPost L n w) := by
  have HT := Lib.hid ht
  have HN := Lib.hid hn
  obtain ⟨i0, hi, hz0, hz1, hz2⟩ := info_parts int_info
  clear ht hn
  go_enter Tryz.func48, Tryz.ntmps48
  go_wp2
  go_loopw [5, 6, 7] (fun l1 l2 i wr => ∃ k : Nat, i = .int .i64 k ∧ k ≤ n ∧ RRel L w l1 l2 k wr) (fun _ _ i _ => n - (intOf i).toNat)
  case atStart =>
    exact ⟨0, rfl, Nat.zero_le _, [], rfl, World.ownsRow_nil _ _ _ _, World.ownsRow_nil _ _ _ _, .inl rfl, Below.refl _ _⟩
  case round =>
    obtain ⟨k, rfl, hk, E, hE, ho1, ho2, hne, hb⟩ := hrel
    obtain ⟨A1, c1, rfl, _, _⟩ := own_form ho1
    obtain ⟨A2, c2, rfl, _, _⟩ := own_form ho2
    have hEl := extF_length hE
    rw [List.length_take, HN.out, Nat.min_eq_left hk] at hEl
    have HEL := Lib.hid hEl
    have HO1 := Lib.hid ho1
    have HO2 := Lib.hid ho2
    have HNE := Lib.hid hne
    have HB := Lib.hid hb
    have HE := Lib.hid hE
    have HSZ := Lib.hid (extF_sz hE)
    clear ho1 ho2 hne hb hE hEl
    by_cases hlt : k < n
    · obtain ⟨x, hx⟩ : ∃ x, L[k]? = some x := ⟨_, List.getElem?_eq_getElem (by rw [HN.out]; exact hlt)⟩
      obtain ⟨ad, rfl, hadl, d0, d1, d2, d3, d4⟩ := (HT.out.below HB.out).nd hx
      have HXX := Lib.hid hx
      have HL1 := Lib.hid (show Lies wr A1 (sCells E) from Lies.of_own HO1.out (by intro h0; rw [List.eq_nil_of_length_eq_zero (HEL.out.trans h0)]; rfl))
      have HL2 := Lib.hid (show Lies wr A2 (dCells E) from Lies.of_own HO2.out (by intro h0; rw [List.eq_nil_of_length_eq_zero (HEL.out.trans h0)]; rfl))
      have j0 : (0 : Int) ≤ k := by omega
      have j1 : (k : Int) < n := by omega
      clear hx hadl
      have HCK := Lib.hid (cnt_vals x.k)
      by_cases h4 : x.k ≤ 4
      · have HCN := Lib.hid (fun w => show Calls Tryz.prog 73 #[.int .u8 x.k] w fun e w' => e = .returned (.int .i64 0) ∧ w = w' by have := count_any x.k w; rwa [show cnt x.k = 0 by have := HCK.out; omega] at this)
        have HND := Lib.hid (need_leaf (E := E) h4)
        obtain ⟨r, hr⟩ : ∃ r, (okK x.k && fitsF x.k x.n x.p && decide (x.a = 0 ∧ x.b = 0)) = r := ⟨_, rfl⟩
        have HR := Lib.hid (fun w => right_any x 0 0 r w hr)
        have HRR := Lib.hid hr
        clear hr h4
        cases r with
        | true =>
        obtain ⟨y, hy⟩ : ∃ y : Ex, y = ⟨1, 1⟩ := ⟨_, rfl⟩
        have HS := Lib.hid (extF_step HXX.out HE.out (nextF_true HND.out HRR.out))
        rw [← hy] at HS
        have HYS := Lib.hid (show ((y.s : Nat) : Int) = 1 by rw [hy]; rfl)
        have HYD := Lib.hid (show ((y.d : Nat) : Int) = 1 by rw [hy]; rfl)
        clear hy
        go_wp2_with (first
          | (go_at_call 73; refine (HCN.out _).mono ?_; rintro e w' ⟨rfl, rfl⟩)
          | (go_at_call 74; refine (HR.out _).mono ?_; rintro e w2 ⟨rfl, hb2⟩; have HO1r := Lib.hid (own_below HO1.out hb2); have HO2r := Lib.hid (own_below HO2.out hb2); have HBr := Lib.hid (HB.out.trans (hb2.mono HB.out.size)); clear hb2)
          | (at_builtin; refine wpList_append_lies _ rfl (.tmp 78) (.tmp 80) 23 rfl w.heap.size 3 i0 _ 1 8 Tryz.underlying23 hi hz0 hz1 hz2 rfl (by decide) _ k (sCells E) rfl (HO1r.out.alloc _) ⟨w2.heap.size, 0, none⟩ 1 1 [.int .i64 1] rfl rfl ?pa1 ?pa2 (by decide) ?pa3 ?pa4 ?pa5 (w2.heap.size + 1) ?pa6 ?_))
        case pa1 => exact cells_new1 w2 _ rfl _ _
        case pa2 => intro u hu; simp only [List.mem_cons, List.not_mem_nil, or_false] at hu; rcases hu with rfl; rfl
        case pa3 => unfold maxLen; omega
        case pa4 => omega
        case pa5 => have := HBr.out.size; simp; omega
        case pa6 => simp
        intro g1 cap1 w3 ho1 hg1 hat1 _
        obtain ⟨o2, ne2⟩ := two_first HO2r.out HNE.out hg1 hat1
        have HO1s := Lib.hid ho1
        have HO2s := Lib.hid o2
        have HNEs := Lib.hid ne2
        have HBs := Lib.hid ((HBr.out.alloc HBr.out.size _).grown hg1 (by have := HBr.out.size; simp; omega) (fun j hj => (HO1r.out.lt j hj).1))
        clear ho1 o2 ne2 hg1 hat1
        go_wp2_with (at_builtin; refine wpList_append_lies _ rfl (.tmp 82) (.tmp 84) 23 rfl w.heap.size 3 i0 _ 1 8 Tryz.underlying23 hi hz0 hz1 hz2 rfl (by decide) _ k (dCells E) rfl (HO2s.out.alloc _) ⟨w3.heap.size, 0, none⟩ 1 1 [.int .i64 1] rfl rfl ?pb1 ?pb2 (by decide) ?pb3 ?pb4 ?pb5 (w3.heap.size + 1) ?pb6 ?_)
        case pb1 => exact cells_new1 w3 _ rfl _ _
        case pb2 => intro u hu; simp only [List.mem_cons, List.not_mem_nil, or_false] at hu; rcases hu with rfl; rfl
        case pb3 => unfold maxLen; omega
        case pb4 => omega
        case pb5 => have := HBs.out.size; simp; omega
        case pb6 => simp
        intro g2 cap2 w4 ho2 hg2 hat2 _
        obtain ⟨o1, ne1⟩ := two_second HO1s.out HNEs.out hg2 hat2
        have HO1t := Lib.hid o1
        have HO2t := Lib.hid ho2
        have HNEt := Lib.hid ne1
        have HBt := Lib.hid ((HBs.out.alloc HBs.out.size _).grown hg2 (by have := HBs.out.size; simp; omega) (fun j hj => (HO2s.out.lt j hj).1))
        clear o1 ne1 ho2 hg2 hat2
        go_wp2
        go_roundw
        case rel =>
          refine ⟨k + 1, by go_num, by omega, E ++ [y], HS.out, ?_, ?_, .inr HNEt.out, HBt.out⟩
          · rw [sCells_snoc, HYS.out]; exact HO1t.out
          · rw [dCells_snoc, HYD.out]; exact HO2t.out
        case measure => simp [intOf]; omega
        | false =>
        have HX := Lib.hid (extF_none HXX.out HE.out (nextF_false HND.out HRR.out))
        go_wp2_with (first
          | (go_at_call 73; refine (HCN.out _).mono ?_; rintro e w' ⟨rfl, rfl⟩)
          | (go_at_call 74; refine (HR.out _).mono ?_; rintro e w2 ⟨rfl, hb2⟩))
        all_goals refine bodyPost_ret (v := .tuple #[.slice none 0 0, .slice none 0 0, .bool false]) (by simp [results, Tryz.results48, go_sem]) rfl ⟨HB.out.trans (hb2.mono HB.out.size), .inl ⟨HX.out, rfl⟩⟩
      · rcases Nat.eq_zero_or_pos k with hk0 | hk0
        · subst hk0
          have HX := Lib.hid (extF_none HXX.out HE.out (nextF_needNone (by rw [List.eq_nil_of_length_eq_zero HEL.out]; exact need_none_nil (by omega))))
          obtain ⟨q, hq, hq2⟩ : ∃ q : Int, cnt x.k = q ∧ 0 < q := ⟨_, rfl, by have := HCK.out; omega⟩
          have HCN := Lib.hid (fun w => show Calls Tryz.prog 73 #[.int .u8 x.k] w fun e w' => e = .returned (.int .i64 q) ∧ w = w' by have := count_any x.k w; rwa [hq] at this)
          simp only [Nat.zero_mul, Addr.add_zero'] at d0
          clear hq h4 d1 d2 d3 d4
          go_wp2_with (go_at_call 73; refine (HCN.out _).mono ?_; rintro e w' ⟨rfl, rfl⟩)
          refine bodyPost_ret (v := .tuple #[.slice none 0 0, .slice none 0 0, .bool false]) (by simp [results, Tryz.results48, go_sem]) rfl ⟨HB.out, .inl ⟨HX.out, rfl⟩⟩
        · obtain ⟨m, rfl⟩ : ∃ m, k = m + 1 := ⟨k - 1, by omega⟩
          obtain ⟨e, he⟩ : ∃ e, E[m]? = some e := ⟨_, List.getElem?_eq_getElem (by rw [HEL.out]; omega)⟩
          have hee : E[E.length - 1]? = some e := by rw [HEL.out, Nat.add_sub_cancel]; exact he
          obtain ⟨ad1, rfl, _, g0⟩ := HL1.out.one (k := m) (u := .int .i64 (e.s : Nat)) (by rw [sCells, List.getElem?_map, he]; rfl)
          obtain ⟨ad2, rfl, _, g1⟩ := HL2.out.one (k := m) (u := .int .i64 (e.d : Nat)) (by rw [dCells, List.getElem?_map, he]; rfl)
          obtain ⟨z1, z2, z3, z4⟩ := HSZ.out _ _ he
          obtain ⟨es, hes⟩ : ∃ es, e.s = es := ⟨_, rfl⟩
          obtain ⟨ed, hed⟩ : ∃ ed, e.d = ed := ⟨_, rfl⟩
          rw [hes] at z1 z2 z4 g0
          rw [hed] at z3 z4 g1
          have hE0 : (E.length : Int) - 1 = m := by rw [HEL.out]; omega
          by_cases h6 : x.k ≤ 6
          · have HCN := Lib.hid (fun w => show Calls Tryz.prog 73 #[.int .u8 x.k] w fun e w' => e = .returned (.int .i64 1) ∧ w = w' by have := count_any x.k w; rwa [show cnt x.k = 1 by have := HCK.out; omega] at this)
            have HND := Lib.hid (need_one (by omega) h6 hee)
            rw [hE0, hes, hed] at HND
            obtain ⟨r, hr⟩ : ∃ r, (okK x.k && fitsF x.k x.n x.p && decide (x.a = m ∧ x.b = 0)) = r := ⟨_, rfl⟩
            have HR := Lib.hid (fun w => right_any x m 0 r w hr)
            have HRR := Lib.hid hr
            have q4 : es ≤ 60 := by omega
            have q5 : ed ≤ 60 := by omega
            clear hr h4 h6 he hee hE0 hes hed
            cases r with
            | true =>
            obtain ⟨y, hy⟩ : ∃ y : Ex, y = ⟨1 + es, ed + 1⟩ := ⟨_, rfl⟩
            have HS := Lib.hid (extF_step HXX.out HE.out (nextF_true HND.out HRR.out))
            rw [← hy] at HS
            have HYS := Lib.hid (show ((y.s : Nat) : Int) = 1 + es by rw [hy]; simp)
            have HYD := Lib.hid (show ((y.d : Nat) : Int) = 1 + ed by rw [hy]; simp; omega)
            clear hy
            go_wp2_with (first
              | (go_at_call 73; refine (HCN.out _).mono ?_; rintro e w' ⟨rfl, rfl⟩)
              | (go_at_call 74; refine (HR.out _).mono ?_; rintro e w2 ⟨rfl, hb2⟩; have HO1r := Lib.hid (own_below HO1.out hb2); have HO2r := Lib.hid (own_below HO2.out hb2); have HBr := Lib.hid (HB.out.trans (hb2.mono HB.out.size)); clear hb2)
              | (at_builtin; refine wpList_append_lies _ rfl (.tmp 78) (.tmp 80) 23 rfl w.heap.size 3 i0 _ 1 8 Tryz.underlying23 hi hz0 hz1 hz2 rfl (by decide) _ (m + 1) (sCells E) rfl (HO1r.out.alloc _) ⟨w2.heap.size, 0, none⟩ 1 1 [.int .i64 (1 + es)] rfl rfl ?qa1 ?qa2 (by decide) ?qa3 ?qa4 ?qa5 (w2.heap.size + 1) ?qa6 ?_))
            case qa1 => exact cells_new1 w2 _ rfl _ _
            case qa2 => intro u hu; simp only [List.mem_cons, List.not_mem_nil, or_false] at hu; rcases hu with rfl; rfl
            case qa3 => unfold maxLen; omega
            case qa4 => omega
            case qa5 => have := HBr.out.size; simp; omega
            case qa6 => simp
            intro g1 cap1 w3 ho1 hg1 hat1 _
            obtain ⟨o2, ne2⟩ := two_first HO2r.out HNE.out hg1 hat1
            have HO1s := Lib.hid ho1
            have HO2s := Lib.hid o2
            have HNEs := Lib.hid ne2
            have HBs := Lib.hid ((HBr.out.alloc HBr.out.size _).grown hg1 (by have := HBr.out.size; simp; omega) (fun j hj => (HO1r.out.lt j hj).1))
            clear ho1 o2 ne2 hg1 hat1
            go_wp2_with (at_builtin; refine wpList_append_lies _ rfl (.tmp 82) (.tmp 84) 23 rfl w.heap.size 3 i0 _ 1 8 Tryz.underlying23 hi hz0 hz1 hz2 rfl (by decide) _ (m + 1) (dCells E) rfl (HO2s.out.alloc _) ⟨w3.heap.size, 0, none⟩ 1 1 [.int .i64 (1 + ed)] rfl rfl ?qb1 ?qb2 (by decide) ?qb3 ?qb4 ?qb5 (w3.heap.size + 1) ?qb6 ?_)
            case qb1 => exact cells_new1 w3 _ rfl _ _
            case qb2 => intro u hu; simp only [List.mem_cons, List.not_mem_nil, or_false] at hu; rcases hu with rfl; rfl
            case qb3 => unfold maxLen; omega
            case qb4 => omega
            case qb5 => have := HBs.out.size; simp; omega
            case qb6 => simp
            intro g2 cap2 w4 ho2 hg2 hat2 _
            obtain ⟨o1, ne1⟩ := two_second HO1s.out HNEs.out hg2 hat2
            have HO1t := Lib.hid o1
            have HO2t := Lib.hid ho2
            have HNEt := Lib.hid ne1
            have HBt := Lib.hid ((HBs.out.alloc HBs.out.size _).grown hg2 (by have := HBs.out.size; simp; omega) (fun j hj => (HO2s.out.lt j hj).1))
            clear o1 ne1 ho2 hg2 hat2
            go_wp2
            go_roundw
            case rel =>
              refine ⟨(m + 1) + 1, by go_num, by omega, E ++ [y], HS.out, ?_, ?_, .inr HNEt.out, HBt.out⟩
              · rw [sCells_snoc, HYS.out]; exact HO1t.out
              · rw [dCells_snoc, HYD.out]; exact HO2t.out
            case measure => simp [intOf]; omega
            | false =>
            have HX := Lib.hid (extF_none HXX.out HE.out (nextF_false HND.out HRR.out))
            go_wp2_with (first
              | (go_at_call 73; refine (HCN.out _).mono ?_; rintro e w' ⟨rfl, rfl⟩)
              | (go_at_call 74; refine (HR.out _).mono ?_; rintro e w2 ⟨rfl, hb2⟩))
            all_goals refine bodyPost_ret (v := .tuple #[.slice none 0 0, .slice none 0 0, .bool false]) (by simp [results, Tryz.results48, go_sem]) rfl ⟨HB.out.trans (hb2.mono HB.out.size), .inl ⟨HX.out, rfl⟩⟩
          · have HCN := Lib.hid (fun w => show Calls Tryz.prog 73 #[.int .u8 x.k] w fun e w' => e = .returned (.int .i64 2) ∧ w = w' by have := count_any x.k w; rwa [show cnt x.k = 2 by have := HCK.out; omega] at this)
            by_cases hs : m < es
            · have HX := Lib.hid (extF_none HXX.out HE.out (nextF_needNone (need_none_big (by omega) hee (by rw [hes, HEL.out]; omega))))
              have q6 : (m : Int) - es < 0 := by omega
              have q4 : es ≤ 60 := by omega
              clear h4 h6 he hee hE0 hes hed
              go_wp2_with (go_at_call 73; refine (HCN.out _).mono ?_; rintro e w' ⟨rfl, rfl⟩)
              refine bodyPost_ret (v := .tuple #[.slice none 0 0, .slice none 0 0, .bool false]) (by simp [results, Tryz.results48, go_sem]) rfl ⟨HB.out, .inl ⟨HX.out, rfl⟩⟩
            · obtain ⟨q, rfl⟩ : ∃ q, m = q + es := ⟨m - es, by omega⟩
              obtain ⟨f, hf⟩ : ∃ f, E[q]? = some f := ⟨_, List.getElem?_eq_getElem (by rw [HEL.out]; omega)⟩
              have HND := Lib.hid (need_two (k := x.k) (E := E) (e := e) (f := f) (by omega) hee (by rw [HEL.out, hes]; omega) (by rw [HEL.out, hes, show q + es + 1 - 1 - es = q by omega]; exact hf))
              obtain ⟨_, ha1, _, g2⟩ := HL1.out.one (k := q) (u := .int .i64 (f.s : Nat)) (by rw [sCells, List.getElem?_map, hf]; rfl)
              obtain ⟨_, ha2, _, g3⟩ := HL2.out.one (k := q) (u := .int .i64 (f.d : Nat)) (by rw [dCells, List.getElem?_map, hf]; rfl)
              injection ha1 with ha1
              injection ha2 with ha2
              subst ha1 ha2
              obtain ⟨y1, y2, y3, y4⟩ := HSZ.out _ _ hf
              obtain ⟨fs, hfs⟩ : ∃ fs, f.s = fs := ⟨_, rfl⟩
              obtain ⟨fd, hfd⟩ : ∃ fd, f.d = fd := ⟨_, rfl⟩
              rw [hE0, hes, hed, hfs, hfd, show ((q + es : Nat) : Int) - es = q by omega, show ((q + es : Nat) : Int) = (q : Int) + es by omega] at HND
              rw [hfs] at y1 y2 y4 g2
              rw [hfd] at y3 y4 g3
              obtain ⟨r, hr⟩ : ∃ r, (okK x.k && fitsF x.k x.n x.p && decide (x.a = q ∧ x.b = (q : Int) + es)) = r := ⟨_, rfl⟩
              have HR := Lib.hid (fun w => right_any x q ((q : Int) + es) r w hr)
              have HRR := Lib.hid hr
              have q4 : es ≤ 60 := by omega
              have q5 : ed ≤ 60 := by omega
              have q4' : fs ≤ 60 := by omega
              have q5' : fd ≤ 60 := by omega
              clear hr h4 h6 he hee hE0 hes hed hf hfs hfd hs
              cases r with
              | true =>
              have HS0 := Lib.hid (extF_step HXX.out HE.out (nextF_true HND.out HRR.out))
              by_cases hx : ed < fd
              · obtain ⟨y, hy⟩ : ∃ y : Ex, y = ⟨1 + es + fs, max (ed + 1) (fd + 1)⟩ := ⟨_, rfl⟩
                have HS := Lib.hid (HS0.out)
                rw [← hy] at HS
                have HYS := Lib.hid (show ((y.s : Nat) : Int) = 1 + es + fs by rw [hy]; simp)
                have HYD := Lib.hid (show ((y.d : Nat) : Int) = 1 + fd by rw [hy]; simp only; omega)
                clear hy
                go_wp2_with (first
                  | (go_at_call 73; refine (HCN.out _).mono ?_; rintro e w' ⟨rfl, rfl⟩)
                  | (go_at_call 74; refine (HR.out _).mono ?_; rintro e w2 ⟨rfl, hb2⟩; have HO1r := Lib.hid (own_below HO1.out hb2); have HO2r := Lib.hid (own_below HO2.out hb2); have HBr := Lib.hid (HB.out.trans (hb2.mono HB.out.size)); clear hb2)
                  | (at_builtin; refine wpList_append_lies _ rfl (.tmp 78) (.tmp 80) 23 rfl w.heap.size 3 i0 _ 1 8 Tryz.underlying23 hi hz0 hz1 hz2 rfl (by decide) _ (q + es + 1) (sCells E) rfl (HO1r.out.alloc _) ⟨w2.heap.size, 0, none⟩ 1 1 [.int .i64 (1 + es + fs)] rfl rfl ?sa1 ?sa2 (by decide) ?sa3 ?sa4 ?sa5 (w2.heap.size + 1) ?sa6 ?_))
                case sa1 => exact cells_new1 w2 _ rfl _ _
                case sa2 => intro u hu; simp only [List.mem_cons, List.not_mem_nil, or_false] at hu; rcases hu with rfl; rfl
                case sa3 => unfold maxLen; omega
                case sa4 => omega
                case sa5 => have := HBr.out.size; simp; omega
                case sa6 => simp
                intro g1 cap1 w3 ho1 hg1 hat1 _
                obtain ⟨o2, ne2⟩ := two_first HO2r.out HNE.out hg1 hat1
                have HO1s := Lib.hid ho1
                have HO2s := Lib.hid o2
                have HNEs := Lib.hid ne2
                have HBs := Lib.hid ((HBr.out.alloc HBr.out.size _).grown hg1 (by have := HBr.out.size; simp; omega) (fun j hj => (HO1r.out.lt j hj).1))
                clear ho1 o2 ne2 hg1 hat1
                go_wp2_with (at_builtin; refine wpList_append_lies _ rfl (.tmp 82) (.tmp 84) 23 rfl w.heap.size 3 i0 _ 1 8 Tryz.underlying23 hi hz0 hz1 hz2 rfl (by decide) _ (q + es + 1) (dCells E) rfl (HO2s.out.alloc _) ⟨w3.heap.size, 0, none⟩ 1 1 [.int .i64 (1 + fd)] rfl rfl ?sb1 ?sb2 (by decide) ?sb3 ?sb4 ?sb5 (w3.heap.size + 1) ?sb6 ?_)
                case sb1 => exact cells_new1 w3 _ rfl _ _
                case sb2 => intro u hu; simp only [List.mem_cons, List.not_mem_nil, or_false] at hu; rcases hu with rfl; rfl
                case sb3 => unfold maxLen; omega
                case sb4 => omega
                case sb5 => have := HBs.out.size; simp; omega
                case sb6 => simp
                intro g2 cap2 w4 ho2 hg2 hat2 _
                obtain ⟨o1, ne1⟩ := two_second HO1s.out HNEs.out hg2 hat2
                have HO1t := Lib.hid o1
                have HO2t := Lib.hid ho2
                have HNEt := Lib.hid ne1
                have HBt := Lib.hid ((HBs.out.alloc HBs.out.size _).grown hg2 (by have := HBs.out.size; simp; omega) (fun j hj => (HO2s.out.lt j hj).1))
                clear o1 ne1 ho2 hg2 hat2
                go_wp2
                go_roundw
                case rel =>
                  refine ⟨(q + es + 1) + 1, by go_num, by omega, E ++ [y], HS.out, ?_, ?_, .inr HNEt.out, HBt.out⟩
                  · rw [sCells_snoc, HYS.out]; exact HO1t.out
                  · rw [dCells_snoc, HYD.out]; exact HO2t.out
                case measure => simp [intOf]; omega
              · obtain ⟨y, hy⟩ : ∃ y : Ex, y = ⟨1 + es + fs, max (ed + 1) (fd + 1)⟩ := ⟨_, rfl⟩
                have HS := Lib.hid (HS0.out)
                rw [← hy] at HS
                have HYS := Lib.hid (show ((y.s : Nat) : Int) = 1 + es + fs by rw [hy]; simp)
                have HYD := Lib.hid (show ((y.d : Nat) : Int) = 1 + ed by rw [hy]; simp only; omega)
                clear hy
                go_wp2_with (first
                  | (go_at_call 73; refine (HCN.out _).mono ?_; rintro e w' ⟨rfl, rfl⟩)
                  | (go_at_call 74; refine (HR.out _).mono ?_; rintro e w2 ⟨rfl, hb2⟩; have HO1r := Lib.hid (own_below HO1.out hb2); have HO2r := Lib.hid (own_below HO2.out hb2); have HBr := Lib.hid (HB.out.trans (hb2.mono HB.out.size)); clear hb2)
                  | (at_builtin; refine wpList_append_lies _ rfl (.tmp 78) (.tmp 80) 23 rfl w.heap.size 3 i0 _ 1 8 Tryz.underlying23 hi hz0 hz1 hz2 rfl (by decide) _ (q + es + 1) (sCells E) rfl (HO1r.out.alloc _) ⟨w2.heap.size, 0, none⟩ 1 1 [.int .i64 (1 + es + fs)] rfl rfl ?ta1 ?ta2 (by decide) ?ta3 ?ta4 ?ta5 (w2.heap.size + 1) ?ta6 ?_))
                case ta1 => exact cells_new1 w2 _ rfl _ _
                case ta2 => intro u hu; simp only [List.mem_cons, List.not_mem_nil, or_false] at hu; rcases hu with rfl; rfl
                case ta3 => unfold maxLen; omega
                case ta4 => omega
                case ta5 => have := HBr.out.size; simp; omega
                case ta6 => simp
                intro g1 cap1 w3 ho1 hg1 hat1 _
                obtain ⟨o2, ne2⟩ := two_first HO2r.out HNE.out hg1 hat1
                have HO1s := Lib.hid ho1
                have HO2s := Lib.hid o2
                have HNEs := Lib.hid ne2
                have HBs := Lib.hid ((HBr.out.alloc HBr.out.size _).grown hg1 (by have := HBr.out.size; simp; omega) (fun j hj => (HO1r.out.lt j hj).1))
                clear ho1 o2 ne2 hg1 hat1
                go_wp2_with (at_builtin; refine wpList_append_lies _ rfl (.tmp 82) (.tmp 84) 23 rfl w.heap.size 3 i0 _ 1 8 Tryz.underlying23 hi hz0 hz1 hz2 rfl (by decide) _ (q + es + 1) (dCells E) rfl (HO2s.out.alloc _) ⟨w3.heap.size, 0, none⟩ 1 1 [.int .i64 (1 + ed)] rfl rfl ?tb1 ?tb2 (by decide) ?tb3 ?tb4 ?tb5 (w3.heap.size + 1) ?tb6 ?_)
                case tb1 => exact cells_new1 w3 _ rfl _ _
                case tb2 => intro u hu; simp only [List.mem_cons, List.not_mem_nil, or_false] at hu; rcases hu with rfl; rfl
                case tb3 => unfold maxLen; omega
                case tb4 => omega
                case tb5 => have := HBs.out.size; simp; omega
                case tb6 => simp
                intro g2 cap2 w4 ho2 hg2 hat2 _
                obtain ⟨o1, ne1⟩ := two_second HO1s.out HNEs.out hg2 hat2
                have HO1t := Lib.hid o1
                have HO2t := Lib.hid ho2
                have HNEt := Lib.hid ne1
                have HBt := Lib.hid ((HBs.out.alloc HBs.out.size _).grown hg2 (by have := HBs.out.size; simp; omega) (fun j hj => (HO2s.out.lt j hj).1))
                clear o1 ne1 ho2 hg2 hat2
                go_wp2
                go_roundw
                case rel =>
                  refine ⟨(q + es + 1) + 1, by go_num, by omega, E ++ [y], HS.out, ?_, ?_, .inr HNEt.out, HBt.out⟩
                  · rw [sCells_snoc, HYS.out]; exact HO1t.out
                  · rw [dCells_snoc, HYD.out]; exact HO2t.out
                case measure => simp [intOf]; omega
              | false =>
              have HX := Lib.hid (extF_none HXX.out HE.out (nextF_false HND.out HRR.out))
              go_wp2_with (first
                | (go_at_call 73; refine (HCN.out _).mono ?_; rintro e w' ⟨rfl, rfl⟩)
                | (go_at_call 74; refine (HR.out _).mono ?_; rintro e w2 ⟨rfl, hb2⟩))
              all_goals refine bodyPost_ret (v := .tuple #[.slice none 0 0, .slice none 0 0, .bool false]) (by simp [results, Tryz.results48, go_sem]) rfl ⟨HB.out.trans (hb2.mono HB.out.size), .inl ⟨HX.out, rfl⟩⟩
    · obtain rfl : k = n := by omega
      have HE2 := Lib.hid (show extF L = some E by have := HE.out; rwa [List.take_of_length_le (by rw [HN.out]; exact Nat.le_refl _)] at this)
      have HL1 := Lib.hid (show Lies wr A1 (sCells E) from Lies.of_own HO1.out (by intro h0; rw [List.eq_nil_of_length_eq_zero (HEL.out.trans h0)]; rfl))
      have HL2 := Lib.hid (show Lies wr A2 (dCells E) from Lies.of_own HO2.out (by intro h0; rw [List.eq_nil_of_length_eq_zero (HEL.out.trans h0)]; rfl))
      rcases Nat.eq_zero_or_pos k with h0 | h0
      · subst h0
        have HD := Lib.hid (show decide (∃ y, E[0 - 1]? = some y ∧ y.s = 0) = false by rw [List.eq_nil_of_length_eq_zero HEL.out]; simp)
        go_wp2
        go_quiet (fail)
        go_wp2
        refine bodyPost_ret (v := .tuple #[.slice A1 0 c1, .slice A2 0 c2, .bool false]) (by simp [results, Tryz.results48, go_sem]) rfl ⟨Below.drewN' HB.out _, .inr ⟨E, A1, c1, A2, c2, HE2.out, by rw [HD.out], HL1.out, HL2.out⟩⟩
      · obtain ⟨m, rfl⟩ : ∃ m, k = m + 1 := ⟨k - 1, by omega⟩
        obtain ⟨e, he⟩ : ∃ e, E[m]? = some e := ⟨_, List.getElem?_eq_getElem (by rw [HEL.out]; omega)⟩
        obtain ⟨ad1, rfl, _, g0⟩ := HL1.out.one (k := m) (u := .int .i64 (e.s : Nat)) (by rw [sCells, List.getElem?_map, he]; rfl)
        have HD := Lib.hid (show decide (∃ y, E[m + 1 - 1]? = some y ∧ y.s = m + 1) = decide (e.s = m + 1) by rw [Nat.add_sub_cancel, he]; simp)
        obtain ⟨es, hes⟩ : ∃ es, e.s = es := ⟨_, rfl⟩
        rw [hes] at g0 HD
        have j1 : (0 : Int) ≤ m := by omega
        have j2 : (m : Int) < (m : Int) + 1 := by omega
        have j3 : (0 : Int) < (m : Int) + 1 := by omega
        clear he hes
        by_cases hs : es = m + 1
        · have HD2 := Lib.hid (HD.out.trans (decide_eq_true hs))
          have e1 : ((es : Int) == (m : Int) + 1) = true := by simp; omega
          clear hs
          go_wp2
          go_quiet (fail)
          go_wp2
          refine bodyPost_ret (v := .tuple #[.slice (some ad1) (m + 1) c1, .slice A2 (m + 1) c2, .bool true]) (by simp [results, Tryz.results48, go_sem]) rfl ⟨Below.drewN' HB.out _, .inr ⟨E, _, c1, A2, c2, HE2.out, by rw [HD2.out], HL1.out, HL2.out⟩⟩
        · have HD2 := Lib.hid (HD.out.trans (decide_eq_false hs))
          have e1 : ((es : Int) == (m : Int) + 1) = false := by simp; omega
          clear hs
          go_wp2
          go_quiet (fail)
          go_wp2
          refine bodyPost_ret (v := .tuple #[.slice (some ad1) (m + 1) c1, .slice A2 (m + 1) c2, .bool false]) (by simp [results, Tryz.results48, go_sem]) rfl ⟨Below.drewN' HB.out _, .inr ⟨E, _, c1, A2, c2, HE2.out, by rw [HD2.out], HL1.out, HL2.out⟩⟩
end Go.Proofs.YtlmamidodahgmaaGreatDoor.N4

/- NOpen: What an argument that is a slice of nodes reads as. -/
namespace Go.Proofs.YtlmamidodahgmaaGreatDoor.N4
open Go.ChangeShapes Go.WideShapes Go.ChangeAt Go.RowKit Go.Deep
set_option linter.unusedVariables false

theorem cell_lt {w : World} {p : Addr} {v : Value} (h : w.cell? p = some v) : p.block < w.heap.size := by
  rcases Nat.lt_or_ge p.block w.heap.size with hl | hl
  · exact hl
  · unfold World.cell? at h
    rw [Array.getElem?_eq_none hl] at h
    simp at h

section
variable {H : Type} {enc : TypeId × Value → H} {W : World} {sp : Nat → Bool} {held : Bool}
theorem nd_cells : Tryz.prog.cellsOf 58 = 5 := by kernel_rfl
theorem u8_cells : Tryz.prog.cellsOf 5 = 1 := by kernel_rfl
theorem i64_cells : Tryz.prog.cellsOf 2 = 1 := by kernel_rfl
theorem int_cells : Tryz.prog.cellsOf 3 = 1 := by kernel_rfl

set_option maxRecDepth 100000 in
theorem open_nd {n : Nat} {cs : List Value} {x : DataW H × List MemPlace} (h : DataW.trod enc Tryz.prog W 0 sp held n 58 cs = some x) : ∃ x : Nd, cs = ndC x := by
  obtain ⟨xs, n', _, _, hlen, hxl, hf⟩ := DataW.trod_struct Tryz.underlying58 h
  rw [nd_cells] at hlen
  match cs, hlen with
  | [c0, c1, c2, c3, c4], _ =>
    have h0 : DataW.trod enc Tryz.prog W 0 sp held n' 5 (([c0, c1, c2, c3, c4].drop 0).take (Tryz.prog.cellsOf 5)) = xs[0]? := hf 0 _ rfl
    have h1 : DataW.trod enc Tryz.prog W 0 sp held n' 2 (([c0, c1, c2, c3, c4].drop 1).take (Tryz.prog.cellsOf 2)) = xs[1]? := hf 1 _ rfl
    have h2 : DataW.trod enc Tryz.prog W 0 sp held n' 3 (([c0, c1, c2, c3, c4].drop 2).take (Tryz.prog.cellsOf 3)) = xs[2]? := hf 2 _ rfl
    have h3 : DataW.trod enc Tryz.prog W 0 sp held n' 3 (([c0, c1, c2, c3, c4].drop 3).take (Tryz.prog.cellsOf 3)) = xs[3]? := hf 3 _ rfl
    have h4 : DataW.trod enc Tryz.prog W 0 sp held n' 3 (([c0, c1, c2, c3, c4].drop 4).take (Tryz.prog.cellsOf 3)) = xs[4]? := hf 4 _ rfl
    simp only [u8_cells, i64_cells, int_cells, List.drop_zero, List.drop_succ_cons, List.take_succ_cons, List.take_zero] at h0 h1 h2 h3 h4
    match xs, hxl with
    | [y0, y1, y2, y3, y4], _ =>
      obtain ⟨k, e0, _⟩ := DataW.trod_int Tryz.underlying5 h0
      obtain ⟨n, e1, _⟩ := DataW.trod_int Tryz.underlying2 h1
      obtain ⟨a, e2, _⟩ := DataW.trod_int Tryz.underlying3 h2
      obtain ⟨b, e3, _⟩ := DataW.trod_int Tryz.underlying3 h3
      obtain ⟨p, e4, _⟩ := DataW.trod_int Tryz.underlying3 h4
      simp only [List.cons.injEq, and_true] at e0 e1 e2 e3 e4
      subst e0 e1 e2 e3 e4
      exact ⟨⟨k, n, a, b, p⟩, rfl⟩
theorem nds_of_cells (a : Addr) (len : Nat) (hi : ∀ i, i < len → ∃ x : Nd, ∀ j u, (ndC x)[j]? = some u → W.cell? (a.add (i * 5 + j)) = some u) :
    ∃ L : List Nd, L.length = len ∧ Lies W (some a) (ndCells L) := by
  have key : ∀ m, m ≤ len → ∃ L : List Nd, L.length = m ∧ ∀ j u, (ndCells L)[j]? = some u → W.cell? (a.add j) = some u := by
    intro m
    induction m with
    | zero => intro _; exact ⟨[], rfl, by intro j u h; simp [ndCells] at h⟩
    | succ m ih =>
      intro hm
      obtain ⟨L, hL, hc⟩ := ih (by omega)
      obtain ⟨x, hx⟩ := hi m (by omega)
      refine ⟨L ++ [x], by simp [hL], ?_⟩
      intro j u h
      rw [ndCells_snoc] at h
      have hl := ndCells_length L
      rw [hL] at hl
      rcases Nat.lt_or_ge j (m * 5) with hj | hj
      · rw [List.getElem?_append_left (by omega)] at h
        exact hc j u h
      · rw [List.getElem?_append_right (by omega), hl] at h
        have := hx _ _ h
        rwa [show m * 5 + (j - m * 5) = j by omega] at this
  obtain ⟨L, hL, hc⟩ := key len (Nat.le_refl _)
  refine ⟨L, hL, ?_⟩
  rcases Nat.eq_zero_or_pos len with h0 | h0
  · exact .inl (by rw [List.eq_nil_of_length_eq_zero (show L.length = 0 by omega)]; rfl)
  · obtain ⟨x, hx⟩ := hi 0 h0
    have c0 := hx 0 (.int .u8 x.k) rfl
    refine .inr ⟨a, rfl, ?_, hc⟩
    have := cell_lt c0
    rwa [add_block] at this
set_option maxRecDepth 100000 in
theorem open_nds {r : Reach} {b0 : Nat} {v : Value} {d : DataW H} {ps : List MemPlace} (hval : Value.okWide Tryz.prog W r b0 22 v) (hd : DataW.Trod enc Tryz.prog W 0 (fun _ => true) held 22 v d ps) :
    ∃ (A : Option Addr) (c : Nat) (L : List Nd), v = .slice A L.length c ∧ L.length ≤ maxLen ∧ Lies W A (ndCells L) ∧ L.length ≤ c ∧ ((A = none ∧ c = 0 ∧ L = []) ∨ ∃ ad, A = some ad) := by
  obtain ⟨A, n, c, rfl⟩ := okWide_slice Tryz.underlying22 hval
  obtain ⟨fuel, hf⟩ := hd
  rcases open_slice Tryz.underlying22 hf with ⟨hc, _⟩ | ⟨a, len, cap, m, nn, D, Pl, hc, hb, hl, hm, hmm, hx, hi⟩
  · simp [Value.cells] at hc
    obtain ⟨rfl, rfl, rfl⟩ := hc
    exact ⟨none, 0, [], rfl, Nat.zero_le _, .inl rfl, Nat.le_refl _, .inl ⟨rfl, rfl, rfl⟩⟩
  · simp [Value.cells] at hc
    obtain ⟨rfl, rfl, rfl⟩ := hc
    simp only [if_true] at hmm
    subst hmm
    obtain ⟨L, hL, ht⟩ := nds_of_cells (W := W) a n (fun i hin => by
      obtain ⟨cs, hcs, htr⟩ := hi i (by omega)
      rw [nd_cells] at hcs
      obtain ⟨x, rfl⟩ := open_nd htr
      obtain ⟨_, _, hat⟩ := World.cells?_some hcs
      refine ⟨x, fun j u hu => ?_⟩
      have hj : j < 5 := (List.getElem?_eq_some_iff.1 hu).1
      have := hat j hj
      rw [add_add'] at this
      rw [this]; exact hu)
    exact ⟨some a, m, L, by rw [hL], by omega, ht, by omega, .inr ⟨a, rfl⟩⟩
end
end Go.Proofs.YtlmamidodahgmaaGreatDoor.N4
