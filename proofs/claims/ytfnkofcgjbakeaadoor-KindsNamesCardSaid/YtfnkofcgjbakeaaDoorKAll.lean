/- The contract of All. -/
import Derived.Test.YtfnkofcgjbakeaaDoorKOf
namespace Go.Proofs.YtfnkofcgjbakeaaDoor.K6
open Go.ChangeShapes Go.WideShapes Go.ChangeAt Go.RowKit N4
set_option linter.unusedVariables false
set_option maxRecDepth 100000

def bCells (B : List Bool) : List Value := B.map fun b => .bool b
def truF (L : List Nd) : List Bool := L.map fun x => gvK x.k
theorem bool_info : (Tryd.prog.info? 4).map (fun i => (i.zero, i.size, i.bytes)) = some (some (.bool false), 1, 1) := by kernel_rfl
theorem bCells_length (B : List Bool) : (bCells B).length = B.length := by simp [bCells]
theorem bCells_snoc (B : List Bool) (b : Bool) : bCells (B ++ [b]) = bCells B ++ [.bool b] := by simp [bCells]
theorem set1_take (xs : List Value) (k : Nat) (v : Value) (h : k < xs.length) : (xs.set k v).take (k + 1) = xs.take k ++ [v] := by
  rw [List.take_succ_eq_append_getElem (by simpa using h), List.take_set_of_le (Nat.le_refl _), List.getElem_set_self]
def BRel (w : World) (M : List Bool) (n k : Nat) (wr : World) : Prop :=
  ∃ xs, wr.ownsRow w.heap.size 4 1 (.slice (some ⟨w.heap.size, 0, none⟩) n n) n xs ∧ xs.take k = bCells (M.take k) ∧ Below w.heap.size w wr
theorem own_one {w : World} {base g n cap : Nat} {e : TypeId} {xs : List Value} (h : w.ownsRow base e 1 (.slice (some ⟨g, 0, none⟩) n cap) n xs) (k : Nat) (hk : k < n) :
    (∃ v0, w.cell? ⟨g, k, none⟩ = some v0) ∧ w.frozen? ⟨g, k, none⟩ = false := by
  have hl : xs.length = n * 1 := h.1
  exact ⟨⟨_, (h.cellAt k (by omega)).trans (List.getElem?_eq_getElem (by omega))⟩, h.frozenAt _⟩
theorem brel_step {w : World} {M : List Bool} {n k : Nat} {wr : World} {xs : List Value} {y : Bool} (ho : wr.ownsRow w.heap.size 4 1 (.slice (some ⟨w.heap.size, 0, none⟩) n n) n xs) (hx : xs.take k = bCells (M.take k)) (hb : Below w.heap.size w wr) (hy : M[k]? = some y) (hk : k < n) :
    BRel w M n (k + 1) (wr.setCell ⟨w.heap.size, k, none⟩ (.bool y)) := by
  refine ⟨_, (ho.stored k (.bool y)).1, ?_, hb.setCell (Nat.le_refl _) _⟩
  have hl : xs.length = n * 1 := ho.1
  obtain ⟨hlt, e⟩ := List.getElem?_eq_some_iff.1 hy
  rw [set1_take xs k _ (by omega), hx, List.take_succ_eq_append_getElem hlt, e, bCells_snoc]
def APost (w : World) (L : List Nd) (n : Nat) (e : Ending) (w' : World) : Prop :=
  ∃ ad, e = .returned (.tuple #[.slice (some ad) n n, .int .i64 0]) ∧ Lies w' (some ad) (bCells (truF L)) ∧ Below w.heap.size w w'
theorem all_bad (A : Option Addr) (c n : Nat) (L : List Nd) (w : World) (hs : SigT w) (hn : L.length = n) (hL : n ≤ maxLen) (ht : Lies w A (ndCells L)) (t : Bool) (a v : Int) (h : ofF L = (t, a, v)) (h0 : v ≠ 0) :
    Calls Tryd.prog 16 #[.slice A n c] w fun e w' => e = .returned (.tuple #[.slice none 0 0, .int .i64 v]) ∧ Below w.heap.size w w' := by
  have HO := Lib.hid (of_any A c n L w hs hn hL ht t a v h)
  have hne := errno_ne h0
  clear hs hn hL ht h h0
  go_enter Tryd.func16, Tryd.ntmps16
  go_wp2_with (go_at_call 12; refine HO.out.mono ?_; rintro e w1 ⟨rfl, hb⟩)
  go_ret2
  exact ⟨rfl, hb⟩
set_option maxHeartbeats 1000000 in
theorem all_ok (A : Option Addr) (c n : Nat) (L : List Nd) (w : World) (hs : SigT w) (hn : L.length = n) (h60 : n ≤ 60) (ht : Lies w A (ndCells L)) (t : Bool) (a : Int) (h : ofF L = (t, a, 0)) (hk : ∀ x ∈ L, 1 ≤ x.k ∧ x.k ≤ 19) :
    Calls Tryd.prog 16 #[.slice A n c] w (APost w L n) := by
  have HOF := Lib.hid (of_any A c n L w hs hn (by unfold maxLen; omega) ht t a 0 h)
  have HS := Lib.hid hs
  have HT := Lib.hid ht
  have HN := Lib.hid hn
  have HK := Lib.hid hk
  obtain ⟨i0, hi, hz0, hz1, hz2⟩ := info_parts bool_info
  clear hs hn ht h hk
  go_enter Tryd.func16, Tryd.ntmps16
  go_wp2_with (first
    | (go_at_call 12; refine HOF.out.mono ?_; rintro e w1 ⟨rfl, hb⟩; have HB0 := Lib.hid hb; clear hb)
    | (refine wpList_make_full _ rfl _ _ 34 rfl w1.heap.size 4 i0 _ 1 Tryd.underlying34 hi hz0 hz1 .i64 .i64 _ _ n rfl rfl (by rfl) (by rfl) ?c1 ?c2 ?c3 ?_))
  case c1 => rw [hz2]; omega
  case c2 => unfold maxLen; omega
  case c3 => exact Nat.le_refl _
  intro w2 hown1 hgw
  have HB1 := Lib.hid (show Below w1.heap.size w1 w2 from (Below.refl _ _).grown hgw (Nat.le_refl _) (fun j hj => by cases hj))
  have HO1 := Lib.hid hown1
  clear hown1 hgw HOF
  go_wp2
  go_loopw [24] (fun i wr => ∃ k : Nat, i = .int .i64 k ∧ k ≤ n ∧ BRel w1 (truF L) n k wr) (fun i _ => n - (intOf i).toNat)
  case atStart => exact ⟨0, rfl, Nat.zero_le _, _, HO1.out, by simp [bCells], HB1.out⟩
  case round =>
    obtain ⟨k, rfl, hk, xs, hown, hxs, hb⟩ := hrel
    have HO := Lib.hid hown
    have HX := Lib.hid hxs
    have HB := Lib.hid hb
    clear hown hxs hb HO1 HB1
    by_cases hlt : k < n
    · obtain ⟨x, hx⟩ : ∃ x, L[k]? = some x := ⟨_, List.getElem?_eq_getElem (by rw [HN.out]; exact hlt)⟩
      have HL := Lib.hid hx
      have HBB := Lib.hid (HB0.out.trans (HB.out.mono HB0.out.size))
      obtain ⟨ad, rfl, hadl, c0, c1, c2, c3, c4⟩ := (HT.out.below HBB.out).nd hx
      have hab : (ad.add (k * 5)).block < wr.heap.size := by rw [add_block]; exact hadl
      obtain ⟨v, hv⟩ : ∃ v, gvK x.k = v := ⟨_, rfl⟩
      have HV := Lib.hid hv
      have HU := Lib.hid (fun w' (h1 : Below w.heap.size w w') => gives_any x w' (HS.out.stays h1) (HK.out x (List.mem_of_getElem? HL.out)).1 (HK.out x (List.mem_of_getElem? HL.out)).2 v hv)
      clear hx hadl hv
      go_wp2_with (go_at_call 38; refine (HU.out _ (HBB.out.alloc HBB.out.size _)).mono ?_; rintro e w3 ⟨rfl, hb2⟩; have HO2 := Lib.hid (own_below (HO.out.alloc _) hb2); obtain ⟨⟨v0, d0⟩, f0⟩ := own_one HO2.out k hlt; have HB2 := Lib.hid ((HB.out.alloc HB.out.size _).trans (hb2.mono (by have := HB.out.size; simp; omega))); clear hb2)
      go_roundw
      case rel => exact ⟨k + 1, by go_num, by omega, brel_step HO2.out HX.out HB2.out (by unfold truF; rw [List.getElem?_map, HL.out, ← HV.out]; rfl) hlt⟩
      case measure => simp [intOf]; omega
    · obtain rfl : k = n := by omega
      have HZ := Lib.hid (show xs = bCells (truF L) by
        have := HX.out
        rwa [List.take_of_length_le (by have := HO.out.1; omega), List.take_of_length_le (by unfold truF; rw [List.length_map, HN.out]; exact Nat.le_refl _)] at this)
      go_wp2
      go_ret2
      refine ⟨⟨w1.heap.size, 0, none⟩, rfl, ?_, HB0.out.trans (HB.out.mono HB0.out.size)⟩
      rw [← HZ.out]
      exact Lies.of_own HO.out (by intro h0; exact List.eq_nil_of_length_eq_zero (by have := HO.out.1; omega))
end Go.Proofs.YtfnkofcgjbakeaaDoor.K6
