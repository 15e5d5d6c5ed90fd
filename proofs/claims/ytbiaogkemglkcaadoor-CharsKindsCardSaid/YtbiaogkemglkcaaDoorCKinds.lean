/- The walk of CharsKinds. -/
import Derived.Test.YtbiaogkemglkcaaDoorCGood
namespace Go.Proofs.YtbiaogkemglkcaaDoor
open Go.ChangeShapes Go.WideShapes Go.ChangeAt Go.RowKit
set_option linter.unusedVariables false

theorem zero_256 (w : World) : (zeroValue 34).run Tryd.prog w = .ok (.agg (Array.replicate 256 (.int .i64 0))) w := by kernel_rfl
def cnt : Nat → Nat → Nat
  | 0, _ => 0
  | k + 1, j => cnt k j + if kindI k = j then 1 else 0
theorem cnt_le (k j : Nat) : cnt k j ≤ k := by
  induction k with
  | zero => exact Nat.le_refl _
  | succ k ih => simp only [cnt]; split <;> omega
def Cnts (w : World) (B k : Nat) : Prop := B < w.heap.size ∧ ∀ j, j < 5 → w.cell? ⟨B, j, none⟩ = some (.int .i64 (cnt k j)) ∧ w.frozen? ⟨B, j, none⟩ = false
theorem Cnts.stays {w w' : World} {B k : Nat} (h : Cnts w B k) (hb : Below w.heap.size w w') : Cnts w' B k :=
  ⟨by have := hb.size; have := h.1; omega, fun j hj => ⟨(hb.cell (p := ⟨B, j, none⟩) h.1).trans (h.2 j hj).1, (hb.frozen (p := ⟨B, j, none⟩) h.1).trans (h.2 j hj).2⟩⟩
theorem Cnts.bump {w : World} {B k v : Nat} (h : Cnts w B k) (hv : kindI k = v) (h5 : v < 5) : Cnts (w.setCell ⟨B, v, none⟩ (.int .i64 ((cnt k v : Int) + 1))) B (k + 1) := by
  refine ⟨by simpa using h.1, fun j hj => ⟨?_, (World.frozen?_setCell _ _ _ _).trans (h.2 j hj).2⟩⟩
  by_cases e : j = v
  · subst e
    rw [World.cell?_setCell_same _ _ _ (h.2 j hj).1]
    simp [cnt, hv]
  · rw [World.cell?_setCell_other _ _ _ _ (by intro h; injection h; omega), (h.2 j hj).1]
    have : ¬ (v : Int) = (j : Int) := by omega
    simp [cnt, hv, this]
theorem kind_32 (w0 w : World) (h : Good w0 w) : Calls Tryd.prog 16 #[.int .u8 32] w fun e w' => e = .returned (.int .u8 1) ∧ Below w.heap.size w w' ∧ Good w0 w' :=
  kind_g 32 1 w0 w (by decide) h
theorem kind_10 (w0 w : World) (h : Good w0 w) : Calls Tryd.prog 16 #[.int .u8 10] w fun e w' => e = .returned (.int .u8 1) ∧ Below w.heap.size w w' ∧ Good w0 w' :=
  kind_g 10 1 w0 w (by decide) h
theorem Good.of {w w' : World} (h : Tabs w) (hb : Below w.heap.size w w') : Good w w' := ⟨hb, h.stays hb⟩

set_option maxHeartbeats 1000000 in
set_option maxRecDepth 100000 in
theorem CharsKinds_walk (w : World) (ht : Tabs w) :
    Calls Tryd.prog 5 #[] w fun e w' => e = .returned (.bool true) ∧ Below w.heap.size w w' := by
  suffices hh : Calls Tryd.prog 5 #[] w fun e w' => e = .returned (.bool true) ∧ Good w w' from hh.mono fun e w' ⟨he, hg⟩ => ⟨he, hg.1⟩
  have hg := Good.start ht
  have hz := zero_256
  go_enter Tryd.func5, Tryd.ntmps5
  go_wp2
  clear hz
  go_loopw [2] (fun i wr => ∃ k : Nat, k ≤ 256 ∧ i = .int .i64 k ∧ Cnts wr w.heap.size k ∧ Good w wr) (fun i _ => 256 - (intOf i).toNat)
  case atStart =>
    refine ⟨0, Nat.zero_le _, rfl, ⟨by simp, fun j hj => ⟨?_, ?_⟩⟩, Good.of ht ((Below.refl _ _).alloc (Nat.le_refl _) _)⟩
    · rw [cell_of_row _ w.heap.size j (Array.replicate 256 (.int .i64 0)) 34 (0, 0) (by show (w.heap.push _)[w.heap.size]? = _; simp)]
      rw [Array.getElem?_replicate, if_pos (by omega)]; rfl
    · go_simp
  case round =>
    obtain ⟨k, hk, rfl, hc, hg⟩ := hrel
    by_cases hlt : k < 256
    · obtain ⟨v, hv, h5⟩ : ∃ v : Nat, kindI k = v ∧ v < 5 := ⟨(kindI k).toNat, by have := kind_range k; omega, by have := kind_range k; omega⟩
      have K := Lib.hid hv
      have CN := Lib.hid hc
      have hle := cnt_le k v
      clear hv hc
      go_wp2_with (go_at_call 16; refine (kind_g _ _ w _ K.out (by assumption)).mono ?_; rintro e w1 ⟨rfl, hb1, hg1⟩; obtain ⟨hc, hf⟩ := (CN.out.stays hb1).2 v h5)
      go_roundw
      case rel => exact ⟨k + 1, by omega, by go_num, (CN.out.stays hb1).bump K.out h5, Good.of ht (hg1.1.setCell (Nat.le_refl _) _)⟩
      case measure => simp [intOf]; omega
    · have hk6 : k = 256 := by omega
      have CN : Hid (Cnts wr w.heap.size 256) := Lib.hid (by rw [← hk6]; exact hc)
      clear hc hk hk6
      go_wp2
      go_loopw [3] (fun i wr => ∃ k : Nat, 48 ≤ k ∧ k ≤ 58 ∧ i = .int .u8 k ∧ Cnts wr w.heap.size 256 ∧ Good w wr) (fun i _ => 58 - (intOf i).toNat)
      case atStart => exact ⟨48, by omega, by omega, rfl, CN.out, hg⟩
      case round =>
        clear hg CN
        obtain ⟨k, hk0, hk, rfl, hc, hg⟩ := hrel
        have CN := Lib.hid hc
        clear hc
        by_cases hlt : k ≤ 57
        · have K := Lib.hid (kind_digit k (by omega) (by omega))
          go_wp2_with (go_at_call 16; refine (kind_g _ _ w _ K.out (by assumption)).mono ?_; rintro e w1 ⟨rfl, hb1, hg1⟩)
          go_roundw
          case rel => exact ⟨k + 1, by omega, by omega, by go_num, CN.out.stays hb1, hg1⟩
          case measure => simp [intOf]; omega
        · clear hk hk0
          go_wp2
          go_loopw [4] (fun i wr => ∃ k : Nat, 97 ≤ k ∧ k ≤ 123 ∧ i = .int .u8 k ∧ Cnts wr w.heap.size 256 ∧ Good w wr) (fun i _ => 123 - (intOf i).toNat)
          case atStart => exact ⟨97, by omega, by omega, rfl, CN.out, hg⟩
          case round =>
            clear hg CN
            obtain ⟨k, hk0, hk, rfl, hc, hg⟩ := hrel
            have CN := Lib.hid hc
            clear hc
            by_cases hlt : k ≤ 122
            · have K := Lib.hid (kind_letter k (by omega) (by omega))
              go_wp2_with (go_at_call 16; refine (kind_g _ _ w _ K.out (by assumption)).mono ?_; rintro e w1 ⟨rfl, hb1, hg1⟩)
              go_roundw
              case rel => exact ⟨k + 1, by omega, by omega, by go_num, CN.out.stays hb1, hg1⟩
              case measure => simp [intOf]; omega
            · clear hk hk0
              have c0 := CN.out.2 0 (by omega)
              have c1 := CN.out.2 1 (by omega)
              have c2 := CN.out.2 2 (by omega)
              have c3 := CN.out.2 3 (by omega)
              have c4 := CN.out.2 4 (by omega)
              rw [show cnt 256 0 = 209 by decide +kernel] at c0
              rw [show cnt 256 1 = 2 by decide +kernel] at c1
              rw [show cnt 256 2 = 10 by decide +kernel] at c2
              rw [show cnt 256 3 = 26 by decide +kernel] at c3
              rw [show cnt 256 4 = 9 by decide +kernel] at c4
              replace c0 := c0.1
              replace c1 := c1.1
              replace c2 := c2.1
              replace c3 := c3.1
              replace c4 := c4.1
              go_wp2_with (first
                | (go_at_call 16; ((first | (with_reducible refine (kind_32 w _ (by assumption)).mono ?_) | (with_reducible refine (kind_10 w _ (by assumption)).mono ?_)); rintro e w' ⟨rfl, _, hg⟩))
                | (go_at_call 14; refine (alive_g w _ (by assumption)).mono ?_; rintro e w' ⟨rfl, _, hg⟩))
              go_ret
              exact ⟨rfl, by assumption⟩
end Go.Proofs.YtbiaogkemglkcaaDoor
