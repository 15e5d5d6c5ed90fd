/- ClausesNames walks to true. -/
import Derived.Test.YtaijhkfbfkdepaaDoorQNm0
import Derived.Deep.RegionHeld3
import Derived.Outline
import Derived.Tactics2
import Derived.Deep.DeepCutAuto
import Derived.Deep.CutBlock
namespace Go.Proofs.YtaijhkfbfkdepaaDoor.Q8
open Go.ChangeShapes Go.WideShapes Go.ChangeAt Go.RowKit N4
set_option linter.unusedVariables false
set_option linter.unusedSimpArgs false
set_option maxRecDepth 100000

section
variable {P : Program} {ops : Array Oper} {Q : Exit → Act → World → Prop} {md : Region.Mode} {S : World → Prop}
theorem take_yes' {i d : Nat} {oi : Oper} {v : Value} {fuel : Nat} {listed : Array Bool} {a : Act} {w : World} (hi : ops[i]? = some oi) (hd : oi.dst = some d)
    (hs : Region.noSelect ops = true) (hf : Region.free md ops listed i = true) (hr : (Region.ready md ops listed).contains i = true)
    (hQ : ∀ c a w, Q (.panic c) (a.put (some d) v) w → Q (.panic c) a w) (hw : Region.wanted oi (yielded ops a.tmps) = true) (hv : ∀ w, S w → (execOp a.eval oi).run P w = .ok (.value v) w) (hS : S w)
    (h : wpAnyH P md ops Q S fuel (listed.setIfInBounds i true) (a.put (some d) v) w) : wpAnyH P md ops Q S (fuel + 1) listed a w :=
  wpAnyH_take hi hs hf hr (by rw [hd]; exact hQ) (Or.inl ⟨hw, hv⟩) hS (by rw [hd]; exact h)
end
theorem lies_row {W : World} {base : Nat} {e : TypeId} {size n a ca : Nat} {cs : List Value} (h : W.ownsRow base e size (.slice (some ⟨a, 0, none⟩) n ca) n cs) : Lies W (some ⟨a, 0, none⟩) cs := by
  refine Lies.of_own h (fun h0 => ?_)
  have := h.1
  rw [h0, Nat.zero_mul] at this
  exact List.eq_nil_of_length_eq_zero this
theorem lies_set {W : World} {g : Nat} {cs : List Value} (h : Lies W (some ⟨g, 0, none⟩) cs) {b : Nat} (hne : b ≠ g) (j : Nat) (v : Value) : Lies (W.setCell ⟨b, j, none⟩ v) (some ⟨g, 0, none⟩) cs := by
  rcases h with h0 | ⟨ad, h1, h2, h3⟩
  · exact .inl h0
  · injection h1 with h1
    subst h1
    refine .inr ⟨_, rfl, by simpa using h2, fun i u hu => ?_⟩
    rw [World.cell?_setCell_far _ _ _ _ (by rw [add_block]; exact hne)]
    exact h3 i u hu
/-- What the switch leaves: a query that is not valid, and its error. -/
def RS (w : World) (s6 s7 : Value) (W : World) : Prop :=
  ∃ bq, ∃ (g1 : Int) (A1 : Option Addr) (n1 c1 : Nat) (S1 : Option Addr) (m1 d1 : Nat) (j1 : Bool) (B1 : Option Addr) (o1 e1 : Nat) (k1 s1 v1 : Int) (y1 : Bool) (t1 : Int) (L1 M1 : List Nd) (l1 : List Int) (want : Int),
    s6 = .pointer (some ⟨bq, 0, none⟩) ∧ s7 = .int .i64 want ∧ QT w bq g1 A1 n1 c1 S1 m1 d1 j1 B1 o1 e1 k1 s1 v1 y1 t1 L1 M1 l1 W ∧ chkF ⟨g1, L1, l1, j1, M1, k1, s1, v1, y1, t1⟩ = want ∧ want ≠ 0 ∧ s1 ≤ 9223372036854775807
theorem nm_chk0 : chkF ⟨0, [vN], [1, 0], false, [vN], 1, 5, 0, false, 2⟩ = 8 := by decide
theorem nm_chk1 : chkF ⟨5, [vN], [1, 0], false, [vN], 1, 5, 0, false, 2⟩ = 8 := by decide
theorem nm_chk2 : chkF ⟨2, [vN], [1, 0], false, [vN], 1, 5, 0, false, 0⟩ = 8 := by decide
theorem nm_chk3 : chkF ⟨2, [vN], [1, 0], false, [vN], 1, 5, 0, false, 3⟩ = 8 := by decide
theorem nm_chk4 : chkF ⟨1, [vN], [1, 0], false, [vN], 1, 5, 0, false, 2⟩ = 8 := by decide
theorem nm_chk5 : chkF ⟨2, [], [1, 0], false, [vN], 1, 5, 0, false, 2⟩ = 8 := by decide
theorem nm_chk6 : chkF ⟨2, [vN], [1, 0], false, [⟨0, 0, 0, 0, 0⟩], 1, 5, 0, false, 2⟩ = 8 := by decide
theorem nm_chk7 : chkF ⟨2, [vN], [1, 0], false, (List.replicate 61 ⟨0, 0, 0, 0, 0⟩), 1, 5, 0, false, 2⟩ = 4 := by decide +kernel
theorem nm_chk8 : chkF ⟨2, [vN], [], false, [vN], 1, 5, 0, false, 2⟩ = 8 := by decide
theorem nm_chk9 : chkF ⟨2, [vN], [1, 1], false, [vN], 1, 5, 0, false, 2⟩ = 43 := by decide
theorem nm_chk10 : chkF ⟨2, [vN], [1, 0], false, [vN], 1, 0, 0, false, 2⟩ = 8 := by decide
theorem nm_chk11 : chkF ⟨2, [vN], [1, 0], true, [vN], 3, 5, 0, false, 2⟩ = 8 := by decide
theorem nm_chk12 : chkF ⟨2, [vN], [0], true, [vN], 1, 5, 0, false, 2⟩ = 8 := by decide
set_option maxHeartbeats 40000000 in
theorem ClausesNames_walk (w : World) (hT : NamT w) : Calls Tryd.prog 3 #[] w fun e w' => e = .returned (.bool true) ∧ Below w.heap.size w w' := by
  have HT := Lib.hid hT
  have H52 := Lib.hid (fun W => win_any 3 1073741824 0 W (by decide) 0 (by decide))
  have HSL0 := Lib.hid (fun W => slide_any 1073741824 1073741824 W (by decide) 0 (by decide))
  have HSL1 := Lib.hid (fun W => slide_any 16 1 W (by decide) 0 (by decide))
  have HSL2 := Lib.hid (fun W => slide_any 1073741824 67108864 W (by decide) 0 (by decide))
  have HSL3 := Lib.hid (fun W => slide_any 1073741824 67108863 W (by decide) 8 (by decide))
  have HSO0 := Lib.hid (fun A W ht => src_any A 4 4 [0, 1, 2, 3] false W rfl ht 0 (by decide))
  have HSO1 := Lib.hid (fun A W ht => src_any A 5 5 [0, 1, 2, 3, 9] true W rfl ht 4 (by decide))
  have HSO2 := Lib.hid (fun W => src_any none 0 0 [] false W rfl (.inl rfl) 8 (by decide))
  have HSO3 := Lib.hid (fun A W ht => src_any A 3 3 [0, 0, 4] false W rfl ht 8 (by decide))
  have HSO4 := Lib.hid (fun A W ht => src_any A 1 1 [-1] false W rfl ht 8 (by decide))
  have HSO5 := Lib.hid (fun A W ht => src_any A 2 2 [3, 3] true W rfl ht 43 (by decide))
  have HSO6 := Lib.hid (fun A W ht => src_any A 3 3 [0, 1, 2] true W rfl ht 8 (by decide))
  have HSO7 := Lib.hid (fun A W ht => src_any A 3 3 [0, 1, 0] false W rfl ht 43 (by decide))
  have HW0 := Lib.hid (lies_vals w w.heap.size rfl (wnCells wins).toArray 23 (wnCells wins) (by simp))
  clear hT
  go_enter Tryd.func3, Tryd.ntmps3
  go_wp2
  go_loopw [2] (fun iv wr => ∃ k : Nat, iv = .int .i64 k ∧ k ≤ 12 ∧ Hid (Bl w wr) ∧ Hid (Lies wr (some ⟨w.heap.size, 0, none⟩) (wnCells wins))) (fun iv _ => 12 - (intOf iv).toNat)
  case atStart => exact ⟨0, rfl, Nat.zero_le _, (Bl.start w).al _, HW0.out⟩
  case round =>
    obtain ⟨k, rfl, hk, HB, HL⟩ := hrel
    clear HW0
    by_cases hlt : k < 12
    · obtain ⟨x, hx⟩ : ∃ x, wins[k]? = some x := ⟨_, List.getElem?_eq_getElem hlt⟩
      obtain ⟨c0, c1, c2, c3⟩ := lies_win0 HL.out hx
      obtain ⟨e1, e2⟩ := wins_bad x (List.mem_of_getElem? hx)
      have HW := Lib.hid (fun W => win_any x.1 x.2.1 x.2.2 W e2 8 e1)
      clear hx e1 e2
      obtain ⟨x1, x2, x3⟩ := x
      simp only at c1 c2 c3 HW
      have j1 : (0 : Int) ≤ k := by omega
      have j2 : (k : Int) < 12 := by omega
      go_wp2_with (go_at_call 6; (with_reducible refine (HW.out _).mono ?_); rintro e w1 ⟨rfl, hb⟩; have HB1 := Lib.hid (HB.out.step hb); have HL1 := Lib.hid (HL.out.below hb); clear hb)
      go_roundw
      case rel => exact ⟨k + 1, by go_num, by omega, HB1, HL1⟩
      case measure => simp [intOf]; omega
    · obtain rfl : 12 = k := by omega
      have b0 := HB.out
      clear HL HB hlt
      go_wp2_with (first
        | (go_at_call 6; ((with_reducible refine (H52.out _).mono ?_); rintro e w1 ⟨rfl, hb⟩; have b1 := b0.step hb; clear hb b0 H52))
                | (go_at_call 7; ((with_reducible refine (HSL0.out _).mono ?_); rintro e w2 ⟨rfl, hb⟩; have b2 := b1.step hb; clear hb b1 HSL0))
                | (go_at_call 7; ((with_reducible refine (HSL1.out _).mono ?_); rintro e w3 ⟨rfl, hb⟩; have b3 := b2.step hb; clear hb b2 HSL1))
                | (go_at_call 7; ((with_reducible refine (HSL2.out _).mono ?_); rintro e w4 ⟨rfl, hb⟩; have b4 := b3.step hb; clear hb b3 HSL2))
                | (go_at_call 7; ((with_reducible refine (HSL3.out _).mono ?_); rintro e w5 ⟨rfl, hb⟩; have b5 := b4.step hb; clear hb b4 HSL3))
                | (go_at_call 8; ((with_reducible refine (HSO0.out _ _ (lies_vals w5 _ rfl #[.int .i64 (0), .int .i64 (1), .int .i64 (2), .int .i64 (3)] _ (iC [(0), (1), (2), (3)]) rfl)).mono ?_); rintro e w6 ⟨rfl, hb⟩; have b6 := (b5.al _).step hb; clear hb b5 HSO0))
                | (go_at_call 8; ((with_reducible refine (HSO1.out _ _ (lies_vals w6 _ rfl #[.int .i64 (0), .int .i64 (1), .int .i64 (2), .int .i64 (3), .int .i64 (9)] _ (iC [(0), (1), (2), (3), (9)]) rfl)).mono ?_); rintro e w7 ⟨rfl, hb⟩; have b7 := (b6.al _).step hb; clear hb b6 HSO1))
                | (go_at_call 8; ((with_reducible refine (HSO2.out _).mono ?_); rintro e w8 ⟨rfl, hb⟩; have b8 := b7.step hb; clear hb b7 HSO2))
                | (go_at_call 8; ((with_reducible refine (HSO3.out _ _ (lies_vals w8 _ rfl #[.int .i64 (0), .int .i64 (0), .int .i64 (4)] _ (iC [(0), (0), (4)]) rfl)).mono ?_); rintro e w9 ⟨rfl, hb⟩; have b9 := (b8.al _).step hb; clear hb b8 HSO3))
                | (go_at_call 8; ((with_reducible refine (HSO4.out _ _ (lies_vals w9 _ rfl #[.int .i64 (-1)] _ (iC [(-1)]) rfl)).mono ?_); rintro e w10 ⟨rfl, hb⟩; have b10 := (b9.al _).step hb; clear hb b9 HSO4))
                | (go_at_call 8; ((with_reducible refine (HSO5.out _ _ (lies_vals w10 _ rfl #[.int .i64 (3), .int .i64 (3)] _ (iC [(3), (3)]) rfl)).mono ?_); rintro e w11 ⟨rfl, hb⟩; have b11 := (b10.al _).step hb; clear hb b10 HSO5))
                | (go_at_call 8; ((with_reducible refine (HSO6.out _ _ (lies_vals w11 _ rfl #[.int .i64 (0), .int .i64 (1), .int .i64 (2)] _ (iC [(0), (1), (2)]) rfl)).mono ?_); rintro e w12 ⟨rfl, hb⟩; have b12 := (b11.al _).step hb; clear hb b11 HSO6))
                | (go_at_call 8; ((with_reducible refine (HSO7.out _ _ (lies_vals w12 _ rfl #[.int .i64 (0), .int .i64 (1), .int .i64 (0)] _ (iC [(0), (1), (0)]) rfl)).mono ?_); rintro e w13 ⟨rfl, hb⟩; have b13 := (b12.al _).step hb; clear hb b12 HSO7)))
      have HB0 := Lib.hid b13
      clear b13
      go_loopw [5] (fun iv wr => ∃ k : Nat, iv = .int .i64 k ∧ k ≤ 13 ∧ Hid (Bl w wr)) (fun iv _ => 13 - (intOf iv).toNat)
      case atStart => exact ⟨0, rfl, Nat.zero_le _, HB0⟩
      case round =>
        obtain ⟨k, rfl, hk, HB⟩ := hrel
        clear HB0
        by_cases hlt : k < 13
        · have hc : k = 0 ∨ k = 1 ∨ k = 2 ∨ k = 3 ∨ k = 4 ∨ k = 5 ∨ k = 6 ∨ k = 7 ∨ k = 8 ∨ k = 9 ∨ k = 10 ∨ k = 11 ∨ k = 12 := by omega
          go_upto_block 4 with (go_at_call 9; refine (good_any _).mono ?_; rintro e w1 ⟨a, b, rfl, hg, hb⟩; have HB1 := Lib.hid (HB.out.step hb); have HG1 := Lib.hid hg; clear hb hg)
          go_cut [6, 7] (fun s6 s7 W => RS w s6 s7 W)
          case first =>
            rcases hc with hc | hc | hc | hc | hc | hc | hc | hc | hc | hc | hc | hc | hc
            · have t0 : ((k : Int) == 0) = true := by rw [hc]; rfl
              clear hc
              have hck := nm_chk0
              go_wp2
              have HQ : ∀ W, Below w1.heap.size w1 W → QX w w1.heap.size 0 (some ⟨a, 0, none⟩) 1 1 (some ⟨b, 0, none⟩) 2 2 false (some ⟨a, 0, none⟩) 1 1 1 5 0 false 2 W → (True) → QT w w1.heap.size 0 (some ⟨a, 0, none⟩) 1 1 (some ⟨b, 0, none⟩) 2 2 false (some ⟨a, 0, none⟩) 1 1 1 5 0 false 2 [vN] [vN] [1, 0] W := fun W hb hx hq => ⟨hx, HG1.out.step hb⟩
              go_meet
              exact ⟨w1.heap.size, 0, (some ⟨a, 0, none⟩), 1, 1, (some ⟨b, 0, none⟩), 2, 2, false, (some ⟨a, 0, none⟩), 1, 1, 1, 5, 0, false, 2, [vN], [vN], [1, 0], 8, rfl, rfl, HQ _ (by repeat (first | exact Below.refl _ _ | refine Below.alloc ?_ (by simp <;> omega) _ | refine Below.setCell ?_ (by simp <;> omega) _ | refine Below.drew ?_)) ⟨HB1.out.step (by repeat (first | exact Below.refl _ _ | refine Below.alloc ?_ (by simp <;> omega) _ | refine Below.setCell ?_ (by simp <;> omega) _ | refine Below.drew ?_)), by simp <;> omega, by go_simp, by go_simp, by go_simp, by go_simp, by go_simp, by go_simp, by go_simp, by go_simp, by go_simp, by go_simp⟩ (trivial), hck, by decide, by decide⟩
            · have t0 : ((k : Int) == 0) = false := by rw [hc]; rfl
              have t1 : ((k : Int) == 1) = true := by rw [hc]; rfl
              clear hc
              have hck := nm_chk1
              go_wp2
              have HQ : ∀ W, Below w1.heap.size w1 W → QX w w1.heap.size 5 (some ⟨a, 0, none⟩) 1 1 (some ⟨b, 0, none⟩) 2 2 false (some ⟨a, 0, none⟩) 1 1 1 5 0 false 2 W → (True) → QT w w1.heap.size 5 (some ⟨a, 0, none⟩) 1 1 (some ⟨b, 0, none⟩) 2 2 false (some ⟨a, 0, none⟩) 1 1 1 5 0 false 2 [vN] [vN] [1, 0] W := fun W hb hx hq => ⟨hx, HG1.out.step hb⟩
              go_meet
              exact ⟨w1.heap.size, 5, (some ⟨a, 0, none⟩), 1, 1, (some ⟨b, 0, none⟩), 2, 2, false, (some ⟨a, 0, none⟩), 1, 1, 1, 5, 0, false, 2, [vN], [vN], [1, 0], 8, rfl, rfl, HQ _ (by repeat (first | exact Below.refl _ _ | refine Below.alloc ?_ (by simp <;> omega) _ | refine Below.setCell ?_ (by simp <;> omega) _ | refine Below.drew ?_)) ⟨HB1.out.step (by repeat (first | exact Below.refl _ _ | refine Below.alloc ?_ (by simp <;> omega) _ | refine Below.setCell ?_ (by simp <;> omega) _ | refine Below.drew ?_)), by simp <;> omega, by go_simp, by go_simp, by go_simp, by go_simp, by go_simp, by go_simp, by go_simp, by go_simp, by go_simp, by go_simp⟩ (trivial), hck, by decide, by decide⟩
            · have t0 : ((k : Int) == 0) = false := by rw [hc]; rfl
              have t1 : ((k : Int) == 1) = false := by rw [hc]; rfl
              have t2 : ((k : Int) == 2) = true := by rw [hc]; rfl
              clear hc
              have hck := nm_chk2
              go_wp2
              have HQ : ∀ W, Below w1.heap.size w1 W → QX w w1.heap.size 2 (some ⟨a, 0, none⟩) 1 1 (some ⟨b, 0, none⟩) 2 2 false (some ⟨a, 0, none⟩) 1 1 1 5 0 false 0 W → (True) → QT w w1.heap.size 2 (some ⟨a, 0, none⟩) 1 1 (some ⟨b, 0, none⟩) 2 2 false (some ⟨a, 0, none⟩) 1 1 1 5 0 false 0 [vN] [vN] [1, 0] W := fun W hb hx hq => ⟨hx, HG1.out.step hb⟩
              go_meet
              exact ⟨w1.heap.size, 2, (some ⟨a, 0, none⟩), 1, 1, (some ⟨b, 0, none⟩), 2, 2, false, (some ⟨a, 0, none⟩), 1, 1, 1, 5, 0, false, 0, [vN], [vN], [1, 0], 8, rfl, rfl, HQ _ (by repeat (first | exact Below.refl _ _ | refine Below.alloc ?_ (by simp <;> omega) _ | refine Below.setCell ?_ (by simp <;> omega) _ | refine Below.drew ?_)) ⟨HB1.out.step (by repeat (first | exact Below.refl _ _ | refine Below.alloc ?_ (by simp <;> omega) _ | refine Below.setCell ?_ (by simp <;> omega) _ | refine Below.drew ?_)), by simp <;> omega, by go_simp, by go_simp, by go_simp, by go_simp, by go_simp, by go_simp, by go_simp, by go_simp, by go_simp, by go_simp⟩ (trivial), hck, by decide, by decide⟩
            · have t0 : ((k : Int) == 0) = false := by rw [hc]; rfl
              have t1 : ((k : Int) == 1) = false := by rw [hc]; rfl
              have t2 : ((k : Int) == 2) = false := by rw [hc]; rfl
              have t3 : ((k : Int) == 3) = true := by rw [hc]; rfl
              clear hc
              have hck := nm_chk3
              go_wp2
              have HQ : ∀ W, Below w1.heap.size w1 W → QX w w1.heap.size 2 (some ⟨a, 0, none⟩) 1 1 (some ⟨b, 0, none⟩) 2 2 false (some ⟨a, 0, none⟩) 1 1 1 5 0 false 3 W → (True) → QT w w1.heap.size 2 (some ⟨a, 0, none⟩) 1 1 (some ⟨b, 0, none⟩) 2 2 false (some ⟨a, 0, none⟩) 1 1 1 5 0 false 3 [vN] [vN] [1, 0] W := fun W hb hx hq => ⟨hx, HG1.out.step hb⟩
              go_meet
              exact ⟨w1.heap.size, 2, (some ⟨a, 0, none⟩), 1, 1, (some ⟨b, 0, none⟩), 2, 2, false, (some ⟨a, 0, none⟩), 1, 1, 1, 5, 0, false, 3, [vN], [vN], [1, 0], 8, rfl, rfl, HQ _ (by repeat (first | exact Below.refl _ _ | refine Below.alloc ?_ (by simp <;> omega) _ | refine Below.setCell ?_ (by simp <;> omega) _ | refine Below.drew ?_)) ⟨HB1.out.step (by repeat (first | exact Below.refl _ _ | refine Below.alloc ?_ (by simp <;> omega) _ | refine Below.setCell ?_ (by simp <;> omega) _ | refine Below.drew ?_)), by simp <;> omega, by go_simp, by go_simp, by go_simp, by go_simp, by go_simp, by go_simp, by go_simp, by go_simp, by go_simp, by go_simp⟩ (trivial), hck, by decide, by decide⟩
            · have t0 : ((k : Int) == 0) = false := by rw [hc]; rfl
              have t1 : ((k : Int) == 1) = false := by rw [hc]; rfl
              have t2 : ((k : Int) == 2) = false := by rw [hc]; rfl
              have t3 : ((k : Int) == 3) = false := by rw [hc]; rfl
              have t4 : ((k : Int) == 4) = true := by rw [hc]; rfl
              clear hc
              have hck := nm_chk4
              go_wp2
              have HQ : ∀ W, Below w1.heap.size w1 W → QX w w1.heap.size 1 (some ⟨a, 0, none⟩) 1 1 (some ⟨b, 0, none⟩) 2 2 false (some ⟨a, 0, none⟩) 1 1 1 5 0 false 2 W → (True) → QT w w1.heap.size 1 (some ⟨a, 0, none⟩) 1 1 (some ⟨b, 0, none⟩) 2 2 false (some ⟨a, 0, none⟩) 1 1 1 5 0 false 2 [vN] [vN] [1, 0] W := fun W hb hx hq => ⟨hx, HG1.out.step hb⟩
              go_meet
              exact ⟨w1.heap.size, 1, (some ⟨a, 0, none⟩), 1, 1, (some ⟨b, 0, none⟩), 2, 2, false, (some ⟨a, 0, none⟩), 1, 1, 1, 5, 0, false, 2, [vN], [vN], [1, 0], 8, rfl, rfl, HQ _ (by repeat (first | exact Below.refl _ _ | refine Below.alloc ?_ (by simp <;> omega) _ | refine Below.setCell ?_ (by simp <;> omega) _ | refine Below.drew ?_)) ⟨HB1.out.step (by repeat (first | exact Below.refl _ _ | refine Below.alloc ?_ (by simp <;> omega) _ | refine Below.setCell ?_ (by simp <;> omega) _ | refine Below.drew ?_)), by simp <;> omega, by go_simp, by go_simp, by go_simp, by go_simp, by go_simp, by go_simp, by go_simp, by go_simp, by go_simp, by go_simp⟩ (trivial), hck, by decide, by decide⟩
            · have t0 : ((k : Int) == 0) = false := by rw [hc]; rfl
              have t1 : ((k : Int) == 1) = false := by rw [hc]; rfl
              have t2 : ((k : Int) == 2) = false := by rw [hc]; rfl
              have t3 : ((k : Int) == 3) = false := by rw [hc]; rfl
              have t4 : ((k : Int) == 4) = false := by rw [hc]; rfl
              have t5 : ((k : Int) == 5) = true := by rw [hc]; rfl
              clear hc
              have hck := nm_chk5
              go_wp2
              have HQ : ∀ W, Below w1.heap.size w1 W → QX w w1.heap.size 2 none 0 0 (some ⟨b, 0, none⟩) 2 2 false (some ⟨a, 0, none⟩) 1 1 1 5 0 false 2 W → (True) → QT w w1.heap.size 2 none 0 0 (some ⟨b, 0, none⟩) 2 2 false (some ⟨a, 0, none⟩) 1 1 1 5 0 false 2 [] [vN] [1, 0] W := fun W hb hx hq => ⟨hx, ⟨.inl rfl, rfl, by decide⟩, (HG1.out.step hb).2.1, (HG1.out.step hb).2.2⟩
              go_meet
              exact ⟨w1.heap.size, 2, none, 0, 0, (some ⟨b, 0, none⟩), 2, 2, false, (some ⟨a, 0, none⟩), 1, 1, 1, 5, 0, false, 2, [], [vN], [1, 0], 8, rfl, rfl, HQ _ (by repeat (first | exact Below.refl _ _ | refine Below.alloc ?_ (by simp <;> omega) _ | refine Below.setCell ?_ (by simp <;> omega) _ | refine Below.drew ?_)) ⟨HB1.out.step (by repeat (first | exact Below.refl _ _ | refine Below.alloc ?_ (by simp <;> omega) _ | refine Below.setCell ?_ (by simp <;> omega) _ | refine Below.drew ?_)), by simp <;> omega, by go_simp, by go_simp, by go_simp, by go_simp, by go_simp, by go_simp, by go_simp, by go_simp, by go_simp, by go_simp⟩ (trivial), hck, by decide, by decide⟩
            · have t0 : ((k : Int) == 0) = false := by rw [hc]; rfl
              have t1 : ((k : Int) == 1) = false := by rw [hc]; rfl
              have t2 : ((k : Int) == 2) = false := by rw [hc]; rfl
              have t3 : ((k : Int) == 3) = false := by rw [hc]; rfl
              have t4 : ((k : Int) == 4) = false := by rw [hc]; rfl
              have t5 : ((k : Int) == 5) = false := by rw [hc]; rfl
              have t6 : ((k : Int) == 6) = true := by rw [hc]; rfl
              clear hc
              have hck := nm_chk6
              go_wp2
              have HQ : ∀ W, Below w1.heap.size w1 W → QX w w1.heap.size 2 (some ⟨a, 0, none⟩) 1 1 (some ⟨b, 0, none⟩) 2 2 false (some ⟨w1.heap.size + 1, 0, none⟩) 1 1 1 5 0 false 2 W → (Lies W (some ⟨w1.heap.size + 1, 0, none⟩) (ndCells [⟨0, 0, 0, 0, 0⟩])) → QT w w1.heap.size 2 (some ⟨a, 0, none⟩) 1 1 (some ⟨b, 0, none⟩) 2 2 false (some ⟨w1.heap.size + 1, 0, none⟩) 1 1 1 5 0 false 2 [vN] [⟨0, 0, 0, 0, 0⟩] [1, 0] W := fun W hb hx hq => ⟨hx, (HG1.out.step hb).1, (HG1.out.step hb).2.1, ⟨hq, rfl, by decide⟩⟩
              go_meet
              exact ⟨w1.heap.size, 2, (some ⟨a, 0, none⟩), 1, 1, (some ⟨b, 0, none⟩), 2, 2, false, (some ⟨w1.heap.size + 1, 0, none⟩), 1, 1, 1, 5, 0, false, 2, [vN], [⟨0, 0, 0, 0, 0⟩], [1, 0], 8, rfl, rfl, HQ _ (by repeat (first | exact Below.refl _ _ | refine Below.alloc ?_ (by simp <;> omega) _ | refine Below.setCell ?_ (by simp <;> omega) _ | refine Below.drew ?_)) ⟨HB1.out.step (by repeat (first | exact Below.refl _ _ | refine Below.alloc ?_ (by simp <;> omega) _ | refine Below.setCell ?_ (by simp <;> omega) _ | refine Below.drew ?_)), by simp <;> omega, by go_simp, by go_simp, by go_simp, by go_simp, by go_simp, by go_simp, by go_simp, by go_simp, by go_simp, by go_simp⟩ (lies_vals _ _ (by simp) _ _ _ rfl), hck, by decide, by decide⟩
            · have t0 : ((k : Int) == 0) = false := by rw [hc]; rfl
              have t1 : ((k : Int) == 1) = false := by rw [hc]; rfl
              have t2 : ((k : Int) == 2) = false := by rw [hc]; rfl
              have t3 : ((k : Int) == 3) = false := by rw [hc]; rfl
              have t4 : ((k : Int) == 4) = false := by rw [hc]; rfl
              have t5 : ((k : Int) == 5) = false := by rw [hc]; rfl
              have t6 : ((k : Int) == 6) = false := by rw [hc]; rfl
              have t7 : ((k : Int) == 7) = true := by rw [hc]; rfl
              clear hc
              have hck := nm_chk7
              obtain ⟨i0, hi, hz0, hz1, hz2⟩ := info_parts nd_info
              go_wp2_with ((refine wpList_make_full _ rfl _ _ 30 rfl w1.heap.size 35 i0 _ 5 Tryd.underlying30 hi hz0 hz1 .i64 .i64 _ _ 61 rfl rfl (by rfl) (by rfl) ?m1 ?m2 ?m3 ?_))
              case m1 => rw [hz2]; omega
              case m2 => unfold maxLen; omega
              case m3 => simp
              intro w2 hown hgw
              have hb2 := Below.grown (Below.refl _ _) hgw (Nat.le_refl _) (fun j hj => (by cases hj))
              have HR := Lib.hid (show Lies w2 (some ⟨w1.heap.size + 1, 0, none⟩) (ndCells (List.replicate 61 ⟨0, 0, 0, 0, 0⟩)) from by have := lies_row hown; rwa [made_61] at this)
              have HB2 := Lib.hid (show Below w1.heap.size w1 w2 from ((Below.refl _ _).alloc (Nat.le_refl _) _).trans (hb2.mono (by simp)))
              obtain ⟨hcc, hff⟩ := bcell hb2
              have hz2 := hb2.size
              simp at hz2
              clear hown hgw hb2
              go_wp2
              have HQ : ∀ W, Below w1.heap.size w1 W → QX w w1.heap.size 2 (some ⟨a, 0, none⟩) 1 1 (some ⟨b, 0, none⟩) 2 2 false (some ⟨w1.heap.size + 1, 0, none⟩) 61 61 1 5 0 false 2 W → (Lies W (some ⟨w1.heap.size + 1, 0, none⟩) (ndCells (List.replicate 61 ⟨0, 0, 0, 0, 0⟩))) → QT w w1.heap.size 2 (some ⟨a, 0, none⟩) 1 1 (some ⟨b, 0, none⟩) 2 2 false (some ⟨w1.heap.size + 1, 0, none⟩) 61 61 1 5 0 false 2 [vN] (List.replicate 61 ⟨0, 0, 0, 0, 0⟩) [1, 0] W := fun W hb hx hq => ⟨hx, (HG1.out.step hb).1, (HG1.out.step hb).2.1, ⟨hq, rfl, by decide⟩⟩
              go_meet
              exact ⟨w1.heap.size, 2, (some ⟨a, 0, none⟩), 1, 1, (some ⟨b, 0, none⟩), 2, 2, false, (some ⟨w1.heap.size + 1, 0, none⟩), 61, 61, 1, 5, 0, false, 2, [vN], (List.replicate 61 ⟨0, 0, 0, 0, 0⟩), [1, 0], 4, rfl, rfl, HQ _ (HB2.out.setCell (by simp) _) ⟨HB1.out.step (HB2.out.setCell (by simp) _), by simp <;> omega, by go_simp, by go_simp, by go_simp, by go_simp, by go_simp, by go_simp, by go_simp, by go_simp, by go_simp, by go_simp⟩ (lies_set HR.out (by simp [add_block]) _ _), hck, by decide, by decide⟩
            · have t0 : ((k : Int) == 0) = false := by rw [hc]; rfl
              have t1 : ((k : Int) == 1) = false := by rw [hc]; rfl
              have t2 : ((k : Int) == 2) = false := by rw [hc]; rfl
              have t3 : ((k : Int) == 3) = false := by rw [hc]; rfl
              have t4 : ((k : Int) == 4) = false := by rw [hc]; rfl
              have t5 : ((k : Int) == 5) = false := by rw [hc]; rfl
              have t6 : ((k : Int) == 6) = false := by rw [hc]; rfl
              have t7 : ((k : Int) == 7) = false := by rw [hc]; rfl
              have t8 : ((k : Int) == 8) = true := by rw [hc]; rfl
              clear hc
              have hck := nm_chk8
              go_wp2
              have HQ : ∀ W, Below w1.heap.size w1 W → QX w w1.heap.size 2 (some ⟨a, 0, none⟩) 1 1 none 0 0 false (some ⟨a, 0, none⟩) 1 1 1 5 0 false 2 W → (True) → QT w w1.heap.size 2 (some ⟨a, 0, none⟩) 1 1 none 0 0 false (some ⟨a, 0, none⟩) 1 1 1 5 0 false 2 [vN] [vN] [] W := fun W hb hx hq => ⟨hx, (HG1.out.step hb).1, ⟨.inl rfl, rfl⟩, (HG1.out.step hb).2.2⟩
              go_meet
              exact ⟨w1.heap.size, 2, (some ⟨a, 0, none⟩), 1, 1, none, 0, 0, false, (some ⟨a, 0, none⟩), 1, 1, 1, 5, 0, false, 2, [vN], [vN], [], 8, rfl, rfl, HQ _ (by repeat (first | exact Below.refl _ _ | refine Below.alloc ?_ (by simp <;> omega) _ | refine Below.setCell ?_ (by simp <;> omega) _ | refine Below.drew ?_)) ⟨HB1.out.step (by repeat (first | exact Below.refl _ _ | refine Below.alloc ?_ (by simp <;> omega) _ | refine Below.setCell ?_ (by simp <;> omega) _ | refine Below.drew ?_)), by simp <;> omega, by go_simp, by go_simp, by go_simp, by go_simp, by go_simp, by go_simp, by go_simp, by go_simp, by go_simp, by go_simp⟩ (trivial), hck, by decide, by decide⟩
            · have t0 : ((k : Int) == 0) = false := by rw [hc]; rfl
              have t1 : ((k : Int) == 1) = false := by rw [hc]; rfl
              have t2 : ((k : Int) == 2) = false := by rw [hc]; rfl
              have t3 : ((k : Int) == 3) = false := by rw [hc]; rfl
              have t4 : ((k : Int) == 4) = false := by rw [hc]; rfl
              have t5 : ((k : Int) == 5) = false := by rw [hc]; rfl
              have t6 : ((k : Int) == 6) = false := by rw [hc]; rfl
              have t7 : ((k : Int) == 7) = false := by rw [hc]; rfl
              have t8 : ((k : Int) == 8) = false := by rw [hc]; rfl
              have t9 : ((k : Int) == 9) = true := by rw [hc]; rfl
              clear hc
              have hck := nm_chk9
              go_wp2
              have HQ : ∀ W, Below w1.heap.size w1 W → QX w w1.heap.size 2 (some ⟨a, 0, none⟩) 1 1 (some ⟨w1.heap.size + 1, 0, none⟩) 2 2 false (some ⟨a, 0, none⟩) 1 1 1 5 0 false 2 W → (Lies W (some ⟨w1.heap.size + 1, 0, none⟩) (iC [1, 1])) → QT w w1.heap.size 2 (some ⟨a, 0, none⟩) 1 1 (some ⟨w1.heap.size + 1, 0, none⟩) 2 2 false (some ⟨a, 0, none⟩) 1 1 1 5 0 false 2 [vN] [vN] [1, 1] W := fun W hb hx hq => ⟨hx, (HG1.out.step hb).1, ⟨hq, rfl⟩, (HG1.out.step hb).2.2⟩
              go_meet
              exact ⟨w1.heap.size, 2, (some ⟨a, 0, none⟩), 1, 1, (some ⟨w1.heap.size + 1, 0, none⟩), 2, 2, false, (some ⟨a, 0, none⟩), 1, 1, 1, 5, 0, false, 2, [vN], [vN], [1, 1], 43, rfl, rfl, HQ _ (by repeat (first | exact Below.refl _ _ | refine Below.alloc ?_ (by simp <;> omega) _ | refine Below.setCell ?_ (by simp <;> omega) _ | refine Below.drew ?_)) ⟨HB1.out.step (by repeat (first | exact Below.refl _ _ | refine Below.alloc ?_ (by simp <;> omega) _ | refine Below.setCell ?_ (by simp <;> omega) _ | refine Below.drew ?_)), by simp <;> omega, by go_simp, by go_simp, by go_simp, by go_simp, by go_simp, by go_simp, by go_simp, by go_simp, by go_simp, by go_simp⟩ (lies_vals _ _ (by simp) _ _ _ rfl), hck, by decide, by decide⟩
            · have t0 : ((k : Int) == 0) = false := by rw [hc]; rfl
              have t1 : ((k : Int) == 1) = false := by rw [hc]; rfl
              have t2 : ((k : Int) == 2) = false := by rw [hc]; rfl
              have t3 : ((k : Int) == 3) = false := by rw [hc]; rfl
              have t4 : ((k : Int) == 4) = false := by rw [hc]; rfl
              have t5 : ((k : Int) == 5) = false := by rw [hc]; rfl
              have t6 : ((k : Int) == 6) = false := by rw [hc]; rfl
              have t7 : ((k : Int) == 7) = false := by rw [hc]; rfl
              have t8 : ((k : Int) == 8) = false := by rw [hc]; rfl
              have t9 : ((k : Int) == 9) = false := by rw [hc]; rfl
              have t10 : ((k : Int) == 10) = true := by rw [hc]; rfl
              clear hc
              have hck := nm_chk10
              go_wp2
              have HQ : ∀ W, Below w1.heap.size w1 W → QX w w1.heap.size 2 (some ⟨a, 0, none⟩) 1 1 (some ⟨b, 0, none⟩) 2 2 false (some ⟨a, 0, none⟩) 1 1 1 0 0 false 2 W → (True) → QT w w1.heap.size 2 (some ⟨a, 0, none⟩) 1 1 (some ⟨b, 0, none⟩) 2 2 false (some ⟨a, 0, none⟩) 1 1 1 0 0 false 2 [vN] [vN] [1, 0] W := fun W hb hx hq => ⟨hx, HG1.out.step hb⟩
              go_meet
              exact ⟨w1.heap.size, 2, (some ⟨a, 0, none⟩), 1, 1, (some ⟨b, 0, none⟩), 2, 2, false, (some ⟨a, 0, none⟩), 1, 1, 1, 0, 0, false, 2, [vN], [vN], [1, 0], 8, rfl, rfl, HQ _ (by repeat (first | exact Below.refl _ _ | refine Below.alloc ?_ (by simp <;> omega) _ | refine Below.setCell ?_ (by simp <;> omega) _ | refine Below.drew ?_)) ⟨HB1.out.step (by repeat (first | exact Below.refl _ _ | refine Below.alloc ?_ (by simp <;> omega) _ | refine Below.setCell ?_ (by simp <;> omega) _ | refine Below.drew ?_)), by simp <;> omega, by go_simp, by go_simp, by go_simp, by go_simp, by go_simp, by go_simp, by go_simp, by go_simp, by go_simp, by go_simp⟩ (trivial), hck, by decide, by decide⟩
            · have t0 : ((k : Int) == 0) = false := by rw [hc]; rfl
              have t1 : ((k : Int) == 1) = false := by rw [hc]; rfl
              have t2 : ((k : Int) == 2) = false := by rw [hc]; rfl
              have t3 : ((k : Int) == 3) = false := by rw [hc]; rfl
              have t4 : ((k : Int) == 4) = false := by rw [hc]; rfl
              have t5 : ((k : Int) == 5) = false := by rw [hc]; rfl
              have t6 : ((k : Int) == 6) = false := by rw [hc]; rfl
              have t7 : ((k : Int) == 7) = false := by rw [hc]; rfl
              have t8 : ((k : Int) == 8) = false := by rw [hc]; rfl
              have t9 : ((k : Int) == 9) = false := by rw [hc]; rfl
              have t10 : ((k : Int) == 10) = false := by rw [hc]; rfl
              have t11 : ((k : Int) == 11) = true := by rw [hc]; rfl
              clear hc
              have hck := nm_chk11
              go_wp2
              have HQ : ∀ W, Below w1.heap.size w1 W → QX w w1.heap.size 2 (some ⟨a, 0, none⟩) 1 1 (some ⟨b, 0, none⟩) 2 2 true (some ⟨a, 0, none⟩) 1 1 3 5 0 false 2 W → (True) → QT w w1.heap.size 2 (some ⟨a, 0, none⟩) 1 1 (some ⟨b, 0, none⟩) 2 2 true (some ⟨a, 0, none⟩) 1 1 3 5 0 false 2 [vN] [vN] [1, 0] W := fun W hb hx hq => ⟨hx, HG1.out.step hb⟩
              go_meet
              exact ⟨w1.heap.size, 2, (some ⟨a, 0, none⟩), 1, 1, (some ⟨b, 0, none⟩), 2, 2, true, (some ⟨a, 0, none⟩), 1, 1, 3, 5, 0, false, 2, [vN], [vN], [1, 0], 8, rfl, rfl, HQ _ (by repeat (first | exact Below.refl _ _ | refine Below.alloc ?_ (by simp <;> omega) _ | refine Below.setCell ?_ (by simp <;> omega) _ | refine Below.drew ?_)) ⟨HB1.out.step (by repeat (first | exact Below.refl _ _ | refine Below.alloc ?_ (by simp <;> omega) _ | refine Below.setCell ?_ (by simp <;> omega) _ | refine Below.drew ?_)), by simp <;> omega, by go_simp, by go_simp, by go_simp, by go_simp, by go_simp, by go_simp, by go_simp, by go_simp, by go_simp, by go_simp⟩ (trivial), hck, by decide, by decide⟩
            · have t0 : ((k : Int) == 0) = false := by rw [hc]; rfl
              have t1 : ((k : Int) == 1) = false := by rw [hc]; rfl
              have t2 : ((k : Int) == 2) = false := by rw [hc]; rfl
              have t3 : ((k : Int) == 3) = false := by rw [hc]; rfl
              have t4 : ((k : Int) == 4) = false := by rw [hc]; rfl
              have t5 : ((k : Int) == 5) = false := by rw [hc]; rfl
              have t6 : ((k : Int) == 6) = false := by rw [hc]; rfl
              have t7 : ((k : Int) == 7) = false := by rw [hc]; rfl
              have t8 : ((k : Int) == 8) = false := by rw [hc]; rfl
              have t9 : ((k : Int) == 9) = false := by rw [hc]; rfl
              have t10 : ((k : Int) == 10) = false := by rw [hc]; rfl
              have t11 : ((k : Int) == 11) = false := by rw [hc]; rfl
              clear hc
              have hck := nm_chk12
              go_wp2
              have HQ : ∀ W, Below w1.heap.size w1 W → QX w w1.heap.size 2 (some ⟨a, 0, none⟩) 1 1 (some ⟨w1.heap.size + 1, 0, none⟩) 1 1 true (some ⟨a, 0, none⟩) 1 1 1 5 0 false 2 W → (Lies W (some ⟨w1.heap.size + 1, 0, none⟩) (iC [0])) → QT w w1.heap.size 2 (some ⟨a, 0, none⟩) 1 1 (some ⟨w1.heap.size + 1, 0, none⟩) 1 1 true (some ⟨a, 0, none⟩) 1 1 1 5 0 false 2 [vN] [vN] [0] W := fun W hb hx hq => ⟨hx, (HG1.out.step hb).1, ⟨hq, rfl⟩, (HG1.out.step hb).2.2⟩
              go_meet
              exact ⟨w1.heap.size, 2, (some ⟨a, 0, none⟩), 1, 1, (some ⟨w1.heap.size + 1, 0, none⟩), 1, 1, true, (some ⟨a, 0, none⟩), 1, 1, 1, 5, 0, false, 2, [vN], [vN], [0], 8, rfl, rfl, HQ _ (by repeat (first | exact Below.refl _ _ | refine Below.alloc ?_ (by simp <;> omega) _ | refine Below.setCell ?_ (by simp <;> omega) _ | refine Below.drew ?_)) ⟨HB1.out.step (by repeat (first | exact Below.refl _ _ | refine Below.alloc ?_ (by simp <;> omega) _ | refine Below.setCell ?_ (by simp <;> omega) _ | refine Below.drew ?_)), by simp <;> omega, by go_simp, by go_simp, by go_simp, by go_simp, by go_simp, by go_simp, by go_simp, by go_simp, by go_simp, by go_simp⟩ (lies_vals _ _ (by simp) _ _ _ rfl), hck, by decide, by decide⟩
          case rest =>
            obtain ⟨bq, g1, A1, n1, c1, S1, m1, d1, j1, B1, o1, e1, k1, s1, v1, y1, t1, L1, M1, l1, want, rfl, rfl, hQ, hck, h0, hs⟩ := hcut
            have HQ := Lib.hid hQ
            obtain ⟨p, p0, p1, p2, p3, p4, p5, p6, p7, p8, p9⟩ := hQ.1.cells
            clear hQ hc HB1 HG1
            have hw0 : firstE [want, 0] = want := by simp [firstE, h0]
            have hw1 : firstE [0, want] = want := by unfold firstE; rw [if_pos rfl]; unfold firstE; rw [if_neg h0]
            have HW0 := Lib.hid hw0
            have HW1 := Lib.hid hw1
            have HCk := Lib.hid hck
            have H0 := Lib.hid h0
            clear hw0 hw1 hck h0
            go_upto_region 40 with fail
            refine wp_region_held_drew (S := QT w bq g1 A1 n1 c1 S1 m1 d1 j1 B1 o1 e1 k1 s1 v1 y1 t1 L1 M1 l1) (by kernel_rfl) (HQ.out.step (bd_drewN _ 1)) (fun hS0 => ?_)
            refine take_yes' (i := 0) (d := 160) (v := ?v1) rfl rfl (by kernel_rfl) (by kernel_rfl) (by kernel_rfl) (fun _ _ _ h => h) (by rfl) ?yy1 (by assumption) ?zz1
            case yy1 => (intro w' hSw; (try unfold QT QX at hSw); go_split_ands; go_simp; try with_reducible rfl)
            try simp only [Act.put, List.setIfInBounds_toArray, List.set_cons_zero, List.set_cons_succ]
            refine wpAnyH_ready (rs := [1]) (by kernel_rfl) (by simp) ?_
            refine AllReadyH.cons rfl (fun K hK => ?_) AllReadyH.nil
            go_simp
            (go_at_call 9; refine (good_any _).mono ?_; rintro e w3 ⟨a2, b2, rfl, hg2, hb⟩)
            have hS1' := hS0.step hb
            clear hb
            refine hK.out _ _ hS1' (fun hS1 => ?_)
            clear hK K
            try simp only [Act.put, List.setIfInBounds_toArray, List.set_cons_zero, List.set_cons_succ]
            refine wpAnyH_ready (rs := [2]) (by kernel_rfl) (by simp) ?_
            refine AllReadyH.cons rfl (fun K hK => ?_) AllReadyH.nil
            go_simp
            (go_at_call 10; refine (csame_bad g1 A1 n1 c1 S1 m1 d1 j1 B1 o1 e1 k1 s1 v1 y1 t1 2 (some ⟨a2, 0, none⟩) 1 1 (some ⟨b2, 0, none⟩) 2 2 false (some ⟨a2, 0, none⟩) 1 1 1 5 0 false 2 L1 M1 l1 [vN] [vN] [1, 0] w3 hS1.qa hg2 hs (by decide) _ _ _ HCk.out good_chk HW0.out H0.out).mono ?_; rintro e w4 ⟨rfl, hb⟩)
            have hS2' := hS1.step hb
            clear hb
            refine hK.out _ _ hS2' (fun hS2 => ?_)
            clear hK K
            try simp only [Act.put, List.setIfInBounds_toArray, List.set_cons_zero, List.set_cons_succ]
            refine take_yes' (i := 3) (d := 159) (v := ?v2) rfl rfl (by kernel_rfl) (by kernel_rfl) (by kernel_rfl) (fun _ _ _ h => h) (by rfl) ?yy2 (by assumption) ?zz2
            case yy2 => (intro w' hSw; (try unfold QT QX at hSw); go_split_ands; go_simp; try with_reducible rfl)
            try simp only [Act.put, List.setIfInBounds_toArray, List.set_cons_zero, List.set_cons_succ]
            refine take_yes' (i := 4) (d := 163) (v := ?v3) rfl rfl (by kernel_rfl) (by kernel_rfl) (by kernel_rfl) (fun _ _ _ h => h) (by rfl) ?yy3 (by assumption) ?zz3
            case yy3 => (intro w' hSw; (try unfold QT QX at hSw); go_split_ands; go_simp; try with_reducible rfl)
            try simp only [Act.put, List.setIfInBounds_toArray, List.set_cons_zero, List.set_cons_succ]
            refine take_yes' (i := 5) (d := 164) (v := ?v4) rfl rfl (by kernel_rfl) (by kernel_rfl) (by kernel_rfl) (fun _ _ _ h => h) (by rfl) ?yy4 (by assumption) ?zz4
            case yy4 => (intro w' hSw; (try unfold QT QX at hSw); go_split_ands; go_simp; try with_reducible rfl)
            try simp only [Act.put, List.setIfInBounds_toArray, List.set_cons_zero, List.set_cons_succ]
            refine take_yes' (i := 6) (d := 8) (v := ?v5) rfl rfl (by kernel_rfl) (by kernel_rfl) (by kernel_rfl) (fun _ _ _ h => h) (by rfl) ?yy5 (by assumption) ?zz5
            case yy5 => (intro w' hSw; (try unfold QT QX at hSw); go_split_ands; go_simp; try with_reducible rfl)
            try simp only [Act.put, List.setIfInBounds_toArray, List.set_cons_zero, List.set_cons_succ]
            refine take_yes' (i := 7) (d := 9) (v := ?v6) rfl rfl (by kernel_rfl) (by kernel_rfl) (by kernel_rfl) (fun _ _ _ h => h) (by rfl) ?yy6 (by assumption) ?zz6
            case yy6 => (intro w' hSw; (try unfold QT QX at hSw); go_split_ands; go_simp; try with_reducible rfl)
            try simp only [Act.put, List.setIfInBounds_toArray, List.set_cons_zero, List.set_cons_succ]
            refine wpAnyH_done (by kernel_rfl) ?_ _
            clear hS0 hS1 hS1' hS2'
            have HS2 := Lib.hid hS2
            clear hS2
            go_upto_region 41 with fail
            refine wp_region_held_drew (S := QT w bq g1 A1 n1 c1 S1 m1 d1 j1 B1 o1 e1 k1 s1 v1 y1 t1 L1 M1 l1) (by kernel_rfl) (HS2.out.step (bd_drewN _ 1)) (fun hS3 => ?_)
            refine take_yes' (i := 1) (d := 167) (v := ?v7) rfl rfl (by kernel_rfl) (by kernel_rfl) (by kernel_rfl) (fun _ _ _ h => h) (by rfl) ?yy7 (by assumption) ?zz7
            case yy7 => (intro w' hSw; (try unfold QT QX at hSw); go_split_ands; go_simp; try with_reducible rfl)
            try simp only [Act.put, List.setIfInBounds_toArray, List.set_cons_zero, List.set_cons_succ]
            refine wpAnyH_ready (rs := [0]) (by kernel_rfl) (by simp) ?_
            refine AllReadyH.cons rfl (fun K hK => ?_) AllReadyH.nil
            go_simp
            (go_at_call 9; refine (good_any _).mono ?_; rintro e w5 ⟨a3, b3, rfl, hg3, hb⟩)
            have hS4' := hS3.step hb
            clear hb
            refine hK.out _ _ hS4' (fun hS4 => ?_)
            clear hK K
            try simp only [Act.put, List.setIfInBounds_toArray, List.set_cons_zero, List.set_cons_succ]
            refine wpAnyH_ready (rs := [2]) (by kernel_rfl) (by simp) ?_
            refine AllReadyH.cons rfl (fun K hK => ?_) AllReadyH.nil
            go_simp
            (go_at_call 10; refine (csame_bad 2 (some ⟨a3, 0, none⟩) 1 1 (some ⟨b3, 0, none⟩) 2 2 false (some ⟨a3, 0, none⟩) 1 1 1 5 0 false 2 g1 A1 n1 c1 S1 m1 d1 j1 B1 o1 e1 k1 s1 v1 y1 t1 [vN] [vN] [1, 0] L1 M1 l1 w5 hg3 hS4.qa (by decide) hs _ _ _ good_chk HCk.out HW1.out H0.out).mono ?_; rintro e w6 ⟨rfl, hb⟩)
            have hS5' := hS4.step hb
            clear hb
            refine hK.out _ _ hS5' (fun hS5 => ?_)
            clear hK K
            try simp only [Act.put, List.setIfInBounds_toArray, List.set_cons_zero, List.set_cons_succ]
            refine take_yes' (i := 3) (d := 165) (v := ?v8) rfl rfl (by kernel_rfl) (by kernel_rfl) (by kernel_rfl) (fun _ _ _ h => h) (by rfl) ?yy8 (by assumption) ?zz8
            case yy8 => (intro w' hSw; (try unfold QT QX at hSw); go_split_ands; go_simp; try with_reducible rfl)
            try simp only [Act.put, List.setIfInBounds_toArray, List.set_cons_zero, List.set_cons_succ]
            refine take_yes' (i := 4) (d := 169) (v := ?v9) rfl rfl (by kernel_rfl) (by kernel_rfl) (by kernel_rfl) (fun _ _ _ h => h) (by rfl) ?yy9 (by assumption) ?zz9
            case yy9 => (intro w' hSw; (try unfold QT QX at hSw); go_split_ands; go_simp; try with_reducible rfl)
            try simp only [Act.put, List.setIfInBounds_toArray, List.set_cons_zero, List.set_cons_succ]
            refine take_yes' (i := 5) (d := 170) (v := ?v10) rfl rfl (by kernel_rfl) (by kernel_rfl) (by kernel_rfl) (fun _ _ _ h => h) (by rfl) ?yy10 (by assumption) ?zz10
            case yy10 => (intro w' hSw; (try unfold QT QX at hSw); go_split_ands; go_simp; try with_reducible rfl)
            try simp only [Act.put, List.setIfInBounds_toArray, List.set_cons_zero, List.set_cons_succ]
            refine take_yes' (i := 6) (d := 10) (v := ?v11) rfl rfl (by kernel_rfl) (by kernel_rfl) (by kernel_rfl) (fun _ _ _ h => h) (by rfl) ?yy11 (by assumption) ?zz11
            case yy11 => (intro w' hSw; (try unfold QT QX at hSw); go_split_ands; go_simp; try with_reducible rfl)
            try simp only [Act.put, List.setIfInBounds_toArray, List.set_cons_zero, List.set_cons_succ]
            refine take_yes' (i := 7) (d := 11) (v := ?v12) rfl rfl (by kernel_rfl) (by kernel_rfl) (by kernel_rfl) (fun _ _ _ h => h) (by rfl) ?yy12 (by assumption) ?zz12
            case yy12 => (intro w' hSw; (try unfold QT QX at hSw); go_split_ands; go_simp; try with_reducible rfl)
            try simp only [Act.put, List.setIfInBounds_toArray, List.set_cons_zero, List.set_cons_succ]
            refine wpAnyH_done (by kernel_rfl) ?_ _
            obtain ⟨q, q0, q1, q2, q3, q4, q5, q6, q7, q8, q9⟩ := hS5.1.cells
            have HS5 := Lib.hid hS5
            clear hS3 hS4 hS4' hS5 hS5'
            have HCK := Lib.hid (fun W (h : QT w bq g1 A1 n1 c1 S1 m1 d1 j1 B1 o1 e1 k1 s1 v1 y1 t1 L1 M1 l1 W) => chk_any g1 A1 n1 c1 S1 m1 d1 j1 B1 o1 e1 k1 s1 v1 y1 t1 L1 M1 l1 W h.qa hs _ HCk.out)
            go_wp2_with (go_at_call 11; refine (HCK.out _ HS5.out).mono ?_; rintro e w7 ⟨rfl, hb⟩; have HB7 := Lib.hid (HS5.out.step hb).bl; clear hb)
            go_roundw
            case rel => exact ⟨k + 1, by go_num, by omega, HB7⟩
            case measure => simp [intOf]; omega
        · obtain rfl : 13 = k := by omega
          clear hlt
          have HCC := Lib.hid (fun b W (hq : QA W none 0 (some ⟨b, 0, none⟩) 2 none 0 [] [] [1, 0]) => chk_any 1 none 0 0 (some ⟨b, 0, none⟩) 2 2 false none 0 0 1 5 0 false 2 [] [] [1, 0] W hq (by decide) 0 (by decide))
          have HCJ := Lib.hid (fun a b W (hq : QA W (some ⟨a, 0, none⟩) 1 (some ⟨b, 0, none⟩) 2 (some ⟨a, 0, none⟩) 1 [vN] [vN] [1, 0]) => chk_any 2 (some ⟨a, 0, none⟩) 1 1 (some ⟨b, 0, none⟩) 2 2 true (some ⟨a, 0, none⟩) 1 1 1 5 0 false 2 [vN] [vN] [1, 0] W hq (by decide) 0 (by decide))
          have HCG := Lib.hid (fun a b W (hq : QA W (some ⟨a, 0, none⟩) 1 (some ⟨b, 0, none⟩) 2 (some ⟨a, 0, none⟩) 1 [vN] [vN] [1, 0]) => chk_any 2 (some ⟨a, 0, none⟩) 1 1 (some ⟨b, 0, none⟩) 2 2 false (some ⟨a, 0, none⟩) 1 1 1 5 0 false 2 [vN] [vN] [1, 0] W hq (by decide) 0 good_chk)
          have HN0 := Lib.hid (fun W (h : Bl w W) => show Calls Tryd.prog 12 #[.int .i64 3] W fun e w' => e = .returned (.tuple #[.string ⟨#[100]⟩, .int .i64 0]) ∧ W = w' from name_any 3 W (HT.out.stays h))
          have HN1 := Lib.hid (fun W (h : Bl w W) => show Calls Tryd.prog 12 #[.int .i64 4] W fun e w' => e = .returned (.tuple #[.string ⟨#[]⟩, .int .i64 2]) ∧ W = w' from name_any 4 W (HT.out.stays h))
          have HN2 := Lib.hid (fun W (h : Bl w W) => show Calls Tryd.prog 12 #[.int .i64 (-1)] W fun e w' => e = .returned (.tuple #[.string ⟨#[]⟩, .int .i64 2]) ∧ W = w' from name_any (-1) W (HT.out.stays h))
          have HR0 := Lib.hid (fun W (h : Bl w W) => show Calls Tryd.prog 13 #[.string ⟨#[99]⟩] W fun e w' => e = .returned (.tuple #[.int .i64 2, .int .i64 0]) ∧ W = w' from source_any ⟨#[99]⟩ W (HT.out.stays h))
          have HR1 := Lib.hid (fun W (h : Bl w W) => show Calls Tryd.prog 13 #[.string ⟨#[]⟩] W fun e w' => e = .returned (.tuple #[.int .i64 0, .int .i64 2]) ∧ W = w' from source_any ⟨#[]⟩ W (HT.out.stays h))
          have HR2 := Lib.hid (fun W (h : Bl w W) => show Calls Tryd.prog 13 #[.string ⟨#[97, 98]⟩] W fun e w' => e = .returned (.tuple #[.int .i64 0, .int .i64 2]) ∧ W = w' from source_any ⟨#[97, 98]⟩ W (HT.out.stays h))
          go_wp2_with (first
            | (go_at_call 9; refine (good_any _).mono ?_; rintro e w1 ⟨a1, b1, rfl, hg, hb⟩; have B1 := HB.out.step hb; have QC := Lib.hid (show QT w w1.heap.size 1 none 0 0 (some ⟨b1, 0, none⟩) 2 2 false none 0 0 1 5 0 false 2 [] [] [1, 0] (w1.alloc (.cells #[.int .u8 1, .slice none 0 0, .slice (some ⟨b1, 0, none⟩) 2 2, .bool false, .slice none 0 0, .int .u8 1, .int .i64 5, .int .i64 0, .bool false, .int .u8 2] 32)) from ⟨QX.new B1 _ _ _ _ _ _ _ _ _ _ _ _ _ _ _ _ _, ⟨.inl rfl, rfl, by decide⟩, (hg.step ((Below.refl _ _).alloc (Nat.le_refl _) _)).2.1, ⟨.inl rfl, rfl, by decide⟩⟩); clear hg hb HB B1)
                | (go_at_call 9; refine (good_any _).mono ?_; rintro e w2 ⟨a2, b2, rfl, hg, hb⟩; have QC2 := QC.out.step hb; obtain ⟨q, q0, q1, q2, q3, q4, q5, q6, q7, q8, q9⟩ := QC2.1.cells; have QJ := Lib.hid (show QT w w2.heap.size 2 (some ⟨a2, 0, none⟩) 1 1 (some ⟨b2, 0, none⟩) 2 2 true (some ⟨a2, 0, none⟩) 1 1 1 5 0 false 2 [vN] [vN] [1, 0] (w2.alloc (.cells #[.int .u8 2, .slice (some ⟨a2, 0, none⟩) 1 1, .slice (some ⟨b2, 0, none⟩) 2 2, .bool true, .slice (some ⟨a2, 0, none⟩) 1 1, .int .u8 1, .int .i64 5, .int .i64 0, .bool false, .int .u8 2] 32)) from ⟨QX.new QC2.bl _ _ _ _ _ _ _ _ _ _ _ _ _ _ _ _ _, hg.step ((Below.refl _ _).alloc (Nat.le_refl _) _)⟩); have QC3 := Lib.hid (show QT w w1.heap.size 1 none 0 0 (some ⟨b1, 0, none⟩) 2 2 false none 0 0 1 5 0 false 2 [] [] [1, 0] (w2.alloc (.cells #[.int .u8 2, .slice (some ⟨a2, 0, none⟩) 1 1, .slice (some ⟨b2, 0, none⟩) 2 2, .bool true, .slice (some ⟨a2, 0, none⟩) 1 1, .int .u8 1, .int .i64 5, .int .i64 0, .bool false, .int .u8 2] 32)) from QC2.step ((Below.refl _ _).alloc (Nat.le_refl _) _)); clear hg hb QC QC2)
                | (go_at_call 12; ((with_reducible refine (HN0.out _ QJ.out.bl).mono ?_); rintro e wn ⟨rfl, rfl⟩; clear HN0))
                | (go_at_call 12; ((with_reducible refine (HN1.out _ QJ.out.bl).mono ?_); rintro e wn ⟨rfl, rfl⟩; clear HN1))
                | (go_at_call 12; ((with_reducible refine (HN2.out _ QJ.out.bl).mono ?_); rintro e wn ⟨rfl, rfl⟩; clear HN2))
                | (go_at_call 13; ((with_reducible refine (HR0.out _ QJ.out.bl).mono ?_); rintro e wn ⟨rfl, rfl⟩; clear HR0))
                | (go_at_call 13; ((with_reducible refine (HR1.out _ QJ.out.bl).mono ?_); rintro e wn ⟨rfl, rfl⟩; clear HR1))
                | (go_at_call 13; ((with_reducible refine (HR2.out _ QJ.out.bl).mono ?_); rintro e wn ⟨rfl, rfl⟩; clear HR2))
                | (go_at_call 11; ((with_reducible refine (HCC.out _ _ QC3.out.qa).mono ?_); rintro e w3 ⟨rfl, hb⟩; have QJ3 := QJ.out.step hb; clear hb QC3 QJ; obtain ⟨r, r0, r1, r2, r3, r4, r5, r6, r7, r8, r9⟩ := QJ3.1.cells))
                | (go_at_call 11; ((with_reducible refine (HCJ.out _ _ _ QJ3.qa).mono ?_); rintro e w4 ⟨rfl, hb⟩; have B4 := (QJ3.step hb).bl; clear hb QJ3))
                | (go_at_call 9; refine (good_any _).mono ?_; rintro e w5 ⟨a5, b5, rfl, hg5, hb⟩; have B5 := B4.step hb; clear hb B4)
                | (go_at_call 11; refine (HCG.out _ _ _ hg5).mono ?_; rintro e w6 ⟨rfl, hb⟩; have B6 := B5.step hb; clear hb B5 hg5)
                | (go_at_call 14; refine (alive_any _).mono ?_; rintro e w7 ⟨rfl, hb⟩))
          go_ret
          exact ⟨rfl, B6.step hb⟩
end Go.Proofs.YtaijhkfbfkdepaaDoor.Q8
