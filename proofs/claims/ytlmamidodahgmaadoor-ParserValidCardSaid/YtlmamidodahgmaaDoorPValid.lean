/- ParserValid walks to true. -/
import Derived.Test.YtlmamidodahgmaaDoorPBlanks
import Derived.Test.YtlmamidodahgmaaDoorPValid0
import Derived.Test.YtlmamidodahgmaaDoorPApp
import Derived.Outline
import Derived.Tactics2
import Derived.Deep.DeepCutAuto
import Derived.Deep.CutBlock
namespace Go.Proofs.YtlmamidodahgmaaDoor.P9
open Go.ChangeShapes Go.WideShapes Go.ChangeAt Go.RowKit N4 Q8
set_option linter.unusedVariables false
set_option linter.unusedSimpArgs false
set_option maxRecDepth 100000

theorem val_big (s : ByteArray) (w : World) (hT : T9 w) (hs : s.size ≤ maxLen) (h : 400 < s.size) : Calls Tryd.prog 4 #[.string s] w fun e w' => e = .returned (.bool true) ∧ Below w.heap.size w w' := by
  have HAL := Lib.hid (alive_c w w (G9.start hT))
  have h1 : (400 : Int) < s.size := by omega
  clear hT
  unfold maxLen at hs
  go_enter Tryd.func4, Tryd.ntmps4
  go_wp2_with (go_at_call 10; refine HAL.out.mono ?_; rintro e w2 ⟨rfl, hg⟩; have HG := Lib.hid hg; clear hg)
  go_ret
  exact ⟨rfl, HG.out.1⟩
theorem val_lex (s : ByteArray) (w : World) (hT : T9 w) (h : s.size ≤ 400) (L : List Tok) (n : Nat) (er : Int) (ha : allF s.data.toList = (L, n, er)) (h0 : er ≠ 0) :
    Calls Tryd.prog 4 #[.string s] w fun e w' => e = .returned (.bool true) ∧ Below w.heap.size w w' := by
  have hp : parF s.data.toList = (q0, (n : Int), er) := by unfold parF; rw [ha]; exact if_neg h0
  have HAL := Lib.hid (fun W (hg : G9 w W) => alive_c w W hg)
  have HP0 := Lib.hid (fun W (hg : G9 w W) => parse_v s.data.toList s (bytesOf_list' s) (by unfold maxLen; simp; omega) w W hg)
  rw [hp] at HP0
  have HA := Lib.hid (fun W (hg : G9 w W) => all_any s W (by unfold maxLen; omega) hg.2.1 L n er ha)
  have HG := Lib.hid (G9.start hT)
  have h1 : ¬ ((400 : Int) < s.size) := by omega
  obtain ⟨g1, g2⟩ := codeP_er (s := []) h0
  clear hT ha hp
  go_enter Tryd.func4, Tryd.ntmps4
  go_wp2_with (first
         | (go_at_call 6
            (with_reducible refine (HP0.out _ HG.out).mono ?_)
            rintro e u1 ⟨v, rfl, hq, hb⟩
            obtain ⟨A1, c1, S1, d1, B1, e1, rfl, hqa, hsl⟩ := hq
            have HG1 := Lib.hid ((HG.out.step hb).step ((Below.refl _ _).alloc (Nat.le_refl _) (.cells #[.int .u8 0, .slice A1 0 c1, .slice S1 0 d1, .bool false, .slice B1 0 e1, .int .u8 0, .int .i64 0, .int .i64 0, .bool false, .int .u8 0] 28)))
            have HQ1 := Lib.hid (QV.step (w := u1) (v := .agg #[.int .u8 0, .slice A1 0 c1, .slice S1 0 d1, .bool false, .slice B1 0 e1, .int .u8 0, .int .i64 0, .int .i64 0, .bool false, .int .u8 0]) ⟨A1, c1, S1, d1, B1, e1, rfl, hqa, hsl⟩ ((Below.refl _ _).alloc (Nat.le_refl _) (.cells #[.int .u8 0, .slice A1 0 c1, .slice S1 0 d1, .bool false, .slice B1 0 e1, .int .u8 0, .int .i64 0, .int .i64 0, .bool false, .int .u8 0] 28)))
            have HX1 := Lib.hid (Bx.new u1 (.int .u8 0) (.slice A1 0 c1) (.slice S1 0 d1) (.bool false) (.slice B1 0 e1) (.int .u8 0) (.int .i64 0) (.int .i64 0) (.bool false) (.int .u8 0) 28)
            simp only [q0]
            clear hb hqa hsl HP0)
         | (go_at_call 11
            refine (HA.out _ HG1.out).mono ?_
            rintro e w2 ⟨A, c, rfl, hl, hg, hsl⟩
            have HG2 := Lib.hid (HG1.out.step hg.1)
            have HTK := Lib.hid hl
            have HX2 := Lib.hid (HX1.out.step hg.1)
            have HQ2 := Lib.hid (HQ1.out.step hg.1)
            obtain ⟨x1l, x10, x11, x12, x13, x14, x15, x16, x17, x18, x19⟩ := HX2.out
            clear hl hg)
         | (go_at_call 10; refine (HAL.out _ HG2.out).mono ?_; rintro e w4 ⟨rfl, hg⟩; have HG4 := Lib.hid hg; clear hg))
  go_ret
  exact ⟨rfl, HG4.out.1⟩
theorem take_tok {L : List Tok} {k : Nat} {t : Tok} (h : L[k]? = some t) (f : Tok → Bool) : (L.take (k + 1)).any f = ((L.take k).any f || f t) := by
  obtain ⟨hk, rfl⟩ := List.getElem?_eq_some_iff.1 h
  rw [List.take_succ_eq_append_getElem hk, List.any_append]; simp
set_option maxHeartbeats 8000000 in
theorem val_er (s : ByteArray) (w : World) (hT : T9 w) (h : s.size ≤ 400) (L : List Tok) (ha : allF s.data.toList = (L, s.size, 0)) (v : Int) (r : List Tok) (h0 : v ≠ 0) (hr : r <:+ L) (hp : parF s.data.toList = (q0, placeP s.size r, v)) :
    Calls Tryd.prog 4 #[.string s] w fun e w' => e = .returned (.bool true) ∧ Below w.heap.size w w' := by
  have HAL := Lib.hid (fun W (hg : G9 w W) => alive_c w W hg)
  have HP0 := Lib.hid (fun W (hg : G9 w W) => parse_v s.data.toList s (bytesOf_list' s) (by unfold maxLen; simp; omega) w W hg)
  obtain ⟨pl, hpl⟩ : ∃ pl, placeP s.size r = pl := ⟨_, rfl⟩
  rw [hp, hpl] at HP0
  have HA := Lib.hid (fun W (hg : G9 w W) => all_any s W (by unfold maxLen; omega) hg.2.1 L s.size 0 ha)
  have HG := Lib.hid (G9.start hT)
  have h1 : ¬ ((400 : Int) < s.size) := by omega
  obtain ⟨g1, g2⟩ := codeP_er (s := []) h0
  have hl200 := (chk_zero (allF_chk s.data.toList)).1
  rw [ha] at hl200
  simp only at hl200
  have HANY := Lib.hid (show (decide (pl = (s.size : Int)) || L.any (fun t => decide (t.a = pl))) = true by
    cases r with
    | nil => rw [← hpl]; simp [placeP]
    | cons x r =>
      have : L.any (fun t => decide (t.a = pl)) = true := List.any_eq_true.2 ⟨x, hr.subset List.mem_cons_self, by rw [← hpl]; simp [placeP]⟩
      rw [this, Bool.or_true])
  obtain ⟨n, hn⟩ : ∃ n, L.length = n := ⟨_, rfl⟩
  have HN := Lib.hid hn
  rw [hn] at hl200
  clear hT ha hp hr hpl
  go_enter Tryd.func4, Tryd.ntmps4
  go_wp2_with (first
         | (go_at_call 6
            (with_reducible refine (HP0.out _ HG.out).mono ?_)
            rintro e u1 ⟨v, rfl, hq, hb⟩
            obtain ⟨A1, c1, S1, d1, B1, e1, rfl, hqa, hsl⟩ := hq
            have HG1 := Lib.hid ((HG.out.step hb).step ((Below.refl _ _).alloc (Nat.le_refl _) (.cells #[.int .u8 0, .slice A1 0 c1, .slice S1 0 d1, .bool false, .slice B1 0 e1, .int .u8 0, .int .i64 0, .int .i64 0, .bool false, .int .u8 0] 28)))
            have HQ1 := Lib.hid (QV.step (w := u1) (v := .agg #[.int .u8 0, .slice A1 0 c1, .slice S1 0 d1, .bool false, .slice B1 0 e1, .int .u8 0, .int .i64 0, .int .i64 0, .bool false, .int .u8 0]) ⟨A1, c1, S1, d1, B1, e1, rfl, hqa, hsl⟩ ((Below.refl _ _).alloc (Nat.le_refl _) (.cells #[.int .u8 0, .slice A1 0 c1, .slice S1 0 d1, .bool false, .slice B1 0 e1, .int .u8 0, .int .i64 0, .int .i64 0, .bool false, .int .u8 0] 28)))
            have HX1 := Lib.hid (Bx.new u1 (.int .u8 0) (.slice A1 0 c1) (.slice S1 0 d1) (.bool false) (.slice B1 0 e1) (.int .u8 0) (.int .i64 0) (.int .i64 0) (.bool false) (.int .u8 0) 28)
            simp only [q0]
            clear hb hqa hsl HP0)
         | (go_at_call 11
            refine (HA.out _ HG1.out).mono ?_
            rintro e w2 ⟨A, c, rfl, hl, hg, hsl⟩
            have HG2 := Lib.hid (HG1.out.step hg.1)
            have HTK := Lib.hid hl
            have HX2 := Lib.hid (HX1.out.step hg.1)
            have HQ2 := Lib.hid (HQ1.out.step hg.1)
            obtain ⟨x1l, x10, x11, x12, x13, x14, x15, x16, x17, x18, x19⟩ := HX2.out
            clear hl hg))
  go_loop [9, 10] (fun b i => ∃ (k : Nat) (bb : Bool), k ≤ n ∧ i = .int .i64 k ∧ b = .bool bb ∧ Hid (bb = (decide (pl = (s.size : Int)) || (L.take k).any (fun t => decide (t.a = pl))))) (fun _ i => n - (intOf i).toNat)
  case atStart => exact ⟨0, decide (pl = (s.size : Int)), Nat.zero_le _, rfl, rfl, Lib.hid (by simp)⟩
  case round =>
    obtain ⟨k, bb, hk, rfl, rfl, HB⟩ := hrel
    by_cases hlt : k < n
    · obtain ⟨ad, t, rfl, hcc, ht⟩ := HTK.out.at_ k (by rw [HN.out]; exact hlt)
      obtain ⟨cc1, cc2, cc3⟩ := hcc
      have hT := Lib.hid (take_tok ht (fun t => decide (t.a = pl)))
      obtain ⟨tk, ts, ta⟩ := t
      simp only at cc3 hT
      have j1 : (0 : Int) ≤ k := by omega
      have j2 : (k : Int) < (n : Int) := by omega
      clear ht cc1 cc2
      cases bb
      · by_cases hta : ta = pl
        all_goals
          go_wp2
          go_round
          case rel => exact ⟨k + 1, _, by omega, by go_num, rfl, Lib.hid (by rw [hT.out, ← Bool.or_assoc, ← HB.out]; simp [hta])⟩
          case measure => simp [intOf]; omega
      · go_wp2
        go_round
        case rel => exact ⟨k + 1, _, by omega, by go_num, rfl, Lib.hid (by rw [hT.out, ← Bool.or_assoc, ← HB.out]; simp)⟩
        case measure => simp [intOf]; omega
    · obtain rfl : n = k := by omega
      obtain rfl : bb = true := by
        have := HB.out
        rw [List.take_of_length_le (by rw [HN.out]; exact Nat.le_refl _), HANY.out] at this
        exact this
      go_wp2_with (go_at_call 10; refine (HAL.out _ HG2.out).mono ?_; rintro e w4 ⟨rfl, hg⟩; have HG4 := Lib.hid hg; clear hg)
      go_ret
      exact ⟨rfl, HG4.out.1⟩
theorem toks_lt {w : World} {ad : Addr} {L : List Tok} (h : Toks w (some ad) L) (h0 : 0 < L.length) : ad.block < w.heap.size := by
  rcases h with h1 | ⟨ad', h1, h2, _⟩
  · rw [h1] at h0; simp at h0
  · injection h1 with h1; subst h1; exact h2
/-- What the region of the nodes keeps. -/
def SV (w3 : World) (b : Nat) (q1 : Qy) (A1 : Option Addr) (c1 : Nat) (S1 : Option Addr) (d1 : Nat) (B1 : Option Addr) (e1 : Nat) (W : World) : Prop :=
  Below w3.heap.size w3 W ∧ b < W.heap.size ∧ W.cell? ⟨b, 1, none⟩ = some (.slice A1 q1.L.length c1) ∧ W.cell? ⟨b, 4, none⟩ = some (.slice B1 q1.M.length e1)
theorem SV.step {w3 : World} {b : Nat} {q1 : Qy} {A1 : Option Addr} {c1 : Nat} {S1 : Option Addr} {d1 : Nat} {B1 : Option Addr} {e1 : Nat} {W W' : World} (h : SV w3 b q1 A1 c1 S1 d1 B1 e1 W) (hb : Below w3.heap.size W W') (hlt : b < w3.heap.size) : SV w3 b q1 A1 c1 S1 d1 B1 e1 W' := by
  obtain ⟨h1, h2, h3, h4⟩ := h
  refine ⟨h1.trans hb, Nat.lt_of_lt_of_le h2 hb.size, ?_, ?_⟩
  · rw [hb.cell (p := ⟨b, 1, none⟩) hlt]; exact h3
  · rw [hb.cell (p := ⟨b, 4, none⟩) hlt]; exact h4
set_option maxHeartbeats 20000000 in
theorem val_go (s : ByteArray) (w : World) (hT : T9 w) (h : s.size ≤ 400) (L : List Tok) (ha : allF s.data.toList = (L, s.size, 0)) (q1 : Qy) (hp : parF s.data.toList = (q1, (s.size : Int), 0)) (hm : Small q1) (hck : Q8.chkF q1 = 0)
    (hpl : ∀ x ∈ q1.L ++ q1.M, ∃ y ∈ L, y.a = x.p) (t : Tok) (x : Nat) (ht : L[L.length - 1]? = some t) (hl0 : 0 < L.length) (hta : t.a = (x : Int)) (hx : x ≤ s.size) (v : Int) (pv : Int) (hcut : parF (s.data.toList.take x) = (q0, pv, v)) (hv : v ≠ 0) :
    Calls Tryd.prog 4 #[.string s] w fun e w' => e = .returned (.bool true) ∧ Below w.heap.size w w' := by
  have HAL := Lib.hid (fun W (hg : G9 w W) => alive_c w W hg)
  have HP0 := Lib.hid (fun W (hg : G9 w W) => parse_v s.data.toList s (bytesOf_list' s) (by unfold maxLen; simp; omega) w W hg)
  rw [hp] at HP0
  have HPC := Lib.hid (fun W (hg : G9 w W) => parse_v (s.data.toList.take x) (s.extract 0 x) (by apply ByteArray.ext; apply Array.toList_inj.1; simp [bytesOf]) (by unfold maxLen; simp; omega) w W hg)
  rw [hcut] at HPC
  have HA := Lib.hid (fun W (hg : G9 w W) => all_any s W (by unfold maxLen; omega) hg.2.1 L s.size 0 ha)
  have HCK := Lib.hid (fun (W : World) (v : Value) (hq : QV W q1 v) => show Calls Tryd.prog 12 #[v] W fun e w' => e = .returned (.int .i64 0) ∧ Below W.heap.size W w' from by have := chk_v hq hm; rwa [hck] at this)
  have HG := Lib.hid (G9.start hT)
  have h1 : ¬ ((400 : Int) < s.size) := by omega
  have hl200 := (chk_zero (allF_chk s.data.toList)).1
  rw [ha] at hl200
  simp only at hl200
  obtain ⟨g1, g2⟩ := codeP_er (s := []) hv
  obtain ⟨n, hn⟩ : ∃ n, L.length = n := ⟨_, rfl⟩
  have HN := Lib.hid hn
  rw [hn] at hl200 hl0 ht
  have HTT := Lib.hid (And.intro ht hta)
  have HPL := Lib.hid hpl
  have hmL := hm.L
  have hmM := hm.M
  have hn0 : ¬ (n = 0) := by omega
  have hn1 : ((n : Int) == 0) = false := by simp; omega
  clear hT ha hp hcut hpl ht hta hm hck hv hl0
  go_enter Tryd.func4, Tryd.ntmps4
  go_upto_region 16 with (first
         | (go_at_call 6
            (with_reducible refine (HP0.out _ HG.out).mono ?_)
            rintro e u1 ⟨v, rfl, hq, hb⟩
            obtain ⟨A1, c1, S1, d1, B1, e1, rfl, hqa, hsl⟩ := hq
            have HG1 := Lib.hid ((HG.out.step hb).step ((Below.refl _ _).alloc (Nat.le_refl _) (.cells #[.int .u8 q1.g, .slice A1 q1.L.length c1, .slice S1 q1.l.length d1, .bool q1.j, .slice B1 q1.M.length e1, .int .u8 q1.k, .int .i64 q1.s, .int .i64 q1.v, .bool q1.y, .int .u8 q1.t] 28)))
            have HQ1 := Lib.hid (QV.step (w := u1) (v := .agg #[.int .u8 q1.g, .slice A1 q1.L.length c1, .slice S1 q1.l.length d1, .bool q1.j, .slice B1 q1.M.length e1, .int .u8 q1.k, .int .i64 q1.s, .int .i64 q1.v, .bool q1.y, .int .u8 q1.t]) ⟨A1, c1, S1, d1, B1, e1, rfl, hqa, hsl⟩ ((Below.refl _ _).alloc (Nat.le_refl _) (.cells #[.int .u8 q1.g, .slice A1 q1.L.length c1, .slice S1 q1.l.length d1, .bool q1.j, .slice B1 q1.M.length e1, .int .u8 q1.k, .int .i64 q1.s, .int .i64 q1.v, .bool q1.y, .int .u8 q1.t] 28)))
            have HX1 := Lib.hid (Bx.new u1 (.int .u8 q1.g) (.slice A1 q1.L.length c1) (.slice S1 q1.l.length d1) (.bool q1.j) (.slice B1 q1.M.length e1) (.int .u8 q1.k) (.int .i64 q1.s) (.int .i64 q1.v) (.bool q1.y) (.int .u8 q1.t) 28)
            clear hb hqa hsl HP0)
         | (go_at_call 11
            refine (HA.out _ HG1.out).mono ?_
            rintro e w2 ⟨A, c, rfl, hl, hg, hsl⟩
            have HG2 := Lib.hid (HG1.out.step hg.1)
            have HTK := Lib.hid hl
            have HX2 := Lib.hid (HX1.out.step hg.1)
            have HQ2 := Lib.hid (HQ1.out.step hg.1)
            obtain ⟨x1l, x10, x11, x12, x13, x14, x15, x16, x17, x18, x19⟩ := HX2.out
            clear hl hg)
         | (go_at_call 12
            refine (HCK.out _ _ HQ2.out).mono ?_
            rintro e w3 ⟨rfl, hb⟩
            have HG3 := Lib.hid (HG2.out.step hb)
            have HTK3 := Lib.hid (HTK.out.below hb)
            have HX3 := Lib.hid (HX2.out.step hb)
            have HQ3 := Lib.hid (HQ2.out.step hb)
            have hsz := hb.size
            clear hb x10 x11 x12 x13 x14 x15 x16 x17 x18 x19))
  have hb3 : u1.heap.size < w3.heap.size := HX3.out.1
  obtain ⟨x1l, x10, x11, x12, x13, x14, x15, x16, x17, x18, x19⟩ := HX3.out
  have hSD : SV w3 u1.heap.size q1 A1 c1 S1 d1 B1 e1 w3 := ⟨Below.refl _ _, x1l, x11, x14⟩
  clear x1l x10 x11 x12 x13 x14 x15 x16 x17 x18 x19
  have hSRC : (∀ W, Below w3.heap.size w3 W → SrcN W A1 q1.L.length c1 q1.L) ∧ (∀ W, Below w3.heap.size w3 W → SrcN W B1 q1.M.length e1 q1.M) := by
    obtain ⟨A', c', S', d', B', e', he, hqa, k1, k2, k3⟩ := HQ3.out
    injection he with he
    simp only [Array.mk.injEq, List.cons.injEq, Value.slice.injEq, and_true, true_and] at he
    obtain ⟨⟨rfl, rfl⟩, ⟨rfl, rfl⟩, rfl, rfl⟩ := he
    have hnil : ∀ (X : Option Addr) (m cc : Nat), Sl X m cc → (X = none ∧ cc = 0 ∧ m = 0) ∨ ∃ ad, X = some ad := by
      intro X m cc hs
      cases X with
      | none => have h1 := hs.2 rfl; have h2 := hs.1; exact .inl ⟨rfl, h1, by omega⟩
      | some ad => exact .inr ⟨ad, rfl⟩
    exact ⟨fun W hb => ⟨hqa.1.1.below hb, rfl, hnil _ _ _ k1⟩, fun W hb => ⟨hqa.2.2.1.below hb, rfl, hnil _ _ _ k3⟩⟩
  refine wp_region_held_drew (S := SV w3 u1.heap.size q1 A1 c1 S1 d1 B1 e1) (by kernel_rfl) (hSD.step (bd_drewN _ 1) hb3) (fun hS0 => ?_)
  refine take_yes (i := 1) (d := 95) (v := ?v1) rfl rfl (by kernel_rfl) (by kernel_rfl) (by kernel_rfl) (fun _ _ _ h => h) (by rfl) ?y1 (by assumption) ?z1
  case y1 => (intro w' hSw; (try unfold SV at hSw); go_split_ands; go_simp; try with_reducible rfl)
  try simp only [Act.put, List.setIfInBounds_toArray, List.set_cons_zero, List.set_cons_succ]
  refine take_yes (i := 2) (d := 96) (v := ?v2) rfl rfl (by kernel_rfl) (by kernel_rfl) (by kernel_rfl) (fun _ _ _ h => h) (by rfl) ?y2 (by assumption) ?z2
  case y2 => (intro w' hSw; (try unfold SV at hSw); go_split_ands; go_simp; try with_reducible rfl)
  try simp only [Act.put, List.setIfInBounds_toArray, List.set_cons_zero, List.set_cons_succ]
  refine take_yes (i := 4) (d := 98) (v := ?v4) rfl rfl (by kernel_rfl) (by kernel_rfl) (by kernel_rfl) (fun _ _ _ h => h) (by rfl) ?y4 (by assumption) ?z4
  case y4 => (intro w' hSw; (try unfold SV at hSw); go_split_ands; go_simp; try with_reducible rfl)
  try simp only [Act.put, List.setIfInBounds_toArray, List.set_cons_zero, List.set_cons_succ]
  refine take_yes (i := 5) (d := 99) (v := ?v5) rfl rfl (by kernel_rfl) (by kernel_rfl) (by kernel_rfl) (fun _ _ _ h => h) (by rfl) ?y5 (by assumption) ?z5
  case y5 => (intro w' hSw; (try unfold SV at hSw); go_split_ands; go_simp; try with_reducible rfl)
  try simp only [Act.put, List.setIfInBounds_toArray, List.set_cons_zero, List.set_cons_succ]
  refine wpAnyH_ready (rs := [0]) (by kernel_rfl) (by simp) ?_
  refine AllReadyH.cons rfl (fun K hK => ?_) AllReadyH.nil
  go_simp
  have hSA : SV w3 u1.heap.size q1 A1 c1 S1 d1 B1 e1 ((w3.alloc (.cells #[] 43)).drewN 1) := (hSD.step ((Below.refl _ _).alloc (Nat.le_refl _) _) hb3).step ((bd_drewN (w3.alloc (.cells #[] 43)) 1).mono (by simp)) hb3
  have hO1 : ((w3.alloc (.cells #[] 43)).drewN 1).ownsRow w3.heap.size 43 5 (.slice (some ⟨w3.heap.size, 0, none⟩) 0 0) 0 (ndCells []) := own_below (World.ownsRow_lit (base := w3.heap.size) (e := 43) (size := 5) w3 #[] 0 (Nat.le_refl _) (Nat.zero_le _) (by simp)) (bd_drewN _ 1)
  obtain ⟨hsrc1, hsrc2⟩ := hSRC
  refine hK.out _ _ hSA (fun hS1 => ?_)
  clear hK K hSA
  try simp only [Act.put, List.setIfInBounds_toArray, List.set_cons_zero, List.set_cons_succ]
  refine wpAnyH_ready (rs := [3]) (by kernel_rfl) (by simp) ?_
  refine AllReadyH.cons rfl (fun K hK => ?_) AllReadyH.nil
  refine step_app_nd (by rfl) (.tmp 94) (.tmp 96) rfl w3.heap.size _ 0 [] rfl hO1 A1 _ c1 q1.L rfl (hsrc1 _ hS1.1) (by omega) hS1.1.size ?_
  intro v5 w5 hown5 hgr5 _
  have hb5 : Below w3.heap.size ((w3.alloc (.cells #[] 43)).drewN 1) w5 := (Below.refl _ _).grown hgr5 hS1.1.size (fun j hj => (hO1.lt j hj).1)
  have hS5 := hS1.step hb5 hb3
  refine hK.out _ _ hS5 (fun hS5' => ?_)
  clear hK K hS5
  try simp only [Act.put, List.setIfInBounds_toArray, List.set_cons_zero, List.set_cons_succ]
  rw [Nat.zero_add, List.nil_append] at hown5
  refine wpAnyH_ready (rs := [6]) (by kernel_rfl) (by simp) ?_
  refine AllReadyH.cons rfl (fun K hK => ?_) AllReadyH.nil
  refine step_app_nd (by rfl) (.tmp 97) (.tmp 99) rfl w3.heap.size _ _ q1.L rfl hown5 B1 _ e1 q1.M rfl (hsrc2 _ hS5'.1) (by omega) hS5'.1.size ?_
  intro v6 w6 hown6 hgr6 _
  have hb6 : Below w3.heap.size w5 w6 := (Below.refl _ _).grown hgr6 hS5'.1.size (fun j hj => (hown5.lt j hj).1)
  have hS6 := hS5'.step hb6 hb3
  refine hK.out _ _ hS6 (fun hS6' => ?_)
  clear hK K hS6
  try simp only [Act.put, List.setIfInBounds_toArray, List.set_cons_zero, List.set_cons_succ]
  refine take_yes (i := 7) (d := 11) (v := ?v7) rfl rfl (by kernel_rfl) (by kernel_rfl) (by kernel_rfl) (fun _ _ _ h => h) (by rfl) ?y7 (by assumption) ?z7
  case y7 => (intro w' hSw; (try unfold SV at hSw); go_split_ands; go_simp; try with_reducible rfl)
  try simp only [Act.put, List.setIfInBounds_toArray, List.set_cons_zero, List.set_cons_succ]
  refine wpAnyH_done (by kernel_rfl) ?_ _
  obtain ⟨A6, c6, rfl, hc6, hm6⟩ := N4.own_form hown6
  have hLi6 : Lies w6 A6 (ndCells (q1.L ++ q1.M)) := Lies.of_own hown6 (fun h0 => by
    have e1 : q1.L = [] := List.eq_nil_of_length_eq_zero (by omega)
    have e2 : q1.M = [] := List.eq_nil_of_length_eq_zero (by omega)
    rw [e1, e2]; rfl)
  obtain ⟨m, hm⟩ : ∃ m, q1.L.length + q1.M.length = m := ⟨_, rfl⟩
  have HMM := Lib.hid (show (q1.L ++ q1.M).length = m by rw [List.length_append]; exact hm)
  have HL6 := Lib.hid hLi6
  have HG6 := Lib.hid (HG3.out.step hS6'.1)
  have HTK6 := Lib.hid (HTK3.out.below hS6'.1)
  have HX6 := Lib.hid (HX3.out.step hS6'.1)
  have hm120 : m ≤ 120 := by omega
  rw [hm] at hc6 hm6 ⊢
  clear hS0 hS1 hS5' hS6' hown5 hown6 hgr5 hgr6 hb5 hb6 hO1 hsrc1 hsrc2 hLi6 hSD hb3 hsz
  go_wp2
  go_loopw [12] (fun i wr => ∃ (k d : Nat), k ≤ m ∧ i = .int .i64 k ∧ wr = w6.drewN d) (fun i _ => m - (intOf i).toNat)
  case atStart => exact ⟨0, 0, Nat.zero_le _, rfl, rfl⟩
  case round =>
    obtain ⟨k, d, hk, rfl, rfl⟩ := hrel
    by_cases hlt : k < m
    · obtain ⟨y, hy⟩ : ∃ y, (q1.L ++ q1.M)[k]? = some y := ⟨_, List.getElem?_eq_getElem (by rw [HMM.out]; exact hlt)⟩
      have HY := Lib.hid (HPL.out y (List.mem_of_getElem? hy))
      obtain ⟨ad6, hA6, hadl6, hnd⟩ := Lies.nd HL6.out hy
      subst hA6
      have hpp := hnd.2.2.2.2
      obtain ⟨yk, yn, ya, yb, yp⟩ := y
      simp only at hpp HY
      have j1 : (0 : Int) ≤ k := by omega
      have j2 : (k : Int) < (m : Int) := by omega
      have hab6 : (ad6.add (k * 5)).block < w6.heap.size := by rw [add_block]; exact hadl6
      clear hnd hy hadl6
      go_wp2
      go_loopw [13, 14] (fun b j wr' => ∃ (kk d : Nat) (bb : Bool), kk ≤ n ∧ j = .int .i64 kk ∧ b = .bool bb ∧ wr' = w6.drewN d ∧ Hid (bb = (L.take kk).any (fun t => decide (t.a = yp)))) (fun _ j _ => n - (intOf j).toNat)
      case atStart => exact ⟨0, _, false, Nat.zero_le _, rfl, rfl, rfl, Lib.hid (by simp)⟩
      case round =>
        obtain ⟨kk, d, bb, hkk, rfl, rfl, rfl, HB⟩ := hrel
        by_cases hlt2 : kk < n
        · obtain ⟨ad, t, rfl, hcc, ht⟩ := HTK6.out.at_ kk (by rw [HN.out]; exact hlt2)
          have hTT := Lib.hid (take_tok ht (fun t => decide (t.a = yp)))
          have hadl : ad.block < w6.heap.size := toks_lt HTK6.out (by rw [HN.out]; omega)
          obtain ⟨cc1, cc2, cc3⟩ := hcc
          obtain ⟨tk, ts, ta⟩ := t
          simp only at cc3 hTT
          have l1 : (0 : Int) ≤ kk := by omega
          have l2 : (kk : Int) < (n : Int) := by omega
          have hab : (ad.add (kk * 3)).block < w6.heap.size := by rw [add_block]; exact hadl
          clear ht cc1 cc2
          cases bb
          · by_cases hta : ta = yp
            all_goals
              go_wp2
              go_quiet (fail)
              go_wp2
              go_roundw
              case rel => exact ⟨kk + 1, _, _, by omega, by go_num, rfl, rfl, Lib.hid (by rw [hTT.out, ← HB.out]; simp [hta])⟩
              case measure => simp [intOf]; omega
          · go_wp2
            go_quiet (fail)
            go_wp2
            go_roundw
            case rel => exact ⟨kk + 1, _, _, by omega, by go_num, rfl, rfl, Lib.hid (by rw [hTT.out, ← HB.out]; simp)⟩
            case measure => simp [intOf]; omega
        · obtain rfl : n = kk := by omega
          obtain rfl : bb = true := by
            have h9 := HB.out
            rw [List.take_of_length_le (by rw [HN.out]; exact Nat.le_refl _)] at h9
            rw [h9]
            obtain ⟨y, hy1, hy2⟩ := HY.out
            exact List.any_eq_true.2 ⟨y, hy1, by simpa using hy2⟩
          go_wp2
          go_roundw
          case rel => exact ⟨k + 1, _, by omega, by go_num, rfl⟩
          case measure => simp [intOf]; omega
    · obtain rfl : m = k := by omega
      obtain ⟨ht, hta⟩ := HTT.out
      obtain ⟨ad, t', rfl, hcc, ht'⟩ := HTK6.out.at_ (n - 1) (by rw [HN.out]; omega)
      obtain rfl : t' = t := Option.some.inj (ht'.symm.trans ht)
      have hadl : ad.block < w6.heap.size := toks_lt HTK6.out (by rw [HN.out]; omega)
      obtain ⟨cc1, cc2, cc3⟩ := hcc
      rw [hta] at cc3
      have hab : (ad.add ((n - 1) * 3)).block < w6.heap.size := by rw [add_block]; exact hadl
      have l1 : (0 : Int) ≤ (n : Int) - 1 := by omega
      have l2 : (n : Int) - 1 < (n : Int) := by omega
      have l3 : ((n : Int) - 1).toNat = n - 1 := by omega
      have x1 : ¬ ((x : Int) < 0) := by omega
      have x2 : ¬ ((s.size : Int) < (x : Int)) := by omega
      have x3 : (0 : Int) ≤ x := by omega
      have x4 : (x : Int) ≤ s.size := by omega
      have HGd := Lib.hid (HG6.out.step (bd_drewN w6 d))
      clear ht hta ht' cc1 cc2 HTT
      go_wp2_with (first
         | (go_at_call 6
            refine (HPC.out _ HGd.out).mono ?_
            rintro e u7 ⟨v, rfl, hq, hb⟩
            obtain ⟨A7, c7, S7, d7, B7, e7, rfl, hqa, hsl⟩ := hq
            simp only [q0]
            have HG7 := Lib.hid ((HGd.out.step hb).step ((Below.refl _ _).alloc (Nat.le_refl _) (.cells #[.int .u8 0, .slice A7 0 c7, .slice S7 0 d7, .bool false, .slice B7 0 e7, .int .u8 0, .int .i64 0, .int .i64 0, .bool false, .int .u8 0] 28)))
            clear hb hqa hsl)
         | (go_at_call 10; refine (HAL.out _ HG7.out).mono ?_; rintro e w9 ⟨rfl, hg⟩; have HG9 := Lib.hid hg; clear hg))
      go_ret
      exact ⟨rfl, HG9.out.1⟩
theorem ParserValid_walk (s : ByteArray) (w : World) (hs : s.size ≤ maxLen) (hT : T9 w) : Calls Tryd.prog 4 #[.string s] w fun e w' => e = .returned (.bool true) ∧ Below w.heap.size w w' := by
  by_cases h : 400 < s.size
  · exact val_big s w hT hs h
  · have hsz : s.data.toList.length = s.size := by simp
    rcases parF_ways s.data.toList with ⟨L, q, ca, cf, cw, cn, ck, cl, ha, _, hsh, hp⟩ | ⟨L, v, r, ha, _, h0, hr, hp⟩ | ⟨L, n, e, ha, h0, hp⟩
    · obtain ⟨t, x, h1, h2, h3, h4, h5⟩ := valid_cut ha hsh
      have hck : Q8.chkF q = 0 := by have := parF_chk (N := s.data.toList) (by rw [hp]); rwa [hp] at this
      rw [hsz] at ha hp h4
      refine val_go s w hT (by omega) L ha q hp (small_chk hck) hck hsh.places t x h1 h2 h3 h4 _ (parF (s.data.toList.take x)).2.1 ?_ h5
      rw [← parF_er h5]
    · rw [hsz] at ha hp
      exact val_er s w hT (by omega) L ha v r h0 hr hp
    · exact val_lex s w hT (by omega) L n e ha h0
end Go.Proofs.YtlmamidodahgmaaDoor.P9
