/- The contract of written. -/
import Derived.Test.YtlmamidodahgmaaGreatDoorPDig
import Derived.Test.YtlmamidodahgmaaGreatDoorQF
import Derived.Deep.DeepCutAuto
import Derived.Deep.CutBlock
import Derived.Deep.RegionHeld3
import Derived.LoopTactic
namespace Go.Proofs.YtlmamidodahgmaaGreatDoor.P9
open Go.ChangeShapes Go.WideShapes Go.ChangeAt Go.RowKit N4 Q8
set_option linter.unusedVariables false
set_option linter.unusedSimpArgs false
set_option maxRecDepth 100000

/-- A query's box. -/
def Bx (b : Nat) (a0 a1 a2 a3 a4 a5 a6 a7 a8 a9 : Value) (W : World) : Prop := b < W.heap.size ∧ W.cell? ⟨b, 0, none⟩ = some a0 ∧ W.cell? ⟨b, 1, none⟩ = some a1 ∧ W.cell? ⟨b, 2, none⟩ = some a2 ∧ W.cell? ⟨b, 3, none⟩ = some a3 ∧ W.cell? ⟨b, 4, none⟩ = some a4 ∧ W.cell? ⟨b, 5, none⟩ = some a5 ∧ W.cell? ⟨b, 6, none⟩ = some a6 ∧ W.cell? ⟨b, 7, none⟩ = some a7 ∧ W.cell? ⟨b, 8, none⟩ = some a8 ∧ W.cell? ⟨b, 9, none⟩ = some a9
theorem Bx.step {b : Nat} {a0 a1 a2 a3 a4 a5 a6 a7 a8 a9 : Value} {W W' : World} (h : Bx b a0 a1 a2 a3 a4 a5 a6 a7 a8 a9 W) (hb : Below W.heap.size W W') : Bx b a0 a1 a2 a3 a4 a5 a6 a7 a8 a9 W' := by
  obtain ⟨h2, h3⟩ := h
  have e : ∀ o, W'.cell? ⟨b, o, none⟩ = W.cell? ⟨b, o, none⟩ := fun o => hb.cell (p := ⟨b, o, none⟩) h2
  refine ⟨Nat.lt_of_lt_of_le h2 hb.size, ?_⟩
  simp only [e]
  exact h3
theorem Bx.new (W : World) (a0 a1 a2 a3 a4 a5 a6 a7 a8 a9 : Value) (t : TypeId) : Bx W.heap.size a0 a1 a2 a3 a4 a5 a6 a7 a8 a9 (W.alloc (.cells #[a0, a1, a2, a3, a4, a5, a6, a7, a8, a9] t)) := ⟨by simp, by go_simp, by go_simp, by go_simp, by go_simp, by go_simp, by go_simp, by go_simp, by go_simp, by go_simp, by go_simp⟩
/-- The names, joined. -/
def namT (j : Bool) : List Int → List UInt8
  | [] => []
  | v :: l => nmB v ++ l.flatMap fun u => (32 :: (if j then k_join else k_union) ++ [32]) ++ nmB u
theorem namT_snoc (j : Bool) (l : List Int) (v : Int) : namT j (l ++ [v]) = if l = [] then nmB v else (namT j l ++ (32 :: (if j then k_join else k_union) ++ [32])) ++ nmB v := by
  cases l with
  | nil => simp [namT]
  | cons u l => simp [namT, List.append_assoc]
theorem nmB_len (v : Int) : (nmB v).length = 1 := by unfold nmB; repeat' split
                                                     all_goals rfl
theorem namT_len (j : Bool) (l : List Int) : (namT j l).length ≤ 8 * l.length := by
  cases l with
  | nil => simp [namT]
  | cons u l =>
    simp only [namT, List.length_append, nmB_len]
    have : (l.flatMap fun u => (32 :: (if j then k_join else k_union) ++ [32]) ++ nmB u).length ≤ 8 * l.length := by
      induction l with
      | nil => simp
      | cons v l ih =>
        rw [List.flatMap_cons, List.length_append, List.length_append, nmB_len]
        cases j <;> simp [k_join, k_union] at ih ⊢ <;> omega
    simp only [List.length_cons]
    omega
def whT (b : Bool) (T : List UInt8) : List UInt8 := if b then [32, 119, 104, 101, 114, 101, 32] ++ T else []
def evT (k v : Int) : List UInt8 := if k = 2 then [32, 101, 118, 101, 114, 121, 32] ++ numT v else []
def byT (y : Bool) : List UInt8 := if y then [32, 98, 121, 32, 107, 101, 121] else []
def laT (t : Int) : List UInt8 := if t = 2 then [32, 108, 97, 116, 101, 32, 115, 105, 100, 101] else []
def X1 (g : Int) : List UInt8 := ([115, 101, 108, 101, 99, 116, 32] ++ aggB g) ++ [40]
def X2 (g : Int) (ta : Tr) : List UInt8 := X1 g ++ (argT g ta ++ [41, 32, 102, 114, 111, 109, 32])
def X3 (k s : Int) : List UInt8 := (([32, 119, 105, 110, 100, 111, 119, 32] ++ winB k) ++ [32]) ++ numT s
theorem text_eq (q : Qy) (ta tm : Tr) (hl : q.l ≠ []) : textQ q ta tm = (((((X2 q.g ta ++ namT q.j q.l) ++ whT (!q.M.isEmpty) tm.wr) ++ X3 q.k q.s) ++ evT q.k q.v) ++ byT q.y) ++ laT q.t := by
  have e : ∀ (j : Bool) (l : List Int), ((l.flatMap fun u => [one (if j then k_join else k_union), one (nmB u)]).map (·.1)).flatMap (fun y => 32 :: y) = l.flatMap fun u => (32 :: (if j then k_join else k_union) ++ [32]) ++ nmB u := by
    intro j l
    induction l with
    | nil => rfl
    | cons v l ih =>
      rw [List.flatMap_cons, List.flatMap_cons, List.map_append, List.flatMap_append, ih]
      simp [one]
  obtain ⟨g, L, l, j, M, k, s, v, y, t⟩ := q
  cases l with
  | nil => exact absurd rfl hl
  | cons u l =>
    unfold textQ chunks
    show jn _ = _
    simp only [List.cons_append, List.nil_append, List.map_cons, jn, srcCh, List.map_append, List.flatMap_cons, List.flatMap_append, e]
    cases M.isEmpty <;> cases y <;> by_cases h1 : k = 2 <;> by_cases h2 : t = 2 <;> simp [h1, h2, one, X1, X2, X3, namT, whT, evT, byT, laT, k_select, k_from, k_where, k_window, k_every, k_by, k_key, k_late, k_side]
theorem tr_len {L : List Nd} {t : Tr} (h : TrOf L t) : t.wr.length ≤ 2400 := by
  have := (Tr.wr_len t h.ok h.big).1
  have := (Tr.er_zero.1 h.er).1
  omega
def WR (w : World) (a0 a1 a2 a3 a4 a5 a6 a7 a8 a9 : Value) (W : World) : Prop := Below w.heap.size w W ∧ Bx w.heap.size a0 a1 a2 a3 a4 a5 a6 a7 a8 a9 W
theorem WR.step {w : World} {a0 a1 a2 a3 a4 a5 a6 a7 a8 a9 : Value} {W W' : World} (h : WR w a0 a1 a2 a3 a4 a5 a6 a7 a8 a9 W) (hb : Below W.heap.size W W') : WR w a0 a1 a2 a3 a4 a5 a6 a7 a8 a9 W' := ⟨h.1.trans (hb.mono h.1.size), h.2.step hb⟩
theorem WR.al {w : World} {a0 a1 a2 a3 a4 a5 a6 a7 a8 a9 : Value} {W : World} (h : WR w a0 a1 a2 a3 a4 a5 a6 a7 a8 a9 W) (o : Obj) : WR w a0 a1 a2 a3 a4 a5 a6 a7 a8 a9 (W.alloc o) := h.step ((Below.refl _ _).alloc (Nat.le_refl _) o)
theorem nm_F {v : Int} (h : 0 ≤ v ∧ v ≤ 3) : nmF v = bytesOf (nmB v) ∧ nmE v = 0 := by
  have hv : v = 0 ∨ v = 1 ∨ v = 2 ∨ v = 3 := by omega
  rcases hv with rfl | rfl | rfl | rfl <;> exact ⟨rfl, rfl⟩
theorem add_zero9 (a : Addr) : a.add 0 = a := by
  unfold Addr.add
  split <;> (cases a; simp_all)
theorem take_ne {l : List Int} {k : Nat} (hk : 0 < k) (hl : k < l.length) : l.take k ≠ [] := by
  intro e
  have := congrArg List.length e
  rw [List.length_take, List.length_nil] at this
  omega
def SD (w : World) (D o : Nat) (wk : ByteArray) (k s : Int) (a0 a1 a2 a3 a4 a5 a6 a7 a8 a9 : Value) (W : World) : Prop :=
  W.cell? ⟨w.heap.size, 5, none⟩ = some a5 ∧ W.cell? ⟨w.heap.size, 6, none⟩ = some a6 ∧ W.cell? ⟨D, o, none⟩ = some (.string wk) ∧ D < W.heap.size ∧ w.heap.size < W.heap.size ∧ WR w a0 a1 a2 a3 a4 a5 a6 a7 a8 a9 W
theorem SD.step {w : World} {D o : Nat} {wk : ByteArray} {k s : Int} {a0 a1 a2 a3 a4 a5 a6 a7 a8 a9 : Value} {W W' : World} (h : SD w D o wk k s a0 a1 a2 a3 a4 a5 a6 a7 a8 a9 W) (hb : Below W.heap.size W W') : SD w D o wk k s a0 a1 a2 a3 a4 a5 a6 a7 a8 a9 W' := by
  obtain ⟨h1, h2, h3, h4, h5, h6⟩ := h
  exact ⟨by rw [hb.cell (p := ⟨w.heap.size, 5, none⟩) h5]; exact h1, by rw [hb.cell (p := ⟨w.heap.size, 6, none⟩) h5]; exact h2, by rw [hb.cell (p := ⟨D, o, none⟩) h4]; exact h3, Nat.lt_of_lt_of_le h4 hb.size, Nat.lt_of_lt_of_le h5 hb.size, h6.step hb⟩
set_option maxHeartbeats 8000000 in
theorem written_c (q : Qy) (ta tm : Tr) (ht : Trees q ta tm) (vv : Value) (w0 w : World) (hG : G9 w0 w) (hp : Pow w0) (hv : QV w q vv) : Calls Tryz.prog 8 #[vv] w fun e w' => e = .returned (.tuple #[.string (bytesOf (textQ q ta tm)), .bool true]) ∧ Below w.heap.size w w' := by
  obtain ⟨A, c, S, d, B, e, rfl, hqa, hsl⟩ := hv
  obtain ⟨hgt, z1, z2, z3, hfit, z4⟩ := (Q8.chk_zero q).1 ht.chk
  clear z1 z2 z3 z4
  obtain ⟨hk, hl0, hj2⟩ := chk_src ht.chk
  have hg := inB_true.1 hgt.1
  have ht2 := inB_true.1 hgt.2
  obtain ⟨hs, hkk, h2, hn2, z5⟩ := fits_small hfit
  clear z5
  rw [text_eq q ta tm hl0]
  have HTA := Lib.hid (fun (hg1 : q.g ≠ 1) (W : World) (hb : Below w.heap.size w W) => show Calls Tryz.prog 24 #[.slice A q.L.length c] W fun e w' => e = .returned (.tuple #[.string (bytesOf ta.wr), .int .i64 0]) ∧ Below W.heap.size W w' from by
    have hh := ht.a hg1
    exact textF_ok A c _ ta W (by rw [← hh.flat, Tr.flat_length]) (by rw [hh.flat]; exact hqa.1.1.below hb) hh.ok hh.er hh.big (hG.step hb).2.2.1 (hp.stays (hG.step hb).1))
  have HTM := Lib.hid (fun (hm1 : q.M ≠ []) (W : World) (hb : Below w.heap.size w W) => show Calls Tryz.prog 24 #[.slice B q.M.length e] W fun e w' => e = .returned (.tuple #[.string (bytesOf tm.wr), .int .i64 0]) ∧ Below W.heap.size W w' from by
    have hh := ht.m hm1
    exact textF_ok B e _ tm W (by rw [← hh.flat, Tr.flat_length]) (by rw [hh.flat]; exact hqa.2.2.1.below hb) hh.ok hh.er hh.big (hG.step hb).2.2.1 (hp.stays (hG.step hb).1))
  have HND := Lib.hid (fun (W : World) (hb : Below w.heap.size w W) => (hG.step hb).2.2.2)
  have HDG := Lib.hid (fun (n : Int) (h0 : 0 ≤ n) (h1 : n ≤ 9223372036854775807) (W : World) (hb : Below w.heap.size w W) => digits_c n h0 h1 w0 W (hG.step hb))
  have hlA : (argT q.g ta).length ≤ 2400 := by
    unfold argT
    by_cases h1 : q.g = 1
    · rw [if_pos h1]; decide
    · rw [if_neg h1]; exact tr_len (ht.a h1)
  have hlM : q.M ≠ [] → tm.wr.length ≤ 2400 := fun h => tr_len (ht.m h)
  have hll := hk.len
  have hlS := hqa.2.1.1
  have hMne : q.M.isEmpty = false ∨ q.M.isEmpty = true := by cases q.M.isEmpty <;> simp
  obtain ⟨g, L, l, j, M, k, s, v, y, t⟩ := q
  simp only at *
  have HQ := Lib.hid (And.intro hlS (And.intro hk.2 hl0))
  have hvb : k = 2 → v ≤ 9223372036854775807 := fun h => by have := h2 h; omega
  obtain ⟨m, hm⟩ : ∃ m, l.length = m := ⟨_, rfl⟩
  obtain ⟨nM, hnM⟩ : ∃ n, M.length = n := ⟨_, rfl⟩
  have HM := Lib.hid (And.intro hm hnM)
  clear hqa hsl hgt hfit hk hlS hl0 hj2 ht hG hp hn2 hMne
  rw [hm] at hll
  rw [hnM] at HTM
  rw [hm, hnM]
  clear hm hnM
  have HW0 := Lib.hid (fun o => (show WR w (.int .u8 g) (.slice A L.length c) (.slice S m d) (.bool j) (.slice B nM e) (.int .u8 k) (.int .i64 s) (.int .i64 v) (.bool y) (.int .u8 t) ((w.alloc (.cells #[.int .u8 g, .slice A L.length c, .slice S m d, .bool j, .slice B nM e, .int .u8 k, .int .i64 s, .int .i64 v, .bool y, .int .u8 t] 27)).alloc o) from WR.al ⟨(Below.refl _ _).alloc (Nat.le_refl _) _, Bx.new w (.int .u8 g) (.slice A L.length c) (.slice S m d) (.bool j) (.slice B nM e) (.int .u8 k) (.int .i64 s) (.int .i64 v) (.bool y) (.int .u8 t) _⟩ o))
  go_enter Tryz.func8, Tryz.ntmps8
  go_upto_region 2 with fail
  go_cut [5] (fun s5 W => s5 = .string (bytesOf (X1 g)) ∧ Hid (WR w (.int .u8 g) (.slice A L.length c) (.slice S m d) (.bool j) (.slice B nM e) (.int .u8 k) (.int .i64 s) (.int .i64 v) (.bool y) (.int .u8 t) W))
  case first =>
    have hg4 : g = 1 ∨ g = 2 ∨ g = 3 ∨ g = 4 := by omega
    clear hll
    rcases hg4 with rfl | rfl | rfl | rfl
    all_goals
      go_wp2_with fail
      go_meet
      exact ⟨rfl, Lib.hid (HW0.out _)⟩
  case rest =>
    obtain ⟨rfl, HW⟩ := hcut
    clear HW0
    obtain ⟨x1l, x10, x11, x12, x13, x14, x15, x16, x17, x18, x19⟩ := HW.out.2
    go_upto_if 25 with fail
    go_cut [6, 7] (fun s6 s7 W => s6 = .string (bytesOf (argT g ta)) ∧ s7 = .int .i64 0 ∧ Hid (WR w (.int .u8 g) (.slice A L.length c) (.slice S m d) (.bool j) (.slice B nM e) (.int .u8 k) (.int .i64 s) (.int .i64 v) (.bool y) (.int .u8 t) W))
    case first =>
      by_cases h1 : g = 1
      · have e1 := Lib.hid (show argT g ta = [42] from if_pos h1)
        subst h1
        go_wp2_with fail
        go_meet
        exact ⟨by rw [e1.out]; rfl, rfl, HW⟩
      · have e1 := Lib.hid (show argT g ta = ta.wr from if_neg h1)
        have hgb : (g != 1) = true := by simp [h1]
        go_wp2_with (go_at_call 24; refine (HTA.out h1 _ HW.out.1).mono ?_; rintro e w2 ⟨rfl, hb⟩; have HW2 := Lib.hid (HW.out.step hb); clear hb)
        go_meet
        exact ⟨by rw [e1.out] <;> rfl, rfl, HW2⟩
    case rest =>
      obtain ⟨rfl, rfl, HW3⟩ := hcut
      clear HTA HW x1l x10 x11 x12 x13 x14 x15 x16 x17 x18 x19
      obtain ⟨x1l, x10, x11, x12, x13, x14, x15, x16, x17, x18, x19⟩ := HW3.out.2
      have hX1 : (X1 g).length ≤ 13 := by
        have hg4 : g = 1 ∨ g = 2 ∨ g = 3 ∨ g = 4 := by omega
        rcases hg4 with h | h | h | h <;> rw [h] <;> decide
      have hX2 : (X2 g ta).length ≤ 2420 := by unfold X2; simp only [List.length_append, List.length_cons, List.length_nil]; omega
      have k1 := fun W => run_string_add_sum (P := Tryz.prog) W (bytesOf (argT g ta)) ⟨#[41, 32, 102, 114, 111, 109, 32]⟩ (by rw [bytesOf_size]; show _ + 7 ≤ _; omega)
      have k2 := fun W => run_string_add_sum (P := Tryz.prog) W (bytesOf (X1 g)) (bytesOf (argT g ta) ++ ⟨#[41, 32, 102, 114, 111, 109, 32]⟩) (by rw [ByteArray.size_append, bytesOf_size, bytesOf_size]; show _ + (_ + 7) ≤ _; omega)
      have E2 := Lib.hid (show bytesOf (X1 g) ++ (bytesOf (argT g ta) ++ ⟨#[41, 32, 102, 114, 111, 109, 32]⟩) = bytesOf (X2 g ta) by
        rw [show (⟨#[41, 32, 102, 114, 111, 109, 32]⟩ : ByteArray) = bytesOf [41, 32, 102, 114, 111, 109, 32] from rfl, bytes_app, bytes_app]; rfl)
      have HX2 := Lib.hid hX2
      have HLM := Lib.hid hlM
      clear hlA hlM hX1 hX2
      generalize argT g ta = T at k1 k2 E2 ⊢
      generalize X1 g = T0 at k1 k2 E2 ⊢
      go_upto_region 6 with fail
      go_cut [5] (fun s5 W => s5 = .string (bytesOf (X2 g ta)) ∧ Hid (WR w (.int .u8 g) (.slice A L.length c) (.slice S m d) (.bool j) (.slice B nM e) (.int .u8 k) (.int .i64 s) (.int .i64 v) (.bool y) (.int .u8 t) W))
      case first =>
        go_wp2_with fail
        go_meet
        exact ⟨by rw [E2.out], HW3⟩
      case rest =>
        obtain ⟨rfl, HW4⟩ := hcut
        clear HW3 x1l x10 x11 x12 x13 x14 x15 x16 x17 x18 x19 k1 k2 E2
        obtain ⟨x1l, x10, x11, x12, x13, x14, x15, x16, x17, x18, x19⟩ := HW4.out.2
        generalize hY2 : X2 g ta = Y2 at HX2 ⊢
        have HY2 := Lib.hid hY2
        clear hY2
        go_wp2_with fail
        go_loop [5, 8] (fun s5 i => ∃ kk : Nat, kk ≤ m ∧ i = .int .i64 kk ∧ s5 = .string (bytesOf (Y2 ++ namT j (l.take kk)))) (fun _ i => m - (intOf i).toNat)
        case atStart => exact ⟨0, Nat.zero_le _, rfl, by simp [namT]⟩
        case round =>
          obtain ⟨kk, hkk2, rfl, rfl⟩ := hrel
          by_cases hlt : kk < m
          · have HNT := Lib.hid (HND.out _ HW4.out.1)
            have hlk : kk < l.length := by rw [HM.out.1]; exact hlt
            obtain ⟨u, hu⟩ : ∃ u, l[kk]? = some u := ⟨_, List.getElem?_eq_getElem hlk⟩
            have hur := HQ.out.2.1 u (List.mem_of_getElem? hu)
            have hsn := namT_snoc j (l.take kk) u
            obtain ⟨_, hue⟩ := List.getElem?_eq_some_iff.1 hu
            have htk := List.take_succ_eq_append_getElem hlk
            rw [hue] at htk
            rw [← htk] at hsn
            have hcl : (Y2 ++ namT j (l.take kk)).length ≤ 2460 := by
              have := namT_len j (l.take kk)
              have := HX2.out
              rw [List.length_append]
              rw [List.length_take] at *
              omega
            obtain ⟨ad, hS, hcell⟩ : ∃ ad, S = some ad ∧ wc.cell? (ad.add kk) = some (.int .i64 u) := by
              rcases HQ.out.1.below HW4.out.1 with h0 | ⟨ad, h1, h2, h3⟩
              · have := congrArg List.length h0
                simp [iC] at this
                rw [this] at hlk
                simp at hlk
              · exact ⟨ad, h1, h3 kk _ (by rw [iC_at hlk, hue])⟩
            subst hS
            have HN := Lib.hid (name_any u wc HNT.out)
            rw [(nm_F hur).1, (nm_F hur).2] at HN
            have hz1 := nmB_len u
            have HSN := Lib.hid (show Y2 ++ namT j (l.take (kk + 1)) = if kk = 0 then (Y2 ++ namT j (l.take kk)) ++ nmB u else ((Y2 ++ namT j (l.take kk)) ++ (32 :: (if j then k_join else k_union) ++ [32])) ++ nmB u by
              rw [hsn]
              by_cases h0 : kk = 0
              · subst h0; simp [namT]
              · rw [if_neg (take_ne (by omega) hlk), if_neg h0]; simp only [List.append_assoc])
            clear hsn htk hue hu
            generalize Y2 ++ namT j (l.take kk) = cur at HSN hcl ⊢
            generalize nmB u = nb at HSN HN hz1
            have j1 : (0 : Int) ≤ kk := by omega
            have j2 : (kk : Int) < (m : Int) := by omega
            have hk4 : kk ≤ 3 := by omega
            have hm1 : kk + 1 ≤ m := by omega
            have k1 := fun W => run_string_add_sum (P := Tryz.prog) W (bytesOf cur) (bytesOf nb) (by rw [bytesOf_size, bytesOf_size]; omega)
            have k2 := fun W => run_string_add_sum (P := Tryz.prog) W (bytesOf cur) ⟨#[32, 106, 111, 105, 110, 32]⟩ (by rw [bytesOf_size]; show _ + 6 ≤ _; omega)
            have k3 := fun W => run_string_add_sum (P := Tryz.prog) W (bytesOf cur ++ ⟨#[32, 106, 111, 105, 110, 32]⟩) (bytesOf nb) (by rw [ByteArray.size_append, bytesOf_size, bytesOf_size]; show _ + 6 + _ ≤ _; omega)
            have k4 := fun W => run_string_add_sum (P := Tryz.prog) W (bytesOf cur) ⟨#[32, 117, 110, 105, 111, 110, 32]⟩ (by rw [bytesOf_size]; show _ + 7 ≤ _; omega)
            have k5 := fun W => run_string_add_sum (P := Tryz.prog) W (bytesOf cur ++ ⟨#[32, 117, 110, 105, 111, 110, 32]⟩) (bytesOf nb) (by rw [ByteArray.size_append, bytesOf_size, bytesOf_size]; show _ + 7 + _ ≤ _; omega)
            clear hlk hz1 hcl hkk2 hll
            by_cases h0 : kk = 0
            · have HE := Lib.hid (show bytesOf cur ++ bytesOf nb = bytesOf (Y2 ++ namT j (l.take (kk + 1))) by rw [HSN.out, if_pos h0, bytes_app])
              subst h0
              have hc0 : wc.cell? ad = some (.int .i64 u) := by have h7 := hcell; rwa [add_zero9] at h7
              clear HSN j1
              go_wp2_with (go_at_call 25; refine HN.out.mono ?_; rintro e w2 ⟨rfl, rfl⟩)
              go_round
              case rel => exact ⟨0 + 1, hm1, by go_num, by rw [← HE.out]⟩
              case measure => simp [intOf]; omega
            · have j3 : (0 : Int) < kk := by omega
              cases j
              · have HE := Lib.hid (show (bytesOf cur ++ ⟨#[32, 117, 110, 105, 111, 110, 32]⟩) ++ bytesOf nb = bytesOf (Y2 ++ namT false (l.take (kk + 1))) by
                  rw [HSN.out, if_neg h0, show (⟨#[32, 117, 110, 105, 111, 110, 32]⟩ : ByteArray) = bytesOf [32, 117, 110, 105, 111, 110, 32] from rfl, bytes_app, bytes_app]; rfl)
                clear HSN h0
                go_wp2_with (go_at_call 25; refine HN.out.mono ?_; rintro e w2 ⟨rfl, rfl⟩)
                go_round
                case rel => exact ⟨kk + 1, hm1, by go_num, by rw [← HE.out]⟩
                case measure => simp [intOf]; omega
              · have HE := Lib.hid (show (bytesOf cur ++ ⟨#[32, 106, 111, 105, 110, 32]⟩) ++ bytesOf nb = bytesOf (Y2 ++ namT true (l.take (kk + 1))) by
                  rw [HSN.out, if_neg h0, show (⟨#[32, 106, 111, 105, 110, 32]⟩ : ByteArray) = bytesOf [32, 106, 111, 105, 110, 32] from rfl, bytes_app, bytes_app]; rfl)
                clear HSN h0
                go_upto_if 59 with (go_at_call 25; refine HN.out.mono ?_; rintro e w2 ⟨rfl, rfl⟩)
                go_cut [5] (fun s5 W => s5 = .string (bytesOf cur ++ ⟨#[32, 106, 111, 105, 110, 32]⟩) ∧ W = wc)
                case first =>
                  go_wp2_with fail
                  go_meet
                  exact ⟨rfl, rfl⟩
                case rest =>
                  obtain ⟨rfl, rfl⟩ := hcut
                  go_wp2_with fail
                  go_round
                  case rel => exact ⟨kk + 1, hm1, by go_num, by rw [← HE.out]⟩
                  case measure => simp [intOf]; omega
          · obtain rfl : m = kk := by omega
            have hY3l : (Y2 ++ namT j (l.take m)).length ≤ 2460 := by
              have := namT_len j (l.take m)
              have := HX2.out
              rw [List.length_append]
              rw [List.length_take] at *
              omega
            have HY3 := Lib.hid (show Y2 ++ namT j (l.take m) = X2 g ta ++ namT j l by rw [HY2.out, List.take_of_length_le (by rw [HM.out.1]; exact Nat.le_refl _)])
            generalize Y2 ++ namT j (l.take m) = Y3 at hY3l HY3 ⊢
            have HY3L := Lib.hid hY3l
            clear hkk2 hlt hY3l HX2 HY2 HQ HND
            go_upto_if 72 with fail
            go_cut [5] (fun s5 W => s5 = .string (bytesOf (Y3 ++ whT (!M.isEmpty) tm.wr)) ∧ Hid (WR w (.int .u8 g) (.slice A L.length c) (.slice S m d) (.bool j) (.slice B nM e) (.int .u8 k) (.int .i64 s) (.int .i64 v) (.bool y) (.int .u8 t) W))
            case first =>
              by_cases hMe : M = []
              · have HX := Lib.hid (show Y3 ++ whT (!M.isEmpty) tm.wr = Y3 by rw [hMe]; simp [whT])
                obtain rfl : 0 = nM := by rw [← HM.out.2, hMe]; rfl
                clear hMe
                go_wp2_with fail
                go_meet
                exact ⟨by rw [HX.out], HW4⟩
              · have hn0 : 0 < nM := by rw [← HM.out.2]; exact List.length_pos_iff.2 hMe
                have jn0 : (0 : Int) < nM := by omega
                have hlw := HLM.out hMe
                have hy3 := HY3L.out
                have k1 := fun W => run_string_add_sum (P := Tryz.prog) W ⟨#[32, 119, 104, 101, 114, 101, 32]⟩ (bytesOf tm.wr) (by rw [bytesOf_size]; show 7 + _ ≤ _; omega)
                have k2 := fun W => run_string_add_sum (P := Tryz.prog) W (bytesOf Y3) (⟨#[32, 119, 104, 101, 114, 101, 32]⟩ ++ bytesOf tm.wr) (by rw [ByteArray.size_append, bytesOf_size, bytesOf_size]; show _ + (7 + _) ≤ _; omega)
                have HX := Lib.hid (show bytesOf Y3 ++ (⟨#[32, 119, 104, 101, 114, 101, 32]⟩ ++ bytesOf tm.wr) = bytesOf (Y3 ++ whT (!M.isEmpty) tm.wr) by
                  have : M.isEmpty = false := by cases M with
                    | nil => exact absurd rfl hMe
                    | cons => rfl
                  rw [this, show (⟨#[32, 119, 104, 101, 114, 101, 32]⟩ : ByteArray) = bytesOf [32, 119, 104, 101, 114, 101, 32] from rfl, bytes_app, bytes_app]; rfl)
                have HTM' := Lib.hid (HTM.out hMe)
                clear hMe hlw hy3 hn0
                go_wp2_with (go_at_call 24; refine (HTM'.out _ HW4.out.1).mono ?_; rintro e w2 ⟨rfl, hb⟩; have HW5 := Lib.hid (HW4.out.step hb); clear hb)
                go_meet
                exact ⟨by rw [HX.out], HW5⟩
            case rest =>
              obtain ⟨rfl, HW6⟩ := hcut
              clear HW4 x1l x10 x11 x12 x13 x14 x15 x16 x17 x18 x19
              have hY4l : (Y3 ++ whT (!M.isEmpty) tm.wr).length ≤ 4900 := by
                have := HY3L.out
                rw [List.length_append]
                unfold whT
                by_cases hMe : M = []
                · rw [hMe]; simp; omega
                · have := HLM.out hMe
                  split
                  · rw [List.length_append]; simp only [List.length_cons, List.length_nil]; omega
                  · simp; omega
              have HY4 := Lib.hid (show Y3 ++ whT (!M.isEmpty) tm.wr = (X2 g ta ++ namT j l) ++ whT (!M.isEmpty) tm.wr by rw [HY3.out])
              generalize Y3 ++ whT (!M.isEmpty) tm.wr = Y4 at hY4l HY4 ⊢
              have HY4L := Lib.hid hY4l
              clear HY3 HY3L HLM HTM hY4l
              have HW7 := Lib.hid (fun o => HW6.out.al o)
              have HN7 := Lib.hid (show ∀ (t : TypeId), let W := wc.alloc (.cells #[.string ⟨#[116, 117, 109, 98, 108, 101]⟩, .string ⟨#[115, 108, 105, 100, 101]⟩, .string ⟨#[115, 101, 115, 115, 105, 111, 110]⟩] t); wc.heap.size < W.heap.size ∧ W.cell? ⟨wc.heap.size, 0, none⟩ = some (.string ⟨#[116, 117, 109, 98, 108, 101]⟩) ∧ W.cell? ⟨wc.heap.size, 1, none⟩ = some (.string ⟨#[115, 108, 105, 100, 101]⟩) ∧ W.cell? ⟨wc.heap.size, 2, none⟩ = some (.string ⟨#[115, 101, 115, 115, 105, 111, 110]⟩) from by
                intro t
                refine ⟨by simp, by go_simp, by go_simp, by go_simp⟩)
              go_upto_region 24 with fail
              go_cut [5] (fun s5 W => s5 = .string (bytesOf (Y4 ++ X3 k s)) ∧ Hid (WR w (.int .u8 g) (.slice A L.length c) (.slice S m d) (.bool j) (.slice B nM e) (.int .u8 k) (.int .i64 s) (.int .i64 v) (.bool y) (.int .u8 t) W))
              case first =>
                have hnl := (num_ok (n := s) (by omega) (by omega)).2.2.2.2
                have hy4 := HY4L.out
                have HDS := Lib.hid (fun W hb => HDG.out s (by omega) (by omega) W hb)
                have HXN := Lib.hid (show bytesOf (Y4 ++ X3 k s) = bytesOf Y4 ++ (((⟨#[32, 119, 105, 110, 100, 111, 119, 32]⟩ ++ bytesOf (winB k)) ++ ⟨#[32]⟩) ++ bytesOf (numT s)) by
                  rw [show (⟨#[32, 119, 105, 110, 100, 111, 119, 32]⟩ : ByteArray) = bytesOf [32, 119, 105, 110, 100, 111, 119, 32] from rfl, show (⟨#[32]⟩ : ByteArray) = bytesOf [32] from rfl, bytes_app, bytes_app, bytes_app, bytes_app]; rfl)
                generalize numT s = ns at HXN HDS hnl
                have k3 := fun W => run_string_add_sum (P := Tryz.prog) W ((⟨#[32, 119, 105, 110, 100, 111, 119, 32]⟩ ++ bytesOf (winB k)) ++ ⟨#[32]⟩) (bytesOf ns) (by
                  have h4 : (winB k).length ≤ 7 := by unfold winB; repeat' split
                                                      all_goals decide
                  rw [ByteArray.size_append, ByteArray.size_append, bytesOf_size, bytesOf_size]; show 8 + _ + 1 + _ ≤ _; omega)
                have k4 := fun W => run_string_add_sum (P := Tryz.prog) W (bytesOf Y4) (((⟨#[32, 119, 105, 110, 100, 111, 119, 32]⟩ ++ bytesOf (winB k)) ++ ⟨#[32]⟩) ++ bytesOf ns) (by
                  have h4 : (winB k).length ≤ 7 := by unfold winB; repeat' split
                                                      all_goals decide
                  rw [ByteArray.size_append, ByteArray.size_append, ByteArray.size_append, bytesOf_size, bytesOf_size, bytesOf_size]; show _ + (8 + _ + 1 + _) ≤ _; omega)
                have k1 := fun W => run_string_add_sum (P := Tryz.prog) W ⟨#[32, 119, 105, 110, 100, 111, 119, 32]⟩ (bytesOf (winB k)) (by
                  have h4 : (winB k).length ≤ 7 := by unfold winB; repeat' split
                                                      all_goals decide
                  rw [bytesOf_size]; show 8 + _ ≤ _; omega)
                have k2 := fun W => run_string_add_sum (P := Tryz.prog) W (⟨#[32, 119, 105, 110, 100, 111, 119, 32]⟩ ++ bytesOf (winB k)) ⟨#[32]⟩ (by
                  have h4 : (winB k).length ≤ 7 := by unfold winB; repeat' split
                                                      all_goals decide
                  rw [ByteArray.size_append, bytesOf_size]; show 8 + _ + 1 ≤ _; omega)
                have hk3 : k = 1 ∨ k = 2 ∨ k = 3 := by omega
                have hSD : SD w wc.heap.size (k - 1).toNat (bytesOf (winB k)) k s (.int .u8 g) (.slice A L.length c) (.slice S m d) (.bool j) (.slice B nM e) (.int .u8 k) (.int .i64 s) (.int .i64 v) (.bool y) (.int .u8 t) (wc.alloc (.cells #[.string ⟨#[116, 117, 109, 98, 108, 101]⟩, .string ⟨#[115, 108, 105, 100, 101]⟩, .string ⟨#[115, 101, 115, 115, 105, 111, 110]⟩] 9)) := by
                  obtain ⟨n0, n1, n2, n3⟩ := HN7.out 9
                  have hw := HW7.out (.cells #[.string ⟨#[116, 117, 109, 98, 108, 101]⟩, .string ⟨#[115, 108, 105, 100, 101]⟩, .string ⟨#[115, 101, 115, 115, 105, 111, 110]⟩] 9)
                  refine ⟨hw.2.2.2.2.2.2.2.1, hw.2.2.2.2.2.2.2.2.1, ?_, n0, hw.2.1, hw⟩
                  rcases hk3 with rfl | rfl | rfl
                  · exact n1
                  · exact n2
                  · exact n3
                have HDSS := Lib.hid (fun (W : World) (hS : SD w wc.heap.size (k - 1).toNat (bytesOf (winB k)) k s (.int .u8 g) (.slice A L.length c) (.slice S m d) (.bool j) (.slice B nM e) (.int .u8 k) (.int .i64 s) (.int .i64 v) (.bool y) (.int .u8 t) W) => show Calls Tryz.prog 26 #[.int .i64 s] W fun ee w' => ee = .returned (.string (bytesOf ns)) ∧ SD w wc.heap.size (k - 1).toNat (bytesOf (winB k)) k s (.int .u8 g) (.slice A L.length c) (.slice S m d) (.bool j) (.slice B nM e) (.int .u8 k) (.int .i64 s) (.int .i64 v) (.bool y) (.int .u8 t) w' from (HDS.out W hS.2.2.2.2.2.1).mono (by rintro e w' ⟨rfl, hb⟩; exact ⟨rfl, hS.step hb⟩))
                have HSD := Lib.hid hSD
                clear hSD HW7 HN7 hy4 hnl HDS HDG HW6
                generalize bytesOf (winB k) = wk at k1 k2 k3 k4 HXN HDSS HSD
                refine wp_gen (fun W => SD w wc.heap.size (k - 1).toNat wk k s (.int .u8 g) (.slice A L.length c) (.slice S m d) (.bool j) (.slice B nM e) (.int .u8 k) (.int .i64 s) (.int .i64 v) (.bool y) (.int .u8 t) W) HSD.out ?_
                clear HSD
                intro W hS
                obtain ⟨mm, rfl⟩ : ∃ mm : Nat, k = 1 + (mm : Int) := ⟨(k - 1).toNat, by omega⟩
                have hmm : mm < 3 := by omega
                rw [show ((1 + (mm : Int)) - 1).toNat = mm by omega] at HDSS hS
                have hS3 := hS.step (bd_drewN W 1)
                have hS2 := Lib.hid hS3
                have hm5 : IntKind.u8.wrap (mm : Int) = (mm : Int) := by unfold IntKind.wrap; simp [IntKind.bits, IntKind.signed]; omega
                have hm6 : decide ((mm : Int) < 3) = true := by simp; omega
                have hm7 : (mm : Int) < ((3 : Nat) : Int) := by omega
                have hm8 : (mm : Int).toNat = mm := by omega
                have hm1 : (0 : Int) ≤ (mm : Int) := by omega
                have hm2 : (mm : Int) < 3 := by omega
                have hm3 : (1 + (mm : Int)) - 1 = (mm : Int) := by omega
                have hm4 : IntKind.u8.wrap ((1 + (mm : Int)) - 1) = (mm : Int) := by rw [hm3]; exact hm5
                clear hS hS3 hk3 hkk h2 hvb hmm
                unfold SD at hS2 HDSS
                go_region_held3 (fun w' => w'.cell? ⟨w.heap.size, 5, none⟩ = some (.int .u8 (1 + (mm : Int))) ∧ w'.cell? ⟨w.heap.size, 6, none⟩ = some (.int .i64 s) ∧ w'.cell? ⟨wc.heap.size, mm, none⟩ = some (.string wk) ∧ wc.heap.size < w'.heap.size ∧ w.heap.size < w'.heap.size ∧ WR w (.int .u8 g) (.slice A L.length c) (.slice S m d) (.bool j) (.slice B nM e) (.int .u8 (1 + (mm : Int))) (.int .i64 s) (.int .i64 v) (.bool y) (.int .u8 t) w') (first | exact hS2.out | assumption)
                  (first | (go_at_call 26; with_reducible refine (HDSS.out _ (by assumption)).mono ?_; rintro e w6 ⟨rfl, hs6⟩))
                all_goals
                  go_wp2_with fail
                  go_meet
                  exact ⟨by rw [HXN.out], hs6.2.2.2.2.2⟩
              case rest =>
                obtain ⟨rfl, HW8⟩ := hcut
                clear HW6 HW7 HN7
                have hY5l : (Y4 ++ X3 k s).length ≤ 4960 := by
                  have := HY4L.out
                  have h3 := (num_ok (n := s) (by omega) (by omega)).2.2.2.2
                  have h4 : (winB k).length ≤ 7 := by unfold winB; repeat' split
                                                      all_goals decide
                  unfold X3
                  simp only [List.length_append, List.length_cons, List.length_nil]
                  omega
                have HY5 := Lib.hid (show Y4 ++ X3 k s = ((X2 g ta ++ namT j l) ++ whT (!M.isEmpty) tm.wr) ++ X3 k s by rw [HY4.out])
                generalize Y4 ++ X3 k s = Y5 at hY5l HY5 ⊢
                have HY5L := Lib.hid hY5l
                clear HY4 HY4L hY5l
                obtain ⟨x1l, x10, x11, x12, x13, x14, x15, x16, x17, x18, x19⟩ := HW8.out.2
                go_upto_if 105 with fail
                go_cut [5] (fun s5 W => s5 = .string (bytesOf (Y5 ++ evT k v)) ∧ Hid (WR w (.int .u8 g) (.slice A L.length c) (.slice S m d) (.bool j) (.slice B nM e) (.int .u8 k) (.int .i64 s) (.int .i64 v) (.bool y) (.int .u8 t) W))
                case first =>
                  by_cases hk2 : k = 2
                  · have hv := hvb hk2
                    have hv1 := (h2 hk2).1
                    have hnl := (num_ok (n := v) (by omega) (by omega)).2.2.2.2
                    have hy5 := HY5L.out
                    have k1 := fun W => run_string_add_sum (P := Tryz.prog) W ⟨#[32, 101, 118, 101, 114, 121, 32]⟩ (bytesOf (numT v)) (by rw [bytesOf_size]; show 7 + _ ≤ _; omega)
                    have k2 := fun W => run_string_add_sum (P := Tryz.prog) W (bytesOf Y5) (⟨#[32, 101, 118, 101, 114, 121, 32]⟩ ++ bytesOf (numT v)) (by rw [ByteArray.size_append, bytesOf_size, bytesOf_size]; show _ + (7 + _) ≤ _; omega)
                    have HX := Lib.hid (show bytesOf Y5 ++ (⟨#[32, 101, 118, 101, 114, 121, 32]⟩ ++ bytesOf (numT v)) = bytesOf (Y5 ++ evT k v) by
                      rw [show (⟨#[32, 101, 118, 101, 114, 121, 32]⟩ : ByteArray) = bytesOf [32, 101, 118, 101, 114, 121, 32] from rfl, bytes_app, bytes_app, evT, if_pos hk2])
                    have HDV := Lib.hid (fun W hb => HDG.out v (by omega) hv W hb)
                    generalize numT v = nv at k1 k2 HX HDV
                    clear hv hv1 hnl hy5
                    subst hk2
                    go_wp2_with (go_at_call 26; refine (HDV.out _ HW8.out.1).mono ?_; rintro e w2 ⟨rfl, hb⟩; have HW9 := Lib.hid (HW8.out.step hb); clear hb)
                    go_meet
                    exact ⟨by rw [HX.out], HW9⟩
                  · have HX := Lib.hid (show Y5 ++ evT k v = Y5 by rw [evT, if_neg hk2]; simp)
                    have hkb : (k == 2) = false := by simp [hk2]
                    go_wp2_with fail
                    go_meet
                    exact ⟨by rw [HX.out], HW8⟩
                case rest =>
                  obtain ⟨rfl, HW9⟩ := hcut
                  clear HW8 x1l x10 x11 x12 x13 x14 x15 x16 x17 x18 x19
                  have hY6l : (Y5 ++ evT k v).length ≤ 5000 := by
                    have := HY5L.out
                    rw [List.length_append]
                    unfold evT
                    split
                    · rename_i hk2
                      have h3 := (num_ok (n := v) (by have := h2 hk2; omega) (hvb hk2)).2.2.2.2
                      rw [List.length_append]; simp only [List.length_cons, List.length_nil]; omega
                    · simp; omega
                  have HY6 := Lib.hid (show Y5 ++ evT k v = (((X2 g ta ++ namT j l) ++ whT (!M.isEmpty) tm.wr) ++ X3 k s) ++ evT k v by rw [HY5.out])
                  generalize Y5 ++ evT k v = Y6 at hY6l HY6 ⊢
                  clear HY5 HY5L
                  obtain ⟨x1l, x10, x11, x12, x13, x14, x15, x16, x17, x18, x19⟩ := HW9.out.2
                  have HB := Lib.hid (show (bytesOf (Y6 ++ byT y) ++ bytesOf (laT t)) = bytesOf (X2 g ta ++ (namT j l ++ (whT (!M.isEmpty) tm.wr ++ (X3 k s ++ (evT k v ++ (byT y ++ laT t)))))) by rw [bytes_app, HY6.out]; simp only [List.append_assoc])
                  have k1 := fun W => run_string_add_sum (P := Tryz.prog) W (bytesOf Y6) ⟨#[32, 98, 121, 32, 107, 101, 121]⟩ (by rw [bytesOf_size]; show _ + 7 ≤ _; omega)
                  have k2 := fun W => run_string_add_sum (P := Tryz.prog) W (bytesOf Y6) ⟨#[32, 108, 97, 116, 101, 32, 115, 105, 100, 101]⟩ (by rw [bytesOf_size]; show _ + 10 ≤ _; omega)
                  have k3 := fun W => run_string_add_sum (P := Tryz.prog) W (bytesOf Y6 ++ ⟨#[32, 98, 121, 32, 107, 101, 121]⟩) ⟨#[32, 108, 97, 116, 101, 32, 115, 105, 100, 101]⟩ (by rw [ByteArray.size_append, bytesOf_size]; show _ + 7 + 10 ≤ _; omega)
                  clear HY6 hY6l
                  have htt : t = 1 ∨ t = 2 := by omega
                  have E1 := Lib.hid (show bytesOf (Y6 ++ byT true) = bytesOf Y6 ++ ⟨#[32, 98, 121, 32, 107, 101, 121]⟩ by rw [show (⟨#[32, 98, 121, 32, 107, 101, 121]⟩ : ByteArray) = bytesOf [32, 98, 121, 32, 107, 101, 121] from rfl, bytes_app]; rfl)
                  have E2 := Lib.hid (show bytesOf (Y6 ++ byT false) = bytesOf Y6 by simp [byT])
                  have E3 := Lib.hid (show ∀ X : ByteArray, X ++ bytesOf (laT 1) = X by intro X; apply ByteArray.ext; simp [bytesOf, laT])
                  have E4 := Lib.hid (show bytesOf (laT 2) = ⟨#[32, 108, 97, 116, 101, 32, 115, 105, 100, 101]⟩ from rfl)
                  rcases htt with rfl | rfl <;> cases y
                  all_goals
                    clear ht2 h2 hvb
                    go_wp2_with fail
                    go_ret2
                    refine ⟨?_, HW9.out.1⟩
                    first
                      | (exact congrArg (fun z => Ending.returned (Value.tuple #[Value.string z, Value.bool true])) (by have h := HB.out; rw [E1.out, E3.out] at h; exact h))
                      | (exact congrArg (fun z => Ending.returned (Value.tuple #[Value.string z, Value.bool true])) (by have h := HB.out; rw [E2.out, E3.out] at h; exact h))
                      | (exact congrArg (fun z => Ending.returned (Value.tuple #[Value.string z, Value.bool true])) (by have h := HB.out; rw [E1.out, E4.out] at h; exact h))
                      | (exact congrArg (fun z => Ending.returned (Value.tuple #[Value.string z, Value.bool true])) (by have h := HB.out; rw [E2.out, E4.out] at h; exact h))
end Go.Proofs.YtlmamidodahgmaaGreatDoor.P9
