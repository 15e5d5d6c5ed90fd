/- Merged: QAlk, QSame. -/
import Derived.Test.YtlmamidodahgmaaGreatDoorQA
import Derived.Test.YtlmamidodahgmaaGreatDoorNB
import Derived.Deep.RegionHeld3
import Derived.Test.YtlmamidodahgmaaGreatDoorQB
import Derived.Laws.StructEq
/- QAlk: The contract of the reference's Alike of nodes. -/
namespace Go.Proofs.YtlmamidodahgmaaGreatDoor.Q8
open Go.ChangeShapes Go.WideShapes Go.ChangeAt Go.RowKit N4
set_option linter.unusedVariables false
set_option linter.unusedSimpArgs false
set_option maxRecDepth 100000

theorem alk_snoc {L : List Nd} {k : Nat} {x : Nd} (h : L[k]? = some x) : (L.take (k + 1)).map unp = (L.take k).map unp ++ [unp x] := by
  rw [take_snoc_nd h, List.map_append]; rfl
theorem alk_at {L M : List Nd} {k : Nat} {x y : Nd} (hx : L[k]? = some x) (hy : M[k]? = some y) (h : unp x ≠ unp y) : alikeF L M = false := by
  unfold alikeF
  rw [decide_eq_false_iff_not]
  intro e
  have := congrArg (fun l => l[k]?) e
  simp only [List.getElem?_map, hx, hy, Option.map_some, Option.some.injEq] at this
  exact h this
set_option maxHeartbeats 4000000 in
theorem ralike_any (A A' : Option Addr) (n n' c c' : Nat) (L M : List Nd) (w : World) (hn : L.length = n) (hn' : M.length = n') (hL : n ≤ 1000) (hM : n' ≤ 1000) (ht : Lies w A (ndCells L)) (ht' : Lies w A' (ndCells M)) (v : Bool) (hv : alikeF L M = v) :
    Calls Tryz.prog 40 #[.slice A n c, .slice A' n' c'] w fun e w' => e = .returned (.bool v) ∧ Below w.heap.size w w' := by
  have HT := Lib.hid ht
  have HT' := Lib.hid ht'
  have HN := Lib.hid hn
  have HN' := Lib.hid hn'
  have HV := Lib.hid hv
  clear ht ht' hn hn' hv
  have hgt : Tryz.prog.eqGuardType Tryz.prog.depth 58 = false := by kernel_rfl
  by_cases hnn : n = n'
  · subst hnn
    go_enter Tryz.func40, Tryz.ntmps40
    go_wp2
    go_loopw [5] (fun i wr => ∃ k : Nat, k ≤ n ∧ i = .int .i64 k ∧ Hid (Bl w wr) ∧ Hid ((L.take k).map unp = (M.take k).map unp)) (fun i _ => n - (intOf i).toNat)
    case atStart => exact ⟨0, Nat.zero_le _, rfl, Bl.start w, by show (L.take 0).map unp = _; simp⟩
    case round =>
      obtain ⟨k, hk, rfl, HB, HK⟩ := hrel
      by_cases hlt : k < n
      · obtain ⟨x, hx⟩ : ∃ x, L[k]? = some x := ⟨_, List.getElem?_eq_getElem (by rw [HN.out]; exact hlt)⟩
        obtain ⟨y, hy⟩ : ∃ y, M[k]? = some y := ⟨_, List.getElem?_eq_getElem (by rw [HN'.out]; exact hlt)⟩
        obtain ⟨ad, rfl, hadl, c0, c1, c2, c3, c4⟩ := (HB.out.lies HT.out).nd hx
        obtain ⟨ad', rfl, hadl', d0, d1, d2, d3, d4⟩ := (HB.out.lies HT'.out).nd hy
        have HX := Lib.hid hx
        have HY := Lib.hid hy
        have q3 : (0 : Int) ≤ k := by omega
        have q4 : (k : Int) < n := by omega
        have n1 : wr.heap.size ≠ (ad.add (k * 5)).block := by rw [add_block]; omega
        have n2 : wr.heap.size + 1 ≠ (ad.add (k * 5)).block := by rw [add_block]; omega
        have n3 : wr.heap.size ≠ (ad'.add (k * 5)).block := by rw [add_block]; omega
        have n4 : wr.heap.size + 1 ≠ (ad'.add (k * 5)).block := by rw [add_block]; omega
        clear hx hy hadl hadl'
        have P1 : ∀ r : Bool, (!decide (unp x = unp y)) = r → ∀ W, (binOp .neq 58 (.agg #[.int .u8 x.k, .int .i64 x.n, .int .i64 x.a, .int .i64 x.b, .int .i64 0]) (.agg #[.int .u8 y.k, .int .i64 y.n, .int .i64 y.a, .int .i64 y.b, .int .i64 0])).run Tryz.prog W = .ok (.bool r) W := fun r hr W => neq_nd (unp x) (unp y) r hr W
        by_cases hxy : unp x = unp y
        · have q1 := P1 false (by simp [hxy])
          have HK' := Lib.hid (show (L.take (k + 1)).map unp = (M.take (k + 1)).map unp by rw [alk_snoc HX.out, alk_snoc HY.out, HK.out, hxy])
          clear P1 hxy
          go_wp2
          go_region_held3 (fun w' => w'.cell? (ad.add (k * 5)) = some (.int .u8 x.k) ∧ w'.cell? ⟨(ad.add (k * 5)).block, (ad.add (k * 5)).off + 1, none⟩ = some (.int .i64 x.n) ∧ w'.cell? ⟨(ad.add (k * 5)).block, (ad.add (k * 5)).off + 2, none⟩ = some (.int .i64 x.a) ∧ w'.cell? ⟨(ad.add (k * 5)).block, (ad.add (k * 5)).off + 3, none⟩ = some (.int .i64 x.b) ∧ w'.cell? ⟨(ad.add (k * 5)).block, (ad.add (k * 5)).off + 4, none⟩ = some (.int .i64 x.p) ∧ w'.cell? (ad'.add (k * 5)) = some (.int .u8 y.k) ∧ w'.cell? ⟨(ad'.add (k * 5)).block, (ad'.add (k * 5)).off + 1, none⟩ = some (.int .i64 y.n) ∧ w'.cell? ⟨(ad'.add (k * 5)).block, (ad'.add (k * 5)).off + 2, none⟩ = some (.int .i64 y.a) ∧ w'.cell? ⟨(ad'.add (k * 5)).block, (ad'.add (k * 5)).off + 3, none⟩ = some (.int .i64 y.b) ∧ w'.cell? ⟨(ad'.add (k * 5)).block, (ad'.add (k * 5)).off + 4, none⟩ = some (.int .i64 y.p)) (go_keep) (fail)
          all_goals
            go_wp2
            go_roundw
            case rel => exact ⟨k + 1, by omega, by go_num, ((HB.out.al _).al _).step (bd_drewN _ 1), HK'⟩
            case measure => simp [intOf]; omega
        · have q1 := P1 true (by simp [hxy])
          have HF := Lib.hid (alk_at HX.out HY.out hxy)
          clear P1 hxy
          go_wp2
          go_region_held3 (fun w' => w'.cell? (ad.add (k * 5)) = some (.int .u8 x.k) ∧ w'.cell? ⟨(ad.add (k * 5)).block, (ad.add (k * 5)).off + 1, none⟩ = some (.int .i64 x.n) ∧ w'.cell? ⟨(ad.add (k * 5)).block, (ad.add (k * 5)).off + 2, none⟩ = some (.int .i64 x.a) ∧ w'.cell? ⟨(ad.add (k * 5)).block, (ad.add (k * 5)).off + 3, none⟩ = some (.int .i64 x.b) ∧ w'.cell? ⟨(ad.add (k * 5)).block, (ad.add (k * 5)).off + 4, none⟩ = some (.int .i64 x.p) ∧ w'.cell? (ad'.add (k * 5)) = some (.int .u8 y.k) ∧ w'.cell? ⟨(ad'.add (k * 5)).block, (ad'.add (k * 5)).off + 1, none⟩ = some (.int .i64 y.n) ∧ w'.cell? ⟨(ad'.add (k * 5)).block, (ad'.add (k * 5)).off + 2, none⟩ = some (.int .i64 y.a) ∧ w'.cell? ⟨(ad'.add (k * 5)).block, (ad'.add (k * 5)).off + 3, none⟩ = some (.int .i64 y.b) ∧ w'.cell? ⟨(ad'.add (k * 5)).block, (ad'.add (k * 5)).off + 4, none⟩ = some (.int .i64 y.p)) (go_keep) (fail)
          all_goals
            go_wp2
            go_ret
            exact ⟨ret_bool' (by rw [← HV.out, HF.out]), ((HB.out.al _).al _).step (bd_drewN _ 1)⟩
      · have HF := Lib.hid (show alikeF L M = true by
          have := HK.out
          rw [List.take_of_length_le (by rw [HN.out]; omega), List.take_of_length_le (by rw [HN'.out]; omega)] at this
          unfold alikeF; rw [this]; simp)
        go_wp2
        go_ret
        exact ⟨ret_bool' (by rw [← HV.out, HF.out]), HB.out⟩
  · have HF := Lib.hid (show alikeF L M = false by unfold alikeF; rw [decide_eq_false_iff_not]; intro e; have := congrArg List.length e; rw [List.length_map, List.length_map, HN.out, HN'.out] at this; exact hnn this)
    have e1 : ((n : Int) == n') = false := by simp; omega
    have e2 : ((n : Int) != n') = true := by simp; omega
    clear hnn
    go_enter Tryz.func40, Tryz.ntmps40
    go_wp2
    go_ret
    exact ⟨ret_bool' (by rw [← HV.out, HF.out]), Below.refl _ _⟩
end Go.Proofs.YtlmamidodahgmaaGreatDoor.Q8

/- QSame: alike, and the comparisons of queries. -/
namespace Go.Proofs.YtlmamidodahgmaaGreatDoor.Q8
open Go.ChangeShapes Go.WideShapes Go.ChangeAt Go.RowKit N4
set_option linter.unusedVariables false
set_option linter.unusedSimpArgs false
set_option maxRecDepth 100000

theorem eqq_win (k s v k' s' v' : Int) (w : World) : (Op.equalIn 10000 25 (.agg #[.int .u8 k, .int .i64 s, .int .i64 v]) (.agg #[.int .u8 k', .int .i64 s', .int .i64 v'])).run Tryz.prog w = .ok (k == k' && s == s' && v == v') w := by
  have u1 := Tryz.underlying5
  have u2 := Tryz.underlying2
  have hS : Tryz.prog.underlying 25 = some (.struct (Tryz.prog.fieldsOf 25)) := by kernel_rfl
  rw [show (10000 : Nat) = 9999 + 1 from rfl, run_equalIn_agg w 9999 25 _ _ hS (by kernel_rfl)]
  simp only [Program.fieldsOf, Tryz.underlying25]
  go_simp
  by_cases h1 : k = k' <;> by_cases h2 : s = s' <;> by_cases h3 : v = v' <;> simp [h1, h2, h3]
theorem eq_win (k s v k' s' v' : Int) (r : Bool) (hr : (decide (k = k') && decide (s = s') && decide (v = v')) = r) (w : World) : (binOp .eql 25 (.agg #[.int .u8 k, .int .i64 s, .int .i64 v]) (.agg #[.int .u8 k', .int .i64 s', .int .i64 v'])).run Tryz.prog w = .ok (.bool r) w := by
  subst hr
  rw [run_eql_struct, eqq_win]
  by_cases h1 : k = k' <;> by_cases h2 : s = s' <;> by_cases h3 : v = v' <;> simp [h1, h2, h3]
theorem alike_p (A A' : Option Addr) (n n' c c' : Nat) (L M : List Nd) (w : World) (hn : L.length = n) (hn' : M.length = n') (ht : Lies w A (ndCells L)) (ht' : Lies w A' (ndCells M)) (h : (n = 0 ∨ checkF L = 0) ∧ (n' = 0 ∨ checkF M = 0)) (v : Bool) (hv : alikeF L M = v) :
    Calls Tryz.prog 34 #[.slice A n c, .slice A' n' c'] w fun e w' => e = .returned (.bool v) ∧ Below w.heap.size w w' := by
  by_cases h0 : n = 0
  · have HF := Lib.hid (show decide (n = n') = v by rw [← hv, alike_nil (.inl (by rw [hn]; exact h0)), hn, hn'])
    clear h hv ht ht' hn hn'
    subst h0
    by_cases h1 : n' = 0
    · subst h1
      go_enter Tryz.func34, Tryz.ntmps34
      go_wp2
      go_ret
      exact ⟨ret_bool' (by rw [← HF.out]; rfl), Below.refl _ _⟩
    · have e1 : ((0 : Int) == n') = false := by simp; omega
      go_enter Tryz.func34, Tryz.ntmps34
      go_wp2
      go_ret
      exact ⟨ret_bool' (by rw [← HF.out]; simp; omega), Below.refl _ _⟩
  · have q1 : ((n : Int) == 0) = false := by simpa using h0
    by_cases h1 : n' = 0
    · have HF := Lib.hid (show decide (n = n') = v by rw [← hv, alike_nil (.inr (by rw [hn']; exact h1)), hn, hn'])
      clear h hv ht ht' hn hn'
      subst h1
      go_enter Tryz.func34, Tryz.ntmps34
      go_wp2
      go_ret
      exact ⟨ret_bool' (by rw [← HF.out]; simp; omega), Below.refl _ _⟩
    · have q2 : ((n' : Int) == 0) = false := by simpa using h1
      have HC := Lib.hid (same_ok A A' n n' c c' L M w hn hn' ht ht' (h.1.resolve_left h0) (h.2.resolve_left h1) v hv)
      clear h hv ht ht' hn hn' h0 h1
      go_enter Tryz.func34, Tryz.ntmps34
      go_wp2_with (go_at_call 18; refine HC.out.mono ?_; rintro e w1 ⟨rfl, hb⟩)
      go_ret
      exact ⟨rfl, hb⟩
/-- Two boxes. -/
def QX2 (w0 : World) (b b' : Nat) (g1 : Int) (A1 : Option Addr) (n1 c1 : Nat) (S1 : Option Addr) (m1 d1 : Nat) (j1 : Bool) (B1 : Option Addr) (o1 e1 : Nat) (k1 s1 v1 : Int) (y1 : Bool) (t1 : Int) (g2 : Int) (A2 : Option Addr) (n2 c2 : Nat) (S2 : Option Addr) (m2 d2 : Nat) (j2 : Bool) (B2 : Option Addr) (o2 e2 : Nat) (k2 s2 v2 : Int) (y2 : Bool) (t2 : Int) (W : World) : Prop := QX w0 b g1 A1 n1 c1 S1 m1 d1 j1 B1 o1 e1 k1 s1 v1 y1 t1 W ∧ QX w0 b' g2 A2 n2 c2 S2 m2 d2 j2 B2 o2 e2 k2 s2 v2 y2 t2 W
theorem QX2.step {w0 : World} {b b' : Nat} {g1 : Int} {A1 : Option Addr} {n1 c1 : Nat} {S1 : Option Addr} {m1 d1 : Nat} {j1 : Bool} {B1 : Option Addr} {o1 e1 : Nat} {k1 s1 v1 : Int} {y1 : Bool} {t1 : Int} {g2 : Int} {A2 : Option Addr} {n2 c2 : Nat} {S2 : Option Addr} {m2 d2 : Nat} {j2 : Bool} {B2 : Option Addr} {o2 e2 : Nat} {k2 s2 v2 : Int} {y2 : Bool} {t2 : Int} {W W' : World} (h : QX2 w0 b b' g1 A1 n1 c1 S1 m1 d1 j1 B1 o1 e1 k1 s1 v1 y1 t1 g2 A2 n2 c2 S2 m2 d2 j2 B2 o2 e2 k2 s2 v2 y2 t2 W) (hb : Below W.heap.size W W') : QX2 w0 b b' g1 A1 n1 c1 S1 m1 d1 j1 B1 o1 e1 k1 s1 v1 y1 t1 g2 A2 n2 c2 S2 m2 d2 j2 B2 o2 e2 k2 s2 v2 y2 t2 W' := ⟨h.1.step hb, h.2.step hb⟩
theorem QX2.bl {w0 : World} {b b' : Nat} {g1 : Int} {A1 : Option Addr} {n1 c1 : Nat} {S1 : Option Addr} {m1 d1 : Nat} {j1 : Bool} {B1 : Option Addr} {o1 e1 : Nat} {k1 s1 v1 : Int} {y1 : Bool} {t1 : Int} {g2 : Int} {A2 : Option Addr} {n2 c2 : Nat} {S2 : Option Addr} {m2 d2 : Nat} {j2 : Bool} {B2 : Option Addr} {o2 e2 : Nat} {k2 s2 v2 : Int} {y2 : Bool} {t2 : Int} {W : World} (h : QX2 w0 b b' g1 A1 n1 c1 S1 m1 d1 j1 B1 o1 e1 k1 s1 v1 y1 t1 g2 A2 n2 c2 S2 m2 d2 j2 B2 o2 e2 k2 s2 v2 y2 t2 W) : Bl w0 W := h.1.bl
theorem QX2.new (w : World) (g1 : Int) (A1 : Option Addr) (n1 c1 : Nat) (S1 : Option Addr) (m1 d1 : Nat) (j1 : Bool) (B1 : Option Addr) (o1 e1 : Nat) (k1 s1 v1 : Int) (y1 : Bool) (t1 : Int) (g2 : Int) (A2 : Option Addr) (n2 c2 : Nat) (S2 : Option Addr) (m2 d2 : Nat) (j2 : Bool) (B2 : Option Addr) (o2 e2 : Nat) (k2 s2 v2 : Int) (y2 : Bool) (t2 : Int) (t : TypeId) : QX2 w w.heap.size (w.heap.size + 1) g1 A1 n1 c1 S1 m1 d1 j1 B1 o1 e1 k1 s1 v1 y1 t1 g2 A2 n2 c2 S2 m2 d2 j2 B2 o2 e2 k2 s2 v2 y2 t2 ((w.alloc (.cells #[.int .u8 g1, .slice A1 n1 c1, .slice S1 m1 d1, .bool j1, .slice B1 o1 e1, .int .u8 k1, .int .i64 s1, .int .i64 v1, .bool y1, .int .u8 t1] t)).alloc (.cells #[.int .u8 g2, .slice A2 n2 c2, .slice S2 m2 d2, .bool j2, .slice B2 o2 e2, .int .u8 k2, .int .i64 s2, .int .i64 v2, .bool y2, .int .u8 t2] t)) :=
  ⟨(QX.new (Bl.start w) g1 A1 n1 c1 S1 m1 d1 j1 B1 o1 e1 k1 s1 v1 y1 t1 t).step ((Below.refl _ _).alloc (Nat.le_refl _) _), by have := QX.new ((Bl.start w).al (.cells #[.int .u8 g1, .slice A1 n1 c1, .slice S1 m1 d1, .bool j1, .slice B1 o1 e1, .int .u8 k1, .int .i64 s1, .int .i64 v1, .bool y1, .int .u8 t1] t)) g2 A2 n2 c2 S2 m2 d2 j2 B2 o2 e2 k2 s2 v2 y2 t2 t; rwa [show (w.alloc (.cells #[.int .u8 g1, .slice A1 n1 c1, .slice S1 m1 d1, .bool j1, .slice B1 o1 e1, .int .u8 k1, .int .i64 s1, .int .i64 v1, .bool y1, .int .u8 t1] t)).heap.size = w.heap.size + 1 by simp] at this⟩
set_option maxHeartbeats 4000000 in
theorem ralk_0 (g1 : Int) (A1 : Option Addr) (n1 c1 : Nat) (S1 : Option Addr) (m1 d1 : Nat) (j1 : Bool) (B1 : Option Addr) (o1 e1 : Nat) (k1 s1 v1 : Int) (y1 : Bool) (t1 : Int) (g2 : Int) (A2 : Option Addr) (n2 c2 : Nat) (S2 : Option Addr) (m2 d2 : Nat) (j2 : Bool) (B2 : Option Addr) (o2 e2 : Nat) (k2 s2 v2 : Int) (y2 : Bool) (t2 : Int) (L1 M1 : List Nd) (l1 : List Int) (L2 M2 : List Nd) (l2 : List Int) (w : World) (h : QA w A1 n1 S1 m1 B1 o1 L1 M1 l1) (h2 : QA w A2 n2 S2 m2 B2 o2 L2 M2 l2) (z1 : n1 ≤ 70) (z2 : n2 ≤ 70) (z3 : o1 ≤ 70) (z4 : o2 ≤ 70) (z5 : m1 ≤ 10) (z6 : m2 ≤ 10)  (cc0 : g1 ≠ g2) :
    Calls Tryz.prog 14 #[.agg #[.int .u8 g1, .slice A1 n1 c1, .slice S1 m1 d1, .bool j1, .slice B1 o1 e1, .int .u8 k1, .int .i64 s1, .int .i64 v1, .bool y1, .int .u8 t1], .agg #[.int .u8 g2, .slice A2 n2 c2, .slice S2 m2 d2, .bool j2, .slice B2 o2 e2, .int .u8 k2, .int .i64 s2, .int .i64 v2, .bool y2, .int .u8 t2]] w fun e w' => e = .returned (.bool false) ∧ Below w.heap.size w w' := by
  have b0 := fun t => QX2.new w g1 A1 n1 c1 S1 m1 d1 j1 B1 o1 e1 k1 s1 v1 y1 t1 g2 A2 n2 c2 S2 m2 d2 j2 B2 o2 e2 k2 s2 v2 y2 t2 t
  clear h h2 z1 z2 z3 z4 z5 z6
  have i0 : (g1 == g2) = false := by simpa using cc0
  clear cc0
  go_enter Tryz.func14, Tryz.ntmps14
  go_wp2
  go_ret
  exact ⟨rfl, (b0 _).bl⟩
set_option maxHeartbeats 4000000 in
theorem ralk_1 (g1 : Int) (A1 : Option Addr) (n1 c1 : Nat) (S1 : Option Addr) (m1 d1 : Nat) (j1 : Bool) (B1 : Option Addr) (o1 e1 : Nat) (k1 s1 v1 : Int) (y1 : Bool) (t1 : Int) (g2 : Int) (A2 : Option Addr) (n2 c2 : Nat) (S2 : Option Addr) (m2 d2 : Nat) (j2 : Bool) (B2 : Option Addr) (o2 e2 : Nat) (k2 s2 v2 : Int) (y2 : Bool) (t2 : Int) (L1 M1 : List Nd) (l1 : List Int) (L2 M2 : List Nd) (l2 : List Int) (w : World) (h : QA w A1 n1 S1 m1 B1 o1 L1 M1 l1) (h2 : QA w A2 n2 S2 m2 B2 o2 L2 M2 l2) (z1 : n1 ≤ 70) (z2 : n2 ≤ 70) (z3 : o1 ≤ 70) (z4 : o2 ≤ 70) (z5 : m1 ≤ 10) (z6 : m2 ≤ 10) (cc0 : g1 = g2) (cc1 : alikeF L1 L2 = false) :
    Calls Tryz.prog 14 #[.agg #[.int .u8 g1, .slice A1 n1 c1, .slice S1 m1 d1, .bool j1, .slice B1 o1 e1, .int .u8 k1, .int .i64 s1, .int .i64 v1, .bool y1, .int .u8 t1], .agg #[.int .u8 g2, .slice A2 n2 c2, .slice S2 m2 d2, .bool j2, .slice B2 o2 e2, .int .u8 k2, .int .i64 s2, .int .i64 v2, .bool y2, .int .u8 t2]] w fun e w' => e = .returned (.bool false) ∧ Below w.heap.size w w' := by
  have HA := Lib.hid (fun W (hb : Bl w W) => ralike_any A1 A2 n1 n2 c1 c2 L1 L2 W h.1.2.1 h2.1.2.1 (by omega) (by omega) (hb.lies h.1.1) (hb.lies h2.1.1) _ cc1)
  have b0 := fun t => QX2.new w g1 A1 n1 c1 S1 m1 d1 j1 B1 o1 e1 k1 s1 v1 y1 t1 g2 A2 n2 c2 S2 m2 d2 j2 B2 o2 e2 k2 s2 v2 y2 t2 t
  clear h h2 z1 z2 z3 z4 z5 z6
  clear cc1
  subst cc0
  go_enter Tryz.func14, Tryz.ntmps14
  go_wp2_with (first
    | (go_at_call 40; ((with_reducible refine (HA.out _ (b0 _).bl).mono ?_); rintro e w1 ⟨rfl, hb⟩; have b1 := (b0 _).step hb; clear hb b0; obtain ⟨y1, y10, y11, y12, y13, y14, y15, y16, y17, y18, y19⟩ := b1.1.cells; obtain ⟨z1, z10, z11, z12, z13, z14, z15, z16, z17, z18, z19⟩ := b1.2.cells)))
  go_ret
  exact ⟨rfl, b1.bl⟩
set_option maxHeartbeats 4000000 in
theorem ralk_2 (g1 : Int) (A1 : Option Addr) (n1 c1 : Nat) (S1 : Option Addr) (m1 d1 : Nat) (j1 : Bool) (B1 : Option Addr) (o1 e1 : Nat) (k1 s1 v1 : Int) (y1 : Bool) (t1 : Int) (g2 : Int) (A2 : Option Addr) (n2 c2 : Nat) (S2 : Option Addr) (m2 d2 : Nat) (j2 : Bool) (B2 : Option Addr) (o2 e2 : Nat) (k2 s2 v2 : Int) (y2 : Bool) (t2 : Int) (L1 M1 : List Nd) (l1 : List Int) (L2 M2 : List Nd) (l2 : List Int) (w : World) (h : QA w A1 n1 S1 m1 B1 o1 L1 M1 l1) (h2 : QA w A2 n2 S2 m2 B2 o2 L2 M2 l2) (z1 : n1 ≤ 70) (z2 : n2 ≤ 70) (z3 : o1 ≤ 70) (z4 : o2 ≤ 70) (z5 : m1 ≤ 10) (z6 : m2 ≤ 10) (cc0 : g1 = g2) (cc1 : alikeF L1 L2 = true) (cc2 : l1 ≠ l2) :
    Calls Tryz.prog 14 #[.agg #[.int .u8 g1, .slice A1 n1 c1, .slice S1 m1 d1, .bool j1, .slice B1 o1 e1, .int .u8 k1, .int .i64 s1, .int .i64 v1, .bool y1, .int .u8 t1], .agg #[.int .u8 g2, .slice A2 n2 c2, .slice S2 m2 d2, .bool j2, .slice B2 o2 e2, .int .u8 k2, .int .i64 s2, .int .i64 v2, .bool y2, .int .u8 t2]] w fun e w' => e = .returned (.bool false) ∧ Below w.heap.size w w' := by
  have HA := Lib.hid (fun W (hb : Bl w W) => ralike_any A1 A2 n1 n2 c1 c2 L1 L2 W h.1.2.1 h2.1.2.1 (by omega) (by omega) (hb.lies h.1.1) (hb.lies h2.1.1) _ cc1)
  have HS := Lib.hid (fun W (hb : Bl w W) => samesrc_any S1 S2 m1 m2 d1 d2 l1 l2 W h.2.1.2 h2.2.1.2 (by omega) (by omega) (hb.lies h.2.1.1) (hb.lies h2.2.1.1) false (decide_eq_false cc2))
  have b0 := fun t => QX2.new w g1 A1 n1 c1 S1 m1 d1 j1 B1 o1 e1 k1 s1 v1 y1 t1 g2 A2 n2 c2 S2 m2 d2 j2 B2 o2 e2 k2 s2 v2 y2 t2 t
  clear h h2 z1 z2 z3 z4 z5 z6
  clear cc1 cc2
  subst cc0
  go_enter Tryz.func14, Tryz.ntmps14
  go_wp2_with (first
    | (go_at_call 40; ((with_reducible refine (HA.out _ (b0 _).bl).mono ?_); rintro e w1 ⟨rfl, hb⟩; have b1 := (b0 _).step hb; clear hb b0; obtain ⟨y1, y10, y11, y12, y13, y14, y15, y16, y17, y18, y19⟩ := b1.1.cells; obtain ⟨z1, z10, z11, z12, z13, z14, z15, z16, z17, z18, z19⟩ := b1.2.cells))
    | (go_at_call 41; ((with_reducible refine (HS.out _ b1.bl).mono ?_); rintro e w2 ⟨rfl, hb⟩; have b2 := b1.step hb; clear hb b1; obtain ⟨y2, y20, y21, y22, y23, y24, y25, y26, y27, y28, y29⟩ := b2.1.cells; obtain ⟨z2, z20, z21, z22, z23, z24, z25, z26, z27, z28, z29⟩ := b2.2.cells)))
  go_ret
  exact ⟨rfl, b2.bl⟩
set_option maxHeartbeats 4000000 in
theorem ralk_3 (g1 : Int) (A1 : Option Addr) (n1 c1 : Nat) (S1 : Option Addr) (m1 d1 : Nat) (j1 : Bool) (B1 : Option Addr) (o1 e1 : Nat) (k1 s1 v1 : Int) (y1 : Bool) (t1 : Int) (g2 : Int) (A2 : Option Addr) (n2 c2 : Nat) (S2 : Option Addr) (m2 d2 : Nat) (j2 : Bool) (B2 : Option Addr) (o2 e2 : Nat) (k2 s2 v2 : Int) (y2 : Bool) (t2 : Int) (L1 M1 : List Nd) (l1 : List Int) (L2 M2 : List Nd) (l2 : List Int) (w : World) (h : QA w A1 n1 S1 m1 B1 o1 L1 M1 l1) (h2 : QA w A2 n2 S2 m2 B2 o2 L2 M2 l2) (z1 : n1 ≤ 70) (z2 : n2 ≤ 70) (z3 : o1 ≤ 70) (z4 : o2 ≤ 70) (z5 : m1 ≤ 10) (z6 : m2 ≤ 10) (cc0 : g1 = g2) (cc1 : alikeF L1 L2 = true) (cc2 : l1 = l2) (cc3 : j1 ≠ j2) :
    Calls Tryz.prog 14 #[.agg #[.int .u8 g1, .slice A1 n1 c1, .slice S1 m1 d1, .bool j1, .slice B1 o1 e1, .int .u8 k1, .int .i64 s1, .int .i64 v1, .bool y1, .int .u8 t1], .agg #[.int .u8 g2, .slice A2 n2 c2, .slice S2 m2 d2, .bool j2, .slice B2 o2 e2, .int .u8 k2, .int .i64 s2, .int .i64 v2, .bool y2, .int .u8 t2]] w fun e w' => e = .returned (.bool false) ∧ Below w.heap.size w w' := by
  have HA := Lib.hid (fun W (hb : Bl w W) => ralike_any A1 A2 n1 n2 c1 c2 L1 L2 W h.1.2.1 h2.1.2.1 (by omega) (by omega) (hb.lies h.1.1) (hb.lies h2.1.1) _ cc1)
  have HS := Lib.hid (fun W (hb : Bl w W) => samesrc_any S1 S2 m1 m2 d1 d2 l1 l2 W h.2.1.2 h2.2.1.2 (by omega) (by omega) (hb.lies h.2.1.1) (hb.lies h2.2.1.1) true (decide_eq_true cc2))
  have b0 := fun t => QX2.new w g1 A1 n1 c1 S1 m1 d1 j1 B1 o1 e1 k1 s1 v1 y1 t1 g2 A2 n2 c2 S2 m2 d2 j2 B2 o2 e2 k2 s2 v2 y2 t2 t
  clear h h2 z1 z2 z3 z4 z5 z6
  clear cc1 cc2
  subst cc0
  have i3 : (j1 == j2) = false := by simpa using cc3
  clear cc3
  go_enter Tryz.func14, Tryz.ntmps14
  go_wp2_with (first
    | (go_at_call 40; ((with_reducible refine (HA.out _ (b0 _).bl).mono ?_); rintro e w1 ⟨rfl, hb⟩; have b1 := (b0 _).step hb; clear hb b0; obtain ⟨y1, y10, y11, y12, y13, y14, y15, y16, y17, y18, y19⟩ := b1.1.cells; obtain ⟨z1, z10, z11, z12, z13, z14, z15, z16, z17, z18, z19⟩ := b1.2.cells))
    | (go_at_call 41; ((with_reducible refine (HS.out _ b1.bl).mono ?_); rintro e w2 ⟨rfl, hb⟩; have b2 := b1.step hb; clear hb b1; obtain ⟨y2, y20, y21, y22, y23, y24, y25, y26, y27, y28, y29⟩ := b2.1.cells; obtain ⟨z2, z20, z21, z22, z23, z24, z25, z26, z27, z28, z29⟩ := b2.2.cells)))
  go_ret
  exact ⟨rfl, b2.bl⟩
set_option maxHeartbeats 4000000 in
theorem ralk_4 (g1 : Int) (A1 : Option Addr) (n1 c1 : Nat) (S1 : Option Addr) (m1 d1 : Nat) (j1 : Bool) (B1 : Option Addr) (o1 e1 : Nat) (k1 s1 v1 : Int) (y1 : Bool) (t1 : Int) (g2 : Int) (A2 : Option Addr) (n2 c2 : Nat) (S2 : Option Addr) (m2 d2 : Nat) (j2 : Bool) (B2 : Option Addr) (o2 e2 : Nat) (k2 s2 v2 : Int) (y2 : Bool) (t2 : Int) (L1 M1 : List Nd) (l1 : List Int) (L2 M2 : List Nd) (l2 : List Int) (w : World) (h : QA w A1 n1 S1 m1 B1 o1 L1 M1 l1) (h2 : QA w A2 n2 S2 m2 B2 o2 L2 M2 l2) (z1 : n1 ≤ 70) (z2 : n2 ≤ 70) (z3 : o1 ≤ 70) (z4 : o2 ≤ 70) (z5 : m1 ≤ 10) (z6 : m2 ≤ 10) (cc0 : g1 = g2) (cc1 : alikeF L1 L2 = true) (cc2 : l1 = l2) (cc3 : j1 = j2) (cc4 : alikeF M1 M2 = false) :
    Calls Tryz.prog 14 #[.agg #[.int .u8 g1, .slice A1 n1 c1, .slice S1 m1 d1, .bool j1, .slice B1 o1 e1, .int .u8 k1, .int .i64 s1, .int .i64 v1, .bool y1, .int .u8 t1], .agg #[.int .u8 g2, .slice A2 n2 c2, .slice S2 m2 d2, .bool j2, .slice B2 o2 e2, .int .u8 k2, .int .i64 s2, .int .i64 v2, .bool y2, .int .u8 t2]] w fun e w' => e = .returned (.bool false) ∧ Below w.heap.size w w' := by
  have HA := Lib.hid (fun W (hb : Bl w W) => ralike_any A1 A2 n1 n2 c1 c2 L1 L2 W h.1.2.1 h2.1.2.1 (by omega) (by omega) (hb.lies h.1.1) (hb.lies h2.1.1) _ cc1)
  have HS := Lib.hid (fun W (hb : Bl w W) => samesrc_any S1 S2 m1 m2 d1 d2 l1 l2 W h.2.1.2 h2.2.1.2 (by omega) (by omega) (hb.lies h.2.1.1) (hb.lies h2.2.1.1) true (decide_eq_true cc2))
  have HB := Lib.hid (fun W (hb : Bl w W) => ralike_any B1 B2 o1 o2 e1 e2 M1 M2 W h.2.2.2.1 h2.2.2.2.1 (by omega) (by omega) (hb.lies h.2.2.1) (hb.lies h2.2.2.1) _ cc4)
  have b0 := fun t => QX2.new w g1 A1 n1 c1 S1 m1 d1 j1 B1 o1 e1 k1 s1 v1 y1 t1 g2 A2 n2 c2 S2 m2 d2 j2 B2 o2 e2 k2 s2 v2 y2 t2 t
  clear h h2 z1 z2 z3 z4 z5 z6
  clear cc1 cc2 cc4
  subst cc0
  subst cc3
  go_enter Tryz.func14, Tryz.ntmps14
  go_wp2_with (first
    | (go_at_call 40; ((with_reducible refine (HA.out _ (b0 _).bl).mono ?_); rintro e w1 ⟨rfl, hb⟩; have b1 := (b0 _).step hb; clear hb b0; obtain ⟨y1, y10, y11, y12, y13, y14, y15, y16, y17, y18, y19⟩ := b1.1.cells; obtain ⟨z1, z10, z11, z12, z13, z14, z15, z16, z17, z18, z19⟩ := b1.2.cells))
    | (go_at_call 41; ((with_reducible refine (HS.out _ b1.bl).mono ?_); rintro e w2 ⟨rfl, hb⟩; have b2 := b1.step hb; clear hb b1; obtain ⟨y2, y20, y21, y22, y23, y24, y25, y26, y27, y28, y29⟩ := b2.1.cells; obtain ⟨z2, z20, z21, z22, z23, z24, z25, z26, z27, z28, z29⟩ := b2.2.cells))
    | (go_at_call 40; ((with_reducible refine (HB.out _ b2.bl).mono ?_); rintro e w3 ⟨rfl, hb⟩; have b3 := b2.step hb; clear hb b2; obtain ⟨y3, y30, y31, y32, y33, y34, y35, y36, y37, y38, y39⟩ := b3.1.cells; obtain ⟨z3, z30, z31, z32, z33, z34, z35, z36, z37, z38, z39⟩ := b3.2.cells)))
  go_ret
  exact ⟨rfl, b3.bl⟩
set_option maxHeartbeats 4000000 in
theorem ralk_5 (g1 : Int) (A1 : Option Addr) (n1 c1 : Nat) (S1 : Option Addr) (m1 d1 : Nat) (j1 : Bool) (B1 : Option Addr) (o1 e1 : Nat) (k1 s1 v1 : Int) (y1 : Bool) (t1 : Int) (g2 : Int) (A2 : Option Addr) (n2 c2 : Nat) (S2 : Option Addr) (m2 d2 : Nat) (j2 : Bool) (B2 : Option Addr) (o2 e2 : Nat) (k2 s2 v2 : Int) (y2 : Bool) (t2 : Int) (L1 M1 : List Nd) (l1 : List Int) (L2 M2 : List Nd) (l2 : List Int) (w : World) (h : QA w A1 n1 S1 m1 B1 o1 L1 M1 l1) (h2 : QA w A2 n2 S2 m2 B2 o2 L2 M2 l2) (z1 : n1 ≤ 70) (z2 : n2 ≤ 70) (z3 : o1 ≤ 70) (z4 : o2 ≤ 70) (z5 : m1 ≤ 10) (z6 : m2 ≤ 10) (cc0 : g1 = g2) (cc1 : alikeF L1 L2 = true) (cc2 : l1 = l2) (cc3 : j1 = j2) (cc4 : alikeF M1 M2 = true) (cc5 : (decide (k1 = k2) && decide (s1 = s2) && decide (v1 = v2)) = false) :
    Calls Tryz.prog 14 #[.agg #[.int .u8 g1, .slice A1 n1 c1, .slice S1 m1 d1, .bool j1, .slice B1 o1 e1, .int .u8 k1, .int .i64 s1, .int .i64 v1, .bool y1, .int .u8 t1], .agg #[.int .u8 g2, .slice A2 n2 c2, .slice S2 m2 d2, .bool j2, .slice B2 o2 e2, .int .u8 k2, .int .i64 s2, .int .i64 v2, .bool y2, .int .u8 t2]] w fun e w' => e = .returned (.bool false) ∧ Below w.heap.size w w' := by
  have HA := Lib.hid (fun W (hb : Bl w W) => ralike_any A1 A2 n1 n2 c1 c2 L1 L2 W h.1.2.1 h2.1.2.1 (by omega) (by omega) (hb.lies h.1.1) (hb.lies h2.1.1) _ cc1)
  have HS := Lib.hid (fun W (hb : Bl w W) => samesrc_any S1 S2 m1 m2 d1 d2 l1 l2 W h.2.1.2 h2.2.1.2 (by omega) (by omega) (hb.lies h.2.1.1) (hb.lies h2.2.1.1) true (decide_eq_true cc2))
  have HB := Lib.hid (fun W (hb : Bl w W) => ralike_any B1 B2 o1 o2 e1 e2 M1 M2 W h.2.2.2.1 h2.2.2.2.1 (by omega) (by omega) (hb.lies h.2.2.1) (hb.lies h2.2.2.1) _ cc4)
  have HW := eq_win k1 s1 v1 k2 s2 v2 _ cc5
  have b0 := fun t => QX2.new w g1 A1 n1 c1 S1 m1 d1 j1 B1 o1 e1 k1 s1 v1 y1 t1 g2 A2 n2 c2 S2 m2 d2 j2 B2 o2 e2 k2 s2 v2 y2 t2 t
  clear h h2 z1 z2 z3 z4 z5 z6
  clear cc1 cc2 cc4 cc5
  subst cc0
  subst cc3
  go_enter Tryz.func14, Tryz.ntmps14
  go_wp2_with (first
    | (go_at_call 40; ((with_reducible refine (HA.out _ (b0 _).bl).mono ?_); rintro e w1 ⟨rfl, hb⟩; have b1 := (b0 _).step hb; clear hb b0; obtain ⟨y1, y10, y11, y12, y13, y14, y15, y16, y17, y18, y19⟩ := b1.1.cells; obtain ⟨z1, z10, z11, z12, z13, z14, z15, z16, z17, z18, z19⟩ := b1.2.cells))
    | (go_at_call 41; ((with_reducible refine (HS.out _ b1.bl).mono ?_); rintro e w2 ⟨rfl, hb⟩; have b2 := b1.step hb; clear hb b1; obtain ⟨y2, y20, y21, y22, y23, y24, y25, y26, y27, y28, y29⟩ := b2.1.cells; obtain ⟨z2, z20, z21, z22, z23, z24, z25, z26, z27, z28, z29⟩ := b2.2.cells))
    | (go_at_call 40; ((with_reducible refine (HB.out _ b2.bl).mono ?_); rintro e w3 ⟨rfl, hb⟩; have b3 := b2.step hb; clear hb b2; obtain ⟨y3, y30, y31, y32, y33, y34, y35, y36, y37, y38, y39⟩ := b3.1.cells; obtain ⟨z3, z30, z31, z32, z33, z34, z35, z36, z37, z38, z39⟩ := b3.2.cells)))
  go_ret
  exact ⟨rfl, b3.bl⟩
set_option maxHeartbeats 4000000 in
theorem ralk_6 (g1 : Int) (A1 : Option Addr) (n1 c1 : Nat) (S1 : Option Addr) (m1 d1 : Nat) (j1 : Bool) (B1 : Option Addr) (o1 e1 : Nat) (k1 s1 v1 : Int) (y1 : Bool) (t1 : Int) (g2 : Int) (A2 : Option Addr) (n2 c2 : Nat) (S2 : Option Addr) (m2 d2 : Nat) (j2 : Bool) (B2 : Option Addr) (o2 e2 : Nat) (k2 s2 v2 : Int) (y2 : Bool) (t2 : Int) (L1 M1 : List Nd) (l1 : List Int) (L2 M2 : List Nd) (l2 : List Int) (w : World) (h : QA w A1 n1 S1 m1 B1 o1 L1 M1 l1) (h2 : QA w A2 n2 S2 m2 B2 o2 L2 M2 l2) (z1 : n1 ≤ 70) (z2 : n2 ≤ 70) (z3 : o1 ≤ 70) (z4 : o2 ≤ 70) (z5 : m1 ≤ 10) (z6 : m2 ≤ 10) (cc0 : g1 = g2) (cc1 : alikeF L1 L2 = true) (cc2 : l1 = l2) (cc3 : j1 = j2) (cc4 : alikeF M1 M2 = true) (cc5 : (decide (k1 = k2) && decide (s1 = s2) && decide (v1 = v2)) = true) (cc6 : y1 ≠ y2) :
    Calls Tryz.prog 14 #[.agg #[.int .u8 g1, .slice A1 n1 c1, .slice S1 m1 d1, .bool j1, .slice B1 o1 e1, .int .u8 k1, .int .i64 s1, .int .i64 v1, .bool y1, .int .u8 t1], .agg #[.int .u8 g2, .slice A2 n2 c2, .slice S2 m2 d2, .bool j2, .slice B2 o2 e2, .int .u8 k2, .int .i64 s2, .int .i64 v2, .bool y2, .int .u8 t2]] w fun e w' => e = .returned (.bool false) ∧ Below w.heap.size w w' := by
  have HA := Lib.hid (fun W (hb : Bl w W) => ralike_any A1 A2 n1 n2 c1 c2 L1 L2 W h.1.2.1 h2.1.2.1 (by omega) (by omega) (hb.lies h.1.1) (hb.lies h2.1.1) _ cc1)
  have HS := Lib.hid (fun W (hb : Bl w W) => samesrc_any S1 S2 m1 m2 d1 d2 l1 l2 W h.2.1.2 h2.2.1.2 (by omega) (by omega) (hb.lies h.2.1.1) (hb.lies h2.2.1.1) true (decide_eq_true cc2))
  have HB := Lib.hid (fun W (hb : Bl w W) => ralike_any B1 B2 o1 o2 e1 e2 M1 M2 W h.2.2.2.1 h2.2.2.2.1 (by omega) (by omega) (hb.lies h.2.2.1) (hb.lies h2.2.2.1) _ cc4)
  have HW := eq_win k1 s1 v1 k2 s2 v2 _ cc5
  have b0 := fun t => QX2.new w g1 A1 n1 c1 S1 m1 d1 j1 B1 o1 e1 k1 s1 v1 y1 t1 g2 A2 n2 c2 S2 m2 d2 j2 B2 o2 e2 k2 s2 v2 y2 t2 t
  clear h h2 z1 z2 z3 z4 z5 z6
  clear cc1 cc2 cc4 cc5
  subst cc0
  subst cc3
  have i6 : (y1 == y2) = false := by simpa using cc6
  clear cc6
  go_enter Tryz.func14, Tryz.ntmps14
  go_wp2_with (first
    | (go_at_call 40; ((with_reducible refine (HA.out _ (b0 _).bl).mono ?_); rintro e w1 ⟨rfl, hb⟩; have b1 := (b0 _).step hb; clear hb b0; obtain ⟨y1, y10, y11, y12, y13, y14, y15, y16, y17, y18, y19⟩ := b1.1.cells; obtain ⟨z1, z10, z11, z12, z13, z14, z15, z16, z17, z18, z19⟩ := b1.2.cells))
    | (go_at_call 41; ((with_reducible refine (HS.out _ b1.bl).mono ?_); rintro e w2 ⟨rfl, hb⟩; have b2 := b1.step hb; clear hb b1; obtain ⟨y2, y20, y21, y22, y23, y24, y25, y26, y27, y28, y29⟩ := b2.1.cells; obtain ⟨z2, z20, z21, z22, z23, z24, z25, z26, z27, z28, z29⟩ := b2.2.cells))
    | (go_at_call 40; ((with_reducible refine (HB.out _ b2.bl).mono ?_); rintro e w3 ⟨rfl, hb⟩; have b3 := b2.step hb; clear hb b2; obtain ⟨y3, y30, y31, y32, y33, y34, y35, y36, y37, y38, y39⟩ := b3.1.cells; obtain ⟨z3, z30, z31, z32, z33, z34, z35, z36, z37, z38, z39⟩ := b3.2.cells)))
  go_ret
  exact ⟨rfl, b3.bl⟩
set_option maxHeartbeats 4000000 in
theorem ralk_7 (g1 : Int) (A1 : Option Addr) (n1 c1 : Nat) (S1 : Option Addr) (m1 d1 : Nat) (j1 : Bool) (B1 : Option Addr) (o1 e1 : Nat) (k1 s1 v1 : Int) (y1 : Bool) (t1 : Int) (g2 : Int) (A2 : Option Addr) (n2 c2 : Nat) (S2 : Option Addr) (m2 d2 : Nat) (j2 : Bool) (B2 : Option Addr) (o2 e2 : Nat) (k2 s2 v2 : Int) (y2 : Bool) (t2 : Int) (L1 M1 : List Nd) (l1 : List Int) (L2 M2 : List Nd) (l2 : List Int) (w : World) (h : QA w A1 n1 S1 m1 B1 o1 L1 M1 l1) (h2 : QA w A2 n2 S2 m2 B2 o2 L2 M2 l2) (z1 : n1 ≤ 70) (z2 : n2 ≤ 70) (z3 : o1 ≤ 70) (z4 : o2 ≤ 70) (z5 : m1 ≤ 10) (z6 : m2 ≤ 10) (cc0 : g1 = g2) (cc1 : alikeF L1 L2 = true) (cc2 : l1 = l2) (cc3 : j1 = j2) (cc4 : alikeF M1 M2 = true) (cc5 : (decide (k1 = k2) && decide (s1 = s2) && decide (v1 = v2)) = true) (cc6 : y1 = y2) (cc7 : t1 ≠ t2) :
    Calls Tryz.prog 14 #[.agg #[.int .u8 g1, .slice A1 n1 c1, .slice S1 m1 d1, .bool j1, .slice B1 o1 e1, .int .u8 k1, .int .i64 s1, .int .i64 v1, .bool y1, .int .u8 t1], .agg #[.int .u8 g2, .slice A2 n2 c2, .slice S2 m2 d2, .bool j2, .slice B2 o2 e2, .int .u8 k2, .int .i64 s2, .int .i64 v2, .bool y2, .int .u8 t2]] w fun e w' => e = .returned (.bool false) ∧ Below w.heap.size w w' := by
  have HA := Lib.hid (fun W (hb : Bl w W) => ralike_any A1 A2 n1 n2 c1 c2 L1 L2 W h.1.2.1 h2.1.2.1 (by omega) (by omega) (hb.lies h.1.1) (hb.lies h2.1.1) _ cc1)
  have HS := Lib.hid (fun W (hb : Bl w W) => samesrc_any S1 S2 m1 m2 d1 d2 l1 l2 W h.2.1.2 h2.2.1.2 (by omega) (by omega) (hb.lies h.2.1.1) (hb.lies h2.2.1.1) true (decide_eq_true cc2))
  have HB := Lib.hid (fun W (hb : Bl w W) => ralike_any B1 B2 o1 o2 e1 e2 M1 M2 W h.2.2.2.1 h2.2.2.2.1 (by omega) (by omega) (hb.lies h.2.2.1) (hb.lies h2.2.2.1) _ cc4)
  have HW := eq_win k1 s1 v1 k2 s2 v2 _ cc5
  have b0 := fun t => QX2.new w g1 A1 n1 c1 S1 m1 d1 j1 B1 o1 e1 k1 s1 v1 y1 t1 g2 A2 n2 c2 S2 m2 d2 j2 B2 o2 e2 k2 s2 v2 y2 t2 t
  clear h h2 z1 z2 z3 z4 z5 z6
  clear cc1 cc2 cc4 cc5
  subst cc0
  subst cc3
  subst cc6
  have i7 : (t1 == t2) = false := by simpa using cc7
  clear cc7
  go_enter Tryz.func14, Tryz.ntmps14
  go_wp2_with (first
    | (go_at_call 40; ((with_reducible refine (HA.out _ (b0 _).bl).mono ?_); rintro e w1 ⟨rfl, hb⟩; have b1 := (b0 _).step hb; clear hb b0; obtain ⟨y1, y10, y11, y12, y13, y14, y15, y16, y17, y18, y19⟩ := b1.1.cells; obtain ⟨z1, z10, z11, z12, z13, z14, z15, z16, z17, z18, z19⟩ := b1.2.cells))
    | (go_at_call 41; ((with_reducible refine (HS.out _ b1.bl).mono ?_); rintro e w2 ⟨rfl, hb⟩; have b2 := b1.step hb; clear hb b1; obtain ⟨y2, y20, y21, y22, y23, y24, y25, y26, y27, y28, y29⟩ := b2.1.cells; obtain ⟨z2, z20, z21, z22, z23, z24, z25, z26, z27, z28, z29⟩ := b2.2.cells))
    | (go_at_call 40; ((with_reducible refine (HB.out _ b2.bl).mono ?_); rintro e w3 ⟨rfl, hb⟩; have b3 := b2.step hb; clear hb b2; obtain ⟨y3, y30, y31, y32, y33, y34, y35, y36, y37, y38, y39⟩ := b3.1.cells; obtain ⟨z3, z30, z31, z32, z33, z34, z35, z36, z37, z38, z39⟩ := b3.2.cells)))
  go_ret
  exact ⟨rfl, b3.bl⟩
set_option maxHeartbeats 4000000 in
theorem ralk_8 (g1 : Int) (A1 : Option Addr) (n1 c1 : Nat) (S1 : Option Addr) (m1 d1 : Nat) (j1 : Bool) (B1 : Option Addr) (o1 e1 : Nat) (k1 s1 v1 : Int) (y1 : Bool) (t1 : Int) (g2 : Int) (A2 : Option Addr) (n2 c2 : Nat) (S2 : Option Addr) (m2 d2 : Nat) (j2 : Bool) (B2 : Option Addr) (o2 e2 : Nat) (k2 s2 v2 : Int) (y2 : Bool) (t2 : Int) (L1 M1 : List Nd) (l1 : List Int) (L2 M2 : List Nd) (l2 : List Int) (w : World) (h : QA w A1 n1 S1 m1 B1 o1 L1 M1 l1) (h2 : QA w A2 n2 S2 m2 B2 o2 L2 M2 l2) (z1 : n1 ≤ 70) (z2 : n2 ≤ 70) (z3 : o1 ≤ 70) (z4 : o2 ≤ 70) (z5 : m1 ≤ 10) (z6 : m2 ≤ 10) (cc0 : g1 = g2) (cc1 : alikeF L1 L2 = true) (cc2 : l1 = l2) (cc3 : j1 = j2) (cc4 : alikeF M1 M2 = true) (cc5 : (decide (k1 = k2) && decide (s1 = s2) && decide (v1 = v2)) = true) (cc6 : y1 = y2) (cc7 : t1 = t2) :
    Calls Tryz.prog 14 #[.agg #[.int .u8 g1, .slice A1 n1 c1, .slice S1 m1 d1, .bool j1, .slice B1 o1 e1, .int .u8 k1, .int .i64 s1, .int .i64 v1, .bool y1, .int .u8 t1], .agg #[.int .u8 g2, .slice A2 n2 c2, .slice S2 m2 d2, .bool j2, .slice B2 o2 e2, .int .u8 k2, .int .i64 s2, .int .i64 v2, .bool y2, .int .u8 t2]] w fun e w' => e = .returned (.bool true) ∧ Below w.heap.size w w' := by
  have HA := Lib.hid (fun W (hb : Bl w W) => ralike_any A1 A2 n1 n2 c1 c2 L1 L2 W h.1.2.1 h2.1.2.1 (by omega) (by omega) (hb.lies h.1.1) (hb.lies h2.1.1) _ cc1)
  have HS := Lib.hid (fun W (hb : Bl w W) => samesrc_any S1 S2 m1 m2 d1 d2 l1 l2 W h.2.1.2 h2.2.1.2 (by omega) (by omega) (hb.lies h.2.1.1) (hb.lies h2.2.1.1) true (decide_eq_true cc2))
  have HB := Lib.hid (fun W (hb : Bl w W) => ralike_any B1 B2 o1 o2 e1 e2 M1 M2 W h.2.2.2.1 h2.2.2.2.1 (by omega) (by omega) (hb.lies h.2.2.1) (hb.lies h2.2.2.1) _ cc4)
  have HW := eq_win k1 s1 v1 k2 s2 v2 _ cc5
  have b0 := fun t => QX2.new w g1 A1 n1 c1 S1 m1 d1 j1 B1 o1 e1 k1 s1 v1 y1 t1 g2 A2 n2 c2 S2 m2 d2 j2 B2 o2 e2 k2 s2 v2 y2 t2 t
  clear h h2 z1 z2 z3 z4 z5 z6
  clear cc1 cc2 cc4 cc5
  subst cc0
  subst cc3
  subst cc6
  subst cc7
  go_enter Tryz.func14, Tryz.ntmps14
  go_wp2_with (first
    | (go_at_call 40; ((with_reducible refine (HA.out _ (b0 _).bl).mono ?_); rintro e w1 ⟨rfl, hb⟩; have b1 := (b0 _).step hb; clear hb b0; obtain ⟨y1, y10, y11, y12, y13, y14, y15, y16, y17, y18, y19⟩ := b1.1.cells; obtain ⟨z1, z10, z11, z12, z13, z14, z15, z16, z17, z18, z19⟩ := b1.2.cells))
    | (go_at_call 41; ((with_reducible refine (HS.out _ b1.bl).mono ?_); rintro e w2 ⟨rfl, hb⟩; have b2 := b1.step hb; clear hb b1; obtain ⟨y2, y20, y21, y22, y23, y24, y25, y26, y27, y28, y29⟩ := b2.1.cells; obtain ⟨z2, z20, z21, z22, z23, z24, z25, z26, z27, z28, z29⟩ := b2.2.cells))
    | (go_at_call 40; ((with_reducible refine (HB.out _ b2.bl).mono ?_); rintro e w3 ⟨rfl, hb⟩; have b3 := b2.step hb; clear hb b2; obtain ⟨y3, y30, y31, y32, y33, y34, y35, y36, y37, y38, y39⟩ := b3.1.cells; obtain ⟨z3, z30, z31, z32, z33, z34, z35, z36, z37, z38, z39⟩ := b3.2.cells)))
  go_ret
  exact ⟨rfl, b3.bl⟩
theorem sameQ_false (g1 : Int) (A1 : Option Addr) (n1 c1 : Nat) (S1 : Option Addr) (m1 d1 : Nat) (j1 : Bool) (B1 : Option Addr) (o1 e1 : Nat) (k1 s1 v1 : Int) (y1 : Bool) (t1 : Int) (g2 : Int) (A2 : Option Addr) (n2 c2 : Nat) (S2 : Option Addr) (m2 d2 : Nat) (j2 : Bool) (B2 : Option Addr) (o2 e2 : Nat) (k2 s2 v2 : Int) (y2 : Bool) (t2 : Int) (L1 M1 : List Nd) (l1 : List Int) (L2 M2 : List Nd) (l2 : List Int) (h : ¬ (g1 = g2 ∧ alikeF L1 L2 = true ∧ l1 = l2 ∧ j1 = j2 ∧ alikeF M1 M2 = true ∧ (decide (k1 = k2) && decide (s1 = s2) && decide (v1 = v2)) = true ∧ y1 = y2 ∧ t1 = t2)) : sameQ ⟨g1, L1, l1, j1, M1, k1, s1, v1, y1, t1⟩ ⟨g2, L2, l2, j2, M2, k2, s2, v2, y2, t2⟩ = false := by
  rw [Bool.eq_false_iff]
  intro hh
  unfold sameQ at hh
  simp only [Bool.and_eq_true, decide_eq_true_eq, beq_iff_eq] at hh
  refine h ⟨hh.1, hh.2.1, hh.2.2.1, hh.2.2.2.1, hh.2.2.2.2.1, ?_, hh.2.2.2.2.2.2.1, hh.2.2.2.2.2.2.2⟩
  simp [hh.2.2.2.2.2.1]
theorem sameQ_true (g1 : Int) (A1 : Option Addr) (n1 c1 : Nat) (S1 : Option Addr) (m1 d1 : Nat) (j1 : Bool) (B1 : Option Addr) (o1 e1 : Nat) (k1 s1 v1 : Int) (y1 : Bool) (t1 : Int) (g2 : Int) (A2 : Option Addr) (n2 c2 : Nat) (S2 : Option Addr) (m2 d2 : Nat) (j2 : Bool) (B2 : Option Addr) (o2 e2 : Nat) (k2 s2 v2 : Int) (y2 : Bool) (t2 : Int) (L1 M1 : List Nd) (l1 : List Int) (L2 M2 : List Nd) (l2 : List Int) (h : g1 = g2 ∧ alikeF L1 L2 = true ∧ l1 = l2 ∧ j1 = j2 ∧ alikeF M1 M2 = true ∧ (decide (k1 = k2) && decide (s1 = s2) && decide (v1 = v2)) = true ∧ y1 = y2 ∧ t1 = t2) : sameQ ⟨g1, L1, l1, j1, M1, k1, s1, v1, y1, t1⟩ ⟨g2, L2, l2, j2, M2, k2, s2, v2, y2, t2⟩ = true := by
  obtain ⟨h1, h2, h3, h4, h5, h6, h7, h8⟩ := h
  unfold sameQ
  simp only [h6]
  subst h1 h3 h4 h7 h8
  simp [h2, h5]
theorem ralk_any (g1 : Int) (A1 : Option Addr) (n1 c1 : Nat) (S1 : Option Addr) (m1 d1 : Nat) (j1 : Bool) (B1 : Option Addr) (o1 e1 : Nat) (k1 s1 v1 : Int) (y1 : Bool) (t1 : Int) (g2 : Int) (A2 : Option Addr) (n2 c2 : Nat) (S2 : Option Addr) (m2 d2 : Nat) (j2 : Bool) (B2 : Option Addr) (o2 e2 : Nat) (k2 s2 v2 : Int) (y2 : Bool) (t2 : Int) (L1 M1 : List Nd) (l1 : List Int) (L2 M2 : List Nd) (l2 : List Int) (w : World) (h : QA w A1 n1 S1 m1 B1 o1 L1 M1 l1) (h2 : QA w A2 n2 S2 m2 B2 o2 L2 M2 l2) (z1 : n1 ≤ 70) (z2 : n2 ≤ 70) (z3 : o1 ≤ 70) (z4 : o2 ≤ 70) (z5 : m1 ≤ 10) (z6 : m2 ≤ 10) (v : Bool) (hv : sameQ ⟨g1, L1, l1, j1, M1, k1, s1, v1, y1, t1⟩ ⟨g2, L2, l2, j2, M2, k2, s2, v2, y2, t2⟩ = v) :
    Calls Tryz.prog 14 #[.agg #[.int .u8 g1, .slice A1 n1 c1, .slice S1 m1 d1, .bool j1, .slice B1 o1 e1, .int .u8 k1, .int .i64 s1, .int .i64 v1, .bool y1, .int .u8 t1], .agg #[.int .u8 g2, .slice A2 n2 c2, .slice S2 m2 d2, .bool j2, .slice B2 o2 e2, .int .u8 k2, .int .i64 s2, .int .i64 v2, .bool y2, .int .u8 t2]] w fun e w' => e = .returned (.bool v) ∧ Below w.heap.size w w' := by
  by_cases cc0 : g1 = g2
  case neg =>
    obtain rfl : false = v := by rw [← hv]; exact (sameQ_false g1 A1 n1 c1 S1 m1 d1 j1 B1 o1 e1 k1 s1 v1 y1 t1 g2 A2 n2 c2 S2 m2 d2 j2 B2 o2 e2 k2 s2 v2 y2 t2 L1 M1 l1 L2 M2 l2 (fun hh => cc0 hh.1)).symm
    exact ralk_0 g1 A1 n1 c1 S1 m1 d1 j1 B1 o1 e1 k1 s1 v1 y1 t1 g2 A2 n2 c2 S2 m2 d2 j2 B2 o2 e2 k2 s2 v2 y2 t2 L1 M1 l1 L2 M2 l2 w h h2 z1 z2 z3 z4 z5 z6  cc0
  rcases Bool.eq_false_or_eq_true (alikeF L1 L2) with cc1 | cc1
  case inr =>
    obtain rfl : false = v := by rw [← hv]; exact (sameQ_false g1 A1 n1 c1 S1 m1 d1 j1 B1 o1 e1 k1 s1 v1 y1 t1 g2 A2 n2 c2 S2 m2 d2 j2 B2 o2 e2 k2 s2 v2 y2 t2 L1 M1 l1 L2 M2 l2 (fun hh => by have := hh.2.1; rw [cc1] at this; cases this)).symm
    exact ralk_1 g1 A1 n1 c1 S1 m1 d1 j1 B1 o1 e1 k1 s1 v1 y1 t1 g2 A2 n2 c2 S2 m2 d2 j2 B2 o2 e2 k2 s2 v2 y2 t2 L1 M1 l1 L2 M2 l2 w h h2 z1 z2 z3 z4 z5 z6 cc0 cc1
  by_cases cc2 : l1 = l2
  case neg =>
    obtain rfl : false = v := by rw [← hv]; exact (sameQ_false g1 A1 n1 c1 S1 m1 d1 j1 B1 o1 e1 k1 s1 v1 y1 t1 g2 A2 n2 c2 S2 m2 d2 j2 B2 o2 e2 k2 s2 v2 y2 t2 L1 M1 l1 L2 M2 l2 (fun hh => cc2 hh.2.2.1)).symm
    exact ralk_2 g1 A1 n1 c1 S1 m1 d1 j1 B1 o1 e1 k1 s1 v1 y1 t1 g2 A2 n2 c2 S2 m2 d2 j2 B2 o2 e2 k2 s2 v2 y2 t2 L1 M1 l1 L2 M2 l2 w h h2 z1 z2 z3 z4 z5 z6 cc0 cc1 cc2
  by_cases cc3 : j1 = j2
  case neg =>
    obtain rfl : false = v := by rw [← hv]; exact (sameQ_false g1 A1 n1 c1 S1 m1 d1 j1 B1 o1 e1 k1 s1 v1 y1 t1 g2 A2 n2 c2 S2 m2 d2 j2 B2 o2 e2 k2 s2 v2 y2 t2 L1 M1 l1 L2 M2 l2 (fun hh => cc3 hh.2.2.2.1)).symm
    exact ralk_3 g1 A1 n1 c1 S1 m1 d1 j1 B1 o1 e1 k1 s1 v1 y1 t1 g2 A2 n2 c2 S2 m2 d2 j2 B2 o2 e2 k2 s2 v2 y2 t2 L1 M1 l1 L2 M2 l2 w h h2 z1 z2 z3 z4 z5 z6 cc0 cc1 cc2 cc3
  rcases Bool.eq_false_or_eq_true (alikeF M1 M2) with cc4 | cc4
  case inr =>
    obtain rfl : false = v := by rw [← hv]; exact (sameQ_false g1 A1 n1 c1 S1 m1 d1 j1 B1 o1 e1 k1 s1 v1 y1 t1 g2 A2 n2 c2 S2 m2 d2 j2 B2 o2 e2 k2 s2 v2 y2 t2 L1 M1 l1 L2 M2 l2 (fun hh => by have := hh.2.2.2.2.1; rw [cc4] at this; cases this)).symm
    exact ralk_4 g1 A1 n1 c1 S1 m1 d1 j1 B1 o1 e1 k1 s1 v1 y1 t1 g2 A2 n2 c2 S2 m2 d2 j2 B2 o2 e2 k2 s2 v2 y2 t2 L1 M1 l1 L2 M2 l2 w h h2 z1 z2 z3 z4 z5 z6 cc0 cc1 cc2 cc3 cc4
  rcases Bool.eq_false_or_eq_true (decide (k1 = k2) && decide (s1 = s2) && decide (v1 = v2)) with cc5 | cc5
  case inr =>
    obtain rfl : false = v := by rw [← hv]; exact (sameQ_false g1 A1 n1 c1 S1 m1 d1 j1 B1 o1 e1 k1 s1 v1 y1 t1 g2 A2 n2 c2 S2 m2 d2 j2 B2 o2 e2 k2 s2 v2 y2 t2 L1 M1 l1 L2 M2 l2 (fun hh => by have := hh.2.2.2.2.2.1; rw [cc5] at this; cases this)).symm
    exact ralk_5 g1 A1 n1 c1 S1 m1 d1 j1 B1 o1 e1 k1 s1 v1 y1 t1 g2 A2 n2 c2 S2 m2 d2 j2 B2 o2 e2 k2 s2 v2 y2 t2 L1 M1 l1 L2 M2 l2 w h h2 z1 z2 z3 z4 z5 z6 cc0 cc1 cc2 cc3 cc4 cc5
  by_cases cc6 : y1 = y2
  case neg =>
    obtain rfl : false = v := by rw [← hv]; exact (sameQ_false g1 A1 n1 c1 S1 m1 d1 j1 B1 o1 e1 k1 s1 v1 y1 t1 g2 A2 n2 c2 S2 m2 d2 j2 B2 o2 e2 k2 s2 v2 y2 t2 L1 M1 l1 L2 M2 l2 (fun hh => cc6 hh.2.2.2.2.2.2.1)).symm
    exact ralk_6 g1 A1 n1 c1 S1 m1 d1 j1 B1 o1 e1 k1 s1 v1 y1 t1 g2 A2 n2 c2 S2 m2 d2 j2 B2 o2 e2 k2 s2 v2 y2 t2 L1 M1 l1 L2 M2 l2 w h h2 z1 z2 z3 z4 z5 z6 cc0 cc1 cc2 cc3 cc4 cc5 cc6
  by_cases cc7 : t1 = t2
  case neg =>
    obtain rfl : false = v := by rw [← hv]; exact (sameQ_false g1 A1 n1 c1 S1 m1 d1 j1 B1 o1 e1 k1 s1 v1 y1 t1 g2 A2 n2 c2 S2 m2 d2 j2 B2 o2 e2 k2 s2 v2 y2 t2 L1 M1 l1 L2 M2 l2 (fun hh => cc7 hh.2.2.2.2.2.2.2)).symm
    exact ralk_7 g1 A1 n1 c1 S1 m1 d1 j1 B1 o1 e1 k1 s1 v1 y1 t1 g2 A2 n2 c2 S2 m2 d2 j2 B2 o2 e2 k2 s2 v2 y2 t2 L1 M1 l1 L2 M2 l2 w h h2 z1 z2 z3 z4 z5 z6 cc0 cc1 cc2 cc3 cc4 cc5 cc6 cc7
  obtain rfl : true = v := by rw [← hv]; exact (sameQ_true g1 A1 n1 c1 S1 m1 d1 j1 B1 o1 e1 k1 s1 v1 y1 t1 g2 A2 n2 c2 S2 m2 d2 j2 B2 o2 e2 k2 s2 v2 y2 t2 L1 M1 l1 L2 M2 l2 ⟨cc0, cc1, cc2, cc3, cc4, cc5, cc6, cc7⟩).symm
  exact ralk_8 g1 A1 n1 c1 S1 m1 d1 j1 B1 o1 e1 k1 s1 v1 y1 t1 g2 A2 n2 c2 S2 m2 d2 j2 B2 o2 e2 k2 s2 v2 y2 t2 L1 M1 l1 L2 M2 l2 w h h2 z1 z2 z3 z4 z5 z6 cc0 cc1 cc2 cc3 cc4 cc5 cc6 cc7
end Go.Proofs.YtlmamidodahgmaaGreatDoor.Q8
