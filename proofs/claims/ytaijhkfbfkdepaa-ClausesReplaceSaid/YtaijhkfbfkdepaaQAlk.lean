/- The contract of the reference's Alike of nodes. -/
import Derived.Test.YtaijhkfbfkdepaaQMem
import Derived.Test.YtaijhkfbfkdepaaNEq
import Derived.Deep.RegionHeld3
namespace Go.Proofs.Ytaijhkfbfkdepaa.Q8
open Go.ChangeShapes Go.WideShapes Go.ChangeAt Go.RowKit N4
set_option linter.unusedVariables false
set_option linter.unusedSimpArgs false
set_option maxRecDepth 100000

theorem alk_snoc {L : List Nd} {k : Nat} {x : Nd} (h : L[k]? = some x) : (L.take (k + 1)).map unp = (L.take k).map unp ++ [unp x] := by
  rw [take_snoc_nd h, List.map_append]; rfl
theorem alk_at {L M : List Nd} {k : Nat} {x y : Nd} (hx : L[k]? = some x) (hy : M[k]? = some y) (h : unp x ≠ unp y) : alikeF L M = false := by
  unfold alikeF
  rw [decide_eq_false_iff_not]
  intro e
  have := congrArg (fun l => l[k]?) e
  simp only [List.getElem?_map, hx, hy, Option.map_some, Option.some.injEq] at this
  exact h this
set_option maxHeartbeats 4000000 in
theorem ralike_any (A A' : Option Addr) (n n' c c' : Nat) (L M : List Nd) (w : World) (hn : L.length = n) (hn' : M.length = n') (hL : n ≤ 1000) (hM : n' ≤ 1000) (ht : Lies w A (ndCells L)) (ht' : Lies w A' (ndCells M)) (v : Bool) (hv : alikeF L M = v) :
    Calls Try.prog 38 #[.slice A n c, .slice A' n' c'] w fun e w' => e = .returned (.bool v) ∧ Below w.heap.size w w' := by
  have HT := Lib.hid ht
  have HT' := Lib.hid ht'
  have HN := Lib.hid hn
  have HN' := Lib.hid hn'
  have HV := Lib.hid hv
  clear ht ht' hn hn' hv
  have hgt : Try.prog.eqGuardType Try.prog.depth 45 = false := by kernel_rfl
  by_cases hnn : n = n'
  · subst hnn
    go_enter Try.func38, Try.ntmps38
    go_wp2
    go_loopw [5] (fun i wr => ∃ k : Nat, k ≤ n ∧ i = .int .i64 k ∧ Hid (Bl w wr) ∧ Hid ((L.take k).map unp = (M.take k).map unp)) (fun i _ => n - (intOf i).toNat)
    case atStart => exact ⟨0, Nat.zero_le _, rfl, Bl.start w, by show (L.take 0).map unp = _; simp⟩
    case round =>
      obtain ⟨k, hk, rfl, HB, HK⟩ := hrel
      by_cases hlt : k < n
      · obtain ⟨x, hx⟩ : ∃ x, L[k]? = some x := ⟨_, List.getElem?_eq_getElem (by rw [HN.out]; exact hlt)⟩
        obtain ⟨y, hy⟩ : ∃ y, M[k]? = some y := ⟨_, List.getElem?_eq_getElem (by rw [HN'.out]; exact hlt)⟩
        obtain ⟨ad, rfl, hadl, c0, c1, c2, c3, c4⟩ := (HB.out.lies HT.out).nd hx
        obtain ⟨ad', rfl, hadl', d0, d1, d2, d3, d4⟩ := (HB.out.lies HT'.out).nd hy
        have HX := Lib.hid hx
        have HY := Lib.hid hy
        have q3 : (0 : Int) ≤ k := by omega
        have q4 : (k : Int) < n := by omega
        have n1 : wr.heap.size ≠ (ad.add (k * 5)).block := by rw [add_block]; omega
        have n2 : wr.heap.size + 1 ≠ (ad.add (k * 5)).block := by rw [add_block]; omega
        have n3 : wr.heap.size ≠ (ad'.add (k * 5)).block := by rw [add_block]; omega
        have n4 : wr.heap.size + 1 ≠ (ad'.add (k * 5)).block := by rw [add_block]; omega
        clear hx hy hadl hadl'
        have P1 : ∀ r : Bool, (!decide (unp x = unp y)) = r → ∀ W, (binOp .neq 45 (.agg #[.int .u8 x.k, .int .i64 x.n, .int .i64 x.a, .int .i64 x.b, .int .i64 0]) (.agg #[.int .u8 y.k, .int .i64 y.n, .int .i64 y.a, .int .i64 y.b, .int .i64 0])).run Try.prog W = .ok (.bool r) W := fun r hr W => neq_nd (unp x) (unp y) r hr W
        by_cases hxy : unp x = unp y
        · have q1 := P1 false (by simp [hxy])
          have HK' := Lib.hid (show (L.take (k + 1)).map unp = (M.take (k + 1)).map unp by rw [alk_snoc HX.out, alk_snoc HY.out, HK.out, hxy])
          clear P1 hxy
          go_wp2
          go_region_held3 (fun w' => w'.cell? (ad.add (k * 5)) = some (.int .u8 x.k) ∧ w'.cell? ⟨(ad.add (k * 5)).block, (ad.add (k * 5)).off + 1, none⟩ = some (.int .i64 x.n) ∧ w'.cell? ⟨(ad.add (k * 5)).block, (ad.add (k * 5)).off + 2, none⟩ = some (.int .i64 x.a) ∧ w'.cell? ⟨(ad.add (k * 5)).block, (ad.add (k * 5)).off + 3, none⟩ = some (.int .i64 x.b) ∧ w'.cell? ⟨(ad.add (k * 5)).block, (ad.add (k * 5)).off + 4, none⟩ = some (.int .i64 x.p) ∧ w'.cell? (ad'.add (k * 5)) = some (.int .u8 y.k) ∧ w'.cell? ⟨(ad'.add (k * 5)).block, (ad'.add (k * 5)).off + 1, none⟩ = some (.int .i64 y.n) ∧ w'.cell? ⟨(ad'.add (k * 5)).block, (ad'.add (k * 5)).off + 2, none⟩ = some (.int .i64 y.a) ∧ w'.cell? ⟨(ad'.add (k * 5)).block, (ad'.add (k * 5)).off + 3, none⟩ = some (.int .i64 y.b) ∧ w'.cell? ⟨(ad'.add (k * 5)).block, (ad'.add (k * 5)).off + 4, none⟩ = some (.int .i64 y.p)) (go_keep) (fail)
          all_goals
            go_wp2
            go_roundw
            case rel => exact ⟨k + 1, by omega, by go_num, ((HB.out.al _).al _).step (bd_drewN _ 1), HK'⟩
            case measure => simp [intOf]; omega
        · have q1 := P1 true (by simp [hxy])
          have HF := Lib.hid (alk_at HX.out HY.out hxy)
          clear P1 hxy
          go_wp2
          go_region_held3 (fun w' => w'.cell? (ad.add (k * 5)) = some (.int .u8 x.k) ∧ w'.cell? ⟨(ad.add (k * 5)).block, (ad.add (k * 5)).off + 1, none⟩ = some (.int .i64 x.n) ∧ w'.cell? ⟨(ad.add (k * 5)).block, (ad.add (k * 5)).off + 2, none⟩ = some (.int .i64 x.a) ∧ w'.cell? ⟨(ad.add (k * 5)).block, (ad.add (k * 5)).off + 3, none⟩ = some (.int .i64 x.b) ∧ w'.cell? ⟨(ad.add (k * 5)).block, (ad.add (k * 5)).off + 4, none⟩ = some (.int .i64 x.p) ∧ w'.cell? (ad'.add (k * 5)) = some (.int .u8 y.k) ∧ w'.cell? ⟨(ad'.add (k * 5)).block, (ad'.add (k * 5)).off + 1, none⟩ = some (.int .i64 y.n) ∧ w'.cell? ⟨(ad'.add (k * 5)).block, (ad'.add (k * 5)).off + 2, none⟩ = some (.int .i64 y.a) ∧ w'.cell? ⟨(ad'.add (k * 5)).block, (ad'.add (k * 5)).off + 3, none⟩ = some (.int .i64 y.b) ∧ w'.cell? ⟨(ad'.add (k * 5)).block, (ad'.add (k * 5)).off + 4, none⟩ = some (.int .i64 y.p)) (go_keep) (fail)
          all_goals
            go_wp2
            go_ret
            exact ⟨ret_bool' (by rw [← HV.out, HF.out]), ((HB.out.al _).al _).step (bd_drewN _ 1)⟩
      · have HF := Lib.hid (show alikeF L M = true by
          have := HK.out
          rw [List.take_of_length_le (by rw [HN.out]; omega), List.take_of_length_le (by rw [HN'.out]; omega)] at this
          unfold alikeF; rw [this]; simp)
        go_wp2
        go_ret
        exact ⟨ret_bool' (by rw [← HV.out, HF.out]), HB.out⟩
  · have HF := Lib.hid (show alikeF L M = false by unfold alikeF; rw [decide_eq_false_iff_not]; intro e; have := congrArg List.length e; rw [List.length_map, List.length_map, HN.out, HN'.out] at this; exact hnn this)
    have e1 : ((n : Int) == n') = false := by simp; omega
    have e2 : ((n : Int) != n') = true := by simp; omega
    clear hnn
    go_enter Try.func38, Try.ntmps38
    go_wp2
    go_ret
    exact ⟨ret_bool' (by rw [← HV.out, HF.out]), Below.refl _ _⟩
end Go.Proofs.Ytaijhkfbfkdepaa.Q8
