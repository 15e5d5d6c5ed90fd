/- What the laws' walks keep; EvalsTruth walks to true. -/
import Derived.Test.YtajchaknfkfljaaDoorVAlive
namespace Go.Proofs.YtajchaknfkfljaaDoor.V7
open Go.ChangeShapes Go.WideShapes Go.ChangeAt Go.RowKit N4 K6
set_option linter.unusedVariables false
set_option linter.unusedSimpArgs false
set_option maxRecDepth 100000

/-- What a law keeps from call to call: what was there, and its record's own box. -/
def RB (w0 : World) (B : Nat) (r : Rc) (W : World) : Prop :=
  Bl w0 W ∧ w0.heap.size ≤ B ∧ B < W.heap.size ∧ W.cell? ⟨B, 0, none⟩ = some (.int .i64 r.k) ∧ W.cell? ⟨B, 1, none⟩ = some (.int .i64 r.t) ∧ W.cell? ⟨B, 2, none⟩ = some (.int .i64 r.v)
theorem RB.start (w : World) (rk rt rv : Int) (t : TypeId) : RB w w.heap.size ⟨rk, rt, rv⟩ (w.alloc (.cells #[.int .i64 rk, .int .i64 rt, .int .i64 rv] t)) :=
  ⟨(Below.refl _ _).alloc (Nat.le_refl _) _, Nat.le_refl _, by simp, by go_simp, by go_simp, by go_simp⟩
theorem RB.step {w0 W W' : World} {B : Nat} {r : Rc} (h : RB w0 B r W) (hb : Below W.heap.size W W') : RB w0 B r W' := by
  obtain ⟨h1, h0, h2, a, b, c⟩ := h
  have e : ∀ o, W'.cell? ⟨B, o, none⟩ = W.cell? ⟨B, o, none⟩ := fun o => hb.cell (p := ⟨B, o, none⟩) h2
  exact ⟨h1.step hb, h0, Nat.lt_of_lt_of_le h2 hb.size, by rw [e]; exact a, by rw [e]; exact b, by rw [e]; exact c⟩
theorem RB.al {w0 W : World} {B : Nat} {r : Rc} (h : RB w0 B r W) (o : Obj) : RB w0 B r (W.alloc o) := h.step ((Below.refl _ _).alloc (Nat.le_refl _) _)
theorem RB.bl {w0 W : World} {B : Nat} {r : Rc} (h : RB w0 B r W) : Bl w0 W := h.1
theorem RB.cells {w0 W : World} {B : Nat} {rk rt rv : Int} (h : RB w0 B ⟨rk, rt, rv⟩ W) : W.cell? ⟨B, 0, none⟩ = some (.int .i64 rk) ∧ W.cell? ⟨B, 1, none⟩ = some (.int .i64 rt) ∧ W.cell? ⟨B, 2, none⟩ = some (.int .i64 rv) := h.2.2.2
/-- Two ways. -/
theorem err_cases (L : List Nd) : (∃ t a v, ofF L = (t, a, v) ∧ errF L = v ∧ v ≠ 0) ∨ (∃ t m E, ofF L = (t, ((m : Nat) : Int), 0) ∧ errF L = 0 ∧ Good4 L E ∧ L.length = m + 1 ∧ checkF L = 0 ∧ wrongF L = m + 1) := by
  rcases of_cases L with ⟨v, h1, h2, h3⟩ | ⟨k, x, h1, h2, h3, h4, h5, h6⟩ | ⟨n, x, h1, h2, h3, hx, h5⟩
  · exact .inl ⟨_, _, _, h3, by unfold errF; rw [h3], h2⟩
  · exact .inl ⟨_, _, _, h6, by unfold errF; rw [h6], by decide⟩
  · obtain ⟨E, hg⟩ := checkF_zero h1
    exact .inr ⟨_, n, E, h5, by unfold errF; rw [h5], hg, h3, h1, h2⟩
theorem nin_of {L : List Nd} {E : List Ex} (hE : extF L = some E) (hb : ∀ x ∈ L, x.n ≤ 9223372036854775807) : NIn L := by
  intro x hx
  obtain ⟨j, hj⟩ := List.mem_iff_getElem?.1 hx
  have := (node_facts hE hj).2.1
  unfold fitsF at this
  simp only [Bool.and_eq_true, decide_eq_true_eq] at this
  exact ⟨by omega, hb x hx⟩

/-! ### EvalsTruth -/
theorem truth_great (A : Option Addr) (n c : Nat) (rk rt rv : Int) (w : World) (hs : SigT w) (h : 70 < n) :
    Calls Tryd.prog 6 #[.slice A n c, .agg #[.int .i64 rk, .int .i64 rt, .int .i64 rv]] w fun e w' => e = .returned (.bool true) ∧ Below w.heap.size w w' := by
  have HG := Lib.hid (fun W => great_any A n c W true (decide_eq_true h))
  have HS := Lib.hid hs
  have b0 := fun t => RB.start w rk rt rv t
  clear h hs
  go_enter Tryd.func6, Tryd.ntmps6
  go_wp2_with (first
    | (go_at_call 18; refine (HG.out _).mono ?_; rintro e w1 ⟨rfl, rfl⟩)
    | (go_at_call 17; refine (alive_any _ ((b0 _).bl.sig HS.out)).mono ?_; rintro e w1 ⟨rfl, hb⟩))
  go_ret
  exact ⟨rfl, ((b0 _).step hb).bl⟩
theorem truth_bad (A : Option Addr) (n c : Nat) (L : List Nd) (rk rt rv : Int) (w : World) (hs : SigT w) (hn : L.length = n) (h7 : n ≤ 70) (ht : Lies w A (ndCells L)) (t : Bool) (a v : Int) (ho : ofF L = (t, a, v)) (h0 : v ≠ 0) :
    Calls Tryd.prog 6 #[.slice A n c, .agg #[.int .i64 rk, .int .i64 rt, .int .i64 rv]] w fun e w' => e = .returned (.bool true) ∧ Below w.heap.size w w' := by
  have HG := Lib.hid (fun W => great_any A n c W false (decide_eq_false (by omega)))
  have HA := Lib.hid (fun W (hb : Bl w W) => rall_bad A c n L W hn (by unfold maxLen; omega) (hb.lies ht) t a v ho h0)
  have hne := (bne_iff_ne (a := v) (b := 0)).2 h0
  have HS := Lib.hid hs
  have b0 := fun t => RB.start w rk rt rv t
  clear h0 hs hn ht ho
  go_enter Tryd.func6, Tryd.ntmps6
  go_wp2_with (first
    | (go_at_call 18; refine (HG.out _).mono ?_; rintro e w1 ⟨rfl, rfl⟩)
    | (go_at_call 27; refine (HA.out _ (b0 _).bl).mono ?_; rintro e w1 ⟨rfl, hb⟩; have b1 := (b0 _).step hb; clear hb)
    | (go_at_call 17; refine (alive_any _ (b1.bl.sig HS.out)).mono ?_; rintro e w2 ⟨rfl, hb⟩))
  go_ret
  exact ⟨rfl, (b1.step hb).bl⟩
def TSt (w : World) (r : Rc) (A5 A7 : Option Addr) (L : List Nd) (W : World) : Prop := RB w w.heap.size r W ∧ Lies W A5 (bCells (truF L)) ∧ Lies W A7 (iCells (valsF r L))
set_option maxHeartbeats 2000000 in
theorem truth_ok (A : Option Addr) (m c : Nat) (L : List Nd) (E : List Ex) (rk rt rv : Int) (w : World) (hs : SigT w) (hn : L.length = m + 1) (ht : Lies w A (ndCells L)) (hg : Good4 L E) (t : Bool) (a : Int) (ho : ofF L = (t, a, 0)) :
    Calls Tryd.prog 6 #[.slice A (m + 1) c, .agg #[.int .i64 rk, .int .i64 rt, .int .i64 rv]] w fun e w' => e = .returned (.bool true) ∧ Below w.heap.size w w' := by
  have h60 : m + 1 ≤ 60 := by rw [← hn]; exact hg.2.1
  have he : errF L = 0 := by unfold errF; rw [ho]
  have HG := Lib.hid (fun W => great_any A (m + 1) c W false (decide_eq_false (by omega)))
  have HA := Lib.hid (fun W (hb : Bl w W) => rall_ok A c (m + 1) L W hn h60 (hb.lies ht) t a ho)
  have HE := Lib.hid (fun W (hb : Bl w W) => allv_ok A c (m + 1) L E ⟨rk, rt, rv⟩ W (hb.sig hs) hn (hb.lies ht) hg he)
  have HL := Lib.hid hg.ext
  have HN := Lib.hid hn
  have HS := Lib.hid hs
  have b0 := fun t => RB.start w rk rt rv t
  clear hs hn ht hg ho he
  go_enter Tryd.func6, Tryd.ntmps6
  go_wp2_with (first
    | (go_at_call 18; refine (HG.out _).mono ?_; rintro e w1 ⟨rfl, rfl⟩)
    | (go_at_call 27; refine (HA.out _ (b0 _).bl).mono ?_; rintro e w1 ⟨A5, c5, rfl, l5, hb⟩; have b1 := (b0 _).step hb; obtain ⟨r0, r1, r2⟩ := b1.cells; clear hb)
    | (go_at_call 10; refine (HE.out _ b1.bl).mono ?_; rintro e w2 ⟨a7, rfl, l7, hb⟩; have HT := Lib.hid (show TSt w ⟨rk, rt, rv⟩ A5 (some a7) L w2 from ⟨b1.step hb, l5.below hb, l7⟩); clear hb b1 l5 l7 r0 r1 r2))
  go_loopw [9] (fun i wr => ∃ k : Nat, i = .int .i64 k ∧ k ≤ m + 1 ∧ Hid (TSt w ⟨rk, rt, rv⟩ A5 (some a7) L wr)) (fun i _ => (m + 1) - (intOf i).toNat)
  case atStart => exact ⟨0, rfl, Nat.zero_le _, HT⟩
  case round =>
    obtain ⟨k, rfl, hk, HK⟩ := hrel
    clear HT
    by_cases hlt : k < m + 1
    · obtain ⟨x, hx⟩ : ∃ x, L[k]? = some x := ⟨_, List.getElem?_eq_getElem (by rw [HN.out]; exact hlt)⟩
      obtain ⟨v, hv⟩ : ∃ v, (valsF ⟨rk, rt, rv⟩ L)[k]? = some v := ⟨_, List.getElem?_eq_getElem (by rw [vals_length, HN.out]; exact hlt)⟩
      obtain ⟨ad, rfl, hadl, c0⟩ := HK.out.2.1.one (show (bCells (truF L))[k]? = some (.bool (gvK x.k)) by unfold bCells truF; rw [List.getElem?_map, List.getElem?_map, hx]; rfl)
      obtain ⟨ad', had, hadl', c1⟩ := HK.out.2.2.one (iCells_at hv)
      injection had with had; subst had
      have hab : (ad.add k).block < wr.heap.size := by rw [add_block]; exact hadl
      have hab' : (a7.add k).block < wr.heap.size := by rw [add_block]; exact hadl'
      have HV := Lib.hid (fun hgt => vals_truth ⟨rk, rt, rv⟩ HL.out hx hgt hv)
      have j1 : (0 : Int) ≤ k := by omega
      have j2 : (k : Int) < ((m + 1 : Nat) : Int) := by omega
      clear hx hv hadl hadl'
      cases hgv : gvK x.k
      · rw [hgv] at c0
        clear hgv HV
        go_wp2
        go_roundw
        case rel => exact ⟨k + 1, by go_num, by omega, HK⟩
        case measure => simp [intOf]; omega
      · rw [hgv] at c0
        rcases HV.out hgv with rfl | rfl
        all_goals
          clear hgv HV
          go_wp2
          go_roundw
          case rel => exact ⟨k + 1, by go_num, by omega, HK⟩
          case measure => simp [intOf]; omega
    · obtain rfl : k = m + 1 := by omega
      go_wp2_with (go_at_call 17; refine (alive_any _ (HK.out.1.bl.sig HS.out)).mono ?_; rintro e w9 ⟨rfl, hb⟩)
      go_ret
      exact ⟨rfl, (HK.out.1.step hb).bl⟩
theorem EvalsTruth_walk (A : Option Addr) (c : Nat) (L : List Nd) (rk rt rv : Int) (w : World) (hL : L.length ≤ maxLen) (ht : Lies w A (ndCells L)) (hnc : L.length ≤ c) (hA : (A = none ∧ c = 0 ∧ L = []) ∨ ∃ ad, A = some ad) (hbb : ∀ x ∈ L, x.n ≤ 9223372036854775807) (hr : RcIn ⟨rk, rt, rv⟩) (hs : SigT w) :
    Calls Tryd.prog 6 #[.slice A L.length c, .agg #[.int .i64 rk, .int .i64 rt, .int .i64 rv]] w fun e w' => e = .returned (.bool true) ∧ Below w.heap.size w w' := by
  by_cases h7 : 70 < L.length
  · exact truth_great A _ c rk rt rv w hs h7
  rcases err_cases L with ⟨t, a, v, h1, h2, h3⟩ | ⟨t, m, E, h1, h2, hg, hn, _⟩
  · exact truth_bad A _ c L rk rt rv w hs rfl (by omega) ht t a v h1 h3
  · rw [hn]
    exact truth_ok A m c L E rk rt rv w hs hn ht hg t _ h1
end Go.Proofs.YtajchaknfkfljaaDoor.V7
