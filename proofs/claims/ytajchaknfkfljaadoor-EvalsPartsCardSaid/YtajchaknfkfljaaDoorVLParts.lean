/- EvalsParts walks to true. -/
import Derived.Test.YtajchaknfkfljaaDoorVLaw
namespace Go.Proofs.YtajchaknfkfljaaDoor.V7
open Go.ChangeShapes Go.WideShapes Go.ChangeAt Go.RowKit N4 K6
set_option linter.unusedVariables false
set_option linter.unusedSimpArgs false
set_option maxRecDepth 100000

theorem pts_great (A : Option Addr) (n c : Nat) (at_ rk rt rv : Int) (w : World) (hs : SigT w) (h : 70 < n) :
    Calls Tryd.prog 5 #[.slice A n c, .int .i64 at_, .agg #[.int .i64 rk, .int .i64 rt, .int .i64 rv]] w fun e w' => e = .returned (.bool true) ∧ Below w.heap.size w w' := by
  have HG := Lib.hid (fun W => great_any A n c W true (decide_eq_true h))
  have HS := Lib.hid hs
  have b0 := fun t => RB.start w rk rt rv t
  clear h hs
  go_enter Tryd.func5, Tryd.ntmps5
  go_wp2_with (first
    | (go_at_call 18; refine (HG.out _).mono ?_; rintro e w1 ⟨rfl, rfl⟩)
    | (go_at_call 17; refine (alive_any _ ((b0 _).bl.sig HS.out)).mono ?_; rintro e w1 ⟨rfl, hb⟩))
  go_ret
  exact ⟨rfl, ((b0 _).step hb).bl⟩
theorem pts_out (A : Option Addr) (n c : Nat) (at_ rk rt rv : Int) (w : World) (hs : SigT w) (h7 : n ≤ 70) (ha : at_ < 0 ∨ n ≤ at_) :
    Calls Tryd.prog 5 #[.slice A n c, .int .i64 at_, .agg #[.int .i64 rk, .int .i64 rt, .int .i64 rv]] w fun e w' => e = .returned (.bool true) ∧ Below w.heap.size w w' := by
  have HG := Lib.hid (fun W => great_any A n c W false (decide_eq_false (by omega)))
  have HS := Lib.hid hs
  have b0 := fun t => RB.start w rk rt rv t
  clear h7 hs
  by_cases h3 : at_ < 0
  · clear ha
    go_enter Tryd.func5, Tryd.ntmps5
    go_wp2_with (first
      | (go_at_call 18; refine (HG.out _).mono ?_; rintro e w1 ⟨rfl, rfl⟩)
      | (go_at_call 17; refine (alive_any _ ((b0 _).bl.sig HS.out)).mono ?_; rintro e w1 ⟨rfl, hb⟩))
    go_ret
    exact ⟨rfl, ((b0 _).step hb).bl⟩
  · have h4 : (n : Int) ≤ at_ := by omega
    clear ha
    go_enter Tryd.func5, Tryd.ntmps5
    go_wp2_with (first
      | (go_at_call 18; refine (HG.out _).mono ?_; rintro e w1 ⟨rfl, rfl⟩)
      | (go_at_call 17; refine (alive_any _ ((b0 _).bl.sig HS.out)).mono ?_; rintro e w1 ⟨rfl, hb⟩))
    go_ret
    exact ⟨rfl, ((b0 _).step hb).bl⟩
theorem pts_bad (A : Option Addr) (n c : Nat) (L : List Nd) (i : Nat) (rk rt rv : Int) (w : World) (hs : SigT w) (hn : L.length = n) (h7 : n ≤ 70) (ht : Lies w A (ndCells L)) (hi : i < n) (v : Int) (he : errF L = v) (h0 : v ≠ 0) :
    Calls Tryd.prog 5 #[.slice A n c, .int .i64 i, .agg #[.int .i64 rk, .int .i64 rt, .int .i64 rv]] w fun e w' => e = .returned (.bool true) ∧ Below w.heap.size w w' := by
  have HG := Lib.hid (fun W => great_any A n c W false (decide_eq_false (by omega)))
  have HA := Lib.hid (fun W (hb : Bl w W) => rofe_any A c n L W hn (by unfold maxLen; omega) (hb.lies ht) v he)
  have hne := (bne_iff_ne (a := v) (b := 0)).2 h0
  have HS := Lib.hid hs
  have b0 := fun t => RB.start w rk rt rv t
  have j1 : ¬ ((i : Int) < 0) := by omega
  have j2 : ¬ ((n : Int) ≤ i) := by omega
  clear h0 hs hn ht he
  go_enter Tryd.func5, Tryd.ntmps5
  go_wp2_with (first
    | (go_at_call 18; refine (HG.out _).mono ?_; rintro e w1 ⟨rfl, rfl⟩)
    | (go_at_call 23; refine (HA.out _ (b0 _).bl).mono ?_; rintro e w1 ⟨⟨t, a, rfl⟩, hb⟩; have b1 := (b0 _).step hb; clear hb)
    | (go_at_call 17; refine (alive_any _ (b1.bl.sig HS.out)).mono ?_; rintro e w2 ⟨rfl, hb⟩))
  go_ret
  exact ⟨rfl, (b1.step hb).bl⟩
set_option maxHeartbeats 4000000 in
theorem pts_1 (A : Option Addr) (m c : Nat) (L : List Nd) (E E' : List Ex) (i s : Nat) (xn xa xb xp : Int) (rk rt rv z : Int)  (w : World) (hs : SigT w) (hn : L.length = m + 1) (hnc : m + 1 ≤ c) (ht : Lies w A (ndCells L)) (hg : Good4 L E) (he : errF L = 0) (hi : i < m + 1)
    (hx : L[i]? = some ⟨1, xn, xa, xb, xp⟩) (hz : lastV ⟨rk, rt, rv⟩ L = z) (hzm : (valsF ⟨rk, rt, rv⟩ L)[m]? = some z) (hy : (valsF ⟨rk, rt, rv⟩ L)[i]? = some xn)
    (hsz : sizF L i = s + 1) (hcl : (cutF L i).length = s + 1) (hcg : Good4 (cutF L i) E') (hce : errF (cutF L i) = 0) (hcv : lastV ⟨rk, rt, rv⟩ (cutF L i) = xn) :
    Calls Tryd.prog 5 #[.slice A (m + 1) c, .int .i64 i, .agg #[.int .i64 rk, .int .i64 rt, .int .i64 rv]] w fun e w' => e = .returned (.bool true) ∧ Below w.heap.size w w' := by
  obtain ⟨ad, rfl, _, _⟩ := ht.nd hx
  have h60 : m + 1 ≤ 60 := by rw [← hn]; exact hg.2.1
  have hs60 : s + 1 ≤ 60 := by rw [← hcl]; exact hcg.2.1
  have HG := Lib.hid (fun W => great_any (some ad) (m + 1) c W false (decide_eq_false (by omega)))
  have HA := Lib.hid (fun W (hb : Bl w W) => rofe_any (some ad) c (m + 1) L W hn (by unfold maxLen; omega) (hb.lies ht) 0 he)
  have HE := Lib.hid (fun W (hb : Bl w W) => allv_ok (some ad) c (m + 1) L E ⟨rk, rt, rv⟩ W (hb.sig hs) hn (hb.lies ht) hg he)
  have HO := Lib.hid (fun W (hb : Bl w W) => ofv_ok (some ad) c m L E ⟨rk, rt, rv⟩ W (hb.sig hs) hn (hb.lies ht) hg he z hz)
  have HP := Lib.hid (fun W (hb : Bl w W) => part_ok (some ad) c (m + 1) L i (s + 1) W (hb.lies ht) (checkF_ok hg) hn hnc hi hsz)
  have HOP := Lib.hid (fun A W (hb : Bl w W) hl => ofv_ok A (s + 1) s (cutF L i) E' ⟨rk, rt, rv⟩ W (hb.sig hs) hcl hl hcg hce _ hcv)
  have HPT := Lib.hid (fun w => show Calls Tryd.prog 25 #[.int .u8 1] w fun e w' => e = .returned (.tuple #[.int .i64 0, .int .i64 0]) ∧ w = w' by
    have h0 : okK 1 = true := by simp [okK]
    have hc : cnt 1 = 0 := by simp [cnt]
    have := parts_any 1 w
    rwa [show partsN 1 = 0 by unfold partsN; rw [if_pos h0, hc], show partsE 1 = 0 by simp [partsE, h0]] at this)
  have HX := Lib.hid hx
  have HT := Lib.hid ht
  have HS := Lib.hid hs
  have HZM := Lib.hid (iCells_at hzm)
  have HY := Lib.hid (iCells_at hy)
  have b0 := fun t => RB.start w rk rt rv t
  have j1 : ¬ ((i : Int) < 0) := by omega
  have j2 : ¬ (((m + 1 : Nat) : Int) ≤ i) := by omega
  have j3 : (0 : Int) ≤ i := by omega
  have j4 : (i : Int) < ((m + 1 : Nat) : Int) := by omega
  have e1 : ((m + 1 : Nat) : Int) - 1 = m := by omega
  have j5 : (m : Int) < ((m + 1 : Nat) : Int) := by omega
  have j6 : (0 : Int) ≤ m := by omega
  skip
  clear hs hn hnc ht hg he hx hz hzm hy hsz hcl hcg hce hcv
  go_enter Tryd.func5, Tryd.ntmps5
  go_wp2_with (first
    | (go_at_call 18; refine (HG.out _).mono ?_; rintro e w1 ⟨rfl, rfl⟩)
    | (go_at_call 23; refine (HA.out _ (b0 _).bl).mono ?_; rintro e w2 ⟨⟨t, a, rfl⟩, hb⟩; have b2 := (b0 _).step hb; obtain ⟨u0, u1, u2⟩ := b2.cells; clear hb)
    | (go_at_call 10; refine (HE.out _ b2.bl).mono ?_; rintro e w3 ⟨a5, rfl, l5, hb⟩; have b3 := b2.step hb; have L5 := Lib.hid l5; clear u0 u1 u2; obtain ⟨u0, u1, u2⟩ := b3.cells; clear hb b2 l5)
    | (go_at_call 9; refine (HO.out _ b3.bl).mono ?_; rintro e w4 ⟨rfl, hb⟩; have b4 := b3.step hb; have L5 := Lib.hid (L5.out.below hb); clear u0 u1 u2; obtain ⟨u0, u1, u2⟩ := b4.cells; clear hb b3)
    | (go_at_call 24; refine (HP.out _ b4.bl).mono ?_; rintro e w5 ⟨a6, rfl, l6, hb⟩; have b5 := b4.step hb; have L6 := Lib.hid l6; have L5 := Lib.hid (L5.out.below hb); clear u0 u1 u2; obtain ⟨u0, u1, u2⟩ := b5.cells; clear hb b4 l6)
    | (go_at_call 9; refine (HOP.out _ _ b5.bl L6.out).mono ?_; rintro e w6 ⟨rfl, hb⟩; have b6 := b5.step hb; have L5 := Lib.hid (L5.out.below hb); clear u0 u1 u2; obtain ⟨u0, u1, u2⟩ := b6.cells; have hz6 := b6.2.2.1; clear hb b5; obtain ⟨ad5, had5, hal5, v0⟩ := L5.out.one HZM.out; injection had5 with had5; subst had5; obtain ⟨ad5', had5, _, v1⟩ := L5.out.one HY.out; injection had5 with had5; subst had5; have k1 : (a5.add m).block < w6.heap.size := (by rw [add_block]; exact hal5); have k2 : (a5.add i).block < w6.heap.size := (by rw [add_block]; exact hal5); obtain ⟨adx, hadx, hadl, c0, c1, c2, c3, c4⟩ := (b6.bl.lies HT.out).nd HX.out; injection hadx with hadx; subst hadx; have hab : (ad.add (i * 5)).block < w6.heap.size := (by rw [add_block]; exact hadl))
    | (go_at_call 25; refine (HPT.out _).mono ?_; rintro e w7 ⟨rfl, rfl⟩) 
    | (go_at_call 17; refine (alive_any _ (((b6.al _).al _).bl.sig HS.out)).mono ?_; rintro e w8 ⟨rfl, hb⟩))
  go_ret
  exact ⟨rfl, (((b6.al _).al _).step hb).bl⟩
set_option maxHeartbeats 4000000 in
theorem pts_2 (A : Option Addr) (m c : Nat) (L : List Nd) (E E' : List Ex) (i s : Nat) (xn xa xb xp : Int) (rk rt rv z : Int)  (w : World) (hs : SigT w) (hn : L.length = m + 1) (hnc : m + 1 ≤ c) (ht : Lies w A (ndCells L)) (hg : Good4 L E) (he : errF L = 0) (hi : i < m + 1)
    (hx : L[i]? = some ⟨2, xn, xa, xb, xp⟩) (hz : lastV ⟨rk, rt, rv⟩ L = z) (hzm : (valsF ⟨rk, rt, rv⟩ L)[m]? = some z) (hy : (valsF ⟨rk, rt, rv⟩ L)[i]? = some rk)
    (hsz : sizF L i = s + 1) (hcl : (cutF L i).length = s + 1) (hcg : Good4 (cutF L i) E') (hce : errF (cutF L i) = 0) (hcv : lastV ⟨rk, rt, rv⟩ (cutF L i) = rk) :
    Calls Tryd.prog 5 #[.slice A (m + 1) c, .int .i64 i, .agg #[.int .i64 rk, .int .i64 rt, .int .i64 rv]] w fun e w' => e = .returned (.bool true) ∧ Below w.heap.size w w' := by
  obtain ⟨ad, rfl, _, _⟩ := ht.nd hx
  have h60 : m + 1 ≤ 60 := by rw [← hn]; exact hg.2.1
  have hs60 : s + 1 ≤ 60 := by rw [← hcl]; exact hcg.2.1
  have HG := Lib.hid (fun W => great_any (some ad) (m + 1) c W false (decide_eq_false (by omega)))
  have HA := Lib.hid (fun W (hb : Bl w W) => rofe_any (some ad) c (m + 1) L W hn (by unfold maxLen; omega) (hb.lies ht) 0 he)
  have HE := Lib.hid (fun W (hb : Bl w W) => allv_ok (some ad) c (m + 1) L E ⟨rk, rt, rv⟩ W (hb.sig hs) hn (hb.lies ht) hg he)
  have HO := Lib.hid (fun W (hb : Bl w W) => ofv_ok (some ad) c m L E ⟨rk, rt, rv⟩ W (hb.sig hs) hn (hb.lies ht) hg he z hz)
  have HP := Lib.hid (fun W (hb : Bl w W) => part_ok (some ad) c (m + 1) L i (s + 1) W (hb.lies ht) (checkF_ok hg) hn hnc hi hsz)
  have HOP := Lib.hid (fun A W (hb : Bl w W) hl => ofv_ok A (s + 1) s (cutF L i) E' ⟨rk, rt, rv⟩ W (hb.sig hs) hcl hl hcg hce _ hcv)
  have HPT := Lib.hid (fun w => show Calls Tryd.prog 25 #[.int .u8 2] w fun e w' => e = .returned (.tuple #[.int .i64 0, .int .i64 0]) ∧ w = w' by
    have h0 : okK 2 = true := by simp [okK]
    have hc : cnt 2 = 0 := by simp [cnt]
    have := parts_any 2 w
    rwa [show partsN 2 = 0 by unfold partsN; rw [if_pos h0, hc], show partsE 2 = 0 by simp [partsE, h0]] at this)
  have HX := Lib.hid hx
  have HT := Lib.hid ht
  have HS := Lib.hid hs
  have HZM := Lib.hid (iCells_at hzm)
  have HY := Lib.hid (iCells_at hy)
  have b0 := fun t => RB.start w rk rt rv t
  have j1 : ¬ ((i : Int) < 0) := by omega
  have j2 : ¬ (((m + 1 : Nat) : Int) ≤ i) := by omega
  have j3 : (0 : Int) ≤ i := by omega
  have j4 : (i : Int) < ((m + 1 : Nat) : Int) := by omega
  have e1 : ((m + 1 : Nat) : Int) - 1 = m := by omega
  have j5 : (m : Int) < ((m + 1 : Nat) : Int) := by omega
  have j6 : (0 : Int) ≤ m := by omega
  skip
  clear hs hn hnc ht hg he hx hz hzm hy hsz hcl hcg hce hcv
  go_enter Tryd.func5, Tryd.ntmps5
  go_wp2_with (first
    | (go_at_call 18; refine (HG.out _).mono ?_; rintro e w1 ⟨rfl, rfl⟩)
    | (go_at_call 23; refine (HA.out _ (b0 _).bl).mono ?_; rintro e w2 ⟨⟨t, a, rfl⟩, hb⟩; have b2 := (b0 _).step hb; obtain ⟨u0, u1, u2⟩ := b2.cells; clear hb)
    | (go_at_call 10; refine (HE.out _ b2.bl).mono ?_; rintro e w3 ⟨a5, rfl, l5, hb⟩; have b3 := b2.step hb; have L5 := Lib.hid l5; clear u0 u1 u2; obtain ⟨u0, u1, u2⟩ := b3.cells; clear hb b2 l5)
    | (go_at_call 9; refine (HO.out _ b3.bl).mono ?_; rintro e w4 ⟨rfl, hb⟩; have b4 := b3.step hb; have L5 := Lib.hid (L5.out.below hb); clear u0 u1 u2; obtain ⟨u0, u1, u2⟩ := b4.cells; clear hb b3)
    | (go_at_call 24; refine (HP.out _ b4.bl).mono ?_; rintro e w5 ⟨a6, rfl, l6, hb⟩; have b5 := b4.step hb; have L6 := Lib.hid l6; have L5 := Lib.hid (L5.out.below hb); clear u0 u1 u2; obtain ⟨u0, u1, u2⟩ := b5.cells; clear hb b4 l6)
    | (go_at_call 9; refine (HOP.out _ _ b5.bl L6.out).mono ?_; rintro e w6 ⟨rfl, hb⟩; have b6 := b5.step hb; have L5 := Lib.hid (L5.out.below hb); clear u0 u1 u2; obtain ⟨u0, u1, u2⟩ := b6.cells; have hz6 := b6.2.2.1; clear hb b5; obtain ⟨ad5, had5, hal5, v0⟩ := L5.out.one HZM.out; injection had5 with had5; subst had5; obtain ⟨ad5', had5, _, v1⟩ := L5.out.one HY.out; injection had5 with had5; subst had5; have k1 : (a5.add m).block < w6.heap.size := (by rw [add_block]; exact hal5); have k2 : (a5.add i).block < w6.heap.size := (by rw [add_block]; exact hal5); obtain ⟨adx, hadx, hadl, c0, c1, c2, c3, c4⟩ := (b6.bl.lies HT.out).nd HX.out; injection hadx with hadx; subst hadx; have hab : (ad.add (i * 5)).block < w6.heap.size := (by rw [add_block]; exact hadl))
    | (go_at_call 25; refine (HPT.out _).mono ?_; rintro e w7 ⟨rfl, rfl⟩) 
    | (go_at_call 17; refine (alive_any _ (((b6.al _).al _).bl.sig HS.out)).mono ?_; rintro e w8 ⟨rfl, hb⟩))
  go_ret
  exact ⟨rfl, (((b6.al _).al _).step hb).bl⟩
set_option maxHeartbeats 4000000 in
theorem pts_3 (A : Option Addr) (m c : Nat) (L : List Nd) (E E' : List Ex) (i s : Nat) (xn xa xb xp : Int) (rk rt rv z : Int)  (w : World) (hs : SigT w) (hn : L.length = m + 1) (hnc : m + 1 ≤ c) (ht : Lies w A (ndCells L)) (hg : Good4 L E) (he : errF L = 0) (hi : i < m + 1)
    (hx : L[i]? = some ⟨3, xn, xa, xb, xp⟩) (hz : lastV ⟨rk, rt, rv⟩ L = z) (hzm : (valsF ⟨rk, rt, rv⟩ L)[m]? = some z) (hy : (valsF ⟨rk, rt, rv⟩ L)[i]? = some rt)
    (hsz : sizF L i = s + 1) (hcl : (cutF L i).length = s + 1) (hcg : Good4 (cutF L i) E') (hce : errF (cutF L i) = 0) (hcv : lastV ⟨rk, rt, rv⟩ (cutF L i) = rt) :
    Calls Tryd.prog 5 #[.slice A (m + 1) c, .int .i64 i, .agg #[.int .i64 rk, .int .i64 rt, .int .i64 rv]] w fun e w' => e = .returned (.bool true) ∧ Below w.heap.size w w' := by
  obtain ⟨ad, rfl, _, _⟩ := ht.nd hx
  have h60 : m + 1 ≤ 60 := by rw [← hn]; exact hg.2.1
  have hs60 : s + 1 ≤ 60 := by rw [← hcl]; exact hcg.2.1
  have HG := Lib.hid (fun W => great_any (some ad) (m + 1) c W false (decide_eq_false (by omega)))
  have HA := Lib.hid (fun W (hb : Bl w W) => rofe_any (some ad) c (m + 1) L W hn (by unfold maxLen; omega) (hb.lies ht) 0 he)
  have HE := Lib.hid (fun W (hb : Bl w W) => allv_ok (some ad) c (m + 1) L E ⟨rk, rt, rv⟩ W (hb.sig hs) hn (hb.lies ht) hg he)
  have HO := Lib.hid (fun W (hb : Bl w W) => ofv_ok (some ad) c m L E ⟨rk, rt, rv⟩ W (hb.sig hs) hn (hb.lies ht) hg he z hz)
  have HP := Lib.hid (fun W (hb : Bl w W) => part_ok (some ad) c (m + 1) L i (s + 1) W (hb.lies ht) (checkF_ok hg) hn hnc hi hsz)
  have HOP := Lib.hid (fun A W (hb : Bl w W) hl => ofv_ok A (s + 1) s (cutF L i) E' ⟨rk, rt, rv⟩ W (hb.sig hs) hcl hl hcg hce _ hcv)
  have HPT := Lib.hid (fun w => show Calls Tryd.prog 25 #[.int .u8 3] w fun e w' => e = .returned (.tuple #[.int .i64 0, .int .i64 0]) ∧ w = w' by
    have h0 : okK 3 = true := by simp [okK]
    have hc : cnt 3 = 0 := by simp [cnt]
    have := parts_any 3 w
    rwa [show partsN 3 = 0 by unfold partsN; rw [if_pos h0, hc], show partsE 3 = 0 by simp [partsE, h0]] at this)
  have HX := Lib.hid hx
  have HT := Lib.hid ht
  have HS := Lib.hid hs
  have HZM := Lib.hid (iCells_at hzm)
  have HY := Lib.hid (iCells_at hy)
  have b0 := fun t => RB.start w rk rt rv t
  have j1 : ¬ ((i : Int) < 0) := by omega
  have j2 : ¬ (((m + 1 : Nat) : Int) ≤ i) := by omega
  have j3 : (0 : Int) ≤ i := by omega
  have j4 : (i : Int) < ((m + 1 : Nat) : Int) := by omega
  have e1 : ((m + 1 : Nat) : Int) - 1 = m := by omega
  have j5 : (m : Int) < ((m + 1 : Nat) : Int) := by omega
  have j6 : (0 : Int) ≤ m := by omega
  skip
  clear hs hn hnc ht hg he hx hz hzm hy hsz hcl hcg hce hcv
  go_enter Tryd.func5, Tryd.ntmps5
  go_wp2_with (first
    | (go_at_call 18; refine (HG.out _).mono ?_; rintro e w1 ⟨rfl, rfl⟩)
    | (go_at_call 23; refine (HA.out _ (b0 _).bl).mono ?_; rintro e w2 ⟨⟨t, a, rfl⟩, hb⟩; have b2 := (b0 _).step hb; obtain ⟨u0, u1, u2⟩ := b2.cells; clear hb)
    | (go_at_call 10; refine (HE.out _ b2.bl).mono ?_; rintro e w3 ⟨a5, rfl, l5, hb⟩; have b3 := b2.step hb; have L5 := Lib.hid l5; clear u0 u1 u2; obtain ⟨u0, u1, u2⟩ := b3.cells; clear hb b2 l5)
    | (go_at_call 9; refine (HO.out _ b3.bl).mono ?_; rintro e w4 ⟨rfl, hb⟩; have b4 := b3.step hb; have L5 := Lib.hid (L5.out.below hb); clear u0 u1 u2; obtain ⟨u0, u1, u2⟩ := b4.cells; clear hb b3)
    | (go_at_call 24; refine (HP.out _ b4.bl).mono ?_; rintro e w5 ⟨a6, rfl, l6, hb⟩; have b5 := b4.step hb; have L6 := Lib.hid l6; have L5 := Lib.hid (L5.out.below hb); clear u0 u1 u2; obtain ⟨u0, u1, u2⟩ := b5.cells; clear hb b4 l6)
    | (go_at_call 9; refine (HOP.out _ _ b5.bl L6.out).mono ?_; rintro e w6 ⟨rfl, hb⟩; have b6 := b5.step hb; have L5 := Lib.hid (L5.out.below hb); clear u0 u1 u2; obtain ⟨u0, u1, u2⟩ := b6.cells; have hz6 := b6.2.2.1; clear hb b5; obtain ⟨ad5, had5, hal5, v0⟩ := L5.out.one HZM.out; injection had5 with had5; subst had5; obtain ⟨ad5', had5, _, v1⟩ := L5.out.one HY.out; injection had5 with had5; subst had5; have k1 : (a5.add m).block < w6.heap.size := (by rw [add_block]; exact hal5); have k2 : (a5.add i).block < w6.heap.size := (by rw [add_block]; exact hal5); obtain ⟨adx, hadx, hadl, c0, c1, c2, c3, c4⟩ := (b6.bl.lies HT.out).nd HX.out; injection hadx with hadx; subst hadx; have hab : (ad.add (i * 5)).block < w6.heap.size := (by rw [add_block]; exact hadl))
    | (go_at_call 25; refine (HPT.out _).mono ?_; rintro e w7 ⟨rfl, rfl⟩) 
    | (go_at_call 17; refine (alive_any _ (((b6.al _).al _).bl.sig HS.out)).mono ?_; rintro e w8 ⟨rfl, hb⟩))
  go_ret
  exact ⟨rfl, (((b6.al _).al _).step hb).bl⟩
set_option maxHeartbeats 4000000 in
theorem pts_4 (A : Option Addr) (m c : Nat) (L : List Nd) (E E' : List Ex) (i s : Nat) (xn xa xb xp : Int) (rk rt rv z : Int)  (w : World) (hs : SigT w) (hn : L.length = m + 1) (hnc : m + 1 ≤ c) (ht : Lies w A (ndCells L)) (hg : Good4 L E) (he : errF L = 0) (hi : i < m + 1)
    (hx : L[i]? = some ⟨4, xn, xa, xb, xp⟩) (hz : lastV ⟨rk, rt, rv⟩ L = z) (hzm : (valsF ⟨rk, rt, rv⟩ L)[m]? = some z) (hy : (valsF ⟨rk, rt, rv⟩ L)[i]? = some rv)
    (hsz : sizF L i = s + 1) (hcl : (cutF L i).length = s + 1) (hcg : Good4 (cutF L i) E') (hce : errF (cutF L i) = 0) (hcv : lastV ⟨rk, rt, rv⟩ (cutF L i) = rv) :
    Calls Tryd.prog 5 #[.slice A (m + 1) c, .int .i64 i, .agg #[.int .i64 rk, .int .i64 rt, .int .i64 rv]] w fun e w' => e = .returned (.bool true) ∧ Below w.heap.size w w' := by
  obtain ⟨ad, rfl, _, _⟩ := ht.nd hx
  have h60 : m + 1 ≤ 60 := by rw [← hn]; exact hg.2.1
  have hs60 : s + 1 ≤ 60 := by rw [← hcl]; exact hcg.2.1
  have HG := Lib.hid (fun W => great_any (some ad) (m + 1) c W false (decide_eq_false (by omega)))
  have HA := Lib.hid (fun W (hb : Bl w W) => rofe_any (some ad) c (m + 1) L W hn (by unfold maxLen; omega) (hb.lies ht) 0 he)
  have HE := Lib.hid (fun W (hb : Bl w W) => allv_ok (some ad) c (m + 1) L E ⟨rk, rt, rv⟩ W (hb.sig hs) hn (hb.lies ht) hg he)
  have HO := Lib.hid (fun W (hb : Bl w W) => ofv_ok (some ad) c m L E ⟨rk, rt, rv⟩ W (hb.sig hs) hn (hb.lies ht) hg he z hz)
  have HP := Lib.hid (fun W (hb : Bl w W) => part_ok (some ad) c (m + 1) L i (s + 1) W (hb.lies ht) (checkF_ok hg) hn hnc hi hsz)
  have HOP := Lib.hid (fun A W (hb : Bl w W) hl => ofv_ok A (s + 1) s (cutF L i) E' ⟨rk, rt, rv⟩ W (hb.sig hs) hcl hl hcg hce _ hcv)
  have HPT := Lib.hid (fun w => show Calls Tryd.prog 25 #[.int .u8 4] w fun e w' => e = .returned (.tuple #[.int .i64 0, .int .i64 0]) ∧ w = w' by
    have h0 : okK 4 = true := by simp [okK]
    have hc : cnt 4 = 0 := by simp [cnt]
    have := parts_any 4 w
    rwa [show partsN 4 = 0 by unfold partsN; rw [if_pos h0, hc], show partsE 4 = 0 by simp [partsE, h0]] at this)
  have HX := Lib.hid hx
  have HT := Lib.hid ht
  have HS := Lib.hid hs
  have HZM := Lib.hid (iCells_at hzm)
  have HY := Lib.hid (iCells_at hy)
  have b0 := fun t => RB.start w rk rt rv t
  have j1 : ¬ ((i : Int) < 0) := by omega
  have j2 : ¬ (((m + 1 : Nat) : Int) ≤ i) := by omega
  have j3 : (0 : Int) ≤ i := by omega
  have j4 : (i : Int) < ((m + 1 : Nat) : Int) := by omega
  have e1 : ((m + 1 : Nat) : Int) - 1 = m := by omega
  have j5 : (m : Int) < ((m + 1 : Nat) : Int) := by omega
  have j6 : (0 : Int) ≤ m := by omega
  skip
  clear hs hn hnc ht hg he hx hz hzm hy hsz hcl hcg hce hcv
  go_enter Tryd.func5, Tryd.ntmps5
  go_wp2_with (first
    | (go_at_call 18; refine (HG.out _).mono ?_; rintro e w1 ⟨rfl, rfl⟩)
    | (go_at_call 23; refine (HA.out _ (b0 _).bl).mono ?_; rintro e w2 ⟨⟨t, a, rfl⟩, hb⟩; have b2 := (b0 _).step hb; obtain ⟨u0, u1, u2⟩ := b2.cells; clear hb)
    | (go_at_call 10; refine (HE.out _ b2.bl).mono ?_; rintro e w3 ⟨a5, rfl, l5, hb⟩; have b3 := b2.step hb; have L5 := Lib.hid l5; clear u0 u1 u2; obtain ⟨u0, u1, u2⟩ := b3.cells; clear hb b2 l5)
    | (go_at_call 9; refine (HO.out _ b3.bl).mono ?_; rintro e w4 ⟨rfl, hb⟩; have b4 := b3.step hb; have L5 := Lib.hid (L5.out.below hb); clear u0 u1 u2; obtain ⟨u0, u1, u2⟩ := b4.cells; clear hb b3)
    | (go_at_call 24; refine (HP.out _ b4.bl).mono ?_; rintro e w5 ⟨a6, rfl, l6, hb⟩; have b5 := b4.step hb; have L6 := Lib.hid l6; have L5 := Lib.hid (L5.out.below hb); clear u0 u1 u2; obtain ⟨u0, u1, u2⟩ := b5.cells; clear hb b4 l6)
    | (go_at_call 9; refine (HOP.out _ _ b5.bl L6.out).mono ?_; rintro e w6 ⟨rfl, hb⟩; have b6 := b5.step hb; have L5 := Lib.hid (L5.out.below hb); clear u0 u1 u2; obtain ⟨u0, u1, u2⟩ := b6.cells; have hz6 := b6.2.2.1; clear hb b5; obtain ⟨ad5, had5, hal5, v0⟩ := L5.out.one HZM.out; injection had5 with had5; subst had5; obtain ⟨ad5', had5, _, v1⟩ := L5.out.one HY.out; injection had5 with had5; subst had5; have k1 : (a5.add m).block < w6.heap.size := (by rw [add_block]; exact hal5); have k2 : (a5.add i).block < w6.heap.size := (by rw [add_block]; exact hal5); obtain ⟨adx, hadx, hadl, c0, c1, c2, c3, c4⟩ := (b6.bl.lies HT.out).nd HX.out; injection hadx with hadx; subst hadx; have hab : (ad.add (i * 5)).block < w6.heap.size := (by rw [add_block]; exact hadl))
    | (go_at_call 25; refine (HPT.out _).mono ?_; rintro e w7 ⟨rfl, rfl⟩) 
    | (go_at_call 17; refine (alive_any _ (((b6.al _).al _).bl.sig HS.out)).mono ?_; rintro e w8 ⟨rfl, hb⟩))
  go_ret
  exact ⟨rfl, (((b6.al _).al _).step hb).bl⟩
set_option maxHeartbeats 4000000 in
theorem pts_one (A : Option Addr) (m c : Nat) (L : List Nd) (E E' : List Ex) (i s : Nat) (xk xn xp : Int) (rk rt rv z : Int) (i1 : Nat) (u1 : Int) (h4 : 4 < xk) (h6 : xk ≤ 6) (hi1 : i1 < m + 1) (hu1 : (valsF ⟨rk, rt, rv⟩ L)[i1]? = some u1) (w : World) (hs : SigT w) (hn : L.length = m + 1) (hnc : m + 1 ≤ c) (ht : Lies w A (ndCells L)) (hg : Good4 L E) (he : errF L = 0) (hi : i < m + 1)
    (hx : L[i]? = some ⟨xk, xn, (i1 : Nat), 0, xp⟩) (hz : lastV ⟨rk, rt, rv⟩ L = z) (hzm : (valsF ⟨rk, rt, rv⟩ L)[m]? = some z) (hy : (valsF ⟨rk, rt, rv⟩ L)[i]? = some (opV xk u1 0))
    (hsz : sizF L i = s + 1) (hcl : (cutF L i).length = s + 1) (hcg : Good4 (cutF L i) E') (hce : errF (cutF L i) = 0) (hcv : lastV ⟨rk, rt, rv⟩ (cutF L i) = (opV xk u1 0)) :
    Calls Tryd.prog 5 #[.slice A (m + 1) c, .int .i64 i, .agg #[.int .i64 rk, .int .i64 rt, .int .i64 rv]] w fun e w' => e = .returned (.bool true) ∧ Below w.heap.size w w' := by
  obtain ⟨ad, rfl, _, _⟩ := ht.nd hx
  have h60 : m + 1 ≤ 60 := by rw [← hn]; exact hg.2.1
  have hs60 : s + 1 ≤ 60 := by rw [← hcl]; exact hcg.2.1
  have HG := Lib.hid (fun W => great_any (some ad) (m + 1) c W false (decide_eq_false (by omega)))
  have HA := Lib.hid (fun W (hb : Bl w W) => rofe_any (some ad) c (m + 1) L W hn (by unfold maxLen; omega) (hb.lies ht) 0 he)
  have HE := Lib.hid (fun W (hb : Bl w W) => allv_ok (some ad) c (m + 1) L E ⟨rk, rt, rv⟩ W (hb.sig hs) hn (hb.lies ht) hg he)
  have HO := Lib.hid (fun W (hb : Bl w W) => ofv_ok (some ad) c m L E ⟨rk, rt, rv⟩ W (hb.sig hs) hn (hb.lies ht) hg he z hz)
  have HP := Lib.hid (fun W (hb : Bl w W) => part_ok (some ad) c (m + 1) L i (s + 1) W (hb.lies ht) (checkF_ok hg) hn hnc hi hsz)
  have HOP := Lib.hid (fun A W (hb : Bl w W) hl => ofv_ok A (s + 1) s (cutF L i) E' ⟨rk, rt, rv⟩ W (hb.sig hs) hcl hl hcg hce _ hcv)
  have HPT := Lib.hid (fun w => show Calls Tryd.prog 25 #[.int .u8 xk] w fun e w' => e = .returned (.tuple #[.int .i64 1, .int .i64 0]) ∧ w = w' by
    have h0 : okK xk = true := by simp [okK]; omega
    have hc : cnt xk = 1 := by unfold cnt; rw [if_neg (by omega), if_pos h6]
    have := parts_any xk w
    rwa [show partsN xk = 1 by unfold partsN; rw [if_pos h0, hc], show partsE xk = 0 by simp [partsE, h0]] at this)
  have HD := Lib.hid (fun (W : World) (n : Nat) => Calls.quiet_of_same (n := n) ((do_op xk u1 0 (by omega) (by omega) (W.drewN n)).mono fun _ _ h => ⟨h.1, h.2.symm⟩))
  have HX := Lib.hid hx
  have HT := Lib.hid ht
  have HS := Lib.hid hs
  have HZM := Lib.hid (iCells_at hzm)
  have HY := Lib.hid (iCells_at hy)
  have HU1 := Lib.hid (iCells_at hu1)
  have b0 := fun t => RB.start w rk rt rv t
  have j1 : ¬ ((i : Int) < 0) := by omega
  have j2 : ¬ (((m + 1 : Nat) : Int) ≤ i) := by omega
  have j3 : (0 : Int) ≤ i := by omega
  have j4 : (i : Int) < ((m + 1 : Nat) : Int) := by omega
  have e1 : ((m + 1 : Nat) : Int) - 1 = m := by omega
  have j5 : (m : Int) < ((m + 1 : Nat) : Int) := by omega
  have j6 : (0 : Int) ≤ m := by omega
  have p1 : (0 : Int) ≤ i1 := by omega
  have p2 : (i1 : Int) < ((m + 1 : Nat) : Int) := by omega
  generalize hyv : (opV xk u1 0) = y at HOP HY HD
  clear hs hn hnc ht hg he hx hz hzm hy hsz hcl hcg hce hcv hu1 h4 h6 hi1 hyv
  go_enter Tryd.func5, Tryd.ntmps5
  go_wp2_with (first
    | (go_at_call 18; refine (HG.out _).mono ?_; rintro e w1 ⟨rfl, rfl⟩)
    | (go_at_call 23; refine (HA.out _ (b0 _).bl).mono ?_; rintro e w2 ⟨⟨t, a, rfl⟩, hb⟩; have b2 := (b0 _).step hb; obtain ⟨u0, u1, u2⟩ := b2.cells; clear hb)
    | (go_at_call 10; refine (HE.out _ b2.bl).mono ?_; rintro e w3 ⟨a5, rfl, l5, hb⟩; have b3 := b2.step hb; have L5 := Lib.hid l5; clear u0 u1 u2; obtain ⟨u0, u1, u2⟩ := b3.cells; clear hb b2 l5)
    | (go_at_call 9; refine (HO.out _ b3.bl).mono ?_; rintro e w4 ⟨rfl, hb⟩; have b4 := b3.step hb; have L5 := Lib.hid (L5.out.below hb); clear u0 u1 u2; obtain ⟨u0, u1, u2⟩ := b4.cells; clear hb b3)
    | (go_at_call 24; refine (HP.out _ b4.bl).mono ?_; rintro e w5 ⟨a6, rfl, l6, hb⟩; have b5 := b4.step hb; have L6 := Lib.hid l6; have L5 := Lib.hid (L5.out.below hb); clear u0 u1 u2; obtain ⟨u0, u1, u2⟩ := b5.cells; clear hb b4 l6)
    | (go_at_call 9; refine (HOP.out _ _ b5.bl L6.out).mono ?_; rintro e w6 ⟨rfl, hb⟩; have b6 := b5.step hb; have L5 := Lib.hid (L5.out.below hb); clear u0 u1 u2; obtain ⟨u0, u1, u2⟩ := b6.cells; have hz6 := b6.2.2.1; clear hb b5; obtain ⟨ad5, had5, hal5, v0⟩ := L5.out.one HZM.out; injection had5 with had5; subst had5; obtain ⟨ad5', had5, _, v1⟩ := L5.out.one HY.out; injection had5 with had5; subst had5; have k1 : (a5.add m).block < w6.heap.size := (by rw [add_block]; exact hal5); have k2 : (a5.add i).block < w6.heap.size := (by rw [add_block]; exact hal5); obtain ⟨ad5', had5, _, v2⟩ := L5.out.one HU1.out; injection had5 with had5; subst had5; have k3 : (a5.add i1).block < w6.heap.size := (by rw [add_block]; exact hal5); obtain ⟨adx, hadx, hadl, c0, c1, c2, c3, c4⟩ := (b6.bl.lies HT.out).nd HX.out; injection hadx with hadx; subst hadx; have hab : (ad.add (i * 5)).block < w6.heap.size := (by rw [add_block]; exact hadl))
    | (go_at_call 25; refine (HPT.out _).mono ?_; rintro e w7 ⟨rfl, rfl⟩))
  go_quiet ((go_at_call 26; with_reducible exact HD.out _ _))
  go_wp2_with (go_at_call 17; refine (alive_any _ (((b6.al _).bl.step (bd_drewN _ _)).sig HS.out)).mono ?_; rintro e w8 ⟨rfl, hb⟩)
  go_ret
  exact ⟨rfl, ((b6.al _).bl.step (bd_drewN _ _)).step hb⟩
set_option maxHeartbeats 4000000 in
theorem pts_two (A : Option Addr) (m c : Nat) (L : List Nd) (E E' : List Ex) (i s : Nat) (xk xn xp : Int) (rk rt rv z : Int) (i1 i2 : Nat) (u1 u2 : Int) (h6 : 6 < xk) (h19 : xk ≤ 19) (hi1 : i1 < m + 1) (hi2 : i2 < m + 1) (hu1 : (valsF ⟨rk, rt, rv⟩ L)[i1]? = some u1) (hu2 : (valsF ⟨rk, rt, rv⟩ L)[i2]? = some u2) (w : World) (hs : SigT w) (hn : L.length = m + 1) (hnc : m + 1 ≤ c) (ht : Lies w A (ndCells L)) (hg : Good4 L E) (he : errF L = 0) (hi : i < m + 1)
    (hx : L[i]? = some ⟨xk, xn, (i1 : Nat), (i2 : Nat), xp⟩) (hz : lastV ⟨rk, rt, rv⟩ L = z) (hzm : (valsF ⟨rk, rt, rv⟩ L)[m]? = some z) (hy : (valsF ⟨rk, rt, rv⟩ L)[i]? = some (opV xk u1 u2))
    (hsz : sizF L i = s + 1) (hcl : (cutF L i).length = s + 1) (hcg : Good4 (cutF L i) E') (hce : errF (cutF L i) = 0) (hcv : lastV ⟨rk, rt, rv⟩ (cutF L i) = (opV xk u1 u2)) :
    Calls Tryd.prog 5 #[.slice A (m + 1) c, .int .i64 i, .agg #[.int .i64 rk, .int .i64 rt, .int .i64 rv]] w fun e w' => e = .returned (.bool true) ∧ Below w.heap.size w w' := by
  obtain ⟨ad, rfl, _, _⟩ := ht.nd hx
  have h60 : m + 1 ≤ 60 := by rw [← hn]; exact hg.2.1
  have hs60 : s + 1 ≤ 60 := by rw [← hcl]; exact hcg.2.1
  have HG := Lib.hid (fun W => great_any (some ad) (m + 1) c W false (decide_eq_false (by omega)))
  have HA := Lib.hid (fun W (hb : Bl w W) => rofe_any (some ad) c (m + 1) L W hn (by unfold maxLen; omega) (hb.lies ht) 0 he)
  have HE := Lib.hid (fun W (hb : Bl w W) => allv_ok (some ad) c (m + 1) L E ⟨rk, rt, rv⟩ W (hb.sig hs) hn (hb.lies ht) hg he)
  have HO := Lib.hid (fun W (hb : Bl w W) => ofv_ok (some ad) c m L E ⟨rk, rt, rv⟩ W (hb.sig hs) hn (hb.lies ht) hg he z hz)
  have HP := Lib.hid (fun W (hb : Bl w W) => part_ok (some ad) c (m + 1) L i (s + 1) W (hb.lies ht) (checkF_ok hg) hn hnc hi hsz)
  have HOP := Lib.hid (fun A W (hb : Bl w W) hl => ofv_ok A (s + 1) s (cutF L i) E' ⟨rk, rt, rv⟩ W (hb.sig hs) hcl hl hcg hce _ hcv)
  have HPT := Lib.hid (fun w => show Calls Tryd.prog 25 #[.int .u8 xk] w fun e w' => e = .returned (.tuple #[.int .i64 2, .int .i64 0]) ∧ w = w' by
    have h0 : okK xk = true := by simp [okK]; omega
    have hc : cnt xk = 2 := by unfold cnt; rw [if_neg (by omega), if_neg (by omega)]
    have := parts_any xk w
    rwa [show partsN xk = 2 by unfold partsN; rw [if_pos h0, hc], show partsE xk = 0 by simp [partsE, h0]] at this)
  have HD := Lib.hid (fun (W : World) (n : Nat) => Calls.quiet_of_same (n := n) ((do_op xk u1 u2 (by omega) (by omega) (W.drewN n)).mono fun _ _ h => ⟨h.1, h.2.symm⟩))
  have HX := Lib.hid hx
  have HT := Lib.hid ht
  have HS := Lib.hid hs
  have HZM := Lib.hid (iCells_at hzm)
  have HY := Lib.hid (iCells_at hy)
  have HU1 := Lib.hid (iCells_at hu1)
  have HU2 := Lib.hid (iCells_at hu2)
  have b0 := fun t => RB.start w rk rt rv t
  have j1 : ¬ ((i : Int) < 0) := by omega
  have j2 : ¬ (((m + 1 : Nat) : Int) ≤ i) := by omega
  have j3 : (0 : Int) ≤ i := by omega
  have j4 : (i : Int) < ((m + 1 : Nat) : Int) := by omega
  have e1 : ((m + 1 : Nat) : Int) - 1 = m := by omega
  have j5 : (m : Int) < ((m + 1 : Nat) : Int) := by omega
  have j6 : (0 : Int) ≤ m := by omega
  have p1 : (0 : Int) ≤ i1 := by omega
  have p2 : (i1 : Int) < ((m + 1 : Nat) : Int) := by omega
  have p3 : (0 : Int) ≤ i2 := by omega
  have p4 : (i2 : Int) < ((m + 1 : Nat) : Int) := by omega
  generalize hyv : (opV xk u1 u2) = y at HOP HY HD
  clear hs hn hnc ht hg he hx hz hzm hy hsz hcl hcg hce hcv hu1 hu2 h6 h19 hi1 hi2 hyv
  go_enter Tryd.func5, Tryd.ntmps5
  go_wp2_with (first
    | (go_at_call 18; refine (HG.out _).mono ?_; rintro e w1 ⟨rfl, rfl⟩)
    | (go_at_call 23; refine (HA.out _ (b0 _).bl).mono ?_; rintro e w2 ⟨⟨t, a, rfl⟩, hb⟩; have b2 := (b0 _).step hb; obtain ⟨u0, u1, u2⟩ := b2.cells; clear hb)
    | (go_at_call 10; refine (HE.out _ b2.bl).mono ?_; rintro e w3 ⟨a5, rfl, l5, hb⟩; have b3 := b2.step hb; have L5 := Lib.hid l5; clear u0 u1 u2; obtain ⟨u0, u1, u2⟩ := b3.cells; clear hb b2 l5)
    | (go_at_call 9; refine (HO.out _ b3.bl).mono ?_; rintro e w4 ⟨rfl, hb⟩; have b4 := b3.step hb; have L5 := Lib.hid (L5.out.below hb); clear u0 u1 u2; obtain ⟨u0, u1, u2⟩ := b4.cells; clear hb b3)
    | (go_at_call 24; refine (HP.out _ b4.bl).mono ?_; rintro e w5 ⟨a6, rfl, l6, hb⟩; have b5 := b4.step hb; have L6 := Lib.hid l6; have L5 := Lib.hid (L5.out.below hb); clear u0 u1 u2; obtain ⟨u0, u1, u2⟩ := b5.cells; clear hb b4 l6)
    | (go_at_call 9; refine (HOP.out _ _ b5.bl L6.out).mono ?_; rintro e w6 ⟨rfl, hb⟩; have b6 := b5.step hb; have L5 := Lib.hid (L5.out.below hb); clear u0 u1 u2; obtain ⟨u0, u1, u2⟩ := b6.cells; have hz6 := b6.2.2.1; clear hb b5; obtain ⟨ad5, had5, hal5, v0⟩ := L5.out.one HZM.out; injection had5 with had5; subst had5; obtain ⟨ad5', had5, _, v1⟩ := L5.out.one HY.out; injection had5 with had5; subst had5; have k1 : (a5.add m).block < w6.heap.size := (by rw [add_block]; exact hal5); have k2 : (a5.add i).block < w6.heap.size := (by rw [add_block]; exact hal5); obtain ⟨ad5', had5, _, v2⟩ := L5.out.one HU1.out; injection had5 with had5; subst had5; have k3 : (a5.add i1).block < w6.heap.size := (by rw [add_block]; exact hal5); obtain ⟨ad5', had5, _, v3⟩ := L5.out.one HU2.out; injection had5 with had5; subst had5; have k4 : (a5.add i2).block < w6.heap.size := (by rw [add_block]; exact hal5); obtain ⟨adx, hadx, hadl, c0, c1, c2, c3, c4⟩ := (b6.bl.lies HT.out).nd HX.out; injection hadx with hadx; subst hadx; have hab : (ad.add (i * 5)).block < w6.heap.size := (by rw [add_block]; exact hadl))
    | (go_at_call 25; refine (HPT.out _).mono ?_; rintro e w7 ⟨rfl, rfl⟩))
  go_quiet ((go_at_call 26; with_reducible exact HD.out _ _))
  go_wp2_with (go_at_call 17; refine (alive_any _ (((b6.al _).bl.step (bd_drewN _ _)).sig HS.out)).mono ?_; rintro e w8 ⟨rfl, hb⟩)
  go_ret
  exact ⟨rfl, ((b6.al _).bl.step (bd_drewN _ _)).step hb⟩
theorem EvalsParts_walk (A : Option Addr) (c : Nat) (L : List Nd) (at_ rk rt rv : Int) (w : World) (hL : L.length ≤ maxLen) (ht : Lies w A (ndCells L)) (hnc : L.length ≤ c) (hA : (A = none ∧ c = 0 ∧ L = []) ∨ ∃ ad, A = some ad) (hbb : ∀ x ∈ L, x.n ≤ 9223372036854775807) (_ : (Lit.int .i64 at_).wf = true) (hr : RcIn ⟨rk, rt, rv⟩) (hs : SigT w) :
    Calls Tryd.prog 5 #[.slice A L.length c, .int .i64 at_, .agg #[.int .i64 rk, .int .i64 rt, .int .i64 rv]] w fun e w' => e = .returned (.bool true) ∧ Below w.heap.size w w' := by
  by_cases h7 : 70 < L.length
  · exact pts_great A _ c at_ rk rt rv w hs h7
  by_cases ha : at_ < 0 ∨ (L.length : Int) ≤ at_
  · exact pts_out A _ c at_ rk rt rv w hs (by omega) ha
  obtain ⟨i, rfl⟩ : ∃ i : Nat, at_ = i := ⟨at_.toNat, by omega⟩
  rcases err_cases L with ⟨t, a, v, h1, h2, h3⟩ | ⟨t, m, E, h1, h2, hg, hn, hch, hwr⟩
  · exact pts_bad A _ c L i rk rt rv w hs rfl (by omega) ht (by omega) v h2 h3
  have hE := hg.ext
  have hi : i < L.length := by omega
  obtain ⟨x, hx⟩ : ∃ x, L[i]? = some x := ⟨_, List.getElem?_eq_getElem hi⟩
  have hcut := cut_of hg hx (fun j z hj hz => fit_before (by omega) hz)
  rw [fit_before (by omega) hx, if_pos rfl] at hcut
  have hce : errF (cutF L i) = 0 := by unfold errF; rw [hcut]
  obtain ⟨hcl, hs1, hcv⟩ := vals_cut ⟨rk, rt, rv⟩ hg hi
  obtain ⟨s, hss⟩ : ∃ s, sizF L i = s + 1 := ⟨sizF L i - 1, by omega⟩
  rw [hss] at hcl hcv
  obtain ⟨y, hy, _⟩ := hg.at_ hi
  have hcg := (cut_good hg hy).1
  have hv := vals_full ⟨rk, rt, rv⟩ hE hx
  have hla := last_at ⟨rk, rt, rv⟩ hcl
  have hcv2 : lastV ⟨rk, rt, rv⟩ (cutF L i) = valF ⟨rk, rt, rv⟩ (valsF ⟨rk, rt, rv⟩ L) x := by
    rw [show s + 1 - 1 = s by omega, hla, hv] at hcv
    injection hcv
  have hzm := last_at ⟨rk, rt, rv⟩ hn
  obtain ⟨k1, k2, k3⟩ := node_parts hE hx
  obtain ⟨k, xn, a, b, p⟩ := x
  simp only at k1 k2 k3
  have gt : ∀ j : Nat, j < L.length → (valsF ⟨rk, rt, rv⟩ L)[j]? = some (getV (valsF ⟨rk, rt, rv⟩ L) j) := by
    intro j hj
    have hh : (valsF ⟨rk, rt, rv⟩ L)[j]? = some ((valsF ⟨rk, rt, rv⟩ L)[j]'(by rw [vals_length]; exact hj)) := List.getElem?_eq_getElem _
    rw [getV_at hh]; exact hh
  rw [hn] at hnc ⊢
  rcases k3 with hk | ⟨hk, hk2, i1, _, rfl, rfl, hi1, _⟩ | ⟨hk, i1, i2, _, _, rfl, rfl, hi1, hi2, _, _⟩
  · have h4 : k = 1 ∨ k = 2 ∨ k = 3 ∨ k = 4 := by omega
    rcases h4 with rfl | rfl | rfl | rfl
    · exact pts_1 A m c L E _ i s xn a b p rk rt rv _ w hs hn hnc ht hg h2 (by omega) hx rfl hzm hv hss hcl hcg hce hcv2
    · exact pts_2 A m c L E _ i s xn a b p rk rt rv _ w hs hn hnc ht hg h2 (by omega) hx rfl hzm hv hss hcl hcg hce hcv2
    · exact pts_3 A m c L E _ i s xn a b p rk rt rv _ w hs hn hnc ht hg h2 (by omega) hx rfl hzm hv hss hcl hcg hce hcv2
    · exact pts_4 A m c L E _ i s xn a b p rk rt rv _ w hs hn hnc ht hg h2 (by omega) hx rfl hzm hv hss hcl hcg hce hcv2
  · have e1 : valF ⟨rk, rt, rv⟩ (valsF ⟨rk, rt, rv⟩ L) ⟨k, xn, (i1 : Int), 0, p⟩ = opV k (getV (valsF ⟨rk, rt, rv⟩ L) i1) 0 := by
      rw [vals_op (show 4 < (⟨k, xn, (i1 : Int), 0, p⟩ : Nd).k from hk)]
      show opV k _ (if k ≤ 6 then 0 else _) = _
      rw [if_pos hk2]
    rw [e1] at hv hcv2
    exact pts_one A m c L E _ i s k xn p rk rt rv _ i1 _ hk hk2 (by omega) (gt i1 (by omega)) w hs hn hnc ht hg h2 (by omega) hx rfl hzm hv hss hcl hcg hce hcv2
  · have e1 : valF ⟨rk, rt, rv⟩ (valsF ⟨rk, rt, rv⟩ L) ⟨k, xn, (i1 : Int), (i2 : Int), p⟩ = opV k (getV (valsF ⟨rk, rt, rv⟩ L) i1) (getV (valsF ⟨rk, rt, rv⟩ L) i2) := by
      rw [vals_op (show 4 < (⟨k, xn, (i1 : Int), (i2 : Int), p⟩ : Nd).k by show 4 < k; omega)]
      show opV k _ (if k ≤ 6 then 0 else _) = _
      rw [if_neg (by omega)]
    rw [e1] at hv hcv2
    exact pts_two A m c L E _ i s k xn p rk rt rv _ i1 i2 _ _ hk k2 (by omega) (by omega) (gt i1 (by omega)) (gt i2 (by omega)) w hs hn hnc ht hg h2 (by omega) hx rfl hzm hv hss hcl hcg hce hcv2
end Go.Proofs.YtajchaknfkfljaaDoor.V7
