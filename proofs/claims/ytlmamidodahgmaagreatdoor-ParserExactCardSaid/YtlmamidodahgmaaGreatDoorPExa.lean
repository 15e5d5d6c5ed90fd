/- ParserExact: the main way. -/
import Derived.Test.YtlmamidodahgmaaGreatDoorPPar3
import Derived.Test.YtlmamidodahgmaaGreatDoorPAppT
namespace Go.Proofs.YtlmamidodahgmaaGreatDoor.P9
open Go.ChangeShapes Go.WideShapes Go.ChangeAt Go.RowKit N4 Q8
set_option linter.unusedVariables false
set_option linter.unusedSimpArgs false
set_option maxRecDepth 100000

theorem same_v {p q : Qy} {v v' : Value} {w : World} (h : QV w p v) (h' : QV w q v') (hp : Q8.chkF p = 0) (hq : Q8.chkF q = 0) : Calls Tryz.prog 12 #[v, v'] w fun e w' => e = .returned (.tuple #[.bool (sameQ p q), .int .i64 0]) ∧ Below w.heap.size w w' := by
  obtain ⟨A, c, S, d, B, e, rfl, h2, _⟩ := h
  obtain ⟨A', c', S', d', B', e', rfl, h2', _⟩ := h'
  have h1 := small_chk hp
  have h3 := small_chk hq
  have := h1.L; have := h1.M; have := h1.l; have := h3.L; have := h3.M; have := h3.l
  exact csame_ok _ _ _ _ _ _ _ _ _ _ _ _ _ _ _ _ _ _ _ _ _ _ _ _ _ _ _ _ _ _ _ _ p.L p.M p.l q.L q.M q.l w h2 h2' h1.s h3.s (by omega) (by omega) (by omega) (by omega) (by omega) (by omega) hp hq _ rfl
def SX (w7 W : World) : Prop := Below w7.heap.size w7 W
set_option maxHeartbeats 16000000 in
theorem exa_go (g : Int) (A : Option Addr) (c : Nat) (L : List Nd) (S : Option Addr) (d : Nat) (l : List Int) (j : Bool) (B : Option Addr) (e : Nat) (M : List Nd) (k s v : Int) (y : Bool) (t : Int) (a : Int) (w : World) (h : QO w A c L S d l B e M s v t) (hT : T9 w) (hp : Pow w) (hgr : greatQ L.length M.length l.length = false) (hck : Q8.chkF ⟨g, L, l, j, M, k, s, v, y, t⟩ = 0) (ta tm : Tr) (htr : Trees ⟨g, L, l, j, M, k, s, v, y, t⟩ ta tm) (T : List UInt8) (hTx : textQ ⟨g, L, l, j, M, k, s, v, y, t⟩ ta tm = T) (ha : 0 ≤ a) (hbig : T.length ≤ 400) (K : List Tok) (q1 : Qy) (hall : allF T = (K, T.length, 0)) (hpf : parF T = (q1, (T.length : Int), 0)) (hal : alQ q1 ⟨g, L, l, j, M, k, s, v, y, t⟩) (h5 : 5 ≤ K.length)
    (hcut : ∀ (i : Nat) (X : List UInt8) (f : Int), i < K.length → joinF (K.take i ++ K.drop (i + 1)) = (X, f) → f = 18 ∨ (f = 0 ∧ X.length ≤ 400 ∧ ((parF X).2.2 ≠ 0 ∨ sameQ (parF X).1 ⟨g, L, l, j, M, k, s, v, y, t⟩ = false))) : Calls Tryz.prog 3 #[.agg #[.int .u8 g, .slice A L.length c, .slice S l.length d, .bool j, .slice B M.length e, .int .u8 k, .int .i64 s, .int .i64 v, .bool y, .int .u8 t], .int .i64 a] w fun ee w' => ee = .returned (.bool true) ∧ Below w.heap.size w w' := by
  have HAL := Lib.hid (fun W (hg : G9 w W) => alive_c w W hg)
  have HG := Lib.hid (G9.start hT)
  have hqv : QV w ⟨g, L, l, j, M, k, s, v, y, t⟩ (.agg #[.int .u8 g, .slice A L.length c, .slice S l.length d, .bool j, .slice B M.length e, .int .u8 k, .int .i64 s, .int .i64 v, .bool y, .int .u8 t]) := qo_qv h
  have HQ := Lib.hid (fun (W : World) (hb : Below w.heap.size w W) => hqv.step hb)
  have HGR := Lib.hid (fun (W : World) (hb : Below w.heap.size w W) => show Calls Tryz.prog 5 #[.agg #[.int .u8 g, .slice A L.length c, .slice S l.length d, .bool j, .slice B M.length e, .int .u8 k, .int .i64 s, .int .i64 v, .bool y, .int .u8 t]] W fun ee w' => ee = .returned (.bool false) ∧ Below W.heap.size W w' from by have := rgr_v (hqv.step hb); rwa [show greatQ L.length M.length l.length = false from hgr] at this)
  have HCK := Lib.hid (fun (W : World) (hb : Below w.heap.size w W) => rchk_v (hqv.step hb))
  obtain ⟨ck, hck0⟩ : ∃ ck, Q8.chkF ⟨g, L, l, j, M, k, s, v, y, t⟩ = ck := ⟨_, rfl⟩
  rw [hck] at hck0
  subst hck0
  rw [hck] at HCK
  have HWR := Lib.hid (fun (W : World) (hb : Below w.heap.size w W) => show Calls Tryz.prog 8 #[.agg #[.int .u8 g, .slice A L.length c, .slice S l.length d, .bool j, .slice B M.length e, .int .u8 k, .int .i64 s, .int .i64 v, .bool y, .int .u8 t]] W fun ee w' => ee = .returned (.tuple #[.string (bytesOf T), .bool true]) ∧ Below W.heap.size W w' from by
    have := written_c ⟨g, L, l, j, M, k, s, v, y, t⟩ ta tm htr _ w W (HG.out.step hb) hp (hqv.step hb)
    rwa [hTx] at this)
  have htl : T.length ≤ 6000 := by rw [← hTx]; exact text_len htr
  have hck1 := parF_chk (N := T) (by rw [hpf])
  rw [hpf] at hck1
  have hkc := allF_chk T
  have hkl := lex_toks (N := T) (by unfold maxLen; omega)
  rw [hall] at hkc hkl
  simp only at hkc hkl hck1
  have HAA := Lib.hid (fun W (hg : G9 w W) => all_any (bytesOf T) W (by rw [bytesOf_size]; unfold maxLen; omega) hg.2.1 K T.length 0 (by rw [show (bytesOf T).data.toList = T by simp [bytesOf]]; exact hall))
  have HPA := Lib.hid (fun W (hg : G9 w W) => parse_v T (bytesOf T) rfl (by unfold maxLen; omega) w W hg)
  rw [hpf] at HPA
  have hk200 := (chk_zero hkc).1
  have HSM := Lib.hid (fun (W : World) (X : Value) (h1 : QV W q1 X) (h2 : QV W ⟨g, L, l, j, M, k, s, v, y, t⟩ (.agg #[.int .u8 g, .slice A L.length c, .slice S l.length d, .bool j, .slice B M.length e, .int .u8 k, .int .i64 s, .int .i64 v, .bool y, .int .u8 t])) => show Calls Tryz.prog 12 #[X, .agg #[.int .u8 g, .slice A L.length c, .slice S l.length d, .bool j, .slice B M.length e, .int .u8 k, .int .i64 s, .int .i64 v, .bool y, .int .u8 t]] W fun ee w' => ee = .returned (.tuple #[.bool true, .int .i64 0]) ∧ Below W.heap.size W w' from by have := same_v h1 h2 hck1 hck; rwa [alQ_same hal] at this)
  obtain ⟨n, hn⟩ : ∃ n, K.length = n := ⟨_, rfl⟩
  have HNN := Lib.hid hn
  obtain ⟨m, hm⟩ : ∃ m : Nat, a.tmod n = (m : Int) := ⟨(a.tmod n).toNat, by have := Int.tmod_nonneg (n : Int) ha; omega⟩
  have hmn : m < n := by
    have h8 : a.tmod n < (n : Int) := Int.tmod_lt_of_pos a (by omega)
    omega
  unfold AllPost at HAA
  rw [hn] at HAA
  have hn0 : ((n : Int) == 0) = false := by simp; omega
  have hn0' : ¬ (n : Int) = 0 := by omega
  have hn1 : ¬ n = 0 := by omega
  have ha2 : ¬ a < 0 := by omega
  have hn200 : n ≤ 200 := by omega
  have hsz : ¬ ((400 : Int) < (bytesOf T).size) := by rw [bytesOf_size]; omega
  have htl2 : (bytesOf T).size = T.length := bytesOf_size T
  rw [← htl2] at HAA HPA
  obtain ⟨X, f, hX⟩ : ∃ X f, joinF (K.take m ++ K.drop (m + 1)) = (X, f) := ⟨_, _, rfl⟩
  obtain ⟨q2, pl, v2, hp2⟩ : ∃ q2 pl v2, parF X = (q2, pl, v2) := ⟨_, _, _, rfl⟩
  have hc2 := parF_chk (N := X)
  rw [hp2] at hc2
  have HC := Lib.hid (show f = 18 ∨ (f = 0 ∧ X.length ≤ 400 ∧ (v2 ≠ 0 ∨ (v2 = 0 ∧ Small q2 ∧ sameQ q2 ⟨g, L, l, j, M, k, s, v, y, t⟩ = false))) from by
    have h9 := hcut m X f (by omega) hX
    rw [hp2] at h9
    simp only at h9 hc2
    rcases h9 with h9 | ⟨h9, h10, h11⟩
    · exact .inl h9
    · refine .inr ⟨h9, h10, ?_⟩
      by_cases hv : v2 = 0
      · exact .inr ⟨hv, small_chk (hc2 hv), h11.resolve_left (fun h => h hv)⟩
      · exact .inl hv)
  have hjl : (K.take m ++ K.drop (m + 1)).length = m + (n - (m + 1)) := by rw [List.length_append, List.length_take, List.length_drop]; omega
  have HJ := Lib.hid (fun (A : Option Addr) (c : Nat) (W : World) (hg : G9 w W) (ht : Toks W A (K.take m ++ K.drop (m + 1))) => show Calls Tryz.prog 13 #[.slice A (m + (n - (m + 1))) c] W (JoinPost W X f) from by
    have := join_any A c (K.take m ++ K.drop (m + 1)) W (by unfold maxLen; omega) ht (fun t h => by
      rcases List.mem_append.1 h with h | h
      · exact (hkl t (List.mem_of_mem_take h)).2
      · exact (hkl t (List.mem_of_mem_drop h)).2) hg.2.1 X f hX
    rwa [hjl] at this)
  have HPX := Lib.hid (fun (hx : X.length ≤ 400) (W : World) (hg : G9 w W) => show Calls Tryz.prog 11 #[.string (bytesOf X)] W (ParP (q2, pl, v2) W) from by
    have := parse_v X (bytesOf X) rfl (by unfold maxLen; omega) w W hg
    rwa [hp2] at this)
  have HKL := Lib.hid (fun (hs : Small q2) (he : sameQ q2 ⟨g, L, l, j, M, k, s, v, y, t⟩ = false) (W : World) (x : Value) (h1 : QV W q2 x) (h2 : QV W ⟨g, L, l, j, M, k, s, v, y, t⟩ (.agg #[.int .u8 g, .slice A L.length c, .slice S l.length d, .bool j, .slice B M.length e, .int .u8 k, .int .i64 s, .int .i64 v, .bool y, .int .u8 t])) => show Calls Tryz.prog 14 #[x, .agg #[.int .u8 g, .slice A L.length c, .slice S l.length d, .bool j, .slice B M.length e, .int .u8 k, .int .i64 s, .int .i64 v, .bool y, .int .u8 t]] W fun ee w' => ee = .returned (.bool false) ∧ Below W.heap.size W w' from by
    have := alike_v h1 h2 hs (small_chk hck)
    rwa [he] at this)
  clear hqv h hT hgr hck htr hTx hp hbig hpf hall htl hal h5 hcut hck1 hkc hkl hk200 hn htl2 hX hp2 hc2 hjl
  generalize bytesOf T = ST at *
  go_enter Tryz.func3, Tryz.ntmps3
  go_upto_region 18 with (first
      | (go_at_call 5; refine (HGR.out _ ((Below.refl _ _).alloc (Nat.le_refl _) _)).mono ?_; rintro ee w2 ⟨rfl, hb⟩; have HG2 := Lib.hid ((HG.out.step ((Below.refl _ _).alloc (Nat.le_refl _) _)).step hb); have HX2 := Lib.hid ((Bx.new w (.int .u8 g) (.slice A L.length c) (.slice S l.length d) (.bool j) (.slice B M.length e) (.int .u8 k) (.int .i64 s) (.int .i64 v) (.bool y) (.int .u8 t) 27).step hb); obtain ⟨x1l, x10, x11, x12, x13, x14, x15, x16, x17, x18, x19⟩ := HX2.out; clear hb)
      | (go_at_call 6; refine (HCK.out _ HG2.out.1).mono ?_; rintro ee w3 ⟨rfl, hb⟩; have HG3 := Lib.hid (HG2.out.step hb); have HX3 := Lib.hid (HX2.out.step hb); clear hb x1l x10 x11 x12 x13 x14 x15 x16 x17 x18 x19; obtain ⟨x1l, x10, x11, x12, x13, x14, x15, x16, x17, x18, x19⟩ := HX3.out)
      | (go_at_call 8; refine (HWR.out _ HG3.out.1).mono ?_; rintro ee w4 ⟨rfl, hb⟩; have HG4 := Lib.hid (HG3.out.step hb); have HX4 := Lib.hid (HX3.out.step hb); clear hb x1l x10 x11 x12 x13 x14 x15 x16 x17 x18 x19; obtain ⟨x1l, x10, x11, x12, x13, x14, x15, x16, x17, x18, x19⟩ := HX4.out)
      | (go_at_call 10; refine (HAA.out _ HG4.out).mono ?_; rintro ee w5 ⟨AA, cc, rfl, hl, hg, hsl⟩; have HG5 := Lib.hid (HG4.out.step hg.1); have HX5 := Lib.hid (HX4.out.step hg.1); have HK5 := Lib.hid hl; have HSC := Lib.hid hsl; clear x1l x10 x11 x12 x13 x14 x15 x16 x17 x18 x19; clear hl hg hsl; obtain ⟨x1l, x10, x11, x12, x13, x14, x15, x16, x17, x18, x19⟩ := HX5.out)
      | (go_at_call 11; refine (HPA.out _ HG5.out).mono ?_; rintro ee u1 ⟨vv, rfl, hqq, hb⟩; obtain ⟨A1, c1, S1, d1, B1, e1, rfl, hqa, hsl⟩ := hqq; have HU := Lib.hid ((Below.refl u1.heap.size u1).alloc (Nat.le_refl _) (.cells #[.int .u8 q1.g, .slice A1 q1.L.length c1, .slice S1 q1.l.length d1, .bool q1.j, .slice B1 q1.M.length e1, .int .u8 q1.k, .int .i64 q1.s, .int .i64 q1.v, .bool q1.y, .int .u8 q1.t] 27)); have HG6 := Lib.hid ((HG5.out.step hb).step HU.out); have HQ6 := Lib.hid (QV.step (w := u1) (q := q1) (v := .agg #[.int .u8 q1.g, .slice A1 q1.L.length c1, .slice S1 q1.l.length d1, .bool q1.j, .slice B1 q1.M.length e1, .int .u8 q1.k, .int .i64 q1.s, .int .i64 q1.v, .bool q1.y, .int .u8 q1.t]) ⟨A1, c1, S1, d1, B1, e1, rfl, hqa, hsl⟩ HU.out); have HX6 := Lib.hid ((HX5.out.step hb).step HU.out); have HY6 := Lib.hid (Bx.new u1 (.int .u8 q1.g) (.slice A1 q1.L.length c1) (.slice S1 q1.l.length d1) (.bool q1.j) (.slice B1 q1.M.length e1) (.int .u8 q1.k) (.int .i64 q1.s) (.int .i64 q1.v) (.bool q1.y) (.int .u8 q1.t) 27); have HK6 := Lib.hid ((HK5.out.below hb).below HU.out); clear hb hqa hsl HPA; clear x1l x10 x11 x12 x13 x14 x15 x16 x17 x18 x19; obtain ⟨x1l, x10, x11, x12, x13, x14, x15, x16, x17, x18, x19⟩ := HX6.out; obtain ⟨y1l, y10, y11, y12, y13, y14, y15, y16, y17, y18, y19⟩ := HY6.out)
      | (go_at_call 12; refine (HSM.out _ _ HQ6.out (HQ.out _ HG6.out.1)).mono ?_; rintro ee w7 ⟨rfl, hb⟩; have HG7 := Lib.hid (HG6.out.step hb); have HX7 := Lib.hid (HX6.out.step hb); have HY7 := Lib.hid (HY6.out.step hb); have HQ7 := Lib.hid (HQ6.out.step hb); have HK7 := Lib.hid (HK6.out.below hb); clear hb))
  obtain ⟨hcc1, hcc2⟩ := HSC.out
  obtain ⟨XX, hXX⟩ : ∃ XX, (if cc = m + 1 then AA else AA.map (·.add ((m + 1) * 3))) = XX := ⟨_, rfl⟩
  have hb0 : Below w7.heap.size w7 w7 := Below.refl _ _
  have hsrcA : ∀ W, Below w7.heap.size w7 W → SrcT W AA m cc (K.take m) := fun W hb => (src_hi HK7.out HNN.out (by omega) hcc1 hcc2).step hb
  have hsrcB : ∀ W, Below w7.heap.size w7 W → SrcT W XX (n - (m + 1)) (cc - (m + 1)) (K.drop (m + 1)) := fun W hb => by rw [← hXX]; exact (src_lo HK7.out HNN.out hmn hcc1 hcc2).step hb
  have i1 : (0 : Int) ≤ (m : Int) := by omega
  have i2 : (m : Int) ≤ (cc : Int) := by omega
  have i3 : ((m : Int)).toNat = m := by omega
  have i4 : IntKind.i64.wrap ((m : Int) + 1) = (m : Int) + 1 := IntWalk.i64_in _ (by omega)
  have i5 : (0 : Int) ≤ (m : Int) + 1 := by omega
  have i6 : (m : Int) + 1 ≤ (n : Int) := by omega
  have i7 : ((m : Int) + 1).toNat = m + 1 := by omega
  refine wp_region_held_drew (S := SX w7) (by kernel_rfl) (bd_drewN w7 1) (fun hS0 => ?_)
  refine take_yes (i := 1) (d := 103) (v := ?v1) rfl rfl (by kernel_rfl) (by kernel_rfl) (by kernel_rfl) (fun _ _ _ h => h) (by rfl) ?y1 (by assumption) ?z1
  case y1 => (intro w' hSw; go_simp; try with_reducible rfl)
  try simp only [Act.put, List.setIfInBounds_toArray, List.set_cons_zero, List.set_cons_succ]
  refine take_yes (i := 2) (d := 104) (v := ?v2) rfl rfl (by kernel_rfl) (by kernel_rfl) (by kernel_rfl) (fun _ _ _ h => h) (by rfl) ?y2 (by assumption) ?z2
  case y2 => (intro w' hSw; go_simp; try with_reducible rfl)
  try simp only [Act.put, List.setIfInBounds_toArray, List.set_cons_zero, List.set_cons_succ]
  refine take_yes (i := 3) (d := 105) (v := ?v3) rfl rfl (by kernel_rfl) (by kernel_rfl) (by kernel_rfl) (fun _ _ _ h => h) (by rfl) ?y3 (by assumption) ?z3
  case y3 => (intro w' hSw; go_simp; try with_reducible rfl)
  try simp only [Act.put, List.setIfInBounds_toArray, List.set_cons_zero, List.set_cons_succ]
  refine take_yes (i := 5) (d := 107) (v := ?v5) rfl rfl (by kernel_rfl) (by kernel_rfl) (by kernel_rfl) (fun _ _ _ h => h) (by rfl) ?y5 (by assumption) ?z5
  case y5 => (intro w' hSw; go_simp; try with_reducible rfl)
  try simp only [Act.put, List.setIfInBounds_toArray, List.set_cons_zero, List.set_cons_succ]
  refine take_yes (i := 6) (d := 108) (v := ?v6) rfl rfl (by kernel_rfl) (by kernel_rfl) (by kernel_rfl) (fun _ _ _ h => h) (by rfl) ?y6 (by assumption) ?z6
  case y6 => (intro w' hSw; go_simp; try with_reducible rfl)
  try simp only [Act.put, List.setIfInBounds_toArray, List.set_cons_zero, List.set_cons_succ]
  refine take_yes (i := 7) (d := 109) (v := ?v7) rfl rfl (by kernel_rfl) (by kernel_rfl) (by kernel_rfl) (fun _ _ _ h => h) (by rfl) ?y7 (by assumption) ?z7
  case y7 => (intro w' hSw; go_simp; try with_reducible rfl)
  try simp only [Act.put, List.setIfInBounds_toArray, List.set_cons_zero, List.set_cons_succ]
  refine take_yes (i := 8) (d := 110) (v := .slice XX (n - (m + 1)) (cc - (m + 1))) rfl rfl (by kernel_rfl) (by kernel_rfl) (by kernel_rfl) (fun _ _ _ h => h) (by rfl) ?y8 (by assumption) ?z8
  case y8 => (intro w' hSw; go_simp; first | done | with_reducible rfl | (rw [← hXX]; first | done | with_reducible rfl))
  try simp only [Act.put, List.setIfInBounds_toArray, List.set_cons_zero, List.set_cons_succ]
  refine wpAnyH_ready (rs := [0]) (by kernel_rfl) (by simp) ?_
  refine AllReadyH.cons rfl (fun K' hK => ?_) AllReadyH.nil
  go_simp
  have hSA : SX w7 ((w7.alloc (.cells #[] 52)).drewN 1) := ((Below.refl _ _).alloc (Nat.le_refl _) _).trans ((bd_drewN (w7.alloc (.cells #[] 52)) 1).mono (by simp))
  have hO1 : ((w7.alloc (.cells #[] 52)).drewN 1).ownsRow w7.heap.size 52 3 (.slice (some ⟨w7.heap.size, 0, none⟩) 0 0) 0 (tokCells []) := N4.own_below (World.ownsRow_lit (base := w7.heap.size) (e := 52) (size := 3) w7 #[] 0 (Nat.le_refl _) (Nat.zero_le _) (by simp)) (bd_drewN _ 1)
  refine hK.out _ _ hSA (fun hS1 => ?_)
  clear hK K' hSA
  try simp only [Act.put, List.setIfInBounds_toArray, List.set_cons_zero, List.set_cons_succ]
  refine wpAnyH_ready (rs := [4]) (by kernel_rfl) (by simp) ?_
  refine AllReadyH.cons rfl (fun K' hK => ?_) AllReadyH.nil
  refine step_app_tok (by rfl) (.tmp 102) (.tmp 105) rfl w7.heap.size _ 0 [] rfl hO1 AA _ cc (K.take m) rfl (hsrcA _ hS1) (by omega) (Below.size hS1) ?_
  intro v5 w8 hown5 hgr5 _
  have hb5 : Below w7.heap.size ((w7.alloc (.cells #[] 52)).drewN 1) w8 := (Below.refl _ _).grown hgr5 (Below.size hS1) (fun j hj => (hO1.lt j hj).1)
  have hS5 : SX w7 w8 := Below.trans hS1 hb5
  refine hK.out _ _ hS5 (fun hS5' => ?_)
  clear hK K' hS5
  try simp only [Act.put, List.setIfInBounds_toArray, List.set_cons_zero, List.set_cons_succ]
  rw [Nat.zero_add, List.nil_append] at hown5
  refine wpAnyH_ready (rs := [9]) (by kernel_rfl) (by simp) ?_
  refine AllReadyH.cons rfl (fun K' hK => ?_) AllReadyH.nil
  refine step_app_tok (by rfl) (.tmp 106) (.tmp 110) rfl w7.heap.size _ _ (K.take m) rfl hown5 _ _ _ (K.drop (m + 1)) rfl (hsrcB _ hS5') (by omega) (Below.size hS5') ?_
  intro v6 w9 hown6 hgr6 _
  have hb6 : Below w7.heap.size w8 w9 := (Below.refl _ _).grown hgr6 (Below.size hS5') (fun j hj => (hown5.lt j hj).1)
  have hS6 : SX w7 w9 := Below.trans hS5' hb6
  refine hK.out _ _ hS6 (fun hS6' => ?_)
  clear hK K' hS6
  try simp only [Act.put, List.setIfInBounds_toArray, List.set_cons_zero, List.set_cons_succ]
  have hjl : (K.take m ++ K.drop (m + 1)).length = m + (n - (m + 1)) := by have := HNN.out; rw [List.length_append, List.length_take, List.length_drop]; omega
  obtain ⟨A9, c9, rfl, _, _⟩ := N4.own_form hown6
  have hT9 : Toks w9 A9 (K.take m ++ K.drop (m + 1)) := by
    rw [← hjl] at hown6
    exact Toks.of_own hown6
  have hG9 : G9 w w9 := HG7.out.step hS6'
  refine wpAnyH_ready (rs := [10]) (by kernel_rfl) (by simp) ?_
  refine AllReadyH.cons rfl (fun K' hK => ?_) AllReadyH.nil
  go_simp
  (go_at_call 13; refine (HJ.out _ _ _ hG9 hT9).mono ?_; rintro ee w10 ⟨rfl, hg⟩)
  have hS10 : SX w7 w10 := Below.trans hS6' (hg.1.mono (Below.size hS6'))
  refine hK.out _ _ hS10 (fun hS10' => ?_)
  clear hK K' hS10
  try simp only [Act.put, List.setIfInBounds_toArray, List.set_cons_zero, List.set_cons_succ]
  refine take_yes (i := 11) (d := 101) (v := ?v11) rfl rfl (by kernel_rfl) (by kernel_rfl) (by kernel_rfl) (fun _ _ _ h => h) (by rfl) ?y11 (by assumption) ?z11
  case y11 => (intro w' hSw; go_simp; try with_reducible rfl)
  try simp only [Act.put, List.setIfInBounds_toArray, List.set_cons_zero, List.set_cons_succ]
  refine take_yes (i := 12) (d := 113) (v := ?v12) rfl rfl (by kernel_rfl) (by kernel_rfl) (by kernel_rfl) (fun _ _ _ h => h) (by rfl) ?y12 (by assumption) ?z12
  case y12 => (intro w' hSw; go_simp; try with_reducible rfl)
  try simp only [Act.put, List.setIfInBounds_toArray, List.set_cons_zero, List.set_cons_succ]
  refine take_yes (i := 13) (d := 114) (v := ?v13) rfl rfl (by kernel_rfl) (by kernel_rfl) (by kernel_rfl) (fun _ _ _ h => h) (by rfl) ?y13 (by assumption) ?z13
  case y13 => (intro w' hSw; go_simp; try with_reducible rfl)
  try simp only [Act.put, List.setIfInBounds_toArray, List.set_cons_zero, List.set_cons_succ]
  refine take_yes (i := 14) (d := 16) (v := ?v14) rfl rfl (by kernel_rfl) (by kernel_rfl) (by kernel_rfl) (fun _ _ _ h => h) (by rfl) ?y14 (by assumption) ?z14
  case y14 => (intro w' hSw; go_simp; try with_reducible rfl)
  try simp only [Act.put, List.setIfInBounds_toArray, List.set_cons_zero, List.set_cons_succ]
  refine take_yes (i := 15) (d := 17) (v := ?v15) rfl rfl (by kernel_rfl) (by kernel_rfl) (by kernel_rfl) (fun _ _ _ h => h) (by rfl) ?y15 (by assumption) ?z15
  case y15 => (intro w' hSw; go_simp; try with_reducible rfl)
  try simp only [Act.put, List.setIfInBounds_toArray, List.set_cons_zero, List.set_cons_succ]
  refine wpAnyH_done (by kernel_rfl) ?_ _
  have HG10 := Lib.hid (HG7.out.step hS10')
  have HX10 := Lib.hid (HX7.out.step hS10')
  clear hS10' hS0 hS1 hS5' hS6' hown5 hown6 hgr5 hgr6 hb5 hb6 hO1 hsrcA hsrcB hb0 hT9 hG9 hg hjl HJ hXX HSC hcc1 hcc2 i1 i2 i3 i4 i5 i6 i7
  rcases HC.out with rfl | ⟨rfl, hx4, hv2⟩
  · go_wp2_with (go_at_call 7; refine (HAL.out _ HG10.out).mono ?_; rintro ee wz ⟨rfl, hg⟩; have HGZ := Lib.hid hg; clear hg)
    go_ret
    exact ⟨rfl, HGZ.out.1⟩
  · have HPX1 := Lib.hid (fun W hg => HPX.out hx4 W hg)
    clear HPX HC
    rcases hv2 with hv | ⟨rfl, hsm, hsq⟩
    · obtain ⟨g1, g2⟩ := codeP_er (s := []) hv
      clear hv HKL
      go_wp2_with (first
        | (go_at_call 11; refine (HPX1.out _ HG10.out).mono ?_; rintro ee u2 ⟨vv, rfl, hqq, hb⟩; obtain ⟨A2, c2, S2, d2, B2, e2, rfl, hqa, hsl⟩ := hqq; have HU := Lib.hid ((Below.refl u2.heap.size u2).alloc (Nat.le_refl _) (.cells #[.int .u8 q2.g, .slice A2 q2.L.length c2, .slice S2 q2.l.length d2, .bool q2.j, .slice B2 q2.M.length e2, .int .u8 q2.k, .int .i64 q2.s, .int .i64 q2.v, .bool q2.y, .int .u8 q2.t] 27)); have HG11 := Lib.hid ((HG10.out.step hb).step HU.out); have HQ11 := Lib.hid (QV.step (w := u2) (q := q2) (v := .agg #[.int .u8 q2.g, .slice A2 q2.L.length c2, .slice S2 q2.l.length d2, .bool q2.j, .slice B2 q2.M.length e2, .int .u8 q2.k, .int .i64 q2.s, .int .i64 q2.v, .bool q2.y, .int .u8 q2.t]) ⟨A2, c2, S2, d2, B2, e2, rfl, hqa, hsl⟩ HU.out); have HX11 := Lib.hid ((HX10.out.step hb).step HU.out); have HY11 := Lib.hid (Bx.new u2 (.int .u8 q2.g) (.slice A2 q2.L.length c2) (.slice S2 q2.l.length d2) (.bool q2.j) (.slice B2 q2.M.length e2) (.int .u8 q2.k) (.int .i64 q2.s) (.int .i64 q2.v) (.bool q2.y) (.int .u8 q2.t) 27); clear hb hqa hsl HPX1; obtain ⟨x1l, x10, x11, x12, x13, x14, x15, x16, x17, x18, x19⟩ := HX11.out; obtain ⟨y1l, y10, y11, y12, y13, y14, y15, y16, y17, y18, y19⟩ := HY11.out)
        | (go_at_call 7; refine (HAL.out _ HG11.out).mono ?_; rintro ee wz ⟨rfl, hg⟩; have HGZ := Lib.hid hg; clear hg))
      go_ret
      exact ⟨rfl, HGZ.out.1⟩
    · have HK1 := Lib.hid (fun W x h1 h2 => HKL.out hsm hsq W x h1 h2)
      clear HKL hsm hsq
      go_wp2_with (first
        | (go_at_call 11; refine (HPX1.out _ HG10.out).mono ?_; rintro ee u2 ⟨vv, rfl, hqq, hb⟩; obtain ⟨A2, c2, S2, d2, B2, e2, rfl, hqa, hsl⟩ := hqq; have HU := Lib.hid ((Below.refl u2.heap.size u2).alloc (Nat.le_refl _) (.cells #[.int .u8 q2.g, .slice A2 q2.L.length c2, .slice S2 q2.l.length d2, .bool q2.j, .slice B2 q2.M.length e2, .int .u8 q2.k, .int .i64 q2.s, .int .i64 q2.v, .bool q2.y, .int .u8 q2.t] 27)); have HG11 := Lib.hid ((HG10.out.step hb).step HU.out); have HQ11 := Lib.hid (QV.step (w := u2) (q := q2) (v := .agg #[.int .u8 q2.g, .slice A2 q2.L.length c2, .slice S2 q2.l.length d2, .bool q2.j, .slice B2 q2.M.length e2, .int .u8 q2.k, .int .i64 q2.s, .int .i64 q2.v, .bool q2.y, .int .u8 q2.t]) ⟨A2, c2, S2, d2, B2, e2, rfl, hqa, hsl⟩ HU.out); have HX11 := Lib.hid ((HX10.out.step hb).step HU.out); have HY11 := Lib.hid (Bx.new u2 (.int .u8 q2.g) (.slice A2 q2.L.length c2) (.slice S2 q2.l.length d2) (.bool q2.j) (.slice B2 q2.M.length e2) (.int .u8 q2.k) (.int .i64 q2.s) (.int .i64 q2.v) (.bool q2.y) (.int .u8 q2.t) 27); clear hb hqa hsl HPX1; obtain ⟨x1l, x10, x11, x12, x13, x14, x15, x16, x17, x18, x19⟩ := HX11.out; obtain ⟨y1l, y10, y11, y12, y13, y14, y15, y16, y17, y18, y19⟩ := HY11.out)
        | (go_at_call 14; refine (HK1.out _ _ HQ11.out (HQ.out _ HG11.out.1)).mono ?_; rintro ee w12 ⟨rfl, hb⟩; have HG12 := Lib.hid (HG11.out.step hb); clear hb)
        | (go_at_call 7; refine (HAL.out _ HG12.out).mono ?_; rintro ee wz ⟨rfl, hg⟩; have HGZ := Lib.hid hg; clear hg))
      go_ret
      exact ⟨rfl, HGZ.out.1⟩
end Go.Proofs.YtlmamidodahgmaaGreatDoor.P9
