/- ParserParts, ParserExact: texts that are too long, or of too many tokens. -/
import Derived.Test.YtlmamidodahgmaaGreatDoorPPar
namespace Go.Proofs.YtlmamidodahgmaaGreatDoor.P9
open Go.ChangeShapes Go.WideShapes Go.ChangeAt Go.RowKit N4 Q8
set_option linter.unusedVariables false
set_option linter.unusedSimpArgs false
set_option maxRecDepth 100000

theorem text_len {q : Qy} {ta tm : Tr} (h : Trees q ta tm) : (textQ q ta tm).length ≤ 6000 := by
  obtain ⟨hgt, z1, z2, z3, hfit, z4⟩ := (Q8.chk_zero q).1 h.chk
  obtain ⟨hk, hl0, _⟩ := chk_src h.chk
  have hg := inB_true.1 hgt.1
  obtain ⟨hs, hkk, h2, hn2, z5⟩ := fits_small hfit
  rw [text_eq q ta tm hl0]
  have a1 : (X1 q.g).length ≤ 13 := by
    have hg4 : q.g = 1 ∨ q.g = 2 ∨ q.g = 3 ∨ q.g = 4 := by omega
    rcases hg4 with h | h | h | h <;> rw [h] <;> decide
  have a2 : (argT q.g ta).length ≤ 2400 := by
    unfold argT
    by_cases h1 : q.g = 1
    · rw [if_pos h1]; decide
    · rw [if_neg h1]; exact tr_len (h.a h1)
  have a3 := namT_len q.j q.l
  have a4 := hk.len
  have a5 : (whT (!q.M.isEmpty) tm.wr).length ≤ 2407 := by
    unfold whT
    by_cases hm : q.M = []
    · rw [hm]; simp
    · have := tr_len (h.m hm)
      split
      · rw [List.length_append]; simp only [List.length_cons, List.length_nil]; omega
      · simp
  have a6 := (num_ok (n := q.s) (by omega) (by omega)).2.2.2.2
  have a7 : (winB q.k).length ≤ 7 := by unfold winB; repeat' split
                                        all_goals decide
  have a8 : (evT q.k q.v).length ≤ 28 := by
    unfold evT
    split
    · rename_i hk2
      have := h2 hk2
      have h3 := (num_ok (n := q.v) (by omega) (by omega)).2.2.2.2
      rw [List.length_append]; simp only [List.length_cons, List.length_nil]; omega
    · simp
  have a9 : (byT q.y).length ≤ 7 := by cases q.y <;> decide
  have a10 : (laT q.t).length ≤ 10 := by unfold laT; split <;> simp
  unfold X2 X3
  simp only [List.length_append, List.length_cons, List.length_nil]
  omega
set_option maxHeartbeats 4000000 in
theorem prt_big (g : Int) (A : Option Addr) (c : Nat) (L : List Nd) (S : Option Addr) (d : Nat) (l : List Int) (j : Bool) (B : Option Addr) (e : Nat) (M : List Nd) (k s v : Int) (y : Bool) (t : Int) (w : World) (h : QO w A c L S d l B e M s v t) (hT : T9 w) (hp : Pow w) (hgr : greatQ L.length M.length l.length = false) (hck : Q8.chkF ⟨g, L, l, j, M, k, s, v, y, t⟩ = 0) (ta tm : Tr) (htr : Trees ⟨g, L, l, j, M, k, s, v, y, t⟩ ta tm) (T : List UInt8) (hTx : textQ ⟨g, L, l, j, M, k, s, v, y, t⟩ ta tm = T) (hbig : 400 < T.length) (hpf : parF T = (q0, 0, 4)) : Calls Tryz.prog 4 #[.agg #[.int .u8 g, .slice A L.length c, .slice S l.length d, .bool j, .slice B M.length e, .int .u8 k, .int .i64 s, .int .i64 v, .bool y, .int .u8 t]] w fun ee w' => ee = .returned (.bool true) ∧ Below w.heap.size w w' := by
  have HAL := Lib.hid (fun W (hg : G9 w W) => alive_c w W hg)
  have HG := Lib.hid (G9.start hT)
  have hqv : QV w ⟨g, L, l, j, M, k, s, v, y, t⟩ (.agg #[.int .u8 g, .slice A L.length c, .slice S l.length d, .bool j, .slice B M.length e, .int .u8 k, .int .i64 s, .int .i64 v, .bool y, .int .u8 t]) := qo_qv h
  have HQ := Lib.hid (fun (W : World) (hb : Below w.heap.size w W) => hqv.step hb)
  have HGR := Lib.hid (fun (W : World) (hb : Below w.heap.size w W) => show Calls Tryz.prog 5 #[.agg #[.int .u8 g, .slice A L.length c, .slice S l.length d, .bool j, .slice B M.length e, .int .u8 k, .int .i64 s, .int .i64 v, .bool y, .int .u8 t]] W fun ee w' => ee = .returned (.bool false) ∧ Below W.heap.size W w' from by have := rgr_v (hqv.step hb); rwa [show greatQ L.length M.length l.length = false from hgr] at this)
  have HCK := Lib.hid (fun (W : World) (hb : Below w.heap.size w W) => rchk_v (hqv.step hb))
  obtain ⟨ck, hck0⟩ : ∃ ck, Q8.chkF ⟨g, L, l, j, M, k, s, v, y, t⟩ = ck := ⟨_, rfl⟩
  rw [hck] at hck0
  subst hck0
  rw [hck] at HCK
  have HWR := Lib.hid (fun (W : World) (hb : Below w.heap.size w W) => show Calls Tryz.prog 8 #[.agg #[.int .u8 g, .slice A L.length c, .slice S l.length d, .bool j, .slice B M.length e, .int .u8 k, .int .i64 s, .int .i64 v, .bool y, .int .u8 t]] W fun ee w' => ee = .returned (.tuple #[.string (bytesOf T), .bool true]) ∧ Below W.heap.size W w' from by
    have := written_c ⟨g, L, l, j, M, k, s, v, y, t⟩ ta tm htr _ w W (HG.out.step hb) hp (hqv.step hb)
    rwa [hTx] at this)
  have htl : T.length ≤ 6000 := by rw [← hTx]; exact text_len htr
  have hsz : (400 : Int) < (bytesOf T).size := by rw [bytesOf_size]; omega
  have hsz2 : (bytesOf T).size ≤ 6000 := by rw [bytesOf_size]; exact htl
  clear hqv h hT hgr hck htr hTx hp hbig hpf
  generalize bytesOf T = ST at *
  go_enter Tryz.func4, Tryz.ntmps4
  go_wp2_with (first
      | (go_at_call 5; refine (HGR.out _ ((Below.refl _ _).alloc (Nat.le_refl _) _)).mono ?_; rintro ee w2 ⟨rfl, hb⟩; have HG2 := Lib.hid ((HG.out.step ((Below.refl _ _).alloc (Nat.le_refl _) _)).step hb); have HX2 := Lib.hid ((Bx.new w (.int .u8 g) (.slice A L.length c) (.slice S l.length d) (.bool j) (.slice B M.length e) (.int .u8 k) (.int .i64 s) (.int .i64 v) (.bool y) (.int .u8 t) 27).step hb); obtain ⟨x1l, x10, x11, x12, x13, x14, x15, x16, x17, x18, x19⟩ := HX2.out; clear hb)
      | (go_at_call 6; refine (HCK.out _ HG2.out.1).mono ?_; rintro ee w3 ⟨rfl, hb⟩; have HG3 := Lib.hid (HG2.out.step hb); have HX3 := Lib.hid (HX2.out.step hb); clear hb x1l x10 x11 x12 x13 x14 x15 x16 x17 x18 x19; obtain ⟨x1l, x10, x11, x12, x13, x14, x15, x16, x17, x18, x19⟩ := HX3.out)
      | (go_at_call 8; refine (HWR.out _ HG3.out.1).mono ?_; rintro ee w4 ⟨rfl, hb⟩; have HG4 := Lib.hid (HG3.out.step hb); have HX4 := Lib.hid (HX3.out.step hb); clear hb x1l x10 x11 x12 x13 x14 x15 x16 x17 x18 x19; obtain ⟨x1l, x10, x11, x12, x13, x14, x15, x16, x17, x18, x19⟩ := HX4.out)
      | (go_at_call 7; refine (HAL.out _ HG4.out).mono ?_; rintro ee wz ⟨rfl, hg⟩; have HGZ := Lib.hid hg; clear hg))
  go_ret
  exact ⟨rfl, HGZ.out.1⟩
set_option maxHeartbeats 4000000 in
theorem prt_many (g : Int) (A : Option Addr) (c : Nat) (L : List Nd) (S : Option Addr) (d : Nat) (l : List Int) (j : Bool) (B : Option Addr) (e : Nat) (M : List Nd) (k s v : Int) (y : Bool) (t : Int) (w : World) (h : QO w A c L S d l B e M s v t) (hT : T9 w) (hp : Pow w) (hgr : greatQ L.length M.length l.length = false) (hck : Q8.chkF ⟨g, L, l, j, M, k, s, v, y, t⟩ = 0) (ta tm : Tr) (htr : Trees ⟨g, L, l, j, M, k, s, v, y, t⟩ ta tm) (T : List UInt8) (hTx : textQ ⟨g, L, l, j, M, k, s, v, y, t⟩ ta tm = T) (hbig : T.length ≤ 400) (n : Nat) (hall : allF T = ([], n, 4)) (hpf : parF T = (q0, (n : Int), 4)) : Calls Tryz.prog 4 #[.agg #[.int .u8 g, .slice A L.length c, .slice S l.length d, .bool j, .slice B M.length e, .int .u8 k, .int .i64 s, .int .i64 v, .bool y, .int .u8 t]] w fun ee w' => ee = .returned (.bool true) ∧ Below w.heap.size w w' := by
  have HAL := Lib.hid (fun W (hg : G9 w W) => alive_c w W hg)
  have HG := Lib.hid (G9.start hT)
  have hqv : QV w ⟨g, L, l, j, M, k, s, v, y, t⟩ (.agg #[.int .u8 g, .slice A L.length c, .slice S l.length d, .bool j, .slice B M.length e, .int .u8 k, .int .i64 s, .int .i64 v, .bool y, .int .u8 t]) := qo_qv h
  have HQ := Lib.hid (fun (W : World) (hb : Below w.heap.size w W) => hqv.step hb)
  have HGR := Lib.hid (fun (W : World) (hb : Below w.heap.size w W) => show Calls Tryz.prog 5 #[.agg #[.int .u8 g, .slice A L.length c, .slice S l.length d, .bool j, .slice B M.length e, .int .u8 k, .int .i64 s, .int .i64 v, .bool y, .int .u8 t]] W fun ee w' => ee = .returned (.bool false) ∧ Below W.heap.size W w' from by have := rgr_v (hqv.step hb); rwa [show greatQ L.length M.length l.length = false from hgr] at this)
  have HCK := Lib.hid (fun (W : World) (hb : Below w.heap.size w W) => rchk_v (hqv.step hb))
  obtain ⟨ck, hck0⟩ : ∃ ck, Q8.chkF ⟨g, L, l, j, M, k, s, v, y, t⟩ = ck := ⟨_, rfl⟩
  rw [hck] at hck0
  subst hck0
  rw [hck] at HCK
  have HWR := Lib.hid (fun (W : World) (hb : Below w.heap.size w W) => show Calls Tryz.prog 8 #[.agg #[.int .u8 g, .slice A L.length c, .slice S l.length d, .bool j, .slice B M.length e, .int .u8 k, .int .i64 s, .int .i64 v, .bool y, .int .u8 t]] W fun ee w' => ee = .returned (.tuple #[.string (bytesOf T), .bool true]) ∧ Below W.heap.size W w' from by
    have := written_c ⟨g, L, l, j, M, k, s, v, y, t⟩ ta tm htr _ w W (HG.out.step hb) hp (hqv.step hb)
    rwa [hTx] at this)
  have htl : T.length ≤ 6000 := by rw [← hTx]; exact text_len htr
  have HAA := Lib.hid (fun W (hg : G9 w W) => all_any (bytesOf T) W (by rw [bytesOf_size]; unfold maxLen; omega) hg.2.1 [] n 4 (by rw [show (bytesOf T).data.toList = T by simp [bytesOf]]; exact hall))
  have HPA := Lib.hid (fun W (hg : G9 w W) => parse_v T (bytesOf T) rfl (by unfold maxLen; omega) w W hg)
  rw [hpf] at HPA
  have hsz : ¬ ((400 : Int) < (bytesOf T).size) := by rw [bytesOf_size]; omega
  clear hqv h hT hgr hck htr hTx hp hbig hpf hall htl
  generalize bytesOf T = ST at *
  go_enter Tryz.func4, Tryz.ntmps4
  go_wp2_with (first
      | (go_at_call 5; refine (HGR.out _ ((Below.refl _ _).alloc (Nat.le_refl _) _)).mono ?_; rintro ee w2 ⟨rfl, hb⟩; have HG2 := Lib.hid ((HG.out.step ((Below.refl _ _).alloc (Nat.le_refl _) _)).step hb); have HX2 := Lib.hid ((Bx.new w (.int .u8 g) (.slice A L.length c) (.slice S l.length d) (.bool j) (.slice B M.length e) (.int .u8 k) (.int .i64 s) (.int .i64 v) (.bool y) (.int .u8 t) 27).step hb); obtain ⟨x1l, x10, x11, x12, x13, x14, x15, x16, x17, x18, x19⟩ := HX2.out; clear hb)
      | (go_at_call 6; refine (HCK.out _ HG2.out.1).mono ?_; rintro ee w3 ⟨rfl, hb⟩; have HG3 := Lib.hid (HG2.out.step hb); have HX3 := Lib.hid (HX2.out.step hb); clear hb x1l x10 x11 x12 x13 x14 x15 x16 x17 x18 x19; obtain ⟨x1l, x10, x11, x12, x13, x14, x15, x16, x17, x18, x19⟩ := HX3.out)
      | (go_at_call 8; refine (HWR.out _ HG3.out.1).mono ?_; rintro ee w4 ⟨rfl, hb⟩; have HG4 := Lib.hid (HG3.out.step hb); have HX4 := Lib.hid (HX3.out.step hb); clear hb x1l x10 x11 x12 x13 x14 x15 x16 x17 x18 x19; obtain ⟨x1l, x10, x11, x12, x13, x14, x15, x16, x17, x18, x19⟩ := HX4.out)
      | (go_at_call 11; refine (HPA.out _ HG4.out).mono ?_; rintro ee u1 ⟨vv, rfl, hqq, hb⟩; obtain ⟨A1, c1, S1, d1, B1, e1, rfl, hqa, hsl⟩ := hqq; have HG5 := Lib.hid ((HG4.out.step hb).step ((Below.refl _ _).alloc (Nat.le_refl _) (.cells #[.int .u8 0, .slice A1 0 c1, .slice S1 0 d1, .bool false, .slice B1 0 e1, .int .u8 0, .int .i64 0, .int .i64 0, .bool false, .int .u8 0] 27))); simp only [q0]; clear hb hqa hsl)
      | (go_at_call 10; refine (HAA.out _ HG5.out).mono ?_; rintro ee w6 ⟨AA, cc, rfl, hl, hg, hsl⟩; have HG6 := Lib.hid (HG5.out.step hg.1); clear hl hg)
      | (go_at_call 7; refine (HAL.out _ HG6.out).mono ?_; rintro ee wz ⟨rfl, hg⟩; have HGZ := Lib.hid hg; clear hg))
  go_ret
  exact ⟨rfl, HGZ.out.1⟩
set_option maxHeartbeats 4000000 in
theorem exa_big (g : Int) (A : Option Addr) (c : Nat) (L : List Nd) (S : Option Addr) (d : Nat) (l : List Int) (j : Bool) (B : Option Addr) (e : Nat) (M : List Nd) (k s v : Int) (y : Bool) (t : Int) (a : Int) (w : World) (h : QO w A c L S d l B e M s v t) (hT : T9 w) (hp : Pow w) (hgr : greatQ L.length M.length l.length = false) (hck : Q8.chkF ⟨g, L, l, j, M, k, s, v, y, t⟩ = 0) (ta tm : Tr) (htr : Trees ⟨g, L, l, j, M, k, s, v, y, t⟩ ta tm) (T : List UInt8) (hTx : textQ ⟨g, L, l, j, M, k, s, v, y, t⟩ ta tm = T) (ha : 0 ≤ a) (hbig : 400 < T.length) (hpf : parF T = (q0, 0, 4)) : Calls Tryz.prog 3 #[.agg #[.int .u8 g, .slice A L.length c, .slice S l.length d, .bool j, .slice B M.length e, .int .u8 k, .int .i64 s, .int .i64 v, .bool y, .int .u8 t], .int .i64 a] w fun ee w' => ee = .returned (.bool true) ∧ Below w.heap.size w w' := by
  have HAL := Lib.hid (fun W (hg : G9 w W) => alive_c w W hg)
  have HG := Lib.hid (G9.start hT)
  have hqv : QV w ⟨g, L, l, j, M, k, s, v, y, t⟩ (.agg #[.int .u8 g, .slice A L.length c, .slice S l.length d, .bool j, .slice B M.length e, .int .u8 k, .int .i64 s, .int .i64 v, .bool y, .int .u8 t]) := qo_qv h
  have HQ := Lib.hid (fun (W : World) (hb : Below w.heap.size w W) => hqv.step hb)
  have HGR := Lib.hid (fun (W : World) (hb : Below w.heap.size w W) => show Calls Tryz.prog 5 #[.agg #[.int .u8 g, .slice A L.length c, .slice S l.length d, .bool j, .slice B M.length e, .int .u8 k, .int .i64 s, .int .i64 v, .bool y, .int .u8 t]] W fun ee w' => ee = .returned (.bool false) ∧ Below W.heap.size W w' from by have := rgr_v (hqv.step hb); rwa [show greatQ L.length M.length l.length = false from hgr] at this)
  have HCK := Lib.hid (fun (W : World) (hb : Below w.heap.size w W) => rchk_v (hqv.step hb))
  obtain ⟨ck, hck0⟩ : ∃ ck, Q8.chkF ⟨g, L, l, j, M, k, s, v, y, t⟩ = ck := ⟨_, rfl⟩
  rw [hck] at hck0
  subst hck0
  rw [hck] at HCK
  have HWR := Lib.hid (fun (W : World) (hb : Below w.heap.size w W) => show Calls Tryz.prog 8 #[.agg #[.int .u8 g, .slice A L.length c, .slice S l.length d, .bool j, .slice B M.length e, .int .u8 k, .int .i64 s, .int .i64 v, .bool y, .int .u8 t]] W fun ee w' => ee = .returned (.tuple #[.string (bytesOf T), .bool true]) ∧ Below W.heap.size W w' from by
    have := written_c ⟨g, L, l, j, M, k, s, v, y, t⟩ ta tm htr _ w W (HG.out.step hb) hp (hqv.step hb)
    rwa [hTx] at this)
  have htl : T.length ≤ 6000 := by rw [← hTx]; exact text_len htr
  have ha2 : ¬ a < 0 := by omega
  have HFA := Lib.hid (fun W (hg : G9 w W) => fails_c T (bytesOf T) rfl (by unfold maxLen; omega) 0 4 (by rw [hpf]) (by rw [hpf]) (by decide) w W hg)
  have hsz : (400 : Int) < (bytesOf T).size := by rw [bytesOf_size]; omega
  have hsz2 : (bytesOf T).size ≤ 6000 := by rw [bytesOf_size]; exact htl
  clear hqv h hT hgr hck htr hTx hp hbig hpf
  generalize bytesOf T = ST at *
  go_enter Tryz.func3, Tryz.ntmps3
  go_wp2_with (first
      | (go_at_call 5; refine (HGR.out _ ((Below.refl _ _).alloc (Nat.le_refl _) _)).mono ?_; rintro ee w2 ⟨rfl, hb⟩; have HG2 := Lib.hid ((HG.out.step ((Below.refl _ _).alloc (Nat.le_refl _) _)).step hb); have HX2 := Lib.hid ((Bx.new w (.int .u8 g) (.slice A L.length c) (.slice S l.length d) (.bool j) (.slice B M.length e) (.int .u8 k) (.int .i64 s) (.int .i64 v) (.bool y) (.int .u8 t) 27).step hb); obtain ⟨x1l, x10, x11, x12, x13, x14, x15, x16, x17, x18, x19⟩ := HX2.out; clear hb)
      | (go_at_call 6; refine (HCK.out _ HG2.out.1).mono ?_; rintro ee w3 ⟨rfl, hb⟩; have HG3 := Lib.hid (HG2.out.step hb); have HX3 := Lib.hid (HX2.out.step hb); clear hb x1l x10 x11 x12 x13 x14 x15 x16 x17 x18 x19; obtain ⟨x1l, x10, x11, x12, x13, x14, x15, x16, x17, x18, x19⟩ := HX3.out)
      | (go_at_call 8; refine (HWR.out _ HG3.out.1).mono ?_; rintro ee w4 ⟨rfl, hb⟩; have HG4 := Lib.hid (HG3.out.step hb); have HX4 := Lib.hid (HX3.out.step hb); clear hb x1l x10 x11 x12 x13 x14 x15 x16 x17 x18 x19; obtain ⟨x1l, x10, x11, x12, x13, x14, x15, x16, x17, x18, x19⟩ := HX4.out)
      | (go_at_call 9; refine (HFA.out _ HG4.out).mono ?_; rintro ee w7 ⟨rfl, hg⟩; have HG5 := Lib.hid hg; clear hg)
      | (go_at_call 7; refine (HAL.out _ HG5.out).mono ?_; rintro ee wz ⟨rfl, hg⟩; have HGZ := Lib.hid hg; clear hg))
  go_ret
  exact ⟨rfl, HGZ.out.1⟩
set_option maxHeartbeats 4000000 in
theorem exa_many (g : Int) (A : Option Addr) (c : Nat) (L : List Nd) (S : Option Addr) (d : Nat) (l : List Int) (j : Bool) (B : Option Addr) (e : Nat) (M : List Nd) (k s v : Int) (y : Bool) (t : Int) (a : Int) (w : World) (h : QO w A c L S d l B e M s v t) (hT : T9 w) (hp : Pow w) (hgr : greatQ L.length M.length l.length = false) (hck : Q8.chkF ⟨g, L, l, j, M, k, s, v, y, t⟩ = 0) (ta tm : Tr) (htr : Trees ⟨g, L, l, j, M, k, s, v, y, t⟩ ta tm) (T : List UInt8) (hTx : textQ ⟨g, L, l, j, M, k, s, v, y, t⟩ ta tm = T) (ha : 0 ≤ a) (hbig : T.length ≤ 400) (n : Nat) (hall : allF T = ([], n, 4)) (hpf : parF T = (q0, (n : Int), 4)) : Calls Tryz.prog 3 #[.agg #[.int .u8 g, .slice A L.length c, .slice S l.length d, .bool j, .slice B M.length e, .int .u8 k, .int .i64 s, .int .i64 v, .bool y, .int .u8 t], .int .i64 a] w fun ee w' => ee = .returned (.bool true) ∧ Below w.heap.size w w' := by
  have HAL := Lib.hid (fun W (hg : G9 w W) => alive_c w W hg)
  have HG := Lib.hid (G9.start hT)
  have hqv : QV w ⟨g, L, l, j, M, k, s, v, y, t⟩ (.agg #[.int .u8 g, .slice A L.length c, .slice S l.length d, .bool j, .slice B M.length e, .int .u8 k, .int .i64 s, .int .i64 v, .bool y, .int .u8 t]) := qo_qv h
  have HQ := Lib.hid (fun (W : World) (hb : Below w.heap.size w W) => hqv.step hb)
  have HGR := Lib.hid (fun (W : World) (hb : Below w.heap.size w W) => show Calls Tryz.prog 5 #[.agg #[.int .u8 g, .slice A L.length c, .slice S l.length d, .bool j, .slice B M.length e, .int .u8 k, .int .i64 s, .int .i64 v, .bool y, .int .u8 t]] W fun ee w' => ee = .returned (.bool false) ∧ Below W.heap.size W w' from by have := rgr_v (hqv.step hb); rwa [show greatQ L.length M.length l.length = false from hgr] at this)
  have HCK := Lib.hid (fun (W : World) (hb : Below w.heap.size w W) => rchk_v (hqv.step hb))
  obtain ⟨ck, hck0⟩ : ∃ ck, Q8.chkF ⟨g, L, l, j, M, k, s, v, y, t⟩ = ck := ⟨_, rfl⟩
  rw [hck] at hck0
  subst hck0
  rw [hck] at HCK
  have HWR := Lib.hid (fun (W : World) (hb : Below w.heap.size w W) => show Calls Tryz.prog 8 #[.agg #[.int .u8 g, .slice A L.length c, .slice S l.length d, .bool j, .slice B M.length e, .int .u8 k, .int .i64 s, .int .i64 v, .bool y, .int .u8 t]] W fun ee w' => ee = .returned (.tuple #[.string (bytesOf T), .bool true]) ∧ Below W.heap.size W w' from by
    have := written_c ⟨g, L, l, j, M, k, s, v, y, t⟩ ta tm htr _ w W (HG.out.step hb) hp (hqv.step hb)
    rwa [hTx] at this)
  have htl : T.length ≤ 6000 := by rw [← hTx]; exact text_len htr
  have ha2 : ¬ a < 0 := by omega
  have HAA := Lib.hid (fun W (hg : G9 w W) => all_any (bytesOf T) W (by rw [bytesOf_size]; unfold maxLen; omega) hg.2.1 [] n 4 (by rw [show (bytesOf T).data.toList = T by simp [bytesOf]]; exact hall))
  have HFA := Lib.hid (fun W (hg : G9 w W) => fails_c T (bytesOf T) rfl (by unfold maxLen; omega) n 4 (by rw [hpf]) (by rw [hpf]) (by decide) w W hg)
  have hsz : ¬ ((400 : Int) < (bytesOf T).size) := by rw [bytesOf_size]; omega
  clear hqv h hT hgr hck htr hTx hp hbig hpf hall htl
  generalize bytesOf T = ST at *
  go_enter Tryz.func3, Tryz.ntmps3
  go_wp2_with (first
      | (go_at_call 5; refine (HGR.out _ ((Below.refl _ _).alloc (Nat.le_refl _) _)).mono ?_; rintro ee w2 ⟨rfl, hb⟩; have HG2 := Lib.hid ((HG.out.step ((Below.refl _ _).alloc (Nat.le_refl _) _)).step hb); have HX2 := Lib.hid ((Bx.new w (.int .u8 g) (.slice A L.length c) (.slice S l.length d) (.bool j) (.slice B M.length e) (.int .u8 k) (.int .i64 s) (.int .i64 v) (.bool y) (.int .u8 t) 27).step hb); obtain ⟨x1l, x10, x11, x12, x13, x14, x15, x16, x17, x18, x19⟩ := HX2.out; clear hb)
      | (go_at_call 6; refine (HCK.out _ HG2.out.1).mono ?_; rintro ee w3 ⟨rfl, hb⟩; have HG3 := Lib.hid (HG2.out.step hb); have HX3 := Lib.hid (HX2.out.step hb); clear hb x1l x10 x11 x12 x13 x14 x15 x16 x17 x18 x19; obtain ⟨x1l, x10, x11, x12, x13, x14, x15, x16, x17, x18, x19⟩ := HX3.out)
      | (go_at_call 8; refine (HWR.out _ HG3.out.1).mono ?_; rintro ee w4 ⟨rfl, hb⟩; have HG4 := Lib.hid (HG3.out.step hb); have HX4 := Lib.hid (HX3.out.step hb); clear hb x1l x10 x11 x12 x13 x14 x15 x16 x17 x18 x19; obtain ⟨x1l, x10, x11, x12, x13, x14, x15, x16, x17, x18, x19⟩ := HX4.out)
      | (go_at_call 10; refine (HAA.out _ HG4.out).mono ?_; rintro ee w6 ⟨AA, cc, rfl, hl, hg, hsl⟩; have HG5 := Lib.hid (HG4.out.step hg.1); clear hl hg)
      | (go_at_call 9; refine (HFA.out _ HG5.out).mono ?_; rintro ee w7 ⟨rfl, hg⟩; have HG7 := Lib.hid hg; clear hg)
      | (go_at_call 7; refine (HAL.out _ HG7.out).mono ?_; rintro ee wz ⟨rfl, hg⟩; have HGZ := Lib.hid hg; clear hg))
  go_ret
  exact ⟨rfl, HGZ.out.1⟩
end Go.Proofs.YtlmamidodahgmaaGreatDoor.P9
