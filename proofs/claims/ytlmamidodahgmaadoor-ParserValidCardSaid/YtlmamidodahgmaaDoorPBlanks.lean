/- ParserBlanks walks to true. -/
import Derived.Test.YtlmamidodahgmaaDoorPAlive
namespace Go.Proofs.YtlmamidodahgmaaDoor.P9
open Go.ChangeShapes Go.WideShapes Go.ChangeAt Go.RowKit N4 Q8
set_option linter.unusedVariables false
set_option linter.unusedSimpArgs false
set_option maxRecDepth 100000

/-- A query's box. -/
def Bx (b : Nat) (a0 a1 a2 a3 a4 a5 a6 a7 a8 a9 : Value) (W : World) : Prop := b < W.heap.size ∧ W.cell? ⟨b, 0, none⟩ = some a0 ∧ W.cell? ⟨b, 1, none⟩ = some a1 ∧ W.cell? ⟨b, 2, none⟩ = some a2 ∧ W.cell? ⟨b, 3, none⟩ = some a3 ∧ W.cell? ⟨b, 4, none⟩ = some a4 ∧ W.cell? ⟨b, 5, none⟩ = some a5 ∧ W.cell? ⟨b, 6, none⟩ = some a6 ∧ W.cell? ⟨b, 7, none⟩ = some a7 ∧ W.cell? ⟨b, 8, none⟩ = some a8 ∧ W.cell? ⟨b, 9, none⟩ = some a9
theorem Bx.step {b : Nat} {a0 a1 a2 a3 a4 a5 a6 a7 a8 a9 : Value} {W W' : World} (h : Bx b a0 a1 a2 a3 a4 a5 a6 a7 a8 a9 W) (hb : Below W.heap.size W W') : Bx b a0 a1 a2 a3 a4 a5 a6 a7 a8 a9 W' := by
  obtain ⟨h2, h3⟩ := h
  have e : ∀ o, W'.cell? ⟨b, o, none⟩ = W.cell? ⟨b, o, none⟩ := fun o => hb.cell (p := ⟨b, o, none⟩) h2
  refine ⟨Nat.lt_of_lt_of_le h2 hb.size, ?_⟩
  simp only [e]
  exact h3
theorem Bx.new (W : World) (a0 a1 a2 a3 a4 a5 a6 a7 a8 a9 : Value) (t : TypeId) : Bx W.heap.size a0 a1 a2 a3 a4 a5 a6 a7 a8 a9 (W.alloc (.cells #[a0, a1, a2, a3, a4, a5, a6, a7, a8, a9] t)) := ⟨by simp, by go_simp, by go_simp, by go_simp, by go_simp, by go_simp, by go_simp, by go_simp, by go_simp, by go_simp, by go_simp⟩
theorem bytesOf_list' (s : ByteArray) : bytesOf s.data.toList = s := by
  apply ByteArray.ext
  simp [bytesOf]
theorem bl_bytes (s : ByteArray) : bytesOf ([32, 10] ++ s.data.toList ++ [32]) = ((⟨#[32, 10]⟩ : ByteArray) ++ s) ++ ⟨#[32]⟩ := by
  apply ByteArray.ext
  apply Array.toList_inj.1
  simp [bytesOf, ByteArray.data_append]
theorem bl_al {N : List UInt8} {L : List Tok} {n : Nat} (h : allF N = (L, n, 0)) (hN : N.length ≤ 300) : ∃ L' n', allF ([32, 10] ++ N ++ [32]) = (L', n', 0) ∧ al L = al L' := by
  obtain ⟨_, _, hL⟩ := allF_0 h
  have h1 : Blanks [32, 10] := by intro c hc; simp only [List.mem_cons, List.not_mem_nil, or_false] at hc; rcases hc with rfl | rfl <;> decide
  have h2 : Blanks [32] := by intro c hc; simp only [List.mem_cons, List.not_mem_nil, or_false] at hc; subst hc; decide
  have hlex := Lex.front (p := 0) h1 ((hL.behind h2).shift 2)
  have hf := allF_of (s := [32, 10] ++ N ++ [32]) (by simp only [List.length_append, List.length_cons, List.length_nil]; omega) (by rw [List.append_assoc]; exact hlex)
  rw [if_pos rfl] at hf
  exact ⟨_, _, hf, (al_mv _ _).symm⟩
theorem join_al {N : List UInt8} {L : List Tok} {n : Nat} (h : allF N = (L, n, 0)) {T : List UInt8} (hj : joinF L = (T, 0)) : T.length ≤ 400 ∧ ∃ L' n', allF T = (L', n', 0) ∧ al L = al L' := by
  obtain ⟨_, _, hL⟩ := allF_0 h
  have hv := hL.valid
  unfold joinF at hj
  split at hj
  · injection hj with _ h2; omega
  · split at hj
    · split at hj
      · injection hj with _ h2; omega
      · rename_i h3 _ h4
        injection hj with h5 _
        subst h5
        obtain ⟨ts, h6, h7⟩ := Lex.join L hv (by omega)
        have hf := allF_of (s := jn (L.map (·.s))) (by omega) h6
        rw [if_pos rfl] at hf
        exact ⟨by omega, ts, _, hf, h7.symm⟩
    · injection hj with _ h2; omega
theorem blk_big (s : ByteArray) (w : World) (hT : T9 w) (hs : s.size ≤ maxLen) (h : 200 < s.size) : Calls Tryd.prog 5 #[.string s] w fun e w' => e = .returned (.bool true) ∧ Below w.heap.size w w' := by
  have HAL := Lib.hid (alive_c w w (G9.start hT))
  have h1 : (200 : Int) < s.size := by omega
  clear hT
  unfold maxLen at hs
  go_enter Tryd.func5, Tryd.ntmps5
  go_wp2_with (go_at_call 10; refine HAL.out.mono ?_; rintro e w2 ⟨rfl, hg⟩; have HG := Lib.hid hg; clear hg)
  go_ret
  exact ⟨rfl, HG.out.1⟩
theorem blk_no (s : ByteArray) (w : World) (hT : T9 w) (h : s.size ≤ 200) (L : List Tok) (n : Nat) (er : Int) (ha : allF s.data.toList = (L, n, er)) (T : List UInt8) (f : Int) (hj : joinF L = (T, f)) (h0 : er ≠ 0 ∨ er = 0 ∧ f ≠ 0) :
    Calls Tryd.prog 5 #[.string s] w fun e w' => e = .returned (.bool true) ∧ Below w.heap.size w w' := by
  have HAL := Lib.hid (fun W (hg : G9 w W) => alive_c w W hg)
  have HA := Lib.hid (all_any s w (by unfold maxLen; omega) hT.1 L n er ha)
  have htk := lex_toks (N := s.data.toList) (by unfold maxLen; simp; omega)
  rw [ha] at htk
  have hl200 := (chk_zero (allF_chk s.data.toList)).1
  rw [ha] at hl200
  have HJ := Lib.hid (fun A c W (hg : G9 w W) (ht : Toks W A L) => join_any A c L W (by unfold maxLen; simp only at hl200; omega) ht (fun t h => (htk t h).2) hg.2.1 T f hj)
  have HG := Lib.hid (G9.start hT)
  have h1 : ¬ ((200 : Int) < s.size) := by omega
  rcases h0 with h0 | ⟨rfl, h0⟩
  all_goals
    obtain ⟨g1, g2⟩ := codeP_er (s := []) h0
    clear hT ha htk hl200 hj
    go_enter Tryd.func5, Tryd.ntmps5
    go_wp2_with (first
      | (go_at_call 11
         refine HA.out.mono ?_
         rintro e w2 ⟨A, c, rfl, hl, hg, _⟩
         have HG2 := Lib.hid (HG.out.step hg.1)
         have HTK := Lib.hid hl
         clear hl hg)
      | (go_at_call 14
         refine (HJ.out _ _ _ HG2.out HTK.out).mono ?_
         rintro e w3 ⟨rfl, hb, _⟩
         have HG3 := Lib.hid (HG2.out.step hb)
         clear hb)
      | (go_at_call 10; refine (HAL.out _ HG3.out).mono ?_; rintro e w4 ⟨rfl, hg⟩; have HG4 := Lib.hid hg; clear hg))
    go_ret
    exact ⟨rfl, HG4.out.1⟩
set_option maxHeartbeats 8000000 in
theorem blk_go (s : ByteArray) (w : World) (hT : T9 w) (h : s.size ≤ 200) (L : List Tok) (n : Nat) (ha : allF s.data.toList = (L, n, 0)) (T : List UInt8) (hj : joinF L = (T, 0)) :
    Calls Tryd.prog 5 #[.string s] w fun e w' => e = .returned (.bool true) ∧ Below w.heap.size w w' := by
  have HAL := Lib.hid (fun W (hg : G9 w W) => alive_c w W hg)
  have HA := Lib.hid (all_any s w (by unfold maxLen; omega) hT.1 L n 0 ha)
  have htk := lex_toks (N := s.data.toList) (by unfold maxLen; simp; omega)
  rw [ha] at htk
  have hl200 := (chk_zero (allF_chk s.data.toList)).1
  rw [ha] at hl200
  have HJ := Lib.hid (fun A c W (hg : G9 w W) (ht : Toks W A L) => join_any A c L W (by unfold maxLen; simp only at hl200; omega) ht (fun t h => (htk t h).2) hg.2.1 T 0 hj)
  have HG := Lib.hid (G9.start hT)
  have h1 : ¬ ((200 : Int) < s.size) := by omega
  obtain ⟨hT4, L', n', hb1, hb2⟩ := join_al ha hj
  obtain ⟨L2, n2, hc1, hc2⟩ := bl_al ha (by simp; omega)
  obtain ⟨e1, s1⟩ := parF_al ha hb1 hb2
  obtain ⟨e2, s2⟩ := parF_al ha hc1 hc2
  have m0 := parF_small s.data.toList
  have m1 := parF_small T
  have m2 := parF_small ([32, 10] ++ s.data.toList ++ [32])
  have HP0 := Lib.hid (fun W (hg : G9 w W) => parse_v s.data.toList s (bytesOf_list' s) (by unfold maxLen; simp; omega) w W hg)
  have HP1 := Lib.hid (fun W (hg : G9 w W) => parse_v T (bytesOf T) rfl (by unfold maxLen; omega) w W hg)
  have HP2 := Lib.hid (fun W (hg : G9 w W) => parse_v ([32, 10] ++ s.data.toList ++ [32]) _ (bl_bytes s) (by unfold maxLen; simp; omega) w W hg)
  obtain ⟨q1, n1, er1, hp0⟩ : ∃ q n er, parF s.data.toList = (q, n, er) := ⟨_, _, _, rfl⟩
  obtain ⟨q2, n2', er2, hp1⟩ : ∃ q n er, parF T = (q, n, er) := ⟨_, _, _, rfl⟩
  obtain ⟨q3, n3, er3, hp2⟩ : ∃ q n er, parF ([32, 10] ++ s.data.toList ++ [32]) = (q, n, er) := ⟨_, _, _, rfl⟩
  rw [hp0] at HP0 e1 s1 e2 s2 m0
  rw [hp1] at HP1 e1 s1 m1
  rw [hp2] at HP2 e2 s2 m2
  simp only at e1 s1 e2 s2 m0 m1 m2
  subst e1
  subst e2
  have HM := Lib.hid (And.intro m0 (And.intro m1 m2))
  have HS := Lib.hid (And.intro s1 s2)
  have HK1 := Lib.hid (fun (W : World) (v v' : Value) (h : QV W q1 v) (h' : QV W q2 v') => show Calls Tryd.prog 13 #[v, v'] W fun e w' => e = .returned (.bool true) ∧ Below W.heap.size W w' from by have := alike_v h h' m0 m1; rwa [s1] at this)
  have HK2 := Lib.hid (fun (W : World) (v v' : Value) (h : QV W q1 v) (h' : QV W q3 v') => show Calls Tryd.prog 13 #[v, v'] W fun e w' => e = .returned (.bool true) ∧ Below W.heap.size W w' from by have := alike_v h h' m0 m2; rwa [s2] at this)
  have hT63 : T.length ≤ 400 := hT4
  have hts : (bytesOf T).size ≤ 400 := by rw [bytesOf_size]; exact hT4
  clear hT ha htk hl200 hj hb1 hb2 hc1 hc2 m0 m1 m2 s1 s2 hp0 hp1 hp2
  go_enter Tryd.func5, Tryd.ntmps5
  go_wp2_with (first
         | (go_at_call 11
            refine HA.out.mono ?_
            rintro e w2 ⟨A, c, rfl, hl, hg, _⟩
            have HG2 := Lib.hid (HG.out.step hg.1)
            have HTK := Lib.hid hl
            clear hl hg)
         | (go_at_call 14
            refine (HJ.out _ _ _ HG2.out HTK.out).mono ?_
            rintro e w3 ⟨rfl, hb, _⟩
            have HG0 := Lib.hid (HG2.out.step hb)
            clear hb)
         | (go_at_call 6
            (with_reducible refine (HP0.out _ HG0.out).mono ?_)
            rintro e u1 ⟨v, rfl, hq, hb⟩
            obtain ⟨A1, c1, S1, d1, B1, e1, rfl, hqa, hsl⟩ := hq
            have HG1 := Lib.hid ((HG0.out.step hb).step ((Below.refl _ _).alloc (Nat.le_refl _) (.cells #[.int .u8 q1.g, .slice A1 q1.L.length c1, .slice S1 q1.l.length d1, .bool q1.j, .slice B1 q1.M.length e1, .int .u8 q1.k, .int .i64 q1.s, .int .i64 q1.v, .bool q1.y, .int .u8 q1.t] 28)))
            have HQ1 := Lib.hid (QV.step (w := u1) (v := .agg #[.int .u8 q1.g, .slice A1 q1.L.length c1, .slice S1 q1.l.length d1, .bool q1.j, .slice B1 q1.M.length e1, .int .u8 q1.k, .int .i64 q1.s, .int .i64 q1.v, .bool q1.y, .int .u8 q1.t]) ⟨A1, c1, S1, d1, B1, e1, rfl, hqa, hsl⟩ ((Below.refl _ _).alloc (Nat.le_refl _) (.cells #[.int .u8 q1.g, .slice A1 q1.L.length c1, .slice S1 q1.l.length d1, .bool q1.j, .slice B1 q1.M.length e1, .int .u8 q1.k, .int .i64 q1.s, .int .i64 q1.v, .bool q1.y, .int .u8 q1.t] 28)))
            have HX1 := Lib.hid (Bx.new u1 (.int .u8 q1.g) (.slice A1 q1.L.length c1) (.slice S1 q1.l.length d1) (.bool q1.j) (.slice B1 q1.M.length e1) (.int .u8 q1.k) (.int .i64 q1.s) (.int .i64 q1.v) (.bool q1.y) (.int .u8 q1.t) 28)
            have HB1 := Lib.hid (hb.trans ((Below.refl _ _).alloc (Nat.le_refl _) (.cells #[.int .u8 q1.g, .slice A1 q1.L.length c1, .slice S1 q1.l.length d1, .bool q1.j, .slice B1 q1.M.length e1, .int .u8 q1.k, .int .i64 q1.s, .int .i64 q1.v, .bool q1.y, .int .u8 q1.t] 28) |>.mono hb.size))
            clear hb hqa hsl HP0)
         | (go_at_call 6
            (with_reducible refine (HP1.out _ HG1.out).mono ?_)
            rintro e u2 ⟨v, rfl, hq, hb⟩
            obtain ⟨A2, c2, S2, d2, B2, e2, rfl, hqa, hsl⟩ := hq
            have HG2q := Lib.hid ((HG1.out.step hb).step ((Below.refl _ _).alloc (Nat.le_refl _) (.cells #[.int .u8 q2.g, .slice A2 q2.L.length c2, .slice S2 q2.l.length d2, .bool q2.j, .slice B2 q2.M.length e2, .int .u8 q2.k, .int .i64 q2.s, .int .i64 q2.v, .bool q2.y, .int .u8 q2.t] 28)))
            have HQ2 := Lib.hid (QV.step (w := u2) (v := .agg #[.int .u8 q2.g, .slice A2 q2.L.length c2, .slice S2 q2.l.length d2, .bool q2.j, .slice B2 q2.M.length e2, .int .u8 q2.k, .int .i64 q2.s, .int .i64 q2.v, .bool q2.y, .int .u8 q2.t]) ⟨A2, c2, S2, d2, B2, e2, rfl, hqa, hsl⟩ ((Below.refl _ _).alloc (Nat.le_refl _) (.cells #[.int .u8 q2.g, .slice A2 q2.L.length c2, .slice S2 q2.l.length d2, .bool q2.j, .slice B2 q2.M.length e2, .int .u8 q2.k, .int .i64 q2.s, .int .i64 q2.v, .bool q2.y, .int .u8 q2.t] 28)))
            have HX2 := Lib.hid (Bx.new u2 (.int .u8 q2.g) (.slice A2 q2.L.length c2) (.slice S2 q2.l.length d2) (.bool q2.j) (.slice B2 q2.M.length e2) (.int .u8 q2.k) (.int .i64 q2.s) (.int .i64 q2.v) (.bool q2.y) (.int .u8 q2.t) 28)
            have HB2 := Lib.hid (hb.trans ((Below.refl _ _).alloc (Nat.le_refl _) (.cells #[.int .u8 q2.g, .slice A2 q2.L.length c2, .slice S2 q2.l.length d2, .bool q2.j, .slice B2 q2.M.length e2, .int .u8 q2.k, .int .i64 q2.s, .int .i64 q2.v, .bool q2.y, .int .u8 q2.t] 28) |>.mono hb.size))
            clear hb hqa hsl HP1)
         | (go_at_call 6
            (with_reducible refine (HP2.out _ HG2q.out).mono ?_)
            rintro e u3 ⟨v, rfl, hq, hb⟩
            obtain ⟨A3, c3, S3, d3, B3, e3, rfl, hqa, hsl⟩ := hq
            have HG3 := Lib.hid ((HG2q.out.step hb).step ((Below.refl _ _).alloc (Nat.le_refl _) (.cells #[.int .u8 q3.g, .slice A3 q3.L.length c3, .slice S3 q3.l.length d3, .bool q3.j, .slice B3 q3.M.length e3, .int .u8 q3.k, .int .i64 q3.s, .int .i64 q3.v, .bool q3.y, .int .u8 q3.t] 28)))
            have HQ3 := Lib.hid (QV.step (w := u3) (v := .agg #[.int .u8 q3.g, .slice A3 q3.L.length c3, .slice S3 q3.l.length d3, .bool q3.j, .slice B3 q3.M.length e3, .int .u8 q3.k, .int .i64 q3.s, .int .i64 q3.v, .bool q3.y, .int .u8 q3.t]) ⟨A3, c3, S3, d3, B3, e3, rfl, hqa, hsl⟩ ((Below.refl _ _).alloc (Nat.le_refl _) (.cells #[.int .u8 q3.g, .slice A3 q3.L.length c3, .slice S3 q3.l.length d3, .bool q3.j, .slice B3 q3.M.length e3, .int .u8 q3.k, .int .i64 q3.s, .int .i64 q3.v, .bool q3.y, .int .u8 q3.t] 28)))
            have HX3 := Lib.hid (Bx.new u3 (.int .u8 q3.g) (.slice A3 q3.L.length c3) (.slice S3 q3.l.length d3) (.bool q3.j) (.slice B3 q3.M.length e3) (.int .u8 q3.k) (.int .i64 q3.s) (.int .i64 q3.v) (.bool q3.y) (.int .u8 q3.t) 28)
            have HB3 := Lib.hid (hb.trans ((Below.refl _ _).alloc (Nat.le_refl _) (.cells #[.int .u8 q3.g, .slice A3 q3.L.length c3, .slice S3 q3.l.length d3, .bool q3.j, .slice B3 q3.M.length e3, .int .u8 q3.k, .int .i64 q3.s, .int .i64 q3.v, .bool q3.y, .int .u8 q3.t] 28) |>.mono hb.size))
            clear hb hqa hsl HP2
            have HY1 := Lib.hid ((HX1.out.step HB2.out).step HB3.out)
            have HY2 := Lib.hid (HX2.out.step HB3.out)
            have HZ1 := Lib.hid ((HQ1.out.step HB2.out).step HB3.out)
            have HZ2 := Lib.hid (HQ2.out.step HB3.out)
            obtain ⟨x1l, x10, x11, x12, x13, x14, x15, x16, x17, x18, x19⟩ := HY1.out
            obtain ⟨x2l, x20, x21, x22, x23, x24, x25, x26, x27, x28, x29⟩ := HY2.out)
         | (go_at_call 13
            (with_reducible refine (HK1.out _ _ _ HZ1.out HZ2.out).mono ?_)
            rintro e u4 ⟨rfl, hb⟩
            have HG4 := Lib.hid (HG3.out.step hb)
            have HV1 := Lib.hid (HZ1.out.step hb)
            have HV3 := Lib.hid (HQ3.out.step hb)
            obtain ⟨y1l, y10, y11, y12, y13, y14, y15, y16, y17, y18, y19⟩ := HY1.out.step hb
            obtain ⟨y3l, y30, y31, y32, y33, y34, y35, y36, y37, y38, y39⟩ := HX3.out.step hb
            clear hb HK1)
         | (go_at_call 13
            (with_reducible refine (HK2.out _ _ _ HV1.out HV3.out).mono ?_)
            rintro e u5 ⟨rfl, hb⟩
            have HG5 := Lib.hid (HG4.out.step hb)
            clear hb)
         | (go_at_call 10; refine (HAL.out _ HG5.out).mono ?_; rintro e u6 ⟨rfl, hg⟩; have HG6 := Lib.hid hg; clear hg))
  go_ret
  exact ⟨rfl, HG6.out.1⟩
theorem ParserBlanks_walk (s : ByteArray) (w : World) (hs : s.size ≤ maxLen) (hT : T9 w) : Calls Tryd.prog 5 #[.string s] w fun e w' => e = .returned (.bool true) ∧ Below w.heap.size w w' := by
  by_cases h : 200 < s.size
  · exact blk_big s w hT hs h
  · obtain ⟨L, n, er, ha⟩ : ∃ L n er, allF s.data.toList = (L, n, er) := ⟨_, _, _, rfl⟩
    obtain ⟨T, f, hj⟩ : ∃ T f, joinF L = (T, f) := ⟨_, _, rfl⟩
    by_cases h0 : er = 0
    · subst h0
      by_cases h1 : f = 0
      · subst h1; exact blk_go s w hT (by omega) L n ha T hj
      · exact blk_no s w hT (by omega) L n 0 ha T f hj (.inr ⟨rfl, h1⟩)
    · exact blk_no s w hT (by omega) L n er ha T f hj (.inl h0)
end Go.Proofs.YtlmamidodahgmaaDoor.P9
