/- ParserParts: the main way. -/
import Derived.Test.YtlmamidodahgmaaGreatDoorPPar2
namespace Go.Proofs.YtlmamidodahgmaaGreatDoor.P9
open Go.ChangeShapes Go.WideShapes Go.ChangeAt Go.RowKit N4 Q8
set_option linter.unusedVariables false
set_option linter.unusedSimpArgs false
set_option maxRecDepth 100000

/-- What the walk holds behind All. -/
def PS (w : World) (b : Nat) (q1 : Qy) (A1 : Option Addr) (c1 : Nat) (S1 : Option Addr) (d1 : Nat) (B1 : Option Addr) (e1 : Nat) (AA : Option Addr) (K : List Tok) (a0 a1 a2 a3 a4 a5 a6 a7 a8 a9 : Value) (W : World) : Prop :=
  G9 w W ∧ Toks W AA K ∧ QA W A1 q1.L.length S1 q1.l.length B1 q1.M.length q1.L q1.M q1.l ∧ Bx b (.int .u8 q1.g) (.slice A1 q1.L.length c1) (.slice S1 q1.l.length d1) (.bool q1.j) (.slice B1 q1.M.length e1) (.int .u8 q1.k) (.int .i64 q1.s) (.int .i64 q1.v) (.bool q1.y) (.int .u8 q1.t) W ∧ Bx w.heap.size a0 a1 a2 a3 a4 a5 a6 a7 a8 a9 W
theorem PS.step {w : World} {b : Nat} {q1 : Qy} {A1 : Option Addr} {c1 : Nat} {S1 : Option Addr} {d1 : Nat} {B1 : Option Addr} {e1 : Nat} {AA : Option Addr} {K : List Tok} {a0 a1 a2 a3 a4 a5 a6 a7 a8 a9 : Value} {W W' : World} (h : PS w b q1 A1 c1 S1 d1 B1 e1 AA K a0 a1 a2 a3 a4 a5 a6 a7 a8 a9 W) (hb : Below W.heap.size W W') : PS w b q1 A1 c1 S1 d1 B1 e1 AA K a0 a1 a2 a3 a4 a5 a6 a7 a8 a9 W' :=
  ⟨h.1.step hb, h.2.1.below hb, h.2.2.1.step hb, h.2.2.2.1.step hb, h.2.2.2.2.step hb⟩
/-- A part of tokens parsed. -/
theorem parse_p {w W : World} {AA : Option Addr} {K : List Tok} {cc n : Nat} (hg : G9 w W) (ht : Toks W AA K) (hn : K.length = n) (hs : ∀ t ∈ K, t.s.length ≤ maxLen) (hv : _root_.Go.Proofs.YtlmamidodahgmaaGreatDoor.chkF K = 0) {i : Nat} (hi : i ≤ n) {N : List Nd} (hr : ∃ t p, Rd (.line 0) (K.drop i) (.ok t p) ∧ t.flat = N) :
    Calls Tryz.prog 16 #[.slice AA n cc, .int .i64 (i : Int)] W fun ee w' => ∃ (A' : Option Addr) (c' z : Nat), ee = .returned (.tuple #[.slice A' N.length (N.length + c'), .int .i64 (z : Int), .int .i64 0]) ∧ Lies w' A' (ndCells N) ∧ Below W.heap.size W w' := by
  obtain ⟨t, p, h1, rfl⟩ := hr
  refine (parse_any AA cc n K i W hn ht hs hg.2.1 hg.2.2.1 hv hi _ h1).mono ?_
  rintro ee w' ⟨hb, A', c', rfl, hl⟩
  rw [t.flat_length]
  exact ⟨A', c', n - p.length, rfl, hl, hb⟩
set_option maxHeartbeats 16000000 in
theorem prt_go (g : Int) (A : Option Addr) (c : Nat) (L : List Nd) (S : Option Addr) (d : Nat) (l : List Int) (j : Bool) (B : Option Addr) (e : Nat) (M : List Nd) (k s v : Int) (y : Bool) (t : Int) (w : World) (h : QO w A c L S d l B e M s v t) (hT : T9 w) (hp : Pow w) (hgr : greatQ L.length M.length l.length = false) (hck : Q8.chkF ⟨g, L, l, j, M, k, s, v, y, t⟩ = 0) (ta tm : Tr) (htr : Trees ⟨g, L, l, j, M, k, s, v, y, t⟩ ta tm) (T : List UInt8) (hTx : textQ ⟨g, L, l, j, M, k, s, v, y, t⟩ ta tm = T) (hbig : T.length ≤ 400) (K : List Tok) (q1 : Qy) (hall : allF T = (K, T.length, 0)) (hpf : parF T = (q1, (T.length : Int), 0)) (hal : alQ q1 ⟨g, L, l, j, M, k, s, v, y, t⟩) (h5 : 5 ≤ K.length)
    (hag : q1.g ≠ 1 → ∃ t p, Rd (.line 0) (K.drop 3) (.ok t p) ∧ t.flat = q1.L) (hwr : ∀ i x, K[i]? = some x → x.s = k_where → ∃ t p, Rd (.line 0) (K.drop (i + 1)) (.ok t p) ∧ t.flat = q1.M) : Calls Tryz.prog 4 #[.agg #[.int .u8 g, .slice A L.length c, .slice S l.length d, .bool j, .slice B M.length e, .int .u8 k, .int .i64 s, .int .i64 v, .bool y, .int .u8 t]] w fun ee w' => ee = .returned (.bool true) ∧ Below w.heap.size w w' := by
  have HAL := Lib.hid (fun W (hg : G9 w W) => alive_c w W hg)
  have HG := Lib.hid (G9.start hT)
  have hqv : QV w ⟨g, L, l, j, M, k, s, v, y, t⟩ (.agg #[.int .u8 g, .slice A L.length c, .slice S l.length d, .bool j, .slice B M.length e, .int .u8 k, .int .i64 s, .int .i64 v, .bool y, .int .u8 t]) := qo_qv h
  have HQ := Lib.hid (fun (W : World) (hb : Below w.heap.size w W) => hqv.step hb)
  have HGR := Lib.hid (fun (W : World) (hb : Below w.heap.size w W) => show Calls Tryz.prog 5 #[.agg #[.int .u8 g, .slice A L.length c, .slice S l.length d, .bool j, .slice B M.length e, .int .u8 k, .int .i64 s, .int .i64 v, .bool y, .int .u8 t]] W fun ee w' => ee = .returned (.bool false) ∧ Below W.heap.size W w' from by have := rgr_v (hqv.step hb); rwa [show greatQ L.length M.length l.length = false from hgr] at this)
  have HCK := Lib.hid (fun (W : World) (hb : Below w.heap.size w W) => rchk_v (hqv.step hb))
  obtain ⟨ck, hck0⟩ : ∃ ck, Q8.chkF ⟨g, L, l, j, M, k, s, v, y, t⟩ = ck := ⟨_, rfl⟩
  rw [hck] at hck0
  subst hck0
  rw [hck] at HCK
  have HWR := Lib.hid (fun (W : World) (hb : Below w.heap.size w W) => show Calls Tryz.prog 8 #[.agg #[.int .u8 g, .slice A L.length c, .slice S l.length d, .bool j, .slice B M.length e, .int .u8 k, .int .i64 s, .int .i64 v, .bool y, .int .u8 t]] W fun ee w' => ee = .returned (.tuple #[.string (bytesOf T), .bool true]) ∧ Below W.heap.size W w' from by
    have := written_c ⟨g, L, l, j, M, k, s, v, y, t⟩ ta tm htr _ w W (HG.out.step hb) hp (hqv.step hb)
    rwa [hTx] at this)
  have htl : T.length ≤ 6000 := by rw [← hTx]; exact text_len htr
  have hck1 := parF_chk (N := T) (by rw [hpf])
  rw [hpf] at hck1
  have hm1 := small_chk hck1
  have hm2 := small_chk hck
  have hkc := allF_chk T
  have hkl := lex_toks (N := T) (by unfold maxLen; omega)
  rw [hall] at hkc hkl
  simp only at hkc hkl hck1
  have HAA := Lib.hid (fun W (hg : G9 w W) => all_any (bytesOf T) W (by rw [bytesOf_size]; unfold maxLen; omega) hg.2.1 K T.length 0 (by rw [show (bytesOf T).data.toList = T by simp [bytesOf]]; exact hall))
  have HPA := Lib.hid (fun W (hg : G9 w W) => parse_v T (bytesOf T) rfl (by unfold maxLen; omega) w W hg)
  rw [hpf] at HPA
  have hk200 := (chk_zero hkc).1
  obtain ⟨n, hn⟩ : ∃ n, K.length = n := ⟨_, rfl⟩
  have HTG := Lib.hid (fun (AA : Option Addr) (cc : Nat) (W : World) (ht : Toks W AA K) => show Calls Tryz.prog 15 #[.slice AA n cc] W fun ee w' => ee = .returned (.bool false) ∧ W = w' from by
    have := _root_.Go.Proofs.YtlmamidodahgmaaGreatDoor.great_any AA cc K W (by unfold maxLen; omega) ht false (great_no hall)
    rwa [hn] at this)
  have HEX := Lib.hid (fun (AA : Option Addr) (cc i : Nat) (W : World) (hg : G9 w W) (ht : Toks W AA K) (hi : i ≤ n) (N : List Nd) (hr : ∃ t p, Rd (.line 0) (K.drop i) (.ok t p) ∧ t.flat = N) => parse_p (cc := cc) hg ht hn (fun t ht => (hkl t ht).2) hkc hi hr)
  have HAG := Lib.hid hag
  have HWH := Lib.hid hwr
  have HNN := Lib.hid hn
  have HEQ := Lib.hid (fun (X Y : Option Addr) (cx cy : Nat) (N : List Nd) (hN : N.length ≤ 100) (W : World) (h1 : Lies W X (ndCells N)) (h2 : Lies W Y (ndCells N)) => requal_any X Y N.length N.length cx cy N N W rfl rfl (by omega) (by omega) h1 h2 true (decide_eq_true rfl))
  have HSL := Lib.hid hm1
  have hgg : q1.g = g := hal.1
  have HSM := Lib.hid (fun (hg1 : g ≠ 1) (X : Option Addr) (cx : Nat) (W : World) (h1 : Lies W X (ndCells q1.L)) (h2 : Lies W A (ndCells L)) => same_ok X A q1.L.length L.length cx c q1.L L W rfl rfl h1 h2
    (by have := ((Q8.chk_zero q1).1 hck1).2.1; unfold argE at this; rw [hgg, if_neg hg1] at this; exact this) (by have := ((Q8.chk_zero ⟨g, L, l, j, M, k, s, v, y, t⟩).1 hck).2.1; unfold argE at this; rw [if_neg hg1] at this; exact this) true (decide_eq_true hal.2.1))
  have HQA := Lib.hid (fun (W : World) (hb : Below w.heap.size w W) => (h.1.1.1.below hb : Lies W A (ndCells L)))
  unfold AllPost at HAA
  rw [hn] at HAA
  have hn4 : ¬ ((n : Int) < 4) := by omega
  have hn3 : 3 ≤ n := by omega
  have hn200 : n ≤ 200 := by omega
  have hsz : ¬ ((400 : Int) < (bytesOf T).size) := by rw [bytesOf_size]; omega
  have HGE := Lib.hid hgg
  clear hqv h hT hgr hck htr hTx hp hbig hpf hall htl hal h5 hag hwr hck1 hm1 hm2 hkc hkl hk200 hn hgg
  generalize T.length = tl at *
  generalize bytesOf T = ST at *
  go_enter Tryz.func4, Tryz.ntmps4
  go_upto_if 81 with (first
      | (go_at_call 5; refine (HGR.out _ ((Below.refl _ _).alloc (Nat.le_refl _) _)).mono ?_; rintro ee w2 ⟨rfl, hb⟩; have HG2 := Lib.hid ((HG.out.step ((Below.refl _ _).alloc (Nat.le_refl _) _)).step hb); have HX2 := Lib.hid ((Bx.new w (.int .u8 g) (.slice A L.length c) (.slice S l.length d) (.bool j) (.slice B M.length e) (.int .u8 k) (.int .i64 s) (.int .i64 v) (.bool y) (.int .u8 t) 27).step hb); obtain ⟨x1l, x10, x11, x12, x13, x14, x15, x16, x17, x18, x19⟩ := HX2.out; clear hb)
      | (go_at_call 6; refine (HCK.out _ HG2.out.1).mono ?_; rintro ee w3 ⟨rfl, hb⟩; have HG3 := Lib.hid (HG2.out.step hb); have HX3 := Lib.hid (HX2.out.step hb); clear hb x1l x10 x11 x12 x13 x14 x15 x16 x17 x18 x19; obtain ⟨x1l, x10, x11, x12, x13, x14, x15, x16, x17, x18, x19⟩ := HX3.out)
      | (go_at_call 8; refine (HWR.out _ HG3.out.1).mono ?_; rintro ee w4 ⟨rfl, hb⟩; have HG4 := Lib.hid (HG3.out.step hb); have HX4 := Lib.hid (HX3.out.step hb); clear hb x1l x10 x11 x12 x13 x14 x15 x16 x17 x18 x19; obtain ⟨x1l, x10, x11, x12, x13, x14, x15, x16, x17, x18, x19⟩ := HX4.out)
      | (go_at_call 11; refine (HPA.out _ HG4.out).mono ?_; rintro ee u1 ⟨vv, rfl, hqq, hb⟩; obtain ⟨A1, c1, S1, d1, B1, e1, rfl, hqa, hsl⟩ := hqq; have HU := Lib.hid ((Below.refl u1.heap.size u1).alloc (Nat.le_refl _) (.cells #[.int .u8 q1.g, .slice A1 q1.L.length c1, .slice S1 q1.l.length d1, .bool q1.j, .slice B1 q1.M.length e1, .int .u8 q1.k, .int .i64 q1.s, .int .i64 q1.v, .bool q1.y, .int .u8 q1.t] 27)); have HG5 := Lib.hid ((HG4.out.step hb).step HU.out); have HQ5 := Lib.hid (hqa.step HU.out); have HX5 := Lib.hid ((HX4.out.step hb).step HU.out); have HY5 := Lib.hid (Bx.new u1 (.int .u8 q1.g) (.slice A1 q1.L.length c1) (.slice S1 q1.l.length d1) (.bool q1.j) (.slice B1 q1.M.length e1) (.int .u8 q1.k) (.int .i64 q1.s) (.int .i64 q1.v) (.bool q1.y) (.int .u8 q1.t) 27); clear hb hqa hsl HPA; clear x1l x10 x11 x12 x13 x14 x15 x16 x17 x18 x19)
      | (go_at_call 10; refine (HAA.out _ HG5.out).mono ?_; rintro ee w6 ⟨AA, cc, rfl, hl, hg, hsl⟩; have HS6 := Lib.hid (show PS w u1.heap.size q1 A1 c1 S1 d1 B1 e1 AA K (.int .u8 g) (.slice A L.length c) (.slice S l.length d) (.bool j) (.slice B M.length e) (.int .u8 k) (.int .i64 s) (.int .i64 v) (.bool y) (.int .u8 t) w6 from ⟨HG5.out.step hg.1, hl, HQ5.out.step hg.1, HY5.out.step hg.1, HX5.out.step hg.1⟩); clear hl hg; obtain ⟨x1l, x10, x11, x12, x13, x14, x15, x16, x17, x18, x19⟩ := HS6.out.2.2.2.2; obtain ⟨y1l, y10, y11, y12, y13, y14, y15, y16, y17, y18, y19⟩ := HS6.out.2.2.2.1)
      | (go_at_call 15; refine (HTG.out _ _ _ HS6.out.2.1).mono ?_; rintro ee w7 ⟨rfl, rfl⟩))
  go_cut [11] (fun s11 W => Hid (PS w u1.heap.size q1 A1 c1 S1 d1 B1 e1 AA K (.int .u8 g) (.slice A L.length c) (.slice S l.length d) (.bool j) (.slice B M.length e) (.int .u8 k) (.int .i64 s) (.int .i64 v) (.bool y) (.int .u8 t) W))
  case first =>
    by_cases hg1 : g = 1
    · subst hg1
      go_wp2_with fail
      go_meet
      exact HS6
    · have hgb : (g != 1) = true := by simp [hg1]
      have HAG1 := Lib.hid (HAG.out (by rw [HGE.out]; exact hg1))
      have hL100 := Lib.hid (show q1.L.length ≤ 100 by have := HSL.out.L; omega)
      have HSM1 := Lib.hid (HSM.out hg1)
      clear hg1
      go_wp2_with (first
        | (go_at_call 16; refine (HEX.out _ _ 3 _ HS6.out.1 HS6.out.2.1 hn3 _ HAG1.out).mono ?_; rintro ee w8 ⟨A8, c8, z8, rfl, hl8, hb⟩; have HS8 := Lib.hid (HS6.out.step hb); have HL8 := Lib.hid hl8; clear hb hl8 x1l x10 x11 x12 x13 x14 x15 x16 x17 x18 x19 y1l y10 y11 y12 y13 y14 y15 y16 y17 y18 y19; obtain ⟨x1l, x10, x11, x12, x13, x14, x15, x16, x17, x18, x19⟩ := HS8.out.2.2.2.2; obtain ⟨y1l, y10, y11, y12, y13, y14, y15, y16, y17, y18, y19⟩ := HS8.out.2.2.2.1)
        | (go_at_call 17; refine (HEQ.out _ _ _ _ _ hL100.out _ HL8.out HS8.out.2.2.1.1.1).mono ?_; rintro ee w9 ⟨rfl, hb⟩; have HS9 := Lib.hid (HS8.out.step hb); have HL9 := Lib.hid (HL8.out.below hb); clear hb x1l x10 x11 x12 x13 x14 x15 x16 x17 x18 x19 y1l y10 y11 y12 y13 y14 y15 y16 y17 y18 y19; obtain ⟨x1l, x10, x11, x12, x13, x14, x15, x16, x17, x18, x19⟩ := HS9.out.2.2.2.2; obtain ⟨y1l, y10, y11, y12, y13, y14, y15, y16, y17, y18, y19⟩ := HS9.out.2.2.2.1)
        | (go_at_call 18; refine (HSM1.out _ _ _ HL9.out (HQA.out _ HS9.out.1.1)).mono ?_; rintro ee w10 ⟨rfl, hb⟩; have HS10 := Lib.hid (HS9.out.step hb); clear hb))
      go_meet
      exact HS10
  case rest =>
    have HS7 := hcut
    clear HAG HSM HTG HQA HAA HWR HGR HCK HQ HS6
    go_wp2_with fail
    go_loopw [16] (fun i wr => ∃ kk : Nat, kk ≤ n ∧ i = .int .i64 kk ∧ Hid (PS w u1.heap.size q1 A1 c1 S1 d1 B1 e1 AA K (.int .u8 g) (.slice A L.length c) (.slice S l.length d) (.bool j) (.slice B M.length e) (.int .u8 k) (.int .i64 s) (.int .i64 v) (.bool y) (.int .u8 t) wr)) (fun i _ => n - (intOf i).toNat)
    case atStart => exact ⟨0, Nat.zero_le _, rfl, HS7⟩
    case round =>
      obtain ⟨kk, hkk, rfl, HR⟩ := hrel
      by_cases hlt : kk < n
      · obtain ⟨ad, tok, hAA, hcc, htk⟩ := HR.out.2.1.at_ kk (by rw [HNN.out]; exact hlt)
        have HWk := Lib.hid (HWH.out kk tok htk)
        have HHR := Lib.hid (show G9 w _ ∧ Toks _ AA K from ⟨HR.out.1, HR.out.2.1⟩)
        subst hAA
        obtain ⟨cc1, cc2, cc3⟩ := hcc
        obtain ⟨tk, ts, ta⟩ := tok
        simp only at cc1 cc2 HWk
        have j1 : (0 : Int) ≤ kk := by omega
        have j2 : (kk : Int) < (n : Int) := by omega
        have hk1n : kk + 1 ≤ n := hlt
        obtain ⟨x1l, x10, x11, x12, x13, x14, x15, x16, x17, x18, x19⟩ := HR.out.2.2.2.2
        obtain ⟨y1l, y10, y11, y12, y13, y14, y15, y16, y17, y18, y19⟩ := HR.out.2.2.2.1
        clear htk cc3 hkk hlt
        by_cases hk2 : tk = 2
        · subst hk2
          by_cases hw : ts = k_where
          · have HW1 := Lib.hid (HWk.out hw)
            have hsb : ((bytesOf ts).toList == [119, 104, 101, 114, 101]) = true := by rw [bytesOf_toList, hw]; rfl
            have HEX1 := Lib.hid (fun W hg ht => HEX.out (some ad) cc (kk + 1) W hg ht hk1n q1.M HW1.out)
            rw [show ((kk + 1 : Nat) : Int) = (kk : Int) + 1 by omega] at HEX1
            have hM100 := Lib.hid (show q1.M.length ≤ 100 by have := HSL.out.M; omega)
            clear hw HWk HW1
            go_wp2_with (first
              | (go_at_call 16; refine (HEX1.out _ HHR.out.1 HHR.out.2).mono ?_; rintro ee w8 ⟨A8, c8, z8, rfl, hl8, hb⟩; have HS8 := Lib.hid (PS.step HR.out hb); have HL8 := Lib.hid hl8; clear hb hl8 x1l x10 x11 x12 x13 x14 x15 x16 x17 x18 x19 y1l y10 y11 y12 y13 y14 y15 y16 y17 y18 y19; obtain ⟨x1l, x10, x11, x12, x13, x14, x15, x16, x17, x18, x19⟩ := HS8.out.2.2.2.2; obtain ⟨y1l, y10, y11, y12, y13, y14, y15, y16, y17, y18, y19⟩ := HS8.out.2.2.2.1)
              | (go_at_call 17; refine (HEQ.out _ _ _ _ _ hM100.out _ HL8.out HS8.out.2.2.1.2.2.1).mono ?_; rintro ee w9 ⟨rfl, hb⟩; have HS9 := Lib.hid (HS8.out.step hb); clear hb))
            go_roundw
            case rel => exact ⟨kk + 1, hk1n, by go_num, HS9⟩
            case measure => simp [intOf]; omega
          · have hsb : ((bytesOf ts).toList == [119, 104, 101, 114, 101]) = false := by rw [bytesOf_toList]; exact beq_eq_false_iff_ne.2 hw
            clear hw HWk
            go_wp2_with fail
            go_roundw
            case rel => exact ⟨kk + 1, hk1n, by go_num, HR⟩
            case measure => simp [intOf]; omega
        · have hkb : (tk == 2) = false := by simp [hk2]
          clear HWk
          go_wp2_with fail
          go_roundw
          case rel => exact ⟨kk + 1, hk1n, by go_num, HR⟩
          case measure => simp [intOf]; omega
      · obtain rfl : n = kk := by omega
        go_wp2_with (go_at_call 7; refine (HAL.out _ HR.out.1).mono ?_; rintro ee wz ⟨rfl, hg⟩; have HGZ := Lib.hid hg; clear hg)
        go_ret
        exact ⟨rfl, HGZ.out.1⟩
end Go.Proofs.YtlmamidodahgmaaGreatDoor.P9
