/- What the laws call: a text parsed, and the chapter's examples. -/
import Derived.Test.YtoobggcopoljcaaDoorEBack
import Derived.Test.YtoobggcopoljcaaDoorETextB
import Derived.Test.YtoobggcopoljcaaDoorLB
namespace Go.Proofs.YtoobggcopoljcaaDoor
open Go.ChangeShapes Go.WideShapes Go.ChangeAt Go.RowKit N4
set_option linter.unusedVariables false
set_option maxRecDepth 100000

def TB (w : World) : Prop := Tabs w ∧ Tab5 w ∧ Pow w
theorem TB.stays {w w' : World} (h : TB w) (hb : Below w.heap.size w w') : TB w' := ⟨h.1.stays hb, h.2.1.stays hb, h.2.2.stays hb⟩
def G5 (w0 w : World) : Prop := Below w0.heap.size w0 w ∧ TB w
theorem G5.start {w : World} (h : TB w) : G5 w w := ⟨Below.refl _ _, h⟩
theorem G5.step {w0 w w' : World} (h : G5 w0 w) (hb : Below w.heap.size w w') : G5 w0 w' := ⟨h.1.trans (hb.mono h.1.size), h.2.stays hb⟩

theorem Lex.small {l p n ts q e} (h : Lex l p n ts q e) : ∀ t ∈ ts, t.s.length ≤ l.length := by
  induction h with
  | done _ => intro t ht; simp at ht
  | many _ => intro t ht; simp at ht
  | err _ _ _ => intro t ht; simp at ht
  | @tok l p n m ts q e h1 h2 h3 h4 h5 ih =>
    intro t ht
    have hl : m.length = l.length - spanK 1 l := by rw [← h1, List.length_drop]
    rcases List.mem_cons.1 ht with rfl | ht
    · show (m.take (ext m).2).length ≤ _
      rw [List.length_take]; omega
    · have := ih t ht
      rw [List.length_drop] at this
      omega
theorem allF_small (s : List UInt8) : (∀ t ∈ (allF s).1, t.s.length ≤ maxLen) ∧ (allF s).1.length ≤ 200 := by
  by_cases hs : s.length ≤ 400
  · obtain ⟨ts, q, e, h, h2⟩ := allF_lex s hs
    rw [h2]
    show (∀ t ∈ (if e = 0 then ts else []), _) ∧ (if e = 0 then ts else []).length ≤ 200
    split
    · exact ⟨fun t ht => by have := h.small t ht; unfold maxLen; omega, by have := h.count (by omega); omega⟩
    · exact ⟨fun t ht => by simp at ht, by simp⟩
  · rw [allF_big s (by omega)]; exact ⟨fun t ht => by simp at ht, by simp⟩

/-- All, then Parse, of a text that has tokens. -/
theorem all_g (T : List UInt8) (hT : T.length ≤ maxLen) (L : List Tok) (q : Nat) (er : Int) (h : allF T = (L, q, er)) (w0 w : World) (hg : G5 w0 w) :
    Calls Tryd.prog 9 #[.string (bytesOf T)] w fun e w' => ∃ A c, e = .returned (.tuple #[.slice A L.length c, .int .i64 q, .int .i64 er]) ∧ Toks w' A L ∧ Below w.heap.size w w' ∧ G5 w0 w' := by
  refine (all_any (bytesOf T) w (by rw [bytesOf_size]; exact hT) hg.2.1 L q er (by rw [bytesOf_list]; exact h)).mono ?_
  rintro e w' ⟨A, c, rfl, ht, hgd⟩
  exact ⟨A, c, rfl, ht, hgd.1, hg.step hgd.1⟩
theorem parse_g (A : Option Addr) (c n : Nat) (L : List Tok) (i : Nat) (r : R) (hn : L.length = n) (hs : ∀ t ∈ L, t.s.length ≤ maxLen) (hv : chkF L = 0) (hi : i ≤ n) (hr : Rd (.line 0) (L.drop i) r) (w0 w : World) (hg : G5 w0 w) (ht : Toks w A L) :
    Calls Tryd.prog 10 #[.slice A n c, .int .i64 i] w fun e w' => PPost n r w e w' ∧ G5 w0 w' :=
  (parse_any A c n L i w hn ht hs hg.2.1 hg.2.2.1 hv hi r hr).mono fun e w' h => ⟨h, hg.step h.1⟩

def outT : R → List UInt8
  | .ok t _ => t.wr
  | .er _ _ => [63]
theorem allF_ats (s : List UInt8) : ∀ t ∈ (allF s).1, TkOk t := fun t ht => (chk_zero (allF_chk s)).2.2 t ht
theorem parsed_any (T : List UInt8) (hT : T.length ≤ 400) (L : List Tok) (q : Nat) (h : allF T = (L, q, 0)) (r : R) (hr : Rd (.line 0) L r) (w0 w : World) (hg : G5 w0 w) :
    Calls Tryd.prog 24 #[.string (bytesOf T)] w fun e w' => e = .returned (.tuple #[.string (bytesOf (outT r)), .int .i64 ((L.length - r.rest.length : Nat) : Int)]) ∧ Below w.heap.size w w' ∧ G5 w0 w' := by
  have hL : L = (allF T).1 := by rw [h]
  have hsm := allF_small T
  rw [← hL] at hsm
  have hck : chkF L = 0 := by rw [hL]; exact allF_chk T
  have hat : ∀ t ∈ L, TkOk t := by rw [hL]; exact allF_ats T
  have HA := Lib.hid (all_g T (by unfold maxLen; omega) L q 0 h w w (G5.start hg.2))
  have HP := Lib.hid (fun A c W hW ht => parse_g A c L.length L 0 r rfl hsm.1 hck (Nat.zero_le _) hr w W hW ht)
  have hn := hsm.2
  have HG := Lib.hid hg
  obtain ⟨j, hj⟩ : ∃ j, L.length - r.rest.length = j := ⟨_, rfl⟩
  rw [hj]
  cases r with
  | er v q2 =>
    have hv := errno_ne (hr.er_ne rfl)
    have HB := Lib.hid (fun (W : World) => textF_bad none 0 0 [] W rfl (Nat.zero_le _) (.inl rfl) 8 rfl (by decide))
    unfold PPost at HP
    simp only [show L.length - q2.length = j from hj] at HP
    generalize L.length = n at HA HP hn
    clear hr hsm hck hat hL h hg hj
    go_enter Tryd.func24, Tryd.ntmps24
    go_wp2_with (first
      | (go_at_call 9; refine HA.out.mono ?_; rintro e w2 ⟨A, c, rfl, ht, hb, hg2⟩; have HT := Lib.hid ht; have HG2 := Lib.hid hg2; clear ht hb hg2)
      | (go_at_call 10; refine (HP.out _ _ _ HG2.out HT.out).mono ?_; rintro e w3 ⟨⟨_, rfl⟩, hg3⟩; have HG3 := Lib.hid hg3; clear hg3)
      | (go_at_call 11; refine (HB.out _).mono ?_; rintro e w4 ⟨rfl, hb4⟩; have HG4 := Lib.hid (HG3.out.step hb4); clear hb4))
    go_ret2
    exact ⟨rfl, HG4.out.1, HG.out.step HG4.out.1⟩
  | ok t q2 =>
    have hgd := hr.good hat trivial rfl
    have hbg := hr.big trivial rfl
    have HX := Lib.hid (fun A c (W : World) (hW : TB W) (hl : Lies W A (ndCells t.flat)) => textF_ok A c t.sz t W rfl hl hgd.1 hgd.2 hbg hW.2.1 hW.2.2)
    unfold PPost at HP
    simp only [show L.length - q2.length = j from hj] at HP
    generalize L.length = n at HA HP hn
    show Calls _ _ _ _ fun e w' => e = .returned (.tuple #[.string (bytesOf t.wr), .int .i64 (j : Int)]) ∧ _
    generalize t.wr = TT at HX ⊢
    clear hr hsm hck hat hL h hg hj hgd hbg
    go_enter Tryd.func24, Tryd.ntmps24
    go_wp2_with (first
      | (go_at_call 9; refine HA.out.mono ?_; rintro e w2 ⟨A, c, rfl, ht, hb, hg2⟩; have HT := Lib.hid ht; have HG2 := Lib.hid hg2; clear ht hb hg2)
      | (go_at_call 10; refine (HP.out _ _ _ HG2.out HT.out).mono ?_; rintro e w3 ⟨⟨_, A3, c3, rfl, hl3⟩, hg3⟩; have HG3 := Lib.hid hg3; have HL3 := Lib.hid hl3; clear hg3 hl3)
      | (go_at_call 11; refine (HX.out _ _ _ HG3.out.2 HL3.out).mono ?_; rintro e w4 ⟨rfl, hb4⟩; have HG4 := Lib.hid (HG3.out.step hb4); clear hb4))
    go_ret2
    exact ⟨rfl, HG4.out.1, HG.out.step HG4.out.1⟩

/-! ### texts that are read -/
def prsF (T : List UInt8) : Option R := rdF 4000 (.line 0) (allF T).1
def readF (T W : List UInt8) : Bool := decide (T.length ≤ 400) && decide ((allF T).2.2 = 0) && (match prsF T with | some (.ok t []) => decide (t.wr = W) | _ => false)
theorem readF_ok {T W : List UInt8} (h : readF T W = true) : T.length ≤ 400 ∧ ∃ L q t, allF T = (L, q, 0) ∧ Rd (.line 0) L (.ok t []) ∧ t.wr = W := by
  simp only [readF, Bool.and_eq_true, decide_eq_true_eq] at h
  obtain ⟨⟨h1, h2⟩, h3⟩ := h
  refine ⟨h1, ?_⟩
  split at h3
  · rename_i t hp
    refine ⟨(allF T).1, (allF T).2.1, t, ?_, rdF_Rd _ _ _ _ (by exact trivial) hp, by simpa using h3⟩
    rw [← h2]
  · cases h3
theorem reads_any (T W : List UInt8) (h : readF T W = true) (w0 w : World) (hg : G5 w0 w) :
    Calls Tryd.prog 8 #[.string (bytesOf T), .string (bytesOf W)] w fun e w' => e = .returned (.bool true) ∧ G5 w0 w' := by
  obtain ⟨h1, L, q, t, h2, hr, rfl⟩ := readF_ok h
  have HA := Lib.hid (all_g T (by unfold maxLen; omega) L q 0 h2 w w (G5.start hg.2))
  have HP := Lib.hid (fun W hW => parsed_any T h1 L q h2 _ hr w W hW)
  have hn : L.length ≤ 200 := by have := (allF_small T).2; rw [h2] at this; exact this
  have hbq := beq_bytes (rfl : t.wr = t.wr)
  simp only [show outT (.ok t []) = t.wr from rfl, show (R.ok t []).rest = [] from rfl, List.length_nil, Nat.sub_zero] at HP
  have HG := Lib.hid hg
  generalize L.length = n at HA HP hn
  generalize t.wr = TT at HP hbq
  clear hr h2 h hg h1
  go_enter Tryd.func8, Tryd.ntmps8
  go_wp2_with (first
    | (go_at_call 9; refine HA.out.mono ?_; rintro e w2 ⟨A, c, rfl, ht, hb, hg2⟩; have HG2 := Lib.hid hg2; clear ht hb hg2)
    | (go_at_call 24; refine (HP.out _ HG2.out).mono ?_; rintro e w3 ⟨rfl, hb, hg3⟩; have HG3 := Lib.hid hg3; clear hg3 hb))
  go_ret
  exact ⟨rfl, HG.out.step HG3.out.1⟩
theorem rd_0 : readF [118, 32, 43, 32, 50, 32, 42, 32, 107] [118, 32, 43, 32, 40, 50, 32, 42, 32, 107, 41] = true := by decide +kernel
theorem rd_1 : readF [40, 118, 32, 43, 32, 50, 41, 32, 42, 32, 107] [40, 118, 32, 43, 32, 50, 41, 32, 42, 32, 107] = true := by decide +kernel
theorem rd_2 : readF [110, 111, 116, 32, 118, 32, 61, 32, 49, 32, 97, 110, 100, 32, 107, 32, 60, 32, 50] [40, 110, 111, 116, 32, 40, 118, 32, 61, 32, 49, 41, 41, 32, 97, 110, 100, 32, 40, 107, 32, 60, 32, 50, 41] = true := by decide +kernel
theorem ps_0 : ∃ L q s, allF [118, 32, 43, 32, 41] = (L, q, 0) ∧ Rd (.line 0) L (.er 12 s) ∧ L.length - s.length = 2 := by
  refine ⟨(allF [118, 32, 43, 32, 41]).1, (allF [118, 32, 43, 32, 41]).2.1, ((allF [118, 32, 43, 32, 41]).1).drop 2, by decide +kernel, rdF_Rd 4000 _ _ _ (by exact trivial) (by decide +kernel), by decide +kernel⟩
theorem ps_1 : ∃ L q t s, allF [118, 32, 60, 32, 49, 32, 60, 32, 50] = (L, q, 0) ∧ Rd (.line 0) L (.ok t s) ∧ t.wr = [118, 32, 60, 32, 49] ∧ L.length - s.length = 3 := by
  refine ⟨(allF [118, 32, 60, 32, 49, 32, 60, 32, 50]).1, (allF [118, 32, 60, 32, 49, 32, 60, 32, 50]).2.1, .bin 12 2 (.leaf 4 0 0) (.leaf 1 1 4), ((allF [118, 32, 60, 32, 49, 32, 60, 32, 50]).1).drop 3, by decide +kernel, rdF_Rd 4000 _ _ _ (by exact trivial) (by decide +kernel), by decide +kernel, by decide +kernel⟩
theorem pr_0 (w0 w : World) (hg : G5 w0 w) : Calls Tryd.prog 24 #[.string ⟨#[118, 32, 43, 32, 41]⟩] w fun e w' => e = .returned (.tuple #[.string ⟨#[63]⟩, .int .i64 2]) ∧ Below w.heap.size w w' ∧ G5 w0 w' := by
  obtain ⟨L, q, s, h, hr, hl⟩ := ps_0
  have := parsed_any _ (by decide) L q h _ hr w0 w hg
  rw [show L.length - (R.er 12 s).rest.length = 2 from hl] at this
  exact this
theorem pr_1 (w0 w : World) (hg : G5 w0 w) : Calls Tryd.prog 24 #[.string ⟨#[118, 32, 60, 32, 49, 32, 60, 32, 50]⟩] w fun e w' => e = .returned (.tuple #[.string ⟨#[118, 32, 60, 32, 49]⟩, .int .i64 3]) ∧ Below w.heap.size w w' ∧ G5 w0 w' := by
  obtain ⟨L, q, t, s, h, hr, ht, hl⟩ := ps_1
  have := parsed_any _ (by decide) L q h _ hr w0 w hg
  rw [show L.length - (R.ok t s).rest.length = 3 from hl, show outT (.ok t s) = t.wr from rfl, ht] at this
  exact this
theorem rr_0 (w0 w : World) (hg : G5 w0 w) : Calls Tryd.prog 8 #[.string ⟨#[118, 32, 43, 32, 50, 32, 42, 32, 107]⟩, .string ⟨#[118, 32, 43, 32, 40, 50, 32, 42, 32, 107, 41]⟩] w fun e w' => e = .returned (.bool true) ∧ G5 w0 w' := reads_any _ _ rd_0 w0 w hg
theorem rr_1 (w0 w : World) (hg : G5 w0 w) : Calls Tryd.prog 8 #[.string ⟨#[40, 118, 32, 43, 32, 50, 41, 32, 42, 32, 107]⟩, .string ⟨#[40, 118, 32, 43, 32, 50, 41, 32, 42, 32, 107]⟩] w fun e w' => e = .returned (.bool true) ∧ G5 w0 w' := reads_any _ _ rd_1 w0 w hg
theorem rr_2 (w0 w : World) (hg : G5 w0 w) : Calls Tryd.prog 8 #[.string ⟨#[110, 111, 116, 32, 118, 32, 61, 32, 49, 32, 97, 110, 100, 32, 107, 32, 60, 32, 50]⟩, .string ⟨#[40, 110, 111, 116, 32, 40, 118, 32, 61, 32, 49, 41, 41, 32, 97, 110, 100, 32, 40, 107, 32, 60, 32, 50, 41]⟩] w fun e w' => e = .returned (.bool true) ∧ G5 w0 w' := reads_any _ _ rd_2 w0 w hg
theorem alive_g (w0 w : World) (hg : G5 w0 w) : Calls Tryd.prog 12 #[] w fun e w' => e = .returned (.bool true) ∧ G5 w0 w' := by
  have HG := Lib.hid hg
  clear hg
  go_enter Tryd.func12, Tryd.ntmps12
  go_wp2_with (first
    | (go_at_call 24; with_reducible refine (pr_0 w0 _ HG.out).mono ?_; rintro e w2 ⟨rfl, _, hg2⟩; have HG2 := Lib.hid hg2; clear hg2)
    | (go_at_call 24; with_reducible refine (pr_1 w0 _ HG2.out).mono ?_; rintro e w3 ⟨rfl, _, hg3⟩; have HG3 := Lib.hid hg3; clear hg3)
    | (go_at_call 8; with_reducible refine (rr_0 w0 _ HG3.out).mono ?_; rintro e w4 ⟨rfl, hg4⟩; have HG4 := Lib.hid hg4; clear hg4)
    | (go_at_call 8; with_reducible refine (rr_1 w0 _ HG4.out).mono ?_; rintro e w5 ⟨rfl, hg5⟩; have HG5 := Lib.hid hg5; clear hg5)
    | (go_at_call 8; with_reducible refine (rr_2 w0 _ HG5.out).mono ?_; rintro e w6 ⟨rfl, hg6⟩; have HG6 := Lib.hid hg6; clear hg6))
  go_ret
  exact ⟨rfl, HG6.out⟩
end Go.Proofs.YtoobggcopoljcaaDoor
