/- ExprsBack: what is written with brackets is read. -/
import Derived.Test.YtoobggcopoljcaaDoorEAlive
import Derived.Test.YtoobggcopoljcaaDoorNC
import Derived.Test.YtoobggcopoljcaaDoorNB
namespace Go.Proofs.YtoobggcopoljcaaDoor
open Go.ChangeShapes Go.WideShapes Go.ChangeAt Go.RowKit N4
set_option linter.unusedVariables false
set_option maxRecDepth 100000

theorem Tr.big_of (t : Tr) (h : ∀ x ∈ t.flat, x.n ≤ 9223372036854775807) : t.big := by
  have sh : ∀ (d : Int) (x : Nd), (shift d x).n = x.n := fun d x => rfl
  induction t with
  | leaf k n p => exact h ⟨k, n, 0, 0, p⟩ (by simp [Tr.flat, made0])
  | un k p a ih =>
    refine ih fun x hx => ?_
    have := h (shift 0 x) (by show shift 0 x ∈ made1 k 0 p a.flat; unfold made1; simp; exact .inl ⟨x, hx, rfl⟩)
    exact this
  | bin k p a b iha ihb =>
    refine ⟨iha fun x hx => ?_, ihb fun x hx => ?_⟩
    · have := h (shift 0 x) (by show shift 0 x ∈ made2 k 0 p a.flat b.flat; unfold made2; simp; exact .inl ⟨x, hx, rfl⟩)
      exact this
    · have := h (shift a.flat.length x) (by show shift a.flat.length x ∈ made2 k 0 p a.flat b.flat; unfold made2; simp; exact .inr (.inl ⟨x, hx, rfl⟩))
      exact this
theorem back_great (A : Option Addr) (c n : Nat) (w : World) (hg : G5 w w) (h : 70 < n) :
    Calls Tryd.prog 4 #[.slice A n c] w fun e w' => e = .returned (.bool true) ∧ G5 w w' := by
  have HG := Lib.hid hg
  have HA := Lib.hid (fun W => N4.great_any A n c W true (by simpa using h))
  clear hg h
  go_enter Tryd.func4, Tryd.ntmps4
  go_wp2_with (first
    | (go_at_call 13; refine (HA.out _).mono ?_; rintro e w' ⟨rfl, rfl⟩)
    | (go_at_call 12; refine (alive_g w _ HG.out).mono ?_; rintro e w' ⟨rfl, hg⟩; have HG2 := Lib.hid hg; clear hg))
  go_ret
  exact ⟨rfl, HG2.out⟩
theorem back_bad (A : Option Addr) (c n : Nat) (L : List Nd) (w : World) (hg : G5 w w) (h : ¬ 70 < n) (hn : L.length = n) (ht : Lies w A (ndCells L)) (v : Int) (hv : checkF L = v) (h0 : v ≠ 0) :
    Calls Tryd.prog 4 #[.slice A n c] w fun e w' => e = .returned (.bool true) ∧ G5 w w' := by
  have HG := Lib.hid hg
  have HA := Lib.hid (fun W => N4.great_any A n c W false (by simpa using h))
  have HC := Lib.hid (rcheck_any A c n L w hn (by unfold maxLen; omega) ht v hv)
  have hvb := errno_ne h0
  clear hg h ht hv h0 hn
  go_enter Tryd.func4, Tryd.ntmps4
  go_wp2_with (first
    | (go_at_call 13; refine (HA.out _).mono ?_; rintro e w' ⟨rfl, rfl⟩)
    | (go_at_call 14; refine HC.out.mono ?_; rintro e w2 ⟨rfl, hb⟩; have HG1 := Lib.hid (HG.out.step hb); clear hb)
    | (go_at_call 12; refine (alive_g _ _ HG1.out).mono ?_; rintro e w' ⟨rfl, hg⟩; have HG2 := Lib.hid hg; clear hg))
  go_ret
  exact ⟨rfl, HG2.out⟩
set_option maxHeartbeats 1000000 in
theorem back_long (A : Option Addr) (c n : Nat) (t : Tr) (w : World) (hg : G5 w w) (hn : t.sz = n) (ht : Lies w A (ndCells t.flat)) (hok : t.ok = true) (her : t.er = 0) (hb : t.big) (hlen : 400 < t.wr.length) :
    Calls Tryd.prog 4 #[.slice A n c] w fun e w' => e = .returned (.bool true) ∧ G5 w w' := by
  have h60 := (Tr.er_zero.1 her).1
  have hwl := (Tr.wr_len t hok hb).1
  have HG := Lib.hid hg
  have HA := Lib.hid (fun W => N4.great_any A n c W false (by simp; omega))
  have HC := Lib.hid (rcheck_any A c n t.flat w (by rw [t.flat_length, hn]) (by unfold maxLen; omega) ht 0 ((t.check_flat hok).trans her))
  have HT := Lib.hid (fun (W : World) (hW : G5 w W) => textF_ok A c n t W hn (ht.below hW.1) hok her hb hW.2.2.1 hW.2.2.2)
  have HL := Lib.hid (fun (W : World) (hW : G5 w W) => all_g t.wr (by unfold maxLen; omega) [] 0 4 (allF_big _ hlen) w W hW)
  have hsz : 400 < (bytesOf t.wr).size := by rw [bytesOf_size]; exact hlen
  have hsz2 : (bytesOf t.wr).size ≤ 3000 := by rw [bytesOf_size]; omega
  generalize t.wr = T at HT HL hsz hsz2
  clear hg ht hok her hb hlen h60 hwl hn
  go_enter Tryd.func4, Tryd.ntmps4
  go_wp2_with (first
    | (go_at_call 13; refine (HA.out _).mono ?_; rintro e w' ⟨rfl, rfl⟩)
    | (go_at_call 14; refine HC.out.mono ?_; rintro e w2 ⟨rfl, hb⟩; have HG1 := Lib.hid (HG.out.step hb); clear hb)
    | (go_at_call 11; refine (HT.out _ HG1.out).mono ?_; rintro e w3 ⟨rfl, hb⟩; have HG2 := Lib.hid (HG1.out.step hb); clear hb)
    | (go_at_call 9; refine (HL.out _ HG2.out).mono ?_; rintro e w4 ⟨A4, c4, rfl, _, _, hg⟩; have HG3 := Lib.hid hg; clear hg)
    | (go_at_call 12; refine (alive_g _ _ HG3.out).mono ?_; rintro e w' ⟨rfl, hg⟩; have HG4 := Lib.hid hg; clear hg))
  go_ret
  exact ⟨rfl, HG4.out⟩
set_option maxHeartbeats 1000000 in
theorem back_short (A : Option Addr) (c n : Nat) (t : Tr) (w : World) (hg : G5 w w) (hn : t.sz = n) (ht : Lies w A (ndCells t.flat)) (hok : t.ok = true) (her : t.er = 0) (hb : t.big) (hlen : t.wr.length ≤ 400) :
    Calls Tryd.prog 4 #[.slice A n c] w fun e w' => e = .returned (.bool true) ∧ G5 w w' := by
  have h60 := (Tr.er_zero.1 her).1
  obtain ⟨M, q, hM, hlx⟩ := lex_whole (lex_tree t hok hb).1.1 (by have := (tx_len t).1; omega)
  have hall := allF_of hlen hlx
  rw [if_pos rfl] at hall
  obtain ⟨t', hz, hr⟩ := (back t hok hb her).1 M [] hM no_nil
  rw [List.append_nil] at hr
  have hM1 : M = (allF t.wr).1 := by rw [hall]
  have hsm := allF_small t.wr
  rw [← hM1] at hsm
  have hck : chkF M = 0 := by rw [hM1]; exact allF_chk _
  have hgd := hr.good (fun x hx => (chk_zero hck).2.2 x hx) trivial rfl
  have HG := Lib.hid hg
  have HA := Lib.hid (fun W => N4.great_any A n c W false (by simp; omega))
  have HC := Lib.hid (rcheck_any A c n t.flat w (by rw [t.flat_length, hn]) (by unfold maxLen; omega) ht 0 ((t.check_flat hok).trans her))
  have HT := Lib.hid (fun (W : World) (hW : G5 w W) => textF_ok A c n t W hn (ht.below hW.1) hok her hb hW.2.2.1 hW.2.2.2)
  have HL := Lib.hid (fun (W : World) (hW : G5 w W) => all_g t.wr (by unfold maxLen; omega) M q 0 hall w W hW)
  have HP := Lib.hid (fun A3 c3 (W : World) (hW : G5 w W) (hT : Toks W A3 M) => parse_g A3 c3 M.length M 0 _ rfl hsm.1 hck (Nat.zero_le _) hr w W hW hT)
  have HS := Lib.hid (fun A4 c4 (W : World) (hW : G5 w W) (hl : Lies W A4 (ndCells t'.flat)) => same_ok A A4 n t'.sz c c4 t.flat t'.flat W (by rw [t.flat_length, hn]) t'.flat_length (ht.below hW.1) hl ((t.check_flat hok).trans her) ((t'.check_flat hgd.1).trans hgd.2) true (by rw [sameF, Tr.flat_z hz]; simp))
  have hsz : ¬ (400 < (bytesOf t.wr).size) := by rw [bytesOf_size]; omega
  unfold PPost at HP
  simp only [List.length_nil, Nat.sub_zero] at HP
  have hml := hsm.2
  generalize t.wr = T at HT HL hsz
  generalize M.length = m at HL HP hml
  clear hg ht hok her hb hlen h60 hn hM hlx hall hr hM1 hsm hck hgd hz
  go_enter Tryd.func4, Tryd.ntmps4
  go_wp2_with (first
    | (go_at_call 13; refine (HA.out _).mono ?_; rintro e w' ⟨rfl, rfl⟩)
    | (go_at_call 14; refine HC.out.mono ?_; rintro e w2 ⟨rfl, hb⟩; have HG1 := Lib.hid (HG.out.step hb); clear hb)
    | (go_at_call 11; refine (HT.out _ HG1.out).mono ?_; rintro e w3 ⟨rfl, hb⟩; have HG2 := Lib.hid (HG1.out.step hb); clear hb)
    | (go_at_call 9; refine (HL.out _ HG2.out).mono ?_; rintro e w4 ⟨A4, c4, rfl, ht4, _, hg⟩; have HG3 := Lib.hid hg; have HT4 := Lib.hid ht4; clear hg ht4)
    | (go_at_call 10; refine (HP.out _ _ _ HG3.out HT4.out).mono ?_; rintro e w5 ⟨⟨_, A5, c5, rfl, hl5⟩, hg⟩; have HG4 := Lib.hid hg; have HL5 := Lib.hid hl5; clear hg hl5)
    | (go_at_call 15; refine (HS.out _ _ _ HG4.out HL5.out).mono ?_; rintro e w6 ⟨rfl, hb⟩; have HG5 := Lib.hid (HG4.out.step hb); clear hb)
    | (go_at_call 12; refine (alive_g _ _ HG5.out).mono ?_; rintro e w' ⟨rfl, hg⟩; have HG6 := Lib.hid hg; clear hg))
  go_ret
  exact ⟨rfl, HG6.out⟩

theorem ExprsBack_walk (A : Option Addr) (c : Nat) (L : List Nd) (w : World) (hL : L.length ≤ maxLen) (ht : Lies w A (ndCells L)) (hc : L.length ≤ c) (hA : (A = none ∧ c = 0 ∧ L = []) ∨ ∃ ad, A = some ad) (hbig : ∀ x ∈ L, x.n ≤ 9223372036854775807) (tb : TB w) :
    Calls Tryd.prog 4 #[.slice A L.length c] w fun e w' => e = .returned (.bool true) ∧ Below w.heap.size w w' := by
  suffices hh : Calls Tryd.prog 4 #[.slice A L.length c] w fun e w' => e = .returned (.bool true) ∧ G5 w w' from hh.mono fun e w' ⟨he, hg⟩ => ⟨he, hg.1⟩
  have hg := G5.start tb
  by_cases h1 : 70 < L.length
  · exact back_great A c _ w hg h1
  · by_cases h2 : checkF L = 0
    · obtain ⟨t, h3, h4, rfl⟩ := Tr.of_check h2
      have hb := t.big_of hbig
      by_cases h5 : 400 < t.wr.length
      · exact back_long A c _ t w hg t.flat_length.symm ht h3 h4 hb h5
      · exact back_short A c _ t w hg t.flat_length.symm ht h3 h4 hb (by omega)
    · exact back_bad A c _ L w hg h1 rfl ht _ rfl h2
end Go.Proofs.YtoobggcopoljcaaDoor
