/- The laws' helpers fails, joined and alive. -/
import Derived.Test.YteidhjacnlcddaaDoorLRJoin
namespace Go.Proofs.YteidhjacnlcddaaDoor
open Go.ChangeShapes Go.WideShapes Go.ChangeAt Go.RowKit
set_option linter.unusedVariables false

theorem all_g (s : ByteArray) (L : List Tok) (q : Nat) (er : Int) (n : Nat) (w0 w : World) (hs : s.size ≤ maxLen) (h : allF s.data.toList = (L, q, er)) (hn : L.length = n) (hg : Good w0 w) :
    Calls Tryd.prog 15 #[.string s] w fun e w' => ∃ A c, e = .returned (.tuple #[.slice A n c, .int .i64 q, .int .i64 er]) ∧ Toks w' A L ∧ Below w.heap.size w w' ∧ Good w0 w' := by
  subst hn
  exact (all_any s w hs hg.2 L q er h).mono fun e w' ⟨A, c, he, ht, hgg⟩ => ⟨A, c, he, ht, hgg.1, hg.step hgg.1⟩
theorem join_g (A : Option Addr) (c : Nat) (L : List Tok) (n : Nat) (Z : ByteArray) (er : Int) (w0 w : World) (hn : L.length = n) (hL : n ≤ 1000000) (ht : Toks w A L) (hs : ∀ t ∈ L, t.s.length ≤ maxLen) (hj : joinF L = (Z.data.toList, er)) (hg : Good w0 w) :
    Calls Tryd.prog 12 #[.slice A n c] w fun e w' => e = .returned (.tuple #[.string Z, .int .i64 er]) ∧ Below w.heap.size w w' ∧ Good w0 w' := by
  subst hn
  refine (join_any A c L w (by unfold maxLen; omega) ht hs hg.2 _ er hj).mono fun e w' ⟨he, hgg⟩ => ⟨?_, hgg.1, hg.step hgg.1⟩
  rw [he]
  have : bytesOf Z.data.toList = Z := by apply ByteArray.ext; apply Array.toList_inj.1; rw [bytesOf_list]
  rw [this]
theorem lex_small {s : List UInt8} {L : List Tok} {q : Nat} {er : Int} (h : allF s = (L, q, er)) : L.length ≤ 200 ∧ (∀ t ∈ L, t.s.length ≤ 400) ∧ q ≤ s.length := by
  by_cases hb : 400 < s.length
  · rw [allF_big s hb] at h
    obtain ⟨h1, h2⟩ := Prod.mk.inj h
    obtain ⟨h2, h3⟩ := Prod.mk.inj h2
    subst h1 h2
    exact ⟨Nat.zero_le _, by simp, Nat.zero_le _⟩
  · obtain ⟨ts, q', e', hL, hf⟩ := allF_lex s (by omega)
    rw [hf] at h
    obtain ⟨h1, h2⟩ := Prod.mk.inj h
    obtain ⟨h2, h3⟩ := Prod.mk.inj h2
    subst h2 h3
    have hc := hL.count (by decide)
    by_cases he : e' = 0
    · have hcov := hL.cover he s (List.drop_zero).symm (Nat.zero_le _)
      rw [if_pos he] at h1
      subst h1
      have key : ∀ (M : List Tok) (a : Nat), Cover s a M → ∀ t ∈ M, t.s.length ≤ s.length := by
        intro M
        induction M with
        | nil => intro a _ t ht; cases ht
        | cons y r ih =>
          intro a hc t ht
          obtain ⟨x, _, _, hx, _, _, _, hr⟩ := hc
          rcases List.mem_cons.1 ht with rfl | ht
          · omega
          · exact ih _ hr t ht
      refine ⟨by omega, fun t ht => by have := key ts 0 hcov t ht; omega, ?_⟩
      have hend : ∀ {l p n ts q e}, Lex l p n ts q e → q ≤ p + l.length := by
        intro l p n ts q e h
        induction h with
        | @done l p n _ | @many l p _ | @err l p n _ _ _ => have := spanK_le 1 l; omega
        | @tok l p n m ts q e h1 _ _ _ _ ih =>
          subst h1
          have h5 := spanK_le 1 l
          have h6 := ext_le (l.drop (spanK 1 l))
          rw [List.length_drop, List.length_drop] at ih
          rw [List.length_drop] at h6
          omega
      have := hend hL
      omega
    · rw [if_neg he] at h1
      subst h1
      obtain ⟨x, hx, ⟨hx2, _⟩, _⟩ := hL.prefix he
      exact ⟨Nat.zero_le _, by simp, by omega⟩

theorem fails_g (s : ByteArray) (q : Nat) (er : Int) (w0 w : World) (hs : s.size ≤ 1000) (h : allF s.data.toList = ([], q, er)) (hg : Good w0 w) :
    Calls Tryd.prog 10 #[.string s, .int .i64 q, .int .i64 er] w fun e w' => e = .returned (.bool true) ∧ Below w.heap.size w w' ∧ Good w0 w' := by
  have HA := Lib.hid (all_g s [] q er 0 w0 w (by unfold maxLen; omega) h rfl hg)
  clear h hg
  go_enter Tryd.func10, Tryd.ntmps10
  go_wp2_with (go_at_call 15; refine HA.out.mono ?_; rintro e w1 ⟨A, c, rfl, _, hb1, hg1⟩)
  go_ret
  exact ⟨rfl, hb1, hg1⟩
theorem joined_ok (s : ByteArray) (L : List Tok) (Z : ByteArray) (w0 w : World) (hs : s.size ≤ 1000) (h : allF s.data.toList = (L, s.size, 0)) (hj : joinF L = (Z.data.toList, 0)) (hg : Good w0 w) :
    Calls Tryd.prog 9 #[.string s] w fun e w' => e = .returned (.string Z) ∧ Below w.heap.size w w' ∧ Good w0 w' := by
  obtain ⟨n, hn⟩ : ∃ n, L.length = n := ⟨_, rfl⟩
  obtain ⟨h200, h400, _⟩ := lex_small h
  have HA := Lib.hid (all_g s L s.size 0 n w0 w (by unfold maxLen; omega) h hn hg)
  have HJ := Lib.hid (fun A c w ht hg => join_g A c L n Z 0 w0 w hn (by omega) ht (fun t ht => by have := h400 t ht; unfold maxLen; omega) hj hg)
  clear h hg hj hn h200 h400
  go_enter Tryd.func9, Tryd.ntmps9
  go_wp2_with (first
    | (go_at_call 15; refine HA.out.mono ?_; rintro e w1 ⟨A, c, rfl, ht1, hb1, hg1⟩; have HT := Lib.hid ht1; clear ht1)
    | (go_at_call 12; refine (HJ.out _ _ _ HT.out hg1).mono ?_; rintro e w2 ⟨rfl, hb2, hg2⟩))
  go_ret
  exact ⟨rfl, hb1.trans (hb2.mono hb1.size), hg2⟩
theorem joined_no (s : ByteArray) (q : Nat) (er : Int) (w0 w : World) (hs : s.size ≤ 1000) (h : allF s.data.toList = ([], q, er)) (he : (er != 0) = true) (hg : Good w0 w) :
    Calls Tryd.prog 9 #[.string s] w fun e w' => e = .returned (.string ⟨#[63]⟩) ∧ Below w.heap.size w w' ∧ Good w0 w' := by
  have HA := Lib.hid (all_g s [] q er 0 w0 w (by unfold maxLen; omega) h rfl hg)
  have HJ := Lib.hid (fun A c w ht hg => join_g A c [] 0 ⟨#[]⟩ 0 w0 w rfl (by omega) ht (fun t ht => by cases ht) rfl hg)
  clear h hg
  go_enter Tryd.func9, Tryd.ntmps9
  go_wp2_with (first
    | (go_at_call 15; refine HA.out.mono ?_; rintro e w1 ⟨A, c, rfl, ht1, hb1, hg1⟩; have HT := Lib.hid ht1; clear ht1)
    | (go_at_call 12; refine (HJ.out _ _ _ HT.out hg1).mono ?_; rintro e w2 ⟨rfl, hb2, hg2⟩))
  go_ret
  exact ⟨rfl, hb1.trans (hb2.mono hb1.size), hg2⟩

/-! ### alive -/
def sixToks : List Tok := [⟨2, [115, 117, 109], 0⟩, ⟨3, [40], 3⟩, ⟨2, [118], 4⟩, ⟨3, [41], 5⟩, ⟨3, [60, 61], 6⟩, ⟨1, [49, 50], 8⟩]
theorem six_all : allF [115, 117, 109, 40, 118, 41, 60, 61, 49, 50] = (sixToks, 10, 0) := by decide +kernel
theorem six_join : joinF sixToks = ([115, 117, 109, 32, 40, 32, 118, 32, 41, 32, 60, 61, 32, 49, 50], 0) := by decide +kernel
theorem two_all : allF [49, 50, 97] = ([⟨1, [49, 50], 0⟩, ⟨2, [97], 2⟩], 3, 0) := by decide +kernel
theorem two_join : joinF [⟨1, [49, 50], 0⟩, ⟨2, [97], 2⟩] = ([49, 50, 32, 97], 0) := by decide +kernel
theorem sum_all : allF [115, 117, 32, 109] = ([], 0, 32) := by decide +kernel
theorem bang_all : allF [97, 32, 33, 32, 98] = ([], 2, 32) := by decide +kernel

theorem al_all (w0 w : World) (hg : Good w0 w) : Calls Tryd.prog 15 #[.string ⟨#[115, 117, 109, 40, 118, 41, 60, 61, 49, 50]⟩] w fun e w' => ∃ A c, e = .returned (.tuple #[.slice A 6 c, .int .i64 10, .int .i64 0]) ∧ Toks w' A sixToks ∧ Below w.heap.size w w' ∧ Good w0 w' :=
  all_g _ sixToks 10 0 6 w0 w (by decide) six_all rfl hg
theorem al_six (w0 w : World) (hg : Good w0 w) : Calls Tryd.prog 9 #[.string ⟨#[115, 117, 109, 40, 118, 41, 60, 61, 49, 50]⟩] w fun e w' => e = .returned (.string ⟨#[115, 117, 109, 32, 40, 32, 118, 32, 41, 32, 60, 61, 32, 49, 50]⟩) ∧ Below w.heap.size w w' ∧ Good w0 w' :=
  joined_ok _ sixToks ⟨#[115, 117, 109, 32, 40, 32, 118, 32, 41, 32, 60, 61, 32, 49, 50]⟩ w0 w (by decide) six_all six_join hg
theorem al_two (w0 w : World) (hg : Good w0 w) : Calls Tryd.prog 9 #[.string ⟨#[49, 50, 97]⟩] w fun e w' => e = .returned (.string ⟨#[49, 50, 32, 97]⟩) ∧ Below w.heap.size w w' ∧ Good w0 w' :=
  joined_ok _ _ ⟨#[49, 50, 32, 97]⟩ w0 w (by decide) two_all two_join hg
theorem al_sum (w0 w : World) (hg : Good w0 w) : Calls Tryd.prog 10 #[.string ⟨#[115, 117, 32, 109]⟩, .int .i64 0, .int .i64 32] w fun e w' => e = .returned (.bool true) ∧ Below w.heap.size w w' ∧ Good w0 w' :=
  fails_g _ 0 32 w0 w (by decide) sum_all hg
theorem al_bang (w0 w : World) (hg : Good w0 w) : Calls Tryd.prog 10 #[.string ⟨#[97, 32, 33, 32, 98]⟩, .int .i64 2, .int .i64 32] w fun e w' => e = .returned (.bool true) ∧ Below w.heap.size w w' ∧ Good w0 w' :=
  fails_g _ 2 32 w0 w (by decide) bang_all hg

theorem six_at {w : World} {A : Option Addr} (h : Toks w A sixToks) : ∃ ad, A = some ad ∧ w.cell? ⟨ad.block, ad.off + 15, none⟩ = some (.int .u8 1) ∧ w.cell? ⟨ad.block, ad.off + 16, none⟩ = some (.string ⟨#[49, 50]⟩) ∧ w.cell? ⟨ad.block, ad.off + 17, none⟩ = some (.int .i64 8) := by
  rcases h with h | ⟨ad, h1, h2, h3⟩
  · cases h
  · exact ⟨ad, h1, h3 15 _ rfl, h3 16 _ rfl, h3 17 _ rfl⟩

set_option maxHeartbeats 2000000 in
set_option maxRecDepth 100000 in
theorem alive_g (w0 w : World) (h : Good w0 w) : Calls Tryd.prog 13 #[] w fun e w' => e = .returned (.bool true) ∧ Below w.heap.size w w' ∧ Good w0 w' := by
  have H := Good.start h.2
  suffices hh : Calls Tryd.prog 13 #[] w fun e w' => e = .returned (.bool true) ∧ Good w w' from hh.mono fun e w' ⟨he, hg⟩ => ⟨he, hg.1, h.step hg.1⟩
  clear h
  have heq := fun w => eq_tok 1 8 1 8 ⟨#[49, 50]⟩ ⟨#[49, 50]⟩ w
  have hgt : Tryd.prog.eqGuardType Tryd.prog.depth 30 = false := by kernel_rfl
  go_enter Tryd.func13, Tryd.ntmps13
  go_wp2_with (first
    | (go_at_call 15; refine (al_all w _ (by assumption)).mono ?_; rintro e w1 ⟨A, c, rfl, ht1, hb1, hg1⟩)
    | (go_at_call 9; (first | ((with_reducible refine (al_six w _ (by assumption)).mono ?_); rintro e w2 ⟨rfl, hb, hg⟩; obtain ⟨ad, rfl, d0, d1, d2⟩ := six_at (ht1.below hb)) | ((with_reducible refine (al_two w _ (by assumption)).mono ?_); rintro e w' ⟨rfl, hb, hg⟩)))
    | (go_at_call 10; (first | (with_reducible refine (al_sum w _ (by assumption)).mono ?_) | (with_reducible refine (al_bang w _ (by assumption)).mono ?_)); rintro e w' ⟨rfl, hb, hg⟩))
  go_ret
  exact ⟨rfl, by assumption⟩
end Go.Proofs.YteidhjacnlcddaaDoor
