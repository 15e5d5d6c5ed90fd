/- Contracts of the reference's Cut and Part. -/
import Derived.Test.YtakpbpabblgobaaNRef
import Derived.Test.YtakpbpabblgobaaNPart
namespace Go.Proofs.Ytakpbpabblgobaa
open Go.ChangeShapes Go.WideShapes Go.ChangeAt Go.RowKit
set_option linter.unusedVariables false
set_option linter.unusedSimpArgs false

def CPost (M : List Nd) (s : Nat) (w : World) (e : Ending) (w' : World) : Prop := ∃ A c, e = .returned (.slice A s c) ∧ Lies w' A (ndCells M) ∧ Below w.heap.size w w'
def cutTo (L : List Nd) (f j : Nat) : List Nd := ((L.drop f).take j).map (shift (-(f : Int)))
theorem cutTo_succ {L : List Nd} {f j : Nat} {x : Nd} (h : L[f + j]? = some x) : cutTo L f (j + 1) = cutTo L f j ++ [shift (-(f : Int)) x] := by
  unfold cutTo
  have h2 : (L.drop f)[j]? = some x := by rw [List.getElem?_drop]; exact h
  rw [(extF_split h2).2, List.map_append]
  rfl
set_option maxHeartbeats 4000000 in
set_option maxRecDepth 100000 in
theorem rcut_ok (A : Option Addr) (c n : Nat) (L : List Nd) (i s : Nat) (w : World) (hn : L.length = n) (ht : Lies w A (ndCells L)) (hv : checkF L = 0) (hi : i < n) (hs : sizF L i = s) :
    Calls Try.prog 33 #[.slice A n c, .int .i64 i] w (CPost (cutF L i) s w) := by
  obtain ⟨E, hg⟩ := checkF_zero hv
  have hsz := hg.size (i := i) (by omega)
  rw [hs] at hsz
  obtain ⟨hs1, hs2, _⟩ := hsz
  obtain ⟨h1, h2, h3, h4⟩ := good_sizes hg hn
  have HS := Lib.hid (rsizes_ok A c n L E w ht h1 h2 hn h3 h4)
  obtain ⟨y, hy⟩ : ∃ y, E[i]? = some y := ⟨_, List.getElem?_eq_getElem (by rw [extF_length h1]; omega)⟩
  obtain rfl : y.s = s := (sizF_of h1 hy).symm.trans hs
  have HD := Lib.hid (show (sCells E)[i]? = some (.int .i64 (y.s : Nat)) by rw [sCells, List.getElem?_map, hy]; rfl)
  obtain ⟨s, hys⟩ : ∃ s, y.s = s := ⟨_, rfl⟩
  rw [hys] at hs1 hs2 hs HD ⊢
  obtain ⟨f, hf⟩ : ∃ f, i + 1 - s = f := ⟨_, rfl⟩
  have HM := Lib.hid (show cutF L i = cutTo L f s by unfold cutF cutTo; rw [hs, hf])
  have HSM := Lib.hid (sm_of hg (-(f : Int)) (by omega) (by omega))
  obtain ⟨M, hM⟩ : ∃ M, cutTo L f = M := ⟨_, rfl⟩
  have HSN := Lib.hid (show ∀ (j : Nat) (x : Nd), L[f + j]? = some x → j < s → M (j + 1) = M j ++ [shift (-(f : Int)) x] by intro j x hx _; rw [← hM]; exact cutTo_succ hx)
  have HM0 := Lib.hid (show M 0 = [] by rw [← hM]; simp [cutTo])
  rw [hM] at HM
  have HT := Lib.hid ht
  have HN := Lib.hid hn
  have q1 : (i : Int) + 1 - s = f := by omega
  have hfi : i + 1 = f + s := by omega
  obtain ⟨i0, hi0, hz0, hz1, hz2⟩ := info_parts nd_info
  have hi := hi0
  clear ht hv hn hg h1 h4 hs hy hys hf hM
  go_enter Try.func33, Try.ntmps33
  go_wp2_with (go_at_call 32; refine HS.out.mono ?_; rintro e w1 ⟨a1, c1, a2, c2, rfl, hl1, _, hb⟩; obtain ⟨_, he, _, d0⟩ := hl1.one HD.out; injection he with he; subst he; have HB1 := Lib.hid hb; clear hl1 hb)
  clear d0
  go_loopw [9, 10] (fun l iv wr => ∃ j : Nat, iv = .int .i64 (f + j : Nat) ∧ j ≤ s ∧ wr.ownsRow w.heap.size 23 5 l j (ndCells (M j)) ∧ Below w.heap.size w wr) (fun _ iv _ => i + 1 - (intOf iv).toNat)
  case atStart => exact ⟨0, by simp, Nat.zero_le _, by rw [HM0.out]; exact World.ownsRow_nil _ _ _ _, HB1.out⟩
  case round =>
    obtain ⟨j, rfl, hj, hown, hb⟩ := hrel
    obtain ⟨A', c', rfl, hjc, _⟩ := own_form hown
    have HO := Lib.hid hown
    have HB := Lib.hid hb
    clear hown hb
    by_cases hlt : j < s
    · obtain ⟨x, hx⟩ : ∃ x, L[f + j]? = some x := ⟨_, List.getElem?_eq_getElem (by rw [HN.out]; omega)⟩
      obtain ⟨ad, rfl, hadl, d0, d1, d2, d3, d4⟩ := (HT.out.below HB.out).nd hx
      have hab : (ad.add ((f + j) * 5)).block < wr.heap.size := by rw [add_block]; exact hadl
      obtain ⟨_, sa, sb⟩ := HSM.out x (List.mem_of_getElem? hx)
      have HX := Lib.hid hx
      have j1 : (f : Int) + j ≤ i := by omega
      have j2 : (f : Int) + j < n := by omega
      have j3 : (0 : Int) ≤ (f : Int) + j := by omega
      clear hx hadl
      rcases cnt_vals x.k with ⟨hk1, hc⟩ | ⟨hk1, hk2, hc⟩ | ⟨hk1, hc⟩
      all_goals rw [hc] at sa sb
      rotate_left
      · obtain ⟨sa1, sa2⟩ := sa (by decide)
        have sa3 : -1000 ≤ x.a - f := by omega
        have sa4 : x.a - f ≤ 1000 := by omega
        clear sa sb sa1 sa2
        have HCN := Lib.hid (fun w => show Calls Try.prog 34 #[.int .u8 x.k] w fun e w' => e = .returned (.int .i64 1) ∧ w = w' by have := count_any x.k w; rwa [hc] at this)
        have HXE := Lib.hid (show (⟨x.k, x.n, x.a - f, x.b, x.p⟩ : Nd) = shift (-(f : Int)) x by unfold shift; rw [hc]; simp [Int.sub_eq_add_neg])
        clear hc hk1 hk2
        go_wp2_with (first
          | (go_at_call 34; refine (HCN.out _).mono ?_; rintro e w' ⟨rfl, rfl⟩)
          | (at_builtin; refine wpList_append_lies _ rfl (.tmp 53) (.tmp 55) 24 rfl w.heap.size 23 i0 _ 5 40 Try.underlying24 hi hz0 hz1 hz2 rfl (by decide) _ j (ndCells (M j)) rfl ((HO.out.alloc _).alloc _) ⟨wr.heap.size + 1, 0, none⟩ 1 1 (ndCells [⟨x.k, x.n, x.a - f, x.b, x.p⟩]) rfl ?b1 ?b2 ?b3 ?b4 ?b5 ?b6 ?b7 _ rfl ?_))
        case b1 => rfl
        case b2 => first | exact cells_new5 (wr.alloc _) _ (by simp) ⟨x.k, x.n, x.a - f, x.b, x.p⟩ _ | (intro j u hj; simpa [ndCells, ndC] using hj)
        case b3 => exact nd_one _
        try case b4 => omega
        case b5 => unfold maxLen; omega
        case b6 => omega
        case b7 => have := HB.out.size; simp; omega
        intro g cap w5 ho hg _ _
        have HO5 := Lib.hid ho
        have HB5 := Lib.hid (show Below w.heap.size w w5 from ((HB.out.alloc HB.out.size _).alloc (by have := HB.out.size; simp; omega) _).grown hg (by have := HB.out.size; simp; omega) (fun j hj => (HO.out.lt j hj).1))
        clear ho hg
        go_wp2
        go_roundw
        case rel =>
          refine ⟨j + 1, by go_num, by omega, ?_, HB5.out⟩
          rw [HSN.out j x HX.out hlt, ndCells_append, ← HXE.out]
          exact HO5.out
        case measure => simp [intOf]; omega
      · obtain ⟨sa1, sa2⟩ := sa (by decide)
        obtain ⟨sb1, sb2⟩ := sb (by decide)
        have sa3 : -1000 ≤ x.a - f := by omega
        have sa4 : x.a - f ≤ 1000 := by omega
        have sb3 : -1000 ≤ x.b - f := by omega
        have sb4 : x.b - f ≤ 1000 := by omega
        clear sa sb sa1 sa2 sb1 sb2
        have HCN := Lib.hid (fun w => show Calls Try.prog 34 #[.int .u8 x.k] w fun e w' => e = .returned (.int .i64 2) ∧ w = w' by have := count_any x.k w; rwa [hc] at this)
        have HXE := Lib.hid (show (⟨x.k, x.n, x.a - f, x.b - f, x.p⟩ : Nd) = shift (-(f : Int)) x by unfold shift; rw [hc]; simp [Int.sub_eq_add_neg])
        clear hc hk1
        go_wp2_with (first
          | (go_at_call 34; refine (HCN.out _).mono ?_; rintro e w' ⟨rfl, rfl⟩)
          | (at_builtin; refine wpList_append_lies _ rfl (.tmp 53) (.tmp 55) 24 rfl w.heap.size 23 i0 _ 5 40 Try.underlying24 hi hz0 hz1 hz2 rfl (by decide) _ j (ndCells (M j)) rfl ((HO.out.alloc _).alloc _) ⟨wr.heap.size + 1, 0, none⟩ 1 1 (ndCells [⟨x.k, x.n, x.a - f, x.b - f, x.p⟩]) rfl ?c1 ?c2 ?c3 ?c4 ?c5 ?c6 ?c7 _ rfl ?_))
        case c1 => rfl
        case c2 => first | exact cells_new5 (wr.alloc _) _ (by simp) ⟨x.k, x.n, x.a - f, x.b - f, x.p⟩ _ | (intro j u hj; simpa [ndCells, ndC] using hj)
        case c3 => exact nd_one _
        try case c4 => omega
        case c5 => unfold maxLen; omega
        case c6 => omega
        case c7 => have := HB.out.size; simp; omega
        intro g cap w5 ho hg _ _
        have HO5 := Lib.hid ho
        have HB5 := Lib.hid (show Below w.heap.size w w5 from ((HB.out.alloc HB.out.size _).alloc (by have := HB.out.size; simp; omega) _).grown hg (by have := HB.out.size; simp; omega) (fun j hj => (HO.out.lt j hj).1))
        clear ho hg
        go_wp2
        go_roundw
        case rel =>
          refine ⟨j + 1, by go_num, by omega, ?_, HB5.out⟩
          rw [HSN.out j x HX.out hlt, ndCells_append, ← HXE.out]
          exact HO5.out
        case measure => simp [intOf]; omega
      · clear sa sb
        have HCN := Lib.hid (fun w => show Calls Try.prog 34 #[.int .u8 x.k] w fun e w' => e = .returned (.int .i64 0) ∧ w = w' by have := count_any x.k w; rwa [hc] at this)
        have HXE := Lib.hid (show (⟨x.k, x.n, x.a, x.b, x.p⟩ : Nd) = shift (-(f : Int)) x by unfold shift; rw [hc]; simp [Int.sub_eq_add_neg])
        clear hc hk1
        go_wp2_with (first
          | (go_at_call 34; refine (HCN.out _).mono ?_; rintro e w' ⟨rfl, rfl⟩)
          | (at_builtin; refine wpList_append_lies _ rfl (.tmp 53) (.tmp 55) 24 rfl w.heap.size 23 i0 _ 5 40 Try.underlying24 hi hz0 hz1 hz2 rfl (by decide) _ j (ndCells (M j)) rfl ((HO.out.alloc _).alloc _) ⟨wr.heap.size + 1, 0, none⟩ 1 1 (ndCells [⟨x.k, x.n, x.a, x.b, x.p⟩]) rfl ?a1 ?a2 ?a3 ?a4 ?a5 ?a6 ?a7 _ rfl ?_))
        case a1 => rfl
        case a2 => first | exact cells_new5 (wr.alloc _) _ (by simp) ⟨x.k, x.n, x.a, x.b, x.p⟩ _ | (intro j u hj; simpa [ndCells, ndC] using hj)
        case a3 => exact nd_one _
        try case a4 => omega
        case a5 => unfold maxLen; omega
        case a6 => omega
        case a7 => have := HB.out.size; simp; omega
        intro g cap w5 ho hg _ _
        have HO5 := Lib.hid ho
        have HB5 := Lib.hid (show Below w.heap.size w w5 from ((HB.out.alloc HB.out.size _).alloc (by have := HB.out.size; simp; omega) _).grown hg (by have := HB.out.size; simp; omega) (fun j hj => (HO.out.lt j hj).1))
        clear ho hg
        go_wp2
        go_roundw
        case rel =>
          refine ⟨j + 1, by go_num, by omega, ?_, HB5.out⟩
          rw [HSN.out j x HX.out hlt, ndCells_append, ← HXE.out]
          exact HO5.out
        case measure => simp [intOf]; omega
    · obtain rfl : j = s := by omega
      have j1 : ¬ (f : Int) + j ≤ i := by omega
      go_wp2
      go_ret
      refine ⟨A', c', rfl, ?_, HB.out⟩
      rw [HM.out]
      exact Lies.of_own HO.out (by intro h; omega)

theorem rpart_bad (A : Option Addr) (c n : Nat) (L : List Nd) (at_ : Int) (w : World) (hn : L.length = n) (hL : n ≤ maxLen) (ht : Lies w A (ndCells L)) (v : Int) (hv : checkF L = v) (h0 : v ≠ 0) :
    Calls Try.prog 21 #[.slice A n c, .int .i64 at_] w fun e w' => e = .returned (.tuple #[.slice none 0 0, .int .i64 v]) ∧ Below w.heap.size w w' := by
  have HM := Lib.hid (rsize_bad A c n L at_ w hn hL ht v hv h0)
  have hne := (bne_iff_ne (a := v) (b := 0)).2 h0
  clear ht h0 hv hn
  go_enter Try.func21, Try.ntmps21
  go_wp2_with (go_at_call 20; refine HM.out.mono ?_; rintro e w1 ⟨rfl, hb⟩)
  go_ret2
  exact ⟨rfl, hb⟩
theorem rpart_arg (A : Option Addr) (c n : Nat) (L : List Nd) (at_ : Int) (w : World) (hn : L.length = n) (ht : Lies w A (ndCells L)) (hv : checkF L = 0) (ha : at_ < 0 ∨ n ≤ at_) :
    Calls Try.prog 21 #[.slice A n c, .int .i64 at_] w fun e w' => e = .returned (.tuple #[.slice none 0 0, .int .i64 2]) ∧ Below w.heap.size w w' := by
  have HM := Lib.hid (rsize_arg A c n L at_ w hn ht hv ha)
  clear ht hv hn ha
  go_enter Try.func21, Try.ntmps21
  go_wp2_with (go_at_call 20; refine HM.out.mono ?_; rintro e w1 ⟨rfl, hb⟩)
  go_ret2
  exact ⟨rfl, hb⟩
def RPOk (w : World) (M : List Nd) (s : Nat) (e : Ending) (w' : World) : Prop :=
  ∃ A c, e = .returned (.tuple #[.slice A s c, .int .i64 0]) ∧ Lies w' A (ndCells M) ∧ Below w.heap.size w w'
theorem rpart_ok (A : Option Addr) (c n : Nat) (L : List Nd) (i s : Nat) (w : World) (hn : L.length = n) (ht : Lies w A (ndCells L)) (hv : checkF L = 0) (hi : i < n) (hs : sizF L i = s) :
    Calls Try.prog 21 #[.slice A n c, .int .i64 i] w (RPOk w (cutF L i) s) := by
  have HM := Lib.hid (rsize_ok A c n L i s w hn ht hv hi hs)
  have HC := Lib.hid (fun w' (hb : Below w.heap.size w w') => rcut_ok A c n L i s w' hn (ht.below hb) hv hi hs)
  clear ht hv hn hi hs
  go_enter Try.func21, Try.ntmps21
  go_wp2_with (first
    | (go_at_call 20; refine HM.out.mono ?_; rintro e w1 ⟨rfl, hb⟩)
    | (go_at_call 33; refine (HC.out _ hb).mono ?_; rintro e w2 ⟨A', c', rfl, hl, hb2⟩))
  go_ret2
  exact ⟨A', c', rfl, hl, hb.trans (hb2.mono hb.size)⟩
end Go.Proofs.Ytakpbpabblgobaa
