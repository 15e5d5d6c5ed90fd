
/- The contract of the reference's Sizes. -/
import Derived.Test.YtaijhkfbfkdepaaNRight
import Derived.LoopTactic
namespace Go.Proofs.Ytaijhkfbfkdepaa.N4
open Go.ChangeShapes Go.WideShapes Go.ChangeAt Go.RowKit
set_option linter.unusedVariables false
set_option linter.unusedSimpArgs false

theorem int_info : (Try.prog.info? 3).map (fun i => (i.zero, i.size, i.bytes)) = some (some (.int .i64 0), 1, 8) := by kernel_rfl
theorem cells_new1 (w : World) (B : Nat) (hB : w.heap.size = B) (x : Value) (t : TypeId) : ∀ j u, [x][j]? = some u → (w.alloc (.cells #[x] t)).cell? ((⟨B, 0, none⟩ : Addr).add j) = some u := by
  subst hB
  intro j u hj
  have h := World.news_of_block (w := w.alloc (.cells #[x] t)) (B := w.heap.size) (cs := #[x]) (t := t) (fr := (0, 0)) (heap_alloc_new w _) j u
  exact h hj
theorem two_first {W W' : World} {B k : Nat} {e : TypeId} {l1 l2 : Value} {xs : List Value} {o : Obj} {g : Nat} (h2 : W.ownsRow B e 1 l2 k xs) (hne : l1.ownBlock = none ∨ l1.ownBlock ≠ l2.ownBlock)
    (hg : (W.alloc o).grownBy W' l1.ownBlock) (hat : l1.ownBlock = some g ∨ g = W.heap.size + 1) : W'.ownsRow B e 1 l2 k xs ∧ some g ≠ l2.ownBlock := by
  refine ⟨(h2.alloc o).kept hg ?_, ?_⟩
  · rcases hne with h | h
    · rw [h]; cases l2.ownBlock <;> simp
    · exact .inr (Ne.symm h)
  · rcases hat with h | h
    · rcases hne with h' | h'
      · rw [h] at h'; cases h'
      · rw [← h]; exact h'
    · intro e2
      have := (h2.lt g e2.symm).2
      omega
theorem two_second {W W' : World} {B k n : Nat} {e : TypeId} {l2 : Value} {xs : List Value} {o : Obj} {g cap g' : Nat} (h1 : W.ownsRow B e 1 (.slice (some ⟨g, 0, none⟩) k cap) n xs) (hne : some g ≠ l2.ownBlock)
    (hg : (W.alloc o).grownBy W' l2.ownBlock) (hat : l2.ownBlock = some g' ∨ g' = W.heap.size + 1) : W'.ownsRow B e 1 (.slice (some ⟨g, 0, none⟩) k cap) n xs ∧ (some g : Option Nat) ≠ some g' := by
  have hb : (Value.slice (some ⟨g, 0, none⟩) k cap).ownBlock = some g := rfl
  refine ⟨(h1.alloc o).kept hg (.inr (by rw [hb]; exact hne)), ?_⟩
  rcases hat with h | h
  · rw [← h]; exact hne
  · intro e2
    injection e2 with e2
    have := (h1.lt g hb).2
    omega
theorem nextF_true {E : List Ex} {x : Nd} {y : Ex} {a b : Int} (h : need E x.k = some (y, a, b)) (hr : (okK x.k && fitsF x.k x.n x.p && decide (x.a = a ∧ x.b = b)) = true) : nextF E x = some y := by
  rw [Bool.and_eq_true, Bool.and_eq_true, decide_eq_true_eq] at hr
  obtain ⟨⟨h1, h2⟩, h3, h4⟩ := hr
  subst h3 h4
  exact nextF_mk h1 h2 h
theorem nextF_false {E : List Ex} {x : Nd} {y : Ex} {a b : Int} (h : need E x.k = some (y, a, b)) (hr : (okK x.k && fitsF x.k x.n x.p && decide (x.a = a ∧ x.b = b)) = false) : nextF E x = none := by
  rw [Bool.and_eq_false_iff] at hr
  rcases hr with hr | hr
  · exact nextF_bad hr
  · rw [decide_eq_false_iff_not] at hr
    exact nextF_no h hr
def RPost (L : List Nd) (n : Nat) (w : World) (e : Ending) (w' : World) : Prop :=
  Below w.heap.size w w' ∧ ((extF L = none ∧ e = .returned (.tuple #[.slice none 0 0, .slice none 0 0, .bool false])) ∨
    ∃ E A1 c1 A2 c2, extF L = some E ∧ e = .returned (.tuple #[.slice A1 n c1, .slice A2 n c2, .bool (decide (∃ y, E[n - 1]? = some y ∧ y.s = n))]) ∧ Lies w' A1 (sCells E) ∧ Lies w' A2 (dCells E))
def RRel (L : List Nd) (w : World) (l1 l2 : Value) (k : Nat) (wr : World) : Prop :=
  ∃ E, extF (L.take k) = some E ∧ wr.ownsRow w.heap.size 3 1 l1 k (sCells E) ∧ wr.ownsRow w.heap.size 3 1 l2 k (dCells E) ∧ (l1.ownBlock = none ∨ l1.ownBlock ≠ l2.ownBlock) ∧ Below w.heap.size w wr
set_option maxRecDepth 100000 in
set_option maxHeartbeats 8000000 in
theorem rsizes_any (A : Option Addr) (c n : Nat) (L : List Nd) (w : World) (hn : L.length = n) (hL : n ≤ 60) (ht : Lies w A (ndCells L)) :
    Calls Try.prog 40 #[.slice A n c] w (RPost L n w) := by
  have HT := Lib.hid ht
  have HN := Lib.hid hn
  obtain ⟨i0, hi, hz0, hz1, hz2⟩ := info_parts int_info
  clear ht hn
  go_enter Try.func40, Try.ntmps40
  go_wp2
  go_loopw [5, 6, 7] (fun l1 l2 i wr => ∃ k : Nat, i = .int .i64 k ∧ k ≤ n ∧ RRel L w l1 l2 k wr) (fun _ _ i _ => n - (intOf i).toNat)
  case atStart =>
    exact ⟨0, rfl, Nat.zero_le _, [], rfl, World.ownsRow_nil _ _ _ _, World.ownsRow_nil _ _ _ _, .inl rfl, Below.refl _ _⟩
  case round =>
    obtain ⟨k, rfl, hk, E, hE, ho1, ho2, hne, hb⟩ := hrel
    obtain ⟨A1, c1, rfl, _, _⟩ := own_form ho1
    obtain ⟨A2, c2, rfl, _, _⟩ := own_form ho2
    have hEl := extF_length hE
    rw [List.length_take, HN.out, Nat.min_eq_left hk] at hEl
    have HEL := Lib.hid hEl
    have HO1 := Lib.hid ho1
    have HO2 := Lib.hid ho2
    have HNE := Lib.hid hne
    have HB := Lib.hid hb
    have HE := Lib.hid hE
    have HSZ := Lib.hid (extF_sz hE)
    clear ho1 ho2 hne hb hE hEl
    by_cases hlt : k < n
    · obtain ⟨x, hx⟩ : ∃ x, L[k]? = some x := ⟨_, List.getElem?_eq_getElem (by rw [HN.out]; exact hlt)⟩
      obtain ⟨ad, rfl, hadl, d0, d1, d2, d3, d4⟩ := (HT.out.below HB.out).nd hx
      have HXX := Lib.hid hx
      have HL1 := Lib.hid (show Lies wr A1 (sCells E) from Lies.of_own HO1.out (by intro h0; rw [List.eq_nil_of_length_eq_zero (HEL.out.trans h0)]; rfl))
      have HL2 := Lib.hid (show Lies wr A2 (dCells E) from Lies.of_own HO2.out (by intro h0; rw [List.eq_nil_of_length_eq_zero (HEL.out.trans h0)]; rfl))
      have j0 : (0 : Int) ≤ k := by omega
      have j1 : (k : Int) < n := by omega
      clear hx hadl
      have HCK := Lib.hid (cnt_vals x.k)
      by_cases h4 : x.k ≤ 4
      · have HCN := Lib.hid (fun w => show Calls Try.prog 48 #[.int .u8 x.k] w fun e w' => e = .returned (.int .i64 0) ∧ w = w' by have := count_any x.k w; rwa [show cnt x.k = 0 by have := HCK.out; omega] at this)
        have HND := Lib.hid (need_leaf (E := E) h4)
        obtain ⟨r, hr⟩ : ∃ r, (okK x.k && fitsF x.k x.n x.p && decide (x.a = 0 ∧ x.b = 0)) = r := ⟨_, rfl⟩
        have HR := Lib.hid (fun w => right_any x 0 0 r w hr)
        have HRR := Lib.hid hr
        clear hr h4
        cases r with
        | true =>
        obtain ⟨y, hy⟩ : ∃ y : Ex, y = ⟨1, 1⟩ := ⟨_, rfl⟩
        have HS := Lib.hid (extF_step HXX.out HE.out (nextF_true HND.out HRR.out))
        rw [← hy] at HS
        have HYS := Lib.hid (show ((y.s : Nat) : Int) = 1 by rw [hy]; rfl)
        have HYD := Lib.hid (show ((y.d : Nat) : Int) = 1 by rw [hy]; rfl)
        clear hy
        go_wp2_with (first
          | (go_at_call 48; refine (HCN.out _).mono ?_; rintro e w' ⟨rfl, rfl⟩)
          | (go_at_call 49; refine (HR.out _).mono ?_; rintro e w2 ⟨rfl, hb2⟩; have HO1r := Lib.hid (own_below HO1.out hb2); have HO2r := Lib.hid (own_below HO2.out hb2); have HBr := Lib.hid (HB.out.trans (hb2.mono HB.out.size)); clear hb2)
          | (at_builtin; refine wpList_append_lies _ rfl (.tmp 78) (.tmp 80) 23 rfl w.heap.size 3 i0 _ 1 8 Try.underlying23 hi hz0 hz1 hz2 rfl (by decide) _ k (sCells E) rfl (HO1r.out.alloc _) ⟨w2.heap.size, 0, none⟩ 1 1 [.int .i64 1] rfl rfl ?pa1 ?pa2 (by decide) ?pa3 ?pa4 ?pa5 (w2.heap.size + 1) ?pa6 ?_))
        case pa1 => exact cells_new1 w2 _ rfl _ _
        case pa2 => intro u hu; simp only [List.mem_cons, List.not_mem_nil, or_false] at hu; rcases hu with rfl; rfl
        case pa3 => unfold maxLen; omega
        case pa4 => omega
        case pa5 => have := HBr.out.size; simp; omega
        case pa6 => simp
        intro g1 cap1 w3 ho1 hg1 hat1 _
        obtain ⟨o2, ne2⟩ := two_first HO2r.out HNE.out hg1 hat1
        have HO1s := Lib.hid ho1
        have HO2s := Lib.hid o2
        have HNEs := Lib.hid ne2
        have HBs := Lib.hid ((HBr.out.alloc HBr.out.size _).grown hg1 (by have := HBr.out.size; simp; omega) (fun j hj => (HO1r.out.lt j hj).1))
        clear ho1 o2 ne2 hg1 hat1
        go_wp2_with (at_builtin; refine wpList_append_lies _ rfl (.tmp 82) (.tmp 84) 23 rfl w.heap.size 3 i0 _ 1 8 Try.underlying23 hi hz0 hz1 hz2 rfl (by decide) _ k (dCells E) rfl (HO2s.out.alloc _) ⟨w3.heap.size, 0, none⟩ 1 1 [.int .i64 1] rfl rfl ?pb1 ?pb2 (by decide) ?pb3 ?pb4 ?pb5 (w3.heap.size + 1) ?pb6 ?_)
        case pb1 => exact cells_new1 w3 _ rfl _ _
        case pb2 => intro u hu; simp only [List.mem_cons, List.not_mem_nil, or_false] at hu; rcases hu with rfl; rfl
        case pb3 => unfold maxLen; omega
        case pb4 => omega
        case pb5 => have := HBs.out.size; simp; omega
        case pb6 => simp
        intro g2 cap2 w4 ho2 hg2 hat2 _
        obtain ⟨o1, ne1⟩ := two_second HO1s.out HNEs.out hg2 hat2
        have HO1t := Lib.hid o1
        have HO2t := Lib.hid ho2
        have HNEt := Lib.hid ne1
        have HBt := Lib.hid ((HBs.out.alloc HBs.out.size _).grown hg2 (by have := HBs.out.size; simp; omega) (fun j hj => (HO2s.out.lt j hj).1))
        clear o1 ne1 ho2 hg2 hat2
        go_wp2
        go_roundw
        case rel =>
          refine ⟨k + 1, by go_num, by omega, E ++ [y], HS.out, ?_, ?_, .inr HNEt.out, HBt.out⟩
          · rw [sCells_snoc, HYS.out]; exact HO1t.out
          · rw [dCells_snoc, HYD.out]; exact HO2t.out
        case measure => simp [intOf]; omega
        | false =>
        have HX := Lib.hid (extF_none HXX.out HE.out (nextF_false HND.out HRR.out))
        go_wp2_with (first
          | (go_at_call 48; refine (HCN.out _).mono ?_; rintro e w' ⟨rfl, rfl⟩)
          | (go_at_call 49; refine (HR.out _).mono ?_; rintro e w2 ⟨rfl, hb2⟩))
        all_goals refine bodyPost_ret (v := .tuple #[.slice none 0 0, .slice none 0 0, .bool false]) (by simp [results, Try.results40, go_sem]) rfl ⟨HB.out.trans (hb2.mono HB.out.size), .inl ⟨HX.out, rfl⟩⟩
      · rcases Nat.eq_zero_or_pos k with hk0 | hk0
        · subst hk0
          have HX := Lib.hid (extF_none HXX.out HE.out (nextF_needNone (by rw [List.eq_nil_of_length_eq_zero HEL.out]; exact need_none_nil (by omega))))
          obtain ⟨q, hq, hq2⟩ : ∃ q : Int, cnt x.k = q ∧ 0 < q := ⟨_, rfl, by have := HCK.out; omega⟩
          have HCN := Lib.hid (fun w => show Calls Try.prog 48 #[.int .u8 x.k] w fun e w' => e = .returned (.int .i64 q) ∧ w = w' by have := count_any x.k w; rwa [hq] at this)
          simp only [Nat.zero_mul, Addr.add_zero'] at d0
          clear hq h4 d1 d2 d3 d4
          go_wp2_with (go_at_call 48; refine (HCN.out _).mono ?_; rintro e w' ⟨rfl, rfl⟩)
          refine bodyPost_ret (v := .tuple #[.slice none 0 0, .slice none 0 0, .bool false]) (by simp [results, Try.results40, go_sem]) rfl ⟨HB.out, .inl ⟨HX.out, rfl⟩⟩
        · obtain ⟨m, rfl⟩ : ∃ m, k = m + 1 := ⟨k - 1, by omega⟩
          obtain ⟨e, he⟩ : ∃ e, E[m]? = some e := ⟨_, List.getElem?_eq_getElem (by rw [HEL.out]; omega)⟩
          have hee : E[E.length - 1]? = some e := by rw [HEL.out, Nat.add_sub_cancel]; exact he
          obtain ⟨ad1, rfl, _, g0⟩ := HL1.out.one (k := m) (u := .int .i64 (e.s : Nat)) (by rw [sCells, List.getElem?_map, he]; rfl)
          obtain ⟨ad2, rfl, _, g1⟩ := HL2.out.one (k := m) (u := .int .i64 (e.d : Nat)) (by rw [dCells, List.getElem?_map, he]; rfl)
          obtain ⟨z1, z2, z3, z4⟩ := HSZ.out _ _ he
          obtain ⟨es, hes⟩ : ∃ es, e.s = es := ⟨_, rfl⟩
          obtain ⟨ed, hed⟩ : ∃ ed, e.d = ed := ⟨_, rfl⟩
          rw [hes] at z1 z2 z4 g0
          rw [hed] at z3 z4 g1
          have hE0 : (E.length : Int) - 1 = m := by rw [HEL.out]; omega
          by_cases h6 : x.k ≤ 6
          · have HCN := Lib.hid (fun w => show Calls Try.prog 48 #[.int .u8 x.k] w fun e w' => e = .returned (.int .i64 1) ∧ w = w' by have := count_any x.k w; rwa [show cnt x.k = 1 by have := HCK.out; omega] at this)
            have HND := Lib.hid (need_one (by omega) h6 hee)
            rw [hE0, hes, hed] at HND
            obtain ⟨r, hr⟩ : ∃ r, (okK x.k && fitsF x.k x.n x.p && decide (x.a = m ∧ x.b = 0)) = r := ⟨_, rfl⟩
            have HR := Lib.hid (fun w => right_any x m 0 r w hr)
            have HRR := Lib.hid hr
            have q4 : es ≤ 60 := by omega
            have q5 : ed ≤ 60 := by omega
            clear hr h4 h6 he hee hE0 hes hed
            cases r with
            | true =>
            obtain ⟨y, hy⟩ : ∃ y : Ex, y = ⟨1 + es, ed + 1⟩ := ⟨_, rfl⟩
            have HS := Lib.hid (extF_step HXX.out HE.out (nextF_true HND.out HRR.out))
            rw [← hy] at HS
            have HYS := Lib.hid (show ((y.s : Nat) : Int) = 1 + es by rw [hy]; simp)
            have HYD := Lib.hid (show ((y.d : Nat) : Int) = 1 + ed by rw [hy]; simp; omega)
            clear hy
            go_wp2_with (first
              | (go_at_call 48; refine (HCN.out _).mono ?_; rintro e w' ⟨rfl, rfl⟩)
              | (go_at_call 49; refine (HR.out _).mono ?_; rintro e w2 ⟨rfl, hb2⟩; have HO1r := Lib.hid (own_below HO1.out hb2); have HO2r := Lib.hid (own_below HO2.out hb2); have HBr := Lib.hid (HB.out.trans (hb2.mono HB.out.size)); clear hb2)
              | (at_builtin; refine wpList_append_lies _ rfl (.tmp 78) (.tmp 80) 23 rfl w.heap.size 3 i0 _ 1 8 Try.underlying23 hi hz0 hz1 hz2 rfl (by decide) _ (m + 1) (sCells E) rfl (HO1r.out.alloc _) ⟨w2.heap.size, 0, none⟩ 1 1 [.int .i64 (1 + es)] rfl rfl ?qa1 ?qa2 (by decide) ?qa3 ?qa4 ?qa5 (w2.heap.size + 1) ?qa6 ?_))
            case qa1 => exact cells_new1 w2 _ rfl _ _
            case qa2 => intro u hu; simp only [List.mem_cons, List.not_mem_nil, or_false] at hu; rcases hu with rfl; rfl
            case qa3 => unfold maxLen; omega
            case qa4 => omega
            case qa5 => have := HBr.out.size; simp; omega
            case qa6 => simp
            intro g1 cap1 w3 ho1 hg1 hat1 _
            obtain ⟨o2, ne2⟩ := two_first HO2r.out HNE.out hg1 hat1
            have HO1s := Lib.hid ho1
            have HO2s := Lib.hid o2
            have HNEs := Lib.hid ne2
            have HBs := Lib.hid ((HBr.out.alloc HBr.out.size _).grown hg1 (by have := HBr.out.size; simp; omega) (fun j hj => (HO1r.out.lt j hj).1))
            clear ho1 o2 ne2 hg1 hat1
            go_wp2_with (at_builtin; refine wpList_append_lies _ rfl (.tmp 82) (.tmp 84) 23 rfl w.heap.size 3 i0 _ 1 8 Try.underlying23 hi hz0 hz1 hz2 rfl (by decide) _ (m + 1) (dCells E) rfl (HO2s.out.alloc _) ⟨w3.heap.size, 0, none⟩ 1 1 [.int .i64 (1 + ed)] rfl rfl ?qb1 ?qb2 (by decide) ?qb3 ?qb4 ?qb5 (w3.heap.size + 1) ?qb6 ?_)
            case qb1 => exact cells_new1 w3 _ rfl _ _
            case qb2 => intro u hu; simp only [List.mem_cons, List.not_mem_nil, or_false] at hu; rcases hu with rfl; rfl
            case qb3 => unfold maxLen; omega
            case qb4 => omega
            case qb5 => have := HBs.out.size; simp; omega
            case qb6 => simp
            intro g2 cap2 w4 ho2 hg2 hat2 _
            obtain ⟨o1, ne1⟩ := two_second HO1s.out HNEs.out hg2 hat2
            have HO1t := Lib.hid o1
            have HO2t := Lib.hid ho2
            have HNEt := Lib.hid ne1
            have HBt := Lib.hid ((HBs.out.alloc HBs.out.size _).grown hg2 (by have := HBs.out.size; simp; omega) (fun j hj => (HO2s.out.lt j hj).1))
            clear o1 ne1 ho2 hg2 hat2
            go_wp2
            go_roundw
            case rel =>
              refine ⟨(m + 1) + 1, by go_num, by omega, E ++ [y], HS.out, ?_, ?_, .inr HNEt.out, HBt.out⟩
              · rw [sCells_snoc, HYS.out]; exact HO1t.out
              · rw [dCells_snoc, HYD.out]; exact HO2t.out
            case measure => simp [intOf]; omega
            | false =>
            have HX := Lib.hid (extF_none HXX.out HE.out (nextF_false HND.out HRR.out))
            go_wp2_with (first
              | (go_at_call 48; refine (HCN.out _).mono ?_; rintro e w' ⟨rfl, rfl⟩)
              | (go_at_call 49; refine (HR.out _).mono ?_; rintro e w2 ⟨rfl, hb2⟩))
            all_goals refine bodyPost_ret (v := .tuple #[.slice none 0 0, .slice none 0 0, .bool false]) (by simp [results, Try.results40, go_sem]) rfl ⟨HB.out.trans (hb2.mono HB.out.size), .inl ⟨HX.out, rfl⟩⟩
          · have HCN := Lib.hid (fun w => show Calls Try.prog 48 #[.int .u8 x.k] w fun e w' => e = .returned (.int .i64 2) ∧ w = w' by have := count_any x.k w; rwa [show cnt x.k = 2 by have := HCK.out; omega] at this)
            by_cases hs : m < es
            · have HX := Lib.hid (extF_none HXX.out HE.out (nextF_needNone (need_none_big (by omega) hee (by rw [hes, HEL.out]; omega))))
              have q6 : (m : Int) - es < 0 := by omega
              have q4 : es ≤ 60 := by omega
              clear h4 h6 he hee hE0 hes hed
              go_wp2_with (go_at_call 48; refine (HCN.out _).mono ?_; rintro e w' ⟨rfl, rfl⟩)
              refine bodyPost_ret (v := .tuple #[.slice none 0 0, .slice none 0 0, .bool false]) (by simp [results, Try.results40, go_sem]) rfl ⟨HB.out, .inl ⟨HX.out, rfl⟩⟩
            · obtain ⟨q, rfl⟩ : ∃ q, m = q + es := ⟨m - es, by omega⟩
              obtain ⟨f, hf⟩ : ∃ f, E[q]? = some f := ⟨_, List.getElem?_eq_getElem (by rw [HEL.out]; omega)⟩
              have HND := Lib.hid (need_two (k := x.k) (E := E) (e := e) (f := f) (by omega) hee (by rw [HEL.out, hes]; omega) (by rw [HEL.out, hes, show q + es + 1 - 1 - es = q by omega]; exact hf))
              obtain ⟨_, ha1, _, g2⟩ := HL1.out.one (k := q) (u := .int .i64 (f.s : Nat)) (by rw [sCells, List.getElem?_map, hf]; rfl)
              obtain ⟨_, ha2, _, g3⟩ := HL2.out.one (k := q) (u := .int .i64 (f.d : Nat)) (by rw [dCells, List.getElem?_map, hf]; rfl)
              injection ha1 with ha1
              injection ha2 with ha2
              subst ha1 ha2
              obtain ⟨y1, y2, y3, y4⟩ := HSZ.out _ _ hf
              obtain ⟨fs, hfs⟩ : ∃ fs, f.s = fs := ⟨_, rfl⟩
              obtain ⟨fd, hfd⟩ : ∃ fd, f.d = fd := ⟨_, rfl⟩
              rw [hE0, hes, hed, hfs, hfd, show ((q + es : Nat) : Int) - es = q by omega, show ((q + es : Nat) : Int) = (q : Int) + es by omega] at HND
              rw [hfs] at y1 y2 y4 g2
              rw [hfd] at y3 y4 g3
              obtain ⟨r, hr⟩ : ∃ r, (okK x.k && fitsF x.k x.n x.p && decide (x.a = q ∧ x.b = (q : Int) + es)) = r := ⟨_, rfl⟩
              have HR := Lib.hid (fun w => right_any x q ((q : Int) + es) r w hr)
              have HRR := Lib.hid hr
              have q4 : es ≤ 60 := by omega
              have q5 : ed ≤ 60 := by omega
              have q4' : fs ≤ 60 := by omega
              have q5' : fd ≤ 60 := by omega
              clear hr h4 h6 he hee hE0 hes hed hf hfs hfd hs
              cases r with
              | true =>
              have HS0 := Lib.hid (extF_step HXX.out HE.out (nextF_true HND.out HRR.out))
              by_cases hx : ed < fd
              · obtain ⟨y, hy⟩ : ∃ y : Ex, y = ⟨1 + es + fs, max (ed + 1) (fd + 1)⟩ := ⟨_, rfl⟩
                have HS := Lib.hid (HS0.out)
                rw [← hy] at HS
                have HYS := Lib.hid (show ((y.s : Nat) : Int) = 1 + es + fs by rw [hy]; simp)
                have HYD := Lib.hid (show ((y.d : Nat) : Int) = 1 + fd by rw [hy]; simp only; omega)
                clear hy
                go_wp2_with (first
                  | (go_at_call 48; refine (HCN.out _).mono ?_; rintro e w' ⟨rfl, rfl⟩)
                  | (go_at_call 49; refine (HR.out _).mono ?_; rintro e w2 ⟨rfl, hb2⟩; have HO1r := Lib.hid (own_below HO1.out hb2); have HO2r := Lib.hid (own_below HO2.out hb2); have HBr := Lib.hid (HB.out.trans (hb2.mono HB.out.size)); clear hb2)
                  | (at_builtin; refine wpList_append_lies _ rfl (.tmp 78) (.tmp 80) 23 rfl w.heap.size 3 i0 _ 1 8 Try.underlying23 hi hz0 hz1 hz2 rfl (by decide) _ (q + es + 1) (sCells E) rfl (HO1r.out.alloc _) ⟨w2.heap.size, 0, none⟩ 1 1 [.int .i64 (1 + es + fs)] rfl rfl ?sa1 ?sa2 (by decide) ?sa3 ?sa4 ?sa5 (w2.heap.size + 1) ?sa6 ?_))
                case sa1 => exact cells_new1 w2 _ rfl _ _
                case sa2 => intro u hu; simp only [List.mem_cons, List.not_mem_nil, or_false] at hu; rcases hu with rfl; rfl
                case sa3 => unfold maxLen; omega
                case sa4 => omega
                case sa5 => have := HBr.out.size; simp; omega
                case sa6 => simp
                intro g1 cap1 w3 ho1 hg1 hat1 _
                obtain ⟨o2, ne2⟩ := two_first HO2r.out HNE.out hg1 hat1
                have HO1s := Lib.hid ho1
                have HO2s := Lib.hid o2
                have HNEs := Lib.hid ne2
                have HBs := Lib.hid ((HBr.out.alloc HBr.out.size _).grown hg1 (by have := HBr.out.size; simp; omega) (fun j hj => (HO1r.out.lt j hj).1))
                clear ho1 o2 ne2 hg1 hat1
                go_wp2_with (at_builtin; refine wpList_append_lies _ rfl (.tmp 82) (.tmp 84) 23 rfl w.heap.size 3 i0 _ 1 8 Try.underlying23 hi hz0 hz1 hz2 rfl (by decide) _ (q + es + 1) (dCells E) rfl (HO2s.out.alloc _) ⟨w3.heap.size, 0, none⟩ 1 1 [.int .i64 (1 + fd)] rfl rfl ?sb1 ?sb2 (by decide) ?sb3 ?sb4 ?sb5 (w3.heap.size + 1) ?sb6 ?_)
                case sb1 => exact cells_new1 w3 _ rfl _ _
                case sb2 => intro u hu; simp only [List.mem_cons, List.not_mem_nil, or_false] at hu; rcases hu with rfl; rfl
                case sb3 => unfold maxLen; omega
                case sb4 => omega
                case sb5 => have := HBs.out.size; simp; omega
                case sb6 => simp
                intro g2 cap2 w4 ho2 hg2 hat2 _
                obtain ⟨o1, ne1⟩ := two_second HO1s.out HNEs.out hg2 hat2
                have HO1t := Lib.hid o1
                have HO2t := Lib.hid ho2
                have HNEt := Lib.hid ne1
                have HBt := Lib.hid ((HBs.out.alloc HBs.out.size _).grown hg2 (by have := HBs.out.size; simp; omega) (fun j hj => (HO2s.out.lt j hj).1))
                clear o1 ne1 ho2 hg2 hat2
                go_wp2
                go_roundw
                case rel =>
                  refine ⟨(q + es + 1) + 1, by go_num, by omega, E ++ [y], HS.out, ?_, ?_, .inr HNEt.out, HBt.out⟩
                  · rw [sCells_snoc, HYS.out]; exact HO1t.out
                  · rw [dCells_snoc, HYD.out]; exact HO2t.out
                case measure => simp [intOf]; omega
              · obtain ⟨y, hy⟩ : ∃ y : Ex, y = ⟨1 + es + fs, max (ed + 1) (fd + 1)⟩ := ⟨_, rfl⟩
                have HS := Lib.hid (HS0.out)
                rw [← hy] at HS
                have HYS := Lib.hid (show ((y.s : Nat) : Int) = 1 + es + fs by rw [hy]; simp)
                have HYD := Lib.hid (show ((y.d : Nat) : Int) = 1 + ed by rw [hy]; simp only; omega)
                clear hy
                go_wp2_with (first
                  | (go_at_call 48; refine (HCN.out _).mono ?_; rintro e w' ⟨rfl, rfl⟩)
                  | (go_at_call 49; refine (HR.out _).mono ?_; rintro e w2 ⟨rfl, hb2⟩; have HO1r := Lib.hid (own_below HO1.out hb2); have HO2r := Lib.hid (own_below HO2.out hb2); have HBr := Lib.hid (HB.out.trans (hb2.mono HB.out.size)); clear hb2)
                  | (at_builtin; refine wpList_append_lies _ rfl (.tmp 78) (.tmp 80) 23 rfl w.heap.size 3 i0 _ 1 8 Try.underlying23 hi hz0 hz1 hz2 rfl (by decide) _ (q + es + 1) (sCells E) rfl (HO1r.out.alloc _) ⟨w2.heap.size, 0, none⟩ 1 1 [.int .i64 (1 + es + fs)] rfl rfl ?ta1 ?ta2 (by decide) ?ta3 ?ta4 ?ta5 (w2.heap.size + 1) ?ta6 ?_))
                case ta1 => exact cells_new1 w2 _ rfl _ _
                case ta2 => intro u hu; simp only [List.mem_cons, List.not_mem_nil, or_false] at hu; rcases hu with rfl; rfl
                case ta3 => unfold maxLen; omega
                case ta4 => omega
                case ta5 => have := HBr.out.size; simp; omega
                case ta6 => simp
                intro g1 cap1 w3 ho1 hg1 hat1 _
                obtain ⟨o2, ne2⟩ := two_first HO2r.out HNE.out hg1 hat1
                have HO1s := Lib.hid ho1
                have HO2s := Lib.hid o2
                have HNEs := Lib.hid ne2
                have HBs := Lib.hid ((HBr.out.alloc HBr.out.size _).grown hg1 (by have := HBr.out.size; simp; omega) (fun j hj => (HO1r.out.lt j hj).1))
                clear ho1 o2 ne2 hg1 hat1
                go_wp2_with (at_builtin; refine wpList_append_lies _ rfl (.tmp 82) (.tmp 84) 23 rfl w.heap.size 3 i0 _ 1 8 Try.underlying23 hi hz0 hz1 hz2 rfl (by decide) _ (q + es + 1) (dCells E) rfl (HO2s.out.alloc _) ⟨w3.heap.size, 0, none⟩ 1 1 [.int .i64 (1 + ed)] rfl rfl ?tb1 ?tb2 (by decide) ?tb3 ?tb4 ?tb5 (w3.heap.size + 1) ?tb6 ?_)
                case tb1 => exact cells_new1 w3 _ rfl _ _
                case tb2 => intro u hu; simp only [List.mem_cons, List.not_mem_nil, or_false] at hu; rcases hu with rfl; rfl
                case tb3 => unfold maxLen; omega
                case tb4 => omega
                case tb5 => have := HBs.out.size; simp; omega
                case tb6 => simp
                intro g2 cap2 w4 ho2 hg2 hat2 _
                obtain ⟨o1, ne1⟩ := two_second HO1s.out HNEs.out hg2 hat2
                have HO1t := Lib.hid o1
                have HO2t := Lib.hid ho2
                have HNEt := Lib.hid ne1
                have HBt := Lib.hid ((HBs.out.alloc HBs.out.size _).grown hg2 (by have := HBs.out.size; simp; omega) (fun j hj => (HO2s.out.lt j hj).1))
                clear o1 ne1 ho2 hg2 hat2
                go_wp2
                go_roundw
                case rel =>
                  refine ⟨(q + es + 1) + 1, by go_num, by omega, E ++ [y], HS.out, ?_, ?_, .inr HNEt.out, HBt.out⟩
                  · rw [sCells_snoc, HYS.out]; exact HO1t.out
                  · rw [dCells_snoc, HYD.out]; exact HO2t.out
                case measure => simp [intOf]; omega
              | false =>
              have HX := Lib.hid (extF_none HXX.out HE.out (nextF_false HND.out HRR.out))
              go_wp2_with (first
                | (go_at_call 48; refine (HCN.out _).mono ?_; rintro e w' ⟨rfl, rfl⟩)
                | (go_at_call 49; refine (HR.out _).mono ?_; rintro e w2 ⟨rfl, hb2⟩))
              all_goals refine bodyPost_ret (v := .tuple #[.slice none 0 0, .slice none 0 0, .bool false]) (by simp [results, Try.results40, go_sem]) rfl ⟨HB.out.trans (hb2.mono HB.out.size), .inl ⟨HX.out, rfl⟩⟩
    · obtain rfl : k = n := by omega
      have HE2 := Lib.hid (show extF L = some E by have := HE.out; rwa [List.take_of_length_le (by rw [HN.out]; exact Nat.le_refl _)] at this)
      have HL1 := Lib.hid (show Lies wr A1 (sCells E) from Lies.of_own HO1.out (by intro h0; rw [List.eq_nil_of_length_eq_zero (HEL.out.trans h0)]; rfl))
      have HL2 := Lib.hid (show Lies wr A2 (dCells E) from Lies.of_own HO2.out (by intro h0; rw [List.eq_nil_of_length_eq_zero (HEL.out.trans h0)]; rfl))
      rcases Nat.eq_zero_or_pos k with h0 | h0
      · subst h0
        have HD := Lib.hid (show decide (∃ y, E[0 - 1]? = some y ∧ y.s = 0) = false by rw [List.eq_nil_of_length_eq_zero HEL.out]; simp)
        go_wp2
        go_quiet (fail)
        go_wp2
        refine bodyPost_ret (v := .tuple #[.slice A1 0 c1, .slice A2 0 c2, .bool false]) (by simp [results, Try.results40, go_sem]) rfl ⟨Below.drewN' HB.out _, .inr ⟨E, A1, c1, A2, c2, HE2.out, by rw [HD.out], HL1.out, HL2.out⟩⟩
      · obtain ⟨m, rfl⟩ : ∃ m, k = m + 1 := ⟨k - 1, by omega⟩
        obtain ⟨e, he⟩ : ∃ e, E[m]? = some e := ⟨_, List.getElem?_eq_getElem (by rw [HEL.out]; omega)⟩
        obtain ⟨ad1, rfl, _, g0⟩ := HL1.out.one (k := m) (u := .int .i64 (e.s : Nat)) (by rw [sCells, List.getElem?_map, he]; rfl)
        have HD := Lib.hid (show decide (∃ y, E[m + 1 - 1]? = some y ∧ y.s = m + 1) = decide (e.s = m + 1) by rw [Nat.add_sub_cancel, he]; simp)
        obtain ⟨es, hes⟩ : ∃ es, e.s = es := ⟨_, rfl⟩
        rw [hes] at g0 HD
        have j1 : (0 : Int) ≤ m := by omega
        have j2 : (m : Int) < (m : Int) + 1 := by omega
        have j3 : (0 : Int) < (m : Int) + 1 := by omega
        clear he hes
        by_cases hs : es = m + 1
        · have HD2 := Lib.hid (HD.out.trans (decide_eq_true hs))
          have e1 : ((es : Int) == (m : Int) + 1) = true := by simp; omega
          clear hs
          go_wp2
          go_quiet (fail)
          go_wp2
          refine bodyPost_ret (v := .tuple #[.slice (some ad1) (m + 1) c1, .slice A2 (m + 1) c2, .bool true]) (by simp [results, Try.results40, go_sem]) rfl ⟨Below.drewN' HB.out _, .inr ⟨E, _, c1, A2, c2, HE2.out, by rw [HD2.out], HL1.out, HL2.out⟩⟩
        · have HD2 := Lib.hid (HD.out.trans (decide_eq_false hs))
          have e1 : ((es : Int) == (m : Int) + 1) = false := by simp; omega
          clear hs
          go_wp2
          go_quiet (fail)
          go_wp2
          refine bodyPost_ret (v := .tuple #[.slice (some ad1) (m + 1) c1, .slice A2 (m + 1) c2, .bool false]) (by simp [results, Try.results40, go_sem]) rfl ⟨Below.drewN' HB.out _, .inr ⟨E, _, c1, A2, c2, HE2.out, by rw [HD2.out], HL1.out, HL2.out⟩⟩
end Go.Proofs.Ytaijhkfbfkdepaa.N4
