
/- The contract of the reference's Made. -/
import Derived.Test.YtajchaknfkfljaaDoorKRef
import Derived.Test.YtajchaknfkfljaaDoorNB
namespace Go.Proofs.YtajchaknfkfljaaDoor.K6
open Go.ChangeShapes Go.WideShapes Go.ChangeAt Go.RowKit N4
set_option linter.unusedVariables false
set_option linter.unusedSimpArgs false
set_option maxRecDepth 100000

def catS (M P : List Nd) : List Nd := M ++ P.map (shift (M.length : Int))
def catF (Ps : List (List Nd)) : List Nd := Ps.foldl catS []
theorem catF_succ {Ps : List (List Nd)} {i : Nat} {P : List Nd} (h : Ps[i]? = some P) : catF (Ps.take (i + 1)) = catS (catF (Ps.take i)) P := by
  obtain ⟨hlt, e⟩ := List.getElem?_eq_some_iff.1 h
  unfold catF
  rw [List.take_succ_eq_append_getElem hlt, List.foldl_append, e]
  rfl
def aF (Ps : List (List Nd)) (i : Nat) : Int := if i = 0 then 0 else ((catF (Ps.take 1)).length : Int) - 1
def bF (Ps : List (List Nd)) (i : Nat) : Int := if i ≤ 1 then 0 else ((catF (Ps.take i)).length : Int) - 1
/-- In the midst of Made: the list so far is M, the node's A and B are a and b. -/
def MdSt (w : World) (k nn p a b : Int) (out : Value) (n : Nat) (M : List Nd) (W : World) : Prop :=
  W.ownsRow (w.heap.size + 1) 31 5 out n (ndCells M) ∧ M.length = n ∧ Below w.heap.size w W ∧ w.heap.size < W.heap.size ∧
  W.cell? ⟨w.heap.size, 0, none⟩ = some (.int .u8 k) ∧ W.cell? ⟨w.heap.size, 1, none⟩ = some (.int .i64 nn) ∧ W.cell? ⟨w.heap.size, 2, none⟩ = some (.int .i64 a) ∧ W.cell? ⟨w.heap.size, 3, none⟩ = some (.int .i64 b) ∧ W.cell? ⟨w.heap.size, 4, none⟩ = some (.int .i64 p) ∧
  W.frozen? ⟨w.heap.size, 2, none⟩ = false ∧ W.frozen? ⟨w.heap.size, 3, none⟩ = false
theorem MdSt.start (w : World) (k nn p : Int) (t : TypeId) : MdSt w k nn p 0 0 (.slice none 0 0) 0 [] (w.alloc (.cells #[.int .u8 k, .int .i64 nn, .int .i64 0, .int .i64 0, .int .i64 p] t)) := by
  refine ⟨World.ownsRow_nil _ _ _ _, rfl, (Below.refl _ _).alloc (Nat.le_refl _) _, by simp, by go_simp, by go_simp, by go_simp, by go_simp, by go_simp, by go_simp, by go_simp⟩
theorem MdSt.grown {w W W' : World} {k nn p a b : Int} {out : Value} {n N g cap : Nat} {M M' : List Nd} (h : MdSt w k nn p a b out n M W)
    (ho : W'.ownsRow (w.heap.size + 1) 31 5 (.slice (some ⟨g, 0, none⟩) N cap) N (ndCells M ++ ndCells M')) (hN : N = n + M'.length) {W1 : World} (hb : Below W.heap.size W W1) (hg : W1.grownBy W' out.ownBlock) :
    MdSt w k nn p a b (.slice (some ⟨g, 0, none⟩) N cap) N (M ++ M') W' := by
  obtain ⟨h1, h2, h3, h4, c0, c1, c2, c3, c4, f2, f3⟩ := h
  have hne : ∀ j, out.ownBlock = some j → j ≠ w.heap.size := fun j hj e => by have := (h1.lt j hj).1; omega
  have hne' : (some w.heap.size : Option Nat) ≠ out.ownBlock := fun e => hne _ e.symm rfl
  have h4' : w.heap.size < W1.heap.size := Nat.lt_of_lt_of_le h4 hb.size
  have cc : ∀ o v, W.cell? ⟨w.heap.size, o, none⟩ = some v → W'.cell? ⟨w.heap.size, o, none⟩ = some v := fun o v hv => hg.cell ((hb.cell (p := ⟨w.heap.size, o, none⟩) h4).trans hv) hne'
  have ff : ∀ o, W.frozen? ⟨w.heap.size, o, none⟩ = false → W'.frozen? ⟨w.heap.size, o, none⟩ = false := fun o hv => by
    rw [hg.frozen_far ⟨w.heap.size, o, none⟩ h4' hne', hb.frozen (p := ⟨w.heap.size, o, none⟩) h4]; exact hv
  refine ⟨by rw [ndCells_append]; exact ho, by rw [List.length_append, h2, hN], (h3.trans (hb.mono h3.size)).grown hg (Nat.le_trans h3.size hb.size) (fun j hj => by have := (h1.lt j hj).1; omega), Nat.lt_of_lt_of_le h4' hg.size, cc _ _ c0, cc _ _ c1, cc _ _ c2, cc _ _ c3, cc _ _ c4, ff _ f2, ff _ f3⟩
theorem MdSt.setA {w W : World} {k nn p a b : Int} {out : Value} {n : Nat} {M : List Nd} (h : MdSt w k nn p a b out n M W) (v : Int) : MdSt w k nn p v b out n M (W.setCell ⟨w.heap.size, 2, none⟩ (.int .i64 v)) := by
  obtain ⟨h1, h2, h3, h4, c0, c1, c2, c3, c4, f2, f3⟩ := h
  have hne : out.ownBlock ≠ some w.heap.size := fun e => by have := (h1.lt _ e).1; omega
  exact ⟨ownsRow_setCell_other h1 hne _, h2, h3.setCell (Nat.le_refl _) _, by simpa using h4, by go_simp, by go_simp, by go_simp, by go_simp, by go_simp, by go_simp, by go_simp⟩
theorem MdSt.setB {w W : World} {k nn p a b : Int} {out : Value} {n : Nat} {M : List Nd} (h : MdSt w k nn p a b out n M W) (v : Int) : MdSt w k nn p a v out n M (W.setCell ⟨w.heap.size, 3, none⟩ (.int .i64 v)) := by
  obtain ⟨h1, h2, h3, h4, c0, c1, c2, c3, c4, f2, f3⟩ := h
  have hne : out.ownBlock ≠ some w.heap.size := fun e => by have := (h1.lt _ e).1; omega
  exact ⟨ownsRow_setCell_other h1 hne _, h2, h3.setCell (Nat.le_refl _) _, by simpa using h4, by go_simp, by go_simp, by go_simp, by go_simp, by go_simp, by go_simp, by go_simp⟩
/-! the walk -/
def MdPost (w : World) (M : List Nd) (n : Nat) (e : Ending) (w' : World) : Prop := ∃ A c, e = .returned (.slice A n c) ∧ Lies w' A (ndCells M) ∧ Below w.heap.size w w' ∧ n ≤ c
theorem parts_small {P : List Nd} {m0 : Nat} (hc : checkF P = 0) (hm : m0 ≤ 100) : ∀ x ∈ P, Sm (m0 : Int) x := by
  obtain ⟨E, hg⟩ := checkF_zero hc
  exact sm_of hg _ (by omega) (by omega)
theorem inner_succ {P M0 : List Nd} {k : Nat} {y : Nd} (h : P[k]? = some y) : M0 ++ (P.map (shift (M0.length : Int))).take (k + 1) = M0 ++ (P.map (shift (M0.length : Int))).take k ++ [shift (M0.length : Int) y] := by
  rw [← List.map_take, ← List.map_take, (extF_split h).2, List.map_append, List.append_assoc]
  rfl
theorem catF_le {Ps : List (List Nd)} (h : ∀ P ∈ Ps, P.length ≤ 10) : ∀ i, (catF (Ps.take i)).length ≤ 10 * i := by
  intro i
  induction i with
  | zero => simp [catF]
  | succ i ih =>
    rcases Nat.lt_or_ge i Ps.length with hi | hi
    · have hx : Ps[i]? = some Ps[i] := List.getElem?_eq_getElem hi
      rw [catF_succ hx, catS, List.length_append, List.length_map]
      have := h _ (List.getElem_mem hi)
      omega
    · rw [List.take_of_length_le (by omega)]
      rw [List.take_of_length_le (by omega)] at ih
      omega
set_option maxHeartbeats 8000000 in
theorem rmade_any (PA : Option Addr) (pc m : Nat) (us : List Value) (Ps : List (List Nd)) (kk nn p : Int) (w : World) (hm : us.length = m) (hm2 : Ps.length = m) (hm3 : m ≤ 2) (hl : Lies w PA us) (he : ∀ (i : Nat) (u : Value) (P : List Nd), us[i]? = some u → Ps[i]? = some P → ExprAt w u P) (hck : ∀ P ∈ Ps, checkF P = 0) (hs : ∀ P ∈ Ps, P.length ≤ 10) (N : Nat) (hN : (catF Ps).length + 1 = N) :
    Calls Tryd.prog 14 #[.int .u8 kk, .int .i64 nn, .int .i64 p, .slice PA m pc] w (MdPost w (catF Ps ++ [⟨kk, nn, aF Ps m, bF Ps m, p⟩]) N) := by
  have HL := Lib.hid hl
  have HE := Lib.hid he
  have HCK := Lib.hid hck
  have HS := Lib.hid hs
  have HM := Lib.hid hm
  have HM2 := Lib.hid hm2
  have HNN := Lib.hid hN
  have HLE := Lib.hid (catF_le hs)
  obtain ⟨i0, hi, hz0, hz1, hz2⟩ := info_parts nd_info
  clear hl he hck hs hm hm2 hN
  go_enter Tryd.func14, Tryd.ntmps14
  go_wp2
  go_loopw [9, 11] (fun out iv wr => ∃ i : Nat, iv = .int .i64 i ∧ i ≤ m ∧ Hid (MdSt w kk nn p (aF Ps i) (bF Ps i) out (catF (Ps.take i)).length (catF (Ps.take i)) wr)) (fun _ iv _ => m - (intOf iv).toNat)
  case atStart => exact ⟨0, rfl, Nat.zero_le _, Lib.hid (MdSt.start w kk nn p _)⟩
  case round =>
    obtain ⟨i, rfl, him, HD⟩ := hrel
    have hi := hi
    obtain ⟨M0, hM0⟩ : ∃ M0, catF (Ps.take i) = M0 := ⟨_, rfl⟩
    obtain ⟨m0, hm0⟩ : ∃ m0, M0.length = m0 := ⟨_, rfl⟩
    have HM0 := Lib.hid hM0
    have HMM := Lib.hid hm0
    have hm0l : m0 ≤ 20 := by have := HLE.out i; rw [hM0, hm0] at this; omega
    rw [hM0, hm0] at HD
    obtain ⟨A', c', rfl, _, _⟩ := own_form HD.out.1
    clear hM0 hm0
    by_cases hlt : i < m
    · obtain ⟨u, hu⟩ : ∃ u, us[i]? = some u := ⟨_, List.getElem?_eq_getElem (by rw [HM.out]; exact hlt)⟩
      obtain ⟨P, hP⟩ : ∃ P, Ps[i]? = some P := ⟨_, List.getElem?_eq_getElem (by rw [HM2.out]; exact hlt)⟩
      obtain ⟨A, c, rfl, hlP, hmP⟩ := HE.out i u P hu hP
      have HU := Lib.hid hu
      have HP := Lib.hid hP
      have HLP := Lib.hid hlP
      obtain ⟨pad, rfl, hpl, p0⟩ := (HL.out.below HD.out.2.2.1).one hu
      obtain ⟨n, hn⟩ : ∃ n, P.length = n := ⟨_, rfl⟩
      have HPN := Lib.hid hn
      have hn10 : n ≤ 10 := by rw [← hn]; exact HS.out P (List.mem_of_getElem? hP)
      rw [hn] at p0 hmP HU
      have HSM := Lib.hid (parts_small (m0 := m0) (HCK.out P (List.mem_of_getElem? hP)) (by omega))
      obtain ⟨_, _, hb0, hlt0, c0, c1, c2, c3, c4, f2, f3⟩ := HD.out
      have hpab : (pad.add i).block < wr.heap.size := by rw [add_block]; exact hpl
      have HB0 := Lib.hid hb0
      have j1 : (i : Int) < m := by omega
      have j2 : (0 : Int) ≤ i := by omega
      clear hu hP hlP hpl hn hb0
      go_wp2
      go_loopw [9, 13] (fun out kv wq => ∃ k : Nat, kv = .int .i64 k ∧ k ≤ n ∧ Hid (MdSt w kk nn p (aF Ps i) (bF Ps i) out (m0 + k) (M0 ++ (P.map (shift (m0 : Int))).take k) wq)) (fun _ kv _ => n - (intOf kv).toNat)
      case atStart => exact ⟨0, rfl, Nat.zero_le _, Lib.hid (by simpa using HD.out)⟩
      case round =>
        obtain ⟨k, rfl, hk, HQ⟩ := hrel
        obtain ⟨A2, c2', rfl, _, _⟩ := own_form HQ.out.1
        have HO := Lib.hid HQ.out.1
        have HBQ := Lib.hid HQ.out.2.2.1
        obtain ⟨pad', hpadd, hpl, p1⟩ := (HL.out.below HBQ.out).one HU.out
        injection hpadd with hpadd; subst hpadd
        have hpab : (pad.add i).block < wr.heap.size := by rw [add_block]; exact hpl
        clear HD p0 hpl c0 c1 c2 c3 c4 f2 f3
        by_cases hltk : k < n
        · obtain ⟨x, hx⟩ : ∃ x, P[k]? = some x := ⟨_, List.getElem?_eq_getElem (by rw [HPN.out]; exact hltk)⟩
          obtain ⟨ad, rfl, hadl, d0, d1, d2, d3, d4⟩ := (HLP.out.below HBQ.out).nd hx
          have hab : (ad.add (k * 5)).block < wr.heap.size := by rw [add_block]; exact hadl
          obtain ⟨_, sa, sb⟩ := HSM.out x (List.mem_of_getElem? hx)
          have HX := Lib.hid hx
          have j3 : (k : Int) < n := by omega
          have j4 : (0 : Int) ≤ k := by omega
          clear hx hadl
          rcases cnt_vals x.k with ⟨hk1, hc⟩ | ⟨hk1, hk2, hc⟩ | ⟨hk1, hc⟩
          all_goals rw [hc] at sa sb
          · clear sa sb
            have HCN := Lib.hid (fun w => show Calls Tryd.prog 32 #[.int .u8 x.k] w fun e w' => e = .returned (.int .i64 0) ∧ w = w' by have := count_any x.k w; rwa [hc] at this)
            have HXE := Lib.hid (show (⟨x.k, x.n, x.a, x.b, x.p⟩ : Nd) = shift (m0 : Int) x by unfold shift; rw [hc]; simp)
            clear hc hk1
            go_wp2_with (first
              | (go_at_call 32; refine (HCN.out _).mono ?_; rintro e w' ⟨rfl, rfl⟩)
              | (at_builtin; refine wpList_append_lies _ rfl (.tmp 61) (.tmp 63) 32 rfl (w.heap.size + 1) 31 i0 _ 5 40 Tryd.underlying32 hi hz0 hz1 hz2 rfl (by decide) _ (m0 + k) _ rfl ((HO.out.alloc _).alloc _) ⟨wr.heap.size + 1, 0, none⟩ 1 1 (ndCells [⟨x.k, x.n, x.a, x.b, x.p⟩]) rfl ?a1 ?a2 ?a3 ?a4 ?a5 ?a6 ?a7 _ rfl ?_))
            case a1 => rfl
            case a2 => first | exact cells_new5 (wr.alloc _) _ (by simp) ⟨x.k, x.n, x.a, x.b, x.p⟩ _ | (intro j u hj; simpa [ndCells, ndC] using hj)
            case a3 => exact nd_one _
            try case a4 => omega
            case a5 => unfold maxLen; omega
            case a6 => omega
            case a7 => have := HBQ.out.size; simp; omega
            intro g cap w5 ho hg _ _
            have HQ5 := Lib.hid (HQ.out.grown ho (by simp) (((Below.refl _ _).alloc (Nat.le_refl _) _).alloc (by simp) _) hg)
            clear ho hg
            go_wp2
            go_roundw
            case rel =>
              refine ⟨k + 1, by go_num, by omega, Lib.hid ?_⟩
              have := inner_succ (M0 := M0) HX.out
              rw [HMM.out] at this
              rw [this, ← HXE.out]
              exact HQ5.out
            case measure => simp [intOf]; omega
          · obtain ⟨sa1, sa2⟩ := sa (by decide)
            clear sa sb
            have HCN := Lib.hid (fun w => show Calls Tryd.prog 32 #[.int .u8 x.k] w fun e w' => e = .returned (.int .i64 1) ∧ w = w' by have := count_any x.k w; rwa [hc] at this)
            have HXE := Lib.hid (show (⟨x.k, x.n, x.a + m0, x.b, x.p⟩ : Nd) = shift (m0 : Int) x by unfold shift; rw [hc]; simp)
            clear hc hk1 hk2
            go_wp2_with (first
              | (go_at_call 32; refine (HCN.out _).mono ?_; rintro e w' ⟨rfl, rfl⟩)
              | (at_builtin; refine wpList_append_lies _ rfl (.tmp 61) (.tmp 63) 32 rfl (w.heap.size + 1) 31 i0 _ 5 40 Tryd.underlying32 hi hz0 hz1 hz2 rfl (by decide) _ (m0 + k) _ rfl ((HO.out.alloc _).alloc _) ⟨wr.heap.size + 1, 0, none⟩ 1 1 (ndCells [⟨x.k, x.n, x.a + m0, x.b, x.p⟩]) rfl ?b1 ?b2 ?b3 ?b4 ?b5 ?b6 ?b7 _ rfl ?_))
            case b1 => rfl
            case b2 => first | exact cells_new5 (wr.alloc _) _ (by simp) ⟨x.k, x.n, x.a + m0, x.b, x.p⟩ _ | (intro j u hj; simpa [ndCells, ndC] using hj)
            case b3 => exact nd_one _
            try case b4 => omega
            case b5 => unfold maxLen; omega
            case b6 => omega
            case b7 => have := HBQ.out.size; simp; omega
            intro g cap w5 ho hg _ _
            have HQ5 := Lib.hid (HQ.out.grown ho (by simp) (((Below.refl _ _).alloc (Nat.le_refl _) _).alloc (by simp) _) hg)
            clear ho hg
            go_wp2
            go_roundw
            case rel =>
              refine ⟨k + 1, by go_num, by omega, Lib.hid ?_⟩
              have := inner_succ (M0 := M0) HX.out
              rw [HMM.out] at this
              rw [this, ← HXE.out]
              exact HQ5.out
            case measure => simp [intOf]; omega
          · obtain ⟨sa1, sa2⟩ := sa (by decide)
            obtain ⟨sb1, sb2⟩ := sb (by decide)
            clear sa sb
            have HCN := Lib.hid (fun w => show Calls Tryd.prog 32 #[.int .u8 x.k] w fun e w' => e = .returned (.int .i64 2) ∧ w = w' by have := count_any x.k w; rwa [hc] at this)
            have HXE := Lib.hid (show (⟨x.k, x.n, x.a + m0, x.b + m0, x.p⟩ : Nd) = shift (m0 : Int) x by unfold shift; rw [hc]; simp)
            clear hc hk1
            go_wp2_with (first
              | (go_at_call 32; refine (HCN.out _).mono ?_; rintro e w' ⟨rfl, rfl⟩)
              | (at_builtin; refine wpList_append_lies _ rfl (.tmp 61) (.tmp 63) 32 rfl (w.heap.size + 1) 31 i0 _ 5 40 Tryd.underlying32 hi hz0 hz1 hz2 rfl (by decide) _ (m0 + k) _ rfl ((HO.out.alloc _).alloc _) ⟨wr.heap.size + 1, 0, none⟩ 1 1 (ndCells [⟨x.k, x.n, x.a + m0, x.b + m0, x.p⟩]) rfl ?c1 ?c2 ?c3 ?c4 ?c5 ?c6 ?c7 _ rfl ?_))
            case c1 => rfl
            case c2 => first | exact cells_new5 (wr.alloc _) _ (by simp) ⟨x.k, x.n, x.a + m0, x.b + m0, x.p⟩ _ | (intro j u hj; simpa [ndCells, ndC] using hj)
            case c3 => exact nd_one _
            try case c4 => omega
            case c5 => unfold maxLen; omega
            case c6 => omega
            case c7 => have := HBQ.out.size; simp; omega
            intro g cap w5 ho hg _ _
            have HQ5 := Lib.hid (HQ.out.grown ho (by simp) (((Below.refl _ _).alloc (Nat.le_refl _) _).alloc (by simp) _) hg)
            clear ho hg
            go_wp2
            go_roundw
            case rel =>
              refine ⟨k + 1, by go_num, by omega, Lib.hid ?_⟩
              have := inner_succ (M0 := M0) HX.out
              rw [HMM.out] at this
              rw [this, ← HXE.out]
              exact HQ5.out
            case measure => simp [intOf]; omega
        · obtain rfl : k = n := by omega
          have j5 : ¬ ((k : Int) < k) := by omega
          obtain ⟨_, _, _, hlt1, c0, c1, c2, c3, c4, f2, f3⟩ := HQ.out
          have HC1 := Lib.hid (show catF (Ps.take (i + 1)) = M0 ++ (P.map (shift (m0 : Int))).take k by rw [catF_succ HP.out, HM0.out, catS, HMM.out, List.take_of_length_le (by rw [List.length_map, HPN.out]; exact Nat.le_refl _)])
          have HC2 := Lib.hid (show (M0 ++ (P.map (shift (m0 : Int))).take k).length = m0 + k by exact HQ.out.2.1)
          by_cases hi0 : i = 0
          · subst hi0
            simp only [Addr.add_zero'] at p1 hpab
            have HZ := Lib.hid (show aF Ps (0 + 1) = ((m0 : Int) + k - 1) ∧ bF Ps (0 + 1) = bF Ps 0 by
              unfold aF bF
              rw [if_neg (by omega), if_pos (by omega), if_pos (by omega), HC1.out, HC2.out]
              exact ⟨by omega, rfl⟩)
            go_wp2
            go_roundw
            case rel =>
              refine ⟨0 + 1, by go_num, by omega, Lib.hid ?_⟩
              rw [HC1.out, HC2.out, HZ.out.1, HZ.out.2]
              exact HQ.out.setA _
            case measure => simp [intOf]; omega
          · have HZ := Lib.hid (show bF Ps (i + 1) = ((m0 : Int) + k - 1) ∧ aF Ps (i + 1) = aF Ps i by
              unfold aF bF
              rw [if_neg (by omega), if_neg (by omega), if_neg hi0, HC1.out, HC2.out]
              exact ⟨by omega, rfl⟩)
            have hi1 : ((i : Int) == 0) = false := by rw [beq_eq_false_iff_ne]; omega
            go_wp2
            go_roundw
            case rel =>
              refine ⟨i + 1, by go_num, by omega, Lib.hid ?_⟩
              rw [HC1.out, HC2.out, HZ.out.1, HZ.out.2]
              exact HQ.out.setB _
            case measure => simp [intOf]; omega
    · obtain rfl : i = m := by omega
      obtain ⟨_, _, hb0, hlt0, c0, c1, c2, c3, c4, f2, f3⟩ := HD.out
      have HO := Lib.hid HD.out.1
      have HB0 := Lib.hid hb0
      clear hb0
      go_wp2_with (at_builtin; refine wpList_append_lies _ rfl (.tmp 75) (.tmp 77) 32 rfl (w.heap.size + 1) 31 i0 _ 5 40 Tryd.underlying32 hi hz0 hz1 hz2 rfl (by decide) _ m0 _ rfl (HO.out.alloc _) ⟨wr.heap.size, 0, none⟩ 1 1 (ndCells [⟨kk, nn, aF Ps i, bF Ps i, p⟩]) rfl ?e1 ?e2 ?e3 ?e4 ?e5 ?e6 ?e7 _ rfl ?_)
      case e1 => rfl
      case e2 => exact cells_new5 wr _ rfl ⟨kk, nn, aF Ps i, bF Ps i, p⟩ _
      case e3 => exact nd_one _
      try case e4 => omega
      case e5 => unfold maxLen; omega
      case e6 => omega
      case e7 => have := HB0.out.size; simp; omega
      intro g cap w5 ho hg _ _
      have HQ5 := Lib.hid (HD.out.grown ho (by simp) ((Below.refl _ _).alloc (Nat.le_refl _) _) hg)
      have hcap := own_form ho
      have HF := Lib.hid (show catF Ps = M0 by rw [← HM0.out, List.take_of_length_le (by rw [HM2.out]; exact Nat.le_refl _)])
      have HFN := Lib.hid (show m0 + 1 = N by rw [← HNN.out, HF.out, HMM.out])
      clear ho hg
      go_wp2
      go_ret
      obtain ⟨A9, c9, he9, hle9, _⟩ := hcap
      injection he9 with q1 q2 q3
      refine ⟨some ⟨g, 0, none⟩, cap, by rw [← HFN.out]; rfl, ?_, HQ5.out.2.2.1, by rw [← HFN.out, q3]; exact hle9⟩
      rw [HF.out]
      exact Lies.of_own HQ5.out.1 (by intro h; omega)
end Go.Proofs.YtajchaknfkfljaaDoor.K6
