/- Merged: NNode0, NNode, NPost, NRef. -/
import Derived.Test.YtlmamidodahgmaaGreatDoorNB
import Derived.OneCell
import Derived.LoopN
import Derived.Outline
import Derived.Test.YtlmamidodahgmaaGreatDoorNA
/- NNode0: What holds in the midst of Node. -/
namespace Go.Proofs.YtlmamidodahgmaaGreatDoor.N4
open Go.ChangeShapes Go.WideShapes Go.ChangeAt Go.RowKit
set_option linter.unusedVariables false
set_option maxRecDepth 100000

def NSt (w : World) (B : Nat) (W : World) (l : Value) (n : Nat) (M : List Nd) (e0 e1 : Int) : Prop :=
  W.ownsRow w.heap.size 58 5 l n (ndCells M) ∧ l.ownBlock ≠ some (B + 1) ∧ B + 1 < W.heap.size ∧ W.cell? ⟨B + 1, 0, none⟩ = some (.int .i64 e0) ∧ W.cell? ⟨B + 1, 1, none⟩ = some (.int .i64 e1) ∧
  W.frozen? ⟨B + 1, 0, none⟩ = false ∧ W.frozen? ⟨B + 1, 1, none⟩ = false ∧ Below w.heap.size w W ∧ w.heap.size ≤ B
theorem NSt.start {w w1 : World} (hb : Below w.heap.size w w1) (B : Nat) (hB : w1.heap.size = B) :
    NSt w B ((w1.alloc (.cells #[] 58)).alloc (.cells #[.int .i64 0, .int .i64 0] 158)) (.slice (some ⟨B, 0, none⟩) 0 0) 0 [] 0 0 := by
  subst hB
  refine ⟨?_, by simp [Value.ownBlock], by simp, by go_simp, by go_simp, by go_simp, by go_simp, (hb.alloc hb.size _).alloc (by have := hb.size; simp; omega) _, hb.size⟩
  exact (World.ownsRow_lit (base := w.heap.size) (e := 58) (size := 5) w1 #[] 0 hb.size (Nat.zero_le _) rfl).alloc _
theorem NSt.below {w W W' : World} {B n : Nat} {l : Value} {M : List Nd} {e0 e1 : Int} (h : NSt w B W l n M e0 e1) (hb : Below W.heap.size W W') : NSt w B W' l n M e0 e1 := by
  obtain ⟨h1, h2, h3, h4, h5, h6, h7, h8, h9⟩ := h
  refine ⟨own_below h1 hb, h2, Nat.lt_of_lt_of_le h3 hb.size, ?_, ?_, ?_, ?_, h8.trans (hb.mono h8.size), h9⟩
  · rw [hb.cell (p := ⟨B + 1, 0, none⟩) h3]; exact h4
  · rw [hb.cell (p := ⟨B + 1, 1, none⟩) h3]; exact h5
  · rw [hb.frozen (p := ⟨B + 1, 0, none⟩) h3]; exact h6
  · rw [hb.frozen (p := ⟨B + 1, 1, none⟩) h3]; exact h7
theorem NSt.grown {w W W' : World} {B n N g cap : Nat} {l : Value} {M M' : List Nd} {e0 e1 : Int} (h : NSt w B W l n M e0 e1)
    (ho : W'.ownsRow w.heap.size 58 5 (.slice (some ⟨g, 0, none⟩) N cap) N (ndCells M ++ ndCells M')) (hg : W.grownBy W' l.ownBlock) (hat : l.ownBlock = some g ∨ g = W.heap.size) :
    NSt w B W' (.slice (some ⟨g, 0, none⟩) N cap) N (M ++ M') e0 e1 := by
  obtain ⟨h1, h2, h3, h4, h5, h6, h7, h8, h9⟩ := h
  refine ⟨by rw [ndCells_append]; exact ho, ?_, Nat.lt_of_lt_of_le h3 hg.size, hg.cell h4 (Ne.symm h2), hg.cell h5 (Ne.symm h2), ?_, ?_, ?_, h9⟩
  · show (some g : Option Nat) ≠ some (B + 1)
    rcases hat with hat | hat
    · rw [← hat]; exact h2
    · intro e; injection e with e; omega
  · rw [hg.frozen_far ⟨B + 1, 0, none⟩ h3 (Ne.symm h2)]; exact h6
  · rw [hg.frozen_far ⟨B + 1, 1, none⟩ h3 (Ne.symm h2)]; exact h7
  · exact h8.grown hg h8.size (fun j hj => (h1.lt j hj).1)
theorem NSt.set0 {w W : World} {B n : Nat} {l : Value} {M : List Nd} {e0 e1 : Int} (h : NSt w B W l n M e0 e1) (v : Int) : NSt w B (W.setCell ⟨B + 1, 0, none⟩ (.int .i64 v)) l n M v e1 := by
  obtain ⟨h1, h2, h3, h4, h5, h6, h7, h8, h9⟩ := h
  refine ⟨ownsRow_setCell_other h1 h2 _, h2, by simpa using h3, by go_simp, by go_simp, by go_simp, by go_simp, h8.setCell (by show w.heap.size ≤ B + 1; omega) _, h9⟩
theorem NSt.set1 {w W : World} {B n : Nat} {l : Value} {M : List Nd} {e0 e1 : Int} (h : NSt w B W l n M e0 e1) (v : Int) : NSt w B (W.setCell ⟨B + 1, 1, none⟩ (.int .i64 v)) l n M e0 v := by
  obtain ⟨h1, h2, h3, h4, h5, h6, h7, h8, h9⟩ := h
  refine ⟨ownsRow_setCell_other h1 h2 _, h2, by simpa using h3, by go_simp, by go_simp, by go_simp, by go_simp, h8.setCell (by show w.heap.size ≤ B + 1; omega) _, h9⟩
theorem nd_one (L : List Nd) : ∀ u ∈ ndCells L, u.oneCell' = true := by
  intro u hu
  rw [ndCells, List.mem_flatMap] at hu
  obtain ⟨x, _, hx⟩ := hu
  simp only [ndC, List.mem_cons, List.not_mem_nil, or_false] at hx
  rcases hx with rfl | rfl | rfl | rfl | rfl <;> rfl
theorem cells_new5 (w : World) (B : Nat) (hB : w.heap.size = B) (x : Nd) (t : TypeId) : ∀ j u, (ndCells [x])[j]? = some u → (w.alloc (.cells #[.int .u8 x.k, .int .i64 x.n, .int .i64 x.a, .int .i64 x.b, .int .i64 x.p] t)).cell? ((⟨B, 0, none⟩ : Addr).add j) = some u := by
  subst hB
  intro j u hj
  have h := World.news_of_block (w := w.alloc (.cells #[.int .u8 x.k, .int .i64 x.n, .int .i64 x.a, .int .i64 x.b, .int .i64 x.p] t)) (B := w.heap.size) (cs := #[.int .u8 x.k, .int .i64 x.n, .int .i64 x.a, .int .i64 x.b, .int .i64 x.p]) (t := t) (fr := (0, 0)) (heap_alloc_new w _) j u
  exact h (by simpa [ndCells, ndC] using hj)
theorem Lies.cells {w : World} {ad : Addr} {cs : List Value} (h : Lies w (some ad) cs) : ∀ j u, cs[j]? = some u → w.cell? (ad.add j) = some u := by
  rcases h with rfl | ⟨ad', h1, _, h3⟩
  · intro j u hu; simp at hu
  · injection h1 with h1; subst h1; exact h3
def NPost (M : List Nd) (w : World) (e : Ending) (w' : World) : Prop :=
  Below w.heap.size w w' ∧ ((checkF M ≠ 0 ∧ e = .returned (.tuple #[.slice none 0 0, .int .i64 (checkF M)])) ∨ (checkF M = 0 ∧ ∃ A c, e = .returned (.tuple #[.slice A M.length c, .int .i64 0]) ∧ Lies w' A (ndCells M) ∧ M.length ≤ c))
end Go.Proofs.YtlmamidodahgmaaGreatDoor.N4

/- NNode: The contract of Node: expressions made of parts. -/
namespace Go.Proofs.YtlmamidodahgmaaGreatDoor.N4
open Go.ChangeShapes Go.WideShapes Go.ChangeAt Go.RowKit
set_option linter.unusedVariables false
set_option maxRecDepth 100000
set_option linter.unusedSimpArgs false

set_option maxHeartbeats 4000000 in
theorem node_0 (PA : Option Addr) (pc : Nat) (k nn p : Int) (w : World) (hp : Lies w PA []) (h0 : okK k = true) (hf : fitsF k nn p = true) (hc : cnt k = 0) :
    Calls Tryz.prog 116 #[.int .u8 k, .int .i64 nn, .int .i64 p, .slice PA 0 pc] w (NPost (made0 k nn p) w) := by
  have HP := Lib.hid (fun w => show Calls Tryz.prog 100 #[.int .u8 k] w fun e w' => e = .returned (.tuple #[.int .i64 0, .int .i64 0]) ∧ w = w' by have := parts_any k w; rwa [show partsN k = 0 from partsN_of h0 hc, show partsE k = 0 by simp [partsE, h0]] at this)
  have HF := Lib.hid (fun w => fits_any k nn p true hf w)
  have HE := Lib.hid (first_any PA pc 0 [] [] w rfl rfl (by decide) hp (by intro i u L h; simp at h) 0 (by simp [firstE]))
  have hml : (made0 k nn p).length = 0 + 1 := by simp [made0]; try omega
  have HC := Lib.hid (fun (A : Option Addr) (c n : Nat) w' (hn : (made0 k nn p).length = n) (hl : Lies w' A (ndCells (made0 k nn p))) => show Calls Tryz.prog 49 #[.slice A n c] w' fun e w'' => e = .returned (.int .i64 (checkF (made0 k nn p))) ∧ Below w'.heap.size w' w'' by rw [← hn]; exact check_any A c _ w' (by rw [hml]; unfold maxLen; omega) hl _ rfl)
  have HML := Lib.hid hml
  have HPA := Lib.hid hp
  obtain ⟨i0, hi, hz0, hz1, hz2⟩ := info_parts nd_info
  obtain ⟨z, hz⟩ : ∃ z, checkF (made0 k nn p) = z := ⟨_, rfl⟩
  have HZ := Lib.hid hz
  rw [hz] at HC
  clear hp h0 hf hc hml hz
  go_enter Tryz.func116, Tryz.ntmps116
  go_wp2_with (first
      | (go_at_call 100; refine (HP.out _).mono ?_; rintro e w' ⟨rfl, rfl⟩)
      | (go_at_call 113; refine (HF.out _).mono ?_; rintro e w' ⟨rfl, rfl⟩)
      | (go_at_call 44; refine HE.out.mono ?_; rintro e w1 ⟨rfl, hb1⟩; have HS0 := Lib.hid (NSt.start hb1 w1.heap.size rfl); have HB1 := Lib.hid hb1; clear hb1))
  refine wp_gen (fun W => NSt w w1.heap.size W (.slice (some ⟨w1.heap.size, 0, none⟩) 0 0) 0 [] 0 0) HS0.out ?_
  clear HS0
  intro W hS0
  have HS0 := Lib.hid hS0
  clear hS0
  refine wp_loop_rounds 1 ?_
  have HMM := Lib.hid (show ndCells [] ++ ndCells [⟨k, nn, 0, 0, p⟩] = ndCells (made0 k nn p) by rw [← ndCells_append]; simp [made0])
  try rw [rounds_succ]
  obtain ⟨-, -, hlt, c0, c1, f0, f1, hb, hB⟩ := HS0.out
  have HBc := Lib.hid hb
  clear hb
  by_cases hzz : z = 0
  · subst hzz
    go_wp2_with ((at_builtin; refine wpList_append_lies _ rfl (.tmp 64) (.tmp 73) 22 rfl w.heap.size 58 i0 _ 5 40 Tryz.underlying22 hi hz0 hz1 hz2 rfl (by decide) _ 0 (ndCells []) rfl (HS0.out.1.alloc _) ⟨W.heap.size, 0, none⟩ 1 1 (ndCells [⟨k, nn, 0, 0, p⟩]) rfl ?fa1 ?fa2 ?fa3 ?fa4 ?fa5 ?fa6 ?fa7 _ rfl ?_))
    case fa1 => rfl
    case fa2 => first | exact cells_new5 W W.heap.size rfl ⟨k, nn, 0, 0, p⟩ _ | (intro j u hj; simpa [ndCells, ndC] using hj)
    case fa3 => exact nd_one _
    try case fa4 => omega
    case fa5 => unfold maxLen; omega
    case fa6 => omega
    case fa7 => have := HBc.out.size; simp; omega
    intro g cap w5 ho hg _ _
    rw [HMM.out] at ho
    have HO5 := Lib.hid ho
    have HB5 := Lib.hid (show Below w.heap.size w w5 from (HBc.out.alloc HBc.out.size _).grown hg (by have := HBc.out.size; simp; omega) (fun j hj => (HS0.out.1.lt j hj).1))
    clear ho hg
    go_wp2_with (go_at_call 49; refine (HC.out _ _ _ _ (by rw [HML.out]; try omega) (Lies.of_own HO5.out (by intro h; omega))).mono ?_; rintro e w6 ⟨rfl, hb6⟩)
    go_ret2
    obtain ⟨A', c', hv, hk1, _⟩ := own_form HO5.out
    refine ⟨HB5.out.trans (hb6.mono HB5.out.size), .inr ⟨HZ.out, _, cap, by rw [HML.out]; first | rfl | (simp only [Nat.zero_add]; rfl), (Lies.of_own HO5.out (by intro h; omega)).below hb6, by injection hv with _ _ hcc; rw [HML.out]; omega⟩⟩
  · have hne := errno_ne hzz
    have HNE := Lib.hid hzz
    clear hzz
    go_wp2_with ((at_builtin; refine wpList_append_lies _ rfl (.tmp 64) (.tmp 73) 22 rfl w.heap.size 58 i0 _ 5 40 Tryz.underlying22 hi hz0 hz1 hz2 rfl (by decide) _ 0 (ndCells []) rfl (HS0.out.1.alloc _) ⟨W.heap.size, 0, none⟩ 1 1 (ndCells [⟨k, nn, 0, 0, p⟩]) rfl ?fb1 ?fb2 ?fb3 ?fb4 ?fb5 ?fb6 ?fb7 _ rfl ?_))
    case fb1 => rfl
    case fb2 => first | exact cells_new5 W W.heap.size rfl ⟨k, nn, 0, 0, p⟩ _ | (intro j u hj; simpa [ndCells, ndC] using hj)
    case fb3 => exact nd_one _
    try case fb4 => omega
    case fb5 => unfold maxLen; omega
    case fb6 => omega
    case fb7 => have := HBc.out.size; simp; omega
    intro g cap w5 ho hg _ _
    rw [HMM.out] at ho
    have HO5 := Lib.hid ho
    have HB5 := Lib.hid (show Below w.heap.size w w5 from (HBc.out.alloc HBc.out.size _).grown hg (by have := HBc.out.size; simp; omega) (fun j hj => (HS0.out.1.lt j hj).1))
    clear ho hg
    go_wp2_with (go_at_call 49; refine (HC.out _ _ _ _ (by rw [HML.out]; try omega) (Lies.of_own HO5.out (by intro h; omega))).mono ?_; rintro e w6 ⟨rfl, hb6⟩)
    go_ret2
    exact ⟨HB5.out.trans (hb6.mono HB5.out.size), .inl ⟨by rw [HZ.out]; exact HNE.out, by rw [HZ.out]; rfl⟩⟩

set_option maxHeartbeats 4000000 in
theorem node_1 (PA : Option Addr) (pc : Nat) (k nn p : Int) (w : World) (A1 : Option Addr) (c1 n1 : Nat) (P : List Nd) (hn1 : P.length = n1) (h1 : Lies w A1 (ndCells P)) (hv1 : checkF P = 0) (hp : Lies w PA [.slice A1 n1 c1]) (h0 : okK k = true) (hf : fitsF k nn p = true) (hc : cnt k = 1) :
    Calls Tryz.prog 116 #[.int .u8 k, .int .i64 nn, .int .i64 p, .slice PA 1 pc] w (NPost (made1 k nn p P) w) := by
  obtain ⟨E1, g1⟩ := checkF_zero hv1
  have l1 := g1.2.1
  rw [hn1] at l1
  have b1 : 1 ≤ n1 := by rw [← hn1]; exact List.length_pos_iff.2 g1.1
  have HP := Lib.hid (fun w => show Calls Tryz.prog 100 #[.int .u8 k] w fun e w' => e = .returned (.tuple #[.int .i64 1, .int .i64 0]) ∧ w = w' by have := parts_any k w; rwa [show partsN k = 1 from partsN_of h0 hc, show partsE k = 0 by simp [partsE, h0]] at this)
  have HF := Lib.hid (fun w => fits_any k nn p true hf w)
  have HE := Lib.hid (first_any PA pc 1 [.slice A1 n1 c1] [P] w rfl rfl (by decide) hp (by intro i u L h h'; match i with | 0 => (simp at h h'; subst h h'; exact ⟨A1, c1, by rw [hn1], h1, by rw [hn1]; unfold maxLen; omega⟩) | i + 1 => simp at h) 0 (by simp [firstE, hv1]))
  have HM1 := Lib.hid (fun (d : Int) w' (hd : d = 0) (hb : Below w.heap.size w w') => show Calls Tryz.prog 122 #[.slice A1 n1 c1, .int .i64 d] w' (EPost w' (P.map (shift 0)) n1) by rw [hd]; exact moved_any A1 c1 n1 P 0 w' hn1 (by omega) (h1.below hb) (sm_of g1 _ (by omega) (by omega)))
  have hml : (made1 k nn p P).length = 0 + n1 + 1 := by simp [made1, hn1]; try omega
  have HC := Lib.hid (fun (A : Option Addr) (c n : Nat) w' (hn : (made1 k nn p P).length = n) (hl : Lies w' A (ndCells (made1 k nn p P))) => show Calls Tryz.prog 49 #[.slice A n c] w' fun e w'' => e = .returned (.int .i64 (checkF (made1 k nn p P))) ∧ Below w'.heap.size w' w'' by rw [← hn]; exact check_any A c _ w' (by rw [hml]; unfold maxLen; omega) hl _ rfl)
  have HN1 := Lib.hid hn1
  have HML := Lib.hid hml
  have HPA := Lib.hid hp
  obtain ⟨i0, hi, hz0, hz1, hz2⟩ := info_parts nd_info
  obtain ⟨z, hz⟩ : ∃ z, checkF (made1 k nn p P) = z := ⟨_, rfl⟩
  have HZ := Lib.hid hz
  rw [hz] at HC
  clear hp h0 hf hc hml hz h1 hv1 hn1 g1
  obtain ⟨pad, rfl, _, _⟩ := HPA.out.one (k := 0) rfl
  go_enter Tryz.func116, Tryz.ntmps116
  go_wp2_with (first
      | (go_at_call 100; refine (HP.out _).mono ?_; rintro e w' ⟨rfl, rfl⟩)
      | (go_at_call 113; refine (HF.out _).mono ?_; rintro e w' ⟨rfl, rfl⟩)
      | (go_at_call 44; refine HE.out.mono ?_; rintro e w1 ⟨rfl, hb1⟩; have HS0 := Lib.hid (NSt.start hb1 w1.heap.size rfl); have HB1 := Lib.hid hb1; clear hb1))
  refine wp_gen (fun W => NSt w w1.heap.size W (.slice (some ⟨w1.heap.size, 0, none⟩) 0 0) 0 [] 0 0) HS0.out ?_
  clear HS0
  intro W hS0
  have HS0 := Lib.hid hS0
  clear hS0
  refine wp_loop_rounds 2 ?_
  try rw [rounds_succ]
  obtain ⟨-, -, hlt, c0, c1, f0, f1, hb, hB⟩ := HS0.out
  obtain ⟨_, hpe, hpl, pc0⟩ := (HPA.out.below hb).one (k := 0) rfl
  injection hpe with hpe
  subst hpe
  simp only [Addr.add_zero'] at pc0
  have HBB0 := Lib.hid hb
  clear hb hpl
  go_wp2_with (first
    | (go_at_call 122; refine (HM1.out _ _ (by simp) HBB0.out).mono ?_; rintro e w2 ⟨ad1, rfl, hl1, hb2⟩; have HS1 := Lib.hid (HS0.out.below hb2); have HL1 := Lib.hid hl1; clear hb2 hl1 c0 c1 f0 f1)
    | (at_builtin; refine wpList_append_lies _ rfl (.tmp 52) (.tmp 56) 22 rfl w.heap.size 58 i0 _ 5 40 Tryz.underlying22 hi hz0 hz1 hz2 rfl (by decide) _ 0 (ndCells []) rfl HS1.out.1 ad1 n1 n1 (ndCells (P.map (shift 0))) rfl ?r0c1 ?r0c2 ?r0c3 ?r0c4 ?r0c5 ?r0c6 ?r0c7 _ rfl ?_))
  case r0c1 => rw [ndCells_length, List.length_map, HN1.out]
  case r0c2 => exact HL1.out.cells
  case r0c3 => exact nd_one _
  case r0c4 => omega
  case r0c5 => unfold maxLen; omega
  case r0c6 => omega
  case r0c7 => exact HS1.out.2.2.2.2.2.2.2.1.size
  intro g0 cap0 W0 ho hg hat _
  have HS2 := Lib.hid (HS1.out.grown ho hg hat)
  clear ho hg hat
  obtain ⟨-, -, hlt2, c0, c1, f0, f1, hb, -⟩ := HS2.out
  clear hb
  go_wp2
  refine wp_gen (fun W => NSt w w1.heap.size W (.slice (some ⟨g0, 0, none⟩) n1 cap0) n1 (P.map (shift 0)) (n1 - 1) (0)) (HS2.out.set0 _) ?_
  clear HS0 HS1 HS2 HBB0 HL1 c0 c1 f0 f1 hlt hlt2 hB pc0
  intro W hS
  have HS3 := Lib.hid hS
  clear hS
  have HMM := Lib.hid (show ndCells (P.map (shift 0)) ++ ndCells [⟨k, nn, (n1 : Int) - 1, 0, p⟩] = ndCells (made1 k nn p P) by rw [← ndCells_append]; simp [made1, HN1.out])
  try rw [rounds_succ]
  obtain ⟨-, -, hlt, c0, c1, f0, f1, hb, hB⟩ := HS3.out
  have HBc := Lib.hid hb
  clear hb
  by_cases hzz : z = 0
  · subst hzz
    go_wp2_with ((at_builtin; refine wpList_append_lies _ rfl (.tmp 64) (.tmp 73) 22 rfl w.heap.size 58 i0 _ 5 40 Tryz.underlying22 hi hz0 hz1 hz2 rfl (by decide) _ n1 (ndCells (P.map (shift 0))) rfl (HS3.out.1.alloc _) ⟨W.heap.size, 0, none⟩ 1 1 (ndCells [⟨k, nn, (n1 : Int) - 1, 0, p⟩]) rfl ?fa1 ?fa2 ?fa3 ?fa4 ?fa5 ?fa6 ?fa7 _ rfl ?_))
    case fa1 => rfl
    case fa2 => first | exact cells_new5 W W.heap.size rfl ⟨k, nn, (n1 : Int) - 1, 0, p⟩ _ | (intro j u hj; simpa [ndCells, ndC] using hj)
    case fa3 => exact nd_one _
    try case fa4 => omega
    case fa5 => unfold maxLen; omega
    case fa6 => omega
    case fa7 => have := HBc.out.size; simp; omega
    intro g cap w5 ho hg _ _
    rw [HMM.out] at ho
    have HO5 := Lib.hid ho
    have HB5 := Lib.hid (show Below w.heap.size w w5 from (HBc.out.alloc HBc.out.size _).grown hg (by have := HBc.out.size; simp; omega) (fun j hj => (HS3.out.1.lt j hj).1))
    clear ho hg
    go_wp2_with (go_at_call 49; refine (HC.out _ _ _ _ (by rw [HML.out]; try omega) (Lies.of_own HO5.out (by intro h; omega))).mono ?_; rintro e w6 ⟨rfl, hb6⟩)
    go_ret2
    obtain ⟨A', c', hv, hk1, _⟩ := own_form HO5.out
    refine ⟨HB5.out.trans (hb6.mono HB5.out.size), .inr ⟨HZ.out, _, cap, by rw [HML.out]; first | rfl | (simp only [Nat.zero_add]; rfl), (Lies.of_own HO5.out (by intro h; omega)).below hb6, by injection hv with _ _ hcc; rw [HML.out]; omega⟩⟩
  · have hne := errno_ne hzz
    have HNE := Lib.hid hzz
    clear hzz
    go_wp2_with ((at_builtin; refine wpList_append_lies _ rfl (.tmp 64) (.tmp 73) 22 rfl w.heap.size 58 i0 _ 5 40 Tryz.underlying22 hi hz0 hz1 hz2 rfl (by decide) _ n1 (ndCells (P.map (shift 0))) rfl (HS3.out.1.alloc _) ⟨W.heap.size, 0, none⟩ 1 1 (ndCells [⟨k, nn, (n1 : Int) - 1, 0, p⟩]) rfl ?fb1 ?fb2 ?fb3 ?fb4 ?fb5 ?fb6 ?fb7 _ rfl ?_))
    case fb1 => rfl
    case fb2 => first | exact cells_new5 W W.heap.size rfl ⟨k, nn, (n1 : Int) - 1, 0, p⟩ _ | (intro j u hj; simpa [ndCells, ndC] using hj)
    case fb3 => exact nd_one _
    try case fb4 => omega
    case fb5 => unfold maxLen; omega
    case fb6 => omega
    case fb7 => have := HBc.out.size; simp; omega
    intro g cap w5 ho hg _ _
    rw [HMM.out] at ho
    have HO5 := Lib.hid ho
    have HB5 := Lib.hid (show Below w.heap.size w w5 from (HBc.out.alloc HBc.out.size _).grown hg (by have := HBc.out.size; simp; omega) (fun j hj => (HS3.out.1.lt j hj).1))
    clear ho hg
    go_wp2_with (go_at_call 49; refine (HC.out _ _ _ _ (by rw [HML.out]; try omega) (Lies.of_own HO5.out (by intro h; omega))).mono ?_; rintro e w6 ⟨rfl, hb6⟩)
    go_ret2
    exact ⟨HB5.out.trans (hb6.mono HB5.out.size), .inl ⟨by rw [HZ.out]; exact HNE.out, by rw [HZ.out]; rfl⟩⟩

set_option maxHeartbeats 4000000 in
theorem node_2 (PA : Option Addr) (pc : Nat) (k nn p : Int) (w : World) (A1 : Option Addr) (c1 n1 : Nat) (P : List Nd) (hn1 : P.length = n1) (h1 : Lies w A1 (ndCells P)) (hv1 : checkF P = 0) (A2 : Option Addr) (c2 n2 : Nat) (Q : List Nd) (hn2 : Q.length = n2) (h2 : Lies w A2 (ndCells Q)) (hv2 : checkF Q = 0) (hp : Lies w PA [.slice A1 n1 c1, .slice A2 n2 c2]) (h0 : okK k = true) (hf : fitsF k nn p = true) (hc : cnt k = 2) :
    Calls Tryz.prog 116 #[.int .u8 k, .int .i64 nn, .int .i64 p, .slice PA 2 pc] w (NPost (made2 k nn p P Q) w) := by
  obtain ⟨E1, g1⟩ := checkF_zero hv1
  have l1 := g1.2.1
  rw [hn1] at l1
  have b1 : 1 ≤ n1 := by rw [← hn1]; exact List.length_pos_iff.2 g1.1
  obtain ⟨E2, g2⟩ := checkF_zero hv2
  have l2 := g2.2.1
  rw [hn2] at l2
  have b2 : 1 ≤ n2 := by rw [← hn2]; exact List.length_pos_iff.2 g2.1
  have HP := Lib.hid (fun w => show Calls Tryz.prog 100 #[.int .u8 k] w fun e w' => e = .returned (.tuple #[.int .i64 2, .int .i64 0]) ∧ w = w' by have := parts_any k w; rwa [show partsN k = 2 from partsN_of h0 hc, show partsE k = 0 by simp [partsE, h0]] at this)
  have HF := Lib.hid (fun w => fits_any k nn p true hf w)
  have HE := Lib.hid (first_any PA pc 2 [.slice A1 n1 c1, .slice A2 n2 c2] [P, Q] w rfl rfl (by decide) hp (two_at ⟨A1, c1, by rw [hn1], h1, by rw [hn1]; unfold maxLen; omega⟩ ⟨A2, c2, by rw [hn2], h2, by rw [hn2]; unfold maxLen; omega⟩) 0 (by simp [firstE, hv1, hv2]))
  have HM1 := Lib.hid (fun (d : Int) w' (hd : d = 0) (hb : Below w.heap.size w w') => show Calls Tryz.prog 122 #[.slice A1 n1 c1, .int .i64 d] w' (EPost w' (P.map (shift 0)) n1) by rw [hd]; exact moved_any A1 c1 n1 P 0 w' hn1 (by omega) (h1.below hb) (sm_of g1 _ (by omega) (by omega)))
  have HM2 := Lib.hid (fun (d : Int) w' (hd : d = (n1 : Int)) (hb : Below w.heap.size w w') => show Calls Tryz.prog 122 #[.slice A2 n2 c2, .int .i64 d] w' (EPost w' (Q.map (shift (n1 : Int))) n2) by rw [hd]; exact moved_any A2 c2 n2 Q (n1 : Int) w' hn2 (by omega) (h2.below hb) (sm_of g2 _ (by omega) (by omega)))
  have hml : (made2 k nn p P Q).length = 0 + n1 + n2 + 1 := by simp [made2, hn1, hn2]; try omega
  have HC := Lib.hid (fun (A : Option Addr) (c n : Nat) w' (hn : (made2 k nn p P Q).length = n) (hl : Lies w' A (ndCells (made2 k nn p P Q))) => show Calls Tryz.prog 49 #[.slice A n c] w' fun e w'' => e = .returned (.int .i64 (checkF (made2 k nn p P Q))) ∧ Below w'.heap.size w' w'' by rw [← hn]; exact check_any A c _ w' (by rw [hml]; unfold maxLen; omega) hl _ rfl)
  have HN1 := Lib.hid hn1
  have HN2 := Lib.hid hn2
  have HML := Lib.hid hml
  have HPA := Lib.hid hp
  obtain ⟨i0, hi, hz0, hz1, hz2⟩ := info_parts nd_info
  obtain ⟨z, hz⟩ : ∃ z, checkF (made2 k nn p P Q) = z := ⟨_, rfl⟩
  have HZ := Lib.hid hz
  rw [hz] at HC
  clear hp h0 hf hc hml hz h1 hv1 hn1 g1 h2 hv2 hn2 g2
  obtain ⟨pad, rfl, _, _⟩ := HPA.out.one (k := 0) rfl
  go_enter Tryz.func116, Tryz.ntmps116
  go_wp2_with (first
      | (go_at_call 100; refine (HP.out _).mono ?_; rintro e w' ⟨rfl, rfl⟩)
      | (go_at_call 113; refine (HF.out _).mono ?_; rintro e w' ⟨rfl, rfl⟩)
      | (go_at_call 44; refine HE.out.mono ?_; rintro e w1 ⟨rfl, hb1⟩; have HS0 := Lib.hid (NSt.start hb1 w1.heap.size rfl); have HB1 := Lib.hid hb1; clear hb1))
  refine wp_gen (fun W => NSt w w1.heap.size W (.slice (some ⟨w1.heap.size, 0, none⟩) 0 0) 0 [] 0 0) HS0.out ?_
  clear HS0
  intro W hS0
  have HS0 := Lib.hid hS0
  clear hS0
  refine wp_loop_rounds 3 ?_
  try rw [rounds_succ]
  obtain ⟨-, -, hlt, c0, c1, f0, f1, hb, hB⟩ := HS0.out
  obtain ⟨_, hpe, hpl, pc0⟩ := (HPA.out.below hb).one (k := 0) rfl
  injection hpe with hpe
  subst hpe
  simp only [Addr.add_zero'] at pc0
  have HBB0 := Lib.hid hb
  clear hb hpl
  go_wp2_with (first
    | (go_at_call 122; refine (HM1.out _ _ (by simp) HBB0.out).mono ?_; rintro e w2 ⟨ad1, rfl, hl1, hb2⟩; have HS1 := Lib.hid (HS0.out.below hb2); have HL1 := Lib.hid hl1; clear hb2 hl1 c0 c1 f0 f1)
    | (at_builtin; refine wpList_append_lies _ rfl (.tmp 52) (.tmp 56) 22 rfl w.heap.size 58 i0 _ 5 40 Tryz.underlying22 hi hz0 hz1 hz2 rfl (by decide) _ 0 (ndCells []) rfl HS1.out.1 ad1 n1 n1 (ndCells (P.map (shift 0))) rfl ?r0c1 ?r0c2 ?r0c3 ?r0c4 ?r0c5 ?r0c6 ?r0c7 _ rfl ?_))
  case r0c1 => rw [ndCells_length, List.length_map, HN1.out]
  case r0c2 => exact HL1.out.cells
  case r0c3 => exact nd_one _
  case r0c4 => omega
  case r0c5 => unfold maxLen; omega
  case r0c6 => omega
  case r0c7 => exact HS1.out.2.2.2.2.2.2.2.1.size
  intro g0 cap0 W0 ho hg hat _
  have HS2 := Lib.hid (HS1.out.grown ho hg hat)
  clear ho hg hat
  obtain ⟨-, -, hlt2, c0, c1, f0, f1, hb, -⟩ := HS2.out
  clear hb
  go_wp2
  refine wp_gen (fun W => NSt w w1.heap.size W (.slice (some ⟨g0, 0, none⟩) n1 cap0) n1 (P.map (shift 0)) (n1 - 1) (0)) (HS2.out.set0 _) ?_
  clear HS0 HS1 HS2 HBB0 HL1 c0 c1 f0 f1 hlt hlt2 hB pc0
  intro W hS
  have HS3 := Lib.hid hS
  clear hS
  try rw [rounds_succ]
  obtain ⟨-, -, hlt, c0, c1, f0, f1, hb, hB⟩ := HS3.out
  obtain ⟨_, hpe, hpl, pc0⟩ := (HPA.out.below hb).one (k := 1) rfl
  injection hpe with hpe
  subst hpe
  have pc1 : W.cell? ⟨pad.block, pad.off + 1, none⟩ = some (.slice A2 n2 c2) := pc0
  clear pc0
  have HBB1 := Lib.hid hb
  clear hb hpl
  go_wp2_with (first
    | (go_at_call 122; refine (HM2.out _ _ (by simp) HBB1.out).mono ?_; rintro e w2 ⟨ad2, rfl, hl1, hb2⟩; have HS4 := Lib.hid (HS3.out.below hb2); have HL2 := Lib.hid hl1; clear hb2 hl1 c0 c1 f0 f1)
    | (at_builtin; refine wpList_append_lies _ rfl (.tmp 52) (.tmp 56) 22 rfl w.heap.size 58 i0 _ 5 40 Tryz.underlying22 hi hz0 hz1 hz2 rfl (by decide) _ n1 (ndCells (P.map (shift 0))) rfl HS4.out.1 ad2 n2 n2 (ndCells (Q.map (shift n1))) rfl ?r1c1 ?r1c2 ?r1c3 ?r1c4 ?r1c5 ?r1c6 ?r1c7 _ rfl ?_))
  case r1c1 => rw [ndCells_length, List.length_map, HN2.out]
  case r1c2 => exact HL2.out.cells
  case r1c3 => exact nd_one _
  case r1c4 => omega
  case r1c5 => unfold maxLen; omega
  case r1c6 => omega
  case r1c7 => exact HS4.out.2.2.2.2.2.2.2.1.size
  intro g1 cap1 W1 ho hg hat _
  have HS5 := Lib.hid (HS4.out.grown ho hg hat)
  clear ho hg hat
  obtain ⟨-, -, hlt2, c0, c1, f0, f1, hb, -⟩ := HS5.out
  clear hb
  go_wp2
  refine wp_gen (fun W => NSt w w1.heap.size W (.slice (some ⟨g1, 0, none⟩) (n1 + n2) cap1) (n1 + n2) (P.map (shift 0) ++ Q.map (shift n1)) (n1 - 1) (n1 + n2 - 1)) (HS5.out.set1 _) ?_
  clear HS3 HS4 HS5 HBB1 HL2 c0 c1 f0 f1 hlt hlt2 hB pc1
  intro W hS
  have HS6 := Lib.hid hS
  clear hS
  have HMM := Lib.hid (show ndCells (P.map (shift 0) ++ Q.map (shift n1)) ++ ndCells [⟨k, nn, (n1 : Int) - 1, (n1 : Int) + n2 - 1, p⟩] = ndCells (made2 k nn p P Q) by rw [← ndCells_append]; simp [made2, HN1.out, HN2.out])
  try rw [rounds_succ]
  obtain ⟨-, -, hlt, c0, c1, f0, f1, hb, hB⟩ := HS6.out
  have HBc := Lib.hid hb
  clear hb
  by_cases hzz : z = 0
  · subst hzz
    go_wp2_with ((at_builtin; refine wpList_append_lies _ rfl (.tmp 64) (.tmp 73) 22 rfl w.heap.size 58 i0 _ 5 40 Tryz.underlying22 hi hz0 hz1 hz2 rfl (by decide) _ (n1 + n2) (ndCells (P.map (shift 0) ++ Q.map (shift n1))) rfl (HS6.out.1.alloc _) ⟨W.heap.size, 0, none⟩ 1 1 (ndCells [⟨k, nn, (n1 : Int) - 1, (n1 : Int) + n2 - 1, p⟩]) rfl ?fa1 ?fa2 ?fa3 ?fa4 ?fa5 ?fa6 ?fa7 _ rfl ?_))
    case fa1 => rfl
    case fa2 => first | exact cells_new5 W W.heap.size rfl ⟨k, nn, (n1 : Int) - 1, (n1 : Int) + n2 - 1, p⟩ _ | (intro j u hj; simpa [ndCells, ndC] using hj)
    case fa3 => exact nd_one _
    try case fa4 => omega
    case fa5 => unfold maxLen; omega
    case fa6 => omega
    case fa7 => have := HBc.out.size; simp; omega
    intro g cap w5 ho hg _ _
    rw [HMM.out] at ho
    have HO5 := Lib.hid ho
    have HB5 := Lib.hid (show Below w.heap.size w w5 from (HBc.out.alloc HBc.out.size _).grown hg (by have := HBc.out.size; simp; omega) (fun j hj => (HS6.out.1.lt j hj).1))
    clear ho hg
    go_wp2_with (go_at_call 49; refine (HC.out _ _ _ _ (by rw [HML.out]; try omega) (Lies.of_own HO5.out (by intro h; omega))).mono ?_; rintro e w6 ⟨rfl, hb6⟩)
    go_ret2
    obtain ⟨A', c', hv, hk1, _⟩ := own_form HO5.out
    refine ⟨HB5.out.trans (hb6.mono HB5.out.size), .inr ⟨HZ.out, _, cap, by rw [HML.out]; first | rfl | (simp only [Nat.zero_add]; rfl), (Lies.of_own HO5.out (by intro h; omega)).below hb6, by injection hv with _ _ hcc; rw [HML.out]; omega⟩⟩
  · have hne := errno_ne hzz
    have HNE := Lib.hid hzz
    clear hzz
    go_wp2_with ((at_builtin; refine wpList_append_lies _ rfl (.tmp 64) (.tmp 73) 22 rfl w.heap.size 58 i0 _ 5 40 Tryz.underlying22 hi hz0 hz1 hz2 rfl (by decide) _ (n1 + n2) (ndCells (P.map (shift 0) ++ Q.map (shift n1))) rfl (HS6.out.1.alloc _) ⟨W.heap.size, 0, none⟩ 1 1 (ndCells [⟨k, nn, (n1 : Int) - 1, (n1 : Int) + n2 - 1, p⟩]) rfl ?fb1 ?fb2 ?fb3 ?fb4 ?fb5 ?fb6 ?fb7 _ rfl ?_))
    case fb1 => rfl
    case fb2 => first | exact cells_new5 W W.heap.size rfl ⟨k, nn, (n1 : Int) - 1, (n1 : Int) + n2 - 1, p⟩ _ | (intro j u hj; simpa [ndCells, ndC] using hj)
    case fb3 => exact nd_one _
    try case fb4 => omega
    case fb5 => unfold maxLen; omega
    case fb6 => omega
    case fb7 => have := HBc.out.size; simp; omega
    intro g cap w5 ho hg _ _
    rw [HMM.out] at ho
    have HO5 := Lib.hid ho
    have HB5 := Lib.hid (show Below w.heap.size w w5 from (HBc.out.alloc HBc.out.size _).grown hg (by have := HBc.out.size; simp; omega) (fun j hj => (HS6.out.1.lt j hj).1))
    clear ho hg
    go_wp2_with (go_at_call 49; refine (HC.out _ _ _ _ (by rw [HML.out]; try omega) (Lies.of_own HO5.out (by intro h; omega))).mono ?_; rintro e w6 ⟨rfl, hb6⟩)
    go_ret2
    exact ⟨HB5.out.trans (hb6.mono HB5.out.size), .inl ⟨by rw [HZ.out]; exact HNE.out, by rw [HZ.out]; rfl⟩⟩
end Go.Proofs.YtlmamidodahgmaaGreatDoor.N4

/- NPost: What Node answers, apart: made, or an error. -/
namespace Go.Proofs.YtlmamidodahgmaaGreatDoor.N4
open Go.ChangeShapes Go.WideShapes Go.ChangeAt Go.RowKit
set_option linter.unusedVariables false
set_option maxRecDepth 100000

def NOk (M : List Nd) (n : Nat) (w : World) (e : Ending) (w' : World) : Prop := ∃ A c, e = .returned (.tuple #[.slice A n c, .int .i64 0]) ∧ Lies w' A (ndCells M) ∧ Below w.heap.size w w'
theorem node_ok {args : Array Value} {w : World} {M : List Nd} {n : Nat} (h : Calls Tryz.prog 116 args w (NPost M w)) (h0 : checkF M = 0) (hn : M.length = n) : Calls Tryz.prog 116 args w (NOk M n w) := by
  refine h.mono ?_
  rintro e w' ⟨hb, ⟨h1, _⟩ | ⟨_, A, c, rfl, hl, _⟩⟩
  · exact absurd h0 h1
  · rw [hn]; exact ⟨A, c, rfl, hl, hb⟩
theorem lies_lit (w : World) (B : Nat) (hB : w.heap.size = B) (cs : Array Value) (t : TypeId) : Lies (w.alloc (.cells cs t)) (some ⟨B, 0, none⟩) cs.toList := by
  subst hB
  refine .inr ⟨_, rfl, by simp, fun j z hz => ?_⟩
  exact World.news_of_block (w := w.alloc (.cells cs t)) (B := w.heap.size) (cs := cs) (t := t) (fr := (0, 0)) (heap_alloc_new w _) j z hz
theorem lies_vals (w : World) (B : Nat) (hB : w.heap.size = B) (cs : Array Value) (t : TypeId) (vs : List Value) (h : cs.toList = vs) : Lies (w.alloc (.cells cs t)) (some ⟨B, 0, none⟩) vs := by
  rw [← h]; exact lies_lit w B hB cs t
theorem node_err {args : Array Value} {w : World} {M : List Nd} {v : Int} (h : Calls Tryz.prog 116 args w (NPost M w)) (hv : checkF M = v) (h0 : v ≠ 0) :
    Calls Tryz.prog 116 args w fun e w' => e = .returned (.tuple #[.slice none 0 0, .int .i64 v]) ∧ Below w.heap.size w w' := by
  refine h.mono ?_
  rintro e w' ⟨hb, ⟨_, rfl⟩ | ⟨h1, _⟩⟩
  · rw [hv]; exact ⟨rfl, hb⟩
  · exact absurd (hv.symm.trans h1) h0
end Go.Proofs.YtlmamidodahgmaaGreatDoor.N4

/- NRef: Contracts of the reference's Check, Depth, Size, Cut and Part. -/
namespace Go.Proofs.YtlmamidodahgmaaGreatDoor.N4
open Go.ChangeShapes Go.WideShapes Go.ChangeAt Go.RowKit
set_option linter.unusedVariables false
set_option maxRecDepth 100000
set_option linter.unusedSimpArgs false

def ROk (E : List Ex) (n : Nat) (w : World) (e : Ending) (w' : World) : Prop :=
  ∃ a1 c1 a2 c2, e = .returned (.tuple #[.slice (some a1) n c1, .slice (some a2) n c2, .bool true]) ∧ Lies w' (some a1) (sCells E) ∧ Lies w' (some a2) (dCells E) ∧ Below w.heap.size w w'
theorem rsizes_ok (A : Option Addr) (c n : Nat) (L : List Nd) (E : List Ex) (w : World) (ht : Lies w A (ndCells L)) (hE : extF L = some E) (hL : n ≤ 60) (hn : L.length = n) (h0 : 1 ≤ n) (hs : ∃ y, E[n - 1]? = some y ∧ y.s = n) :
    Calls Tryz.prog 48 #[.slice A n c] w (ROk E n w) := by
  refine (rsizes_any A c n L w hn hL ht).mono ?_
  rintro e w' ⟨hb, ⟨h, _⟩ | ⟨E', A1, c1, A2, c2, hE', rfl, hl1, hl2⟩⟩
  · rw [hE] at h; cases h
  · obtain rfl : E = E' := Option.some.inj (hE.symm.trans hE')
    have hl := extF_length hE
    obtain ⟨y, hy⟩ : ∃ y, E[0]? = some y := ⟨_, List.getElem?_eq_getElem (by omega)⟩
    obtain ⟨a1, rfl, _⟩ := hl1.one (k := 0) (u := .int .i64 (y.s : Nat)) (by rw [sCells, List.getElem?_map, hy]; rfl)
    obtain ⟨a2, rfl, _⟩ := hl2.one (k := 0) (u := .int .i64 (y.d : Nat)) (by rw [dCells, List.getElem?_map, hy]; rfl)
    rw [decide_eq_true hs]
    exact ⟨a1, c1, a2, c2, rfl, hl1, hl2, hb⟩
def RBad (w : World) (e : Ending) (w' : World) : Prop := ∃ x y, e = .returned (.tuple #[x, y, .bool false]) ∧ Below w.heap.size w w'
theorem rsizes_bad (A : Option Addr) (c n : Nat) (L : List Nd) (w : World) (ht : Lies w A (ndCells L)) (hL : n ≤ 60) (hn : L.length = n) (h : extF L = none ∨ ∃ E, extF L = some E ∧ ¬ ∃ y, E[n - 1]? = some y ∧ y.s = n) :
    Calls Tryz.prog 48 #[.slice A n c] w (RBad w) := by
  refine (rsizes_any A c n L w hn hL ht).mono ?_
  rintro e w' ⟨hb, ⟨_, rfl⟩ | ⟨E', A1, c1, A2, c2, hE', rfl, hl1, hl2⟩⟩
  · exact ⟨_, _, rfl, hb⟩
  · rcases h with h | ⟨E, hE, hs⟩
    · rw [h] at hE'; cases hE'
    · obtain rfl : E = E' := Option.some.inj (hE.symm.trans hE')
      rw [decide_eq_false hs]
      exact ⟨_, _, rfl, hb⟩

/-- What Check tells, by what Sizes tells. -/
theorem check_cases {L : List Nd} {n : Nat} (hn : L.length = n) : (60 < n ∧ checkF L = 4) ∨ (n ≤ 60 ∧ checkF L = 8 ∧ (extF L = none ∨ ∃ E, extF L = some E ∧ ¬ ∃ y, E[n - 1]? = some y ∧ y.s = n)) ∨
    (n ≤ 60 ∧ 1 ≤ n ∧ ∃ E y, extF L = some E ∧ E[n - 1]? = some y ∧ y.s = n ∧ checkF L = if 20 < y.d then 34 else 0) := by
  subst hn
  rcases Nat.lt_or_ge 60 L.length with h | h
  · exact .inl ⟨h, by unfold checkF; rw [if_pos h]⟩
  · cases hE : extF L with
    | none => exact .inr (.inl ⟨h, checkF_bad h hE, .inl rfl⟩)
    | some E =>
      have hv : checkF L = checkE L.length E := by unfold checkF; rw [if_neg (by omega), hE]
      cases hy : E[L.length - 1]? with
      | none => exact .inr (.inl ⟨h, by rw [hv, checkE, hy], .inr ⟨E, rfl, by rintro ⟨y, h1, _⟩; rw [hy] at h1; cases h1⟩⟩)
      | some y =>
        have hz := extF_sz hE _ _ hy
        have hl := (List.getElem?_eq_some_iff.1 hy).1
        rw [extF_length hE] at hl
        by_cases hs : y.s = L.length
        · exact .inr (.inr ⟨h, by omega, E, y, rfl, hy, hs, by rw [hv, checkE, hy]; simp only; rw [if_neg (by omega)]⟩)
        · exact .inr (.inl ⟨h, by rw [hv, checkE, hy]; simp only; rw [if_pos (by omega)], .inr ⟨E, rfl, by rintro ⟨y', h1, h2⟩; obtain rfl := Option.some.inj (hy.symm.trans h1); exact hs h2⟩⟩)
set_option maxHeartbeats 1000000 in
theorem rcheck_any (A : Option Addr) (c n : Nat) (L : List Nd) (w : World) (hn : L.length = n) (hL : n ≤ maxLen) (ht : Lies w A (ndCells L)) (v : Int) (hv : checkF L = v) :
    Calls Tryz.prog 20 #[.slice A n c] w fun e w' => e = .returned (.int .i64 v) ∧ Below w.heap.size w w' := by
  unfold maxLen at hL
  rcases check_cases hn with ⟨h1, h2⟩ | ⟨h1, h2, h3⟩ | ⟨h1, h0, E, y, h2, h3, h4, h5⟩
  · obtain rfl : 4 = v := h2.symm.trans hv
    clear ht hv h2 hn
    go_enter Tryz.func20, Tryz.ntmps20
    go_wp2
    go_ret
    exact ⟨rfl, Below.refl _ _⟩
  · obtain rfl : 8 = v := h2.symm.trans hv
    have HB := Lib.hid (rsizes_bad A c n L w ht h1 hn h3)
    clear ht hv h2 hn h3
    go_enter Tryz.func20, Tryz.ntmps20
    go_wp2_with (go_at_call 48; refine HB.out.mono ?_; rintro e w1 ⟨x, y, rfl, hb⟩)
    go_ret
    exact ⟨rfl, hb⟩
  · have HB := Lib.hid (rsizes_ok A c n L E w ht h2 h1 hn h0 ⟨y, h3, h4⟩)
    obtain ⟨m, rfl⟩ : ∃ m, n = m + 1 := ⟨n - 1, by omega⟩
    rw [Nat.add_sub_cancel] at h3
    have HD := Lib.hid (show (dCells E)[m]? = some (.int .i64 (y.d : Nat)) by rw [dCells, List.getElem?_map, h3]; rfl)
    obtain ⟨d, hd⟩ : ∃ d, y.d = d := ⟨_, rfl⟩
    rw [hd] at HD h5
    rw [h5] at hv
    clear ht h2 hn h3 h4 h5 hd
    by_cases h20 : 20 < d
    · obtain rfl : 34 = v := by rw [if_pos h20] at hv; exact hv
      clear hv
      go_enter Tryz.func20, Tryz.ntmps20
      go_wp2_with (go_at_call 48; refine HB.out.mono ?_; rintro e w1 ⟨a1, c1, a2, c2, rfl, _, hl2, hb⟩; obtain ⟨_, he, _, d0⟩ := hl2.one HD.out; injection he with he; subst he; clear hl2)
      go_ret
      exact ⟨rfl, hb⟩
    · obtain rfl : 0 = v := by rw [if_neg h20] at hv; exact hv
      clear hv
      go_enter Tryz.func20, Tryz.ntmps20
      go_wp2_with (go_at_call 48; refine HB.out.mono ?_; rintro e w1 ⟨a1, c1, a2, c2, rfl, _, hl2, hb⟩; obtain ⟨_, he, _, d0⟩ := hl2.one HD.out; injection he with he; subst he; clear hl2)
      go_ret
      exact ⟨rfl, hb⟩

/-! ### Depth and Size -/
theorem good_sizes {L : List Nd} {E : List Ex} {n : Nat} (h : Good4 L E) (hn : L.length = n) : extF L = some E ∧ n ≤ 60 ∧ 1 ≤ n ∧ ∃ y, E[n - 1]? = some y ∧ y.s = n := by
  subst hn
  obtain ⟨h1, h2, h3, e, h4, h5, _⟩ := h
  exact ⟨h3, h2, List.length_pos_iff.2 h1, e, h4, h5⟩
end Go.Proofs.YtlmamidodahgmaaGreatDoor.N4
