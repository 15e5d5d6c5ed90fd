/- The contract of Node: expressions made of parts. -/
import Derived.Test.YtakpbpabblgobaaNNode0
import Derived.Outline
namespace Go.Proofs.Ytakpbpabblgobaa
open Go.ChangeShapes Go.WideShapes Go.ChangeAt Go.RowKit
set_option linter.unusedVariables false
set_option linter.unusedSimpArgs false

set_option maxHeartbeats 4000000 in
theorem node_0 (PA : Option Addr) (pc : Nat) (k nn p : Int) (w : World) (hp : Lies w PA []) (h0 : okK k = true) (hf : fitsF k nn p = true) (hc : cnt k = 0) :
    Calls Try.prog 14 #[.int .u8 k, .int .i64 nn, .int .i64 p, .slice PA 0 pc] w (NPost (made0 k nn p) w) := by
  have HP := Lib.hid (fun w => show Calls Try.prog 16 #[.int .u8 k] w fun e w' => e = .returned (.tuple #[.int .i64 0, .int .i64 0]) ∧ w = w' by have := parts_any k w; rwa [show partsN k = 0 from partsN_of h0 hc, show partsE k = 0 by simp [partsE, h0]] at this)
  have HF := Lib.hid (fun w => fits_any k nn p true hf w)
  have HE := Lib.hid (first_any PA pc 0 [] [] w rfl rfl (by decide) hp (by intro i u L h; simp at h) 0 (by simp [firstE]))
  have hml : (made0 k nn p).length = 0 + 1 := by simp [made0]; try omega
  have HC := Lib.hid (fun (A : Option Addr) (c n : Nat) w' (hn : (made0 k nn p).length = n) (hl : Lies w' A (ndCells (made0 k nn p))) => show Calls Try.prog 15 #[.slice A n c] w' fun e w'' => e = .returned (.int .i64 (checkF (made0 k nn p))) ∧ Below w'.heap.size w' w'' by rw [← hn]; exact check_any A c _ w' (by rw [hml]; unfold maxLen; omega) hl _ rfl)
  have HML := Lib.hid hml
  have HPA := Lib.hid hp
  obtain ⟨i0, hi, hz0, hz1, hz2⟩ := info_parts nd_info
  obtain ⟨z, hz⟩ : ∃ z, checkF (made0 k nn p) = z := ⟨_, rfl⟩
  have HZ := Lib.hid hz
  rw [hz] at HC
  clear hp h0 hf hc hml hz
  go_enter Try.func14, Try.ntmps14
  go_wp2_with (first
      | (go_at_call 16; refine (HP.out _).mono ?_; rintro e w' ⟨rfl, rfl⟩)
      | (go_at_call 31; refine (HF.out _).mono ?_; rintro e w' ⟨rfl, rfl⟩)
      | (go_at_call 27; refine HE.out.mono ?_; rintro e w1 ⟨rfl, hb1⟩; have HS0 := Lib.hid (NSt.start hb1 w1.heap.size rfl); have HB1 := Lib.hid hb1; clear hb1))
  refine wp_gen (fun W => NSt w w1.heap.size W (.slice (some ⟨w1.heap.size, 0, none⟩) 0 0) 0 [] 0 0) HS0.out ?_
  clear HS0
  intro W hS0
  have HS0 := Lib.hid hS0
  clear hS0
  refine wp_loop_rounds 1 ?_
  have HMM := Lib.hid (show ndCells [] ++ ndCells [⟨k, nn, 0, 0, p⟩] = ndCells (made0 k nn p) by rw [← ndCells_append]; simp [made0])
  try rw [rounds_succ]
  obtain ⟨-, -, hlt, c0, c1, f0, f1, hb, hB⟩ := HS0.out
  have HBc := Lib.hid hb
  clear hb
  by_cases hzz : z = 0
  · subst hzz
    go_wp2_with ((at_builtin; refine wpList_append_lies _ rfl (.tmp 64) (.tmp 73) 24 rfl w.heap.size 23 i0 _ 5 40 Try.underlying24 hi hz0 hz1 hz2 rfl (by decide) _ 0 (ndCells []) rfl (HS0.out.1.alloc _) ⟨W.heap.size, 0, none⟩ 1 1 (ndCells [⟨k, nn, 0, 0, p⟩]) rfl ?fa1 ?fa2 ?fa3 ?fa4 ?fa5 ?fa6 ?fa7 _ rfl ?_))
    case fa1 => rfl
    case fa2 => first | exact cells_new5 W W.heap.size rfl ⟨k, nn, 0, 0, p⟩ _ | (intro j u hj; simpa [ndCells, ndC] using hj)
    case fa3 => exact nd_one _
    try case fa4 => omega
    case fa5 => unfold maxLen; omega
    case fa6 => omega
    case fa7 => have := HBc.out.size; simp; omega
    intro g cap w5 ho hg _ _
    rw [HMM.out] at ho
    have HO5 := Lib.hid ho
    have HB5 := Lib.hid (show Below w.heap.size w w5 from (HBc.out.alloc HBc.out.size _).grown hg (by have := HBc.out.size; simp; omega) (fun j hj => (HS0.out.1.lt j hj).1))
    clear ho hg
    go_wp2_with (go_at_call 15; refine (HC.out _ _ _ _ (by rw [HML.out]; try omega) (Lies.of_own HO5.out (by intro h; omega))).mono ?_; rintro e w6 ⟨rfl, hb6⟩)
    go_ret2
    obtain ⟨A', c', hv, hk1, _⟩ := own_form HO5.out
    refine ⟨HB5.out.trans (hb6.mono HB5.out.size), .inr ⟨HZ.out, _, cap, by rw [HML.out]; first | rfl | (simp only [Nat.zero_add]; rfl), (Lies.of_own HO5.out (by intro h; omega)).below hb6, by injection hv with _ _ hcc; rw [HML.out]; omega⟩⟩
  · have hne := errno_ne hzz
    have HNE := Lib.hid hzz
    clear hzz
    go_wp2_with ((at_builtin; refine wpList_append_lies _ rfl (.tmp 64) (.tmp 73) 24 rfl w.heap.size 23 i0 _ 5 40 Try.underlying24 hi hz0 hz1 hz2 rfl (by decide) _ 0 (ndCells []) rfl (HS0.out.1.alloc _) ⟨W.heap.size, 0, none⟩ 1 1 (ndCells [⟨k, nn, 0, 0, p⟩]) rfl ?fb1 ?fb2 ?fb3 ?fb4 ?fb5 ?fb6 ?fb7 _ rfl ?_))
    case fb1 => rfl
    case fb2 => first | exact cells_new5 W W.heap.size rfl ⟨k, nn, 0, 0, p⟩ _ | (intro j u hj; simpa [ndCells, ndC] using hj)
    case fb3 => exact nd_one _
    try case fb4 => omega
    case fb5 => unfold maxLen; omega
    case fb6 => omega
    case fb7 => have := HBc.out.size; simp; omega
    intro g cap w5 ho hg _ _
    rw [HMM.out] at ho
    have HO5 := Lib.hid ho
    have HB5 := Lib.hid (show Below w.heap.size w w5 from (HBc.out.alloc HBc.out.size _).grown hg (by have := HBc.out.size; simp; omega) (fun j hj => (HS0.out.1.lt j hj).1))
    clear ho hg
    go_wp2_with (go_at_call 15; refine (HC.out _ _ _ _ (by rw [HML.out]; try omega) (Lies.of_own HO5.out (by intro h; omega))).mono ?_; rintro e w6 ⟨rfl, hb6⟩)
    go_ret2
    exact ⟨HB5.out.trans (hb6.mono HB5.out.size), .inl ⟨by rw [HZ.out]; exact HNE.out, by rw [HZ.out]; rfl⟩⟩

set_option maxHeartbeats 4000000 in
theorem node_1 (PA : Option Addr) (pc : Nat) (k nn p : Int) (w : World) (A1 : Option Addr) (c1 n1 : Nat) (P : List Nd) (hn1 : P.length = n1) (h1 : Lies w A1 (ndCells P)) (hv1 : checkF P = 0) (hp : Lies w PA [.slice A1 n1 c1]) (h0 : okK k = true) (hf : fitsF k nn p = true) (hc : cnt k = 1) :
    Calls Try.prog 14 #[.int .u8 k, .int .i64 nn, .int .i64 p, .slice PA 1 pc] w (NPost (made1 k nn p P) w) := by
  obtain ⟨E1, g1⟩ := checkF_zero hv1
  have l1 := g1.2.1
  rw [hn1] at l1
  have b1 : 1 ≤ n1 := by rw [← hn1]; exact List.length_pos_iff.2 g1.1
  have HP := Lib.hid (fun w => show Calls Try.prog 16 #[.int .u8 k] w fun e w' => e = .returned (.tuple #[.int .i64 1, .int .i64 0]) ∧ w = w' by have := parts_any k w; rwa [show partsN k = 1 from partsN_of h0 hc, show partsE k = 0 by simp [partsE, h0]] at this)
  have HF := Lib.hid (fun w => fits_any k nn p true hf w)
  have HE := Lib.hid (first_any PA pc 1 [.slice A1 n1 c1] [P] w rfl rfl (by decide) hp (by intro i u L h h'; match i with | 0 => (simp at h h'; subst h h'; exact ⟨A1, c1, by rw [hn1], h1, by rw [hn1]; unfold maxLen; omega⟩) | i + 1 => simp at h) 0 (by simp [firstE, hv1]))
  have HM1 := Lib.hid (fun (d : Int) w' (hd : d = 0) (hb : Below w.heap.size w w') => show Calls Try.prog 26 #[.slice A1 n1 c1, .int .i64 d] w' (EPost w' (P.map (shift 0)) n1) by rw [hd]; exact moved_any A1 c1 n1 P 0 w' hn1 (by omega) (h1.below hb) (sm_of g1 _ (by omega) (by omega)))
  have hml : (made1 k nn p P).length = 0 + n1 + 1 := by simp [made1, hn1]; try omega
  have HC := Lib.hid (fun (A : Option Addr) (c n : Nat) w' (hn : (made1 k nn p P).length = n) (hl : Lies w' A (ndCells (made1 k nn p P))) => show Calls Try.prog 15 #[.slice A n c] w' fun e w'' => e = .returned (.int .i64 (checkF (made1 k nn p P))) ∧ Below w'.heap.size w' w'' by rw [← hn]; exact check_any A c _ w' (by rw [hml]; unfold maxLen; omega) hl _ rfl)
  have HN1 := Lib.hid hn1
  have HML := Lib.hid hml
  have HPA := Lib.hid hp
  obtain ⟨i0, hi, hz0, hz1, hz2⟩ := info_parts nd_info
  obtain ⟨z, hz⟩ : ∃ z, checkF (made1 k nn p P) = z := ⟨_, rfl⟩
  have HZ := Lib.hid hz
  rw [hz] at HC
  clear hp h0 hf hc hml hz h1 hv1 hn1 g1
  obtain ⟨pad, rfl, _, _⟩ := HPA.out.one (k := 0) rfl
  go_enter Try.func14, Try.ntmps14
  go_wp2_with (first
      | (go_at_call 16; refine (HP.out _).mono ?_; rintro e w' ⟨rfl, rfl⟩)
      | (go_at_call 31; refine (HF.out _).mono ?_; rintro e w' ⟨rfl, rfl⟩)
      | (go_at_call 27; refine HE.out.mono ?_; rintro e w1 ⟨rfl, hb1⟩; have HS0 := Lib.hid (NSt.start hb1 w1.heap.size rfl); have HB1 := Lib.hid hb1; clear hb1))
  refine wp_gen (fun W => NSt w w1.heap.size W (.slice (some ⟨w1.heap.size, 0, none⟩) 0 0) 0 [] 0 0) HS0.out ?_
  clear HS0
  intro W hS0
  have HS0 := Lib.hid hS0
  clear hS0
  refine wp_loop_rounds 2 ?_
  try rw [rounds_succ]
  obtain ⟨-, -, hlt, c0, c1, f0, f1, hb, hB⟩ := HS0.out
  obtain ⟨_, hpe, hpl, pc0⟩ := (HPA.out.below hb).one (k := 0) rfl
  injection hpe with hpe
  subst hpe
  simp only [Addr.add_zero'] at pc0
  have HBB0 := Lib.hid hb
  clear hb hpl
  go_wp2_with (first
    | (go_at_call 26; refine (HM1.out _ _ (by simp) HBB0.out).mono ?_; rintro e w2 ⟨ad1, rfl, hl1, hb2⟩; have HS1 := Lib.hid (HS0.out.below hb2); have HL1 := Lib.hid hl1; clear hb2 hl1 c0 c1 f0 f1)
    | (at_builtin; refine wpList_append_lies _ rfl (.tmp 52) (.tmp 56) 24 rfl w.heap.size 23 i0 _ 5 40 Try.underlying24 hi hz0 hz1 hz2 rfl (by decide) _ 0 (ndCells []) rfl HS1.out.1 ad1 n1 n1 (ndCells (P.map (shift 0))) rfl ?r0c1 ?r0c2 ?r0c3 ?r0c4 ?r0c5 ?r0c6 ?r0c7 _ rfl ?_))
  case r0c1 => rw [ndCells_length, List.length_map, HN1.out]
  case r0c2 => exact HL1.out.cells
  case r0c3 => exact nd_one _
  case r0c4 => omega
  case r0c5 => unfold maxLen; omega
  case r0c6 => omega
  case r0c7 => exact HS1.out.2.2.2.2.2.2.2.1.size
  intro g0 cap0 W0 ho hg hat _
  have HS2 := Lib.hid (HS1.out.grown ho hg hat)
  clear ho hg hat
  obtain ⟨-, -, hlt2, c0, c1, f0, f1, hb, -⟩ := HS2.out
  clear hb
  go_wp2
  refine wp_gen (fun W => NSt w w1.heap.size W (.slice (some ⟨g0, 0, none⟩) n1 cap0) n1 (P.map (shift 0)) (n1 - 1) (0)) (HS2.out.set0 _) ?_
  clear HS0 HS1 HS2 HBB0 HL1 c0 c1 f0 f1 hlt hlt2 hB pc0
  intro W hS
  have HS3 := Lib.hid hS
  clear hS
  have HMM := Lib.hid (show ndCells (P.map (shift 0)) ++ ndCells [⟨k, nn, (n1 : Int) - 1, 0, p⟩] = ndCells (made1 k nn p P) by rw [← ndCells_append]; simp [made1, HN1.out])
  try rw [rounds_succ]
  obtain ⟨-, -, hlt, c0, c1, f0, f1, hb, hB⟩ := HS3.out
  have HBc := Lib.hid hb
  clear hb
  by_cases hzz : z = 0
  · subst hzz
    go_wp2_with ((at_builtin; refine wpList_append_lies _ rfl (.tmp 64) (.tmp 73) 24 rfl w.heap.size 23 i0 _ 5 40 Try.underlying24 hi hz0 hz1 hz2 rfl (by decide) _ n1 (ndCells (P.map (shift 0))) rfl (HS3.out.1.alloc _) ⟨W.heap.size, 0, none⟩ 1 1 (ndCells [⟨k, nn, (n1 : Int) - 1, 0, p⟩]) rfl ?fa1 ?fa2 ?fa3 ?fa4 ?fa5 ?fa6 ?fa7 _ rfl ?_))
    case fa1 => rfl
    case fa2 => first | exact cells_new5 W W.heap.size rfl ⟨k, nn, (n1 : Int) - 1, 0, p⟩ _ | (intro j u hj; simpa [ndCells, ndC] using hj)
    case fa3 => exact nd_one _
    try case fa4 => omega
    case fa5 => unfold maxLen; omega
    case fa6 => omega
    case fa7 => have := HBc.out.size; simp; omega
    intro g cap w5 ho hg _ _
    rw [HMM.out] at ho
    have HO5 := Lib.hid ho
    have HB5 := Lib.hid (show Below w.heap.size w w5 from (HBc.out.alloc HBc.out.size _).grown hg (by have := HBc.out.size; simp; omega) (fun j hj => (HS3.out.1.lt j hj).1))
    clear ho hg
    go_wp2_with (go_at_call 15; refine (HC.out _ _ _ _ (by rw [HML.out]; try omega) (Lies.of_own HO5.out (by intro h; omega))).mono ?_; rintro e w6 ⟨rfl, hb6⟩)
    go_ret2
    obtain ⟨A', c', hv, hk1, _⟩ := own_form HO5.out
    refine ⟨HB5.out.trans (hb6.mono HB5.out.size), .inr ⟨HZ.out, _, cap, by rw [HML.out]; first | rfl | (simp only [Nat.zero_add]; rfl), (Lies.of_own HO5.out (by intro h; omega)).below hb6, by injection hv with _ _ hcc; rw [HML.out]; omega⟩⟩
  · have hne := errno_ne hzz
    have HNE := Lib.hid hzz
    clear hzz
    go_wp2_with ((at_builtin; refine wpList_append_lies _ rfl (.tmp 64) (.tmp 73) 24 rfl w.heap.size 23 i0 _ 5 40 Try.underlying24 hi hz0 hz1 hz2 rfl (by decide) _ n1 (ndCells (P.map (shift 0))) rfl (HS3.out.1.alloc _) ⟨W.heap.size, 0, none⟩ 1 1 (ndCells [⟨k, nn, (n1 : Int) - 1, 0, p⟩]) rfl ?fb1 ?fb2 ?fb3 ?fb4 ?fb5 ?fb6 ?fb7 _ rfl ?_))
    case fb1 => rfl
    case fb2 => first | exact cells_new5 W W.heap.size rfl ⟨k, nn, (n1 : Int) - 1, 0, p⟩ _ | (intro j u hj; simpa [ndCells, ndC] using hj)
    case fb3 => exact nd_one _
    try case fb4 => omega
    case fb5 => unfold maxLen; omega
    case fb6 => omega
    case fb7 => have := HBc.out.size; simp; omega
    intro g cap w5 ho hg _ _
    rw [HMM.out] at ho
    have HO5 := Lib.hid ho
    have HB5 := Lib.hid (show Below w.heap.size w w5 from (HBc.out.alloc HBc.out.size _).grown hg (by have := HBc.out.size; simp; omega) (fun j hj => (HS3.out.1.lt j hj).1))
    clear ho hg
    go_wp2_with (go_at_call 15; refine (HC.out _ _ _ _ (by rw [HML.out]; try omega) (Lies.of_own HO5.out (by intro h; omega))).mono ?_; rintro e w6 ⟨rfl, hb6⟩)
    go_ret2
    exact ⟨HB5.out.trans (hb6.mono HB5.out.size), .inl ⟨by rw [HZ.out]; exact HNE.out, by rw [HZ.out]; rfl⟩⟩

set_option maxHeartbeats 4000000 in
theorem node_2 (PA : Option Addr) (pc : Nat) (k nn p : Int) (w : World) (A1 : Option Addr) (c1 n1 : Nat) (P : List Nd) (hn1 : P.length = n1) (h1 : Lies w A1 (ndCells P)) (hv1 : checkF P = 0) (A2 : Option Addr) (c2 n2 : Nat) (Q : List Nd) (hn2 : Q.length = n2) (h2 : Lies w A2 (ndCells Q)) (hv2 : checkF Q = 0) (hp : Lies w PA [.slice A1 n1 c1, .slice A2 n2 c2]) (h0 : okK k = true) (hf : fitsF k nn p = true) (hc : cnt k = 2) :
    Calls Try.prog 14 #[.int .u8 k, .int .i64 nn, .int .i64 p, .slice PA 2 pc] w (NPost (made2 k nn p P Q) w) := by
  obtain ⟨E1, g1⟩ := checkF_zero hv1
  have l1 := g1.2.1
  rw [hn1] at l1
  have b1 : 1 ≤ n1 := by rw [← hn1]; exact List.length_pos_iff.2 g1.1
  obtain ⟨E2, g2⟩ := checkF_zero hv2
  have l2 := g2.2.1
  rw [hn2] at l2
  have b2 : 1 ≤ n2 := by rw [← hn2]; exact List.length_pos_iff.2 g2.1
  have HP := Lib.hid (fun w => show Calls Try.prog 16 #[.int .u8 k] w fun e w' => e = .returned (.tuple #[.int .i64 2, .int .i64 0]) ∧ w = w' by have := parts_any k w; rwa [show partsN k = 2 from partsN_of h0 hc, show partsE k = 0 by simp [partsE, h0]] at this)
  have HF := Lib.hid (fun w => fits_any k nn p true hf w)
  have HE := Lib.hid (first_any PA pc 2 [.slice A1 n1 c1, .slice A2 n2 c2] [P, Q] w rfl rfl (by decide) hp (two_at ⟨A1, c1, by rw [hn1], h1, by rw [hn1]; unfold maxLen; omega⟩ ⟨A2, c2, by rw [hn2], h2, by rw [hn2]; unfold maxLen; omega⟩) 0 (by simp [firstE, hv1, hv2]))
  have HM1 := Lib.hid (fun (d : Int) w' (hd : d = 0) (hb : Below w.heap.size w w') => show Calls Try.prog 26 #[.slice A1 n1 c1, .int .i64 d] w' (EPost w' (P.map (shift 0)) n1) by rw [hd]; exact moved_any A1 c1 n1 P 0 w' hn1 (by omega) (h1.below hb) (sm_of g1 _ (by omega) (by omega)))
  have HM2 := Lib.hid (fun (d : Int) w' (hd : d = (n1 : Int)) (hb : Below w.heap.size w w') => show Calls Try.prog 26 #[.slice A2 n2 c2, .int .i64 d] w' (EPost w' (Q.map (shift (n1 : Int))) n2) by rw [hd]; exact moved_any A2 c2 n2 Q (n1 : Int) w' hn2 (by omega) (h2.below hb) (sm_of g2 _ (by omega) (by omega)))
  have hml : (made2 k nn p P Q).length = 0 + n1 + n2 + 1 := by simp [made2, hn1, hn2]; try omega
  have HC := Lib.hid (fun (A : Option Addr) (c n : Nat) w' (hn : (made2 k nn p P Q).length = n) (hl : Lies w' A (ndCells (made2 k nn p P Q))) => show Calls Try.prog 15 #[.slice A n c] w' fun e w'' => e = .returned (.int .i64 (checkF (made2 k nn p P Q))) ∧ Below w'.heap.size w' w'' by rw [← hn]; exact check_any A c _ w' (by rw [hml]; unfold maxLen; omega) hl _ rfl)
  have HN1 := Lib.hid hn1
  have HN2 := Lib.hid hn2
  have HML := Lib.hid hml
  have HPA := Lib.hid hp
  obtain ⟨i0, hi, hz0, hz1, hz2⟩ := info_parts nd_info
  obtain ⟨z, hz⟩ : ∃ z, checkF (made2 k nn p P Q) = z := ⟨_, rfl⟩
  have HZ := Lib.hid hz
  rw [hz] at HC
  clear hp h0 hf hc hml hz h1 hv1 hn1 g1 h2 hv2 hn2 g2
  obtain ⟨pad, rfl, _, _⟩ := HPA.out.one (k := 0) rfl
  go_enter Try.func14, Try.ntmps14
  go_wp2_with (first
      | (go_at_call 16; refine (HP.out _).mono ?_; rintro e w' ⟨rfl, rfl⟩)
      | (go_at_call 31; refine (HF.out _).mono ?_; rintro e w' ⟨rfl, rfl⟩)
      | (go_at_call 27; refine HE.out.mono ?_; rintro e w1 ⟨rfl, hb1⟩; have HS0 := Lib.hid (NSt.start hb1 w1.heap.size rfl); have HB1 := Lib.hid hb1; clear hb1))
  refine wp_gen (fun W => NSt w w1.heap.size W (.slice (some ⟨w1.heap.size, 0, none⟩) 0 0) 0 [] 0 0) HS0.out ?_
  clear HS0
  intro W hS0
  have HS0 := Lib.hid hS0
  clear hS0
  refine wp_loop_rounds 3 ?_
  try rw [rounds_succ]
  obtain ⟨-, -, hlt, c0, c1, f0, f1, hb, hB⟩ := HS0.out
  obtain ⟨_, hpe, hpl, pc0⟩ := (HPA.out.below hb).one (k := 0) rfl
  injection hpe with hpe
  subst hpe
  simp only [Addr.add_zero'] at pc0
  have HBB0 := Lib.hid hb
  clear hb hpl
  go_wp2_with (first
    | (go_at_call 26; refine (HM1.out _ _ (by simp) HBB0.out).mono ?_; rintro e w2 ⟨ad1, rfl, hl1, hb2⟩; have HS1 := Lib.hid (HS0.out.below hb2); have HL1 := Lib.hid hl1; clear hb2 hl1 c0 c1 f0 f1)
    | (at_builtin; refine wpList_append_lies _ rfl (.tmp 52) (.tmp 56) 24 rfl w.heap.size 23 i0 _ 5 40 Try.underlying24 hi hz0 hz1 hz2 rfl (by decide) _ 0 (ndCells []) rfl HS1.out.1 ad1 n1 n1 (ndCells (P.map (shift 0))) rfl ?r0c1 ?r0c2 ?r0c3 ?r0c4 ?r0c5 ?r0c6 ?r0c7 _ rfl ?_))
  case r0c1 => rw [ndCells_length, List.length_map, HN1.out]
  case r0c2 => exact HL1.out.cells
  case r0c3 => exact nd_one _
  case r0c4 => omega
  case r0c5 => unfold maxLen; omega
  case r0c6 => omega
  case r0c7 => exact HS1.out.2.2.2.2.2.2.2.1.size
  intro g0 cap0 W0 ho hg hat _
  have HS2 := Lib.hid (HS1.out.grown ho hg hat)
  clear ho hg hat
  obtain ⟨-, -, hlt2, c0, c1, f0, f1, hb, -⟩ := HS2.out
  clear hb
  go_wp2
  refine wp_gen (fun W => NSt w w1.heap.size W (.slice (some ⟨g0, 0, none⟩) n1 cap0) n1 (P.map (shift 0)) (n1 - 1) (0)) (HS2.out.set0 _) ?_
  clear HS0 HS1 HS2 HBB0 HL1 c0 c1 f0 f1 hlt hlt2 hB pc0
  intro W hS
  have HS3 := Lib.hid hS
  clear hS
  try rw [rounds_succ]
  obtain ⟨-, -, hlt, c0, c1, f0, f1, hb, hB⟩ := HS3.out
  obtain ⟨_, hpe, hpl, pc0⟩ := (HPA.out.below hb).one (k := 1) rfl
  injection hpe with hpe
  subst hpe
  have pc1 : W.cell? ⟨pad.block, pad.off + 1, none⟩ = some (.slice A2 n2 c2) := pc0
  clear pc0
  have HBB1 := Lib.hid hb
  clear hb hpl
  go_wp2_with (first
    | (go_at_call 26; refine (HM2.out _ _ (by simp) HBB1.out).mono ?_; rintro e w2 ⟨ad2, rfl, hl1, hb2⟩; have HS4 := Lib.hid (HS3.out.below hb2); have HL2 := Lib.hid hl1; clear hb2 hl1 c0 c1 f0 f1)
    | (at_builtin; refine wpList_append_lies _ rfl (.tmp 52) (.tmp 56) 24 rfl w.heap.size 23 i0 _ 5 40 Try.underlying24 hi hz0 hz1 hz2 rfl (by decide) _ n1 (ndCells (P.map (shift 0))) rfl HS4.out.1 ad2 n2 n2 (ndCells (Q.map (shift n1))) rfl ?r1c1 ?r1c2 ?r1c3 ?r1c4 ?r1c5 ?r1c6 ?r1c7 _ rfl ?_))
  case r1c1 => rw [ndCells_length, List.length_map, HN2.out]
  case r1c2 => exact HL2.out.cells
  case r1c3 => exact nd_one _
  case r1c4 => omega
  case r1c5 => unfold maxLen; omega
  case r1c6 => omega
  case r1c7 => exact HS4.out.2.2.2.2.2.2.2.1.size
  intro g1 cap1 W1 ho hg hat _
  have HS5 := Lib.hid (HS4.out.grown ho hg hat)
  clear ho hg hat
  obtain ⟨-, -, hlt2, c0, c1, f0, f1, hb, -⟩ := HS5.out
  clear hb
  go_wp2
  refine wp_gen (fun W => NSt w w1.heap.size W (.slice (some ⟨g1, 0, none⟩) (n1 + n2) cap1) (n1 + n2) (P.map (shift 0) ++ Q.map (shift n1)) (n1 - 1) (n1 + n2 - 1)) (HS5.out.set1 _) ?_
  clear HS3 HS4 HS5 HBB1 HL2 c0 c1 f0 f1 hlt hlt2 hB pc1
  intro W hS
  have HS6 := Lib.hid hS
  clear hS
  have HMM := Lib.hid (show ndCells (P.map (shift 0) ++ Q.map (shift n1)) ++ ndCells [⟨k, nn, (n1 : Int) - 1, (n1 : Int) + n2 - 1, p⟩] = ndCells (made2 k nn p P Q) by rw [← ndCells_append]; simp [made2, HN1.out, HN2.out])
  try rw [rounds_succ]
  obtain ⟨-, -, hlt, c0, c1, f0, f1, hb, hB⟩ := HS6.out
  have HBc := Lib.hid hb
  clear hb
  by_cases hzz : z = 0
  · subst hzz
    go_wp2_with ((at_builtin; refine wpList_append_lies _ rfl (.tmp 64) (.tmp 73) 24 rfl w.heap.size 23 i0 _ 5 40 Try.underlying24 hi hz0 hz1 hz2 rfl (by decide) _ (n1 + n2) (ndCells (P.map (shift 0) ++ Q.map (shift n1))) rfl (HS6.out.1.alloc _) ⟨W.heap.size, 0, none⟩ 1 1 (ndCells [⟨k, nn, (n1 : Int) - 1, (n1 : Int) + n2 - 1, p⟩]) rfl ?fa1 ?fa2 ?fa3 ?fa4 ?fa5 ?fa6 ?fa7 _ rfl ?_))
    case fa1 => rfl
    case fa2 => first | exact cells_new5 W W.heap.size rfl ⟨k, nn, (n1 : Int) - 1, (n1 : Int) + n2 - 1, p⟩ _ | (intro j u hj; simpa [ndCells, ndC] using hj)
    case fa3 => exact nd_one _
    try case fa4 => omega
    case fa5 => unfold maxLen; omega
    case fa6 => omega
    case fa7 => have := HBc.out.size; simp; omega
    intro g cap w5 ho hg _ _
    rw [HMM.out] at ho
    have HO5 := Lib.hid ho
    have HB5 := Lib.hid (show Below w.heap.size w w5 from (HBc.out.alloc HBc.out.size _).grown hg (by have := HBc.out.size; simp; omega) (fun j hj => (HS6.out.1.lt j hj).1))
    clear ho hg
    go_wp2_with (go_at_call 15; refine (HC.out _ _ _ _ (by rw [HML.out]; try omega) (Lies.of_own HO5.out (by intro h; omega))).mono ?_; rintro e w6 ⟨rfl, hb6⟩)
    go_ret2
    obtain ⟨A', c', hv, hk1, _⟩ := own_form HO5.out
    refine ⟨HB5.out.trans (hb6.mono HB5.out.size), .inr ⟨HZ.out, _, cap, by rw [HML.out]; first | rfl | (simp only [Nat.zero_add]; rfl), (Lies.of_own HO5.out (by intro h; omega)).below hb6, by injection hv with _ _ hcc; rw [HML.out]; omega⟩⟩
  · have hne := errno_ne hzz
    have HNE := Lib.hid hzz
    clear hzz
    go_wp2_with ((at_builtin; refine wpList_append_lies _ rfl (.tmp 64) (.tmp 73) 24 rfl w.heap.size 23 i0 _ 5 40 Try.underlying24 hi hz0 hz1 hz2 rfl (by decide) _ (n1 + n2) (ndCells (P.map (shift 0) ++ Q.map (shift n1))) rfl (HS6.out.1.alloc _) ⟨W.heap.size, 0, none⟩ 1 1 (ndCells [⟨k, nn, (n1 : Int) - 1, (n1 : Int) + n2 - 1, p⟩]) rfl ?fb1 ?fb2 ?fb3 ?fb4 ?fb5 ?fb6 ?fb7 _ rfl ?_))
    case fb1 => rfl
    case fb2 => first | exact cells_new5 W W.heap.size rfl ⟨k, nn, (n1 : Int) - 1, (n1 : Int) + n2 - 1, p⟩ _ | (intro j u hj; simpa [ndCells, ndC] using hj)
    case fb3 => exact nd_one _
    try case fb4 => omega
    case fb5 => unfold maxLen; omega
    case fb6 => omega
    case fb7 => have := HBc.out.size; simp; omega
    intro g cap w5 ho hg _ _
    rw [HMM.out] at ho
    have HO5 := Lib.hid ho
    have HB5 := Lib.hid (show Below w.heap.size w w5 from (HBc.out.alloc HBc.out.size _).grown hg (by have := HBc.out.size; simp; omega) (fun j hj => (HS6.out.1.lt j hj).1))
    clear ho hg
    go_wp2_with (go_at_call 15; refine (HC.out _ _ _ _ (by rw [HML.out]; try omega) (Lies.of_own HO5.out (by intro h; omega))).mono ?_; rintro e w6 ⟨rfl, hb6⟩)
    go_ret2
    exact ⟨HB5.out.trans (hb6.mono HB5.out.size), .inl ⟨by rw [HZ.out]; exact HNE.out, by rw [HZ.out]; rfl⟩⟩
end Go.Proofs.Ytakpbpabblgobaa
