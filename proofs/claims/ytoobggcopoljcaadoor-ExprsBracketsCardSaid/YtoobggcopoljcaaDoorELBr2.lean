/- ExprsBrackets: the walks behind its first condition. -/
import Derived.Test.YtoobggcopoljcaaDoorELBr1
import Derived.Test.YtoobggcopoljcaaDoorETOwn
namespace Go.Proofs.YtoobggcopoljcaaDoor
open Go.ChangeShapes Go.WideShapes Go.ChangeAt Go.RowKit N4
set_option linter.unusedVariables false
set_option linter.unusedSimpArgs false
set_option maxRecDepth 100000

theorem tk_good {L : List Tok} (h : chkF L = 0) : ∀ t ∈ L, TkGood t := fun t ht => ⟨okL_mem (chk_zero h).2.1 t ht, (chk_zero h).2.2 t ht⟩
theorem br2_bytes (T : List UInt8) : (⟨#[40]⟩ : ByteArray) ++ bytesOf T ++ ⟨#[41]⟩ = bytesOf ([40] ++ T ++ [41]) := by
  apply ByteArray.ext
  apply Array.toList_inj.1
  simp [bytesOf]
set_option maxHeartbeats 8000000 in
theorem brk_tl (A1 A2 : Option Addr) (c1 c2 n1 n2 : Nat) (k a : Int) (s : List UInt8) (w : World) (hg : G5 w w) (t : Tr) (hn : t.sz = n1) (ht : Lies w A1 (ndCells t.flat)) (hok : t.ok = true) (her : t.er = 0) (hb : t.big) (h2 : ¬ 30 < n2) (F : List Tok) (hFn : F.length = n2) (hF : Toks w A2 F) (hFa : (A2 = none ∧ c2 = 0 ∧ n2 = 0) ∨ ∃ ad, A2 = some ad) (hFs : ∀ t ∈ F, t.s.length ≤ maxLen) (hsl : s.length ≤ maxLen) (hav : askF (F ++ [⟨k, s, a⟩]) 0 = 0) (hlen : 390 < t.wr.length) :
    Calls Tryd.prog 6 #[.slice A1 n1 c1, .slice A2 n2 c2, .agg #[.int .u8 k, .string (bytesOf s), .int .i64 a]] w fun e w' => e = .returned (.bool true) ∧ G5 w w' := by
  have h60 := (Tr.er_zero.1 her).1
  have HA := Lib.hid (fun W => N4.great_any A1 n1 c1 W false (by simp; omega))
  have HC := Lib.hid (fun W (hW : BS w w.heap.size k a (bytesOf s) W) => rcheck_any A1 c1 n1 t.flat W (by rw [t.flat_length, hn]) (by unfold maxLen; omega) (ht.below hW.1.1) 0 ((t.check_flat hok).trans her))
  have hi2 : ¬ (30 : Int) < n2 := by omega
  have HF := Lib.hid (fun W (hW : BS w w.heap.size k a (bytesOf s) W) => (⟨hF.below hW.1.1, hFn, hFa⟩ : Src W A2 n2 c2 F))
  have HK := Lib.hid (fun A c W (hW : BS w w.heap.size k a (bytesOf s) W) (ht : Toks W A (F ++ [⟨k, s, a⟩])) => asked_any A c (n2 + 1) (F ++ [⟨k, s, a⟩]) 0 W (by simp [hFn]) (by unfold maxLen; omega) ht (by intro t ht; rcases List.mem_append.1 ht with ht | ht; exact hFs t ht; simp only [List.mem_singleton] at ht; subst ht; exact hsl) 0 hav)
  have HT := Lib.hid (fun (W : World) (hW : G5 w W) => textF_ok A1 c1 n1 t W hn (ht.below hW.1) hok her hb hW.2.2.1 hW.2.2.2)
  have hwl := (Tr.wr_len t hok hb).1
  have hsz : 390 < (bytesOf t.wr).size := by rw [bytesOf_size]; exact hlen
  have hsz2 : (bytesOf t.wr).size ≤ 3000 := by rw [bytesOf_size]; omega
  generalize t.wr = T at HT hsz hsz2
  clear hF hFa hFs hsl ht hav hn hok her hb hlen hwl
  have HS := Lib.hid (BS.new w hg k a (bytesOf s) 33)
  have HG := Lib.hid hg
  clear hg
  go_enter Tryd.func6, Tryd.ntmps6
  go_upto_region 1 with fail
  go_cut [42] (fun s42 W => s42 = .bool false ∧ Hid (BS w w.heap.size k a (bytesOf s) W))
  case first =>
    refine wp_region_held_drew (S := BS w w.heap.size k a (bytesOf s)) (by kernel_rfl) HS.out (fun hHeld => ?_)
    refine take_yes (i := 0) (d := 21) (v := ?v0) rfl rfl (by kernel_rfl) (by kernel_rfl) (by kernel_rfl) (fun _ _ _ h => h) (by rfl) ?y0 (by assumption) ?z0
    case y0 => (intro w' hSw; (try unfold BS at hSw); go_split_ands; go_simp; try with_reducible rfl)
    try simp only [Act.put, List.setIfInBounds_toArray, List.set_cons_zero, List.set_cons_succ]
    refine wpAnyH_ready (rs := [1]) (by kernel_rfl) (by simp) ?_
    refine AllReadyH.cons rfl (fun K hK => ?_) AllReadyH.nil
    go_simp
    (go_at_call 13; refine (HA.out _).mono ?_; rintro e w' ⟨rfl, rfl⟩)
    refine hK.out _ _ (by assumption) (fun hHeld => ?_)
    clear hK K
    try simp only [Act.put, List.setIfInBounds_toArray, List.set_cons_zero, List.set_cons_succ]
    refine take_yes (i := 2) (d := 23) (v := ?v2) rfl rfl (by kernel_rfl) (by kernel_rfl) (by kernel_rfl) (fun _ _ _ h => h) (by rfl) ?y2 (by assumption) ?z2
    case y2 => (intro w' hSw; (try unfold BS at hSw); go_split_ands; go_simp; try with_reducible rfl)
    try simp only [Act.put, List.setIfInBounds_toArray, List.set_cons_zero, List.set_cons_succ]
    refine take_yes (i := 3) (d := 24) (v := ?v3) rfl rfl (by kernel_rfl) (by kernel_rfl) (by kernel_rfl) (fun _ _ _ h => h) (by rfl) ?y3 (by assumption) ?z3
    case y3 => (intro w' hSw; (try unfold BS at hSw); go_split_ands; go_simp; try with_reducible rfl)
    try simp only [Act.put, List.setIfInBounds_toArray, List.set_cons_zero, List.set_cons_succ]
    refine wpAnyH_ready (rs := [4]) (by kernel_rfl) (by simp) ?_
    refine AllReadyH.cons rfl (fun K hK => ?_) AllReadyH.nil
    go_simp
    (go_at_call 14; refine (HC.out _ (by assumption)).mono ?_; rintro e w2 ⟨rfl, hb⟩)
    have hB2 := hHeld.step hb
    clear hb
    refine hK.out _ _ (by assumption) (fun hHeld => ?_)
    clear hK K
    try simp only [Act.put, List.setIfInBounds_toArray, List.set_cons_zero, List.set_cons_succ]
    refine take_yes (i := 5) (d := 26) (v := ?v5) rfl rfl (by kernel_rfl) (by kernel_rfl) (by kernel_rfl) (fun _ _ _ h => h) (by rfl) ?y5 (by assumption) ?z5
    case y5 => (intro w' hSw; (try unfold BS at hSw); go_split_ands; go_simp; try with_reducible rfl)
    try simp only [Act.put, List.setIfInBounds_toArray, List.set_cons_zero, List.set_cons_succ]
    refine take_yes (i := 6) (d := 27) (v := ?v6) rfl rfl (by kernel_rfl) (by kernel_rfl) (by kernel_rfl) (fun _ _ _ h => h) (by rfl) ?y6 (by assumption) ?z6
    case y6 => (intro w' hSw; (try unfold BS at hSw); go_split_ands; go_simp; try with_reducible rfl)
    try simp only [Act.put, List.setIfInBounds_toArray, List.set_cons_zero, List.set_cons_succ]
    refine take_yes (i := 7) (d := 28) (v := ?v7) rfl rfl (by kernel_rfl) (by kernel_rfl) (by kernel_rfl) (fun _ _ _ h => h) (by rfl) ?y7 (by assumption) ?z7
    case y7 => (intro w' hSw; (try unfold BS at hSw); go_split_ands; go_simp; try with_reducible rfl)
    try simp only [Act.put, List.setIfInBounds_toArray, List.set_cons_zero, List.set_cons_succ]
    refine take_yes (i := 8) (d := 29) (v := ?v8) rfl rfl (by kernel_rfl) (by kernel_rfl) (by kernel_rfl) (fun _ _ _ h => h) (by rfl) ?y8 (by assumption) ?z8
    case y8 => (intro w' hSw; (try unfold BS at hSw); go_split_ands; go_simp; try with_reducible rfl)
    try simp only [Act.put, List.setIfInBounds_toArray, List.set_cons_zero, List.set_cons_succ]
    refine take_yes (i := 9) (d := 30) (v := ?v9) rfl rfl (by kernel_rfl) (by kernel_rfl) (by kernel_rfl) (fun _ _ _ h => h) (by rfl) ?y9 (by assumption) ?z9
    case y9 => (intro w' hSw; (try unfold BS at hSw); go_split_ands; go_simp; try with_reducible rfl)
    try simp only [Act.put, List.setIfInBounds_toArray, List.set_cons_zero, List.set_cons_succ]
    refine take_yes (i := 10) (d := 31) (v := ?v10) rfl rfl (by kernel_rfl) (by kernel_rfl) (by kernel_rfl) (fun _ _ _ h => h) (by rfl) ?y10 (by assumption) ?z10
    case y10 => (intro w' hSw; (try unfold BS at hSw); go_split_ands; go_simp; try with_reducible rfl)
    try simp only [Act.put, List.setIfInBounds_toArray, List.set_cons_zero, List.set_cons_succ]
    refine take_yes (i := 11) (d := 32) (v := ?v11) rfl rfl (by kernel_rfl) (by kernel_rfl) (by kernel_rfl) (fun _ _ _ h => h) (by rfl) ?y11 (by assumption) ?z11
    case y11 => (intro w' hSw; (try unfold BS at hSw); go_split_ands; go_simp; try with_reducible rfl)
    try simp only [Act.put, List.setIfInBounds_toArray, List.set_cons_zero, List.set_cons_succ]
    refine take_yes (i := 12) (d := 33) (v := ?v12) rfl rfl (by kernel_rfl) (by kernel_rfl) (by kernel_rfl) (fun _ _ _ h => h) (by rfl) ?y12 (by assumption) ?z12
    case y12 => (intro w' hSw; (try unfold BS at hSw); go_split_ands; go_simp; try with_reducible rfl)
    try simp only [Act.put, List.setIfInBounds_toArray, List.set_cons_zero, List.set_cons_succ]
    refine take_yes (i := 14) (d := 35) (v := ?v14) rfl rfl (by kernel_rfl) (by kernel_rfl) (by kernel_rfl) (fun _ _ _ h => h) (by rfl) ?y14 (by assumption) ?z14
    case y14 => (intro w' hSw; (try unfold BS at hSw); go_split_ands; go_simp; try with_reducible rfl)
    try simp only [Act.put, List.setIfInBounds_toArray, List.set_cons_zero, List.set_cons_succ]
    refine take_yes (i := 16) (d := 37) (v := ?v16) rfl rfl (by kernel_rfl) (by kernel_rfl) (by kernel_rfl) (fun _ _ _ h => h) (by rfl) ?y16 (by assumption) ?z16
    case y16 => (intro w' hSw; (try unfold BS at hSw); go_split_ands; go_simp; try with_reducible rfl)
    try simp only [Act.put, List.setIfInBounds_toArray, List.set_cons_zero, List.set_cons_succ]
    refine wpAnyH_ready (rs := [13, 17]) (by kernel_rfl) (by simp) ?_
    refine AllReadyH.cons rfl (fun K hK => ?_) (AllReadyH.cons rfl (fun K hK => ?_) AllReadyH.nil)
    · go_simp
      have hO3 := ow_lit w.heap.size (w2) #[] 0 [] rfl rfl (by decide) hB2.2.1
      have hB3 := hB2.step ((Below.refl (w2).heap.size (w2)).alloc (Nat.le_refl _) (.cells #[] 33))
      refine hK.out _ _ hB3 (fun _ => ?_)
      clear hK K
      try simp only [Act.put, List.setIfInBounds_toArray, List.set_cons_zero, List.set_cons_succ]
      refine wpAnyH_ready (rs := [15, 17]) (by kernel_rfl) (by simp) ?_
      refine AllReadyH.cons rfl (fun K hK => ?_) (AllReadyH.cons rfl (fun K hK => ?_) AllReadyH.nil)
      · refine step_app_tok (by rfl) (.tmp 34) (.tmp 35) rfl (w.heap.size + 1) _ 0 [] rfl hO3.1 A2 n2 c2 F rfl (HF.out _ hB3) (by omega) (by have := hB3.2.1; omega) ?_
        intro v36 w4 ha hb _
        obtain ⟨hO4, hB4⟩ := bs_app HG.out.2 hO3 hB3 (by assumption) ha hb
        rw [Nat.zero_add, List.nil_append] at hO4
        clear ha hb
        refine hK.out _ _ hB4 (fun _ => ?_)
        clear hK K
        try simp only [Act.put, List.setIfInBounds_toArray, List.set_cons_zero, List.set_cons_succ]
        refine wpAnyH_ready (rs := [17]) (by kernel_rfl) (by simp) ?_
        refine AllReadyH.cons rfl (fun K hK => ?_) AllReadyH.nil
        go_simp
        have hs5 := src_lit (w4) #[.int .u8 k, .string (bytesOf s), .int .i64 a] 33 1 1 [⟨k, s, a⟩] rfl rfl
        have hB5 := hB4.step ((Below.refl (w4).heap.size (w4)).alloc (Nat.le_refl _) (.cells #[.int .u8 k, .string (bytesOf s), .int .i64 a] 33))
        refine hK.out _ _ hB5 (fun _ => ?_)
        clear hK K
        try simp only [Act.put, List.setIfInBounds_toArray, List.set_cons_zero, List.set_cons_succ]
        have hO5 := hO4.step ((Below.refl (w4).heap.size (w4)).alloc (Nat.le_refl _) (.cells #[.int .u8 k, .string (bytesOf s), .int .i64 a] 33))
        refine wpAnyH_ready (rs := [18]) (by kernel_rfl) (by simp) ?_
        refine AllReadyH.cons rfl (fun K hK => ?_) AllReadyH.nil
        refine step_app_tok (by rfl) (.tmp 36) (.tmp 38) rfl (w.heap.size + 1) _ n2 F rfl hO5.1 _ 1 1 [⟨k, s, a⟩] rfl hs5 (by omega) (by have := hB5.2.1; omega) ?_
        intro v39 w9 ha hb _
        obtain ⟨hO9, hB9⟩ := bs_app HG.out.2 hO5 hB5 rfl ha hb
        obtain ⟨A9, c9, rfl, ht9⟩ := hO9.src
        clear ha hb
        refine hK.out _ _ hB9 (fun _ => ?_)
        clear hK K
        try simp only [Act.put, List.setIfInBounds_toArray, List.set_cons_zero, List.set_cons_succ]
        refine wpAnyH_ready (rs := [19]) (by kernel_rfl) (by simp) ?_
        refine AllReadyH.cons rfl (fun K hK => ?_) AllReadyH.nil
        go_simp
        (go_at_call 17; refine (HK.out _ _ _ hB9 ht9).mono ?_; rintro e w10 ⟨rfl, hb⟩)
        have hBz := hB9.step hb
        clear hb
        refine hK.out _ _ hBz (fun _ => ?_)
        clear hK K
        try simp only [Act.put, List.setIfInBounds_toArray, List.set_cons_zero, List.set_cons_succ]
        refine take_yes (i := 20) (d := 41) (v := ?v20a) rfl rfl (by kernel_rfl) (by kernel_rfl) (by kernel_rfl) (fun _ _ _ h => h) (by rfl) ?y20a (by assumption) ?z20a
        case y20a => (intro w' hSw; (try unfold BS at hSw); go_split_ands; go_simp; try with_reducible rfl)
        try simp only [Act.put, List.setIfInBounds_toArray, List.set_cons_zero, List.set_cons_succ]
        refine take_yes (i := 21) (d := 42) (v := ?v21a) rfl rfl (by kernel_rfl) (by kernel_rfl) (by kernel_rfl) (fun _ _ _ h => h) (by rfl) ?y21a (by assumption) ?z21a
        case y21a => (intro w' hSw; (try unfold BS at hSw); go_split_ands; go_simp; try with_reducible rfl)
        try simp only [Act.put, List.setIfInBounds_toArray, List.set_cons_zero, List.set_cons_succ]
        refine wpAnyH_done (by kernel_rfl) ?_ _
        go_wp2_with fail
        go_meet
        exact ⟨rfl, Lib.hid hBz⟩
      · go_simp
        have hs4 := src_lit (w2.alloc (.cells #[] 33)) #[.int .u8 k, .string (bytesOf s), .int .i64 a] 33 1 1 [⟨k, s, a⟩] rfl rfl
        have hB4 := hB3.step ((Below.refl (w2.alloc (.cells #[] 33)).heap.size (w2.alloc (.cells #[] 33))).alloc (Nat.le_refl _) (.cells #[.int .u8 k, .string (bytesOf s), .int .i64 a] 33))
        rw [show (w2.alloc (.cells #[] 33)).heap.size = w2.heap.size + 1 by simp] at hs4
        refine hK.out _ _ hB4 (fun _ => ?_)
        clear hK K
        try simp only [Act.put, List.setIfInBounds_toArray, List.set_cons_zero, List.set_cons_succ]
        have hO4 := hO3.step ((Below.refl (w2.alloc (.cells #[] 33)).heap.size (w2.alloc (.cells #[] 33))).alloc (Nat.le_refl _) (.cells #[.int .u8 k, .string (bytesOf s), .int .i64 a] 33))
        refine wpAnyH_ready (rs := [15]) (by kernel_rfl) (by simp) ?_
        refine AllReadyH.cons rfl (fun K hK => ?_) AllReadyH.nil
        refine step_app_tok (by rfl) (.tmp 34) (.tmp 35) rfl (w.heap.size + 1) _ 0 [] rfl hO4.1 A2 n2 c2 F rfl (HF.out _ hB4) (by omega) (by have := hB4.2.1; omega) ?_
        intro v36 w5 ha hb _
        obtain ⟨hO5, hB5⟩ := bs_app HG.out.2 hO4 hB4 (by assumption) ha hb
        rw [Nat.zero_add, List.nil_append] at hO5
        have hs5 := src_grown hs4 hb (by intro e; injection e with e; change w2.heap.size = _ at e; omega)
        skip
        clear ha hb
        refine hK.out _ _ hB5 (fun _ => ?_)
        clear hK K
        try simp only [Act.put, List.setIfInBounds_toArray, List.set_cons_zero, List.set_cons_succ]
        refine wpAnyH_ready (rs := [18]) (by kernel_rfl) (by simp) ?_
        refine AllReadyH.cons rfl (fun K hK => ?_) AllReadyH.nil
        refine step_app_tok (by rfl) (.tmp 36) (.tmp 38) rfl (w.heap.size + 1) _ n2 F rfl hO5.1 _ 1 1 [⟨k, s, a⟩] rfl hs5 (by omega) (by have := hB5.2.1; omega) ?_
        intro v39 w9 ha hb _
        obtain ⟨hO9, hB9⟩ := bs_app HG.out.2 hO5 hB5 rfl ha hb
        obtain ⟨A9, c9, rfl, ht9⟩ := hO9.src
        clear ha hb
        refine hK.out _ _ hB9 (fun _ => ?_)
        clear hK K
        try simp only [Act.put, List.setIfInBounds_toArray, List.set_cons_zero, List.set_cons_succ]
        refine wpAnyH_ready (rs := [19]) (by kernel_rfl) (by simp) ?_
        refine AllReadyH.cons rfl (fun K hK => ?_) AllReadyH.nil
        go_simp
        (go_at_call 17; refine (HK.out _ _ _ hB9 ht9).mono ?_; rintro e w10 ⟨rfl, hb⟩)
        have hBz := hB9.step hb
        clear hb
        refine hK.out _ _ hBz (fun _ => ?_)
        clear hK K
        try simp only [Act.put, List.setIfInBounds_toArray, List.set_cons_zero, List.set_cons_succ]
        refine take_yes (i := 20) (d := 41) (v := ?v20b) rfl rfl (by kernel_rfl) (by kernel_rfl) (by kernel_rfl) (fun _ _ _ h => h) (by rfl) ?y20b (by assumption) ?z20b
        case y20b => (intro w' hSw; (try unfold BS at hSw); go_split_ands; go_simp; try with_reducible rfl)
        try simp only [Act.put, List.setIfInBounds_toArray, List.set_cons_zero, List.set_cons_succ]
        refine take_yes (i := 21) (d := 42) (v := ?v21b) rfl rfl (by kernel_rfl) (by kernel_rfl) (by kernel_rfl) (fun _ _ _ h => h) (by rfl) ?y21b (by assumption) ?z21b
        case y21b => (intro w' hSw; (try unfold BS at hSw); go_split_ands; go_simp; try with_reducible rfl)
        try simp only [Act.put, List.setIfInBounds_toArray, List.set_cons_zero, List.set_cons_succ]
        refine wpAnyH_done (by kernel_rfl) ?_ _
        go_wp2_with fail
        go_meet
        exact ⟨rfl, Lib.hid hBz⟩
    · go_simp
      have hs3 := src_lit (w2) #[.int .u8 k, .string (bytesOf s), .int .i64 a] 33 1 1 [⟨k, s, a⟩] rfl rfl
      have hB3 := hB2.step ((Below.refl (w2).heap.size (w2)).alloc (Nat.le_refl _) (.cells #[.int .u8 k, .string (bytesOf s), .int .i64 a] 33))
      refine hK.out _ _ hB3 (fun _ => ?_)
      clear hK K
      try simp only [Act.put, List.setIfInBounds_toArray, List.set_cons_zero, List.set_cons_succ]
      refine wpAnyH_ready (rs := [13]) (by kernel_rfl) (by simp) ?_
      refine AllReadyH.cons rfl (fun K hK => ?_) AllReadyH.nil
      go_simp
      have hO4 := ow_lit w.heap.size (w2.alloc (.cells #[.int .u8 k, .string (bytesOf s), .int .i64 a] 33)) #[] 0 [] rfl rfl (by decide) hB3.2.1
      have hB4 := hB3.step ((Below.refl (w2.alloc (.cells #[.int .u8 k, .string (bytesOf s), .int .i64 a] 33)).heap.size (w2.alloc (.cells #[.int .u8 k, .string (bytesOf s), .int .i64 a] 33))).alloc (Nat.le_refl _) (.cells #[] 33))
      rw [show (w2.alloc (.cells #[.int .u8 k, .string (bytesOf s), .int .i64 a] 33)).heap.size = w2.heap.size + 1 by simp] at hO4
      refine hK.out _ _ hB4 (fun _ => ?_)
      clear hK K
      try simp only [Act.put, List.setIfInBounds_toArray, List.set_cons_zero, List.set_cons_succ]
      have hs4 := hs3.step ((Below.refl (w2.alloc (.cells #[.int .u8 k, .string (bytesOf s), .int .i64 a] 33)).heap.size (w2.alloc (.cells #[.int .u8 k, .string (bytesOf s), .int .i64 a] 33))).alloc (Nat.le_refl _) (.cells #[] 33))
      refine wpAnyH_ready (rs := [15]) (by kernel_rfl) (by simp) ?_
      refine AllReadyH.cons rfl (fun K hK => ?_) AllReadyH.nil
      refine step_app_tok (by rfl) (.tmp 34) (.tmp 35) rfl (w.heap.size + 1) _ 0 [] rfl hO4.1 A2 n2 c2 F rfl (HF.out _ hB4) (by omega) (by have := hB4.2.1; omega) ?_
      intro v36 w5 ha hb _
      obtain ⟨hO5, hB5⟩ := bs_app HG.out.2 hO4 hB4 (by assumption) ha hb
      rw [Nat.zero_add, List.nil_append] at hO5
      have hs5 := src_grown hs4 hb (by intro e; injection e with e; change w2.heap.size + 1 = _ at e; omega)
      skip
      clear ha hb
      refine hK.out _ _ hB5 (fun _ => ?_)
      clear hK K
      try simp only [Act.put, List.setIfInBounds_toArray, List.set_cons_zero, List.set_cons_succ]
      refine wpAnyH_ready (rs := [18]) (by kernel_rfl) (by simp) ?_
      refine AllReadyH.cons rfl (fun K hK => ?_) AllReadyH.nil
      refine step_app_tok (by rfl) (.tmp 36) (.tmp 38) rfl (w.heap.size + 1) _ n2 F rfl hO5.1 _ 1 1 [⟨k, s, a⟩] rfl hs5 (by omega) (by have := hB5.2.1; omega) ?_
      intro v39 w9 ha hb _
      obtain ⟨hO9, hB9⟩ := bs_app HG.out.2 hO5 hB5 rfl ha hb
      obtain ⟨A9, c9, rfl, ht9⟩ := hO9.src
      clear ha hb
      refine hK.out _ _ hB9 (fun _ => ?_)
      clear hK K
      try simp only [Act.put, List.setIfInBounds_toArray, List.set_cons_zero, List.set_cons_succ]
      refine wpAnyH_ready (rs := [19]) (by kernel_rfl) (by simp) ?_
      refine AllReadyH.cons rfl (fun K hK => ?_) AllReadyH.nil
      go_simp
      (go_at_call 17; refine (HK.out _ _ _ hB9 ht9).mono ?_; rintro e w10 ⟨rfl, hb⟩)
      have hBz := hB9.step hb
      clear hb
      refine hK.out _ _ hBz (fun _ => ?_)
      clear hK K
      try simp only [Act.put, List.setIfInBounds_toArray, List.set_cons_zero, List.set_cons_succ]
      refine take_yes (i := 20) (d := 41) (v := ?v20c) rfl rfl (by kernel_rfl) (by kernel_rfl) (by kernel_rfl) (fun _ _ _ h => h) (by rfl) ?y20c (by assumption) ?z20c
      case y20c => (intro w' hSw; (try unfold BS at hSw); go_split_ands; go_simp; try with_reducible rfl)
      try simp only [Act.put, List.setIfInBounds_toArray, List.set_cons_zero, List.set_cons_succ]
      refine take_yes (i := 21) (d := 42) (v := ?v21c) rfl rfl (by kernel_rfl) (by kernel_rfl) (by kernel_rfl) (fun _ _ _ h => h) (by rfl) ?y21c (by assumption) ?z21c
      case y21c => (intro w' hSw; (try unfold BS at hSw); go_split_ands; go_simp; try with_reducible rfl)
      try simp only [Act.put, List.setIfInBounds_toArray, List.set_cons_zero, List.set_cons_succ]
      refine wpAnyH_done (by kernel_rfl) ?_ _
      go_wp2_with fail
      go_meet
      exact ⟨rfl, Lib.hid hBz⟩
  case rest =>
    obtain ⟨rfl, HB⟩ := hcut
    clear HA HC HK HS
    go_wp2_with (first | (go_at_call 11; refine (HT.out _ HB.out.1).mono ?_; rintro e w3 ⟨rfl, hb⟩; have HB3 := Lib.hid (HB.out.step hb); clear hb) | (go_at_call 12; refine (alive_g w _ HB3.out.1).mono ?_; rintro e wz ⟨rfl, hgz⟩; have HGZ := Lib.hid hgz; clear hgz))
    go_ret
    exact ⟨rfl, HGZ.out⟩
set_option maxHeartbeats 8000000 in
theorem brk_lm (A1 A2 : Option Addr) (c1 c2 n1 n2 : Nat) (k a : Int) (s : List UInt8) (w : World) (hg : G5 w w) (t : Tr) (hn : t.sz = n1) (ht : Lies w A1 (ndCells t.flat)) (hok : t.ok = true) (her : t.er = 0) (hb : t.big) (h2 : ¬ 30 < n2) (F : List Tok) (hFn : F.length = n2) (hF : Toks w A2 F) (hFa : (A2 = none ∧ c2 = 0 ∧ n2 = 0) ∨ ∃ ad, A2 = some ad) (hFs : ∀ t ∈ F, t.s.length ≤ maxLen) (hsl : s.length ≤ maxLen) (hav : askF (F ++ [⟨k, s, a⟩]) 0 = 0) (hlen : ¬ 390 < t.wr.length) (hmm : ∀ M : List Tok, M.map (·.s) = [[40]] ++ t.tx ++ [[41]] → 150 < M.length) :
    Calls Tryd.prog 6 #[.slice A1 n1 c1, .slice A2 n2 c2, .agg #[.int .u8 k, .string (bytesOf s), .int .i64 a]] w fun e w' => e = .returned (.bool true) ∧ G5 w w' := by
  have h60 := (Tr.er_zero.1 her).1
  have HA := Lib.hid (fun W => N4.great_any A1 n1 c1 W false (by simp; omega))
  have HC := Lib.hid (fun W (hW : BS w w.heap.size k a (bytesOf s) W) => rcheck_any A1 c1 n1 t.flat W (by rw [t.flat_length, hn]) (by unfold maxLen; omega) (ht.below hW.1.1) 0 ((t.check_flat hok).trans her))
  have hi2 : ¬ (30 : Int) < n2 := by omega
  have HF := Lib.hid (fun W (hW : BS w w.heap.size k a (bytesOf s) W) => (⟨hF.below hW.1.1, hFn, hFa⟩ : Src W A2 n2 c2 F))
  have HK := Lib.hid (fun A c W (hW : BS w w.heap.size k a (bytesOf s) W) (ht : Toks W A (F ++ [⟨k, s, a⟩])) => asked_any A c (n2 + 1) (F ++ [⟨k, s, a⟩]) 0 W (by simp [hFn]) (by unfold maxLen; omega) ht (by intro t ht; rcases List.mem_append.1 ht with ht | ht; exact hFs t ht; simp only [List.mem_singleton] at ht; subst ht; exact hsl) 0 hav)
  have HT := Lib.hid (fun (W : World) (hW : G5 w W) => textF_ok A1 c1 n1 t W hn (ht.below hW.1) hok her hb hW.2.2.1 hW.2.2.2)
  have hlb : ([40] ++ t.wr ++ [41]).length ≤ 400 := by simp; omega
  obtain ⟨M, q, hM, hlx⟩ := lex_whole (lex_brackets (lex_tree t hok hb).1.1 (lex_tree t hok hb).1.2) (by have := (tx_len t).1; simp; omega)
  have hall := allF_of hlb hlx
  rw [if_pos rfl] at hall
  have hM1 : M = (allF ([40] ++ t.wr ++ [41])).1 := by rw [hall]
  have hsm := allF_small ([40] ++ t.wr ++ [41])
  rw [← hM1] at hsm
  have hck : chkF M = 0 := by rw [hM1]; exact allF_chk _
  have HL := Lib.hid (fun (W : World) (hW : G5 w W) => all_g ([40] ++ t.wr ++ [41]) (by unfold maxLen; omega) M q 0 hall w W hW)
  rw [← br2_bytes t.wr] at HL
  have hsz : ¬ (390 < (bytesOf t.wr).size) := by rw [bytesOf_size]; omega
  have hm := hmm M hM
  have hml := hsm.2
  generalize bytesOf t.wr = T at HT HL hsz
  generalize M.length = m at HL hml hm
  clear hF hFa hFs hsl ht hav hn hok her hb hlen hlb hM hlx hall hM1 hsm hck hmm
  have HS := Lib.hid (BS.new w hg k a (bytesOf s) 33)
  have HG := Lib.hid hg
  clear hg
  go_enter Tryd.func6, Tryd.ntmps6
  go_upto_region 1 with fail
  go_cut [42] (fun s42 W => s42 = .bool false ∧ Hid (BS w w.heap.size k a (bytesOf s) W))
  case first =>
    refine wp_region_held_drew (S := BS w w.heap.size k a (bytesOf s)) (by kernel_rfl) HS.out (fun hHeld => ?_)
    refine take_yes (i := 0) (d := 21) (v := ?v0) rfl rfl (by kernel_rfl) (by kernel_rfl) (by kernel_rfl) (fun _ _ _ h => h) (by rfl) ?y0 (by assumption) ?z0
    case y0 => (intro w' hSw; (try unfold BS at hSw); go_split_ands; go_simp; try with_reducible rfl)
    try simp only [Act.put, List.setIfInBounds_toArray, List.set_cons_zero, List.set_cons_succ]
    refine wpAnyH_ready (rs := [1]) (by kernel_rfl) (by simp) ?_
    refine AllReadyH.cons rfl (fun K hK => ?_) AllReadyH.nil
    go_simp
    (go_at_call 13; refine (HA.out _).mono ?_; rintro e w' ⟨rfl, rfl⟩)
    refine hK.out _ _ (by assumption) (fun hHeld => ?_)
    clear hK K
    try simp only [Act.put, List.setIfInBounds_toArray, List.set_cons_zero, List.set_cons_succ]
    refine take_yes (i := 2) (d := 23) (v := ?v2) rfl rfl (by kernel_rfl) (by kernel_rfl) (by kernel_rfl) (fun _ _ _ h => h) (by rfl) ?y2 (by assumption) ?z2
    case y2 => (intro w' hSw; (try unfold BS at hSw); go_split_ands; go_simp; try with_reducible rfl)
    try simp only [Act.put, List.setIfInBounds_toArray, List.set_cons_zero, List.set_cons_succ]
    refine take_yes (i := 3) (d := 24) (v := ?v3) rfl rfl (by kernel_rfl) (by kernel_rfl) (by kernel_rfl) (fun _ _ _ h => h) (by rfl) ?y3 (by assumption) ?z3
    case y3 => (intro w' hSw; (try unfold BS at hSw); go_split_ands; go_simp; try with_reducible rfl)
    try simp only [Act.put, List.setIfInBounds_toArray, List.set_cons_zero, List.set_cons_succ]
    refine wpAnyH_ready (rs := [4]) (by kernel_rfl) (by simp) ?_
    refine AllReadyH.cons rfl (fun K hK => ?_) AllReadyH.nil
    go_simp
    (go_at_call 14; refine (HC.out _ (by assumption)).mono ?_; rintro e w2 ⟨rfl, hb⟩)
    have hB2 := hHeld.step hb
    clear hb
    refine hK.out _ _ (by assumption) (fun hHeld => ?_)
    clear hK K
    try simp only [Act.put, List.setIfInBounds_toArray, List.set_cons_zero, List.set_cons_succ]
    refine take_yes (i := 5) (d := 26) (v := ?v5) rfl rfl (by kernel_rfl) (by kernel_rfl) (by kernel_rfl) (fun _ _ _ h => h) (by rfl) ?y5 (by assumption) ?z5
    case y5 => (intro w' hSw; (try unfold BS at hSw); go_split_ands; go_simp; try with_reducible rfl)
    try simp only [Act.put, List.setIfInBounds_toArray, List.set_cons_zero, List.set_cons_succ]
    refine take_yes (i := 6) (d := 27) (v := ?v6) rfl rfl (by kernel_rfl) (by kernel_rfl) (by kernel_rfl) (fun _ _ _ h => h) (by rfl) ?y6 (by assumption) ?z6
    case y6 => (intro w' hSw; (try unfold BS at hSw); go_split_ands; go_simp; try with_reducible rfl)
    try simp only [Act.put, List.setIfInBounds_toArray, List.set_cons_zero, List.set_cons_succ]
    refine take_yes (i := 7) (d := 28) (v := ?v7) rfl rfl (by kernel_rfl) (by kernel_rfl) (by kernel_rfl) (fun _ _ _ h => h) (by rfl) ?y7 (by assumption) ?z7
    case y7 => (intro w' hSw; (try unfold BS at hSw); go_split_ands; go_simp; try with_reducible rfl)
    try simp only [Act.put, List.setIfInBounds_toArray, List.set_cons_zero, List.set_cons_succ]
    refine take_yes (i := 8) (d := 29) (v := ?v8) rfl rfl (by kernel_rfl) (by kernel_rfl) (by kernel_rfl) (fun _ _ _ h => h) (by rfl) ?y8 (by assumption) ?z8
    case y8 => (intro w' hSw; (try unfold BS at hSw); go_split_ands; go_simp; try with_reducible rfl)
    try simp only [Act.put, List.setIfInBounds_toArray, List.set_cons_zero, List.set_cons_succ]
    refine take_yes (i := 9) (d := 30) (v := ?v9) rfl rfl (by kernel_rfl) (by kernel_rfl) (by kernel_rfl) (fun _ _ _ h => h) (by rfl) ?y9 (by assumption) ?z9
    case y9 => (intro w' hSw; (try unfold BS at hSw); go_split_ands; go_simp; try with_reducible rfl)
    try simp only [Act.put, List.setIfInBounds_toArray, List.set_cons_zero, List.set_cons_succ]
    refine take_yes (i := 10) (d := 31) (v := ?v10) rfl rfl (by kernel_rfl) (by kernel_rfl) (by kernel_rfl) (fun _ _ _ h => h) (by rfl) ?y10 (by assumption) ?z10
    case y10 => (intro w' hSw; (try unfold BS at hSw); go_split_ands; go_simp; try with_reducible rfl)
    try simp only [Act.put, List.setIfInBounds_toArray, List.set_cons_zero, List.set_cons_succ]
    refine take_yes (i := 11) (d := 32) (v := ?v11) rfl rfl (by kernel_rfl) (by kernel_rfl) (by kernel_rfl) (fun _ _ _ h => h) (by rfl) ?y11 (by assumption) ?z11
    case y11 => (intro w' hSw; (try unfold BS at hSw); go_split_ands; go_simp; try with_reducible rfl)
    try simp only [Act.put, List.setIfInBounds_toArray, List.set_cons_zero, List.set_cons_succ]
    refine take_yes (i := 12) (d := 33) (v := ?v12) rfl rfl (by kernel_rfl) (by kernel_rfl) (by kernel_rfl) (fun _ _ _ h => h) (by rfl) ?y12 (by assumption) ?z12
    case y12 => (intro w' hSw; (try unfold BS at hSw); go_split_ands; go_simp; try with_reducible rfl)
    try simp only [Act.put, List.setIfInBounds_toArray, List.set_cons_zero, List.set_cons_succ]
    refine take_yes (i := 14) (d := 35) (v := ?v14) rfl rfl (by kernel_rfl) (by kernel_rfl) (by kernel_rfl) (fun _ _ _ h => h) (by rfl) ?y14 (by assumption) ?z14
    case y14 => (intro w' hSw; (try unfold BS at hSw); go_split_ands; go_simp; try with_reducible rfl)
    try simp only [Act.put, List.setIfInBounds_toArray, List.set_cons_zero, List.set_cons_succ]
    refine take_yes (i := 16) (d := 37) (v := ?v16) rfl rfl (by kernel_rfl) (by kernel_rfl) (by kernel_rfl) (fun _ _ _ h => h) (by rfl) ?y16 (by assumption) ?z16
    case y16 => (intro w' hSw; (try unfold BS at hSw); go_split_ands; go_simp; try with_reducible rfl)
    try simp only [Act.put, List.setIfInBounds_toArray, List.set_cons_zero, List.set_cons_succ]
    refine wpAnyH_ready (rs := [13, 17]) (by kernel_rfl) (by simp) ?_
    refine AllReadyH.cons rfl (fun K hK => ?_) (AllReadyH.cons rfl (fun K hK => ?_) AllReadyH.nil)
    · go_simp
      have hO3 := ow_lit w.heap.size (w2) #[] 0 [] rfl rfl (by decide) hB2.2.1
      have hB3 := hB2.step ((Below.refl (w2).heap.size (w2)).alloc (Nat.le_refl _) (.cells #[] 33))
      refine hK.out _ _ hB3 (fun _ => ?_)
      clear hK K
      try simp only [Act.put, List.setIfInBounds_toArray, List.set_cons_zero, List.set_cons_succ]
      refine wpAnyH_ready (rs := [15, 17]) (by kernel_rfl) (by simp) ?_
      refine AllReadyH.cons rfl (fun K hK => ?_) (AllReadyH.cons rfl (fun K hK => ?_) AllReadyH.nil)
      · refine step_app_tok (by rfl) (.tmp 34) (.tmp 35) rfl (w.heap.size + 1) _ 0 [] rfl hO3.1 A2 n2 c2 F rfl (HF.out _ hB3) (by omega) (by have := hB3.2.1; omega) ?_
        intro v36 w4 ha hb _
        obtain ⟨hO4, hB4⟩ := bs_app HG.out.2 hO3 hB3 (by assumption) ha hb
        rw [Nat.zero_add, List.nil_append] at hO4
        clear ha hb
        refine hK.out _ _ hB4 (fun _ => ?_)
        clear hK K
        try simp only [Act.put, List.setIfInBounds_toArray, List.set_cons_zero, List.set_cons_succ]
        refine wpAnyH_ready (rs := [17]) (by kernel_rfl) (by simp) ?_
        refine AllReadyH.cons rfl (fun K hK => ?_) AllReadyH.nil
        go_simp
        have hs5 := src_lit (w4) #[.int .u8 k, .string (bytesOf s), .int .i64 a] 33 1 1 [⟨k, s, a⟩] rfl rfl
        have hB5 := hB4.step ((Below.refl (w4).heap.size (w4)).alloc (Nat.le_refl _) (.cells #[.int .u8 k, .string (bytesOf s), .int .i64 a] 33))
        refine hK.out _ _ hB5 (fun _ => ?_)
        clear hK K
        try simp only [Act.put, List.setIfInBounds_toArray, List.set_cons_zero, List.set_cons_succ]
        have hO5 := hO4.step ((Below.refl (w4).heap.size (w4)).alloc (Nat.le_refl _) (.cells #[.int .u8 k, .string (bytesOf s), .int .i64 a] 33))
        refine wpAnyH_ready (rs := [18]) (by kernel_rfl) (by simp) ?_
        refine AllReadyH.cons rfl (fun K hK => ?_) AllReadyH.nil
        refine step_app_tok (by rfl) (.tmp 36) (.tmp 38) rfl (w.heap.size + 1) _ n2 F rfl hO5.1 _ 1 1 [⟨k, s, a⟩] rfl hs5 (by omega) (by have := hB5.2.1; omega) ?_
        intro v39 w9 ha hb _
        obtain ⟨hO9, hB9⟩ := bs_app HG.out.2 hO5 hB5 rfl ha hb
        obtain ⟨A9, c9, rfl, ht9⟩ := hO9.src
        clear ha hb
        refine hK.out _ _ hB9 (fun _ => ?_)
        clear hK K
        try simp only [Act.put, List.setIfInBounds_toArray, List.set_cons_zero, List.set_cons_succ]
        refine wpAnyH_ready (rs := [19]) (by kernel_rfl) (by simp) ?_
        refine AllReadyH.cons rfl (fun K hK => ?_) AllReadyH.nil
        go_simp
        (go_at_call 17; refine (HK.out _ _ _ hB9 ht9).mono ?_; rintro e w10 ⟨rfl, hb⟩)
        have hBz := hB9.step hb
        clear hb
        refine hK.out _ _ hBz (fun _ => ?_)
        clear hK K
        try simp only [Act.put, List.setIfInBounds_toArray, List.set_cons_zero, List.set_cons_succ]
        refine take_yes (i := 20) (d := 41) (v := ?v20a) rfl rfl (by kernel_rfl) (by kernel_rfl) (by kernel_rfl) (fun _ _ _ h => h) (by rfl) ?y20a (by assumption) ?z20a
        case y20a => (intro w' hSw; (try unfold BS at hSw); go_split_ands; go_simp; try with_reducible rfl)
        try simp only [Act.put, List.setIfInBounds_toArray, List.set_cons_zero, List.set_cons_succ]
        refine take_yes (i := 21) (d := 42) (v := ?v21a) rfl rfl (by kernel_rfl) (by kernel_rfl) (by kernel_rfl) (fun _ _ _ h => h) (by rfl) ?y21a (by assumption) ?z21a
        case y21a => (intro w' hSw; (try unfold BS at hSw); go_split_ands; go_simp; try with_reducible rfl)
        try simp only [Act.put, List.setIfInBounds_toArray, List.set_cons_zero, List.set_cons_succ]
        refine wpAnyH_done (by kernel_rfl) ?_ _
        go_wp2_with fail
        go_meet
        exact ⟨rfl, Lib.hid hBz⟩
      · go_simp
        have hs4 := src_lit (w2.alloc (.cells #[] 33)) #[.int .u8 k, .string (bytesOf s), .int .i64 a] 33 1 1 [⟨k, s, a⟩] rfl rfl
        have hB4 := hB3.step ((Below.refl (w2.alloc (.cells #[] 33)).heap.size (w2.alloc (.cells #[] 33))).alloc (Nat.le_refl _) (.cells #[.int .u8 k, .string (bytesOf s), .int .i64 a] 33))
        rw [show (w2.alloc (.cells #[] 33)).heap.size = w2.heap.size + 1 by simp] at hs4
        refine hK.out _ _ hB4 (fun _ => ?_)
        clear hK K
        try simp only [Act.put, List.setIfInBounds_toArray, List.set_cons_zero, List.set_cons_succ]
        have hO4 := hO3.step ((Below.refl (w2.alloc (.cells #[] 33)).heap.size (w2.alloc (.cells #[] 33))).alloc (Nat.le_refl _) (.cells #[.int .u8 k, .string (bytesOf s), .int .i64 a] 33))
        refine wpAnyH_ready (rs := [15]) (by kernel_rfl) (by simp) ?_
        refine AllReadyH.cons rfl (fun K hK => ?_) AllReadyH.nil
        refine step_app_tok (by rfl) (.tmp 34) (.tmp 35) rfl (w.heap.size + 1) _ 0 [] rfl hO4.1 A2 n2 c2 F rfl (HF.out _ hB4) (by omega) (by have := hB4.2.1; omega) ?_
        intro v36 w5 ha hb _
        obtain ⟨hO5, hB5⟩ := bs_app HG.out.2 hO4 hB4 (by assumption) ha hb
        rw [Nat.zero_add, List.nil_append] at hO5
        have hs5 := src_grown hs4 hb (by intro e; injection e with e; change w2.heap.size = _ at e; omega)
        skip
        clear ha hb
        refine hK.out _ _ hB5 (fun _ => ?_)
        clear hK K
        try simp only [Act.put, List.setIfInBounds_toArray, List.set_cons_zero, List.set_cons_succ]
        refine wpAnyH_ready (rs := [18]) (by kernel_rfl) (by simp) ?_
        refine AllReadyH.cons rfl (fun K hK => ?_) AllReadyH.nil
        refine step_app_tok (by rfl) (.tmp 36) (.tmp 38) rfl (w.heap.size + 1) _ n2 F rfl hO5.1 _ 1 1 [⟨k, s, a⟩] rfl hs5 (by omega) (by have := hB5.2.1; omega) ?_
        intro v39 w9 ha hb _
        obtain ⟨hO9, hB9⟩ := bs_app HG.out.2 hO5 hB5 rfl ha hb
        obtain ⟨A9, c9, rfl, ht9⟩ := hO9.src
        clear ha hb
        refine hK.out _ _ hB9 (fun _ => ?_)
        clear hK K
        try simp only [Act.put, List.setIfInBounds_toArray, List.set_cons_zero, List.set_cons_succ]
        refine wpAnyH_ready (rs := [19]) (by kernel_rfl) (by simp) ?_
        refine AllReadyH.cons rfl (fun K hK => ?_) AllReadyH.nil
        go_simp
        (go_at_call 17; refine (HK.out _ _ _ hB9 ht9).mono ?_; rintro e w10 ⟨rfl, hb⟩)
        have hBz := hB9.step hb
        clear hb
        refine hK.out _ _ hBz (fun _ => ?_)
        clear hK K
        try simp only [Act.put, List.setIfInBounds_toArray, List.set_cons_zero, List.set_cons_succ]
        refine take_yes (i := 20) (d := 41) (v := ?v20b) rfl rfl (by kernel_rfl) (by kernel_rfl) (by kernel_rfl) (fun _ _ _ h => h) (by rfl) ?y20b (by assumption) ?z20b
        case y20b => (intro w' hSw; (try unfold BS at hSw); go_split_ands; go_simp; try with_reducible rfl)
        try simp only [Act.put, List.setIfInBounds_toArray, List.set_cons_zero, List.set_cons_succ]
        refine take_yes (i := 21) (d := 42) (v := ?v21b) rfl rfl (by kernel_rfl) (by kernel_rfl) (by kernel_rfl) (fun _ _ _ h => h) (by rfl) ?y21b (by assumption) ?z21b
        case y21b => (intro w' hSw; (try unfold BS at hSw); go_split_ands; go_simp; try with_reducible rfl)
        try simp only [Act.put, List.setIfInBounds_toArray, List.set_cons_zero, List.set_cons_succ]
        refine wpAnyH_done (by kernel_rfl) ?_ _
        go_wp2_with fail
        go_meet
        exact ⟨rfl, Lib.hid hBz⟩
    · go_simp
      have hs3 := src_lit (w2) #[.int .u8 k, .string (bytesOf s), .int .i64 a] 33 1 1 [⟨k, s, a⟩] rfl rfl
      have hB3 := hB2.step ((Below.refl (w2).heap.size (w2)).alloc (Nat.le_refl _) (.cells #[.int .u8 k, .string (bytesOf s), .int .i64 a] 33))
      refine hK.out _ _ hB3 (fun _ => ?_)
      clear hK K
      try simp only [Act.put, List.setIfInBounds_toArray, List.set_cons_zero, List.set_cons_succ]
      refine wpAnyH_ready (rs := [13]) (by kernel_rfl) (by simp) ?_
      refine AllReadyH.cons rfl (fun K hK => ?_) AllReadyH.nil
      go_simp
      have hO4 := ow_lit w.heap.size (w2.alloc (.cells #[.int .u8 k, .string (bytesOf s), .int .i64 a] 33)) #[] 0 [] rfl rfl (by decide) hB3.2.1
      have hB4 := hB3.step ((Below.refl (w2.alloc (.cells #[.int .u8 k, .string (bytesOf s), .int .i64 a] 33)).heap.size (w2.alloc (.cells #[.int .u8 k, .string (bytesOf s), .int .i64 a] 33))).alloc (Nat.le_refl _) (.cells #[] 33))
      rw [show (w2.alloc (.cells #[.int .u8 k, .string (bytesOf s), .int .i64 a] 33)).heap.size = w2.heap.size + 1 by simp] at hO4
      refine hK.out _ _ hB4 (fun _ => ?_)
      clear hK K
      try simp only [Act.put, List.setIfInBounds_toArray, List.set_cons_zero, List.set_cons_succ]
      have hs4 := hs3.step ((Below.refl (w2.alloc (.cells #[.int .u8 k, .string (bytesOf s), .int .i64 a] 33)).heap.size (w2.alloc (.cells #[.int .u8 k, .string (bytesOf s), .int .i64 a] 33))).alloc (Nat.le_refl _) (.cells #[] 33))
      refine wpAnyH_ready (rs := [15]) (by kernel_rfl) (by simp) ?_
      refine AllReadyH.cons rfl (fun K hK => ?_) AllReadyH.nil
      refine step_app_tok (by rfl) (.tmp 34) (.tmp 35) rfl (w.heap.size + 1) _ 0 [] rfl hO4.1 A2 n2 c2 F rfl (HF.out _ hB4) (by omega) (by have := hB4.2.1; omega) ?_
      intro v36 w5 ha hb _
      obtain ⟨hO5, hB5⟩ := bs_app HG.out.2 hO4 hB4 (by assumption) ha hb
      rw [Nat.zero_add, List.nil_append] at hO5
      have hs5 := src_grown hs4 hb (by intro e; injection e with e; change w2.heap.size + 1 = _ at e; omega)
      skip
      clear ha hb
      refine hK.out _ _ hB5 (fun _ => ?_)
      clear hK K
      try simp only [Act.put, List.setIfInBounds_toArray, List.set_cons_zero, List.set_cons_succ]
      refine wpAnyH_ready (rs := [18]) (by kernel_rfl) (by simp) ?_
      refine AllReadyH.cons rfl (fun K hK => ?_) AllReadyH.nil
      refine step_app_tok (by rfl) (.tmp 36) (.tmp 38) rfl (w.heap.size + 1) _ n2 F rfl hO5.1 _ 1 1 [⟨k, s, a⟩] rfl hs5 (by omega) (by have := hB5.2.1; omega) ?_
      intro v39 w9 ha hb _
      obtain ⟨hO9, hB9⟩ := bs_app HG.out.2 hO5 hB5 rfl ha hb
      obtain ⟨A9, c9, rfl, ht9⟩ := hO9.src
      clear ha hb
      refine hK.out _ _ hB9 (fun _ => ?_)
      clear hK K
      try simp only [Act.put, List.setIfInBounds_toArray, List.set_cons_zero, List.set_cons_succ]
      refine wpAnyH_ready (rs := [19]) (by kernel_rfl) (by simp) ?_
      refine AllReadyH.cons rfl (fun K hK => ?_) AllReadyH.nil
      go_simp
      (go_at_call 17; refine (HK.out _ _ _ hB9 ht9).mono ?_; rintro e w10 ⟨rfl, hb⟩)
      have hBz := hB9.step hb
      clear hb
      refine hK.out _ _ hBz (fun _ => ?_)
      clear hK K
      try simp only [Act.put, List.setIfInBounds_toArray, List.set_cons_zero, List.set_cons_succ]
      refine take_yes (i := 20) (d := 41) (v := ?v20c) rfl rfl (by kernel_rfl) (by kernel_rfl) (by kernel_rfl) (fun _ _ _ h => h) (by rfl) ?y20c (by assumption) ?z20c
      case y20c => (intro w' hSw; (try unfold BS at hSw); go_split_ands; go_simp; try with_reducible rfl)
      try simp only [Act.put, List.setIfInBounds_toArray, List.set_cons_zero, List.set_cons_succ]
      refine take_yes (i := 21) (d := 42) (v := ?v21c) rfl rfl (by kernel_rfl) (by kernel_rfl) (by kernel_rfl) (fun _ _ _ h => h) (by rfl) ?y21c (by assumption) ?z21c
      case y21c => (intro w' hSw; (try unfold BS at hSw); go_split_ands; go_simp; try with_reducible rfl)
      try simp only [Act.put, List.setIfInBounds_toArray, List.set_cons_zero, List.set_cons_succ]
      refine wpAnyH_done (by kernel_rfl) ?_ _
      go_wp2_with fail
      go_meet
      exact ⟨rfl, Lib.hid hBz⟩
  case rest =>
    obtain ⟨rfl, HB⟩ := hcut
    clear HA HC HK HS
    go_wp2_with (first | (go_at_call 11; refine (HT.out _ HB.out.1).mono ?_; rintro e w3 ⟨rfl, hb⟩; have HB3 := Lib.hid (HB.out.step hb); clear hb) | (go_at_call 9; refine (HL.out _ HB3.out.1).mono ?_; rintro e w4 ⟨A4, c4, rfl, ht4, hb4, _⟩; have HB4 := Lib.hid (HB3.out.step hb4); have HT4 := Lib.hid ht4; clear ht4 hb4) | (go_at_call 12; refine (alive_g w _ HB4.out.1).mono ?_; rintro e wz ⟨rfl, hgz⟩; have HGZ := Lib.hid hgz; clear hgz))
    go_ret
    exact ⟨rfl, HGZ.out⟩
theorem oneC_ne {t : Tr} : ndCells t.flat ≠ [] ∧ t.flat ≠ [] := by
  have := t.sz_pos
  have h := t.flat_length
  exact ⟨fun e => by have e2 := congrArg List.length e; rw [ndCells_length] at e2; simp at e2; omega, fun e => by rw [e] at h; simp at h; omega⟩
theorem toks_some {W : World} {A : Option Addr} {M : List Tok} (h : Toks W A M) (hM : M ≠ []) : ∃ ad, A = some ad := by
  rcases h with h | ⟨ad, h, _⟩
  · exact absurd h hM
  · exact ⟨ad, h⟩
set_option maxHeartbeats 8000000 in
theorem brk_no (A1 A2 : Option Addr) (c1 c2 n1 n2 : Nat) (k a : Int) (s : List UInt8) (w : World) (hg : G5 w w) (t : Tr) (hn : t.sz = n1) (ht : Lies w A1 (ndCells t.flat)) (hok : t.ok = true) (her : t.er = 0) (hb : t.big) (h2 : ¬ 30 < n2) (F : List Tok) (hFn : F.length = n2) (hF : Toks w A2 F) (hFa : (A2 = none ∧ c2 = 0 ∧ n2 = 0) ∨ ∃ ad, A2 = some ad) (hFs : ∀ t ∈ F, t.s.length ≤ maxLen) (hsl : s.length ≤ maxLen) (hav : askF (F ++ [⟨k, s, a⟩]) 0 = 0) (hlen : ¬ 390 < t.wr.length) (hmm : ∀ M : List Tok, M.map (·.s) = [[40]] ++ t.tx ++ [[41]] → ¬ 150 < M.length) (hC : ¬ (k = 1 ∨ s = [107] ∨ s = [41] ∨ s = [40])) :
    Calls Tryd.prog 6 #[.slice A1 n1 c1, .slice A2 n2 c2, .agg #[.int .u8 k, .string (bytesOf s), .int .i64 a]] w fun e w' => e = .returned (.bool true) ∧ G5 w w' := by
  have h60 := (Tr.er_zero.1 her).1
  have HA := Lib.hid (fun W => N4.great_any A1 n1 c1 W false (by simp; omega))
  have HC := Lib.hid (fun W (hW : BS w w.heap.size k a (bytesOf s) W) => rcheck_any A1 c1 n1 t.flat W (by rw [t.flat_length, hn]) (by unfold maxLen; omega) (ht.below hW.1.1) 0 ((t.check_flat hok).trans her))
  have hi2 : ¬ (30 : Int) < n2 := by omega
  have HF := Lib.hid (fun W (hW : BS w w.heap.size k a (bytesOf s) W) => (⟨hF.below hW.1.1, hFn, hFa⟩ : Src W A2 n2 c2 F))
  have HK := Lib.hid (fun A c W (hW : BS w w.heap.size k a (bytesOf s) W) (ht : Toks W A (F ++ [⟨k, s, a⟩])) => asked_any A c (n2 + 1) (F ++ [⟨k, s, a⟩]) 0 W (by simp [hFn]) (by unfold maxLen; omega) ht (by intro t ht; rcases List.mem_append.1 ht with ht | ht; exact hFs t ht; simp only [List.mem_singleton] at ht; subst ht; exact hsl) 0 hav)
  have HT := Lib.hid (fun (W : World) (hW : G5 w W) => textF_ok A1 c1 n1 t W hn (ht.below hW.1) hok her hb hW.2.2.1 hW.2.2.2)
  have hlb : ([40] ++ t.wr ++ [41]).length ≤ 400 := by simp; omega
  obtain ⟨M, q, hM, hlx⟩ := lex_whole (lex_brackets (lex_tree t hok hb).1.1 (lex_tree t hok hb).1.2) (by have := (tx_len t).1; simp; omega)
  have hall := allF_of hlb hlx
  rw [if_pos rfl] at hall
  have hM1 : M = (allF ([40] ++ t.wr ++ [41])).1 := by rw [hall]
  have hsm := allF_small ([40] ++ t.wr ++ [41])
  rw [← hM1] at hsm
  have hck : chkF M = 0 := by rw [hM1]; exact allF_chk _
  have HL := Lib.hid (fun (W : World) (hW : G5 w W) => all_g ([40] ++ t.wr ++ [41]) (by unfold maxLen; omega) M q 0 hall w W hW)
  rw [← br2_bytes t.wr] at HL
  have hsz : ¬ (390 < (bytesOf t.wr).size) := by rw [bytesOf_size]; omega
  obtain ⟨t', hz, hr⟩ := brackets_rd hok hb her hM
  have hgf := tk_good (ask_zero hav).1
  have hgm := tk_good hck
  have hrM : Rd (.line 0) ((F ++ M).drop n2) (.ok t' []) := by rw [List.drop_left' hFn]; simpa using hr [] no_nil
  have hgd := hrM.good (fun x hx => (hgm x (by rw [List.drop_left' hFn] at hx; exact hx)).2) trivial rfl
  have hm150 := hmm M hM
  have hm1 : M ≠ [] := by intro e; subst e; simp at hM
  have hs12 : ∀ x ∈ F ++ M, x.s.length ≤ maxLen := fun x hx => by rcases List.mem_append.1 hx with h | h; exact hFs x h; exact hsm.1 x h
  have hck12 : chkF (F ++ M) = 0 := chk_all (by simp [hFn]; omega) fun x hx => by rcases List.mem_append.1 hx with h | h; exact hgf x (by simp [h]); exact hgm x h
  have HP := Lib.hid (fun A c (W : World) (hW : G5 w W) (hT : Toks W A (F ++ M)) => parse_g A c (n2 + M.length) (F ++ M) n2 _ (by simp [hFn]) hs12 hck12 (by omega) hrM w W hW hT)
  have HSm := Lib.hid (fun A c (W : World) (hW : G5 w W) (hl : Lies W A (ndCells t'.flat)) => same_ok A1 A n1 t'.sz c1 c t.flat t'.flat W (by rw [t.flat_length, hn]) t'.flat_length (ht.below hW.1) hl ((t.check_flat hok).trans her) ((t'.check_flat hgd.1).trans hgd.2) true (by rw [sameF, Tr.flat_z hz]; simp))
  unfold PPost at HP
  simp only [List.length_nil, Nat.sub_zero] at HP
  have hml := hsm.2
  have HM1 := Lib.hid hm1
  obtain ⟨m, hmE⟩ : ∃ m, M.length = m := ⟨_, rfl⟩
  have HME := Lib.hid hmE
  rw [hmE] at HL HP hml hm150
  have d1 : (k == 1) = false := by simpa using fun e => hC (.inl e)
  have d2 : ((bytesOf s).toList == [107]) = false := by rw [bytesOf_toList]; simpa using fun e => hC (.inr (.inl e))
  have d3 : ((bytesOf s).toList == [41]) = false := by rw [bytesOf_toList]; simpa using fun e => hC (.inr (.inr (.inl e)))
  have d4 : ((bytesOf s).toList == [40]) = false := by rw [bytesOf_toList]; simpa using fun e => hC (.inr (.inr (.inr e)))
  generalize bytesOf t.wr = T at HT HL hsz
  clear hF hFa hFs hsl ht hav hn hok her hb hlen hlb hM hlx hall hM1 hsm hck hmm hrM hgf hgm hgd hs12 hck12 hm1 hmE hz hr
  have HS := Lib.hid (BS.new w hg k a (bytesOf s) 33)
  have HG := Lib.hid hg
  clear hg
  go_enter Tryd.func6, Tryd.ntmps6
  go_upto_region 1 with fail
  go_cut [42] (fun s42 W => s42 = .bool false ∧ Hid (BS w w.heap.size k a (bytesOf s) W))
  case first =>
    refine wp_region_held_drew (S := BS w w.heap.size k a (bytesOf s)) (by kernel_rfl) HS.out (fun hHeld => ?_)
    refine take_yes (i := 0) (d := 21) (v := ?v0) rfl rfl (by kernel_rfl) (by kernel_rfl) (by kernel_rfl) (fun _ _ _ h => h) (by rfl) ?y0 (by assumption) ?z0
    case y0 => (intro w' hSw; (try unfold BS at hSw); go_split_ands; go_simp; try with_reducible rfl)
    try simp only [Act.put, List.setIfInBounds_toArray, List.set_cons_zero, List.set_cons_succ]
    refine wpAnyH_ready (rs := [1]) (by kernel_rfl) (by simp) ?_
    refine AllReadyH.cons rfl (fun K hK => ?_) AllReadyH.nil
    go_simp
    (go_at_call 13; refine (HA.out _).mono ?_; rintro e w' ⟨rfl, rfl⟩)
    refine hK.out _ _ (by assumption) (fun hHeld => ?_)
    clear hK K
    try simp only [Act.put, List.setIfInBounds_toArray, List.set_cons_zero, List.set_cons_succ]
    refine take_yes (i := 2) (d := 23) (v := ?v2) rfl rfl (by kernel_rfl) (by kernel_rfl) (by kernel_rfl) (fun _ _ _ h => h) (by rfl) ?y2 (by assumption) ?z2
    case y2 => (intro w' hSw; (try unfold BS at hSw); go_split_ands; go_simp; try with_reducible rfl)
    try simp only [Act.put, List.setIfInBounds_toArray, List.set_cons_zero, List.set_cons_succ]
    refine take_yes (i := 3) (d := 24) (v := ?v3) rfl rfl (by kernel_rfl) (by kernel_rfl) (by kernel_rfl) (fun _ _ _ h => h) (by rfl) ?y3 (by assumption) ?z3
    case y3 => (intro w' hSw; (try unfold BS at hSw); go_split_ands; go_simp; try with_reducible rfl)
    try simp only [Act.put, List.setIfInBounds_toArray, List.set_cons_zero, List.set_cons_succ]
    refine wpAnyH_ready (rs := [4]) (by kernel_rfl) (by simp) ?_
    refine AllReadyH.cons rfl (fun K hK => ?_) AllReadyH.nil
    go_simp
    (go_at_call 14; refine (HC.out _ (by assumption)).mono ?_; rintro e w2 ⟨rfl, hb⟩)
    have hB2 := hHeld.step hb
    clear hb
    refine hK.out _ _ (by assumption) (fun hHeld => ?_)
    clear hK K
    try simp only [Act.put, List.setIfInBounds_toArray, List.set_cons_zero, List.set_cons_succ]
    refine take_yes (i := 5) (d := 26) (v := ?v5) rfl rfl (by kernel_rfl) (by kernel_rfl) (by kernel_rfl) (fun _ _ _ h => h) (by rfl) ?y5 (by assumption) ?z5
    case y5 => (intro w' hSw; (try unfold BS at hSw); go_split_ands; go_simp; try with_reducible rfl)
    try simp only [Act.put, List.setIfInBounds_toArray, List.set_cons_zero, List.set_cons_succ]
    refine take_yes (i := 6) (d := 27) (v := ?v6) rfl rfl (by kernel_rfl) (by kernel_rfl) (by kernel_rfl) (fun _ _ _ h => h) (by rfl) ?y6 (by assumption) ?z6
    case y6 => (intro w' hSw; (try unfold BS at hSw); go_split_ands; go_simp; try with_reducible rfl)
    try simp only [Act.put, List.setIfInBounds_toArray, List.set_cons_zero, List.set_cons_succ]
    refine take_yes (i := 7) (d := 28) (v := ?v7) rfl rfl (by kernel_rfl) (by kernel_rfl) (by kernel_rfl) (fun _ _ _ h => h) (by rfl) ?y7 (by assumption) ?z7
    case y7 => (intro w' hSw; (try unfold BS at hSw); go_split_ands; go_simp; try with_reducible rfl)
    try simp only [Act.put, List.setIfInBounds_toArray, List.set_cons_zero, List.set_cons_succ]
    refine take_yes (i := 8) (d := 29) (v := ?v8) rfl rfl (by kernel_rfl) (by kernel_rfl) (by kernel_rfl) (fun _ _ _ h => h) (by rfl) ?y8 (by assumption) ?z8
    case y8 => (intro w' hSw; (try unfold BS at hSw); go_split_ands; go_simp; try with_reducible rfl)
    try simp only [Act.put, List.setIfInBounds_toArray, List.set_cons_zero, List.set_cons_succ]
    refine take_yes (i := 9) (d := 30) (v := ?v9) rfl rfl (by kernel_rfl) (by kernel_rfl) (by kernel_rfl) (fun _ _ _ h => h) (by rfl) ?y9 (by assumption) ?z9
    case y9 => (intro w' hSw; (try unfold BS at hSw); go_split_ands; go_simp; try with_reducible rfl)
    try simp only [Act.put, List.setIfInBounds_toArray, List.set_cons_zero, List.set_cons_succ]
    refine take_yes (i := 10) (d := 31) (v := ?v10) rfl rfl (by kernel_rfl) (by kernel_rfl) (by kernel_rfl) (fun _ _ _ h => h) (by rfl) ?y10 (by assumption) ?z10
    case y10 => (intro w' hSw; (try unfold BS at hSw); go_split_ands; go_simp; try with_reducible rfl)
    try simp only [Act.put, List.setIfInBounds_toArray, List.set_cons_zero, List.set_cons_succ]
    refine take_yes (i := 11) (d := 32) (v := ?v11) rfl rfl (by kernel_rfl) (by kernel_rfl) (by kernel_rfl) (fun _ _ _ h => h) (by rfl) ?y11 (by assumption) ?z11
    case y11 => (intro w' hSw; (try unfold BS at hSw); go_split_ands; go_simp; try with_reducible rfl)
    try simp only [Act.put, List.setIfInBounds_toArray, List.set_cons_zero, List.set_cons_succ]
    refine take_yes (i := 12) (d := 33) (v := ?v12) rfl rfl (by kernel_rfl) (by kernel_rfl) (by kernel_rfl) (fun _ _ _ h => h) (by rfl) ?y12 (by assumption) ?z12
    case y12 => (intro w' hSw; (try unfold BS at hSw); go_split_ands; go_simp; try with_reducible rfl)
    try simp only [Act.put, List.setIfInBounds_toArray, List.set_cons_zero, List.set_cons_succ]
    refine take_yes (i := 14) (d := 35) (v := ?v14) rfl rfl (by kernel_rfl) (by kernel_rfl) (by kernel_rfl) (fun _ _ _ h => h) (by rfl) ?y14 (by assumption) ?z14
    case y14 => (intro w' hSw; (try unfold BS at hSw); go_split_ands; go_simp; try with_reducible rfl)
    try simp only [Act.put, List.setIfInBounds_toArray, List.set_cons_zero, List.set_cons_succ]
    refine take_yes (i := 16) (d := 37) (v := ?v16) rfl rfl (by kernel_rfl) (by kernel_rfl) (by kernel_rfl) (fun _ _ _ h => h) (by rfl) ?y16 (by assumption) ?z16
    case y16 => (intro w' hSw; (try unfold BS at hSw); go_split_ands; go_simp; try with_reducible rfl)
    try simp only [Act.put, List.setIfInBounds_toArray, List.set_cons_zero, List.set_cons_succ]
    refine wpAnyH_ready (rs := [13, 17]) (by kernel_rfl) (by simp) ?_
    refine AllReadyH.cons rfl (fun K hK => ?_) (AllReadyH.cons rfl (fun K hK => ?_) AllReadyH.nil)
    · go_simp
      have hO3 := ow_lit w.heap.size (w2) #[] 0 [] rfl rfl (by decide) hB2.2.1
      have hB3 := hB2.step ((Below.refl (w2).heap.size (w2)).alloc (Nat.le_refl _) (.cells #[] 33))
      refine hK.out _ _ hB3 (fun _ => ?_)
      clear hK K
      try simp only [Act.put, List.setIfInBounds_toArray, List.set_cons_zero, List.set_cons_succ]
      refine wpAnyH_ready (rs := [15, 17]) (by kernel_rfl) (by simp) ?_
      refine AllReadyH.cons rfl (fun K hK => ?_) (AllReadyH.cons rfl (fun K hK => ?_) AllReadyH.nil)
      · refine step_app_tok (by rfl) (.tmp 34) (.tmp 35) rfl (w.heap.size + 1) _ 0 [] rfl hO3.1 A2 n2 c2 F rfl (HF.out _ hB3) (by omega) (by have := hB3.2.1; omega) ?_
        intro v36 w4 ha hb _
        obtain ⟨hO4, hB4⟩ := bs_app HG.out.2 hO3 hB3 (by assumption) ha hb
        rw [Nat.zero_add, List.nil_append] at hO4
        clear ha hb
        refine hK.out _ _ hB4 (fun _ => ?_)
        clear hK K
        try simp only [Act.put, List.setIfInBounds_toArray, List.set_cons_zero, List.set_cons_succ]
        refine wpAnyH_ready (rs := [17]) (by kernel_rfl) (by simp) ?_
        refine AllReadyH.cons rfl (fun K hK => ?_) AllReadyH.nil
        go_simp
        have hs5 := src_lit (w4) #[.int .u8 k, .string (bytesOf s), .int .i64 a] 33 1 1 [⟨k, s, a⟩] rfl rfl
        have hB5 := hB4.step ((Below.refl (w4).heap.size (w4)).alloc (Nat.le_refl _) (.cells #[.int .u8 k, .string (bytesOf s), .int .i64 a] 33))
        refine hK.out _ _ hB5 (fun _ => ?_)
        clear hK K
        try simp only [Act.put, List.setIfInBounds_toArray, List.set_cons_zero, List.set_cons_succ]
        have hO5 := hO4.step ((Below.refl (w4).heap.size (w4)).alloc (Nat.le_refl _) (.cells #[.int .u8 k, .string (bytesOf s), .int .i64 a] 33))
        refine wpAnyH_ready (rs := [18]) (by kernel_rfl) (by simp) ?_
        refine AllReadyH.cons rfl (fun K hK => ?_) AllReadyH.nil
        refine step_app_tok (by rfl) (.tmp 36) (.tmp 38) rfl (w.heap.size + 1) _ n2 F rfl hO5.1 _ 1 1 [⟨k, s, a⟩] rfl hs5 (by omega) (by have := hB5.2.1; omega) ?_
        intro v39 w9 ha hb _
        obtain ⟨hO9, hB9⟩ := bs_app HG.out.2 hO5 hB5 rfl ha hb
        obtain ⟨A9, c9, rfl, ht9⟩ := hO9.src
        clear ha hb
        refine hK.out _ _ hB9 (fun _ => ?_)
        clear hK K
        try simp only [Act.put, List.setIfInBounds_toArray, List.set_cons_zero, List.set_cons_succ]
        refine wpAnyH_ready (rs := [19]) (by kernel_rfl) (by simp) ?_
        refine AllReadyH.cons rfl (fun K hK => ?_) AllReadyH.nil
        go_simp
        (go_at_call 17; refine (HK.out _ _ _ hB9 ht9).mono ?_; rintro e w10 ⟨rfl, hb⟩)
        have hBz := hB9.step hb
        clear hb
        refine hK.out _ _ hBz (fun _ => ?_)
        clear hK K
        try simp only [Act.put, List.setIfInBounds_toArray, List.set_cons_zero, List.set_cons_succ]
        refine take_yes (i := 20) (d := 41) (v := ?v20a) rfl rfl (by kernel_rfl) (by kernel_rfl) (by kernel_rfl) (fun _ _ _ h => h) (by rfl) ?y20a (by assumption) ?z20a
        case y20a => (intro w' hSw; (try unfold BS at hSw); go_split_ands; go_simp; try with_reducible rfl)
        try simp only [Act.put, List.setIfInBounds_toArray, List.set_cons_zero, List.set_cons_succ]
        refine take_yes (i := 21) (d := 42) (v := ?v21a) rfl rfl (by kernel_rfl) (by kernel_rfl) (by kernel_rfl) (fun _ _ _ h => h) (by rfl) ?y21a (by assumption) ?z21a
        case y21a => (intro w' hSw; (try unfold BS at hSw); go_split_ands; go_simp; try with_reducible rfl)
        try simp only [Act.put, List.setIfInBounds_toArray, List.set_cons_zero, List.set_cons_succ]
        refine wpAnyH_done (by kernel_rfl) ?_ _
        go_wp2_with fail
        go_meet
        exact ⟨rfl, Lib.hid hBz⟩
      · go_simp
        have hs4 := src_lit (w2.alloc (.cells #[] 33)) #[.int .u8 k, .string (bytesOf s), .int .i64 a] 33 1 1 [⟨k, s, a⟩] rfl rfl
        have hB4 := hB3.step ((Below.refl (w2.alloc (.cells #[] 33)).heap.size (w2.alloc (.cells #[] 33))).alloc (Nat.le_refl _) (.cells #[.int .u8 k, .string (bytesOf s), .int .i64 a] 33))
        rw [show (w2.alloc (.cells #[] 33)).heap.size = w2.heap.size + 1 by simp] at hs4
        refine hK.out _ _ hB4 (fun _ => ?_)
        clear hK K
        try simp only [Act.put, List.setIfInBounds_toArray, List.set_cons_zero, List.set_cons_succ]
        have hO4 := hO3.step ((Below.refl (w2.alloc (.cells #[] 33)).heap.size (w2.alloc (.cells #[] 33))).alloc (Nat.le_refl _) (.cells #[.int .u8 k, .string (bytesOf s), .int .i64 a] 33))
        refine wpAnyH_ready (rs := [15]) (by kernel_rfl) (by simp) ?_
        refine AllReadyH.cons rfl (fun K hK => ?_) AllReadyH.nil
        refine step_app_tok (by rfl) (.tmp 34) (.tmp 35) rfl (w.heap.size + 1) _ 0 [] rfl hO4.1 A2 n2 c2 F rfl (HF.out _ hB4) (by omega) (by have := hB4.2.1; omega) ?_
        intro v36 w5 ha hb _
        obtain ⟨hO5, hB5⟩ := bs_app HG.out.2 hO4 hB4 (by assumption) ha hb
        rw [Nat.zero_add, List.nil_append] at hO5
        have hs5 := src_grown hs4 hb (by intro e; injection e with e; change w2.heap.size = _ at e; omega)
        skip
        clear ha hb
        refine hK.out _ _ hB5 (fun _ => ?_)
        clear hK K
        try simp only [Act.put, List.setIfInBounds_toArray, List.set_cons_zero, List.set_cons_succ]
        refine wpAnyH_ready (rs := [18]) (by kernel_rfl) (by simp) ?_
        refine AllReadyH.cons rfl (fun K hK => ?_) AllReadyH.nil
        refine step_app_tok (by rfl) (.tmp 36) (.tmp 38) rfl (w.heap.size + 1) _ n2 F rfl hO5.1 _ 1 1 [⟨k, s, a⟩] rfl hs5 (by omega) (by have := hB5.2.1; omega) ?_
        intro v39 w9 ha hb _
        obtain ⟨hO9, hB9⟩ := bs_app HG.out.2 hO5 hB5 rfl ha hb
        obtain ⟨A9, c9, rfl, ht9⟩ := hO9.src
        clear ha hb
        refine hK.out _ _ hB9 (fun _ => ?_)
        clear hK K
        try simp only [Act.put, List.setIfInBounds_toArray, List.set_cons_zero, List.set_cons_succ]
        refine wpAnyH_ready (rs := [19]) (by kernel_rfl) (by simp) ?_
        refine AllReadyH.cons rfl (fun K hK => ?_) AllReadyH.nil
        go_simp
        (go_at_call 17; refine (HK.out _ _ _ hB9 ht9).mono ?_; rintro e w10 ⟨rfl, hb⟩)
        have hBz := hB9.step hb
        clear hb
        refine hK.out _ _ hBz (fun _ => ?_)
        clear hK K
        try simp only [Act.put, List.setIfInBounds_toArray, List.set_cons_zero, List.set_cons_succ]
        refine take_yes (i := 20) (d := 41) (v := ?v20b) rfl rfl (by kernel_rfl) (by kernel_rfl) (by kernel_rfl) (fun _ _ _ h => h) (by rfl) ?y20b (by assumption) ?z20b
        case y20b => (intro w' hSw; (try unfold BS at hSw); go_split_ands; go_simp; try with_reducible rfl)
        try simp only [Act.put, List.setIfInBounds_toArray, List.set_cons_zero, List.set_cons_succ]
        refine take_yes (i := 21) (d := 42) (v := ?v21b) rfl rfl (by kernel_rfl) (by kernel_rfl) (by kernel_rfl) (fun _ _ _ h => h) (by rfl) ?y21b (by assumption) ?z21b
        case y21b => (intro w' hSw; (try unfold BS at hSw); go_split_ands; go_simp; try with_reducible rfl)
        try simp only [Act.put, List.setIfInBounds_toArray, List.set_cons_zero, List.set_cons_succ]
        refine wpAnyH_done (by kernel_rfl) ?_ _
        go_wp2_with fail
        go_meet
        exact ⟨rfl, Lib.hid hBz⟩
    · go_simp
      have hs3 := src_lit (w2) #[.int .u8 k, .string (bytesOf s), .int .i64 a] 33 1 1 [⟨k, s, a⟩] rfl rfl
      have hB3 := hB2.step ((Below.refl (w2).heap.size (w2)).alloc (Nat.le_refl _) (.cells #[.int .u8 k, .string (bytesOf s), .int .i64 a] 33))
      refine hK.out _ _ hB3 (fun _ => ?_)
      clear hK K
      try simp only [Act.put, List.setIfInBounds_toArray, List.set_cons_zero, List.set_cons_succ]
      refine wpAnyH_ready (rs := [13]) (by kernel_rfl) (by simp) ?_
      refine AllReadyH.cons rfl (fun K hK => ?_) AllReadyH.nil
      go_simp
      have hO4 := ow_lit w.heap.size (w2.alloc (.cells #[.int .u8 k, .string (bytesOf s), .int .i64 a] 33)) #[] 0 [] rfl rfl (by decide) hB3.2.1
      have hB4 := hB3.step ((Below.refl (w2.alloc (.cells #[.int .u8 k, .string (bytesOf s), .int .i64 a] 33)).heap.size (w2.alloc (.cells #[.int .u8 k, .string (bytesOf s), .int .i64 a] 33))).alloc (Nat.le_refl _) (.cells #[] 33))
      rw [show (w2.alloc (.cells #[.int .u8 k, .string (bytesOf s), .int .i64 a] 33)).heap.size = w2.heap.size + 1 by simp] at hO4
      refine hK.out _ _ hB4 (fun _ => ?_)
      clear hK K
      try simp only [Act.put, List.setIfInBounds_toArray, List.set_cons_zero, List.set_cons_succ]
      have hs4 := hs3.step ((Below.refl (w2.alloc (.cells #[.int .u8 k, .string (bytesOf s), .int .i64 a] 33)).heap.size (w2.alloc (.cells #[.int .u8 k, .string (bytesOf s), .int .i64 a] 33))).alloc (Nat.le_refl _) (.cells #[] 33))
      refine wpAnyH_ready (rs := [15]) (by kernel_rfl) (by simp) ?_
      refine AllReadyH.cons rfl (fun K hK => ?_) AllReadyH.nil
      refine step_app_tok (by rfl) (.tmp 34) (.tmp 35) rfl (w.heap.size + 1) _ 0 [] rfl hO4.1 A2 n2 c2 F rfl (HF.out _ hB4) (by omega) (by have := hB4.2.1; omega) ?_
      intro v36 w5 ha hb _
      obtain ⟨hO5, hB5⟩ := bs_app HG.out.2 hO4 hB4 (by assumption) ha hb
      rw [Nat.zero_add, List.nil_append] at hO5
      have hs5 := src_grown hs4 hb (by intro e; injection e with e; change w2.heap.size + 1 = _ at e; omega)
      skip
      clear ha hb
      refine hK.out _ _ hB5 (fun _ => ?_)
      clear hK K
      try simp only [Act.put, List.setIfInBounds_toArray, List.set_cons_zero, List.set_cons_succ]
      refine wpAnyH_ready (rs := [18]) (by kernel_rfl) (by simp) ?_
      refine AllReadyH.cons rfl (fun K hK => ?_) AllReadyH.nil
      refine step_app_tok (by rfl) (.tmp 36) (.tmp 38) rfl (w.heap.size + 1) _ n2 F rfl hO5.1 _ 1 1 [⟨k, s, a⟩] rfl hs5 (by omega) (by have := hB5.2.1; omega) ?_
      intro v39 w9 ha hb _
      obtain ⟨hO9, hB9⟩ := bs_app HG.out.2 hO5 hB5 rfl ha hb
      obtain ⟨A9, c9, rfl, ht9⟩ := hO9.src
      clear ha hb
      refine hK.out _ _ hB9 (fun _ => ?_)
      clear hK K
      try simp only [Act.put, List.setIfInBounds_toArray, List.set_cons_zero, List.set_cons_succ]
      refine wpAnyH_ready (rs := [19]) (by kernel_rfl) (by simp) ?_
      refine AllReadyH.cons rfl (fun K hK => ?_) AllReadyH.nil
      go_simp
      (go_at_call 17; refine (HK.out _ _ _ hB9 ht9).mono ?_; rintro e w10 ⟨rfl, hb⟩)
      have hBz := hB9.step hb
      clear hb
      refine hK.out _ _ hBz (fun _ => ?_)
      clear hK K
      try simp only [Act.put, List.setIfInBounds_toArray, List.set_cons_zero, List.set_cons_succ]
      refine take_yes (i := 20) (d := 41) (v := ?v20c) rfl rfl (by kernel_rfl) (by kernel_rfl) (by kernel_rfl) (fun _ _ _ h => h) (by rfl) ?y20c (by assumption) ?z20c
      case y20c => (intro w' hSw; (try unfold BS at hSw); go_split_ands; go_simp; try with_reducible rfl)
      try simp only [Act.put, List.setIfInBounds_toArray, List.set_cons_zero, List.set_cons_succ]
      refine take_yes (i := 21) (d := 42) (v := ?v21c) rfl rfl (by kernel_rfl) (by kernel_rfl) (by kernel_rfl) (fun _ _ _ h => h) (by rfl) ?y21c (by assumption) ?z21c
      case y21c => (intro w' hSw; (try unfold BS at hSw); go_split_ands; go_simp; try with_reducible rfl)
      try simp only [Act.put, List.setIfInBounds_toArray, List.set_cons_zero, List.set_cons_succ]
      refine wpAnyH_done (by kernel_rfl) ?_ _
      go_wp2_with fail
      go_meet
      exact ⟨rfl, Lib.hid hBz⟩
  case rest =>
    obtain ⟨rfl, HB⟩ := hcut
    clear HA HC HK HS
    go_wp2_with (first | (go_at_call 11; refine (HT.out _ HB.out.1).mono ?_; rintro e w3 ⟨rfl, hb⟩; have HB3 := Lib.hid (HB.out.step hb); clear hb) | (go_at_call 9; refine (HL.out _ HB3.out.1).mono ?_; rintro e w4 ⟨A4, c4, rfl, ht4, hb4, _⟩; have HB4 := Lib.hid (HB3.out.step hb4); have HT4 := Lib.hid ht4; clear ht4 hb4) | (at_builtin; refine wpList_app_T rfl (.tmp 81) (.tmp 82) rfl (w4.heap.size - 1) _ 0 [] rfl ?a1 A2 n2 c2 F rfl ?a2 ?a3 ?a4 ?_))
    case a1 => exact owt_lit _ _ (by have := HB4.out.2.1; omega)
    case a2 => exact Src.step (HF.out _ HB4.out) ((Below.refl _ _).alloc (Nat.le_refl _) _)
    case a3 => omega
    case a4 => simp; have := HB4.out.2.1; omega
    intro v5 w5 ho5 hg5
    have hb5 : Below w4.heap.size w4 w5 := ((Below.refl _ _).alloc (Nat.le_refl _) _).grown hg5 (by simp) (fun j hj => by simp [Value.ownBlock] at hj; omega)
    have HO5 := Lib.hid ho5
    have HB5 := Lib.hid (HB4.out.step hb5)
    have HW5 := Lib.hid hb5
    clear ho5 hg5 hb5
    go_wp2_with (first | (at_builtin; refine wpList_app_T rfl (.tmp 83) (.tmp 84) rfl (w4.heap.size - 1) _ n2 F rfl ?b1 A4 m c4 M rfl ?b2 ?b3 ?b4 ?_))
    case b1 => exact HO5.out
    case b2 => exact ⟨HT4.out.below HW5.out, HME.out, .inr (toks_some HT4.out HM1.out)⟩
    case b3 => omega
    case b4 => have := HB4.out.2.1; have := HW5.out.size; omega
    intro v6 w6 ho6 hg6
    have hb6 : Below w4.heap.size w4 w6 := HW5.out.grown hg6 HW5.out.size (fun j hj => by have := (HO5.out.ow.1.lt j hj).1; have := HB4.out.2.1; omega)
    obtain ⟨A6, c6, rfl, ht6⟩ := ho6.ow.src
    have HO6 := Lib.hid ho6
    have HT6 := Lib.hid ht6
    have HB6 := Lib.hid (HB4.out.step hb6)
    have HW6 := Lib.hid hb6
    clear ho6 ht6 hg6 hb6 HO5 HB5 HW5
    go_wp2_with (first | (go_at_call 10; refine (HP.out _ _ _ HB6.out.1 HT6.out).mono ?_; rintro e w7 ⟨⟨hb, A7, c7, rfl, hl7⟩, _⟩; have HB7 := Lib.hid (HB6.out.step hb); have HO7 := Lib.hid (HO6.out.step hb); have HL7 := Lib.hid hl7; have HW7 := Lib.hid (HW6.out.trans (hb.mono HW6.out.size)); clear hb hl7) | (go_at_call 15; refine (HSm.out _ _ _ HB7.out.1 HL7.out).mono ?_; rintro e w8 ⟨rfl, hb⟩; have HB8 := Lib.hid (HB7.out.step hb); have HO8 := Lib.hid (HO7.out.step hb); have HL8 := Lib.hid (HL7.out.below hb); have HW8 := Lib.hid (HW7.out.trans (hb.mono HW7.out.size)); obtain ⟨_, x1, x2, x3, x4⟩ := HB8.out; clear hb) | (go_at_call 12; refine (alive_g w _ HB8.out.1).mono ?_; rintro e wz ⟨rfl, hgz⟩; have HGZ := Lib.hid hgz; clear hgz))
    go_ret
    exact ⟨rfl, HGZ.out⟩
set_option maxHeartbeats 8000000 in
theorem brk_go (A1 A2 : Option Addr) (c1 c2 n1 n2 : Nat) (k a : Int) (s : List UInt8) (w : World) (hg : G5 w w) (t : Tr) (hn : t.sz = n1) (ht : Lies w A1 (ndCells t.flat)) (hok : t.ok = true) (her : t.er = 0) (hb : t.big) (h2 : ¬ 30 < n2) (F : List Tok) (hFn : F.length = n2) (hF : Toks w A2 F) (hFa : (A2 = none ∧ c2 = 0 ∧ n2 = 0) ∨ ∃ ad, A2 = some ad) (hFs : ∀ t ∈ F, t.s.length ≤ maxLen) (hsl : s.length ≤ maxLen) (hav : askF (F ++ [⟨k, s, a⟩]) 0 = 0) (hlen : ¬ 390 < t.wr.length) (hmm : ∀ M : List Tok, M.map (·.s) = [[40]] ++ t.tx ++ [[41]] → ¬ 150 < M.length) (hC : (k = 1 ∨ s = [107] ∨ s = [41] ∨ s = [40])) :
    Calls Tryd.prog 6 #[.slice A1 n1 c1, .slice A2 n2 c2, .agg #[.int .u8 k, .string (bytesOf s), .int .i64 a]] w fun e w' => e = .returned (.bool true) ∧ G5 w w' := by
  have h60 := (Tr.er_zero.1 her).1
  have HA := Lib.hid (fun W => N4.great_any A1 n1 c1 W false (by simp; omega))
  have HC := Lib.hid (fun W (hW : BS w w.heap.size k a (bytesOf s) W) => rcheck_any A1 c1 n1 t.flat W (by rw [t.flat_length, hn]) (by unfold maxLen; omega) (ht.below hW.1.1) 0 ((t.check_flat hok).trans her))
  have hi2 : ¬ (30 : Int) < n2 := by omega
  have HF := Lib.hid (fun W (hW : BS w w.heap.size k a (bytesOf s) W) => (⟨hF.below hW.1.1, hFn, hFa⟩ : Src W A2 n2 c2 F))
  have HK := Lib.hid (fun A c W (hW : BS w w.heap.size k a (bytesOf s) W) (ht : Toks W A (F ++ [⟨k, s, a⟩])) => asked_any A c (n2 + 1) (F ++ [⟨k, s, a⟩]) 0 W (by simp [hFn]) (by unfold maxLen; omega) ht (by intro t ht; rcases List.mem_append.1 ht with ht | ht; exact hFs t ht; simp only [List.mem_singleton] at ht; subst ht; exact hsl) 0 hav)
  have HT := Lib.hid (fun (W : World) (hW : G5 w W) => textF_ok A1 c1 n1 t W hn (ht.below hW.1) hok her hb hW.2.2.1 hW.2.2.2)
  have hlb : ([40] ++ t.wr ++ [41]).length ≤ 400 := by simp; omega
  obtain ⟨M, q, hM, hlx⟩ := lex_whole (lex_brackets (lex_tree t hok hb).1.1 (lex_tree t hok hb).1.2) (by have := (tx_len t).1; simp; omega)
  have hall := allF_of hlb hlx
  rw [if_pos rfl] at hall
  have hM1 : M = (allF ([40] ++ t.wr ++ [41])).1 := by rw [hall]
  have hsm := allF_small ([40] ++ t.wr ++ [41])
  rw [← hM1] at hsm
  have hck : chkF M = 0 := by rw [hM1]; exact allF_chk _
  have HL := Lib.hid (fun (W : World) (hW : G5 w W) => all_g ([40] ++ t.wr ++ [41]) (by unfold maxLen; omega) M q 0 hall w W hW)
  rw [← br2_bytes t.wr] at HL
  have hsz : ¬ (390 < (bytesOf t.wr).size) := by rw [bytesOf_size]; omega
  obtain ⟨t', hz, hr⟩ := brackets_rd hok hb her hM
  have hgf := tk_good (ask_zero hav).1
  have hgm := tk_good hck
  have hrM : Rd (.line 0) ((F ++ M).drop n2) (.ok t' []) := by rw [List.drop_left' hFn]; simpa using hr [] no_nil
  have hgd := hrM.good (fun x hx => (hgm x (by rw [List.drop_left' hFn] at hx; exact hx)).2) trivial rfl
  have hm150 := hmm M hM
  have hm1 : M ≠ [] := by intro e; subst e; simp at hM
  have hs12 : ∀ x ∈ F ++ M, x.s.length ≤ maxLen := fun x hx => by rcases List.mem_append.1 hx with h | h; exact hFs x h; exact hsm.1 x h
  have hck12 : chkF (F ++ M) = 0 := chk_all (by simp [hFn]; omega) fun x hx => by rcases List.mem_append.1 hx with h | h; exact hgf x (by simp [h]); exact hgm x h
  have HP := Lib.hid (fun A c (W : World) (hW : G5 w W) (hT : Toks W A (F ++ M)) => parse_g A c (n2 + M.length) (F ++ M) n2 _ (by simp [hFn]) hs12 hck12 (by omega) hrM w W hW hT)
  have HSm := Lib.hid (fun A c (W : World) (hW : G5 w W) (hl : Lies W A (ndCells t'.flat)) => same_ok A1 A n1 t'.sz c1 c t.flat t'.flat W (by rw [t.flat_length, hn]) t'.flat_length (ht.below hW.1) hl ((t.check_flat hok).trans her) ((t'.check_flat hgd.1).trans hgd.2) true (by rw [sameF, Tr.flat_z hz]; simp))
  unfold PPost at HP
  simp only [List.length_nil, Nat.sub_zero] at HP
  have hml := hsm.2
  have HM1 := Lib.hid hm1
  obtain ⟨m, hmE⟩ : ∃ m, M.length = m := ⟨_, rfl⟩
  have HME := Lib.hid hmE
  rw [hmE] at HL HP hml hm150
  have hb0 : TkGood ⟨k, s, a⟩ := hgf _ (by simp)
  have hNo : NoOp 0 (txt [(⟨k, s, a⟩ : Tok)]) := no_behind hb0.1 hC
  have hck3 : chkF (F ++ M ++ [(⟨k, s, a⟩ : Tok)]) = 0 := chk_all (by simp [hFn]; omega) fun x hx => by rcases List.mem_append.1 hx with h | h; rcases List.mem_append.1 h with h | h; exact hgf x (by simp [h]); exact hgm x h; simp only [List.mem_singleton] at h; rw [h]; exact hb0
  have hs3 : ∀ x ∈ F ++ M ++ [⟨k, s, a⟩], x.s.length ≤ maxLen := fun x hx => by rcases List.mem_append.1 hx with h | h; exact hs12 x h; simp only [List.mem_singleton] at h; subst h; exact hsl
  have hr3 : Rd (.line 0) ((F ++ M ++ [(⟨k, s, a⟩ : Tok)]).drop n2) (.ok t' [⟨k, s, a⟩]) := by rw [List.append_assoc, List.drop_left' hFn]; exact hr _ hNo
  have HP2 := Lib.hid (fun A c (W : World) (hW : G5 w W) (hT : Toks W A (F ++ M ++ [(⟨k, s, a⟩ : Tok)])) => parse_g A c (n2 + m + 1) (F ++ M ++ [(⟨k, s, a⟩ : Tok)]) n2 _ (by simp [hFn, hmE]; omega) hs3 hck3 (by omega) hr3 w W hW hT)
  unfold PPost at HP2
  simp only [show n2 + m + 1 - [(⟨k, s, a⟩ : Tok)].length = n2 + m by simp] at HP2
  have hsz60 := (Tr.er_zero.1 hgd.2).1
  have HE := Lib.hid (fun A A' c c' (W : World) (h1 : Lies W A (ndCells t'.flat)) (h2 : Lies W A' (ndCells t'.flat)) => requal_any A A' t'.sz t'.sz c c' t'.flat t'.flat W t'.flat_length t'.flat_length (by omega) (by omega) h1 h2 true (by simp))
  have HCC := Lib.hid hC
  generalize bytesOf t.wr = T at HT HL hsz
  clear hF hFa hFs hsl ht hav hn hok her hb hlen hlb hM hlx hall hM1 hsm hck hmm hrM hgf hgm hgd hs12 hck12 hm1 hmE hz hr hb0 hNo hck3 hs3 hr3 hsz60 hC
  have HS := Lib.hid (BS.new w hg k a (bytesOf s) 33)
  have HG := Lib.hid hg
  clear hg
  go_enter Tryd.func6, Tryd.ntmps6
  go_upto_region 1 with fail
  go_cut [42] (fun s42 W => s42 = .bool false ∧ Hid (BS w w.heap.size k a (bytesOf s) W))
  case first =>
    refine wp_region_held_drew (S := BS w w.heap.size k a (bytesOf s)) (by kernel_rfl) HS.out (fun hHeld => ?_)
    refine take_yes (i := 0) (d := 21) (v := ?v0) rfl rfl (by kernel_rfl) (by kernel_rfl) (by kernel_rfl) (fun _ _ _ h => h) (by rfl) ?y0 (by assumption) ?z0
    case y0 => (intro w' hSw; (try unfold BS at hSw); go_split_ands; go_simp; try with_reducible rfl)
    try simp only [Act.put, List.setIfInBounds_toArray, List.set_cons_zero, List.set_cons_succ]
    refine wpAnyH_ready (rs := [1]) (by kernel_rfl) (by simp) ?_
    refine AllReadyH.cons rfl (fun K hK => ?_) AllReadyH.nil
    go_simp
    (go_at_call 13; refine (HA.out _).mono ?_; rintro e w' ⟨rfl, rfl⟩)
    refine hK.out _ _ (by assumption) (fun hHeld => ?_)
    clear hK K
    try simp only [Act.put, List.setIfInBounds_toArray, List.set_cons_zero, List.set_cons_succ]
    refine take_yes (i := 2) (d := 23) (v := ?v2) rfl rfl (by kernel_rfl) (by kernel_rfl) (by kernel_rfl) (fun _ _ _ h => h) (by rfl) ?y2 (by assumption) ?z2
    case y2 => (intro w' hSw; (try unfold BS at hSw); go_split_ands; go_simp; try with_reducible rfl)
    try simp only [Act.put, List.setIfInBounds_toArray, List.set_cons_zero, List.set_cons_succ]
    refine take_yes (i := 3) (d := 24) (v := ?v3) rfl rfl (by kernel_rfl) (by kernel_rfl) (by kernel_rfl) (fun _ _ _ h => h) (by rfl) ?y3 (by assumption) ?z3
    case y3 => (intro w' hSw; (try unfold BS at hSw); go_split_ands; go_simp; try with_reducible rfl)
    try simp only [Act.put, List.setIfInBounds_toArray, List.set_cons_zero, List.set_cons_succ]
    refine wpAnyH_ready (rs := [4]) (by kernel_rfl) (by simp) ?_
    refine AllReadyH.cons rfl (fun K hK => ?_) AllReadyH.nil
    go_simp
    (go_at_call 14; refine (HC.out _ (by assumption)).mono ?_; rintro e w2 ⟨rfl, hb⟩)
    have hB2 := hHeld.step hb
    clear hb
    refine hK.out _ _ (by assumption) (fun hHeld => ?_)
    clear hK K
    try simp only [Act.put, List.setIfInBounds_toArray, List.set_cons_zero, List.set_cons_succ]
    refine take_yes (i := 5) (d := 26) (v := ?v5) rfl rfl (by kernel_rfl) (by kernel_rfl) (by kernel_rfl) (fun _ _ _ h => h) (by rfl) ?y5 (by assumption) ?z5
    case y5 => (intro w' hSw; (try unfold BS at hSw); go_split_ands; go_simp; try with_reducible rfl)
    try simp only [Act.put, List.setIfInBounds_toArray, List.set_cons_zero, List.set_cons_succ]
    refine take_yes (i := 6) (d := 27) (v := ?v6) rfl rfl (by kernel_rfl) (by kernel_rfl) (by kernel_rfl) (fun _ _ _ h => h) (by rfl) ?y6 (by assumption) ?z6
    case y6 => (intro w' hSw; (try unfold BS at hSw); go_split_ands; go_simp; try with_reducible rfl)
    try simp only [Act.put, List.setIfInBounds_toArray, List.set_cons_zero, List.set_cons_succ]
    refine take_yes (i := 7) (d := 28) (v := ?v7) rfl rfl (by kernel_rfl) (by kernel_rfl) (by kernel_rfl) (fun _ _ _ h => h) (by rfl) ?y7 (by assumption) ?z7
    case y7 => (intro w' hSw; (try unfold BS at hSw); go_split_ands; go_simp; try with_reducible rfl)
    try simp only [Act.put, List.setIfInBounds_toArray, List.set_cons_zero, List.set_cons_succ]
    refine take_yes (i := 8) (d := 29) (v := ?v8) rfl rfl (by kernel_rfl) (by kernel_rfl) (by kernel_rfl) (fun _ _ _ h => h) (by rfl) ?y8 (by assumption) ?z8
    case y8 => (intro w' hSw; (try unfold BS at hSw); go_split_ands; go_simp; try with_reducible rfl)
    try simp only [Act.put, List.setIfInBounds_toArray, List.set_cons_zero, List.set_cons_succ]
    refine take_yes (i := 9) (d := 30) (v := ?v9) rfl rfl (by kernel_rfl) (by kernel_rfl) (by kernel_rfl) (fun _ _ _ h => h) (by rfl) ?y9 (by assumption) ?z9
    case y9 => (intro w' hSw; (try unfold BS at hSw); go_split_ands; go_simp; try with_reducible rfl)
    try simp only [Act.put, List.setIfInBounds_toArray, List.set_cons_zero, List.set_cons_succ]
    refine take_yes (i := 10) (d := 31) (v := ?v10) rfl rfl (by kernel_rfl) (by kernel_rfl) (by kernel_rfl) (fun _ _ _ h => h) (by rfl) ?y10 (by assumption) ?z10
    case y10 => (intro w' hSw; (try unfold BS at hSw); go_split_ands; go_simp; try with_reducible rfl)
    try simp only [Act.put, List.setIfInBounds_toArray, List.set_cons_zero, List.set_cons_succ]
    refine take_yes (i := 11) (d := 32) (v := ?v11) rfl rfl (by kernel_rfl) (by kernel_rfl) (by kernel_rfl) (fun _ _ _ h => h) (by rfl) ?y11 (by assumption) ?z11
    case y11 => (intro w' hSw; (try unfold BS at hSw); go_split_ands; go_simp; try with_reducible rfl)
    try simp only [Act.put, List.setIfInBounds_toArray, List.set_cons_zero, List.set_cons_succ]
    refine take_yes (i := 12) (d := 33) (v := ?v12) rfl rfl (by kernel_rfl) (by kernel_rfl) (by kernel_rfl) (fun _ _ _ h => h) (by rfl) ?y12 (by assumption) ?z12
    case y12 => (intro w' hSw; (try unfold BS at hSw); go_split_ands; go_simp; try with_reducible rfl)
    try simp only [Act.put, List.setIfInBounds_toArray, List.set_cons_zero, List.set_cons_succ]
    refine take_yes (i := 14) (d := 35) (v := ?v14) rfl rfl (by kernel_rfl) (by kernel_rfl) (by kernel_rfl) (fun _ _ _ h => h) (by rfl) ?y14 (by assumption) ?z14
    case y14 => (intro w' hSw; (try unfold BS at hSw); go_split_ands; go_simp; try with_reducible rfl)
    try simp only [Act.put, List.setIfInBounds_toArray, List.set_cons_zero, List.set_cons_succ]
    refine take_yes (i := 16) (d := 37) (v := ?v16) rfl rfl (by kernel_rfl) (by kernel_rfl) (by kernel_rfl) (fun _ _ _ h => h) (by rfl) ?y16 (by assumption) ?z16
    case y16 => (intro w' hSw; (try unfold BS at hSw); go_split_ands; go_simp; try with_reducible rfl)
    try simp only [Act.put, List.setIfInBounds_toArray, List.set_cons_zero, List.set_cons_succ]
    refine wpAnyH_ready (rs := [13, 17]) (by kernel_rfl) (by simp) ?_
    refine AllReadyH.cons rfl (fun K hK => ?_) (AllReadyH.cons rfl (fun K hK => ?_) AllReadyH.nil)
    · go_simp
      have hO3 := ow_lit w.heap.size (w2) #[] 0 [] rfl rfl (by decide) hB2.2.1
      have hB3 := hB2.step ((Below.refl (w2).heap.size (w2)).alloc (Nat.le_refl _) (.cells #[] 33))
      refine hK.out _ _ hB3 (fun _ => ?_)
      clear hK K
      try simp only [Act.put, List.setIfInBounds_toArray, List.set_cons_zero, List.set_cons_succ]
      refine wpAnyH_ready (rs := [15, 17]) (by kernel_rfl) (by simp) ?_
      refine AllReadyH.cons rfl (fun K hK => ?_) (AllReadyH.cons rfl (fun K hK => ?_) AllReadyH.nil)
      · refine step_app_tok (by rfl) (.tmp 34) (.tmp 35) rfl (w.heap.size + 1) _ 0 [] rfl hO3.1 A2 n2 c2 F rfl (HF.out _ hB3) (by omega) (by have := hB3.2.1; omega) ?_
        intro v36 w4 ha hb _
        obtain ⟨hO4, hB4⟩ := bs_app HG.out.2 hO3 hB3 (by assumption) ha hb
        rw [Nat.zero_add, List.nil_append] at hO4
        clear ha hb
        refine hK.out _ _ hB4 (fun _ => ?_)
        clear hK K
        try simp only [Act.put, List.setIfInBounds_toArray, List.set_cons_zero, List.set_cons_succ]
        refine wpAnyH_ready (rs := [17]) (by kernel_rfl) (by simp) ?_
        refine AllReadyH.cons rfl (fun K hK => ?_) AllReadyH.nil
        go_simp
        have hs5 := src_lit (w4) #[.int .u8 k, .string (bytesOf s), .int .i64 a] 33 1 1 [⟨k, s, a⟩] rfl rfl
        have hB5 := hB4.step ((Below.refl (w4).heap.size (w4)).alloc (Nat.le_refl _) (.cells #[.int .u8 k, .string (bytesOf s), .int .i64 a] 33))
        refine hK.out _ _ hB5 (fun _ => ?_)
        clear hK K
        try simp only [Act.put, List.setIfInBounds_toArray, List.set_cons_zero, List.set_cons_succ]
        have hO5 := hO4.step ((Below.refl (w4).heap.size (w4)).alloc (Nat.le_refl _) (.cells #[.int .u8 k, .string (bytesOf s), .int .i64 a] 33))
        refine wpAnyH_ready (rs := [18]) (by kernel_rfl) (by simp) ?_
        refine AllReadyH.cons rfl (fun K hK => ?_) AllReadyH.nil
        refine step_app_tok (by rfl) (.tmp 36) (.tmp 38) rfl (w.heap.size + 1) _ n2 F rfl hO5.1 _ 1 1 [⟨k, s, a⟩] rfl hs5 (by omega) (by have := hB5.2.1; omega) ?_
        intro v39 w9 ha hb _
        obtain ⟨hO9, hB9⟩ := bs_app HG.out.2 hO5 hB5 rfl ha hb
        obtain ⟨A9, c9, rfl, ht9⟩ := hO9.src
        clear ha hb
        refine hK.out _ _ hB9 (fun _ => ?_)
        clear hK K
        try simp only [Act.put, List.setIfInBounds_toArray, List.set_cons_zero, List.set_cons_succ]
        refine wpAnyH_ready (rs := [19]) (by kernel_rfl) (by simp) ?_
        refine AllReadyH.cons rfl (fun K hK => ?_) AllReadyH.nil
        go_simp
        (go_at_call 17; refine (HK.out _ _ _ hB9 ht9).mono ?_; rintro e w10 ⟨rfl, hb⟩)
        have hBz := hB9.step hb
        clear hb
        refine hK.out _ _ hBz (fun _ => ?_)
        clear hK K
        try simp only [Act.put, List.setIfInBounds_toArray, List.set_cons_zero, List.set_cons_succ]
        refine take_yes (i := 20) (d := 41) (v := ?v20a) rfl rfl (by kernel_rfl) (by kernel_rfl) (by kernel_rfl) (fun _ _ _ h => h) (by rfl) ?y20a (by assumption) ?z20a
        case y20a => (intro w' hSw; (try unfold BS at hSw); go_split_ands; go_simp; try with_reducible rfl)
        try simp only [Act.put, List.setIfInBounds_toArray, List.set_cons_zero, List.set_cons_succ]
        refine take_yes (i := 21) (d := 42) (v := ?v21a) rfl rfl (by kernel_rfl) (by kernel_rfl) (by kernel_rfl) (fun _ _ _ h => h) (by rfl) ?y21a (by assumption) ?z21a
        case y21a => (intro w' hSw; (try unfold BS at hSw); go_split_ands; go_simp; try with_reducible rfl)
        try simp only [Act.put, List.setIfInBounds_toArray, List.set_cons_zero, List.set_cons_succ]
        refine wpAnyH_done (by kernel_rfl) ?_ _
        go_wp2_with fail
        go_meet
        exact ⟨rfl, Lib.hid hBz⟩
      · go_simp
        have hs4 := src_lit (w2.alloc (.cells #[] 33)) #[.int .u8 k, .string (bytesOf s), .int .i64 a] 33 1 1 [⟨k, s, a⟩] rfl rfl
        have hB4 := hB3.step ((Below.refl (w2.alloc (.cells #[] 33)).heap.size (w2.alloc (.cells #[] 33))).alloc (Nat.le_refl _) (.cells #[.int .u8 k, .string (bytesOf s), .int .i64 a] 33))
        rw [show (w2.alloc (.cells #[] 33)).heap.size = w2.heap.size + 1 by simp] at hs4
        refine hK.out _ _ hB4 (fun _ => ?_)
        clear hK K
        try simp only [Act.put, List.setIfInBounds_toArray, List.set_cons_zero, List.set_cons_succ]
        have hO4 := hO3.step ((Below.refl (w2.alloc (.cells #[] 33)).heap.size (w2.alloc (.cells #[] 33))).alloc (Nat.le_refl _) (.cells #[.int .u8 k, .string (bytesOf s), .int .i64 a] 33))
        refine wpAnyH_ready (rs := [15]) (by kernel_rfl) (by simp) ?_
        refine AllReadyH.cons rfl (fun K hK => ?_) AllReadyH.nil
        refine step_app_tok (by rfl) (.tmp 34) (.tmp 35) rfl (w.heap.size + 1) _ 0 [] rfl hO4.1 A2 n2 c2 F rfl (HF.out _ hB4) (by omega) (by have := hB4.2.1; omega) ?_
        intro v36 w5 ha hb _
        obtain ⟨hO5, hB5⟩ := bs_app HG.out.2 hO4 hB4 (by assumption) ha hb
        rw [Nat.zero_add, List.nil_append] at hO5
        have hs5 := src_grown hs4 hb (by intro e; injection e with e; change w2.heap.size = _ at e; omega)
        skip
        clear ha hb
        refine hK.out _ _ hB5 (fun _ => ?_)
        clear hK K
        try simp only [Act.put, List.setIfInBounds_toArray, List.set_cons_zero, List.set_cons_succ]
        refine wpAnyH_ready (rs := [18]) (by kernel_rfl) (by simp) ?_
        refine AllReadyH.cons rfl (fun K hK => ?_) AllReadyH.nil
        refine step_app_tok (by rfl) (.tmp 36) (.tmp 38) rfl (w.heap.size + 1) _ n2 F rfl hO5.1 _ 1 1 [⟨k, s, a⟩] rfl hs5 (by omega) (by have := hB5.2.1; omega) ?_
        intro v39 w9 ha hb _
        obtain ⟨hO9, hB9⟩ := bs_app HG.out.2 hO5 hB5 rfl ha hb
        obtain ⟨A9, c9, rfl, ht9⟩ := hO9.src
        clear ha hb
        refine hK.out _ _ hB9 (fun _ => ?_)
        clear hK K
        try simp only [Act.put, List.setIfInBounds_toArray, List.set_cons_zero, List.set_cons_succ]
        refine wpAnyH_ready (rs := [19]) (by kernel_rfl) (by simp) ?_
        refine AllReadyH.cons rfl (fun K hK => ?_) AllReadyH.nil
        go_simp
        (go_at_call 17; refine (HK.out _ _ _ hB9 ht9).mono ?_; rintro e w10 ⟨rfl, hb⟩)
        have hBz := hB9.step hb
        clear hb
        refine hK.out _ _ hBz (fun _ => ?_)
        clear hK K
        try simp only [Act.put, List.setIfInBounds_toArray, List.set_cons_zero, List.set_cons_succ]
        refine take_yes (i := 20) (d := 41) (v := ?v20b) rfl rfl (by kernel_rfl) (by kernel_rfl) (by kernel_rfl) (fun _ _ _ h => h) (by rfl) ?y20b (by assumption) ?z20b
        case y20b => (intro w' hSw; (try unfold BS at hSw); go_split_ands; go_simp; try with_reducible rfl)
        try simp only [Act.put, List.setIfInBounds_toArray, List.set_cons_zero, List.set_cons_succ]
        refine take_yes (i := 21) (d := 42) (v := ?v21b) rfl rfl (by kernel_rfl) (by kernel_rfl) (by kernel_rfl) (fun _ _ _ h => h) (by rfl) ?y21b (by assumption) ?z21b
        case y21b => (intro w' hSw; (try unfold BS at hSw); go_split_ands; go_simp; try with_reducible rfl)
        try simp only [Act.put, List.setIfInBounds_toArray, List.set_cons_zero, List.set_cons_succ]
        refine wpAnyH_done (by kernel_rfl) ?_ _
        go_wp2_with fail
        go_meet
        exact ⟨rfl, Lib.hid hBz⟩
    · go_simp
      have hs3 := src_lit (w2) #[.int .u8 k, .string (bytesOf s), .int .i64 a] 33 1 1 [⟨k, s, a⟩] rfl rfl
      have hB3 := hB2.step ((Below.refl (w2).heap.size (w2)).alloc (Nat.le_refl _) (.cells #[.int .u8 k, .string (bytesOf s), .int .i64 a] 33))
      refine hK.out _ _ hB3 (fun _ => ?_)
      clear hK K
      try simp only [Act.put, List.setIfInBounds_toArray, List.set_cons_zero, List.set_cons_succ]
      refine wpAnyH_ready (rs := [13]) (by kernel_rfl) (by simp) ?_
      refine AllReadyH.cons rfl (fun K hK => ?_) AllReadyH.nil
      go_simp
      have hO4 := ow_lit w.heap.size (w2.alloc (.cells #[.int .u8 k, .string (bytesOf s), .int .i64 a] 33)) #[] 0 [] rfl rfl (by decide) hB3.2.1
      have hB4 := hB3.step ((Below.refl (w2.alloc (.cells #[.int .u8 k, .string (bytesOf s), .int .i64 a] 33)).heap.size (w2.alloc (.cells #[.int .u8 k, .string (bytesOf s), .int .i64 a] 33))).alloc (Nat.le_refl _) (.cells #[] 33))
      rw [show (w2.alloc (.cells #[.int .u8 k, .string (bytesOf s), .int .i64 a] 33)).heap.size = w2.heap.size + 1 by simp] at hO4
      refine hK.out _ _ hB4 (fun _ => ?_)
      clear hK K
      try simp only [Act.put, List.setIfInBounds_toArray, List.set_cons_zero, List.set_cons_succ]
      have hs4 := hs3.step ((Below.refl (w2.alloc (.cells #[.int .u8 k, .string (bytesOf s), .int .i64 a] 33)).heap.size (w2.alloc (.cells #[.int .u8 k, .string (bytesOf s), .int .i64 a] 33))).alloc (Nat.le_refl _) (.cells #[] 33))
      refine wpAnyH_ready (rs := [15]) (by kernel_rfl) (by simp) ?_
      refine AllReadyH.cons rfl (fun K hK => ?_) AllReadyH.nil
      refine step_app_tok (by rfl) (.tmp 34) (.tmp 35) rfl (w.heap.size + 1) _ 0 [] rfl hO4.1 A2 n2 c2 F rfl (HF.out _ hB4) (by omega) (by have := hB4.2.1; omega) ?_
      intro v36 w5 ha hb _
      obtain ⟨hO5, hB5⟩ := bs_app HG.out.2 hO4 hB4 (by assumption) ha hb
      rw [Nat.zero_add, List.nil_append] at hO5
      have hs5 := src_grown hs4 hb (by intro e; injection e with e; change w2.heap.size + 1 = _ at e; omega)
      skip
      clear ha hb
      refine hK.out _ _ hB5 (fun _ => ?_)
      clear hK K
      try simp only [Act.put, List.setIfInBounds_toArray, List.set_cons_zero, List.set_cons_succ]
      refine wpAnyH_ready (rs := [18]) (by kernel_rfl) (by simp) ?_
      refine AllReadyH.cons rfl (fun K hK => ?_) AllReadyH.nil
      refine step_app_tok (by rfl) (.tmp 36) (.tmp 38) rfl (w.heap.size + 1) _ n2 F rfl hO5.1 _ 1 1 [⟨k, s, a⟩] rfl hs5 (by omega) (by have := hB5.2.1; omega) ?_
      intro v39 w9 ha hb _
      obtain ⟨hO9, hB9⟩ := bs_app HG.out.2 hO5 hB5 rfl ha hb
      obtain ⟨A9, c9, rfl, ht9⟩ := hO9.src
      clear ha hb
      refine hK.out _ _ hB9 (fun _ => ?_)
      clear hK K
      try simp only [Act.put, List.setIfInBounds_toArray, List.set_cons_zero, List.set_cons_succ]
      refine wpAnyH_ready (rs := [19]) (by kernel_rfl) (by simp) ?_
      refine AllReadyH.cons rfl (fun K hK => ?_) AllReadyH.nil
      go_simp
      (go_at_call 17; refine (HK.out _ _ _ hB9 ht9).mono ?_; rintro e w10 ⟨rfl, hb⟩)
      have hBz := hB9.step hb
      clear hb
      refine hK.out _ _ hBz (fun _ => ?_)
      clear hK K
      try simp only [Act.put, List.setIfInBounds_toArray, List.set_cons_zero, List.set_cons_succ]
      refine take_yes (i := 20) (d := 41) (v := ?v20c) rfl rfl (by kernel_rfl) (by kernel_rfl) (by kernel_rfl) (fun _ _ _ h => h) (by rfl) ?y20c (by assumption) ?z20c
      case y20c => (intro w' hSw; (try unfold BS at hSw); go_split_ands; go_simp; try with_reducible rfl)
      try simp only [Act.put, List.setIfInBounds_toArray, List.set_cons_zero, List.set_cons_succ]
      refine take_yes (i := 21) (d := 42) (v := ?v21c) rfl rfl (by kernel_rfl) (by kernel_rfl) (by kernel_rfl) (fun _ _ _ h => h) (by rfl) ?y21c (by assumption) ?z21c
      case y21c => (intro w' hSw; (try unfold BS at hSw); go_split_ands; go_simp; try with_reducible rfl)
      try simp only [Act.put, List.setIfInBounds_toArray, List.set_cons_zero, List.set_cons_succ]
      refine wpAnyH_done (by kernel_rfl) ?_ _
      go_wp2_with fail
      go_meet
      exact ⟨rfl, Lib.hid hBz⟩
  case rest =>
    obtain ⟨rfl, HB⟩ := hcut
    clear HA HC HK HS
    go_wp2_with (first | (go_at_call 11; refine (HT.out _ HB.out.1).mono ?_; rintro e w3 ⟨rfl, hb⟩; have HB3 := Lib.hid (HB.out.step hb); clear hb) | (go_at_call 9; refine (HL.out _ HB3.out.1).mono ?_; rintro e w4 ⟨A4, c4, rfl, ht4, hb4, _⟩; have HB4 := Lib.hid (HB3.out.step hb4); have HT4 := Lib.hid ht4; clear ht4 hb4) | (at_builtin; refine wpList_app_T rfl (.tmp 81) (.tmp 82) rfl (w4.heap.size - 1) _ 0 [] rfl ?a1 A2 n2 c2 F rfl ?a2 ?a3 ?a4 ?_))
    case a1 => exact owt_lit _ _ (by have := HB4.out.2.1; omega)
    case a2 => exact Src.step (HF.out _ HB4.out) ((Below.refl _ _).alloc (Nat.le_refl _) _)
    case a3 => omega
    case a4 => simp; have := HB4.out.2.1; omega
    intro v5 w5 ho5 hg5
    have hb5 : Below w4.heap.size w4 w5 := ((Below.refl _ _).alloc (Nat.le_refl _) _).grown hg5 (by simp) (fun j hj => by simp [Value.ownBlock] at hj; omega)
    have HO5 := Lib.hid ho5
    have HB5 := Lib.hid (HB4.out.step hb5)
    have HW5 := Lib.hid hb5
    clear ho5 hg5 hb5
    go_wp2_with (first | (at_builtin; refine wpList_app_T rfl (.tmp 83) (.tmp 84) rfl (w4.heap.size - 1) _ n2 F rfl ?b1 A4 m c4 M rfl ?b2 ?b3 ?b4 ?_))
    case b1 => exact HO5.out
    case b2 => exact ⟨HT4.out.below HW5.out, HME.out, .inr (toks_some HT4.out HM1.out)⟩
    case b3 => omega
    case b4 => have := HB4.out.2.1; have := HW5.out.size; omega
    intro v6 w6 ho6 hg6
    have hb6 : Below w4.heap.size w4 w6 := HW5.out.grown hg6 HW5.out.size (fun j hj => by have := (HO5.out.ow.1.lt j hj).1; have := HB4.out.2.1; omega)
    obtain ⟨A6, c6, rfl, ht6⟩ := ho6.ow.src
    have HO6 := Lib.hid ho6
    have HT6 := Lib.hid ht6
    have HB6 := Lib.hid (HB4.out.step hb6)
    have HW6 := Lib.hid hb6
    clear ho6 ht6 hg6 hb6 HO5 HB5 HW5
    go_upto_region 14 with (first | (go_at_call 10; refine (HP.out _ _ _ HB6.out.1 HT6.out).mono ?_; rintro e w7 ⟨⟨hb, A7, c7, rfl, hl7⟩, _⟩; have HB7 := Lib.hid (HB6.out.step hb); have HO7 := Lib.hid (HO6.out.step hb); have HL7 := Lib.hid hl7; have HW7 := Lib.hid (HW6.out.trans (hb.mono HW6.out.size)); clear hb hl7) | (go_at_call 15; refine (HSm.out _ _ _ HB7.out.1 HL7.out).mono ?_; rintro e w8 ⟨rfl, hb⟩; have HB8 := Lib.hid (HB7.out.step hb); have HO8 := Lib.hid (HO7.out.step hb); have HL8 := Lib.hid (HL7.out.below hb); have HW8 := Lib.hid (HW7.out.trans (hb.mono HW7.out.size)); obtain ⟨_, x1, x2, x3, x4⟩ := HB8.out; clear hb))
    go_cut [133] (fun s133 W => s133 = .bool true ∧ W = w8)
    case first =>
      by_cases d1 : k = 1
      · subst d1; go_wp2_with fail; go_meet; exact ⟨rfl, rfl⟩
      · have g1 : (k == 1) = false := by simpa using d1
        by_cases d2 : s = [107]
        · have g2 : ((bytesOf s).toList == [107]) = true := by rw [bytesOf_toList, d2]; rfl
          clear d2
          go_wp2_with fail; go_meet; exact ⟨rfl, rfl⟩
        · have g2 : ((bytesOf s).toList == [107]) = false := by rw [bytesOf_toList]; simpa using d2
          by_cases d3 : s = [41]
          · have g3 : ((bytesOf s).toList == [41]) = true := by rw [bytesOf_toList, d3]; rfl
            clear d3
            go_wp2_with fail; go_meet; exact ⟨rfl, rfl⟩
          · have g3 : ((bytesOf s).toList == [41]) = false := by rw [bytesOf_toList]; simpa using d3
            have g4 : ((bytesOf s).toList == [40]) = true := by rcases HCC.out with h | h | h | h; exact absurd h d1; exact absurd h d2; exact absurd h d3; rw [h, bytesOf_toList]; rfl
            go_wp2_with fail; go_meet; exact ⟨rfl, rfl⟩
    case rest =>
      obtain ⟨rfl, rfl⟩ := hcut
      go_wp2_with (first | (at_builtin; refine wpList_app_T rfl (.tmp 135) (.tmp 137) rfl (w4.heap.size - 1) _ (n2 + m) (F ++ M) rfl ?e1 (some ⟨wc.heap.size, 0, none⟩) 1 1 [⟨k, s, a⟩] rfl ?e2 ?e3 ?e4 ?_))
      case e1 => exact HO8.out.step ((Below.refl _ _).alloc (Nat.le_refl _) _)
      case e2 => exact src_lit _ _ _ 1 1 _ rfl rfl
      case e3 => omega
      case e4 => have := HW8.out.size; have := HB4.out.2.1; simp; omega
      intro v9 w9 ho9 hg9
      have hal := (Below.refl wc.heap.size wc).alloc (Nat.le_refl _) (.cells #[.int .u8 k, .string (bytesOf s), .int .i64 a] 33)
      have HL9 := Lib.hid (lies_grown (HL8.out.below hal) hg9 (lies_far (HO8.out.step hal) oneC_ne.2 (HL8.out.below hal)))
      have hb9 : Below w4.heap.size w4 w9 := (HW8.out.trans (hal.mono HW8.out.size)).grown hg9 (by have := HW8.out.size; simp; omega) (fun j hj => by have := ((HO8.out.step hal).ow.1.lt j hj).1; have := HB4.out.2.1; omega)
      obtain ⟨A9, c9, rfl, ht9⟩ := ho9.ow.src
      have HG9 := Lib.hid (HB4.out.1.step hb9)
      have HT9 := Lib.hid (show Toks w9 A9 (F ++ M ++ [⟨k, s, a⟩]) by rw [List.append_assoc]; exact ht9)
      clear ho9 hg9 hal hb9 ht9
      go_wp2_with (first | (go_at_call 10; refine (HP2.out _ _ _ HG9.out HT9.out).mono ?_; rintro e w10 ⟨⟨hb, A10, c10, rfl, hl10⟩, hg10⟩; have HG10 := Lib.hid hg10; have HL10 := Lib.hid hl10; have HL9b := Lib.hid (HL9.out.below hb); clear hb hl10 hg10) | (go_at_call 20; refine (HE.out _ _ _ _ _ HL9b.out HL10.out).mono ?_; rintro e w11 ⟨rfl, hb⟩; have HG11 := Lib.hid (HG10.out.step hb); clear hb) | (go_at_call 12; refine (alive_g w _ HG11.out).mono ?_; rintro e wz ⟨rfl, hgz⟩; have HGZ := Lib.hid hgz; clear hgz))
      go_ret
      exact ⟨rfl, HGZ.out⟩
end Go.Proofs.YtoobggcopoljcaaDoor
