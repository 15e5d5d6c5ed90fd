/- Contracts of nameless, ContainsFunc, Sources, and of the reference's. -/
import Derived.Test.YtaijhkfbfkdepaaQWin
import Derived.Maps.OwnOps
import Derived.Maps.OwnSet
namespace Go.Proofs.Ytaijhkfbfkdepaa.Q8
open Go.ChangeShapes Go.WideShapes Go.ChangeAt Go.RowKit N4
set_option linter.unusedVariables false
set_option linter.unusedSimpArgs false
set_option maxRecDepth 100000

theorem nameless_any (v : Int) (w : World) (x : Bool) (hx : nl v = x) : Calls Try.prog 36 #[.int .i64 v] w fun e w' => e = .returned (.bool x) ∧ w = w' := by
  have HX := Lib.hid hx
  cases hin : inB v 0 3
  all_goals
    have HW := Lib.hid (fun W => within_int v 0 3 W _ hin)
    have HF := Lib.hid (show (!inB v 0 3) = x from HX.out)
    rw [hin] at HF
    clear hx hin
    go_enter Try.func36, Try.ntmps36
    go_wp2_with (go_at_call 43; refine (HW.out _).mono ?_; rintro e w1 ⟨rfl, rfl⟩)
    go_ret
    exact ⟨ret_bool' HF.out, rfl⟩
def IdxPost (l : List Int) (w : World) (e : Ending) (w' : World) : Prop := ∃ i : Int, e = .returned (.int .i64 i) ∧ decide (0 ≤ i) = l.any nl ∧ w = w'
theorem idx_any (A : Option Addr) (c n : Nat) (l : List Int) (w : World) (hn : l.length = n) (hL : n ≤ maxLen) (ht : Lies w A (iC l)) :
    Calls Try.prog 42 #[.slice A n c, .func (.func 36) #[] #[]] w (IdxPost l w) := by
  have HT := Lib.hid ht
  have HN := Lib.hid hn
  unfold maxLen at hL
  clear ht hn
  go_enter Try.func42, Try.ntmps42
  go_wp2
  go_loop [8] (fun i => ∃ k : Nat, i = .int .i64 k ∧ k ≤ n ∧ Hid ((l.take k).any nl = false)) (fun i => n - (intOf i).toNat)
  case atStart => exact ⟨0, rfl, Nat.zero_le _, rfl⟩
  case round =>
    obtain ⟨k, rfl, hk, HK⟩ := hrel
    by_cases hlt : k < n
    · have hkl : k < l.length := by rw [HN.out]; exact hlt
      obtain ⟨ad, rfl, hadl, c0⟩ := HT.out.one (iC_at hkl)
      have hab : (ad.add k).block < w.heap.size := by rw [add_block]; exact hadl
      have j2 : (k : Int) < (n : Int) := by omega
      have HA := Lib.hid (any_snoc hkl)
      cases hx : nl l[k]
      · have HW := Lib.hid (fun W => nameless_any l[k] W false hx)
        have HK' := Lib.hid (show (l.take (k + 1)).any nl = false by rw [HA.out, HK.out, hx]; rfl)
        generalize l[k] = v at c0 HW HA
        clear hx hadl hkl
        go_wp2_with (go_at_call 36; refine (HW.out _).mono ?_; rintro e w1 ⟨rfl, rfl⟩)
        go_round
        case rel => exact ⟨k + 1, by go_num, by omega, HK'⟩
        case measure => simp [intOf]; omega
      · have HW := Lib.hid (fun W => nameless_any l[k] W true hx)
        have HF := Lib.hid (show l.any nl = true from List.any_eq_true.2 ⟨l[k], List.getElem_mem hkl, hx⟩)
        generalize l[k] = v at c0 HW HA
        clear hx hadl hkl
        go_wp2_with (go_at_call 36; refine (HW.out _).mono ?_; rintro e w1 ⟨rfl, rfl⟩)
        go_ret
        exact ⟨_, rfl, by rw [HF.out]; exact decide_eq_true (Int.natCast_nonneg _), rfl⟩
    · obtain rfl : n = k := by omega
      have HF := Lib.hid (show l.any nl = false by have := HK.out; rwa [List.take_of_length_le (by rw [HN.out]; exact Nat.le_refl _)] at this)
      go_wp2
      go_ret
      exact ⟨_, rfl, by rw [HF.out]; rfl, rfl⟩
theorem cont_any (A : Option Addr) (c n : Nat) (l : List Int) (w : World) (hn : l.length = n) (hL : n ≤ maxLen) (ht : Lies w A (iC l)) (x : Bool) (hx : l.any nl = x) :
    Calls Try.prog 35 #[.slice A n c, .func (.func 36) #[] #[]] w fun e w' => e = .returned (.bool x) ∧ w = w' := by
  have HI := Lib.hid (idx_any A c n l w hn hL ht)
  have HX := Lib.hid hx
  clear hn ht hx hL
  go_enter Try.func35, Try.ntmps35
  go_wp2_with (go_at_call 42; refine HI.out.mono ?_; rintro e w1 ⟨i, rfl, hi, rfl⟩; have HI2 := Lib.hid hi; clear hi)
  go_ret
  exact ⟨ret_bool' (by rw [← HX.out, ← HI2.out]), rfl⟩

/-! ### the map -/
open Go.Maps
def kys (l : List Int) : List Lit := l.map (Lit.int .i64 ·)
def setD (l : List Int) : DataW Unit := Maps.setOf (.lit (.bool true)) (kys l)
theorem atKey_out (u z : DataW Unit) (k : Lit) : ∀ (acc : List Lit) (m : DataW Unit), k ∉ acc → (acc.foldl (fun m x => m.put x u) m).atKey k z = m.atKey k z := by
  intro acc
  induction acc with
  | nil => intro m _; rfl
  | cons x r ih =>
    intro m hk
    rw [List.mem_cons, not_or] at hk
    rw [List.foldl_cons, ih _ hk.2, atKey_put_other hk.1 u z]
theorem atKey_in (u z : DataW Unit) (k : Lit) : ∀ (acc : List Lit) (m : DataW Unit), IsMap m → (∀ x ∈ acc, WideAt.IsKeyLit x) → k ∈ acc → (acc.foldl (fun m x => m.put x u) m).atKey k z = u := by
  intro acc
  induction acc with
  | nil => intro m _ _ h; cases h
  | cons x r ih =>
    intro m hm hk h
    rw [List.foldl_cons]
    by_cases h1 : k ∈ r
    · exact ih _ (hm.put x u) (fun y hy => hk y (List.mem_cons_of_mem _ hy)) h1
    · rcases List.mem_cons.1 h with rfl | h
      · rw [atKey_out _ _ _ _ _ h1]
        exact atKey_put_same hm (hk k (List.mem_cons_self ..)) u z
      · exact absurd h h1
theorem kys_lit (l : List Int) : ∀ x ∈ kys l, WideAt.IsKeyLit x := by
  intro x hx
  obtain ⟨a, _, rfl⟩ := List.mem_map.1 hx
  trivial
theorem setD_at (l : List Int) (v : Int) : (setD l).atKey (.int .i64 v) (.lit (.bool false)) = .lit (.bool (decide (v ∈ l))) := by
  unfold setD Maps.setOf
  have : (Lit.int .i64 v ∈ kys l) ↔ v ∈ l := by simp [kys]
  by_cases h : v ∈ l
  · rw [atKey_in _ _ _ _ _ isMap_empty (kys_lit l) (this.2 h)]; simp [h]
  · rw [atKey_out _ _ _ _ _ (fun hh => h (this.1 hh))]; simp [h]; rfl
theorem setD_snoc (l : List Int) (v : Int) : setD (l ++ [v]) = (setD l).put (.int .i64 v) (.lit (.bool true)) := by
  unfold setD kys
  rw [List.map_append]
  exact setOf_snoc _ _ _
theorem plainElem_bool_inv {P : Program} {e : TypeId} (he : P.underlying e = some .bool) {v : Value} {b : Bool} {ps : List MemPlace} (h : plainElem (H := Unit) P e v = some (.lit (.bool b), ps)) : v = .bool b := by
  unfold plainElem at h
  rw [he] at h
  cases v <;> simp at h
  rw [h.1]
/-- A look-up in a map of bools that the call made. -/
theorem wpList_lookup_own_bool {P : Program} (w : World) {ops : Array Oper} {rest : List Oper} {o : Oper} {a : Act} {Q : Exit → Act → World → Prop}
    (hg : o.guard = none) (m x : Operand) (t : TypeId) (hop : o.op = Op.lookup t m x false)
    (k e : TypeId) (K : Keyed P k) (ht : P.underlying t = some (.map k e)) (he : P.underlying e = some .bool) (hz : (zeroValue e).run P w = .ok (.bool false) w) (b n : Nat) (D : DataW Unit)
    (hm : a.eval m = .map (some b)) (hown : w.ownsMap P k (plainElem P e) b n D) (key : Value) (kl : Lit) (hx : a.eval x = key) (hkey : keyOf P k key = some kl) (y : Bool) (hy : D.atKey kl (.lit (.bool false)) = .lit (.bool y))
    (hK : wpList P ops Q rest (a.put o.dst (.bool y)) w) :
    wpList P ops Q (o :: rest) a w := by
  refine wpList_plain hg fun K' hK' => ?_
  obtain ⟨v, ps, hrun, hv⟩ := hown.lookup K ht hz (plainElem_bool he false) hkey
  rw [hy] at hv
  obtain rfl := plainElem_bool_inv he hv
  unfold Oper.wp
  simp [execOp, hop, hm, hx, hrun, Result.andThen]
  exact hK' _ _ hK
theorem kint : Keyed Try.prog 3 := int_keyed Try.underlying3
theorem zbool (w : World) : (zeroValue 4).run Try.prog w = .ok (.bool false) w := by kernel_rfl
def SM (w : World) (l : List Int) (k : Nat) (W : World) : Prop := W.ownsMap Try.prog 3 (plainElem Try.prog 4) w.heap.size k (setD (l.take k)) ∧ Below w.heap.size w W
theorem src_loop (A : Option Addr) (c n : Nat) (l : List Int) (j : Bool) (w : World) (hn : l.length = n) (h4 : n ≤ 4) (h0 : n ≠ 0) (ht : Lies w A (iC l)) (hj : j = true → n = 2) (hal : l.any nl = false) (x : Int) (hx : (if l.Nodup then (0 : Int) else 43) = x) :
    Calls Try.prog 18 #[.slice A n c, .bool j] w fun e w' => e = .returned (.int .i64 x) ∧ Below w.heap.size w w' := by
  have HT := Lib.hid ht
  have HN := Lib.hid hn
  have HX := Lib.hid hx
  have HC := Lib.hid (fun W (hb : Below w.heap.size w W) => cont_any A c n l W hn (by unfold maxLen; omega) (ht.below hb) false hal)
  have HR : ∀ v ∈ l, 0 ≤ v ∧ v ≤ 3 := fun v hv => by
    have := List.any_eq_false.1 hal v hv
    unfold nl at this
    exact inB_true.1 (by simpa using this)
  have HRh := Lib.hid HR
  have HK0 := Lib.hid (show SM w l 0 (w.alloc (.map #[] 0)) from ⟨World.ownsMap_made _ _ _ _, (Below.refl _ _).alloc (Nat.le_refl _) _⟩)
  have hmm := @run_makeMap Try.prog
  have hnz : (n == 0) = false := by simpa using h0
  have hni : ((n : Int) == 0) = false := by simpa using h0
  have h5 : ¬ (4 < n) := by omega
  clear ht hn hx hal HR
  have main : ∀ jj : Bool, jj = j → Calls Try.prog 18 #[.slice A n c, .bool jj] w fun e w' => e = .returned (.int .i64 x) ∧ Below w.heap.size w w' := by
    intro jj hjj
    cases hjx : jj
    all_goals
      have hB : jj = true → ((n : Int) != 2) = false ∧ ((n : Int) == 2) = true := fun h => by rw [hj (hjj ▸ h)]; exact ⟨rfl, rfl⟩
      first
        | (have hB1 := (hB hjx).1; have hB2 := (hB hjx).2)
        | skip
      clear hjj hj hB hjx
      go_enter Try.func18, Try.ntmps18
      go_wp2_with (go_at_call 35; refine (HC.out _ (Below.refl _ _)).mono ?_; rintro e w1 ⟨rfl, rfl⟩)
      go_loopw [29] (fun i wr => ∃ k : Nat, i = .int .i64 k ∧ k ≤ n ∧ Hid ((l.take k).Nodup) ∧ Hid (SM w l k wr)) (fun i _ => n - (intOf i).toNat)
      case atStart => exact ⟨0, rfl, Nat.zero_le _, by show (l.take 0).Nodup; simp, HK0.out⟩
      case round =>
        obtain ⟨k, rfl, hk, HD, HK⟩ := hrel
        clear HK0
        by_cases hlt : k < n
        · have hkl : k < l.length := by rw [HN.out]; exact hlt
          obtain ⟨ad, rfl, hadl, c0⟩ := (HT.out.below HK.out.2).one (iC_at hkl)
          have hab : (ad.add k).block < wr.heap.size := by rw [add_block]; exact hadl
          have j2 : (k : Int) < (n : Int) := by omega
          obtain ⟨r1, r2⟩ := HRh.out l[k] (List.getElem_mem hkl)
          have hkey : Hid (keyOf Try.prog 3 (.int .i64 l[k]) = some (.int .i64 l[k])) := keyOf_int_mk Try.underlying3 (WalkArith.wf_i64 (by omega))
          have HS := Lib.hid (nodup_snoc hkl)
          have HE := Lib.hid (show l.take (k + 1) = l.take k ++ [l[k]] from List.take_succ_eq_append_getElem hkl)
          by_cases hx : l[k] ∈ l.take k
          · have HA := Lib.hid (show (setD (l.take k)).atKey (.int .i64 l[k]) (.lit (.bool false)) = .lit (.bool true) by rw [setD_at, decide_eq_true hx])
            have HF := Lib.hid (show (43 : Int) = x by rw [← HX.out, if_neg]; intro hh; exact ((HS.out).1 (nodup_take hh _)).2 hx)
            generalize l[k] = v at c0 hkey HA
            clear hx hadl hkl HS HE r1 r2
            go_wp2_with (first
              | (at_lookup; refine wpList_lookup_own_bool _ rfl _ _ 62 rfl 3 4 kint Try.underlying62 Try.underlying4 (zbool _) w.heap.size k _ rfl HK.out.1 _ _ rfl hkey true HA.out ?_)
              | go_in)
            go_ret
            exact ⟨ret_int' HF.out, HK.out.2⟩
          · have HA := Lib.hid (show (setD (l.take k)).atKey (.int .i64 l[k]) (.lit (.bool false)) = .lit (.bool false) by rw [setD_at, decide_eq_false hx])
            have HD' := Lib.hid ((HS.out).2 ⟨HD.out, hx⟩)
            generalize l[k] = v at c0 hkey HA HE
            clear hx hadl hkl HS r1 r2
            go_wp2_with (first
              | (at_lookup; refine wpList_lookup_own_bool _ rfl _ _ 62 rfl 3 4 kint Try.underlying62 Try.underlying4 (zbool _) w.heap.size k _ rfl HK.out.1 _ _ rfl hkey false HA.out ?_)
              | (at_mapUpdate; refine wpList_mapUpdate_own _ rfl _ _ _ 62 rfl 3 4 kint Try.underlying62 _ w.heap.size k _ rfl HK.out.1 (by unfold maxLen; omega) _ _ _ rfl rfl hkey _ [] (plainElem_bool Try.underlying4 true) ?_; intro w1 hown1 hgrow1; have HM := Lib.hid (show SM w l (k + 1) w1 from ⟨by rw [HE.out, setD_snoc]; exact hown1, HK.out.2.grown hgrow1 HK.out.2.size (fun j hj => (by cases hj; exact Nat.le_refl _))⟩); clear hown1 hgrow1)
              | go_in)
            go_roundw
            case rel => exact ⟨k + 1, by go_num, by omega, HD', HM⟩
            case measure => simp [intOf]; omega
        · obtain rfl : n = k := by omega
          have HF := Lib.hid (show (0 : Int) = x by rw [← HX.out, if_pos]; have := HD.out; rwa [List.take_of_length_le (by rw [HN.out]; exact Nat.le_refl _)] at this)
          go_wp2
          go_ret
          exact ⟨ret_int' HF.out, HK.out.2⟩
  exact main j rfl
theorem src_any (A : Option Addr) (c n : Nat) (l : List Int) (j : Bool) (w : World) (hn : l.length = n) (ht : Lies w A (iC l)) (x : Int) (hx : srcF l j = x) :
    Calls Try.prog 18 #[.slice A n c, .bool j] w fun e w' => e = .returned (.int .i64 x) ∧ Below w.heap.size w w' := by
  unfold srcF at hx
  rw [hn] at hx
  by_cases h4 : 4 < n
  · rw [if_pos h4] at hx
    subst hx
    clear ht hn
    have h4i : (4 : Int) < n := by omega
    go_enter Try.func18, Try.ntmps18
    go_wp2
    go_ret
    exact ⟨rfl, Below.refl _ _⟩
  rw [if_neg h4] at hx
  by_cases h0 : n = 0
  · rw [if_pos h0] at hx
    subst hx h0
    clear ht hn h4
    go_enter Try.func18, Try.ntmps18
    go_wp2
    go_ret
    exact ⟨rfl, Below.refl _ _⟩
  rw [if_neg h0] at hx
  have hnz : (n == 0) = false := by simpa using h0
  have hni : ((n : Int) == 0) = false := by simpa using h0
  by_cases h2 : j = true ∧ n ≠ 2
  · rw [if_pos h2] at hx
    obtain ⟨rfl, h2⟩ := h2
    subst hx
    have hB1 : ((n : Int) != 2) = true := by rw [bne_iff_ne]; omega
    have hB2 : ((n : Int) == 2) = false := by rw [beq_eq_false_iff_ne]; omega
    have h5 : ¬ (4 < n) := by omega
    clear ht hn h4 h0 h2
    go_enter Try.func18, Try.ntmps18
    go_wp2
    go_ret
    exact ⟨rfl, Below.refl _ _⟩
  rw [if_neg h2] at hx
  cases hal : l.any nl
  · rw [hal, if_neg (by simp)] at hx
    exact src_loop A c n l j w hn (by omega) h0 ht (fun hj => Decidable.byContradiction fun hh => h2 ⟨hj, hh⟩) hal x hx
  · rw [hal, if_pos rfl] at hx
    subst hx
    have HC := Lib.hid (cont_any A c n l w hn (by unfold maxLen; omega) ht true hal)
    have hB : j = true → ((n : Int) != 2) = false ∧ ((n : Int) == 2) = true := fun h => by rw [show n = 2 from Decidable.byContradiction fun hh => h2 ⟨h, hh⟩]; exact ⟨rfl, rfl⟩
    have h5 : ¬ (4 < n) := by omega
    clear ht hn h4 h0 h2 hal
    cases j
    · clear hB
      go_enter Try.func18, Try.ntmps18
      go_wp2_with (go_at_call 35; refine HC.out.mono ?_; rintro e w1 ⟨rfl, rfl⟩)
      go_ret
      exact ⟨rfl, Below.refl _ _⟩
    · obtain ⟨hB1, hB2⟩ := hB rfl
      clear hB
      go_enter Try.func18, Try.ntmps18
      go_wp2_with (go_at_call 35; refine HC.out.mono ?_; rintro e w1 ⟨rfl, rfl⟩)
      go_ret
      exact ⟨rfl, Below.refl _ _⟩
end Go.Proofs.Ytaijhkfbfkdepaa.Q8
