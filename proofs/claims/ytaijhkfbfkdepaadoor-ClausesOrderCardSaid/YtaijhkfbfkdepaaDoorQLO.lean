/- ClausesOrder walks to true. -/
import Derived.Test.YtaijhkfbfkdepaaDoorQTab
import Derived.Test.YtaijhkfbfkdepaaDoorQSame3
import Derived.Test.YtaijhkfbfkdepaaDoorQOpen
namespace Go.Proofs.YtaijhkfbfkdepaaDoor.Q8
open Go.ChangeShapes Go.WideShapes Go.ChangeAt Go.RowKit N4
set_option linter.unusedVariables false
set_option linter.unusedSimpArgs false
set_option maxRecDepth 100000

theorem srcF_perm {l m : List Int} (h : l.Perm m) (j : Bool) : srcF l j = srcF m j := by
  have h1 := h.length_eq
  have h2 : l.any nl = m.any nl := by
    rw [Bool.eq_iff_iff, List.any_eq_true, List.any_eq_true]
    exact ⟨fun ⟨x, hx, e⟩ => ⟨x, h.mem_iff.1 hx, e⟩, fun ⟨x, hx, e⟩ => ⟨x, h.mem_iff.2 hx, e⟩⟩
  unfold srcF
  rw [h1, h2]
  have h3 : l.Nodup ↔ m.Nodup := h.nodup_iff
  by_cases hn : m.Nodup
  · simp only [if_pos hn, if_pos (h3.2 hn)]
  · simp only [if_neg hn, if_neg (fun hh => hn (h3.1 hh))]
theorem turned_perm (l : List Int) (k : Nat) : (l.drop k ++ l.take k).Perm l := by
  have := List.perm_append_comm (l₁ := l.drop k) (l₂ := l.take k)
  rwa [List.take_append_drop] at this
section
variable {P : Program} {ops : Array Oper} {Q : Exit → Act → World → Prop} {md : Region.Mode} {S : World → Prop}
theorem take_yes {i d : Nat} {oi : Oper} {v : Value} {fuel : Nat} {listed : Array Bool} {a : Act} {w : World} (hi : ops[i]? = some oi) (hd : oi.dst = some d)
    (hs : Region.noSelect ops = true) (hf : Region.free md ops listed i = true) (hr : (Region.ready md ops listed).contains i = true)
    (hQ : ∀ c a w, Q (.panic c) (a.put (some d) v) w → Q (.panic c) a w) (hw : Region.wanted oi (yielded ops a.tmps) = true) (hv : ∀ w, S w → (execOp a.eval oi).run P w = .ok (.value v) w) (hS : S w)
    (h : wpAnyH P md ops Q S fuel (listed.setIfInBounds i true) (a.put (some d) v) w) : wpAnyH P md ops Q S (fuel + 1) listed a w :=
  wpAnyH_take hi hs hf hr (by rw [hd]; exact hQ) (Or.inl ⟨hw, hv⟩) hS (by rw [hd]; exact h)
/-- An append onto an own slice at a step of a region; the source nil, empty or not. -/
theorem step_append1 {o : Oper} {a : Act} {w : World} {K : Act → World → Prop} {E : Prop} (hgd : o.guard = none) (s x : Operand) (t : TypeId)
    (ho : o.op = .call { callee := .builtin .append, args := #[s, x], argTypes := #[t, t] })
    (base : Nat) (e : TypeId) (i : TypeInfo) (z : Value) (size bytes : Nat) (ht : P.underlying t = some (.slice e)) (hi : P.info? e = some i) (hz : i.zero = some z)
    (hsize : i.size = size) (hby : i.bytes = bytes) (hzs : z.cells.size = size) (hsz : 0 < size)
    (g0 n0 k0 : Nat) (xs : List Value) (hs : a.eval s = .slice (some ⟨g0, 0, none⟩) n0 k0) (hown : w.ownsRow base e size (.slice (some ⟨g0, 0, none⟩) n0 k0) n0 xs)
    (A : Option Addr) (m c : Nat) (hA : SlOk A m c) (news : List Value) (hx : a.eval x = .slice A m c) (hl : news.length = m * size) (hlie : Lies w A news) (h1 : ∀ u ∈ news, u.oneCell' = true)
    (h63 : n0 + m ≤ maxLen) (hbytes : (n0 + m) * bytes ≤ 140737488355328) (hbase : base ≤ w.heap.size)
    (h : ∀ g cap w', w'.ownsRow base e size (.slice (some ⟨g, 0, none⟩) (n0 + m) cap) (n0 + m) (xs ++ news) → w.grownBy w' (some g0) → K (a.put o.dst (.slice (some ⟨g, 0, none⟩) (n0 + m) cap)) w') :
    if Region.wanted o (yielded ops a.tmps) = true then Oper.wp P o a w K Q else E := by
  have hw : Region.wanted o (yielded ops a.tmps) = true := by simp [Region.wanted, hgd]
  rw [if_pos hw]
  rcases hA with ⟨rfl, rfl, rfl⟩ | ⟨ad, rfl⟩
  · obtain rfl : news = [] := List.eq_nil_of_length_eq_zero (by rw [hl]; omega)
    have hrun := run_append_owned_none (P := P) (w := w) base t o.type e i size ht hi _ n0 xs hown
    unfold Oper.wp
    simp [execOp, ho, resolve, invoke, builtin, hs, hx, hrun, Result.andThen]
    exact h g0 k0 w (by simpa using hown) ⟨rfl, rfl, rfl, Nat.le_refl _, fun _ _ _ => rfl⟩
  · obtain ⟨v', w', hr, h2, h3, h4, h5⟩ := run_append_own_at (P := P) w base t o.type e i z size bytes ht hi hz hsize hby hzs hsz _ n0 xs hown ad m c news hl (lies_at hlie) h1 h63 hbytes hbase
    unfold Oper.wp execOp
    simp only [ho, resolve, invoke, builtin, Sem.run_bind, Sem.run_pure, Result.andThen_ok, List.map_toArray, List.map_cons, List.map_nil, hs, hx, hr]
    rcases h2.2 with ⟨hv, _⟩ | ⟨g, cap, cur, rfl, _⟩
    · have := (h4.1 hv).1
      cases this
    · exact h g cap w' h2 h3
end
theorem lies_take {w : World} {A : Option Addr} {l : List Int} (h : Lies w A (iC l)) (k : Nat) : Lies w A (iC (l.take k)) := by
  rcases h with h0 | ⟨ad, h1, h2, h3⟩
  · left
    have : l = [] := by simpa [iC] using h0
    subst this; simp [iC]
  · refine .inr ⟨ad, h1, h2, fun j u hu => h3 j u ?_⟩
    have e : iC (l.take k) = (iC l).take k := by simp [iC, List.map_take]
    rw [e, List.getElem?_take] at hu
    split at hu
    · exact hu
    · cases hu
theorem lies_drop {w : World} {ad : Addr} {l : List Int} (h : Lies w (some ad) (iC l)) (k : Nat) : Lies w (some (ad.add k)) (iC (l.drop k)) := by
  rcases h with h0 | ⟨ad', h1, h2, h3⟩
  · left
    have : l = [] := by simpa [iC] using h0
    subst this; simp [iC]
  · injection h1 with h1; subst h1
    refine .inr ⟨_, rfl, by rw [add_block]; exact h2, fun j u hu => ?_⟩
    rw [add_add']
    refine h3 _ _ ?_
    have e : iC (l.drop k) = (iC l).drop k := by simp [iC, List.map_drop]
    rw [e, List.getElem?_drop] at hu
    exact hu
theorem lies_own' {W : World} {base : Nat} {e : TypeId} {size n a ca : Nat} {cs : List Value} (h : W.ownsRow base e size (.slice (some ⟨a, 0, none⟩) n ca) n cs) : Lies W (some ⟨a, 0, none⟩) cs := by
  refine Lies.of_own h (fun h0 => ?_)
  have := h.1
  rw [h0, Nat.zero_mul] at this
  exact List.eq_nil_of_length_eq_zero this
theorem nam_size {q : Nat} (h : q < 4) : (bytesOf (namL[q]'h)).size = 1 := by
  have : q = 0 ∨ q = 1 ∨ q = 2 ∨ q = 3 := by omega
  rcases this with rfl | rfl | rfl | rfl <;> rfl
set_option maxHeartbeats 4000000 in
theorem lo_m (ad : Addr) (n c k : Nat) (l : List Int) (j : Bool) (w : World) (hT : NamT w) (hn : l.length = n) (hnc : n ≤ c) (h4 : n ≤ 4) (hk : k ≤ n) (hkc : k < c) (ht : Lies w (some ad) (iC l)) (x : Int) (hx : srcF l j = x) :
    Calls Tryd.prog 5 #[.slice (some ad) n c, .bool j, .int .i64 k] w fun e w' => e = .returned (.bool true) ∧ Below w.heap.size w w' := by
  obtain ⟨i1, hj, hy0, hy1, hy2⟩ := info_parts int_info
  have i1' : ¬ ((4 : Int) < n) := by omega
  have i2 : ¬ ((k : Int) < 0) := by omega
  have i3 : ¬ ((n : Int) < k) := by omega
  have i4 : (0 : Int) ≤ k := by omega
  have i5 : (k : Int) ≤ n := by omega
  have i6 : (k : Int) ≤ c := by omega
  have i7 : ((k : Int)).toNat = k := by omega
  have i9 : (n : Int) ≤ c := by omega
  have i8 : ¬ (c = k) := by omega
  have HS := Lib.hid ((Bl.start w).step (bd_drewN w 1))
  have HTw := Lib.hid hT
  have HL1 := Lib.hid (show (iC (l.drop k)).length = (n - k) * 1 by simp [iC, hn])
  have HL2 := Lib.hid (show (iC (l.take k)).length = (k) * 1 by simp [iC, hn] <;> omega)
  have HR1 := Lib.hid (fun W (hb : Bl w W) => show Lies W (some (ad.add k)) (iC (l.drop k)) from lies_drop (hb.lies ht) k)
  have HR2 := Lib.hid (fun W (hb : Bl w W) => show Lies W (some ad) (iC (l.take k)) from lies_take (hb.lies ht) _)
  have HO := Lib.hid (fun W (hb : Bl w W) => src_any (some ad) c n l j W hn (hb.lies ht) x hx)
  have HO2 := Lib.hid (fun B cb W hl => src_any B cb (n) (l.drop k ++ l.take k) j W (by rw [List.length_append, List.length_drop, List.length_take, hn]; omega) hl x ((srcF_perm (turned_perm l k) j).trans hx))
  clear ht hx hT hn
  go_enter Tryd.func5, Tryd.ntmps5
  go_upto_region 3 with fail
  refine wp_region_held_drew (S := Bl w) (by kernel_rfl) HS.out (fun hHeld => ?_)
  refine take_yes (i := 1) (d := 28) (v := ?v1) rfl rfl (by kernel_rfl) (by kernel_rfl) (by kernel_rfl) (fun _ _ _ h => h) (by rfl) ?y1 (by assumption) ?z1
  case y1 => (intro w' hSw; go_simp; try with_reducible rfl)
  try simp only [Act.put, List.setIfInBounds_toArray, List.set_cons_zero, List.set_cons_succ]
  refine take_yes (i := 2) (d := 29) (v := ?v2) rfl rfl (by kernel_rfl) (by kernel_rfl) (by kernel_rfl) (fun _ _ _ h => h) (by rfl) ?y2 (by assumption) ?z2
  case y2 => (intro w' hSw; go_simp; try with_reducible rfl)
  try simp only [Act.put, List.setIfInBounds_toArray, List.set_cons_zero, List.set_cons_succ]
  refine take_yes (i := 3) (d := 30) (v := ?v3) rfl rfl (by kernel_rfl) (by kernel_rfl) (by kernel_rfl) (fun _ _ _ h => h) (by rfl) ?y3 (by assumption) ?z3
  case y3 => (intro w' hSw; go_simp; try with_reducible rfl)
  try simp only [Act.put, List.setIfInBounds_toArray, List.set_cons_zero, List.set_cons_succ]
  refine take_yes (i := 5) (d := 32) (v := ?v5) rfl rfl (by kernel_rfl) (by kernel_rfl) (by kernel_rfl) (fun _ _ _ h => h) (by rfl) ?y5 (by assumption) ?z5
  case y5 => (intro w' hSw; go_simp; try with_reducible rfl)
  try simp only [Act.put, List.setIfInBounds_toArray, List.set_cons_zero, List.set_cons_succ]
  refine take_yes (i := 6) (d := 33) (v := ?v6) rfl rfl (by kernel_rfl) (by kernel_rfl) (by kernel_rfl) (fun _ _ _ h => h) (by rfl) ?y6 (by assumption) ?z6
  case y6 => (intro w' hSw; go_simp; try with_reducible rfl)
  try simp only [Act.put, List.setIfInBounds_toArray, List.set_cons_zero, List.set_cons_succ]
  refine take_yes (i := 7) (d := 34) (v := ?v7) rfl rfl (by kernel_rfl) (by kernel_rfl) (by kernel_rfl) (fun _ _ _ h => h) (by rfl) ?y7 (by assumption) ?z7
  case y7 => (intro w' hSw; go_simp; try with_reducible rfl)
  try simp only [Act.put, List.setIfInBounds_toArray, List.set_cons_zero, List.set_cons_succ]
  refine wpAnyH_ready (rs := [0]) (by kernel_rfl) (by simp) ?_
  refine AllReadyH.cons rfl (fun K hK => ?_) AllReadyH.nil
  go_simp
  have HW0 := Lib.hid (own_lit1 w.drew w.heap.size w.heap.size 3 1 rfl (Nat.le_refl _))
  refine hK.out _ _ (hHeld.al _) (fun hS1 => ?_)
  clear hK K
  try simp only [Act.put, List.setIfInBounds_toArray, List.set_cons_zero, List.set_cons_succ]
  refine wpAnyH_ready (rs := [4]) (by kernel_rfl) (by simp) ?_
  refine AllReadyH.cons rfl (fun K hK => ?_) AllReadyH.nil
  refine step_append1 rfl (.tmp 27) (.tmp 30) 29 rfl w.heap.size 3 i1 _ 1 8 Tryd.underlying29 hj hy0 hy1 hy2 rfl (by decide) _ _ _ _ rfl HW0.out (some (ad.add k)) (n - k) (c - k) (by first | exact .inr ⟨_, rfl⟩ | exact .inl ⟨rfl, rfl, rfl⟩) (iC (l.drop k)) rfl HL1.out (HR1.out _ hS1) (iC_one _) (by unfold maxLen; omega) (by omega) (by have := Bl.size hS1; omega) ?_
  intro ga ca w2 ho1 hg1
  have hga := (ho1.lt ga rfl).1
  have hS2 : Bl w w2 := Below.grown hS1 hg1 hS1.size (fun j hj => (by injection hj with hj; subst hj; exact Nat.le_refl _))
  clear hg1 HW0
  refine hK.out _ _ hS2 (fun hS2' => ?_)
  clear hK K
  try simp only [Act.put, List.setIfInBounds_toArray, List.set_cons_zero, List.set_cons_succ]
  refine wpAnyH_ready (rs := [8]) (by kernel_rfl) (by simp) ?_
  refine AllReadyH.cons rfl (fun K hK => ?_) AllReadyH.nil
  refine step_append1 rfl (.tmp 31) (.tmp 34) 29 rfl w.heap.size 3 i1 _ 1 8 Tryd.underlying29 hj hy0 hy1 hy2 rfl (by decide) _ _ _ _ rfl ho1 (some ad) (k) (c) (by first | exact .inr ⟨_, rfl⟩ | exact .inl ⟨rfl, rfl, rfl⟩) (iC (l.take k)) rfl HL2.out (HR2.out _ hS2) (iC_one _) (by unfold maxLen; omega) (by omega) (by have := Bl.size hS2; omega) ?_
  intro gb cb w3 ho2 hg2
  have hgb := (ho2.lt gb rfl).1
  have HB3 := Lib.hid (show Bl w w3 from Below.grown hS2 hg2 hS2.size (fun j hj => (by injection hj with hj; subst hj; exact hga)))
  have HL3 := Lib.hid (show Lies w3 (some ⟨gb, 0, none⟩) (iC (l.drop k ++ l.take k)) from by have := lies_own' ho2; simpa [iC] using this)
  clear hg2 ho1 ho2 hga hgb
  refine hK.out _ _ HB3.out (fun hS3 => ?_)
  clear hK K
  try simp only [Act.put, List.setIfInBounds_toArray, List.set_cons_zero, List.set_cons_succ]
  refine wpAnyH_ready (rs := [9]) (by kernel_rfl) (by simp) ?_
  refine AllReadyH.cons rfl (fun K hK => ?_) AllReadyH.nil
  go_simp
  refine hK.out _ _ hS3 (fun hS4 => ?_)
  clear hK K
  try simp only [Act.put, List.setIfInBounds_toArray, List.set_cons_zero, List.set_cons_succ]
  refine wpAnyH_done (by kernel_rfl) ?_ _
  go_wp2_with (first
    | (go_at_call 8; ((with_reducible refine (HO.out _ hS4).mono ?_); rintro e w4 ⟨rfl, hb⟩; have HL4 := Lib.hid (HL3.out.below hb); have b4 := hS4.step hb; clear hb hHeld hS1 hS2 hS2' hS3 hS4))
    | (go_at_call 8; ((with_reducible refine (HO2.out _ _ _ HL4.out).mono ?_); rintro e w5 ⟨rfl, hb⟩; have b5 := Lib.hid (b4.step hb); clear hb b4)))
  have HT5 := Lib.hid (HTw.out.stays b5.out)
  go_loop [8] (fun i => ∃ k : Nat, k ≤ 4 ∧ i = .int .i64 k) (fun i => 4 - (intOf i).toNat)
  case atStart => exact ⟨0, Nat.zero_le _, rfl⟩
  case round =>
    obtain ⟨q, hq, rfl⟩ := hrel
    by_cases hlt : q < 4
    · have HN := Lib.hid (show Calls Tryd.prog 12 #[.int .i64 (q : Int)] w5 fun e w' => e = .returned (.tuple #[.string (bytesOf (namL[q]'hlt)), .int .i64 0]) ∧ w5 = w' by
        have := name_any (q : Int) w5 HT5.out
        rwa [(nmF_at hlt).1, (nmF_at hlt).2] at this)
      have HC := Lib.hid (show Calls Tryd.prog 13 #[.string (bytesOf (namL[q]'hlt))] w5 fun e w' => e = .returned (.tuple #[.int .i64 (q : Int), .int .i64 0]) ∧ w5 = w' by
        have := source_any (bytesOf (namL[q]'hlt)) w5 HT5.out
        have hd : (bytesOf (namL[q]'hlt)).data.toList = namL[q]'hlt := by simp [bytesOf]
        rw [hd] at this
        rwa [(so_hit hlt rfl).1, (so_hit hlt rfl).2] at this)
      have hz : (bytesOf (namL[q]'hlt)).size = 1 := nam_size hlt
      generalize bytesOf (namL[q]'hlt) = z at HN HC hz
      go_wp2_with (first
        | (go_at_call 12; (with_reducible refine HN.out.mono ?_); rintro e w6 ⟨rfl, rfl⟩)
        | (go_at_call 13; (with_reducible refine HC.out.mono ?_); rintro e w6 ⟨rfl, rfl⟩))
      go_round
      case rel => exact ⟨q + 1, by omega, by go_num⟩
      case measure => simp [intOf]; omega
    · obtain rfl : q = 4 := by omega
      go_wp2_with (go_at_call 14; refine (alive_any _).mono ?_; rintro e w7 ⟨rfl, hb⟩)
      go_ret
      exact ⟨rfl, b5.out.step hb⟩
set_option maxHeartbeats 4000000 in
theorem lo_e (ad : Addr) (n : Nat) (l : List Int) (j : Bool) (w : World) (hT : NamT w) (hn : l.length = n) (h4 : n ≤ 4) (ht : Lies w (some ad) (iC l)) (x : Int) (hx : srcF l j = x) :
    Calls Tryd.prog 5 #[.slice (some ad) n n, .bool j, .int .i64 n] w fun e w' => e = .returned (.bool true) ∧ Below w.heap.size w w' := by
  obtain ⟨i1, hj, hy0, hy1, hy2⟩ := info_parts int_info
  have i1' : ¬ ((4 : Int) < n) := by omega
  have i2 : ¬ ((n : Int) < 0) := by omega
  have i3 : ¬ ((n : Int) < n) := by omega
  have i4 : (0 : Int) ≤ n := by omega
  have i5 : (n : Int) ≤ n := by omega
  have i6 : (n : Int) ≤ n := by omega
  have i7 : ((n : Int)).toNat = n := by omega
  have i9 : (n : Int) ≤ n := by omega
  have HS := Lib.hid ((Bl.start w).step (bd_drewN w 1))
  have HTw := Lib.hid hT
  have HL1 := Lib.hid (show (iC (l.drop n)).length = (0) * 1 by simp [iC, hn])
  have HL2 := Lib.hid (show (iC (l.take n)).length = (n) * 1 by simp [iC, hn] <;> omega)
  have HR1 := Lib.hid (fun W (hb : Bl w W) => show Lies W (some ad) (iC (l.drop n)) from by rw [List.drop_of_length_le (by omega)]; exact .inl rfl)
  have HR2 := Lib.hid (fun W (hb : Bl w W) => show Lies W (some ad) (iC (l.take n)) from lies_take (hb.lies ht) _)
  have HO := Lib.hid (fun W (hb : Bl w W) => src_any (some ad) n n l j W hn (hb.lies ht) x hx)
  have HO2 := Lib.hid (fun B cb W hl => src_any B cb (n) (l.drop n ++ l.take n) j W (by rw [List.length_append, List.length_drop, List.length_take, hn]; omega) hl x ((srcF_perm (turned_perm l n) j).trans hx))
  clear ht hx hT hn
  go_enter Tryd.func5, Tryd.ntmps5
  go_upto_region 3 with fail
  refine wp_region_held_drew (S := Bl w) (by kernel_rfl) HS.out (fun hHeld => ?_)
  refine take_yes (i := 1) (d := 28) (v := ?v1) rfl rfl (by kernel_rfl) (by kernel_rfl) (by kernel_rfl) (fun _ _ _ h => h) (by rfl) ?y1 (by assumption) ?z1
  case y1 => (intro w' hSw; go_simp; try with_reducible rfl)
  try simp only [Act.put, List.setIfInBounds_toArray, List.set_cons_zero, List.set_cons_succ]
  refine take_yes (i := 2) (d := 29) (v := ?v2) rfl rfl (by kernel_rfl) (by kernel_rfl) (by kernel_rfl) (fun _ _ _ h => h) (by rfl) ?y2 (by assumption) ?z2
  case y2 => (intro w' hSw; go_simp; try with_reducible rfl)
  try simp only [Act.put, List.setIfInBounds_toArray, List.set_cons_zero, List.set_cons_succ]
  refine take_yes (i := 3) (d := 30) (v := ?v3) rfl rfl (by kernel_rfl) (by kernel_rfl) (by kernel_rfl) (fun _ _ _ h => h) (by rfl) ?y3 (by assumption) ?z3
  case y3 => (intro w' hSw; go_simp; try with_reducible rfl)
  try simp only [Act.put, List.setIfInBounds_toArray, List.set_cons_zero, List.set_cons_succ]
  refine take_yes (i := 5) (d := 32) (v := ?v5) rfl rfl (by kernel_rfl) (by kernel_rfl) (by kernel_rfl) (fun _ _ _ h => h) (by rfl) ?y5 (by assumption) ?z5
  case y5 => (intro w' hSw; go_simp; try with_reducible rfl)
  try simp only [Act.put, List.setIfInBounds_toArray, List.set_cons_zero, List.set_cons_succ]
  refine take_yes (i := 6) (d := 33) (v := ?v6) rfl rfl (by kernel_rfl) (by kernel_rfl) (by kernel_rfl) (fun _ _ _ h => h) (by rfl) ?y6 (by assumption) ?z6
  case y6 => (intro w' hSw; go_simp; try with_reducible rfl)
  try simp only [Act.put, List.setIfInBounds_toArray, List.set_cons_zero, List.set_cons_succ]
  refine take_yes (i := 7) (d := 34) (v := ?v7) rfl rfl (by kernel_rfl) (by kernel_rfl) (by kernel_rfl) (fun _ _ _ h => h) (by rfl) ?y7 (by assumption) ?z7
  case y7 => (intro w' hSw; go_simp; try with_reducible rfl)
  try simp only [Act.put, List.setIfInBounds_toArray, List.set_cons_zero, List.set_cons_succ]
  refine wpAnyH_ready (rs := [0]) (by kernel_rfl) (by simp) ?_
  refine AllReadyH.cons rfl (fun K hK => ?_) AllReadyH.nil
  go_simp
  have HW0 := Lib.hid (own_lit1 w.drew w.heap.size w.heap.size 3 1 rfl (Nat.le_refl _))
  refine hK.out _ _ (hHeld.al _) (fun hS1 => ?_)
  clear hK K
  try simp only [Act.put, List.setIfInBounds_toArray, List.set_cons_zero, List.set_cons_succ]
  refine wpAnyH_ready (rs := [4]) (by kernel_rfl) (by simp) ?_
  refine AllReadyH.cons rfl (fun K hK => ?_) AllReadyH.nil
  refine step_append1 rfl (.tmp 27) (.tmp 30) 29 rfl w.heap.size 3 i1 _ 1 8 Tryd.underlying29 hj hy0 hy1 hy2 rfl (by decide) _ _ _ _ rfl HW0.out (some ad) (0) (0) (by first | exact .inr ⟨_, rfl⟩ | exact .inl ⟨rfl, rfl, rfl⟩) (iC (l.drop n)) rfl HL1.out (HR1.out _ hS1) (iC_one _) (by unfold maxLen; omega) (by omega) (by have := Bl.size hS1; omega) ?_
  intro ga ca w2 ho1 hg1
  have hga := (ho1.lt ga rfl).1
  have hS2 : Bl w w2 := Below.grown hS1 hg1 hS1.size (fun j hj => (by injection hj with hj; subst hj; exact Nat.le_refl _))
  clear hg1 HW0
  refine hK.out _ _ hS2 (fun hS2' => ?_)
  clear hK K
  try simp only [Act.put, List.setIfInBounds_toArray, List.set_cons_zero, List.set_cons_succ]
  refine wpAnyH_ready (rs := [8]) (by kernel_rfl) (by simp) ?_
  refine AllReadyH.cons rfl (fun K hK => ?_) AllReadyH.nil
  refine step_append1 rfl (.tmp 31) (.tmp 34) 29 rfl w.heap.size 3 i1 _ 1 8 Tryd.underlying29 hj hy0 hy1 hy2 rfl (by decide) _ _ _ _ rfl ho1 (some ad) (n) (n) (by first | exact .inr ⟨_, rfl⟩ | exact .inl ⟨rfl, rfl, rfl⟩) (iC (l.take n)) rfl HL2.out (HR2.out _ hS2) (iC_one _) (by unfold maxLen; omega) (by omega) (by have := Bl.size hS2; omega) ?_
  intro gb cb w3 ho2 hg2
  have hgb := (ho2.lt gb rfl).1
  have HB3 := Lib.hid (show Bl w w3 from Below.grown hS2 hg2 hS2.size (fun j hj => (by injection hj with hj; subst hj; exact hga)))
  have HL3 := Lib.hid (show Lies w3 (some ⟨gb, 0, none⟩) (iC (l.drop n ++ l.take n)) from by have := lies_own' ho2; simpa [iC] using this)
  clear hg2 ho1 ho2 hga hgb
  refine hK.out _ _ HB3.out (fun hS3 => ?_)
  clear hK K
  try simp only [Act.put, List.setIfInBounds_toArray, List.set_cons_zero, List.set_cons_succ]
  refine wpAnyH_ready (rs := [9]) (by kernel_rfl) (by simp) ?_
  refine AllReadyH.cons rfl (fun K hK => ?_) AllReadyH.nil
  go_simp
  refine hK.out _ _ hS3 (fun hS4 => ?_)
  clear hK K
  try simp only [Act.put, List.setIfInBounds_toArray, List.set_cons_zero, List.set_cons_succ]
  refine wpAnyH_done (by kernel_rfl) ?_ _
  go_wp2_with (first
    | (go_at_call 8; ((with_reducible refine (HO.out _ hS4).mono ?_); rintro e w4 ⟨rfl, hb⟩; have HL4 := Lib.hid (HL3.out.below hb); have b4 := hS4.step hb; clear hb hHeld hS1 hS2 hS2' hS3 hS4))
    | (go_at_call 8; ((with_reducible refine (HO2.out _ _ _ HL4.out).mono ?_); rintro e w5 ⟨rfl, hb⟩; have b5 := Lib.hid (b4.step hb); clear hb b4)))
  have HT5 := Lib.hid (HTw.out.stays b5.out)
  go_loop [8] (fun i => ∃ k : Nat, k ≤ 4 ∧ i = .int .i64 k) (fun i => 4 - (intOf i).toNat)
  case atStart => exact ⟨0, Nat.zero_le _, rfl⟩
  case round =>
    obtain ⟨q, hq, rfl⟩ := hrel
    by_cases hlt : q < 4
    · have HN := Lib.hid (show Calls Tryd.prog 12 #[.int .i64 (q : Int)] w5 fun e w' => e = .returned (.tuple #[.string (bytesOf (namL[q]'hlt)), .int .i64 0]) ∧ w5 = w' by
        have := name_any (q : Int) w5 HT5.out
        rwa [(nmF_at hlt).1, (nmF_at hlt).2] at this)
      have HC := Lib.hid (show Calls Tryd.prog 13 #[.string (bytesOf (namL[q]'hlt))] w5 fun e w' => e = .returned (.tuple #[.int .i64 (q : Int), .int .i64 0]) ∧ w5 = w' by
        have := source_any (bytesOf (namL[q]'hlt)) w5 HT5.out
        have hd : (bytesOf (namL[q]'hlt)).data.toList = namL[q]'hlt := by simp [bytesOf]
        rw [hd] at this
        rwa [(so_hit hlt rfl).1, (so_hit hlt rfl).2] at this)
      have hz : (bytesOf (namL[q]'hlt)).size = 1 := nam_size hlt
      generalize bytesOf (namL[q]'hlt) = z at HN HC hz
      go_wp2_with (first
        | (go_at_call 12; (with_reducible refine HN.out.mono ?_); rintro e w6 ⟨rfl, rfl⟩)
        | (go_at_call 13; (with_reducible refine HC.out.mono ?_); rintro e w6 ⟨rfl, rfl⟩))
      go_round
      case rel => exact ⟨q + 1, by omega, by go_num⟩
      case measure => simp [intOf]; omega
    · obtain rfl : q = 4 := by omega
      go_wp2_with (go_at_call 14; refine (alive_any _).mono ?_; rintro e w7 ⟨rfl, hb⟩)
      go_ret
      exact ⟨rfl, b5.out.step hb⟩
set_option maxHeartbeats 4000000 in
theorem lo_n  (l : List Int) (j : Bool) (w : World) (hT : NamT w) (hn : l.length = 0) (ht : Lies w (none) (iC l)) (x : Int) (hx : srcF l j = x) :
    Calls Tryd.prog 5 #[.slice (none) 0 0, .bool j, .int .i64 0] w fun e w' => e = .returned (.bool true) ∧ Below w.heap.size w w' := by
  obtain ⟨i1, hj, hy0, hy1, hy2⟩ := info_parts int_info
  have HS := Lib.hid ((Bl.start w).step (bd_drewN w 1))
  have HTw := Lib.hid hT
  have HL1 := Lib.hid (show (iC (l.drop 0)).length = (0) * 1 by simp [iC, hn])
  have HL2 := Lib.hid (show (iC (l.take 0)).length = (0) * 1 by simp [iC, hn])
  have HR1 := Lib.hid (fun W (hb : Bl w W) => show Lies W (none) (iC (l.drop 0)) from by rw [List.drop_of_length_le (by omega)]; exact .inl rfl)
  have HR2 := Lib.hid (fun W (hb : Bl w W) => show Lies W (none) (iC (l.take 0)) from lies_take (hb.lies ht) _)
  have HO := Lib.hid (fun W (hb : Bl w W) => src_any (none) 0 0 l j W hn (hb.lies ht) x hx)
  have HO2 := Lib.hid (fun B cb W hl => src_any B cb (0) (l.drop 0 ++ l.take 0) j W (by rw [List.length_append, List.length_drop, List.length_take, hn]; omega) hl x ((srcF_perm (turned_perm l 0) j).trans hx))
  clear ht hx hT hn
  go_enter Tryd.func5, Tryd.ntmps5
  go_upto_region 3 with fail
  refine wp_region_held_drew (S := Bl w) (by kernel_rfl) HS.out (fun hHeld => ?_)
  refine take_yes (i := 1) (d := 28) (v := ?v1) rfl rfl (by kernel_rfl) (by kernel_rfl) (by kernel_rfl) (fun _ _ _ h => h) (by rfl) ?y1 (by assumption) ?z1
  case y1 => (intro w' hSw; go_simp; try with_reducible rfl)
  try simp only [Act.put, List.setIfInBounds_toArray, List.set_cons_zero, List.set_cons_succ]
  refine take_yes (i := 2) (d := 29) (v := ?v2) rfl rfl (by kernel_rfl) (by kernel_rfl) (by kernel_rfl) (fun _ _ _ h => h) (by rfl) ?y2 (by assumption) ?z2
  case y2 => (intro w' hSw; go_simp; try with_reducible rfl)
  try simp only [Act.put, List.setIfInBounds_toArray, List.set_cons_zero, List.set_cons_succ]
  refine take_yes (i := 3) (d := 30) (v := ?v3) rfl rfl (by kernel_rfl) (by kernel_rfl) (by kernel_rfl) (fun _ _ _ h => h) (by rfl) ?y3 (by assumption) ?z3
  case y3 => (intro w' hSw; go_simp; try with_reducible rfl)
  try simp only [Act.put, List.setIfInBounds_toArray, List.set_cons_zero, List.set_cons_succ]
  refine take_yes (i := 5) (d := 32) (v := ?v5) rfl rfl (by kernel_rfl) (by kernel_rfl) (by kernel_rfl) (fun _ _ _ h => h) (by rfl) ?y5 (by assumption) ?z5
  case y5 => (intro w' hSw; go_simp; try with_reducible rfl)
  try simp only [Act.put, List.setIfInBounds_toArray, List.set_cons_zero, List.set_cons_succ]
  refine take_yes (i := 6) (d := 33) (v := ?v6) rfl rfl (by kernel_rfl) (by kernel_rfl) (by kernel_rfl) (fun _ _ _ h => h) (by rfl) ?y6 (by assumption) ?z6
  case y6 => (intro w' hSw; go_simp; try with_reducible rfl)
  try simp only [Act.put, List.setIfInBounds_toArray, List.set_cons_zero, List.set_cons_succ]
  refine take_yes (i := 7) (d := 34) (v := ?v7) rfl rfl (by kernel_rfl) (by kernel_rfl) (by kernel_rfl) (fun _ _ _ h => h) (by rfl) ?y7 (by assumption) ?z7
  case y7 => (intro w' hSw; go_simp; try with_reducible rfl)
  try simp only [Act.put, List.setIfInBounds_toArray, List.set_cons_zero, List.set_cons_succ]
  refine wpAnyH_ready (rs := [0]) (by kernel_rfl) (by simp) ?_
  refine AllReadyH.cons rfl (fun K hK => ?_) AllReadyH.nil
  go_simp
  have HW0 := Lib.hid (own_lit1 w.drew w.heap.size w.heap.size 3 1 rfl (Nat.le_refl _))
  refine hK.out _ _ (hHeld.al _) (fun hS1 => ?_)
  clear hK K
  try simp only [Act.put, List.setIfInBounds_toArray, List.set_cons_zero, List.set_cons_succ]
  refine wpAnyH_ready (rs := [4]) (by kernel_rfl) (by simp) ?_
  refine AllReadyH.cons rfl (fun K hK => ?_) AllReadyH.nil
  refine step_append1 rfl (.tmp 27) (.tmp 30) 29 rfl w.heap.size 3 i1 _ 1 8 Tryd.underlying29 hj hy0 hy1 hy2 rfl (by decide) _ _ _ _ rfl HW0.out (none) (0) (0) (by first | exact .inr ⟨_, rfl⟩ | exact .inl ⟨rfl, rfl, rfl⟩) (iC (l.drop 0)) rfl HL1.out (HR1.out _ hS1) (iC_one _) (by unfold maxLen; omega) (by omega) (by have := Bl.size hS1; omega) ?_
  intro ga ca w2 ho1 hg1
  have hga := (ho1.lt ga rfl).1
  have hS2 : Bl w w2 := Below.grown hS1 hg1 hS1.size (fun j hj => (by injection hj with hj; subst hj; exact Nat.le_refl _))
  clear hg1 HW0
  refine hK.out _ _ hS2 (fun hS2' => ?_)
  clear hK K
  try simp only [Act.put, List.setIfInBounds_toArray, List.set_cons_zero, List.set_cons_succ]
  refine wpAnyH_ready (rs := [8]) (by kernel_rfl) (by simp) ?_
  refine AllReadyH.cons rfl (fun K hK => ?_) AllReadyH.nil
  refine step_append1 rfl (.tmp 31) (.tmp 34) 29 rfl w.heap.size 3 i1 _ 1 8 Tryd.underlying29 hj hy0 hy1 hy2 rfl (by decide) _ _ _ _ rfl ho1 (none) (0) (0) (by first | exact .inr ⟨_, rfl⟩ | exact .inl ⟨rfl, rfl, rfl⟩) (iC (l.take 0)) rfl HL2.out (HR2.out _ hS2) (iC_one _) (by unfold maxLen; omega) (by omega) (by have := Bl.size hS2; omega) ?_
  intro gb cb w3 ho2 hg2
  have hgb := (ho2.lt gb rfl).1
  have HB3 := Lib.hid (show Bl w w3 from Below.grown hS2 hg2 hS2.size (fun j hj => (by injection hj with hj; subst hj; exact hga)))
  have HL3 := Lib.hid (show Lies w3 (some ⟨gb, 0, none⟩) (iC (l.drop 0 ++ l.take 0)) from by have := lies_own' ho2; simpa [iC] using this)
  clear hg2 ho1 ho2 hga hgb
  refine hK.out _ _ HB3.out (fun hS3 => ?_)
  clear hK K
  try simp only [Act.put, List.setIfInBounds_toArray, List.set_cons_zero, List.set_cons_succ]
  refine wpAnyH_ready (rs := [9]) (by kernel_rfl) (by simp) ?_
  refine AllReadyH.cons rfl (fun K hK => ?_) AllReadyH.nil
  go_simp
  refine hK.out _ _ hS3 (fun hS4 => ?_)
  clear hK K
  try simp only [Act.put, List.setIfInBounds_toArray, List.set_cons_zero, List.set_cons_succ]
  refine wpAnyH_done (by kernel_rfl) ?_ _
  go_wp2_with (first
    | (go_at_call 8; ((with_reducible refine (HO.out _ hS4).mono ?_); rintro e w4 ⟨rfl, hb⟩; have HL4 := Lib.hid (HL3.out.below hb); have b4 := hS4.step hb; clear hb hHeld hS1 hS2 hS2' hS3 hS4))
    | (go_at_call 8; ((with_reducible refine (HO2.out _ _ _ HL4.out).mono ?_); rintro e w5 ⟨rfl, hb⟩; have b5 := Lib.hid (b4.step hb); clear hb b4)))
  have HT5 := Lib.hid (HTw.out.stays b5.out)
  go_loop [8] (fun i => ∃ k : Nat, k ≤ 4 ∧ i = .int .i64 k) (fun i => 4 - (intOf i).toNat)
  case atStart => exact ⟨0, Nat.zero_le _, rfl⟩
  case round =>
    obtain ⟨q, hq, rfl⟩ := hrel
    by_cases hlt : q < 4
    · have HN := Lib.hid (show Calls Tryd.prog 12 #[.int .i64 (q : Int)] w5 fun e w' => e = .returned (.tuple #[.string (bytesOf (namL[q]'hlt)), .int .i64 0]) ∧ w5 = w' by
        have := name_any (q : Int) w5 HT5.out
        rwa [(nmF_at hlt).1, (nmF_at hlt).2] at this)
      have HC := Lib.hid (show Calls Tryd.prog 13 #[.string (bytesOf (namL[q]'hlt))] w5 fun e w' => e = .returned (.tuple #[.int .i64 (q : Int), .int .i64 0]) ∧ w5 = w' by
        have := source_any (bytesOf (namL[q]'hlt)) w5 HT5.out
        have hd : (bytesOf (namL[q]'hlt)).data.toList = namL[q]'hlt := by simp [bytesOf]
        rw [hd] at this
        rwa [(so_hit hlt rfl).1, (so_hit hlt rfl).2] at this)
      have hz : (bytesOf (namL[q]'hlt)).size = 1 := nam_size hlt
      generalize bytesOf (namL[q]'hlt) = z at HN HC hz
      go_wp2_with (first
        | (go_at_call 12; (with_reducible refine HN.out.mono ?_); rintro e w6 ⟨rfl, rfl⟩)
        | (go_at_call 13; (with_reducible refine HC.out.mono ?_); rintro e w6 ⟨rfl, rfl⟩))
      go_round
      case rel => exact ⟨q + 1, by omega, by go_num⟩
      case measure => simp [intOf]; omega
    · obtain rfl : q = 4 := by omega
      go_wp2_with (go_at_call 14; refine (alive_any _).mono ?_; rintro e w7 ⟨rfl, hb⟩)
      go_ret
      exact ⟨rfl, b5.out.step hb⟩
end Go.Proofs.YtaijhkfbfkdepaaDoor.Q8
