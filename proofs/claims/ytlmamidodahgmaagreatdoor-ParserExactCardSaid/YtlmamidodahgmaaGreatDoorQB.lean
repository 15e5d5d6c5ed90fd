/- Merged: QReg, QChk, QBox, QChk2. -/
import Derived.OrdersHeld
import Derived.Deep.RegionHeld
import Derived.Test.YtlmamidodahgmaaGreatDoorQA
import Derived.Test.YtlmamidodahgmaaGreatDoorNA
import Derived.Deep.RegionHeld3
import Derived.Outline
import Derived.Tactics2
import Derived.Deep.DeepCutAuto
import Derived.Deep.CutBlock
/- QReg: A region that draws its order, whose first operations each leave one value in every world that meets S, and S behind them (calls among them): one order stands for all. No program is imported. -/
namespace Go.Proofs.YtlmamidodahgmaaGreatDoor.Q8
set_option linter.unusedVariables false
set_option linter.unusedSimpArgs false

section
variable {P : Program} {ops : Array Oper} {Q : Exit → Act → World → Prop} {md : Region.Mode} {S : World → Prop}

/-- In every world that meets S the operation leaves v, and S holds behind it. -/
def Det (P : Program) (ops : Array Oper) (S : World → Prop) (o : Oper) (v : Value) (a : Act) : Prop :=
  (Region.wanted o (yielded ops a.tmps) = true ∧ ∀ w, S w → (execOp a.eval o).run P w = .ok (.value v) w ∨ ∃ f args, (execOp a.eval o).run P w = .ok (.enter f args) w ∧ Calls P f args w fun e w' => e = .returned v ∧ S w') ∨
  (Region.wanted o (yielded ops a.tmps) = false ∧ v = undef)
theorem Det.wpOp {i : Nat} {o : Oper} {v : Value} {a : Act} {w : World} {K : Act → World → Prop} (hi : ops[i]? = some o) (hd : Det P ops S o v a) (hS : S w) (h : ∀ w', S w' → K (a.put o.dst v) w') : wpOp P ops Q i K a w := by
  unfold Go.wpOp
  simp only [hi]
  rcases hd with ⟨hw, hv⟩ | ⟨hw, rfl⟩
  · simp only [hw, if_true]
    left
    unfold Oper.wp
    rcases hv w hS with e | ⟨f, args, e, hc⟩
    · rw [e]; exact h w hS
    · rw [e]
      exact hc.mono (fun e w' he => by obtain ⟨rfl, hs⟩ := he; exact h w' hs)
  · simp only [hw, Bool.false_eq_true, if_false]; exact h w hS
theorem Det.of_same {o : Oper} {v : Value} {a a' : Act} (hy : Det P ops S o v a) (he : execOp a'.eval o = execOp a.eval o)
    (hw : Region.wanted o (yielded ops a'.tmps) = Region.wanted o (yielded ops a.tmps)) : Det P ops S o v a' := by
  unfold Det at *
  rw [he, hw]
  exact hy
def dstOf (ops : Array Oper) (i : Nat) : Option Tmp := (ops[i]?).bind (·.dst)
def puts (ops : Array Oper) (a : Act) (l : List (Nat × Value)) : Act := l.foldl (fun a p => a.put (dstOf ops p.1) p.2) a
theorem puts_cons (a : Act) (p : Nat × Value) (l : List (Nat × Value)) : puts ops a (p :: l) = puts ops (a.put (dstOf ops p.1) p.2) l := rfl
theorem det_puts {o : Oper} {v : Value} (hs : ∀ cs b, o.op ≠ .select cs b) : ∀ (l : List (Nat × Value)) (a : Act), (∀ p ∈ l, ∀ d, dstOf ops p.1 = some d → d ∉ o.looksAt ops) → (Det P ops S o v (puts ops a l) ↔ Det P ops S o v a) := by
  intro l
  induction l with
  | nil => intro a _; exact Iff.rfl
  | cons p l ih =>
    intro a h
    rw [puts_cons, ih _ (fun q hq => h q (List.mem_cons_of_mem _ hq))]
    have e1 := execOp_put o hs a (dstOf ops p.1) p.2 (h p (List.mem_cons_self ..))
    have e2 := wanted_put o a (dstOf ops p.1) p.2 (h p (List.mem_cons_self ..))
    exact ⟨fun H => H.of_same e1.symm e2.symm, fun H => H.of_same e1 e2⟩
theorem puts_take (i : Nat) (v : Value) : ∀ (l : List (Nat × Value)) (a : Act), (i, v) ∈ l → (l.map (·.1)).Nodup → (∀ p ∈ l, p.1 ≠ i → ∀ d, dstOf ops i = some d → dstOf ops p.1 ≠ some d) →
    puts ops (a.put (dstOf ops i) v) (l.filter fun p => p.1 != i) = puts ops a l ∧ (l.filter fun p => p.1 != i).length + 1 = l.length := by
  intro l
  induction l with
  | nil => intro a h; cases h
  | cons q l ih =>
    intro a h hn hd
    obtain ⟨j, u⟩ := q
    rw [List.map_cons, List.nodup_cons] at hn
    by_cases hj : j = i
    · subst hj
      have hno : ∀ p ∈ l, p.1 ≠ j := fun p hp e => hn.1 (List.mem_map.2 ⟨p, hp, e⟩)
      have hv : u = v := by
        rcases List.mem_cons.1 h with e | hm
        · injection e with _ e; exact e.symm
        · exact absurd rfl (hno _ hm)
      subst hv
      have hf : (((j, u) :: l).filter fun p => p.1 != j) = l := by
        rw [List.filter_cons_of_neg (by simp)]
        exact List.filter_eq_self.2 (fun p hp => by simpa using hno p hp)
      rw [hf]
      exact ⟨rfl, rfl⟩
    · have hm : (i, v) ∈ l := by
        rcases List.mem_cons.1 h with e | hm
        · injection e with e _; exact absurd e.symm hj
        · exact hm
      have hf : (((j, u) :: l).filter fun p => p.1 != i) = (j, u) :: (l.filter fun p => p.1 != i) := List.filter_cons_of_pos (by simpa using hj)
      obtain ⟨h1, h2⟩ := ih (a.put (dstOf ops j) u) hm hn.2 (fun p hp => hd p (List.mem_cons_of_mem _ hp))
      rw [hf, puts_cons, puts_cons]
      refine ⟨?_, by simp only [List.length_cons]; omega⟩
      rw [Act.put_comm a v u (hd (j, u) (List.mem_cons_self ..) hj)]
      exact h1

/-- What an operation waits for. -/
def afters (md : Region.Mode) (ops : Array Oper) (i : Nat) : List Nat := ((ops[i]?).map fun o => (o.after.toList.filter (Region.binds md)).map (·.on)).getD []
def marks (md : Region.Mode) (ops : Array Oper) : List Nat → List Nat → List Nat
  | [], acc => acc
  | i :: r, acc => marks md ops r (if acc.contains i then afters md ops i ++ acc else acc)
def Closed (md : Region.Mode) (ops : Array Oper) (listed : Array Bool) : Prop := ∀ j, listed.getD j false = true → ∀ k ∈ afters md ops j, listed.getD k false = true
theorem marks_listed {listed : Array Bool} (hc : Closed md ops listed) : ∀ (l acc : List Nat), (∀ x ∈ acc, listed.getD x false = true) → ∀ x ∈ marks md ops l acc, listed.getD x false = true := by
  intro l
  induction l with
  | nil => intro acc h; exact h
  | cons i r ih =>
    intro acc h
    rw [marks]
    refine ih _ ?_
    split
    · rename_i hi
      intro x hx
      rcases List.mem_append.1 hx with hx | hx
      · exact hc i (h i (by simpa using hi)) x hx
      · exact h x hx
    · exact h
theorem ready_afters {i : Nat} {listed : Array Bool} (h : i ∈ Region.ready md ops listed) : ∀ k ∈ afters md ops i, listed.getD k false = true := by
  obtain ⟨_, o, ho, ha⟩ := mem_ready.1 h
  intro k hk
  unfold afters at hk
  rw [ho] at hk
  simp only [Option.map_some, Option.getD_some, List.mem_map, List.mem_filter, Array.mem_toList_iff] at hk
  obtain ⟨e, ⟨he, hb⟩, rfl⟩ := hk
  exact ha e he hb
/-- The check, by program. -/
def sorted : List Nat → Bool
  | [] => true
  | i :: r => r.all (fun k => decide (i < k)) && sorted r
def detOk (md : Region.Mode) (ops : Array Oper) (D : List Nat) : Bool :=
  Region.noSelect ops && sorted D &&
  (D.all fun i => D.all fun k => i == k || match dstOf ops i with | some d => dstOf ops k != some d | none => true) &&
  (D.all fun i => match ops[i]? with
    | none => false
    | some o => (D.all fun k => match dstOf ops k with | none => true | some d => !(o.looksAt ops).contains d || (afters md ops i).contains k) &&
        ((afters md ops i).all fun k => decide (k < i) && D.contains k)) &&
  ((List.range ops.size).all fun k => D.contains k || D.all fun i => (marks md ops (List.range ops.size).reverse (afters md ops k)).contains i)
/-- One order. -/
inductive Plan (P : Program) (ops : Array Oper) (S : World → Prop) : List (Nat × Value) → Act → Act → Prop
  | nil (a : Act) : Plan P ops S [] a a
  | cons {i : Nat} {o : Oper} {v : Value} {D : List (Nat × Value)} {a aF : Act} : ops[i]? = some o → Det P ops S o v a → Plan P ops S D (a.put o.dst v) aF → Plan P ops S ((i, v) :: D) a aF
theorem sorted_pair : ∀ {l : List Nat}, sorted l = true → l.Pairwise (· < ·) := by
  intro l
  induction l with
  | nil => intro _; exact List.Pairwise.nil
  | cons i r ih =>
    intro h
    simp only [sorted, Bool.and_eq_true, List.all_eq_true, decide_eq_true_eq] at h
    exact List.Pairwise.cons h.1 (ih h.2)
theorem plan_puts {D : List (Nat × Value)} {a aF : Act} (h : Plan P ops S D a aF) : puts ops a D = aF := by
  induction h with
  | nil a => rfl
  | cons hi hd _ ih =>
    rw [puts_cons]
    simp only [dstOf, hi, Option.bind_some]
    exact ih
theorem plan_det {D : List (Nat × Value)} {a aF : Act} (h : Plan P ops S D a aF) (hs : ∀ (i : Nat) (o : Oper) cs b, ops[i]? = some o → o.op ≠ .select cs b)
    (hp : (D.map (·.1)).Pairwise (· < ·)) (hl : ∀ i ∈ D.map (·.1), ∀ o, ops[i]? = some o → ∀ k ∈ D.map (·.1), i ≤ k → ∀ d, dstOf ops k = some d → d ∉ o.looksAt ops) :
    ∀ p ∈ D, ∃ o, ops[p.1]? = some o ∧ Det P ops S o p.2 aF := by
  induction h with
  | nil a => intro p hp; cases hp
  | @cons i o v D a aF hi hd hr ih =>
    intro p hpD
    rw [List.map_cons, List.pairwise_cons] at hp
    rcases List.mem_cons.1 hpD with rfl | hm
    · refine ⟨o, hi, ?_⟩
      have he : puts ops a ((i, v) :: D) = aF := by
        rw [puts_cons]
        simp only [dstOf, hi, Option.bind_some]
        exact plan_puts hr
      rw [← he]
      refine (det_puts (fun cs b => hs i o cs b hi) _ _ ?_).2 hd
      intro q hq d hqd
      refine hl i (by simp) o hi q.1 (List.mem_map.2 ⟨q, hq, rfl⟩) ?_ d hqd
      rcases List.mem_cons.1 hq with rfl | hq
      · exact Nat.le_refl _
      · exact Nat.le_of_lt (hp.1 q.1 (List.mem_map.2 ⟨q, hq, rfl⟩))
    · exact ih hp.2 (fun i hi o ho k hk => hl i (by rw [List.map_cons]; exact List.mem_cons_of_mem _ hi) o ho k (by rw [List.map_cons]; exact List.mem_cons_of_mem _ hk)) p hm
def allOf (n : Nat) (D : List Nat) : Array Bool := Array.ofFn (n := n) fun j => D.contains j.val
def remOf (D : List (Nat × Value)) (listed : Array Bool) : List (Nat × Value) := D.filter fun p => !listed.getD p.1 true
theorem det_main {D : List (Nat × Value)} {aF : Act} {r : Nat} (hp : (D.map (·.1)).Pairwise (· < ·)) (hlt : ∀ i ∈ D.map (·.1), i < ops.size) (hs : ∀ (i : Nat) (o : Oper) cs b, ops[i]? = some o → o.op ≠ .select cs b)
    (hdd : ∀ i ∈ D.map (·.1), ∀ k ∈ D.map (·.1), k ≠ i → ∀ d, dstOf ops i = some d → dstOf ops k ≠ some d)
    (hlook : ∀ i ∈ D.map (·.1), ∀ o, ops[i]? = some o → ∀ k ∈ D.map (·.1), ∀ d, dstOf ops k = some d → d ∈ o.looksAt ops → k ∈ afters md ops i)
    (haft : ∀ i ∈ D.map (·.1), ∀ k ∈ afters md ops i, k < i ∧ k ∈ D.map (·.1))
    (hwait : ∀ k, k < ops.size → k ∉ D.map (·.1) → ∀ i ∈ D.map (·.1), i ∈ marks md ops (List.range ops.size).reverse (afters md ops k))
    (hdet : ∀ p ∈ D, ∃ o, ops[p.1]? = some o ∧ Det P ops S o p.2 aF) (h : ∀ w, S w → wpAnyH P md ops Q S r (allOf ops.size (D.map (·.1))) aF w) :
    ∀ (m : Nat) (listed : Array Bool) (a : Act) (w : World), listed.size = ops.size → (remOf D listed).length = m → (∀ j, listed.getD j false = true → j ∈ D.map (·.1)) → puts ops a (remOf D listed) = aF → Closed md ops listed → S w →
      wpAnyH P md ops Q S (m + r) listed a w := by
  have gd : ∀ (listed : Array Bool) (j : Nat), j < listed.size → listed.getD j true = listed.getD j false := fun l j hj => by simp [Array.getD, hj]
  have hnd : (D.map (·.1)).Nodup := hp.imp (fun h => Nat.ne_of_lt h)
  intro m
  induction m with
  | zero =>
    intro listed a w hz hm hin hpu hc hS
    have hnil := List.eq_nil_of_length_eq_zero hm
    rw [hnil] at hpu
    have : listed = allOf ops.size (D.map (·.1)) := by
      refine Array.ext (by simp [allOf, hz]) (fun j h1 h2 => ?_)
      have e : listed[j] = listed.getD j false := by simp [Array.getD, h1]
      simp only [allOf, Array.getElem_ofFn]
      rw [e]
      cases hb : listed.getD j false with
      | true => exact (by simpa using hin j hb : (D.map (·.1)).contains j = true).symm
      | false =>
        symm
        rw [Bool.eq_false_iff]
        intro hcon
        have hj : j ∈ D.map (·.1) := by simpa using hcon
        obtain ⟨p, hpD, rfl⟩ := List.mem_map.1 hj
        have : p ∈ remOf D listed := List.mem_filter.2 ⟨hpD, by rw [gd _ _ h1, hb]; rfl⟩
        rw [hnil] at this
        cases this
    rw [this, show a = aF from hpu, Nat.zero_add]
    exact h w hS
  | succ m ih =>
    intro listed a w hz hm hin hpu hc hS
    have hrp : ((remOf D listed).map (·.1)).Pairwise (· < ·) := hp.sublist ((List.filter_sublist (l := D)).map _)
    have hmem : ∀ i ∈ D.map (·.1), listed.getD i false = false → ∃ v, (i, v) ∈ remOf D listed := fun i hi hf => by
      obtain ⟨⟨j, v⟩, hpD, rfl⟩ := List.mem_map.1 hi
      exact ⟨v, List.mem_filter.2 ⟨hpD, by rw [gd _ _ (by rw [hz]; exact hlt _ hi), hf]; rfl⟩⟩
    have hunl : ∀ p ∈ remOf D listed, p ∈ D ∧ listed.getD p.1 false = false := fun p hpr => by
      obtain ⟨h1, h2⟩ := List.mem_filter.1 hpr
      refine ⟨h1, ?_⟩
      rw [← gd _ _ (by rw [hz]; exact hlt _ (List.mem_map.2 ⟨p, h1, rfl⟩))]
      simpa using h2
    obtain ⟨p, rest, hrem⟩ : ∃ p rest, remOf D listed = p :: rest := by
      cases hh : remOf D listed with
      | nil => rw [hh] at hm; cases hm
      | cons p rest => exact ⟨p, rest, rfl⟩
    have hpm : p ∈ remOf D listed := by rw [hrem]; exact List.mem_cons_self ..
    obtain ⟨hpD, hpf⟩ := hunl p hpm
    have hp1 : p.1 ∈ D.map (·.1) := List.mem_map.2 ⟨p, hpD, rfl⟩
    have hpready : p.1 ∈ Region.ready md ops listed := by
      obtain ⟨o, ho, _⟩ := hdet p hpD
      refine mem_ready.2 ⟨by rw [gd _ _ (by rw [hz]; exact hlt _ hp1)]; exact hpf, o, ho, fun e he hb => ?_⟩
      have hk : e.on ∈ afters md ops p.1 := by
        unfold afters
        rw [ho]
        simp only [Option.map_some, Option.getD_some, List.mem_map, List.mem_filter, Array.mem_toList_iff]
        exact ⟨e, ⟨he, hb⟩, rfl⟩
      obtain ⟨h1, h2⟩ := haft p.1 hp1 e.on hk
      cases hf : listed.getD e.on false with
      | true => rfl
      | false =>
        exfalso
        obtain ⟨v, hv⟩ := hmem e.on h2 hf
        rw [hrem] at hv hrp
        rw [List.map_cons, List.pairwise_cons] at hrp
        rcases List.mem_cons.1 hv with e1 | e1
        · rw [← e1] at h1; exact Nat.lt_irrefl _ h1
        · have := hrp.1 e.on (List.mem_map.2 ⟨_, e1, rfl⟩); omega
    rw [show m + 1 + r = (m + r) + 1 by omega]
    refine ⟨fun h0 => (by rw [h0] at hpready; cases hpready), fun i hi => ?_⟩
    obtain ⟨hiun, oi, hoi, _⟩ := mem_ready.1 hi
    have hilt : i < ops.size := (Array.getElem?_eq_some_iff.1 hoi).1
    have hia := ready_afters hi
    have hiD : i ∈ D.map (·.1) := by
      by_cases hcon : i ∈ D.map (·.1)
      · exact hcon
      · exfalso
        have := marks_listed hc _ _ hia p.1 (hwait i hilt hcon p.1 hp1)
        rw [hpf] at this
        cases this
    obtain ⟨⟨i', v⟩, hvD, hii⟩ := List.mem_map.1 hiD
    simp only at hii
    subst hii
    obtain ⟨o, ho, hd⟩ := hdet _ hvD
    simp only at ho hd
    have hiun' : listed.getD i' false = false := by rw [← gd _ _ (by rw [hz]; exact hilt)]; exact hiun
    have hvr : (i', v) ∈ remOf D listed := List.mem_filter.2 ⟨hvD, by simp only; rw [hiun]; rfl⟩
    rw [← hpu] at hd
    have hd' := (det_puts (fun cs b => hs i' o cs b ho) (remOf D listed) a (fun q hq d hqd hlk => by
      have := hia q.1 (hlook i' hiD o ho q.1 (List.mem_map.2 ⟨q, (hunl q hq).1, rfl⟩) d hqd hlk)
      rw [(hunl q hq).2] at this
      cases this)).1 hd
    have hrnd : ((remOf D listed).map (·.1)).Nodup := hrp.imp (fun h => Nat.ne_of_lt h)
    obtain ⟨t1, t2⟩ := puts_take (ops := ops) i' v (remOf D listed) a hvr hrnd (fun q hq hne d hdd' => hdd i' hiD q.1 (List.mem_map.2 ⟨q, (hunl q hq).1, rfl⟩) hne d hdd')
    have hset : remOf D (listed.setIfInBounds i' true) = (remOf D listed).filter fun p => p.1 != i' := by
      unfold remOf
      rw [List.filter_filter]
      refine List.filter_congr (fun q hq => ?_)
      by_cases hqi : q.1 = i'
      · rw [hqi, gd _ _ (by rw [Array.size_setIfInBounds, hz]; exact hilt)]
        simp [Array.getD, hz, hilt]
      · rw [getD_set_ne true (Ne.symm hqi)]
        simp [hqi]
    have hdst : o.dst = dstOf ops i' := by simp [dstOf, ho]
    refine hd'.wpOp ho hS (fun w' hS' => ⟨hS', ih _ _ w' (by rw [Array.size_setIfInBounds, hz]) (by rw [hset]; omega) ?_ (by rw [hset, hdst, t1, hpu]) ?_ hS'⟩)
    · intro j hj
      by_cases hji : j = i'
      · subst hji; exact hiD
      · refine hin j ?_
        rwa [getD_set_ne false (Ne.symm hji)] at hj
    · intro j hj k hk
      by_cases hji : j = i'
      · subst hji; exact getD_set_true (hia k hk)
      · rw [getD_set_ne false (Ne.symm hji)] at hj
        exact getD_set_true (hc j hj k hk)
/-- One order stands for all: behind the planned operations the rest, from every world that meets S. -/
theorem wpAnyH_det {D : List (Nat × Value)} {a aF : Act} {w : World} (r : Nat) (hp : Plan P ops S D a aF) (hc : detOk md ops (D.map (·.1)) = true) (hr : ops.size = D.length + r) (hS : S w)
    (h : ∀ w, S w → wpAnyH P md ops Q S r (allOf ops.size (D.map (·.1))) aF w) : wpAnyH P md ops Q S ops.size (Array.replicate ops.size false) a w := by
  simp only [detOk, Bool.and_eq_true, List.all_eq_true] at hc
  obtain ⟨⟨⟨⟨c1, c2⟩, c3⟩, c4⟩, c5⟩ := hc
  have hs := Region.noSelect_spec c1
  have hpw := sorted_pair c2
  have hD : ∀ i ∈ D.map (·.1), ∃ o, ops[i]? = some o := fun i hi => by
    have := c4 i hi
    split at this
    · cases this
    · rename_i o ho; exact ⟨o, ho⟩
  have h4 : ∀ i ∈ D.map (·.1), ∀ o, ops[i]? = some o → (∀ k ∈ D.map (·.1), ∀ d, dstOf ops k = some d → d ∈ o.looksAt ops → k ∈ afters md ops i) ∧ ∀ k ∈ afters md ops i, k < i ∧ k ∈ D.map (·.1) := fun i hi o ho => by
    have := c4 i hi
    rw [ho] at this
    simp only [Bool.and_eq_true, List.all_eq_true, decide_eq_true_eq] at this
    refine ⟨fun k hk d hd hl => ?_, fun k hk => ?_⟩
    · have := this.1 k hk
      rw [hd] at this
      simp only [Bool.or_eq_true, Bool.not_eq_true'] at this
      rcases this with h0 | h0
      · have : (o.looksAt ops).contains d = true := by simpa using hl
        rw [h0] at this; cases this
      · simpa using h0
    · have := this.2 k hk
      exact ⟨this.1, by simpa using this.2⟩
  have hdet := plan_det hp hs hpw (fun i hi o ho k hk hik d hd hl => by
    have h1 := (h4 i hi o ho).1 k hk d hd hl
    have := ((h4 i hi o ho).2 k h1).1
    omega)
  have hrem : remOf D (Array.replicate ops.size false) = D := by
    unfold remOf
    refine List.filter_eq_self.2 (fun p hp => ?_)
    obtain ⟨o, ho⟩ := hD p.1 (List.mem_map.2 ⟨p, hp, rfl⟩)
    have := (Array.getElem?_eq_some_iff.1 ho).1
    simp [Array.getD, this]
  have hfls : ∀ j, (Array.replicate ops.size false).getD j false = false := fun j => by
    by_cases hj : j < ops.size <;> simp [Array.getD, hj]
  have := det_main (Q := Q) (r := r) hpw (fun i hi => by obtain ⟨o, ho⟩ := hD i hi; exact (Array.getElem?_eq_some_iff.1 ho).1) hs
    (fun i hi k hk hne d hd hk' => by
      have := c3 i hi k hk
      rw [hd, hk'] at this
      simp only [bne_self_eq_false, Bool.or_false, beq_iff_eq] at this
      exact hne this.symm)
    (fun i hi o ho => (h4 i hi o ho).1) (fun i hi => by obtain ⟨o, ho⟩ := hD i hi; exact (h4 i hi o ho).2)
    (fun k hk hn i hi => by
      have := c5 k (List.mem_range.2 hk)
      simp only [Bool.or_eq_true, List.all_eq_true] at this
      rcases this with h0 | h0
      · exact absurd (by simpa using h0) hn
      · simpa using h0 i hi) hdet h D.length (Array.replicate ops.size false) a w (by simp) (by rw [hrem]) (fun j hj => by rw [hfls] at hj; cases hj) (by rw [hrem]; exact plan_puts hp) (fun j hj => by rw [hfls] at hj; cases hj) hS
  rw [← hr] at this
  exact this
/-- The beginning. -/
theorem wp_region_det {id : Nat} {D : List (Nat × Value)} {a aF : Act} {w : World} (r : Nat) (hm : P.follows .mixedOrders = true) (hp : Plan P ops S D a aF) (hc : detOk .any ops (D.map (·.1)) = true) (hr : ops.size = D.length + r) (hS : S w.drew)
    (h : ∀ w, S w → wpAnyH P .any ops Q S r (allOf ops.size (D.map (·.1))) aF w) : (Code.region id ops true).wp P Q a w :=
  wp_region_held hm (wpAnyH_det r hp hc hr hS h)
/-! ### step by step -/
def Pre (P : Program) (ops : Array Oper) (Q : Exit → Act → World → Prop) (S : World → Prop) (r : Nat) (pre : List Nat) (a : Act) : Prop :=
  ∃ D aF, Plan P ops S D a aF ∧ detOk .any ops (pre ++ D.map (·.1)) = true ∧ ops.size = pre.length + D.length + r ∧ ∀ w, S w → wpAnyH P .any ops Q S r (allOf ops.size (pre ++ D.map (·.1))) aF w
/-- All that is planned has come up: the check, by program, and the rest. -/
theorem Pre.done {r : Nat} {pre : List Nat} {a : Act} (hc : detOk .any ops pre = true) (hr : ops.size = pre.length + r) (h : ∀ w, S w → wpAnyH P .any ops Q S r (allOf ops.size pre) a w) : Pre P ops Q S r pre a :=
  ⟨[], a, .nil a, by simpa using hc, by simpa using hr, by simpa using h⟩
theorem Pre.cons {r i : Nat} {o : Oper} {v : Value} {pre : List Nat} {a : Act} (hi : ops[i]? = some o) (hd : Det P ops S o v a) (h : Pre P ops Q S r (pre ++ [i]) (a.put o.dst v)) : Pre P ops Q S r pre a := by
  obtain ⟨D, aF, h1, h2, h3, h4⟩ := h
  refine ⟨(i, v) :: D, aF, .cons hi hd h1, ?_, ?_, ?_⟩
  · rw [List.append_assoc] at h2; exact h2
  · rw [List.length_append] at h3; simp only [List.length_cons, List.length_nil] at h3 ⊢; omega
  · rw [List.append_assoc] at h4; exact h4
theorem Pre.pure {r i d : Nat} {o : Oper} {v : Value} {pre : List Nat} {a : Act} (hi : ops[i]? = some o) (hd : o.dst = some d) (hw : Region.wanted o (yielded ops a.tmps) = true) (hv : ∀ w, S w → (execOp a.eval o).run P w = .ok (.value v) w)
    (h : Pre P ops Q S r (pre ++ [i]) (a.put (some d) v)) : Pre P ops Q S r pre a := .cons hi (.inl ⟨hw, fun w hS => .inl (hv w hS)⟩) (by rw [hd]; exact h)
theorem Pre.skip {r i d : Nat} {o : Oper} {pre : List Nat} {a : Act} (hi : ops[i]? = some o) (hd : o.dst = some d) (hw : Region.wanted o (yielded ops a.tmps) = false)
    (h : Pre P ops Q S r (pre ++ [i]) (a.put (some d) undef)) : Pre P ops Q S r pre a := .cons hi (.inr ⟨hw, rfl⟩) (by rw [hd]; exact h)
theorem Pre.call {r i d : Nat} {o : Oper} {f : FuncId} {args : Array Value} {v : Value} {pre : List Nat} {a : Act} (hi : ops[i]? = some o) (hd : o.dst = some d) (hw : Region.wanted o (yielded ops a.tmps) = true)
    (he : ∀ w, S w → (execOp a.eval o).run P w = .ok (.enter f args) w) (hc : ∀ w, S w → Calls P f args w fun e w' => e = .returned v ∧ S w')
    (h : Pre P ops Q S r (pre ++ [i]) (a.put (some d) v)) : Pre P ops Q S r pre a := .cons hi (.inl ⟨hw, fun w hS => .inr ⟨_, _, he w hS, hc w hS⟩⟩) (by rw [hd]; exact h)
theorem wp_region_pre {id : Nat} {a : Act} {w : World} (r : Nat) (hm : P.follows .mixedOrders = true) (hS : S w.drew) (h : Pre P ops Q S r [] a) : (Code.region id ops true).wp P Q a w := by
  obtain ⟨D, aF, h1, h2, h3, h4⟩ := h
  exact wp_region_det r hm h1 h2 (by simpa using h3) hS h4
end
end Go.Proofs.YtlmamidodahgmaaGreatDoor.Q8

/- QChk: Contracts of argument, condition, cmp.Or, Check. -/
namespace Go.Proofs.YtlmamidodahgmaaGreatDoor.Q8
open Go.ChangeShapes Go.WideShapes Go.ChangeAt Go.RowKit N4
set_option linter.unusedVariables false
set_option linter.unusedSimpArgs false
set_option maxRecDepth 100000

theorem lies_lit (w : World) (B : Nat) (hB : w.heap.size = B) (cs : Array Value) (t : TypeId) : Lies (w.alloc (.cells cs t)) (some ⟨B, 0, none⟩) cs.toList := by
  subst hB
  refine .inr ⟨_, rfl, by simp, fun j z hz => ?_⟩
  exact World.news_of_block (w := w.alloc (.cells cs t)) (B := w.heap.size) (cs := cs) (t := t) (fr := (0, 0)) (heap_alloc_new w _) j z hz
theorem lies_vals (w : World) (B : Nat) (hB : w.heap.size = B) (cs : Array Value) (t : TypeId) (vs : List Value) (h : cs.toList = vs) : Lies (w.alloc (.cells cs t)) (some ⟨B, 0, none⟩) vs := by
  rw [← h]; exact lies_lit w B hB cs t
theorem or_any (A : Option Addr) (c n : Nat) (vs : List Int) (w : World) (hn : vs.length = n) (hL : n ≤ maxLen) (ht : Lies w A (iC vs)) (x : Int) (hx : firstE vs = x) :
    Calls Tryz.prog 32 #[.slice A n c] w fun e w' => e = .returned (.int .i64 x) ∧ w = w' := by
  have HT := Lib.hid ht
  have HN := Lib.hid hn
  have HX := Lib.hid hx
  unfold maxLen at hL
  clear ht hn hx
  go_enter Tryz.func32, Tryz.ntmps32
  go_wp2
  go_loop [8] (fun i => ∃ k : Nat, i = .int .i64 k ∧ k ≤ n ∧ Hid (∀ v ∈ vs.take k, v = 0)) (fun i => n - (intOf i).toNat)
  case atStart => exact ⟨0, rfl, Nat.zero_le _, by show ∀ v ∈ vs.take 0, v = 0; simp⟩
  case round =>
    obtain ⟨k, rfl, hk, HK⟩ := hrel
    by_cases hlt : k < n
    · have hkl : k < vs.length := by rw [HN.out]; exact hlt
      obtain ⟨ad, rfl, hadl, c0⟩ := HT.out.one (iC_at hkl)
      have hab : (ad.add k).block < w.heap.size := by rw [add_block]; exact hadl
      have j2 : (k : Int) < (n : Int) := by omega
      have HE := Lib.hid (show vs.take (k + 1) = vs.take k ++ [vs[k]] from List.take_succ_eq_append_getElem hkl)
      have HD := Lib.hid (show firstE vs = firstE (vs.drop k) from firstE_zeros vs k HK.out)
      have HG := Lib.hid (show vs.drop k = vs[k] :: vs.drop (k + 1) from (List.drop_eq_getElem_cons hkl))
      generalize vs[k] = v at c0 HE HG
      clear hadl hkl
      by_cases h0 : v = 0
      · subst h0
        have HK' := Lib.hid (show ∀ v ∈ vs.take (k + 1), v = 0 by
          rw [HE.out]; intro v hv
          rcases List.mem_append.1 hv with hv | hv
          · exact HK.out v hv
          · simpa using hv)
        go_wp2
        go_round
        case rel => exact ⟨k + 1, by go_num, by omega, HK'⟩
        case measure => simp [intOf]; omega
      · have HF := Lib.hid (show v = x by rw [← HX.out, HD.out, HG.out]; simp [firstE, h0])
        have q1 := errno_ne h0
        go_wp2
        go_ret
        exact ⟨ret_int' HF.out, rfl⟩
    · obtain rfl : n = k := by omega
      have HF := Lib.hid (show (0 : Int) = x by rw [← HX.out]; exact (firstE_zero.2 (by have := HK.out; rwa [List.take_of_length_le (by rw [HN.out]; exact Nat.le_refl _)] at this)).symm)
      go_wp2
      go_ret
      exact ⟨ret_int' HF.out, rfl⟩
theorem arg_any (g1 : Int) (A1 : Option Addr) (n1 c1 : Nat) (S1 : Option Addr) (m1 d1 : Nat) (j1 : Bool) (B1 : Option Addr) (o1 e1 : Nat) (k1 s1 v1 : Int) (y1 : Bool) (t1 : Int) (L1 M1 : List Nd) (l1 : List Int) (w : World) (h : QA w A1 n1 S1 m1 B1 o1 L1 M1 l1) (x : Int) (hx : argE g1 L1 = x) :
    Calls Tryz.prog 66 #[.agg #[.int .u8 g1, .slice A1 n1 c1, .slice S1 m1 d1, .bool j1, .slice B1 o1 e1, .int .u8 k1, .int .i64 s1, .int .i64 v1, .bool y1, .int .u8 t1]] w fun e w' => e = .returned (.int .i64 x) ∧ Below w.heap.size w w' := by
  obtain ⟨ht, hn, hL⟩ := h.1
  unfold argE at hx
  rw [hn] at hx
  by_cases hg : g1 = 1
  · rw [if_pos hg] at hx
    subst hg
    by_cases h0 : n1 = 0
    · have HB := Lib.hid (fun W => bad_any true W x (by rw [← hx]; simp [h0]))
      subst h0
      clear hx h ht hn hL
      go_enter Tryz.func66, Tryz.ntmps66
      go_wp2_with (go_at_call 64; refine (HB.out _).mono ?_; rintro e w3 ⟨rfl, rfl⟩)
      go_ret
      exact ⟨rfl, (Below.refl _ _).alloc (Nat.le_refl _) _⟩
    · have HB := Lib.hid (fun W => bad_any false W x (by rw [← hx]; simp [h0]))
      have q1 : ((n1 : Int) == 0) = false := by simpa using h0
      have q2 : (n1 == 0) = false := by simpa using h0
      clear hx h ht hn hL h0
      go_enter Tryz.func66, Tryz.ntmps66
      go_wp2_with (go_at_call 64; refine (HB.out _).mono ?_; rintro e w3 ⟨rfl, rfl⟩)
      go_ret
      exact ⟨rfl, (Below.refl _ _).alloc (Nat.le_refl _) _⟩
  · rw [if_neg hg] at hx
    have HC := Lib.hid (fun W (hb : Below w.heap.size w W) => show Calls Tryz.prog 49 #[.slice A1 n1 c1] W fun e w' => e = .returned (.int .i64 x) ∧ Below W.heap.size W w' by
      have := check_any A1 c1 L1 W (by rw [hn]; exact hL) (ht.below hb) x hx
      rwa [hn] at this)
    have q1 : (g1 == 1) = false := by simpa using hg
    clear hx h ht hn hL hg
    go_enter Tryz.func66, Tryz.ntmps66
    go_wp2_with (go_at_call 49; refine (HC.out _ ((Below.refl _ _).alloc (Nat.le_refl _) _)).mono ?_; rintro e w3 ⟨rfl, hb⟩)
    go_ret
    exact ⟨rfl, ((Below.refl _ _).alloc (Nat.le_refl _) _).trans (hb.mono (by simp))⟩
theorem cond_any (g1 : Int) (A1 : Option Addr) (n1 c1 : Nat) (S1 : Option Addr) (m1 d1 : Nat) (j1 : Bool) (B1 : Option Addr) (o1 e1 : Nat) (k1 s1 v1 : Int) (y1 : Bool) (t1 : Int) (L1 M1 : List Nd) (l1 : List Int) (w : World) (h : QA w A1 n1 S1 m1 B1 o1 L1 M1 l1) (x : Int) (hx : whrE M1 = x) :
    Calls Tryz.prog 67 #[.agg #[.int .u8 g1, .slice A1 n1 c1, .slice S1 m1 d1, .bool j1, .slice B1 o1 e1, .int .u8 k1, .int .i64 s1, .int .i64 v1, .bool y1, .int .u8 t1]] w fun e w' => e = .returned (.int .i64 x) ∧ Below w.heap.size w w' := by
  obtain ⟨ht, hn, hL⟩ := h.2.2
  unfold whrE at hx
  rw [hn] at hx
  by_cases h0 : o1 = 0
  · rw [if_pos h0] at hx
    subst h0 hx
    clear h ht hn hL
    go_enter Tryz.func67, Tryz.ntmps67
    go_wp2
    go_ret
    exact ⟨rfl, (Below.refl _ _).alloc (Nat.le_refl _) _⟩
  · rw [if_neg h0] at hx
    have HC := Lib.hid (fun W (hb : Below w.heap.size w W) => show Calls Tryz.prog 49 #[.slice B1 o1 e1] W fun e w' => e = .returned (.int .i64 x) ∧ Below W.heap.size W w' by
      have := check_any B1 e1 M1 W (by rw [hn]; exact hL) (ht.below hb) x hx
      rwa [hn] at this)
    have q1 : ((o1 : Int) == 0) = false := by simpa using h0
    have q2 : (o1 == 0) = false := by simpa using h0
    clear hx h ht hn hL h0
    go_enter Tryz.func67, Tryz.ntmps67
    go_wp2_with (go_at_call 49; refine (HC.out _ ((Below.refl _ _).alloc (Nat.le_refl _) _)).mono ?_; rintro e w3 ⟨rfl, hb⟩)
    go_ret
    exact ⟨rfl, ((Below.refl _ _).alloc (Nat.le_refl _) _).trans (hb.mono (by simp))⟩
end Go.Proofs.YtlmamidodahgmaaGreatDoor.Q8

/- QBox: A query's box. -/
namespace Go.Proofs.YtlmamidodahgmaaGreatDoor.Q8
open Go.ChangeShapes Go.WideShapes Go.ChangeAt Go.RowKit N4
set_option linter.unusedVariables false
set_option linter.unusedSimpArgs false
set_option maxRecDepth 100000
/-- A query's box, and what was there. -/
def QX (w0 : World) (b : Nat) (g1 : Int) (A1 : Option Addr) (n1 c1 : Nat) (S1 : Option Addr) (m1 d1 : Nat) (j1 : Bool) (B1 : Option Addr) (o1 e1 : Nat) (k1 s1 v1 : Int) (y1 : Bool) (t1 : Int) (W : World) : Prop :=
  Bl w0 W ∧ b < W.heap.size ∧ W.cell? ⟨b, 0, none⟩ = some (.int .u8 g1) ∧ W.cell? ⟨b, 1, none⟩ = some (.slice A1 n1 c1) ∧ W.cell? ⟨b, 2, none⟩ = some (.slice S1 m1 d1) ∧ W.cell? ⟨b, 3, none⟩ = some (.bool j1) ∧ W.cell? ⟨b, 4, none⟩ = some (.slice B1 o1 e1) ∧
  W.cell? ⟨b, 5, none⟩ = some (.int .u8 k1) ∧ W.cell? ⟨b, 6, none⟩ = some (.int .i64 s1) ∧ W.cell? ⟨b, 7, none⟩ = some (.int .i64 v1) ∧ W.cell? ⟨b, 8, none⟩ = some (.bool y1) ∧ W.cell? ⟨b, 9, none⟩ = some (.int .u8 t1)
theorem QX.step {w0 : World} {b : Nat} {g1 : Int} {A1 : Option Addr} {n1 c1 : Nat} {S1 : Option Addr} {m1 d1 : Nat} {j1 : Bool} {B1 : Option Addr} {o1 e1 : Nat} {k1 s1 v1 : Int} {y1 : Bool} {t1 : Int} {W W' : World} (h : QX w0 b g1 A1 n1 c1 S1 m1 d1 j1 B1 o1 e1 k1 s1 v1 y1 t1 W) (hb : Below W.heap.size W W') : QX w0 b g1 A1 n1 c1 S1 m1 d1 j1 B1 o1 e1 k1 s1 v1 y1 t1 W' := by
  obtain ⟨h1, h2, h3⟩ := h
  have e : ∀ o, W'.cell? ⟨b, o, none⟩ = W.cell? ⟨b, o, none⟩ := fun o => hb.cell (p := ⟨b, o, none⟩) h2
  refine ⟨h1.step hb, Nat.lt_of_lt_of_le h2 hb.size, ?_⟩
  simp only [e]
  exact h3
theorem QX.new {w0 w : World} (h : Bl w0 w) (g1 : Int) (A1 : Option Addr) (n1 c1 : Nat) (S1 : Option Addr) (m1 d1 : Nat) (j1 : Bool) (B1 : Option Addr) (o1 e1 : Nat) (k1 s1 v1 : Int) (y1 : Bool) (t1 : Int) (t : TypeId) : QX w0 w.heap.size g1 A1 n1 c1 S1 m1 d1 j1 B1 o1 e1 k1 s1 v1 y1 t1 (w.alloc (.cells #[.int .u8 g1, .slice A1 n1 c1, .slice S1 m1 d1, .bool j1, .slice B1 o1 e1, .int .u8 k1, .int .i64 s1, .int .i64 v1, .bool y1, .int .u8 t1] t)) :=
  ⟨h.al _, by simp, by go_simp, by go_simp, by go_simp, by go_simp, by go_simp, by go_simp, by go_simp, by go_simp, by go_simp, by go_simp⟩
theorem QX.bl {w0 : World} {b : Nat} {g1 : Int} {A1 : Option Addr} {n1 c1 : Nat} {S1 : Option Addr} {m1 d1 : Nat} {j1 : Bool} {B1 : Option Addr} {o1 e1 : Nat} {k1 s1 v1 : Int} {y1 : Bool} {t1 : Int} {W : World} (h : QX w0 b g1 A1 n1 c1 S1 m1 d1 j1 B1 o1 e1 k1 s1 v1 y1 t1 W) : Bl w0 W := h.1
theorem QX.cells {w0 : World} {b : Nat} {g1 : Int} {A1 : Option Addr} {n1 c1 : Nat} {S1 : Option Addr} {m1 d1 : Nat} {j1 : Bool} {B1 : Option Addr} {o1 e1 : Nat} {k1 s1 v1 : Int} {y1 : Bool} {t1 : Int} {W : World} (h : QX w0 b g1 A1 n1 c1 S1 m1 d1 j1 B1 o1 e1 k1 s1 v1 y1 t1 W) : b < W.heap.size ∧ W.cell? ⟨b, 0, none⟩ = some (.int .u8 g1) ∧ W.cell? ⟨b, 1, none⟩ = some (.slice A1 n1 c1) ∧ W.cell? ⟨b, 2, none⟩ = some (.slice S1 m1 d1) ∧ W.cell? ⟨b, 3, none⟩ = some (.bool j1) ∧ W.cell? ⟨b, 4, none⟩ = some (.slice B1 o1 e1) ∧
  W.cell? ⟨b, 5, none⟩ = some (.int .u8 k1) ∧ W.cell? ⟨b, 6, none⟩ = some (.int .i64 s1) ∧ W.cell? ⟨b, 7, none⟩ = some (.int .i64 v1) ∧ W.cell? ⟨b, 8, none⟩ = some (.bool y1) ∧ W.cell? ⟨b, 9, none⟩ = some (.int .u8 t1) := h.2
end Go.Proofs.YtlmamidodahgmaaGreatDoor.Q8

/- QChk2: Check: the region that draws. -/
namespace Go.Proofs.YtlmamidodahgmaaGreatDoor.Q8
open Go.ChangeShapes Go.WideShapes Go.ChangeAt Go.RowKit N4
set_option linter.unusedVariables false
set_option linter.unusedSimpArgs false
set_option maxRecDepth 100000

set_option maxHeartbeats 4000000 in
theorem chk_tt (g1 : Int) (A1 : Option Addr) (n1 c1 : Nat) (S1 : Option Addr) (m1 d1 : Nat) (j1 : Bool) (B1 : Option Addr) (o1 e1 : Nat) (k1 s1 v1 : Int) (y1 : Bool) (t1 : Int) (L1 M1 : List Nd) (l1 : List Int) (w : World) (h : QA w A1 n1 S1 m1 B1 o1 L1 M1 l1) (hs : s1 ≤ 9223372036854775807) (hg : inB g1 1 4 = true) (hj : j1 = true) (x : Int) (hx : firstE [badE (inB t1 1 2), argE g1 L1, whrE M1, srcF l1 j1, winE k1 s1 v1, badE (k1 == 1)] = x) :
    Calls Tryz.prog 33 #[.agg #[.int .u8 g1, .slice A1 n1 c1, .slice S1 m1 d1, .bool j1, .slice B1 o1 e1, .int .u8 k1, .int .i64 s1, .int .i64 v1, .bool y1, .int .u8 t1]] w fun e w' => e = .returned (.int .i64 x) ∧ Below w.heap.size w w' := by
  subst hj
  have HS := Lib.hid (QX.step (QX.new (Bl.start w) g1 A1 n1 c1 S1 m1 d1 true B1 o1 e1 k1 s1 v1 y1 t1 27) (bd_drewN _ 1))
  have HW1 := Lib.hid (fun W => within_u8 g1 1 4 W _ hg)
  have HW2 := Lib.hid (fun W => within_u8 t1 1 2 W _ rfl)
  have HB1 := Lib.hid (fun W => bad_any (inB t1 1 2) W _ rfl)
  have HA := Lib.hid (fun W (hb : Bl w W) => arg_any g1 A1 n1 c1 S1 m1 d1 true B1 o1 e1 k1 s1 v1 y1 t1 L1 M1 l1 W (h.step hb) _ rfl)
  have HC := Lib.hid (fun W (hb : Bl w W) => cond_any g1 A1 n1 c1 S1 m1 d1 true B1 o1 e1 k1 s1 v1 y1 t1 L1 M1 l1 W (h.step hb) _ rfl)
  have HR := Lib.hid (fun W (hb : Bl w W) => src_any S1 d1 m1 l1 true W h.2.1.2 (hb.lies h.2.1.1) _ rfl)
  have HN := Lib.hid (fun W => win_any k1 s1 v1 W hs _ rfl)
  have HB2 := Lib.hid (fun W => bad_any (k1 == 1) W _ rfl)
  have HO := Lib.hid (fun A W ht => or_any A 6 6 [badE (inB t1 1 2), argE g1 L1, whrE M1, srcF l1 true, winE k1 s1 v1, badE (k1 == 1)] W rfl (by decide) ht x hx)
  clear hx h hs hg
  generalize badE (inB t1 1 2) = z1 at HB1 HO
  generalize argE g1 L1 = z2 at HA HO
  generalize whrE M1 = z3 at HC HO
  generalize srcF l1 true = z4 at HR HO
  generalize winE k1 s1 v1 = z5 at HN HO
  generalize badE (k1 == 1) = z6 at HB2 HO
  generalize inB t1 1 2 = p2 at HB1 HW2
  go_enter Tryz.func33, Tryz.ntmps33
  go_upto_region 1 with fail
  refine wp_region_pre (S := QX w w.heap.size g1 A1 n1 c1 S1 m1 d1 true B1 o1 e1 k1 s1 v1 y1 t1) 3 (by kernel_rfl) HS.out ?_
  refine Pre.pure (i := 0) (d := 3) (v := ?v0) rfl rfl (by rfl) ?y0 ?z0
  case y0 => (intro w' hSw; (try unfold QX at hSw); go_split_ands; go_simp; try with_reducible rfl)
  try simp only [Act.put, List.setIfInBounds_toArray, List.set_cons_zero, List.set_cons_succ]
  refine Pre.pure (i := 1) (d := 4) (v := ?v1) rfl rfl (by rfl) ?y1 ?z1
  case y1 => (intro w' hSw; (try unfold QX at hSw); go_split_ands; go_simp; try with_reducible rfl)
  try simp only [Act.put, List.setIfInBounds_toArray, List.set_cons_zero, List.set_cons_succ]
  refine Pre.call (i := 2) (d := 5) (v := .bool true) (f := ?f2) (args := ?a2) rfl rfl (by rfl) ?y2 ?c2 ?z2
  case y2 => (intro w' hSw; (try unfold QX at hSw); go_split_ands; go_simp; refine ⟨?_, ?_⟩ <;> with_reducible rfl)
  case c2 => (intro w' hSw; exact (HW1.out _).mono (fun e w2 hh => ⟨hh.1, hh.2 ▸ hSw⟩))
  try simp only [Act.put, List.setIfInBounds_toArray, List.set_cons_zero, List.set_cons_succ]
  refine Pre.pure (i := 3) (d := 6) (v := ?v3) rfl rfl (by rfl) ?y3 ?z3
  case y3 => (intro w' hSw; (try unfold QX at hSw); go_split_ands; go_simp; try with_reducible rfl)
  try simp only [Act.put, List.setIfInBounds_toArray, List.set_cons_zero, List.set_cons_succ]
  refine Pre.pure (i := 4) (d := 7) (v := ?v4) rfl rfl (by rfl) ?y4 ?z4
  case y4 => (intro w' hSw; (try unfold QX at hSw); go_split_ands; go_simp; try with_reducible rfl)
  try simp only [Act.put, List.setIfInBounds_toArray, List.set_cons_zero, List.set_cons_succ]
  refine Pre.pure (i := 5) (d := 8) (v := ?v5) rfl rfl (by rfl) ?y5 ?z5
  case y5 => (intro w' hSw; (try unfold QX at hSw); go_split_ands; go_simp; try with_reducible rfl)
  try simp only [Act.put, List.setIfInBounds_toArray, List.set_cons_zero, List.set_cons_succ]
  refine Pre.call (i := 6) (d := 9) (v := .bool p2) (f := ?f6) (args := ?a6) rfl rfl (by rfl) ?y6 ?c6 ?z6
  case y6 => (intro w' hSw; (try unfold QX at hSw); go_split_ands; go_simp; refine ⟨?_, ?_⟩ <;> with_reducible rfl)
  case c6 => (intro w' hSw; exact (HW2.out _).mono (fun e w2 hh => ⟨hh.1, hh.2 ▸ hSw⟩))
  try simp only [Act.put, List.setIfInBounds_toArray, List.set_cons_zero, List.set_cons_succ]
  refine Pre.pure (i := 7) (d := 10) (v := ?v7) rfl rfl (by rfl) ?y7 ?z7
  case y7 => (intro w' hSw; (try unfold QX at hSw); go_split_ands; go_simp; try with_reducible rfl)
  try simp only [Act.put, List.setIfInBounds_toArray, List.set_cons_zero, List.set_cons_succ]
  refine Pre.call (i := 8) (d := 11) (v := .int .i64 z1) (f := ?f8) (args := ?a8) rfl rfl (by rfl) ?y8 ?c8 ?z8
  case y8 => (intro w' hSw; (try unfold QX at hSw); go_split_ands; go_simp; refine ⟨?_, ?_⟩ <;> with_reducible rfl)
  case c8 => (intro w' hSw; exact (HB1.out _).mono (fun e w2 hh => ⟨hh.1, hh.2 ▸ hSw⟩))
  try simp only [Act.put, List.setIfInBounds_toArray, List.set_cons_zero, List.set_cons_succ]
  refine Pre.pure (i := 9) (d := 12) (v := ?v9) rfl rfl (by rfl) ?y9 ?z9
  case y9 => (intro w' hSw; (try unfold QX at hSw); go_split_ands; go_simp; try with_reducible rfl)
  try simp only [Act.put, List.setIfInBounds_toArray, List.set_cons_zero, List.set_cons_succ]
  refine Pre.call (i := 10) (d := 13) (v := .int .i64 z2) (f := ?f10) (args := ?a10) rfl rfl (by rfl) ?y10 ?c10 ?z10
  case y10 => (intro w' hSw; (try unfold QX at hSw); go_split_ands; go_simp; refine ⟨?_, ?_⟩ <;> with_reducible rfl)
  case c10 => (intro w' hSw; exact (HA.out _ hSw.bl).mono (fun e w2 hh => ⟨hh.1, hSw.step hh.2⟩))
  try simp only [Act.put, List.setIfInBounds_toArray, List.set_cons_zero, List.set_cons_succ]
  refine Pre.pure (i := 11) (d := 14) (v := ?v11) rfl rfl (by rfl) ?y11 ?z11
  case y11 => (intro w' hSw; (try unfold QX at hSw); go_split_ands; go_simp; try with_reducible rfl)
  try simp only [Act.put, List.setIfInBounds_toArray, List.set_cons_zero, List.set_cons_succ]
  refine Pre.call (i := 12) (d := 15) (v := .int .i64 z3) (f := ?f12) (args := ?a12) rfl rfl (by rfl) ?y12 ?c12 ?z12
  case y12 => (intro w' hSw; (try unfold QX at hSw); go_split_ands; go_simp; refine ⟨?_, ?_⟩ <;> with_reducible rfl)
  case c12 => (intro w' hSw; exact (HC.out _ hSw.bl).mono (fun e w2 hh => ⟨hh.1, hSw.step hh.2⟩))
  try simp only [Act.put, List.setIfInBounds_toArray, List.set_cons_zero, List.set_cons_succ]
  refine Pre.pure (i := 13) (d := 16) (v := ?v13) rfl rfl (by rfl) ?y13 ?z13
  case y13 => (intro w' hSw; (try unfold QX at hSw); go_split_ands; go_simp; try with_reducible rfl)
  try simp only [Act.put, List.setIfInBounds_toArray, List.set_cons_zero, List.set_cons_succ]
  refine Pre.pure (i := 14) (d := 17) (v := ?v14) rfl rfl (by rfl) ?y14 ?z14
  case y14 => (intro w' hSw; (try unfold QX at hSw); go_split_ands; go_simp; try with_reducible rfl)
  try simp only [Act.put, List.setIfInBounds_toArray, List.set_cons_zero, List.set_cons_succ]
  refine Pre.pure (i := 15) (d := 18) (v := ?v15) rfl rfl (by rfl) ?y15 ?z15
  case y15 => (intro w' hSw; (try unfold QX at hSw); go_split_ands; go_simp; try with_reducible rfl)
  try simp only [Act.put, List.setIfInBounds_toArray, List.set_cons_zero, List.set_cons_succ]
  refine Pre.pure (i := 16) (d := 19) (v := ?v16) rfl rfl (by rfl) ?y16 ?z16
  case y16 => (intro w' hSw; (try unfold QX at hSw); go_split_ands; go_simp; try with_reducible rfl)
  try simp only [Act.put, List.setIfInBounds_toArray, List.set_cons_zero, List.set_cons_succ]
  refine Pre.call (i := 17) (d := 20) (v := .int .i64 z4) (f := ?f17) (args := ?a17) rfl rfl (by rfl) ?y17 ?c17 ?z17
  case y17 => (intro w' hSw; (try unfold QX at hSw); go_split_ands; go_simp; refine ⟨?_, ?_⟩ <;> with_reducible rfl)
  case c17 => (intro w' hSw; exact (HR.out _ hSw.bl).mono (fun e w2 hh => ⟨hh.1, hSw.step hh.2⟩))
  try simp only [Act.put, List.setIfInBounds_toArray, List.set_cons_zero, List.set_cons_succ]
  refine Pre.pure (i := 18) (d := 21) (v := ?v18) rfl rfl (by rfl) ?y18 ?z18
  case y18 => (intro w' hSw; (try unfold QX at hSw); go_split_ands; go_simp; try with_reducible rfl)
  try simp only [Act.put, List.setIfInBounds_toArray, List.set_cons_zero, List.set_cons_succ]
  refine Pre.pure (i := 19) (d := 22) (v := ?v19) rfl rfl (by rfl) ?y19 ?z19
  case y19 => (intro w' hSw; (try unfold QX at hSw); go_split_ands; go_simp; try with_reducible rfl)
  try simp only [Act.put, List.setIfInBounds_toArray, List.set_cons_zero, List.set_cons_succ]
  refine Pre.call (i := 20) (d := 23) (v := .int .i64 z5) (f := ?f20) (args := ?a20) rfl rfl (by rfl) ?y20 ?c20 ?z20
  case y20 => (intro w' hSw; (try unfold QX at hSw); go_split_ands; go_simp; refine ⟨?_, ?_⟩ <;> with_reducible rfl)
  case c20 => (intro w' hSw; exact (HN.out _).mono (fun e w2 hh => ⟨hh.1, hSw.step hh.2⟩))
  try simp only [Act.put, List.setIfInBounds_toArray, List.set_cons_zero, List.set_cons_succ]
  refine Pre.pure (i := 21) (d := 24) (v := ?v21) rfl rfl (by rfl) ?y21 ?z21
  case y21 => (intro w' hSw; (try unfold QX at hSw); go_split_ands; go_simp; try with_reducible rfl)
  try simp only [Act.put, List.setIfInBounds_toArray, List.set_cons_zero, List.set_cons_succ]
  refine Pre.pure (i := 22) (d := 25) (v := ?v22) rfl rfl (by rfl) ?y22 ?z22
  case y22 => (intro w' hSw; (try unfold QX at hSw); go_split_ands; go_simp; try with_reducible rfl)
  try simp only [Act.put, List.setIfInBounds_toArray, List.set_cons_zero, List.set_cons_succ]
  refine Pre.pure (i := 23) (d := 26) (v := ?v23) rfl rfl (by rfl) ?y23 ?z23
  case y23 => (intro w' hSw; (try unfold QX at hSw); go_split_ands; go_simp; try with_reducible rfl)
  try simp only [Act.put, List.setIfInBounds_toArray, List.set_cons_zero, List.set_cons_succ]
  refine Pre.pure (i := 24) (d := 27) (v := ?v24) rfl rfl (by rfl) ?y24 ?z24
  case y24 => (intro w' hSw; (try unfold QX at hSw); go_split_ands; go_simp; try with_reducible rfl)
  try simp only [Act.put, List.setIfInBounds_toArray, List.set_cons_zero, List.set_cons_succ]
  refine Pre.pure (i := 25) (d := 28) (v := ?v25) rfl rfl (by rfl) ?y25 ?z25
  case y25 => (intro w' hSw; (try unfold QX at hSw); go_split_ands; go_simp; try with_reducible rfl)
  try simp only [Act.put, List.setIfInBounds_toArray, List.set_cons_zero, List.set_cons_succ]
  refine Pre.pure (i := 26) (d := 29) (v := ?v26) rfl rfl (by rfl) ?y26 ?z26
  case y26 => (intro w' hSw; (try unfold QX at hSw); go_split_ands; go_simp; try with_reducible rfl)
  try simp only [Act.put, List.setIfInBounds_toArray, List.set_cons_zero, List.set_cons_succ]
  refine Pre.pure (i := 27) (d := 30) (v := ?v27) rfl rfl (by rfl) ?y27 ?z27
  case y27 => (intro w' hSw; (try unfold QX at hSw); go_split_ands; go_simp; try with_reducible rfl)
  try simp only [Act.put, List.setIfInBounds_toArray, List.set_cons_zero, List.set_cons_succ]
  refine Pre.pure (i := 28) (d := 31) (v := ?v28) rfl rfl (by rfl) ?y28 ?z28
  case y28 => (intro w' hSw; (try unfold QX at hSw); go_split_ands; go_simp; try with_reducible rfl)
  try simp only [Act.put, List.setIfInBounds_toArray, List.set_cons_zero, List.set_cons_succ]
  refine Pre.pure (i := 29) (d := 32) (v := ?v29) rfl rfl (by rfl) ?y29 ?z29
  case y29 => (intro w' hSw; (try unfold QX at hSw); go_split_ands; go_simp; try with_reducible rfl)
  try simp only [Act.put, List.setIfInBounds_toArray, List.set_cons_zero, List.set_cons_succ]
  refine Pre.call (i := 30) (d := 33) (v := .int .i64 z6) (f := ?f30) (args := ?a30) rfl rfl (by rfl) ?y30 ?c30 ?z30
  case y30 => (intro w' hSw; (try unfold QX at hSw); go_split_ands; go_simp; refine ⟨?_, ?_⟩ <;> with_reducible rfl)
  case c30 => (intro w' hSw; exact (HB2.out _).mono (fun e w2 hh => ⟨hh.1, hh.2 ▸ hSw⟩))
  try simp only [Act.put, List.setIfInBounds_toArray, List.set_cons_zero, List.set_cons_succ]
  refine Pre.done (by kernel_rfl) (by kernel_rfl) ?_
  intro W hS
  refine wpAnyH_ready (rs := [31]) (by kernel_rfl) (by simp) ?_
  refine AllReadyH.cons rfl (fun K hK => ?_) AllReadyH.nil
  go_simp
  have HL := Lib.hid (lies_vals W _ rfl #[.int .i64 z1, .int .i64 z2, .int .i64 z3, .int .i64 z4, .int .i64 z5, .int .i64 z6] 34 (iC [z1, z2, z3, z4, z5, z6]) rfl)
  refine hK.out _ _ (hS.step ((Below.refl _ _).alloc (Nat.le_refl _) _)) (fun hS1 => ?_)
  clear hK K
  try simp only [Act.put, List.setIfInBounds_toArray, List.set_cons_zero, List.set_cons_succ]
  refine wpAnyH_ready (rs := [32]) (by kernel_rfl) (by simp) ?_
  refine AllReadyH.cons rfl (fun K hK => ?_) AllReadyH.nil
  go_simp
  (go_at_call 32; refine (HO.out _ _ HL.out).mono ?_; rintro e w3 ⟨rfl, rfl⟩)
  refine hK.out _ _ hS1 (fun hS2 => ?_)
  clear hK K
  try simp only [Act.put, List.setIfInBounds_toArray, List.set_cons_zero, List.set_cons_succ]
  refine wpAnyH_ready (rs := [33]) (by kernel_rfl) (by simp) ?_
  refine AllReadyH.cons rfl (fun K hK => ?_) AllReadyH.nil
  go_simp
  refine hK.out _ _ hS2 (fun hS3 => ?_)
  clear hK K
  try simp only [Act.put, List.setIfInBounds_toArray, List.set_cons_zero, List.set_cons_succ]
  refine wpAnyH_done (by kernel_rfl) ?_ _
  go_wp2
  go_ret
  exact ⟨rfl, hS3.bl⟩
set_option maxHeartbeats 4000000 in
theorem chk_tf (g1 : Int) (A1 : Option Addr) (n1 c1 : Nat) (S1 : Option Addr) (m1 d1 : Nat) (j1 : Bool) (B1 : Option Addr) (o1 e1 : Nat) (k1 s1 v1 : Int) (y1 : Bool) (t1 : Int) (L1 M1 : List Nd) (l1 : List Int) (w : World) (h : QA w A1 n1 S1 m1 B1 o1 L1 M1 l1) (hs : s1 ≤ 9223372036854775807) (hg : inB g1 1 4 = true) (hj : j1 = false) (x : Int) (hx : firstE [badE (inB t1 1 2), argE g1 L1, whrE M1, srcF l1 j1, winE k1 s1 v1, badE (true)] = x) :
    Calls Tryz.prog 33 #[.agg #[.int .u8 g1, .slice A1 n1 c1, .slice S1 m1 d1, .bool j1, .slice B1 o1 e1, .int .u8 k1, .int .i64 s1, .int .i64 v1, .bool y1, .int .u8 t1]] w fun e w' => e = .returned (.int .i64 x) ∧ Below w.heap.size w w' := by
  subst hj
  have HS := Lib.hid (QX.step (QX.new (Bl.start w) g1 A1 n1 c1 S1 m1 d1 false B1 o1 e1 k1 s1 v1 y1 t1 27) (bd_drewN _ 1))
  have HW1 := Lib.hid (fun W => within_u8 g1 1 4 W _ hg)
  have HW2 := Lib.hid (fun W => within_u8 t1 1 2 W _ rfl)
  have HB1 := Lib.hid (fun W => bad_any (inB t1 1 2) W _ rfl)
  have HA := Lib.hid (fun W (hb : Bl w W) => arg_any g1 A1 n1 c1 S1 m1 d1 false B1 o1 e1 k1 s1 v1 y1 t1 L1 M1 l1 W (h.step hb) _ rfl)
  have HC := Lib.hid (fun W (hb : Bl w W) => cond_any g1 A1 n1 c1 S1 m1 d1 false B1 o1 e1 k1 s1 v1 y1 t1 L1 M1 l1 W (h.step hb) _ rfl)
  have HR := Lib.hid (fun W (hb : Bl w W) => src_any S1 d1 m1 l1 false W h.2.1.2 (hb.lies h.2.1.1) _ rfl)
  have HN := Lib.hid (fun W => win_any k1 s1 v1 W hs _ rfl)
  have HB2 := Lib.hid (fun W => bad_any (true) W _ rfl)
  have HO := Lib.hid (fun A W ht => or_any A 6 6 [badE (inB t1 1 2), argE g1 L1, whrE M1, srcF l1 false, winE k1 s1 v1, badE (true)] W rfl (by decide) ht x hx)
  clear hx h hs hg
  generalize badE (inB t1 1 2) = z1 at HB1 HO
  generalize argE g1 L1 = z2 at HA HO
  generalize whrE M1 = z3 at HC HO
  generalize srcF l1 false = z4 at HR HO
  generalize winE k1 s1 v1 = z5 at HN HO
  generalize badE (true) = z6 at HB2 HO
  generalize inB t1 1 2 = p2 at HB1 HW2
  go_enter Tryz.func33, Tryz.ntmps33
  go_upto_region 1 with fail
  refine wp_region_pre (S := QX w w.heap.size g1 A1 n1 c1 S1 m1 d1 false B1 o1 e1 k1 s1 v1 y1 t1) 3 (by kernel_rfl) HS.out ?_
  refine Pre.pure (i := 0) (d := 3) (v := ?v0) rfl rfl (by rfl) ?y0 ?z0
  case y0 => (intro w' hSw; (try unfold QX at hSw); go_split_ands; go_simp; try with_reducible rfl)
  try simp only [Act.put, List.setIfInBounds_toArray, List.set_cons_zero, List.set_cons_succ]
  refine Pre.pure (i := 1) (d := 4) (v := ?v1) rfl rfl (by rfl) ?y1 ?z1
  case y1 => (intro w' hSw; (try unfold QX at hSw); go_split_ands; go_simp; try with_reducible rfl)
  try simp only [Act.put, List.setIfInBounds_toArray, List.set_cons_zero, List.set_cons_succ]
  refine Pre.call (i := 2) (d := 5) (v := .bool true) (f := ?f2) (args := ?a2) rfl rfl (by rfl) ?y2 ?c2 ?z2
  case y2 => (intro w' hSw; (try unfold QX at hSw); go_split_ands; go_simp; refine ⟨?_, ?_⟩ <;> with_reducible rfl)
  case c2 => (intro w' hSw; exact (HW1.out _).mono (fun e w2 hh => ⟨hh.1, hh.2 ▸ hSw⟩))
  try simp only [Act.put, List.setIfInBounds_toArray, List.set_cons_zero, List.set_cons_succ]
  refine Pre.pure (i := 3) (d := 6) (v := ?v3) rfl rfl (by rfl) ?y3 ?z3
  case y3 => (intro w' hSw; (try unfold QX at hSw); go_split_ands; go_simp; try with_reducible rfl)
  try simp only [Act.put, List.setIfInBounds_toArray, List.set_cons_zero, List.set_cons_succ]
  refine Pre.pure (i := 4) (d := 7) (v := ?v4) rfl rfl (by rfl) ?y4 ?z4
  case y4 => (intro w' hSw; (try unfold QX at hSw); go_split_ands; go_simp; try with_reducible rfl)
  try simp only [Act.put, List.setIfInBounds_toArray, List.set_cons_zero, List.set_cons_succ]
  refine Pre.pure (i := 5) (d := 8) (v := ?v5) rfl rfl (by rfl) ?y5 ?z5
  case y5 => (intro w' hSw; (try unfold QX at hSw); go_split_ands; go_simp; try with_reducible rfl)
  try simp only [Act.put, List.setIfInBounds_toArray, List.set_cons_zero, List.set_cons_succ]
  refine Pre.call (i := 6) (d := 9) (v := .bool p2) (f := ?f6) (args := ?a6) rfl rfl (by rfl) ?y6 ?c6 ?z6
  case y6 => (intro w' hSw; (try unfold QX at hSw); go_split_ands; go_simp; refine ⟨?_, ?_⟩ <;> with_reducible rfl)
  case c6 => (intro w' hSw; exact (HW2.out _).mono (fun e w2 hh => ⟨hh.1, hh.2 ▸ hSw⟩))
  try simp only [Act.put, List.setIfInBounds_toArray, List.set_cons_zero, List.set_cons_succ]
  refine Pre.pure (i := 7) (d := 10) (v := ?v7) rfl rfl (by rfl) ?y7 ?z7
  case y7 => (intro w' hSw; (try unfold QX at hSw); go_split_ands; go_simp; try with_reducible rfl)
  try simp only [Act.put, List.setIfInBounds_toArray, List.set_cons_zero, List.set_cons_succ]
  refine Pre.call (i := 8) (d := 11) (v := .int .i64 z1) (f := ?f8) (args := ?a8) rfl rfl (by rfl) ?y8 ?c8 ?z8
  case y8 => (intro w' hSw; (try unfold QX at hSw); go_split_ands; go_simp; refine ⟨?_, ?_⟩ <;> with_reducible rfl)
  case c8 => (intro w' hSw; exact (HB1.out _).mono (fun e w2 hh => ⟨hh.1, hh.2 ▸ hSw⟩))
  try simp only [Act.put, List.setIfInBounds_toArray, List.set_cons_zero, List.set_cons_succ]
  refine Pre.pure (i := 9) (d := 12) (v := ?v9) rfl rfl (by rfl) ?y9 ?z9
  case y9 => (intro w' hSw; (try unfold QX at hSw); go_split_ands; go_simp; try with_reducible rfl)
  try simp only [Act.put, List.setIfInBounds_toArray, List.set_cons_zero, List.set_cons_succ]
  refine Pre.call (i := 10) (d := 13) (v := .int .i64 z2) (f := ?f10) (args := ?a10) rfl rfl (by rfl) ?y10 ?c10 ?z10
  case y10 => (intro w' hSw; (try unfold QX at hSw); go_split_ands; go_simp; refine ⟨?_, ?_⟩ <;> with_reducible rfl)
  case c10 => (intro w' hSw; exact (HA.out _ hSw.bl).mono (fun e w2 hh => ⟨hh.1, hSw.step hh.2⟩))
  try simp only [Act.put, List.setIfInBounds_toArray, List.set_cons_zero, List.set_cons_succ]
  refine Pre.pure (i := 11) (d := 14) (v := ?v11) rfl rfl (by rfl) ?y11 ?z11
  case y11 => (intro w' hSw; (try unfold QX at hSw); go_split_ands; go_simp; try with_reducible rfl)
  try simp only [Act.put, List.setIfInBounds_toArray, List.set_cons_zero, List.set_cons_succ]
  refine Pre.call (i := 12) (d := 15) (v := .int .i64 z3) (f := ?f12) (args := ?a12) rfl rfl (by rfl) ?y12 ?c12 ?z12
  case y12 => (intro w' hSw; (try unfold QX at hSw); go_split_ands; go_simp; refine ⟨?_, ?_⟩ <;> with_reducible rfl)
  case c12 => (intro w' hSw; exact (HC.out _ hSw.bl).mono (fun e w2 hh => ⟨hh.1, hSw.step hh.2⟩))
  try simp only [Act.put, List.setIfInBounds_toArray, List.set_cons_zero, List.set_cons_succ]
  refine Pre.pure (i := 13) (d := 16) (v := ?v13) rfl rfl (by rfl) ?y13 ?z13
  case y13 => (intro w' hSw; (try unfold QX at hSw); go_split_ands; go_simp; try with_reducible rfl)
  try simp only [Act.put, List.setIfInBounds_toArray, List.set_cons_zero, List.set_cons_succ]
  refine Pre.pure (i := 14) (d := 17) (v := ?v14) rfl rfl (by rfl) ?y14 ?z14
  case y14 => (intro w' hSw; (try unfold QX at hSw); go_split_ands; go_simp; try with_reducible rfl)
  try simp only [Act.put, List.setIfInBounds_toArray, List.set_cons_zero, List.set_cons_succ]
  refine Pre.pure (i := 15) (d := 18) (v := ?v15) rfl rfl (by rfl) ?y15 ?z15
  case y15 => (intro w' hSw; (try unfold QX at hSw); go_split_ands; go_simp; try with_reducible rfl)
  try simp only [Act.put, List.setIfInBounds_toArray, List.set_cons_zero, List.set_cons_succ]
  refine Pre.pure (i := 16) (d := 19) (v := ?v16) rfl rfl (by rfl) ?y16 ?z16
  case y16 => (intro w' hSw; (try unfold QX at hSw); go_split_ands; go_simp; try with_reducible rfl)
  try simp only [Act.put, List.setIfInBounds_toArray, List.set_cons_zero, List.set_cons_succ]
  refine Pre.call (i := 17) (d := 20) (v := .int .i64 z4) (f := ?f17) (args := ?a17) rfl rfl (by rfl) ?y17 ?c17 ?z17
  case y17 => (intro w' hSw; (try unfold QX at hSw); go_split_ands; go_simp; refine ⟨?_, ?_⟩ <;> with_reducible rfl)
  case c17 => (intro w' hSw; exact (HR.out _ hSw.bl).mono (fun e w2 hh => ⟨hh.1, hSw.step hh.2⟩))
  try simp only [Act.put, List.setIfInBounds_toArray, List.set_cons_zero, List.set_cons_succ]
  refine Pre.pure (i := 18) (d := 21) (v := ?v18) rfl rfl (by rfl) ?y18 ?z18
  case y18 => (intro w' hSw; (try unfold QX at hSw); go_split_ands; go_simp; try with_reducible rfl)
  try simp only [Act.put, List.setIfInBounds_toArray, List.set_cons_zero, List.set_cons_succ]
  refine Pre.pure (i := 19) (d := 22) (v := ?v19) rfl rfl (by rfl) ?y19 ?z19
  case y19 => (intro w' hSw; (try unfold QX at hSw); go_split_ands; go_simp; try with_reducible rfl)
  try simp only [Act.put, List.setIfInBounds_toArray, List.set_cons_zero, List.set_cons_succ]
  refine Pre.call (i := 20) (d := 23) (v := .int .i64 z5) (f := ?f20) (args := ?a20) rfl rfl (by rfl) ?y20 ?c20 ?z20
  case y20 => (intro w' hSw; (try unfold QX at hSw); go_split_ands; go_simp; refine ⟨?_, ?_⟩ <;> with_reducible rfl)
  case c20 => (intro w' hSw; exact (HN.out _).mono (fun e w2 hh => ⟨hh.1, hSw.step hh.2⟩))
  try simp only [Act.put, List.setIfInBounds_toArray, List.set_cons_zero, List.set_cons_succ]
  refine Pre.pure (i := 21) (d := 24) (v := ?v21) rfl rfl (by rfl) ?y21 ?z21
  case y21 => (intro w' hSw; (try unfold QX at hSw); go_split_ands; go_simp; try with_reducible rfl)
  try simp only [Act.put, List.setIfInBounds_toArray, List.set_cons_zero, List.set_cons_succ]
  refine Pre.pure (i := 22) (d := 25) (v := ?v22) rfl rfl (by rfl) ?y22 ?z22
  case y22 => (intro w' hSw; (try unfold QX at hSw); go_split_ands; go_simp; try with_reducible rfl)
  try simp only [Act.put, List.setIfInBounds_toArray, List.set_cons_zero, List.set_cons_succ]
  refine Pre.pure (i := 23) (d := 26) (v := ?v23) rfl rfl (by rfl) ?y23 ?z23
  case y23 => (intro w' hSw; (try unfold QX at hSw); go_split_ands; go_simp; try with_reducible rfl)
  try simp only [Act.put, List.setIfInBounds_toArray, List.set_cons_zero, List.set_cons_succ]
  refine Pre.pure (i := 24) (d := 27) (v := ?v24) rfl rfl (by rfl) ?y24 ?z24
  case y24 => (intro w' hSw; (try unfold QX at hSw); go_split_ands; go_simp; try with_reducible rfl)
  try simp only [Act.put, List.setIfInBounds_toArray, List.set_cons_zero, List.set_cons_succ]
  refine Pre.skip (i := 25) (d := 28) rfl rfl (by rfl) ?_
  try simp only [Act.put, List.setIfInBounds_toArray, List.set_cons_zero, List.set_cons_succ]
  refine Pre.skip (i := 26) (d := 29) rfl rfl (by rfl) ?_
  try simp only [Act.put, List.setIfInBounds_toArray, List.set_cons_zero, List.set_cons_succ]
  refine Pre.skip (i := 27) (d := 30) rfl rfl (by rfl) ?_
  try simp only [Act.put, List.setIfInBounds_toArray, List.set_cons_zero, List.set_cons_succ]
  refine Pre.skip (i := 28) (d := 31) rfl rfl (by rfl) ?_
  try simp only [Act.put, List.setIfInBounds_toArray, List.set_cons_zero, List.set_cons_succ]
  refine Pre.pure (i := 29) (d := 32) (v := ?v29) rfl rfl (by rfl) ?y29 ?z29
  case y29 => (intro w' hSw; (try unfold QX at hSw); go_split_ands; go_simp; try with_reducible rfl)
  try simp only [Act.put, List.setIfInBounds_toArray, List.set_cons_zero, List.set_cons_succ]
  refine Pre.call (i := 30) (d := 33) (v := .int .i64 z6) (f := ?f30) (args := ?a30) rfl rfl (by rfl) ?y30 ?c30 ?z30
  case y30 => (intro w' hSw; (try unfold QX at hSw); go_split_ands; go_simp; refine ⟨?_, ?_⟩ <;> with_reducible rfl)
  case c30 => (intro w' hSw; exact (HB2.out _).mono (fun e w2 hh => ⟨hh.1, hh.2 ▸ hSw⟩))
  try simp only [Act.put, List.setIfInBounds_toArray, List.set_cons_zero, List.set_cons_succ]
  refine Pre.done (by kernel_rfl) (by kernel_rfl) ?_
  intro W hS
  refine wpAnyH_ready (rs := [31]) (by kernel_rfl) (by simp) ?_
  refine AllReadyH.cons rfl (fun K hK => ?_) AllReadyH.nil
  go_simp
  have HL := Lib.hid (lies_vals W _ rfl #[.int .i64 z1, .int .i64 z2, .int .i64 z3, .int .i64 z4, .int .i64 z5, .int .i64 z6] 34 (iC [z1, z2, z3, z4, z5, z6]) rfl)
  refine hK.out _ _ (hS.step ((Below.refl _ _).alloc (Nat.le_refl _) _)) (fun hS1 => ?_)
  clear hK K
  try simp only [Act.put, List.setIfInBounds_toArray, List.set_cons_zero, List.set_cons_succ]
  refine wpAnyH_ready (rs := [32]) (by kernel_rfl) (by simp) ?_
  refine AllReadyH.cons rfl (fun K hK => ?_) AllReadyH.nil
  go_simp
  (go_at_call 32; refine (HO.out _ _ HL.out).mono ?_; rintro e w3 ⟨rfl, rfl⟩)
  refine hK.out _ _ hS1 (fun hS2 => ?_)
  clear hK K
  try simp only [Act.put, List.setIfInBounds_toArray, List.set_cons_zero, List.set_cons_succ]
  refine wpAnyH_ready (rs := [33]) (by kernel_rfl) (by simp) ?_
  refine AllReadyH.cons rfl (fun K hK => ?_) AllReadyH.nil
  go_simp
  refine hK.out _ _ hS2 (fun hS3 => ?_)
  clear hK K
  try simp only [Act.put, List.setIfInBounds_toArray, List.set_cons_zero, List.set_cons_succ]
  refine wpAnyH_done (by kernel_rfl) ?_ _
  go_wp2
  go_ret
  exact ⟨rfl, hS3.bl⟩
set_option maxHeartbeats 4000000 in
theorem chk_ft (g1 : Int) (A1 : Option Addr) (n1 c1 : Nat) (S1 : Option Addr) (m1 d1 : Nat) (j1 : Bool) (B1 : Option Addr) (o1 e1 : Nat) (k1 s1 v1 : Int) (y1 : Bool) (t1 : Int) (L1 M1 : List Nd) (l1 : List Int) (w : World) (h : QA w A1 n1 S1 m1 B1 o1 L1 M1 l1) (hs : s1 ≤ 9223372036854775807) (hg : inB g1 1 4 = false) (hj : j1 = true) (x : Int) (hx : firstE [badE (false), argE g1 L1, whrE M1, srcF l1 j1, winE k1 s1 v1, badE (k1 == 1)] = x) :
    Calls Tryz.prog 33 #[.agg #[.int .u8 g1, .slice A1 n1 c1, .slice S1 m1 d1, .bool j1, .slice B1 o1 e1, .int .u8 k1, .int .i64 s1, .int .i64 v1, .bool y1, .int .u8 t1]] w fun e w' => e = .returned (.int .i64 x) ∧ Below w.heap.size w w' := by
  subst hj
  have HS := Lib.hid (QX.step (QX.new (Bl.start w) g1 A1 n1 c1 S1 m1 d1 true B1 o1 e1 k1 s1 v1 y1 t1 27) (bd_drewN _ 1))
  have HW1 := Lib.hid (fun W => within_u8 g1 1 4 W _ hg)
  have HW2 := Lib.hid (fun W => within_u8 t1 1 2 W _ rfl)
  have HB1 := Lib.hid (fun W => bad_any (false) W _ rfl)
  have HA := Lib.hid (fun W (hb : Bl w W) => arg_any g1 A1 n1 c1 S1 m1 d1 true B1 o1 e1 k1 s1 v1 y1 t1 L1 M1 l1 W (h.step hb) _ rfl)
  have HC := Lib.hid (fun W (hb : Bl w W) => cond_any g1 A1 n1 c1 S1 m1 d1 true B1 o1 e1 k1 s1 v1 y1 t1 L1 M1 l1 W (h.step hb) _ rfl)
  have HR := Lib.hid (fun W (hb : Bl w W) => src_any S1 d1 m1 l1 true W h.2.1.2 (hb.lies h.2.1.1) _ rfl)
  have HN := Lib.hid (fun W => win_any k1 s1 v1 W hs _ rfl)
  have HB2 := Lib.hid (fun W => bad_any (k1 == 1) W _ rfl)
  have HO := Lib.hid (fun A W ht => or_any A 6 6 [badE (false), argE g1 L1, whrE M1, srcF l1 true, winE k1 s1 v1, badE (k1 == 1)] W rfl (by decide) ht x hx)
  clear hx h hs hg
  generalize badE (false) = z1 at HB1 HO
  generalize argE g1 L1 = z2 at HA HO
  generalize whrE M1 = z3 at HC HO
  generalize srcF l1 true = z4 at HR HO
  generalize winE k1 s1 v1 = z5 at HN HO
  generalize badE (k1 == 1) = z6 at HB2 HO
  go_enter Tryz.func33, Tryz.ntmps33
  go_upto_region 1 with fail
  refine wp_region_pre (S := QX w w.heap.size g1 A1 n1 c1 S1 m1 d1 true B1 o1 e1 k1 s1 v1 y1 t1) 3 (by kernel_rfl) HS.out ?_
  refine Pre.pure (i := 0) (d := 3) (v := ?v0) rfl rfl (by rfl) ?y0 ?z0
  case y0 => (intro w' hSw; (try unfold QX at hSw); go_split_ands; go_simp; try with_reducible rfl)
  try simp only [Act.put, List.setIfInBounds_toArray, List.set_cons_zero, List.set_cons_succ]
  refine Pre.pure (i := 1) (d := 4) (v := ?v1) rfl rfl (by rfl) ?y1 ?z1
  case y1 => (intro w' hSw; (try unfold QX at hSw); go_split_ands; go_simp; try with_reducible rfl)
  try simp only [Act.put, List.setIfInBounds_toArray, List.set_cons_zero, List.set_cons_succ]
  refine Pre.call (i := 2) (d := 5) (v := .bool false) (f := ?f2) (args := ?a2) rfl rfl (by rfl) ?y2 ?c2 ?z2
  case y2 => (intro w' hSw; (try unfold QX at hSw); go_split_ands; go_simp; refine ⟨?_, ?_⟩ <;> with_reducible rfl)
  case c2 => (intro w' hSw; exact (HW1.out _).mono (fun e w2 hh => ⟨hh.1, hh.2 ▸ hSw⟩))
  try simp only [Act.put, List.setIfInBounds_toArray, List.set_cons_zero, List.set_cons_succ]
  refine Pre.pure (i := 3) (d := 6) (v := ?v3) rfl rfl (by rfl) ?y3 ?z3
  case y3 => (intro w' hSw; (try unfold QX at hSw); go_split_ands; go_simp; try with_reducible rfl)
  try simp only [Act.put, List.setIfInBounds_toArray, List.set_cons_zero, List.set_cons_succ]
  refine Pre.skip (i := 4) (d := 7) rfl rfl (by rfl) ?_
  try simp only [Act.put, List.setIfInBounds_toArray, List.set_cons_zero, List.set_cons_succ]
  refine Pre.skip (i := 5) (d := 8) rfl rfl (by rfl) ?_
  try simp only [Act.put, List.setIfInBounds_toArray, List.set_cons_zero, List.set_cons_succ]
  refine Pre.skip (i := 6) (d := 9) rfl rfl (by rfl) ?_
  try simp only [Act.put, List.setIfInBounds_toArray, List.set_cons_zero, List.set_cons_succ]
  refine Pre.pure (i := 7) (d := 10) (v := ?v7) rfl rfl (by rfl) ?y7 ?z7
  case y7 => (intro w' hSw; (try unfold QX at hSw); go_split_ands; go_simp; try with_reducible rfl)
  try simp only [Act.put, List.setIfInBounds_toArray, List.set_cons_zero, List.set_cons_succ]
  refine Pre.call (i := 8) (d := 11) (v := .int .i64 z1) (f := ?f8) (args := ?a8) rfl rfl (by rfl) ?y8 ?c8 ?z8
  case y8 => (intro w' hSw; (try unfold QX at hSw); go_split_ands; go_simp; refine ⟨?_, ?_⟩ <;> with_reducible rfl)
  case c8 => (intro w' hSw; exact (HB1.out _).mono (fun e w2 hh => ⟨hh.1, hh.2 ▸ hSw⟩))
  try simp only [Act.put, List.setIfInBounds_toArray, List.set_cons_zero, List.set_cons_succ]
  refine Pre.pure (i := 9) (d := 12) (v := ?v9) rfl rfl (by rfl) ?y9 ?z9
  case y9 => (intro w' hSw; (try unfold QX at hSw); go_split_ands; go_simp; try with_reducible rfl)
  try simp only [Act.put, List.setIfInBounds_toArray, List.set_cons_zero, List.set_cons_succ]
  refine Pre.call (i := 10) (d := 13) (v := .int .i64 z2) (f := ?f10) (args := ?a10) rfl rfl (by rfl) ?y10 ?c10 ?z10
  case y10 => (intro w' hSw; (try unfold QX at hSw); go_split_ands; go_simp; refine ⟨?_, ?_⟩ <;> with_reducible rfl)
  case c10 => (intro w' hSw; exact (HA.out _ hSw.bl).mono (fun e w2 hh => ⟨hh.1, hSw.step hh.2⟩))
  try simp only [Act.put, List.setIfInBounds_toArray, List.set_cons_zero, List.set_cons_succ]
  refine Pre.pure (i := 11) (d := 14) (v := ?v11) rfl rfl (by rfl) ?y11 ?z11
  case y11 => (intro w' hSw; (try unfold QX at hSw); go_split_ands; go_simp; try with_reducible rfl)
  try simp only [Act.put, List.setIfInBounds_toArray, List.set_cons_zero, List.set_cons_succ]
  refine Pre.call (i := 12) (d := 15) (v := .int .i64 z3) (f := ?f12) (args := ?a12) rfl rfl (by rfl) ?y12 ?c12 ?z12
  case y12 => (intro w' hSw; (try unfold QX at hSw); go_split_ands; go_simp; refine ⟨?_, ?_⟩ <;> with_reducible rfl)
  case c12 => (intro w' hSw; exact (HC.out _ hSw.bl).mono (fun e w2 hh => ⟨hh.1, hSw.step hh.2⟩))
  try simp only [Act.put, List.setIfInBounds_toArray, List.set_cons_zero, List.set_cons_succ]
  refine Pre.pure (i := 13) (d := 16) (v := ?v13) rfl rfl (by rfl) ?y13 ?z13
  case y13 => (intro w' hSw; (try unfold QX at hSw); go_split_ands; go_simp; try with_reducible rfl)
  try simp only [Act.put, List.setIfInBounds_toArray, List.set_cons_zero, List.set_cons_succ]
  refine Pre.pure (i := 14) (d := 17) (v := ?v14) rfl rfl (by rfl) ?y14 ?z14
  case y14 => (intro w' hSw; (try unfold QX at hSw); go_split_ands; go_simp; try with_reducible rfl)
  try simp only [Act.put, List.setIfInBounds_toArray, List.set_cons_zero, List.set_cons_succ]
  refine Pre.pure (i := 15) (d := 18) (v := ?v15) rfl rfl (by rfl) ?y15 ?z15
  case y15 => (intro w' hSw; (try unfold QX at hSw); go_split_ands; go_simp; try with_reducible rfl)
  try simp only [Act.put, List.setIfInBounds_toArray, List.set_cons_zero, List.set_cons_succ]
  refine Pre.pure (i := 16) (d := 19) (v := ?v16) rfl rfl (by rfl) ?y16 ?z16
  case y16 => (intro w' hSw; (try unfold QX at hSw); go_split_ands; go_simp; try with_reducible rfl)
  try simp only [Act.put, List.setIfInBounds_toArray, List.set_cons_zero, List.set_cons_succ]
  refine Pre.call (i := 17) (d := 20) (v := .int .i64 z4) (f := ?f17) (args := ?a17) rfl rfl (by rfl) ?y17 ?c17 ?z17
  case y17 => (intro w' hSw; (try unfold QX at hSw); go_split_ands; go_simp; refine ⟨?_, ?_⟩ <;> with_reducible rfl)
  case c17 => (intro w' hSw; exact (HR.out _ hSw.bl).mono (fun e w2 hh => ⟨hh.1, hSw.step hh.2⟩))
  try simp only [Act.put, List.setIfInBounds_toArray, List.set_cons_zero, List.set_cons_succ]
  refine Pre.pure (i := 18) (d := 21) (v := ?v18) rfl rfl (by rfl) ?y18 ?z18
  case y18 => (intro w' hSw; (try unfold QX at hSw); go_split_ands; go_simp; try with_reducible rfl)
  try simp only [Act.put, List.setIfInBounds_toArray, List.set_cons_zero, List.set_cons_succ]
  refine Pre.pure (i := 19) (d := 22) (v := ?v19) rfl rfl (by rfl) ?y19 ?z19
  case y19 => (intro w' hSw; (try unfold QX at hSw); go_split_ands; go_simp; try with_reducible rfl)
  try simp only [Act.put, List.setIfInBounds_toArray, List.set_cons_zero, List.set_cons_succ]
  refine Pre.call (i := 20) (d := 23) (v := .int .i64 z5) (f := ?f20) (args := ?a20) rfl rfl (by rfl) ?y20 ?c20 ?z20
  case y20 => (intro w' hSw; (try unfold QX at hSw); go_split_ands; go_simp; refine ⟨?_, ?_⟩ <;> with_reducible rfl)
  case c20 => (intro w' hSw; exact (HN.out _).mono (fun e w2 hh => ⟨hh.1, hSw.step hh.2⟩))
  try simp only [Act.put, List.setIfInBounds_toArray, List.set_cons_zero, List.set_cons_succ]
  refine Pre.pure (i := 21) (d := 24) (v := ?v21) rfl rfl (by rfl) ?y21 ?z21
  case y21 => (intro w' hSw; (try unfold QX at hSw); go_split_ands; go_simp; try with_reducible rfl)
  try simp only [Act.put, List.setIfInBounds_toArray, List.set_cons_zero, List.set_cons_succ]
  refine Pre.pure (i := 22) (d := 25) (v := ?v22) rfl rfl (by rfl) ?y22 ?z22
  case y22 => (intro w' hSw; (try unfold QX at hSw); go_split_ands; go_simp; try with_reducible rfl)
  try simp only [Act.put, List.setIfInBounds_toArray, List.set_cons_zero, List.set_cons_succ]
  refine Pre.pure (i := 23) (d := 26) (v := ?v23) rfl rfl (by rfl) ?y23 ?z23
  case y23 => (intro w' hSw; (try unfold QX at hSw); go_split_ands; go_simp; try with_reducible rfl)
  try simp only [Act.put, List.setIfInBounds_toArray, List.set_cons_zero, List.set_cons_succ]
  refine Pre.pure (i := 24) (d := 27) (v := ?v24) rfl rfl (by rfl) ?y24 ?z24
  case y24 => (intro w' hSw; (try unfold QX at hSw); go_split_ands; go_simp; try with_reducible rfl)
  try simp only [Act.put, List.setIfInBounds_toArray, List.set_cons_zero, List.set_cons_succ]
  refine Pre.pure (i := 25) (d := 28) (v := ?v25) rfl rfl (by rfl) ?y25 ?z25
  case y25 => (intro w' hSw; (try unfold QX at hSw); go_split_ands; go_simp; try with_reducible rfl)
  try simp only [Act.put, List.setIfInBounds_toArray, List.set_cons_zero, List.set_cons_succ]
  refine Pre.pure (i := 26) (d := 29) (v := ?v26) rfl rfl (by rfl) ?y26 ?z26
  case y26 => (intro w' hSw; (try unfold QX at hSw); go_split_ands; go_simp; try with_reducible rfl)
  try simp only [Act.put, List.setIfInBounds_toArray, List.set_cons_zero, List.set_cons_succ]
  refine Pre.pure (i := 27) (d := 30) (v := ?v27) rfl rfl (by rfl) ?y27 ?z27
  case y27 => (intro w' hSw; (try unfold QX at hSw); go_split_ands; go_simp; try with_reducible rfl)
  try simp only [Act.put, List.setIfInBounds_toArray, List.set_cons_zero, List.set_cons_succ]
  refine Pre.pure (i := 28) (d := 31) (v := ?v28) rfl rfl (by rfl) ?y28 ?z28
  case y28 => (intro w' hSw; (try unfold QX at hSw); go_split_ands; go_simp; try with_reducible rfl)
  try simp only [Act.put, List.setIfInBounds_toArray, List.set_cons_zero, List.set_cons_succ]
  refine Pre.pure (i := 29) (d := 32) (v := ?v29) rfl rfl (by rfl) ?y29 ?z29
  case y29 => (intro w' hSw; (try unfold QX at hSw); go_split_ands; go_simp; try with_reducible rfl)
  try simp only [Act.put, List.setIfInBounds_toArray, List.set_cons_zero, List.set_cons_succ]
  refine Pre.call (i := 30) (d := 33) (v := .int .i64 z6) (f := ?f30) (args := ?a30) rfl rfl (by rfl) ?y30 ?c30 ?z30
  case y30 => (intro w' hSw; (try unfold QX at hSw); go_split_ands; go_simp; refine ⟨?_, ?_⟩ <;> with_reducible rfl)
  case c30 => (intro w' hSw; exact (HB2.out _).mono (fun e w2 hh => ⟨hh.1, hh.2 ▸ hSw⟩))
  try simp only [Act.put, List.setIfInBounds_toArray, List.set_cons_zero, List.set_cons_succ]
  refine Pre.done (by kernel_rfl) (by kernel_rfl) ?_
  intro W hS
  refine wpAnyH_ready (rs := [31]) (by kernel_rfl) (by simp) ?_
  refine AllReadyH.cons rfl (fun K hK => ?_) AllReadyH.nil
  go_simp
  have HL := Lib.hid (lies_vals W _ rfl #[.int .i64 z1, .int .i64 z2, .int .i64 z3, .int .i64 z4, .int .i64 z5, .int .i64 z6] 34 (iC [z1, z2, z3, z4, z5, z6]) rfl)
  refine hK.out _ _ (hS.step ((Below.refl _ _).alloc (Nat.le_refl _) _)) (fun hS1 => ?_)
  clear hK K
  try simp only [Act.put, List.setIfInBounds_toArray, List.set_cons_zero, List.set_cons_succ]
  refine wpAnyH_ready (rs := [32]) (by kernel_rfl) (by simp) ?_
  refine AllReadyH.cons rfl (fun K hK => ?_) AllReadyH.nil
  go_simp
  (go_at_call 32; refine (HO.out _ _ HL.out).mono ?_; rintro e w3 ⟨rfl, rfl⟩)
  refine hK.out _ _ hS1 (fun hS2 => ?_)
  clear hK K
  try simp only [Act.put, List.setIfInBounds_toArray, List.set_cons_zero, List.set_cons_succ]
  refine wpAnyH_ready (rs := [33]) (by kernel_rfl) (by simp) ?_
  refine AllReadyH.cons rfl (fun K hK => ?_) AllReadyH.nil
  go_simp
  refine hK.out _ _ hS2 (fun hS3 => ?_)
  clear hK K
  try simp only [Act.put, List.setIfInBounds_toArray, List.set_cons_zero, List.set_cons_succ]
  refine wpAnyH_done (by kernel_rfl) ?_ _
  go_wp2
  go_ret
  exact ⟨rfl, hS3.bl⟩
set_option maxHeartbeats 4000000 in
theorem chk_ff (g1 : Int) (A1 : Option Addr) (n1 c1 : Nat) (S1 : Option Addr) (m1 d1 : Nat) (j1 : Bool) (B1 : Option Addr) (o1 e1 : Nat) (k1 s1 v1 : Int) (y1 : Bool) (t1 : Int) (L1 M1 : List Nd) (l1 : List Int) (w : World) (h : QA w A1 n1 S1 m1 B1 o1 L1 M1 l1) (hs : s1 ≤ 9223372036854775807) (hg : inB g1 1 4 = false) (hj : j1 = false) (x : Int) (hx : firstE [badE (false), argE g1 L1, whrE M1, srcF l1 j1, winE k1 s1 v1, badE (true)] = x) :
    Calls Tryz.prog 33 #[.agg #[.int .u8 g1, .slice A1 n1 c1, .slice S1 m1 d1, .bool j1, .slice B1 o1 e1, .int .u8 k1, .int .i64 s1, .int .i64 v1, .bool y1, .int .u8 t1]] w fun e w' => e = .returned (.int .i64 x) ∧ Below w.heap.size w w' := by
  subst hj
  have HS := Lib.hid (QX.step (QX.new (Bl.start w) g1 A1 n1 c1 S1 m1 d1 false B1 o1 e1 k1 s1 v1 y1 t1 27) (bd_drewN _ 1))
  have HW1 := Lib.hid (fun W => within_u8 g1 1 4 W _ hg)
  have HW2 := Lib.hid (fun W => within_u8 t1 1 2 W _ rfl)
  have HB1 := Lib.hid (fun W => bad_any (false) W _ rfl)
  have HA := Lib.hid (fun W (hb : Bl w W) => arg_any g1 A1 n1 c1 S1 m1 d1 false B1 o1 e1 k1 s1 v1 y1 t1 L1 M1 l1 W (h.step hb) _ rfl)
  have HC := Lib.hid (fun W (hb : Bl w W) => cond_any g1 A1 n1 c1 S1 m1 d1 false B1 o1 e1 k1 s1 v1 y1 t1 L1 M1 l1 W (h.step hb) _ rfl)
  have HR := Lib.hid (fun W (hb : Bl w W) => src_any S1 d1 m1 l1 false W h.2.1.2 (hb.lies h.2.1.1) _ rfl)
  have HN := Lib.hid (fun W => win_any k1 s1 v1 W hs _ rfl)
  have HB2 := Lib.hid (fun W => bad_any (true) W _ rfl)
  have HO := Lib.hid (fun A W ht => or_any A 6 6 [badE (false), argE g1 L1, whrE M1, srcF l1 false, winE k1 s1 v1, badE (true)] W rfl (by decide) ht x hx)
  clear hx h hs hg
  generalize badE (false) = z1 at HB1 HO
  generalize argE g1 L1 = z2 at HA HO
  generalize whrE M1 = z3 at HC HO
  generalize srcF l1 false = z4 at HR HO
  generalize winE k1 s1 v1 = z5 at HN HO
  generalize badE (true) = z6 at HB2 HO
  go_enter Tryz.func33, Tryz.ntmps33
  go_upto_region 1 with fail
  refine wp_region_pre (S := QX w w.heap.size g1 A1 n1 c1 S1 m1 d1 false B1 o1 e1 k1 s1 v1 y1 t1) 3 (by kernel_rfl) HS.out ?_
  refine Pre.pure (i := 0) (d := 3) (v := ?v0) rfl rfl (by rfl) ?y0 ?z0
  case y0 => (intro w' hSw; (try unfold QX at hSw); go_split_ands; go_simp; try with_reducible rfl)
  try simp only [Act.put, List.setIfInBounds_toArray, List.set_cons_zero, List.set_cons_succ]
  refine Pre.pure (i := 1) (d := 4) (v := ?v1) rfl rfl (by rfl) ?y1 ?z1
  case y1 => (intro w' hSw; (try unfold QX at hSw); go_split_ands; go_simp; try with_reducible rfl)
  try simp only [Act.put, List.setIfInBounds_toArray, List.set_cons_zero, List.set_cons_succ]
  refine Pre.call (i := 2) (d := 5) (v := .bool false) (f := ?f2) (args := ?a2) rfl rfl (by rfl) ?y2 ?c2 ?z2
  case y2 => (intro w' hSw; (try unfold QX at hSw); go_split_ands; go_simp; refine ⟨?_, ?_⟩ <;> with_reducible rfl)
  case c2 => (intro w' hSw; exact (HW1.out _).mono (fun e w2 hh => ⟨hh.1, hh.2 ▸ hSw⟩))
  try simp only [Act.put, List.setIfInBounds_toArray, List.set_cons_zero, List.set_cons_succ]
  refine Pre.pure (i := 3) (d := 6) (v := ?v3) rfl rfl (by rfl) ?y3 ?z3
  case y3 => (intro w' hSw; (try unfold QX at hSw); go_split_ands; go_simp; try with_reducible rfl)
  try simp only [Act.put, List.setIfInBounds_toArray, List.set_cons_zero, List.set_cons_succ]
  refine Pre.skip (i := 4) (d := 7) rfl rfl (by rfl) ?_
  try simp only [Act.put, List.setIfInBounds_toArray, List.set_cons_zero, List.set_cons_succ]
  refine Pre.skip (i := 5) (d := 8) rfl rfl (by rfl) ?_
  try simp only [Act.put, List.setIfInBounds_toArray, List.set_cons_zero, List.set_cons_succ]
  refine Pre.skip (i := 6) (d := 9) rfl rfl (by rfl) ?_
  try simp only [Act.put, List.setIfInBounds_toArray, List.set_cons_zero, List.set_cons_succ]
  refine Pre.pure (i := 7) (d := 10) (v := ?v7) rfl rfl (by rfl) ?y7 ?z7
  case y7 => (intro w' hSw; (try unfold QX at hSw); go_split_ands; go_simp; try with_reducible rfl)
  try simp only [Act.put, List.setIfInBounds_toArray, List.set_cons_zero, List.set_cons_succ]
  refine Pre.call (i := 8) (d := 11) (v := .int .i64 z1) (f := ?f8) (args := ?a8) rfl rfl (by rfl) ?y8 ?c8 ?z8
  case y8 => (intro w' hSw; (try unfold QX at hSw); go_split_ands; go_simp; refine ⟨?_, ?_⟩ <;> with_reducible rfl)
  case c8 => (intro w' hSw; exact (HB1.out _).mono (fun e w2 hh => ⟨hh.1, hh.2 ▸ hSw⟩))
  try simp only [Act.put, List.setIfInBounds_toArray, List.set_cons_zero, List.set_cons_succ]
  refine Pre.pure (i := 9) (d := 12) (v := ?v9) rfl rfl (by rfl) ?y9 ?z9
  case y9 => (intro w' hSw; (try unfold QX at hSw); go_split_ands; go_simp; try with_reducible rfl)
  try simp only [Act.put, List.setIfInBounds_toArray, List.set_cons_zero, List.set_cons_succ]
  refine Pre.call (i := 10) (d := 13) (v := .int .i64 z2) (f := ?f10) (args := ?a10) rfl rfl (by rfl) ?y10 ?c10 ?z10
  case y10 => (intro w' hSw; (try unfold QX at hSw); go_split_ands; go_simp; refine ⟨?_, ?_⟩ <;> with_reducible rfl)
  case c10 => (intro w' hSw; exact (HA.out _ hSw.bl).mono (fun e w2 hh => ⟨hh.1, hSw.step hh.2⟩))
  try simp only [Act.put, List.setIfInBounds_toArray, List.set_cons_zero, List.set_cons_succ]
  refine Pre.pure (i := 11) (d := 14) (v := ?v11) rfl rfl (by rfl) ?y11 ?z11
  case y11 => (intro w' hSw; (try unfold QX at hSw); go_split_ands; go_simp; try with_reducible rfl)
  try simp only [Act.put, List.setIfInBounds_toArray, List.set_cons_zero, List.set_cons_succ]
  refine Pre.call (i := 12) (d := 15) (v := .int .i64 z3) (f := ?f12) (args := ?a12) rfl rfl (by rfl) ?y12 ?c12 ?z12
  case y12 => (intro w' hSw; (try unfold QX at hSw); go_split_ands; go_simp; refine ⟨?_, ?_⟩ <;> with_reducible rfl)
  case c12 => (intro w' hSw; exact (HC.out _ hSw.bl).mono (fun e w2 hh => ⟨hh.1, hSw.step hh.2⟩))
  try simp only [Act.put, List.setIfInBounds_toArray, List.set_cons_zero, List.set_cons_succ]
  refine Pre.pure (i := 13) (d := 16) (v := ?v13) rfl rfl (by rfl) ?y13 ?z13
  case y13 => (intro w' hSw; (try unfold QX at hSw); go_split_ands; go_simp; try with_reducible rfl)
  try simp only [Act.put, List.setIfInBounds_toArray, List.set_cons_zero, List.set_cons_succ]
  refine Pre.pure (i := 14) (d := 17) (v := ?v14) rfl rfl (by rfl) ?y14 ?z14
  case y14 => (intro w' hSw; (try unfold QX at hSw); go_split_ands; go_simp; try with_reducible rfl)
  try simp only [Act.put, List.setIfInBounds_toArray, List.set_cons_zero, List.set_cons_succ]
  refine Pre.pure (i := 15) (d := 18) (v := ?v15) rfl rfl (by rfl) ?y15 ?z15
  case y15 => (intro w' hSw; (try unfold QX at hSw); go_split_ands; go_simp; try with_reducible rfl)
  try simp only [Act.put, List.setIfInBounds_toArray, List.set_cons_zero, List.set_cons_succ]
  refine Pre.pure (i := 16) (d := 19) (v := ?v16) rfl rfl (by rfl) ?y16 ?z16
  case y16 => (intro w' hSw; (try unfold QX at hSw); go_split_ands; go_simp; try with_reducible rfl)
  try simp only [Act.put, List.setIfInBounds_toArray, List.set_cons_zero, List.set_cons_succ]
  refine Pre.call (i := 17) (d := 20) (v := .int .i64 z4) (f := ?f17) (args := ?a17) rfl rfl (by rfl) ?y17 ?c17 ?z17
  case y17 => (intro w' hSw; (try unfold QX at hSw); go_split_ands; go_simp; refine ⟨?_, ?_⟩ <;> with_reducible rfl)
  case c17 => (intro w' hSw; exact (HR.out _ hSw.bl).mono (fun e w2 hh => ⟨hh.1, hSw.step hh.2⟩))
  try simp only [Act.put, List.setIfInBounds_toArray, List.set_cons_zero, List.set_cons_succ]
  refine Pre.pure (i := 18) (d := 21) (v := ?v18) rfl rfl (by rfl) ?y18 ?z18
  case y18 => (intro w' hSw; (try unfold QX at hSw); go_split_ands; go_simp; try with_reducible rfl)
  try simp only [Act.put, List.setIfInBounds_toArray, List.set_cons_zero, List.set_cons_succ]
  refine Pre.pure (i := 19) (d := 22) (v := ?v19) rfl rfl (by rfl) ?y19 ?z19
  case y19 => (intro w' hSw; (try unfold QX at hSw); go_split_ands; go_simp; try with_reducible rfl)
  try simp only [Act.put, List.setIfInBounds_toArray, List.set_cons_zero, List.set_cons_succ]
  refine Pre.call (i := 20) (d := 23) (v := .int .i64 z5) (f := ?f20) (args := ?a20) rfl rfl (by rfl) ?y20 ?c20 ?z20
  case y20 => (intro w' hSw; (try unfold QX at hSw); go_split_ands; go_simp; refine ⟨?_, ?_⟩ <;> with_reducible rfl)
  case c20 => (intro w' hSw; exact (HN.out _).mono (fun e w2 hh => ⟨hh.1, hSw.step hh.2⟩))
  try simp only [Act.put, List.setIfInBounds_toArray, List.set_cons_zero, List.set_cons_succ]
  refine Pre.pure (i := 21) (d := 24) (v := ?v21) rfl rfl (by rfl) ?y21 ?z21
  case y21 => (intro w' hSw; (try unfold QX at hSw); go_split_ands; go_simp; try with_reducible rfl)
  try simp only [Act.put, List.setIfInBounds_toArray, List.set_cons_zero, List.set_cons_succ]
  refine Pre.pure (i := 22) (d := 25) (v := ?v22) rfl rfl (by rfl) ?y22 ?z22
  case y22 => (intro w' hSw; (try unfold QX at hSw); go_split_ands; go_simp; try with_reducible rfl)
  try simp only [Act.put, List.setIfInBounds_toArray, List.set_cons_zero, List.set_cons_succ]
  refine Pre.pure (i := 23) (d := 26) (v := ?v23) rfl rfl (by rfl) ?y23 ?z23
  case y23 => (intro w' hSw; (try unfold QX at hSw); go_split_ands; go_simp; try with_reducible rfl)
  try simp only [Act.put, List.setIfInBounds_toArray, List.set_cons_zero, List.set_cons_succ]
  refine Pre.pure (i := 24) (d := 27) (v := ?v24) rfl rfl (by rfl) ?y24 ?z24
  case y24 => (intro w' hSw; (try unfold QX at hSw); go_split_ands; go_simp; try with_reducible rfl)
  try simp only [Act.put, List.setIfInBounds_toArray, List.set_cons_zero, List.set_cons_succ]
  refine Pre.skip (i := 25) (d := 28) rfl rfl (by rfl) ?_
  try simp only [Act.put, List.setIfInBounds_toArray, List.set_cons_zero, List.set_cons_succ]
  refine Pre.skip (i := 26) (d := 29) rfl rfl (by rfl) ?_
  try simp only [Act.put, List.setIfInBounds_toArray, List.set_cons_zero, List.set_cons_succ]
  refine Pre.skip (i := 27) (d := 30) rfl rfl (by rfl) ?_
  try simp only [Act.put, List.setIfInBounds_toArray, List.set_cons_zero, List.set_cons_succ]
  refine Pre.skip (i := 28) (d := 31) rfl rfl (by rfl) ?_
  try simp only [Act.put, List.setIfInBounds_toArray, List.set_cons_zero, List.set_cons_succ]
  refine Pre.pure (i := 29) (d := 32) (v := ?v29) rfl rfl (by rfl) ?y29 ?z29
  case y29 => (intro w' hSw; (try unfold QX at hSw); go_split_ands; go_simp; try with_reducible rfl)
  try simp only [Act.put, List.setIfInBounds_toArray, List.set_cons_zero, List.set_cons_succ]
  refine Pre.call (i := 30) (d := 33) (v := .int .i64 z6) (f := ?f30) (args := ?a30) rfl rfl (by rfl) ?y30 ?c30 ?z30
  case y30 => (intro w' hSw; (try unfold QX at hSw); go_split_ands; go_simp; refine ⟨?_, ?_⟩ <;> with_reducible rfl)
  case c30 => (intro w' hSw; exact (HB2.out _).mono (fun e w2 hh => ⟨hh.1, hh.2 ▸ hSw⟩))
  try simp only [Act.put, List.setIfInBounds_toArray, List.set_cons_zero, List.set_cons_succ]
  refine Pre.done (by kernel_rfl) (by kernel_rfl) ?_
  intro W hS
  refine wpAnyH_ready (rs := [31]) (by kernel_rfl) (by simp) ?_
  refine AllReadyH.cons rfl (fun K hK => ?_) AllReadyH.nil
  go_simp
  have HL := Lib.hid (lies_vals W _ rfl #[.int .i64 z1, .int .i64 z2, .int .i64 z3, .int .i64 z4, .int .i64 z5, .int .i64 z6] 34 (iC [z1, z2, z3, z4, z5, z6]) rfl)
  refine hK.out _ _ (hS.step ((Below.refl _ _).alloc (Nat.le_refl _) _)) (fun hS1 => ?_)
  clear hK K
  try simp only [Act.put, List.setIfInBounds_toArray, List.set_cons_zero, List.set_cons_succ]
  refine wpAnyH_ready (rs := [32]) (by kernel_rfl) (by simp) ?_
  refine AllReadyH.cons rfl (fun K hK => ?_) AllReadyH.nil
  go_simp
  (go_at_call 32; refine (HO.out _ _ HL.out).mono ?_; rintro e w3 ⟨rfl, rfl⟩)
  refine hK.out _ _ hS1 (fun hS2 => ?_)
  clear hK K
  try simp only [Act.put, List.setIfInBounds_toArray, List.set_cons_zero, List.set_cons_succ]
  refine wpAnyH_ready (rs := [33]) (by kernel_rfl) (by simp) ?_
  refine AllReadyH.cons rfl (fun K hK => ?_) AllReadyH.nil
  go_simp
  refine hK.out _ _ hS2 (fun hS3 => ?_)
  clear hK K
  try simp only [Act.put, List.setIfInBounds_toArray, List.set_cons_zero, List.set_cons_succ]
  refine wpAnyH_done (by kernel_rfl) ?_ _
  go_wp2
  go_ret
  exact ⟨rfl, hS3.bl⟩
theorem chk_any (g1 : Int) (A1 : Option Addr) (n1 c1 : Nat) (S1 : Option Addr) (m1 d1 : Nat) (j1 : Bool) (B1 : Option Addr) (o1 e1 : Nat) (k1 s1 v1 : Int) (y1 : Bool) (t1 : Int) (L1 M1 : List Nd) (l1 : List Int) (w : World) (h : QA w A1 n1 S1 m1 B1 o1 L1 M1 l1) (hs : s1 ≤ 9223372036854775807) (x : Int) (hx : chkF ⟨g1, L1, l1, j1, M1, k1, s1, v1, y1, t1⟩ = x) :
    Calls Tryz.prog 33 #[.agg #[.int .u8 g1, .slice A1 n1 c1, .slice S1 m1 d1, .bool j1, .slice B1 o1 e1, .int .u8 k1, .int .i64 s1, .int .i64 v1, .bool y1, .int .u8 t1]] w fun e w' => e = .returned (.int .i64 x) ∧ Below w.heap.size w w' := by
  unfold chkF chkL at hx
  simp only at hx
  cases j1 <;> cases hg : inB g1 1 4
  all_goals
    rw [hg] at hx
    simp only [Bool.false_and, Bool.true_and, Bool.not_true, Bool.not_false, Bool.true_or, Bool.false_or] at hx
  · exact chk_ff g1 A1 n1 c1 S1 m1 d1 _ B1 o1 e1 k1 s1 v1 y1 t1 L1 M1 l1 w h hs hg rfl x hx
  · exact chk_tf g1 A1 n1 c1 S1 m1 d1 _ B1 o1 e1 k1 s1 v1 y1 t1 L1 M1 l1 w h hs hg rfl x hx
  · exact chk_ft g1 A1 n1 c1 S1 m1 d1 _ B1 o1 e1 k1 s1 v1 y1 t1 L1 M1 l1 w h hs hg rfl x hx
  · exact chk_tt g1 A1 n1 c1 S1 m1 d1 _ B1 o1 e1 k1 s1 v1 y1 t1 L1 M1 l1 w h hs hg rfl x hx
end Go.Proofs.YtlmamidodahgmaaGreatDoor.Q8
