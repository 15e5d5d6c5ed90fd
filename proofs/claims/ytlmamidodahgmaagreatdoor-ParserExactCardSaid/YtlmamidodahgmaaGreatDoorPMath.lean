/- Queries in tokens: the grammar as a function. -/
import Derived.Test.YtlmamidodahgmaaGreatDoorQA
import Derived.Test.YtlmamidodahgmaaGreatDoorEC
namespace Go.Proofs.YtlmamidodahgmaaGreatDoor.P9
open Go.RowKit N4 Q8
set_option linter.unusedVariables false
set_option maxRecDepth 100000

def k_select : List UInt8 := [115, 101, 108, 101, 99, 116]
def k_count : List UInt8 := [99, 111, 117, 110, 116]
def k_sum : List UInt8 := [115, 117, 109]
def k_min : List UInt8 := [109, 105, 110]
def k_max : List UInt8 := [109, 97, 120]
def k_from : List UInt8 := [102, 114, 111, 109]
def k_join : List UInt8 := [106, 111, 105, 110]
def k_union : List UInt8 := [117, 110, 105, 111, 110]
def k_where : List UInt8 := [119, 104, 101, 114, 101]
def k_window : List UInt8 := [119, 105, 110, 100, 111, 119]
def k_tumble : List UInt8 := [116, 117, 109, 98, 108, 101]
def k_slide : List UInt8 := [115, 108, 105, 100, 101]
def k_session : List UInt8 := [115, 101, 115, 115, 105, 111, 110]
def k_every : List UInt8 := [101, 118, 101, 114, 121]
def k_by : List UInt8 := [98, 121]
def k_key : List UInt8 := [107, 101, 121]
def k_late : List UInt8 := [108, 97, 116, 101]
def k_drop : List UInt8 := [100, 114, 111, 112]
def k_side : List UInt8 := [115, 105, 100, 101]
def aggs : List (List UInt8) := [k_count, k_sum, k_min, k_max]
def wins : List (List UInt8) := [k_tumble, k_slide, k_session]
def lates : List (List UInt8) := [k_drop, k_side]
def q0 : Qy := ⟨0, [], [], false, [], 0, 0, 0, false, 0⟩
inductive PR where
  | ok (q : Qy) (s : List Tok) : PR
  | er (v : Int) (s : List Tok) : PR
def PR.bind (r : PR) (f : Qy → List Tok → PR) : PR := match r with
  | .ok q s => f q s
  | .er v s => .er v s
/-- What an expression is read as. -/
noncomputable def rdL (s : List Tok) : R := match rdF 4000 (.line 0) s with
  | some r => r
  | none => Classical.choose (rd_ex s)
theorem rdL_rd (s : List Tok) : Rd (.line 0) s (rdL s) := by
  unfold rdL
  cases h : rdF 4000 (.line 0) s with
  | some r => exact rdF_Rd _ _ _ _ trivial h
  | none => exact Classical.choose_spec (rd_ex s)
theorem rdL_eq {s : List Tok} {r : R} (h : Rd (.line 0) s r) : rdL s = r := (rdL_rd s).det h

def expP : List (List UInt8) → Qy → List Tok → PR
  | [], q, s => .ok q s
  | T :: r, q, s => if txt s = T then expP r q s.tail else .er 12 s
def idxOf (T : List UInt8) : List (List UInt8) → Option Nat
  | [] => none
  | x :: r => if x = T then some 0 else (idxOf T r).map (· + 1)
noncomputable def exprP (f : List Nd → Qy) (s : List Tok) : PR := match rdL s with
  | .ok t s' => .ok (f t.flat) s'
  | .er v s' => .er v s'
noncomputable def argP (q : Qy) (s : List Tok) : PR :=
  if q.g = 1 then expP [[40], [42], [41]] q s
  else (expP [[40]] q s).bind fun q s => (exprP (fun L => { q with L := L }) s).bind fun q s => expP [[41]] q s
noncomputable def aggP (q : Qy) (s : List Tok) : PR :=
  (expP [k_select] q s).bind fun q s => match idxOf (txt s) aggs with
    | none => .er 12 s
    | some i => argP { q with g := 1 + (i : Int) } s.tail
def nameP (q : Qy) (s : List Tok) : PR :=
  if soE (txt s) = 0 then (if q.l.any (fun v => v == soF (txt s)) = true then .er 43 s else .ok { q with l := q.l ++ [soF (txt s)] } s.tail) else .er 12 s
def unionsP : List Tok → Qy → PR
  | [], q => .ok q []
  | [x], q => if x.s = k_union then .er 12 [] else .ok q [x]
  | x :: y :: s, q => if x.s = k_union then (if soE y.s = 0 then (if q.l.any (fun v => v == soF y.s) = true then .er 43 (y :: s) else unionsP s { q with l := q.l ++ [soF y.s] }) else .er 12 (y :: s)) else .ok q (x :: y :: s)
def fromP (q : Qy) (s : List Tok) : PR :=
  (expP [k_from] q s).bind fun q s => (nameP q s).bind fun q s => if txt s = k_join then nameP { q with j := true } s.tail else unionsP s q
noncomputable def whereP (q : Qy) (s : List Tok) : PR :=
  if txt s = k_where then exprP (fun L => { q with M := L }) s.tail else .ok q s
/-- A number of windows 'k s v' of it. -/
def numP (f : Int → Int × Int × Int) (q : Qy) (s : List Tok) : PR :=
  if rdErr (txt s) = 0 then (if winE (f (val (txt s) : Nat)).1 (f (val (txt s) : Nat)).2.1 (f (val (txt s) : Nat)).2.2 = 0 then
    .ok { q with k := (f (val (txt s) : Nat)).1, s := (f (val (txt s) : Nat)).2.1, v := (f (val (txt s) : Nat)).2.2 } s.tail else .er 16 s) else .er 12 s
def sizeP (k : Int) (q : Qy) (s : List Tok) : PR := (numP (fun n => (1, n, 0)) q s).bind fun q s => .ok { q with k := k } s
def everyP (q : Qy) (s : List Tok) : PR := (expP [k_every] q s).bind fun q s => numP (fun n => (q.k, q.s, n)) q s
def winP (q : Qy) (s : List Tok) : PR :=
  (expP [k_window] q s).bind fun q s => match idxOf (txt s) wins with
    | none => .er 12 s
    | some i => if q.j = true ∧ i ≠ 0 then .er 8 s else (sizeP (1 + (i : Int)) q s.tail).bind fun q s => if i = 1 then everyP q s else .ok q s
def keyP (q : Qy) (s : List Tok) : PR := if txt s = k_by then expP [k_key] { q with y := true } s.tail else .ok q s
def lateP (q : Qy) (s : List Tok) : PR :=
  if txt s = k_late then (match idxOf (txt s.tail) lates with
    | none => .er 12 s.tail
    | some i => .ok { q with t := 1 + (i : Int) } s.tail.tail) else .ok { q with t := 1 } s
def endP (q : Qy) (s : List Tok) : PR := match s with
  | [] => .ok q []
  | x :: s => .er 38 (x :: s)
noncomputable def pqF (s : List Tok) : PR :=
  (aggP q0 s).bind fun q s => (fromP q s).bind fun q s => (whereP q s).bind fun q s => (winP q s).bind fun q s => (keyP q s).bind fun q s => (lateP q s).bind fun q s => endP q s
def placeP (n : Nat) : List Tok → Int
  | [] => n
  | x :: _ => x.a
noncomputable def parF (N : List UInt8) : Qy × Int × Int :=
  if (allF N).2.2 = 0 then (match pqF (allF N).1 with
    | .ok q _ => (q, ((allF N).2.1 : Int), 0)
    | .er v s => (q0, placeP (allF N).2.1 s, v)) else (q0, ((allF N).2.1 : Int), (allF N).2.2)

/-! ### the pieces turned round -/
theorem PR.bind_ok {r : PR} {f : Qy → List Tok → PR} {q : Qy} {s : List Tok} (h : r.bind f = .ok q s) : ∃ q' s', r = .ok q' s' ∧ f q' s' = .ok q s := by
  cases r with
  | ok q' s' => exact ⟨q', s', rfl, h⟩
  | er v s' => cases h
theorem txt_cons {s : List Tok} {T : List UInt8} (h : txt s = T) (hT : T ≠ []) : ∃ x, s = x :: s.tail ∧ x.s = T := by
  cases s with
  | nil => exact absurd h.symm hT
  | cons x s => exact ⟨x, rfl, h⟩
theorem exp_ok : ∀ {Ts : List (List UInt8)} {q q' : Qy} {s s' : List Tok}, (∀ T ∈ Ts, T ≠ []) → expP Ts q s = .ok q' s' → q' = q ∧ ∃ c, s = c ++ s' ∧ c.map (·.s) = Ts := by
  intro Ts
  induction Ts with
  | nil => intro q q' s s' _ h; injection h with h1 h2; subst h1 h2; exact ⟨rfl, [], rfl, rfl⟩
  | cons T Ts ih =>
    intro q q' s s' hT h
    rw [expP] at h
    split at h
    · rename_i ht
      obtain ⟨x, hs, hx⟩ := txt_cons ht (hT T List.mem_cons_self)
      obtain ⟨e, c, hc, hm⟩ := ih (fun T h => hT T (List.mem_cons_of_mem _ h)) h
      exact ⟨e, x :: c, by rw [hs, hc]; rfl, by simp [hx, hm]⟩
    · cases h
theorem exp_go : ∀ {c : List Tok} {Ts : List (List UInt8)} (q : Qy) (r : List Tok), c.map (·.s) = Ts → expP Ts q (c ++ r) = .ok q r := by
  intro c
  induction c with
  | nil => intro Ts q r h; subst h; rfl
  | cons x c ih =>
    intro Ts q r h
    subst h
    rw [List.map_cons, expP, if_pos (show txt (x :: c ++ r) = x.s from rfl)]
    exact ih q r rfl
theorem idx_some {T : List UInt8} : ∀ {L : List (List UInt8)} {i : Nat}, idxOf T L = some i → L[i]? = some T := by
  intro L
  induction L with
  | nil => intro i h; cases h
  | cons x r ih =>
    intro i h
    rw [idxOf] at h
    split at h
    · rename_i hx; injection h with h; subst h; simp [hx]
    · cases hr : idxOf T r with
      | none => rw [hr] at h; cases h
      | some j => rw [hr] at h; injection h with h; subst h; simpa using ih hr
theorem expr_ok {f : List Nd → Qy} {s s' : List Tok} {q : Qy} (h : exprP f s = .ok q s') : ∃ t, Rd (.line 0) s (.ok t s') ∧ q = f t.flat := by
  have h0 := rdL_rd s
  unfold exprP at h
  cases hr : rdL s with
  | er v p => rw [hr] at h; cases h
  | ok t p => rw [hr] at h h0; injection h with h1 h2; subst h1 h2; exact ⟨t, h0, rfl⟩
theorem expr_go {f : List Nd → Qy} {s s' : List Tok} {t : Tr} (h : Rd (.line 0) s (.ok t s')) : exprP f s = .ok (f t.flat) s' := by
  unfold exprP; rw [rdL_eq h]

/-- What an expression's tokens are. -/
structure ExC (c : List Tok) (t : Tr) (l : List UInt8) : Prop where
  go : ∀ r, txt r = l → Rd (.line 0) (c ++ r) (.ok t r)
  cnt : Cnt c (fun _ => 0) 0 t
  now : ∀ x ∈ c, x.s ≠ k_where
theorem op_now (n : Nat) (k : Int) (s : List UInt8) (h : opOf (loK n) (hiK n) s = some k) : s ≠ k_where := by
  obtain ⟨h1, h2, h3⟩ := op_range h
  have := lo7 n
  have key : ∀ m : Fin 13, opB (7 + (m.val : Int)) ≠ k_where := by decide
  have h4 := key ⟨(k - 7).toNat, by omega⟩
  simp only [show 7 + (((k - 7).toNat : Nat) : Int) = k by omega] at h4
  rw [h3]; exact h4
theorem rd_exc {s s' : List Tok} {t : Tr} (h : Rd (.line 0) s (.ok t s')) : ∃ c, s = c ++ s' ∧ ExC c t (txt s') := by
  obtain ⟨c, rfl, hg⟩ := h.loc rfl
  obtain ⟨c1, e1, h1⟩ := h.cnt rfl
  obtain ⟨c2, e2, h2⟩ := h.mem (P := fun s => s ≠ k_where) (fun n k s => op_now n k s) (fun n => by unfold sgnB; split <;> decide) (fun s km hl e => by subst e; rw [show leafOf k_where = none by decide +kernel] at hl; cases hl) (by decide) (by decide) rfl
  obtain rfl := List.append_cancel_right e1
  obtain rfl := List.append_cancel_right e2
  exact ⟨c, rfl, hg, h1, h2⟩

/-! ### one piece of the grammar, by what it takes -/
def noW (c : List Tok) : Prop := ∀ x ∈ c, x.s ≠ k_where
theorem now_map {c : List Tok} {Ts : List (List UInt8)} (h : c.map (·.s) = Ts) (hT : k_where ∉ Ts) : noW c := fun x hx e => hT (by rw [← h, ← e]; exact List.mem_map.2 ⟨x, hx, rfl⟩)
theorem noW.app {c d : List Tok} (h : noW c) (g : noW d) : noW (c ++ d) := fun x hx => (List.mem_append.1 hx).elim (h x) (g x)
theorem len_of {c : List Tok} {Ts : List (List UInt8)} (h : c.map (·.s) = Ts) : c.length = Ts.length := by rw [← h, List.length_map]
/-- The aggregate. -/
structure AggS (c : List Tok) (g : Int) (L : List Nd) : Prop where
  go : ∀ r, aggP q0 (c ++ r) = .ok ⟨g, L, [], false, [], 0, 0, 0, false, 0⟩ r
  now : noW c
  kind : (g = 1 ∧ L = [] ∧ c.length = 5) ∨ ∃ t d y x1 x2 x3, 2 ≤ g ∧ g ≤ 4 ∧ L = t.flat ∧ c = x1 :: x2 :: x3 :: (d ++ [y]) ∧ y.s = [41] ∧ ExC d t [41]
theorem agg_s {q' : Qy} {s s' : List Tok} (h : aggP q0 s = .ok q' s') : ∃ c g L, s = c ++ s' ∧ q' = ⟨g, L, [], false, [], 0, 0, 0, false, 0⟩ ∧ AggS c g L := by
  unfold aggP at h
  replace h := PR.bind_ok h
  obtain ⟨q1, s1, e1, h⟩ := h
  obtain ⟨rfl, c1, rfl, m1⟩ := exp_ok (by decide) e1
  cases hi : idxOf (txt s1) aggs with
  | none => rw [hi] at h; cases h
  | some i =>
    rw [hi] at h
    have hx := idx_some hi
    have hi4 : i < 4 := (List.getElem?_eq_some_iff.1 hx).1
    have hT : txt s1 ≠ [] := fun e => by rw [e, show idxOf [] aggs = none by decide] at hi; cases hi
    have hTw : txt s1 ≠ k_where := fun e => by rw [e, show idxOf k_where aggs = none by decide] at hi; cases hi
    obtain ⟨x, hs1, hxs⟩ := txt_cons rfl hT
    have n1 := len_of m1
    have w1 := now_map m1 (by decide)
    have hgo : ∀ r, aggP q0 (c1 ++ x :: r) = argP { q0 with g := 1 + (i : Int) } r := by
      intro r
      unfold aggP
      rw [exp_go q0 _ m1]
      show (match idxOf x.s aggs with | none => PR.er 12 (x :: r) | some i => argP { q0 with g := 1 + (i : Int) } r) = _
      rw [hxs, hi]
    simp only at h
    unfold argP at h
    by_cases hg : (1 + (i : Int)) = 1
    · rw [if_pos (by exact hg)] at h
      obtain ⟨rfl, c2, e2, m2⟩ := exp_ok (by decide) h
      have n2 := len_of m2
      refine ⟨c1 ++ x :: c2, 1, [], by rw [hs1, e2]; simp, by rw [hg]; rfl, ?_, ?_, .inl ⟨rfl, rfl, by simp [n1, n2]⟩⟩
      · intro r
        rw [List.append_assoc, List.cons_append, hgo]
        unfold argP
        rw [if_pos (by exact hg), exp_go _ _ m2, hg]; rfl
      · refine w1.app (fun y hy => ?_)
        rcases List.mem_cons.1 hy with rfl | hy
        · rw [hxs]; exact hTw
        · exact now_map m2 (by decide) y hy
    · rw [if_neg (by exact hg)] at h
      replace h := PR.bind_ok h
      obtain ⟨q2, s2, e2, h⟩ := h
      obtain ⟨rfl, c2, e2', m2⟩ := exp_ok (by decide) e2
      replace h := PR.bind_ok h
      obtain ⟨q3, s3, e3, h⟩ := h
      obtain ⟨t, hr, rfl⟩ := expr_ok e3
      obtain ⟨rfl, c4, rfl, m4⟩ := exp_ok (by decide) h
      obtain ⟨d, rfl, hd⟩ := rd_exc hr
      have n2 := len_of m2
      have n4 := len_of m4
      obtain ⟨x1, rfl⟩ : ∃ x1, c1 = [x1] := List.length_eq_one_iff.1 n1
      obtain ⟨x3, rfl⟩ : ∃ x3, c2 = [x3] := List.length_eq_one_iff.1 n2
      obtain ⟨y, rfl⟩ : ∃ y, c4 = [y] := List.length_eq_one_iff.1 n4
      have hy : y.s = [41] := by simpa using m4
      have hd' : ExC d t [41] := by have := hd; rwa [show txt ([y] ++ s') = [41] from hy] at this
      refine ⟨x1 :: x :: x3 :: (d ++ [y]), 1 + (i : Int), t.flat, by rw [hs1, e2']; simp, rfl, ?_, ?_, .inr ⟨t, d, y, x1, x, x3, by omega, by omega, rfl, rfl, hy, hd'⟩⟩
      · intro r
        show aggP q0 ([x1] ++ x :: (x3 :: (d ++ [y]) ++ r)) = _
        rw [hgo]
        unfold argP
        rw [if_neg (by exact hg)]
        show (expP [[40]] _ ([x3] ++ (d ++ [y] ++ r))).bind _ = _
        rw [exp_go _ _ m2, List.append_assoc]
        show (exprP _ (d ++ ([y] ++ r))).bind _ = _
        rw [expr_go (hd'.go ([y] ++ r) hy)]
        exact exp_go _ _ m4
      · have w3 := now_map m2 (by decide)
        have w4 := now_map m4 (by decide)
        intro z hz
        rcases List.mem_cons.1 hz with rfl | hz
        · exact w1 z (by simp)
        · rcases List.mem_cons.1 hz with rfl | hz
          · rw [hxs]; exact hTw
          · rcases List.mem_cons.1 hz with rfl | hz
            · exact w3 z (by simp)
            · exact (List.mem_append.1 hz).elim (hd'.now z) (w4 z)

/-! ### sources -/
theorem so_range (T : List UInt8) : 0 ≤ soF T ∧ soF T ≤ 3 := by
  unfold soF; repeat' split
  all_goals omega
theorem so_ne {T : List UInt8} (h : soE T = 0) : T ≠ [] ∧ T ≠ k_where := by
  constructor <;> (intro e; subst e; revert h; decide)
theorem name_ok {q q' : Qy} {s s' : List Tok} (h : nameP q s = .ok q' s') : ∃ x, s = x :: s' ∧ soE x.s = 0 ∧ q.l.any (fun v => v == soF x.s) = false ∧ q' = { q with l := q.l ++ [soF x.s] } := by
  unfold nameP at h
  by_cases h1 : soE (txt s) = 0
  · rw [if_pos h1] at h
    cases h2 : q.l.any (fun v => v == soF (txt s)) with
    | true => rw [h2, if_pos rfl] at h; cases h
    | false =>
      rw [h2, if_neg (by decide)] at h
      injection h with e1 e2
      obtain ⟨x, hs, hx⟩ := txt_cons rfl (so_ne h1).1
      rw [← hx] at h1 h2 e1
      exact ⟨x, by rw [← e2]; exact hs, h1, h2, e1.symm⟩
  · rw [if_neg h1] at h; cases h
theorem name_go {q : Qy} {x : Tok} (r : List Tok) (h1 : soE x.s = 0) (h2 : q.l.any (fun v => v == soF x.s) = false) : nameP q (x :: r) = .ok { q with l := q.l ++ [soF x.s] } r := by
  unfold nameP
  rw [if_pos (show soE (txt (x :: r)) = 0 from h1)]
  show (if (q.l.any fun v => v == soF x.s) = true then _ else _) = _
  rw [h2, if_neg (by decide)]; rfl
/-- What stands of the sources. -/
def SrcOk (l : List Int) : Prop := l.Nodup ∧ ∀ v ∈ l, 0 ≤ v ∧ v ≤ 3
theorem SrcOk.snoc {l : List Int} (h : SrcOk l) {T : List UInt8} (ha : l.any (fun v => v == soF T) = false) : SrcOk (l ++ [soF T]) := by
  have hr := so_range T
  refine ⟨?_, fun v hv => ?_⟩
  · rw [List.nodup_append]
    refine ⟨h.1, by simp, fun a ha' b hb e => ?_⟩
    rw [List.mem_singleton.1 hb] at e
    have := List.any_eq_false.1 ha a ha'
    exact this (by simp [e])
  · rcases List.mem_append.1 hv with hv | hv
    · exact h.2 v hv
    · rw [List.mem_singleton.1 hv]; exact hr
theorem SrcOk.len {l : List Int} (h : SrcOk l) : l.length ≤ 4 := by
  have := List.Nodup.length_le_of_subset (l₁ := l) (l₂ := [0, 1, 2, 3]) h.1 (fun v hv => by have := h.2 v hv; simp; omega)
  simpa using this
theorem SrcOk.src {l : List Int} (h : SrcOk l) {j : Bool} (h0 : l ≠ []) (hj : j = true → l.length = 2) : srcF l j = 0 := by
  rw [srcF_zero]
  refine ⟨h.len, fun e => h0 (List.eq_nil_of_length_eq_zero e), hj, ?_, h.1⟩
  rw [List.any_eq_false]
  intro v hv e
  have := h.2 v hv
  simp [nl, inB, this.1, this.2] at e
theorem unions_stop {q : Qy} : ∀ {s : List Tok}, txt s ≠ k_union → unionsP s q = .ok q s := by
  intro s h
  match s with
  | [] => rfl
  | [x] => rw [unionsP, if_neg (show ¬ x.s = k_union from h)]
  | x :: y :: s => rw [unionsP, if_neg (show ¬ x.s = k_union from h)]
theorem unions_s : ∀ (n : Nat) {s s' : List Tok} {q q' : Qy}, s.length ≤ n → SrcOk q.l → unionsP s q = .ok q' s' → ∃ c, s = c ++ s' ∧ (∀ r, txt r = txt s' → unionsP (c ++ r) q = .ok q' r) ∧ noW c ∧ q' = { q with l := q'.l } ∧ c.length = 2 * (q'.l.length - q.l.length) ∧ q.l.length ≤ q'.l.length ∧ SrcOk q'.l := by
  intro n
  induction n with
  | zero =>
    intro s s' q q' hn hk h
    obtain rfl : s = [] := List.eq_nil_of_length_eq_zero (by omega)
    rw [unions_stop (by decide)] at h
    injection h with e1 e2; subst e1 e2
    exact ⟨[], rfl, fun r hr => unions_stop (by show txt r ≠ _; rw [hr]; decide), by intro x hx; simp at hx, rfl, by simp, Nat.le_refl _, hk⟩
  | succ n ih =>
    intro s s' q q' hn hk h
    by_cases hu : txt s = k_union
    · match s, hu, h, hn with
      | [x], hu, h, _ => rw [unionsP, if_pos (show x.s = k_union from hu)] at h; cases h
      | x :: y :: s, hu, h, hn =>
        rw [unionsP, if_pos (show x.s = k_union from hu)] at h
        by_cases h1 : soE y.s = 0
        · rw [if_pos h1] at h
          cases h2 : q.l.any (fun v => v == soF y.s) with
          | true => rw [h2, if_pos rfl] at h; cases h
          | false =>
            rw [h2, if_neg (by decide)] at h
            obtain ⟨c, e1, g1, g2, g3, g4, g5, g6⟩ := ih (by simp at hn; omega) (hk.snoc h2) h
            have g5' : q.l.length + 1 ≤ q'.l.length := by simpa using g5
            refine ⟨x :: y :: c, by rw [e1]; rfl, fun r hr => ?_, ?_, by rw [g3], ?_, by omega, g6⟩
            · show unionsP (x :: y :: (c ++ r)) q = _
              rw [unionsP, if_pos (show x.s = k_union from hu), if_pos h1, h2, if_neg (by decide)]
              exact g1 r hr
            · intro z hz
              rcases List.mem_cons.1 hz with rfl | hz
              · rw [show z.s = k_union from hu]; decide
              · rcases List.mem_cons.1 hz with rfl | hz
                · exact (so_ne h1).2
                · exact g2 z hz
            · simp only [List.length_cons, g4, List.length_append, List.length_nil]
              omega
        · rw [if_neg h1] at h; cases h
    · rw [unions_stop hu] at h
      injection h with e1 e2; subst e1 e2
      exact ⟨[], rfl, fun r hr => unions_stop (by show txt r ≠ _; rw [hr]; exact hu), by intro x hx; simp at hx, rfl, by simp, Nat.le_refl _, hk⟩
structure FromS (g : Int) (L : List Nd) (c : List Tok) (l : List Int) (j : Bool) (T : List UInt8) : Prop where
  go : ∀ r, txt r = T → fromP ⟨g, L, [], false, [], 0, 0, 0, false, 0⟩ (c ++ r) = .ok ⟨g, L, l, j, [], 0, 0, 0, false, 0⟩ r
  now : noW c
  len : c.length = 2 * l.length
  src : srcF l j = 0
theorem from_s {g : Int} {L : List Nd} {q' : Qy} {s s' : List Tok} (h : fromP ⟨g, L, [], false, [], 0, 0, 0, false, 0⟩ s = .ok q' s') : ∃ c l j, s = c ++ s' ∧ q' = ⟨g, L, l, j, [], 0, 0, 0, false, 0⟩ ∧ FromS g L c l j (txt s') := by
  unfold fromP at h
  replace h := PR.bind_ok h
  obtain ⟨q1, s1, e1, h⟩ := h
  obtain ⟨rfl, c1, rfl, m1⟩ := exp_ok (by decide) e1
  replace h := PR.bind_ok h
  obtain ⟨q2, s2, e2, h⟩ := h
  obtain ⟨x, rfl, x1, x2, rfl⟩ := name_ok e2
  have n1 := len_of m1
  have w1 := now_map m1 (by decide)
  have hk1 : SrcOk [soF x.s] := ⟨by simp, fun v hv => by rw [List.mem_singleton.1 hv]; exact so_range _⟩
  have hgo : ∀ r, fromP ⟨g, L, [], false, [], 0, 0, 0, false, 0⟩ (c1 ++ x :: r) = if txt r = k_join then nameP ⟨g, L, [soF x.s], true, [], 0, 0, 0, false, 0⟩ r.tail else unionsP r ⟨g, L, [soF x.s], false, [], 0, 0, 0, false, 0⟩ := by
    intro r
    unfold fromP
    rw [exp_go _ _ m1]
    show (nameP _ (x :: r)).bind _ = _
    rw [name_go r x1 x2]; rfl
  have wx : x.s ≠ k_where := (so_ne x1).2
  simp only [List.nil_append] at h
  by_cases hj : txt s2 = k_join
  · rw [if_pos hj] at h
    obtain ⟨z, hs2, hz⟩ := txt_cons hj (by decide)
    obtain ⟨y, e3, y1, y2, rfl⟩ := name_ok h
    refine ⟨c1 ++ x :: z :: [y], [soF x.s, soF y.s], true, by rw [hs2, e3]; simp, rfl, fun r hr => ?_, ?_, by simp [n1], ?_⟩
    · rw [List.append_assoc]
      show fromP _ (c1 ++ x :: (z :: y :: r)) = _
      rw [hgo, if_pos (show txt (z :: y :: r) = k_join from hz)]
      exact name_go r y1 y2
    · refine w1.app (fun u hu => ?_)
      simp only [List.mem_cons, List.not_mem_nil, or_false] at hu
      rcases hu with rfl | rfl | rfl
      · exact wx
      · rw [hz]; decide
      · exact (so_ne y1).2
    · have := hk1.snoc (T := y.s) y2
      exact this.src (by simp) (fun _ => rfl)
  · rw [if_neg hj] at h
    obtain ⟨c, rfl, g1, g2, g3, g4, g5, g6⟩ := unions_s _ (Nat.le_refl _) hk1 h
    have g5' : 1 ≤ q'.l.length := g5
    refine ⟨c1 ++ x :: c, q'.l, false, by simp, by rw [g3], fun r hr => ?_, ?_, ?_, ?_⟩
    · rw [List.append_assoc]
      show fromP _ (c1 ++ x :: (c ++ r)) = _
      rw [hgo, if_neg (by rw [txt_app hr c]; exact hj), g1 r hr, g3]
    · refine w1.app (fun u hu => ?_)
      rcases List.mem_cons.1 hu with rfl | hu
      · exact wx
      · exact g2 u hu
    · simp only [List.length_append, List.length_cons, n1, g4, List.length_nil]; omega
    · exact g6.src (fun e => by rw [e] at g5'; simp at g5') (by simp)

/-! ### the condition -/
structure WhrS (g : Int) (L : List Nd) (l : List Int) (j : Bool) (c : List Tok) (M : List Nd) (T : List UInt8) : Prop where
  go : ∀ r, txt r = T → whereP ⟨g, L, l, j, [], 0, 0, 0, false, 0⟩ (c ++ r) = .ok ⟨g, L, l, j, M, 0, 0, 0, false, 0⟩ r
  kind : (c = [] ∧ M = []) ∨ ∃ w d t, c = w :: d ∧ w.s = k_where ∧ M = t.flat ∧ ExC d t T
theorem where_s {g : Int} {L : List Nd} {l : List Int} {j : Bool} {q' : Qy} {s s' : List Tok} (h : whereP ⟨g, L, l, j, [], 0, 0, 0, false, 0⟩ s = .ok q' s') : ∃ c M, s = c ++ s' ∧ q' = ⟨g, L, l, j, M, 0, 0, 0, false, 0⟩ ∧ WhrS g L l j c M (txt s') := by
  unfold whereP at h
  by_cases hw : txt s = k_where
  · rw [if_pos hw] at h
    obtain ⟨w, hs, hws⟩ := txt_cons hw (by decide)
    obtain ⟨t, hr, rfl⟩ := expr_ok h
    obtain ⟨d, hd, hx⟩ := rd_exc hr
    refine ⟨w :: d, t.flat, by rw [hs, hd]; rfl, rfl, fun r hr => ?_, .inr ⟨w, d, t, rfl, hws, rfl, hx⟩⟩
    unfold whereP
    rw [if_pos (show txt (w :: d ++ r) = k_where from hws)]
    exact expr_go (hx.go r hr)
  · rw [if_neg hw] at h
    injection h with e1 e2; subst e1 e2
    refine ⟨[], [], rfl, rfl, fun r hr => ?_, .inl ⟨rfl, rfl⟩⟩
    unfold whereP
    rw [if_neg (by show txt r ≠ _; rw [hr]; exact hw)]; rfl

/-! ### the window -/
theorem num_ok' {f : Int → Int × Int × Int} {q q' : Qy} {s s' : List Tok} (h : numP f q s = .ok q' s') : ∃ x, s = x :: s' ∧ rdErr x.s = 0 ∧ winE (f (val x.s : Nat)).1 (f (val x.s : Nat)).2.1 (f (val x.s : Nat)).2.2 = 0 ∧ q' = { q with k := (f (val x.s : Nat)).1, s := (f (val x.s : Nat)).2.1, v := (f (val x.s : Nat)).2.2 } := by
  unfold numP at h
  by_cases h1 : rdErr (txt s) = 0
  · rw [if_pos h1] at h
    obtain ⟨x, hs, hx⟩ := txt_cons rfl (fun e => by rw [e] at h1; revert h1; decide)
    rw [← hx] at h h1
    by_cases h2 : winE (f (val x.s : Nat)).1 (f (val x.s : Nat)).2.1 (f (val x.s : Nat)).2.2 = 0
    · rw [if_pos h2] at h; injection h with e1 e2; exact ⟨x, by rw [← e2]; exact hs, h1, h2, e1.symm⟩
    · rw [if_neg h2] at h; cases h
  · rw [if_neg h1] at h; cases h
theorem num_go {f : Int → Int × Int × Int} (q : Qy) {x : Tok} (r : List Tok) (h1 : rdErr x.s = 0) (h2 : winE (f (val x.s : Nat)).1 (f (val x.s : Nat)).2.1 (f (val x.s : Nat)).2.2 = 0) :
    numP f q (x :: r) = .ok { q with k := (f (val x.s : Nat)).1, s := (f (val x.s : Nat)).2.1, v := (f (val x.s : Nat)).2.2 } r := by
  unfold numP
  rw [if_pos (show rdErr (txt (x :: r)) = 0 from h1)]
  exact if_pos h2
theorem num_nil {f : Int → Int × Int × Int} (q : Qy) : numP f q [] = .er 12 [] := by
  unfold numP
  rw [if_neg (by decide)]
theorem rd_now {s : List UInt8} (h : rdErr s = 0) : s ≠ k_where := by intro e; subst e; revert h; decide
structure WinS (g : Int) (L : List Nd) (l : List Int) (j : Bool) (M : List Nd) (c : List Tok) (k s v : Int) : Prop where
  go : ∀ r, winP ⟨g, L, l, j, M, 0, 0, 0, false, 0⟩ (c ++ r) = .ok ⟨g, L, l, j, M, k, s, v, false, 0⟩ r
  now : noW c
  odd : c.length % 2 = 1
  fits : fitsW k s v = true
  join : j = true → k = 1
  cut : ∃ d z, c = d ++ [z] ∧ txt d = k_window ∧ ∃ e p, winP ⟨g, L, l, j, M, 0, 0, 0, false, 0⟩ d = .er e p
  head : ∀ r, txt (c ++ r) = k_window
theorem win_s {g : Int} {L : List Nd} {l : List Int} {j : Bool} {M : List Nd} {q' : Qy} {s s' : List Tok} (h : winP ⟨g, L, l, j, M, 0, 0, 0, false, 0⟩ s = .ok q' s') :
    ∃ c k z v, s = c ++ s' ∧ q' = ⟨g, L, l, j, M, k, z, v, false, 0⟩ ∧ WinS g L l j M c k z v := by
  unfold winP at h
  replace h := PR.bind_ok h
  obtain ⟨q1, s1, e1, h⟩ := h
  obtain ⟨rfl, c1, rfl, m1⟩ := exp_ok (by decide) e1
  cases hi : idxOf (txt s1) wins with
  | none => rw [hi] at h; cases h
  | some i =>
    rw [hi] at h
    have hx := idx_some hi
    have hi3 : i < 3 := (List.getElem?_eq_some_iff.1 hx).1
    have hT : txt s1 ≠ [] := fun e => by rw [e, show idxOf [] wins = none by decide] at hi; cases hi
    have hTw : txt s1 ≠ k_where := fun e => by rw [e, show idxOf k_where wins = none by decide] at hi; cases hi
    obtain ⟨x, hs1, hxs⟩ := txt_cons rfl hT
    have n1 := len_of m1
    have w1 := now_map m1 (by decide)
    obtain ⟨x0, rfl⟩ : ∃ x0, c1 = [x0] := List.length_eq_one_iff.1 n1
    have hx0 : x0.s = k_window := by simpa using m1
    simp only at h
    by_cases hj : j = true ∧ i ≠ 0
    · rw [if_pos hj] at h; cases h
    · rw [if_neg hj] at h
      replace h := PR.bind_ok h
      obtain ⟨q2, s2, e2, h⟩ := h
      unfold sizeP at e2
      replace e2 := PR.bind_ok e2
      obtain ⟨q3, s3, e3, e2⟩ := e2
      obtain ⟨n, hs3, a1, a2, rfl⟩ := num_ok' e3
      injection e2 with e4 e5
      subst e5
      have hgo : ∀ r, winP ⟨g, L, l, j, M, 0, 0, 0, false, 0⟩ (x0 :: x :: r) = (sizeP (1 + (i : Int)) ⟨g, L, l, j, M, 0, 0, 0, false, 0⟩ r).bind fun q s => if i = 1 then everyP q s else .ok q s := by
        intro r
        unfold winP
        show (expP [k_window] _ ([x0] ++ (x :: r))).bind _ = _
        rw [exp_go _ _ m1]
        show (match idxOf x.s wins with | none => PR.er 12 (x :: r) | some i => _) = _
        rw [hxs, hi]
        exact if_neg hj
      have hsz : ∀ r, sizeP (1 + (i : Int)) ⟨g, L, l, j, M, 0, 0, 0, false, 0⟩ (n :: r) = .ok ⟨g, L, l, j, M, 1 + (i : Int), (val n.s : Nat), 0, false, 0⟩ r := by
        intro r
        unfold sizeP
        rw [num_go _ r a1 a2]; rfl
      have hs0 : ∃ e p, winP ⟨g, L, l, j, M, 0, 0, 0, false, 0⟩ [x0, x] = .er e p := by
        refine ⟨12, [], ?_⟩
        rw [hgo]
        unfold sizeP
        rw [num_nil]; rfl
      have wn := rd_now a1
      have hfit : fitsW 1 (val n.s : Nat) 0 = true := badE_zero.1 a2
      by_cases h1 : i = 1
      · subst h1
        rw [if_pos rfl] at h
        unfold everyP at h
        replace h := PR.bind_ok h
        obtain ⟨q4, s4, e6, h⟩ := h
        obtain ⟨rfl, c5, rfl, m5⟩ := exp_ok (by decide) e6
        obtain ⟨y, rfl⟩ : ∃ y, c5 = [y] := List.length_eq_one_iff.1 (len_of m5)
        have hy : y.s = k_every := by simpa using m5
        obtain ⟨m, rfl, b1, b2, rfl⟩ := num_ok' h
        have hjf : j = false := by cases j with | false => rfl | true => exact absurd ⟨rfl, by decide⟩ hj
        subst e4
        have b2' : winE (1 + ((1 : Nat) : Int)) (val n.s : Nat) (val m.s : Nat) = 0 := b2
        have hev : ∀ r, everyP ⟨g, L, l, j, M, 1 + ((1 : Nat) : Int), (val n.s : Nat), 0, false, 0⟩ (y :: m :: r) = .ok ⟨g, L, l, j, M, 1 + ((1 : Nat) : Int), (val n.s : Nat), (val m.s : Nat), false, 0⟩ r := by
          intro r
          unfold everyP
          show (expP [k_every] _ ([y] ++ (m :: r))).bind _ = _
          rw [exp_go _ _ m5]
          show numP (fun z => (1 + ((1 : Nat) : Int), ((val n.s : Nat) : Int), z)) _ (m :: r) = _
          exact num_go _ r b1 b2'
        refine ⟨[x0, x, n, y, m], 1 + ((1 : Nat) : Int), (val n.s : Nat), (val m.s : Nat), by rw [hs1, hs3]; rfl, rfl, fun r => ?_, ?_, (by simp), badE_zero.1 b2', (by rw [hjf]; intro hh; cases hh), ⟨[x0, x, n, y], m, rfl, hx0, 12, [], ?_⟩, fun r => hx0⟩
        · show winP _ (x0 :: x :: (n :: (y :: m :: r))) = _
          rw [hgo, hsz]
          exact hev r
        · intro u hu
          simp only [List.mem_cons, List.not_mem_nil, or_false] at hu
          rcases hu with rfl | rfl | rfl | rfl | rfl
          · rw [hx0]; decide
          · rw [hxs]; exact hTw
          · exact wn
          · rw [hy]; decide
          · exact rd_now b1
        · rw [hgo, hsz]
          show everyP ⟨g, L, l, j, M, 1 + ((1 : Nat) : Int), ((val n.s : Nat) : Int), 0, false, 0⟩ [y] = _
          unfold everyP
          show (expP [k_every] _ ([y] ++ [])).bind _ = _
          rw [exp_go _ _ m5]
          exact num_nil (f := fun z => (1 + ((1 : Nat) : Int), ((val n.s : Nat) : Int), z)) ⟨g, L, l, j, M, 1 + ((1 : Nat) : Int), ((val n.s : Nat) : Int), 0, false, 0⟩
      · rw [if_neg h1] at h
        injection h with e6 e7
        subst e4 e7
        refine ⟨[x0, x, n], 1 + (i : Int), (val n.s : Nat), 0, by rw [hs1, hs3]; rfl, e6.symm, fun r => ?_, ?_, (by simp), ?_, ?_, ⟨[x0, x], n, rfl, hx0, hs0⟩, fun r => hx0⟩
        · show winP _ (x0 :: x :: (n :: r)) = _
          rw [hgo, hsz]
          exact if_neg h1
        · intro u hu
          simp only [List.mem_cons, List.not_mem_nil, or_false] at hu
          rcases hu with rfl | rfl | rfl
          · rw [hx0]; decide
          · rw [hxs]; exact hTw
          · exact wn
        · have hi2 : i = 0 ∨ i = 2 := by omega
          rcases hi2 with rfl | rfl
          · exact hfit
          · simpa [fitsW] using hfit
        · intro hh
          have : i = 0 := Decidable.byContradiction fun hn => hj ⟨hh, hn⟩
          subst this; rfl

/-! ### "by key" and "late" -/
structure KeyS (g : Int) (L : List Nd) (l : List Int) (j : Bool) (M : List Nd) (k s v : Int) (c : List Tok) (y : Bool) (T : List UInt8) : Prop where
  go : ∀ r, txt r = T → keyP ⟨g, L, l, j, M, k, s, v, false, 0⟩ (c ++ r) = .ok ⟨g, L, l, j, M, k, s, v, y, 0⟩ r
  now : noW c
  kind : c = [] ∨ ∃ a b, c = [a, b] ∧ ∃ e p, keyP ⟨g, L, l, j, M, k, s, v, false, 0⟩ [a] = .er e p
theorem key_s {g : Int} {L : List Nd} {l : List Int} {j : Bool} {M : List Nd} {k z v : Int} {q' : Qy} {s s' : List Tok} (h : keyP ⟨g, L, l, j, M, k, z, v, false, 0⟩ s = .ok q' s') :
    ∃ c y, s = c ++ s' ∧ q' = ⟨g, L, l, j, M, k, z, v, y, 0⟩ ∧ KeyS g L l j M k z v c y (txt s') := by
  unfold keyP at h
  by_cases hw : txt s = k_by
  · rw [if_pos hw] at h
    obtain ⟨a, hs, ha⟩ := txt_cons hw (by decide)
    obtain ⟨rfl, c, hc, m⟩ := exp_ok (by decide) h
    obtain ⟨b, rfl⟩ : ∃ b, c = [b] := List.length_eq_one_iff.1 (len_of m)
    have hb : b.s = k_key := by simpa using m
    refine ⟨[a, b], true, by rw [hs, hc]; rfl, rfl, fun r _ => ?_, ?_, .inr ⟨a, b, rfl, 12, [], ?_⟩⟩
    · unfold keyP
      rw [if_pos (show txt ([a, b] ++ r) = k_by from ha)]
      exact exp_go _ _ m
    · intro u hu
      simp only [List.mem_cons, List.not_mem_nil, or_false] at hu
      rcases hu with rfl | rfl
      · rw [ha]; decide
      · rw [hb]; decide
    · unfold keyP
      rw [if_pos (show txt [a] = k_by from ha)]
      show expP [k_key] _ [] = _
      rw [expP, if_neg (by decide)]
  · rw [if_neg hw] at h
    injection h with e1 e2; subst e1 e2
    refine ⟨[], false, rfl, rfl, fun r hr => ?_, by intro x hx; simp at hx, .inl rfl⟩
    unfold keyP
    rw [if_neg (by show txt r ≠ _; rw [hr]; exact hw)]; rfl
structure LateS (g : Int) (L : List Nd) (l : List Int) (j : Bool) (M : List Nd) (k s v : Int) (y : Bool) (c : List Tok) (t : Int) : Prop where
  go : lateP ⟨g, L, l, j, M, k, s, v, y, 0⟩ c = .ok ⟨g, L, l, j, M, k, s, v, y, t⟩ []
  now : noW c
  fits : 1 ≤ t ∧ t ≤ 2
  kind : c = [] ∨ ∃ a b, c = [a, b] ∧ a.s = k_late ∧ ∃ e p, lateP ⟨g, L, l, j, M, k, s, v, y, 0⟩ [a] = .er e p
theorem late_s {g : Int} {L : List Nd} {l : List Int} {j : Bool} {M : List Nd} {k z v : Int} {y : Bool} {q' : Qy} {s : List Tok} (h : lateP ⟨g, L, l, j, M, k, z, v, y, 0⟩ s = .ok q' []) :
    ∃ t, q' = ⟨g, L, l, j, M, k, z, v, y, t⟩ ∧ LateS g L l j M k z v y s t := by
  have h0 := h
  unfold lateP at h
  by_cases hw : txt s = k_late
  · rw [if_pos hw] at h
    obtain ⟨a, hs, ha⟩ := txt_cons hw (by decide)
    cases hi : idxOf (txt s.tail) lates with
    | none => rw [hi] at h; cases h
    | some i =>
      rw [hi] at h
      injection h with e1 e2
      have hx := idx_some hi
      have hi2 : i < 2 := (List.getElem?_eq_some_iff.1 hx).1
      have hT : txt s.tail ≠ [] := fun e => by rw [e, show idxOf [] lates = none by decide] at hi; cases hi
      have hTw : txt s.tail ≠ k_where := fun e => by rw [e, show idxOf k_where lates = none by decide] at hi; cases hi
      obtain ⟨b, hb, hbs⟩ := txt_cons rfl hT
      rw [e2] at hb
      rw [hb] at hs
      subst e1
      refine ⟨1 + (i : Int), rfl, h0, ?_, by omega, .inr ⟨a, b, hs, ha, 12, [], ?_⟩⟩
      · rw [hs]
        intro u hu
        simp only [List.mem_cons, List.not_mem_nil, or_false] at hu
        rcases hu with rfl | rfl
        · rw [ha]; decide
        · rw [hbs]; exact hTw
      · unfold lateP
        rw [if_pos (show txt [a] = k_late from ha)]; rfl
  · rw [if_neg hw] at h
    injection h with e1 e2; subst e1 e2
    exact ⟨1, rfl, h0, by intro x hx; simp at hx, by omega, .inl rfl⟩

/-! ### a whole query -/
structure Shp (s : List Tok) (q : Qy) (ca cf cw cn ck cl : List Tok) : Prop where
  eq : s = ca ++ (cf ++ (cw ++ (cn ++ (ck ++ cl))))
  a : AggS ca q.g q.L
  f : FromS q.g q.L cf q.l q.j (txt (cw ++ (cn ++ (ck ++ cl))))
  w : WhrS q.g q.L q.l q.j cw q.M k_window
  n : WinS q.g q.L q.l q.j q.M cn q.k q.s q.v
  k : KeyS q.g q.L q.l q.j q.M q.k q.s q.v ck q.y (txt cl)
  l : LateS q.g q.L q.l q.j q.M q.k q.s q.v q.y cl q.t
theorem pq_shape {s s' : List Tok} {q : Qy} (h : pqF s = .ok q s') : s' = [] ∧ ∃ ca cf cw cn ck cl, Shp s q ca cf cw cn ck cl := by
  unfold pqF at h
  replace h := PR.bind_ok h
  obtain ⟨q1, s1, e1, h⟩ := h
  obtain ⟨ca, g, L, rfl, rfl, ha⟩ := agg_s e1
  replace h := PR.bind_ok h
  obtain ⟨q2, s2, e2, h⟩ := h
  obtain ⟨cf, l, j, rfl, rfl, hf⟩ := from_s e2
  replace h := PR.bind_ok h
  obtain ⟨q3, s3, e3, h⟩ := h
  obtain ⟨cw, M, rfl, rfl, hw⟩ := where_s e3
  replace h := PR.bind_ok h
  obtain ⟨q4, s4, e4, h⟩ := h
  obtain ⟨cn, k, z, v, rfl, rfl, hn⟩ := win_s e4
  replace h := PR.bind_ok h
  obtain ⟨q5, s5, e5, h⟩ := h
  obtain ⟨ck, y, rfl, rfl, hk⟩ := key_s e5
  replace h := PR.bind_ok h
  obtain ⟨q6, s6, e6, h⟩ := h
  cases s6 with
  | cons x s6 => cases h
  | nil =>
    injection h with e7 e8
    obtain ⟨t, rfl, hl⟩ := late_s e6
    subst e7 e8
    rw [hn.head] at hw
    exact ⟨rfl, ca, cf, cw, cn, ck, s5, rfl, ha, hf, hw, hn, hk, hl⟩
end Go.Proofs.YtlmamidodahgmaaGreatDoor.P9
