/- Merged: QMath, QMem, QWin, QSrc, QSrc2, QTab. -/
import Derived.Test.YtlmamidodahgmaaGreatDoorNB
import Derived.Maps.OwnOps
import Derived.Maps.OwnSet
import Derived.Test.YtlmamidodahgmaaGreatDoorCA
import Derived.Test.YtlmamidodahgmaaGreatDoorRows
import Derived.LaidMore
import Derived.Stop.Joined
import Derived.Stop.LaidErr
import Derived.Lib.LaidTab
import Derived.Laws.Rows
import Derived.LoopTactic
/- QMath: Windows, sources and queries in plain mathematics: no program is imported. -/
namespace Go.Proofs.YtlmamidodahgmaaGreatDoor.Q8
open N4
set_option linter.unusedVariables false
set_option linter.unusedSimpArgs false

def inB (v a b : Int) : Bool := decide (a ≤ v) && decide (v ≤ b)
def badE (b : Bool) : Int := if b then 0 else 8
def slidesF (s e : Int) : Bool := inB e 1 s && decide (s ≤ 16 * e)
def fitsW (k s e : Int) : Bool := inB s 1 1073741824 && (if k = 2 then slidesF s e else (decide (k = 1) || decide (k = 3)) && decide (e = 0))
def winE (k s e : Int) : Int := badE (fitsW k s e)
def nl (x : Int) : Bool := !inB x 0 3
def srcF (l : List Int) (j : Bool) : Int :=
  if 4 < l.length then 4 else if l.length = 0 then 8 else if j = true ∧ l.length ≠ 2 then 8 else if l.any nl = true then 8 else if l.Nodup then 0 else 43
structure Qy where
  g : Int
  L : List Nd
  l : List Int
  j : Bool
  M : List Nd
  k : Int
  s : Int
  v : Int
  y : Bool
  t : Int
def argE (g : Int) (L : List Nd) : Int := if g = 1 then badE (decide (L.length = 0)) else checkF L
def whrE (M : List Nd) : Int := if M.length = 0 then 0 else checkF M
def chkL (q : Qy) : List Int := [badE (inB q.g 1 4 && inB q.t 1 2), argE q.g q.L, whrE q.M, srcF q.l q.j, winE q.k q.s q.v, badE (!q.j || decide (q.k = 1))]
def chkF (q : Qy) : Int := firstE (chkL q)
def alikeF (L M : List Nd) : Bool := decide (L.map unp = M.map unp)
def sameQ (p q : Qy) : Bool := decide (p.g = q.g) && (alikeF p.L q.L && (decide (p.l = q.l) && ((p.j == q.j) && (alikeF p.M q.M && ((decide (p.k = q.k) && decide (p.s = q.s) && decide (p.v = q.v)) && ((p.y == q.y) && decide (p.t = q.t)))))))
def sameQE (p q : Qy) : Int := firstE [chkF p, chkF q]

theorem inB_true {v a b : Int} : inB v a b = true ↔ a ≤ v ∧ v ≤ b := by simp [inB]
theorem badE_vals (b : Bool) : badE b = 0 ∨ badE b = 8 := by cases b <;> simp [badE]
theorem badE_zero {b : Bool} : badE b = 0 ↔ b = true := by cases b <;> simp [badE]
theorem firstE_zero : ∀ {l : List Int}, firstE l = 0 ↔ ∀ v ∈ l, v = 0 := by
  intro l
  induction l with
  | nil => simp [firstE]
  | cons v r ih =>
    unfold firstE
    by_cases h : v = 0
    · rw [if_pos h, ih]; simp [h]
    · rw [if_neg h]; simp [h]
theorem chk_zero (q : Qy) : chkF q = 0 ↔ (inB q.g 1 4 = true ∧ inB q.t 1 2 = true) ∧ argE q.g q.L = 0 ∧ whrE q.M = 0 ∧ srcF q.l q.j = 0 ∧ fitsW q.k q.s q.v = true ∧ (q.j = true → q.k = 1) := by
  unfold chkF
  rw [firstE_zero]
  simp only [chkL, List.mem_cons, List.not_mem_nil, or_false, forall_eq_or_imp, forall_eq, winE, badE_zero, Bool.and_eq_true]
  have : ((!q.j || decide (q.k = 1)) = true) ↔ (q.j = true → q.k = 1) := by cases q.j <;> simp
  rw [this]
theorem srcF_vals (l : List Int) (j : Bool) : srcF l j = 0 ∨ srcF l j = 4 ∨ srcF l j = 8 ∨ srcF l j = 43 := by
  unfold srcF; split <;> (try split) <;> (try split) <;> (try split) <;> (try split) <;> simp
theorem srcF_zero {l : List Int} {j : Bool} : srcF l j = 0 ↔ l.length ≤ 4 ∧ l.length ≠ 0 ∧ (j = true → l.length = 2) ∧ l.any nl = false ∧ l.Nodup := by
  unfold srcF
  by_cases h1 : 4 < l.length
  · rw [if_pos h1]; simp; intro h; omega
  rw [if_neg h1]
  by_cases h2 : l.length = 0
  · rw [if_pos h2]; simp [h2]
  rw [if_neg h2]
  by_cases h3 : j = true ∧ l.length ≠ 2
  · rw [if_pos h3]; simp [h3.1, h3.2]
  rw [if_neg h3]
  cases h4 : l.any nl with
  | true => simp
  | false =>
    by_cases h5 : l.Nodup
    · simp only [Bool.false_eq_true, if_false, if_pos h5, true_iff]
      exact ⟨by omega, h2, fun hj => Decidable.byContradiction fun hn => h3 ⟨hj, hn⟩, trivial, h5⟩
    · simp [h5]
theorem alike_nil {L M : List Nd} (h : L.length = 0 ∨ M.length = 0) : alikeF L M = decide (L.length = M.length) := by
  unfold alikeF
  rcases h with h | h
  · obtain rfl := List.eq_nil_of_length_eq_zero h
    cases M <;> simp
  · obtain rfl := List.eq_nil_of_length_eq_zero h
    cases L <;> simp
theorem nodup_snoc {l : List Int} {k : Nat} (hk : k < l.length) : (l.take (k + 1)).Nodup ↔ (l.take k).Nodup ∧ l[k] ∉ l.take k := by
  rw [List.take_succ_eq_append_getElem hk, List.nodup_append]
  constructor
  · rintro ⟨h1, _, h2⟩
    exact ⟨h1, fun hm => h2 _ hm _ (List.mem_singleton.2 rfl) rfl⟩
  · rintro ⟨h1, h2⟩
    refine ⟨h1, by simp, fun a ha b hb e => ?_⟩
    rw [List.mem_singleton.1 hb] at e
    exact h2 (e ▸ ha)
theorem nodup_take {l : List Int} (h : l.Nodup) (k : Nat) : (l.take k).Nodup := h.sublist (List.take_sublist _ _)
theorem any_snoc {l : List Int} {k : Nat} (hk : k < l.length) : (l.take (k + 1)).any nl = ((l.take k).any nl || nl l[k]) := by
  rw [List.take_succ_eq_append_getElem hk, List.any_append]; simp
end Go.Proofs.YtlmamidodahgmaaGreatDoor.Q8

/- QMem: Integers and queries in memory. -/
namespace Go.Proofs.YtlmamidodahgmaaGreatDoor.Q8
open Go.ChangeShapes Go.WideShapes Go.ChangeAt Go.RowKit N4
set_option linter.unusedVariables false
set_option linter.unusedSimpArgs false

def iC (l : List Int) : List Value := l.map fun v => .int .i64 v
theorem iC_at {l : List Int} {k : Nat} (hk : k < l.length) : (iC l)[k]? = some (.int .i64 l[k]) := by simp [iC, List.getElem?_map, List.getElem?_eq_getElem hk]
def Bl (w0 w : World) : Prop := Below w0.heap.size w0 w
theorem Bl.start (w : World) : Bl w w := Below.refl _ _
theorem Bl.step {w0 w w' : World} (h : Bl w0 w) (hb : Below w.heap.size w w') : Bl w0 w' := Below.trans h (Below.mono hb (Below.size h))
theorem Bl.size {w0 w : World} (h : Bl w0 w) : w0.heap.size ≤ w.heap.size := Below.size h
theorem Bl.al {w0 w : World} (h : Bl w0 w) (o : Obj) : Bl w0 (w.alloc o) := h.step ((Below.refl _ _).alloc (Nat.le_refl _) _)
theorem Bl.lies {w0 w : World} {A : Option Addr} {cs : List Value} (h : Bl w0 w) (hl : Lies w0 A cs) : Lies w A cs := hl.below h
theorem Bl.setCell {w W : World} (h : Bl w W) {g j : Nat} (hg : w.heap.size ≤ g) (v : Value) : Bl w (W.setCell ⟨g, j, none⟩ v) := Below.setCell h (p := ⟨g, j, none⟩) hg v
/-- The slices of a query. -/
def QA (w : World) (A : Option Addr) (n : Nat) (S : Option Addr) (m : Nat) (B : Option Addr) (o : Nat) (L M : List Nd) (l : List Int) : Prop :=
  (Lies w A (ndCells L) ∧ L.length = n ∧ n ≤ maxLen) ∧ (Lies w S (iC l) ∧ l.length = m) ∧ (Lies w B (ndCells M) ∧ M.length = o ∧ o ≤ maxLen)
theorem QA.step {w w' : World} {A : Option Addr} {n : Nat} {S : Option Addr} {m : Nat} {B : Option Addr} {o : Nat} {L M : List Nd} {l : List Int} (h : QA w A n S m B o L M l) (hb : Below w.heap.size w w') : QA w' A n S m B o L M l :=
  ⟨⟨h.1.1.below hb, h.1.2⟩, ⟨h.2.1.1.below hb, h.2.1.2⟩, ⟨h.2.2.1.below hb, h.2.2.2⟩⟩
end Go.Proofs.YtlmamidodahgmaaGreatDoor.Q8

/- QWin: Contracts of within, badUnless, slides, Window, and the reference's Fits. -/
namespace Go.Proofs.YtlmamidodahgmaaGreatDoor.Q8
open Go.ChangeShapes Go.WideShapes Go.ChangeAt Go.RowKit N4
set_option linter.unusedVariables false
set_option linter.unusedSimpArgs false
set_option maxRecDepth 100000

theorem within_u8 (v a b : Int) (w : World) (x : Bool) (hx : inB v a b = x) : Calls Tryz.prog 65 #[.int .u8 v, .int .u8 a, .int .u8 b] w fun e w' => e = .returned (.bool x) ∧ w = w' := by
  have HX := Lib.hid hx
  clear hx
  by_cases h1 : a ≤ v <;> by_cases h2 : v ≤ b
  all_goals
    go_enter Tryz.func65, Tryz.ntmps65
    go_wp2
    go_ret
    exact ⟨ret_bool' (by rw [← HX.out]; simp [inB, h1, h2]), rfl⟩
theorem within_i64 (v a b : Int) (w : World) (x : Bool) (hx : inB v a b = x) : Calls Tryz.prog 93 #[.int .i64 v, .int .i64 a, .int .i64 b] w fun e w' => e = .returned (.bool x) ∧ w = w' := by
  have HX := Lib.hid hx
  clear hx
  by_cases h1 : a ≤ v <;> by_cases h2 : v ≤ b
  all_goals
    go_enter Tryz.func93, Tryz.ntmps93
    go_wp2
    go_ret
    exact ⟨ret_bool' (by rw [← HX.out]; simp [inB, h1, h2]), rfl⟩
theorem within_int (v a b : Int) (w : World) (x : Bool) (hx : inB v a b = x) : Calls Tryz.prog 78 #[.int .i64 v, .int .i64 a, .int .i64 b] w fun e w' => e = .returned (.bool x) ∧ w = w' := by
  have HX := Lib.hid hx
  clear hx
  by_cases h1 : a ≤ v <;> by_cases h2 : v ≤ b
  all_goals
    go_enter Tryz.func78, Tryz.ntmps78
    go_wp2
    go_ret
    exact ⟨ret_bool' (by rw [← HX.out]; simp [inB, h1, h2]), rfl⟩
theorem bad_any (b : Bool) (w : World) (v : Int) (hv : badE b = v) : Calls Tryz.prog 64 #[.bool b] w fun e w' => e = .returned (.int .i64 v) ∧ w = w' := by
  cases b
  · obtain rfl : v = 8 := hv.symm
    clear hv
    go_enter Tryz.func64, Tryz.ntmps64
    go_wp2
    go_ret
    exact ⟨rfl, rfl⟩
  · obtain rfl : v = 0 := hv.symm
    clear hv
    go_enter Tryz.func64, Tryz.ntmps64
    go_wp2
    go_ret
    exact ⟨rfl, rfl⟩
theorem slides_any (k s v : Int) (w : World) (hs : s ≤ 9223372036854775807) (x : Bool) (hx : slidesF s v = x) : Calls Tryz.prog 92 #[.agg #[.int .u8 k, .int .i64 s, .int .i64 v]] w fun e w' => e = .returned (.bool x) ∧ Below w.heap.size w w' := by
  have HX := Lib.hid hx
  clear hx
  cases hin : inB v 1 s
  · have HW := Lib.hid (fun W => within_i64 v 1 s W false hin)
    have HF := Lib.hid (show false = x by rw [← HX.out]; simp [slidesF, hin])
    clear hin
    go_enter Tryz.func92, Tryz.ntmps92
    go_wp2_with (go_at_call 93; refine (HW.out _).mono ?_; rintro e w1 ⟨rfl, rfl⟩)
    go_ret
    exact ⟨ret_bool' HF.out, (Below.refl _ _).alloc (Nat.le_refl _) _⟩
  · have HW := Lib.hid (fun W => within_i64 v 1 s W true hin)
    obtain ⟨h1, h2⟩ := inB_true.1 hin
    have h0 : 0 ≤ s - 1 := by omega
    by_cases h3 : (s - 1) / 16 < v
    all_goals
      have HF := Lib.hid (show decide ((s - 1) / 16 < v) = x by rw [← HX.out]; simp only [slidesF, hin, Bool.true_and]; exact decide_eq_decide.2 (by omega))
      clear hin
      go_enter Tryz.func92, Tryz.ntmps92
      go_wp2_with (go_at_call 93; refine (HW.out _).mono ?_; rintro e w1 ⟨rfl, rfl⟩)
      go_ret
      exact ⟨ret_bool' (by rw [← HF.out] <;> simp [h3]), (Below.refl _ _).alloc (Nat.le_refl _) _⟩
theorem win_slide (s v : Int) (w : World) (hs : s ≤ 9223372036854775807) (x : Int) (hx : winE 2 s v = x) : Calls Tryz.prog 69 #[.agg #[.int .u8 2, .int .i64 s, .int .i64 v]] w fun e w' => e = .returned (.int .i64 x) ∧ Below w.heap.size w w' := by
  have HX := Lib.hid hx
  clear hx
  have h1 : (Below w.heap.size w w) := Below.refl _ _
  cases hsl : slidesF s v
  · have HS := Lib.hid (fun W => slides_any 2 s v W hs false hsl)
    have HF := Lib.hid (show (8 : Int) = x by rw [← HX.out]; simp [winE, fitsW, hsl, badE])
    clear hsl hs
    go_enter Tryz.func69, Tryz.ntmps69
    go_wp2_with (go_at_call 92; refine (HS.out _).mono ?_; rintro e w1 ⟨rfl, hb⟩)
    go_ret
    exact ⟨ret_int' HF.out, ((Below.refl _ _).alloc (Nat.le_refl _) _).trans (hb.mono (by simp))⟩
  · have HS := Lib.hid (fun W => slides_any 2 s v W hs true hsl)
    cases hin : inB s 1 1073741824
    all_goals
      have HW := Lib.hid (fun W => within_i64 s 1 1073741824 W _ hin)
      have HB := Lib.hid (fun W => bad_any (inB s 1 1073741824) W x (by rw [← HX.out]; simp [winE, fitsW, hsl]))
      rw [hin] at HB
      clear hsl hs hin
      go_enter Tryz.func69, Tryz.ntmps69
      go_wp2_with (first
        | (go_at_call 92; refine (HS.out _).mono ?_; rintro e w1 ⟨rfl, hb⟩; obtain ⟨hc, hf⟩ := bcell hb; have hz := hb.size; have HB1 := Lib.hid (((Below.refl _ _).alloc (Nat.le_refl _) _).trans (hb.mono (by simp))); clear hb)
        | (go_at_call 93; refine (HW.out _).mono ?_; rintro e w2 ⟨rfl, rfl⟩)
        | (go_at_call 64; refine (HB.out _).mono ?_; rintro e w3 ⟨rfl, rfl⟩))
      go_ret
      exact ⟨rfl, HB1.out.setCell (by simp) _⟩
theorem win_plain (k s v : Int) (w : World) (hk : k = 1 ∨ k = 3) (x : Int) (hx : winE k s v = x) : Calls Tryz.prog 69 #[.agg #[.int .u8 k, .int .i64 s, .int .i64 v]] w fun e w' => e = .returned (.int .i64 x) ∧ Below w.heap.size w w' := by
  have HX := Lib.hid hx
  clear hx
  cases hin : inB s 1 1073741824 <;> by_cases hv : v = 0
  all_goals
    have HW := Lib.hid (fun W => within_i64 s 1 1073741824 W _ hin)
    have HB := Lib.hid (fun W => bad_any (inB s 1 1073741824 && decide (v = 0)) W x (by rw [← HX.out]; rcases hk with rfl | rfl <;> simp [winE, fitsW]))
    simp only [hin, hv, decide_true, decide_false, Bool.and_true, Bool.and_false, Bool.false_and, Bool.true_and] at HB
    have hvb : (v == 0) = decide (v = 0) := rfl
    simp only [hv, decide_true, decide_false] at hvb
    rcases hk with rfl | rfl
    all_goals
      clear hin
      go_enter Tryz.func69, Tryz.ntmps69
      go_wp2_with (first
        | (go_at_call 93; refine (HW.out _).mono ?_; rintro e w2 ⟨rfl, rfl⟩)
        | (go_at_call 64; refine (HB.out _).mono ?_; rintro e w3 ⟨rfl, rfl⟩))
      go_ret
      exact ⟨rfl, (Below.refl _ _).alloc (Nat.le_refl _) _⟩
theorem win_other (k s v : Int) (w : World) (h1 : k ≠ 1) (h2 : k ≠ 2) (h3 : k ≠ 3) (x : Int) (hx : winE k s v = x) : Calls Tryz.prog 69 #[.agg #[.int .u8 k, .int .i64 s, .int .i64 v]] w fun e w' => e = .returned (.int .i64 x) ∧ Below w.heap.size w w' := by
  have HX := Lib.hid (show (8 : Int) = x by rw [← hx]; simp [winE, fitsW, badE, h1, h2, h3])
  clear hx
  go_enter Tryz.func69, Tryz.ntmps69
  go_wp2
  go_ret
  exact ⟨ret_int' HX.out, (Below.refl _ _).alloc (Nat.le_refl _) _⟩
theorem win_any (k s v : Int) (w : World) (hs : s ≤ 9223372036854775807) (x : Int) (hx : winE k s v = x) : Calls Tryz.prog 69 #[.agg #[.int .u8 k, .int .i64 s, .int .i64 v]] w fun e w' => e = .returned (.int .i64 x) ∧ Below w.heap.size w w' := by
  by_cases h1 : k = 1
  · exact win_plain k s v w (.inl h1) x hx
  by_cases h3 : k = 3
  · exact win_plain k s v w (.inr h3) x hx
  by_cases h2 : k = 2
  · subst h2; exact win_slide s v w hs x hx
  · exact win_other k s v w h1 h2 h3 x hx

/-! ### the reference's -/
theorem fits_out (k s v : Int) (w : World) (h : inB s 1 1073741824 = false) (x : Bool) (hx : fitsW k s v = x) : Calls Tryz.prog 22 #[.agg #[.int .u8 k, .int .i64 s, .int .i64 v]] w fun e w' => e = .returned (.bool x) ∧ Below w.heap.size w w' := by
  obtain rfl : false = x := by rw [← hx]; simp [fitsW, h]
  have h' : s < 1 ∨ 1 ≤ s ∧ 1073741824 < s := by
    have : ¬ (1 ≤ s ∧ s ≤ 1073741824) := fun hh => by rw [inB_true.2 hh] at h; cases h
    omega
  clear hx h
  rcases h' with h | ⟨h, h'⟩
  all_goals
    go_enter Tryz.func22, Tryz.ntmps22
    go_wp2
    go_ret
    exact ⟨rfl, (Below.refl _ _).alloc (Nat.le_refl _) _⟩
theorem fits_slide (s v : Int) (w : World) (h : inB s 1 1073741824 = true) (x : Bool) (hx : fitsW 2 s v = x) : Calls Tryz.prog 22 #[.agg #[.int .u8 2, .int .i64 s, .int .i64 v]] w fun e w' => e = .returned (.bool x) ∧ Below w.heap.size w w' := by
  obtain ⟨h1, h2⟩ := inB_true.1 h
  have HX := Lib.hid (show (decide (1 ≤ v) && (decide (v ≤ s) && decide (s ≤ 16 * v))) = x by rw [← hx]; simp only [fitsW, h, Bool.true_and, if_true]; simp [slidesF, inB, Bool.and_assoc])
  clear hx h
  by_cases h3 : 1 ≤ v
  · by_cases h4 : v ≤ s
    · have h5 : 0 ≤ 16 * v := by omega
      have h6 : 16 * v ≤ 17179869184 := by omega
      by_cases h7 : s ≤ 16 * v
      all_goals
        go_enter Tryz.func22, Tryz.ntmps22
        go_wp2
        go_ret
        exact ⟨ret_bool' (by rw [← HX.out]; simp [h3, h4, h7]), (Below.refl _ _).alloc (Nat.le_refl _) _⟩
    · go_enter Tryz.func22, Tryz.ntmps22
      go_wp2
      go_ret
      exact ⟨ret_bool' (by rw [← HX.out]; simp <;> omega), (Below.refl _ _).alloc (Nat.le_refl _) _⟩
  · go_enter Tryz.func22, Tryz.ntmps22
    go_wp2
    go_ret
    exact ⟨ret_bool' (by rw [← HX.out]; simp <;> omega), (Below.refl _ _).alloc (Nat.le_refl _) _⟩
theorem fits_other (k s v : Int) (w : World) (h : inB s 1 1073741824 = true) (hk : k ≠ 2) (x : Bool) (hx : fitsW k s v = x) : Calls Tryz.prog 22 #[.agg #[.int .u8 k, .int .i64 s, .int .i64 v]] w fun e w' => e = .returned (.bool x) ∧ Below w.heap.size w w' := by
  obtain ⟨h1, h2⟩ := inB_true.1 h
  have HX := Lib.hid (show ((decide (k = 1) || decide (k = 3)) && decide (v = 0)) = x by rw [← hx]; simp [fitsW, h, hk])
  clear hx h
  by_cases h3 : k = 1
  · by_cases h4 : v = 0
    all_goals
      subst h3
      go_enter Tryz.func22, Tryz.ntmps22
      go_wp2
      go_ret
      exact ⟨ret_bool' (by rw [← HX.out]; simp [h4]), (Below.refl _ _).alloc (Nat.le_refl _) _⟩
  · by_cases h5 : k = 3
    · by_cases h4 : v = 0
      all_goals
        subst h5
        go_enter Tryz.func22, Tryz.ntmps22
        go_wp2
        go_ret
        exact ⟨ret_bool' (by rw [← HX.out]; simp [h4]), (Below.refl _ _).alloc (Nat.le_refl _) _⟩
    · go_enter Tryz.func22, Tryz.ntmps22
      go_wp2
      go_ret
      exact ⟨ret_bool' (by rw [← HX.out]; simp [h3, h5]), (Below.refl _ _).alloc (Nat.le_refl _) _⟩
theorem fits_any (k s v : Int) (w : World) (x : Bool) (hx : fitsW k s v = x) : Calls Tryz.prog 22 #[.agg #[.int .u8 k, .int .i64 s, .int .i64 v]] w fun e w' => e = .returned (.bool x) ∧ Below w.heap.size w w' := by
  cases h : inB s 1 1073741824
  · exact fits_out k s v w h x hx
  by_cases hk : k = 2
  · subst hk; exact fits_slide s v w h x hx
  · exact fits_other k s v w h hk x hx
end Go.Proofs.YtlmamidodahgmaaGreatDoor.Q8

/- QSrc: Contracts of nameless, ContainsFunc, Sources, and of the reference's. -/
namespace Go.Proofs.YtlmamidodahgmaaGreatDoor.Q8
open Go.ChangeShapes Go.WideShapes Go.ChangeAt Go.RowKit N4
set_option linter.unusedVariables false
set_option linter.unusedSimpArgs false
set_option maxRecDepth 100000

theorem nameless_any (v : Int) (w : World) (x : Bool) (hx : nl v = x) : Calls Tryz.prog 51 #[.int .i64 v] w fun e w' => e = .returned (.bool x) ∧ w = w' := by
  have HX := Lib.hid hx
  cases hin : inB v 0 3
  all_goals
    have HW := Lib.hid (fun W => within_int v 0 3 W _ hin)
    have HF := Lib.hid (show (!inB v 0 3) = x from HX.out)
    rw [hin] at HF
    clear hx hin
    go_enter Tryz.func51, Tryz.ntmps51
    go_wp2_with (go_at_call 78; refine (HW.out _).mono ?_; rintro e w1 ⟨rfl, rfl⟩)
    go_ret
    exact ⟨ret_bool' HF.out, rfl⟩
def IdxPost (l : List Int) (w : World) (e : Ending) (w' : World) : Prop := ∃ i : Int, e = .returned (.int .i64 i) ∧ decide (0 ≤ i) = l.any nl ∧ w = w'
theorem idx_any (A : Option Addr) (c n : Nat) (l : List Int) (w : World) (hn : l.length = n) (hL : n ≤ maxLen) (ht : Lies w A (iC l)) :
    Calls Tryz.prog 108 #[.slice A n c, .func (.func 51) #[] #[]] w (IdxPost l w) := by
  have HT := Lib.hid ht
  have HN := Lib.hid hn
  unfold maxLen at hL
  clear ht hn
  go_enter Tryz.func108, Tryz.ntmps108
  go_wp2
  go_loop [8] (fun i => ∃ k : Nat, i = .int .i64 k ∧ k ≤ n ∧ Hid ((l.take k).any nl = false)) (fun i => n - (intOf i).toNat)
  case atStart => exact ⟨0, rfl, Nat.zero_le _, rfl⟩
  case round =>
    obtain ⟨k, rfl, hk, HK⟩ := hrel
    by_cases hlt : k < n
    · have hkl : k < l.length := by rw [HN.out]; exact hlt
      obtain ⟨ad, rfl, hadl, c0⟩ := HT.out.one (iC_at hkl)
      have hab : (ad.add k).block < w.heap.size := by rw [add_block]; exact hadl
      have j2 : (k : Int) < (n : Int) := by omega
      have HA := Lib.hid (any_snoc hkl)
      cases hx : nl l[k]
      · have HW := Lib.hid (fun W => nameless_any l[k] W false hx)
        have HK' := Lib.hid (show (l.take (k + 1)).any nl = false by rw [HA.out, HK.out, hx]; rfl)
        generalize l[k] = v at c0 HW HA
        clear hx hadl hkl
        go_wp2_with (go_at_call 51; refine (HW.out _).mono ?_; rintro e w1 ⟨rfl, rfl⟩)
        go_round
        case rel => exact ⟨k + 1, by go_num, by omega, HK'⟩
        case measure => simp [intOf]; omega
      · have HW := Lib.hid (fun W => nameless_any l[k] W true hx)
        have HF := Lib.hid (show l.any nl = true from List.any_eq_true.2 ⟨l[k], List.getElem_mem hkl, hx⟩)
        generalize l[k] = v at c0 HW HA
        clear hx hadl hkl
        go_wp2_with (go_at_call 51; refine (HW.out _).mono ?_; rintro e w1 ⟨rfl, rfl⟩)
        go_ret
        exact ⟨_, rfl, by rw [HF.out]; exact decide_eq_true (Int.natCast_nonneg _), rfl⟩
    · obtain rfl : n = k := by omega
      have HF := Lib.hid (show l.any nl = false by have := HK.out; rwa [List.take_of_length_le (by rw [HN.out]; exact Nat.le_refl _)] at this)
      go_wp2
      go_ret
      exact ⟨_, rfl, by rw [HF.out]; rfl, rfl⟩
theorem cont_any (A : Option Addr) (c n : Nat) (l : List Int) (w : World) (hn : l.length = n) (hL : n ≤ maxLen) (ht : Lies w A (iC l)) (x : Bool) (hx : l.any nl = x) :
    Calls Tryz.prog 91 #[.slice A n c, .func (.func 51) #[] #[]] w fun e w' => e = .returned (.bool x) ∧ w = w' := by
  have HI := Lib.hid (idx_any A c n l w hn hL ht)
  have HX := Lib.hid hx
  clear hn ht hx hL
  go_enter Tryz.func91, Tryz.ntmps91
  go_wp2_with (go_at_call 108; refine HI.out.mono ?_; rintro e w1 ⟨i, rfl, hi, rfl⟩; have HI2 := Lib.hid hi; clear hi)
  go_ret
  exact ⟨ret_bool' (by rw [← HX.out, ← HI2.out]), rfl⟩

/-! ### the map -/
open Go.Maps
def kys (l : List Int) : List Lit := l.map (Lit.int .i64 ·)
def setD (l : List Int) : DataW Unit := Maps.setOf (.lit (.bool true)) (kys l)
theorem atKey_out (u z : DataW Unit) (k : Lit) : ∀ (acc : List Lit) (m : DataW Unit), k ∉ acc → (acc.foldl (fun m x => m.put x u) m).atKey k z = m.atKey k z := by
  intro acc
  induction acc with
  | nil => intro m _; rfl
  | cons x r ih =>
    intro m hk
    rw [List.mem_cons, not_or] at hk
    rw [List.foldl_cons, ih _ hk.2, atKey_put_other hk.1 u z]
theorem atKey_in (u z : DataW Unit) (k : Lit) : ∀ (acc : List Lit) (m : DataW Unit), IsMap m → (∀ x ∈ acc, WideAt.IsKeyLit x) → k ∈ acc → (acc.foldl (fun m x => m.put x u) m).atKey k z = u := by
  intro acc
  induction acc with
  | nil => intro m _ _ h; cases h
  | cons x r ih =>
    intro m hm hk h
    rw [List.foldl_cons]
    by_cases h1 : k ∈ r
    · exact ih _ (hm.put x u) (fun y hy => hk y (List.mem_cons_of_mem _ hy)) h1
    · rcases List.mem_cons.1 h with rfl | h
      · rw [atKey_out _ _ _ _ _ h1]
        exact atKey_put_same hm (hk k (List.mem_cons_self ..)) u z
      · exact absurd h h1
theorem kys_lit (l : List Int) : ∀ x ∈ kys l, WideAt.IsKeyLit x := by
  intro x hx
  obtain ⟨a, _, rfl⟩ := List.mem_map.1 hx
  trivial
theorem setD_at (l : List Int) (v : Int) : (setD l).atKey (.int .i64 v) (.lit (.bool false)) = .lit (.bool (decide (v ∈ l))) := by
  unfold setD Maps.setOf
  have : (Lit.int .i64 v ∈ kys l) ↔ v ∈ l := by simp [kys]
  by_cases h : v ∈ l
  · rw [atKey_in _ _ _ _ _ isMap_empty (kys_lit l) (this.2 h)]; simp [h]
  · rw [atKey_out _ _ _ _ _ (fun hh => h (this.1 hh))]; simp [h]; rfl
theorem setD_snoc (l : List Int) (v : Int) : setD (l ++ [v]) = (setD l).put (.int .i64 v) (.lit (.bool true)) := by
  unfold setD kys
  rw [List.map_append]
  exact setOf_snoc _ _ _
theorem plainElem_bool_inv {P : Program} {e : TypeId} (he : P.underlying e = some .bool) {v : Value} {b : Bool} {ps : List MemPlace} (h : plainElem (H := Unit) P e v = some (.lit (.bool b), ps)) : v = .bool b := by
  unfold plainElem at h
  rw [he] at h
  cases v <;> simp at h
  rw [h.1]
/-- A look-up in a map of bools that the call made. -/
theorem wpList_lookup_own_bool {P : Program} (w : World) {ops : Array Oper} {rest : List Oper} {o : Oper} {a : Act} {Q : Exit → Act → World → Prop}
    (hg : o.guard = none) (m x : Operand) (t : TypeId) (hop : o.op = Op.lookup t m x false)
    (k e : TypeId) (K : Keyed P k) (ht : P.underlying t = some (.map k e)) (he : P.underlying e = some .bool) (hz : (zeroValue e).run P w = .ok (.bool false) w) (b n : Nat) (D : DataW Unit)
    (hm : a.eval m = .map (some b)) (hown : w.ownsMap P k (plainElem P e) b n D) (key : Value) (kl : Lit) (hx : a.eval x = key) (hkey : keyOf P k key = some kl) (y : Bool) (hy : D.atKey kl (.lit (.bool false)) = .lit (.bool y))
    (hK : wpList P ops Q rest (a.put o.dst (.bool y)) w) :
    wpList P ops Q (o :: rest) a w := by
  refine wpList_plain hg fun K' hK' => ?_
  obtain ⟨v, ps, hrun, hv⟩ := hown.lookup K ht hz (plainElem_bool he false) hkey
  rw [hy] at hv
  obtain rfl := plainElem_bool_inv he hv
  unfold Oper.wp
  simp [execOp, hop, hm, hx, hrun, Result.andThen]
  exact hK' _ _ hK
theorem kint : Keyed Tryz.prog 3 := int_keyed Tryz.underlying3
theorem zbool (w : World) : (zeroValue 4).run Tryz.prog w = .ok (.bool false) w := by kernel_rfl
def SM (w : World) (l : List Int) (k : Nat) (W : World) : Prop := W.ownsMap Tryz.prog 3 (plainElem Tryz.prog 4) w.heap.size k (setD (l.take k)) ∧ Below w.heap.size w W
theorem src_loop (A : Option Addr) (c n : Nat) (l : List Int) (j : Bool) (w : World) (hn : l.length = n) (h4 : n ≤ 4) (h0 : n ≠ 0) (ht : Lies w A (iC l)) (hj : j = true → n = 2) (hal : l.any nl = false) (x : Int) (hx : (if l.Nodup then (0 : Int) else 43) = x) :
    Calls Tryz.prog 68 #[.slice A n c, .bool j] w fun e w' => e = .returned (.int .i64 x) ∧ Below w.heap.size w w' := by
  have HT := Lib.hid ht
  have HN := Lib.hid hn
  have HX := Lib.hid hx
  have HC := Lib.hid (fun W (hb : Below w.heap.size w W) => cont_any A c n l W hn (by unfold maxLen; omega) (ht.below hb) false hal)
  have HR : ∀ v ∈ l, 0 ≤ v ∧ v ≤ 3 := fun v hv => by
    have := List.any_eq_false.1 hal v hv
    unfold nl at this
    exact inB_true.1 (by simpa using this)
  have HRh := Lib.hid HR
  have HK0 := Lib.hid (show SM w l 0 (w.alloc (.map #[] 0)) from ⟨World.ownsMap_made _ _ _ _, (Below.refl _ _).alloc (Nat.le_refl _) _⟩)
  have hmm := @run_makeMap Tryz.prog
  have hnz : (n == 0) = false := by simpa using h0
  have hni : ((n : Int) == 0) = false := by simpa using h0
  have h5 : ¬ (4 < n) := by omega
  clear ht hn hx hal HR
  have main : ∀ jj : Bool, jj = j → Calls Tryz.prog 68 #[.slice A n c, .bool jj] w fun e w' => e = .returned (.int .i64 x) ∧ Below w.heap.size w w' := by
    intro jj hjj
    cases hjx : jj
    all_goals
      have hB : jj = true → ((n : Int) != 2) = false ∧ ((n : Int) == 2) = true := fun h => by rw [hj (hjj ▸ h)]; exact ⟨rfl, rfl⟩
      first
        | (have hB1 := (hB hjx).1; have hB2 := (hB hjx).2)
        | skip
      clear hjj hj hB hjx
      go_enter Tryz.func68, Tryz.ntmps68
      go_wp2_with (go_at_call 91; refine (HC.out _ (Below.refl _ _)).mono ?_; rintro e w1 ⟨rfl, rfl⟩)
      go_loopw [29] (fun i wr => ∃ k : Nat, i = .int .i64 k ∧ k ≤ n ∧ Hid ((l.take k).Nodup) ∧ Hid (SM w l k wr)) (fun i _ => n - (intOf i).toNat)
      case atStart => exact ⟨0, rfl, Nat.zero_le _, by show (l.take 0).Nodup; simp, HK0.out⟩
      case round =>
        obtain ⟨k, rfl, hk, HD, HK⟩ := hrel
        clear HK0
        by_cases hlt : k < n
        · have hkl : k < l.length := by rw [HN.out]; exact hlt
          obtain ⟨ad, rfl, hadl, c0⟩ := (HT.out.below HK.out.2).one (iC_at hkl)
          have hab : (ad.add k).block < wr.heap.size := by rw [add_block]; exact hadl
          have j2 : (k : Int) < (n : Int) := by omega
          obtain ⟨r1, r2⟩ := HRh.out l[k] (List.getElem_mem hkl)
          have hkey : Hid (keyOf Tryz.prog 3 (.int .i64 l[k]) = some (.int .i64 l[k])) := keyOf_int_mk Tryz.underlying3 (WalkArith.wf_i64 (by omega))
          have HS := Lib.hid (nodup_snoc hkl)
          have HE := Lib.hid (show l.take (k + 1) = l.take k ++ [l[k]] from List.take_succ_eq_append_getElem hkl)
          by_cases hx : l[k] ∈ l.take k
          · have HA := Lib.hid (show (setD (l.take k)).atKey (.int .i64 l[k]) (.lit (.bool false)) = .lit (.bool true) by rw [setD_at, decide_eq_true hx])
            have HF := Lib.hid (show (43 : Int) = x by rw [← HX.out, if_neg]; intro hh; exact ((HS.out).1 (nodup_take hh _)).2 hx)
            generalize l[k] = v at c0 hkey HA
            clear hx hadl hkl HS HE r1 r2
            go_wp2_with (first
              | (at_lookup; refine wpList_lookup_own_bool _ rfl _ _ 135 rfl 3 4 kint Tryz.underlying135 Tryz.underlying4 (zbool _) w.heap.size k _ rfl HK.out.1 _ _ rfl hkey true HA.out ?_)
              | go_in)
            go_ret
            exact ⟨ret_int' HF.out, HK.out.2⟩
          · have HA := Lib.hid (show (setD (l.take k)).atKey (.int .i64 l[k]) (.lit (.bool false)) = .lit (.bool false) by rw [setD_at, decide_eq_false hx])
            have HD' := Lib.hid ((HS.out).2 ⟨HD.out, hx⟩)
            generalize l[k] = v at c0 hkey HA HE
            clear hx hadl hkl HS r1 r2
            go_wp2_with (first
              | (at_lookup; refine wpList_lookup_own_bool _ rfl _ _ 135 rfl 3 4 kint Tryz.underlying135 Tryz.underlying4 (zbool _) w.heap.size k _ rfl HK.out.1 _ _ rfl hkey false HA.out ?_)
              | (at_mapUpdate; refine wpList_mapUpdate_own _ rfl _ _ _ 135 rfl 3 4 kint Tryz.underlying135 _ w.heap.size k _ rfl HK.out.1 (by unfold maxLen; omega) _ _ _ rfl rfl hkey _ [] (plainElem_bool Tryz.underlying4 true) ?_; intro w1 hown1 hgrow1; have HM := Lib.hid (show SM w l (k + 1) w1 from ⟨by rw [HE.out, setD_snoc]; exact hown1, HK.out.2.grown hgrow1 HK.out.2.size (fun j hj => (by cases hj; exact Nat.le_refl _))⟩); clear hown1 hgrow1)
              | go_in)
            go_roundw
            case rel => exact ⟨k + 1, by go_num, by omega, HD', HM⟩
            case measure => simp [intOf]; omega
        · obtain rfl : n = k := by omega
          have HF := Lib.hid (show (0 : Int) = x by rw [← HX.out, if_pos]; have := HD.out; rwa [List.take_of_length_le (by rw [HN.out]; exact Nat.le_refl _)] at this)
          go_wp2
          go_ret
          exact ⟨ret_int' HF.out, HK.out.2⟩
  exact main j rfl
theorem src_any (A : Option Addr) (c n : Nat) (l : List Int) (j : Bool) (w : World) (hn : l.length = n) (ht : Lies w A (iC l)) (x : Int) (hx : srcF l j = x) :
    Calls Tryz.prog 68 #[.slice A n c, .bool j] w fun e w' => e = .returned (.int .i64 x) ∧ Below w.heap.size w w' := by
  unfold srcF at hx
  rw [hn] at hx
  by_cases h4 : 4 < n
  · rw [if_pos h4] at hx
    subst hx
    clear ht hn
    have h4i : (4 : Int) < n := by omega
    go_enter Tryz.func68, Tryz.ntmps68
    go_wp2
    go_ret
    exact ⟨rfl, Below.refl _ _⟩
  rw [if_neg h4] at hx
  by_cases h0 : n = 0
  · rw [if_pos h0] at hx
    subst hx h0
    clear ht hn h4
    go_enter Tryz.func68, Tryz.ntmps68
    go_wp2
    go_ret
    exact ⟨rfl, Below.refl _ _⟩
  rw [if_neg h0] at hx
  have hnz : (n == 0) = false := by simpa using h0
  have hni : ((n : Int) == 0) = false := by simpa using h0
  by_cases h2 : j = true ∧ n ≠ 2
  · rw [if_pos h2] at hx
    obtain ⟨rfl, h2⟩ := h2
    subst hx
    have hB1 : ((n : Int) != 2) = true := by rw [bne_iff_ne]; omega
    have hB2 : ((n : Int) == 2) = false := by rw [beq_eq_false_iff_ne]; omega
    have h5 : ¬ (4 < n) := by omega
    clear ht hn h4 h0 h2
    go_enter Tryz.func68, Tryz.ntmps68
    go_wp2
    go_ret
    exact ⟨rfl, Below.refl _ _⟩
  rw [if_neg h2] at hx
  cases hal : l.any nl
  · rw [hal, if_neg (by simp)] at hx
    exact src_loop A c n l j w hn (by omega) h0 ht (fun hj => Decidable.byContradiction fun hh => h2 ⟨hj, hh⟩) hal x hx
  · rw [hal, if_pos rfl] at hx
    subst hx
    have HC := Lib.hid (cont_any A c n l w hn (by unfold maxLen; omega) ht true hal)
    have hB : j = true → ((n : Int) != 2) = false ∧ ((n : Int) == 2) = true := fun h => by rw [show n = 2 from Decidable.byContradiction fun hh => h2 ⟨h, hh⟩]; exact ⟨rfl, rfl⟩
    have h5 : ¬ (4 < n) := by omega
    clear ht hn h4 h0 h2 hal
    cases j
    · clear hB
      go_enter Tryz.func68, Tryz.ntmps68
      go_wp2_with (go_at_call 91; refine HC.out.mono ?_; rintro e w1 ⟨rfl, rfl⟩)
      go_ret
      exact ⟨rfl, Below.refl _ _⟩
    · obtain ⟨hB1, hB2⟩ := hB rfl
      clear hB
      go_enter Tryz.func68, Tryz.ntmps68
      go_wp2_with (go_at_call 91; refine HC.out.mono ?_; rintro e w1 ⟨rfl, rfl⟩)
      go_ret
      exact ⟨rfl, Below.refl _ _⟩
end Go.Proofs.YtlmamidodahgmaaGreatDoor.Q8

/- QSrc2: Contracts of the reference's Sources and SameSources, and of slices.Equal. -/
namespace Go.Proofs.YtlmamidodahgmaaGreatDoor.Q8
open Go.ChangeShapes Go.WideShapes Go.ChangeAt Go.RowKit N4
set_option linter.unusedVariables false
set_option linter.unusedSimpArgs false
set_option maxRecDepth 100000

theorem take_snoc_int {l : List Int} {k : Nat} (hk : k < l.length) : l.take (k + 1) = l.take k ++ [l[k]] := List.take_succ_eq_append_getElem hk
theorem int_at {l m : List Int} {k : Nat} (hk : k < l.length) (hm : k < m.length) (h : l[k] ≠ m[k]) : decide (l = m) = false := by
  rw [decide_eq_false_iff_not]; intro e; subst e; exact h rfl
set_option maxHeartbeats 2000000 in
theorem samesrc_any (A A' : Option Addr) (n n' c c' : Nat) (l m : List Int) (w : World) (hn : l.length = n) (hn' : m.length = n') (hL : n ≤ 1000) (hM : n' ≤ 1000) (ht : Lies w A (iC l)) (ht' : Lies w A' (iC m)) (v : Bool) (hv : decide (l = m) = v) :
    Calls Tryz.prog 41 #[.slice A n c, .slice A' n' c'] w fun e w' => e = .returned (.bool v) ∧ Below w.heap.size w w' := by
  have HT := Lib.hid ht
  have HT' := Lib.hid ht'
  have HN := Lib.hid hn
  have HN' := Lib.hid hn'
  have HV := Lib.hid hv
  clear ht ht' hn hn' hv
  by_cases hnn : n = n'
  · subst hnn
    go_enter Tryz.func41, Tryz.ntmps41
    go_wp2
    go_loopw [5] (fun i wr => ∃ k d : Nat, k ≤ n ∧ i = .int .i64 k ∧ wr = w.drewN d ∧ Hid (l.take k = m.take k)) (fun i _ => n - (intOf i).toNat)
    case atStart => exact ⟨0, 0, Nat.zero_le _, rfl, rfl, Lib.hid (by simp)⟩
    case round =>
      obtain ⟨k, d, hk, rfl, rfl, HK⟩ := hrel
      by_cases hlt : k < n
      · have hkl : k < l.length := by rw [HN.out]; exact hlt
        have hkm : k < m.length := by rw [HN'.out]; exact hlt
        obtain ⟨ad, rfl, hadl, c0⟩ := HT.out.one (iC_at hkl)
        obtain ⟨ad', rfl, hadl', d0⟩ := HT'.out.one (iC_at hkm)
        have HX := Lib.hid (take_snoc_int hkl)
        have HY := Lib.hid (take_snoc_int hkm)
        have HZ := Lib.hid (fun h => int_at (l := l) (m := m) hkl hkm h)
        have q3 : (0 : Int) ≤ k := by omega
        have q4 : (k : Int) < n := by omega
        generalize l[k] = x at c0 HX HZ
        generalize m[k] = y at d0 HY HZ
        clear hkl hkm hadl hadl'
        by_cases hxy : x = y
        · subst hxy
          go_wp2
          go_quiet (fail)
          go_wp2
          go_roundw
          case rel => exact ⟨k + 1, _, by omega, by go_num, rfl, Lib.hid (by rw [HX.out, HY.out, HK.out])⟩
          case measure => simp [intOf]; omega
        · have HF := Lib.hid (HZ.out hxy)
          have q1 : (x == y) = false := by simpa using hxy
          have q2 : (x != y) = true := by simpa using hxy
          go_wp2
          go_quiet (fail)
          go_wp2
          go_ret
          exact ⟨ret_bool' (by rw [← HV.out, HF.out]), Below.drewN' (bd_drewN _ _) _⟩
      · have HF := Lib.hid (show l = m by
          have := HK.out
          rwa [List.take_of_length_le (by rw [HN.out]; omega), List.take_of_length_le (by rw [HN'.out]; omega)] at this)
        go_wp2
        go_ret
        exact ⟨ret_bool' (by rw [← HV.out, HF.out]; simp), bd_drewN _ _⟩
  · have HF := Lib.hid (show decide (l = m) = false by rw [decide_eq_false_iff_not]; intro e; subst e; exact hnn (HN.out.symm.trans HN'.out))
    have e1 : ((n : Int) == n') = false := by simp; omega
    have e2 : ((n : Int) != n') = true := by simp; omega
    clear hnn
    go_enter Tryz.func41, Tryz.ntmps41
    go_wp2
    go_ret
    exact ⟨ret_bool' (by rw [← HV.out, HF.out]), Below.refl _ _⟩
set_option maxHeartbeats 2000000 in
theorem eqint_any (A A' : Option Addr) (n n' c c' : Nat) (l m : List Int) (w : World) (hn : l.length = n) (hn' : m.length = n') (hL : n ≤ 1000) (hM : n' ≤ 1000) (ht : Lies w A (iC l)) (ht' : Lies w A' (iC m)) (v : Bool) (hv : decide (l = m) = v) :
    Calls Tryz.prog 35 #[.slice A n c, .slice A' n' c'] w fun e w' => e = .returned (.bool v) ∧ Below w.heap.size w w' := by
  have HT := Lib.hid ht
  have HT' := Lib.hid ht'
  have HN := Lib.hid hn
  have HN' := Lib.hid hn'
  have HV := Lib.hid hv
  clear ht ht' hn hn' hv
  by_cases hnn : n = n'
  · subst hnn
    go_enter Tryz.func35, Tryz.ntmps35
    go_wp2
    go_loopw [13] (fun i wr => ∃ k d : Nat, k ≤ n ∧ i = .int .i64 k ∧ wr = w.drewN d ∧ Hid (l.take k = m.take k)) (fun i _ => n - (intOf i).toNat)
    case atStart => exact ⟨0, 0, Nat.zero_le _, rfl, rfl, Lib.hid (by simp)⟩
    case round =>
      obtain ⟨k, d, hk, rfl, rfl, HK⟩ := hrel
      by_cases hlt : k < n
      · have hkl : k < l.length := by rw [HN.out]; exact hlt
        have hkm : k < m.length := by rw [HN'.out]; exact hlt
        obtain ⟨ad, rfl, hadl, c0⟩ := HT.out.one (iC_at hkl)
        obtain ⟨ad', rfl, hadl', d0⟩ := HT'.out.one (iC_at hkm)
        have HX := Lib.hid (take_snoc_int hkl)
        have HY := Lib.hid (take_snoc_int hkm)
        have HZ := Lib.hid (fun h => int_at (l := l) (m := m) hkl hkm h)
        have q3 : (0 : Int) ≤ k := by omega
        have q4 : (k : Int) < n := by omega
        generalize l[k] = x at c0 HX HZ
        generalize m[k] = y at d0 HY HZ
        clear hkl hkm hadl hadl'
        by_cases hxy : x = y
        · subst hxy
          go_wp2
          go_quiet (fail)
          go_wp2
          go_roundw
          case rel => exact ⟨k + 1, _, by omega, by go_num, rfl, Lib.hid (by rw [HX.out, HY.out, HK.out])⟩
          case measure => simp [intOf]; omega
        · have HF := Lib.hid (HZ.out hxy)
          have q1 : (x == y) = false := by simpa using hxy
          have q2 : (x != y) = true := by simpa using hxy
          go_wp2
          go_quiet (fail)
          go_wp2
          go_ret
          exact ⟨ret_bool' (by rw [← HV.out, HF.out]), Below.drewN' (bd_drewN _ _) _⟩
      · have HF := Lib.hid (show l = m by
          have := HK.out
          rwa [List.take_of_length_le (by rw [HN.out]; omega), List.take_of_length_le (by rw [HN'.out]; omega)] at this)
        go_wp2
        go_ret
        exact ⟨ret_bool' (by rw [← HV.out, HF.out]; simp), bd_drewN _ _⟩
  · have HF := Lib.hid (show decide (l = m) = false by rw [decide_eq_false_iff_not]; intro e; subst e; exact hnn (HN.out.symm.trans HN'.out))
    have e1 : ((n : Int) == n') = false := by simp; omega
    have e2 : ((n : Int) != n') = true := by simp; omega
    clear hnn
    go_enter Tryz.func35, Tryz.ntmps35
    go_wp2
    go_ret
    exact ⟨ret_bool' (by rw [← HV.out, HF.out]), Below.refl _ _⟩
set_option maxHeartbeats 2000000 in
theorem rsrc_loop (A : Option Addr) (c n : Nat) (l : List Int) (j : Bool) (w : World) (hn : l.length = n) (h4 : n ≤ 4) (h0 : n ≠ 0) (ht : Lies w A (iC l)) (hB : j = true → ((n : Int) != 2) = false ∧ ((n : Int) == 2) = true) (x : Int) (hx : (if l.any nl = true then (8 : Int) else if l.Nodup then (0 : Int) else 43) = x) :
    Calls Tryz.prog 21 #[.slice A n c, .bool j] w fun e w' => e = .returned (.int .i64 x) ∧ Below w.heap.size w w' := by
  have HT := Lib.hid ht
  have HN := Lib.hid hn
  have HX := Lib.hid hx
  have hnz : (n == 0) = false := by simpa using h0
  have hni : ((n : Int) == 0) = false := by simpa using h0
  have h5 : ¬ (4 < n) := by omega
  clear ht hn hx h0
  cases hjx : j
  all_goals
    first
      | (have hB1 := (hB hjx).1; have hB2 := (hB hjx).2)
      | skip
    clear hB hjx
    go_enter Tryz.func21, Tryz.ntmps21
    go_wp2
    go_loop [5] (fun i => ∃ k : Nat, i = .int .i64 k ∧ k ≤ n ∧ Hid ((l.take k).any nl = false)) (fun i => n - (intOf i).toNat)
    case atStart => exact ⟨0, rfl, Nat.zero_le _, rfl⟩
    case round =>
      obtain ⟨k, rfl, hk, HK⟩ := hrel
      by_cases hlt : k < n
      · have hkl : k < l.length := by rw [HN.out]; exact hlt
        obtain ⟨ad, rfl, hadl, c0⟩ := HT.out.one (iC_at hkl)
        have hab : (ad.add k).block < w.heap.size := by rw [add_block]; exact hadl
        have j1 : (0 : Int) ≤ k := by omega
        have j2 : (k : Int) < (n : Int) := by omega
        have HA := Lib.hid (any_snoc hkl)
        have HG := Lib.hid (show nl l[k] = true → 8 = x from fun hh => by rw [← HX.out, if_pos (List.any_eq_true.2 ⟨l[k], List.getElem_mem hkl, hh⟩)])
        generalize l[k] = v at c0 HA HG
        clear hadl hkl
        by_cases h6 : v < 0
        · have HF := Lib.hid (HG.out (by simp [nl, inB]; omega))
          go_wp2
          go_ret
          exact ⟨ret_int' HF.out, Below.refl _ _⟩
        · by_cases h7 : 3 < v
          · have HF := Lib.hid (HG.out (by simp [nl, inB]; omega))
            go_wp2
            go_ret
            exact ⟨ret_int' HF.out, Below.refl _ _⟩
          · have HK' := Lib.hid (show (l.take (k + 1)).any nl = false by rw [HA.out, HK.out]; simp [nl, inB]; omega)
            go_wp2
            go_round
            case rel => exact ⟨k + 1, by go_num, by omega, HK'⟩
            case measure => simp [intOf]; omega
      · obtain rfl : n = k := by omega
        have HY := Lib.hid (show (if l.Nodup then (0 : Int) else 43) = x by
          have := HK.out; rw [List.take_of_length_le (by rw [HN.out]; exact Nat.le_refl _)] at this
          have hx := HX.out
          rw [this] at hx
          simpa using hx)
        clear HK
        go_wp2
        go_loopw [6] (fun i wr' => ∃ k d : Nat, i = .int .i64 k ∧ k ≤ n ∧ wr' = w.drewN d ∧ Hid ((l.take k).Nodup)) (fun i _ => n - (intOf i).toNat)
        case atStart => exact ⟨0, 0, rfl, Nat.zero_le _, rfl, by show (l.take 0).Nodup; simp⟩
        case round =>
          obtain ⟨i, d, rfl, hi, rfl, HK⟩ := hrel
          by_cases hil : i < n
          · have hii : i < l.length := by rw [HN.out]; exact hil
            have j2 : (i : Int) < (n : Int) := by omega
            have HS := Lib.hid (nodup_snoc hii)
            obtain ⟨ad, hAd, hadl, c0⟩ := HT.out.one (iC_at hii)
            generalize l[i] = u at c0 HS
            clear hlt hii
            go_wp2
            go_loopw [7] (fun jv wr' => ∃ k d : Nat, jv = .int .i64 k ∧ k ≤ i ∧ wr' = w.drewN d ∧ Hid (u ∉ l.take k)) (fun jv _ => i - (intOf jv).toNat)
            case atStart => exact ⟨0, _, rfl, Nat.zero_le _, rfl, by show u ∉ l.take 0; simp⟩
            case round =>
              obtain ⟨k, d, rfl, hk, rfl, HJ⟩ := hrel
              by_cases hki : k < i
              · have hkk : k < l.length := by rw [HN.out]; omega
                obtain ⟨ad', hAd', hadl', d0⟩ := HT.out.one (iC_at hkk)
                obtain rfl : ad = ad' := Option.some.inj (hAd.symm.trans hAd')
                subst hAd
                have q1 : (0 : Int) ≤ k := by omega
                have q2 : (k : Int) < n := by omega
                have q3 : (0 : Int) ≤ i := by omega
                have q4 : (k : Int) < i := by omega
                have HE := Lib.hid (take_snoc_int hkk)
                have HG := Lib.hid (show l[k] ∈ l.take i from List.mem_take_iff_getElem.2 ⟨k, by omega, rfl⟩)
                generalize l[k] = v at d0 HE HG
                clear hkk hAd' hadl hadl'
                by_cases huv : v = u
                · subst huv
                  have HF := Lib.hid (show (43 : Int) = x by rw [← HY.out, if_neg]; intro hh; exact (HS.out.1 (nodup_take hh _)).2 HG.out)
                  go_wp2
                  go_quiet (fail)
                  go_wp2
                  go_ret
                  exact ⟨ret_int' HF.out, Below.drewN' (bd_drewN _ _) _⟩
                · have HJ' := Lib.hid (show u ∉ l.take (k + 1) by rw [HE.out, List.mem_append, not_or]; exact ⟨HJ.out, by simpa using fun h => huv h.symm⟩)
                  have q5 : (v == u) = false := by simpa using huv
                  go_wp2
                  go_quiet (fail)
                  go_wp2
                  go_roundw
                  case rel => exact ⟨k + 1, _, by go_num, by omega, rfl, HJ'⟩
                  case measure => simp [intOf]; omega
              · obtain rfl : i = k := by omega
                have HD' := Lib.hid (HS.out.2 ⟨HK.out, HJ.out⟩)
                go_wp2
                go_roundw
                case rel => exact ⟨i + 1, _, by go_num, by omega, rfl, HD'⟩
                case measure => simp [intOf]; omega
          · obtain rfl : n = i := by omega
            have HF := Lib.hid (show (0 : Int) = x by rw [← HY.out, if_pos]; have := HK.out; rwa [List.take_of_length_le (by rw [HN.out]; exact Nat.le_refl _)] at this)
            go_wp2
            go_ret
            exact ⟨ret_int' HF.out, bd_drewN _ _⟩
theorem rsrc_any (A : Option Addr) (c n : Nat) (l : List Int) (j : Bool) (w : World) (hn : l.length = n) (ht : Lies w A (iC l)) (x : Int) (hx : srcF l j = x) :
    Calls Tryz.prog 21 #[.slice A n c, .bool j] w fun e w' => e = .returned (.int .i64 x) ∧ Below w.heap.size w w' := by
  unfold srcF at hx
  rw [hn] at hx
  by_cases h4 : 4 < n
  · rw [if_pos h4] at hx
    subst hx
    clear ht hn
    have h4i : (4 : Int) < n := by omega
    go_enter Tryz.func21, Tryz.ntmps21
    go_wp2
    go_ret
    exact ⟨rfl, Below.refl _ _⟩
  rw [if_neg h4] at hx
  by_cases h0 : n = 0
  · rw [if_pos h0] at hx
    subst hx h0
    clear ht hn h4
    go_enter Tryz.func21, Tryz.ntmps21
    go_wp2
    go_ret
    exact ⟨rfl, Below.refl _ _⟩
  rw [if_neg h0] at hx
  by_cases h2 : j = true ∧ n ≠ 2
  · rw [if_pos h2] at hx
    obtain ⟨rfl, h2⟩ := h2
    subst hx
    have hnz : (n == 0) = false := by simpa using h0
    have hni : ((n : Int) == 0) = false := by simpa using h0
    have hB1 : ((n : Int) != 2) = true := by rw [bne_iff_ne]; omega
    have hB2 : ((n : Int) == 2) = false := by rw [beq_eq_false_iff_ne]; omega
    have h5 : ¬ (4 < n) := by omega
    clear ht hn h4 h0 h2
    go_enter Tryz.func21, Tryz.ntmps21
    go_wp2
    go_ret
    exact ⟨rfl, Below.refl _ _⟩
  rw [if_neg h2] at hx
  exact rsrc_loop A c n l j w hn (by omega) h0 ht (fun h => by rw [show n = 2 from Decidable.byContradiction fun hh => h2 ⟨h, hh⟩]; exact ⟨rfl, rfl⟩) x hx
end Go.Proofs.YtlmamidodahgmaaGreatDoor.Q8

/- QTab: The table of names; contracts of Name, Source, and of the reference's Name, Source, Window. -/
namespace Go.Proofs.YtlmamidodahgmaaGreatDoor.Q8
open Go.Lib Go.ChangeShapes Go.WideShapes Go.ChangeAt Go.RowKit N4
set_option linter.unusedVariables false
set_option linter.unusedSimpArgs false
set_option maxRecDepth 100000

def namL : List (List UInt8) := [[97], [98], [99], [100]]
def NamT (w : World) : Prop := Tab w 0 namL
theorem NamT.stays {w w' : World} (h : NamT w) (hb : Below w.heap.size w w') : NamT w' := Tab.stays h hb
theorem NamT.cells {w : World} (h : NamT w) : 0 < w.heap.size ∧ w.cell? ⟨0, 0, none⟩ = some (.string ⟨#[97]⟩) ∧ w.cell? ⟨0, 1, none⟩ = some (.string ⟨#[98]⟩) ∧ w.cell? ⟨0, 2, none⟩ = some (.string ⟨#[99]⟩) ∧ w.cell? ⟨0, 3, none⟩ = some (.string ⟨#[100]⟩) := by
  obtain ⟨t, fr, hg⟩ := h
  refine ⟨(Array.getElem?_eq_some_iff.1 hg).1, ?_, ?_, ?_, ?_⟩ <;> (unfold World.cell?; rw [hg]; rfl)
def nmF (i : Int) : ByteArray := if i = 0 then ⟨#[97]⟩ else if i = 1 then ⟨#[98]⟩ else if i = 2 then ⟨#[99]⟩ else if i = 3 then ⟨#[100]⟩ else ⟨#[]⟩
def nmE (i : Int) : Int := if inB i 0 3 then 0 else 2
theorem nm_out {i : Int} (h : inB i 0 3 = false) : nmF i = ⟨#[]⟩ ∧ nmE i = 2 := by
  have hn : ¬ (0 ≤ i ∧ i ≤ 3) := fun hh => by rw [inB_true.2 hh] at h; cases h
  refine ⟨?_, by simp [nmE, h]⟩
  unfold nmF
  rw [if_neg (by omega), if_neg (by omega), if_neg (by omega), if_neg (by omega)]
theorem name_any (i : Int) (w : World) (h : NamT w) : Calls Tryz.prog 25 #[.int .i64 i] w fun e w' => e = .returned (.tuple #[.string (nmF i), .int .i64 (nmE i)]) ∧ w = w' := by
  cases hin : inB i 0 3
  · have HN := Lib.hid (fun W => nameless_any i W true (by simp [nl, hin]))
    obtain ⟨e1, e2⟩ := nm_out hin
    rw [e1, e2]
    clear hin h e1 e2
    go_enter Tryz.func25, Tryz.ntmps25
    go_wp2_with (go_at_call 51; refine (HN.out _).mono ?_; rintro e w1 ⟨rfl, rfl⟩)
    go_ret2
    exact ⟨rfl, rfl⟩
  · have HN := Lib.hid (fun W => nameless_any i W false (by simp [nl, hin]))
    obtain ⟨c0, c1, c2, c3, c4⟩ := h.cells
    obtain ⟨h1, h2⟩ := inB_true.1 hin
    have hi : i = 0 ∨ i = 1 ∨ i = 2 ∨ i = 3 := by omega
    clear hin h h1 h2
    rcases hi with rfl | rfl | rfl | rfl
    all_goals
      go_enter Tryz.func25, Tryz.ntmps25
      go_wp2_with (go_at_call 51; refine (HN.out _).mono ?_; rintro e w1 ⟨rfl, rfl⟩)
      go_ret2
      exact ⟨rfl, rfl⟩
/-! ### the source with a name -/
def soF (l : List UInt8) : Int := if l = [97] then 0 else if l = [98] then 1 else if l = [99] then 2 else if l = [100] then 3 else 0
def soE (l : List UInt8) : Int := if l = [97] ∨ l = [98] ∨ l = [99] ∨ l = [100] then 0 else 2
theorem so_hit {k : Nat} (hk : k < 4) {l : List UInt8} (h : l = namL[k]'hk) : soF l = k ∧ soE l = 0 := by
  have : k = 0 ∨ k = 1 ∨ k = 2 ∨ k = 3 := by omega
  rcases this with rfl | rfl | rfl | rfl <;> (subst h; exact ⟨rfl, rfl⟩)
theorem so_none {l : List UInt8} (h : l ∉ namL.take 4) : soF l = 0 ∧ soE l = 2 := by
  simp only [namL, List.take_succ_cons, List.take_zero, List.mem_cons, List.not_mem_nil, or_false, not_or] at h
  exact ⟨by simp [soF, h.1, h.2.1, h.2.2.1, h.2.2.2], by simp [soE, h.1, h.2.1, h.2.2.1, h.2.2.2]⟩
theorem so_snoc {k : Nat} (hk : k < 4) {l : List UInt8} (h : l ∉ namL.take k) (hn : l ≠ namL[k]'hk) : l ∉ namL.take (k + 1) := by
  rw [List.take_succ_eq_append_getElem hk, List.mem_append, not_or]
  exact ⟨h, by simpa using hn⟩
theorem nmF_at {k : Nat} (hk : k < 4) : nmF k = bytesOf (namL[k]'hk) ∧ nmE k = 0 := by
  have : k = 0 ∨ k = 1 ∨ k = 2 ∨ k = 3 := by omega
  rcases this with rfl | rfl | rfl | rfl <;> exact ⟨rfl, rfl⟩
theorem index_nam (w : World) (k : Nat) (hk : k < 4) : (Instr.index 98 (.agg (strsOf namL)) (.int .i64 (k : Int))).run Tryz.prog w = .ok (.string (bytesOf (namL[k]'hk))) w := by
  obtain ⟨ie, hi⟩ := Option.isSome_iff_exists.1 info_string
  exact run_index_str w _ _ 4 _ k _ ie Tryz.underlying98 hi Tryz.underlying9 cells_string hk (strsOf_at namL k hk)
theorem sized_nam : (Tryz.prog.info? 98).map (·.size) = some (strsOf namL).size := by
  rw [show (strsOf namL).size = 4 from rfl]; kernel_rfl
theorem source_any (s : ByteArray) (w : World) (ht : NamT w) :
    Calls Tryz.prog 103 #[.string s] w fun e w' => e = .returned (.tuple #[.int .i64 (soF s.data.toList), .int .i64 (soE s.data.toList)]) ∧ w = w' := by
  obtain ⟨t, fr, hg⟩ := ht
  have HG := Lib.hid hg
  clear hg
  go_enter Tryz.func103, Tryz.ntmps103
  go_wp2_with (refine wpList_load_row rfl _ _ rfl 0 rfl t (strsOf namL) fr _ HG.out Tryz.underlying98 rfl sized_nam ?_)
  go_loop [7] (fun i => ∃ k : Nat, k ≤ 4 ∧ i = .int .i64 k ∧ Hid (s.data.toList ∉ namL.take k)) (fun i => 4 - (intOf i).toNat)
  case atStart => exact ⟨0, Nat.zero_le _, rfl, by show s.data.toList ∉ namL.take 0; simp⟩
  case round =>
    obtain ⟨k, hk, rfl, HD⟩ := hrel
    by_cases hlt : k < 4
    · have hix := fun w => index_nam w k hlt
      have HS := Lib.hid (fun hn => so_snoc hlt HD.out hn)
      have HH := Lib.hid (fun he => so_hit hlt (l := s.data.toList) he)
      generalize namL[k]'hlt = x at hix HS HH
      cases hq : (s.data.toList == x)
      · have hq2 : (s.toList == (bytesOf x).toList) = false := by rw [bytesOf_toList, ByteArray.toList_eq]; exact hq
        have HD' := Lib.hid (HS.out (by simpa using hq))
        clear hq
        go_wp2
        go_round
        case rel => exact ⟨k + 1, by omega, by go_num, HD'⟩
        case measure => simp [intOf]; omega
      · have hq2 : (s.toList == (bytesOf x).toList) = true := by rw [bytesOf_toList, ByteArray.toList_eq]; exact hq
        obtain ⟨e1, e2⟩ := HH.out (by simpa using hq)
        have H1 := Lib.hid e1
        have H2 := Lib.hid e2
        clear hq e1 e2
        go_wp2
        go_ret2
        exact ⟨by rw [H1.out, H2.out] <;> rfl, rfl⟩
    · obtain rfl : k = 4 := by omega
      obtain ⟨e1, e2⟩ := so_none HD.out
      have H1 := Lib.hid e1
      have H2 := Lib.hid e2
      clear e1 e2
      go_wp2
      go_ret2
      exact ⟨by rw [H1.out, H2.out] <;> rfl, rfl⟩
end Go.Proofs.YtlmamidodahgmaaGreatDoor.Q8
