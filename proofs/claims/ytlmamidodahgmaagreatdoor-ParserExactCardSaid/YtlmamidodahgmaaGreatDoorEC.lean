/- Merged: EItoa, EText, EMath2, ELex, EBack, ECnt, PRd. -/
import Derived.Test.YtlmamidodahgmaaGreatDoorEA
import Derived.Test.YtlmamidodahgmaaGreatDoorShelf
import Derived.Lib.ItoaNum
import Derived.Lib.ItoaLen
import Derived.Lib.AppendIntMem
import Derived.Lib.SmallJoins
import Derived.Deep.RegionHeld3
import Derived.Test.YtlmamidodahgmaaGreatDoorEB
/- EItoa: Numbers as text. -/
namespace Go.Proofs.YtlmamidodahgmaaGreatDoor
open Go.ChangeShapes Go.WideShapes Go.ChangeAt Go.RowKit N4
set_option linter.unusedVariables false
set_option maxRecDepth 100000

def Pow (w : World) : Prop := Lib.TabIs Tryz.prog w "internal/strconv.uint64pow10" .u64 Lib.pow10Tab
theorem Pow.stays {w w' : World} (h : Pow w) (hb : Below w.heap.size w w') : Pow w' :=
  Joins.tab_stays (g := 5) (by kernel_rfl) h hb (Nat.le_refl _)
theorem val_snoc' (l : List UInt8) (d : Nat) (h : d ≤ 9) : val (l ++ [UInt8.ofNat (48 + d)]) = 10 * val l + d := by
  rw [val_snoc]
  have : (UInt8.ofNat (48 + d)).toNat = 48 + d := by rw [UInt8.toNat_ofNat']; omega
  omega
theorem isDig_ofNat (d : Nat) (h : d ≤ 9) : isDig (UInt8.ofNat (48 + d)) = true := by
  rw [isDig_iff]
  have : (UInt8.ofNat (48 + d)).toNat = 48 + d := by rw [UInt8.toNat_ofNat']; omega
  omega
theorem dec_ok (u : Nat) : val (Lib.decDigits u) = u ∧ allDig (Lib.decDigits u) = true ∧ Lib.decDigits u ≠ [] := by
  induction u using Nat.strongRecOn with
  | ind u ih =>
    rw [Lib.decDigits]
    by_cases h : u < 10
    · rw [dif_pos h]
      refine ⟨?_, ?_, by simp⟩
      · have := val_snoc' [] u (by omega); simpa [val] using this
      · have := isDig_ofNat u (by omega); simpa [allDig] using this
    · rw [dif_neg h]
      obtain ⟨h1, h2, h3⟩ := ih (u / 10) (by omega)
      refine ⟨?_, ?_, by simp⟩
      · rw [val_snoc' _ _ (by omega), h1]; omega
      · rw [allDig_snoc, h2, isDig_ofNat _ (by omega)]; rfl
/-- The digits of a number. -/
def numT (n : Int) : List UInt8 := Lib.itoa n
theorem num_ok {n : Int} (h0 : 0 ≤ n) (h1 : n ≤ 9223372036854775807) : rdErr (numT n) = 0 ∧ ((val (numT n) : Nat) : Int) = n ∧ numT n ≠ [] ∧ (∀ c ∈ numT n, isDig c = true) ∧ (numT n).length ≤ 21 := by
  obtain ⟨d1, d2, d3⟩ := dec_ok n.toNat
  have e : numT n = Lib.decDigits n.toNat := by rw [numT, Lib.itoa, if_neg (by omega)]
  have hl := Lib.itoa_length_le n (by omega) h1
  refine ⟨?_, by rw [e, d1]; omega, by rw [e]; exact d3, by rw [e]; intro c hc; exact (List.all_eq_true.1 d2) c hc, by show (Lib.itoa n).length ≤ 21; omega⟩
  rw [rdErr, rdE, e, d2, d1, if_pos (by simp [d3]), if_pos (by omega)]
theorem itext_any (n : Int) (w : World) (h0 : 0 ≤ n) (h1 : n ≤ 9223372036854775807) (hp : Pow w) :
    Calls Tryz.prog 76 #[.int .i64 n] w fun e w' => e = .returned (.string (bytesOf (numT n))) ∧ Below w.heap.size w w' := by
  have HP := Lib.hid hp
  have h2 : -9223372036854775808 ≤ n := by omega
  clear hp
  go_enter Tryz.func76, Tryz.ntmps76
  go_wp2_with (go_at_call 99; refine (Tryz.strconv_FormatInt_10 _ (by assumption) (by assumption) _ HP.out).mono ?_; rintro e w' ⟨rfl, k, os, rfl⟩)
  go_ret
  exact ⟨rfl, Lib.below_grow _ _ (Nat.le_refl _) _ _⟩
end Go.Proofs.YtlmamidodahgmaaGreatDoor

/- EText: Expressions as text with brackets. -/
namespace Go.Proofs.YtlmamidodahgmaaGreatDoor
open Go.ChangeShapes Go.WideShapes Go.ChangeAt Go.RowKit N4
set_option linter.unusedVariables false
set_option maxRecDepth 100000

def leafT (k n : Int) : List UInt8 := if k = 1 then numT n else fldB (k - 2).toNat
def Tr.wr : Tr → List UInt8
  | .leaf k n _ => leafT k n
  | .un k _ a => (if k = 5 then [45, 32] else [110, 111, 116, 32]) ++ (match a with | .leaf k n _ => leafT k n | a => [40] ++ a.wr ++ [41])
  | .bin k _ a b => (match a with | .leaf k n _ => leafT k n | a => [40] ++ a.wr ++ [41]) ++ [32] ++ opB k ++ [32] ++ (match b with | .leaf k n _ => leafT k n | b => [40] ++ b.wr ++ [41])
def Tr.pt : Tr → List UInt8
  | .leaf k n _ => leafT k n
  | .un k p a => [40] ++ (Tr.un k p a).wr ++ [41]
  | .bin k p a b => [40] ++ (Tr.bin k p a b).wr ++ [41]
theorem Tr.wr_un (k p : Int) (a : Tr) : (Tr.un k p a).wr = (if k = 5 then [45, 32] else [110, 111, 116, 32]) ++ a.pt := by cases a <;> rfl
theorem Tr.wr_bin (k p : Int) (a b : Tr) : (Tr.bin k p a b).wr = a.pt ++ [32] ++ opB k ++ [32] ++ b.pt := by cases a <;> cases b <;> rfl
def Tr.isLeaf : Tr → Bool
  | .leaf _ _ _ => true
  | _ => false
theorem Tr.pt_leaf {t : Tr} (h : t.isLeaf = true) : t.pt = t.wr := by cases t <;> first | rfl | cases h
theorem Tr.pt_no {t : Tr} (h : t.isLeaf = false) : t.pt = [40] ++ t.wr ++ [41] := by cases t <;> first | rfl | cases h
theorem opB_len (k : Int) : (opB k).length ≤ 3 := by
  unfold opB
  cases h : opT[(k - 7).toNat]? with
  | none => simp
  | some x =>
    have : ∀ x ∈ opT, x.length ≤ 3 := by decide
    exact this x (List.mem_of_getElem? h)
def Tr.big : Tr → Prop
  | .leaf _ n _ => n ≤ 9223372036854775807
  | .un _ _ a => a.big
  | .bin _ _ a b => a.big ∧ b.big
theorem Tr.wr_len (t : Tr) (h : t.ok = true) (hb : t.big) : t.wr.length ≤ 40 * t.sz ∧ t.pt.length ≤ 40 * t.sz + 2 := by
  induction t with
  | leaf k n p =>
    simp only [Tr.ok, Bool.and_eq_true, decide_eq_true_eq] at h
    have hf := h.2
    simp only [fitsF, Bool.and_eq_true, Bool.or_eq_true, decide_eq_true_eq] at hf
    have : (leafT k n).length ≤ 40 := by
      unfold leafT
      split
      · have := (num_ok (show 0 ≤ n by omega) hb).2.2.2.2; omega
      · unfold fldB
        cases h : fldT[(k - 2).toNat]? with
        | none => simp
        | some x =>
          have : ∀ x ∈ fldT, x.length ≤ 40 := by decide
          exact this x (List.mem_of_getElem? h)
    exact ⟨this, by show (leafT k n).length ≤ _; simp only [Tr.sz]; omega⟩
  | un k p a ih =>
    simp only [Tr.ok, Bool.and_eq_true, decide_eq_true_eq] at h
    have := ih h.2 hb
    have e : (Tr.un k p a).wr.length ≤ 40 * (Tr.un k p a).sz := by
      rw [Tr.wr_un, List.length_append]; simp only [Tr.sz]; split <;> simp <;> omega
    exact ⟨e, by show ([40] ++ (Tr.un k p a).wr ++ [41]).length ≤ _; simp; omega⟩
  | bin k p a b iha ihb =>
    simp only [Tr.ok, Bool.and_eq_true, decide_eq_true_eq] at h
    have := iha h.1.2 hb.1
    have := ihb h.2 hb.2
    have := opB_len k
    have e : (Tr.bin k p a b).wr.length ≤ 40 * (Tr.bin k p a b).sz := by
      rw [Tr.wr_bin]; simp only [Tr.sz, List.length_append, List.length_cons, List.length_nil]; omega
    exact ⟨e, by show ([40] ++ (Tr.bin k p a b).wr ++ [41]).length ≤ _; simp; omega⟩

/-- A tree's nodes lie in a list, from a place on. -/
def Sub (L : List Nd) (j : Nat) (t : Tr) : Prop := (L.drop j).take t.sz = t.flat.map (shift (j : Int))
theorem Sub.whole (t : Tr) : Sub t.flat 0 t := by
  unfold Sub
  rw [List.drop_zero, ← t.flat_length, List.take_length]
  exact (map_shift_zero _).symm
theorem Sub.len {L : List Nd} {j : Nat} {t : Tr} (h : Sub L j t) : j + t.sz ≤ L.length := by
  have := congrArg List.length h
  simp [t.flat_length] at this
  have := t.sz_pos
  omega
theorem take_take_of {L M : List Nd} {n m : Nat} (h : L.take n = M) (hm : m ≤ n) : L.take m = M.take m := by
  rw [← h, List.take_take, Nat.min_eq_left hm]
theorem at_of {L M : List Nd} {j n i : Nat} {x : Nd} (h : (L.drop j).take n = M) (hx : M[i]? = some x) : L[j + i]? = some x := by
  rw [← h] at hx
  rw [List.getElem?_take] at hx
  split at hx
  · rwa [List.getElem?_drop] at hx
  · cases hx
theorem Sub.leafAt {L : List Nd} {j : Nat} {k n p : Int} (h : Sub L j (.leaf k n p)) (hk : k ≤ 4) : L[j]? = some ⟨k, n, 0, 0, p⟩ := by
  refine at_of (i := 0) h ?_
  simp [Tr.flat, made0, shift, cnt, hk]
theorem Sub.unAt {L : List Nd} {j : Nat} {k p : Int} {a : Tr} (h : Sub L j (.un k p a)) (hk : 5 ≤ k ∧ k ≤ 6) : Sub L j a ∧ L[j + a.sz]? = some ⟨k, 0, (j : Int) + a.sz - 1, 0, p⟩ := by
  have hc : cnt k = 1 := by unfold cnt; rw [if_neg (by omega), if_pos (by omega)]
  have e : (Tr.un k p a).flat = a.flat ++ [⟨k, 0, (a.sz : Int) - 1, 0, p⟩] := by
    show made1 k 0 p a.flat = _
    unfold made1
    rw [map_shift_zero, a.flat_length]
  unfold Sub at h
  rw [e] at h
  refine ⟨?_, at_of (i := a.sz) h ?_⟩
  · unfold Sub
    rw [take_take_of h (by simp [Tr.sz]), List.map_append, List.take_append_of_le_length (by simp [a.flat_length]), List.take_of_length_le (by simp [a.flat_length])]
  · rw [List.map_append, List.getElem?_append_right (by simp [a.flat_length])]
    simp [a.flat_length, shift, hc]
    omega
theorem Sub.binAt {L : List Nd} {j : Nat} {k p : Int} {a b : Tr} (h : Sub L j (.bin k p a b)) (hk : 7 ≤ k) : Sub L j a ∧ Sub L (j + a.sz) b ∧ L[j + (a.sz + b.sz)]? = some ⟨k, 0, (j : Int) + a.sz - 1, (j : Int) + a.sz + b.sz - 1, p⟩ := by
  have hc : cnt k = 2 := by unfold cnt; rw [if_neg (by omega), if_neg (by omega)]
  have e : (Tr.bin k p a b).flat = a.flat ++ (b.flat.map (shift a.sz) ++ [⟨k, 0, (a.sz : Int) - 1, (a.sz : Int) + b.sz - 1, p⟩]) := by
    show made2 k 0 p a.flat b.flat = _
    unfold made2
    rw [map_shift_zero, a.flat_length, b.flat_length, List.append_assoc]
  have hs : (Tr.bin k p a b).sz = a.sz + b.sz + 1 := rfl
  unfold Sub at h
  rw [e, hs] at h
  refine ⟨?_, ?_, at_of (i := a.sz + b.sz) h ?_⟩
  · unfold Sub
    rw [take_take_of h (by omega), List.map_append, List.take_append_of_le_length (by simp [a.flat_length]), List.take_of_length_le (by simp [a.flat_length])]
  · unfold Sub
    have h2 := congrArg (fun l => (l.drop a.sz).take b.sz) h
    simp only [List.drop_take, List.drop_drop, List.take_take] at h2
    rw [show min b.sz (a.sz + b.sz + 1 - a.sz) = b.sz by omega] at h2
    rw [h2, List.map_append, List.drop_append_of_le_length (by simp [a.flat_length]), List.drop_of_length_le (by simp [a.flat_length]), List.nil_append, List.map_append, List.take_append_of_le_length (by simp [b.flat_length]), List.take_of_length_le (by simp [b.flat_length]), List.map_map]
    apply List.map_congr_left
    intro x _
    rw [Function.comp, shift_shift]
    congr 1
    omega
  · rw [List.map_append, List.getElem?_append_right (by simp [a.flat_length]), List.map_append, List.getElem?_append_right (by simp [a.flat_length, b.flat_length])]
    simp [a.flat_length, b.flat_length, shift, hc]
    omega
end Go.Proofs.YtlmamidodahgmaaGreatDoor

/- EMath2: What is parsed: there is always an answer; numbers fit; tokens of a text. -/
namespace Go.Proofs.YtlmamidodahgmaaGreatDoor
open Go.RowKit N4
set_option linter.unusedVariables false
set_option maxRecDepth 100000

theorem split_signs (b : List UInt8) (hb : b ≠ []) (s : List Tok) : ∃ c s0, s = c ++ s0 ∧ (∀ x ∈ c, x.s = b) ∧ txt s0 ≠ b :=
  ⟨s.takeWhile (fun x => x.s == b), s.dropWhile (fun x => x.s == b), (List.takeWhile_append_dropWhile).symm, fun x hx => by simpa using tw_mem _ _ x hx, dw_txt b hb s⟩
theorem rd_chain (n N : Nat) (hn : isCh n) (H : ∀ s : List Tok, s.length < N → ∃ r, Rd (.line (n + 1)) s r) : ∀ (m : Nat) (s : List Tok) (t : Tr), s.length ≤ m → s.length ≤ N → ∃ r, Rd (.chain n t) s r := by
  intro m
  induction m with
  | zero =>
    intro s t h _
    obtain rfl : s = [] := List.length_eq_zero_iff.1 (by omega)
    exact ⟨_, .stop hn (op_nil n)⟩
  | succ m ih =>
    intro s t h hN
    cases s with
    | nil => exact ⟨_, .stop hn (op_nil n)⟩
    | cons x s =>
      cases ho : opOf (loK n) (hiK n) x.s with
      | none => exact ⟨_, .stop hn ho⟩
      | some k =>
        obtain ⟨r, hr⟩ := H s (by simp at hN; omega)
        cases r with
        | er e q => exact ⟨_, .next_er hn ho hr⟩
        | ok u q =>
          by_cases he : (Tr.bin k x.a t u).er = 0
          · by_cases h3 : n = 3
            · subst h3; exact ⟨_, .next_one ho hr he⟩
            · obtain ⟨r2, h2⟩ := ih q (.bin k x.a t u) (by have := (hr.lt rfl).1; simp at h; omega) (by have := (hr.lt rfl).1; simp at hN; omega)
              exact ⟨_, .next_ok hn h3 ho hr he h2⟩
          · exact ⟨_, .next_node hn ho hr he⟩
theorem rd_line (n N : Nat) (hn : isCh n) (H : ∀ s : List Tok, s.length ≤ N → ∃ r, Rd (.line (n + 1)) s r) : ∀ s : List Tok, s.length ≤ N → ∃ r, Rd (.line n) s r := by
  intro s hs
  obtain ⟨r, hr⟩ := H s hs
  cases r with
  | er e q => exact ⟨_, .first_er hn hr⟩
  | ok t q =>
    have := (hr.lt rfl).1
    obtain ⟨r2, h2⟩ := rd_chain n N hn (fun s hs => H s (by omega)) q.length q t (Nat.le_refl _) (by omega)
    exact ⟨_, .first_ok hn hr h2⟩
theorem rd_pre (n N : Nat) (hn : isPr n) (H : ∀ s : List Tok, s.length ≤ N → ∃ r, Rd (.line (n + 1)) s r) : ∀ s : List Tok, s.length ≤ N → ∃ r, Rd (.line n) s r := by
  intro s hs
  obtain ⟨c, s0, rfl, hc, h0⟩ := split_signs (sgnB n) (sgn_ne n) s
  obtain ⟨r, hr⟩ := H s0 (by simp at hs; omega)
  exact ⟨_, .pre hn hc h0 hr⟩
theorem rd_all (N : Nat) (H : ∀ s : List Tok, s.length ≤ N → ∃ r, Rd (.line 8) s r) : ∀ s : List Tok, s.length ≤ N → ∃ r, Rd (.line 0) s r :=
  rd_line 0 N (by decide) (rd_line 1 N (by decide) (rd_pre 2 N (by decide) (rd_line 3 N (by decide) (rd_line 4 N (by decide) (rd_line 5 N (by decide) (rd_line 6 N (by decide) (rd_pre 7 N (by decide) H)))))))
theorem rd_prim (N : Nat) (H : ∀ s : List Tok, s.length < N → ∃ r, Rd (.line 0) s r) : ∀ s : List Tok, s.length ≤ N → ∃ r, Rd (.line 8) s r := by
  intro s hs
  cases s with
  | nil => exact ⟨_, .bad (by simp [txt]) leaf_nil⟩
  | cons x s =>
    cases hl : leafOf x.s with
    | some km => exact ⟨_, .leaf (k := km.1) (m := km.2) hl⟩
    | none =>
      by_cases h4 : x.s = [40]
      · obtain ⟨r, hr⟩ := H s (by simp at hs; omega)
        cases r with
        | er e q => exact ⟨_, .br_er h4 hr⟩
        | ok t q =>
          cases q with
          | nil => exact ⟨_, .br_no h4 hr (by simp [txt])⟩
          | cons y q =>
            by_cases h5 : y.s = [41]
            · exact ⟨_, .br_ok h4 hr h5⟩
            · exact ⟨_, .br_no h4 hr h5⟩
      · exact ⟨_, .bad h4 hl⟩
/-- There is an answer. -/
theorem rd_ex (s : List Tok) : ∃ r, Rd (.line 0) s r := by
  have key : ∀ N, ∀ s : List Tok, s.length ≤ N → ∃ r, Rd (.line 0) s r := by
    intro N
    induction N with
    | zero => exact rd_all 0 (rd_prim 0 (fun s h => by omega))
    | succ N ih => exact rd_all _ (rd_prim _ (fun s h => ih s (by omega)))
  exact key _ s (Nat.le_refl _)

theorem wrap_big {k : Int} {s : List Tok} : ∀ {c : List Tok} {r : R} {t : Tr} {q : List Tok}, (∀ u q, r = .ok u q → u.big) → wrapR k s c r = .ok t q → t.big := by
  intro c
  induction c with
  | nil => intro r t q h hw; exact h _ _ hw
  | cons x c ih =>
    intro r t q h hw
    rw [wrapR] at hw
    cases hr : wrapR k s c r with
    | er e q' => rw [hr] at hw; simp at hw
    | ok u q' =>
      rw [hr] at hw
      simp only at hw
      have := ih h hr
      split at hw
      · injection hw with h1 h2; subst h1; exact this
      · simp at hw
def Md.big : Md → Prop
  | .line _ => True
  | .chain _ t => t.big
theorem Rd.big {m : Md} {s : List Tok} {r : R} (h : Rd m s r) (hm : m.big) : ∀ {t q}, r = .ok t q → t.big := by
  induction h with
  | first_er _ _ ih => intro t q h; simp at h
  | first_ok _ _ _ ih1 ih2 => intro t q h; exact ih2 (ih1 trivial rfl) h
  | stop _ _ => intro t q h; injection h with h1 h2; subst h1; exact hm
  | next_er _ _ _ ih => intro t q h; simp at h
  | next_node _ _ _ _ _ => intro t q h; simp at h
  | next_ok _ _ _ _ _ _ ih1 ih2 => intro t' q' h; exact ih2 ⟨hm, ih1 trivial rfl⟩ h
  | next_one _ _ _ ih => intro t' q' h; injection h with h _; subst h; exact ⟨hm, ih trivial rfl⟩
  | pre _ _ _ _ ih => intro t q h; exact wrap_big (fun u q hu => ih trivial hu) h
  | leaf hl => intro t q h; injection h with h _; subst h; exact (leaf_range hl).2.2.2.2
  | bad _ _ => intro t q h; simp at h
  | br_er _ _ ih => intro t q h; simp at h
  | br_no _ _ _ ih => intro t q h; simp at h
  | br_ok _ _ _ ih => intro t q h; injection h with h _; subst h; exact ih trivial rfl

/-! ### tokens of a text -/
theorem Lex.ats {l p n ts q e} (h : Lex l p n ts q e) : ∀ t ∈ ts, (p : Int) ≤ t.a ∧ t.a ≤ (p + l.length : Nat) := by
  induction h with
  | done _ => intro t ht; simp at ht
  | many _ => intro t ht; simp at ht
  | err _ _ _ => intro t ht; simp at ht
  | @tok l p n m ts q e h1 h2 h3 h4 h5 ih =>
    intro t ht
    have hl : m.length = l.length - spanK 1 l := by rw [← h1, List.length_drop]
    have h6 := spanK_le 1 l
    have h7 := ext_le m
    rcases List.mem_cons.1 ht with rfl | ht
    · show (p : Int) ≤ ((p + spanK 1 l : Nat) : Int) ∧ ((p + spanK 1 l : Nat) : Int) ≤ _
      omega
    · have := ih t ht
      rw [List.length_drop] at this
      omega
theorem lex_chk {s : List UInt8} {ts : List Tok} {q : Nat} {e : Int} (hs : s.length ≤ 400) (h : Lex s 0 0 ts q e) : chkF ts = 0 := by
  have h1 := h.count (by omega)
  have h2 : okL ts = true := okL_all ts h.valid
  have h3 : atOk ts = true := at_all (fun t ht => by have := h.ats t ht; unfold TkOk; omega)
  rw [chkF, if_neg (by omega), if_pos h2, if_pos h3]
theorem allF_chk (s : List UInt8) : chkF (allF s).1 = 0 := by
  by_cases hs : s.length ≤ 400
  · obtain ⟨ts, q, e, h, h2⟩ := allF_lex s hs
    rw [h2]
    show chkF (if e = 0 then ts else []) = 0
    split
    · exact lex_chk hs h
    · rfl
  · rw [allF_big s (by omega)]; rfl
end Go.Proofs.YtlmamidodahgmaaGreatDoor

/- ELex: The tokens of a text with brackets. -/
namespace Go.Proofs.YtlmamidodahgmaaGreatDoor
open Go.RowKit N4
set_option linter.unusedVariables false
set_option maxRecDepth 100000

/-- The texts of the tokens. -/
def Tr.tx : Tr → List (List UInt8)
  | .leaf k n _ => [leafT k n]
  | .un k _ a => sgnB (if k = 5 then 7 else 2) :: (match a with | .leaf k n _ => [leafT k n] | a => [[40]] ++ a.tx ++ [[41]])
  | .bin k _ a b => (match a with | .leaf k n _ => [leafT k n] | a => [[40]] ++ a.tx ++ [[41]]) ++ [opB k] ++ (match b with | .leaf k n _ => [leafT k n] | b => [[40]] ++ b.tx ++ [[41]])
def Tr.px : Tr → List (List UInt8)
  | .leaf k n _ => [leafT k n]
  | .un k p a => [[40]] ++ (Tr.un k p a).tx ++ [[41]]
  | .bin k p a b => [[40]] ++ (Tr.bin k p a b).tx ++ [[41]]
theorem Tr.tx_un (k p : Int) (a : Tr) : (Tr.un k p a).tx = sgnB (if k = 5 then 7 else 2) :: a.px := by cases a <;> rfl
theorem Tr.tx_bin (k p : Int) (a b : Tr) : (Tr.bin k p a b).tx = a.px ++ [opB k] ++ b.px := by cases a <;> cases b <;> rfl
theorem Tr.px_leaf {t : Tr} (h : t.isLeaf = true) : t.px = t.tx := by cases t <;> first | rfl | cases h
theorem Tr.px_no {t : Tr} (h : t.isLeaf = false) : t.px = [[40]] ++ t.tx ++ [[41]] := by cases t <;> first | rfl | cases h

/-- What may stand behind a token: nothing, a blank, a bracket. -/
def Bh (X : List UInt8) : Prop := X = [] ∨ (∃ Y, X = 32 :: Y) ∨ ∃ Y, X = 41 :: Y
theorem ext_full {k : Int} {s : List UInt8} (h : checkE k s = 0) : s ≠ [] ∧ ext s = (k, s.length) ∧ spanK 1 s = 0 := checkE_ok k s h
theorem Lex.one {k : Int} {s X : List UInt8} {p n ts q e} (hc : checkE k s = 0) (hX : X = [] ∨ (∃ Y, X = 32 :: Y) ∨ ∃ b Y, X = b :: Y ∧ ext (s ++ [b]) = (k, s.length)) (hn : n ≠ 200) (h : Lex X (p + s.length) (n + 1) ts q e) :
    Lex (s ++ X) p n (⟨k, s, (p : Nat)⟩ :: ts) q e := by
  obtain ⟨h0, h1, h2⟩ := ext_full hc
  have ht := tkE_ok k s hc
  rcases hX with rfl | ⟨Y, rfl⟩ | ⟨b, Y, rfl, hb⟩
  · have := Lex.first (X := []) h0 ht h2 hn (.inl rfl) (by rw [h1]; exact h)
    rw [h1] at this
    simpa using this
  · have := Lex.first (X := 32 :: Y) h0 ht h2 hn (.inr (.inl ⟨32, Y, rfl, by decide⟩)) (by rw [h1]; exact h)
    rw [h1] at this
    simpa using this
  · have hm : (s ++ [b]) ≠ [] := by simp
    have hta : (s ++ [b]).take (ext (s ++ [b])).2 = s := by rw [hb]; simp
    have htk : tkE (s ++ [b]) = 0 := by
      rw [tkE, hta, hb]; exact hc
    have hsp : spanK 1 (s ++ [b]) = 0 := by
      cases s with
      | nil => exact absurd rfl h0
      | cons c r =>
        rw [spanK] at h2
        rw [List.cons_append, spanK]
        split at h2
        · omega
        · rename_i hne; rw [if_neg hne]
    have := Lex.first (m := s ++ [b]) (X := b :: Y) hm htk hsp hn (.inr (.inr ⟨b, Y, [], rfl, by rw [hb]; simp⟩)) (by rw [hb]; exact h)
    rw [hta, hb] at this
    exact this
theorem Lex.blank {X : List UInt8} {p n ts q e} (h : Lex X (p + 1) n ts q e) : Lex (32 :: X) p n ts q e :=
  Lex.front (g := [32]) (by intro c hc; simp at hc; subst hc; decide) h

theorem long_open : ∀ n : Fin 256, ext [40, UInt8.ofNat n.val] = (3, 1) := by decide +kernel
theorem ext_open (b : UInt8) : ext ([40] ++ [b]) = (3, ([40] : List UInt8).length) := by
  have := long_open ⟨b.toNat, b.toNat_lt⟩
  rwa [show UInt8.ofNat b.toNat = b from by simp] at this
theorem span_dig (s : List UInt8) (h : ∀ c ∈ s, isDig c = true) (b : UInt8) (hb : kindB b ≠ 2) : spanK 2 (s ++ [b]) = s.length := by
  induction s with
  | nil => rw [List.nil_append, spanK, if_neg hb]; rfl
  | cons c r ih =>
    have hc : kindB c = 2 := by
      have := h c List.mem_cons_self
      have key : ∀ n : Fin 256, isDig (UInt8.ofNat n.val) = true → kindB (UInt8.ofNat n.val) = 2 := by decide +kernel
      have h2 := key ⟨c.toNat, c.toNat_lt⟩
      rw [show UInt8.ofNat c.toNat = c from by simp] at h2
      exact h2 this
    rw [List.cons_append, spanK_cons 2 c _ hc, ih (fun x hx => h x (List.mem_cons_of_mem _ hx))]; rfl
theorem ext_num {n : Int} (h0 : 0 ≤ n) (h1 : n ≤ 9223372036854775807) : ext (numT n ++ [41]) = (1, (numT n).length) := by
  obtain ⟨_, _, h2, h3, _⟩ := num_ok h0 h1
  have h4 := span_dig (numT n) h3 41 (by decide)
  cases hs : numT n with
  | nil => exact absurd hs h2
  | cons c r =>
    rw [hs] at h3 h4
    have hc : kindB c = 2 := by
      have := h3 c List.mem_cons_self
      have key : ∀ n : Fin 256, isDig (UInt8.ofNat n.val) = true → kindB (UInt8.ofNat n.val) = 2 := by decide +kernel
      have h2 := key ⟨c.toNat, c.toNat_lt⟩
      rw [show UInt8.ofNat c.toNat = c from by simp] at h2
      exact h2 this
    rw [List.cons_append, ext_cons2 c _ hc]
    rw [List.cons_append] at h4
    rw [h4]
theorem leafT_tok {k n : Int} (hk : 1 ≤ k ∧ k ≤ 4) (h0 : 0 ≤ n) (h1 : n ≤ 9223372036854775807) : ∃ kk, checkE kk (leafT k n) = 0 ∧ ext (leafT k n ++ [41]) = (kk, (leafT k n).length) := by
  unfold leafT
  by_cases h : k = 1
  · rw [if_pos h]
    exact ⟨1, by rw [checkE, if_pos rfl]; exact (num_ok h0 h1).1, ext_num h0 h1⟩
  · rw [if_neg h]
    have hk' : k = 2 ∨ k = 3 ∨ k = 4 := by omega
    rcases hk' with rfl | rfl | rfl
    · exact ⟨2, by decide +kernel, by decide +kernel⟩
    · exact ⟨2, by decide +kernel, by decide +kernel⟩
    · exact ⟨2, by decide +kernel, by decide +kernel⟩
theorem Bh.cases {X : List UInt8} (h : Bh X) {s : List UInt8} {k : Int} (hs : ext (s ++ [41]) = (k, s.length)) : X = [] ∨ (∃ Y, X = 32 :: Y) ∨ ∃ b Y, X = b :: Y ∧ ext (s ++ [b]) = (k, s.length) := by
  rcases h with h | h | ⟨Y, rfl⟩
  · exact .inl h
  · exact .inr (.inl h)
  · exact .inr (.inr ⟨41, Y, rfl, hs⟩)
theorem op_tok (k : Int) (hk : 7 ≤ k ∧ k ≤ 19) : ∃ kk, checkE kk (opB k) = 0 := by
  have key : ∀ m : Fin 13, ∃ kk, checkE kk (opB (7 + (m.val : Int))) = 0 := by
    have h : ∀ m : Fin 13, checkE 3 (opB (7 + (m.val : Int))) = 0 ∨ checkE 2 (opB (7 + (m.val : Int))) = 0 := by decide +kernel
    intro m
    rcases h m with h | h
    · exact ⟨3, h⟩
    · exact ⟨2, h⟩
  have := key ⟨(k - 7).toNat, by omega⟩
  rwa [show 7 + (((k - 7).toNat : Nat) : Int) = k by omega] at this

def LexP (T : List UInt8) (tx : List (List UInt8)) : Prop :=
  ∀ (X : List UInt8) (p n : Nat) (ts : List Tok) (q : Nat) (e : Int), Bh X → n + tx.length ≤ 200 → Lex X (p + T.length) (n + tx.length) ts q e →
    ∃ M : List Tok, M.map (·.s) = tx ∧ Lex (T ++ X) p n (M ++ ts) q e
theorem lex_brackets {T : List UInt8} {tx : List (List UInt8)} (h : LexP T tx) (hT : T ≠ []) : LexP ([40] ++ T ++ [41]) ([[40]] ++ tx ++ [[41]]) := by
  intro X p n ts q e hX hn hl
  simp only [List.length_append, List.length_cons, List.length_nil] at hn hl
  have h1 : Lex ([41] ++ X) (p + (1 + T.length)) (n + (1 + tx.length)) (⟨3, [41], ((p + (1 + T.length) : Nat) : Int)⟩ :: ts) q e :=
    Lex.one (by decide +kernel) (Bh.cases hX (by decide +kernel)) (by omega) (by simpa [Nat.add_assoc, Nat.add_comm, Nat.add_left_comm] using hl)
  obtain ⟨M, hM, h2⟩ := h ([41] ++ X) (p + 1) (n + 1) _ q e (.inr (.inr ⟨X, rfl⟩)) (by omega) (by rw [show p + 1 + T.length = p + (1 + T.length) by omega, show n + 1 + tx.length = n + (1 + tx.length) by omega]; exact h1)
  refine ⟨⟨3, [40], (p : Nat)⟩ :: (M ++ [⟨3, [41], ((p + (1 + T.length) : Nat) : Int)⟩]), by simp [hM], ?_⟩
  cases T with
  | nil => exact absurd rfl hT
  | cons b T =>
    have := Lex.one (k := 3) (s := [40]) (X := (b :: T) ++ ([41] ++ X)) (by decide +kernel) (.inr (.inr ⟨b, T ++ ([41] ++ X), rfl, ext_open b⟩)) (show n ≠ 200 by omega) h2
    simpa [List.append_assoc] using this
theorem leafT_ne {k n : Int} (hk : 1 ≤ k ∧ k ≤ 4) (h0 : 0 ≤ n) (h1 : n ≤ 9223372036854775807) : leafT k n ≠ [] := by
  obtain ⟨kk, h, _⟩ := leafT_tok hk h0 h1
  exact (ext_full h).1
theorem lex_leaf {k n : Int} (hk : 1 ≤ k ∧ k ≤ 4) (h0 : 0 ≤ n) (h1 : n ≤ 9223372036854775807) : LexP (leafT k n) [leafT k n] := by
  intro X p m ts q e hX hn hl
  obtain ⟨kk, hc, he⟩ := leafT_tok hk h0 h1
  exact ⟨[⟨kk, leafT k n, (p : Nat)⟩], rfl, Lex.one hc (hX.cases he) (by simp at hn; omega) hl⟩
theorem Tr.ok_leaf {k n p : Int} (h : (Tr.leaf k n p).ok = true) : (1 ≤ k ∧ k ≤ 4) ∧ 0 ≤ n := by
  simp only [Tr.ok, fitsF, Bool.and_eq_true, Bool.or_eq_true, decide_eq_true_eq] at h
  exact ⟨⟨h.1.1, h.1.2⟩, by omega⟩
theorem lex_tree (t : Tr) (h : t.ok = true) (hb : t.big) : (LexP t.wr t.tx ∧ t.wr ≠ []) ∧ (LexP t.pt t.px ∧ t.pt ≠ []) := by
  induction t with
  | leaf k n p =>
    obtain ⟨hk, h0⟩ := Tr.ok_leaf h
    exact ⟨⟨lex_leaf hk h0 hb, leafT_ne hk h0 hb⟩, ⟨lex_leaf hk h0 hb, leafT_ne hk h0 hb⟩⟩
  | un k p a ih =>
    simp only [Tr.ok, Bool.and_eq_true, decide_eq_true_eq] at h
    obtain ⟨_, h2, h3⟩ := ih h.2 hb
    have main : LexP (Tr.un k p a).wr (Tr.un k p a).tx := by
      rw [Tr.wr_un, Tr.tx_un]
      have hs : ∃ kk, checkE kk (sgnB (if k = 5 then 7 else 2)) = 0 ∧ (if k = 5 then ([45, 32] : List UInt8) else [110, 111, 116, 32]) = sgnB (if k = 5 then 7 else 2) ++ [32] := by
        by_cases h5 : k = 5
        · rw [if_pos h5, if_pos h5]; exact ⟨3, by decide +kernel, rfl⟩
        · rw [if_neg h5, if_neg h5]; exact ⟨2, by decide +kernel, rfl⟩
      obtain ⟨kk, hc, he⟩ := hs
      rw [he]
      generalize sgnB (if k = 5 then 7 else 2) = sg at hc
      intro X p0 n ts q e hX hn hl
      simp only [List.length_append, List.length_cons, List.length_nil] at hn hl
      obtain ⟨M, hM, h4⟩ := h2 X (p0 + sg.length + 1) (n + 1) ts q e hX (by omega) (by rw [show p0 + sg.length + 1 + a.pt.length = p0 + (sg.length + (0 + 1) + a.pt.length) by omega, show n + 1 + a.px.length = n + (a.px.length + 1) by omega]; exact hl)
      refine ⟨⟨kk, sg, (p0 : Nat)⟩ :: M, by simp [hM], ?_⟩
      have := Lex.one (k := kk) (s := sg) (X := 32 :: (a.pt ++ X)) hc (.inr (.inl ⟨_, rfl⟩)) (show n ≠ 200 by omega) (Lex.blank h4)
      simpa [List.append_assoc] using this
    have hne : (Tr.un k p a).wr ≠ [] := by rw [Tr.wr_un]; split <;> simp
    exact ⟨⟨main, hne⟩, ⟨lex_brackets main hne, by show [40] ++ (Tr.un k p a).wr ++ [41] ≠ []; simp⟩⟩
  | bin k p a b iha ihb =>
    simp only [Tr.ok, Bool.and_eq_true, decide_eq_true_eq] at h
    obtain ⟨_, h2, h3⟩ := iha h.1.2 hb.1
    obtain ⟨_, g2, g3⟩ := ihb h.2 hb.2
    have main : LexP (Tr.bin k p a b).wr (Tr.bin k p a b).tx := by
      rw [Tr.wr_bin, Tr.tx_bin]
      obtain ⟨kk, hc⟩ := op_tok k h.1.1.1
      generalize opB k = sg at hc
      intro X p0 n ts q e hX hn hl
      simp only [List.length_append, List.length_cons, List.length_nil] at hn hl
      obtain ⟨M, hM, h4⟩ := g2 X (p0 + a.pt.length + 1 + sg.length + 1) (n + a.px.length + 1) ts q e hX (by omega) (by
        rw [show p0 + a.pt.length + 1 + sg.length + 1 + b.pt.length = p0 + (a.pt.length + (0 + 1) + sg.length + (0 + 1) + b.pt.length) by omega, show n + a.px.length + 1 + b.px.length = n + (a.px.length + (0 + 1) + b.px.length) by omega]; exact hl)
      have h5 := Lex.one (k := kk) (s := sg) (X := 32 :: (b.pt ++ X)) hc (.inr (.inl ⟨_, rfl⟩)) (show n + a.px.length ≠ 200 by omega) (Lex.blank h4)
      obtain ⟨M2, hM2, h6⟩ := h2 (32 :: (sg ++ 32 :: (b.pt ++ X))) p0 n _ q e (.inr (.inl ⟨_, rfl⟩)) (by omega) (Lex.blank h5)
      refine ⟨M2 ++ (⟨kk, sg, ((p0 + a.pt.length + 1 : Nat) : Int)⟩ :: M), by simp [hM, hM2], ?_⟩
      simpa [List.append_assoc] using h6
    have hne : (Tr.bin k p a b).wr ≠ [] := by rw [Tr.wr_bin]; simp
    exact ⟨⟨main, hne⟩, ⟨lex_brackets main hne, by show [40] ++ (Tr.bin k p a b).wr ++ [41] ≠ []; simp⟩⟩
/-- The tokens of the text of an expression. -/
theorem lex_whole {T : List UInt8} {tx : List (List UInt8)} (h : LexP T tx) (hn : tx.length ≤ 200) : ∃ (M : List Tok) (q : Nat), M.map (·.s) = tx ∧ Lex T 0 0 M q 0 := by
  obtain ⟨M, hM, h2⟩ := h [] 0 0 [] (0 + T.length) 0 (.inl rfl) (by omega) (by have := @Lex.done [] (0 + T.length) (0 + tx.length) rfl; simpa [spanK] using this)
  exact ⟨M, _, hM, by simpa using h2⟩
end Go.Proofs.YtlmamidodahgmaaGreatDoor

/- EBack: Written with brackets it is read: what tokens are parsed as. -/
namespace Go.Proofs.YtlmamidodahgmaaGreatDoor
open Go.RowKit N4
set_option linter.unusedVariables false
set_option maxRecDepth 100000

/-- A tree without its places. -/
def Tr.z : Tr → Tr
  | .leaf k n _ => .leaf k n 0
  | .un k _ a => .un k 0 a.z
  | .bin k _ a b => .bin k 0 a.z b.z
theorem Tr.z_sz (t : Tr) : t.z.sz = t.sz ∧ t.z.dp = t.dp := by
  induction t with
  | leaf => exact ⟨rfl, rfl⟩
  | un k p a ih => simp [Tr.z, Tr.sz, Tr.dp, ih.1, ih.2]
  | bin k p a b iha ihb => simp [Tr.z, Tr.sz, Tr.dp, iha.1, iha.2, ihb.1, ihb.2]
theorem Tr.er_z {t u : Tr} (h : t.z = u.z) : t.er = u.er := by
  have h1 := t.z_sz
  have h2 := u.z_sz
  rw [h] at h1
  unfold Tr.er
  rw [← h1.1, ← h1.2, h2.1, h2.2]
theorem Tr.flat_z {t u : Tr} (h : t.z = u.z) : t.flat.map unp = u.flat.map unp := by
  have key : ∀ t : Tr, t.flat.map unp = t.z.flat.map unp := by
    intro t
    have cm : ∀ (d : Int) (l : List Nd), (l.map (shift d)).map unp = (l.map unp).map (shift d) := by
      intro d l; rw [List.map_map, List.map_map]; rfl
    induction t with
    | leaf => rfl
    | un k p a ih =>
      show (made1 k 0 p a.flat).map unp = (made1 k 0 0 a.z.flat).map unp
      unfold made1
      rw [List.map_append, List.map_append, cm, cm, ih, a.flat_length, a.z.flat_length, a.z_sz.1]; rfl
    | bin k p a b iha ihb =>
      show (made2 k 0 p a.flat b.flat).map unp = (made2 k 0 0 a.z.flat b.z.flat).map unp
      unfold made2
      rw [List.map_append, List.map_append, List.map_append, List.map_append, cm, cm, cm, cm, iha, ihb, a.flat_length, b.flat_length, a.z.flat_length, b.z.flat_length, a.z_sz.1, b.z_sz.1]; rfl
  rw [key t, key u, h]

/-- No operator of the lines from one on. -/
def NoOp (m : Nat) (s : List UInt8) : Prop := ∀ j, m ≤ j → isCh j → opOf (loK j) (hiK j) s = none
def NoSg (s : List UInt8) : Prop := s ≠ sgnB 2 ∧ s ≠ sgnB 7
theorem NoOp.mono {m m' : Nat} {s : List UInt8} (h : NoOp m s) (hm : m ≤ m') : NoOp m' s := fun j hj => h j (by omega)
theorem up1 {n : Nat} {s : List Tok} {t : Tr} {q : List Tok} (hn : isCh n) (h : Rd (.line (n + 1)) s (.ok t q)) (ho : opOf (loK n) (hiK n) (txt q) = none) : Rd (.line n) s (.ok t q) := .first_ok hn h (.stop hn ho)
theorem up2 {n : Nat} {s : List Tok} {r : R} (hn : isPr n) (h : Rd (.line (n + 1)) s r) (hs : txt s ≠ sgnB n) : Rd (.line n) s r := .pre (c := []) hn (by simp) hs h
theorem up {n m : Nat} (hn : n ≤ 8) (hm : m ≤ n) {s : List Tok} {t : Tr} {q : List Tok} (h : Rd (.line n) s (.ok t q)) (ho : NoOp m (txt q)) (hs : ∀ j, m ≤ j → j < n → isPr j → txt s ≠ sgnB j) : Rd (.line m) s (.ok t q) := by
  induction n with
  | zero => obtain rfl : m = 0 := by omega
            exact h
  | succ n ih =>
    by_cases he : m = n + 1
    · subst he; exact h
    · have h1 : isCh n ∨ isPr n := by unfold isCh isPr; omega
      have h2 : Rd (.line n) s (.ok t q) := by
        rcases h1 with h1 | h1
        · exact up1 h1 h (ho n (by omega) h1)
        · exact up2 h1 h (hs n (by omega) (by omega) h1)
      exact ih (by omega) (by omega) h2 (fun j a b => hs j a (by omega))
theorem NoSg.all {s : List UInt8} (h : NoSg s) (j : Nat) (hj : isPr j) : s ≠ sgnB j := by
  rcases hj with rfl | rfl
  · exact h.1
  · exact h.2

/-- The line of a binary kind. -/
def lvl (k : Int) : Nat := if k = 19 then 0 else if k = 18 then 1 else if 12 ≤ k then 3 else if 10 ≤ k then 4 else if 8 ≤ k then 5 else 6
theorem lvl_ch (k : Int) : isCh (lvl k) := by unfold lvl isCh; repeat' split
                                              all_goals omega
theorem lvl_le (k : Int) : lvl k ≤ 6 := by unfold lvl; repeat' split
                                           all_goals omega
theorem ch_le {j : Nat} (h : isCh j) : j ≤ 6 := by unfold isCh at h; omega
theorem op_lvl {k : Int} (hk : 7 ≤ k ∧ k ≤ 19) : opOf (loK (lvl k)) (hiK (lvl k)) (opB k) = some k ∧ ∀ j, isCh j → j ≠ lvl k → opOf (loK j) (hiK j) (opB k) = none := by
  have key : ∀ m : Fin 13, opOf (loK (lvl (7 + (m.val : Int)))) (hiK (lvl (7 + (m.val : Int)))) (opB (7 + (m.val : Int))) = some (7 + (m.val : Int)) ∧ ∀ j : Fin 7, isCh j.val → j.val ≠ lvl (7 + (m.val : Int)) → opOf (loK j.val) (hiK j.val) (opB (7 + (m.val : Int))) = none := by decide +kernel
  obtain ⟨h1, h2⟩ := key ⟨(k - 7).toNat, by omega⟩
  simp only [show 7 + (((k - 7).toNat : Nat) : Int) = k by omega] at h1 h2
  exact ⟨h1, fun j hj hne => h2 ⟨j, by have := ch_le hj; omega⟩ hj hne⟩
theorem no_nil : NoOp 0 [] := fun j _ _ => op_nil j
theorem no_close : NoOp 0 [41] := by
  intro j _ hj
  have key : ∀ j : Fin 7, opOf (loK j.val) (hiK j.val) [41] = none := by decide +kernel
  exact key ⟨j, by have := ch_le hj; omega⟩

def PrimP (t : Tr) (tx : List (List UInt8)) : Prop := ∀ (M q : List Tok), M.map (·.s) = tx → ∃ t', t'.z = t.z ∧ Rd (.line 8) (M ++ q) (.ok t' q)
def ExprP (t : Tr) (tx : List (List UInt8)) : Prop := ∀ (M q : List Tok), M.map (·.s) = tx → NoOp 0 (txt q) → ∃ t', t'.z = t.z ∧ Rd (.line 0) (M ++ q) (.ok t' q)
theorem map_cons_inv {M : List Tok} {s : List UInt8} {r : List (List UInt8)} (h : M.map (·.s) = s :: r) : ∃ x M', M = x :: M' ∧ x.s = s ∧ M'.map (·.s) = r := by
  cases M with
  | nil => simp at h
  | cons x M => simp at h; exact ⟨x, M, rfl, h.1, h.2⟩
theorem map_app_inv {M : List Tok} {r1 r2 : List (List UInt8)} (h : M.map (·.s) = r1 ++ r2) : ∃ M1 M2, M = M1 ++ M2 ∧ M1.map (·.s) = r1 ∧ M2.map (·.s) = r2 :=
  List.map_eq_append_iff.1 h
theorem prim_brackets {t : Tr} {tx : List (List UInt8)} (h : ExprP t tx) : PrimP t ([[40]] ++ tx ++ [[41]]) := by
  intro M q hM
  have hM' : M.map (·.s) = [40] :: (tx ++ [[41]]) := by simpa using hM
  obtain ⟨x, M1, rfl, hx, h1⟩ := map_cons_inv hM'
  obtain ⟨M2, M3, rfl, h2, h3⟩ := map_app_inv h1
  obtain ⟨y, M4, rfl, hy, h4⟩ := map_cons_inv h3
  obtain rfl : M4 = [] := by simpa using h4
  obtain ⟨t', hz, hr⟩ := h M2 (y :: q) h2 (by show NoOp 0 y.s; rw [hy]; exact no_close)
  refine ⟨t', hz, ?_⟩
  have := Rd.br_ok (x := x) hx hr hy
  simpa [List.append_assoc] using this
theorem leafOf_leafT {k n : Int} (hk : 1 ≤ k ∧ k ≤ 4) (h0 : 0 ≤ n) (h1 : n ≤ 9223372036854775807) (hn : n = 0 ∨ k = 1) : leafOf (leafT k n) = some (k, n) := by
  unfold leafT
  by_cases h : k = 1
  · subst h
    obtain ⟨g1, g2, _⟩ := num_ok h0 h1
    rw [if_pos rfl, leafOf, if_pos g1, g2]
  · rw [if_neg h]
    obtain rfl : n = 0 := by omega
    have hk' : k = 2 ∨ k = 3 ∨ k = 4 := by omega
    rcases hk' with rfl | rfl | rfl <;> decide +kernel
theorem head_app {M q : List Tok} {s : List UInt8} {r : List (List UInt8)} (h : M.map (·.s) = s :: r) : txt (M ++ q) = s := by
  obtain ⟨x, M', rfl, hx, _⟩ := map_cons_inv h
  exact hx
theorem leafT_sg {k n : Int} (hk : 1 ≤ k ∧ k ≤ 4) (h0 : 0 ≤ n) (h1 : n ≤ 9223372036854775807) : NoSg (leafT k n) := by
  unfold leafT
  by_cases h : k = 1
  · rw [if_pos h]
    obtain ⟨_, _, g3, g4, _⟩ := num_ok h0 h1
    cases hs : numT n with
    | nil => exact absurd hs g3
    | cons c r =>
      rw [hs] at g4
      have := g4 c List.mem_cons_self
      constructor
      · intro e; injection e with e _; subst e; revert this; decide
      · intro e; injection e with e _; subst e; revert this; decide
  · rw [if_neg h]
    have hk' : k = 2 ∨ k = 3 ∨ k = 4 := by omega
    rcases hk' with rfl | rfl | rfl <;> exact ⟨by decide, by decide⟩
/-- What stands in front of a part is no sign. -/
theorem px_sg (t : Tr) (h : t.ok = true) (hb : t.big) : ∃ s r, t.px = s :: r ∧ NoSg s := by
  cases t with
  | leaf k n p => obtain ⟨hk, h0⟩ := Tr.ok_leaf h; exact ⟨_, _, rfl, leafT_sg hk h0 hb⟩
  | un k p a => exact ⟨[40], _, rfl, by decide, by decide⟩
  | bin k p a b => exact ⟨[40], _, rfl, by decide, by decide⟩
theorem bin_rd {k : Int} (hk : 7 ≤ k ∧ k ≤ 19) {a b : Tr} {s q : List Tok} {x : Tok} {sb : List Tok} (hx : x.s = opB k) (ha : Rd (.line (lvl k + 1)) s (.ok a (x :: sb))) (hb : Rd (.line (lvl k + 1)) sb (.ok b q)) (he : (Tr.bin k x.a a b).er = 0)
    (ho : lvl k ≠ 3 → opOf (loK (lvl k)) (hiK (lvl k)) (txt q) = none) : Rd (.line (lvl k)) s (.ok (.bin k x.a a b) q) := by
  have h1 := (op_lvl hk).1
  rw [← hx] at h1
  by_cases h3 : lvl k = 3
  · rw [h3] at ha hb h1 ⊢
    exact .first_ok (by decide) ha (.next_one h1 hb he)
  · exact .first_ok (lvl_ch k) ha (.next_ok (lvl_ch k) h3 h1 hb he (.stop (lvl_ch k) (ho h3)))
theorem un_er {k p p' : Int} {t u : Tr} (h : t.z = u.z) : (Tr.un k p t).er = (Tr.un k p' u).er := Tr.er_z (by simp [Tr.z, h])
theorem bin_er {k p p' : Int} {t u t' u' : Tr} (h : t.z = t'.z) (h2 : u.z = u'.z) : (Tr.bin k p t u).er = (Tr.bin k p' t' u').er := Tr.er_z (by simp [Tr.z, h, h2])
theorem NoOp.op {k : Int} (hk : 7 ≤ k ∧ k ≤ 19) : NoOp (lvl k + 1) (opB k) := fun j hj hc => (op_lvl hk).2 j hc (by omega)

theorem back (t : Tr) (h : t.ok = true) (hb : t.big) (he : t.er = 0) : ExprP t t.tx ∧ PrimP t t.px := by
  induction t with
  | leaf k n p =>
    obtain ⟨hk, h0⟩ := Tr.ok_leaf h
    have hn : n = 0 ∨ k = 1 := by
      simp only [Tr.ok, fitsF, Bool.and_eq_true, Bool.or_eq_true, decide_eq_true_eq] at h; exact h.2.1.1.2
    have hp : PrimP (.leaf k n p) [leafT k n] := by
      intro M q hM
      obtain ⟨x, M', rfl, hx, h1⟩ := map_cons_inv hM
      obtain rfl : M' = [] := by simpa using h1
      exact ⟨.leaf k n x.a, rfl, .leaf (by rw [hx]; exact leafOf_leafT hk h0 hb hn)⟩
    refine ⟨?_, hp⟩
    intro M q hM hq
    obtain ⟨t', hz, hr⟩ := hp M q hM
    exact ⟨t', hz, up (by omega) (by omega) hr hq (fun j _ _ hj => by rw [head_app hM]; exact (leafT_sg hk h0 hb).all j hj)⟩
  | un k p a ih =>
    simp only [Tr.ok, Bool.and_eq_true, decide_eq_true_eq] at h
    obtain ⟨_, hpa⟩ := ih h.2 hb (Tr.er_un he)
    obtain ⟨s0, r0, hpx, hsg⟩ := px_sg a h.2 hb
    have main : ExprP (.un k p a) (Tr.un k p a).tx := by
      rw [Tr.tx_un]
      intro M q hM hq
      obtain ⟨x, M', rfl, hx, h1⟩ := map_cons_inv hM
      obtain ⟨a', hz, hr⟩ := hpa M' q h1
      have hhd : txt (M' ++ q) = s0 := head_app (h1.trans hpx)
      have hk' : k = 5 ∨ k = 6 := by omega
      rcases hk' with rfl | rfl
      · have h7 : Rd (.line 7) ([x] ++ (M' ++ q)) (wrapR (sgnK 7) (M' ++ q) [x] (.ok a' q)) := .pre (by decide) (by simpa using hx) (by rw [hhd]; exact hsg.2) hr
        have hw : wrapR (sgnK 7) (M' ++ q) [x] (.ok a' q) = .ok (.un 5 x.a a') q := by
          show (if (Tr.un 5 x.a a').er = 0 then R.ok (.un 5 x.a a') q else _) = _
          rw [if_pos (by rw [un_er (p' := p) hz]; exact he)]
        rw [hw] at h7
        refine ⟨.un 5 x.a a', by simp [Tr.z, hz], up (by omega) (by omega) h7 hq ?_⟩
        intro j _ hj7 hj
        show x.s ≠ sgnB j
        rw [hx]
        rcases hj with rfl | rfl
        · decide
        · omega
      · have h3 : Rd (.line 3) (M' ++ q) (.ok a' q) := up (by omega) (by omega) hr (hq.mono (by omega)) (fun j _ _ hj => by rw [hhd]; exact hsg.all j hj)
        have h2 : Rd (.line 2) ([x] ++ (M' ++ q)) (wrapR (sgnK 2) (M' ++ q) [x] (.ok a' q)) := .pre (by decide) (by simpa using hx) (by rw [hhd]; exact hsg.1) h3
        have hw : wrapR (sgnK 2) (M' ++ q) [x] (.ok a' q) = .ok (.un 6 x.a a') q := by
          show (if (Tr.un 6 x.a a').er = 0 then R.ok (.un 6 x.a a') q else _) = _
          rw [if_pos (by rw [un_er (p' := p) hz]; exact he)]
        rw [hw] at h2
        exact ⟨.un 6 x.a a', by simp [Tr.z, hz], up (by omega) (by omega) h2 hq (fun j h0 h1 hj => by rcases hj with rfl | rfl <;> omega)⟩
    exact ⟨main, prim_brackets main⟩
  | bin k p a b iha ihb =>
    simp only [Tr.ok, Bool.and_eq_true, decide_eq_true_eq] at h
    obtain ⟨hea, heb⟩ := Tr.er_bin he
    obtain ⟨_, hpa⟩ := iha h.1.2 hb.1 hea
    obtain ⟨_, hpb⟩ := ihb h.2 hb.2 heb
    obtain ⟨sa, ra, hpxa, hsga⟩ := px_sg a h.1.2 hb.1
    obtain ⟨sb, rb, hpxb, hsgb⟩ := px_sg b h.2 hb.2
    have hk := h.1.1.1
    have main : ExprP (.bin k p a b) (Tr.bin k p a b).tx := by
      rw [Tr.tx_bin]
      intro M q hM hq
      rw [List.append_assoc] at hM
      obtain ⟨M1, M2, rfl, h1, h2⟩ := map_app_inv hM
      obtain ⟨x, M3, rfl, hx, h3⟩ := map_cons_inv h2
      obtain ⟨a', hza, hra⟩ := hpa M1 (x :: (M3 ++ q)) h1
      obtain ⟨b', hzb, hrb⟩ := hpb M3 q h3
      have hl := lvl_le k
      have ha1 := up (m := lvl k + 1) (by omega) (by omega) hra (by show NoOp _ x.s; rw [hx]; exact NoOp.op hk) (fun j _ _ hj => by rw [head_app (h1.trans hpxa)]; exact hsga.all j hj)
      have hb1 := up (m := lvl k + 1) (by omega) (by omega) hrb (hq.mono (by omega)) (fun j _ _ hj => by rw [head_app (h3.trans hpxb)]; exact hsgb.all j hj)
      have hB := bin_rd hk hx ha1 hb1 (by rw [bin_er (p' := p) hza hzb]; exact he) (fun _ => hq (lvl k) (by omega) (lvl_ch k))
      refine ⟨.bin k x.a a' b', by simp [Tr.z, hza, hzb], ?_⟩
      rw [List.append_assoc]
      exact up (by omega) (by omega) hB hq (fun j _ _ hj => by rw [head_app (h1.trans hpxa)]; exact hsga.all j hj)
    exact ⟨main, prim_brackets main⟩
theorem tx_len (t : Tr) : t.tx.length + 2 ≤ 3 * t.sz ∧ t.px.length ≤ 3 * t.sz := by
  induction t with
  | leaf => simp [Tr.tx, Tr.px, Tr.sz]
  | un k p a ih =>
    have e : (Tr.un k p a).tx.length + 2 ≤ 3 * (Tr.un k p a).sz := by rw [Tr.tx_un]; simp [Tr.sz]; omega
    exact ⟨e, by show ([[40]] ++ (Tr.un k p a).tx ++ [[41]]).length ≤ _; simp; omega⟩
  | bin k p a b iha ihb =>
    have e : (Tr.bin k p a b).tx.length + 2 ≤ 3 * (Tr.bin k p a b).sz := by rw [Tr.tx_bin]; simp [Tr.sz]; omega
    exact ⟨e, by show ([[40]] ++ (Tr.bin k p a b).tx ++ [[41]]).length ≤ _; simp; omega⟩
end Go.Proofs.YtlmamidodahgmaaGreatDoor

/- ECnt: Each token of what is parsed is that of one node, or a bracket. -/
namespace Go.Proofs.YtlmamidodahgmaaGreatDoor
open Go.RowKit N4
set_option linter.unusedVariables false
set_option maxRecDepth 100000

def isBr (x : Tok) : Bool := decide (x.s = [40]) || decide (x.s = [41])
/-- How deep in brackets, behind some tokens. -/
def dep : Int → List Tok → Option Int
  | o, [] => some o
  | o, x :: c => if isBr x = true then (if (if x.s = [40] then o + 1 else o - 1) < 0 then none else dep (if x.s = [40] then o + 1 else o - 1) c) else dep o c
theorem dep_app (c d : List Tok) : ∀ o, dep o (c ++ d) = (dep o c).bind fun o' => dep o' d := by
  induction c with
  | nil => intro o; rfl
  | cons x c ih =>
    intro o
    rw [List.cons_append, dep, dep]
    by_cases h : isBr x = true
    · rw [if_pos h, if_pos h]
      by_cases h2 : (if x.s = [40] then o + 1 else o - 1) < 0
      · rw [if_pos h2, if_pos h2]; rfl
      · rw [if_neg h2, if_neg h2]; exact ih _
    · rw [if_neg h, if_neg h]; exact ih _
def Bal (c : List Tok) : Prop := ∀ o, 0 ≤ o → dep o c = some o
theorem Bal.nil : Bal [] := fun o _ => rfl
theorem Bal.app {c d : List Tok} (h : Bal c) (g : Bal d) : Bal (c ++ d) := fun o ho => by rw [dep_app, h o ho]; exact g o ho
theorem Bal.one {x : Tok} (h : isBr x = false) : Bal [x] := fun o _ => by rw [dep, if_neg (by rw [h]; decide)]; rfl
theorem Bal.cons {x : Tok} {c : List Tok} (h : isBr x = false) (g : Bal c) : Bal (x :: c) := (Bal.one h).app g
theorem Bal.brackets {x y : Tok} {c : List Tok} (hx : x.s = [40]) (hy : y.s = [41]) (h : Bal c) : Bal (x :: (c ++ [y])) := by
  intro o ho
  have h1 : isBr x = true := by simp [isBr, hx]
  have h2 : isBr y = true := by simp [isBr, hy]
  rw [dep, if_pos h1, if_pos hx, if_neg (by omega), dep_app, h (o + 1) (by omega)]
  show dep (o + 1) [y] = some o
  have h3 : ¬ y.s = [40] := by rw [hy]; decide
  rw [dep, if_pos h2, if_neg h3, if_neg (by omega)]
  show some (o + 1 - 1) = some o
  congr 1; omega
/-- How many tokens that are no brackets have an At; how many there are. -/
def nb (v : Int) : List Tok → Nat
  | [] => 0
  | x :: c => (if isBr x = false ∧ x.a = v then 1 else 0) + nb v c
def nbs : List Tok → Nat
  | [] => 0
  | x :: c => (if isBr x = false then 1 else 0) + nbs c
theorem nb_app (v : Int) (c d : List Tok) : nb v (c ++ d) = nb v c + nb v d := by
  induction c with
  | nil => simp [nb]
  | cons x c ih => rw [List.cons_append, nb, nb, ih]; omega
theorem nbs_app (c d : List Tok) : nbs (c ++ d) = nbs c + nbs d := by
  induction c with
  | nil => simp [nbs]
  | cons x c ih => rw [List.cons_append, nbs, nbs, ih]; omega
def pc (v : Int) : Tr → Nat
  | .leaf _ _ p => if p = v then 1 else 0
  | .un _ p a => (if p = v then 1 else 0) + pc v a
  | .bin _ p a b => (if p = v then 1 else 0) + pc v a + pc v b
def pl (v : Int) : List Nd → Nat
  | [] => 0
  | x :: l => (if x.p = v then 1 else 0) + pl v l
theorem pl_app (v : Int) (l m : List Nd) : pl v (l ++ m) = pl v l + pl v m := by
  induction l with
  | nil => simp [pl]
  | cons x c ih => rw [List.cons_append, pl, pl, ih]; omega
theorem pl_shift (v d : Int) (l : List Nd) : pl v (l.map (shift d)) = pl v l := by
  induction l with
  | nil => rfl
  | cons x c ih => rw [List.map_cons, pl, pl, ih]; rfl
theorem pl_flat (v : Int) (t : Tr) : pl v t.flat = pc v t := by
  induction t with
  | leaf k n p => simp [Tr.flat, made0, pl, pc]
  | un k p a ih => show pl v (made1 k 0 p a.flat) = _; unfold made1; rw [pl_app, pl_shift, ih]; simp only [pl, pc]; omega
  | bin k p a b iha ihb => show pl v (made2 k 0 p a.flat b.flat) = _; unfold made2; rw [pl_app, pl_app, pl_shift, pl_shift, iha, ihb]; simp only [pl, pc]; omega

theorem nobr {x : Tok} (h1 : x.s ≠ [40]) (h2 : x.s ≠ [41]) : isBr x = false := by simp [isBr, h1, h2]
theorem op_nobr {k : Int} (hk : 7 ≤ k ∧ k ≤ 19) : opB k ≠ [40] ∧ opB k ≠ [41] := by
  have key : ∀ m : Fin 13, opB (7 + (m.val : Int)) ≠ [40] ∧ opB (7 + (m.val : Int)) ≠ [41] := by decide
  have := key ⟨(k - 7).toNat, by omega⟩
  simp only [show 7 + (((k - 7).toNat : Nat) : Int) = k by omega] at this
  exact this
theorem sgn_nobr (n : Nat) : sgnB n ≠ [40] ∧ sgnB n ≠ [41] := by unfold sgnB; split <;> decide
theorem leaf_nobr {s : List UInt8} {km : Int × Int} (h : leafOf s = some km) : s ≠ [40] ∧ s ≠ [41] := by
  constructor
  · intro e; rw [leaf_br e] at h; cases h
  · intro e; subst e; rw [show leafOf [41] = none by decide] at h; cases h

def Cnt (c : List Tok) (b : Int → Nat) (z : Nat) (t : Tr) : Prop := Bal c ∧ (∀ v, nb v c + b v = pc v t) ∧ nbs c + z = t.sz
def Md.pb : Md → Int → Nat
  | .line _, _ => 0
  | .chain _ t, v => pc v t
def Md.zb : Md → Nat
  | .line _ => 0
  | .chain _ t => t.sz
theorem wrap_cnt {k : Int} {s : List Tok} : ∀ {c : List Tok} {u t : Tr} {q : List Tok}, (∀ x ∈ c, isBr x = false) → wrapR k s c (.ok u q) = .ok t q → Bal c ∧ (∀ v, nb v c + pc v u = pc v t) ∧ nbs c + u.sz = t.sz := by
  intro c
  induction c with
  | nil => intro u t q _ hw; injection hw with h1 _; subst h1; exact ⟨Bal.nil, fun v => by simp [nb], by simp [nbs]⟩
  | cons x c ih =>
    intro u t q hc hw
    rw [wrapR] at hw
    cases hr : wrapR k s c (.ok u q) with
    | er e q' => rw [hr] at hw; simp at hw
    | ok u' q' =>
      rw [hr] at hw
      simp only at hw
      have hx := hc x List.mem_cons_self
      split at hw
      · injection hw with h1 h2
        subst h1 h2
        obtain ⟨g1, g2, g3⟩ := ih (fun y hy => hc y (List.mem_cons_of_mem _ hy)) hr
        refine ⟨Bal.cons hx g1, fun v => ?_, ?_⟩
        · have := g2 v
          simp only [nb, pc, hx, true_and]
          omega
        · simp only [nbs, Tr.sz, hx, if_true]
          omega
      · simp at hw
theorem Rd.cnt {m : Md} {s : List Tok} {r : R} (h : Rd m s r) : ∀ {t q}, r = .ok t q → ∃ c, s = c ++ q ∧ Cnt c m.pb m.zb t := by
  induction h with
  | first_er _ _ ih => intro t q h; simp at h
  | first_ok _ _ _ ih1 ih2 =>
    intro t q h
    obtain ⟨c1, rfl, a1, a2, a3⟩ := ih1 rfl
    obtain ⟨c2, rfl, b1, b2, b3⟩ := ih2 h
    refine ⟨c1 ++ c2, by rw [List.append_assoc], a1.app b1, fun v => ?_, ?_⟩
    · have h1 := a2 v; have h2 := b2 v; simp only [Md.pb] at *; rw [nb_app]; omega
    · simp only [Md.zb] at *; rw [nbs_app]; omega
  | stop _ _ =>
    intro t q h; injection h with h1 h2; subst h1 h2
    exact ⟨[], rfl, Bal.nil, fun v => by simp [nb, Md.pb], by simp [nbs, Md.zb]⟩
  | next_er _ _ _ ih => intro t q h; simp at h
  | next_node _ _ _ _ _ => intro t q h; simp at h
  | @next_ok n t k x s u q r hc h3 ho h1 he h2 ih1 ih2 =>
    intro t' q' h
    have hr := op_range ho
    have h7 := lo7 n
    have hno := op_nobr (k := k) ⟨by omega, by omega⟩
    have hx := nobr (x := x) (by rw [hr.2.2]; exact hno.1) (by rw [hr.2.2]; exact hno.2)
    obtain ⟨c1, rfl, a1, a2, a3⟩ := ih1 rfl
    obtain ⟨c2, rfl, b1, b2, b3⟩ := ih2 h
    refine ⟨x :: (c1 ++ c2), by simp, Bal.cons hx (a1.app b1), fun v => ?_, ?_⟩
    · have g1 := a2 v; have g2 := b2 v; simp only [Md.pb, pc] at *; simp only [nb, nb_app, hx, true_and]; omega
    · simp only [Md.zb, Tr.sz] at *; simp only [nbs, nbs_app, hx, if_true]; omega
  | @next_one t k x s u q ho h1 he ih =>
    intro t' q' h
    have hr := op_range ho
    have h7 := lo7 3
    have hno := op_nobr (k := k) ⟨by omega, by omega⟩
    have hx := nobr (x := x) (by rw [hr.2.2]; exact hno.1) (by rw [hr.2.2]; exact hno.2)
    injection h with h1 h2; subst h1 h2
    obtain ⟨c1, rfl, a1, a2, a3⟩ := ih rfl
    refine ⟨x :: c1, by simp, Bal.cons hx a1, fun v => ?_, ?_⟩
    · have g1 := a2 v; simp only [Md.pb, pc] at *; simp only [nb, hx, true_and]; omega
    · simp only [Md.zb, Tr.sz] at *; simp only [nbs, hx, if_true]; omega
  | @pre n c s r0 hp hc hn h1 ih =>
    intro t q h
    obtain ⟨u, hu⟩ := wrap_ok h
    subst hu
    obtain ⟨c1, rfl, a1, a2, a3⟩ := ih rfl
    have hs := sgn_nobr n
    obtain ⟨b1, b2, b3⟩ := wrap_cnt (fun x hx => nobr (x := x) (by rw [hc x hx]; exact hs.1) (by rw [hc x hx]; exact hs.2)) h
    refine ⟨c ++ c1, by rw [List.append_assoc], b1.app a1, fun v => ?_, ?_⟩
    · have h1 := a2 v; have h2 := b2 v; simp only [Md.pb] at *; rw [nb_app]; omega
    · simp only [Md.zb] at *; rw [nbs_app]; omega
  | @leaf x s k m hl =>
    intro t q h; injection h with h1 h2; subst h1 h2
    have hno := leaf_nobr hl
    have hx := nobr (x := x) hno.1 hno.2
    exact ⟨[x], rfl, Bal.one hx, fun v => by simp [nb, hx, Md.pb, pc], by simp [nbs, hx, Md.zb, Tr.sz]⟩
  | bad _ _ => intro t q h; simp at h
  | br_er _ _ ih => intro t q h; simp at h
  | br_no _ _ _ ih => intro t q h; simp at h
  | @br_ok x s t y q h4 h1 h5 ih =>
    intro t' q' h; injection h with h1 h2; subst h1 h2
    obtain ⟨c1, rfl, a1, a2, a3⟩ := ih rfl
    have hx : isBr x = true := by simp [isBr, h4]
    have hy : isBr y = true := by simp [isBr, h5]
    refine ⟨x :: (c1 ++ [y]), by simp, a1.brackets h4 h5, fun v => ?_, ?_⟩
    · have g1 := a2 v; simp only [Md.pb] at *; simp [nb, nb_app, hx, hy]; omega
    · simp only [Md.zb] at *; simp [nbs, nbs_app, hx, hy]; omega
/-- The kind of a bracket. -/
theorem br_kind {k : Int} {s : List UInt8} (h : checkE k s = 0) (hs : s = [40] ∨ s = [41]) : k = 3 := by
  unfold checkE at h
  by_cases h1 : k = 1
  · rw [if_pos h1] at h; rcases hs with rfl | rfl <;> exact absurd h (by decide)
  · rw [if_neg h1] at h
    by_cases h2 : k = 2
    · rw [if_pos h2] at h; rcases hs with rfl | rfl <;> exact absurd h (by decide)
    · rw [if_neg h2] at h
      by_cases h3 : k = 3
      · exact h3
      · rw [if_neg h3] at h; omega
theorem nb_snoc (v : Int) (c : List Tok) (x : Tok) : nb v (c ++ [x]) = nb v c + if isBr x = false ∧ x.a = v then 1 else 0 := by rw [nb_app]; simp [nb]
theorem nbs_snoc (c : List Tok) (x : Tok) : nbs (c ++ [x]) = nbs c + if isBr x = false then 1 else 0 := by rw [nbs_app]; simp [nbs]
theorem pl_snoc (v : Int) (l : List Nd) (x : Nd) : pl v (l ++ [x]) = pl v l + if x.p = v then 1 else 0 := by rw [pl_app]; simp [pl]
theorem nbs_le (c : List Tok) : nbs c ≤ c.length := by
  induction c with
  | nil => simp [nbs]
  | cons x c ih => simp only [nbs, List.length_cons]; split <;> omega
theorem nb_le (v : Int) (c : List Tok) : nb v c ≤ c.length := by
  induction c with
  | nil => simp [nb]
  | cons x c ih => simp only [nb, List.length_cons]; split <;> omega
theorem dep_le (c : List Tok) : ∀ o o', dep o c = some o' → o' ≤ o + c.length := by
  induction c with
  | nil => intro o o' h; injection h with h; subst h; simp
  | cons x c ih =>
    intro o o' h
    rw [dep] at h
    by_cases h1 : isBr x = true
    · rw [if_pos h1] at h
      by_cases h2 : (if x.s = [40] then o + 1 else o - 1) < 0
      · rw [if_pos h2] at h; cases h
      · rw [if_neg h2] at h
        have := ih _ _ h
        simp only [List.length_cons]
        split at this <;> omega
    · rw [if_neg h1] at h
      have := ih _ _ h; simp only [List.length_cons]; omega
end Go.Proofs.YtlmamidodahgmaaGreatDoor

/- PRd: How expressions are parsed: one answer alone, what stands behind them, other places. -/
namespace Go.Proofs.YtlmamidodahgmaaGreatDoor
open Go.RowKit N4
set_option linter.unusedVariables false
set_option maxRecDepth 100000

/-! ### one answer -/
theorem split_one {b : List UInt8} : ∀ {c s c' s' : List Tok}, c ++ s = c' ++ s' → (∀ x ∈ c, x.s = b) → (∀ x ∈ c', x.s = b) → txt s ≠ b → txt s' ≠ b → c = c' ∧ s = s' := by
  intro c
  induction c with
  | nil =>
    intro s c' s' h _ hc' hs _
    cases c' with
    | nil => exact ⟨rfl, h⟩
    | cons y c' =>
      rw [List.nil_append] at h
      subst h
      exact absurd (hc' y List.mem_cons_self) hs
  | cons x c ih =>
    intro s c' s' h hc hc' hs hs'
    cases c' with
    | nil =>
      rw [List.nil_append] at h
      subst h
      exact absurd (hc x List.mem_cons_self) hs'
    | cons y c' =>
      rw [List.cons_append, List.cons_append] at h
      injection h with h1 h2
      obtain ⟨e1, e2⟩ := ih h2 (fun z hz => hc z (List.mem_cons_of_mem _ hz)) (fun z hz => hc' z (List.mem_cons_of_mem _ hz)) hs hs'
      exact ⟨by rw [h1, e1], e2⟩
theorem Rd.det {m : Md} {s : List Tok} {r : R} (h : Rd m s r) : ∀ {r' : R}, Rd m s r' → r = r' := by
  induction h with
  | first_er hc _ ih =>
    intro r' h'
    rcases h'.inv_ch hc with ⟨e, q, rfl, h1⟩ | ⟨t, q, h1, _⟩
    · exact ih h1
    · cases ih h1
  | first_ok hc _ _ ih1 ih2 =>
    intro r' h'
    rcases h'.inv_ch hc with ⟨e, q, rfl, h1⟩ | ⟨t, q, h1, h2⟩
    · cases ih1 h1
    · cases ih1 h1; exact ih2 h2
  | stop hc ho =>
    intro r' h'
    rcases h'.inv_chain with ⟨rfl, _⟩ | ⟨x, s', k, r1, rfl, h1, _, _⟩
    · rfl
    · rw [show txt (x :: s') = x.s from rfl, h1] at ho; cases ho
  | next_er hc ho _ ih =>
    intro r' h'
    rcases h'.inv_chain with ⟨rfl, h0⟩ | ⟨x, s', k, r1, hs, h1, h2, h3⟩
    · rw [txt, ho] at h0; cases h0
    · injection hs with e1 e2; subst e1 e2
      rw [ho] at h1; injection h1 with h1; subst h1
      have := ih h2; subst this
      rcases h3 with ⟨v, q, hj, rfl⟩ | ⟨u, q, hj, _⟩
      · rw [← hj]; rfl
      · cases hj
  | next_node hc ho _ he ih =>
    intro r' h'
    rcases h'.inv_chain with ⟨rfl, h0⟩ | ⟨x, s', k, r1, hs, h1, h2, h3⟩
    · rw [txt, ho] at h0; cases h0
    · injection hs with e1 e2; subst e1 e2
      rw [ho] at h1; injection h1 with h1; subst h1
      have := ih h2; subst this
      rcases h3 with ⟨v, q, hj, rfl⟩ | ⟨u, q, hj, _⟩
      · rw [joinR, if_neg he] at hj; exact hj
      · rw [joinR, if_neg he] at hj; cases hj
  | next_ok hc h3 ho _ he _ ih1 ih2 =>
    intro r' h'
    rcases h'.inv_chain with ⟨rfl, h0⟩ | ⟨x, s', k, r1, hs, h1, h2, h4⟩
    · rw [txt, ho] at h0; cases h0
    · injection hs with e1 e2; subst e1 e2
      rw [ho] at h1; injection h1 with h1; subst h1
      have := ih1 h2; subst this
      rcases h4 with ⟨v, q, hj, rfl⟩ | ⟨u, q, hj, _, h5⟩
      · rw [joinR, if_pos he] at hj; cases hj
      · rw [joinR, if_pos he] at hj; cases hj; exact ih2 (h5 h3)
  | next_one ho _ he ih1 =>
    intro r' h'
    rcases h'.inv_chain with ⟨rfl, h0⟩ | ⟨x, s', k, r1, hs, h1, h2, h4⟩
    · rw [txt, ho] at h0; cases h0
    · injection hs with e1 e2; subst e1 e2
      rw [ho] at h1; injection h1 with h1; subst h1
      have := ih1 h2; subst this
      rcases h4 with ⟨v, q, hj, rfl⟩ | ⟨u, q, hj, h5, _⟩
      · rw [joinR, if_pos he] at hj; cases hj
      · rw [joinR, if_pos he] at hj; cases hj; rw [h5 rfl]
  | @pre n c s r0 hp hc hs _ ih =>
    intro r' h'
    obtain ⟨c', s', r1, he, hc', hs', h1, rfl⟩ := h'.inv_pre hp
    obtain ⟨rfl, rfl⟩ := split_one he hc hc' hs hs'
    rw [ih h1]
  | leaf hl =>
    intro r' h'
    rcases h'.inv_prim with ⟨x, s', k, m, hs, h1, rfl⟩ | ⟨h1, h2, _⟩ | ⟨x, s', r0, hs, h1, _, _⟩
    · injection hs with e1 e2; subst e1 e2
      rw [hl] at h1; injection h1 with h1; injection h1 with h1 h2; subst h1 h2; rfl
    · rw [txt, hl] at h2; cases h2
    · injection hs with e1 e2; subst e1 e2
      rw [leaf_br h1] at hl; cases hl
  | bad h1 h2 =>
    intro r' h'
    rcases h'.inv_prim with ⟨x, s', k, m, rfl, h3, rfl⟩ | ⟨_, _, rfl⟩ | ⟨x, s', r0, rfl, h3, _, _⟩
    · rw [txt, h3] at h2; cases h2
    · rfl
    · exact absurd h3 h1
  | br_er h1 _ ih =>
    intro r' h'
    rcases h'.inv_prim with ⟨x, s', k, m, hs, h3, rfl⟩ | ⟨h3, _, rfl⟩ | ⟨x, s', r0, hs, h3, h4, h5⟩
    · injection hs with e1 e2; subst e1 e2
      rw [leaf_br h1] at h3; cases h3
    · exact absurd h1 h3
    · injection hs with e1 e2; subst e1 e2
      have := ih h4; subst this
      exact h5
  | @br_no x s t q h1 _ hq ih =>
    intro r' h'
    rcases h'.inv_prim with ⟨x, s', k, m, hs, h3, rfl⟩ | ⟨h3, _, rfl⟩ | ⟨x, s', r0, hs, h3, h4, h5⟩
    · injection hs with e1 e2; subst e1 e2
      rw [leaf_br h1] at h3; cases h3
    · exact absurd h1 h3
    · injection hs with e1 e2; subst e1 e2
      have := ih h4; subst this
      rw [← h5]
      cases q with
      | nil => rfl
      | cons y q => exact (if_neg hq).symm
  | br_ok h1 _ hy ih =>
    intro r' h'
    rcases h'.inv_prim with ⟨x, s', k, m, hs, h3, rfl⟩ | ⟨h3, _, rfl⟩ | ⟨x, s', r0, hs, h3, h4, h5⟩
    · injection hs with e1 e2; subst e1 e2
      rw [leaf_br h1] at h3; cases h3
    · exact absurd h1 h3
    · injection hs with e1 e2; subst e1 e2
      have := ih h4; subst this
      rw [← h5]; exact (if_pos hy).symm

/-! ### what stands behind -/
theorem txt_app {q q' : List Tok} (h : txt q' = txt q) (c : List Tok) : txt (c ++ q') = txt (c ++ q) := by
  cases c with
  | nil => exact h
  | cons x c => rfl
theorem wrap_loc {k : Int} {s s' q q' : List Tok} : ∀ {c : List Tok} {u t : Tr}, wrapR k s c (.ok u q) = .ok t q → wrapR k s' c (.ok u q') = .ok t q' := by
  intro c
  induction c with
  | nil => intro u t h; injection h with h _; subst h; rfl
  | cons x c ih =>
    intro u t h
    rw [wrapR] at h ⊢
    cases hw : wrapR k s c (.ok u q) with
    | er e p => rw [hw] at h; cases h
    | ok u' p =>
      rw [hw] at h
      simp only at h
      split at h
      · rename_i he
        injection h with h1 h2; subst h1 h2
        rw [ih hw]; exact if_pos he
      · cases h
theorem Rd.loc {m : Md} {s : List Tok} {r : R} (h : Rd m s r) : ∀ {t q}, r = .ok t q → ∃ c, s = c ++ q ∧ ∀ q', txt q' = txt q → Rd m (c ++ q') (.ok t q') := by
  induction h with
  | first_er _ _ ih => intro t q h; cases h
  | first_ok hc _ _ ih1 ih2 =>
    intro t q h
    obtain ⟨c1, rfl, a1⟩ := ih1 rfl
    obtain ⟨c2, rfl, a2⟩ := ih2 h
    refine ⟨c1 ++ c2, by rw [List.append_assoc], fun q' hq => ?_⟩
    rw [List.append_assoc]
    exact .first_ok hc (a1 _ (txt_app hq c2)) (a2 q' hq)
  | stop hc ho =>
    intro t q h; injection h with h1 h2; subst h1 h2
    exact ⟨[], rfl, fun q' hq => .stop hc (by rw [List.nil_append, hq]; exact ho)⟩
  | next_er _ _ _ ih => intro t q h; cases h
  | next_node _ _ _ _ _ => intro t q h; cases h
  | next_ok hc h3 ho _ he _ ih1 ih2 =>
    intro t' q' h
    obtain ⟨c1, rfl, a1⟩ := ih1 rfl
    obtain ⟨c2, rfl, a2⟩ := ih2 h
    refine ⟨_ :: (c1 ++ c2), by rw [List.cons_append, List.append_assoc], fun p hp => ?_⟩
    rw [List.cons_append, List.append_assoc]
    exact .next_ok hc h3 ho (a1 _ (txt_app hp c2)) he (a2 p hp)
  | next_one ho _ he ih =>
    intro t' q' h
    injection h with h1 h2; subst h1 h2
    obtain ⟨c1, rfl, a1⟩ := ih rfl
    exact ⟨_ :: c1, rfl, fun p hp => .next_one ho (a1 p hp) he⟩
  | @pre n c s r0 hp hc hs _ ih =>
    intro t q h
    obtain ⟨u, rfl⟩ := wrap_ok h
    obtain ⟨c1, rfl, a1⟩ := ih rfl
    refine ⟨c ++ c1, by rw [List.append_assoc], fun q' hq => ?_⟩
    rw [List.append_assoc]
    have := Rd.pre hp hc (by rw [txt_app hq c1]; exact hs) (a1 q' hq)
    rwa [wrap_loc h] at this
  | leaf hl =>
    intro t q h; injection h with h1 h2; subst h1 h2
    exact ⟨[_], rfl, fun q' _ => .leaf hl⟩
  | bad _ _ => intro t q h; cases h
  | br_er _ _ ih => intro t q h; cases h
  | br_no _ _ _ ih => intro t q h; cases h
  | @br_ok x s t y q h4 h1 h5 ih =>
    intro t' q' h; injection h with h1 h2; subst h1 h2
    obtain ⟨c1, rfl, a1⟩ := ih rfl
    refine ⟨x :: (c1 ++ [y]), by simp, fun p hp => ?_⟩
    rw [List.cons_append, List.append_assoc]
    exact .br_ok h4 (a1 (y :: p) rfl) h5
/-- What its tokens are. -/
theorem Rd.mem {P : List UInt8 → Prop} (hop : ∀ n k s, opOf (loK n) (hiK n) s = some k → P s) (hsg : ∀ n, P (sgnB n)) (hlf : ∀ s km, leafOf s = some km → P s) (ho : P [40]) (hcl : P [41])
    {m : Md} {s : List Tok} {r : R} (h : Rd m s r) : ∀ {t q}, r = .ok t q → ∃ c, s = c ++ q ∧ ∀ x ∈ c, P x.s := by
  induction h with
  | first_er _ _ ih => intro t q h; cases h
  | first_ok hc _ _ ih1 ih2 =>
    intro t q h
    obtain ⟨c1, rfl, a1⟩ := ih1 rfl
    obtain ⟨c2, rfl, a2⟩ := ih2 h
    exact ⟨c1 ++ c2, by rw [List.append_assoc], fun x hx => (List.mem_append.1 hx).elim (a1 x) (a2 x)⟩
  | stop hc ho =>
    intro t q h; injection h with h1 h2; subst h1 h2
    exact ⟨[], rfl, by simp⟩
  | next_er _ _ _ ih => intro t q h; cases h
  | next_node _ _ _ _ _ => intro t q h; cases h
  | next_ok hc h3 ho _ he _ ih1 ih2 =>
    intro t' q' h
    obtain ⟨c1, rfl, a1⟩ := ih1 rfl
    obtain ⟨c2, rfl, a2⟩ := ih2 h
    refine ⟨_ :: (c1 ++ c2), by rw [List.cons_append, List.append_assoc], fun x hx => ?_⟩
    rcases List.mem_cons.1 hx with rfl | hx
    · exact hop _ _ _ ho
    · exact (List.mem_append.1 hx).elim (a1 x) (a2 x)
  | next_one ho _ he ih =>
    intro t' q' h
    injection h with h1 h2; subst h1 h2
    obtain ⟨c1, rfl, a1⟩ := ih rfl
    refine ⟨_ :: c1, rfl, fun x hx => ?_⟩
    rcases List.mem_cons.1 hx with rfl | hx
    · exact hop _ _ _ ho
    · exact a1 x hx
  | @pre n c s r0 hp hc hs _ ih =>
    intro t q h
    obtain ⟨u, rfl⟩ := wrap_ok h
    obtain ⟨c1, rfl, a1⟩ := ih rfl
    refine ⟨c ++ c1, by rw [List.append_assoc], fun x hx => ?_⟩
    rcases List.mem_append.1 hx with hx | hx
    · rw [hc x hx]; exact hsg n
    · exact a1 x hx
  | leaf hl =>
    intro t q h; injection h with h1 h2; subst h1 h2
    refine ⟨[_], rfl, fun x hx => ?_⟩
    rw [List.mem_singleton.1 hx]; exact hlf _ _ hl
  | bad _ _ => intro t q h; cases h
  | br_er _ _ ih => intro t q h; cases h
  | br_no _ _ _ ih => intro t q h; cases h
  | @br_ok x s t y q h4 h1 h5 ih =>
    intro t' q' h; injection h with h1 h2; subst h1 h2
    obtain ⟨c1, rfl, a1⟩ := ih rfl
    refine ⟨x :: (c1 ++ [y]), by simp, fun z hz => ?_⟩
    rcases List.mem_cons.1 hz with rfl | hz
    · rw [h4]; exact ho
    · rcases List.mem_append.1 hz with hz | hz
      · exact a1 z hz
      · rw [List.mem_singleton.1 hz, h5]; exact hcl

/-! ### other places -/
def alR : R → R → Prop
  | .ok t q, .ok t' q' => t.z = t'.z ∧ al q = al q'
  | .er v q, .er v' q' => v = v' ∧ al q = al q'
  | _, _ => False
def alM : Md → Md → Prop
  | .line n, .line n' => n = n'
  | .chain n t, .chain n' t' => n = n' ∧ t.z = t'.z
  | _, _ => False
theorem al_cons {x : Tok} {s s' : List Tok} (h : al (x :: s) = al s') : ∃ y t, s' = y :: t ∧ x.k = y.k ∧ x.s = y.s ∧ al s = al t := by
  cases s' with
  | nil => simp [al] at h
  | cons y t =>
    simp only [al, List.map_cons, List.cons.injEq, Prod.mk.injEq] at h
    exact ⟨y, t, rfl, h.1.1, h.1.2, h.2⟩
theorem al_nil {s : List Tok} (h : al [] = al s) : s = [] := by
  cases s with
  | nil => rfl
  | cons y t => simp [al] at h
theorem al_app {c s s' : List Tok} (h : al (c ++ s) = al s') : ∃ c' t, s' = c' ++ t ∧ al c = al c' ∧ al s = al t := by
  induction c generalizing s' with
  | nil => exact ⟨[], s', rfl, rfl, h⟩
  | cons x c ih =>
    obtain ⟨y, t, rfl, h1, h2, h3⟩ := al_cons h
    obtain ⟨c', u, rfl, h4, h5⟩ := ih h3
    exact ⟨y :: c', u, rfl, by simp only [al, List.map_cons, h1, h2] at h4 ⊢; rw [h4], h5⟩
theorem al_txt {s s' : List Tok} (h : al s = al s') : txt s = txt s' := by
  cases s with
  | nil => rw [al_nil h]
  | cons x s => obtain ⟨y, t, rfl, _, h2, _⟩ := al_cons h; exact h2
theorem al_tail {s s' : List Tok} (h : al s = al s') : al s.tail = al s'.tail := by
  cases s with
  | nil => rw [al_nil h]
  | cons x s => obtain ⟨y, t, rfl, _, _, h3⟩ := al_cons h; exact h3
theorem al_join {c c' s s' : List Tok} (h : al c = al c') (g : al s = al s') : al (c ++ s) = al (c' ++ s') := by
  unfold al at *; rw [List.map_append, List.map_append, h, g]
theorem wrap_al {k : Int} {s s' : List Tok} (hs : al s = al s') : ∀ {c c' : List Tok} {r r' : R}, al c = al c' → alR r r' → alR (wrapR k s c r) (wrapR k s' c' r') := by
  intro c
  induction c with
  | nil => intro c' r r' hc hr; rw [al_nil hc]; exact hr
  | cons x c ih =>
    intro c' r r' hc hr
    have hc0 := hc
    obtain ⟨y, d, rfl, h1, h2, h3⟩ := al_cons hc
    have := ih h3 hr
    rw [wrapR, wrapR]
    cases hw : wrapR k s c r with
    | er e q =>
      rw [hw] at this
      cases hw' : wrapR k s' d r' with
      | er e' q' => rw [hw'] at this; exact this
      | ok t' q' => rw [hw'] at this; exact this.elim
    | ok t q =>
      rw [hw] at this
      cases hw' : wrapR k s' d r' with
      | er e' q' => rw [hw'] at this; exact this.elim
      | ok t' q' =>
        rw [hw'] at this
        have he : (Tr.un k x.a t).er = (Tr.un k y.a t').er := un_er this.1
        simp only
        rw [he]
        split
        · exact ⟨by simp [Tr.z, this.1], this.2⟩
        · exact ⟨rfl, al_join (c := x :: c) (c' := y :: d) hc0 hs⟩
theorem Rd.al {m : Md} {s : List Tok} {r : R} (h : Rd m s r) : ∀ {m' : Md} {s' : List Tok}, alM m m' → al s = al s' → ∃ r', Rd m' s' r' ∧ alR r r' := by
  induction h with
  | @first_er n s e q hc _ ih =>
    intro m' s' hm hs
    cases m' with
    | chain _ _ => exact hm.elim
    | line n' =>
      cases hm
      obtain ⟨r', h1, h2⟩ := ih (m' := .line (n + 1)) rfl hs
      cases r' with
      | ok _ _ => exact h2.elim
      | er e' q' => exact ⟨_, .first_er hc h1, h2⟩
  | @first_ok n s t q r hc _ _ ih1 ih2 =>
    intro m' s' hm hs
    cases m' with
    | chain _ _ => exact hm.elim
    | line n' =>
      cases hm
      obtain ⟨r1, h1, h2⟩ := ih1 (m' := .line (n + 1)) rfl hs
      cases r1 with
      | er _ _ => exact h2.elim
      | ok t' q' =>
        obtain ⟨r2, h3, h4⟩ := ih2 (m' := .chain n t') ⟨rfl, h2.1⟩ h2.2
        exact ⟨r2, .first_ok hc h1 h3, h4⟩
  | @stop n t s hc ho =>
    intro m' s' hm hs
    cases m' with
    | line _ => exact hm.elim
    | chain n' t' =>
      obtain ⟨rfl, hz⟩ := hm
      exact ⟨_, .stop hc (by rw [← al_txt hs]; exact ho), hz, hs⟩
  | @next_er n t k x s e q hc ho _ ih =>
    intro m' s' hm hs
    cases m' with
    | line _ => exact hm.elim
    | chain n' t' =>
      obtain ⟨rfl, hz⟩ := hm
      obtain ⟨y, u, rfl, h1, h2, h3⟩ := al_cons hs
      obtain ⟨r', h4, h5⟩ := ih (m' := .line (n + 1)) rfl h3
      cases r' with
      | ok _ _ => exact h5.elim
      | er e' q' => exact ⟨_, .next_er hc (by rw [← h2]; exact ho) h4, h5⟩
  | @next_node n t k x s u q hc ho _ he ih =>
    intro m' s' hm hs
    cases m' with
    | line _ => exact hm.elim
    | chain n' t' =>
      obtain ⟨rfl, hz⟩ := hm
      have hs0 := hs
      obtain ⟨y, v, rfl, h1, h2, h3⟩ := al_cons hs
      obtain ⟨r', h4, h5⟩ := ih (m' := .line (n + 1)) rfl h3
      cases r' with
      | er _ _ => exact h5.elim
      | ok u' q' =>
        have e1 : (Tr.bin k x.a t u).er = (Tr.bin k y.a t' u').er := bin_er hz h5.1
        exact ⟨_, .next_node hc (by rw [← h2]; exact ho) h4 (by rw [← e1]; exact he), e1, hs0⟩
  | @next_ok n t k x s u q r hc h3 ho _ he _ ih1 ih2 =>
    intro m' s' hm hs
    cases m' with
    | line _ => exact hm.elim
    | chain n' t' =>
      obtain ⟨rfl, hz⟩ := hm
      obtain ⟨y, v, rfl, h1, h2, h4⟩ := al_cons hs
      obtain ⟨r', h5, h6⟩ := ih1 (m' := .line (n + 1)) rfl h4
      cases r' with
      | er _ _ => exact h6.elim
      | ok u' q' =>
        have e1 : (Tr.bin k x.a t u).er = (Tr.bin k y.a t' u').er := bin_er hz h6.1
        obtain ⟨r2, h7, h8⟩ := ih2 (m' := .chain n (.bin k y.a t' u')) ⟨rfl, by simp [Tr.z, hz, h6.1]⟩ h6.2
        exact ⟨r2, .next_ok hc h3 (by rw [← h2]; exact ho) h5 (by rw [← e1]; exact he) h7, h8⟩
  | @next_one t k x s u q ho _ he ih =>
    intro m' s' hm hs
    cases m' with
    | line _ => exact hm.elim
    | chain n' t' =>
      obtain ⟨rfl, hz⟩ := hm
      obtain ⟨y, v, rfl, h1, h2, h4⟩ := al_cons hs
      obtain ⟨r', h5, h6⟩ := ih (m' := .line 4) rfl h4
      cases r' with
      | er _ _ => exact h6.elim
      | ok u' q' =>
        have e1 : (Tr.bin k x.a t u).er = (Tr.bin k y.a t' u').er := bin_er hz h6.1
        exact ⟨_, .next_one (by rw [← h2]; exact ho) h5 (by rw [← e1]; exact he), by simp [Tr.z, hz, h6.1], h6.2⟩
  | @pre n c s r0 hp hc hs0 _ ih =>
    intro m' s' hm hs
    cases m' with
    | chain _ _ => exact hm.elim
    | line n' =>
      cases hm
      obtain ⟨c', u, rfl, h1, h2⟩ := al_app hs
      obtain ⟨r', h3, h4⟩ := ih (m' := .line (n + 1)) rfl h2
      refine ⟨_, .pre hp ?_ (by rw [← al_txt h2]; exact hs0) h3, wrap_al h2 h1 h4⟩
      intro y hy
      obtain ⟨i, hi, rfl⟩ := List.getElem_of_mem hy
      have hl : i < c.length := by rw [al_length h1]; exact hi
      have := congrArg (·[i]?) h1
      simp only [Go.Proofs.YtlmamidodahgmaaGreatDoor.al, List.getElem?_map, List.getElem?_eq_getElem hi, List.getElem?_eq_getElem hl, Option.map_some, Option.some.injEq, Prod.mk.injEq] at this
      rw [← this.2]; exact hc _ (List.getElem_mem hl)
  | @leaf x s k mm hl =>
    intro m' s' hm hs
    cases m' with
    | chain _ _ => exact hm.elim
    | line n' =>
      cases hm
      obtain ⟨y, u, rfl, h1, h2, h3⟩ := al_cons hs
      exact ⟨_, .leaf (by rw [← h2]; exact hl), rfl, h3⟩
  | @bad s h1 h2 =>
    intro m' s' hm hs
    cases m' with
    | chain _ _ => exact hm.elim
    | line n' =>
      cases hm
      have := al_txt hs
      exact ⟨_, .bad (by rw [← this]; exact h1) (by rw [← this]; exact h2), rfl, hs⟩
  | @br_er x s e q h1 _ ih =>
    intro m' s' hm hs
    cases m' with
    | chain _ _ => exact hm.elim
    | line n' =>
      cases hm
      obtain ⟨y, u, rfl, g1, g2, g3⟩ := al_cons hs
      obtain ⟨r', h3, h4⟩ := ih (m' := .line 0) rfl g3
      cases r' with
      | ok _ _ => exact h4.elim
      | er e' q' => exact ⟨_, .br_er (by rw [← g2]; exact h1) h3, h4⟩
  | @br_no x s t q h1 _ h2 ih =>
    intro m' s' hm hs
    cases m' with
    | chain _ _ => exact hm.elim
    | line n' =>
      cases hm
      obtain ⟨y, u, rfl, g1, g2, g3⟩ := al_cons hs
      obtain ⟨r', h3, h4⟩ := ih (m' := .line 0) rfl g3
      cases r' with
      | er _ _ => exact h4.elim
      | ok t' q' => exact ⟨_, .br_no (by rw [← g2]; exact h1) h3 (by rw [← al_txt h4.2]; exact h2), rfl, h4.2⟩
  | @br_ok x s t y q h1 _ h2 ih =>
    intro m' s' hm hs
    cases m' with
    | chain _ _ => exact hm.elim
    | line n' =>
      cases hm
      obtain ⟨z, u, rfl, g1, g2, g3⟩ := al_cons hs
      obtain ⟨r', h3, h4⟩ := ih (m' := .line 0) rfl g3
      cases r' with
      | er _ _ => exact h4.elim
      | ok t' q' =>
        obtain ⟨y', v, rfl, k1, k2, k3⟩ := al_cons h4.2
        exact ⟨_, .br_ok (by rw [← g2]; exact h1) h3 (by rw [← k2]; exact h2), h4.1, k3⟩
end Go.Proofs.YtlmamidodahgmaaGreatDoor
