/- A reader's aggregate. -/
import Derived.Test.YtlmamidodahgmaaGreatDoorPExpr
import Derived.Test.YtlmamidodahgmaaGreatDoorQB
namespace Go.Proofs.YtlmamidodahgmaaGreatDoor.P9
open Go.ChangeShapes Go.WideShapes Go.ChangeAt Go.RowKit N4 Q8
set_option linter.unusedVariables false
set_option linter.unusedSimpArgs false
set_option maxRecDepth 100000

theorem lies_str {W : World} {cs : Array Value} {t : TypeId} {Ts : List (List UInt8)} (hcs : cs.toList = strC Ts) : Lies (W.alloc (.cells cs t)) (some ⟨W.heap.size, 0, none⟩) (strC Ts) := N4.lies_vals W _ rfl cs t _ hcs
section
variable {w0 : World × World} {w w' : World} {L s s' : List Tok} {A : Option Addr} {c b : Nat} {VA VS VB : Value} {q : Qy} {B : Nat} {X : List Value}
theorem kp_new {b : Nat} {w w' : World} {o : Obj} (k : Kp b (w.alloc o) w') : Kp b w w' := (Kp.al b w o).trans k
theorem expect_lit (f : Fx w0.1 L A c b) (h : St w0 L A c b s X w) (Ts : List (List UInt8)) (hT : ∀ T ∈ Ts, T ≠ []) (n c2 : Nat) (hn : Ts.length = n) (hn2 : n ≤ 100) (cs : Array Value) (t : TypeId) (hcs : cs.toList = strC Ts) :
    Calls Tryz.prog 83 #[.pointer (some ⟨b, 0, none⟩), .slice (some ⟨w.heap.size, 0, none⟩) n c2] (w.alloc (.cells cs t)) fun e w' => e = .returned (.int .i64 (codeR (expR Ts s).1)) ∧ Kp b w w' ∧ St w0 L A c b (expR Ts s).2 X w' :=
  (expect_q w0 L A c b s X _ f (h.below ((Below.refl _ _).alloc (Nat.le_refl _) _)) Ts hT (some ⟨w.heap.size, 0, none⟩) n c2 hn hn2 (lies_str hcs) (fun a ha => by injection ha with ha; subst ha; have := h.rd.lt; show w.heap.size ≠ b; omega)).mono
    fun e w' ⟨h1, h2, h3⟩ => ⟨h1, kp_new h2, h3⟩
theorem choice_lit (f : Fx w0.1 L A c b) (h : St w0 L A c b s X w) (Ts : List (List UInt8)) (n c2 : Nat) (hn : Ts.length = n) (hn2 : n ≤ 100) (cs : Array Value) (t : TypeId) (hcs : cs.toList = strC Ts) :
    Calls Tryz.prog 84 #[.pointer (some ⟨b, 0, none⟩), .slice (some ⟨w.heap.size, 0, none⟩) n c2] (w.alloc (.cells cs t)) fun e w' => e = .returned (.tuple #[.int .u8 (chV (idxOf (txt s) Ts)), .int .i64 (chE (idxOf (txt s) Ts))]) ∧ Below w.heap.size w w' :=
  (choice_q w0 L A c b s X _ f (h.below ((Below.refl _ _).alloc (Nat.le_refl _) _)) Ts (some ⟨w.heap.size, 0, none⟩) n c2 hn hn2 (lies_str hcs)).mono
    fun e w' ⟨h1, m, h2⟩ => ⟨h1, by subst h2; exact Below.drewN' ((Below.refl _ _).alloc (Nat.le_refl _) _) _⟩
theorem rd_small (f : Fx w0.1 L A c b) (hs : s <:+ L) {t : Tr} (h : rdL s = .ok t s') : t.sz ≤ 60 := by
  have := (rdL_rd s).good (f.mem hs) trivial h
  exact (Tr.er_zero.1 this.2).1
theorem lies_lt {w : World} {A : Option Addr} {cs : List Value} (h : Lies w A cs) (hc : cs ≠ []) : ∀ a, A = some a → a.block < w.heap.size := by
  intro a ha
  rcases h with h0 | ⟨ad, h1, h2, _⟩
  · exact absurd h0 hc
  · obtain rfl : a = ad := Option.some.inj (ha.symm.trans h1); exact h2
theorem lies_some {w : World} {A : Option Addr} {cs : List Value} (h : Lies w A cs) (hc : cs ≠ []) : A ≠ none := by
  rcases h with h0 | ⟨ad, h1, _⟩
  · exact absurd h0 hc
  · rw [h1]; exact fun hh => by cases hh
theorem nd_cells_ne {L : List Nd} (h : L ≠ []) : ndCells L ≠ [] := by
  cases L with
  | nil => exact absurd rfl h
  | cons x L => simp [ndCells, ndC]
theorem PQ.withArg (h : PQ w0 L A c b s VA (.slice none 0 0) VB q B w) (hl : q.l = []) (k : Kp b w w') {t : Tr} {A' : Option Addr} {c' : Nat}
    (hst : St w0 L A c b s' ((QCl q VA (.slice none 0 0) VB).set 1 (.slice A' t.sz (t.sz + c'))) w') (hL : Lies w' A' (ndCells t.flat)) (hb : ∀ a, A' = some a → a.block ≠ b) (hz : t.sz ≤ 60) :
    PQ w0 L A c b s' (.slice A' t.sz (t.sz + c')) (.slice none 0 0) VB { q with L := t.flat } w'.heap.size w' where
  st := hst
  arg := ⟨A', c', by rw [t.flat_length], hL, by rw [t.flat_length]; omega, fun a ha _ => hb a ha, fun hh => absurd hh (lies_some hL (nd_cells_ne t.flat_ne))⟩
  argB := fun a n c e hh => by injection e with e; exact lies_lt hL (nd_cells_ne hh) a e
  src := by rw [hl]; exact World.ownsRow_nil _ _ _ _
  bB := hst.rd.lt
  FB := hst.fr.1
  BS := Nat.le_refl _
  whr := h.whr.kp k
  whrB := fun a n c e hM => Nat.lt_of_lt_of_le (h.whrB a n c e hM) k.size
theorem PQ.withWhr (h : PQ w0 L A c b s VA VS VB q B w) (k : Kp b w w') {t : Tr} {A' : Option Addr} {c' : Nat}
    (hst : St w0 L A c b s' ((QCl q VA VS VB).set 4 (.slice A' t.sz (t.sz + c'))) w') (hL : Lies w' A' (ndCells t.flat)) (hb : ∀ a, A' = some a → a.block ≠ b) (hz : t.sz ≤ 60) :
    PQ w0 L A c b s' VA VS (.slice A' t.sz (t.sz + c')) { q with M := t.flat } B w' where
  st := hst
  arg := h.arg.kp k
  argB := h.argB
  src := own_kp h.src k h.bB
  bB := h.bB
  FB := h.FB
  BS := Nat.le_trans h.BS k.size
  whr := ⟨A', c', by rw [t.flat_length], hL, by rw [t.flat_length]; omega, fun a ha _ => hb a ha, fun hh => absurd hh (lies_some hL (nd_cells_ne t.flat_ne))⟩
  whrB := fun a n c e hh => by injection e with e; exact lies_lt hL (nd_cells_ne hh) a e
end
theorem code_t {b : Bool} (h : b = true) : codeR b = 0 := by rw [h]; rfl
theorem code_f {b : Bool} (h : b = false) : codeR b = 12 := by rw [h]; rfl
def nilV : Value := .slice none 0 0
set_option maxHeartbeats 4000000 in
theorem arg_q (w0 : World × World) (L : List Tok) (A : Option Addr) (c b : Nat) (s : List Tok) (q : Qy) (B : Nat) (w : World) (G : Gx w0 L A c b) (h : PQ w0 L A c b s (.slice none 0 0) (.slice none 0 0) (.slice none 0 0) q B w) (hl : q.l = []) :
    Calls Tryz.prog 85 #[.pointer (some ⟨b, 0, none⟩)] w (QPost w0 L A c b (argP q s)) := by
  have f := G.fx
  have HLN := Lib.hid hl
  clear hl
  obtain ⟨hlt, c0, c1, c2, _⟩ := h.cells
  unfold argP
  by_cases hg : q.g = 1
  · rw [if_pos hg, expP_R]
    have HX := Lib.hid (expect_lit f h.st [[40], [42], [41]] (by decide) 3 3 rfl (by decide) #[.string ⟨#[40]⟩, .string ⟨#[42]⟩, .string ⟨#[41]⟩] 9 rfl)
    have HP := Lib.hid h
    rw [hg] at c2
    clear h f c0 c1
    cases hb : (expR [[40], [42], [41]] s).1
    · rw [code_f hb] at HX
      go_enter Tryz.func85, Tryz.ntmps85
      go_wp2_with (go_at_call 83; refine HX.out.mono ?_; rintro e w2 ⟨rfl, hk, hs⟩; have HS := Lib.hid hs; clear hk hs)
      go_ret
      exact ⟨rfl, by decide, _, HS.out⟩
    · rw [code_t hb] at HX
      go_enter Tryz.func85, Tryz.ntmps85
      go_wp2_with (go_at_call 83; refine HX.out.mono ?_; rintro e w2 ⟨rfl, hk, hs⟩; have HS := Lib.hid hs; have HK := Lib.hid hk; clear hk hs)
      go_ret
      exact ⟨rfl, _, _, _, _, HP.out.st' HK.out HS.out⟩
  · rw [if_neg hg, expP_R]
    have hgb : (q.g == 1) = false := by simpa using hg
    have HX := Lib.hid (expect_lit f h.st [[40]] (by decide) 1 1 rfl (by decide) #[.string ⟨#[40]⟩] 9 rfl)
    have HP := Lib.hid h
    cases hb : (expR [[40]] s).1
    · rw [code_f hb] at HX
      clear h f c0 c1
      go_enter Tryz.func85, Tryz.ntmps85
      go_wp2_with (go_at_call 83; refine HX.out.mono ?_; rintro e w2 ⟨rfl, hk, hs⟩; have HS := Lib.hid hs; clear hk hs)
      go_ret
      exact ⟨rfl, by decide, _, HS.out⟩
    · rw [code_t hb] at HX
      obtain ⟨s1, hs1⟩ : ∃ s1, (expR [[40]] s).2 = s1 := ⟨_, rfl⟩
      rw [hs1] at HX ⊢
      have HE := Lib.hid (fun W (hst : St w0 L A c b s1 (QCl q (.slice none 0 0) (.slice none 0 0) (.slice none 0 0)) W) => expr_q w0 L A c b s1 _ _ _ q W G hst (noInt_slice _ _ _) (noInt_slice _ _ _) (noInt_slice _ _ _) 1 (.inl rfl))
      have HZ := Lib.hid (fun (hs : s1 <:+ L) t s' (h : rdL s1 = .ok t s') => rd_small f hs h)
      have HQ := Lib.hid (show ∀ r, rdL s1 = r → (expP [[40]] q s).bind (fun q s => (exprP (fun L => { q with L := L }) s).bind fun q s => expP [[41]] q s) = (match r with | .ok t s' => expP [[41]] { q with L := t.flat } s' | .er v s' => .er v s') from fun r hr => by
        rw [expP_R, hb, if_pos rfl, hs1]
        show (exprP _ s1).bind _ = _
        unfold exprP
        rw [hr]
        cases r <;> rfl)
      have HF := Lib.hid f
      rw [expP_R, hb, if_pos rfl, hs1] at HQ
      clear h f c0 c1 hs1 hb hg
      show Calls _ _ _ _ (QPost w0 L A c b (PR.bind (.ok q s1) (fun q s => (exprP (fun L => { q with L := L }) s).bind fun q s => expP [[41]] q s)))
      cases hr : rdL s1 with
      | er v s' =>
        have HQ2 := HQ.out _ hr
        simp only at HQ2
        rw [HQ2]
        clear HQ2
        rw [hr] at HE
        go_enter Tryz.func85, Tryz.ntmps85
        go_wp2_with (first
          | (go_at_call 83; refine HX.out.mono ?_; rintro e w2 ⟨rfl, hk, hs⟩; have HS := Lib.hid hs; clear hk hs)
          | (go_at_call 88; refine (HE.out _ HS.out).mono ?_; rintro e w3 ⟨_, rfl, h0, hY⟩; have hvb := errno_ne h0; have HY := Lib.hid hY; clear hY))
        go_ret
        exact ⟨rfl, h0, HY.out⟩
      | ok t s' =>
        have HQ2 := HQ.out _ hr
        simp only at HQ2
        rw [HQ2, expP_R]
        clear HQ2
        rw [hr] at HE
        have HT := Lib.hid (fun hs => HZ.out hs t s' hr)
        have HX2 := Lib.hid (fun (W : World) (X : List Value) (hst : St w0 L A c b s' X W) => expect_lit HF.out hst [[41]] (by decide) 1 1 rfl (by decide) #[.string ⟨#[41]⟩] 9 rfl)
        clear hr HZ HQ
        cases hb2 : (expR [[41]] s').1
        · rw [hb2] at HX2
          have HX3 := Lib.hid (fun (W : World) (X : List Value) (hst : St w0 L A c b s' X W) => show Calls Tryz.prog 83 #[.pointer (some ⟨b, 0, none⟩), .slice (some ⟨W.heap.size, 0, none⟩) 1 1] (W.alloc (.cells #[.string ⟨#[41]⟩] 9)) fun e w' => e = .returned (.int .i64 12) ∧ Kp b W w' ∧ St w0 L A c b (expR [[41]] s').2 X w' from HX2.out W X hst)
          go_enter Tryz.func85, Tryz.ntmps85
          go_wp2_with (first
            | (go_at_call 83; ((with_reducible refine HX.out.mono ?_); rintro e w2 ⟨rfl, hk, hs⟩; have HS := Lib.hid hs; clear hk hs))
            | (go_at_call 88; refine (HE.out _ HS.out).mono ?_; rintro e w3 ⟨hk, rfl, A', c', hs, hl, hn⟩; have HS3 := Lib.hid hs; clear hk hs hl hn)
            | (go_at_call 83; ((with_reducible refine (HX3.out _ _ HS3.out).mono ?_); rintro e w4 ⟨rfl, hk, hs⟩; have HS4 := Lib.hid hs; clear hk hs)))
          go_ret
          exact ⟨rfl, by decide, _, HS4.out⟩
        · rw [hb2] at HX2
          have HX3 := Lib.hid (fun (W : World) (X : List Value) (hst : St w0 L A c b s' X W) => show Calls Tryz.prog 83 #[.pointer (some ⟨b, 0, none⟩), .slice (some ⟨W.heap.size, 0, none⟩) 1 1] (W.alloc (.cells #[.string ⟨#[41]⟩] 9)) fun e w' => e = .returned (.int .i64 0) ∧ Kp b W w' ∧ St w0 L A c b (expR [[41]] s').2 X w' from HX2.out W X hst)
          go_enter Tryz.func85, Tryz.ntmps85
          go_wp2_with (first
            | (go_at_call 83; ((with_reducible refine HX.out.mono ?_); rintro e w2 ⟨rfl, hk, hs⟩; have HS := Lib.hid hs; have HK := Lib.hid hk; clear hk hs))
            | (go_at_call 88; refine (HE.out _ HS.out).mono ?_; rintro e w3 ⟨hk, rfl, A', c', hs, hl, hn⟩; have HS3 := Lib.hid hs; have HK3 := Lib.hid hk; have HL3 := Lib.hid hl; have HN3 := Lib.hid hn; clear hk hs hl hn)
            | (go_at_call 83; ((with_reducible refine (HX3.out _ _ HS3.out).mono ?_); rintro e w4 ⟨rfl, hk, hs⟩; have HS4 := Lib.hid hs; have HK4 := Lib.hid hk; clear hk hs)))
          go_ret
          have hP := (HP.out.st' HK.out HS.out).withArg HLN.out HK3.out HS3.out HL3.out HN3.out (HT.out HS.out.suf)
          exact ⟨rfl, _, _, _, _, hP.st' HK4.out HS4.out⟩
set_option maxHeartbeats 4000000 in
theorem agg_q (w0 : World × World) (L : List Tok) (A : Option Addr) (c b : Nat) (s : List Tok) (B : Nat) (w : World) (G : Gx w0 L A c b) (h : PQ w0 L A c b s (.slice none 0 0) (.slice none 0 0) (.slice none 0 0) q0 B w) :
    Calls Tryz.prog 57 #[.pointer (some ⟨b, 0, none⟩)] w (QPost w0 L A c b (aggP q0 s)) := by
  have f := G.fx
  have HX := Lib.hid (expect_lit f h.st [k_select] (by decide) 1 1 rfl (by decide) #[.string ⟨#[115, 101, 108, 101, 99, 116]⟩] 9 rfl)
  have HP := Lib.hid h
  have HF := Lib.hid f
  unfold aggP
  rw [expP_R]
  cases hb : (expR [k_select] s).1
  · rw [code_f hb] at HX
    clear h f
    go_enter Tryz.func57, Tryz.ntmps57
    go_wp2_with (go_at_call 83; refine HX.out.mono ?_; rintro e w2 ⟨rfl, hk, hs⟩; have HS := Lib.hid hs; clear hk hs)
    go_ret
    exact ⟨rfl, by decide, _, HS.out⟩
  · rw [code_t hb] at HX
    obtain ⟨s1, hs1⟩ : ∃ s1, (expR [k_select] s).2 = s1 := ⟨_, rfl⟩
    rw [hs1] at HX ⊢
    rw [if_pos rfl]
    show Calls _ _ _ _ (QPost w0 L A c b (match idxOf (txt s1) aggs with | none => .er 12 s1 | some i => argP { q0 with g := 1 + (i : Int) } s1.tail))
    have HC := Lib.hid (fun (W : World) (X : List Value) (hst : St w0 L A c b s1 X W) => choice_lit HF.out hst aggs 4 4 rfl (by decide) #[.string ⟨#[99, 111, 117, 110, 116]⟩, .string ⟨#[115, 117, 109]⟩, .string ⟨#[109, 105, 110]⟩, .string ⟨#[109, 97, 120]⟩] 9 rfl)
    clear h f hs1 hb
    cases hi : idxOf (txt s1) aggs with
    | none =>
      rw [hi] at HC
      go_enter Tryz.func57, Tryz.ntmps57
      go_wp2_with (first
        | (go_at_call 83; refine HX.out.mono ?_; rintro e w2 ⟨rfl, hk, hs⟩; have HS := Lib.hid hs; clear hk hs)
        | (go_at_call 84; refine (HC.out _ _ HS.out).mono ?_; rintro e w3 ⟨rfl, hb⟩; have HB := Lib.hid hb; clear hb; simp only [chV, chE]))
      go_ret
      exact ⟨rfl, by decide, _, HS.out.below HB.out⟩
    | some i =>
      rw [hi] at HC
      have hx := idx_some hi
      have hi4 : i < 4 := (List.getElem?_eq_some_iff.1 hx).1
      obtain ⟨x, hsx, hxs⟩ := txt_cons (s := s1) rfl (fun e => by rw [e, show idxOf [] aggs = none by decide] at hi; cases hi)
      have HSE := Lib.hid hsx
      clear hi hx hsx hxs
      obtain ⟨m, hm⟩ : ∃ m, L.length - s1.length = m := ⟨_, rfl⟩
      have HI := Lib.hid hm
      have hm2 : m < 201 := by have := HF.out.len; omega
      have HA := Lib.hid (fun (W : World) (B : Nat) (hP : PQ w0 L A c b s1.tail (.slice none 0 0) (.slice none 0 0) (.slice none 0 0) { q0 with g := 1 + (i : Int) } B W) => arg_q w0 L A c b s1.tail { q0 with g := 1 + (i : Int) } B W G hP rfl)
      have HAt := Lib.hid (fun (W : World) (hP : PQ w0 L A c b s1 (.slice none 0 0) (.slice none 0 0) (.slice none 0 0) q0 B W) => show PQ w0 L A c b s1.tail (.slice none 0 0) (.slice none 0 0) (.slice none 0 0) { q0 with g := 1 + (i : Int) } B ((W.setCell ⟨b, 1, none⟩ (.int .i64 ((m : Int) + 1))).setCell ⟨b, 2, none⟩ (.int .u8 (1 + (i : Int)))) from by
        have h1 := (hP.inc HSE.out HI.out).2
        exact h1.kp (Kp.set _ _ _ _) h1.st.suf (h1.st.rd.setX 0 _) rfl rfl rfl)
      clear hm
      have hc : i = 0 ∨ i = 1 ∨ i = 2 ∨ i = 3 := by omega
      rcases hc with rfl | rfl | rfl | rfl
      all_goals
        clear hi4
        go_enter Tryz.func57, Tryz.ntmps57
        go_wp2_with (first
          | (go_at_call 83; refine HX.out.mono ?_; rintro e w2 ⟨rfl, hk, hs⟩; have HP2 := Lib.hid (HP.out.st' hk hs); clear hk hs)
          | (go_at_call 84; refine (HC.out _ _ HP2.out.st).mono ?_; rintro e w3 ⟨rfl, hb⟩; have HP3 := Lib.hid (HP2.out.below hb); clear hb; simp only [chV, chE]; obtain ⟨hlt, d0, d1, d2, _⟩ := HP3.out.cells; rw [HI.out] at d1; have f1 := HP3.out.st.rd.fz 1; have f2 := HP3.out.st.rd.fz 2)
          | (go_at_call 85; refine (HA.out _ _ (HAt.out _ HP3.out)).mono ?_; rintro e w4 ⟨rfl, hq⟩; have HQ := Lib.hid hq; clear hq))
        go_ret
        exact ⟨rfl, HQ.out⟩
end Go.Proofs.YtlmamidodahgmaaGreatDoor.P9
