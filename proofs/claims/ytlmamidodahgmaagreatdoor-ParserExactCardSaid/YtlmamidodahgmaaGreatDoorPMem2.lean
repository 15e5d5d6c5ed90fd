/- The query that a reader has so far; names of sources; expressions. -/
import Derived.Test.YtlmamidodahgmaaGreatDoorPMem
import Derived.Maps.AppendAt
import Derived.Deep.AppendLies
import Derived.Deep.RegionLaw
namespace Go.Proofs.YtlmamidodahgmaaGreatDoor.P9
open Go.ChangeShapes Go.WideShapes Go.ChangeAt Go.RowKit N4 Q8
set_option linter.unusedVariables false
set_option linter.unusedSimpArgs false
set_option maxRecDepth 100000

def noInt (V : Value) : Prop := ∀ kk z, V ≠ .int kk z
theorem noInt_slice (A : Option Addr) (n c : Nat) : noInt (.slice A n c) := fun _ _ h => by cases h
/-- The cells of a query. -/
def QCl (q : Qy) (VA VS VB : Value) : List Value := [.int .u8 q.g, VA, VS, .bool q.j, VB, .int .u8 q.k, .int .i64 q.s, .int .i64 q.v, .bool q.y, .int .u8 q.t]
/-- Nodes lie in no reader. -/
theorem lies_no_rq {w : World} {b i : Nat} {V VA VS VB : Value} {q : Qy} {A : Option Addr} {P : List Nd} (h : Lies w A (ndCells P)) (hr : Rq w b V i (QCl q VA VS VB)) (hV : noInt V) (hA : noInt VA) (hS : noInt VS) (hB : noInt VB) :
    ∀ a, A = some a → P ≠ [] → a.block ≠ b := by
  intro a ha hne
  rcases h with h0 | ⟨ad, h1, h2, h3⟩
  · cases P with
    | nil => exact absurd rfl hne
    | cons x P => simp [ndCells, ndC] at h0
  · obtain rfl : a = ad := Option.some.inj (ha.symm.trans h1)
    intro hb
    cases P with
    | nil => exact hne rfl
    | cons x P =>
      have hr' : w.heap[a.block]? = some (.cells (V :: .int .i64 i :: QCl q VA VS VB).toArray 69 (0, 0)) := by rw [hb]; exact hr
      have key : ∀ j u, (ndCells (x :: P))[j]? = some u → j < 5 → (V :: .int .i64 i :: QCl q VA VS VB)[a.off + j]? = some u := by
        intro j u hu hj
        have := h3 j u hu
        unfold World.cell? at this
        have hb : (a.add j).block = a.block := by unfold Addr.add; split <;> rfl
        rw [hb, hr'] at this
        simp only at this
        split at this
        · cases this
        · have ho : (a.add j).off = a.off + j := by unfold Addr.add; split <;> simp_all
          rw [ho] at this
          simpa using this
      have k0 := key 0 (.int .u8 x.k) rfl (by decide)
      have k1 := key 1 (.int .i64 x.n) rfl (by decide)
      have k2 := key 2 (.int .i64 x.a) rfl (by decide)
      have k3 := key 3 (.int .i64 x.b) rfl (by decide)
      have hlt : a.off < 12 := by
        have := (List.getElem?_eq_some_iff.1 k0).1
        simpa [QCl] using this
      obtain ⟨o, ho⟩ : ∃ o, a.off = o := ⟨_, rfl⟩
      rw [ho] at k0 k1 k2 k3 hlt
      have hc : o = 0 ∨ o = 1 ∨ o = 2 ∨ o = 3 ∨ o = 4 ∨ o = 5 ∨ o = 6 ∨ o = 7 ∨ o = 8 ∨ o = 9 ∨ o = 10 ∨ o = 11 := by omega
      rcases hc with rfl | rfl | rfl | rfl | rfl | rfl | rfl | rfl | rfl | rfl | rfl | rfl
      · injection k0 with k0; exact hV _ _ k0
      · cases k0
      · injection k1 with k1; exact hA _ _ k1
      · injection k0 with k0; exact hA _ _ k0
      · injection k0 with k0; exact hS _ _ k0
      · cases k0
      · injection k0 with k0; exact hB _ _ k0
      · cases k3
      · cases k0
      · cases k0
      · cases k0
      · cases k1
/-- A list of nodes of its own, in no reader. -/
def NdV (b : Nat) (w : World) (V : Value) (L : List Nd) : Prop := ∃ A c, V = .slice A L.length (L.length + c) ∧ Lies w A (ndCells L) ∧ L.length ≤ 100 ∧ (∀ a, A = some a → L ≠ [] → a.block ≠ b) ∧ (A = none → c = 0)
theorem NdV.nil (b : Nat) (w : World) : NdV b w (.slice none 0 0) [] := ⟨none, 0, rfl, .inl rfl, by simp, fun _ h => (by cases h), fun _ => rfl⟩
theorem NdV.no {b : Nat} {w : World} {V : Value} {L : List Nd} (h : NdV b w V L) : noInt V := by
  obtain ⟨A, c, rfl, _⟩ := h; exact noInt_slice _ _ _
theorem nd_ne {L : List Nd} (h : ndCells L ≠ []) : L ≠ [] := by intro e; subst e; exact h rfl
theorem NdV.kp {b : Nat} {w w' : World} {V : Value} {L : List Nd} (h : NdV b w V L) (k : Kp b w w') : NdV b w' V L := by
  obtain ⟨A, c, h1, h2, h3, h4, h5⟩ := h
  exact ⟨A, c, h1, k.lies h2 (fun a ha hne => h4 a ha (nd_ne hne)), h3, h4, h5⟩
structure PQ (w0 : World × World) (L : List Tok) (A : Option Addr) (c b : Nat) (s : List Tok) (VA VS VB : Value) (q : Qy) (B : Nat) (w : World) : Prop where
  st : St w0 L A c b s (QCl q VA VS VB) w
  arg : NdV b w VA q.L
  argB : ∀ a n c, VA = .slice (some a) n c → q.L ≠ [] → a.block < B
  src : w.ownsRow B 3 1 VS q.l.length (iC q.l)
  bB : b < B
  FB : w0.2.heap.size ≤ B
  BS : B ≤ w.heap.size
  whr : NdV b w VB q.M
  whrB : ∀ a n c, VB = .slice (some a) n c → q.M ≠ [] → a.block < w.heap.size
theorem own_kp {b B : Nat} {w w' : World} {v : Value} {n : Nat} {xs : List Value} {e : TypeId} (h : w.ownsRow B e 1 v n xs) (k : Kp b w w') (hb : b < B) : w'.ownsRow B e 1 v n xs := by
  refine ⟨h.1, ?_⟩
  rcases h.2 with h0 | ⟨g, cap, cur, rfl, h1, h2, h3⟩
  · exact .inl h0
  · refine .inr ⟨g, cap, cur, rfl, h1, ?_, h3⟩
    rw [k.block g (Array.getElem?_eq_some_iff.1 h2).1 (by omega)]; exact h2
section
variable {w0 : World × World} {w w' : World} {L s s' : List Tok} {A : Option Addr} {c b : Nat} {VA VS VB : Value} {q : Qy} {B : Nat}
theorem PQ.noS (h : PQ w0 L A c b s VA VS VB q B w) : noInt VS := by
  obtain ⟨A', c', rfl, _⟩ := N4.own_form h.src; exact noInt_slice _ _ _
/-- Everything but the reader stays, and the reader has new cells. -/
theorem PQ.kp (h : PQ w0 L A c b s VA VS VB q B w) (k : Kp b w w') (hs : s' <:+ L) {q' : Qy} (hr : Rq w' b (.slice A L.length c) (L.length - s'.length) (QCl q' VA VS VB)) (e1 : q'.L = q.L) (e2 : q'.l = q.l) (e3 : q'.M = q.M) : PQ w0 L A c b s' VA VS VB q' B w' where
  st := h.st.kp k hs hr
  arg := e1 ▸ h.arg.kp k
  argB := e1 ▸ h.argB
  src := e2 ▸ own_kp h.src k h.bB
  bB := h.bB
  FB := h.FB
  BS := Nat.le_trans h.BS k.size
  whr := e3 ▸ h.whr.kp k
  whrB := fun a n c e hM => Nat.lt_of_lt_of_le (h.whrB a n c e (e3 ▸ hM)) k.size
theorem PQ.st' (h : PQ w0 L A c b s VA VS VB q B w) (k : Kp b w w') (hst : St w0 L A c b s' (QCl q VA VS VB) w') : PQ w0 L A c b s' VA VS VB q B w' := h.kp k hst.suf hst.rd rfl rfl rfl
theorem PQ.below (h : PQ w0 L A c b s VA VS VB q B w) (hb : Below w.heap.size w w') : PQ w0 L A c b s VA VS VB q B w' := h.st' (Kp.of_below hb) (h.st.below hb)
theorem PQ.drewN (h : PQ w0 L A c b s VA VS VB q B w) (n : Nat) : PQ w0 L A c b s VA VS VB q B (w.drewN n) := h.below (bd_drewN w n)
end
def codeP : PR → Int
  | .ok _ _ => 0
  | .er v _ => v
/-- What a part of the grammar leaves in memory. -/
def QMem (w0 : World × World) (L : List Tok) (A : Option Addr) (c b : Nat) (r : PR) (w' : World) : Prop :=
  match r with
  | .ok q s => ∃ VA VS VB B, PQ w0 L A c b s VA VS VB q B w'
  | .er v s => v ≠ 0 ∧ ∃ X, St w0 L A c b s X w'
/-- What a part of the grammar answers. -/
def QPost (w0 : World × World) (L : List Tok) (A : Option Addr) (c b : Nat) (r : PR) (e : Ending) (w' : World) : Prop := e = .returned (.int .i64 (codeP r)) ∧ QMem w0 L A c b r w'

/-! ### names -/
theorem indexI_q (l : List Int) (A2 : Option Addr) (n c2 : Nat) (v : Int) (w : World) (hn : l.length = n) (hn2 : n ≤ 100) (hl : Lies w A2 (iC l)) (x : Bool) (hx : l.any (fun u => u == v) = x) :
    Calls Tryz.prog 104 #[.slice A2 n c2, .int .i64 v] w fun e w' => e = .returned (.bool x) ∧ w = w' := by
  have key : Calls Tryz.prog 115 #[.slice A2 n c2, .int .i64 v] w fun e w' => ∃ i : Int, e = .returned (.int .i64 i) ∧ decide (0 ≤ i) = l.any (fun u => u == v) ∧ w = w' := by
    have HL := Lib.hid hl
    have HN := Lib.hid hn
    clear hl hn hx
    go_enter Tryz.func115, Tryz.ntmps115
    go_wp2
    go_loop [8] (fun i => ∃ k : Nat, i = .int .i64 k ∧ k ≤ n ∧ Hid ((l.take k).any (fun u => u == v) = false)) (fun i => n - (intOf i).toNat)
    case atStart => exact ⟨0, rfl, Nat.zero_le _, rfl⟩
    case round =>
      obtain ⟨k, rfl, hk, HK⟩ := hrel
      by_cases hlt : k < n
      · have hkl : k < l.length := by rw [HN.out]; exact hlt
        obtain ⟨ad, rfl, hadl, c0⟩ := HL.out.one (iC_at hkl)
        have hab : (ad.add k).block < w.heap.size := by rw [add_block]; exact hadl
        have j1 : (0 : Int) ≤ k := by omega
        have j2 : (k : Int) < (n : Int) := by omega
        have HA := Lib.hid (show (l.take (k + 1)).any (fun u => u == v) = ((l.take k).any (fun u => u == v) || (l[k] == v)) by rw [List.take_succ_eq_append_getElem hkl, List.any_append]; simp)
        have HT := Lib.hid (show (l[k] == v) = true → l.any (fun u => u == v) = true from fun h => List.any_eq_true.2 ⟨l[k], List.getElem_mem hkl, h⟩)
        generalize l[k] = u at c0 HA HT
        clear hadl hkl
        by_cases huv : v = u
        · subst huv
          have HF := Lib.hid (HT.out (by simp))
          go_wp2
          go_ret
          exact ⟨_, rfl, by rw [HF.out]; exact decide_eq_true (Int.natCast_nonneg _), rfl⟩
        · have HK' := Lib.hid (show (l.take (k + 1)).any (fun u => u == v) = false by rw [HA.out, HK.out]; simpa using fun h => huv h.symm)
          go_wp2
          go_round
          case rel => exact ⟨k + 1, by go_num, by omega, HK'⟩
          case measure => simp [intOf]; omega
      · obtain rfl : n = k := by omega
        have HF := Lib.hid (show l.any (fun u => u == v) = false by have := HK.out; rwa [List.take_of_length_le (by rw [HN.out]; exact Nat.le_refl _)] at this)
        go_wp2
        go_ret
        exact ⟨_, rfl, by rw [HF.out]; rfl, rfl⟩
  have HI := Lib.hid key
  have HX := Lib.hid hx
  clear hn hl hx hn2 key
  go_enter Tryz.func104, Tryz.ntmps104
  go_wp2_with (go_at_call 115; refine HI.out.mono ?_; rintro e w1 ⟨i, rfl, hi, rfl⟩; have HI2 := Lib.hid hi; clear hi)
  go_ret
  exact ⟨ret_bool' (by rw [← HX.out, ← HI2.out]), rfl⟩
theorem int_info : (Tryz.prog.info? 3).map (fun i => (i.zero, i.size, i.bytes)) = some (some (.int .i64 0), 1, 8) := by kernel_rfl
theorem cells_new1 (w : World) (x : Value) (t : TypeId) : ∀ j u, [x][j]? = some u → (w.alloc (.cells #[x] t)).cell? ((⟨w.heap.size, 0, none⟩ : Addr).add j) = some u := by
  intro j u hu
  cases j with
  | zero => simp at hu; subst hu; go_simp
  | succ j => simp at hu
theorem Kp.al (b : Nat) (w : World) (o : Obj) : Kp b w (w.alloc o) := Kp.of_below ((Below.refl _ _).alloc (Nat.le_refl _) _)
section
variable {w0 : World × World} {w w' : World} {L s s' : List Tok} {A : Option Addr} {c b : Nat} {VA VS VB : Value} {q : Qy} {B : Nat}
theorem PQ.cells (h : PQ w0 L A c b s VA VS VB q B w) : b < w.heap.size ∧ w.cell? ⟨b, 0, none⟩ = some (.slice A L.length c) ∧ w.cell? ⟨b, 1, none⟩ = some (.int .i64 ((L.length - s.length : Nat) : Int)) ∧ w.cell? ⟨b, 2, none⟩ = some (.int .u8 q.g) ∧ w.cell? ⟨b, 3, none⟩ = some VA ∧ w.cell? ⟨b, 4, none⟩ = some VS ∧
    w.cell? ⟨b, 5, none⟩ = some (.bool q.j) ∧ w.cell? ⟨b, 6, none⟩ = some VB ∧ w.cell? ⟨b, 7, none⟩ = some (.int .u8 q.k) ∧ w.cell? ⟨b, 8, none⟩ = some (.int .i64 q.s) ∧ w.cell? ⟨b, 9, none⟩ = some (.int .i64 q.v) ∧ w.cell? ⟨b, 10, none⟩ = some (.bool q.y) ∧ w.cell? ⟨b, 11, none⟩ = some (.int .u8 q.t) := by
  have r := h.st.rd
  exact ⟨r.lt, r.c0, r.c1, r.cx (k := 0) rfl, r.cx (k := 1) rfl, r.cx (k := 2) rfl, r.cx (k := 3) rfl, r.cx (k := 4) rfl, r.cx (k := 5) rfl, r.cx (k := 6) rfl, r.cx (k := 7) rfl, r.cx (k := 8) rfl, r.cx (k := 9) rfl⟩
theorem PQ.nam (h : PQ w0 L A c b s VA VS VB q B w) (f : Fx w0.1 L A c b) (tn : NamT w0.1) : NamT w := tn.stays (f.base.symm ▸ h.st.bl)
theorem PQ.inc (h : PQ w0 L A c b s VA VS VB q B w) {x : Tok} {r : List Tok} (hs : s = x :: r) {i : Nat} (hi : L.length - s.length = i) : Kp b w (w.setCell ⟨b, 1, none⟩ (.int .i64 ((i : Int) + 1))) ∧ PQ w0 L A c b r VA VS VB q B (w.setCell ⟨b, 1, none⟩ (.int .i64 ((i : Int) + 1))) := by
  subst hs
  have := h.st.inc hi
  exact ⟨this.1, h.st' this.1 this.2⟩
end
theorem txt_nil_so : soE [] ≠ 0 := by decide
set_option maxHeartbeats 2000000 in
theorem name_q (w0 : World × World) (L : List Tok) (A : Option Addr) (c b : Nat) (s : List Tok) (VA VS VB : Value) (q : Qy) (B : Nat) (w : World) (f : Fx w0.1 L A c b) (tn : NamT w0.1) (h : PQ w0 L A c b s VA VS VB q B w) (hM : q.M = []) (hl4 : q.l.length ≤ 50) :
    Calls Tryz.prog 86 #[.pointer (some ⟨b, 0, none⟩)] w (QPost w0 L A c b (nameP q s)) := by
  have HN := Lib.hid (next_q w0 L A c b s _ w f h.st)
  have HS := Lib.hid (fun m => source_any (bytesOf (txt s)) (w.drewN m) ((h.nam f tn).stays (bd_drewN w m)))
  rw [bytesOf_list] at HS
  unfold nameP
  by_cases hE : soE (txt s) = 0
  · rw [if_pos hE]
    rw [hE] at HS
    obtain ⟨x, hs, hx⟩ := txt_cons rfl (fun e => txt_nil_so (e ▸ hE))
    have HSE := Lib.hid hs
    clear hs hx
    obtain ⟨AS, cs, hVS, hcs, hcm⟩ := N4.own_form h.src
    subst hVS
    have hsl : Lies w AS (iC q.l) := Lies.of_own h.src (fun h0 => by rw [List.eq_nil_of_length_eq_zero h0]; rfl)
    cases hc : q.l.any (fun v => v == soF (txt s))
    · rw [if_neg (by decide)]
      have HC := Lib.hid (fun m => indexI_q q.l AS q.l.length cs (soF (txt s)) (w.drewN m) rfl (by omega) (hsl.below (bd_drewN w m)) false hc)
      obtain ⟨hlt, c0, c1, c2, c3, c4, _⟩ := h.cells
      have hf1 := h.st.rd.fz 1
      have hf4 := h.st.rd.fz 4
      obtain ⟨i, hi⟩ : ∃ i, L.length - s.length = i := ⟨_, rfl⟩
      have hle := f.len
      have hi2 : i < 201 := by omega
      rw [hi] at c1
      have HP := Lib.hid h
      have HO := Lib.hid (fun W (k : Kp b w W) => own_kp h.src k h.bB)
      obtain ⟨i0, hi0, hz0, hz1, hz2⟩ := info_parts int_info
      generalize hv : soF (txt s) = v at HS HC
      generalize hnn : q.l.length = n at HO c4 HC hcs hcm hl4
      clear hE hc hsl hcs
      go_enter Tryz.func86, Tryz.ntmps86
      go_wp2_with (first
        | (go_at_call 102; refine HN.out.mono ?_; rintro e w2 ⟨rfl, m, rfl⟩)
        | (go_at_call 103; refine (HS.out _).mono ?_; rintro e w3 ⟨rfl, rfl⟩)
        | (go_at_call 104; refine (HC.out _).mono ?_; rintro e w4 ⟨rfl, rfl⟩)
        | (at_builtin; refine wpList_append_lies _ rfl (.tmp 32) (.tmp 34) 23 rfl B 3 i0 _ 1 8 Tryz.underlying23 hi0 hz0 hz1 hz2 rfl (by decide) _ n (iC q.l) rfl (HO.out _ ?k1) ⟨w.heap.size, 0, none⟩ 1 1 [.int .i64 v] rfl rfl ?c1 ?c2 (by decide) ?c3 ?c4 ?c5 _ rfl ?_))
      case k1 => exact ((Kp.drewN _ _ _).trans (Kp.set _ _ _ _)).trans (Kp.al _ _ _)
      case c1 => have := cells_new1 ((w.drewN m).setCell ⟨b, 1, none⟩ (.int .i64 ((i : Int) + 1))) (.int .i64 v) 3; simpa using this
      case c2 => simp [Value.oneCell']
      case c3 => unfold maxLen; omega
      case c4 => omega
      case c5 => have := HP.out.BS; simp; omega
      intro g cap w' hown hgr hg hlt'
      have hP3 := ((HP.out.drewN m).inc HSE.out hi).2.below ((Below.refl _ _).alloc (Nat.le_refl _) (.cells #[.int .i64 v] 3))
      have hbw := hP3.st.rd.lt
      have hob : ∀ k, (Value.slice AS n cs).ownBlock = some k → B ≤ k := by
        intro k hk
        rcases (HO.out w (Kp.refl _ _)).2 with ⟨e, _⟩ | ⟨g', cap', cur', e, h1, _⟩
        · rw [e] at hk; cases hk
        · rw [e] at hk; injection hk with hk; subst hk; exact h1
      have hbne : some b ≠ (Value.slice AS n cs).ownBlock := fun e => by have := hob b e.symm; have := HP.out.bB; omega
      have hr : Rq w' b (.slice A L.length c) (L.length - s.tail.length) (QCl q VA (.slice AS n cs) VB) := by
        have h3 := hP3.st.rd
        rw [hnn] at h3
        unfold Rq
        rw [hgr.block b hbw hbne]; exact h3
      have hf4' := hr.fz 4
      have hc4' : w'.cell? ⟨b, 4, none⟩ = some (.slice AS n cs) := hr.cx (k := 2) rfl
      have hltb := hr.lt
      have HP3 := Lib.hid hP3
      have HR := Lib.hid hr
      have HOW := Lib.hid hown
      have HGR := Lib.hid hgr
      have HOB := Lib.hid hob
      have HBN := Lib.hid hbne
      clear hP3 hbw hob hbne hr hown hgr hg
      go_wp2
      go_ret
      refine ⟨rfl, VA, .slice (some ⟨g, 0, none⟩) (n + 1) cap, VB, B, ?_⟩
      have hkp : Kp b w' (w'.setCell ⟨b, 4, none⟩ (.slice (some ⟨g, 0, none⟩) (n + 1) cap)) := Kp.set _ _ _ _
      have hP3 := HP3.out
      have hsz : w'.heap.size ≥ B := Nat.le_trans hP3.BS HGR.out.size
      exact
        { st := ⟨hP3.st.suf, hkp.below (hP3.st.bl.trans ⟨HGR.out.os, HGR.out.tape, HGR.out.output, HGR.out.size, fun k hk => HGR.out.block k (by have := hP3.st.rd.lt; omega) (fun e => by have := HOB.out k e.symm; have := hP3.bB; omega)⟩) (by omega), ⟨Nat.le_trans (Nat.le_trans hP3.FB hsz) (by simp), fun k hk hb => ((hkp.block k (by have := hP3.FB; omega) hb).trans (HGR.out.block k (by have := hP3.FB; have := hP3.BS; omega) (fun e => by have := HOB.out k e.symm; have := hP3.FB; omega))).trans (hP3.st.fr.2 k hk hb)⟩, HR.out.setX 2 _⟩
          arg := by
            obtain ⟨A1, c1', e1, l1, n1, b1⟩ := hP3.arg
            refine NdV.kp ⟨A1, c1', e1, ?_, n1, b1⟩ hkp
            by_cases h0 : q.L = []
            · exact .inl (by rw [h0]; rfl)
            · rcases l1 with l1 | ⟨ad, z1, z2, z3⟩
              · exact .inl l1
              · refine .inr ⟨ad, z1, Nat.lt_of_lt_of_le z2 HGR.out.size, fun j u hu => HGR.out.cell (z3 j u hu) ?_⟩
                rw [show (ad.add j).block = ad.block by unfold Addr.add; split <;> rfl]
                intro e
                have h1 := HOB.out _ e.symm
                have h2 := hP3.argB ad _ _ (z1 ▸ e1) h0
                omega
          argB := hP3.argB
          src := by
            have := own_kp HOW.out hkp hP3.bB
            have e1 : (q.l ++ [v]).length = n + 1 := by rw [List.length_append, hnn]; rfl
            have e2 : iC (q.l ++ [v]) = iC q.l ++ [.int .i64 v] := by simp [iC]
            show World.ownsRow _ B 3 1 _ (q.l ++ [v]).length (iC (q.l ++ [v]))
            rw [e1, e2]; exact this
          bB := hP3.bB
          FB := hP3.FB
          BS := by simpa using hsz
          whr := by
            obtain ⟨A1, c1', e1, l1, n1, b1⟩ := hP3.whr
            refine ⟨A1, c1', e1, .inl (by show ndCells q.M = []; rw [hM]; rfl), n1, fun _ _ hh => absurd hM hh, b1.2⟩
          whrB := fun _ _ _ _ hh => absurd hM hh }
    · rw [if_pos rfl]
      have HC := Lib.hid (fun m => indexI_q q.l AS q.l.length cs (soF (txt s)) (w.drewN m) rfl (by omega) (hsl.below (bd_drewN w m)) true hc)
      obtain ⟨hlt, c0, c1, c2, c3, c4, _⟩ := h.cells
      have HP := Lib.hid h.st
      clear h hE hsl c1
      generalize soF (txt s) = v at HS HC
      generalize q.l.length = n at c4 HC hcm hcs hl4
      go_enter Tryz.func86, Tryz.ntmps86
      go_wp2_with (first
        | (go_at_call 102; refine HN.out.mono ?_; rintro e w2 ⟨rfl, m, rfl⟩)
        | (go_at_call 103; refine (HS.out _).mono ?_; rintro e w3 ⟨rfl, rfl⟩)
        | (go_at_call 104; refine (HC.out _).mono ?_; rintro e w4 ⟨rfl, rfl⟩))
      go_ret
      exact ⟨rfl, by decide, _, HP.out.drewN _⟩
  · rw [if_neg hE]
    have hE2 : soE (txt s) = 2 := by
      unfold soE at hE ⊢
      split at hE
      · exact absurd rfl hE
      · rename_i h; rw [if_neg h]
    rw [hE2] at HS
    have HP := Lib.hid h.st
    clear h hE hE2
    go_enter Tryz.func86, Tryz.ntmps86
    go_wp2_with (first
      | (go_at_call 102; refine HN.out.mono ?_; rintro e w2 ⟨rfl, m, rfl⟩)
      | (go_at_call 103; refine (HS.out _).mono ?_; rintro e w3 ⟨rfl, rfl⟩))
    go_ret
    exact ⟨rfl, by decide, _, HP.out.drewN _⟩
end Go.Proofs.YtlmamidodahgmaaGreatDoor.P9
