
/- Lines of the grammar with operators between parts. -/
import Derived.Test.YtfnkofcgjbakeaaDoorENode
namespace Go.Proofs.YtfnkofcgjbakeaaDoor
open Go.ChangeShapes Go.WideShapes Go.ChangeAt Go.RowKit N4
set_option linter.unusedVariables false
set_option maxRecDepth 100000

theorem wrap_er_ne {k : Int} {s : List Tok} : ∀ {c : List Tok} {r : R} {v : Int} {q : List Tok}, (∀ v q, r = .er v q → v ≠ 0) → wrapR k s c r = .er v q → v ≠ 0 := by
  intro c
  induction c with
  | nil => intro r v q h hw; exact h _ _ hw
  | cons x c ih =>
    intro r v q h hw
    rw [wrapR] at hw
    cases hr : wrapR k s c r with
    | er e q' => rw [hr] at hw; injection hw with h1 _; subst h1; exact ih h hr
    | ok u q' =>
      rw [hr] at hw
      simp only at hw
      split at hw
      · simp at hw
      · injection hw with h1 _; subst h1; assumption
theorem Rd.er_ne {m : Md} {s : List Tok} {r : R} (h : Rd m s r) : ∀ {v q}, r = .er v q → v ≠ 0 := by
  induction h with
  | first_er _ _ ih => intro v q h; exact ih h
  | first_ok _ _ _ _ ih2 => intro v q h; exact ih2 h
  | stop _ _ => intro v q h; simp at h
  | next_er _ _ _ ih => intro v q h; exact ih h
  | next_node _ _ _ he _ => intro v q h; injection h with h _; subst h; exact he
  | next_ok _ _ _ _ _ _ _ ih2 => intro v q h; exact ih2 h
  | next_one _ _ _ _ => intro v q h; simp at h
  | pre _ _ _ _ ih => intro v q h; exact wrap_er_ne (fun v q h => ih h) h
  | leaf _ => intro v q h; simp at h
  | bad _ _ => intro v q h; injection h with h _; omega
  | br_er _ _ ih => intro v q h; exact ih h
  | br_no _ _ _ _ => intro v q h; injection h with h _; omega
  | br_ok _ _ _ _ => intro v q h; simp at h
theorem Rd.inv_ch {n : Nat} {s : List Tok} {r : R} (hn : isCh n) (h : Rd (.line n) s r) :
    (∃ e q, r = .er e q ∧ Rd (.line (n + 1)) s (.er e q)) ∨ ∃ t q, Rd (.line (n + 1)) s (.ok t q) ∧ Rd (.chain n t) q r := by
  cases h with
  | first_er _ h => exact .inl ⟨_, _, rfl, h⟩
  | first_ok _ h h2 => exact .inr ⟨_, _, h, h2⟩
  | pre hp _ _ _ => exact absurd hn (by unfold isCh; rcases hp with rfl | rfl <;> omega)
  | leaf _ => exact absurd hn (by decide)
  | bad _ _ => exact absurd hn (by decide)
  | br_er _ _ => exact absurd hn (by decide)
  | br_no _ _ _ => exact absurd hn (by decide)
  | br_ok _ _ _ => exact absurd hn (by decide)
theorem Rd.inv_chain {n : Nat} {t : Tr} {s : List Tok} {r : R} (h : Rd (.chain n t) s r) :
    (r = .ok t s ∧ opOf (loK n) (hiK n) (txt s) = none) ∨
    ∃ x s' k r1, s = x :: s' ∧ opOf (loK n) (hiK n) x.s = some k ∧ Rd (.line (n + 1)) s' r1 ∧
      ((∃ v q, joinR k x s' t r1 = .er v q ∧ r = .er v q) ∨ (∃ u q, joinR k x s' t r1 = .ok u q ∧ (n = 3 → r = .ok u q) ∧ (n ≠ 3 → Rd (.chain n u) q r))) := by
  cases h with
  | stop _ ho => exact .inl ⟨rfl, ho⟩
  | next_er _ ho h1 => exact .inr ⟨_, _, _, _, rfl, ho, h1, .inl ⟨_, _, rfl, rfl⟩⟩
  | next_node _ ho h1 he => exact .inr ⟨_, _, _, _, rfl, ho, h1, .inl ⟨_, _, by rw [joinR, if_neg he], rfl⟩⟩
  | next_ok _ h3 ho h1 he h2 => exact .inr ⟨_, _, _, _, rfl, ho, h1, .inr ⟨_, _, by rw [joinR, if_pos he], fun h => absurd h h3, fun _ => h2⟩⟩
  | next_one ho h1 he => exact .inr ⟨_, _, _, _, rfl, ho, h1, .inr ⟨_, _, by rw [joinR, if_pos he], fun _ => rfl, fun h => absurd rfl h⟩⟩
theorem Rd.inv_pre {n : Nat} {s : List Tok} {r : R} (hn : isPr n) (h : Rd (.line n) s r) :
    ∃ c s0 r0, s = c ++ s0 ∧ (∀ x ∈ c, x.s = sgnB n) ∧ txt s0 ≠ sgnB n ∧ Rd (.line (n + 1)) s0 r0 ∧ r = wrapR (sgnK n) s0 c r0 := by
  have hno : ∀ m, isPr m → ¬ isCh m := by intro m hm; unfold isCh; rcases hm with rfl | rfl <;> omega
  cases h with
  | first_er hc _ => exact absurd hc (hno _ hn)
  | first_ok hc _ _ => exact absurd hc (hno _ hn)
  | pre _ h1 h2 h3 => exact ⟨_, _, _, rfl, h1, h2, h3, rfl⟩
  | leaf _ => exact absurd hn (by decide)
  | bad _ _ => exact absurd hn (by decide)
  | br_er _ _ => exact absurd hn (by decide)
  | br_no _ _ _ => exact absurd hn (by decide)
  | br_ok _ _ _ => exact absurd hn (by decide)
theorem join_good {k : Int} (hk : 7 ≤ k ∧ k ≤ 19) {x : Tok} (hx : TkOk x) {s : List Tok} {t : Tr} (ht : t.ok = true) {r : R} (hr : ∀ u q, r = .ok u q → u.ok = true ∧ u.er = 0) {u : Tr} {q : List Tok} (h : joinR k x s t r = .ok u q) : u.ok = true ∧ u.er = 0 := by
  cases r with
  | er e q' => simp [joinR] at h
  | ok u' q' =>
    rw [joinR] at h
    split at h
    · rename_i he
      injection h with h _; subst h
      exact ⟨bin_ok hk hx ht (hr _ _ rfl).1, he⟩
    · simp at h
theorem join_rest {k : Int} {x : Tok} {s : List Tok} {t : Tr} {r : R} {u : Tr} {q : List Tok} (h : joinR k x s t r = .ok u q) : ∃ u', r = .ok u' q := by
  cases r with
  | er e q' => simp [joinR] at h
  | ok u' q' =>
    rw [joinR] at h
    split at h
    · injection h with _ h; subst h; exact ⟨_, rfl⟩
    · simp at h

theorem joined_any (w0 : World) (L : List Tok) (A : Option Addr) (c b g n N : Nat) (f : Fx w0 L A c b) (hgc : Ent g) (H : LineC w0 L A c b g n N) (x : Tok) (s : List Tok) (w : World) (h : PS w0 L A c b (x :: s) w) (hs : s.length ≤ N)
    (k : Int) (hk : 7 ≤ k ∧ k ≤ 19) (t : Tr) (ht : t.ok = true ∧ t.er = 0) (A1 : Option Addr) (c1 : Nat) (hl : Lies w A1 (ndCells t.flat)) (r r' : R) (hr : Rd (.line n) s r) (hj : joinR k x s t r = r') :
    Calls Tryd.prog 84 #[.pointer (some ⟨b, 0, none⟩), .int .u8 k, .slice A1 t.sz c1, .func (.func g) #[.pointer (some ⟨b, 0, none⟩)] #[]] w (LPost L A c b r' w) := by
  subst hj
  cases r with
  | er v q => exact joined_er w0 L A c b g n N f hgc H x s w h hs k _ v (hr.er_ne rfl) q hr
  | ok u q => exact joined_ok w0 L A c b g n N f hgc H x s w h hs k hk t ht.1 ht.2 A1 c1 hl u q hr _ rfl

def ChRun (w0 : World) (L : List Tok) (A : Option Addr) (c b n N : Nat) (r : R) (w : World) (g : Nat) (xv ev : Value) (W : World) : Prop :=
  ∃ t q A' c', q.length + 1 = g ∧ q.length ≤ N ∧ xv = .slice A' t.sz (t.sz + c') ∧ ev = .int .i64 0 ∧ Hid (Lies W A' (ndCells t.flat)) ∧ Hid (t.ok = true ∧ t.er = 0) ∧ Hid (Rd (.chain n t) q r) ∧ Hid (PS w0 L A c b q W) ∧ Hid (Kp b w W)
def ChErr (L : List Tok) (A : Option Addr) (c b : Nat) (r : R) (w : World) (xv ev : Value) (W : World) : Prop :=
  ∃ v q, Hid (r = .er v q) ∧ v ≠ 0 ∧ xv = .slice none 0 0 ∧ ev = .int .i64 v ∧ Hid (Kp b w W) ∧ Hid (Rdr W b (.slice A L.length c) (L.length - q.length))

set_option maxHeartbeats 2000000 in
theorem chain_any (w0 : World) (L : List Tok) (A : Option Addr) (c b g n N : Nat) (f : Fx w0 L A c b) (hgc : Ent g) (hn : isCh n) (h3 : n ≠ 3) (H : LineC w0 L A c b g (n + 1) N)
    (lo hi : Nat) (hlo : loK n = 7 + (lo : Int)) (hhi : hiK n = 7 + (hi : Int)) (hlh : lo ≤ hi) (hh : hi < 13) (s : List Tok) (r : R) (w : World) (hs : s.length ≤ N) (hr : Rd (.line n) s r) (h : PS w0 L A c b s w) :
    Calls Tryd.prog 72 #[.pointer (some ⟨b, 0, none⟩), .int .u8 (7 + (lo : Int)), .int .u8 (7 + (hi : Int)), .func (.func g) #[.pointer (some ⟨b, 0, none⟩)] #[]] w (LPost L A c b r w) := by
  have HOP := Lib.hid (fun (q : List Tok) (W : World) (hP : PS w0 L A c b q W) (o : Option Int) (ho : opOf (loK n) (hiK n) (txt q) = o) => operator_any w0 L A c b q W f hP lo hi hlh hh o (by rw [← hlo, ← hhi]; exact ho))
  have HJ := Lib.hid (fun (x : Tok) (q : List Tok) (W : World) (hP : PS w0 L A c b (x :: q) W) (hq : q.length ≤ N) => joined_any w0 L A c b g (n + 1) N f hgc H x q W hP hq)
  have HF := Lib.hid f
  have hent : ∀ (args : Array Value) (W : World), Sem.run Tryd.prog (callFunc g args) W = .ok (.enter g args) W := hgc
  rcases hr.inv_ch hn with ⟨v, q, rfl, h1⟩ | ⟨t, q, h1, h2⟩
  · have HH := Lib.hid (H s _ w hs h1 h)
    have hv := h1.er_ne rfl
    have hvb : (v == 0) = false := by simpa using hv
    clear H h hr hgc f hv h1
    go_enter Tryd.func72, Tryd.ntmps72
    go_wp2
    refine HH.out.mono ?_
    rintro e w' ⟨hk, hrd, rfl⟩
    have HK := Lib.hid hk
    have HR := Lib.hid hrd
    clear hk hrd
    go_wp2
    refine wp_loop_rounds 1 ?_
    try rw [rounds_succ]
    go_wp2
    go_ret2
    exact ⟨HK.out, HR.out, rfl⟩
  · have HH := Lib.hid (H s _ w hs h1 h)
    have HG := Lib.hid (h1.good (f.mem h.suf) trivial rfl)
    have HQ := Lib.hid (show ∀ w', Kp b w w' → Rdr w' b (.slice A L.length c) (L.length - q.length) → PS w0 L A c b q w' from fun w' hk hr => h.kp hk (h1.suf.trans h.suf) hr)
    have HLQ := Lib.hid (show q.length ≤ N from Nat.le_trans (h1.lt rfl).1 hs)
    have H2 := Lib.hid h2
    clear H h hr hgc f h1 h2 hs
    go_enter Tryd.func72, Tryd.ntmps72
    go_wp2
    refine HH.out.mono ?_
    rintro e w' ⟨hk, hrd, A', c', rfl, hl⟩
    have HK := Lib.hid hk
    have HR := Lib.hid hrd
    have HL := Lib.hid hl
    clear hk hrd hl
    go_wp2
    go_loopg [10, 11] (q.length + 1) (fun g xv ev wx => ChRun w0 L A c b n N r w g xv ev wx ∨ ChErr L A c b r w xv ev wx)
    case atStart => exact .inl ⟨t, q, A', c', rfl, HLQ.out, rfl, rfl, HL, HG, H2, Lib.hid (HQ.out _ HK.out HR.out), HK⟩
    case round =>
      clear HK HR HL HQ HG H2 HLQ
      rcases hrel with ⟨t, q, A', c', hq, hqN, rfl, rfl, HL, HG, H2, HP, HK⟩ | ⟨v, q, hre, hv, rfl, rfl, HK, HR⟩
      · rcases H2.out.inv_chain with ⟨hre, ho⟩ | ⟨x, q', k, r1, hqe, ho, h1, hj⟩
        · have HOq := Lib.hid (HOP.out q _ HP.out none ho)
          have HRE := Lib.hid hre
          clear ho hre H2
          go_wp2_with (go_at_call 83; refine HOq.out.mono ?_; rintro e w2 ⟨rfl, m, rfl⟩)
          go_ret2
          unfold LPost
          rw [HRE.out]
          exact ⟨HK.out.trans (Kp.drewN _ _ _), HP.out.rd.drewN _, A', c', rfl, HL.out.below (bd_drewN _ _)⟩
        · subst hqe
          have hkr := op_range ho
          have hk7 := lo7 n
          have hkk : 7 ≤ k ∧ k ≤ 19 := ⟨by omega, by omega⟩
          have HOq := Lib.hid (HOP.out (x :: q') _ HP.out (some k) ho)
          have hq' : q'.length ≤ N := by simp at hqN; omega
          have hlq : ∀ t q, r1 = .ok t q → q.length ≤ q'.length := fun t q h => (h1.lt h).1
          have HXk := Lib.hid (HF.out.mem HP.out.suf x List.mem_cons_self)
          have HGd := Lib.hid (fun u q (h : r1 = .ok u q) => h1.good (HF.out.mem (suf_tail HP.out.suf)) trivial h)
          have HSU := Lib.hid (fun u q (h : r1 = .ok u q) => (show q <:+ L by have := h1.suf; rw [h] at this; exact this.trans (suf_tail HP.out.suf)))
          rcases hj with ⟨v, q1, hj, hre⟩ | ⟨u, q1, hj, _, h2⟩
          · have hv : v ≠ 0 := by
              cases r1 with
              | er e q2 => injection hj with hj _; subst hj; exact h1.er_ne rfl
              | ok u2 q2 =>
                rw [joinR] at hj
                split at hj
                · simp at hj
                · injection hj with hj _; subst hj; assumption
            have HJ2 := Lib.hid (fun m => HJ.out x q' (wr.drewN m) (HP.out.drewN m) hq' k hkk t HG.out A' (t.sz + c') (HL.out.below (bd_drewN _ _)) r1 _ h1 hj)
            have HRE := Lib.hid hre
            clear ho hre H2 hkr hk7 hkk hq' hlq HXk HGd HSU h1 hj hqN
            go_wp2_with (first
              | (go_at_call 83; refine HOq.out.mono ?_; rintro e w2 ⟨rfl, m, rfl⟩)
              | (go_at_call 84; refine (HJ2.out _).mono ?_; rintro e w3 ⟨hk3, hr3, rfl⟩; have HK3 := Lib.hid hk3; have HR3 := Lib.hid hr3; clear hk3 hr3))
            go_roundg 0
            case measure => omega
            case rel => exact .inr ⟨v, q1, HRE, hv, rfl, rfl, Lib.hid ((HK.out.trans (Kp.drewN _ _ _)).trans HK3.out), HR3⟩
          · obtain ⟨u', hu'⟩ := join_rest hj
            have hlt := hlq _ _ hu'
            have HGu := Lib.hid (join_good hkk HXk.out HG.out.1 (fun u q h => HGd.out u q h) hj)
            have HSq := Lib.hid (HSU.out _ _ hu')
            have HJ2 := Lib.hid (fun m => HJ.out x q' (wr.drewN m) (HP.out.drewN m) hq' k hkk t HG.out A' (t.sz + c') (HL.out.below (bd_drewN _ _)) r1 _ h1 hj)
            have HRE := Lib.hid (h2 h3)
            have hq2 : q1.length ≤ N := by omega
            have hq3 : q1.length + 1 < gk := by simp at hq; omega
            clear ho h2 H2 hkr hk7 hkk hq' hlq HXk HGd HSU h1 hj hu' hqN hlt hq
            go_wp2_with (first
              | (go_at_call 83; refine HOq.out.mono ?_; rintro e w2 ⟨rfl, m, rfl⟩)
              | (go_at_call 84; refine (HJ2.out _).mono ?_; rintro e w3 ⟨hk3, hr3, A4, c4, rfl, hl4⟩; have HK3 := Lib.hid hk3; have HR3 := Lib.hid hr3; have HL4 := Lib.hid hl4; clear hk3 hr3 hl4))
            go_roundg (q1.length + 1)
            case measure => omega
            case rel => exact .inl ⟨u, q1, A4, c4, rfl, hq2, rfl, rfl, HL4, HGu, HRE, Lib.hid (HP.out.kp ((Kp.drewN _ _ _).trans HK3.out) HSq.out HR3.out), Lib.hid ((HK.out.trans (Kp.drewN _ _ _)).trans HK3.out)⟩
      · have hvb : (v == 0) = false := by simpa using hv
        clear hv
        go_wp2
        go_ret2
        unfold LPost
        rw [hre.out]
        exact ⟨HK.out, HR.out, rfl⟩
end Go.Proofs.YtfnkofcgjbakeaaDoor
