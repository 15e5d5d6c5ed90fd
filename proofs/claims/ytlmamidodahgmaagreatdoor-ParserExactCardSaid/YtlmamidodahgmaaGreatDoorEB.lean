/- Merged: ENode, EChain, ECmp, EPre, EPrim, ELine, EParse. -/
import Derived.Test.YtlmamidodahgmaaGreatDoorEA
import Derived.Test.YtlmamidodahgmaaGreatDoorLB
/- ENode: A node made by the reader, and the part behind an operator. -/
namespace Go.Proofs.YtlmamidodahgmaaGreatDoor
open Go.ChangeShapes Go.WideShapes Go.ChangeAt Go.RowKit N4
set_option linter.unusedVariables false
set_option maxRecDepth 100000

theorem tok_at {w0 w : World} {L s : List Tok} {A : Option Addr} {c b : Nat} (f : Fx w0 L A c b) (h : PS w0 L A c b s w) {i : Nat} {x : Tok} (hx : L[i]? = some x) :
    ∃ ad, A = some ad ∧ TokAt w ad i x := by
  obtain ⟨ad, t, k1, k2, k3⟩ := (h.toks f).at_ _ (List.getElem?_eq_some_iff.1 hx).1
  have k4 : t = x := Option.some.inj (k3.symm.trans hx)
  exact ⟨ad, k1, k4 ▸ k2⟩

theorem node_okc {args : Array Value} {w : World} {M : List Nd} {n : Nat} (h : Calls Tryz.prog 116 args w (NPost M w)) (h0 : checkF M = 0) (hn : M.length = n) :
    Calls Tryz.prog 116 args w fun e w' => ∃ A c, e = .returned (.tuple #[.slice A n (n + c), .int .i64 0]) ∧ Lies w' A (ndCells M) ∧ Below w.heap.size w w' := by
  refine h.mono ?_
  rintro e w' ⟨hb, ⟨h1, _⟩ | ⟨_, A, c, rfl, hl, hc⟩⟩
  · exact absurd h0 h1
  · rw [hn] at hc ⊢; exact ⟨A, c - n, by rw [show n + (c - n) = c by omega], hl, hb⟩
theorem rnode_ok (w0 : World) (L : List Tok) (A : Option Addr) (c b : Nat) (s : List Tok) (w : World) (f : Fx w0 L A c b) (h : PS w0 L A c b s w) (i : Nat) (x : Tok) (hx : L[i]? = some x)
    (k nn : Int) (PA : Option Addr) (m pc : Nat) (M : List Nd) (n : Nat) (HN : Calls Tryz.prog 116 #[.int .u8 k, .int .i64 nn, .int .i64 x.a, .slice PA m pc] w (NPost M w)) (h0 : checkF M = 0) (hn : M.length = n) :
    Calls Tryz.prog 110 #[.pointer (some ⟨b, 0, none⟩), .int .u8 k, .int .i64 nn, .int .i64 i, .slice PA m pc] w
      fun e w' => ∃ A' c', e = .returned (.tuple #[.slice A' n (n + c'), .int .i64 0]) ∧ Lies w' A' (ndCells M) ∧ Below w.heap.size w w' := by
  have HN := Lib.hid (node_okc HN h0 hn)
  have hL := f.len
  have hin : i < L.length := (List.getElem?_eq_some_iff.1 hx).1
  obtain ⟨ad, rfl, hc1, hc2, hc3⟩ := tok_at f h hx
  have hr0 := h.rd.c0
  have hlt := h.rd.lt
  generalize L.length = z at hr0 hL hin
  clear h f hx h0 hn hc1 hc2
  go_enter Tryz.func110, Tryz.ntmps110
  go_wp2_with (go_at_call 116; refine HN.out.mono ?_; rintro e w' ⟨A', c', rfl, hl, hb⟩)
  go_ret2
  exact ⟨A', c', rfl, hl, hb⟩
theorem rnode_er (w0 : World) (L : List Tok) (A : Option Addr) (c b : Nat) (s : List Tok) (w : World) (f : Fx w0 L A c b) (h : PS w0 L A c b s w) (i : Nat) (x : Tok) (hx : L[i]? = some x)
    (k nn : Int) (PA : Option Addr) (m pc : Nat) (M : List Nd) (v : Int) (HN : Calls Tryz.prog 116 #[.int .u8 k, .int .i64 nn, .int .i64 x.a, .slice PA m pc] w (NPost M w)) (hv : checkF M = v) (h0 : v ≠ 0) :
    Calls Tryz.prog 110 #[.pointer (some ⟨b, 0, none⟩), .int .u8 k, .int .i64 nn, .int .i64 i, .slice PA m pc] w
      fun e w' => e = .returned (.tuple #[.slice none 0 0, .int .i64 v]) ∧ Kp b w w' ∧ Rdr w' b (.slice A L.length c) i := by
  have HN := Lib.hid (node_err HN hv h0)
  have hL := f.len
  have hin : i < L.length := (List.getElem?_eq_some_iff.1 hx).1
  obtain ⟨ad, rfl, hc1, hc2, hc3⟩ := tok_at f h hx
  have HR := Lib.hid h.rd
  have hr0 := h.rd.c0
  have hr1 := h.rd.c1
  have hfz := h.rd.fz
  have hlt := h.rd.lt
  generalize L.length = z at hr0 hL hin HR hr1
  have hvb := errno_ne h0
  have HCB := Lib.hid (fun (w' : World) (hb : Below w.heap.size w w') => (⟨by rw [hb.cell (p := ⟨b, 1, none⟩) hlt]; exact hr1, by rw [hb.frozen (p := ⟨b, 1, none⟩) hlt]; exact hfz, Nat.lt_of_lt_of_le hlt hb.size⟩ : w'.cell? ⟨b, 1, none⟩ = some (.int .i64 ((z - s.length : Nat) : Int)) ∧ w'.frozen? ⟨b, 1, none⟩ = false ∧ b < w'.heap.size))
  clear h f hx h0 hv hc1 hc2 hr1 hfz
  go_enter Tryz.func110, Tryz.ntmps110
  go_wp2_with (go_at_call 116; refine HN.out.mono ?_; rintro e w' ⟨rfl, hb⟩; obtain ⟨k1, k2, k3⟩ := HCB.out _ hb; have HB := Lib.hid hb; clear hb)
  go_ret2
  exact ⟨rfl, (Kp.of_below HB.out).trans (Kp.set _ _ _ _), (HR.out.below HB.out).set i⟩

/-- What an operator, and the part behind it, make of the part in front. -/
def joinR (k : Int) (x : Tok) (s : List Tok) (t : Tr) : R → R
  | .er e q => .er e q
  | .ok u q => if (Tr.bin k x.a t u).er = 0 then .ok (.bin k x.a t u) q else .er (Tr.bin k x.a t u).er (x :: s)
theorem suf_tail {x : Tok} {s L : List Tok} (h : x :: s <:+ L) : s <:+ L := (List.suffix_cons x s).trans h

/-- The contract of a line of the grammar, for tokens of some number. -/
def LineC (w0 : World) (L : List Tok) (A : Option Addr) (c b g n N : Nat) : Prop :=
  ∀ (s : List Tok) (r : R) (w : World), s.length ≤ N → Rd (.line n) s r → PS w0 L A c b s w → Calls Tryz.prog g #[.pointer (some ⟨b, 0, none⟩)] w (LPost L A c b r w)

def Ent (g : Nat) : Prop := ∀ (args : Array Value) (W : World), Sem.run Tryz.prog (callFunc g args) W = .ok (.enter g args) W
theorem ent_and : Ent 72 := fun args W => Tryz.call72 args W
set_option maxHeartbeats 1000000 in
theorem joined_er (w0 : World) (L : List Tok) (A : Option Addr) (c b g n N : Nat) (f : Fx w0 L A c b) (hgc : Ent g) (H : LineC w0 L A c b g n N) (x : Tok) (s : List Tok) (w : World) (h : PS w0 L A c b (x :: s) w) (hs : s.length ≤ N)
    (k : Int) (V : Value) (v : Int) (hv : v ≠ 0) (q : List Tok) (hr : Rd (.line n) s (.er v q)) :
    Calls Tryz.prog 96 #[.pointer (some ⟨b, 0, none⟩), .int .u8 k, V, .func (.func g) #[.pointer (some ⟨b, 0, none⟩)] #[]] w (LPost L A c b (.er v q) w) := by
  unfold Ent at hgc
  obtain ⟨hx, hi⟩ := suf_at h.suf
  have hL := f.len
  have hP1 := h.kp (Kp.set b w 1 (.int .i64 ((L.length - s.length : Nat) : Int))) (suf_tail h.suf) (h.rd.set _)
  have hr1 := h.rd.c1
  have hfz := h.rd.fz
  have hlt := h.rd.lt
  have hle := h.suf.length_le
  have HQ := Lib.hid hP1
  have HH := Lib.hid (H s _ _ hs hr hP1)
  have hi2 : ((L.length - s.length : Nat) : Int) = ((L.length - (x :: s).length : Nat) : Int) + 1 := by omega
  have hbz : ((L.length - (x :: s).length : Nat) : Int) ≤ 200 := by omega
  rw [hi2] at HH HQ
  generalize L.length - (x :: s).length = i at hr1 HH hi2 hbz HQ
  have hvb := errno_ne hv
  clear h f H hx hi hle hr hs hP1 hi2 hv
  go_enter Tryz.func96, Tryz.ntmps96
  go_wp2
  refine HH.out.mono ?_
  rintro e w' ⟨hk, hr, rfl⟩
  have HK := Lib.hid hk
  have HR := Lib.hid hr
  clear hk hr
  go_wp2
  go_ret2
  exact ⟨(Kp.set _ _ _ _).trans HK.out, HR.out, rfl⟩

set_option maxHeartbeats 1000000 in
theorem joined_ok (w0 : World) (L : List Tok) (A : Option Addr) (c b g n N : Nat) (f : Fx w0 L A c b) (hgc : Ent g) (H : LineC w0 L A c b g n N) (x : Tok) (s : List Tok) (w : World) (h : PS w0 L A c b (x :: s) w) (hs : s.length ≤ N)
    (k : Int) (hk : 7 ≤ k ∧ k ≤ 19) (t : Tr) (ht : t.ok = true) (hte : t.er = 0) (A1 : Option Addr) (c1 : Nat) (hl : Lies w A1 (ndCells t.flat)) (u : Tr) (q : List Tok) (hr : Rd (.line n) s (.ok u q)) (m : Nat) (hm : t.sz = m) :
    Calls Tryz.prog 96 #[.pointer (some ⟨b, 0, none⟩), .int .u8 k, .slice A1 m c1, .func (.func g) #[.pointer (some ⟨b, 0, none⟩)] #[]] w (LPost L A c b (joinR k x s t (.ok u q)) w) := by
  have hug := hr.good (f.mem (suf_tail h.suf)) trivial rfl
  have hqs : q <:+ L := hr.suf.trans (suf_tail h.suf)
  have hkk : okK k = true := by simp [okK]; omega
  have hfit : fitsF k 0 x.a = true := fits_zero (f.mem h.suf x List.mem_cons_self)
  have hcn : cnt k = 2 := by unfold cnt; rw [if_neg (by omega), if_neg (by omega)]
  have hbo : (Tr.bin k x.a t u).ok = true := bin_ok hk (f.mem h.suf x List.mem_cons_self) ht hug.1
  have hcf := Tr.check_flat _ hbo
  have HL1 := Lib.hid (show ∀ w', Kp b w w' → Lies w' A1 (ndCells t.flat) from fun w' hk => hk.lies hl (Lies.no_rdr hl h.rd))
  unfold Ent at hgc
  obtain ⟨hx, hi⟩ := suf_at h.suf
  have hL := f.len
  have hP1 := h.kp (Kp.set b w 1 (.int .i64 ((L.length - s.length : Nat) : Int))) (suf_tail h.suf) (h.rd.set _)
  have hr1 := h.rd.c1
  have hfz := h.rd.fz
  have hlt := h.rd.lt
  have hle := h.suf.length_le
  have HQ := Lib.hid hP1
  have HH := Lib.hid (H s _ _ hs hr hP1)
  have hi2 : ((L.length - s.length : Nat) : Int) = ((L.length - (x :: s).length : Nat) : Int) + 1 := by omega
  have hbz : ((L.length - (x :: s).length : Nat) : Int) ≤ 200 := by omega
  rw [hi2] at HH HQ
  have HNO := Lib.hid (fun (W : World) (A2 : Option Addr) (c2 : Nat) (T : TypeId) (hKp : Kp b w W) (hR : Rdr W b (.slice A L.length c) (L.length - q.length)) (h2 : Lies W A2 (ndCells u.flat)) =>
    node_2 (some ⟨W.heap.size, 0, none⟩) 2 k 0 x.a (W.alloc (.cells #[.slice A1 m c1, .slice A2 u.sz c2] T)) A1 c1 m t.flat (by rw [Tr.flat_length, hm]) ((HL1.out W hKp).below ((Below.refl _ _).alloc (Nat.le_refl _) _)) ((Tr.check_flat t ht).trans hte)
      A2 c2 u.sz u.flat (Tr.flat_length u) (h2.below ((Below.refl _ _).alloc (Nat.le_refl _) _)) ((Tr.check_flat u hug.1).trans hug.2) (two_lies _ _ _ _) hkk hfit hcn)
  have HPW := Lib.hid (fun (W : World) (o : Obj) (hKp : Kp b w W) (hR : Rdr W b (.slice A L.length c) (L.length - q.length)) => (h.kp hKp hqs hR).below ((Below.refl W.heap.size W).alloc (Nat.le_refl _) o))
  by_cases hz : (Tr.bin k x.a t u).er = 0
  · have HD := Lib.hid (fun (W : World) (A2 : Option Addr) (c2 : Nat) (T : TypeId) (hKp : Kp b w W) (hR : Rdr W b (.slice A L.length c) (L.length - q.length)) (h2 : Lies W A2 (ndCells u.flat)) =>
      rnode_ok w0 L A c b q _ f (HPW.out W _ hKp hR) _ x hx k 0 _ _ _ _ _ (HNO.out W A2 c2 T hKp hR h2) (hcf.trans hz) (Tr.flat_length (Tr.bin k x.a t u)))
    rw [joinR, if_pos hz]
    generalize L.length - (x :: s).length = i at hr1 HH hi2 hbz HQ HD
    clear h f H hx hi hle hr hs hP1 hi2 HNO HPW hug hkk hfit hcn hcf hl HL1 ht hte hm
    go_enter Tryz.func96, Tryz.ntmps96
    go_wp2
    refine HH.out.mono ?_
    rintro e w' ⟨hk, hr, A2, c2, rfl, hl2⟩
    have HK := Lib.hid ((Kp.set _ _ _ _).trans hk)
    have HR := Lib.hid hr
    have HL2 := Lib.hid hl2
    clear hk hr hl2
    go_wp2_with (go_at_call 110; refine (HD.out _ _ _ _ HK.out HR.out HL2.out).mono ?_; rintro e w2 ⟨A3, c3, rfl, hl3, hb3⟩; have HB3 := Lib.hid hb3; clear hb3)
    go_ret2
    exact ⟨HK.out.trans (Kp.of_below (((Below.refl _ _).alloc (Nat.le_refl _) _).trans (HB3.out.mono (by simp)))), (HR.out.below ((Below.refl _ _).alloc (Nat.le_refl _) _)).below HB3.out, A3, c3, rfl, hl3⟩
  · have HD := Lib.hid (fun (W : World) (A2 : Option Addr) (c2 : Nat) (T : TypeId) (hKp : Kp b w W) (hR : Rdr W b (.slice A L.length c) (L.length - q.length)) (h2 : Lies W A2 (ndCells u.flat)) =>
      rnode_er w0 L A c b q _ f (HPW.out W _ hKp hR) _ x hx k 0 _ _ _ _ _ (HNO.out W A2 c2 T hKp hR h2) hcf hz)
    rw [joinR, if_neg hz]
    have hvb := errno_ne hz
    have hvb' := hvb
    generalize (Tr.bin k x.a t u).er = v at HD hvb
    obtain ⟨i, hiq⟩ : ∃ i, L.length - (x :: s).length = i := ⟨_, rfl⟩
    rw [hiq] at hr1 HH hi2 hbz HQ HD
    have HE := Lib.hid hiq
    clear hiq
    clear h f H hx hi hle hr hs hP1 hi2 HNO HPW hug hkk hfit hcn hcf hl HL1 ht hte hm
    go_enter Tryz.func96, Tryz.ntmps96
    go_wp2
    refine HH.out.mono ?_
    rintro e w' ⟨hk, hr, A2, c2, rfl, hl2⟩
    have HK := Lib.hid ((Kp.set _ _ _ _).trans hk)
    have HR := Lib.hid hr
    have HL2 := Lib.hid hl2
    clear hk hr hl2
    go_wp2_with (go_at_call 110; refine (HD.out _ _ _ _ HK.out HR.out HL2.out).mono ?_; rintro e w2 ⟨rfl, hb3, hr3⟩; have HB3 := Lib.hid hb3; have HR3 := Lib.hid hr3; clear hb3 hr3)
    go_ret2
    exact ⟨HK.out.trans ((Kp.of_below ((Below.refl _ _).alloc (Nat.le_refl _) _)).trans HB3.out), (by show Rdr w2 b _ (L.length - (x :: s).length); rw [HE.out]; exact HR3.out), rfl⟩
end Go.Proofs.YtlmamidodahgmaaGreatDoor

/- EChain: Lines of the grammar with operators between parts. -/
namespace Go.Proofs.YtlmamidodahgmaaGreatDoor
open Go.ChangeShapes Go.WideShapes Go.ChangeAt Go.RowKit N4
set_option linter.unusedVariables false
set_option maxRecDepth 100000

theorem wrap_er_ne {k : Int} {s : List Tok} : ∀ {c : List Tok} {r : R} {v : Int} {q : List Tok}, (∀ v q, r = .er v q → v ≠ 0) → wrapR k s c r = .er v q → v ≠ 0 := by
  intro c
  induction c with
  | nil => intro r v q h hw; exact h _ _ hw
  | cons x c ih =>
    intro r v q h hw
    rw [wrapR] at hw
    cases hr : wrapR k s c r with
    | er e q' => rw [hr] at hw; injection hw with h1 _; subst h1; exact ih h hr
    | ok u q' =>
      rw [hr] at hw
      simp only at hw
      split at hw
      · simp at hw
      · injection hw with h1 _; subst h1; assumption
theorem Rd.er_ne {m : Md} {s : List Tok} {r : R} (h : Rd m s r) : ∀ {v q}, r = .er v q → v ≠ 0 := by
  induction h with
  | first_er _ _ ih => intro v q h; exact ih h
  | first_ok _ _ _ _ ih2 => intro v q h; exact ih2 h
  | stop _ _ => intro v q h; simp at h
  | next_er _ _ _ ih => intro v q h; exact ih h
  | next_node _ _ _ he _ => intro v q h; injection h with h _; subst h; exact he
  | next_ok _ _ _ _ _ _ _ ih2 => intro v q h; exact ih2 h
  | next_one _ _ _ _ => intro v q h; simp at h
  | pre _ _ _ _ ih => intro v q h; exact wrap_er_ne (fun v q h => ih h) h
  | leaf _ => intro v q h; simp at h
  | bad _ _ => intro v q h; injection h with h _; omega
  | br_er _ _ ih => intro v q h; exact ih h
  | br_no _ _ _ _ => intro v q h; injection h with h _; omega
  | br_ok _ _ _ _ => intro v q h; simp at h
theorem Rd.inv_ch {n : Nat} {s : List Tok} {r : R} (hn : isCh n) (h : Rd (.line n) s r) :
    (∃ e q, r = .er e q ∧ Rd (.line (n + 1)) s (.er e q)) ∨ ∃ t q, Rd (.line (n + 1)) s (.ok t q) ∧ Rd (.chain n t) q r := by
  cases h with
  | first_er _ h => exact .inl ⟨_, _, rfl, h⟩
  | first_ok _ h h2 => exact .inr ⟨_, _, h, h2⟩
  | pre hp _ _ _ => exact absurd hn (by unfold isCh; rcases hp with rfl | rfl <;> omega)
  | leaf _ => exact absurd hn (by decide)
  | bad _ _ => exact absurd hn (by decide)
  | br_er _ _ => exact absurd hn (by decide)
  | br_no _ _ _ => exact absurd hn (by decide)
  | br_ok _ _ _ => exact absurd hn (by decide)
theorem Rd.inv_chain {n : Nat} {t : Tr} {s : List Tok} {r : R} (h : Rd (.chain n t) s r) :
    (r = .ok t s ∧ opOf (loK n) (hiK n) (txt s) = none) ∨
    ∃ x s' k r1, s = x :: s' ∧ opOf (loK n) (hiK n) x.s = some k ∧ Rd (.line (n + 1)) s' r1 ∧
      ((∃ v q, joinR k x s' t r1 = .er v q ∧ r = .er v q) ∨ (∃ u q, joinR k x s' t r1 = .ok u q ∧ (n = 3 → r = .ok u q) ∧ (n ≠ 3 → Rd (.chain n u) q r))) := by
  cases h with
  | stop _ ho => exact .inl ⟨rfl, ho⟩
  | next_er _ ho h1 => exact .inr ⟨_, _, _, _, rfl, ho, h1, .inl ⟨_, _, rfl, rfl⟩⟩
  | next_node _ ho h1 he => exact .inr ⟨_, _, _, _, rfl, ho, h1, .inl ⟨_, _, by rw [joinR, if_neg he], rfl⟩⟩
  | next_ok _ h3 ho h1 he h2 => exact .inr ⟨_, _, _, _, rfl, ho, h1, .inr ⟨_, _, by rw [joinR, if_pos he], fun h => absurd h h3, fun _ => h2⟩⟩
  | next_one ho h1 he => exact .inr ⟨_, _, _, _, rfl, ho, h1, .inr ⟨_, _, by rw [joinR, if_pos he], fun _ => rfl, fun h => absurd rfl h⟩⟩
theorem Rd.inv_pre {n : Nat} {s : List Tok} {r : R} (hn : isPr n) (h : Rd (.line n) s r) :
    ∃ c s0 r0, s = c ++ s0 ∧ (∀ x ∈ c, x.s = sgnB n) ∧ txt s0 ≠ sgnB n ∧ Rd (.line (n + 1)) s0 r0 ∧ r = wrapR (sgnK n) s0 c r0 := by
  have hno : ∀ m, isPr m → ¬ isCh m := by intro m hm; unfold isCh; rcases hm with rfl | rfl <;> omega
  cases h with
  | first_er hc _ => exact absurd hc (hno _ hn)
  | first_ok hc _ _ => exact absurd hc (hno _ hn)
  | pre _ h1 h2 h3 => exact ⟨_, _, _, rfl, h1, h2, h3, rfl⟩
  | leaf _ => exact absurd hn (by decide)
  | bad _ _ => exact absurd hn (by decide)
  | br_er _ _ => exact absurd hn (by decide)
  | br_no _ _ _ => exact absurd hn (by decide)
  | br_ok _ _ _ => exact absurd hn (by decide)
theorem join_good {k : Int} (hk : 7 ≤ k ∧ k ≤ 19) {x : Tok} (hx : TkOk x) {s : List Tok} {t : Tr} (ht : t.ok = true) {r : R} (hr : ∀ u q, r = .ok u q → u.ok = true ∧ u.er = 0) {u : Tr} {q : List Tok} (h : joinR k x s t r = .ok u q) : u.ok = true ∧ u.er = 0 := by
  cases r with
  | er e q' => simp [joinR] at h
  | ok u' q' =>
    rw [joinR] at h
    split at h
    · rename_i he
      injection h with h _; subst h
      exact ⟨bin_ok hk hx ht (hr _ _ rfl).1, he⟩
    · simp at h
theorem join_rest {k : Int} {x : Tok} {s : List Tok} {t : Tr} {r : R} {u : Tr} {q : List Tok} (h : joinR k x s t r = .ok u q) : ∃ u', r = .ok u' q := by
  cases r with
  | er e q' => simp [joinR] at h
  | ok u' q' =>
    rw [joinR] at h
    split at h
    · injection h with _ h; subst h; exact ⟨_, rfl⟩
    · simp at h

theorem joined_any (w0 : World) (L : List Tok) (A : Option Addr) (c b g n N : Nat) (f : Fx w0 L A c b) (hgc : Ent g) (H : LineC w0 L A c b g n N) (x : Tok) (s : List Tok) (w : World) (h : PS w0 L A c b (x :: s) w) (hs : s.length ≤ N)
    (k : Int) (hk : 7 ≤ k ∧ k ≤ 19) (t : Tr) (ht : t.ok = true ∧ t.er = 0) (A1 : Option Addr) (c1 : Nat) (hl : Lies w A1 (ndCells t.flat)) (r r' : R) (hr : Rd (.line n) s r) (hj : joinR k x s t r = r') :
    Calls Tryz.prog 96 #[.pointer (some ⟨b, 0, none⟩), .int .u8 k, .slice A1 t.sz c1, .func (.func g) #[.pointer (some ⟨b, 0, none⟩)] #[]] w (LPost L A c b r' w) := by
  subst hj
  cases r with
  | er v q => exact joined_er w0 L A c b g n N f hgc H x s w h hs k _ v (hr.er_ne rfl) q hr
  | ok u q => exact joined_ok w0 L A c b g n N f hgc H x s w h hs k hk t ht.1 ht.2 A1 c1 hl u q hr _ rfl

def ChRun (w0 : World) (L : List Tok) (A : Option Addr) (c b n N : Nat) (r : R) (w : World) (g : Nat) (xv ev : Value) (W : World) : Prop :=
  ∃ t q A' c', q.length + 1 = g ∧ q.length ≤ N ∧ xv = .slice A' t.sz (t.sz + c') ∧ ev = .int .i64 0 ∧ Hid (Lies W A' (ndCells t.flat)) ∧ Hid (t.ok = true ∧ t.er = 0) ∧ Hid (Rd (.chain n t) q r) ∧ Hid (PS w0 L A c b q W) ∧ Hid (Kp b w W)
def ChErr (L : List Tok) (A : Option Addr) (c b : Nat) (r : R) (w : World) (xv ev : Value) (W : World) : Prop :=
  ∃ v q, Hid (r = .er v q) ∧ v ≠ 0 ∧ xv = .slice none 0 0 ∧ ev = .int .i64 v ∧ Hid (Kp b w W) ∧ Hid (Rdr W b (.slice A L.length c) (L.length - q.length))

set_option maxHeartbeats 2000000 in
theorem chain_any (w0 : World) (L : List Tok) (A : Option Addr) (c b g n N : Nat) (f : Fx w0 L A c b) (hgc : Ent g) (hn : isCh n) (h3 : n ≠ 3) (H : LineC w0 L A c b g (n + 1) N)
    (lo hi : Nat) (hlo : loK n = 7 + (lo : Int)) (hhi : hiK n = 7 + (hi : Int)) (hlh : lo ≤ hi) (hh : hi < 13) (s : List Tok) (r : R) (w : World) (hs : s.length ≤ N) (hr : Rd (.line n) s r) (h : PS w0 L A c b s w) :
    Calls Tryz.prog 71 #[.pointer (some ⟨b, 0, none⟩), .int .u8 (7 + (lo : Int)), .int .u8 (7 + (hi : Int)), .func (.func g) #[.pointer (some ⟨b, 0, none⟩)] #[]] w (LPost L A c b r w) := by
  have HOP := Lib.hid (fun (q : List Tok) (W : World) (hP : PS w0 L A c b q W) (o : Option Int) (ho : opOf (loK n) (hiK n) (txt q) = o) => operator_any w0 L A c b q W f hP lo hi hlh hh o (by rw [← hlo, ← hhi]; exact ho))
  have HJ := Lib.hid (fun (x : Tok) (q : List Tok) (W : World) (hP : PS w0 L A c b (x :: q) W) (hq : q.length ≤ N) => joined_any w0 L A c b g (n + 1) N f hgc H x q W hP hq)
  have HF := Lib.hid f
  have hent : ∀ (args : Array Value) (W : World), Sem.run Tryz.prog (callFunc g args) W = .ok (.enter g args) W := hgc
  rcases hr.inv_ch hn with ⟨v, q, rfl, h1⟩ | ⟨t, q, h1, h2⟩
  · have HH := Lib.hid (H s _ w hs h1 h)
    have hv := h1.er_ne rfl
    have hvb : (v == 0) = false := by simpa using hv
    clear H h hr hgc f hv h1
    go_enter Tryz.func71, Tryz.ntmps71
    go_wp2
    refine HH.out.mono ?_
    rintro e w' ⟨hk, hrd, rfl⟩
    have HK := Lib.hid hk
    have HR := Lib.hid hrd
    clear hk hrd
    go_wp2
    refine wp_loop_rounds 1 ?_
    try rw [rounds_succ]
    go_wp2
    go_ret2
    exact ⟨HK.out, HR.out, rfl⟩
  · have HH := Lib.hid (H s _ w hs h1 h)
    have HG := Lib.hid (h1.good (f.mem h.suf) trivial rfl)
    have HQ := Lib.hid (show ∀ w', Kp b w w' → Rdr w' b (.slice A L.length c) (L.length - q.length) → PS w0 L A c b q w' from fun w' hk hr => h.kp hk (h1.suf.trans h.suf) hr)
    have HLQ := Lib.hid (show q.length ≤ N from Nat.le_trans (h1.lt rfl).1 hs)
    have H2 := Lib.hid h2
    clear H h hr hgc f h1 h2 hs
    go_enter Tryz.func71, Tryz.ntmps71
    go_wp2
    refine HH.out.mono ?_
    rintro e w' ⟨hk, hrd, A', c', rfl, hl⟩
    have HK := Lib.hid hk
    have HR := Lib.hid hrd
    have HL := Lib.hid hl
    clear hk hrd hl
    go_wp2
    go_loopg [10, 11] (q.length + 1) (fun g xv ev wx => ChRun w0 L A c b n N r w g xv ev wx ∨ ChErr L A c b r w xv ev wx)
    case atStart => exact .inl ⟨t, q, A', c', rfl, HLQ.out, rfl, rfl, HL, HG, H2, Lib.hid (HQ.out _ HK.out HR.out), HK⟩
    case round =>
      clear HK HR HL HQ HG H2 HLQ
      rcases hrel with ⟨t, q, A', c', hq, hqN, rfl, rfl, HL, HG, H2, HP, HK⟩ | ⟨v, q, hre, hv, rfl, rfl, HK, HR⟩
      · rcases H2.out.inv_chain with ⟨hre, ho⟩ | ⟨x, q', k, r1, hqe, ho, h1, hj⟩
        · have HOq := Lib.hid (HOP.out q _ HP.out none ho)
          have HRE := Lib.hid hre
          clear ho hre H2
          go_wp2_with (go_at_call 95; refine HOq.out.mono ?_; rintro e w2 ⟨rfl, m, rfl⟩)
          go_ret2
          unfold LPost
          rw [HRE.out]
          exact ⟨HK.out.trans (Kp.drewN _ _ _), HP.out.rd.drewN _, A', c', rfl, HL.out.below (bd_drewN _ _)⟩
        · subst hqe
          have hkr := op_range ho
          have hk7 := lo7 n
          have hkk : 7 ≤ k ∧ k ≤ 19 := ⟨by omega, by omega⟩
          have HOq := Lib.hid (HOP.out (x :: q') _ HP.out (some k) ho)
          have hq' : q'.length ≤ N := by simp at hqN; omega
          have hlq : ∀ t q, r1 = .ok t q → q.length ≤ q'.length := fun t q h => (h1.lt h).1
          have HXk := Lib.hid (HF.out.mem HP.out.suf x List.mem_cons_self)
          have HGd := Lib.hid (fun u q (h : r1 = .ok u q) => h1.good (HF.out.mem (suf_tail HP.out.suf)) trivial h)
          have HSU := Lib.hid (fun u q (h : r1 = .ok u q) => (show q <:+ L by have := h1.suf; rw [h] at this; exact this.trans (suf_tail HP.out.suf)))
          rcases hj with ⟨v, q1, hj, hre⟩ | ⟨u, q1, hj, _, h2⟩
          · have hv : v ≠ 0 := by
              cases r1 with
              | er e q2 => injection hj with hj _; subst hj; exact h1.er_ne rfl
              | ok u2 q2 =>
                rw [joinR] at hj
                split at hj
                · simp at hj
                · injection hj with hj _; subst hj; assumption
            have HJ2 := Lib.hid (fun m => HJ.out x q' (wr.drewN m) (HP.out.drewN m) hq' k hkk t HG.out A' (t.sz + c') (HL.out.below (bd_drewN _ _)) r1 _ h1 hj)
            have HRE := Lib.hid hre
            clear ho hre H2 hkr hk7 hkk hq' hlq HXk HGd HSU h1 hj hqN
            go_wp2_with (first
              | (go_at_call 95; refine HOq.out.mono ?_; rintro e w2 ⟨rfl, m, rfl⟩)
              | (go_at_call 96; refine (HJ2.out _).mono ?_; rintro e w3 ⟨hk3, hr3, rfl⟩; have HK3 := Lib.hid hk3; have HR3 := Lib.hid hr3; clear hk3 hr3))
            go_roundg 0
            case measure => omega
            case rel => exact .inr ⟨v, q1, HRE, hv, rfl, rfl, Lib.hid ((HK.out.trans (Kp.drewN _ _ _)).trans HK3.out), HR3⟩
          · obtain ⟨u', hu'⟩ := join_rest hj
            have hlt := hlq _ _ hu'
            have HGu := Lib.hid (join_good hkk HXk.out HG.out.1 (fun u q h => HGd.out u q h) hj)
            have HSq := Lib.hid (HSU.out _ _ hu')
            have HJ2 := Lib.hid (fun m => HJ.out x q' (wr.drewN m) (HP.out.drewN m) hq' k hkk t HG.out A' (t.sz + c') (HL.out.below (bd_drewN _ _)) r1 _ h1 hj)
            have HRE := Lib.hid (h2 h3)
            have hq2 : q1.length ≤ N := by omega
            have hq3 : q1.length + 1 < gk := by simp at hq; omega
            clear ho h2 H2 hkr hk7 hkk hq' hlq HXk HGd HSU h1 hj hu' hqN hlt hq
            go_wp2_with (first
              | (go_at_call 95; refine HOq.out.mono ?_; rintro e w2 ⟨rfl, m, rfl⟩)
              | (go_at_call 96; refine (HJ2.out _).mono ?_; rintro e w3 ⟨hk3, hr3, A4, c4, rfl, hl4⟩; have HK3 := Lib.hid hk3; have HR3 := Lib.hid hr3; have HL4 := Lib.hid hl4; clear hk3 hr3 hl4))
            go_roundg (q1.length + 1)
            case measure => omega
            case rel => exact .inl ⟨u, q1, A4, c4, rfl, hq2, rfl, rfl, HL4, HGu, HRE, Lib.hid (HP.out.kp ((Kp.drewN _ _ _).trans HK3.out) HSq.out HR3.out), Lib.hid ((HK.out.trans (Kp.drewN _ _ _)).trans HK3.out)⟩
      · have hvb : (v == 0) = false := by simpa using hv
        clear hv
        go_wp2
        go_ret2
        unfold LPost
        rw [hre.out]
        exact ⟨HK.out, HR.out, rfl⟩
end Go.Proofs.YtlmamidodahgmaaGreatDoor

/- ECmp: Lines of the grammar with one operator, and with signs in front. -/
namespace Go.Proofs.YtlmamidodahgmaaGreatDoor
open Go.ChangeShapes Go.WideShapes Go.ChangeAt Go.RowKit N4
set_option linter.unusedVariables false
set_option maxRecDepth 100000

theorem ent_shift : Ent 117 := fun args W => Tryz.call117 args W
set_option maxHeartbeats 2000000 in
theorem compare_any (w0 : World) (L : List Tok) (A : Option Addr) (c b N : Nat) (f : Fx w0 L A c b) (H : LineC w0 L A c b 117 4 N) (s : List Tok) (r : R) (w : World) (hs : s.length ≤ N) (hr : Rd (.line 3) s r) (h : PS w0 L A c b s w) :
    Calls Tryz.prog 112 #[.pointer (some ⟨b, 0, none⟩)] w (LPost L A c b r w) := by
  have HOP := Lib.hid (fun (q : List Tok) (W : World) (hP : PS w0 L A c b q W) (o : Option Int) (ho : opOf (loK 3) (hiK 3) (txt q) = o) => show Calls Tryz.prog 95 #[.pointer (some ⟨b, 0, none⟩), .int .u8 12, .int .u8 17] W (opPost o W) from operator_any w0 L A c b q W f hP 5 10 (by omega) (by omega) o ho)
  have HJ := Lib.hid (fun (x : Tok) (q : List Tok) (W : World) (hP : PS w0 L A c b (x :: q) W) (hq : q.length ≤ N) => joined_any w0 L A c b _ 4 N f ent_shift H x q W hP hq)
  have HF := Lib.hid f
  rcases hr.inv_ch (by decide) with ⟨v, q, rfl, h1⟩ | ⟨t, q, h1, h2⟩
  · have HH := Lib.hid (H s _ w hs h1 h)
    have hv := errno_ne (h1.er_ne rfl)
    clear H h hr f h1 HOP HJ HF
    go_enter Tryz.func112, Tryz.ntmps112
    go_wp2_with (go_at_call 117; refine HH.out.mono ?_; rintro e w' ⟨hk, hrd, rfl⟩; have HK := Lib.hid hk; have HR := Lib.hid hrd; clear hk hrd)
    go_ret2
    exact ⟨HK.out, HR.out, rfl⟩
  · have HH := Lib.hid (H s _ w hs h1 h)
    have HG := Lib.hid (h1.good (f.mem h.suf) trivial rfl)
    have HQ := Lib.hid (show ∀ w', Kp b w w' → Rdr w' b (.slice A L.length c) (L.length - q.length) → PS w0 L A c b q w' from fun w' hk hr => h.kp hk (h1.suf.trans h.suf) hr)
    have hqN : q.length ≤ N := Nat.le_trans (h1.lt rfl).1 hs
    rcases h2.inv_chain with ⟨hre, ho⟩ | ⟨x, q', k, r1, hqe, ho, h3, hj⟩
    · subst hre
      clear H h hr f h1 HJ HF hqN h2 hs HG
      go_enter Tryz.func112, Tryz.ntmps112
      go_wp2_with (first
        | (go_at_call 95; refine (HOP.out q _ HP.out none ho).mono ?_; rintro e w2 ⟨rfl, m, rfl⟩)
        | (go_at_call 117; refine HH.out.mono ?_; rintro e w' ⟨hk, hrd, A', c', rfl, hl⟩; have HK := Lib.hid hk; have HR := Lib.hid hrd; have HL := Lib.hid hl; have HP := Lib.hid (HQ.out _ hk hrd); clear hk hrd hl))
      go_ret2
      exact ⟨HK.out.trans (Kp.drewN _ _ _), HR.out.drewN _, A', c', rfl, HL.out.below (bd_drewN _ _)⟩
    · subst hqe
      have hkr := op_range ho
      have hk7 := lo7 3
      have hkk : 7 ≤ k ∧ k ≤ 19 := ⟨by omega, by omega⟩
      have hq' : q'.length ≤ N := by simp at hqN; omega
      have hjr : joinR k x q' t r1 = r := by
        rcases hj with ⟨v, q1, hj, hre⟩ | ⟨u, q1, hj, hre, _⟩
        · rw [hj, hre]
        · rw [hj, hre rfl]
      have HJ2 := Lib.hid (fun m A' c' (W : World) (hP : PS w0 L A c b (x :: q') W) (hl : Lies W A' (ndCells t.flat)) => HJ.out x q' (W.drewN m) (hP.drewN m) hq' k hkk t HG.out A' (t.sz + c') (hl.below (bd_drewN _ _)) r1 r h3 hjr)
      have HO := Lib.hid ho
      clear H h hr f h1 HJ HF hqN h2 hs HG hkr hk7 hkk hq' hj hjr h3 ho
      cases r with
      | er v q2 =>
        go_enter Tryz.func112, Tryz.ntmps112
        go_wp2_with (first
          | (go_at_call 96; refine (HJ2.out _ _ _ _ HP.out HL.out).mono ?_; rintro e w3 ⟨hk3, hr3, rfl⟩; have HK3 := Lib.hid hk3; have HR3 := Lib.hid hr3; clear hk3 hr3)
          | (go_at_call 95; refine (HOP.out _ _ HP.out (some k) HO.out).mono ?_; rintro e w2 ⟨rfl, m, rfl⟩)
          | (go_at_call 117; refine HH.out.mono ?_; rintro e w' ⟨hk, hrd, A', c', rfl, hl⟩; have HK := Lib.hid hk; have HR := Lib.hid hrd; have HL := Lib.hid hl; have HP := Lib.hid (HQ.out _ hk hrd); clear hk hrd hl))
        go_ret2
        exact ⟨(HK.out.trans (Kp.drewN _ _ _)).trans HK3.out, HR3.out, rfl⟩
      | ok u q2 =>
        go_enter Tryz.func112, Tryz.ntmps112
        go_wp2_with (first
          | (go_at_call 96; refine (HJ2.out _ _ _ _ HP.out HL.out).mono ?_; rintro e w3 ⟨hk3, hr3, A4, c4, rfl, hl4⟩; have HK3 := Lib.hid hk3; have HR3 := Lib.hid hr3; clear hk3 hr3)
          | (go_at_call 95; refine (HOP.out _ _ HP.out (some k) HO.out).mono ?_; rintro e w2 ⟨rfl, m, rfl⟩)
          | (go_at_call 117; refine HH.out.mono ?_; rintro e w' ⟨hk, hrd, A', c', rfl, hl⟩; have HK := Lib.hid hk; have HR := Lib.hid hrd; have HL := Lib.hid hl; have HP := Lib.hid (HQ.out _ hk hrd); clear hk hrd hl))
        go_ret2
        exact ⟨(HK.out.trans (Kp.drewN _ _ _)).trans HK3.out, HR3.out, A4, c4, rfl, hl4⟩
end Go.Proofs.YtlmamidodahgmaaGreatDoor

/- EPre: Signs in front of a part. -/
namespace Go.Proofs.YtlmamidodahgmaaGreatDoor
open Go.ChangeShapes Go.WideShapes Go.ChangeAt Go.RowKit N4
set_option linter.unusedVariables false
set_option maxRecDepth 100000

theorem drop_cons {c : List Tok} {j : Nat} (hj : j < c.length) : ∃ x, c[j]? = some x ∧ c.drop j = x :: c.drop (j + 1) :=
  ⟨c[j], List.getElem?_eq_getElem hj, by rw [List.drop_eq_getElem_cons hj]⟩
/-- One sign more. -/
def stepR (k : Int) (x : Tok) (y : List Tok) : R → R
  | .ok t q => if (Tr.un k x.a t).er = 0 then .ok (.un k x.a t) q else .er (Tr.un k x.a t).er (x :: y)
  | .er e q => .er e q
theorem wrap_step (k : Int) (s : List Tok) (x : Tok) (c : List Tok) (r : R) : wrapR k s (x :: c) r = stepR k x (c ++ s) (wrapR k s c r) := by
  rw [wrapR]
  cases wrapR k s c r <;> rfl
theorem wrap_er (k : Int) (s : List Tok) : ∀ (c : List Tok) (r : R) (v : Int) (q : List Tok), r = .er v q → wrapR k s c r = .er v q := by
  intro c
  induction c with
  | nil => intro r v q h; exact h
  | cons x c ih => intro r v q h; rw [wrap_step, ih r v q h]; rfl
theorem wrap_app (k : Int) (s : List Tok) (d : List Tok) (r : R) : ∀ c : List Tok, wrapR k s (c ++ d) r = wrapR k (d ++ s) c (wrapR k s d r) := by
  intro c
  induction c with
  | nil => rfl
  | cons x c ih => rw [List.cons_append, wrap_step, ih, wrap_step, List.append_assoc]
theorem un_ok {k p : Int} {t : Tr} (hk : 5 ≤ k ∧ k ≤ 6) (hp : 0 ≤ p ∧ p ≤ 400) (ht : t.ok = true) : (Tr.un k p t).ok = true := by
  simp [Tr.ok, hk.1, hk.2, ht, fits_zero (k := k) hp]

set_option maxHeartbeats 1000000 in
/-- The node of a sign. -/
theorem sign_node (w0 : World) (L : List Tok) (A : Option Addr) (c b : Nat) (f : Fx w0 L A c b) (s : List Tok) (w : World) (h : PS w0 L A c b s w) (x : Tok) (y : List Tok) (hy : x :: y <:+ L) (i : Int) (hi : i + (x :: y).length = L.length) (k : Int) (hk : 5 ≤ k ∧ k ≤ 6)
    (t : Tr) (ht : t.ok = true ∧ t.er = 0) (A1 : Option Addr) (c1 : Nat) (hl : Lies w A1 (ndCells t.flat)) (T : TypeId) (r : R) (hr : stepR k x y (.ok t s) = r) :
    Calls Tryz.prog 110 #[.pointer (some ⟨b, 0, none⟩), .int .u8 k, .int .i64 0, .int .i64 i, .slice (some ⟨w.heap.size, 0, none⟩) 1 1] (w.alloc (.cells #[.slice A1 t.sz c1] T)) (LPost L A c b r (w.alloc (.cells #[.slice A1 t.sz c1] T))) := by
  obtain ⟨hx, _⟩ := suf_at hy
  have hle := hy.length_le
  obtain rfl : i = ((L.length - (x :: y).length : Nat) : Int) := by omega
  have hxa := f.mem hy x List.mem_cons_self
  have hbo := un_ok hk hxa ht.1
  have hcf := Tr.check_flat _ hbo
  have hP := h.below ((Below.refl w.heap.size w).alloc (Nat.le_refl _) (.cells #[.slice A1 t.sz c1] T))
  have hcn : cnt k = 1 := by unfold cnt; rw [if_neg (by omega), if_pos (by omega)]
  have hlp : Lies (w.alloc (.cells #[.slice A1 t.sz c1] T)) (some ⟨w.heap.size, 0, none⟩) [.slice A1 t.sz c1] := lies_vals w _ rfl _ T _ rfl
  have HN := node_1 (some ⟨w.heap.size, 0, none⟩) 1 k 0 x.a (w.alloc (.cells #[.slice A1 t.sz c1] T)) A1 c1 t.sz t.flat t.flat_length (hl.below ((Below.refl _ _).alloc (Nat.le_refl _) _)) ((Tr.check_flat t ht.1).trans ht.2) hlp (by simp [okK]; omega) (fits_zero hxa) hcn
  subst hr
  by_cases hz : (Tr.un k x.a t).er = 0
  · rw [stepR, if_pos hz]
    refine (rnode_ok w0 L A c b s _ f hP _ x hx k 0 _ _ _ _ _ HN (hcf.trans hz) (Tr.flat_length (Tr.un k x.a t))).mono ?_
    rintro e w' ⟨A', c', rfl, hl', hb⟩
    exact ⟨Kp.of_below hb, hP.rd.below hb, A', c', rfl, hl'⟩
  · rw [stepR, if_neg hz]
    refine (rnode_er w0 L A c b s _ f hP _ x hx k 0 _ _ _ _ _ HN hcf hz).mono ?_
    rintro e w' ⟨rfl, hk', hr'⟩
    exact ⟨hk', hr', rfl⟩

def PrRun (w0 : World) (L : List Tok) (A : Option Addr) (c b : Nat) (k : Int) (s0 cs : List Tok) (r0 : R) (w : World) (i : Int) (g : Nat) (tv xv ev : Value) (W : World) : Prop :=
  ∃ (j : Nat) (z : Int) (t : Tr) (q : List Tok) (A' : Option Addr) (c' : Nat), j + 1 = g ∧ j ≤ cs.length ∧ z = i + j - 1 ∧ tv = .int .i64 z ∧ xv = .slice A' t.sz (t.sz + c') ∧ ev = .int .i64 0 ∧ Hid (wrapR k s0 (cs.drop j) r0 = .ok t q) ∧ Hid (Lies W A' (ndCells t.flat)) ∧ Hid (t.ok = true ∧ t.er = 0) ∧ Hid (PS w0 L A c b q W) ∧ Hid (Kp b w W)
def PrErr (L : List Tok) (A : Option Addr) (c b : Nat) (r : R) (w : World) (xv ev : Value) (W : World) : Prop :=
  ∃ v q, Hid (r = .er v q) ∧ v ≠ 0 ∧ xv = .slice none 0 0 ∧ ev = .int .i64 v ∧ Hid (Kp b w W) ∧ Hid (Rdr W b (.slice A L.length c) (L.length - q.length))
theorem sq_eq {s t : List UInt8} (h : s = t) : ((bytesOf s).toList == (bytesOf t).toList) = true := beq_bytes h

set_option maxHeartbeats 2000000 in
theorem prefixed_any (w0 : World) (L : List Tok) (A : Option Addr) (c b g n N : Nat) (f : Fx w0 L A c b) (hgc : Ent g) (hn : isPr n) (H : LineC w0 L A c b g (n + 1) N) (s : List Tok) (r : R) (w : World) (hs : s.length ≤ N) (hr : Rd (.line n) s r) (h : PS w0 L A c b s w) :
    Calls Tryz.prog 111 #[.pointer (some ⟨b, 0, none⟩), .string (bytesOf (sgnB n)), .int .u8 (sgnK n), .func (.func g) #[.pointer (some ⟨b, 0, none⟩)] #[]] w (LPost L A c b r w) := by
  obtain ⟨cs, s0, r0, rfl, hc, h0, h1, hre⟩ := hr.inv_pre hn
  have hk := sgn_k n
  generalize sgnK n = k at hk hre
  generalize sgnB n = sb at hc h0
  have hent : ∀ (args : Array Value) (W : World), Sem.run Tryz.prog (callFunc g args) W = .ok (.enter g args) W := hgc
  have HN := Lib.hid (fun (q : List Tok) (W : World) (hP : PS w0 L A c b q W) => next_any w0 L A c b q W f hP)
  have hss : ∀ j, cs.drop j ++ s0 <:+ L := fun j => (show cs.drop j ++ s0 <:+ cs ++ s0 from ⟨cs.take j, by rw [← List.append_assoc, List.take_append_drop]⟩).trans h.suf
  have HSS := Lib.hid hss
  have hlen := h.suf.length_le
  have hL := f.len
  obtain ⟨i, hi⟩ : ∃ i : Nat, i + (cs.length + s0.length) = L.length := ⟨L.length - (cs.length + s0.length), by simp at hlen; omega⟩
  have hlt := h.rd.lt
  have hr1 := h.rd.c1
  rw [show L.length - (cs ++ s0).length = i by simp; omega] at hr1
  have hiz : (i : Int) + cs.length ≤ 200 := by omega
  have HH := Lib.hid (fun (W : World) (hP : PS w0 L A c b s0 W) => H s0 r0 W (by simp at hs; omega) h1 hP)
  have HSG := Lib.hid (fun (q : List Tok) (W : World) (hP : PS w0 L A c b q W) => sign_node w0 L A c b f q W hP)
  have HC := Lib.hid hc
  have HQ0 := Lib.hid (bne_bytes h0)
  have HI := Lib.hid hi
  have HRE := Lib.hid hre
  have HG0 := Lib.hid (show ∀ t q, r0 = .ok t q → t.ok = true ∧ t.er = 0 from fun t q e => h1.good (f.mem (HSS.out cs.length |> fun x => by simpa using x)) trivial e)
  have HV0 := Lib.hid (show ∀ v q, r0 = .er v q → v ≠ 0 from fun v q e => h1.er_ne e)
  have HSU := Lib.hid (show r0.rest <:+ L from h1.suf.trans (by simpa using hss cs.length))
  have HF := Lib.hid f
  have HP0 := Lib.hid h
  clear H h hr hgc f h1 hc h0 hss hi hre hs hlen
  go_enter Tryz.func111, Tryz.ntmps111
  go_wp2
  go_loopg [] cs.length (fun g wx => ∃ j, j + g = cs.length ∧ Hid (PS w0 L A c b (cs.drop j ++ s0) wx) ∧ Hid (Kp b w wx))
  case atStart => exact ⟨0, by omega, HP0, Lib.hid (Kp.refl _ _)⟩
  case round =>
    clear HP0
    obtain ⟨j, hj, HP, HK⟩ := hrel
    have hrj := HP.out.rd.c1
    rw [show ((L.length - (cs.drop j ++ s0).length : Nat) : Int) = (i : Int) + j by have := HI.out; simp; omega] at hrj
    have hfj := HP.out.rd.fz
    have hlj := HP.out.rd.lt
    have hjz : (j : Int) ≤ cs.length := by omega
    cases gk with
    | zero =>
      obtain rfl : j = cs.length := by omega
      have HP' := Lib.hid (show PS w0 L A c b s0 wr by have := HP.out; rwa [List.drop_length, List.nil_append] at this)
      have HNn := Lib.hid (HN.out s0 wr HP'.out)
      have HHn := Lib.hid (fun m => HH.out (wr.drewN m) (HP'.out.drewN m))
      have hq := HQ0.out
      clear hj HP hfj
      cases r0 with
      | er v q =>
        have hv := HV0.out v q rfl
        have hvb : (v == 0) = false := by simpa using hv
        have HRE2 := Lib.hid (show r = .er v q by rw [HRE.out]; exact wrap_er _ _ _ _ _ _ rfl)
        clear hv
        go_wp2_with (go_at_call 109; refine HNn.out.mono ?_; rintro e w2 ⟨rfl, m, rfl⟩)
        refine (HHn.out m).mono ?_
        rintro e w3 ⟨hk3, hr3, rfl⟩
        have HK3 := Lib.hid hk3
        have HR3 := Lib.hid hr3
        clear hk3 hr3
        go_wp2
        refine wp_loop_rounds 1 ?_
        try rw [rounds_succ]
        go_wp2
        go_ret2
        unfold LPost
        rw [HRE2.out]
        exact ⟨(HK.out.trans (Kp.drewN _ _ _)).trans HK3.out, HR3.out, rfl⟩
      | ok t0 q0 =>
        have HG := Lib.hid (HG0.out t0 q0 rfl)
        go_wp2_with (go_at_call 109; refine HNn.out.mono ?_; rintro e w2 ⟨rfl, m, rfl⟩)
        refine (HHn.out m).mono ?_
        rintro e w3 ⟨hk3, hr3, A', c', rfl, hl3⟩
        have HK3 := Lib.hid ((Kp.drewN b wr m).trans hk3)
        have HP3 := Lib.hid (HP'.out.kp HK3.out HSU.out hr3)
        have HL3 := Lib.hid hl3
        clear hk3 hr3 hl3
        go_wp2
        go_loopg [11, 12, 13] (cs.length + 1) (fun g tv xv ev wx => PrRun w0 L A c b k s0 cs (.ok t0 q0) w i g tv xv ev wx ∨ PrErr L A c b r w xv ev wx)
        case atStart => exact .inl ⟨cs.length, _, t0, q0, A', c', rfl, Nat.le_refl _, rfl, rfl, rfl, rfl, Lib.hid (by rw [List.drop_length]; rfl), HL3, HG, HP3, Lib.hid (HK.out.trans HK3.out)⟩
        case round =>
          clear HL3 HG HP3 HK3 HK
          rcases hrel with ⟨j, z, t, q, A', c', hj, hjl, hz, rfl, rfl, rfl, HW, HL, HG, HP, HK⟩ | ⟨v, q, hre, hv, rfl, rfl, HK, HR⟩
          · cases j with
            | zero =>
              have hzl : z < (i : Int) := by omega
              have HRE2 := Lib.hid (show r = .ok t q by rw [HRE.out, ← HW.out, List.drop_zero])
              clear hz
              go_wp2
              go_ret2
              unfold LPost
              rw [HRE2.out]
              exact ⟨HK.out, HP.out.rd, A', c', rfl, HL.out⟩
            | succ j =>
              obtain ⟨x, hx, hd⟩ := drop_cons (show j < cs.length by omega)
              have hzl : (i : Int) ≤ z := by omega
              have hzu : z ≤ 200 := by omega
              have hsf := HSS.out j
              rw [hd] at hsf
              have hlen : z + (x :: (cs.drop (j + 1) ++ s0)).length = L.length := by have := HI.out; simp; omega
              have HS := Lib.hid (fun T r' hr' => HSG.out q wr HP.out x (cs.drop (j + 1) ++ s0) hsf z hlen k hk t HG.out A' (t.sz + c') HL.out T r' hr')
              have HWN := Lib.hid (show wrapR k s0 (cs.drop j) (.ok t0 q0) = stepR k x (cs.drop (j + 1) ++ s0) (.ok t q) by rw [hd, wrap_step, HW.out])
              have HZ := Lib.hid hz
              have HXk := Lib.hid (HF.out.mem hsf x List.mem_cons_self)
              cases hst : stepR k x (cs.drop (j + 1) ++ s0) (.ok t q) with
              | er v y =>
                have HS2 := Lib.hid (fun T => HS.out T _ hst)
                have hv : v ≠ 0 := by
                  rw [stepR] at hst
                  split at hst
                  · simp at hst
                  · injection hst with hst _; subst hst; assumption
                have HRE2 := Lib.hid (show r = .er v y by
                  rw [HRE.out]
                  have e := wrap_app k s0 (cs.drop j) (.ok t0 q0) (cs.take j)
                  rw [List.take_append_drop] at e
                  rw [e, HWN.out, hst]
                  exact wrap_er _ _ _ _ _ _ rfl)
                clear HS hst hsf hlen hd hx hz HXk HWN
                go_wp2_with (go_at_call 110; refine (HS2.out _).mono ?_; rintro e w4 ⟨hk4, hr4, rfl⟩; have HK4 := Lib.hid hk4; have HR4 := Lib.hid hr4; clear hk4 hr4)
                go_roundg 0
                case measure => omega
                case rel => exact .inr ⟨v, y, HRE2, hv, rfl, rfl, Lib.hid ((HK.out.trans (Kp.of_below ((Below.refl _ _).alloc (Nat.le_refl _) _))).trans HK4.out), HR4⟩
              | ok t2 q2 =>
                have HS2 := Lib.hid (fun T => HS.out T _ hst)
                have HT := Lib.hid (show q2 = q ∧ t2.ok = true ∧ t2.er = 0 by
                  rw [stepR] at hst
                  split at hst
                  · rename_i he
                    injection hst with h1 h2; subst h1 h2; exact ⟨rfl, un_ok hk HXk.out HG.out.1, he⟩
                  · simp at hst)
                have HWN2 := Lib.hid (HWN.out.trans hst)
                have hjl2 : j ≤ cs.length := by omega
                have hjk : j + 1 < gk := by omega
                clear HS hst hsf hlen hd hx hz HXk HWN hj
                go_wp2_with (go_at_call 110; refine (HS2.out _).mono ?_; rintro e w4 ⟨hk4, hr4, A4, c4, rfl, hl4⟩; have HK4 := Lib.hid ((Kp.of_below ((Below.refl _ _).alloc (Nat.le_refl _) _)).trans hk4); have HR4 := Lib.hid hr4; have HL4 := Lib.hid hl4; clear hk4 hr4 hl4)
                go_roundg (j + 1)
                case measure => omega
                case rel =>
                  refine .inl ⟨j, z - 1, t2, q2, A4, c4, rfl, hjl2, by have := HZ.out; omega, rfl, rfl, rfl, HWN2, HL4, Lib.hid HT.out.2, Lib.hid ?_, Lib.hid (HK.out.trans HK4.out)⟩
                  have h4 := HR4.out
                  rw [show (R.ok t2 q2).rest = q from HT.out.1] at h4
                  rw [HT.out.1]
                  exact HP.out.kp HK4.out HP.out.suf h4
          · have hvb : (v == 0) = false := by simpa using hv
            clear hv
            go_wp2
            go_ret2
            unfold LPost
            rw [hre.out]
            exact ⟨HK.out, HR.out, rfl⟩
    | succ g2 =>
      obtain ⟨x, hx, hd⟩ := drop_cons (show j < cs.length by omega)
      have hxs : x.s = sb := HC.out x (List.mem_of_getElem? hx)
      have HNn := Lib.hid (HN.out _ wr HP.out)
      rw [hd, List.cons_append, show txt (x :: (cs.drop (j + 1) ++ s0)) = x.s from rfl, hxs] at HNn
      have hq := sq_eq (rfl : sb = sb)
      have hjl : j + 1 ≤ cs.length := by omega
      clear hx hd hxs
      go_wp2_with (go_at_call 109; refine HNn.out.mono ?_; rintro e w2 ⟨rfl, m, rfl⟩)
      go_roundg g2
      case measure => omega
      case rel =>
        have e1 : (i : Int) + j + 1 = ((L.length - (cs.drop (j + 1) ++ s0).length : Nat) : Int) := by have := HI.out; simp; omega
        have k1 := (HP.out.drewN m).kp (Kp.set b (wr.drewN m) 1 (.int .i64 ((L.length - (cs.drop (j + 1) ++ s0).length : Nat) : Int))) (HSS.out (j + 1)) ((HP.out.drewN m).rd.set _)
        have k2 := Kp.set b (wr.drewN m) 1 (.int .i64 ((L.length - (cs.drop (j + 1) ++ s0).length : Nat) : Int))
        rw [← e1] at k1 k2
        exact ⟨j + 1, by omega, Lib.hid k1, Lib.hid ((HK.out.trans (Kp.drewN _ _ _)).trans k2)⟩
end Go.Proofs.YtlmamidodahgmaaGreatDoor

/- EPrim: Numbers, fields and brackets; all lines of the grammar. -/
namespace Go.Proofs.YtlmamidodahgmaaGreatDoor
open Go.ChangeShapes Go.WideShapes Go.ChangeAt Go.RowKit N4
set_option linter.unusedVariables false
set_option maxRecDepth 100000

theorem cst_eq {s t : List UInt8} (h : s = t) : ((bytesOf s).toList == t) = true := by subst h; rw [bytesOf_toList]; simp
theorem cst_ne {s t : List UInt8} (h : ¬ s = t) : ((bytesOf s).toList == t) = false := by
  rw [bytesOf_toList]; simpa using h

def brR : R → R
  | .er v q => .er v q
  | .ok t [] => .er 12 []
  | .ok t (y :: q) => if y.s = [41] then .ok t q else .er 12 (y :: q)

set_option maxHeartbeats 1000000 in
theorem bracketed_any (w0 : World) (L : List Tok) (A : Option Addr) (c b N : Nat) (f : Fx w0 L A c b) (H : LineC w0 L A c b 43 0 N) (x : Tok) (s : List Tok) (w : World) (h : PS w0 L A c b (x :: s) w) (hs : s.length ≤ N) (r0 r : R) (hr : Rd (.line 0) s r0) (hb : brR r0 = r) :
    Calls Tryz.prog 135 #[.pointer (some ⟨b, 0, none⟩)] w (LPost L A c b r w) := by
  obtain ⟨hx, hi⟩ := suf_at h.suf
  have hL := f.len
  have hP1 := h.kp (Kp.set b w 1 (.int .i64 ((L.length - s.length : Nat) : Int))) (suf_tail h.suf) (h.rd.set _)
  have hr1 := h.rd.c1
  have hfz := h.rd.fz
  have hlt := h.rd.lt
  have hle := h.suf.length_le
  have HH := Lib.hid (H s _ _ hs hr hP1)
  have HQ := Lib.hid (show ∀ W, Kp b (w.setCell ⟨b, 1, none⟩ (.int .i64 ((L.length - s.length : Nat) : Int))) W → ∀ q, q <:+ L → Rdr W b (.slice A L.length c) (L.length - q.length) → PS w0 L A c b q W from fun W k q hq hr => hP1.kp k hq hr)
  have hi2 : ((L.length - s.length : Nat) : Int) = ((L.length - (x :: s).length : Nat) : Int) + 1 := by omega
  have hbz : ((L.length - (x :: s).length : Nat) : Int) ≤ 200 := by omega
  have HN := Lib.hid (fun (q : List Tok) (W : World) (hP : PS w0 L A c b q W) => next_any w0 L A c b q W f hP)
  have HSU := Lib.hid (show r0.rest <:+ L from hr.suf.trans (suf_tail h.suf))
  rw [hi2] at HH HQ
  have hne := fun v q (e : r0 = .er v q) => hr.er_ne e
  generalize L.length - (x :: s).length = i at hr1 HH hi2 hbz HQ
  clear h f H hx hi hle hr hs hP1 hi2
  cases r0 with
  | er v q =>
    have hv := errno_ne (hne v q rfl)
    obtain rfl : R.er v q = r := hb
    clear hne HN
    go_enter Tryz.func135, Tryz.ntmps135
    go_wp2_with (go_at_call 43; refine HH.out.mono ?_; rintro e w' ⟨hk, hr, rfl⟩; have HK := Lib.hid hk; have HR := Lib.hid hr; clear hk hr)
    go_ret2
    exact ⟨(Kp.set _ _ _ _).trans HK.out, HR.out, rfl⟩
  | ok t q =>
    clear hne
    have hno : txt q ≠ [41] → brR (.ok t q) = .er 12 q := by
      intro h
      cases q with
      | nil => rfl
      | cons y q => exact if_neg h
    by_cases hq : txt q = [41]
    · cases q with
      | nil => simp [txt] at hq
      | cons y q =>
        obtain rfl : R.ok t q = r := by rw [← hb]; exact (if_pos hq).symm
        have hc1 := cst_eq hq
        have hyq := suf_at HSU.out
        have HW := Lib.hid (show ∀ W, Kp b (w.setCell ⟨b, 1, none⟩ (.int .i64 ((i : Int) + 1))) W → Rdr W b (.slice A L.length c) (L.length - (y :: q).length) → b < W.heap.size ∧ W.cell? ⟨b, 1, none⟩ = some (.int .i64 ((L.length - (y :: q).length : Nat) : Int)) ∧ W.frozen? ⟨b, 1, none⟩ = false from fun W k hr => ⟨hr.lt, hr.c1, hr.fz⟩)
        have hz1 : ((L.length - (y :: q).length : Nat) : Int) + 1 = ((L.length - q.length : Nat) : Int) := by omega
        have hz2 : ((L.length - (y :: q).length : Nat) : Int) ≤ 200 := by omega
        have HNO := Lib.hid (fun (W : World) (hP : PS w0 L A c b (y :: q) W) => HN.out (y :: q) W hP)
        generalize txt (y :: q) = ty at hc1 HNO
        have HZ := Lib.hid (show ((L.length - (q.length + 1) : Nat) : Int) + 1 = ((L.length - q.length : Nat) : Int) from hz1)
        clear hyq hno hq hz1 HN hb
        go_enter Tryz.func135, Tryz.ntmps135
        go_wp2_with (first
          | (go_at_call 109; refine (HNO.out _ HP.out).mono ?_; rintro e w2 ⟨rfl, m, rfl⟩)
          | (go_at_call 43; refine HH.out.mono ?_; rintro e w' ⟨hk, hr, A', c', rfl, hl⟩; obtain ⟨g1, g2, g3⟩ := HW.out _ hk hr; have HP := Lib.hid (HQ.out _ hk (y :: q) HSU.out hr); have HK := Lib.hid ((Kp.set _ _ _ _).trans hk); have HL := Lib.hid hl; clear hk hr hl))
        go_ret2
        rw [HZ.out]
        refine ⟨(HK.out.trans (Kp.drewN _ _ _)).trans (Kp.set _ _ _ _), (HP.out.rd.drewN _).set _, A', c', rfl, ?_⟩
        exact (Kp.set _ _ _ _).lies (HL.out.below (bd_drewN _ m)) (Lies.no_rdr (HL.out.below (bd_drewN _ m)) (HP.out.rd.drewN m))
    · obtain rfl : R.er 12 q = r := by rw [← hb]; exact (hno hq).symm
      have hc1 := cst_ne hq
      have HNO := Lib.hid (fun (W : World) (hP : PS w0 L A c b q W) => HN.out q W hP)
      generalize txt q = ty at hc1 HNO
      clear hno HN hb
      go_enter Tryz.func135, Tryz.ntmps135
      go_wp2_with (first
        | (go_at_call 109; refine (HNO.out _ HP.out).mono ?_; rintro e w2 ⟨rfl, m, rfl⟩)
        | (go_at_call 43; refine HH.out.mono ?_; rintro e w' ⟨hk, hr, A', c', rfl, hl⟩; have HP := Lib.hid (HQ.out _ hk q HSU.out hr); have HK := Lib.hid ((Kp.set _ _ _ _).trans hk); have HL := Lib.hid hl; clear hk hr hl))
      go_ret2
      exact ⟨HK.out.trans (Kp.drewN _ _ _), HP.out.rd.drewN _, rfl⟩

theorem Rd.inv_prim {s : List Tok} {r : R} (h : Rd (.line 8) s r) :
    (∃ x s' k m, s = x :: s' ∧ leafOf x.s = some (k, m) ∧ r = .ok (.leaf k m x.a) s') ∨ (txt s ≠ [40] ∧ leafOf (txt s) = none ∧ r = .er 12 s) ∨
    ∃ x s' r0, s = x :: s' ∧ x.s = [40] ∧ Rd (.line 0) s' r0 ∧ brR r0 = r := by
  cases h with
  | first_er hc _ => exact absurd hc (by decide)
  | first_ok hc _ _ => exact absurd hc (by decide)
  | pre hp _ _ _ => exact absurd hp (by decide)
  | leaf hl => exact .inl ⟨_, _, _, _, rfl, hl, rfl⟩
  | bad h1 h2 => exact .inr (.inl ⟨h1, h2, rfl⟩)
  | br_er h1 h2 => exact .inr (.inr ⟨_, _, _, rfl, h1, h2, rfl⟩)
  | br_no h1 h2 h3 =>
    refine .inr (.inr ⟨_, _, _, rfl, h1, h2, ?_⟩)
    rename_i q
    cases q with
    | nil => rfl
    | cons y q => exact if_neg h3
  | br_ok h1 h2 h3 => exact .inr (.inr ⟨_, _, _, rfl, h1, h2, if_pos h3⟩)

set_option maxHeartbeats 1000000 in
theorem primary_any (w0 : World) (L : List Tok) (A : Option Addr) (c b N : Nat) (f : Fx w0 L A c b) (s : List Tok) (H : 1 ≤ s.length → LineC w0 L A c b 43 0 N) (r : R) (w : World) (hs : s.length ≤ N + 1) (hr : Rd (.line 8) s r) (h : PS w0 L A c b s w) :
    Calls Tryz.prog 134 #[.pointer (some ⟨b, 0, none⟩)] w (LPost L A c b r w) := by
  have hL := f.len
  rcases hr.inv_prim with ⟨x, s', k, m, rfl, hl, rfl⟩ | ⟨hn, hl, rfl⟩ | ⟨x, s', r0, rfl, h4, h0, hbr⟩
  · have hne : ¬ x.s = [40] := fun e => by rw [leaf_br e] at hl; cases hl
    have hcc := cst_ne hne
    obtain ⟨hx, hi⟩ := suf_at h.suf
    have hxo := f.ok x (h.suf.subset List.mem_cons_self)
    have hlr := leaf_range hl
    have hle := h.suf.length_le
    have HN := Lib.hid (fun W hW => next_any w0 L A c b (x :: s') W f hW)
    have HLF := Lib.hid (fun W (hW : PS w0 L A c b (x :: s') W) => leaf_any x.s W hxo.2 (hW.tabs f) _ hl)
    have HP := Lib.hid h
    have HP2 := Lib.hid (fun n => (h.drewN n).kp (Kp.set b (w.drewN n) 1 (.int .i64 ((L.length - s'.length : Nat) : Int))) (suf_tail h.suf) ((h.drewN n).rd.set _))
    have hbo : (Tr.leaf k m x.a).ok = true := by simp [Tr.ok, hlr.1, hlr.2.1, fits_leaf hlr.2.2.1 hlr.2.2.2.1 hxo.1]
    have hcn : cnt k = 0 := by unfold cnt; rw [if_pos hlr.2.1]
    have HD := Lib.hid (fun n => rnode_ok w0 L A c b s' _ f (HP2.out n) _ x hx k m none 0 0 (Tr.leaf k m x.a).flat 1 (node_0 none 0 k m x.a _ (.inl rfl) (by simp [okK]; omega) (fits_leaf hlr.2.2.1 hlr.2.2.2.1 hxo.1) hcn) (Tr.check_flat _ hbo) rfl)
    have hr1 := h.rd.c1
    have hfz := h.rd.fz
    have hlt := h.rd.lt
    have hi2 : ((L.length - s'.length : Nat) : Int) = ((L.length - (x :: s').length : Nat) : Int) + 1 := by omega
    have hbz : ((L.length - (x :: s').length : Nat) : Int) ≤ 200 := by omega
    have HI := Lib.hid hi2
    rw [hi2] at HD HP2
    rw [show txt (x :: s') = x.s from rfl] at HN
    generalize L.length - (x :: s').length = i at hr1 hbz HD HP2 HI
    clear h f H hr hs hl hne hx hi hxo hlr hle hbo hcn hi2
    go_enter Tryz.func134, Tryz.ntmps134
    go_wp2_with (first
      | (go_at_call 109; refine (HN.out _ (by first | exact HP.out | exact HP.out.drewN _)).mono ?_; rintro e w2 ⟨rfl, n, rfl⟩)
      | (go_at_call 136; refine (HLF.out _ (by first | exact HP.out | exact HP.out.drewN _ | exact (HP.out.drewN _).drewN _)).mono ?_; rintro e w2 ⟨rfl, rfl⟩)
      | (go_at_call 110; refine (HD.out _).mono ?_; rintro e w2 ⟨A', c', rfl, hl, hb⟩; have HL := Lib.hid hl; have HB := Lib.hid hb; clear hl hb))
    go_ret2
    refine ⟨((Kp.drewN _ _ _).trans (Kp.set _ _ _ _)).trans (Kp.of_below HB.out), (HP2.out _).rd.below HB.out, A', c', rfl, HL.out⟩
  · have hcc := cst_ne hn
    have hxo : (txt s).length ≤ maxLen := by
      cases s with
      | nil => simp [txt]
      | cons x s => exact (f.ok x (h.suf.subset List.mem_cons_self)).2
    have HN := Lib.hid (fun W hW => next_any w0 L A c b s W f hW)
    have HLF := Lib.hid (fun W (hW : PS w0 L A c b s W) => leaf_any (txt s) W hxo (hW.tabs f) _ hl)
    have HP := Lib.hid h
    clear h f H hr hs hl hn hxo
    go_enter Tryz.func134, Tryz.ntmps134
    go_wp2_with (first
      | (go_at_call 109; refine (HN.out _ (by first | exact HP.out | exact HP.out.drewN _)).mono ?_; rintro e w2 ⟨rfl, n, rfl⟩)
      | (go_at_call 136; refine (HLF.out _ (by first | exact HP.out | exact HP.out.drewN _ | exact (HP.out.drewN _).drewN _)).mono ?_; rintro e w2 ⟨rfl, rfl⟩))
    go_ret2
    exact ⟨Kp.drewN _ _ _, HP.out.rd.drewN _, rfl⟩
  · have hcc := cst_eq h4
    have HN := Lib.hid (next_any w0 L A c b (x :: s') w f h)
    rw [show txt (x :: s') = x.s from rfl] at HN
    have HB := Lib.hid (fun n => bracketed_any w0 L A c b N f (H (by simp)) x s' _ (h.drewN n) (by simp at hs; omega) r0 r h0 hbr)
    clear h f H hr hs h4 h0 hbr
    cases r with
    | er v q =>
      go_enter Tryz.func134, Tryz.ntmps134
      go_wp2_with (first
        | (go_at_call 109; refine HN.out.mono ?_; rintro e w2 ⟨rfl, n, rfl⟩)
        | (go_at_call 135; refine (HB.out _).mono ?_; rintro e w2 ⟨hk, hr, rfl⟩; have HK := Lib.hid hk; have HR := Lib.hid hr; clear hk hr))
      go_ret2
      exact ⟨(Kp.drewN _ _ _).trans HK.out, HR.out, rfl⟩
    | ok t q =>
      go_enter Tryz.func134, Tryz.ntmps134
      go_wp2_with (first
        | (go_at_call 109; refine HN.out.mono ?_; rintro e w2 ⟨rfl, n, rfl⟩)
        | (go_at_call 135; refine (HB.out _).mono ?_; rintro e w2 ⟨hk, hr, A', c', rfl, hl⟩; have HK := Lib.hid hk; have HR := Lib.hid hr; have HL := Lib.hid hl; clear hk hr hl))
      go_ret2
      exact ⟨(Kp.drewN _ _ _).trans HK.out, HR.out, A', c', rfl, HL.out⟩
end Go.Proofs.YtlmamidodahgmaaGreatDoor

/- ELine: Every line of the grammar. -/
namespace Go.Proofs.YtlmamidodahgmaaGreatDoor
open Go.ChangeShapes Go.WideShapes Go.ChangeAt Go.RowKit N4
set_option linter.unusedVariables false
set_option maxRecDepth 100000

theorem ln_expr (w0 : World) (L : List Tok) (A : Option Addr) (c b N : Nat) (f : Fx w0 L A c b) (H : LineC w0 L A c b 72 1 N) : LineC w0 L A c b 43 0 N := by
  intro s r w hs hr h
  have hlt := h.rd.lt
  have HC := Lib.hid (show Calls Tryz.prog 71 #[.pointer (some ⟨b, 0, none⟩), .int .u8 19, .int .u8 19, .func (.func 72) #[.pointer (some ⟨b, 0, none⟩)] #[]] w (LPost L A c b r w) from
    chain_any w0 L A c b 72 0 N f (fun args W => Tryz.call72 args W) (by decide) (by decide) H 12 12 rfl rfl (by omega) (by omega) s r w hs hr h)
  clear H h hr hs f
  cases r with
  | er v q =>
    go_enter Tryz.func43, Tryz.ntmps43
    go_wp2_with (go_at_call 71; refine HC.out.mono ?_; rintro e w2 ⟨hk, hr, rfl⟩; have HK := Lib.hid hk; have HR := Lib.hid hr; clear hk hr)
    go_ret2
    exact ⟨HK.out, HR.out, rfl⟩
  | ok t q =>
    go_enter Tryz.func43, Tryz.ntmps43
    go_wp2_with (go_at_call 71; refine HC.out.mono ?_; rintro e w2 ⟨hk, hr, A', c', rfl, hl⟩; have HK := Lib.hid hk; have HR := Lib.hid hr; have HL := Lib.hid hl; clear hk hr hl)
    go_ret2
    exact ⟨HK.out, HR.out, A', c', rfl, HL.out⟩
theorem ln_and (w0 : World) (L : List Tok) (A : Option Addr) (c b N : Nat) (f : Fx w0 L A c b) (H : LineC w0 L A c b 97 2 N) : LineC w0 L A c b 72 1 N := by
  intro s r w hs hr h
  have hlt := h.rd.lt
  have HC := Lib.hid (show Calls Tryz.prog 71 #[.pointer (some ⟨b, 0, none⟩), .int .u8 18, .int .u8 18, .func (.func 97) #[.pointer (some ⟨b, 0, none⟩)] #[]] w (LPost L A c b r w) from
    chain_any w0 L A c b 97 1 N f (fun args W => Tryz.call97 args W) (by decide) (by decide) H 11 11 rfl rfl (by omega) (by omega) s r w hs hr h)
  clear H h hr hs f
  cases r with
  | er v q =>
    go_enter Tryz.func72, Tryz.ntmps72
    go_wp2_with (go_at_call 71; refine HC.out.mono ?_; rintro e w2 ⟨hk, hr, rfl⟩; have HK := Lib.hid hk; have HR := Lib.hid hr; clear hk hr)
    go_ret2
    exact ⟨HK.out, HR.out, rfl⟩
  | ok t q =>
    go_enter Tryz.func72, Tryz.ntmps72
    go_wp2_with (go_at_call 71; refine HC.out.mono ?_; rintro e w2 ⟨hk, hr, A', c', rfl, hl⟩; have HK := Lib.hid hk; have HR := Lib.hid hr; have HL := Lib.hid hl; clear hk hr hl)
    go_ret2
    exact ⟨HK.out, HR.out, A', c', rfl, HL.out⟩
theorem ln_shift (w0 : World) (L : List Tok) (A : Option Addr) (c b N : Nat) (f : Fx w0 L A c b) (H : LineC w0 L A c b 123 5 N) : LineC w0 L A c b 117 4 N := by
  intro s r w hs hr h
  have hlt := h.rd.lt
  have HC := Lib.hid (show Calls Tryz.prog 71 #[.pointer (some ⟨b, 0, none⟩), .int .u8 10, .int .u8 11, .func (.func 123) #[.pointer (some ⟨b, 0, none⟩)] #[]] w (LPost L A c b r w) from
    chain_any w0 L A c b 123 4 N f (fun args W => Tryz.call123 args W) (by decide) (by decide) H 3 4 rfl rfl (by omega) (by omega) s r w hs hr h)
  clear H h hr hs f
  cases r with
  | er v q =>
    go_enter Tryz.func117, Tryz.ntmps117
    go_wp2_with (go_at_call 71; refine HC.out.mono ?_; rintro e w2 ⟨hk, hr, rfl⟩; have HK := Lib.hid hk; have HR := Lib.hid hr; clear hk hr)
    go_ret2
    exact ⟨HK.out, HR.out, rfl⟩
  | ok t q =>
    go_enter Tryz.func117, Tryz.ntmps117
    go_wp2_with (go_at_call 71; refine HC.out.mono ?_; rintro e w2 ⟨hk, hr, A', c', rfl, hl⟩; have HK := Lib.hid hk; have HR := Lib.hid hr; have HL := Lib.hid hl; clear hk hr hl)
    go_ret2
    exact ⟨HK.out, HR.out, A', c', rfl, HL.out⟩
theorem ln_sum (w0 : World) (L : List Tok) (A : Option Addr) (c b N : Nat) (f : Fx w0 L A c b) (H : LineC w0 L A c b 130 6 N) : LineC w0 L A c b 123 5 N := by
  intro s r w hs hr h
  have hlt := h.rd.lt
  have HC := Lib.hid (show Calls Tryz.prog 71 #[.pointer (some ⟨b, 0, none⟩), .int .u8 8, .int .u8 9, .func (.func 130) #[.pointer (some ⟨b, 0, none⟩)] #[]] w (LPost L A c b r w) from
    chain_any w0 L A c b 130 5 N f (fun args W => Tryz.call130 args W) (by decide) (by decide) H 1 2 rfl rfl (by omega) (by omega) s r w hs hr h)
  clear H h hr hs f
  cases r with
  | er v q =>
    go_enter Tryz.func123, Tryz.ntmps123
    go_wp2_with (go_at_call 71; refine HC.out.mono ?_; rintro e w2 ⟨hk, hr, rfl⟩; have HK := Lib.hid hk; have HR := Lib.hid hr; clear hk hr)
    go_ret2
    exact ⟨HK.out, HR.out, rfl⟩
  | ok t q =>
    go_enter Tryz.func123, Tryz.ntmps123
    go_wp2_with (go_at_call 71; refine HC.out.mono ?_; rintro e w2 ⟨hk, hr, A', c', rfl, hl⟩; have HK := Lib.hid hk; have HR := Lib.hid hr; have HL := Lib.hid hl; clear hk hr hl)
    go_ret2
    exact ⟨HK.out, HR.out, A', c', rfl, HL.out⟩
theorem ln_product (w0 : World) (L : List Tok) (A : Option Addr) (c b N : Nat) (f : Fx w0 L A c b) (H : LineC w0 L A c b 133 7 N) : LineC w0 L A c b 130 6 N := by
  intro s r w hs hr h
  have hlt := h.rd.lt
  have HC := Lib.hid (show Calls Tryz.prog 71 #[.pointer (some ⟨b, 0, none⟩), .int .u8 7, .int .u8 7, .func (.func 133) #[.pointer (some ⟨b, 0, none⟩)] #[]] w (LPost L A c b r w) from
    chain_any w0 L A c b 133 6 N f (fun args W => Tryz.call133 args W) (by decide) (by decide) H 0 0 rfl rfl (by omega) (by omega) s r w hs hr h)
  clear H h hr hs f
  cases r with
  | er v q =>
    go_enter Tryz.func130, Tryz.ntmps130
    go_wp2_with (go_at_call 71; refine HC.out.mono ?_; rintro e w2 ⟨hk, hr, rfl⟩; have HK := Lib.hid hk; have HR := Lib.hid hr; clear hk hr)
    go_ret2
    exact ⟨HK.out, HR.out, rfl⟩
  | ok t q =>
    go_enter Tryz.func130, Tryz.ntmps130
    go_wp2_with (go_at_call 71; refine HC.out.mono ?_; rintro e w2 ⟨hk, hr, A', c', rfl, hl⟩; have HK := Lib.hid hk; have HR := Lib.hid hr; have HL := Lib.hid hl; clear hk hr hl)
    go_ret2
    exact ⟨HK.out, HR.out, A', c', rfl, HL.out⟩
theorem ln_not (w0 : World) (L : List Tok) (A : Option Addr) (c b N : Nat) (f : Fx w0 L A c b) (H : LineC w0 L A c b 112 3 N) : LineC w0 L A c b 97 2 N := by
  intro s r w hs hr h
  have hlt := h.rd.lt
  have HC := Lib.hid (show Calls Tryz.prog 111 #[.pointer (some ⟨b, 0, none⟩), .string ⟨#[110, 111, 116]⟩, .int .u8 6, .func (.func 112) #[.pointer (some ⟨b, 0, none⟩)] #[]] w (LPost L A c b r w) from
    prefixed_any w0 L A c b 112 2 N f (fun args W => Tryz.call112 args W) (by decide) H s r w hs hr h)
  clear H h hr hs f
  cases r with
  | er v q =>
    go_enter Tryz.func97, Tryz.ntmps97
    go_wp2_with (go_at_call 111; refine HC.out.mono ?_; rintro e w2 ⟨hk, hr, rfl⟩; have HK := Lib.hid hk; have HR := Lib.hid hr; clear hk hr)
    go_ret2
    exact ⟨HK.out, HR.out, rfl⟩
  | ok t q =>
    go_enter Tryz.func97, Tryz.ntmps97
    go_wp2_with (go_at_call 111; refine HC.out.mono ?_; rintro e w2 ⟨hk, hr, A', c', rfl, hl⟩; have HK := Lib.hid hk; have HR := Lib.hid hr; have HL := Lib.hid hl; clear hk hr hl)
    go_ret2
    exact ⟨HK.out, HR.out, A', c', rfl, HL.out⟩
theorem ln_unary (w0 : World) (L : List Tok) (A : Option Addr) (c b N : Nat) (f : Fx w0 L A c b) (H : LineC w0 L A c b 134 8 N) : LineC w0 L A c b 133 7 N := by
  intro s r w hs hr h
  have hlt := h.rd.lt
  have HC := Lib.hid (show Calls Tryz.prog 111 #[.pointer (some ⟨b, 0, none⟩), .string ⟨#[45]⟩, .int .u8 5, .func (.func 134) #[.pointer (some ⟨b, 0, none⟩)] #[]] w (LPost L A c b r w) from
    prefixed_any w0 L A c b 134 7 N f (fun args W => Tryz.call134 args W) (by decide) H s r w hs hr h)
  clear H h hr hs f
  cases r with
  | er v q =>
    go_enter Tryz.func133, Tryz.ntmps133
    go_wp2_with (go_at_call 111; refine HC.out.mono ?_; rintro e w2 ⟨hk, hr, rfl⟩; have HK := Lib.hid hk; have HR := Lib.hid hr; clear hk hr)
    go_ret2
    exact ⟨HK.out, HR.out, rfl⟩
  | ok t q =>
    go_enter Tryz.func133, Tryz.ntmps133
    go_wp2_with (go_at_call 111; refine HC.out.mono ?_; rintro e w2 ⟨hk, hr, A', c', rfl, hl⟩; have HK := Lib.hid hk; have HR := Lib.hid hr; have HL := Lib.hid hl; clear hk hr hl)
    go_ret2
    exact ⟨HK.out, HR.out, A', c', rfl, HL.out⟩

theorem all_lines (w0 : World) (L : List Tok) (A : Option Addr) (c b N : Nat) (f : Fx w0 L A c b) (H8 : LineC w0 L A c b 134 8 N) : LineC w0 L A c b 43 0 N :=
  ln_expr w0 L A c b N f (ln_and w0 L A c b N f (ln_not w0 L A c b N f (fun s r w hs hr h => compare_any w0 L A c b N f (ln_shift w0 L A c b N f (ln_sum w0 L A c b N f (ln_product w0 L A c b N f (ln_unary w0 L A c b N f H8)))) s r w hs hr h)))
theorem expr_any (w0 : World) (L : List Tok) (A : Option Addr) (c b : Nat) (f : Fx w0 L A c b) : ∀ N, LineC w0 L A c b 43 0 N := by
  intro N
  induction N with
  | zero => exact all_lines w0 L A c b 0 f (fun s r w hs hr h => primary_any w0 L A c b 0 f s (fun h1 => by omega) r w (by omega) hr h)
  | succ N ih => exact all_lines w0 L A c b _ f (fun s r w hs hr h => primary_any w0 L A c b N f s (fun _ => ih) r w hs hr h)
end Go.Proofs.YtlmamidodahgmaaGreatDoor

/- EParse: The contract of Parse. -/
namespace Go.Proofs.YtlmamidodahgmaaGreatDoor
open Go.ChangeShapes Go.WideShapes Go.ChangeAt Go.RowKit N4
set_option linter.unusedVariables false
set_option maxRecDepth 100000

def atOk (L : List Tok) : Bool := L.all fun t => decide (0 ≤ t.a) && decide (t.a ≤ 400)
def chkF (L : List Tok) : Int := if 200 < L.length then 4 else if okL L = true then (if atOk L = true then 0 else 8) else 8
theorem at_mem {L : List Tok} (h : atOk L = true) : ∀ t ∈ L, TkOk t := by
  intro t ht
  have := (List.all_eq_true.1 h) t ht
  simpa [TkOk] using this
theorem at_bad {L : List Tok} {k : Nat} {t : Tok} (hk : L[k]? = some t) (h : t.a < 0 ∨ 400 < t.a) : atOk L = false := by
  cases ha : atOk L with
  | false => rfl
  | true => have := at_mem ha t (List.mem_of_getElem? hk); unfold TkOk at this; omega
theorem at_all {L : List Tok} (h : ∀ t ∈ L, TkOk t) : atOk L = true := by
  unfold atOk
  rw [List.all_eq_true]
  intro t ht
  have := h t ht
  simpa [TkOk] using this

set_option maxHeartbeats 2000000 in
theorem check_tok (A : Option Addr) (c : Nat) (L : List Tok) (w : World) (hL : L.length ≤ maxLen) (ht : Toks w A L) (hs : ∀ t ∈ L, t.s.length ≤ maxLen) (tb : Tabs w) (v : Int) (hv : chkF L = v) :
    Calls Tryz.prog 42 #[.slice A L.length c] w fun e w' => e = .returned (.int .i64 v) ∧ Below w.heap.size w w' := by
  obtain ⟨T, er, hj⟩ : ∃ T er, joinF L = (T, er) := ⟨_, _, rfl⟩
  have HJ := Lib.hid (join_any A c L w hL ht hs tb T er hj)
  by_cases he : er = 0 ∨ er = 18
  · have hlen : L.length ≤ 200 ∧ okL L = true := by
      unfold joinF at hj
      by_cases h1 : 200 < L.length
      · rw [if_pos h1] at hj; have := (Prod.mk.inj hj).2; omega
      · rw [if_neg h1] at hj
        by_cases h2 : okL L = true
        · exact ⟨by omega, h2⟩
        · rw [if_neg h2] at hj; have := (Prod.mk.inj hj).2; omega
    have hv2 : (if atOk L = true then (0 : Int) else 8) = v := by rw [← hv, chkF, if_neg (show ¬ 200 < L.length by omega), if_pos hlen.2]
    have HV := Lib.hid hv2
    have HT := Lib.hid (show ∀ W, Below w.heap.size w W → Toks W A L from fun W hb => ht.below hb)
    obtain ⟨n, hn⟩ : ∃ n, L.length = n := ⟨_, rfl⟩
    rw [hn] at hlen HJ
    have HN := Lib.hid hn
    have hn2 := hlen.1
    rw [hn]
    have hcond : (er != 0 && er != 18) = false := by rcases he with rfl | rfl <;> rfl
    clear hj hv hv2 hL ht hs tb hn hlen
    have body : ∀ (e0 : er = 0 ∨ er = 18), Calls Tryz.prog 42 #[.slice A n c] w fun e w' => e = .returned (.int .i64 v) ∧ Below w.heap.size w w' := by
      intro e0
      rcases e0 with rfl | rfl
      all_goals
        go_enter Tryz.func42, Tryz.ntmps42
        go_wp2_with (go_at_call 13; refine HJ.out.mono ?_; rintro e w2 ⟨rfl, hb, _⟩; have HB := Lib.hid hb; clear hb)
        go_loopw [21] (fun i wx => ∃ k : Nat, k ≤ n ∧ i = .int .i64 k ∧ Hid (∀ t ∈ L.take k, TkOk t) ∧ Hid (Below w.heap.size w wx)) (fun i _ => n - (intOf i).toNat)
        case atStart => exact ⟨0, Nat.zero_le _, rfl, Lib.hid (by simp), HB⟩
        case round =>
          clear HB
          obtain ⟨k, hk, rfl, hd, HB⟩ := hrel
          by_cases hlt : k < n
          · obtain ⟨ad, t, rfl, ⟨c0, c1, c2⟩, ht⟩ := (HT.out wr HB.out).at_ k (by rw [HN.out]; exact hlt)
            have HK := Lib.hid ht
            clear ht
            obtain ⟨tk, ts, ta⟩ := t
            simp only at c0 c1 c2
            by_cases h2 : ta < 0
            · have HG := Lib.hid (show v = 8 by rw [← HV.out, at_bad HK.out (.inl h2)]; rfl)
              go_wp2
              go_ret
              refine ⟨ret_int' HG.out.symm, HB.out.trans ?_⟩
              repeat (first | exact Below.refl _ _ | refine Below.setCell ?_ (by have := HB.out.size; simp; omega) _ | refine Below.alloc ?_ (by have := HB.out.size; simp; try omega) _ )
            · by_cases h3 : 400 < ta
              · have HG := Lib.hid (show v = 8 by rw [← HV.out, at_bad HK.out (.inr h3)]; rfl)
                go_wp2
                go_ret
                refine ⟨ret_int' HG.out.symm, HB.out.trans ?_⟩
                repeat (first | exact Below.refl _ _ | refine Below.setCell ?_ (by have := HB.out.size; simp; omega) _ | refine Below.alloc ?_ (by have := HB.out.size; simp; try omega) _ )
              · go_wp2
                go_roundw
                case rel =>
                  refine ⟨k + 1, by omega, by go_num, Lib.hid ?_, Lib.hid (HB.out.trans ?_)⟩
                  · rw [take_snoc_tok L k _ HK.out]
                    intro u hu
                    rcases List.mem_append.1 hu with hu | hu
                    · exact hd.out u hu
                    · simp only [List.mem_singleton] at hu; subst hu; exact ⟨by show 0 ≤ ta; omega, by show ta ≤ 400; omega⟩
                  · repeat (first | exact Below.refl _ _ | refine Below.setCell ?_ (by have := HB.out.size; simp; omega) _ | refine Below.alloc ?_ (by have := HB.out.size; simp; try omega) _ )
                case measure => simp [intOf]; omega
          · have HG := Lib.hid (show v = 0 by rw [← HV.out, at_all (by have := hd.out; rwa [List.take_of_length_le (by rw [HN.out]; omega)] at this)]; rfl)
            go_wp2
            go_ret
            exact ⟨ret_int' HG.out.symm, HB.out⟩
    exact body he
  · have hve : v = er := by
      rw [← hv, chkF]
      unfold joinF at hj
      by_cases h1 : 200 < L.length
      · rw [if_pos h1] at hj ⊢; exact (Prod.mk.inj hj).2
      · rw [if_neg h1] at hj ⊢
        by_cases h2 : okL L = true
        · rw [if_pos h2] at hj
          by_cases h3 : 400 < (jn (L.map (·.s))).length
          · rw [if_pos h3] at hj; have := (Prod.mk.inj hj).2; omega
          · rw [if_neg h3] at hj; have := (Prod.mk.inj hj).2; omega
        · rw [if_neg h2] at hj ⊢; exact (Prod.mk.inj hj).2
    subst hve
    have h1 := errno_ne (show v ≠ 0 by omega)
    have h2 : (v != 18) = true := by rw [bne_iff_ne]; omega
    clear hj hv hL ht hs tb he
    generalize L.length = n at HJ
    go_enter Tryz.func42, Tryz.ntmps42
    go_wp2_with (go_at_call 13; refine HJ.out.mono ?_; rintro e w2 ⟨rfl, hb, _⟩; have HB := Lib.hid hb; clear hb)
    go_ret
    exact ⟨rfl, HB.out⟩

theorem chk_zero {L : List Tok} (h : chkF L = 0) : L.length ≤ 200 ∧ okL L = true ∧ ∀ t ∈ L, TkOk t := by
  unfold chkF at h
  by_cases h1 : 200 < L.length
  · rw [if_pos h1] at h; omega
  · rw [if_neg h1] at h
    by_cases h2 : okL L = true
    · rw [if_pos h2] at h
      by_cases h3 : atOk L = true
      · exact ⟨by omega, h2, at_mem h3⟩
      · rw [if_neg h3] at h; omega
    · rw [if_neg h2] at h; omega

theorem parse_bad (A : Option Addr) (c n : Nat) (L : List Tok) (at_ : Int) (w : World) (hn : L.length = n) (hL : n ≤ maxLen) (ht : Toks w A L) (hs : ∀ t ∈ L, t.s.length ≤ maxLen) (tb : Tabs w) (v : Int) (hv : chkF L = v) (h0 : v ≠ 0) :
    Calls Tryz.prog 16 #[.slice A n c, .int .i64 at_] w fun e w' => e = .returned (.tuple #[.slice none 0 0, .int .i64 0, .int .i64 v]) ∧ Below w.heap.size w w' := by
  subst hn
  have HC := Lib.hid (check_tok A c L w hL ht hs tb v hv)
  have hvb := errno_ne h0
  clear hv ht hs tb h0
  generalize L.length = n at HC hL
  go_enter Tryz.func16, Tryz.ntmps16
  go_wp2_with (go_at_call 42; refine HC.out.mono ?_; rintro e w2 ⟨rfl, hb⟩; have HB := Lib.hid hb; clear hb)
  go_ret3
  exact ⟨rfl, HB.out⟩
theorem parse_arg (A : Option Addr) (c n : Nat) (L : List Tok) (at_ : Int) (w : World) (hn : L.length = n) (hL : n ≤ maxLen) (ht : Toks w A L) (hs : ∀ t ∈ L, t.s.length ≤ maxLen) (tb : Tabs w) (hv : chkF L = 0) (ha : at_ < 0 ∨ n < at_) :
    Calls Tryz.prog 16 #[.slice A n c, .int .i64 at_] w fun e w' => e = .returned (.tuple #[.slice none 0 0, .int .i64 0, .int .i64 2]) ∧ Below w.heap.size w w' := by
  subst hn
  have HC := Lib.hid (check_tok A c L w hL ht hs tb 0 hv)
  clear hv ht hs tb
  generalize L.length = n at HC hL ha
  by_cases h1 : at_ < 0
  · clear ha
    go_enter Tryz.func16, Tryz.ntmps16
    go_wp2_with (go_at_call 42; refine HC.out.mono ?_; rintro e w2 ⟨rfl, hb⟩; have HB := Lib.hid hb; clear hb)
    go_ret3
    exact ⟨rfl, HB.out⟩
  · have h2 : (n : Int) < at_ := by omega
    clear ha
    go_enter Tryz.func16, Tryz.ntmps16
    go_wp2_with (go_at_call 42; refine HC.out.mono ?_; rintro e w2 ⟨rfl, hb⟩; have HB := Lib.hid hb; clear hb)
    go_ret3
    exact ⟨rfl, HB.out⟩

def PPost (n : Nat) (r : R) (w : World) (e : Ending) (w' : World) : Prop :=
  Below w.heap.size w w' ∧
  match r with
  | .ok t q => ∃ A' c', e = .returned (.tuple #[.slice A' t.sz (t.sz + c'), .int .i64 ((n - q.length : Nat) : Int), .int .i64 0]) ∧ Lies w' A' (ndCells t.flat)
  | .er v q => e = .returned (.tuple #[.slice none 0 0, .int .i64 ((n - q.length : Nat) : Int), .int .i64 v])

set_option maxHeartbeats 1000000 in
theorem parse_any (A : Option Addr) (c n : Nat) (L : List Tok) (i : Nat) (w : World) (hn : L.length = n) (ht : Toks w A L) (hs : ∀ t ∈ L, t.s.length ≤ maxLen) (tb : Tabs w) (tb5 : Tab5 w) (hv : chkF L = 0) (hi : i ≤ n) (r : R) (hr : Rd (.line 0) (L.drop i) r) :
    Calls Tryz.prog 16 #[.slice A n c, .int .i64 i] w (PPost n r w) := by
  subst hn
  have hz := chk_zero hv
  have HC := Lib.hid (check_tok A c L w (by unfold maxLen; omega) ht hs tb 0 hv)
  have HX := Lib.hid (fun (W : World) (hb : Below w.heap.size w W) => (⟨rfl, ht.below hb, tb5.stays hb, hz.1, fun x hx => ⟨hz.2.2 x hx, hs x hx⟩⟩ : Fx W L A c W.heap.size))
  have HPS := Lib.hid (fun (W : World) => (⟨List.drop_suffix i L, (Below.refl _ _).alloc (Nat.le_refl _) _, by rw [List.length_drop, show L.length - (L.length - i) = i by omega]; exact Rdr.of_alloc rfl⟩ : PS W L A c W.heap.size (L.drop i) (W.alloc (.cells #[.slice A L.length c, .int .i64 i] 87))))
  have HE := Lib.hid (fun (W : World) (hb : Below w.heap.size w W) => expr_any W L A c W.heap.size (HX.out W hb) L.length _ r _ (by rw [List.length_drop]; omega) hr (HPS.out W))
  have h1 : ¬ ((i : Int) < 0) := by omega
  have h2 : ¬ ((L.length : Int) < i) := by omega
  have hL := hz.1
  clear hz HX HPS hv ht hs tb tb5 hr hi
  cases r with
  | er v q =>
    unfold LPost at HE
    simp only [R.rest] at HE
    obtain ⟨j, hj⟩ : ∃ j, L.length - q.length = j := ⟨_, rfl⟩
    unfold PPost
    simp only [hj]
    rw [hj] at HE
    have HK := Lib.hid (fun (W W' : World) (hk : Kp W.heap.size (W.alloc (.cells #[.slice A L.length c, .int .i64 i] 87)) W') => (hk.below ((Below.refl W.heap.size W).alloc (Nat.le_refl _) _) (by simp) : Below W.heap.size W W'))
    generalize L.length = n at HE HC h2 hL HK
    clear hj
    go_enter Tryz.func16, Tryz.ntmps16
    go_wp2_with (first
      | (go_at_call 42; refine HC.out.mono ?_; rintro e w2 ⟨rfl, hb⟩; have HB := Lib.hid hb; clear hb)
      | (go_at_call 43; refine (HE.out _ HB.out).mono ?_; rintro e w3 ⟨hk, hr, rfl⟩; have hc1 := hr.c1; have hlt := hr.lt; have HK2 := Lib.hid (HK.out _ _ hk); clear hk hr))
    go_quiet (fail)
    go_wp2
    go_ret3
    exact ⟨HB.out.trans ((HK2.out.mono HB.out.size).trans (Below.drewN' (Below.refl _ _) _)), rfl⟩
  | ok t q =>
    unfold LPost at HE
    simp only [R.rest] at HE
    obtain ⟨j, hj⟩ : ∃ j, L.length - q.length = j := ⟨_, rfl⟩
    unfold PPost
    simp only [hj]
    rw [hj] at HE
    have HK := Lib.hid (fun (W W' : World) (hk : Kp W.heap.size (W.alloc (.cells #[.slice A L.length c, .int .i64 i] 87)) W') => (hk.below ((Below.refl W.heap.size W).alloc (Nat.le_refl _) _) (by simp) : Below W.heap.size W W'))
    generalize L.length = n at HE HC h2 hL HK
    clear hj
    go_enter Tryz.func16, Tryz.ntmps16
    go_wp2_with (first
      | (go_at_call 42; refine HC.out.mono ?_; rintro e w2 ⟨rfl, hb⟩; have HB := Lib.hid hb; clear hb)
      | (go_at_call 43; refine (HE.out _ HB.out).mono ?_; rintro e w3 ⟨hk, hr, A', c', rfl, hl⟩; have hc1 := hr.c1; have hlt := hr.lt; have HK2 := Lib.hid (HK.out _ _ hk); have HL := Lib.hid hl; clear hk hr hl))
    go_quiet (fail)
    go_wp2
    go_ret3
    exact ⟨HB.out.trans ((HK2.out.mono HB.out.size).trans (Below.drewN' (Below.refl _ _) _)), A', c', rfl, HL.out.below (bd_drewN _ _)⟩
end Go.Proofs.YtlmamidodahgmaaGreatDoor
