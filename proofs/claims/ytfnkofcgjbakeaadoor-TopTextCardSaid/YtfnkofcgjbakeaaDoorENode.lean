
/- A node made by the reader, and the part behind an operator. -/
import Derived.Test.YtfnkofcgjbakeaaDoorEOp
import Derived.Test.YtfnkofcgjbakeaaDoorELeaf
namespace Go.Proofs.YtfnkofcgjbakeaaDoor
open Go.ChangeShapes Go.WideShapes Go.ChangeAt Go.RowKit N4
set_option linter.unusedVariables false
set_option maxRecDepth 100000

theorem tok_at {w0 w : World} {L s : List Tok} {A : Option Addr} {c b : Nat} (f : Fx w0 L A c b) (h : PS w0 L A c b s w) {i : Nat} {x : Tok} (hx : L[i]? = some x) :
    ∃ ad, A = some ad ∧ TokAt w ad i x := by
  obtain ⟨ad, t, k1, k2, k3⟩ := (h.toks f).at_ _ (List.getElem?_eq_some_iff.1 hx).1
  have k4 : t = x := Option.some.inj (k3.symm.trans hx)
  exact ⟨ad, k1, k4 ▸ k2⟩

theorem node_okc {args : Array Value} {w : World} {M : List Nd} {n : Nat} (h : Calls Tryd.prog 27 args w (NPost M w)) (h0 : checkF M = 0) (hn : M.length = n) :
    Calls Tryd.prog 27 args w fun e w' => ∃ A c, e = .returned (.tuple #[.slice A n (n + c), .int .i64 0]) ∧ Lies w' A (ndCells M) ∧ Below w.heap.size w w' := by
  refine h.mono ?_
  rintro e w' ⟨hb, ⟨h1, _⟩ | ⟨_, A, c, rfl, hl, hc⟩⟩
  · exact absurd h0 h1
  · rw [hn] at hc ⊢; exact ⟨A, c - n, by rw [show n + (c - n) = c by omega], hl, hb⟩
theorem rnode_ok (w0 : World) (L : List Tok) (A : Option Addr) (c b : Nat) (s : List Tok) (w : World) (f : Fx w0 L A c b) (h : PS w0 L A c b s w) (i : Nat) (x : Tok) (hx : L[i]? = some x)
    (k nn : Int) (PA : Option Addr) (m pc : Nat) (M : List Nd) (n : Nat) (HN : Calls Tryd.prog 27 #[.int .u8 k, .int .i64 nn, .int .i64 x.a, .slice PA m pc] w (NPost M w)) (h0 : checkF M = 0) (hn : M.length = n) :
    Calls Tryd.prog 89 #[.pointer (some ⟨b, 0, none⟩), .int .u8 k, .int .i64 nn, .int .i64 i, .slice PA m pc] w
      fun e w' => ∃ A' c', e = .returned (.tuple #[.slice A' n (n + c'), .int .i64 0]) ∧ Lies w' A' (ndCells M) ∧ Below w.heap.size w w' := by
  have HN := Lib.hid (node_okc HN h0 hn)
  have hL := f.len
  have hin : i < L.length := (List.getElem?_eq_some_iff.1 hx).1
  obtain ⟨ad, rfl, hc1, hc2, hc3⟩ := tok_at f h hx
  have hr0 := h.rd.c0
  have hlt := h.rd.lt
  generalize L.length = z at hr0 hL hin
  clear h f hx h0 hn hc1 hc2
  go_enter Tryd.func89, Tryd.ntmps89
  go_wp2_with (go_at_call 27; refine HN.out.mono ?_; rintro e w' ⟨A', c', rfl, hl, hb⟩)
  go_ret2
  exact ⟨A', c', rfl, hl, hb⟩
theorem rnode_er (w0 : World) (L : List Tok) (A : Option Addr) (c b : Nat) (s : List Tok) (w : World) (f : Fx w0 L A c b) (h : PS w0 L A c b s w) (i : Nat) (x : Tok) (hx : L[i]? = some x)
    (k nn : Int) (PA : Option Addr) (m pc : Nat) (M : List Nd) (v : Int) (HN : Calls Tryd.prog 27 #[.int .u8 k, .int .i64 nn, .int .i64 x.a, .slice PA m pc] w (NPost M w)) (hv : checkF M = v) (h0 : v ≠ 0) :
    Calls Tryd.prog 89 #[.pointer (some ⟨b, 0, none⟩), .int .u8 k, .int .i64 nn, .int .i64 i, .slice PA m pc] w
      fun e w' => e = .returned (.tuple #[.slice none 0 0, .int .i64 v]) ∧ Kp b w w' ∧ Rdr w' b (.slice A L.length c) i := by
  have HN := Lib.hid (node_err HN hv h0)
  have hL := f.len
  have hin : i < L.length := (List.getElem?_eq_some_iff.1 hx).1
  obtain ⟨ad, rfl, hc1, hc2, hc3⟩ := tok_at f h hx
  have HR := Lib.hid h.rd
  have hr0 := h.rd.c0
  have hr1 := h.rd.c1
  have hfz := h.rd.fz
  have hlt := h.rd.lt
  generalize L.length = z at hr0 hL hin HR hr1
  have hvb := errno_ne h0
  have HCB := Lib.hid (fun (w' : World) (hb : Below w.heap.size w w') => (⟨by rw [hb.cell (p := ⟨b, 1, none⟩) hlt]; exact hr1, by rw [hb.frozen (p := ⟨b, 1, none⟩) hlt]; exact hfz, Nat.lt_of_lt_of_le hlt hb.size⟩ : w'.cell? ⟨b, 1, none⟩ = some (.int .i64 ((z - s.length : Nat) : Int)) ∧ w'.frozen? ⟨b, 1, none⟩ = false ∧ b < w'.heap.size))
  clear h f hx h0 hv hc1 hc2 hr1 hfz
  go_enter Tryd.func89, Tryd.ntmps89
  go_wp2_with (go_at_call 27; refine HN.out.mono ?_; rintro e w' ⟨rfl, hb⟩; obtain ⟨k1, k2, k3⟩ := HCB.out _ hb; have HB := Lib.hid hb; clear hb)
  go_ret2
  exact ⟨rfl, (Kp.of_below HB.out).trans (Kp.set _ _ _ _), (HR.out.below HB.out).set i⟩

/-- What an operator, and the part behind it, make of the part in front. -/
def joinR (k : Int) (x : Tok) (s : List Tok) (t : Tr) : R → R
  | .er e q => .er e q
  | .ok u q => if (Tr.bin k x.a t u).er = 0 then .ok (.bin k x.a t u) q else .er (Tr.bin k x.a t u).er (x :: s)
theorem suf_tail {x : Tok} {s L : List Tok} (h : x :: s <:+ L) : s <:+ L := (List.suffix_cons x s).trans h

/-- The contract of a line of the grammar, for tokens of some number. -/
def LineC (w0 : World) (L : List Tok) (A : Option Addr) (c b g n N : Nat) : Prop :=
  ∀ (s : List Tok) (r : R) (w : World), s.length ≤ N → Rd (.line n) s r → PS w0 L A c b s w → Calls Tryd.prog g #[.pointer (some ⟨b, 0, none⟩)] w (LPost L A c b r w)

def Ent (g : Nat) : Prop := ∀ (args : Array Value) (W : World), Sem.run Tryd.prog (callFunc g args) W = .ok (.enter g args) W
theorem ent_and : Ent 73 := fun args W => Tryd.call73 args W
set_option maxHeartbeats 1000000 in
theorem joined_er (w0 : World) (L : List Tok) (A : Option Addr) (c b g n N : Nat) (f : Fx w0 L A c b) (hgc : Ent g) (H : LineC w0 L A c b g n N) (x : Tok) (s : List Tok) (w : World) (h : PS w0 L A c b (x :: s) w) (hs : s.length ≤ N)
    (k : Int) (V : Value) (v : Int) (hv : v ≠ 0) (q : List Tok) (hr : Rd (.line n) s (.er v q)) :
    Calls Tryd.prog 84 #[.pointer (some ⟨b, 0, none⟩), .int .u8 k, V, .func (.func g) #[.pointer (some ⟨b, 0, none⟩)] #[]] w (LPost L A c b (.er v q) w) := by
  unfold Ent at hgc
  obtain ⟨hx, hi⟩ := suf_at h.suf
  have hL := f.len
  have hP1 := h.kp (Kp.set b w 1 (.int .i64 ((L.length - s.length : Nat) : Int))) (suf_tail h.suf) (h.rd.set _)
  have hr1 := h.rd.c1
  have hfz := h.rd.fz
  have hlt := h.rd.lt
  have hle := h.suf.length_le
  have HQ := Lib.hid hP1
  have HH := Lib.hid (H s _ _ hs hr hP1)
  have hi2 : ((L.length - s.length : Nat) : Int) = ((L.length - (x :: s).length : Nat) : Int) + 1 := by omega
  have hbz : ((L.length - (x :: s).length : Nat) : Int) ≤ 200 := by omega
  rw [hi2] at HH HQ
  generalize L.length - (x :: s).length = i at hr1 HH hi2 hbz HQ
  have hvb := errno_ne hv
  clear h f H hx hi hle hr hs hP1 hi2 hv
  go_enter Tryd.func84, Tryd.ntmps84
  go_wp2
  refine HH.out.mono ?_
  rintro e w' ⟨hk, hr, rfl⟩
  have HK := Lib.hid hk
  have HR := Lib.hid hr
  clear hk hr
  go_wp2
  go_ret2
  exact ⟨(Kp.set _ _ _ _).trans HK.out, HR.out, rfl⟩

set_option maxHeartbeats 1000000 in
theorem joined_ok (w0 : World) (L : List Tok) (A : Option Addr) (c b g n N : Nat) (f : Fx w0 L A c b) (hgc : Ent g) (H : LineC w0 L A c b g n N) (x : Tok) (s : List Tok) (w : World) (h : PS w0 L A c b (x :: s) w) (hs : s.length ≤ N)
    (k : Int) (hk : 7 ≤ k ∧ k ≤ 19) (t : Tr) (ht : t.ok = true) (hte : t.er = 0) (A1 : Option Addr) (c1 : Nat) (hl : Lies w A1 (ndCells t.flat)) (u : Tr) (q : List Tok) (hr : Rd (.line n) s (.ok u q)) (m : Nat) (hm : t.sz = m) :
    Calls Tryd.prog 84 #[.pointer (some ⟨b, 0, none⟩), .int .u8 k, .slice A1 m c1, .func (.func g) #[.pointer (some ⟨b, 0, none⟩)] #[]] w (LPost L A c b (joinR k x s t (.ok u q)) w) := by
  have hug := hr.good (f.mem (suf_tail h.suf)) trivial rfl
  have hqs : q <:+ L := hr.suf.trans (suf_tail h.suf)
  have hkk : okK k = true := by simp [okK]; omega
  have hfit : fitsF k 0 x.a = true := fits_zero (f.mem h.suf x List.mem_cons_self)
  have hcn : cnt k = 2 := by unfold cnt; rw [if_neg (by omega), if_neg (by omega)]
  have hbo : (Tr.bin k x.a t u).ok = true := bin_ok hk (f.mem h.suf x List.mem_cons_self) ht hug.1
  have hcf := Tr.check_flat _ hbo
  have HL1 := Lib.hid (show ∀ w', Kp b w w' → Lies w' A1 (ndCells t.flat) from fun w' hk => hk.lies hl (Lies.no_rdr hl h.rd))
  unfold Ent at hgc
  obtain ⟨hx, hi⟩ := suf_at h.suf
  have hL := f.len
  have hP1 := h.kp (Kp.set b w 1 (.int .i64 ((L.length - s.length : Nat) : Int))) (suf_tail h.suf) (h.rd.set _)
  have hr1 := h.rd.c1
  have hfz := h.rd.fz
  have hlt := h.rd.lt
  have hle := h.suf.length_le
  have HQ := Lib.hid hP1
  have HH := Lib.hid (H s _ _ hs hr hP1)
  have hi2 : ((L.length - s.length : Nat) : Int) = ((L.length - (x :: s).length : Nat) : Int) + 1 := by omega
  have hbz : ((L.length - (x :: s).length : Nat) : Int) ≤ 200 := by omega
  rw [hi2] at HH HQ
  have HNO := Lib.hid (fun (W : World) (A2 : Option Addr) (c2 : Nat) (T : TypeId) (hKp : Kp b w W) (hR : Rdr W b (.slice A L.length c) (L.length - q.length)) (h2 : Lies W A2 (ndCells u.flat)) =>
    node_2 (some ⟨W.heap.size, 0, none⟩) 2 k 0 x.a (W.alloc (.cells #[.slice A1 m c1, .slice A2 u.sz c2] T)) A1 c1 m t.flat (by rw [Tr.flat_length, hm]) ((HL1.out W hKp).below ((Below.refl _ _).alloc (Nat.le_refl _) _)) ((Tr.check_flat t ht).trans hte)
      A2 c2 u.sz u.flat (Tr.flat_length u) (h2.below ((Below.refl _ _).alloc (Nat.le_refl _) _)) ((Tr.check_flat u hug.1).trans hug.2) (two_lies _ _ _ _) hkk hfit hcn)
  have HPW := Lib.hid (fun (W : World) (o : Obj) (hKp : Kp b w W) (hR : Rdr W b (.slice A L.length c) (L.length - q.length)) => (h.kp hKp hqs hR).below ((Below.refl W.heap.size W).alloc (Nat.le_refl _) o))
  by_cases hz : (Tr.bin k x.a t u).er = 0
  · have HD := Lib.hid (fun (W : World) (A2 : Option Addr) (c2 : Nat) (T : TypeId) (hKp : Kp b w W) (hR : Rdr W b (.slice A L.length c) (L.length - q.length)) (h2 : Lies W A2 (ndCells u.flat)) =>
      rnode_ok w0 L A c b q _ f (HPW.out W _ hKp hR) _ x hx k 0 _ _ _ _ _ (HNO.out W A2 c2 T hKp hR h2) (hcf.trans hz) (Tr.flat_length (Tr.bin k x.a t u)))
    rw [joinR, if_pos hz]
    generalize L.length - (x :: s).length = i at hr1 HH hi2 hbz HQ HD
    clear h f H hx hi hle hr hs hP1 hi2 HNO HPW hug hkk hfit hcn hcf hl HL1 ht hte hm
    go_enter Tryd.func84, Tryd.ntmps84
    go_wp2
    refine HH.out.mono ?_
    rintro e w' ⟨hk, hr, A2, c2, rfl, hl2⟩
    have HK := Lib.hid ((Kp.set _ _ _ _).trans hk)
    have HR := Lib.hid hr
    have HL2 := Lib.hid hl2
    clear hk hr hl2
    go_wp2_with (go_at_call 89; refine (HD.out _ _ _ _ HK.out HR.out HL2.out).mono ?_; rintro e w2 ⟨A3, c3, rfl, hl3, hb3⟩; have HB3 := Lib.hid hb3; clear hb3)
    go_ret2
    exact ⟨HK.out.trans (Kp.of_below (((Below.refl _ _).alloc (Nat.le_refl _) _).trans (HB3.out.mono (by simp)))), (HR.out.below ((Below.refl _ _).alloc (Nat.le_refl _) _)).below HB3.out, A3, c3, rfl, hl3⟩
  · have HD := Lib.hid (fun (W : World) (A2 : Option Addr) (c2 : Nat) (T : TypeId) (hKp : Kp b w W) (hR : Rdr W b (.slice A L.length c) (L.length - q.length)) (h2 : Lies W A2 (ndCells u.flat)) =>
      rnode_er w0 L A c b q _ f (HPW.out W _ hKp hR) _ x hx k 0 _ _ _ _ _ (HNO.out W A2 c2 T hKp hR h2) hcf hz)
    rw [joinR, if_neg hz]
    have hvb := errno_ne hz
    have hvb' := hvb
    generalize (Tr.bin k x.a t u).er = v at HD hvb
    obtain ⟨i, hiq⟩ : ∃ i, L.length - (x :: s).length = i := ⟨_, rfl⟩
    rw [hiq] at hr1 HH hi2 hbz HQ HD
    have HE := Lib.hid hiq
    clear hiq
    clear h f H hx hi hle hr hs hP1 hi2 HNO HPW hug hkk hfit hcn hcf hl HL1 ht hte hm
    go_enter Tryd.func84, Tryd.ntmps84
    go_wp2
    refine HH.out.mono ?_
    rintro e w' ⟨hk, hr, A2, c2, rfl, hl2⟩
    have HK := Lib.hid ((Kp.set _ _ _ _).trans hk)
    have HR := Lib.hid hr
    have HL2 := Lib.hid hl2
    clear hk hr hl2
    go_wp2_with (go_at_call 89; refine (HD.out _ _ _ _ HK.out HR.out HL2.out).mono ?_; rintro e w2 ⟨rfl, hb3, hr3⟩; have HB3 := Lib.hid hb3; have HR3 := Lib.hid hr3; clear hb3 hr3)
    go_ret2
    exact ⟨HK.out.trans ((Kp.of_below ((Below.refl _ _).alloc (Nat.le_refl _) _)).trans HB3.out), (by show Rdr w2 b _ (L.length - (x :: s).length); rw [HE.out]; exact HR3.out), rfl⟩
end Go.Proofs.YtfnkofcgjbakeaaDoor
