
/- What a reader of expressions keeps in memory, and its next token. -/
import Derived.Test.YtfnkofcgjbakeaaDoorERd
import Derived.Test.YtfnkofcgjbakeaaDoorNC
import Derived.Test.YtfnkofcgjbakeaaDoorNB
import Derived.Test.YtfnkofcgjbakeaaDoorLB
import Derived.Test.YtfnkofcgjbakeaaDoorCA
namespace Go.Proofs.YtfnkofcgjbakeaaDoor
open Go.ChangeShapes Go.WideShapes Go.ChangeAt Go.RowKit N4
set_option linter.unusedVariables false
set_option maxRecDepth 100000

def fldT : List (List UInt8) := [[107], [116], [118]]
def Tab5 (w : World) : Prop := Tab w 2 opT ∧ Tab w 1 fldT
theorem Tab5.stays {w w' : World} (h : Tab5 w) (hb : Below w.heap.size w w') : Tab5 w' := ⟨h.1.stays hb, h.2.stays hb⟩
theorem Tab.cellAt {w : World} {g : Nat} {T : List (List UInt8)} (h : Tab w g T) {i : Nat} {s : List UInt8} (hs : T[i]? = some s) : w.cell? ⟨g, i, none⟩ = some (.string (bytesOf s)) := by
  obtain ⟨t, fr, hh⟩ := h
  simp only [World.cell?, hh, strsOf]
  simp [hs]
theorem Tab.lt {w : World} {g : Nat} {T : List (List UInt8)} (h : Tab w g T) : g < w.heap.size := by
  obtain ⟨t, fr, hh⟩ := h
  exact (Array.getElem?_eq_some_iff.1 hh).1

/-- Everything but block b stays. -/
structure Kp (b : Nat) (w w' : World) : Prop where
  os : w'.os = w.os
  tape : w'.tape = w.tape
  output : w'.output = w.output
  size : w.heap.size ≤ w'.heap.size
  block : ∀ k, k < w.heap.size → k ≠ b → w'.heap[k]? = w.heap[k]?
theorem Kp.of_below {b : Nat} {w w' : World} (h : Below w.heap.size w w') : Kp b w w' := ⟨h.os, h.tape, h.output, h.size, fun k hk _ => h.block k hk⟩
theorem Kp.refl (b : Nat) (w : World) : Kp b w w := Kp.of_below (Below.refl _ _)
theorem Kp.trans {b : Nat} {u v w : World} (h : Kp b u v) (k : Kp b v w) : Kp b u w :=
  ⟨k.os.trans h.os, k.tape.trans h.tape, k.output.trans h.output, Nat.le_trans h.size k.size, fun i hi hb => (k.block i (Nat.lt_of_lt_of_le hi h.size) hb).trans (h.block i hi hb)⟩
theorem Kp.set (b : Nat) (w : World) (i : Nat) (u : Value) : Kp b w (w.setCell ⟨b, i, none⟩ u) :=
  ⟨rfl, rfl, rfl, by simp, fun k _ hb => Below.heap_setCell w ⟨b, i, none⟩ u k hb⟩
theorem Kp.drewN (b : Nat) (w : World) (n : Nat) : Kp b w (w.drewN n) := Kp.of_below (bd_drewN w n)
theorem Kp.below {b : Nat} {w0 w w' : World} (h : Kp b w w') (hb : Below b w0 w) (hs : b ≤ w.heap.size) : Below b w0 w' :=
  hb.trans ⟨h.os, h.tape, h.output, h.size, fun k hk => h.block k (by omega) (by omega)⟩
theorem Kp.cell {b : Nat} {w w' : World} (h : Kp b w w') {p : Addr} (hp : p.block < w.heap.size) (hb : p.block ≠ b) : w'.cell? p = w.cell? p := World.cell?_of_block (w := w) (h.block p.block hp hb)
theorem Kp.lies {b : Nat} {w w' : World} (h : Kp b w w') {A : Option Addr} {cs : List Value} (hl : Lies w A cs) (hb : ∀ a, A = some a → cs ≠ [] → a.block ≠ b) : Lies w' A cs := by
  rcases hl with h0 | ⟨ad, h1, h2, h3⟩
  · exact .inl h0
  · by_cases hc : cs = []
    · exact .inl hc
    · refine .inr ⟨ad, h1, Nat.lt_of_lt_of_le h2 h.size, fun j u hj => ?_⟩
      rw [h.cell (by rw [add_block]; exact h2) (by rw [add_block]; exact hb ad h1 hc)]
      exact h3 j u hj

/-- The reader: its tokens, and the place at which it stands. -/
def Rdr (w : World) (b : Nat) (V : Value) (i : Nat) : Prop := w.heap[b]? = some (.cells #[V, .int .i64 i] 91 (0, 0))
theorem Rdr.lt {w : World} {b i : Nat} {V : Value} (h : Rdr w b V i) : b < w.heap.size := (Array.getElem?_eq_some_iff.1 h).1
theorem Rdr.c0 {w : World} {b i : Nat} {V : Value} (h : Rdr w b V i) : w.cell? ⟨b, 0, none⟩ = some V := by
  have h' : w.heap[b]? = _ := h
  simp only [World.cell?, h']; rfl
theorem Rdr.c1 {w : World} {b i : Nat} {V : Value} (h : Rdr w b V i) : w.cell? ⟨b, 1, none⟩ = some (.int .i64 i) := by
  have h' : w.heap[b]? = _ := h
  simp only [World.cell?, h']; rfl
theorem Rdr.fz {w : World} {b i : Nat} {V : Value} (h : Rdr w b V i) : w.frozen? ⟨b, 1, none⟩ = false := by
  have h' : w.heap[b]? = _ := h
  simp only [World.frozen?, h']; rfl
theorem Rdr.below {w w' : World} {b i : Nat} {V : Value} (h : Rdr w b V i) (hb : Below w.heap.size w w') : Rdr w' b V i := by
  unfold Rdr
  rw [hb.block b h.lt]; exact h
theorem Rdr.drewN {w : World} {b i : Nat} {V : Value} (h : Rdr w b V i) (n : Nat) : Rdr (w.drewN n) b V i := h.below (bd_drewN w n)
theorem Rdr.set {w : World} {b i : Nat} {V : Value} (h : Rdr w b V i) (j : Nat) : Rdr (w.setCell ⟨b, 1, none⟩ (.int .i64 j)) b V j := by
  unfold Rdr at *
  unfold World.setCell
  simp only [Array.getElem?_modify, h]
  rfl
theorem Rdr.of_alloc {w : World} {b i : Nat} {V : Value} (hb : w.heap.size = b) : Rdr (w.alloc (.cells #[V, .int .i64 i] 91)) b V i := by
  subst hb
  unfold Rdr World.alloc
  simp
/-- Nodes lie in no reader. -/
theorem Lies.no_rdr {w : World} {b i : Nat} {A : Option Addr} {n c : Nat} {A' : Option Addr} {P : List Nd} (h : Lies w A (ndCells P)) (hr : Rdr w b (.slice A' n c) i) : ∀ a, A = some a → ndCells P ≠ [] → a.block ≠ b := by
  intro a ha hne
  rcases h with h0 | ⟨ad, h1, h2, h3⟩
  · exact absurd h0 hne
  · obtain rfl : a = ad := Option.some.inj (ha.symm.trans h1)
    intro hb
    cases P with
    | nil => exact hne rfl
    | cons x P =>
      have h0 := h3 0 (.int .u8 x.k) rfl
      have hr' : w.heap[a.block]? = some (.cells #[.slice A' n c, .int .i64 i] 91 (0, 0)) := by rw [hb]; exact hr
      simp only [Addr.add, if_pos, World.cell?, hr'] at h0
      by_cases hs : a.spot.isSome = true
      · rw [if_pos hs] at h0; cases h0
      · rw [if_neg hs] at h0
        rcases ho : a.off with _ | _ | o
        · rw [ho] at h0; simp at h0
        · rw [ho] at h0; simp at h0
        · rw [ho] at h0; simp at h0

/-- What stands throughout a reading. -/
structure Fx (w0 : World) (L : List Tok) (A : Option Addr) (c b : Nat) : Prop where
  base : w0.heap.size = b
  toks : Toks w0 A L
  tabs : Tab5 w0
  len : L.length ≤ 200
  ok : ∀ x ∈ L, TkOk x ∧ x.s.length ≤ maxLen
structure PS (w0 : World) (L : List Tok) (A : Option Addr) (c b : Nat) (s : List Tok) (w : World) : Prop where
  suf : s <:+ L
  bl : Below b w0 w
  rd : Rdr w b (.slice A L.length c) (L.length - s.length)
section
variable {w0 w w' : World} {L s s' : List Tok} {A : Option Addr} {c b : Nat}
theorem PS.below (h : PS w0 L A c b s w) (hb : Below w.heap.size w w') : PS w0 L A c b s w' := ⟨h.suf, h.bl.trans (hb.mono (Nat.le_of_lt h.rd.lt)), h.rd.below hb⟩
theorem PS.drewN (h : PS w0 L A c b s w) (n : Nat) : PS w0 L A c b s (w.drewN n) := h.below (bd_drewN w n)
theorem PS.toks (h : PS w0 L A c b s w) (f : Fx w0 L A c b) : Toks w A L := f.toks.below (f.base.symm ▸ h.bl)
theorem PS.tabs (h : PS w0 L A c b s w) (f : Fx w0 L A c b) : Tab5 w := f.tabs.stays (f.base.symm ▸ h.bl)
theorem PS.kp (h : PS w0 L A c b s w) (k : Kp b w w') (hs : s' <:+ L) (hr : Rdr w' b (.slice A L.length c) (L.length - s'.length)) : PS w0 L A c b s' w' := ⟨hs, k.below h.bl (Nat.le_of_lt h.rd.lt), hr⟩
end
theorem suf_drop {s L : List Tok} (h : s <:+ L) : L.drop (L.length - s.length) = s := by
  obtain ⟨t, rfl⟩ := h
  simp
theorem suf_at {x : Tok} {s L : List Tok} (h : x :: s <:+ L) : L[L.length - (x :: s).length]? = some x ∧ (L.length - (x :: s).length) + 1 = L.length - s.length := by
  have hl := h.length_le
  have := suf_drop h
  constructor
  · have h2 := congrArg (·[0]?) this
    simpa [List.getElem?_drop] using h2
  · simp at hl ⊢; omega
theorem Fx.mem {w0 : World} {L : List Tok} {A : Option Addr} {c b : Nat} (f : Fx w0 L A c b) {s : List Tok} (h : s <:+ L) : ∀ x ∈ s, TkOk x := fun x hx => (f.ok x (h.subset hx)).1

/-- What a line of the grammar answers. -/
def LPost (L : List Tok) (A : Option Addr) (c b : Nat) (r : R) (w : World) (e : Ending) (w' : World) : Prop :=
  Kp b w w' ∧ Rdr w' b (.slice A L.length c) (L.length - r.rest.length) ∧
  match r with
  | .ok t _ => ∃ A' c', e = .returned (.tuple #[.slice A' t.sz (t.sz + c'), .int .i64 0]) ∧ Lies w' A' (ndCells t.flat)
  | .er v _ => e = .returned (.tuple #[.slice none 0 0, .int .i64 v])

/-! ### the next token -/
theorem next_any (w0 : World) (L : List Tok) (A : Option Addr) (c b : Nat) (s : List Tok) (w : World) (f : Fx w0 L A c b) (h : PS w0 L A c b s w) :
    Calls Tryd.prog 88 #[.pointer (some ⟨b, 0, none⟩)] w fun e w' => e = .returned (.string (bytesOf (txt s))) ∧ ∃ n, w' = w.drewN n := by
  have hl := f.len
  cases s with
  | nil =>
    have h0 := h.rd.c0
    have h1 := h.rd.c1
    have hlt := h.rd.lt
    rw [show L.length - ([] : List Tok).length = L.length by simp] at h1
    generalize L.length = n at h0 h1 hl
    clear h f
    go_enter Tryd.func88, Tryd.ntmps88
    go_wp2
    go_quiet (fail)
    go_wp2
    go_ret
    exact ⟨rfl, _, rfl⟩
  | cons x s =>
    obtain ⟨hx, hi⟩ := suf_at h.suf
    have h0 := h.rd.c0
    have h1 := h.rd.c1
    have hlt := h.rd.lt
    have hle := h.suf.length_le
    have ht := h.toks f
    obtain ⟨ad, rfl, hcc⟩ : ∃ ad, A = some ad ∧ TokAt w ad (L.length - (x :: s).length) x := by
      obtain ⟨ad, t, k1, k2, k3⟩ := ht.at_ _ (List.getElem?_eq_some_iff.1 hx).1
      have k4 : t = x := Option.some.inj (k3.symm.trans hx)
      exact ⟨ad, k1, k4 ▸ k2⟩
    generalize L.length - (x :: s).length = i at h1 hi hcc
    have hin : i < L.length := by simp at hle hi; omega
    generalize L.length = n at h0 h1 hl hin
    obtain ⟨hc1, hc2, hc3⟩ := hcc
    clear h f ht hx hi hle
    go_enter Tryd.func88, Tryd.ntmps88
    have hne : ¬ ((i : Int) = (n : Int)) := by omega
    go_wp2
    go_quiet (fail)
    go_wp2
    go_quiet (fail)
    go_wp2
    go_ret
    exact ⟨rfl, _, World.drewN_drewN _ _ _⟩
end Go.Proofs.YtfnkofcgjbakeaaDoor
