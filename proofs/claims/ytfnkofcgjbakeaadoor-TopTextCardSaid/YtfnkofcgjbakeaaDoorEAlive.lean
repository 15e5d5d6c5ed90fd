
/- What the laws call: a text parsed, and the chapter's examples. -/
import Derived.Test.YtfnkofcgjbakeaaDoorEBack
import Derived.Test.YtfnkofcgjbakeaaDoorETextB
import Derived.Test.YtfnkofcgjbakeaaDoorLB
namespace Go.Proofs.YtfnkofcgjbakeaaDoor
open Go.ChangeShapes Go.WideShapes Go.ChangeAt Go.RowKit N4
set_option linter.unusedVariables false
set_option maxRecDepth 100000

def TB (w : World) : Prop := Tabs w ∧ Tab5 w ∧ Pow w
theorem TB.stays {w w' : World} (h : TB w) (hb : Below w.heap.size w w') : TB w' := ⟨h.1.stays hb, h.2.1.stays hb, h.2.2.stays hb⟩
def G5 (w0 w : World) : Prop := Below w0.heap.size w0 w ∧ TB w
theorem G5.start {w : World} (h : TB w) : G5 w w := ⟨Below.refl _ _, h⟩
theorem G5.step {w0 w w' : World} (h : G5 w0 w) (hb : Below w.heap.size w w') : G5 w0 w' := ⟨h.1.trans (hb.mono h.1.size), h.2.stays hb⟩

theorem Lex.small {l p n ts q e} (h : Lex l p n ts q e) : ∀ t ∈ ts, t.s.length ≤ l.length := by
  induction h with
  | done _ => intro t ht; simp at ht
  | many _ => intro t ht; simp at ht
  | err _ _ _ => intro t ht; simp at ht
  | @tok l p n m ts q e h1 h2 h3 h4 h5 ih =>
    intro t ht
    have hl : m.length = l.length - spanK 1 l := by rw [← h1, List.length_drop]
    rcases List.mem_cons.1 ht with rfl | ht
    · show (m.take (ext m).2).length ≤ _
      rw [List.length_take]; omega
    · have := ih t ht
      rw [List.length_drop] at this
      omega
theorem allF_small (s : List UInt8) : (∀ t ∈ (allF s).1, t.s.length ≤ maxLen) ∧ (allF s).1.length ≤ 200 := by
  by_cases hs : s.length ≤ 400
  · obtain ⟨ts, q, e, h, h2⟩ := allF_lex s hs
    rw [h2]
    show (∀ t ∈ (if e = 0 then ts else []), _) ∧ (if e = 0 then ts else []).length ≤ 200
    split
    · exact ⟨fun t ht => by have := h.small t ht; unfold maxLen; omega, by have := h.count (by omega); omega⟩
    · exact ⟨fun t ht => by simp at ht, by simp⟩
  · rw [allF_big s (by omega)]; exact ⟨fun t ht => by simp at ht, by simp⟩

/-- All, then Parse, of a text that has tokens. -/
theorem all_g (T : List UInt8) (hT : T.length ≤ maxLen) (L : List Tok) (q : Nat) (er : Int) (h : allF T = (L, q, er)) (w0 w : World) (hg : G5 w0 w) :
    Calls Tryd.prog 29 #[.string (bytesOf T)] w fun e w' => ∃ A c, e = .returned (.tuple #[.slice A L.length c, .int .i64 q, .int .i64 er]) ∧ Toks w' A L ∧ Below w.heap.size w w' ∧ G5 w0 w' := by
  refine (all_any (bytesOf T) w (by rw [bytesOf_size]; exact hT) hg.2.1 L q er (by rw [bytesOf_list]; exact h)).mono ?_
  rintro e w' ⟨A, c, rfl, ht, hgd⟩
  exact ⟨A, c, rfl, ht, hgd.1, hg.step hgd.1⟩
theorem parse_g (A : Option Addr) (c n : Nat) (L : List Tok) (i : Nat) (r : R) (hn : L.length = n) (hs : ∀ t ∈ L, t.s.length ≤ maxLen) (hv : chkF L = 0) (hi : i ≤ n) (hr : Rd (.line 0) (L.drop i) r) (w0 w : World) (hg : G5 w0 w) (ht : Toks w A L) :
    Calls Tryd.prog 31 #[.slice A n c, .int .i64 i] w fun e w' => PPost n r w e w' ∧ G5 w0 w' :=
  (parse_any A c n L i w hn ht hs hg.2.1 hg.2.2.1 hv hi r hr).mono fun e w' h => ⟨h, hg.step h.1⟩

def outT : R → List UInt8
  | .ok t _ => t.wr
  | .er _ _ => [63]
theorem allF_ats (s : List UInt8) : ∀ t ∈ (allF s).1, TkOk t := fun t ht => (chk_zero (allF_chk s)).2.2 t ht
/-! ### texts that are read -/
def prsF (T : List UInt8) : Option R := rdF 4000 (.line 0) (allF T).1
def readF (T W : List UInt8) : Bool := decide (T.length ≤ 400) && decide ((allF T).2.2 = 0) && (match prsF T with | some (.ok t []) => decide (t.wr = W) | _ => false)
theorem readF_ok {T W : List UInt8} (h : readF T W = true) : T.length ≤ 400 ∧ ∃ L q t, allF T = (L, q, 0) ∧ Rd (.line 0) L (.ok t []) ∧ t.wr = W := by
  simp only [readF, Bool.and_eq_true, decide_eq_true_eq] at h
  obtain ⟨⟨h1, h2⟩, h3⟩ := h
  refine ⟨h1, ?_⟩
  split at h3
  · rename_i t hp
    refine ⟨(allF T).1, (allF T).2.1, t, ?_, rdF_Rd _ _ _ _ (by exact trivial) hp, by simpa using h3⟩
    rw [← h2]
  · cases h3
theorem rd_0 : readF [118, 32, 43, 32, 50, 32, 42, 32, 107] [118, 32, 43, 32, 40, 50, 32, 42, 32, 107, 41] = true := by decide +kernel
theorem rd_1 : readF [40, 118, 32, 43, 32, 50, 41, 32, 42, 32, 107] [40, 118, 32, 43, 32, 50, 41, 32, 42, 32, 107] = true := by decide +kernel
theorem rd_2 : readF [110, 111, 116, 32, 118, 32, 61, 32, 49, 32, 97, 110, 100, 32, 107, 32, 60, 32, 50] [40, 110, 111, 116, 32, 40, 118, 32, 61, 32, 49, 41, 41, 32, 97, 110, 100, 32, 40, 107, 32, 60, 32, 50, 41] = true := by decide +kernel
theorem ps_0 : ∃ L q s, allF [118, 32, 43, 32, 41] = (L, q, 0) ∧ Rd (.line 0) L (.er 12 s) ∧ L.length - s.length = 2 := by
  refine ⟨(allF [118, 32, 43, 32, 41]).1, (allF [118, 32, 43, 32, 41]).2.1, ((allF [118, 32, 43, 32, 41]).1).drop 2, by decide +kernel, rdF_Rd 4000 _ _ _ (by exact trivial) (by decide +kernel), by decide +kernel⟩
theorem ps_1 : ∃ L q t s, allF [118, 32, 60, 32, 49, 32, 60, 32, 50] = (L, q, 0) ∧ Rd (.line 0) L (.ok t s) ∧ t.wr = [118, 32, 60, 32, 49] ∧ L.length - s.length = 3 := by
  refine ⟨(allF [118, 32, 60, 32, 49, 32, 60, 32, 50]).1, (allF [118, 32, 60, 32, 49, 32, 60, 32, 50]).2.1, .bin 12 2 (.leaf 4 0 0) (.leaf 1 1 4), ((allF [118, 32, 60, 32, 49, 32, 60, 32, 50]).1).drop 3, by decide +kernel, rdF_Rd 4000 _ _ _ (by exact trivial) (by decide +kernel), by decide +kernel, by decide +kernel⟩
end Go.Proofs.YtfnkofcgjbakeaaDoor
