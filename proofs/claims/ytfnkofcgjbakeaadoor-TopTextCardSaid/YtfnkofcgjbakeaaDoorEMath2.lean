
/- What is parsed: there is always an answer; numbers fit; tokens of a text. -/
import Derived.Test.YtfnkofcgjbakeaaDoorERd
import Derived.Test.YtfnkofcgjbakeaaDoorEText
import Derived.Test.YtfnkofcgjbakeaaDoorEChain
import Derived.Test.YtfnkofcgjbakeaaDoorEParse
namespace Go.Proofs.YtfnkofcgjbakeaaDoor
open Go.RowKit N4
set_option linter.unusedVariables false
set_option maxRecDepth 100000

theorem split_signs (b : List UInt8) (hb : b ≠ []) (s : List Tok) : ∃ c s0, s = c ++ s0 ∧ (∀ x ∈ c, x.s = b) ∧ txt s0 ≠ b :=
  ⟨s.takeWhile (fun x => x.s == b), s.dropWhile (fun x => x.s == b), (List.takeWhile_append_dropWhile).symm, fun x hx => by simpa using tw_mem _ _ x hx, dw_txt b hb s⟩
theorem rd_chain (n N : Nat) (hn : isCh n) (H : ∀ s : List Tok, s.length < N → ∃ r, Rd (.line (n + 1)) s r) : ∀ (m : Nat) (s : List Tok) (t : Tr), s.length ≤ m → s.length ≤ N → ∃ r, Rd (.chain n t) s r := by
  intro m
  induction m with
  | zero =>
    intro s t h _
    obtain rfl : s = [] := List.length_eq_zero_iff.1 (by omega)
    exact ⟨_, .stop hn (op_nil n)⟩
  | succ m ih =>
    intro s t h hN
    cases s with
    | nil => exact ⟨_, .stop hn (op_nil n)⟩
    | cons x s =>
      cases ho : opOf (loK n) (hiK n) x.s with
      | none => exact ⟨_, .stop hn ho⟩
      | some k =>
        obtain ⟨r, hr⟩ := H s (by simp at hN; omega)
        cases r with
        | er e q => exact ⟨_, .next_er hn ho hr⟩
        | ok u q =>
          by_cases he : (Tr.bin k x.a t u).er = 0
          · by_cases h3 : n = 3
            · subst h3; exact ⟨_, .next_one ho hr he⟩
            · obtain ⟨r2, h2⟩ := ih q (.bin k x.a t u) (by have := (hr.lt rfl).1; simp at h; omega) (by have := (hr.lt rfl).1; simp at hN; omega)
              exact ⟨_, .next_ok hn h3 ho hr he h2⟩
          · exact ⟨_, .next_node hn ho hr he⟩
theorem rd_line (n N : Nat) (hn : isCh n) (H : ∀ s : List Tok, s.length ≤ N → ∃ r, Rd (.line (n + 1)) s r) : ∀ s : List Tok, s.length ≤ N → ∃ r, Rd (.line n) s r := by
  intro s hs
  obtain ⟨r, hr⟩ := H s hs
  cases r with
  | er e q => exact ⟨_, .first_er hn hr⟩
  | ok t q =>
    have := (hr.lt rfl).1
    obtain ⟨r2, h2⟩ := rd_chain n N hn (fun s hs => H s (by omega)) q.length q t (Nat.le_refl _) (by omega)
    exact ⟨_, .first_ok hn hr h2⟩
theorem rd_pre (n N : Nat) (hn : isPr n) (H : ∀ s : List Tok, s.length ≤ N → ∃ r, Rd (.line (n + 1)) s r) : ∀ s : List Tok, s.length ≤ N → ∃ r, Rd (.line n) s r := by
  intro s hs
  obtain ⟨c, s0, rfl, hc, h0⟩ := split_signs (sgnB n) (sgn_ne n) s
  obtain ⟨r, hr⟩ := H s0 (by simp at hs; omega)
  exact ⟨_, .pre hn hc h0 hr⟩
theorem rd_all (N : Nat) (H : ∀ s : List Tok, s.length ≤ N → ∃ r, Rd (.line 8) s r) : ∀ s : List Tok, s.length ≤ N → ∃ r, Rd (.line 0) s r :=
  rd_line 0 N (by decide) (rd_line 1 N (by decide) (rd_pre 2 N (by decide) (rd_line 3 N (by decide) (rd_line 4 N (by decide) (rd_line 5 N (by decide) (rd_line 6 N (by decide) (rd_pre 7 N (by decide) H)))))))
theorem rd_prim (N : Nat) (H : ∀ s : List Tok, s.length < N → ∃ r, Rd (.line 0) s r) : ∀ s : List Tok, s.length ≤ N → ∃ r, Rd (.line 8) s r := by
  intro s hs
  cases s with
  | nil => exact ⟨_, .bad (by simp [txt]) leaf_nil⟩
  | cons x s =>
    cases hl : leafOf x.s with
    | some km => exact ⟨_, .leaf (k := km.1) (m := km.2) hl⟩
    | none =>
      by_cases h4 : x.s = [40]
      · obtain ⟨r, hr⟩ := H s (by simp at hs; omega)
        cases r with
        | er e q => exact ⟨_, .br_er h4 hr⟩
        | ok t q =>
          cases q with
          | nil => exact ⟨_, .br_no h4 hr (by simp [txt])⟩
          | cons y q =>
            by_cases h5 : y.s = [41]
            · exact ⟨_, .br_ok h4 hr h5⟩
            · exact ⟨_, .br_no h4 hr h5⟩
      · exact ⟨_, .bad h4 hl⟩
/-- There is an answer. -/
theorem rd_ex (s : List Tok) : ∃ r, Rd (.line 0) s r := by
  have key : ∀ N, ∀ s : List Tok, s.length ≤ N → ∃ r, Rd (.line 0) s r := by
    intro N
    induction N with
    | zero => exact rd_all 0 (rd_prim 0 (fun s h => by omega))
    | succ N ih => exact rd_all _ (rd_prim _ (fun s h => ih s (by omega)))
  exact key _ s (Nat.le_refl _)

theorem wrap_big {k : Int} {s : List Tok} : ∀ {c : List Tok} {r : R} {t : Tr} {q : List Tok}, (∀ u q, r = .ok u q → u.big) → wrapR k s c r = .ok t q → t.big := by
  intro c
  induction c with
  | nil => intro r t q h hw; exact h _ _ hw
  | cons x c ih =>
    intro r t q h hw
    rw [wrapR] at hw
    cases hr : wrapR k s c r with
    | er e q' => rw [hr] at hw; simp at hw
    | ok u q' =>
      rw [hr] at hw
      simp only at hw
      have := ih h hr
      split at hw
      · injection hw with h1 h2; subst h1; exact this
      · simp at hw
def Md.big : Md → Prop
  | .line _ => True
  | .chain _ t => t.big
theorem Rd.big {m : Md} {s : List Tok} {r : R} (h : Rd m s r) (hm : m.big) : ∀ {t q}, r = .ok t q → t.big := by
  induction h with
  | first_er _ _ ih => intro t q h; simp at h
  | first_ok _ _ _ ih1 ih2 => intro t q h; exact ih2 (ih1 trivial rfl) h
  | stop _ _ => intro t q h; injection h with h1 h2; subst h1; exact hm
  | next_er _ _ _ ih => intro t q h; simp at h
  | next_node _ _ _ _ _ => intro t q h; simp at h
  | next_ok _ _ _ _ _ _ ih1 ih2 => intro t' q' h; exact ih2 ⟨hm, ih1 trivial rfl⟩ h
  | next_one _ _ _ ih => intro t' q' h; injection h with h _; subst h; exact ⟨hm, ih trivial rfl⟩
  | pre _ _ _ _ ih => intro t q h; exact wrap_big (fun u q hu => ih trivial hu) h
  | leaf hl => intro t q h; injection h with h _; subst h; exact (leaf_range hl).2.2.2.2
  | bad _ _ => intro t q h; simp at h
  | br_er _ _ ih => intro t q h; simp at h
  | br_no _ _ _ ih => intro t q h; simp at h
  | br_ok _ _ _ ih => intro t q h; injection h with h _; subst h; exact ih trivial rfl

/-! ### tokens of a text -/
theorem Lex.ats {l p n ts q e} (h : Lex l p n ts q e) : ∀ t ∈ ts, (p : Int) ≤ t.a ∧ t.a ≤ (p + l.length : Nat) := by
  induction h with
  | done _ => intro t ht; simp at ht
  | many _ => intro t ht; simp at ht
  | err _ _ _ => intro t ht; simp at ht
  | @tok l p n m ts q e h1 h2 h3 h4 h5 ih =>
    intro t ht
    have hl : m.length = l.length - spanK 1 l := by rw [← h1, List.length_drop]
    have h6 := spanK_le 1 l
    have h7 := ext_le m
    rcases List.mem_cons.1 ht with rfl | ht
    · show (p : Int) ≤ ((p + spanK 1 l : Nat) : Int) ∧ ((p + spanK 1 l : Nat) : Int) ≤ _
      omega
    · have := ih t ht
      rw [List.length_drop] at this
      omega
theorem lex_chk {s : List UInt8} {ts : List Tok} {q : Nat} {e : Int} (hs : s.length ≤ 400) (h : Lex s 0 0 ts q e) : chkF ts = 0 := by
  have h1 := h.count (by omega)
  have h2 : okL ts = true := okL_all ts h.valid
  have h3 : atOk ts = true := at_all (fun t ht => by have := h.ats t ht; unfold TkOk; omega)
  rw [chkF, if_neg (by omega), if_pos h2, if_pos h3]
theorem allF_chk (s : List UInt8) : chkF (allF s).1 = 0 := by
  by_cases hs : s.length ≤ 400
  · obtain ⟨ts, q, e, h, h2⟩ := allF_lex s hs
    rw [h2]
    show chkF (if e = 0 then ts else []) = 0
    split
    · exact lex_chk hs h
    · rfl
  · rw [allF_big s (by omega)]; rfl
end Go.Proofs.YtfnkofcgjbakeaaDoor
