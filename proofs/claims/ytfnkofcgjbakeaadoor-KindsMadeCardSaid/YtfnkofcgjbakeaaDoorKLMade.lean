/- KindsMade walks to true. -/
import Derived.Test.YtfnkofcgjbakeaaDoorKLMdF
import Derived.Test.YtfnkofcgjbakeaaDoorKLMdT
namespace Go.Proofs.YtfnkofcgjbakeaaDoor.K6
open Go.ChangeShapes Go.WideShapes Go.ChangeAt Go.RowKit N4
set_option linter.unusedVariables false
set_option linter.unusedSimpArgs false
set_option maxRecDepth 100000

theorem KindsMade_walk (A : Option Addr) (c : Nat) (P : List Nd) (B : Option Addr) (d : Nat) (Q : List Nd) (kk : Int) (w : World)
    (hL : P.length ≤ maxLen) (hp : Lies w A (ndCells P)) (hnc : P.length ≤ c) (hA : (A = none ∧ c = 0 ∧ P = []) ∨ ∃ ad, A = some ad)
    (hM : Q.length ≤ maxLen) (hq : Lies w B (ndCells Q)) (hmd : Q.length ≤ d) (hB : (B = none ∧ d = 0 ∧ Q = []) ∨ ∃ ad, B = some ad) (_ : (Lit.int .u8 kk).wf = true) (hs : SigT w) :
    Calls Tryd.prog 7 #[.slice A P.length c, .slice B Q.length d, .int .u8 kk] w fun e w' => e = .returned (.bool true) ∧ Below w.heap.size w w' := by
  by_cases h7 : 70 < P.length
  · exact md_g1 A _ c B _ d kk w hs h7
  by_cases h8 : 70 < Q.length
  · exact md_g2 A _ c B _ d kk w hs h7 h8
  obtain ⟨⟨xt, xa, xe⟩, ho1⟩ : ∃ r, ofF P = r := ⟨_, rfl⟩
  obtain ⟨⟨yt, ya, ye⟩, ho2⟩ : ∃ r, ofF Q = r := ⟨_, rfl⟩
  cases hok : okK kk
  · exact md_no_p A _ c P B _ d Q kk _ _ w hs rfl rfl (by omega) (by omega) hp hq xt yt xa xe ya ye ho1 ho2 rfl rfl (by unfold partsE; rw [hok]; decide)
  have hpe : partsE kk = 0 := by unfold partsE; rw [hok]; rfl
  by_cases h1 : xe = 0
  rotate_left
  · exact md_no_a A _ c P B _ d Q kk _ _ w hs rfl rfl (by omega) (by omega) hp hq xt yt xa xe ya ye ho1 ho2 rfl rfl hpe h1
  by_cases h2 : ye = 0
  rotate_left
  · exact md_no_b A _ c P B _ d Q kk _ _ w hs rfl rfl (by omega) (by omega) hp hq xt yt xa xe ya ye ho1 ho2 rfl rfl hpe h1 h2
  subst h1 h2
  obtain ⟨_, _, hc1, _⟩ := typed_last ho1
  obtain ⟨_, _, hc2, _⟩ := typed_last ho2
  obtain ⟨E, hg⟩ := checkF_zero hc1
  obtain ⟨F, hf⟩ := checkF_zero hc2
  have h60 := hg.2.1
  have h61 := hf.2.1
  rcases cnt_vals kk with ⟨h4, hc⟩ | ⟨h4, h6, hc⟩ | ⟨h6, hc⟩
  · exact md_no_z A _ c P B _ d Q kk _ _ w hs rfl rfl (by omega) (by omega) hp hq xt yt xa 0 ya 0 ho1 ho2 rfl rfl hpe rfl rfl (by rw [partsN_of hok hc])
  · have hk : kk = 5 ∨ kk = 6 := by omega
    rcases hk with rfl | rfl
    · cases xt
      · rcases made1_check (k := 5) hg (by decide) (by decide) with hck | hck | hck
        · exact md_u5_false_ok A _ c P B _ d Q w hs rfl rfl h60 (by omega) hp hq yt xa ya ho1 ho2 hc1 hck (made1_of hg (by decide) (by decide) ho1 hck)
        · exact md_u5_false_4 A _ c P B _ d Q w hs rfl rfl h60 (by omega) hp hq yt xa ya ho1 ho2 hc1 hck
        · exact md_u5_false_34 A _ c P B _ d Q w hs rfl rfl h60 (by omega) hp hq yt xa ya ho1 ho2 hc1 hck
      · rcases made1_check (k := 5) hg (by decide) (by decide) with hck | hck | hck
        · exact md_u5_true_ok A _ c P B _ d Q w hs rfl rfl h60 (by omega) hp hq yt xa ya ho1 ho2 hc1 hck (made1_of hg (by decide) (by decide) ho1 hck)
        · exact md_u5_true_4 A _ c P B _ d Q w hs rfl rfl h60 (by omega) hp hq yt xa ya ho1 ho2 hc1 hck
        · exact md_u5_true_34 A _ c P B _ d Q w hs rfl rfl h60 (by omega) hp hq yt xa ya ho1 ho2 hc1 hck
    · cases xt
      · rcases made1_check (k := 6) hg (by decide) (by decide) with hck | hck | hck
        · exact md_u6_false_ok A _ c P B _ d Q w hs rfl rfl h60 (by omega) hp hq yt xa ya ho1 ho2 hc1 hck (made1_of hg (by decide) (by decide) ho1 hck)
        · exact md_u6_false_4 A _ c P B _ d Q w hs rfl rfl h60 (by omega) hp hq yt xa ya ho1 ho2 hc1 hck
        · exact md_u6_false_34 A _ c P B _ d Q w hs rfl rfl h60 (by omega) hp hq yt xa ya ho1 ho2 hc1 hck
      · rcases made1_check (k := 6) hg (by decide) (by decide) with hck | hck | hck
        · exact md_u6_true_ok A _ c P B _ d Q w hs rfl rfl h60 (by omega) hp hq yt xa ya ho1 ho2 hc1 hck (made1_of hg (by decide) (by decide) ho1 hck)
        · exact md_u6_true_4 A _ c P B _ d Q w hs rfl rfl h60 (by omega) hp hq yt xa ya ho1 ho2 hc1 hck
        · exact md_u6_true_34 A _ c P B _ d Q w hs rfl rfl h60 (by omega) hp hq yt xa ya ho1 ho2 hc1 hck
  · have h19 : kk ≤ 19 := by simp [okK] at hok; omega
    rcases (by omega : (7 ≤ kk ∧ kk ≤ 11) ∨ (12 ≤ kk ∧ kk ≤ 15) ∨ (16 ≤ kk ∧ kk ≤ 17) ∨ (18 ≤ kk ∧ kk ≤ 19)) with ⟨k1, k2⟩ | ⟨k1, k2⟩ | ⟨k1, k2⟩ | ⟨k1, k2⟩
    · have hgv : gvK kk = false := by unfold gvK; simp; omega
      cases xt <;> cases yt
      · have hfk : fitK kk false false = true := by
          rcases (by omega : kk = 7 ∨ kk = 8 ∨ kk = 9 ∨ kk = 10 ∨ kk = 11) with rfl | rfl | rfl | rfl | rfl <;> rfl
        rcases made2_check (k := kk) hg hf h6 h19 with hck | hck | hck
        · exact md_bnum_false_false_ok A _ c P B _ d Q kk w hs rfl rfl h60 h61 hp hq xa ya ho1 ho2 hc1 hc2 k1 k2 hck (by have := made2_of hg hf h6 ho1 ho2 hck; rw [hfk, if_pos rfl, hgv] at this; exact this)
        · exact md_bnum_false_false_4 A _ c P B _ d Q kk w hs rfl rfl h60 h61 hp hq xa ya ho1 ho2 hc1 hc2 k1 k2 hck
        · exact md_bnum_false_false_34 A _ c P B _ d Q kk w hs rfl rfl h60 h61 hp hq xa ya ho1 ho2 hc1 hc2 k1 k2 hck
      · have hfk : fitK kk false true = false := by
          rcases (by omega : kk = 7 ∨ kk = 8 ∨ kk = 9 ∨ kk = 10 ∨ kk = 11) with rfl | rfl | rfl | rfl | rfl <;> rfl
        rcases made2_check (k := kk) hg hf h6 h19 with hck | hck | hck
        · exact md_bnum_false_true_ok A _ c P B _ d Q kk w hs rfl rfl h60 h61 hp hq xa ya ho1 ho2 hc1 hc2 k1 k2 hck (by have := made2_of hg hf h6 ho1 ho2 hck; rw [hfk, if_neg (by decide)] at this; exact this)
        · exact md_bnum_false_true_4 A _ c P B _ d Q kk w hs rfl rfl h60 h61 hp hq xa ya ho1 ho2 hc1 hc2 k1 k2 hck
        · exact md_bnum_false_true_34 A _ c P B _ d Q kk w hs rfl rfl h60 h61 hp hq xa ya ho1 ho2 hc1 hc2 k1 k2 hck
      · have hfk : fitK kk true false = false := by
          rcases (by omega : kk = 7 ∨ kk = 8 ∨ kk = 9 ∨ kk = 10 ∨ kk = 11) with rfl | rfl | rfl | rfl | rfl <;> rfl
        rcases made2_check (k := kk) hg hf h6 h19 with hck | hck | hck
        · exact md_bnum_true_false_ok A _ c P B _ d Q kk w hs rfl rfl h60 h61 hp hq xa ya ho1 ho2 hc1 hc2 k1 k2 hck (by have := made2_of hg hf h6 ho1 ho2 hck; rw [hfk, if_neg (by decide)] at this; exact this)
        · exact md_bnum_true_false_4 A _ c P B _ d Q kk w hs rfl rfl h60 h61 hp hq xa ya ho1 ho2 hc1 hc2 k1 k2 hck
        · exact md_bnum_true_false_34 A _ c P B _ d Q kk w hs rfl rfl h60 h61 hp hq xa ya ho1 ho2 hc1 hc2 k1 k2 hck
      · have hfk : fitK kk true true = false := by
          rcases (by omega : kk = 7 ∨ kk = 8 ∨ kk = 9 ∨ kk = 10 ∨ kk = 11) with rfl | rfl | rfl | rfl | rfl <;> rfl
        rcases made2_check (k := kk) hg hf h6 h19 with hck | hck | hck
        · exact md_bnum_true_true_ok A _ c P B _ d Q kk w hs rfl rfl h60 h61 hp hq xa ya ho1 ho2 hc1 hc2 k1 k2 hck (by have := made2_of hg hf h6 ho1 ho2 hck; rw [hfk, if_neg (by decide)] at this; exact this)
        · exact md_bnum_true_true_4 A _ c P B _ d Q kk w hs rfl rfl h60 h61 hp hq xa ya ho1 ho2 hc1 hc2 k1 k2 hck
        · exact md_bnum_true_true_34 A _ c P B _ d Q kk w hs rfl rfl h60 h61 hp hq xa ya ho1 ho2 hc1 hc2 k1 k2 hck
    · have hgv : gvK kk = true := by unfold gvK; simp; omega
      cases xt <;> cases yt
      · have hfk : fitK kk false false = true := by
          rcases (by omega : kk = 12 ∨ kk = 13 ∨ kk = 14 ∨ kk = 15) with rfl | rfl | rfl | rfl <;> rfl
        rcases made2_check (k := kk) hg hf h6 h19 with hck | hck | hck
        · exact md_bcmp_false_false_ok A _ c P B _ d Q kk w hs rfl rfl h60 h61 hp hq xa ya ho1 ho2 hc1 hc2 k1 k2 hck (by have := made2_of hg hf h6 ho1 ho2 hck; rw [hfk, if_pos rfl, hgv] at this; exact this)
        · exact md_bcmp_false_false_4 A _ c P B _ d Q kk w hs rfl rfl h60 h61 hp hq xa ya ho1 ho2 hc1 hc2 k1 k2 hck
        · exact md_bcmp_false_false_34 A _ c P B _ d Q kk w hs rfl rfl h60 h61 hp hq xa ya ho1 ho2 hc1 hc2 k1 k2 hck
      · have hfk : fitK kk false true = false := by
          rcases (by omega : kk = 12 ∨ kk = 13 ∨ kk = 14 ∨ kk = 15) with rfl | rfl | rfl | rfl <;> rfl
        rcases made2_check (k := kk) hg hf h6 h19 with hck | hck | hck
        · exact md_bcmp_false_true_ok A _ c P B _ d Q kk w hs rfl rfl h60 h61 hp hq xa ya ho1 ho2 hc1 hc2 k1 k2 hck (by have := made2_of hg hf h6 ho1 ho2 hck; rw [hfk, if_neg (by decide)] at this; exact this)
        · exact md_bcmp_false_true_4 A _ c P B _ d Q kk w hs rfl rfl h60 h61 hp hq xa ya ho1 ho2 hc1 hc2 k1 k2 hck
        · exact md_bcmp_false_true_34 A _ c P B _ d Q kk w hs rfl rfl h60 h61 hp hq xa ya ho1 ho2 hc1 hc2 k1 k2 hck
      · have hfk : fitK kk true false = false := by
          rcases (by omega : kk = 12 ∨ kk = 13 ∨ kk = 14 ∨ kk = 15) with rfl | rfl | rfl | rfl <;> rfl
        rcases made2_check (k := kk) hg hf h6 h19 with hck | hck | hck
        · exact md_bcmp_true_false_ok A _ c P B _ d Q kk w hs rfl rfl h60 h61 hp hq xa ya ho1 ho2 hc1 hc2 k1 k2 hck (by have := made2_of hg hf h6 ho1 ho2 hck; rw [hfk, if_neg (by decide)] at this; exact this)
        · exact md_bcmp_true_false_4 A _ c P B _ d Q kk w hs rfl rfl h60 h61 hp hq xa ya ho1 ho2 hc1 hc2 k1 k2 hck
        · exact md_bcmp_true_false_34 A _ c P B _ d Q kk w hs rfl rfl h60 h61 hp hq xa ya ho1 ho2 hc1 hc2 k1 k2 hck
      · have hfk : fitK kk true true = false := by
          rcases (by omega : kk = 12 ∨ kk = 13 ∨ kk = 14 ∨ kk = 15) with rfl | rfl | rfl | rfl <;> rfl
        rcases made2_check (k := kk) hg hf h6 h19 with hck | hck | hck
        · exact md_bcmp_true_true_ok A _ c P B _ d Q kk w hs rfl rfl h60 h61 hp hq xa ya ho1 ho2 hc1 hc2 k1 k2 hck (by have := made2_of hg hf h6 ho1 ho2 hck; rw [hfk, if_neg (by decide)] at this; exact this)
        · exact md_bcmp_true_true_4 A _ c P B _ d Q kk w hs rfl rfl h60 h61 hp hq xa ya ho1 ho2 hc1 hc2 k1 k2 hck
        · exact md_bcmp_true_true_34 A _ c P B _ d Q kk w hs rfl rfl h60 h61 hp hq xa ya ho1 ho2 hc1 hc2 k1 k2 hck
    · have hgv : gvK kk = true := by unfold gvK; simp; omega
      cases xt <;> cases yt
      · have hfk : fitK kk false false = true := by
          rcases (by omega : kk = 16 ∨ kk = 17) with rfl | rfl <;> rfl
        rcases made2_check (k := kk) hg hf h6 h19 with hck | hck | hck
        · exact md_beq_false_false_ok A _ c P B _ d Q kk w hs rfl rfl h60 h61 hp hq xa ya ho1 ho2 hc1 hc2 k1 k2 hck (by have := made2_of hg hf h6 ho1 ho2 hck; rw [hfk, if_pos rfl, hgv] at this; exact this)
        · exact md_beq_false_false_4 A _ c P B _ d Q kk w hs rfl rfl h60 h61 hp hq xa ya ho1 ho2 hc1 hc2 k1 k2 hck
        · exact md_beq_false_false_34 A _ c P B _ d Q kk w hs rfl rfl h60 h61 hp hq xa ya ho1 ho2 hc1 hc2 k1 k2 hck
      · have hfk : fitK kk false true = false := by
          rcases (by omega : kk = 16 ∨ kk = 17) with rfl | rfl <;> rfl
        rcases made2_check (k := kk) hg hf h6 h19 with hck | hck | hck
        · exact md_beq_false_true_ok A _ c P B _ d Q kk w hs rfl rfl h60 h61 hp hq xa ya ho1 ho2 hc1 hc2 k1 k2 hck (by have := made2_of hg hf h6 ho1 ho2 hck; rw [hfk, if_neg (by decide)] at this; exact this)
        · exact md_beq_false_true_4 A _ c P B _ d Q kk w hs rfl rfl h60 h61 hp hq xa ya ho1 ho2 hc1 hc2 k1 k2 hck
        · exact md_beq_false_true_34 A _ c P B _ d Q kk w hs rfl rfl h60 h61 hp hq xa ya ho1 ho2 hc1 hc2 k1 k2 hck
      · have hfk : fitK kk true false = false := by
          rcases (by omega : kk = 16 ∨ kk = 17) with rfl | rfl <;> rfl
        rcases made2_check (k := kk) hg hf h6 h19 with hck | hck | hck
        · exact md_beq_true_false_ok A _ c P B _ d Q kk w hs rfl rfl h60 h61 hp hq xa ya ho1 ho2 hc1 hc2 k1 k2 hck (by have := made2_of hg hf h6 ho1 ho2 hck; rw [hfk, if_neg (by decide)] at this; exact this)
        · exact md_beq_true_false_4 A _ c P B _ d Q kk w hs rfl rfl h60 h61 hp hq xa ya ho1 ho2 hc1 hc2 k1 k2 hck
        · exact md_beq_true_false_34 A _ c P B _ d Q kk w hs rfl rfl h60 h61 hp hq xa ya ho1 ho2 hc1 hc2 k1 k2 hck
      · have hfk : fitK kk true true = true := by
          rcases (by omega : kk = 16 ∨ kk = 17) with rfl | rfl <;> rfl
        rcases made2_check (k := kk) hg hf h6 h19 with hck | hck | hck
        · exact md_beq_true_true_ok A _ c P B _ d Q kk w hs rfl rfl h60 h61 hp hq xa ya ho1 ho2 hc1 hc2 k1 k2 hck (by have := made2_of hg hf h6 ho1 ho2 hck; rw [hfk, if_pos rfl, hgv] at this; exact this)
        · exact md_beq_true_true_4 A _ c P B _ d Q kk w hs rfl rfl h60 h61 hp hq xa ya ho1 ho2 hc1 hc2 k1 k2 hck
        · exact md_beq_true_true_34 A _ c P B _ d Q kk w hs rfl rfl h60 h61 hp hq xa ya ho1 ho2 hc1 hc2 k1 k2 hck
    · have hgv : gvK kk = true := by unfold gvK; simp; omega
      cases xt <;> cases yt
      · have hfk : fitK kk false false = false := by
          rcases (by omega : kk = 18 ∨ kk = 19) with rfl | rfl <;> rfl
        rcases made2_check (k := kk) hg hf h6 h19 with hck | hck | hck
        · exact md_blog_false_false_ok A _ c P B _ d Q kk w hs rfl rfl h60 h61 hp hq xa ya ho1 ho2 hc1 hc2 k1 k2 hck (by have := made2_of hg hf h6 ho1 ho2 hck; rw [hfk, if_neg (by decide)] at this; exact this)
        · exact md_blog_false_false_4 A _ c P B _ d Q kk w hs rfl rfl h60 h61 hp hq xa ya ho1 ho2 hc1 hc2 k1 k2 hck
        · exact md_blog_false_false_34 A _ c P B _ d Q kk w hs rfl rfl h60 h61 hp hq xa ya ho1 ho2 hc1 hc2 k1 k2 hck
      · have hfk : fitK kk false true = false := by
          rcases (by omega : kk = 18 ∨ kk = 19) with rfl | rfl <;> rfl
        rcases made2_check (k := kk) hg hf h6 h19 with hck | hck | hck
        · exact md_blog_false_true_ok A _ c P B _ d Q kk w hs rfl rfl h60 h61 hp hq xa ya ho1 ho2 hc1 hc2 k1 k2 hck (by have := made2_of hg hf h6 ho1 ho2 hck; rw [hfk, if_neg (by decide)] at this; exact this)
        · exact md_blog_false_true_4 A _ c P B _ d Q kk w hs rfl rfl h60 h61 hp hq xa ya ho1 ho2 hc1 hc2 k1 k2 hck
        · exact md_blog_false_true_34 A _ c P B _ d Q kk w hs rfl rfl h60 h61 hp hq xa ya ho1 ho2 hc1 hc2 k1 k2 hck
      · have hfk : fitK kk true false = false := by
          rcases (by omega : kk = 18 ∨ kk = 19) with rfl | rfl <;> rfl
        rcases made2_check (k := kk) hg hf h6 h19 with hck | hck | hck
        · exact md_blog_true_false_ok A _ c P B _ d Q kk w hs rfl rfl h60 h61 hp hq xa ya ho1 ho2 hc1 hc2 k1 k2 hck (by have := made2_of hg hf h6 ho1 ho2 hck; rw [hfk, if_neg (by decide)] at this; exact this)
        · exact md_blog_true_false_4 A _ c P B _ d Q kk w hs rfl rfl h60 h61 hp hq xa ya ho1 ho2 hc1 hc2 k1 k2 hck
        · exact md_blog_true_false_34 A _ c P B _ d Q kk w hs rfl rfl h60 h61 hp hq xa ya ho1 ho2 hc1 hc2 k1 k2 hck
      · have hfk : fitK kk true true = true := by
          rcases (by omega : kk = 18 ∨ kk = 19) with rfl | rfl <;> rfl
        rcases made2_check (k := kk) hg hf h6 h19 with hck | hck | hck
        · exact md_blog_true_true_ok A _ c P B _ d Q kk w hs rfl rfl h60 h61 hp hq xa ya ho1 ho2 hc1 hc2 k1 k2 hck (by have := made2_of hg hf h6 ho1 ho2 hck; rw [hfk, if_pos rfl, hgv] at this; exact this)
        · exact md_blog_true_true_4 A _ c P B _ d Q kk w hs rfl rfl h60 h61 hp hq xa ya ho1 ho2 hc1 hc2 k1 k2 hck
        · exact md_blog_true_true_34 A _ c P B _ d Q kk w hs rfl rfl h60 h61 hp hq xa ya ho1 ho2 hc1 hc2 k1 k2 hck
end Go.Proofs.YtfnkofcgjbakeaaDoor.K6
