
/- The contract of Parse. -/
import Derived.Test.YtfnkofcgjbakeaaDoorELine
import Derived.Test.YtfnkofcgjbakeaaDoorLB
namespace Go.Proofs.YtfnkofcgjbakeaaDoor
open Go.ChangeShapes Go.WideShapes Go.ChangeAt Go.RowKit N4
set_option linter.unusedVariables false
set_option maxRecDepth 100000

def atOk (L : List Tok) : Bool := L.all fun t => decide (0 ≤ t.a) && decide (t.a ≤ 400)
def chkF (L : List Tok) : Int := if 200 < L.length then 4 else if okL L = true then (if atOk L = true then 0 else 8) else 8
theorem at_mem {L : List Tok} (h : atOk L = true) : ∀ t ∈ L, TkOk t := by
  intro t ht
  have := (List.all_eq_true.1 h) t ht
  simpa [TkOk] using this
theorem at_bad {L : List Tok} {k : Nat} {t : Tok} (hk : L[k]? = some t) (h : t.a < 0 ∨ 400 < t.a) : atOk L = false := by
  cases ha : atOk L with
  | false => rfl
  | true => have := at_mem ha t (List.mem_of_getElem? hk); unfold TkOk at this; omega
theorem at_all {L : List Tok} (h : ∀ t ∈ L, TkOk t) : atOk L = true := by
  unfold atOk
  rw [List.all_eq_true]
  intro t ht
  have := h t ht
  simpa [TkOk] using this

set_option maxHeartbeats 2000000 in
theorem check_tok (A : Option Addr) (c : Nat) (L : List Tok) (w : World) (hL : L.length ≤ maxLen) (ht : Toks w A L) (hs : ∀ t ∈ L, t.s.length ≤ maxLen) (tb : Tabs w) (v : Int) (hv : chkF L = v) :
    Calls Tryd.prog 54 #[.slice A L.length c] w fun e w' => e = .returned (.int .i64 v) ∧ Below w.heap.size w w' := by
  obtain ⟨T, er, hj⟩ : ∃ T er, joinF L = (T, er) := ⟨_, _, rfl⟩
  have HJ := Lib.hid (join_any A c L w hL ht hs tb T er hj)
  by_cases he : er = 0 ∨ er = 18
  · have hlen : L.length ≤ 200 ∧ okL L = true := by
      unfold joinF at hj
      by_cases h1 : 200 < L.length
      · rw [if_pos h1] at hj; have := (Prod.mk.inj hj).2; omega
      · rw [if_neg h1] at hj
        by_cases h2 : okL L = true
        · exact ⟨by omega, h2⟩
        · rw [if_neg h2] at hj; have := (Prod.mk.inj hj).2; omega
    have hv2 : (if atOk L = true then (0 : Int) else 8) = v := by rw [← hv, chkF, if_neg (show ¬ 200 < L.length by omega), if_pos hlen.2]
    have HV := Lib.hid hv2
    have HT := Lib.hid (show ∀ W, Below w.heap.size w W → Toks W A L from fun W hb => ht.below hb)
    obtain ⟨n, hn⟩ : ∃ n, L.length = n := ⟨_, rfl⟩
    rw [hn] at hlen HJ
    have HN := Lib.hid hn
    have hn2 := hlen.1
    rw [hn]
    have hcond : (er != 0 && er != 18) = false := by rcases he with rfl | rfl <;> rfl
    clear hj hv hv2 hL ht hs tb hn hlen
    have body : ∀ (e0 : er = 0 ∨ er = 18), Calls Tryd.prog 54 #[.slice A n c] w fun e w' => e = .returned (.int .i64 v) ∧ Below w.heap.size w w' := by
      intro e0
      rcases e0 with rfl | rfl
      all_goals
        go_enter Tryd.func54, Tryd.ntmps54
        go_wp2_with (go_at_call 71; refine HJ.out.mono ?_; rintro e w2 ⟨rfl, hb, _⟩; have HB := Lib.hid hb; clear hb)
        go_loopw [21] (fun i wx => ∃ k : Nat, k ≤ n ∧ i = .int .i64 k ∧ Hid (∀ t ∈ L.take k, TkOk t) ∧ Hid (Below w.heap.size w wx)) (fun i _ => n - (intOf i).toNat)
        case atStart => exact ⟨0, Nat.zero_le _, rfl, Lib.hid (by simp), HB⟩
        case round =>
          clear HB
          obtain ⟨k, hk, rfl, hd, HB⟩ := hrel
          by_cases hlt : k < n
          · obtain ⟨ad, t, rfl, ⟨c0, c1, c2⟩, ht⟩ := (HT.out wr HB.out).at_ k (by rw [HN.out]; exact hlt)
            have HK := Lib.hid ht
            clear ht
            obtain ⟨tk, ts, ta⟩ := t
            simp only at c0 c1 c2
            by_cases h2 : ta < 0
            · have HG := Lib.hid (show v = 8 by rw [← HV.out, at_bad HK.out (.inl h2)]; rfl)
              go_wp2
              go_ret
              refine ⟨ret_int' HG.out.symm, HB.out.trans ?_⟩
              repeat (first | exact Below.refl _ _ | refine Below.setCell ?_ (by have := HB.out.size; simp; omega) _ | refine Below.alloc ?_ (by have := HB.out.size; simp; try omega) _ )
            · by_cases h3 : 400 < ta
              · have HG := Lib.hid (show v = 8 by rw [← HV.out, at_bad HK.out (.inr h3)]; rfl)
                go_wp2
                go_ret
                refine ⟨ret_int' HG.out.symm, HB.out.trans ?_⟩
                repeat (first | exact Below.refl _ _ | refine Below.setCell ?_ (by have := HB.out.size; simp; omega) _ | refine Below.alloc ?_ (by have := HB.out.size; simp; try omega) _ )
              · go_wp2
                go_roundw
                case rel =>
                  refine ⟨k + 1, by omega, by go_num, Lib.hid ?_, Lib.hid (HB.out.trans ?_)⟩
                  · rw [take_snoc_tok L k _ HK.out]
                    intro u hu
                    rcases List.mem_append.1 hu with hu | hu
                    · exact hd.out u hu
                    · simp only [List.mem_singleton] at hu; subst hu; exact ⟨by show 0 ≤ ta; omega, by show ta ≤ 400; omega⟩
                  · repeat (first | exact Below.refl _ _ | refine Below.setCell ?_ (by have := HB.out.size; simp; omega) _ | refine Below.alloc ?_ (by have := HB.out.size; simp; try omega) _ )
                case measure => simp [intOf]; omega
          · have HG := Lib.hid (show v = 0 by rw [← HV.out, at_all (by have := hd.out; rwa [List.take_of_length_le (by rw [HN.out]; omega)] at this)]; rfl)
            go_wp2
            go_ret
            exact ⟨ret_int' HG.out.symm, HB.out⟩
    exact body he
  · have hve : v = er := by
      rw [← hv, chkF]
      unfold joinF at hj
      by_cases h1 : 200 < L.length
      · rw [if_pos h1] at hj ⊢; exact (Prod.mk.inj hj).2
      · rw [if_neg h1] at hj ⊢
        by_cases h2 : okL L = true
        · rw [if_pos h2] at hj
          by_cases h3 : 400 < (jn (L.map (·.s))).length
          · rw [if_pos h3] at hj; have := (Prod.mk.inj hj).2; omega
          · rw [if_neg h3] at hj; have := (Prod.mk.inj hj).2; omega
        · rw [if_neg h2] at hj ⊢; exact (Prod.mk.inj hj).2
    subst hve
    have h1 := errno_ne (show v ≠ 0 by omega)
    have h2 : (v != 18) = true := by rw [bne_iff_ne]; omega
    clear hj hv hL ht hs tb he
    generalize L.length = n at HJ
    go_enter Tryd.func54, Tryd.ntmps54
    go_wp2_with (go_at_call 71; refine HJ.out.mono ?_; rintro e w2 ⟨rfl, hb, _⟩; have HB := Lib.hid hb; clear hb)
    go_ret
    exact ⟨rfl, HB.out⟩

theorem chk_zero {L : List Tok} (h : chkF L = 0) : L.length ≤ 200 ∧ okL L = true ∧ ∀ t ∈ L, TkOk t := by
  unfold chkF at h
  by_cases h1 : 200 < L.length
  · rw [if_pos h1] at h; omega
  · rw [if_neg h1] at h
    by_cases h2 : okL L = true
    · rw [if_pos h2] at h
      by_cases h3 : atOk L = true
      · exact ⟨by omega, h2, at_mem h3⟩
      · rw [if_neg h3] at h; omega
    · rw [if_neg h2] at h; omega

theorem parse_bad (A : Option Addr) (c n : Nat) (L : List Tok) (at_ : Int) (w : World) (hn : L.length = n) (hL : n ≤ maxLen) (ht : Toks w A L) (hs : ∀ t ∈ L, t.s.length ≤ maxLen) (tb : Tabs w) (v : Int) (hv : chkF L = v) (h0 : v ≠ 0) :
    Calls Tryd.prog 31 #[.slice A n c, .int .i64 at_] w fun e w' => e = .returned (.tuple #[.slice none 0 0, .int .i64 0, .int .i64 v]) ∧ Below w.heap.size w w' := by
  subst hn
  have HC := Lib.hid (check_tok A c L w hL ht hs tb v hv)
  have hvb := errno_ne h0
  clear hv ht hs tb h0
  generalize L.length = n at HC hL
  go_enter Tryd.func31, Tryd.ntmps31
  go_wp2_with (go_at_call 54; refine HC.out.mono ?_; rintro e w2 ⟨rfl, hb⟩; have HB := Lib.hid hb; clear hb)
  go_ret3
  exact ⟨rfl, HB.out⟩
theorem parse_arg (A : Option Addr) (c n : Nat) (L : List Tok) (at_ : Int) (w : World) (hn : L.length = n) (hL : n ≤ maxLen) (ht : Toks w A L) (hs : ∀ t ∈ L, t.s.length ≤ maxLen) (tb : Tabs w) (hv : chkF L = 0) (ha : at_ < 0 ∨ n < at_) :
    Calls Tryd.prog 31 #[.slice A n c, .int .i64 at_] w fun e w' => e = .returned (.tuple #[.slice none 0 0, .int .i64 0, .int .i64 2]) ∧ Below w.heap.size w w' := by
  subst hn
  have HC := Lib.hid (check_tok A c L w hL ht hs tb 0 hv)
  clear hv ht hs tb
  generalize L.length = n at HC hL ha
  by_cases h1 : at_ < 0
  · clear ha
    go_enter Tryd.func31, Tryd.ntmps31
    go_wp2_with (go_at_call 54; refine HC.out.mono ?_; rintro e w2 ⟨rfl, hb⟩; have HB := Lib.hid hb; clear hb)
    go_ret3
    exact ⟨rfl, HB.out⟩
  · have h2 : (n : Int) < at_ := by omega
    clear ha
    go_enter Tryd.func31, Tryd.ntmps31
    go_wp2_with (go_at_call 54; refine HC.out.mono ?_; rintro e w2 ⟨rfl, hb⟩; have HB := Lib.hid hb; clear hb)
    go_ret3
    exact ⟨rfl, HB.out⟩

def PPost (n : Nat) (r : R) (w : World) (e : Ending) (w' : World) : Prop :=
  Below w.heap.size w w' ∧
  match r with
  | .ok t q => ∃ A' c', e = .returned (.tuple #[.slice A' t.sz (t.sz + c'), .int .i64 ((n - q.length : Nat) : Int), .int .i64 0]) ∧ Lies w' A' (ndCells t.flat)
  | .er v q => e = .returned (.tuple #[.slice none 0 0, .int .i64 ((n - q.length : Nat) : Int), .int .i64 v])

set_option maxHeartbeats 1000000 in
theorem parse_any (A : Option Addr) (c n : Nat) (L : List Tok) (i : Nat) (w : World) (hn : L.length = n) (ht : Toks w A L) (hs : ∀ t ∈ L, t.s.length ≤ maxLen) (tb : Tabs w) (tb5 : Tab5 w) (hv : chkF L = 0) (hi : i ≤ n) (r : R) (hr : Rd (.line 0) (L.drop i) r) :
    Calls Tryd.prog 31 #[.slice A n c, .int .i64 i] w (PPost n r w) := by
  subst hn
  have hz := chk_zero hv
  have HC := Lib.hid (check_tok A c L w (by unfold maxLen; omega) ht hs tb 0 hv)
  have HX := Lib.hid (fun (W : World) (hb : Below w.heap.size w W) => (⟨rfl, ht.below hb, tb5.stays hb, hz.1, fun x hx => ⟨hz.2.2 x hx, hs x hx⟩⟩ : Fx W L A c W.heap.size))
  have HPS := Lib.hid (fun (W : World) => (⟨List.drop_suffix i L, (Below.refl _ _).alloc (Nat.le_refl _) _, by rw [List.length_drop, show L.length - (L.length - i) = i by omega]; exact Rdr.of_alloc rfl⟩ : PS W L A c W.heap.size (L.drop i) (W.alloc (.cells #[.slice A L.length c, .int .i64 i] 91))))
  have HE := Lib.hid (fun (W : World) (hb : Below w.heap.size w W) => expr_any W L A c W.heap.size (HX.out W hb) L.length _ r _ (by rw [List.length_drop]; omega) hr (HPS.out W))
  have h1 : ¬ ((i : Int) < 0) := by omega
  have h2 : ¬ ((L.length : Int) < i) := by omega
  have hL := hz.1
  clear hz HX HPS hv ht hs tb tb5 hr hi
  cases r with
  | er v q =>
    unfold LPost at HE
    simp only [R.rest] at HE
    obtain ⟨j, hj⟩ : ∃ j, L.length - q.length = j := ⟨_, rfl⟩
    unfold PPost
    simp only [hj]
    rw [hj] at HE
    have HK := Lib.hid (fun (W W' : World) (hk : Kp W.heap.size (W.alloc (.cells #[.slice A L.length c, .int .i64 i] 91)) W') => (hk.below ((Below.refl W.heap.size W).alloc (Nat.le_refl _) _) (by simp) : Below W.heap.size W W'))
    generalize L.length = n at HE HC h2 hL HK
    clear hj
    go_enter Tryd.func31, Tryd.ntmps31
    go_wp2_with (first
      | (go_at_call 54; refine HC.out.mono ?_; rintro e w2 ⟨rfl, hb⟩; have HB := Lib.hid hb; clear hb)
      | (go_at_call 55; refine (HE.out _ HB.out).mono ?_; rintro e w3 ⟨hk, hr, rfl⟩; have hc1 := hr.c1; have hlt := hr.lt; have HK2 := Lib.hid (HK.out _ _ hk); clear hk hr))
    go_quiet (fail)
    go_wp2
    go_ret3
    exact ⟨HB.out.trans ((HK2.out.mono HB.out.size).trans (Below.drewN' (Below.refl _ _) _)), rfl⟩
  | ok t q =>
    unfold LPost at HE
    simp only [R.rest] at HE
    obtain ⟨j, hj⟩ : ∃ j, L.length - q.length = j := ⟨_, rfl⟩
    unfold PPost
    simp only [hj]
    rw [hj] at HE
    have HK := Lib.hid (fun (W W' : World) (hk : Kp W.heap.size (W.alloc (.cells #[.slice A L.length c, .int .i64 i] 91)) W') => (hk.below ((Below.refl W.heap.size W).alloc (Nat.le_refl _) _) (by simp) : Below W.heap.size W W'))
    generalize L.length = n at HE HC h2 hL HK
    clear hj
    go_enter Tryd.func31, Tryd.ntmps31
    go_wp2_with (first
      | (go_at_call 54; refine HC.out.mono ?_; rintro e w2 ⟨rfl, hb⟩; have HB := Lib.hid hb; clear hb)
      | (go_at_call 55; refine (HE.out _ HB.out).mono ?_; rintro e w3 ⟨hk, hr, A', c', rfl, hl⟩; have hc1 := hr.c1; have hlt := hr.lt; have HK2 := Lib.hid (HK.out _ _ hk); have HL := Lib.hid hl; clear hk hr hl))
    go_quiet (fail)
    go_wp2
    go_ret3
    exact ⟨HB.out.trans ((HK2.out.mono HB.out.size).trans (Below.drewN' (Below.refl _ _) _)), A', c', rfl, HL.out.below (bd_drewN _ _)⟩
end Go.Proofs.YtfnkofcgjbakeaaDoor
