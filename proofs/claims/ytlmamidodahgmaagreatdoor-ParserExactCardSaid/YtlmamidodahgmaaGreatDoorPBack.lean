/- The words of a query, and that they are parsed as it. -/
import Derived.Test.YtlmamidodahgmaaGreatDoorPLexU
namespace Go.Proofs.YtlmamidodahgmaaGreatDoor.P9
open Go.RowKit N4 Q8
set_option linter.unusedVariables false
set_option maxRecDepth 100000

def nmB (v : Int) : List UInt8 := if v = 0 then [97] else if v = 1 then [98] else if v = 2 then [99] else [100]
def aggB (g : Int) : List UInt8 := if g = 1 then k_count else if g = 2 then k_sum else if g = 3 then k_min else k_max
def winB (k : Int) : List UInt8 := if k = 1 then k_tumble else if k = 2 then k_slide else k_session
theorem nm_so {v : Int} (h : 0 ≤ v ∧ v ≤ 3) : soE (nmB v) = 0 ∧ soF (nmB v) = v := by
  have hv : v = 0 ∨ v = 1 ∨ v = 2 ∨ v = 3 := by omega
  rcases hv with rfl | rfl | rfl | rfl <;> decide
theorem agg_idx {g : Int} (h : 1 ≤ g ∧ g ≤ 4) : idxOf (aggB g) aggs = some (g - 1).toNat := by
  have hv : g = 1 ∨ g = 2 ∨ g = 3 ∨ g = 4 := by omega
  rcases hv with rfl | rfl | rfl | rfl <;> decide
theorem win_idx {k : Int} (h : 1 ≤ k ∧ k ≤ 3) : idxOf (winB k) wins = some (k - 1).toNat := by
  have hv : k = 1 ∨ k = 2 ∨ k = 3 := by omega
  rcases hv with rfl | rfl | rfl <;> decide
def srcW (j : Bool) : List Int → List (List UInt8)
  | [] => []
  | v :: l => nmB v :: l.flatMap fun u => [if j then k_join else k_union, nmB u]
/-- An expression's tree. -/
structure TrOf (L : List Nd) (t : Tr) : Prop where
  ok : t.ok = true
  er : t.er = 0
  big : t.big
  flat : t.flat = L
theorem no_window : NoOp 0 k_window := by
  intro j _ hj
  have key : ∀ j : Fin 7, opOf (loK j.val) (hiK j.val) k_window = none := by decide +kernel
  exact key ⟨j, by have := ch_le hj; omega⟩
theorem TrOf.back {L : List Nd} {t : Tr} (h : TrOf L t) {M r : List Tok} (hM : M.map (·.s) = t.tx) (hr : NoOp 0 (txt r)) : ∃ t', t'.flat.map unp = L.map unp ∧ Rd (.line 0) (M ++ r) (.ok t' r) := by
  obtain ⟨t', hz, hrd⟩ := (_root_.Go.Proofs.YtlmamidodahgmaaGreatDoor.back t h.ok h.big h.er).1 M r hM hr
  exact ⟨t', by rw [Tr.flat_z hz, h.flat], hrd⟩

def aggW (g : Int) (tx : List (List UInt8)) : List (List UInt8) := [k_select] ++ (aggB g :: ([[40]] ++ tx ++ [[41]]))
theorem agg_back {g : Int} (hg : 1 ≤ g ∧ g ≤ 4) {L : List Nd} {t : Tr} (h1 : g = 1 → L = []) (h2 : g ≠ 1 → TrOf L t) {c : List Tok} (hc : c.map (·.s) = aggW g (if g = 1 then [[42]] else t.tx)) (r : List Tok) :
    ∃ L', L'.map unp = L.map unp ∧ aggP q0 (c ++ r) = .ok ⟨g, L', [], false, [], 0, 0, 0, false, 0⟩ r := by
  unfold aggW at hc
  obtain ⟨c1, c2, rfl, m1, hc1⟩ := map_app_inv hc
  obtain ⟨x, c4, rfl, hx, hc2⟩ := map_cons_inv hc1
  clear hc hc1
  have hi := agg_idx hg
  have hgo : ∀ s, aggP q0 (c1 ++ x :: s) = argP { q0 with g := g } s := by
    intro s
    unfold aggP
    rw [exp_go q0 _ m1]
    show (match idxOf x.s aggs with | none => PR.er 12 (x :: s) | some i => argP { q0 with g := 1 + (i : Int) } s) = _
    rw [hx, hi]
    show argP { q0 with g := 1 + (((g - 1).toNat : Nat) : Int) } s = _
    rw [show 1 + (((g - 1).toNat : Nat) : Int) = g by omega]
  have e : c1 ++ x :: c4 ++ r = c1 ++ x :: (c4 ++ r) := by simp
  rw [e, hgo]
  by_cases h : g = 1
  · rw [if_pos h] at hc2
    refine ⟨[], by rw [h1 h], ?_⟩
    unfold argP
    rw [if_pos (by exact h)]
    exact exp_go _ _ hc2
  · rw [if_neg h] at hc2
    obtain ⟨d1, d4, rfl, n1, hc3⟩ := map_app_inv (show c4.map (·.s) = [[40]] ++ (t.tx ++ [[41]]) by rw [hc2]; simp)
    obtain ⟨d5, d6, rfl, n5, n6⟩ := map_app_inv hc3
    obtain ⟨y, d7, rfl, hy, h7⟩ := map_cons_inv n6
    obtain rfl : d7 = [] := by simpa using h7
    obtain ⟨t', ht', hrd⟩ := (h2 h).back (r := [y] ++ r) n5 (by show NoOp 0 y.s; rw [hy]; exact no_close)
    refine ⟨t'.flat, ht', ?_⟩
    unfold argP
    rw [if_neg (by exact h)]
    rw [List.append_assoc, exp_go _ _ n1, List.append_assoc]
    show (exprP _ (d5 ++ ([y] ++ r))).bind _ = _
    rw [expr_go hrd]
    exact exp_go _ _ n6

theorem unions_back : ∀ (l acc : List Int), SrcOk (acc ++ l) → ∀ (g : Int) (L : List Nd) {c r : List Tok}, c.map (·.s) = l.flatMap (fun u => [k_union, nmB u]) → txt r ≠ k_union → unionsP (c ++ r) ⟨g, L, acc, false, [], 0, 0, 0, false, 0⟩ = .ok ⟨g, L, acc ++ l, false, [], 0, 0, 0, false, 0⟩ r := by
  intro l
  induction l with
  | nil =>
    intro acc _ g L c r hc hr
    obtain rfl : c = [] := by simpa using hc
    rw [List.append_nil]
    exact unions_stop hr
  | cons v l ih =>
    intro acc hk g L c r hc hr
    obtain ⟨x, c1, rfl, hx, hc⟩ := map_cons_inv hc
    obtain ⟨y, c2, rfl, hy, hc⟩ := map_cons_inv hc
    have hv := hk.2 v (by simp)
    obtain ⟨s1, s2⟩ := nm_so hv
    show unionsP (x :: y :: (c2 ++ r)) _ = _
    rw [unionsP, if_pos (show x.s = k_union from hx), hy, if_pos s1, s2]
    have hna : acc.any (fun u => u == v) = false := by
      rw [List.any_eq_false]
      intro u hu he
      have he : u = v := by simpa using he
      subst he
      have := (List.nodup_append.1 hk.1).2.2 u hu u List.mem_cons_self
      exact this rfl
    rw [show (List.any (⟨g, L, acc, false, [], 0, 0, 0, false, 0⟩ : Qy).l fun u => u == v) = false from hna, if_neg (by decide)]
    have := ih (acc ++ [v]) (by rw [List.append_assoc]; exact hk) g L hc hr
    rw [List.append_assoc] at this
    exact this
def fromW (j : Bool) (l : List Int) : List (List UInt8) := [k_from] ++ srcW j l
theorem from_back {l : List Int} {j : Bool} (hk : SrcOk l) (h0 : l ≠ []) (hj : j = true → l.length = 2) (g : Int) (L : List Nd) {c r : List Tok} (hc : c.map (·.s) = fromW j l) (hr : txt r ≠ k_join ∧ txt r ≠ k_union) :
    fromP ⟨g, L, [], false, [], 0, 0, 0, false, 0⟩ (c ++ r) = .ok ⟨g, L, l, j, [], 0, 0, 0, false, 0⟩ r := by
  cases l with
  | nil => exact absurd rfl h0
  | cons v l =>
    obtain ⟨c1, c2, rfl, m1, hc⟩ := map_app_inv hc
    obtain ⟨x, c3, rfl, hx, hc⟩ := map_cons_inv hc
    obtain ⟨s1, s2⟩ := nm_so (hk.2 v List.mem_cons_self)
    rw [← hx] at s1 s2
    unfold fromP
    rw [List.append_assoc, exp_go _ _ m1]
    show (nameP _ (x :: (c3 ++ r))).bind _ = _
    rw [name_go (c3 ++ r) s1 rfl, s2]
    show (if txt (c3 ++ r) = k_join then nameP ⟨g, L, [v], true, [], 0, 0, 0, false, 0⟩ (c3 ++ r).tail else unionsP (c3 ++ r) ⟨g, L, [v], false, [], 0, 0, 0, false, 0⟩) = _
    cases j with
    | false =>
      have hn : txt (c3 ++ r) ≠ k_join := by
        cases l with
        | nil =>
          obtain rfl : c3 = [] := by simpa using hc
          exact hr.1
        | cons u l =>
          obtain ⟨y, c4, rfl, hy, hc⟩ := map_cons_inv hc
          show y.s ≠ _
          rw [hy]; decide
      rw [if_neg hn]
      exact unions_back l [v] hk g L hc hr.2
    | true =>
      obtain ⟨u, rfl⟩ : ∃ u, l = [u] := List.length_eq_one_iff.1 (by have := hj rfl; simp at this; exact this)
      obtain ⟨y, c4, rfl, hy, hc⟩ := map_cons_inv hc
      obtain ⟨z, c5, rfl, hz, hc⟩ := map_cons_inv hc
      obtain rfl : c5 = [] := by simpa using hc
      obtain ⟨u1, u2⟩ := nm_so (hk.2 u (by simp))
      rw [← hz] at u1 u2
      rw [if_pos (show txt (y :: [z] ++ r) = k_join from hy)]
      show nameP _ (z :: r) = _
      have hne : v ≠ u := by have := hk.1; simp at this; exact this
      rw [name_go r u1 (by rw [u2]; simp [hne]), u2]; rfl
def whereW (b : Bool) (tx : List (List UInt8)) : List (List UInt8) := if b then [k_where] ++ tx else []
theorem where_back {M : List Nd} {t : Tr} (hM : M ≠ [] → TrOf M t) (g : Int) (L : List Nd) (l : List Int) (j : Bool) {c r : List Tok} (hc : c.map (·.s) = whereW (!M.isEmpty) t.tx) (hr : txt r = k_window) :
    ∃ M', M'.map unp = M.map unp ∧ whereP ⟨g, L, l, j, [], 0, 0, 0, false, 0⟩ (c ++ r) = .ok ⟨g, L, l, j, M', 0, 0, 0, false, 0⟩ r := by
  unfold whereP
  cases hM' : M.isEmpty
  · rw [hM'] at hc
    obtain ⟨x, c1, rfl, hx, hc⟩ := map_cons_inv hc
    obtain ⟨t', ht', hrd⟩ := (hM (by intro e; rw [e] at hM'; cases hM')).back (r := r) hc (by rw [hr]; exact no_window)
    refine ⟨t'.flat, ht', ?_⟩
    rw [if_pos (show txt (x :: c1 ++ r) = k_where from hx)]
    exact expr_go hrd
  · rw [hM'] at hc
    obtain rfl : c = [] := by simpa [whereW] using hc
    obtain rfl : M = [] := by simpa using hM'
    refine ⟨[], rfl, ?_⟩
    rw [if_neg (by show ¬ txt r = _; rw [hr]; decide)]; rfl
def winW (k s v : Int) : List (List UInt8) := [k_window] ++ (winB k :: numT s :: (if k = 2 then [k_every] ++ [numT v] else []))
theorem fits_small {k s v : Int} (h : fitsW k s v = true) : (1 ≤ s ∧ s ≤ 1073741824) ∧ (1 ≤ k ∧ k ≤ 3) ∧ (k = 2 → 1 ≤ v ∧ v ≤ s) ∧ (k ≠ 2 → v = 0) ∧ fitsW 1 s 0 = true := by
  unfold fitsW at h ⊢
  simp only [Bool.and_eq_true] at h
  obtain ⟨h1, h2⟩ := h
  refine ⟨inB_true.1 h1, ?_, ?_, ?_, by simp [h1]⟩
  · by_cases hk : k = 2
    · omega
    · rw [if_neg hk] at h2; simp at h2; omega
  · intro hk
    rw [if_pos hk] at h2
    unfold slidesF at h2
    simp only [Bool.and_eq_true] at h2
    exact inB_true.1 h2.1
  · intro hk
    rw [if_neg hk] at h2; simp at h2; exact h2.2
theorem win_back {k s v : Int} (hf : fitsW k s v = true) (g : Int) (L : List Nd) (l : List Int) (j : Bool) (M : List Nd) (hj : j = true → k = 1) {c : List Tok} (hc : c.map (·.s) = winW k s v) (r : List Tok) :
    winP ⟨g, L, l, j, M, 0, 0, 0, false, 0⟩ (c ++ r) = .ok ⟨g, L, l, j, M, k, s, v, false, 0⟩ r := by
  obtain ⟨hs, hk, h2, hn2, hf1⟩ := fits_small hf
  obtain ⟨c1, c2, rfl, m1, hc⟩ := map_app_inv hc
  obtain ⟨x, c3, rfl, hx, hc⟩ := map_cons_inv hc
  obtain ⟨n, c4, rfl, hn, hc⟩ := map_cons_inv hc
  have hi := win_idx hk
  obtain ⟨a1, a2, _⟩ := num_ok (n := s) (by omega) (by omega)
  rw [← hn] at a1 a2
  unfold winP
  rw [List.append_assoc, exp_go _ _ m1]
  show (match idxOf x.s wins with | none => PR.er 12 (x :: (n :: c4 ++ r)) | some i => _) = _
  rw [hx, hi]
  show (if j = true ∧ (k - 1).toNat ≠ 0 then _ else _) = _
  rw [if_neg (by rintro ⟨e1, e2⟩; have := hj e1; omega)]
  have hk1 : 1 + (((k - 1).toNat : Nat) : Int) = k := by omega
  rw [hk1]
  have hsz : sizeP k ⟨g, L, l, j, M, 0, 0, 0, false, 0⟩ (n :: (c4 ++ r)) = .ok ⟨g, L, l, j, M, k, s, 0, false, 0⟩ (c4 ++ r) := by
    unfold sizeP
    rw [num_go _ (c4 ++ r) a1 (by show winE 1 (val n.s : Nat) 0 = 0; rw [a2]; exact badE_zero.2 hf1)]
    show PR.ok ⟨g, L, l, j, M, k, (val n.s : Nat), 0, false, 0⟩ _ = _
    rw [a2]
  show (sizeP k _ (n :: (c4 ++ r))).bind _ = _
  rw [hsz]
  show (if (k - 1).toNat = 1 then everyP _ (c4 ++ r) else _) = _
  by_cases h : k = 2
  · rw [if_pos h] at hc
    rw [if_pos (by omega)]
    obtain ⟨c5, c6, rfl, m5, hc⟩ := map_app_inv hc
    obtain ⟨m, c7, rfl, hm, hc⟩ := map_cons_inv hc
    obtain rfl : c7 = [] := by simpa using hc
    obtain ⟨b1, b2, _⟩ := num_ok (n := v) (by have := h2 h; omega) (by have := h2 h; omega)
    rw [← hm] at b1 b2
    unfold everyP
    rw [List.append_assoc, exp_go _ _ m5]
    show numP (fun z => (k, s, z)) _ (m :: r) = _
    rw [num_go _ r b1 (by show winE k s (val m.s : Nat) = 0; rw [b2]; exact badE_zero.2 hf)]
    show PR.ok ⟨g, L, l, j, M, k, s, (val m.s : Nat), false, 0⟩ _ = _
    rw [b2]
  · rw [if_neg h] at hc
    obtain rfl : c4 = [] := by simpa using hc
    rw [if_neg (by omega), hn2 h]; rfl
def keyW (y : Bool) : List (List UInt8) := if y then [k_by, k_key] else []
theorem key_back (y : Bool) (g : Int) (L : List Nd) (l : List Int) (j : Bool) (M : List Nd) (k s v : Int) {c r : List Tok} (hc : c.map (·.s) = keyW y) (hr : txt r ≠ k_by) :
    keyP ⟨g, L, l, j, M, k, s, v, false, 0⟩ (c ++ r) = .ok ⟨g, L, l, j, M, k, s, v, y, 0⟩ r := by
  unfold keyP
  cases y with
  | true =>
    obtain ⟨x, c1, rfl, hx, hc⟩ := map_cons_inv hc
    rw [if_pos (show txt (x :: c1 ++ r) = k_by from hx)]
    exact exp_go _ _ hc
  | false =>
    obtain rfl : c = [] := by simpa [keyW] using hc
    rw [if_neg (by exact hr)]; rfl
def lateW (t : Int) : List (List UInt8) := if t = 2 then [k_late, k_side] else []
theorem late_back {t : Int} (ht : 1 ≤ t ∧ t ≤ 2) (g : Int) (L : List Nd) (l : List Int) (j : Bool) (M : List Nd) (k s v : Int) (y : Bool) {c : List Tok} (hc : c.map (·.s) = lateW t) :
    lateP ⟨g, L, l, j, M, k, s, v, y, 0⟩ c = .ok ⟨g, L, l, j, M, k, s, v, y, t⟩ [] := by
  unfold lateP
  by_cases h : t = 2
  · subst h
    obtain ⟨x, c1, rfl, hx, hc⟩ := map_cons_inv hc
    obtain ⟨z, c2, rfl, hz, hc⟩ := map_cons_inv hc
    obtain rfl : c2 = [] := by simpa using hc
    rw [if_pos (show txt [x, z] = k_late from hx)]
    show (match idxOf z.s lates with | none => _ | some i => _) = _
    rw [hz]; rfl
  · obtain rfl : c = [] := by simpa [lateW, h] using hc
    obtain rfl : t = 1 := by omega
    rw [if_neg (by decide)]
/-- All words. -/
def wordsQ (q : Qy) (ta tm : Tr) : List (List UInt8) := aggW q.g (if q.g = 1 then [[42]] else ta.tx) ++ (fromW q.j q.l ++ (whereW (!q.M.isEmpty) tm.tx ++ (winW q.k q.s q.v ++ (keyW q.y ++ lateW q.t))))
structure Trees (q : Qy) (ta tm : Tr) : Prop where
  chk : Q8.chkF q = 0
  a : q.g ≠ 1 → TrOf q.L ta
  m : q.M ≠ [] → TrOf q.M tm
theorem chk_src {q : Qy} (h : Q8.chkF q = 0) : SrcOk q.l ∧ q.l ≠ [] ∧ (q.j = true → q.l.length = 2) := by
  obtain ⟨_, _, _, h4, _, _⟩ := (Q8.chk_zero q).1 h
  obtain ⟨_, h0, hj, hn, hd⟩ := srcF_zero.1 h4
  refine ⟨⟨hd, fun v hv => ?_⟩, fun e => h0 (by rw [e]; rfl), hj⟩
  have := List.any_eq_false.1 hn v hv
  simp only [nl, Bool.not_eq_true', Bool.not_eq_false] at this
  exact inB_true.1 this
theorem pq_back {q : Qy} {ta tm : Tr} (h : Trees q ta tm) {M : List Tok} (hM : M.map (·.s) = wordsQ q ta tm) : ∃ q', pqF M = .ok q' [] ∧ alQ q' q := by
  obtain ⟨hgt, harg, hwhr, _, hfit, hjk⟩ := (Q8.chk_zero q).1 h.chk
  obtain ⟨hk, hl0, hj2⟩ := chk_src h.chk
  have hg := inB_true.1 hgt.1
  have ht := inB_true.1 hgt.2
  obtain ⟨g, L, l, j, Mm, k, s, v, y, t⟩ := q
  simp only [wordsQ] at *
  obtain ⟨ca, M1, rfl, ma, hM⟩ := map_app_inv hM
  obtain ⟨cf, M2, rfl, mf, hM⟩ := map_app_inv hM
  obtain ⟨cw, M3, rfl, mw, hM⟩ := map_app_inv hM
  obtain ⟨cn, M4, rfl, mn, hM⟩ := map_app_inv hM
  obtain ⟨ck, cl, rfl, mk, ml⟩ := map_app_inv hM
  have tn : ∀ r, txt (cn ++ r) = k_window := fun r => head_app (show cn.map (·.s) = k_window :: _ from mn)
  have hL0 : g = 1 → L = [] := by
    intro e
    unfold argE at harg
    rw [if_pos e, badE_zero] at harg
    simpa using harg
  obtain ⟨L', hL', e1⟩ := agg_back hg hL0 h.a ma (cf ++ (cw ++ (cn ++ (ck ++ cl))))
  have hfr : txt (cw ++ (cn ++ (ck ++ cl))) ≠ k_join ∧ txt (cw ++ (cn ++ (ck ++ cl))) ≠ k_union := by
    cases he : Mm.isEmpty
    · rw [he] at mw
      rw [head_app (show cw.map (·.s) = k_where :: _ from mw)]; decide
    · rw [he] at mw
      obtain rfl : cw = [] := by simpa [whereW] using mw
      rw [List.nil_append, tn]; decide
  have e2 := from_back hk hl0 hj2 g L' mf hfr
  obtain ⟨M', hM', e3⟩ := where_back h.m g L' l j mw (tn (ck ++ cl))
  have e4 := win_back hfit g L' l j M' hjk mn (ck ++ cl)
  have hlt : txt cl ≠ k_by := by
    by_cases h2 : t = 2
    · have ml' : cl.map (·.s) = k_late :: [k_side] := by rw [ml, lateW, if_pos h2]
      have := head_app (q := []) ml'
      rw [List.append_nil] at this
      rw [this]; decide
    · obtain rfl : cl = [] := by simpa [lateW, h2] using ml
      decide
  have e5 := key_back y g L' l j M' k s v mk hlt
  have e6 := late_back ht g L' l j M' k s v y ml
  refine ⟨⟨g, L', l, j, M', k, s, v, y, t⟩, ?_, rfl, hL', rfl, rfl, hM', rfl, rfl, rfl, rfl, rfl⟩
  unfold pqF
  rw [e1]
  show (fromP _ _).bind _ = _
  rw [e2]
  show (whereP _ _).bind _ = _
  rw [e3]
  show (winP _ _).bind _ = _
  rw [e4]
  show (keyP _ _).bind _ = _
  rw [e5]
  show (lateP _ _).bind _ = _
  rw [e6]; rfl
end Go.Proofs.YtlmamidodahgmaaGreatDoor.P9
