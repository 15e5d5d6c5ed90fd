/- What a query in tokens has: it is valid, its places, how many tokens it has, what stands behind its words; without its last token it is none. -/
import Derived.Test.YtlmamidodahgmaaGreatDoorPMath
namespace Go.Proofs.YtlmamidodahgmaaGreatDoor.P9
open Go.RowKit N4 Q8
set_option linter.unusedVariables false
set_option maxRecDepth 100000

theorem ExC.good {d r : List Tok} {t : Tr} {T : List UInt8} (h : ExC d t T) (hr : txt r = T) (hs : ∀ x ∈ d ++ r, TkOk x) : t.ok = true ∧ t.er = 0 := (h.go r hr).good hs trivial rfl
theorem ExC.big {d r : List Tok} {t : Tr} {T : List UInt8} (h : ExC d t T) (hr : txt r = T) : t.big := (h.go r hr).big trivial rfl
theorem checkF_flat {t : Tr} (h : t.ok = true ∧ t.er = 0) : N4.checkF t.flat = 0 := by rw [t.check_flat h.1]; exact h.2
section
variable {s : List Tok} {q : Qy} {ca cf cw cn ck cl : List Tok}
theorem Shp.chk (h : Shp s q ca cf cw cn ck cl) (hs : ∀ x ∈ s, TkOk x) : Q8.chkF q = 0 := by
  have hn := h.n.head (ck ++ cl)
  have he := h.eq
  refine (Q8.chk_zero q).2 ⟨⟨?_, ?_⟩, ?_, ?_, h.f.src, h.n.fits, h.n.join⟩
  · rw [inB_true]
    rcases h.a.kind with ⟨e, _, _⟩ | ⟨t, d, y, x1, x2, x3, e1, e2, _⟩ <;> omega
  · rw [inB_true]; exact h.l.fits
  · rcases h.a.kind with ⟨e1, e2, _⟩ | ⟨t, d, y, x1, x2, x3, e1, e2, e3, e4, hy, hx⟩
    · rw [e1, e2]; rfl
    · unfold argE
      rw [if_neg (by omega), e3]
      refine checkF_flat (hx.good (r := [y]) hy fun x hm => hs x ?_)
      rw [he, e4]
      refine List.mem_append_left _ ?_
      exact List.mem_cons_of_mem _ (List.mem_cons_of_mem _ (List.mem_cons_of_mem _ hm))
  · unfold whrE
    rcases h.w.kind with ⟨_, e⟩ | ⟨w, d, t, e1, _, e3, hx⟩
    · rw [e]; rfl
    · split
      · rfl
      · rw [e3]
        refine checkF_flat (hx.good (r := cn ++ (ck ++ cl)) hn fun x hm => hs x ?_)
        rw [he, e1]
        refine List.mem_append_right _ (List.mem_append_right _ ?_)
        exact List.mem_cons_of_mem _ hm

/-! ### places -/
theorem nb_pos {v : Int} : ∀ {c : List Tok}, 0 < nb v c → ∃ x ∈ c, x.a = v := by
  intro c
  induction c with
  | nil => intro h; simp [nb] at h
  | cons x c ih =>
    intro h
    rw [nb] at h
    by_cases hx : isBr x = false ∧ x.a = v
    · exact ⟨x, List.mem_cons_self, hx.2⟩
    · rw [if_neg hx, Nat.zero_add] at h
      obtain ⟨y, hy, e⟩ := ih h
      exact ⟨y, List.mem_cons_of_mem _ hy, e⟩
theorem pl_pos {l : List Nd} {x : Nd} (h : x ∈ l) : 0 < pl x.p l := by
  induction l with
  | nil => simp at h
  | cons y l ih =>
    rw [pl]
    rcases List.mem_cons.1 h with rfl | h
    · rw [if_pos rfl]; omega
    · have := ih h; omega
theorem ExC.place {d : List Tok} {t : Tr} {T : List UInt8} (h : ExC d t T) {x : Nd} (hx : x ∈ t.flat) : ∃ y ∈ d, y.a = x.p := by
  apply nb_pos
  have h1 : nb x.p d + 0 = pc x.p t := h.cnt.2.1 x.p
  have h2 := pl_pos hx
  rw [pl_flat] at h2
  omega
theorem Shp.places (h : Shp s q ca cf cw cn ck cl) : ∀ x ∈ q.L ++ q.M, ∃ y ∈ s, y.a = x.p := by
  intro x hx
  have he := h.eq
  rcases List.mem_append.1 hx with hx | hx
  · rcases h.a.kind with ⟨_, e2, _⟩ | ⟨t, d, y, x1, x2, x3, _, _, e3, e4, _, hE⟩
    · rw [e2] at hx; simp at hx
    · rw [e3] at hx
      obtain ⟨z, hz, e⟩ := hE.place hx
      refine ⟨z, ?_, e⟩
      rw [he, e4]
      simp [hz]
  · rcases h.w.kind with ⟨_, e⟩ | ⟨w, d, t, e1, _, e3, hE⟩
    · rw [e] at hx; simp at hx
    · rw [e3] at hx
      obtain ⟨z, hz, e⟩ := hE.place hx
      refine ⟨z, ?_, e⟩
      rw [he, e1]
      simp [hz]

/-! ### how many tokens -/
theorem dep_par (c : List Tok) : ∀ o o', dep o c = some o' → (o' - o - ((c.length : Int) - (nbs c : Int))) % 2 = 0 := by
  induction c with
  | nil => intro o o' h; injection h with h; subst h; simp [nbs]
  | cons x c ih =>
    intro o o' h
    rw [dep] at h
    by_cases h1 : isBr x = true
    · rw [if_pos h1] at h
      by_cases h2 : (if x.s = [40] then o + 1 else o - 1) < 0
      · rw [if_pos h2] at h; cases h
      · rw [if_neg h2] at h
        have := ih _ _ h
        have e : nbs (x :: c) = nbs c := by rw [nbs, if_neg (by rw [h1]; decide)]; omega
        rw [e, List.length_cons]
        split at this <;> omega
    · rw [if_neg h1] at h
      have := ih _ _ h
      have e : nbs (x :: c) = 1 + nbs c := by rw [nbs, if_pos (by simpa using h1)]
      rw [e, List.length_cons]
      omega
theorem ExC.par {d : List Tok} {t : Tr} {T : List UInt8} (h : ExC d t T) : d.length % 2 = t.flat.length % 2 := by
  have h1 := dep_par d 0 0 (h.cnt.1 0 (Int.le_refl _))
  have h2 := h.cnt.2.2
  rw [t.flat_length]
  have h3 := nbs_le d
  omega
def par (q : Qy) : Nat := (if q.g = 1 then 5 else 4 + q.L.length) + (if q.M.length = 0 then 0 else 1 + q.M.length) + 1
theorem Shp.par (h : Shp s q ca cf cw cn ck cl) : s.length % 2 = par q % 2 := by
  have hA : ca.length % 2 = (if q.g = 1 then 5 else 4 + q.L.length) % 2 := by
    rcases h.a.kind with ⟨e1, _, e3⟩ | ⟨t, d, y, x1, x2, x3, e1, _, e3, e4, _, hE⟩
    · rw [e1, e3]; rfl
    · rw [if_neg (by omega), e3, e4]
      have := hE.par
      simp only [List.length_cons, List.length_append, List.length_nil]
      omega
  have hF := h.f.len
  have hW : cw.length % 2 = (if q.M.length = 0 then 0 else 1 + q.M.length) % 2 := by
    rcases h.w.kind with ⟨e1, e2⟩ | ⟨w, d, t, e1, _, e3, hE⟩
    · rw [e1, e2]; rfl
    · have h1 := hE.par
      have h2 := t.sz_pos
      rw [e1, e3]
      rw [if_neg (by rw [t.flat_length]; omega)]
      simp only [List.length_cons]
      omega
  have hN := h.n.odd
  have hK : ck.length % 2 = 0 := by rcases h.k.kind with e | ⟨a, b, e, _⟩ <;> rw [e] <;> simp
  have hL : cl.length % 2 = 0 := by rcases h.l.kind with e | ⟨a, b, e, _⟩ <;> rw [e] <;> simp
  rw [h.eq]
  unfold P9.par
  simp only [List.length_append]
  omega

/-! ### without the last token -/
theorem Shp.head (h : Shp s q ca cf cw cn ck cl) (r : List Tok) (hr : txt r = k_window) : pqF (ca ++ (cf ++ (cw ++ r))) = (winP ⟨q.g, q.L, q.l, q.j, q.M, 0, 0, 0, false, 0⟩ r).bind fun q s => (keyP q s).bind fun q s => (lateP q s).bind fun q s => endP q s := by
  have hn := h.n.head (ck ++ cl)
  have hx : txt (cw ++ r) = txt (cw ++ (cn ++ (ck ++ cl))) := txt_app (by rw [hr, hn]) cw
  unfold pqF
  rw [h.a.go]
  show (fromP _ _).bind _ = _
  rw [h.f.go _ hx]
  show (whereP _ _).bind _ = _
  rw [h.w.go _ hr]
  rfl
theorem drop_last {c d : List Tok} {z : Tok} (h : c = d ++ [z]) (a : List Tok) : (a ++ c).dropLast = a ++ d := by
  rw [h, ← List.append_assoc, List.dropLast_concat]
theorem Shp.drop (h : Shp s q ca cf cw cn ck cl) : ∃ e p, pqF s.dropLast = .er e p := by
  obtain ⟨d, z, hd, hdw, e, p, hcut⟩ := h.n.cut
  have he : s = (ca ++ (cf ++ cw)) ++ (cn ++ (ck ++ cl)) := by rw [h.eq]; simp only [List.append_assoc]
  rcases h.l.kind with e1 | ⟨a, b, e1, ha, e', p', hc⟩
  · rcases h.k.kind with e2 | ⟨a, b, e2, e', p', hc⟩
    · refine ⟨e, p, ?_⟩
      rw [he, e1, e2, List.append_nil, List.append_nil, drop_last hd]
      have := h.head d hdw
      simp only [List.append_assoc] at this ⊢
      rw [this, hcut]; rfl
    · refine ⟨e', p', ?_⟩
      rw [he, e1, e2, List.append_nil, drop_last (c := cn ++ [a, b]) (d := cn ++ [a]) (z := b) (by simp)]
      have := h.head (cn ++ [a]) (h.n.head _)
      simp only [List.append_assoc] at this ⊢
      rw [this, h.n.go]
      show (keyP _ _).bind _ = _
      rw [hc]; rfl
  · refine ⟨e', p', ?_⟩
    rw [he, e1, drop_last (c := cn ++ (ck ++ [a, b])) (d := cn ++ (ck ++ [a])) (z := b) (by simp)]
    have := h.head (cn ++ (ck ++ [a])) (h.n.head _)
    simp only [List.append_assoc] at this ⊢
    rw [this, h.n.go]
    show (keyP _ _).bind _ = _
    rw [h.k.go [a] (by rw [e1]; rfl)]
    show (lateP _ _).bind _ = _
    rw [hc]; rfl

/-! ### what stands behind the words -/
theorem noW.at {c r : List Tok} (h : noW c) {i : Nat} {x : Tok} (hi : (c ++ r)[i]? = some x) (hx : x.s = k_where) : c.length ≤ i := by
  rcases Nat.lt_or_ge i c.length with hl | hl
  · rw [List.getElem?_append_left hl] at hi
    exact absurd hx (h x (List.mem_of_getElem? hi))
  · exact hl
theorem Shp.whr (h : Shp s q ca cf cw cn ck cl) {i : Nat} {x : Tok} (hi : s[i]? = some x) (hx : x.s = k_where) : ∃ t p, Rd (.line 0) (s.drop (i + 1)) (.ok t p) ∧ t.flat = q.M := by
  have hn := h.n.head (ck ++ cl)
  have hrest : noW (cn ++ (ck ++ cl)) := h.n.now.app (h.k.now.app h.l.now)
  have he : s = (ca ++ cf) ++ (cw ++ (cn ++ (ck ++ cl))) := by rw [h.eq]; simp only [List.append_assoc]
  rcases h.w.kind with ⟨e1, _⟩ | ⟨w, d, t, e1, _, e3, hE⟩
  · rw [e1, List.nil_append] at he
    exact absurd hx ((h.a.now.app h.f.now).app hrest x (by rw [← he]; exact List.mem_of_getElem? hi))
  · rw [he] at hi
    have h1 := (h.a.now.app h.f.now).at hi hx
    rw [List.getElem?_append_right h1, e1] at hi
    have h2 : i - (ca ++ cf).length = 0 := by
      rcases Nat.eq_zero_or_pos (i - (ca ++ cf).length) with h0 | h0
      · exact h0
      · obtain ⟨m, hm⟩ : ∃ m, i - (ca ++ cf).length = m + 1 := ⟨i - (ca ++ cf).length - 1, by omega⟩
        rw [hm, List.cons_append, List.getElem?_cons_succ] at hi
        have hd : noW (d ++ (cn ++ (ck ++ cl))) := noW.app hE.now hrest
        exact absurd hx (hd x (List.mem_of_getElem? hi))
    refine ⟨t, cn ++ (ck ++ cl), ?_, e3.symm⟩
    have : s.drop (i + 1) = d ++ (cn ++ (ck ++ cl)) := by
      rw [he, e1, show i + 1 = (ca ++ cf).length + 1 by omega, ← List.drop_drop, List.drop_left' rfl]; rfl
    rw [this]
    exact hE.go _ hn
theorem Shp.arg (h : Shp s q ca cf cw cn ck cl) (hg : q.g ≠ 1) : ∃ t p, Rd (.line 0) (s.drop 3) (.ok t p) ∧ t.flat = q.L ∧ 4 ≤ s.length := by
  rcases h.a.kind with ⟨e1, _⟩ | ⟨t, d, y, x1, x2, x3, _, _, e3, e4, hy, hE⟩
  · exact absurd e1 hg
  · refine ⟨t, y :: (cf ++ (cw ++ (cn ++ (ck ++ cl)))), ?_, e3.symm, by rw [h.eq, e4]; simp only [List.length_append, List.length_cons, List.length_nil]; omega⟩
    have : s.drop 3 = d ++ y :: (cf ++ (cw ++ (cn ++ (ck ++ cl)))) := by rw [h.eq, e4]; simp
    rw [this]
    exact hE.go _ hy
theorem Shp.long (h : Shp s q ca cf cw cn ck cl) : 5 ≤ s.length := by
  have h1 : 4 ≤ ca.length := by
    rcases h.a.kind with ⟨_, _, e⟩ | ⟨t, d, y, x1, x2, x3, _, _, _, e, _, _⟩
    · omega
    · rw [e]; simp
  have h2 := h.n.odd
  rw [h.eq]
  simp only [List.length_append]
  omega
end

/-! ### other places -/
def alQ (p q : Qy) : Prop := p.g = q.g ∧ p.L.map unp = q.L.map unp ∧ p.l = q.l ∧ p.j = q.j ∧ p.M.map unp = q.M.map unp ∧ p.k = q.k ∧ p.s = q.s ∧ p.v = q.v ∧ p.y = q.y ∧ p.t = q.t
def alP : PR → PR → Prop
  | .ok q s, .ok q' s' => alQ q q' ∧ al s = al s'
  | .er v s, .er v' s' => v = v' ∧ al s = al s'
  | _, _ => False
theorem alQ.refl (q : Qy) : alQ q q := ⟨rfl, rfl, rfl, rfl, rfl, rfl, rfl, rfl, rfl, rfl⟩
theorem bind_al {r r' : PR} {f f' : Qy → List Tok → PR} (h : alP r r') (hf : ∀ q q' s s', alQ q q' → al s = al s' → alP (f q s) (f' q' s')) : alP (r.bind f) (r'.bind f') := by
  cases r with
  | ok q s =>
    cases r' with
    | ok q' s' => exact hf q q' s s' h.1 h.2
    | er v' s' => exact h.elim
  | er v s =>
    cases r' with
    | ok q' s' => exact h.elim
    | er v' s' => exact h
theorem exp_al : ∀ (Ts : List (List UInt8)) {q q' : Qy} {s s' : List Tok}, alQ q q' → al s = al s' → alP (expP Ts q s) (expP Ts q' s') := by
  intro Ts
  induction Ts with
  | nil => intro q q' s s' hq hs; exact ⟨hq, hs⟩
  | cons T Ts ih =>
    intro q q' s s' hq hs
    rw [expP, expP, al_txt hs]
    split
    · exact ih hq (al_tail hs)
    · exact ⟨rfl, hs⟩
theorem rdL_al {s s' : List Tok} (h : al s = al s') : alR (rdL s) (rdL s') := by
  obtain ⟨r', h1, h2⟩ := (rdL_rd s).al (m' := .line 0) rfl h
  rw [rdL_eq h1]; exact h2
theorem expr_al {f f' : List Nd → Qy} {s s' : List Tok} (h : al s = al s') (hf : ∀ L L', L.map unp = L'.map unp → alQ (f L) (f' L')) : alP (exprP f s) (exprP f' s') := by
  have := rdL_al h
  unfold exprP
  cases hr : rdL s with
  | ok t p =>
    rw [hr] at this
    cases hr' : rdL s' with
    | ok t' p' => rw [hr'] at this; exact ⟨hf _ _ (Tr.flat_z this.1), this.2⟩
    | er v' p' => rw [hr'] at this; exact this.elim
  | er v p =>
    rw [hr] at this
    cases hr' : rdL s' with
    | ok t' p' => rw [hr'] at this; exact this.elim
    | er v' p' => rw [hr'] at this; exact this
theorem agg_al {q q' : Qy} {s s' : List Tok} (hq : alQ q q') (hs : al s = al s') : alP (aggP q s) (aggP q' s') := by
  unfold aggP
  refine bind_al (exp_al _ hq hs) fun p p' u u' hp hu => ?_
  rw [al_txt hu]
  cases idxOf (txt u') aggs with
  | none => exact ⟨rfl, hu⟩
  | some i =>
    show alP (argP _ _) (argP _ _)
    unfold argP
    have h1 : alQ { p with g := 1 + (i : Int) } { p' with g := 1 + (i : Int) } := ⟨rfl, hp.2⟩
    by_cases hg : (1 + (i : Int)) = 1
    · rw [if_pos (by exact hg), if_pos (by exact hg)]
      exact exp_al _ h1 (al_tail hu)
    · rw [if_neg (by exact hg), if_neg (by exact hg)]
      refine bind_al (exp_al _ h1 (al_tail hu)) fun a a' b b' ha hb => ?_
      refine bind_al (expr_al hb fun L L' hL => ⟨ha.1, hL, ha.2.2⟩) fun c c' d d' hc hd => ?_
      exact exp_al _ hc hd
theorem name_al {q q' : Qy} {s s' : List Tok} (hq : alQ q q') (hs : al s = al s') : alP (nameP q s) (nameP q' s') := by
  unfold nameP
  rw [al_txt hs, hq.2.2.1]
  split
  · split
    · exact ⟨rfl, hs⟩
    · exact ⟨⟨hq.1, hq.2.1, rfl, hq.2.2.2⟩, al_tail hs⟩
  · exact ⟨rfl, hs⟩
theorem unions_al : ∀ (n : Nat) {q q' : Qy} {s s' : List Tok}, s.length ≤ n → alQ q q' → al s = al s' → alP (unionsP s q) (unionsP s' q') := by
  intro n
  induction n with
  | zero =>
    intro q q' s s' hn hq hs
    obtain rfl : s = [] := List.eq_nil_of_length_eq_zero (by omega)
    rw [al_nil hs]; exact ⟨hq, rfl⟩
  | succ n ih =>
    intro q q' s s' hn hq hs
    match s, hs, hn with
    | [], hs, _ => rw [al_nil hs]; exact ⟨hq, rfl⟩
    | [x], hs, _ =>
      have hs0 := hs
      obtain ⟨y, t, rfl, _, h2, h3⟩ := al_cons hs
      have := al_nil h3
      subst this
      rw [unionsP, unionsP, h2]
      split
      · exact ⟨rfl, rfl⟩
      · exact ⟨hq, hs0⟩
    | x :: y :: s, hs, hn =>
      have hs0 := hs
      obtain ⟨x', t, rfl, _, h2, h3⟩ := al_cons hs
      have h30 := h3
      obtain ⟨y', u, rfl, _, h4, h5⟩ := al_cons h3
      rw [unionsP, unionsP, h2, h4, hq.2.2.1]
      split
      · split
        · split
          · exact ⟨rfl, h30⟩
          · exact ih (by simp at hn; omega) ⟨hq.1, hq.2.1, rfl, hq.2.2.2⟩ h5
        · exact ⟨rfl, h30⟩
      · exact ⟨hq, hs0⟩
theorem from_al {q q' : Qy} {s s' : List Tok} (hq : alQ q q') (hs : al s = al s') : alP (fromP q s) (fromP q' s') := by
  unfold fromP
  refine bind_al (exp_al _ hq hs) fun a a' b b' ha hb => ?_
  refine bind_al (name_al ha hb) fun c c' d d' hc hd => ?_
  rw [al_txt hd]
  split
  · exact name_al ⟨hc.1, hc.2.1, hc.2.2.1, rfl, hc.2.2.2.2⟩ (al_tail hd)
  · exact unions_al _ (Nat.le_refl _) hc hd
theorem where_al {q q' : Qy} {s s' : List Tok} (hq : alQ q q') (hs : al s = al s') : alP (whereP q s) (whereP q' s') := by
  unfold whereP
  rw [al_txt hs]
  split
  · exact expr_al (al_tail hs) fun L L' hL => ⟨hq.1, hq.2.1, hq.2.2.1, hq.2.2.2.1, hL, hq.2.2.2.2.2⟩
  · exact ⟨hq, hs⟩
theorem num_al {f : Int → Int × Int × Int} {q q' : Qy} {s s' : List Tok} (hq : alQ q q') (hs : al s = al s') : alP (numP f q s) (numP f q' s') := by
  unfold numP
  rw [al_txt hs]
  split
  · split
    · exact ⟨⟨hq.1, hq.2.1, hq.2.2.1, hq.2.2.2.1, hq.2.2.2.2.1, rfl, rfl, rfl, hq.2.2.2.2.2.2.2.2⟩, al_tail hs⟩
    · exact ⟨rfl, hs⟩
  · exact ⟨rfl, hs⟩
theorem win_al {q q' : Qy} {s s' : List Tok} (hq : alQ q q') (hs : al s = al s') : alP (winP q s) (winP q' s') := by
  unfold winP
  refine bind_al (exp_al _ hq hs) fun a a' b b' ha hb => ?_
  rw [al_txt hb]
  cases idxOf (txt b') wins with
  | none => exact ⟨rfl, hb⟩
  | some i =>
    simp only
    rw [ha.2.2.2.1]
    split
    · exact ⟨rfl, hb⟩
    · refine bind_al ?_ fun c c' d d' hc hd => ?_
      · unfold sizeP
        exact bind_al (num_al ha (al_tail hb)) fun c c' d d' hc hd => ⟨⟨hc.1, hc.2.1, hc.2.2.1, hc.2.2.2.1, hc.2.2.2.2.1, rfl, hc.2.2.2.2.2.2⟩, hd⟩
      · split
        · unfold everyP
          refine bind_al (exp_al _ hc hd) fun e e' g g' he hg => ?_
          rw [he.2.2.2.2.2.1, he.2.2.2.2.2.2.1]
          exact num_al he hg
        · exact ⟨hc, hd⟩
theorem key_al {q q' : Qy} {s s' : List Tok} (hq : alQ q q') (hs : al s = al s') : alP (keyP q s) (keyP q' s') := by
  unfold keyP
  rw [al_txt hs]
  split
  · exact exp_al _ ⟨hq.1, hq.2.1, hq.2.2.1, hq.2.2.2.1, hq.2.2.2.2.1, hq.2.2.2.2.2.1, hq.2.2.2.2.2.2.1, hq.2.2.2.2.2.2.2.1, rfl, hq.2.2.2.2.2.2.2.2.2⟩ (al_tail hs)
  · exact ⟨hq, hs⟩
theorem late_al {q q' : Qy} {s s' : List Tok} (hq : alQ q q') (hs : al s = al s') : alP (lateP q s) (lateP q' s') := by
  have hset : ∀ t : Int, alQ { q with t := t } { q' with t := t } := fun t => ⟨hq.1, hq.2.1, hq.2.2.1, hq.2.2.2.1, hq.2.2.2.2.1, hq.2.2.2.2.2.1, hq.2.2.2.2.2.2.1, hq.2.2.2.2.2.2.2.1, hq.2.2.2.2.2.2.2.2.1, rfl⟩
  unfold lateP
  rw [al_txt hs]
  split
  · rw [al_txt (al_tail hs)]
    cases idxOf (txt s'.tail) lates with
    | none => exact ⟨rfl, al_tail hs⟩
    | some i => exact ⟨hset _, al_tail (al_tail hs)⟩
  · exact ⟨hset _, hs⟩
theorem end_al {q q' : Qy} {s s' : List Tok} (hq : alQ q q') (hs : al s = al s') : alP (endP q s) (endP q' s') := by
  cases s with
  | nil => rw [al_nil hs]; exact ⟨hq, rfl⟩
  | cons x s =>
    have hs0 := hs
    obtain ⟨y, t, rfl, _⟩ := al_cons hs
    exact ⟨rfl, hs0⟩
theorem pq_al {s s' : List Tok} (hs : al s = al s') : alP (pqF s) (pqF s') := by
  unfold pqF
  refine bind_al (agg_al (alQ.refl _) hs) fun _ _ _ _ hq hs => ?_
  refine bind_al (from_al hq hs) fun _ _ _ _ hq hs => ?_
  refine bind_al (where_al hq hs) fun _ _ _ _ hq hs => ?_
  refine bind_al (win_al hq hs) fun _ _ _ _ hq hs => ?_
  refine bind_al (key_al hq hs) fun _ _ _ _ hq hs => ?_
  refine bind_al (late_al hq hs) fun _ _ _ _ hq hs => ?_
  exact end_al hq hs
end Go.Proofs.YtlmamidodahgmaaGreatDoor.P9
