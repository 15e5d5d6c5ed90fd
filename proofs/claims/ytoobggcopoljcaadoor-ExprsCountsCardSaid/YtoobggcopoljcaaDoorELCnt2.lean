/- ExprsCounts: where it is parsed. -/
import Derived.Test.YtoobggcopoljcaaDoorELCnt
namespace Go.Proofs.YtoobggcopoljcaaDoor
open Go.ChangeShapes Go.WideShapes Go.ChangeAt Go.RowKit N4
set_option linter.unusedVariables false
set_option maxRecDepth 100000

theorem take_snoc_t {c : List Tok} {k : Nat} {x : Tok} (h : c[k]? = some x) : c.take (k + 1) = c.take k ++ [x] := take_snoc_tok c k x h
theorem dep_part {c d : List Tok} {o o' : Int} (h : dep o (c ++ d) = some o') : ∃ o1, dep o c = some o1 ∧ dep o1 d = some o' := by
  rw [dep_app] at h
  cases hc : dep o c with
  | none => rw [hc] at h; cases h
  | some o1 => rw [hc] at h; exact ⟨o1, rfl, h⟩
/-- The first loop, behind k tokens. -/
def C1 (w3 : World) (B : Nat) (c : List Tok) (k : Nat) (cn op : Int) (W : World) : Prop :=
  cn = (nbs (c.take k) : Nat) ∧ dep 0 (c.take k) = some op ∧ 0 ≤ op ∧ op ≤ 200 ∧ Arr W B (fun v => (nb v (c.take k) : Nat)) ∧ Below B w3 W
theorem C1.below {w3 W W' : World} {B k : Nat} {c : List Tok} {cn op : Int} (h : C1 w3 B c k cn op W) (hb : Below W.heap.size W W') : C1 w3 B c k cn op W' :=
  ⟨h.1, h.2.1, h.2.2.1, h.2.2.2.1, h.2.2.2.2.1.below hb, h.2.2.2.2.2.trans (hb.mono (Nat.le_of_lt h.2.2.2.2.1.1))⟩
theorem C1.open_ {w3 W : World} {B k : Nat} {c : List Tok} {cn op : Int} {x : Tok} (hc : Bal c) (hl : c.length ≤ 200) (hk : c[k]? = some x) (h : C1 w3 B c k cn op W) (hx : isBr x = true) :
    0 ≤ (if x.s = [40] then op + 1 else op - 1) ∧ C1 w3 B c (k + 1) cn (if x.s = [40] then op + 1 else op - 1) W := by
  obtain ⟨h1, h2, h3, h4, h5, h6⟩ := h
  have ht := take_snoc_t hk
  have e : dep 0 (c.take (k + 1)) = if (if x.s = [40] then op + 1 else op - 1) < 0 then none else some (if x.s = [40] then op + 1 else op - 1) := by
    rw [ht, dep_app, h2]
    show dep op [x] = _
    rw [dep, if_pos hx]; rfl
  have hall := hc 0 (Int.le_refl _)
  rw [← List.take_append_drop (k + 1) c] at hall
  obtain ⟨o1, g1, _⟩ := dep_part hall
  have hlen : (c.take (k + 1)).length ≤ 200 := by rw [List.length_take]; omega
  have hle := dep_le _ _ _ g1
  rw [e] at g1
  by_cases hn : (if x.s = [40] then op + 1 else op - 1) < 0
  · rw [if_pos hn] at g1; cases g1
  · rw [if_neg hn] at g1 e
    injection g1 with g1
    refine ⟨by omega, ?_, e, by omega, by rw [g1]; omega, ?_, h6⟩
    · rw [h1, ht, nbs_snoc, if_neg (by rw [hx]; decide)]; simp
    · refine ⟨h5.1, fun v hv => ?_⟩
      show W.cell? ⟨B, v, none⟩ = some (.int .i64 ((nb (v : Int) (c.take (k + 1)) : Nat) : Int)) ∧ _
      rw [ht, nb_snoc, if_neg (by rw [hx]; exact fun e => by cases e.1)]
      exact h5.2 v hv
theorem C1.count_ {w3 W : World} {B k : Nat} {c : List Tok} {cn op : Int} {x : Tok} {a : Nat} (hk : c[k]? = some x) (h : C1 w3 B c k cn op W) (hx : isBr x = false) (ha : x.a = (a : Int)) (ha4 : a < 401) (hB : w3.heap.size ≤ B) :
    C1 w3 B c (k + 1) (cn + 1) op (W.setCell ⟨B, a, none⟩ (.int .i64 ((nb a (c.take k) : Nat) + 1))) := by
  obtain ⟨h1, h2, h3, h4, h5, h6⟩ := h
  have ht := take_snoc_t hk
  refine ⟨?_, ?_, h3, h4, ?_, h6.setCell (Nat.le_refl _) _⟩
  · rw [h1, ht, nbs_snoc, if_pos hx]; omega
  · rw [ht, dep_app, h2]
    show dep op [x] = _
    rw [dep, if_neg (by rw [hx]; decide)]; rfl
  · have := h5.set (a := a) (g := fun v => ((nb v (c.take (k + 1)) : Nat) : Int)) ha4 (fun v hv => by
      show ((nb v (c.take (k + 1)) : Nat) : Int) = _
      rw [ht, nb_snoc, if_neg (fun e => hv (by have := e.2; omega))]; simp)
    have e : ((nb a (c.take (k + 1)) : Nat) : Int) = (nb a (c.take k) : Nat) + 1 := by
      rw [ht, nb_snoc, if_pos ⟨hx, ha⟩]; omega
    simp only [e] at this
    exact this
/-- The second loop, behind k nodes. -/
def C2 (w3 : World) (B : Nat) (c : List Tok) (l : List Nd) (k : Nat) (W : World) : Prop :=
  Arr W B (fun v => (nb v c : Nat) - (pl v (l.take k) : Nat)) ∧ Below B w3 W
theorem C2.step {w3 W : World} {B k : Nat} {c : List Tok} {l : List Nd} {x : Nd} {a : Nat} (hk : l[k]? = some x) (h : C2 w3 B c l k W) (ha : x.p = (a : Int)) (ha4 : a < 401) :
    C2 w3 B c l (k + 1) (W.setCell ⟨B, a, none⟩ (.int .i64 (((nb a c : Nat) : Int) - (pl a (l.take k) : Nat) - 1))) := by
  obtain ⟨h5, h6⟩ := h
  have ht := take_snoc_nd hk
  refine ⟨?_, h6.setCell (Nat.le_refl _) _⟩
  have := h5.set (a := a) (g := fun v => ((nb v c : Nat) : Int) - (pl v (l.take (k + 1)) : Nat)) ha4 (fun v hv => by
    show ((nb v c : Nat) : Int) - (pl v (l.take (k + 1)) : Nat) = _
    rw [ht, pl_snoc, if_neg (fun e => hv (by omega))]; simp)
  have e : ((nb a c : Nat) : Int) - (pl a (l.take (k + 1)) : Nat) = (nb a c : Nat) - (pl a (l.take k) : Nat) - 1 := by
    rw [ht, pl_snoc, if_pos ha]; omega
  simp only [e] at this
  exact this
theorem pl_le (v : Int) (l : List Nd) : pl v l ≤ l.length := by
  induction l with
  | nil => simp [pl]
  | cons x c ih => simp only [pl, List.length_cons]; split <;> omega
theorem Tr.ats (t : Tr) (h : t.ok = true) : ∀ x ∈ t.flat, 0 ≤ x.p ∧ x.p ≤ 400 := by
  have ft : ∀ {k n p : Int}, fitsF k n p = true → 0 ≤ p ∧ p ≤ 400 := by
    intro k n p h; simp only [fitsF, Bool.and_eq_true, decide_eq_true_eq] at h; omega
  have sp : ∀ (d : Int) (x : Nd), (shift d x).p = x.p := fun d x => rfl
  induction t with
  | leaf k n p =>
    simp only [Tr.ok, Bool.and_eq_true, decide_eq_true_eq] at h
    intro x hx
    simp [Tr.flat, made0] at hx
    subst hx
    exact ft h.2
  | un k p a ih =>
    simp only [Tr.ok, Bool.and_eq_true, decide_eq_true_eq] at h
    intro x hx
    have hx' : x ∈ made1 k 0 p a.flat := hx
    unfold made1 at hx'
    rcases List.mem_append.1 hx' with hx' | hx'
    · obtain ⟨y, hy, rfl⟩ := List.mem_map.1 hx'
      exact ih h.2 y hy
    · simp at hx'; subst hx'; exact ft h.1.2
  | bin k p a b iha ihb =>
    simp only [Tr.ok, Bool.and_eq_true, decide_eq_true_eq] at h
    intro x hx
    have hx' : x ∈ made2 k 0 p a.flat b.flat := hx
    unfold made2 at hx'
    rcases List.mem_append.1 hx' with hx' | hx'
    · rcases List.mem_append.1 hx' with hx' | hx'
      · obtain ⟨y, hy, rfl⟩ := List.mem_map.1 hx'; exact iha h.1.2 y hy
      · obtain ⟨y, hy, rfl⟩ := List.mem_map.1 hx'; exact ihb h.2 y hy
    · simp at hx'; subst hx'; exact ft h.1.1.2

set_option maxHeartbeats 8000000 in
theorem cnt_ok (A : Option Addr) (ca : Nat) (L : List Tok) (i : Nat) (w : World) (hg : G5 w w) (ht : Toks w A L) (hs : ∀ t ∈ L, t.s.length ≤ maxLen) (h : greatF L = false) (hv : askF L i = 0) (t : Tr) (q : List Tok) (hr : Rd (.line 0) (L.drop i) (.ok t q)) :
    Calls Tryd.prog 5 #[.slice A L.length ca, .int .i64 i] w fun e w' => e = .returned (.bool true) ∧ G5 w w' := by
  obtain ⟨hck, _, hi⟩ := ask_zero hv
  have hchk := chk_zero hck
  have h200 := hchk.1
  have hL : L.length ≤ maxLen := by unfold maxLen; omega
  obtain ⟨c, hcq, hbal, hnb, hnbs⟩ := hr.cnt rfl
  have hgd := hr.good (fun x hx => hchk.2.2 x (List.mem_of_mem_drop hx)) trivial rfl
  have hlt := (hr.lt rfl).2 ⟨_, rfl⟩
  have hlen : L.length - i = c.length + q.length := by have := congrArg List.length hcq; simpa using this
  rw [List.length_drop] at hlt
  have hcl : 0 < c.length ∧ i + c.length = L.length - q.length ∧ i + c.length ≤ L.length := by omega
  have HG := Lib.hid hg
  have HA := Lib.hid (great_any A ca L w hL ht false h)
  have HK := Lib.hid (asked_any A ca L.length L i w rfl hL ht hs 0 hv)
  have HP := Lib.hid (fun (W : World) (hW : G5 w W) => parse_g A ca L.length L i _ rfl hs hck (by omega) hr w W hW (ht.below hW.1))
  have HCH := Lib.hid (fun A' c' (W : World) (hl : Lies W A' (ndCells t.flat)) => show Calls Tryd.prog 18 #[.slice A' t.sz c'] W fun e w' => e = .returned (.int .i64 0) ∧ Below W.heap.size W w' by
    have := N4.check_any A' c' t.flat W (by rw [t.flat_length]; have := (Tr.er_zero.1 hgd.2).1; unfold maxLen; omega) hl 0 ((t.check_flat hgd.1).trans hgd.2)
    rwa [t.flat_length] at this)
  have HTK := Lib.hid (show ∀ y, i ≤ y → y < i + c.length → ∃ x, c[y - i]? = some x ∧ L[y]? = some x ∧ TkGood x from fun y hy1 hy2 => by
    have hk : y - i < c.length := by omega
    refine ⟨c[y - i], List.getElem?_eq_getElem hk, ?_, ?_⟩
    · have := congrArg (fun l => l[y - i]?) hcq
      simp only [List.getElem?_drop] at this
      rw [show i + (y - i) = y by omega] at this
      rw [this, List.getElem?_append_left hk]; exact List.getElem?_eq_getElem hk
    · have hm : c[y - i] ∈ L := List.mem_of_mem_drop (i := i) (by rw [hcq]; exact List.mem_append_left _ (List.getElem_mem hk))
      exact ⟨okL_mem hchk.2.1 _ hm, hchk.2.2 _ hm⟩)
  have HTT := Lib.hid (show ∀ W, Below w.heap.size w W → Toks W A L from fun W hb => ht.below hb)
  have HBAL := Lib.hid hbal
  have HNB := Lib.hid (show ∀ v : Int, nb v c = pl v t.flat from fun v => by have := hnb v; simp only [Md.pb] at this; rw [pl_flat]; omega)
  have HNBS := Lib.hid (show nbs c = t.sz from by simp only [Md.zb] at hnbs; omega)
  have HFL := Lib.hid t.flat_length
  have HAT := Lib.hid (t.ats hgd.1)
  have hsz := (Tr.er_zero.1 hgd.2).1
  unfold PPost at HP
  simp only at HP
  rw [← hcl.2.1] at HP
  have HCL := Lib.hid (show c.length ≤ 200 by omega)
  obtain ⟨j, hm⟩ : ∃ j, i + c.length = j := ⟨_, rfl⟩
  have hc1 : i < j := by omega
  have hc2 := hcl.2.2
  rw [hm] at HP HTK hc2
  have HM := Lib.hid hm
  obtain ⟨n, hn⟩ : ∃ n, L.length = n := ⟨_, rfl⟩
  rw [hn] at HA HK HP hL h200 hi hc2
  have HN := Lib.hid hn
  rw [hn]
  obtain ⟨sz, hz⟩ : ∃ sz, t.sz = sz := ⟨_, rfl⟩
  rw [hz] at HP HCH HNBS HFL hsz
  have hz0 := zero_401
  have hn55 : (j ≤ i) = False := by simp; omega
  have hn61 : (n < j) = False := by simp; omega
  have hd55 : decide ((j : Int) ≤ (i : Int)) = false := decide_eq_false (by omega)
  have hd61 : decide ((n : Int) < (j : Int)) = false := decide_eq_false (by omega)
  have h401 : Array.size (Array.replicate 401 (Value.int .i64 0)) = 401 := by simp
  clear hg ht hs h hv hr hck hchk hcq hbal hnb hnbs hgd hlt hlen hcl hm hn hz
  go_enter Tryd.func5, Tryd.ntmps5
  go_wp2_with (first
    | (go_at_call 16; refine HA.out.mono ?_; rintro e w' ⟨rfl, rfl⟩)
    | (go_at_call 17; refine HK.out.mono ?_; rintro e w1 ⟨rfl, hb⟩; have HG1 := Lib.hid (HG.out.step hb); clear hb)
    | (go_at_call 10; refine (HP.out _ HG1.out).mono ?_; rintro e w2 ⟨⟨_, A2, c2, rfl, hl2⟩, hg⟩; have HG2 := Lib.hid hg; have HL2 := Lib.hid hl2; clear hg hl2)
    | (go_at_call 18; refine (HCH.out _ _ _ HL2.out).mono ?_; rintro e w3 ⟨rfl, hb⟩; have HG3 := Lib.hid (HG2.out.step hb); have HL3 := Lib.hid (HL2.out.below hb); clear hb))
  obtain ⟨B, hB⟩ : ∃ B, w3.heap.size = B := ⟨_, rfl⟩
  have HB := Lib.hid hB
  rw [hB]
  go_loopw [8, 9, 11] (fun cv ov iv wx => ∃ (y : Nat) (a o : Int), i ≤ y ∧ y ≤ j ∧ iv = .int .i64 (y : Int) ∧ cv = .int .i64 a ∧ ov = .int .i64 o ∧ 0 ≤ o ∧ o ≤ 200 ∧ 0 ≤ a ∧ a ≤ 200 ∧ Hid (C1 w3 B c (y - i) a o wx)) (fun _ _ iv _ => j - (intOf iv).toNat)
  case atStart =>
    refine ⟨i, 0, 0, Nat.le_refl _, by omega, rfl, rfl, rfl, by omega, by omega, by omega, by omega, Lib.hid ?_⟩
    rw [Nat.sub_self]
    have := Arr.new w3 44
    rw [HB.out] at this
    exact ⟨rfl, rfl, Int.le_refl _, by omega, this, (Below.refl _ _).alloc (by rw [HB.out]; exact Nat.le_refl _) _⟩
  case round =>
    obtain ⟨y, a, o, hy1, hy2, rfl, rfl, rfl, ho1, ho2, ha1, ha2, HC⟩ := hrel
    have HG4 := Lib.hid (show G5 w wr from HG3.out.step (by rw [HB.out]; exact HC.out.2.2.2.2.2))
    by_cases hlt : y < j
    · obtain ⟨x, hxc, hxL, hxg⟩ := HTK.out y hy1 hlt
      obtain ⟨ad, x', rfl, hta, hx'⟩ := (HTT.out wr HG4.out.1).at_ y (by rw [HN.out]; omega)
      obtain rfl : x' = x := Option.some.inj (hx'.symm.trans hxL)
      have HTA := Lib.hid (show ∀ W, Below w.heap.size w W → TokAt W ad y x' from fun W hb => by
        obtain ⟨ad', t', e1, h3, e2⟩ := (HTT.out W hb).at_ y (by rw [HN.out]; omega)
        obtain rfl := Option.some.inj e1
        have e3 : t' = x' := Option.some.inj (e2.symm.trans hxL)
        rw [e3] at h3; exact h3)
      obtain ⟨av, hav⟩ : ∃ av : Nat, x'.a = (av : Int) := ⟨x'.a.toNat, by have := hxg.2.1; omega⟩
      have hav2 : av < 401 := by have := hxg.2.2; omega
      have hkind : x'.s = [40] ∨ x'.s = [41] → x'.k = 3 := br_kind hxg.1
      have HXC := Lib.hid hxc
      have HAV := Lib.hid hav
      obtain ⟨c0, c1, c2'⟩ := hta
      unfold TokAt at HTA
      rw [hav] at c2' HTA
      by_cases hbr : isBr x' = true
      · have HO := Lib.hid (C1.open_ HBAL.out HCL.out hxc HC.out hbr)
        have HBR := Lib.hid (fun W => bracket_any x'.k (av : Int) x'.s W true hkind hbr)
        by_cases h4 : x'.s = [40]
        · have hcs := cst_eq h4
          rw [if_pos h4] at HO
          generalize bytesOf x'.s = S at c1 HTA hcs HBR
          generalize x'.k = K at c0 HTA HBR
          clear hxc hxL hxg hav hkind hbr h4 hx'
          go_wp2_with (go_at_call 19; refine (HBR.out _).mono ?_; rintro e w4 ⟨rfl, hb4⟩; have HB4 := Lib.hid hb4; obtain ⟨d0, d1, d2⟩ := HTA.out _ (HG4.out.step hb4).1; clear hb4)
          go_roundw
          case rel => exact ⟨y + 1, a, o + 1, by omega, by omega, by go_num, rfl, by go_num, by omega, HO.out.2.2.2.2.1, by omega, by omega, Lib.hid (by rw [show y + 1 - i = (y - i) + 1 by omega]; exact HO.out.2.below HB4.out)⟩
          case measure => simp [intOf]; omega
        · have hcs := cst_ne h4
          rw [if_neg h4] at HO
          have hpos := HO.out.1
          generalize bytesOf x'.s = S at c1 HTA hcs HBR
          generalize x'.k = K at c0 HTA HBR
          clear hxc hxL hxg hav hkind hbr h4 hx'
          go_wp2_with (go_at_call 19; refine (HBR.out _).mono ?_; rintro e w4 ⟨rfl, hb4⟩; have HB4 := Lib.hid hb4; obtain ⟨d0, d1, d2⟩ := HTA.out _ (HG4.out.step hb4).1; clear hb4)
          go_roundw
          case rel => exact ⟨y + 1, a, o - 1, by omega, by omega, by go_num, rfl, by go_num, by omega, by omega, by omega, by omega, Lib.hid (by rw [show y + 1 - i = (y - i) + 1 by omega]; exact HO.out.2.below HB4.out)⟩
          case measure => simp [intOf]; omega
      · have hbf : isBr x' = false := by simpa using hbr
        have HBR := Lib.hid (fun W => bracket_any x'.k (av : Int) x'.s W false hkind hbf)
        have HCN := Lib.hid (fun (W : World) (hW : C1 w3 B c (y - i) a o W) => C1.count_ hxc hW hbf hav hav2 (by rw [HB.out]; exact Nat.le_refl _))
        have hnl := nb_le (av : Int) (c.take (y - i))
        have hcl := HCL.out
        have hna : a + 1 ≤ 200 := by
          have e := (C1.count_ (a := av) hxc HC.out hbf hav hav2 (by rw [HB.out]; exact Nat.le_refl _)).1
          have := nbs_le (c.take (y - i + 1))
          rw [List.length_take] at this
          omega
        rw [List.length_take] at hnl
        have HAR := Lib.hid (show ∀ W, C1 w3 B c (y - i) a o W → B < W.heap.size ∧ W.cell? ⟨B, av, none⟩ = some (.int .i64 ((nb (av : Int) (c.take (y - i)) : Nat) : Int)) ∧ W.frozen? ⟨B, av, none⟩ = false from fun W hW => ⟨hW.2.2.2.2.1.1, (hW.2.2.2.2.1.2 av hav2).1, (hW.2.2.2.2.1.2 av hav2).2⟩)
        have hz200 : ((nb (av : Int) (c.take (y - i)) : Nat) : Int) ≤ 200 := by omega
        have hz201 : (0 : Int) ≤ ((nb (av : Int) (c.take (y - i)) : Nat) : Int) := by omega
        generalize ((nb (av : Int) (c.take (y - i)) : Nat) : Int) = z at HAR HCN hz200 hz201
        generalize bytesOf x'.s = S at c1 HTA HBR
        generalize x'.k = K at c0 HTA HBR
        clear hxc hxL hxg hav hkind hbr hbf hx' hnl hcl
        go_wp2_with (go_at_call 19; refine (HBR.out _).mono ?_; rintro e w4 ⟨rfl, hb4⟩; have HB4 := Lib.hid hb4; have HC4 := Lib.hid (HC.out.below hb4); obtain ⟨d0, d1, d2⟩ := HTA.out _ (HG4.out.step hb4).1; obtain ⟨f0, f1, f2⟩ := HAR.out _ HC4.out; clear hb4)
        go_roundw
        case rel => exact ⟨y + 1, a + 1, o, by omega, by omega, by go_num, by go_num, rfl, by omega, by omega, by omega, by omega, Lib.hid (by rw [show y + 1 - i = (y - i) + 1 by omega]; exact HCN.out _ HC4.out)⟩
        case measure => simp [intOf]; omega
    · obtain rfl : y = j := by omega
      have hfull : c.take (y - i) = c := List.take_of_length_le (by have := HM.out; omega)
      have hC := HC.out
      unfold C1 at hC
      rw [hfull] at hC
      obtain ⟨e1, e2, _, _, e5, e6⟩ := hC
      rw [HBAL.out 0 (Int.le_refl _)] at e2
      injection e2 with e2
      rw [HNBS.out] at e1
      subst e1 e2
      have HC2 := Lib.hid (show C2 w3 B c t.flat 0 wr from ⟨by
        refine ⟨e5.1, fun v hv => ?_⟩
        show wr.cell? ⟨B, v, none⟩ = some (.int .i64 (((nb (v : Int) c : Nat) : Int) - ((pl (v : Int) (t.flat.take 0) : Nat) : Int))) ∧ _
        rw [List.take_zero, show ((pl (v : Int) [] : Nat) : Int) = 0 from rfl, Int.sub_zero]
        exact e5.2 v hv, e6⟩)
      clear hfull e5 e6 HC hlt hy1 hy2
      go_wp2
      clear HG4
      go_loopw [12] (fun iv wx => ∃ k : Nat, k ≤ sz ∧ iv = .int .i64 k ∧ Hid (C2 w3 B c t.flat k wx)) (fun iv _ => sz - (intOf iv).toNat)
      case atStart => exact ⟨0, Nat.zero_le _, rfl, HC2⟩
      case round =>
        clear HC2
        obtain ⟨k, hk, rfl, HC2⟩ := hrel
        have HG4 := Lib.hid (show G5 w wr from HG3.out.step (by rw [HB.out]; exact HC2.out.2))
        by_cases hlt : k < sz
        · obtain ⟨x, hxk⟩ : ∃ x, t.flat[k]? = some x := ⟨_, List.getElem?_eq_getElem (by rw [HFL.out]; exact hlt)⟩
          have hxm := HAT.out x (List.mem_of_getElem? hxk)
          obtain ⟨av, hav⟩ : ∃ av : Nat, x.p = (av : Int) := ⟨x.p.toNat, by omega⟩
          have hav2 : av < 401 := by omega
          obtain ⟨ad2, rfl, had2, n0, n1, n2, n3, n4⟩ := Lies.nd (HL3.out.below (by rw [HB.out]; exact HC2.out.2)) hxk
          rw [hav] at n4
          obtain ⟨f1', f2⟩ := HC2.out.1.2 av hav2
          have f1 : wr.cell? ⟨B, av, none⟩ = some (.int .i64 (((nb (av : Int) c : Nat) : Int) - ((pl (av : Int) (t.flat.take k) : Nat) : Int))) := f1'
          clear f1'
          have f0 := HC2.out.1.1
          have HST := Lib.hid (HC2.out.step hxk hav hav2)
          have g1 := nb_le (av : Int) c
          have g2 := pl_le (av : Int) (t.flat.take k)
          rw [List.length_take] at g2
          have g3 := HCL.out
          have hz1 : ((nb (av : Int) c : Nat) : Int) - ((pl (av : Int) (t.flat.take k) : Nat) : Int) ≤ 200 := by omega
          have hz2 : -200 ≤ ((nb (av : Int) c : Nat) : Int) - ((pl (av : Int) (t.flat.take k) : Nat) : Int) := by omega
          generalize ((nb (av : Int) c : Nat) : Int) - ((pl (av : Int) (t.flat.take k) : Nat) : Int) = z at f1 HST hz1 hz2
          clear hxk hxm hav g1 g2 g3 n0 n1 n2 n3
          go_wp2
          go_roundw
          case rel => exact ⟨k + 1, by omega, by go_num, HST⟩
          case measure => simp [intOf]; omega
        · obtain rfl : k = sz := by omega
          have HZ := Lib.hid (show ∀ v, v < 401 → wr.cell? ⟨B, v, none⟩ = some (.int .i64 0) from fun v hv => by
            have := (HC2.out.1.2 v hv).1
            rw [this, List.take_of_length_le (by rw [HFL.out]; exact Nat.le_refl _)]
            show some (Value.int .i64 (((nb (v : Int) c : Nat) : Int) - ((pl (v : Int) t.flat : Nat) : Int))) = _
            rw [HNB.out, Int.sub_self])
          have hBl := HC2.out.1.1
          clear hlt hk
          go_wp2
          go_loopw [13] (fun iv wx => ∃ k : Nat, k ≤ 401 ∧ iv = .int .i64 k ∧ wx = wr) (fun iv _ => 401 - (intOf iv).toNat)
          case atStart => exact ⟨0, Nat.zero_le _, rfl, by first | trivial | rfl⟩
          case round =>
            obtain ⟨k, hk, rfl, rfl⟩ := hrel
            by_cases hlt : k < 401
            · have hcz := HZ.out k hlt
              go_wp2
              go_roundw
              case rel => exact ⟨k + 1, by omega, by go_num, by first | trivial | rfl⟩
              case measure => simp [intOf]; omega
            · obtain rfl : k = 401 := by omega
              clear hlt hk
              go_wp2_with (go_at_call 12; refine (alive_g w _ HG4.out).mono ?_; rintro e w' ⟨rfl, hg⟩; have HG5 := Lib.hid hg; clear hg)
              go_ret
              exact ⟨rfl, HG5.out⟩

theorem ExprsCounts_walk (A : Option Addr) (c : Nat) (L : List Tok) (a : Int) (w : World) (hL : L.length ≤ maxLen) (ht : Toks w A L) (hs : ∀ t ∈ L, t.s.length ≤ maxLen) (wa : (Lit.int .i64 a).wf = true) (tb : TB w) :
    Calls Tryd.prog 5 #[.slice A L.length c, .int .i64 a] w fun e w' => e = .returned (.bool true) ∧ Below w.heap.size w w' := by
  suffices hh : Calls Tryd.prog 5 #[.slice A L.length c, .int .i64 a] w fun e w' => e = .returned (.bool true) ∧ G5 w w' from hh.mono fun e w' ⟨he, hg⟩ => ⟨he, hg.1⟩
  have hg := G5.start tb
  cases h1 : greatF L with
  | true => exact cnt_great A c L a w hg hL ht h1
  | false =>
    by_cases h2 : askF L a = 0
    · obtain ⟨i, rfl⟩ : ∃ i : Nat, a = (i : Int) := ⟨a.toNat, by have := (ask_zero h2).2.1; omega⟩
      obtain ⟨r, hr⟩ := rd_ex (L.drop i)
      cases r with
      | er v q => exact cnt_er A c L i w hg ht hs h1 h2 v q hr
      | ok t q => exact cnt_ok A c L i w hg ht hs h1 h2 t q hr
    · exact cnt_ask A c L a w hg hL ht hs h1 _ rfl h2
end Go.Proofs.YtoobggcopoljcaaDoor
