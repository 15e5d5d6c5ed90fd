/- ParserParts, ParserExact: the ways that end early. -/
import Derived.Test.YtlmamidodahgmaaGreatDoorPWrit
namespace Go.Proofs.YtlmamidodahgmaaGreatDoor.P9
open Go.ChangeShapes Go.WideShapes Go.ChangeAt Go.RowKit N4 Q8
set_option linter.unusedVariables false
set_option linter.unusedSimpArgs false
set_option maxRecDepth 100000

theorem big_flat (t : Tr) : (∀ x ∈ t.flat, x.n ≤ 9223372036854775807) → t.big := by
  induction t with
  | leaf k n p => intro h; exact h _ (List.mem_singleton.2 rfl)
  | un k p a ih =>
    intro h
    refine ih fun x hx => ?_
    have := h (shift 0 x) (by show shift 0 x ∈ made1 k 0 p a.flat; unfold made1; exact List.mem_append_left _ (List.mem_map.2 ⟨x, hx, rfl⟩))
    exact this
  | bin k p a b iha ihb =>
    intro h
    refine ⟨iha fun x hx => ?_, ihb fun x hx => ?_⟩
    · have := h (shift 0 x) (by show shift 0 x ∈ made2 k 0 p a.flat b.flat; unfold made2; exact List.mem_append_left _ (List.mem_append_left _ (List.mem_map.2 ⟨x, hx, rfl⟩)))
      exact this
    · have := h (shift (a.flat.length : Int) x) (by show shift (a.flat.length : Int) x ∈ made2 k 0 p a.flat b.flat; unfold made2; exact List.mem_append_left _ (List.mem_append_right _ (List.mem_map.2 ⟨x, hx, rfl⟩)))
      exact this
theorem trees_of {q : Qy} (hc : Q8.chkF q = 0) (hL : ∀ x ∈ q.L, x.n ≤ 9223372036854775807) (hM : ∀ x ∈ q.M, x.n ≤ 9223372036854775807) : ∃ ta tm, Trees q ta tm := by
  obtain ⟨_, ha, hw, _⟩ := (Q8.chk_zero q).1 hc
  have key : ∀ N : List Nd, N4.checkF N = 0 → (∀ x ∈ N, x.n ≤ 9223372036854775807) → ∃ t, TrOf N t := by
    intro N h hN
    obtain ⟨t, t1, t2, t3⟩ := Tr.of_check h
    exact ⟨t, t1, t2, big_flat t (by rw [t3]; exact hN), t3⟩
  obtain ⟨ta, h1⟩ : ∃ ta, q.g ≠ 1 → TrOf q.L ta := by
    by_cases hg : q.g = 1
    · exact ⟨.leaf 1 0 0, fun h => absurd hg h⟩
    · unfold argE at ha
      rw [if_neg hg] at ha
      obtain ⟨t, h⟩ := key _ ha hL
      exact ⟨t, fun _ => h⟩
  obtain ⟨tm, h2⟩ : ∃ tm, q.M ≠ [] → TrOf q.M tm := by
    by_cases hm : q.M = []
    · exact ⟨.leaf 1 0 0, fun h => absurd hm h⟩
    · unfold whrE at hw
      rw [if_neg (fun e => hm (List.eq_nil_of_length_eq_zero e))] at hw
      obtain ⟨t, h⟩ := key _ hw hM
      exact ⟨t, fun _ => h⟩
  exact ⟨ta, tm, hc, h1, h2⟩
theorem Lex.short {l : List UInt8} {p n : Nat} {ts : List Tok} {q : Nat} {e : Int} (h : Lex l p n ts q e) : ∀ t ∈ ts, t.s.length ≤ l.length := by
  induction h with
  | done _ => intro t ht; simp at ht
  | many _ => intro t ht; simp at ht
  | err _ _ _ => intro t ht; simp at ht
  | @tok l p n m ts q e h1 h2 h3 h4 h5 ih =>
    intro t ht
    have hl : m.length = l.length - spanK 1 l := by rw [← h1, List.length_drop]
    rcases List.mem_cons.1 ht with rfl | ht
    · show (m.take _).length ≤ _
      rw [List.length_take]; omega
    · have := ih t ht
      rw [List.length_drop] at this
      omega
theorem great_no {N : List UInt8} {L : List Tok} {n : Nat} (h : allF N = (L, n, 0)) : greatF L = false := by
  obtain ⟨_, h400, hL⟩ := allF_0 h
  have h1 := Lex.short hL
  have h2 := hL.count (by omega)
  unfold greatF
  rw [decide_eq_false (by omega), Bool.false_or, List.any_eq_false]
  intro t ht
  have := h1 t ht
  simp
  omega
theorem sl_of {A : Option Addr} {n c : Nat} (h : SlOk A n c) (h2 : n ≤ c) : Sl A n c := by
  refine ⟨h2, fun e => ?_⟩
  rcases h with ⟨_, _, h⟩ | ⟨ad, h⟩
  · exact h
  · rw [e] at h; cases h
theorem qo_qv {W : World} {g : Int} {A : Option Addr} {c : Nat} {L : List Nd} {S : Option Addr} {d : Nat} {l : List Int} {j : Bool} {B : Option Addr} {e : Nat} {M : List Nd} {k s v : Int} {y : Bool} {t : Int} (h : QO W A c L S d l B e M s v t) : QV W ⟨g, L, l, j, M, k, s, v, y, t⟩ (.agg #[.int .u8 g, .slice A L.length c, .slice S l.length d, .bool j, .slice B M.length e, .int .u8 k, .int .i64 s, .int .i64 v, .bool y, .int .u8 t]) := by
  obtain ⟨h1, h2, h3, h4, _, _, _, ⟨z1, z2, z3⟩, _⟩ := h
  exact ⟨A, c, S, d, B, e, rfl, h1, sl_of h2 z1, sl_of h3 z2, sl_of h4 z3⟩
theorem rgr_v {q : Qy} {vv : Value} {w : World} (h : QV w q vv) : Calls Tryz.prog 5 #[vv] w fun e w' => e = .returned (.bool (greatQ q.L.length q.M.length q.l.length)) ∧ Below w.heap.size w w' := by
  obtain ⟨A, c, S, d, B, e, rfl, h2, _⟩ := h
  refine (rgreat_any _ _ _ _ _ _ _ _ _ _ _ _ _ _ _ _ w _ rfl).mono ?_
  rintro e w' ⟨rfl, hb⟩
  exact ⟨rfl, hb⟩
set_option maxHeartbeats 4000000 in
theorem prt_no1 (g : Int) (A : Option Addr) (c : Nat) (L : List Nd) (S : Option Addr) (d : Nat) (l : List Int) (j : Bool) (B : Option Addr) (e : Nat) (M : List Nd) (k s v : Int) (y : Bool) (t : Int) (w : World) (h : QO w A c L S d l B e M s v t) (hT : T9 w) (hgr : greatQ L.length M.length l.length = true) : Calls Tryz.prog 4 #[.agg #[.int .u8 g, .slice A L.length c, .slice S l.length d, .bool j, .slice B M.length e, .int .u8 k, .int .i64 s, .int .i64 v, .bool y, .int .u8 t]] w fun ee w' => ee = .returned (.bool true) ∧ Below w.heap.size w w' := by
  have HAL := Lib.hid (fun W (hg : G9 w W) => alive_c w W hg)
  have HG := Lib.hid (G9.start hT)
  have hqv : QV w ⟨g, L, l, j, M, k, s, v, y, t⟩ (.agg #[.int .u8 g, .slice A L.length c, .slice S l.length d, .bool j, .slice B M.length e, .int .u8 k, .int .i64 s, .int .i64 v, .bool y, .int .u8 t]) := qo_qv h
  have HQ := Lib.hid (fun (W : World) (hb : Below w.heap.size w W) => hqv.step hb)
  have HGR := Lib.hid (fun (W : World) (hb : Below w.heap.size w W) => show Calls Tryz.prog 5 #[.agg #[.int .u8 g, .slice A L.length c, .slice S l.length d, .bool j, .slice B M.length e, .int .u8 k, .int .i64 s, .int .i64 v, .bool y, .int .u8 t]] W fun ee w' => ee = .returned (.bool true) ∧ Below W.heap.size W w' from by have := rgr_v (hqv.step hb); rwa [show greatQ L.length M.length l.length = true from hgr] at this)
  clear hqv h hT hgr
  go_enter Tryz.func4, Tryz.ntmps4
  go_wp2_with (first
      | (go_at_call 5; refine (HGR.out _ ((Below.refl _ _).alloc (Nat.le_refl _) _)).mono ?_; rintro ee w2 ⟨rfl, hb⟩; have HG2 := Lib.hid ((HG.out.step ((Below.refl _ _).alloc (Nat.le_refl _) _)).step hb); have HX2 := Lib.hid ((Bx.new w (.int .u8 g) (.slice A L.length c) (.slice S l.length d) (.bool j) (.slice B M.length e) (.int .u8 k) (.int .i64 s) (.int .i64 v) (.bool y) (.int .u8 t) 27).step hb); obtain ⟨x1l, x10, x11, x12, x13, x14, x15, x16, x17, x18, x19⟩ := HX2.out; clear hb)
      | (go_at_call 7; refine (HAL.out _ HG2.out).mono ?_; rintro ee wz ⟨rfl, hg⟩; have HGZ := Lib.hid hg; clear hg))
  go_ret
  exact ⟨rfl, HGZ.out.1⟩
set_option maxHeartbeats 4000000 in
theorem prt_no2 (g : Int) (A : Option Addr) (c : Nat) (L : List Nd) (S : Option Addr) (d : Nat) (l : List Int) (j : Bool) (B : Option Addr) (e : Nat) (M : List Nd) (k s v : Int) (y : Bool) (t : Int) (w : World) (h : QO w A c L S d l B e M s v t) (hT : T9 w) (hgr : greatQ L.length M.length l.length = false) (hck : Q8.chkF ⟨g, L, l, j, M, k, s, v, y, t⟩ ≠ 0) : Calls Tryz.prog 4 #[.agg #[.int .u8 g, .slice A L.length c, .slice S l.length d, .bool j, .slice B M.length e, .int .u8 k, .int .i64 s, .int .i64 v, .bool y, .int .u8 t]] w fun ee w' => ee = .returned (.bool true) ∧ Below w.heap.size w w' := by
  have HAL := Lib.hid (fun W (hg : G9 w W) => alive_c w W hg)
  have HG := Lib.hid (G9.start hT)
  have hqv : QV w ⟨g, L, l, j, M, k, s, v, y, t⟩ (.agg #[.int .u8 g, .slice A L.length c, .slice S l.length d, .bool j, .slice B M.length e, .int .u8 k, .int .i64 s, .int .i64 v, .bool y, .int .u8 t]) := qo_qv h
  have HQ := Lib.hid (fun (W : World) (hb : Below w.heap.size w W) => hqv.step hb)
  have HGR := Lib.hid (fun (W : World) (hb : Below w.heap.size w W) => show Calls Tryz.prog 5 #[.agg #[.int .u8 g, .slice A L.length c, .slice S l.length d, .bool j, .slice B M.length e, .int .u8 k, .int .i64 s, .int .i64 v, .bool y, .int .u8 t]] W fun ee w' => ee = .returned (.bool false) ∧ Below W.heap.size W w' from by have := rgr_v (hqv.step hb); rwa [show greatQ L.length M.length l.length = false from hgr] at this)
  have HCK := Lib.hid (fun (W : World) (hb : Below w.heap.size w W) => rchk_v (hqv.step hb))
  obtain ⟨ck, hck0⟩ : ∃ ck, Q8.chkF ⟨g, L, l, j, M, k, s, v, y, t⟩ = ck := ⟨_, rfl⟩
  rw [hck0] at HCK hck
  have hcb : (ck != 0) = true := by simp [hck]
  clear hqv h hT hgr hck0
  go_enter Tryz.func4, Tryz.ntmps4
  go_wp2_with (first
      | (go_at_call 5; refine (HGR.out _ ((Below.refl _ _).alloc (Nat.le_refl _) _)).mono ?_; rintro ee w2 ⟨rfl, hb⟩; have HG2 := Lib.hid ((HG.out.step ((Below.refl _ _).alloc (Nat.le_refl _) _)).step hb); have HX2 := Lib.hid ((Bx.new w (.int .u8 g) (.slice A L.length c) (.slice S l.length d) (.bool j) (.slice B M.length e) (.int .u8 k) (.int .i64 s) (.int .i64 v) (.bool y) (.int .u8 t) 27).step hb); obtain ⟨x1l, x10, x11, x12, x13, x14, x15, x16, x17, x18, x19⟩ := HX2.out; clear hb)
      | (go_at_call 6; refine (HCK.out _ HG2.out.1).mono ?_; rintro ee w3 ⟨rfl, hb⟩; have HG3 := Lib.hid (HG2.out.step hb); have HX3 := Lib.hid (HX2.out.step hb); clear hb x1l x10 x11 x12 x13 x14 x15 x16 x17 x18 x19; obtain ⟨x1l, x10, x11, x12, x13, x14, x15, x16, x17, x18, x19⟩ := HX3.out)
      | (go_at_call 7; refine (HAL.out _ HG3.out).mono ?_; rintro ee wz ⟨rfl, hg⟩; have HGZ := Lib.hid hg; clear hg))
  go_ret
  exact ⟨rfl, HGZ.out.1⟩
set_option maxHeartbeats 4000000 in
theorem exa_no1 (g : Int) (A : Option Addr) (c : Nat) (L : List Nd) (S : Option Addr) (d : Nat) (l : List Int) (j : Bool) (B : Option Addr) (e : Nat) (M : List Nd) (k s v : Int) (y : Bool) (t : Int) (a : Int) (w : World) (h : QO w A c L S d l B e M s v t) (hT : T9 w) (hgr : greatQ L.length M.length l.length = true) : Calls Tryz.prog 3 #[.agg #[.int .u8 g, .slice A L.length c, .slice S l.length d, .bool j, .slice B M.length e, .int .u8 k, .int .i64 s, .int .i64 v, .bool y, .int .u8 t], .int .i64 a] w fun ee w' => ee = .returned (.bool true) ∧ Below w.heap.size w w' := by
  have HAL := Lib.hid (fun W (hg : G9 w W) => alive_c w W hg)
  have HG := Lib.hid (G9.start hT)
  have hqv : QV w ⟨g, L, l, j, M, k, s, v, y, t⟩ (.agg #[.int .u8 g, .slice A L.length c, .slice S l.length d, .bool j, .slice B M.length e, .int .u8 k, .int .i64 s, .int .i64 v, .bool y, .int .u8 t]) := qo_qv h
  have HQ := Lib.hid (fun (W : World) (hb : Below w.heap.size w W) => hqv.step hb)
  have HGR := Lib.hid (fun (W : World) (hb : Below w.heap.size w W) => show Calls Tryz.prog 5 #[.agg #[.int .u8 g, .slice A L.length c, .slice S l.length d, .bool j, .slice B M.length e, .int .u8 k, .int .i64 s, .int .i64 v, .bool y, .int .u8 t]] W fun ee w' => ee = .returned (.bool true) ∧ Below W.heap.size W w' from by have := rgr_v (hqv.step hb); rwa [show greatQ L.length M.length l.length = true from hgr] at this)
  clear hqv h hT hgr
  go_enter Tryz.func3, Tryz.ntmps3
  go_wp2_with (first
      | (go_at_call 5; refine (HGR.out _ ((Below.refl _ _).alloc (Nat.le_refl _) _)).mono ?_; rintro ee w2 ⟨rfl, hb⟩; have HG2 := Lib.hid ((HG.out.step ((Below.refl _ _).alloc (Nat.le_refl _) _)).step hb); have HX2 := Lib.hid ((Bx.new w (.int .u8 g) (.slice A L.length c) (.slice S l.length d) (.bool j) (.slice B M.length e) (.int .u8 k) (.int .i64 s) (.int .i64 v) (.bool y) (.int .u8 t) 27).step hb); obtain ⟨x1l, x10, x11, x12, x13, x14, x15, x16, x17, x18, x19⟩ := HX2.out; clear hb)
      | (go_at_call 7; refine (HAL.out _ HG2.out).mono ?_; rintro ee wz ⟨rfl, hg⟩; have HGZ := Lib.hid hg; clear hg))
  go_ret
  exact ⟨rfl, HGZ.out.1⟩
set_option maxHeartbeats 4000000 in
theorem exa_no2 (g : Int) (A : Option Addr) (c : Nat) (L : List Nd) (S : Option Addr) (d : Nat) (l : List Int) (j : Bool) (B : Option Addr) (e : Nat) (M : List Nd) (k s v : Int) (y : Bool) (t : Int) (a : Int) (w : World) (h : QO w A c L S d l B e M s v t) (hT : T9 w) (hgr : greatQ L.length M.length l.length = false) (hck : Q8.chkF ⟨g, L, l, j, M, k, s, v, y, t⟩ ≠ 0) : Calls Tryz.prog 3 #[.agg #[.int .u8 g, .slice A L.length c, .slice S l.length d, .bool j, .slice B M.length e, .int .u8 k, .int .i64 s, .int .i64 v, .bool y, .int .u8 t], .int .i64 a] w fun ee w' => ee = .returned (.bool true) ∧ Below w.heap.size w w' := by
  have HAL := Lib.hid (fun W (hg : G9 w W) => alive_c w W hg)
  have HG := Lib.hid (G9.start hT)
  have hqv : QV w ⟨g, L, l, j, M, k, s, v, y, t⟩ (.agg #[.int .u8 g, .slice A L.length c, .slice S l.length d, .bool j, .slice B M.length e, .int .u8 k, .int .i64 s, .int .i64 v, .bool y, .int .u8 t]) := qo_qv h
  have HQ := Lib.hid (fun (W : World) (hb : Below w.heap.size w W) => hqv.step hb)
  have HGR := Lib.hid (fun (W : World) (hb : Below w.heap.size w W) => show Calls Tryz.prog 5 #[.agg #[.int .u8 g, .slice A L.length c, .slice S l.length d, .bool j, .slice B M.length e, .int .u8 k, .int .i64 s, .int .i64 v, .bool y, .int .u8 t]] W fun ee w' => ee = .returned (.bool false) ∧ Below W.heap.size W w' from by have := rgr_v (hqv.step hb); rwa [show greatQ L.length M.length l.length = false from hgr] at this)
  have HCK := Lib.hid (fun (W : World) (hb : Below w.heap.size w W) => rchk_v (hqv.step hb))
  obtain ⟨ck, hck0⟩ : ∃ ck, Q8.chkF ⟨g, L, l, j, M, k, s, v, y, t⟩ = ck := ⟨_, rfl⟩
  rw [hck0] at HCK hck
  have hcb : (ck != 0) = true := by simp [hck]
  clear hqv h hT hgr hck0
  go_enter Tryz.func3, Tryz.ntmps3
  go_wp2_with (first
      | (go_at_call 5; refine (HGR.out _ ((Below.refl _ _).alloc (Nat.le_refl _) _)).mono ?_; rintro ee w2 ⟨rfl, hb⟩; have HG2 := Lib.hid ((HG.out.step ((Below.refl _ _).alloc (Nat.le_refl _) _)).step hb); have HX2 := Lib.hid ((Bx.new w (.int .u8 g) (.slice A L.length c) (.slice S l.length d) (.bool j) (.slice B M.length e) (.int .u8 k) (.int .i64 s) (.int .i64 v) (.bool y) (.int .u8 t) 27).step hb); obtain ⟨x1l, x10, x11, x12, x13, x14, x15, x16, x17, x18, x19⟩ := HX2.out; clear hb)
      | (go_at_call 6; refine (HCK.out _ HG2.out.1).mono ?_; rintro ee w3 ⟨rfl, hb⟩; have HG3 := Lib.hid (HG2.out.step hb); have HX3 := Lib.hid (HX2.out.step hb); clear hb x1l x10 x11 x12 x13 x14 x15 x16 x17 x18 x19; obtain ⟨x1l, x10, x11, x12, x13, x14, x15, x16, x17, x18, x19⟩ := HX3.out)
      | (go_at_call 7; refine (HAL.out _ HG3.out).mono ?_; rintro ee wz ⟨rfl, hg⟩; have HGZ := Lib.hid hg; clear hg))
  go_ret
  exact ⟨rfl, HGZ.out.1⟩
set_option maxHeartbeats 4000000 in
theorem exa_no3 (g : Int) (A : Option Addr) (c : Nat) (L : List Nd) (S : Option Addr) (d : Nat) (l : List Int) (j : Bool) (B : Option Addr) (e : Nat) (M : List Nd) (k s v : Int) (y : Bool) (t : Int) (a : Int) (w : World) (h : QO w A c L S d l B e M s v t) (hT : T9 w) (hgr : greatQ L.length M.length l.length = false) (hck : Q8.chkF ⟨g, L, l, j, M, k, s, v, y, t⟩ = 0) (ha : a < 0) : Calls Tryz.prog 3 #[.agg #[.int .u8 g, .slice A L.length c, .slice S l.length d, .bool j, .slice B M.length e, .int .u8 k, .int .i64 s, .int .i64 v, .bool y, .int .u8 t], .int .i64 a] w fun ee w' => ee = .returned (.bool true) ∧ Below w.heap.size w w' := by
  have HAL := Lib.hid (fun W (hg : G9 w W) => alive_c w W hg)
  have HG := Lib.hid (G9.start hT)
  have hqv : QV w ⟨g, L, l, j, M, k, s, v, y, t⟩ (.agg #[.int .u8 g, .slice A L.length c, .slice S l.length d, .bool j, .slice B M.length e, .int .u8 k, .int .i64 s, .int .i64 v, .bool y, .int .u8 t]) := qo_qv h
  have HQ := Lib.hid (fun (W : World) (hb : Below w.heap.size w W) => hqv.step hb)
  have HGR := Lib.hid (fun (W : World) (hb : Below w.heap.size w W) => show Calls Tryz.prog 5 #[.agg #[.int .u8 g, .slice A L.length c, .slice S l.length d, .bool j, .slice B M.length e, .int .u8 k, .int .i64 s, .int .i64 v, .bool y, .int .u8 t]] W fun ee w' => ee = .returned (.bool false) ∧ Below W.heap.size W w' from by have := rgr_v (hqv.step hb); rwa [show greatQ L.length M.length l.length = false from hgr] at this)
  have HCK := Lib.hid (fun (W : World) (hb : Below w.heap.size w W) => rchk_v (hqv.step hb))
  obtain ⟨ck, hck0⟩ : ∃ ck, Q8.chkF ⟨g, L, l, j, M, k, s, v, y, t⟩ = ck := ⟨_, rfl⟩
  rw [hck] at hck0
  subst hck0
  rw [hck] at HCK
  clear hqv h hT hgr hck
  go_enter Tryz.func3, Tryz.ntmps3
  go_wp2_with (first
      | (go_at_call 5; refine (HGR.out _ ((Below.refl _ _).alloc (Nat.le_refl _) _)).mono ?_; rintro ee w2 ⟨rfl, hb⟩; have HG2 := Lib.hid ((HG.out.step ((Below.refl _ _).alloc (Nat.le_refl _) _)).step hb); have HX2 := Lib.hid ((Bx.new w (.int .u8 g) (.slice A L.length c) (.slice S l.length d) (.bool j) (.slice B M.length e) (.int .u8 k) (.int .i64 s) (.int .i64 v) (.bool y) (.int .u8 t) 27).step hb); obtain ⟨x1l, x10, x11, x12, x13, x14, x15, x16, x17, x18, x19⟩ := HX2.out; clear hb)
      | (go_at_call 6; refine (HCK.out _ HG2.out.1).mono ?_; rintro ee w3 ⟨rfl, hb⟩; have HG3 := Lib.hid (HG2.out.step hb); have HX3 := Lib.hid (HX2.out.step hb); clear hb x1l x10 x11 x12 x13 x14 x15 x16 x17 x18 x19; obtain ⟨x1l, x10, x11, x12, x13, x14, x15, x16, x17, x18, x19⟩ := HX3.out)
      | (go_at_call 7; refine (HAL.out _ HG3.out).mono ?_; rintro ee wz ⟨rfl, hg⟩; have HGZ := Lib.hid hg; clear hg))
  go_ret
  exact ⟨rfl, HGZ.out.1⟩
end Go.Proofs.YtlmamidodahgmaaGreatDoor.P9
