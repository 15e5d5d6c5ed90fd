/- The walk of NodesMade. -/
import Derived.Test.YtakpbpabblgobaaNLSizes
import Derived.Test.YtakpbpabblgobaaNNode
import Derived.Test.YtakpbpabblgobaaNFresh
namespace Go.Proofs.Ytakpbpabblgobaa
open Go.ChangeShapes Go.WideShapes Go.ChangeAt Go.RowKit
set_option linter.unusedVariables false
set_option linter.unusedSimpArgs false

theorem nds_info : (Try.prog.info? 24).map (fun i => (i.zero, i.size, i.bytes)) = some (some (.slice none 0 0), 1, 24) := by kernel_rfl
def NOk (M : List Nd) (n : Nat) (w : World) (e : Ending) (w' : World) : Prop := ∃ A c, e = .returned (.tuple #[.slice A n c, .int .i64 0]) ∧ Lies w' A (ndCells M) ∧ Below w.heap.size w w'
theorem node_ok {args : Array Value} {w : World} {M : List Nd} {n : Nat} (h : Calls Try.prog 14 args w (NPost M w)) (h0 : checkF M = 0) (hn : M.length = n) : Calls Try.prog 14 args w (NOk M n w) := by
  refine h.mono ?_
  rintro e w' ⟨hb, ⟨h1, _⟩ | ⟨_, A, c, rfl, hl, _⟩⟩
  · exact absurd h0 h1
  · rw [hn]; exact ⟨A, c, rfl, hl, hb⟩
/-- A struct of the law's own, in its block. -/
def X5 (W : World) (B : Nat) (x : Nd) : Prop :=
  W.cell? ⟨B, 0, none⟩ = some (.int .u8 x.k) ∧ W.cell? ⟨B, 1, none⟩ = some (.int .i64 x.n) ∧ W.cell? ⟨B, 2, none⟩ = some (.int .i64 x.a) ∧ W.cell? ⟨B, 3, none⟩ = some (.int .i64 x.b) ∧ W.cell? ⟨B, 4, none⟩ = some (.int .i64 x.p) ∧ B < W.heap.size
theorem X5.start (w : World) (x : Nd) (t : TypeId) : X5 (w.alloc (.cells #[.int .u8 x.k, .int .i64 x.n, .int .i64 x.a, .int .i64 x.b, .int .i64 x.p] t)) w.heap.size x :=
  ⟨by go_simp, by go_simp, by go_simp, by go_simp, by go_simp, by simp⟩
theorem X5.lt {W : World} {B : Nat} {x : Nd} (h : X5 W B x) : B < W.heap.size := h.2.2.2.2.2
theorem X5.below {W W' : World} {B : Nat} {x : Nd} (h : X5 W B x) (hb : Below W.heap.size W W') : X5 W' B x := by
  obtain ⟨h0, h1, h2, h3, h4, h5⟩ := h
  have hc := (bcell hb).1
  exact ⟨(hc _ _ h5).trans h0, (hc _ _ h5).trans h1, (hc _ _ h5).trans h2, (hc _ _ h5).trans h3, (hc _ _ h5).trans h4, Nat.lt_of_lt_of_le h5 hb.size⟩
theorem X5.grown {W W' : World} {B : Nat} {x : Nd} {row : Option Nat} (h : X5 W B x) (hg : W.grownBy W' row) (hne : row ≠ some B) : X5 W' B x := by
  obtain ⟨h0, h1, h2, h3, h4, h5⟩ := h
  exact ⟨hg.cell h0 (Ne.symm hne), hg.cell h1 (Ne.symm hne), hg.cell h2 (Ne.symm hne), hg.cell h3 (Ne.symm hne), hg.cell h4 (Ne.symm hne), Nat.lt_of_lt_of_le h5 hg.size⟩
theorem Lies.grown {W W' : World} {A : Option Addr} {cs : List Value} {row : Option Nat} (h : Lies W A cs) (hg : W.grownBy W' row) (hne : ∀ a, A = some a → row ≠ some a.block) : Lies W' A cs := by
  rcases h with h | ⟨ad, h1, h2, h3⟩
  · exact .inl h
  · exact .inr ⟨ad, h1, Nat.lt_of_lt_of_le h2 hg.size, fun j u hu => hg.cell (h3 j u hu) (by rw [add_block]; exact Ne.symm (hne ad h1))⟩
theorem Lies.grown' {W0 W W' : World} {A : Option Addr} {cs : List Value} {row : Option Nat} (h0 : Lies W0 A cs) (h : Lies W A cs) (hg : W.grownBy W' row) (hne : ∀ b, b < W0.heap.size → row ≠ some b) : Lies W' A cs := by
  rcases h0 with h0 | ⟨ad, h1, h2, _⟩
  · exact .inl h0
  · exact h.grown hg (by intro a ha; rw [h1] at ha; injection ha with ha; subst ha; exact hne _ h2)

set_option maxHeartbeats 4000000 in
set_option maxRecDepth 100000 in
theorem made_0 (ad : Addr) (n c : Nat) (L : List Nd) (i s : Nat) (k xn xa xb xp : Int) (w : World) (hn : L.length = n) (hnc : n ≤ c) (h6 : n ≤ 60) (ht : Lies w (some ad) (ndCells L)) (hv : checkF L = 0) (hi : i < n) (hs : sizF L i = s) (hok : okK k = true) (hft : fitsF k xn xp = true) (hck : cnt k = 0)
    (hcl : (cutF L i).length = s) (hcc : checkF (cutF L i) = 0) (hm : cutF L i = made0 k xn xp) (hat : ∀ w1, Bl w w1 → NdAt w1 ad i ⟨k, xn, xa, xb, xp⟩) :
    Calls Try.prog 5 #[.slice (some ad) n c, .int .i64 i] w fun e w' => e = .returned (.bool true) ∧ Below w.heap.size w w' := by
  have hsl : s ≤ n := by
    obtain ⟨E, hg⟩ := checkF_zero hv
    have := (hg.size (i := i) (by omega)).2.1
    omega
  have HG := Lib.hid (great_any (some ad) n c w false (decide_eq_false (by omega)))
  have HC := Lib.hid (rcheck_any (some ad) c n L w hn (by unfold maxLen; omega) ht 0 hv)
  have HPi := Lib.hid (fun w1 (hb : Bl w w1) => part_ok (some ad) c n L i s w1 (hb.lies ht) hv hn hnc hi hs)
  have HK := Lib.hid (fun w => show Calls Try.prog 16 #[.int .u8 k] w fun e w' => e = .returned (.tuple #[.int .i64 0, .int .i64 0]) ∧ w = w' by have := parts_any k w; rwa [show partsN k = 0 from partsN_of hok hck, show partsE k = 0 by simp [partsE, hok]] at this)
  have HE := Lib.hid (fun A2 c2 a3 w1 (hl : Lies w1 A2 (ndCells (cutF L i))) (hl3 : Lies w1 (some a3) (ndCells (cutF L i))) => requal_any A2 (some a3) s s c2 s (cutF L i) (cutF L i) w1 hcl hcl (by omega) (by omega) hl hl3 true (by simp))
  obtain ⟨i0, hi0, hz0, hz1, hz2⟩ := info_parts nds_info
  have HA := Lib.hid hat
  have j2 : (0 : Int) ≤ i := by omega
  have j3 : (i : Int) < n := by omega
  have HN := Lib.hid (fun w1 => node_ok (n := s) (node_0 none 0 k xn xp w1 (.inl rfl) hok hft hck) (by rw [← hm]; exact hcc) (by rw [← hm]; exact hcl))
  rw [← hm] at HN
  have hi := hi0
  clear hn ht hv hs hok hft hck hcl hcc hat hm hi0
  go_enter Try.func5, Try.ntmps5
  go_wp2_with (first
    | (go_at_call 18; refine HG.out.mono ?_; rintro e w1 ⟨rfl, rfl⟩)
    | (go_at_call 23; refine HC.out.mono ?_; rintro e w1 ⟨rfl, hb1⟩; have b1 := (Bl.start w).step hb1; clear hb1)
    | (go_at_call 11; have hq := b1; ((with_reducible refine (HPi.out _ hq).mono ?_)); rintro e w5 ⟨a5, rfl, hl5, hb5⟩; have HL5 := Lib.hid hl5; have b5 := hq.step hb5; clear hb5 hl5 hq b1; obtain ⟨c0, c1, c2, c3, c4⟩ := HA.out _ b5; have b6 := b5.step ((Below.refl w5.heap.size w5).alloc (Nat.le_refl _) (.cells #[.int .u8 k, .int .i64 xn, .int .i64 xa, .int .i64 xb, .int .i64 xp] 23)); have HL6 := Lib.hid (HL5.out.alloc (.cells #[.int .u8 k, .int .i64 xn, .int .i64 xa, .int .i64 xb, .int .i64 xp] 23)); have HX6 := Lib.hid (X5.start w5 ⟨k, xn, xa, xb, xp⟩ 23); clear b5)
    | (go_at_call 16; refine (HK.out _).mono ?_; rintro e w' ⟨rfl, rfl⟩)
    | (go_at_call 14; refine (HN.out _).mono ?_; rintro e wn ⟨An, cn, rfl, hln, hbn⟩; have HLn := Lib.hid hln; have HLo := Lib.hid (HL6.out.below hbn); have bn := b6.step hbn; clear hln hbn)
    | (go_at_call 24; refine (HE.out _ _ _ _ HLn.out HLo.out).mono ?_; rintro e we ⟨rfl, hbe⟩; have be := bn.step hbe; clear hbe)
    | (go_at_call 17; refine (alive_any _).mono ?_; rintro e wf ⟨rfl, hbf⟩; have bf := be.step hbf; clear hbf))
  go_ret
  exact ⟨rfl, bf⟩

set_option maxHeartbeats 4000000 in
set_option maxRecDepth 100000 in
theorem made_1 (ad : Addr) (n c : Nat) (L : List Nd) (i s : Nat) (k xn xa xb xp : Int) (w : World) (hn : L.length = n) (hnc : n ≤ c) (h6 : n ≤ 60) (ht : Lies w (some ad) (ndCells L)) (hv : checkF L = 0) (hi : i < n) (hs : sizF L i = s) (hok : okK k = true) (hft : fitsF k xn xp = true) (hck : cnt k = 1)
    (hcl : (cutF L i).length = s) (hcc : checkF (cutF L i) = 0) (i1 s1 : Nat) (hi1 : i1 < n) (hs1 : sizF L i1 = s1) (hl1 : (cutF L i1).length = s1) (hc1 : checkF (cutF L i1) = 0) (hm : cutF L i = made1 k xn xp (cutF L i1)) (hat : ∀ w1, Bl w w1 → NdAt w1 ad i ⟨k, xn, (i1 : Nat), xb, xp⟩) :
    Calls Try.prog 5 #[.slice (some ad) n c, .int .i64 i] w fun e w' => e = .returned (.bool true) ∧ Below w.heap.size w w' := by
  have hsl : s ≤ n := by
    obtain ⟨E, hg⟩ := checkF_zero hv
    have := (hg.size (i := i) (by omega)).2.1
    omega
  have HG := Lib.hid (great_any (some ad) n c w false (decide_eq_false (by omega)))
  have HC := Lib.hid (rcheck_any (some ad) c n L w hn (by unfold maxLen; omega) ht 0 hv)
  have HPi := Lib.hid (fun w1 (hb : Bl w w1) => part_ok (some ad) c n L i s w1 (hb.lies ht) hv hn hnc hi hs)
  have HK := Lib.hid (fun w => show Calls Try.prog 16 #[.int .u8 k] w fun e w' => e = .returned (.tuple #[.int .i64 1, .int .i64 0]) ∧ w = w' by have := parts_any k w; rwa [show partsN k = 1 from partsN_of hok hck, show partsE k = 0 by simp [partsE, hok]] at this)
  have HE := Lib.hid (fun A2 c2 a3 w1 (hl : Lies w1 A2 (ndCells (cutF L i))) (hl3 : Lies w1 (some a3) (ndCells (cutF L i))) => requal_any A2 (some a3) s s c2 s (cutF L i) (cutF L i) w1 hcl hcl (by omega) (by omega) hl hl3 true (by simp))
  obtain ⟨i0, hi0, hz0, hz1, hz2⟩ := info_parts nds_info
  have HA := Lib.hid hat
  have j2 : (0 : Int) ≤ i := by omega
  have j3 : (i : Int) < n := by omega
  have P1 := Lib.hid (fun w1 (hb : Bl w w1) => part_ok (some ad) c n L i1 s1 w1 (hb.lies ht) hv hn hnc hi1 hs1)
  have HN := Lib.hid (fun PA pc a1 w1 (h1 : Lies w1 (some a1) (ndCells (cutF L i1))) (hp : Lies w1 PA [.slice (some a1) s1 s1]) => node_ok (n := s) (node_1 PA pc k xn xp w1 (some a1) s1 s1 (cutF L i1) hl1 h1 hc1 hp hok hft hck) (by rw [← hm]; exact hcc) (by rw [← hm]; exact hcl))
  rw [← hm] at HN
  have hi := hi0
  clear hn ht hv hs hok hft hck hcl hcc hat hm hi0 hs1 hl1 hc1
  go_enter Try.func5, Try.ntmps5
  go_wp2_with (first
    | (go_at_call 18; refine HG.out.mono ?_; rintro e w1 ⟨rfl, rfl⟩)
    | (go_at_call 23; refine HC.out.mono ?_; rintro e w1 ⟨rfl, hb1⟩; have b1 := (Bl.start w).step hb1; clear hb1)
    | (go_at_call 11; have hq := b1; ((with_reducible refine (HPi.out _ hq).mono ?_)); rintro e w5 ⟨a5, rfl, hl5, hb5⟩; have HL5 := Lib.hid hl5; have b5 := hq.step hb5; clear hb5 hl5 hq b1; obtain ⟨c0, c1, c2, c3, c4⟩ := HA.out _ b5; have b6 := b5.step ((Below.refl w5.heap.size w5).alloc (Nat.le_refl _) (.cells #[.int .u8 k, .int .i64 xn, .int .i64 (i1 : Nat), .int .i64 xb, .int .i64 xp] 23)); have HL6 := Lib.hid (HL5.out.alloc (.cells #[.int .u8 k, .int .i64 xn, .int .i64 (i1 : Nat), .int .i64 xb, .int .i64 xp] 23)); have HX6 := Lib.hid (X5.start w5 ⟨k, xn, (i1 : Nat), xb, xp⟩ 23); clear b5)
    | (go_at_call 16; refine (HK.out _).mono ?_; rintro e w' ⟨rfl, rfl⟩)
    | (go_at_call 11; ((with_reducible refine (P1.out _ b6).mono ?_)); rintro e w7 ⟨a7, rfl, hl7, hb7⟩; have HL7 := Lib.hid hl7; have HLo7 := Lib.hid (HL6.out.below hb7); have HX7 := Lib.hid (HX6.out.below hb7); have b7 := b6.step hb7; clear hl7 hb7)
    | (at_builtin; refine wpList_append_lies _ rfl (.tmp 68) (.tmp 70) 25 rfl w.heap.size 24 i0 _ 1 24 Try.underlying25 hi hz0 hz1 hz2 rfl (by decide) _ 0 [] rfl (World.ownsRow_nil _ _ _ _) ⟨w7.heap.size, 0, none⟩ 1 1 [.slice (some a7) s1 s1] rfl rfl ?p1 ?p2 (by decide) ?p3 ?p4 ?p5 (w7.heap.size + 1) ?p6 ?_))
  case p1 => exact cells_new1 w7 _ rfl _ _
  case p2 => intro u hu; simp only [List.mem_cons, List.not_mem_nil, or_false] at hu; rcases hu with rfl; rfl
  case p3 => unfold maxLen; omega
  case p4 => omega
  case p5 => have := b7.size; simp; omega
  case p6 => simp
  intro g1 cap1 w8 ho8 hg8 hat8 _
  have hgB : g1 ≠ w5.heap.size := by
    rcases hat8 with h | h
    · cases h
    · have := HX7.out.lt; omega
  have HO8 := Lib.hid ho8
  have HX8 := Lib.hid ((HX7.out.below ((Below.refl _ _).alloc (Nat.le_refl _) _)).grown hg8 (by intro h; cases h))
  have hbg : Below w7.heap.size w7 w8 := ((Below.refl _ _).alloc (Nat.le_refl _) _).grown hg8 (by simp) (by intro j hj; cases hj)
  have HL8 := Lib.hid (HL7.out.below hbg)
  have HLo8 := Lib.hid (HLo7.out.below hbg)
  have b8 := b7.step hbg
  clear ho8 hg8 hat8 hbg
  obtain ⟨x0, x1, x2, x3, x4, xlt⟩ := HX8.out
  go_wp2_with (first
    | (go_at_call 14; refine (HN.out _ _ _ _ HL8.out (Lies.of_own HO8.out (by intro h; omega))).mono ?_; rintro e wn ⟨An, cn, rfl, hln, hbn⟩; have HLn := Lib.hid hln; have HLo := Lib.hid (HLo8.out.below hbn); have bn := b8.step hbn; clear hln hbn)
    | (go_at_call 24; refine (HE.out _ _ _ _ HLn.out HLo.out).mono ?_; rintro e we ⟨rfl, hbe⟩; have be := bn.step hbe; clear hbe)
    | (go_at_call 17; refine (alive_any _).mono ?_; rintro e wf ⟨rfl, hbf⟩; have bf := be.step hbf; clear hbf))
  go_ret
  exact ⟨rfl, bf⟩

set_option maxHeartbeats 4000000 in
set_option maxRecDepth 100000 in
theorem made_2 (ad : Addr) (n c : Nat) (L : List Nd) (i s : Nat) (k xn xa xb xp : Int) (w : World) (hn : L.length = n) (hnc : n ≤ c) (h6 : n ≤ 60) (ht : Lies w (some ad) (ndCells L)) (hv : checkF L = 0) (hi : i < n) (hs : sizF L i = s) (hok : okK k = true) (hft : fitsF k xn xp = true) (hck : cnt k = 2)
    (hcl : (cutF L i).length = s) (hcc : checkF (cutF L i) = 0) (i1 s1 i2 s2 : Nat) (hi1 : i1 < n) (hs1 : sizF L i1 = s1) (hl1 : (cutF L i1).length = s1) (hc1 : checkF (cutF L i1) = 0) (hi2 : i2 < n) (hs2 : sizF L i2 = s2) (hl2 : (cutF L i2).length = s2) (hc2 : checkF (cutF L i2) = 0) (hm : cutF L i = made2 k xn xp (cutF L i1) (cutF L i2)) (hat : ∀ w1, Bl w w1 → NdAt w1 ad i ⟨k, xn, (i1 : Nat), (i2 : Nat), xp⟩) :
    Calls Try.prog 5 #[.slice (some ad) n c, .int .i64 i] w fun e w' => e = .returned (.bool true) ∧ Below w.heap.size w w' := by
  have hsl : s ≤ n := by
    obtain ⟨E, hg⟩ := checkF_zero hv
    have := (hg.size (i := i) (by omega)).2.1
    omega
  have HG := Lib.hid (great_any (some ad) n c w false (decide_eq_false (by omega)))
  have HC := Lib.hid (rcheck_any (some ad) c n L w hn (by unfold maxLen; omega) ht 0 hv)
  have HPi := Lib.hid (fun w1 (hb : Bl w w1) => part_ok (some ad) c n L i s w1 (hb.lies ht) hv hn hnc hi hs)
  have HK := Lib.hid (fun w => show Calls Try.prog 16 #[.int .u8 k] w fun e w' => e = .returned (.tuple #[.int .i64 2, .int .i64 0]) ∧ w = w' by have := parts_any k w; rwa [show partsN k = 2 from partsN_of hok hck, show partsE k = 0 by simp [partsE, hok]] at this)
  have HE := Lib.hid (fun A2 c2 a3 w1 (hl : Lies w1 A2 (ndCells (cutF L i))) (hl3 : Lies w1 (some a3) (ndCells (cutF L i))) => requal_any A2 (some a3) s s c2 s (cutF L i) (cutF L i) w1 hcl hcl (by omega) (by omega) hl hl3 true (by simp))
  obtain ⟨i0, hi0, hz0, hz1, hz2⟩ := info_parts nds_info
  have HA := Lib.hid hat
  have j2 : (0 : Int) ≤ i := by omega
  have j3 : (i : Int) < n := by omega
  have P1 := Lib.hid (fun w1 (hb : Bl w w1) => part_ok (some ad) c n L i1 s1 w1 (hb.lies ht) hv hn hnc hi1 hs1)
  have P2 := Lib.hid (fun w1 (hb : Bl w w1) => part_okF (some ad) c n L i2 s2 w1 (hb.lies ht) hv hn hnc hi2 hs2)
  have HN := Lib.hid (fun PA pc a1 a2 w1 (h1 : Lies w1 (some a1) (ndCells (cutF L i1))) (h2 : Lies w1 (some a2) (ndCells (cutF L i2))) (hp : Lies w1 PA [.slice (some a1) s1 s1, .slice (some a2) s2 s2]) => node_ok (n := s) (node_2 PA pc k xn xp w1 (some a1) s1 s1 (cutF L i1) hl1 h1 hc1 (some a2) s2 s2 (cutF L i2) hl2 h2 hc2 hp hok hft hck) (by rw [← hm]; exact hcc) (by rw [← hm]; exact hcl))
  rw [← hm] at HN
  have hi := hi0
  clear hn ht hv hs hok hft hck hcl hcc hat hm hi0 hs1 hl1 hc1 hs2 hl2 hc2
  go_enter Try.func5, Try.ntmps5
  go_wp2_with (first
    | (go_at_call 18; refine HG.out.mono ?_; rintro e w1 ⟨rfl, rfl⟩)
    | (go_at_call 23; refine HC.out.mono ?_; rintro e w1 ⟨rfl, hb1⟩; have b1 := (Bl.start w).step hb1; clear hb1)
    | (go_at_call 11; have hq := b1; ((with_reducible refine (HPi.out _ hq).mono ?_)); rintro e w5 ⟨a5, rfl, hl5, hb5⟩; have HL5 := Lib.hid hl5; have b5 := hq.step hb5; clear hb5 hl5 hq b1; obtain ⟨c0, c1, c2, c3, c4⟩ := HA.out _ b5; have b6 := b5.step ((Below.refl w5.heap.size w5).alloc (Nat.le_refl _) (.cells #[.int .u8 k, .int .i64 xn, .int .i64 (i1 : Nat), .int .i64 (i2 : Nat), .int .i64 xp] 23)); have HL6 := Lib.hid (HL5.out.alloc (.cells #[.int .u8 k, .int .i64 xn, .int .i64 (i1 : Nat), .int .i64 (i2 : Nat), .int .i64 xp] 23)); have HX6 := Lib.hid (X5.start w5 ⟨k, xn, (i1 : Nat), (i2 : Nat), xp⟩ 23); clear b5)
    | (go_at_call 16; refine (HK.out _).mono ?_; rintro e w' ⟨rfl, rfl⟩)
    | (go_at_call 11; ((with_reducible refine (P1.out _ b6).mono ?_)); rintro e w7 ⟨a7, rfl, hl7, hb7⟩; have HL7 := Lib.hid hl7; have HLo7 := Lib.hid (HL6.out.below hb7); have HX7 := Lib.hid (HX6.out.below hb7); have b7 := b6.step hb7; clear hl7 hb7)
    | (at_builtin; refine wpList_append_lies _ rfl (.tmp 68) (.tmp 70) 25 rfl w.heap.size 24 i0 _ 1 24 Try.underlying25 hi hz0 hz1 hz2 rfl (by decide) _ 0 [] rfl (World.ownsRow_nil _ _ _ _) ⟨w7.heap.size, 0, none⟩ 1 1 [.slice (some a7) s1 s1] rfl rfl ?p1 ?p2 (by decide) ?p3 ?p4 ?p5 (w7.heap.size + 1) ?p6 ?_))
  case p1 => exact cells_new1 w7 _ rfl _ _
  case p2 => intro u hu; simp only [List.mem_cons, List.not_mem_nil, or_false] at hu; rcases hu with rfl; rfl
  case p3 => unfold maxLen; omega
  case p4 => omega
  case p5 => have := b7.size; simp; omega
  case p6 => simp
  intro g1 cap1 w8 ho8 hg8 hat8 hlt8
  have hg7 : g1 = w7.heap.size + 1 := by
    rcases hat8 with h | h
    · cases h
    · exact h
  have hgB : g1 ≠ w5.heap.size := by
    rcases hat8 with h | h
    · cases h
    · have := HX7.out.lt; omega
  have HO8 := Lib.hid ho8
  have HX8 := Lib.hid ((HX7.out.below ((Below.refl _ _).alloc (Nat.le_refl _) _)).grown hg8 (by intro h; cases h))
  have hbg : Below w7.heap.size w7 w8 := ((Below.refl _ _).alloc (Nat.le_refl _) _).grown hg8 (by simp) (by intro j hj; cases hj)
  have HL8 := Lib.hid (HL7.out.below hbg)
  have HLo8 := Lib.hid (HLo7.out.below hbg)
  have b8 := b7.step hbg
  clear ho8 hg8 hat8 hbg
  have HG7 := Lib.hid hg7
  clear hg7
  obtain ⟨x0, x1, x2, x3, x4, xlt⟩ := HX8.out
  go_wp2_with (first
    | (go_at_call 11; ((with_reducible refine (P2.out _ b8).mono ?_)); rintro e w9 ⟨a9, rfl, hl9, hb9, hf9⟩; have HL9 := Lib.hid hl9; have HL79 := Lib.hid (HL8.out.below hb9); have HLo9 := Lib.hid (HLo8.out.below hb9); have HX9 := Lib.hid (HX8.out.below hb9); have HO9 := Lib.hid (own_below HO8.out hb9); have b9 := b8.step hb9; clear hl9 hb9 x0 x1 x2 x3 x4 xlt)
    | (at_builtin; refine wpList_append_lies _ rfl (.tmp 83) (.tmp 85) 25 rfl w.heap.size 24 i0 _ 1 24 Try.underlying25 hi hz0 hz1 hz2 rfl (by decide) _ 1 _ rfl (HO9.out.alloc _) ⟨w9.heap.size, 0, none⟩ 1 1 [.slice (some a9) s2 s2] rfl rfl ?q1 ?q2 (by decide) ?q3 ?q4 ?q5 (w9.heap.size + 1) ?q6 ?_))
  case q1 => exact cells_new1 w9 _ rfl _ _
  case q2 => intro u hu; simp only [List.mem_cons, List.not_mem_nil, or_false] at hu; rcases hu with rfl; rfl
  case q3 => unfold maxLen; omega
  case q4 => omega
  case q5 => have := b9.size; simp; omega
  case q6 => simp
  intro g2 cap2 w10 ho10 hg10 _ _
  have HO10 := Lib.hid ho10
  have HX10 := Lib.hid ((HX9.out.below ((Below.refl _ _).alloc (Nat.le_refl _) _)).grown hg10 (by intro h; injection h with h; exact hgB h))
  have b10 : Bl w w10 := (Below.alloc b9 (Bl.size b9) _).grown hg10 (by have := Bl.size b9; simp; omega) (fun j hj => (HO9.out.lt j hj).1)
  have hg7 := HG7.out
  have HL710 := Lib.hid (Lies.grown' HL7.out (HL79.out.alloc _) hg10 (by intro b hb h; injection h with h; change g1 = _ at h; omega))
  have HLo10 := Lib.hid (Lies.grown' HLo7.out (HLo9.out.alloc _) hg10 (by intro b hb h; injection h with h; change g1 = _ at h; omega))
  have HL910 := Lib.hid ((HL9.out.alloc _).grown hg10 (by intro a ha h; injection h with h; change g1 = _ at h; injection ha with ha; subst ha; omega))
  clear ho10 hg10 hg7
  obtain ⟨x0, x1, x2, x3, x4, xlt⟩ := HX10.out
  go_wp2_with (first
    | (go_at_call 14; refine (HN.out _ _ _ _ _ HL710.out HL910.out (Lies.of_own HO10.out (by intro h; omega))).mono ?_; rintro e wn ⟨An, cn, rfl, hln, hbn⟩; have HLn := Lib.hid hln; have HLo := Lib.hid (HLo10.out.below hbn); have bn := b10.step hbn; clear hln hbn)
    | (go_at_call 24; refine (HE.out _ _ _ _ HLn.out HLo.out).mono ?_; rintro e we ⟨rfl, hbe⟩; have be := bn.step hbe; clear hbe)
    | (go_at_call 17; refine (alive_any _).mono ?_; rintro e wf ⟨rfl, hbf⟩; have bf := be.step hbf; clear hbf))
  go_ret
  exact ⟨rfl, bf⟩
end Go.Proofs.Ytakpbpabblgobaa
