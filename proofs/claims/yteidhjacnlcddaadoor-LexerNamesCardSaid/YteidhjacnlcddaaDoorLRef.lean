/- Contracts of the reference's Next and All. -/
import Derived.Test.YteidhjacnlcddaaDoorLAll
namespace Go.Proofs.YteidhjacnlcddaaDoor
open Go.ChangeShapes Go.WideShapes Go.ChangeAt Go.RowKit
set_option linter.unusedVariables false
set_option linter.unusedSimpArgs false

theorem cells_new3' (w : World) (B : Nat) (hB : w.heap.size = B) (x y z : Value) (t : TypeId) : ∀ j u, [x, y, z][j]? = some u → (w.alloc (.cells #[x, y, z] t)).cell? ((⟨B, 0, none⟩ : Addr).add j) = some u := by
  subst hB; exact cells_new3 w x y z t
def NextPost (w : World) (s : ByteArray) (kd : Int) (a r : Nat) (v : Int) (e : Ending) (w' : World) : Prop :=
  ∃ (x : Int) (y : ByteArray) (z : Int), e = .returned (.tuple #[.agg #[.int .u8 x, .string y, .int .i64 z], .int .i64 v]) ∧ (v = 0 → x = kd ∧ y = s.extract a r ∧ z = a) ∧ Below w.heap.size w w'
theorem rread_v (s : ByteArray) (v : Int) (w : World) (hs : s.size ≤ maxLen) (hv : rdErr s.data.toList = v) : ∃ x : Int,
    Calls Tryd.prog 32 #[.string s] w fun e w' => e = .returned (.tuple #[.int .i64 x, .int .i64 v]) ∧ w = w' := by
  subst hv; exact rread_any s w hs
theorem rword_v (s : ByteArray) (b : Bool) (w : World) (hb : isWord s.data.toList = b) :
    Calls Tryd.prog 33 #[.string s] w fun e w' => e = .returned (.bool b) ∧ Below w.heap.size w w' := by
  subst hb; exact rword_any s w

theorem res_facts {w w1 : World} {x y z : Value} {t : TypeId} (hb : Below (w.alloc (.cells #[x, y, z] t)).heap.size (w.alloc (.cells #[x, y, z] t)) w1) :
    w1.cell? ⟨w.heap.size, 0, none⟩ = some x ∧ w1.cell? ⟨w.heap.size, 1, none⟩ = some y ∧ w1.cell? ⟨w.heap.size, 2, none⟩ = some z ∧
    w1.frozen? ⟨w.heap.size, 0, none⟩ = false ∧ w1.frozen? ⟨w.heap.size, 1, none⟩ = false ∧ w1.frozen? ⟨w.heap.size, 2, none⟩ = false ∧ w.heap.size < w1.heap.size := by
  have hlt : w.heap.size < (w.alloc (.cells #[x, y, z] t)).heap.size := by simp
  have hh := (hb.block w.heap.size hlt).trans (heap_alloc_new w (.cells #[x, y, z] t))
  have hs := hb.size
  refine ⟨by simp [World.cell?, hh], by simp [World.cell?, hh], by simp [World.cell?, hh], by simp [World.frozen?, hh], by simp [World.frozen?, hh], by simp [World.frozen?, hh], by omega⟩

theorem res_below {w w1 : World} {x y z : Value} {t : TypeId} (hb : Below (w.alloc (.cells #[x, y, z] t)).heap.size (w.alloc (.cells #[x, y, z] t)) w1) (p q r : Value) :
    Below w.heap.size w (((w1.setCell ⟨w.heap.size, 0, none⟩ p).setCell ⟨w.heap.size, 1, none⟩ q).setCell ⟨w.heap.size, 2, none⟩ r) :=
  (((((Below.refl _ _).alloc (Nat.le_refl _) _).trans (hb.mono (by simp))).setCell (p := ⟨w.heap.size, 0, none⟩) (Nat.le_refl _) _).setCell (p := ⟨w.heap.size, 1, none⟩) (Nat.le_refl _) _).setCell (p := ⟨w.heap.size, 2, none⟩) (Nat.le_refl _) _

set_option maxHeartbeats 1000000 in
theorem rnext_d (s : ByteArray) (a r : Nat) (v : Int) (w : World) (hs : s.size ≤ maxLen) (ha : a < s.size) (hk : kindI (s[a].toNat : Int) = 2) (hr : a + spanK 2 (s.data.toList.drop a) = r) (hrs : r ≤ s.size) (hv : rdErr (s.extract a r).data.toList = v) :
    Calls Tryd.prog 31 #[.string s, .int .i64 a] w (NextPost w s 1 a r v) := by
  have HK := Lib.hid (fun w => rkind_v _ 2 w hk)
  have HR := Lib.hid (fun w => run_any s a 2 r w hs (Nat.le_of_lt ha) hr)
  have HV := Lib.hid (fun w => rread_v (s.extract a r) v w (by rw [ByteArray.size_extract]; unfold maxLen at *; omega) hv)
  have har : a ≤ r := by omega
  clear hk hr hv
  unfold maxLen at hs
  go_enter Tryd.func31, Tryd.ntmps31
  go_wp2_with (first
    | (go_at_call 42; refine (HK.out _).mono ?_; rintro e w1 ⟨rfl, hb1⟩)
    | (go_at_call 30; refine (HR.out _).mono ?_; rintro e w2 ⟨rfl, hb2⟩; have hbb := hb1.trans (hb2.mono hb1.size); obtain ⟨c0, c1, c2, f0, f1, f2, hz⟩ := res_facts hbb; have HB := Lib.hid hbb; clear hbb hb1 hb2)
    | (go_at_call 32; obtain ⟨x, hx⟩ := HV.out _; refine hx.mono ?_; rintro e w3 ⟨rfl, rfl⟩; clear hx))
  refine bodyPost_ret (v := .tuple #[.agg #[.int .u8 1, .string (s.extract a r), .int .i64 a], .int .i64 v]) (by simp [results, Tryd.results31, go_sem, c0, c1, c2, hz]) rfl ⟨1, _, _, rfl, fun _ => ⟨rfl, rfl, rfl⟩, ?_⟩
  first
    | exact (res_below HB.out _ _ _).alloc (by simp; omega) _
    | exact res_below HB3.out _ _ _
set_option maxHeartbeats 1000000 in
theorem rnext_wy (s : ByteArray) (a r : Nat) (v : Int) (w : World) (hs : s.size ≤ maxLen) (ha : a < s.size) (hk : kindI (s[a].toNat : Int) = 3) (hr : a + spanK 3 (s.data.toList.drop a) = r) (hrs : r ≤ s.size) (hv : isWord (s.extract a r).data.toList = true) :
    Calls Tryd.prog 31 #[.string s, .int .i64 a] w (NextPost w s 2 a r 0) := by
  have HK := Lib.hid (fun w => rkind_v _ 3 w hk)
  have HR := Lib.hid (fun w => run_any s a 3 r w hs (Nat.le_of_lt ha) hr)
  have HV := Lib.hid (fun w => rword_v (s.extract a r) true w hv)
  have har : a ≤ r := by omega
  clear hk hr hv
  unfold maxLen at hs
  go_enter Tryd.func31, Tryd.ntmps31
  go_wp2_with (first
    | (go_at_call 42; refine (HK.out _).mono ?_; rintro e w1 ⟨rfl, hb1⟩)
    | (go_at_call 30; refine (HR.out _).mono ?_; rintro e w2 ⟨rfl, hb2⟩; have hbb := hb1.trans (hb2.mono hb1.size); obtain ⟨c0, c1, c2, f0, f1, f2, hz⟩ := res_facts hbb; have HB := Lib.hid hbb; clear hbb hb1 hb2)
    | (go_at_call 33; refine (HV.out _).mono ?_; rintro e w3 ⟨rfl, hb3⟩; have hbb := HB.out.trans (((Below.refl _ _).alloc (Nat.le_refl _) _).trans (hb3.mono (by simp)) |>.mono HB.out.size); obtain ⟨c0, c1, c2, f0, f1, f2, hz⟩ := res_facts hbb; obtain ⟨d0, d1, d2, g0, g1, g2, hz2⟩ := res_facts hb3; have HB3 := Lib.hid hbb; clear hbb hb3))
  refine bodyPost_ret (v := .tuple #[.agg #[.int .u8 2, .string (s.extract a r), .int .i64 a], .int .i64 0]) (by simp [results, Tryd.results31, go_sem, c0, c1, c2, hz]) rfl ⟨2, _, _, rfl, fun _ => ⟨rfl, rfl, rfl⟩, ?_⟩
  first
    | exact (res_below HB.out _ _ _).alloc (by simp; omega) _
    | exact res_below HB3.out _ _ _
set_option maxHeartbeats 1000000 in
theorem rnext_wn (s : ByteArray) (a r : Nat) (v : Int) (w : World) (hs : s.size ≤ maxLen) (ha : a < s.size) (hk : kindI (s[a].toNat : Int) = 3) (hr : a + spanK 3 (s.data.toList.drop a) = r) (hrs : r ≤ s.size) (hv : isWord (s.extract a r).data.toList = false) :
    Calls Tryd.prog 31 #[.string s, .int .i64 a] w (NextPost w s 2 a r 32) := by
  have HK := Lib.hid (fun w => rkind_v _ 3 w hk)
  have HR := Lib.hid (fun w => run_any s a 3 r w hs (Nat.le_of_lt ha) hr)
  have HV := Lib.hid (fun w => rword_v (s.extract a r) false w hv)
  have har : a ≤ r := by omega
  clear hk hr hv
  unfold maxLen at hs
  go_enter Tryd.func31, Tryd.ntmps31
  go_wp2_with (first
    | (go_at_call 42; refine (HK.out _).mono ?_; rintro e w1 ⟨rfl, hb1⟩)
    | (go_at_call 30; refine (HR.out _).mono ?_; rintro e w2 ⟨rfl, hb2⟩; have hbb := hb1.trans (hb2.mono hb1.size); obtain ⟨c0, c1, c2, f0, f1, f2, hz⟩ := res_facts hbb; have HB := Lib.hid hbb; clear hbb hb1 hb2)
    | (go_at_call 33; refine (HV.out _).mono ?_; rintro e w3 ⟨rfl, hb3⟩; have hbb := HB.out.trans (((Below.refl _ _).alloc (Nat.le_refl _) _).trans (hb3.mono (by simp)) |>.mono HB.out.size); obtain ⟨c0, c1, c2, f0, f1, f2, hz⟩ := res_facts hbb; obtain ⟨d0, d1, d2, g0, g1, g2, hz2⟩ := res_facts hb3; have HB3 := Lib.hid hbb; clear hbb hb3))
  refine bodyPost_ret (v := .tuple #[.agg #[.int .u8 2, .string (s.extract a r), .int .i64 a], .int .i64 32]) (by simp [results, Tryd.results31, go_sem, c0, c1, c2, hz]) rfl ⟨2, _, _, rfl, fun _ => ⟨rfl, rfl, rfl⟩, ?_⟩
  first
    | exact (res_below HB.out _ _ _).alloc (by simp; omega) _
    | exact res_below HB3.out _ _ _

set_option maxHeartbeats 1000000 in
theorem rnext_0 (s : ByteArray) (a m : Nat) (w : World) (hs : s.size ≤ maxLen) (ha : a < s.size) (vk : Int) (hk : kindI (s[a].toNat : Int) = vk) (hk2 : vk ≠ 2) (hk3 : vk ≠ 3) (hm : longL (s.data.toList.drop a) = m) (hms : a + m ≤ s.size) (h0 : m = 0) :
    Calls Tryd.prog 31 #[.string s, .int .i64 a] w (NextPost w s 3 a (a + m) 32) := by
  have HK := Lib.hid (fun w => rkind_v _ vk w hk)
  have HR := Lib.hid (fun w => (rlongest_any s a w hs (Nat.le_of_lt ha)))
  have HM := Lib.hid hm
  have v2 : (vk == 2) = false := by simpa using hk2
  have v3 : (vk == 3) = false := by simpa using hk3
  subst h0
  clear hk hk2 hk3 hm
  unfold maxLen at hs
  go_enter Tryd.func31, Tryd.ntmps31
  go_wp2_with (first
    | (go_at_call 42; refine (HK.out _).mono ?_; rintro e w1 ⟨rfl, hb1⟩)
    | (go_at_call 34; refine (HR.out _).mono ?_; rw [HM.out]; rintro e w2 ⟨rfl, hb2⟩; have hbb := hb1.trans (hb2.mono hb1.size); obtain ⟨c0, c1, c2, f0, f1, f2, hz⟩ := res_facts hbb; have HB := Lib.hid hbb; clear hbb hb1 hb2))
  refine bodyPost_ret (v := .tuple #[.agg #[.int .u8 0, .string ⟨#[]⟩, .int .i64 0], .int .i64 32]) (by simp [results, Tryd.results31, go_sem, c0, c1, c2, hz]) rfl ⟨_, _, _, rfl, (fun h => absurd h (by decide)), ?_⟩
  exact res_below HB.out _ _ _
set_option maxHeartbeats 1000000 in
theorem rnext_s (s : ByteArray) (a m : Nat) (w : World) (hs : s.size ≤ maxLen) (ha : a < s.size) (vk : Int) (hk : kindI (s[a].toNat : Int) = vk) (hk2 : vk ≠ 2) (hk3 : vk ≠ 3) (hm : longL (s.data.toList.drop a) = m) (hms : a + m ≤ s.size) (h0 : 0 < m) :
    Calls Tryd.prog 31 #[.string s, .int .i64 a] w (NextPost w s 3 a (a + m) 0) := by
  have HK := Lib.hid (fun w => rkind_v _ vk w hk)
  have HR := Lib.hid (fun w => (rlongest_any s a w hs (Nat.le_of_lt ha)))
  have HM := Lib.hid hm
  have v2 : (vk == 2) = false := by simpa using hk2
  have v3 : (vk == 3) = false := by simpa using hk3
  have e1 : ((m : Int) == 0) = false := by simp; omega
  have e2 : (a : Int) + m ≤ s.size := by omega
  have e3 : (0 : Int) ≤ (a : Int) + m := by omega
  have e4 : ((a : Int) + m).toNat = a + m := by omega
  have e5 : (a : Int) ≤ (a : Int) + m := by omega
  clear hk hk2 hk3 hm
  unfold maxLen at hs
  go_enter Tryd.func31, Tryd.ntmps31
  go_wp2_with (first
    | (go_at_call 42; refine (HK.out _).mono ?_; rintro e w1 ⟨rfl, hb1⟩)
    | (go_at_call 34; refine (HR.out _).mono ?_; rw [HM.out]; rintro e w2 ⟨rfl, hb2⟩; have hbb := hb1.trans (hb2.mono hb1.size); obtain ⟨c0, c1, c2, f0, f1, f2, hz⟩ := res_facts hbb; have HB := Lib.hid hbb; clear hbb hb1 hb2))
  refine bodyPost_ret (v := .tuple #[.agg #[.int .u8 3, .string (s.extract a (a + m)), .int .i64 a], .int .i64 0]) (by simp [results, Tryd.results31, go_sem, c0, c1, c2, hz]) rfl ⟨_, _, _, rfl, (fun _ => ⟨rfl, rfl, rfl⟩), ?_⟩
  exact res_below HB.out _ _ _

theorem rnext_any (s : ByteArray) (a r : Nat) (kd : Int) (n : Nat) (v : Int) (w : World) (hs : s.size ≤ maxLen) (ha : a < s.size) (hx : ext (s.data.toList.drop a) = (kd, n)) (hr : a + n = r) (hrs : r ≤ s.size) (hv : tkE (s.data.toList.drop a) = v) :
    Calls Tryd.prog 31 #[.string s, .int .i64 a] w (NextPost w s kd a r v) := by
  have hd := drop_at s a ha
  rw [tkE, hx] at hv
  simp only at hv
  rw [← cut_list' s a n, hr] at hv
  rw [hd] at hx
  by_cases h2 : kindI (s[a].toNat : Int) = 2
  · rw [ext_cons2 _ _ h2, ← hd] at hx
    obtain ⟨h3, h4⟩ := Prod.mk.inj hx
    subst h3 h4
    exact rnext_d s a r v w hs ha h2 hr hrs (by unfold checkE at hv; rw [if_pos rfl] at hv; exact hv)
  · by_cases h3 : kindI (s[a].toNat : Int) = 3
    · rw [ext_cons3 _ _ h3, ← hd] at hx
      obtain ⟨h4, h5⟩ := Prod.mk.inj hx
      subst h4 h5
      unfold checkE at hv
      rw [if_neg (by decide), if_pos rfl] at hv
      cases hw : isWord (s.extract a r).data.toList
      · rw [if_neg (by rw [hw]; decide)] at hv; subst hv; exact rnext_wn s a r 0 w hs ha h3 hr hrs hw
      · rw [if_pos hw] at hv; subst hv; exact rnext_wy s a r 0 w hs ha h3 hr hrs hw
    · rw [ext_cons4 _ _ h2 h3, ← hd] at hx
      obtain ⟨h4, h5⟩ := Prod.mk.inj hx
      subst h4 h5
      have hms : a + longL (s.data.toList.drop a) ≤ s.size := by omega
      unfold checkE at hv
      rw [if_neg (by decide), if_neg (by decide), if_pos rfl, ← hr, cut_list'] at hv
      rcases Nat.eq_zero_or_pos (longL (s.data.toList.drop a)) with h0 | h0
      · rw [h0, List.take_zero, if_neg (by rw [longL_nil]; simp)] at hv
        subst hv hr
        exact rnext_0 s a _ w hs ha _ rfl h2 h3 rfl hms h0
      · rw [if_pos ⟨by rw [longL_own, List.length_take, List.length_drop]; simp; omega, fun e => by have := congrArg List.length e; rw [List.length_take, List.length_drop] at this; simp at this; omega⟩] at hv
        subst hv hr
        exact rnext_s s a _ w hs ha _ rfl h2 h3 rfl hms h0

theorem rall_big (s : ByteArray) (w : World) (hs : s.size ≤ maxLen) (h : 400 < s.size) (ht : Tabs w) :
    Calls Tryd.prog 16 #[.string s] w (AllPost w [] 0 4) := by
  unfold maxLen at hs
  have HT := Lib.hid ht
  clear ht
  go_enter Tryd.func16, Tryd.ntmps16
  go_wp2
  refine bodyPost_ret (v := .tuple #[.slice none 0 0, .int .i64 0, .int .i64 4]) (by simp [results, Tryd.results16, go_sem]) rfl ⟨none, 0, rfl, .inl rfl, Good.start HT.out⟩

set_option maxHeartbeats 4000000 in
theorem rall_go (s : ByteArray) (w : World) (hs : s.size ≤ 400) (ht : Tabs w) (ts : List Tok) (q : Nat) (er : Int) (hL : Lex s.data.toList 0 0 ts q er) (L : List Tok) (hl : (if er = 0 then ts else []) = L) :
    Calls Tryd.prog 16 #[.string s] w (AllPost w L q er) := by
  have HM := Lib.hid (show s.size ≤ maxLen by unfold maxLen; omega)
  have HL := Lib.hid hL
  have HF := Lib.hid hl
  have hsp := spanK_le 1 s.data.toList
  rw [show s.data.toList.length = s.size by simp] at hsp
  obtain ⟨r0, hr0⟩ : ∃ r0, spanK 1 s.data.toList = r0 := ⟨_, rfl⟩
  rw [hr0] at hsp
  have HB := Lib.hid (fun w => run_any s 0 1 r0 w HM.out (Nat.zero_le _) (by rw [List.drop_zero, hr0]; omega))
  have HR := Lib.hid hr0
  have HT := Lib.hid ht
  obtain ⟨i0, hi, hz0, hz1, hz2⟩ := info_parts tok_info
  clear ht hL hr0 hl
  go_enter Tryd.func16, Tryd.ntmps16
  go_wp2_with (go_at_call 30; refine (HB.out _).mono ?_; rintro e w1 ⟨rfl, hb1⟩)
  go_loopw [5, 6] (fun l i wr => ∃ k a : Nat, i = .int .i64 a ∧ AllRel s w ts q er k a l wr) (fun _ i _ => s.size - (intOf i).toNat)
  case atStart =>
    refine ⟨0, r0, rfl, hsp, by omega, ?_, ?_, ?_, ?_, Nat.zero_le _⟩
    · exact World.ownsRow_nil _ _ _ _
    · rw [List.drop_zero]
      have := HL.out.skip
      rw [HR.out, Nat.zero_add] at this
      exact this
    · have := spanK_drop 1 s.data.toList
      rwa [HR.out] at this
    · exact (Good.start HT.out).step hb1
  case round =>
    clear hb1
    obtain ⟨k, a, rfl, ha, hk, hown, hlex, h0, hg, hkl⟩ := hrel
    obtain ⟨A, c, rfl, hkm⟩ := own_form hown
    have HO := Lib.hid hown
    have H0 := Lib.hid h0
    have HG := Lib.hid hg
    rcases hlex.skip' h0 with ⟨h1, h2, h3, h4⟩ | ⟨h1, h2, h3, h4, h5⟩ | ⟨h1, h2, h3, h4, h5, h6⟩ | ⟨h1, h2, h3, rest, h4, h5⟩
    · have hlen : a = s.size := by
        have := congrArg List.length h1
        rw [List.length_drop, List.length_nil] at this
        simp at this
        omega
      have hkt : ts.length ≤ k := by
        have := congrArg List.length h2
        rw [List.length_drop, List.length_nil] at this
        omega
      have hkk : k = ts.length := by omega
      have hLL : L = ts := by rw [← HF.out, if_pos h4]
      have hq : q = s.size := by omega
      clear hown hlex h0 hg h1 h2 h3
      subst h4 hkk
      rw [List.take_length] at HO
      subst hLL
      have hge : ¬ a < s.size := by omega
      clear hkt hkl
      subst hlen
      go_wp2
      subst hq
      refine bodyPost_ret (v := .tuple #[.slice A L.length c, .int .i64 s.size, .int .i64 0]) (by simp [results, Tryd.results16, go_sem]) rfl ⟨A, c, rfl, Toks.of_own HO.out, HG.out⟩
    · have hlt : a < s.size := by
        have := List.length_pos_iff.2 h1
        rw [List.length_drop] at this
        simp at this
        omega
      have hLL : L = [] := by rw [← HF.out, if_neg (by rw [h5]; decide)]
      clear hown hlex h0 hg h1 h3 HF
      subst h2 h4 h5 hLL
      go_wp2
      refine bodyPost_ret (v := .tuple #[.slice none 0 0, .int .i64 q, .int .i64 4]) (by simp [results, Tryd.results16, go_sem]) rfl ⟨none, 0, rfl, .inl rfl, HG.out⟩
    · have hlt : a < s.size := by
        have := List.length_pos_iff.2 h1
        rw [List.length_drop] at this
        simp at this
        omega
      have hLL : L = [] := by rw [← HF.out, if_neg (by rw [h6]; exact h3)]
      obtain ⟨kd, n, hx⟩ : ∃ kd n, ext (s.data.toList.drop a) = (kd, n) := ⟨_, _, rfl⟩
      have hn : a + n ≤ s.size := by
        have := ext_le (s.data.toList.drop a)
        rw [hx, List.length_drop] at this
        simp at this
        omega
      have HE := Lib.hid (fun w => rnext_any s a (a + n) kd n er w HM.out hlt hx rfl hn h6.symm)
      have hne : (er != 0) = true := by rw [bne_iff_ne, h6]; exact h3
      have hk2 : ((k : Int) == 200) = false := by simp; omega
      clear hown hlex h0 hg h1 h2 h3 h4 HF h6 hx hn
      subst h5 hLL
      go_wp2_with (go_at_call 31; refine (HE.out _).mono ?_; rintro e w2 ⟨x, y, z, rfl, _, hb2⟩; have HG2 := Lib.hid (HG.out.step hb2))
      refine bodyPost_ret (v := .tuple #[.slice none 0 0, .int .i64 q, .int .i64 er]) (by simp [results, Tryd.results16, go_sem]) rfl ⟨none, 0, rfl, .inl rfl, HG2.out.step ((Below.refl _ _).alloc (Nat.le_refl _) _)⟩
    · have hlt : a < s.size := by
        have := List.length_pos_iff.2 h1
        rw [List.length_drop] at this
        simp at this
        omega
      have hp := ext_pos _ h1 h3
      obtain ⟨kd, n, hx⟩ : ∃ kd n, ext (s.data.toList.drop a) = (kd, n) := ⟨_, _, rfl⟩
      rw [hx] at hp h4 h5
      simp only at hp h4 h5
      have hn : a + n ≤ s.size := by
        have := ext_le (s.data.toList.drop a)
        rw [hx, List.length_drop] at this
        simp at this
        omega
      obtain ⟨r, hr⟩ : ∃ r, a + n = r := ⟨_, rfl⟩
      have HE := Lib.hid (fun w => rnext_any s a r kd n 0 w HM.out hlt hx hr (by omega) h3)
      have har : a ≤ r := by omega
      have hrs : r ≤ s.size := by omega
      have harn : a < r := by omega
      have hk3 : k + 1 ≤ 200 := by omega
      have hk2 : ((k : Int) == 200) = false := by simp; omega
      obtain ⟨b, hb⟩ : ∃ b, r + spanK 1 (s.data.toList.drop r) = b := ⟨_, rfl⟩
      have hbs : b ≤ s.size := by
        have := spanK_le 1 (s.data.toList.drop r)
        rw [List.length_drop] at this
        simp at this
        omega
      have hrb : r ≤ b := by omega
      have HB2 := Lib.hid (fun (z : Int) (hz : z = r) w => show Calls Tryd.prog 30 #[.string s, .int .i64 z, .int .u8 1] w fun e w' => e = .returned (.int .i64 b) ∧ Below w.heap.size w w' by rw [hz]; exact run_any s r 1 b w HM.out hrs hb)
      have hd5 : Lex (s.data.toList.drop r) r (k + 1) rest q er := by
        rw [List.drop_drop, hr] at h5; exact h5
      have HN := Lib.hid (show Lex (s.data.toList.drop b) b (k + 1) rest q er ∧ spanK 1 (s.data.toList.drop b) = 0 by
        have h6 := hd5.skip
        have h7 := spanK_drop 1 (s.data.toList.drop r)
        rw [List.drop_drop, hb] at h6 h7
        exact ⟨h6, h7⟩)
      have hk1 : k < ts.length := by
        have := congrArg List.length h4
        rw [List.length_drop, List.length_cons] at this
        omega
      have HT1 := Lib.hid (show ts.drop (k + 1) = rest ∧ tokCells (ts.take (k + 1)) = tokCells (ts.take k) ++ [.int .u8 kd, .string (s.extract a r), .int .i64 (a : Int)] by
        have h8 : ts.take (k + 1) = ts.take k ++ [⟨kd, (s.data.toList.drop a).take n, (a : Nat)⟩] := by
          rw [List.take_succ_eq_append_getElem hk1]
          congr 1
          rw [List.drop_eq_getElem_cons hk1] at h4
          rw [(List.cons.inj h4).1]
        refine ⟨?_, ?_⟩
        · rw [List.drop_eq_getElem_cons hk1] at h4
          exact (List.cons.inj h4).2
        · rw [h8, tokCells_snoc, tokC, cut_bytes, hr])
      have hzs : (s.extract a r).size = r - a := by rw [ByteArray.size_extract]; omega
      obtain ⟨S, hS⟩ : ∃ S, s.extract a r = S := ⟨_, rfl⟩
      rw [hS] at hzs
      have HS := Lib.hid hS
      have HZ := Lib.hid (show (a : Int) + S.size = r by omega)
      have hS4 : S.size ≤ 400 := by omega
      rw [hS] at HT1
      clear hown hlex h0 hg h1 h2 h3 h4 h5 HF hx hr hn hb hd5 hp HL HR HB hS hzs
      go_wp2_with (first
        | (go_at_call 31; refine (HE.out _).mono ?_; rintro e w4 ⟨x, y, z, rfl, hxy, hb4⟩; obtain ⟨rfl, hy, rfl⟩ := hxy rfl; rw [HS.out] at hy; subst hy; have HG4 := Lib.hid (HG.out.step hb4); have HO4 := Lib.hid (own_below HO.out hb4); clear hb4 hxy)
        | (at_builtin; refine wpList_append_lies _ rfl (.tmp 32) (.tmp 34) 28 rfl w.heap.size 30 i0 _ 3 32 Tryd.underlying28 hi hz0 hz1 hz2 rfl (by decide) (.slice A k c) k (tokCells (ts.take k)) rfl ((HO4.out.alloc _).alloc _) ⟨w4.heap.size + 1, 0, none⟩ 1 1 [.int .u8 x, .string y, .int .i64 (a : Int)] rfl rfl ?c1 ?c2 (by decide) ?c3 ?c4 ?c5 (w4.heap.size + 2) ?c6 ?_))
      case c1 => exact cells_new3' (w4.alloc _) _ (by simp) _ _ _ _
      case c2 => intro u hu; simp only [List.mem_cons, List.not_mem_nil, or_false] at hu; rcases hu with rfl | rfl | rfl <;> rfl
      case c3 => unfold maxLen; omega
      case c4 => omega
      case c5 => have := HG4.out.1.size; simp; omega
      case c6 => simp
      intro g cap w5 hown5 hgrow5 hat5 hlt5
      have hb5 : Below w.heap.size w w5 := ((HG4.out.1.alloc HG4.out.1.size _).alloc (by have := HG4.out.1.size; simp; omega) _).grown hgrow5 (by have := HG4.out.1.size; simp; omega) (fun j hj => (HO4.out.lt j hj).1)
      have HG5 := Lib.hid (show Good w w5 from ⟨hb5, HT.out.stays hb5⟩)
      have HO5 := Lib.hid hown5
      have hc1 : w5.cell? ⟨w4.heap.size, 1, none⟩ = some (.string y) := by
        refine hgrow5.cell (by go_simp) (fun e => ?_)
        have := (HO4.out.lt _ e.symm).2
        exact absurd this (Nat.lt_irrefl _)
      clear hown5 hgrow5 hat5 hlt5 hb5
      go_wp2_with (go_at_call 30; refine (HB2.out _ HZ.out _).mono ?_; rintro e w6 ⟨rfl, hb6⟩)
      go_roundw
      case rel =>
        refine ⟨k + 1, b, rfl, hbs, by omega, ?_, ?_, HN.out.2, HG5.out.step hb6, by omega⟩
        · rw [HT1.out.2]; exact own_below HO5.out hb6
        · rw [HT1.out.1]; exact HN.out.1
      case measure => simp [intOf]; omega

theorem rall_any (s : ByteArray) (w : World) (hs : s.size ≤ maxLen) (ht : Tabs w) (L : List Tok) (q : Nat) (er : Int) (h : allF s.data.toList = (L, q, er)) :
    Calls Tryd.prog 16 #[.string s] w (AllPost w L q er) := by
  by_cases hb : 400 < s.size
  · rw [allF_big _ (by simpa using hb)] at h
    obtain ⟨h1, h2⟩ := Prod.mk.inj h
    obtain ⟨h2, h3⟩ := Prod.mk.inj h2
    subst h1 h2 h3
    exact rall_big s w hs hb ht
  · obtain ⟨ts, q', e', hL, hf⟩ := allF_lex s.data.toList (by simp; omega)
    rw [hf] at h
    obtain ⟨h1, h2⟩ := Prod.mk.inj h
    obtain ⟨h2, h3⟩ := Prod.mk.inj h2
    subst h2 h3
    exact rall_go s w (by omega) ht ts q' e' hL L h1
end Go.Proofs.YteidhjacnlcddaaDoor
