/- The contract of lexer.All: the tokens of a text. -/
import Derived.Test.YteidhjacnlcddaaDoorLFun2
import Derived.Test.YteidhjacnlcddaaDoorLBuild
import Derived.Maps.AppendAt
import Derived.Deep.AppendLies
import Derived.Laws.OwnMore
import Derived.OwnWalk
namespace Go.Proofs.YteidhjacnlcddaaDoor
open Go.ChangeShapes Go.WideShapes Go.ChangeAt Go.RowKit
set_option linter.unusedVariables false

/-- The tables stand, and nothing that was there at w0 has turned. -/
def Good (w0 w : World) : Prop := Below w0.heap.size w0 w ∧ Tabs w
theorem Good.start {w : World} (h : Tabs w) : Good w w := ⟨Below.refl _ _, h⟩
theorem Good.step {w0 w w' : World} (h : Good w0 w) (hb : Below w.heap.size w w') : Good w0 w' := ⟨h.1.trans (hb.mono h.1.size), h.2.stays hb⟩

def tokC (t : Tok) : List Value := [.int .u8 t.k, .string (bytesOf t.s), .int .i64 t.a]
def tokCells (L : List Tok) : List Value := L.flatMap tokC
theorem tokCells_length (L : List Tok) : (tokCells L).length = L.length * 3 := by
  induction L with
  | nil => rfl
  | cons t r ih => rw [tokCells, List.flatMap_cons, List.length_append]; show 3 + (tokCells r).length = _; rw [ih, List.length_cons]; omega
theorem tokCells_snoc (L : List Tok) (t : Tok) : tokCells (L ++ [t]) = tokCells L ++ tokC t := by simp [tokCells]
theorem tokCells_at (L : List Tok) : ∀ (i : Nat) (h : i < L.length), (tokCells L)[i * 3]? = some (.int .u8 L[i].k) ∧ (tokCells L)[i * 3 + 1]? = some (.string (bytesOf L[i].s)) ∧ (tokCells L)[i * 3 + 2]? = some (.int .i64 L[i].a) := by
  induction L with
  | nil => intro i h; simp at h
  | cons t r ih =>
    intro i h
    have e : tokCells (t :: r) = .int .u8 t.k :: .string (bytesOf t.s) :: .int .i64 t.a :: tokCells r := rfl
    rw [e]
    cases i with
    | zero => exact ⟨rfl, rfl, rfl⟩
    | succ i =>
      obtain ⟨h1, h2, h3⟩ := ih i (by simpa using h)
      rw [show (i + 1) * 3 = i * 3 + 1 + 1 + 1 by omega]
      refine ⟨?_, ?_, ?_⟩
      · rw [List.getElem?_cons_succ, List.getElem?_cons_succ, List.getElem?_cons_succ]; exact h1
      · rw [List.getElem?_cons_succ, List.getElem?_cons_succ, List.getElem?_cons_succ]; exact h2
      · rw [show i * 3 + 1 + 1 + 1 + 2 = i * 3 + 2 + 1 + 1 + 1 by omega, List.getElem?_cons_succ, List.getElem?_cons_succ, List.getElem?_cons_succ]; exact h3

/-- A slice holds tokens. -/
def Toks (w : World) (A : Option Addr) (L : List Tok) : Prop :=
  L = [] ∨ ∃ ad, A = some ad ∧ ad.block < w.heap.size ∧ ∀ j u, (tokCells L)[j]? = some u → w.cell? (ad.add j) = some u
theorem Toks.below {w w' : World} {A : Option Addr} {L : List Tok} (h : Toks w A L) (hb : Below w.heap.size w w') : Toks w' A L := by
  rcases h with h | ⟨ad, h1, h2, h3⟩
  · exact .inl h
  · refine .inr ⟨ad, h1, Nat.lt_of_lt_of_le h2 hb.size, fun j u hu => ?_⟩
    rw [hb.cell (p := ad.add j) (by rw [show (ad.add j).block = ad.block by unfold Addr.add; split <;> rfl]; exact h2)]
    exact h3 j u hu
theorem own_below {w w' : World} {base : Nat} {e : TypeId} {size : Nat} {v : Value} {n : Nat} {xs : List Value} (h : w.ownsRow base e size v n xs) (hb : Below w.heap.size w w') : w'.ownsRow base e size v n xs :=
  h.kept (row := none) ⟨hb.os, hb.tape, hb.output, hb.size, fun k hk _ => hb.block k hk⟩ (by cases v.ownBlock <;> simp)
theorem Toks.of_own {w : World} {base : Nat} {e : TypeId} {A : Option Addr} {c : Nat} {L : List Tok} (h : w.ownsRow base e 3 (.slice A L.length c) L.length (tokCells L)) : Toks w A L := by
  rcases Nat.eq_zero_or_pos L.length with h0 | h0
  · exact .inl (List.eq_nil_of_length_eq_zero h0)
  · obtain ⟨g, cap, hv, _, hlt⟩ := h.form h0
    injection hv with hA
    subst hA
    exact .inr ⟨_, rfl, hlt, h.cells (g := g) rfl⟩
theorem own_form {w : World} {base : Nat} {e : TypeId} {v : Value} {n : Nat} {xs : List Value} (h : w.ownsRow base e 3 v n xs) : ∃ A c, v = .slice A n c ∧ n ≤ maxLen := by
  rcases h.2 with ⟨rfl, rfl⟩ | ⟨g, cap, cur, rfl, _, _, h1, h2, _⟩
  · exact ⟨none, 0, rfl, Nat.zero_le _⟩
  · exact ⟨_, _, rfl, by omega⟩

theorem tok_info : (Tryd.prog.info? 30).map (fun i => (i.zero, i.size, i.bytes)) = some (some (.agg #[.int .u8 0, .string ByteArray.empty, .int .i64 0]), 3, 32) := by kernel_rfl

def AllPost (w : World) (L : List Tok) (q : Nat) (er : Int) (e : Ending) (w' : World) : Prop :=
  ∃ A c, e = .returned (.tuple #[.slice A L.length c, .int .i64 q, .int .i64 er]) ∧ Toks w' A L ∧ Good w w'

theorem all_big (s : ByteArray) (w : World) (hs : s.size ≤ maxLen) (h : 400 < s.size) (ht : Tabs w) :
    Calls Tryd.prog 15 #[.string s] w (AllPost w [] 0 4) := by
  unfold maxLen at hs
  have HT := Lib.hid ht
  clear ht
  go_enter Tryd.func15, Tryd.ntmps15
  go_wp2
  refine bodyPost_ret (v := .tuple #[.slice none 0 0, .int .i64 0, .int .i64 4]) (by simp [results, Tryd.results15, go_sem]) rfl ⟨none, 0, rfl, .inl rfl, Good.start HT.out⟩

/-- What holds at the head of each round of All. -/
def AllRel (s : ByteArray) (w : World) (ts : List Tok) (q : Nat) (er : Int) (k a : Nat) (l : Value) (wr : World) : Prop :=
  a ≤ s.size ∧ k ≤ 200 ∧ wr.ownsRow w.heap.size 30 3 l k (tokCells (ts.take k)) ∧ Lex (s.data.toList.drop a) a k (ts.drop k) q er ∧ spanK 1 (s.data.toList.drop a) = 0 ∧ Good w wr ∧ k ≤ ts.length

/-- The bytes of a token, as the program cuts them. -/
theorem cut_bytes (s : ByteArray) (a n : Nat) : bytesOf ((s.data.toList.drop a).take n) = s.extract a (a + n) := by
  apply ByteArray.ext
  apply Array.toList_inj.1
  rw [bytesOf_list]
  simp
theorem cut_list' (s : ByteArray) (a n : Nat) : (s.extract a (a + n)).data.toList = (s.data.toList.drop a).take n := by
  rw [← cut_bytes, bytesOf_list]

theorem cells_new3 (w : World) (x y z : Value) (t : TypeId) : ∀ j u, [x, y, z][j]? = some u → (w.alloc (.cells #[x, y, z] t)).cell? ((⟨w.heap.size, 0, none⟩ : Addr).add j) = some u := by
  intro j u hj
  have h := World.news_of_block (w := w.alloc (.cells #[x, y, z] t)) (B := w.heap.size) (cs := #[x, y, z]) (t := t) (fr := (0, 0)) (heap_alloc_new w _) j u
  exact h hj

set_option maxHeartbeats 4000000 in
theorem all_go (s : ByteArray) (w : World) (hs : s.size ≤ 400) (ht : Tabs w) (ts : List Tok) (q : Nat) (er : Int) (hL : Lex s.data.toList 0 0 ts q er) (L : List Tok) (hl : (if er = 0 then ts else []) = L) :
    Calls Tryd.prog 15 #[.string s] w (AllPost w L q er) := by
  have HM := Lib.hid (show s.size ≤ maxLen by unfold maxLen; omega)
  have HL := Lib.hid hL
  have HF := Lib.hid hl
  have hsp := spanK_le 1 s.data.toList
  rw [show s.data.toList.length = s.size by simp] at hsp
  obtain ⟨r0, hr0⟩ : ∃ r0, spanK 1 s.data.toList = r0 := ⟨_, rfl⟩
  rw [hr0] at hsp
  have HB := Lib.hid (fun w => behind_any s 0 1 r0 w HM.out (Nat.zero_le _) (by rw [List.drop_zero, hr0]; omega))
  have HR := Lib.hid hr0
  have HT := Lib.hid ht
  obtain ⟨i0, hi, hz0, hz1, hz2⟩ := info_parts tok_info
  clear ht hL hr0 hl
  go_enter Tryd.func15, Tryd.ntmps15
  go_wp2_with (go_at_call 27; refine (HB.out _).mono ?_; rintro e w1 ⟨rfl, hb1⟩)
  go_loopw [5, 6] (fun l i wr => ∃ k a : Nat, i = .int .i64 a ∧ AllRel s w ts q er k a l wr) (fun _ i _ => s.size - (intOf i).toNat)
  case atStart =>
    refine ⟨0, r0, rfl, hsp, by omega, ?_, ?_, ?_, ?_, Nat.zero_le _⟩
    · exact own_below (World.ownsRow_lit (base := w.heap.size) (e := 30) (size := 3) w #[] 0 (Nat.le_refl _) (Nat.zero_le _) rfl) hb1
    · rw [List.drop_zero]
      have := HL.out.skip
      rw [HR.out, Nat.zero_add] at this
      exact this
    · have := spanK_drop 1 s.data.toList
      rwa [HR.out] at this
    · exact ((Good.start HT.out).step ((Below.refl _ _).alloc (Nat.le_refl _) _)).step hb1
  case round =>
    clear hb1
    obtain ⟨k, a, rfl, ha, hk, hown, hlex, h0, hg, hkl⟩ := hrel
    obtain ⟨A, c, rfl, hkm⟩ := own_form hown
    have HO := Lib.hid hown
    have H0 := Lib.hid h0
    have HG := Lib.hid hg
    rcases hlex.skip' h0 with ⟨h1, h2, h3, h4⟩ | ⟨h1, h2, h3, h4, h5⟩ | ⟨h1, h2, h3, h4, h5, h6⟩ | ⟨h1, h2, h3, rest, h4, h5⟩
    · have hlen : a = s.size := by
        have := congrArg List.length h1
        rw [List.length_drop, List.length_nil] at this
        simp at this
        omega
      have hkt : ts.length ≤ k := by
        have := congrArg List.length h2
        rw [List.length_drop, List.length_nil] at this
        omega
      have hkk : k = ts.length := by omega
      have hLL : L = ts := by rw [← HF.out, if_pos h4]
      have hq : q = s.size := by omega
      clear hown hlex h0 hg h1 h2 h3
      subst h4 hkk
      rw [List.take_length] at HO
      subst hLL
      have hge : ¬ a < s.size := by omega
      clear hkt hkl
      subst hlen
      go_wp2
      subst hq
      refine bodyPost_ret (v := .tuple #[.slice A L.length c, .int .i64 s.size, .int .i64 0]) (by simp [results, Tryd.results15, go_sem]) rfl ⟨A, c, rfl, Toks.of_own HO.out, HG.out⟩
    · have hlt : a < s.size := by
        have := List.length_pos_iff.2 h1
        rw [List.length_drop] at this
        simp at this
        omega
      have hLL : L = [] := by rw [← HF.out, if_neg (by rw [h5]; decide)]
      clear hown hlex h0 hg h1 h3 HF
      subst h2 h4 h5 hLL
      go_wp2
      refine bodyPost_ret (v := .tuple #[.slice none 0 0, .int .i64 q, .int .i64 4]) (by simp [results, Tryd.results15, go_sem]) rfl ⟨none, 0, rfl, .inl rfl, HG.out⟩
    · have hlt : a < s.size := by
        have := List.length_pos_iff.2 h1
        rw [List.length_drop] at this
        simp at this
        omega
      have hLL : L = [] := by rw [← HF.out, if_neg (by rw [h6]; exact h3)]
      obtain ⟨kd, n, hx⟩ : ∃ kd n, ext (s.data.toList.drop a) = (kd, n) := ⟨_, _, rfl⟩
      have hn : a + n ≤ s.size := by
        have := ext_le (s.data.toList.drop a)
        rw [hx, List.length_drop] at this
        simp at this
        omega
      obtain ⟨r, hr⟩ : ∃ r, a + n = r := ⟨_, rfl⟩
      have HE := Lib.hid (fun w ht => extent_any s a kd n r w HM.out hlt ht hx hr)
      have hv : checkE kd (s.extract a r).data.toList = er := by
        rw [← hr, cut_list', h6, tkE, hx]
      have HC := Lib.hid (fun w ht => check_any kd (s.extract a r) er w (by have := HM.out; rw [ByteArray.size_extract]; unfold maxLen at *; omega) ht hv)
      have hne : (er != 0) = true := by rw [bne_iff_ne, h6]; exact h3
      have har : a ≤ r := by omega
      have hrs : r ≤ s.size := by omega
      have hk2 : ((k : Int) == 200) = false := by simp; omega
      clear hown hlex h0 hg h1 h2 h3 h4 HF h6 hx hr hv hn
      subst h5 hLL
      go_wp2_with (first | (go_at_call 28; refine (HE.out _ HG.out.2).mono ?_; rintro e w2 ⟨rfl, hb2⟩; have HG2 := Lib.hid (HG.out.step hb2)) | (go_at_call 22; refine (HC.out _ HG2.out.2).mono ?_; rintro e w3 ⟨rfl, hb3⟩; have HG3 := Lib.hid (HG2.out.step hb3)))
      refine bodyPost_ret (v := .tuple #[.slice none 0 0, .int .i64 q, .int .i64 er]) (by simp [results, Tryd.results15, go_sem]) rfl ⟨none, 0, rfl, .inl rfl, HG3.out⟩
    · have hlt : a < s.size := by
        have := List.length_pos_iff.2 h1
        rw [List.length_drop] at this
        simp at this
        omega
      have hp := ext_pos _ h1 h3
      obtain ⟨kd, n, hx⟩ : ∃ kd n, ext (s.data.toList.drop a) = (kd, n) := ⟨_, _, rfl⟩
      rw [hx] at hp h4 h5
      simp only at hp h4 h5
      have hn : a + n ≤ s.size := by
        have := ext_le (s.data.toList.drop a)
        rw [hx, List.length_drop] at this
        simp at this
        omega
      obtain ⟨r, hr⟩ : ∃ r, a + n = r := ⟨_, rfl⟩
      have HE := Lib.hid (fun w ht => extent_any s a kd n r w HM.out hlt ht hx hr)
      have hv : checkE kd (s.extract a r).data.toList = 0 := by
        rw [← hr, cut_list']
        rw [tkE, hx] at h3
        exact h3
      have HC := Lib.hid (fun w ht => check_any kd (s.extract a r) 0 w (by have := HM.out; rw [ByteArray.size_extract]; unfold maxLen at *; omega) ht hv)
      have HCl := Lib.hid (fun w => clone_any (s.extract a r) w (by rw [ByteArray.size_extract]; omega))
      have har : a ≤ r := by omega
      have hrs : r ≤ s.size := by omega
      have harn : a < r := by omega
      have hk3 : k + 1 ≤ 200 := by omega
      have hk2 : ((k : Int) == 200) = false := by simp; omega
      obtain ⟨b, hb⟩ : ∃ b, r + spanK 1 (s.data.toList.drop r) = b := ⟨_, rfl⟩
      have hbs : b ≤ s.size := by
        have := spanK_le 1 (s.data.toList.drop r)
        rw [List.length_drop] at this
        simp at this
        omega
      have hrb : r ≤ b := by omega
      have HB2 := Lib.hid (fun w => behind_any s r 1 b w HM.out hrs hb)
      have hd5 : Lex (s.data.toList.drop r) r (k + 1) rest q er := by
        rw [List.drop_drop, hr] at h5; exact h5
      have HN := Lib.hid (show Lex (s.data.toList.drop b) b (k + 1) rest q er ∧ spanK 1 (s.data.toList.drop b) = 0 by
        have h6 := hd5.skip
        have h7 := spanK_drop 1 (s.data.toList.drop r)
        rw [List.drop_drop, hb] at h6 h7
        exact ⟨h6, h7⟩)
      have hk1 : k < ts.length := by
        have := congrArg List.length h4
        rw [List.length_drop, List.length_cons] at this
        omega
      have HT1 := Lib.hid (show ts.drop (k + 1) = rest ∧ tokCells (ts.take (k + 1)) = tokCells (ts.take k) ++ [.int .u8 kd, .string (s.extract a r), .int .i64 (a : Int)] by
        have h8 : ts.take (k + 1) = ts.take k ++ [⟨kd, (s.data.toList.drop a).take n, (a : Nat)⟩] := by
          rw [List.take_succ_eq_append_getElem hk1]
          congr 1
          rw [List.drop_eq_getElem_cons hk1] at h4
          rw [(List.cons.inj h4).1]
        refine ⟨?_, ?_⟩
        · rw [List.drop_eq_getElem_cons hk1] at h4
          exact (List.cons.inj h4).2
        · rw [h8, tokCells_snoc, tokC, cut_bytes, hr])
      clear hown hlex h0 hg h1 h2 h3 h4 h5 HF hx hr hv hn hb hd5 hp HL HR HB
      go_wp2_with (first
        | (go_at_call 28; refine (HE.out _ HG.out.2).mono ?_; rintro e w2 ⟨rfl, hb2⟩; have HG2 := Lib.hid (HG.out.step hb2); have HO2 := Lib.hid (own_below HO.out hb2))
        | (go_at_call 22; refine (HC.out _ HG2.out.2).mono ?_; rintro e w3 ⟨rfl, hb3⟩; have HG3 := Lib.hid (HG2.out.step hb3); have HO3 := Lib.hid (own_below HO2.out hb3))
        | (go_at_call 29; refine (HCl.out _).mono ?_; rintro e w4 ⟨rfl, hb4⟩; have HG4 := Lib.hid (HG3.out.step hb4); have HO4 := Lib.hid (own_below HO3.out hb4))
        | (at_builtin; refine wpList_append_lies _ rfl (.tmp 40) (.tmp 49) 28 rfl w.heap.size 30 i0 _ 3 32 Tryd.underlying28 hi hz0 hz1 hz2 rfl (by decide) (.slice A k c) k (tokCells (ts.take k)) rfl (HO4.out.alloc _) ⟨w4.heap.size, 0, none⟩ 1 1 [.int .u8 kd, .string (s.extract a r), .int .i64 (a : Int)] rfl rfl ?c1 ?c2 (by decide) ?c3 ?c4 ?c5 (w4.heap.size + 1) ?c6 ?_))
      case c1 => exact cells_new3 w4 _ _ _ _
      case c2 => intro u hu; simp only [List.mem_cons, List.not_mem_nil, or_false] at hu; rcases hu with rfl | rfl | rfl <;> rfl
      case c3 => unfold maxLen; omega
      case c4 => omega
      case c5 => have := HG4.out.1.size; simp; omega
      case c6 => simp
      intro g cap w5 hown5 hgrow5 hat5 hlt5
      have hb5 : Below w.heap.size w w5 := (HG4.out.1.alloc HG4.out.1.size _).grown hgrow5 (by have := HG4.out.1.size; simp; omega) (fun j hj => (HO4.out.lt j hj).1)
      have HG5 := Lib.hid (show Good w w5 from ⟨hb5, HT.out.stays hb5⟩)
      have HO5 := Lib.hid hown5
      clear hown5 hgrow5 hat5 hlt5 hb5
      go_wp2_with (go_at_call 27; refine (HB2.out _).mono ?_; rintro e w6 ⟨rfl, hb6⟩)
      go_roundw
      case rel =>
        refine ⟨k + 1, b, rfl, hbs, by omega, ?_, ?_, HN.out.2, HG5.out.step hb6, by omega⟩
        · rw [HT1.out.2]; exact own_below HO5.out hb6
        · rw [HT1.out.1]; exact HN.out.1
      case measure => simp [intOf]; omega

theorem all_any (s : ByteArray) (w : World) (hs : s.size ≤ maxLen) (ht : Tabs w) (L : List Tok) (q : Nat) (er : Int) (h : allF s.data.toList = (L, q, er)) :
    Calls Tryd.prog 15 #[.string s] w (AllPost w L q er) := by
  by_cases hb : 400 < s.size
  · rw [allF_big _ (by simpa using hb)] at h
    obtain ⟨h1, h2⟩ := Prod.mk.inj h
    obtain ⟨h2, h3⟩ := Prod.mk.inj h2
    subst h1 h2 h3
    exact all_big s w hs hb ht
  · obtain ⟨ts, q', e', hL, hf⟩ := allF_lex s.data.toList (by simp; omega)
    rw [hf] at h
    obtain ⟨h1, h2⟩ := Prod.mk.inj h
    obtain ⟨h2, h3⟩ := Prod.mk.inj h2
    subst h2 h3
    exact all_go s w (by omega) ht ts q' e' hL L h1
end Go.Proofs.YteidhjacnlcddaaDoor
