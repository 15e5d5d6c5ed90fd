/- Merged: LAll, LRef, LTok, LJoin, LOpen. -/
import Derived.Test.YtlmamidodahgmaaGreatDoorLA
import Derived.Maps.AppendAt
import Derived.Deep.AppendLies
import Derived.Laws.OwnMore
import Derived.OwnWalk
import Derived.Deep.RegionHeld3
import Derived.Laws.StructEq
import Derived.Deep.Slices
import Derived.Deep.Fields
import Derived.ChangeSame
import Derived.OpenShut
import Derived.Carry
/- LAll: The contract of lexer.All: the tokens of a text. -/
namespace Go.Proofs.YtlmamidodahgmaaGreatDoor
open Go.ChangeShapes Go.WideShapes Go.ChangeAt Go.RowKit
set_option linter.unusedVariables false
set_option maxRecDepth 100000

/-- The tables stand, and nothing that was there at w0 has turned. -/
def Good (w0 w : World) : Prop := Below w0.heap.size w0 w ∧ Tabs w
theorem Good.start {w : World} (h : Tabs w) : Good w w := ⟨Below.refl _ _, h⟩
theorem Good.step {w0 w w' : World} (h : Good w0 w) (hb : Below w.heap.size w w') : Good w0 w' := ⟨h.1.trans (hb.mono h.1.size), h.2.stays hb⟩

def tokC (t : Tok) : List Value := [.int .u8 t.k, .string (bytesOf t.s), .int .i64 t.a]
def tokCells (L : List Tok) : List Value := L.flatMap tokC
theorem tokCells_length (L : List Tok) : (tokCells L).length = L.length * 3 := by
  induction L with
  | nil => rfl
  | cons t r ih => rw [tokCells, List.flatMap_cons, List.length_append]; show 3 + (tokCells r).length = _; rw [ih, List.length_cons]; omega
theorem tokCells_snoc (L : List Tok) (t : Tok) : tokCells (L ++ [t]) = tokCells L ++ tokC t := by simp [tokCells]
theorem tokCells_at (L : List Tok) : ∀ (i : Nat) (h : i < L.length), (tokCells L)[i * 3]? = some (.int .u8 L[i].k) ∧ (tokCells L)[i * 3 + 1]? = some (.string (bytesOf L[i].s)) ∧ (tokCells L)[i * 3 + 2]? = some (.int .i64 L[i].a) := by
  induction L with
  | nil => intro i h; simp at h
  | cons t r ih =>
    intro i h
    have e : tokCells (t :: r) = .int .u8 t.k :: .string (bytesOf t.s) :: .int .i64 t.a :: tokCells r := rfl
    rw [e]
    cases i with
    | zero => exact ⟨rfl, rfl, rfl⟩
    | succ i =>
      obtain ⟨h1, h2, h3⟩ := ih i (by simpa using h)
      rw [show (i + 1) * 3 = i * 3 + 1 + 1 + 1 by omega]
      refine ⟨?_, ?_, ?_⟩
      · rw [List.getElem?_cons_succ, List.getElem?_cons_succ, List.getElem?_cons_succ]; exact h1
      · rw [List.getElem?_cons_succ, List.getElem?_cons_succ, List.getElem?_cons_succ]; exact h2
      · rw [show i * 3 + 1 + 1 + 1 + 2 = i * 3 + 2 + 1 + 1 + 1 by omega, List.getElem?_cons_succ, List.getElem?_cons_succ, List.getElem?_cons_succ]; exact h3

/-- A slice holds tokens. -/
def Toks (w : World) (A : Option Addr) (L : List Tok) : Prop :=
  L = [] ∨ ∃ ad, A = some ad ∧ ad.block < w.heap.size ∧ ∀ j u, (tokCells L)[j]? = some u → w.cell? (ad.add j) = some u
theorem Toks.below {w w' : World} {A : Option Addr} {L : List Tok} (h : Toks w A L) (hb : Below w.heap.size w w') : Toks w' A L := by
  rcases h with h | ⟨ad, h1, h2, h3⟩
  · exact .inl h
  · refine .inr ⟨ad, h1, Nat.lt_of_lt_of_le h2 hb.size, fun j u hu => ?_⟩
    rw [hb.cell (p := ad.add j) (by rw [show (ad.add j).block = ad.block by unfold Addr.add; split <;> rfl]; exact h2)]
    exact h3 j u hu
theorem own_below {w w' : World} {base : Nat} {e : TypeId} {size : Nat} {v : Value} {n : Nat} {xs : List Value} (h : w.ownsRow base e size v n xs) (hb : Below w.heap.size w w') : w'.ownsRow base e size v n xs :=
  h.kept (row := none) ⟨hb.os, hb.tape, hb.output, hb.size, fun k hk _ => hb.block k hk⟩ (by cases v.ownBlock <;> simp)
theorem Toks.of_own {w : World} {base : Nat} {e : TypeId} {A : Option Addr} {c : Nat} {L : List Tok} (h : w.ownsRow base e 3 (.slice A L.length c) L.length (tokCells L)) : Toks w A L := by
  rcases Nat.eq_zero_or_pos L.length with h0 | h0
  · exact .inl (List.eq_nil_of_length_eq_zero h0)
  · obtain ⟨g, cap, hv, _, hlt⟩ := h.form h0
    injection hv with hA
    subst hA
    exact .inr ⟨_, rfl, hlt, h.cells (g := g) rfl⟩
theorem own_form {w : World} {base : Nat} {e : TypeId} {v : Value} {n : Nat} {xs : List Value} (h : w.ownsRow base e 3 v n xs) : ∃ A c, v = .slice A n c ∧ n ≤ maxLen ∧ n ≤ c ∧ (A = none → c = 0) := by
  rcases h.2 with ⟨rfl, rfl⟩ | ⟨g, cap, cur, rfl, _, _, h1, h2, _⟩
  · exact ⟨none, 0, rfl, Nat.zero_le _, Nat.le_refl _, fun _ => rfl⟩
  · exact ⟨_, _, rfl, by omega, h1, fun hh => by cases hh⟩

theorem tok_info : (Tryz.prog.info? 52).map (fun i => (i.zero, i.size, i.bytes)) = some (some (.agg #[.int .u8 0, .string ByteArray.empty, .int .i64 0]), 3, 32) := by kernel_rfl

def AllPost (w : World) (L : List Tok) (q : Nat) (er : Int) (e : Ending) (w' : World) : Prop :=
  ∃ A c, e = .returned (.tuple #[.slice A L.length c, .int .i64 q, .int .i64 er]) ∧ Toks w' A L ∧ Good w w' ∧ L.length ≤ c ∧ (A = none → c = 0)

theorem all_big (s : ByteArray) (w : World) (hs : s.size ≤ maxLen) (h : 400 < s.size) (ht : Tabs w) :
    Calls Tryz.prog 10 #[.string s] w (AllPost w [] 0 4) := by
  unfold maxLen at hs
  have HT := Lib.hid ht
  clear ht
  go_enter Tryz.func10, Tryz.ntmps10
  go_wp2
  refine bodyPost_ret (v := .tuple #[.slice none 0 0, .int .i64 0, .int .i64 4]) (by simp [results, Tryz.results10, go_sem]) rfl ⟨none, 0, rfl, .inl rfl, Good.start HT.out, Nat.le_refl _, fun _ => rfl⟩

/-- What holds at the head of each round of All. -/
def AllRel (s : ByteArray) (w : World) (ts : List Tok) (q : Nat) (er : Int) (k a : Nat) (l : Value) (wr : World) : Prop :=
  a ≤ s.size ∧ k ≤ 200 ∧ wr.ownsRow w.heap.size 52 3 l k (tokCells (ts.take k)) ∧ Lex (s.data.toList.drop a) a k (ts.drop k) q er ∧ spanK 1 (s.data.toList.drop a) = 0 ∧ Good w wr ∧ k ≤ ts.length

/-- The bytes of a token, as the program cuts them. -/
theorem cut_bytes (s : ByteArray) (a n : Nat) : bytesOf ((s.data.toList.drop a).take n) = s.extract a (a + n) := by
  apply ByteArray.ext
  apply Array.toList_inj.1
  rw [bytesOf_list]
  simp
theorem cut_list' (s : ByteArray) (a n : Nat) : (s.extract a (a + n)).data.toList = (s.data.toList.drop a).take n := by
  rw [← cut_bytes, bytesOf_list]

theorem cells_new3 (w : World) (x y z : Value) (t : TypeId) : ∀ j u, [x, y, z][j]? = some u → (w.alloc (.cells #[x, y, z] t)).cell? ((⟨w.heap.size, 0, none⟩ : Addr).add j) = some u := by
  intro j u hj
  have h := World.news_of_block (w := w.alloc (.cells #[x, y, z] t)) (B := w.heap.size) (cs := #[x, y, z]) (t := t) (fr := (0, 0)) (heap_alloc_new w _) j u
  exact h hj

set_option maxHeartbeats 4000000 in
theorem all_go (s : ByteArray) (w : World) (hs : s.size ≤ 400) (ht : Tabs w) (ts : List Tok) (q : Nat) (er : Int) (hL : Lex s.data.toList 0 0 ts q er) (L : List Tok) (hl : (if er = 0 then ts else []) = L) :
    Calls Tryz.prog 10 #[.string s] w (AllPost w L q er) := by
  have HM := Lib.hid (show s.size ≤ maxLen by unfold maxLen; omega)
  have HL := Lib.hid hL
  have HF := Lib.hid hl
  have hsp := spanK_le 1 s.data.toList
  rw [show s.data.toList.length = s.size by simp] at hsp
  obtain ⟨r0, hr0⟩ : ∃ r0, spanK 1 s.data.toList = r0 := ⟨_, rfl⟩
  rw [hr0] at hsp
  have HB := Lib.hid (fun w => behind_any s 0 1 r0 w HM.out (Nat.zero_le _) (by rw [List.drop_zero, hr0]; omega))
  have HR := Lib.hid hr0
  have HT := Lib.hid ht
  obtain ⟨i0, hi, hz0, hz1, hz2⟩ := info_parts tok_info
  clear ht hL hr0 hl
  go_enter Tryz.func10, Tryz.ntmps10
  go_wp2_with (go_at_call 27; refine (HB.out _).mono ?_; rintro e w1 ⟨rfl, hb1⟩)
  go_loopw [5, 6] (fun l i wr => ∃ k a : Nat, i = .int .i64 a ∧ AllRel s w ts q er k a l wr) (fun _ i _ => s.size - (intOf i).toNat)
  case atStart =>
    refine ⟨0, r0, rfl, hsp, by omega, ?_, ?_, ?_, ?_, Nat.zero_le _⟩
    · exact own_below (World.ownsRow_lit (base := w.heap.size) (e := 52) (size := 3) w #[] 0 (Nat.le_refl _) (Nat.zero_le _) rfl) hb1
    · rw [List.drop_zero]
      have := HL.out.skip
      rw [HR.out, Nat.zero_add] at this
      exact this
    · have := spanK_drop 1 s.data.toList
      rwa [HR.out] at this
    · exact ((Good.start HT.out).step ((Below.refl _ _).alloc (Nat.le_refl _) _)).step hb1
  case round =>
    clear hb1
    obtain ⟨k, a, rfl, ha, hk, hown, hlex, h0, hg, hkl⟩ := hrel
    obtain ⟨A, c, rfl, hkm, hkc, hkn⟩ := own_form hown
    have HKC := Lib.hid (And.intro hkc hkn)
    clear hkc hkn
    have HO := Lib.hid hown
    have H0 := Lib.hid h0
    have HG := Lib.hid hg
    rcases hlex.skip' h0 with ⟨h1, h2, h3, h4⟩ | ⟨h1, h2, h3, h4, h5⟩ | ⟨h1, h2, h3, h4, h5, h6⟩ | ⟨h1, h2, h3, rest, h4, h5⟩
    · have hlen : a = s.size := by
        have := congrArg List.length h1
        rw [List.length_drop, List.length_nil] at this
        simp at this
        omega
      have hkt : ts.length ≤ k := by
        have := congrArg List.length h2
        rw [List.length_drop, List.length_nil] at this
        omega
      have hkk : k = ts.length := by omega
      have hLL : L = ts := by rw [← HF.out, if_pos h4]
      have hq : q = s.size := by omega
      clear hown hlex h0 hg h1 h2 h3
      subst h4 hkk
      rw [List.take_length] at HO
      subst hLL
      have hge : ¬ a < s.size := by omega
      clear hkt hkl
      subst hlen
      go_wp2
      subst hq
      refine bodyPost_ret (v := .tuple #[.slice A L.length c, .int .i64 s.size, .int .i64 0]) (by simp [results, Tryz.results10, go_sem]) rfl ⟨A, c, rfl, Toks.of_own HO.out, HG.out, HKC.out⟩
    · have hlt : a < s.size := by
        have := List.length_pos_iff.2 h1
        rw [List.length_drop] at this
        simp at this
        omega
      have hLL : L = [] := by rw [← HF.out, if_neg (by rw [h5]; decide)]
      clear hown hlex h0 hg h1 h3 HF
      subst h2 h4 h5 hLL
      go_wp2
      refine bodyPost_ret (v := .tuple #[.slice none 0 0, .int .i64 q, .int .i64 4]) (by simp [results, Tryz.results10, go_sem]) rfl ⟨none, 0, rfl, .inl rfl, HG.out, Nat.le_refl _, fun _ => rfl⟩
    · have hlt : a < s.size := by
        have := List.length_pos_iff.2 h1
        rw [List.length_drop] at this
        simp at this
        omega
      have hLL : L = [] := by rw [← HF.out, if_neg (by rw [h6]; exact h3)]
      obtain ⟨kd, n, hx⟩ : ∃ kd n, ext (s.data.toList.drop a) = (kd, n) := ⟨_, _, rfl⟩
      have hn : a + n ≤ s.size := by
        have := ext_le (s.data.toList.drop a)
        rw [hx, List.length_drop] at this
        simp at this
        omega
      obtain ⟨r, hr⟩ : ∃ r, a + n = r := ⟨_, rfl⟩
      have HE := Lib.hid (fun w ht => extent_any s a kd n r w HM.out hlt ht hx hr)
      have hv : checkE kd (s.extract a r).data.toList = er := by
        rw [← hr, cut_list', h6, tkE, hx]
      have HC := Lib.hid (fun w ht => check_any kd (s.extract a r) er w (by have := HM.out; rw [ByteArray.size_extract]; unfold maxLen at *; omega) ht hv)
      have hne : (er != 0) = true := by rw [bne_iff_ne, h6]; exact h3
      have har : a ≤ r := by omega
      have hrs : r ≤ s.size := by omega
      have hk2 : ((k : Int) == 200) = false := by simp; omega
      clear hown hlex h0 hg h1 h2 h3 h4 HF h6 hx hr hv hn
      subst h5 hLL
      go_wp2_with (first | (go_at_call 28; refine (HE.out _ HG.out.2).mono ?_; rintro e w2 ⟨rfl, hb2⟩; have HG2 := Lib.hid (HG.out.step hb2)) | (go_at_call 29; refine (HC.out _ HG2.out.2).mono ?_; rintro e w3 ⟨rfl, hb3⟩; have HG3 := Lib.hid (HG2.out.step hb3)))
      refine bodyPost_ret (v := .tuple #[.slice none 0 0, .int .i64 q, .int .i64 er]) (by simp [results, Tryz.results10, go_sem]) rfl ⟨none, 0, rfl, .inl rfl, HG3.out, Nat.le_refl _, fun _ => rfl⟩
    · have hlt : a < s.size := by
        have := List.length_pos_iff.2 h1
        rw [List.length_drop] at this
        simp at this
        omega
      have hp := ext_pos _ h1 h3
      obtain ⟨kd, n, hx⟩ : ∃ kd n, ext (s.data.toList.drop a) = (kd, n) := ⟨_, _, rfl⟩
      rw [hx] at hp h4 h5
      simp only at hp h4 h5
      have hn : a + n ≤ s.size := by
        have := ext_le (s.data.toList.drop a)
        rw [hx, List.length_drop] at this
        simp at this
        omega
      obtain ⟨r, hr⟩ : ∃ r, a + n = r := ⟨_, rfl⟩
      have HE := Lib.hid (fun w ht => extent_any s a kd n r w HM.out hlt ht hx hr)
      have hv : checkE kd (s.extract a r).data.toList = 0 := by
        rw [← hr, cut_list']
        rw [tkE, hx] at h3
        exact h3
      have HC := Lib.hid (fun w ht => check_any kd (s.extract a r) 0 w (by have := HM.out; rw [ByteArray.size_extract]; unfold maxLen at *; omega) ht hv)
      have HCl := Lib.hid (fun w => clone_any (s.extract a r) w (by rw [ByteArray.size_extract]; omega))
      have har : a ≤ r := by omega
      have hrs : r ≤ s.size := by omega
      have harn : a < r := by omega
      have hk3 : k + 1 ≤ 200 := by omega
      have hk2 : ((k : Int) == 200) = false := by simp; omega
      obtain ⟨b, hb⟩ : ∃ b, r + spanK 1 (s.data.toList.drop r) = b := ⟨_, rfl⟩
      have hbs : b ≤ s.size := by
        have := spanK_le 1 (s.data.toList.drop r)
        rw [List.length_drop] at this
        simp at this
        omega
      have hrb : r ≤ b := by omega
      have HB2 := Lib.hid (fun w => behind_any s r 1 b w HM.out hrs hb)
      have hd5 : Lex (s.data.toList.drop r) r (k + 1) rest q er := by
        rw [List.drop_drop, hr] at h5; exact h5
      have HN := Lib.hid (show Lex (s.data.toList.drop b) b (k + 1) rest q er ∧ spanK 1 (s.data.toList.drop b) = 0 by
        have h6 := hd5.skip
        have h7 := spanK_drop 1 (s.data.toList.drop r)
        rw [List.drop_drop, hb] at h6 h7
        exact ⟨h6, h7⟩)
      have hk1 : k < ts.length := by
        have := congrArg List.length h4
        rw [List.length_drop, List.length_cons] at this
        omega
      have HT1 := Lib.hid (show ts.drop (k + 1) = rest ∧ tokCells (ts.take (k + 1)) = tokCells (ts.take k) ++ [.int .u8 kd, .string (s.extract a r), .int .i64 (a : Int)] by
        have h8 : ts.take (k + 1) = ts.take k ++ [⟨kd, (s.data.toList.drop a).take n, (a : Nat)⟩] := by
          rw [List.take_succ_eq_append_getElem hk1]
          congr 1
          rw [List.drop_eq_getElem_cons hk1] at h4
          rw [(List.cons.inj h4).1]
        refine ⟨?_, ?_⟩
        · rw [List.drop_eq_getElem_cons hk1] at h4
          exact (List.cons.inj h4).2
        · rw [h8, tokCells_snoc, tokC, cut_bytes, hr])
      clear hown hlex h0 hg h1 h2 h3 h4 h5 HF hx hr hv hn hb hd5 hp HL HR HB
      go_wp2_with (first
        | (go_at_call 28; refine (HE.out _ HG.out.2).mono ?_; rintro e w2 ⟨rfl, hb2⟩; have HG2 := Lib.hid (HG.out.step hb2); have HO2 := Lib.hid (own_below HO.out hb2))
        | (go_at_call 29; refine (HC.out _ HG2.out.2).mono ?_; rintro e w3 ⟨rfl, hb3⟩; have HG3 := Lib.hid (HG2.out.step hb3); have HO3 := Lib.hid (own_below HO2.out hb3))
        | (go_at_call 30; refine (HCl.out _).mono ?_; rintro e w4 ⟨rfl, hb4⟩; have HG4 := Lib.hid (HG3.out.step hb4); have HO4 := Lib.hid (own_below HO3.out hb4))
        | (at_builtin; refine wpList_append_lies _ rfl (.tmp 40) (.tmp 49) 35 rfl w.heap.size 52 i0 _ 3 32 Tryz.underlying35 hi hz0 hz1 hz2 rfl (by decide) (.slice A k c) k (tokCells (ts.take k)) rfl (HO4.out.alloc _) ⟨w4.heap.size, 0, none⟩ 1 1 [.int .u8 kd, .string (s.extract a r), .int .i64 (a : Int)] rfl rfl ?c1 ?c2 (by decide) ?c3 ?c4 ?c5 (w4.heap.size + 1) ?c6 ?_))
      case c1 => exact cells_new3 w4 _ _ _ _
      case c2 => intro u hu; simp only [List.mem_cons, List.not_mem_nil, or_false] at hu; rcases hu with rfl | rfl | rfl <;> rfl
      case c3 => unfold maxLen; omega
      case c4 => omega
      case c5 => have := HG4.out.1.size; simp; omega
      case c6 => simp
      intro g cap w5 hown5 hgrow5 hat5 hlt5
      have hb5 : Below w.heap.size w w5 := (HG4.out.1.alloc HG4.out.1.size _).grown hgrow5 (by have := HG4.out.1.size; simp; omega) (fun j hj => (HO4.out.lt j hj).1)
      have HG5 := Lib.hid (show Good w w5 from ⟨hb5, HT.out.stays hb5⟩)
      have HO5 := Lib.hid hown5
      clear hown5 hgrow5 hat5 hlt5 hb5
      go_wp2_with (go_at_call 27; refine (HB2.out _).mono ?_; rintro e w6 ⟨rfl, hb6⟩)
      go_roundw
      case rel =>
        refine ⟨k + 1, b, rfl, hbs, by omega, ?_, ?_, HN.out.2, HG5.out.step hb6, by omega⟩
        · rw [HT1.out.2]; exact own_below HO5.out hb6
        · rw [HT1.out.1]; exact HN.out.1
      case measure => simp [intOf]; omega

theorem all_any (s : ByteArray) (w : World) (hs : s.size ≤ maxLen) (ht : Tabs w) (L : List Tok) (q : Nat) (er : Int) (h : allF s.data.toList = (L, q, er)) :
    Calls Tryz.prog 10 #[.string s] w (AllPost w L q er) := by
  by_cases hb : 400 < s.size
  · rw [allF_big _ (by simpa using hb)] at h
    obtain ⟨h1, h2⟩ := Prod.mk.inj h
    obtain ⟨h2, h3⟩ := Prod.mk.inj h2
    subst h1 h2 h3
    exact all_big s w hs hb ht
  · obtain ⟨ts, q', e', hL, hf⟩ := allF_lex s.data.toList (by simp; omega)
    rw [hf] at h
    obtain ⟨h1, h2⟩ := Prod.mk.inj h
    obtain ⟨h2, h3⟩ := Prod.mk.inj h2
    subst h2 h3
    exact all_go s w (by omega) ht ts q' e' hL L h1
end Go.Proofs.YtlmamidodahgmaaGreatDoor

/- LRef: Contracts of the reference's Next and All. -/
namespace Go.Proofs.YtlmamidodahgmaaGreatDoor
open Go.ChangeShapes Go.WideShapes Go.ChangeAt Go.RowKit
set_option linter.unusedVariables false
set_option maxRecDepth 100000
set_option linter.unusedSimpArgs false

theorem cells_new3' (w : World) (B : Nat) (hB : w.heap.size = B) (x y z : Value) (t : TypeId) : ∀ j u, [x, y, z][j]? = some u → (w.alloc (.cells #[x, y, z] t)).cell? ((⟨B, 0, none⟩ : Addr).add j) = some u := by
  subst hB; exact cells_new3 w x y z t
def NextPost (w : World) (s : ByteArray) (kd : Int) (a r : Nat) (v : Int) (e : Ending) (w' : World) : Prop :=
  ∃ (x : Int) (y : ByteArray) (z : Int), e = .returned (.tuple #[.agg #[.int .u8 x, .string y, .int .i64 z], .int .i64 v]) ∧ (v = 0 → x = kd ∧ y = s.extract a r ∧ z = a) ∧ Below w.heap.size w w'
theorem res_facts {w w1 : World} {x y z : Value} {t : TypeId} (hb : Below (w.alloc (.cells #[x, y, z] t)).heap.size (w.alloc (.cells #[x, y, z] t)) w1) :
    w1.cell? ⟨w.heap.size, 0, none⟩ = some x ∧ w1.cell? ⟨w.heap.size, 1, none⟩ = some y ∧ w1.cell? ⟨w.heap.size, 2, none⟩ = some z ∧
    w1.frozen? ⟨w.heap.size, 0, none⟩ = false ∧ w1.frozen? ⟨w.heap.size, 1, none⟩ = false ∧ w1.frozen? ⟨w.heap.size, 2, none⟩ = false ∧ w.heap.size < w1.heap.size := by
  have hlt : w.heap.size < (w.alloc (.cells #[x, y, z] t)).heap.size := by simp
  have hh := (hb.block w.heap.size hlt).trans (heap_alloc_new w (.cells #[x, y, z] t))
  have hs := hb.size
  refine ⟨by simp [World.cell?, hh], by simp [World.cell?, hh], by simp [World.cell?, hh], by simp [World.frozen?, hh], by simp [World.frozen?, hh], by simp [World.frozen?, hh], by omega⟩

theorem res_below {w w1 : World} {x y z : Value} {t : TypeId} (hb : Below (w.alloc (.cells #[x, y, z] t)).heap.size (w.alloc (.cells #[x, y, z] t)) w1) (p q r : Value) :
    Below w.heap.size w (((w1.setCell ⟨w.heap.size, 0, none⟩ p).setCell ⟨w.heap.size, 1, none⟩ q).setCell ⟨w.heap.size, 2, none⟩ r) :=
  (((((Below.refl _ _).alloc (Nat.le_refl _) _).trans (hb.mono (by simp))).setCell (p := ⟨w.heap.size, 0, none⟩) (Nat.le_refl _) _).setCell (p := ⟨w.heap.size, 1, none⟩) (Nat.le_refl _) _).setCell (p := ⟨w.heap.size, 2, none⟩) (Nat.le_refl _) _

end Go.Proofs.YtlmamidodahgmaaGreatDoor

/- LTok: Contracts of the reference's Great, Same, Alike and Valid. -/
namespace Go.Proofs.YtlmamidodahgmaaGreatDoor
open Go.ChangeShapes Go.WideShapes Go.ChangeAt Go.RowKit
set_option linter.unusedVariables false
set_option maxRecDepth 100000

def greatF (L : List Tok) : Bool := decide (220 < L.length) || L.any fun t => decide (500 < t.s.length)

/-- An element's cells, as the walk spells them. -/
theorem add_more (ad : Addr) (n i : Nat) (hi : 0 < i) : ad.add (n + i) = ⟨(ad.add n).block, (ad.add n).off + i, none⟩ := by
  unfold Addr.add
  rw [if_neg (by omega)]
  by_cases hn : n = 0
  · subst hn; simp
  · rw [if_neg hn]; simp; omega
def TokAt (w : World) (ad : Addr) (k : Nat) (t : Tok) : Prop :=
  w.cell? (ad.add (k * 3)) = some (.int .u8 t.k) ∧ w.cell? ⟨(ad.add (k * 3)).block, (ad.add (k * 3)).off + 1, none⟩ = some (.string (bytesOf t.s)) ∧ w.cell? ⟨(ad.add (k * 3)).block, (ad.add (k * 3)).off + 2, none⟩ = some (.int .i64 t.a)
theorem Toks.at_ {w : World} {A : Option Addr} {L : List Tok} (h : Toks w A L) (k : Nat) (hk : k < L.length) :
    ∃ ad t, A = some ad ∧ TokAt w ad k t ∧ L[k]? = some t := by
  rcases h with rfl | ⟨ad, h1, h2, h3⟩
  · simp at hk
  · obtain ⟨c0, c1, c2⟩ := tokCells_at L k hk
    refine ⟨ad, L[k], h1, ⟨h3 _ _ c0, ?_, ?_⟩, List.getElem?_eq_getElem hk⟩
    · rw [← add_more ad (k * 3) 1 (by decide)]; exact h3 _ _ c1
    · rw [← add_more ad (k * 3) 2 (by decide)]; exact h3 _ _ c2

theorem great_len (L : List Tok) (h : 220 < L.length) : greatF L = true := by unfold greatF; rw [decide_eq_true h]; rfl
theorem great_mem (L : List Tok) (t : Tok) (k : Nat) (h : L[k]? = some t) (h2 : 500 < t.s.length) : greatF L = true := by
  unfold greatF
  rw [Bool.or_eq_true]
  exact .inr (List.any_eq_true.2 ⟨t, List.mem_of_getElem? h, by simpa using h2⟩)
theorem great_no (L : List Tok) (h : L.length ≤ 220) (h2 : ∀ t ∈ L, t.s.length ≤ 500) : greatF L = false := by
  unfold greatF
  rw [Bool.or_eq_false_iff]
  refine ⟨by simpa using h, ?_⟩
  rw [List.any_eq_false]
  intro t ht
  have := h2 t ht
  simpa using this
theorem take_snoc_tok (L : List Tok) (k : Nat) (t : Tok) (h : L[k]? = some t) : L.take (k + 1) = L.take k ++ [t] := by
  obtain ⟨hk, e⟩ := List.getElem?_eq_some_iff.1 h
  rw [List.take_succ_eq_append_getElem hk, e]

set_option maxHeartbeats 1000000 in
set_option maxRecDepth 100000 in
theorem great_any (A : Option Addr) (c : Nat) (L : List Tok) (w : World) (hL : L.length ≤ maxLen) (ht : Toks w A L) (b : Bool) (hb : greatF L = b) :
    Calls Tryz.prog 15 #[.slice A L.length c] w fun e w' => e = .returned (.bool b) ∧ w = w' := by
  have HT := Lib.hid ht
  have HB := Lib.hid hb
  obtain ⟨n, hn⟩ : ∃ n, L.length = n := ⟨_, rfl⟩
  rw [hn] at hL
  have HN := Lib.hid hn
  clear ht hb
  rw [hn]
  clear hn
  unfold maxLen at hL
  go_enter Tryz.func15, Tryz.ntmps15
  go_wp2
  go_loop [3] (fun i => ∃ k : Nat, k ≤ n ∧ k ≤ 220 ∧ i = .int .i64 k ∧ Hid (∀ t ∈ L.take k, t.s.length ≤ 500)) (fun i => n - (intOf i).toNat)
  case atStart => exact ⟨0, Nat.zero_le _, Nat.zero_le _, rfl, Lib.hid (by simp)⟩
  case round =>
    obtain ⟨k, hk, hk2, rfl, hd⟩ := hrel
    by_cases hlt : k < n
    · obtain ⟨ad, t, rfl, ⟨c0, c1, c2⟩, ht⟩ := HT.out.at_ k (by rw [HN.out]; exact hlt)
      have HK := Lib.hid ht
      obtain ⟨S, hS⟩ : ∃ S, bytesOf t.s = S := ⟨_, rfl⟩
      rw [hS] at c1
      have HS := Lib.hid (show S.size = t.s.length by rw [← hS, bytesOf_size])
      clear ht hS
      by_cases h2 : 220 ≤ k
      · have HG := Lib.hid (great_len L (by rw [HN.out]; omega))
        go_wp2
        go_ret
        exact ⟨ret_bool' (HG.out.symm.trans HB.out), rfl⟩
      · by_cases h5 : 500 < S.size
        · have HG := Lib.hid (great_mem L t k HK.out (by rw [← HS.out]; exact h5))
          go_wp2
          go_ret
          exact ⟨ret_bool' (HG.out.symm.trans HB.out), rfl⟩
        · go_wp2
          go_round
          case rel =>
            refine ⟨k + 1, by omega, by omega, by go_num, Lib.hid ?_⟩
            rw [take_snoc_tok L k t HK.out]
            intro u hu
            rcases List.mem_append.1 hu with hu | hu
            · exact hd.out u hu
            · simp only [List.mem_singleton] at hu; subst hu; rw [← HS.out]; omega
          case measure => simp [intOf]; omega
    · have HG := Lib.hid (great_no L (by rw [HN.out]; omega) (by have := hd.out; rwa [List.take_of_length_le (by rw [HN.out]; omega)] at this))
      go_wp2
      go_ret
      exact ⟨ret_bool' (HG.out.symm.trans HB.out), rfl⟩

/-! ### Alike and Same -/
theorem eq_tok (k a k' a' : Int) (s s' : ByteArray) (w : World) : (Op.equalIn 10000 52 (.agg #[.int .u8 k, .string s, .int .i64 a]) (.agg #[.int .u8 k', .string s', .int .i64 a'])).run Tryz.prog w = .ok (k == k' && s.toList == s'.toList && a == a') w := by
  have u1 := Tryz.underlying5
  have u2 := Tryz.underlying9
  have u3 := Tryz.underlying3
  have hS : Tryz.prog.underlying 52 = some (.struct (Tryz.prog.fieldsOf 52)) := by kernel_rfl
  rw [show (10000 : Nat) = 9999 + 1 from rfl, run_equalIn_agg w 9999 52 _ _ hS (by kernel_rfl)]
  simp only [Program.fieldsOf, Tryz.underlying52]
  go_simp
  by_cases h1 : k = k' <;> by_cases h2 : s.toList = s'.toList <;> by_cases h3 : a = a' <;> simp [h1, h2, h3]
theorem neq_tok (k a : Int) (s : ByteArray) (w : World) : (binOp .neq 52 (.agg #[.int .u8 k, .string s, .int .i64 a]) (.agg #[.int .u8 k, .string s, .int .i64 a])).run Tryz.prog w = .ok (.bool false) w := by
  rw [run_neq_struct, eq_tok]; simp

/-! ### Valid -/
def validF (k : Int) (s : List UInt8) : Bool := checkE k s == 0
end Go.Proofs.YtlmamidodahgmaaGreatDoor

/- LJoin: The contract of lexer.Join. -/
namespace Go.Proofs.YtlmamidodahgmaaGreatDoor
open Go.ChangeShapes Go.WideShapes Go.ChangeAt Go.RowKit
set_option linter.unusedVariables false
set_option maxRecDepth 100000

def JoinPost (w : World) (T : List UInt8) (er : Int) (e : Ending) (w' : World) : Prop := e = .returned (.tuple #[.string (bytesOf T), .int .i64 er]) ∧ Good w w'
theorem bytesOf_nil : bytesOf [] = ⟨#[]⟩ := rfl

theorem okL_bad (L : List Tok) (t : Tok) (k : Nat) (h : L[k]? = some t) (h2 : checkE t.k t.s ≠ 0) : okL L = false := by
  unfold okL
  rw [List.all_eq_false]
  exact ⟨t, List.mem_of_getElem? h, by simpa using h2⟩
theorem okL_all (L : List Tok) (h : ∀ t ∈ L, checkE t.k t.s = 0) : okL L = true := by
  unfold okL
  rw [List.all_eq_true]
  intro t ht
  simpa using h t ht
theorem okL_mem {L : List Tok} (h : okL L = true) : ∀ t ∈ L, checkE t.k t.s = 0 := by
  unfold okL at h
  rw [List.all_eq_true] at h
  intro t ht
  simpa using h t ht
theorem jn_step (L : List Tok) (k : Nat) (t : Tok) (h : L[k]? = some t) (h0 : 0 < k) : jn ((L.take (k + 1)).map (·.s)) = (jn ((L.take k).map (·.s)) ++ [32]) ++ t.s := by
  rw [take_snoc_tok L k t h, List.map_append, List.map_cons, List.map_nil, jn_snoc, if_neg ?_]
  · simp
  · intro he
    have h1 := congrArg List.length he
    rw [List.length_map, List.length_take, List.length_nil] at h1
    have h2 := (List.getElem?_eq_some_iff.1 h).1
    omega
theorem jn_first (L : List Tok) (t : Tok) (h : L[0]? = some t) : jn ((L.take (0 + 1)).map (·.s)) = t.s := by
  rw [take_snoc_tok L 0 t h]; simp [jn]
theorem jn_le (L : List Tok) (k : Nat) : (jn ((L.take k).map (·.s))).length ≤ (jn (L.map (·.s))).length := by
  rw [List.map_take]; exact jn_take_le _ _

theorem BIs.lt {B b : Nat} {l : List UInt8} {w : World} (h : BIs B b l w) : b < w.heap.size := h.elim Lib.BuilderAt.lt Lib.BuilderAt.lt

theorem join_many (A : Option Addr) (c : Nat) (L : List Tok) (w : World) (hL : L.length ≤ maxLen) (h : 200 < L.length) (tb : Tabs w) :
    Calls Tryz.prog 13 #[.slice A L.length c] w (JoinPost w [] 4) := by
  have HT := Lib.hid tb
  obtain ⟨n, hn⟩ : ∃ n, L.length = n := ⟨_, rfl⟩
  rw [hn] at hL h ⊢
  clear hn tb
  unfold maxLen at hL
  go_enter Tryz.func13, Tryz.ntmps13
  go_wp2
  go_ret2
  exact ⟨rfl, Good.start HT.out⟩

set_option maxHeartbeats 4000000 in
set_option maxRecDepth 100000 in
theorem join_go (A : Option Addr) (c : Nat) (L : List Tok) (w : World) (hL : L.length ≤ 200) (ht : Toks w A L) (hs : ∀ t ∈ L, t.s.length ≤ maxLen) (tb : Tabs w) (T : List UInt8) (er : Int) (hj : joinF L = (T, er)) :
    Calls Tryz.prog 13 #[.slice A L.length c] w (JoinPost w T er) := by
  have HA := Lib.hid ht
  have HT := Lib.hid tb
  have HS := Lib.hid hs
  obtain ⟨n, hn⟩ : ∃ n, L.length = n := ⟨_, rfl⟩
  have HJ := Lib.hid hj
  have HN := Lib.hid hn
  rw [hn] at hL ⊢
  clear hn ht tb hs hj
  have h200 : ¬ (200 : Int) < n := by omega
  go_enter Tryz.func13, Tryz.ntmps13
  go_wp2
  go_loopw [14] (fun i wr => ∃ k : Nat, k ≤ n ∧ i = .int .i64 k ∧ Hid (∀ t ∈ L.take k, checkE t.k t.s = 0) ∧ Hid (Good w wr)) (fun i _ => n - (intOf i).toNat)
  case atStart => exact ⟨0, Nat.zero_le _, rfl, Lib.hid (by simp), Lib.hid (Good.start HT.out)⟩
  case round =>
    obtain ⟨k, hk, rfl, hd, hg⟩ := hrel
    by_cases hlt : k < n
    · obtain ⟨ad, t, rfl, ⟨c0, c1, c2⟩, htk⟩ := (HA.out.below hg.out.1).at_ k (by rw [HN.out]; exact hlt)
      have HK := Lib.hid htk
      obtain ⟨v, hv⟩ : ∃ v, checkE t.k t.s = v := ⟨_, rfl⟩
      have HV := Lib.hid hv
      have hsz := HS.out t (List.mem_of_getElem? htk)
      obtain ⟨K, hK⟩ : ∃ K, t.k = K := ⟨_, rfl⟩
      obtain ⟨S, hS⟩ : ∃ S, bytesOf t.s = S := ⟨_, rfl⟩
      obtain ⟨a, ha⟩ : ∃ a, t.a = a := ⟨_, rfl⟩
      rw [hK] at c0
      rw [hS] at c1
      rw [ha] at c2
      have HC := Lib.hid (fun w hb => check_any K S v w (by rw [← hS, bytesOf_size]; exact hsz) hb (by rw [← hS, bytesOf_list, ← hK]; exact hv))
      clear hK hS ha hv htk hsz
      by_cases h0 : v = 0
      · have e0 : (v != 0) = false := by simp [h0]
        have HD := Lib.hid (show ∀ u ∈ L.take (k + 1), checkE u.k u.s = 0 by
          rw [take_snoc_tok L k t HK.out]
          intro u hu
          rcases List.mem_append.1 hu with hu | hu
          · exact hd.out u hu
          · simp only [List.mem_singleton] at hu; rw [hu, HV.out]; exact h0)
        clear h0
        go_wp2_with (go_at_call 29; refine (HC.out _ (hg.out.2.stays ((Below.refl _ _).alloc (Nat.le_refl _) _))).mono ?_; rintro e w1 ⟨rfl, hb1⟩; have HG1 := Lib.hid ((hg.out.step ((Below.refl _ _).alloc (Nat.le_refl _) _)).step hb1); clear hb1)
        go_roundw
        case rel => exact ⟨k + 1, by omega, by go_num, HD, HG1⟩
        case measure => simp [intOf]; omega
      · have e0 : (v != 0) = true := by simp [h0]
        have HB := Lib.hid (show T = [] ∧ er = 8 by
          have h1 := HJ.out
          rw [joinF, if_neg (by rw [HN.out]; omega), if_neg (by rw [okL_bad L t k HK.out (by rw [HV.out]; exact h0)]; decide)] at h1
          exact ⟨(Prod.mk.inj h1).1.symm, (Prod.mk.inj h1).2.symm⟩)
        clear h0
        obtain ⟨hT, hE⟩ := HB.out
        subst hT hE
        go_wp2_with (go_at_call 29; refine (HC.out _ (hg.out.2.stays ((Below.refl _ _).alloc (Nat.le_refl _) _))).mono ?_; rintro e w1 ⟨rfl, hb1⟩; have HG1 := Lib.hid ((hg.out.step ((Below.refl _ _).alloc (Nat.le_refl _) _)).step hb1); clear hb1)
        go_ret2
        exact ⟨rfl, HG1.out⟩
    · have hall := hd.out
      rw [List.take_of_length_le (by rw [HN.out]; omega)] at hall
      have HJ2 := Lib.hid (show (if 400 < (jn (L.map (·.s))).length then (([] : List UInt8), (18 : Int)) else (jn (L.map (·.s)), 0)) = (T, er) by
        have h1 := HJ.out
        rwa [joinF, if_neg (by rw [HN.out]; omega), if_pos (okL_all L hall)] at h1)
      clear hall HJ
      have hgs := hg.out.1.size
      go_wp2
      obtain ⟨B0, hB0⟩ : ∃ B0, wr.heap.size = B0 := ⟨_, rfl⟩
      have HB0 := Lib.hid (show BIs B0 B0 [] (wr.alloc (.cells #[.pointer none, .slice none 0 0] 77)) by rw [← hB0]; exact bfresh wr)
      have HG0 := Lib.hid (hg.out.step ((Below.refl _ _).alloc (Nat.le_refl _) (.cells #[.pointer none, .slice none 0 0] 77)))
      have HW0 := Lib.hid (show B0 ≤ (wr.alloc (.cells #[.pointer none, .slice none 0 0] 77)).heap.size by simp; omega)
      have hwB : w.heap.size ≤ B0 := by omega
      rw [hB0]
      clear hd hg hgs hlt hk hB0
      go_loopw [27] (fun i wx => ∃ k : Nat, k ≤ n ∧ i = .int .i64 k ∧ Hid (BIs B0 B0 (jn ((L.take k).map (·.s))) wx) ∧ Hid ((jn ((L.take k).map (·.s))).length ≤ 400) ∧ Hid (Good w wx)) (fun i _ => n - (intOf i).toNat)
      case atStart => exact ⟨0, Nat.zero_le _, rfl, HB0, Lib.hid (Nat.zero_le _), HG0⟩
      case round =>
        clear HB0 HG0 HW0
        obtain ⟨k, hk, rfl, hbi, hle, hg⟩ := hrel
        by_cases hlt : k < n
        · obtain ⟨ad, t, rfl, ⟨c0, c1, c2⟩, htk⟩ := (HA.out.below hg.out.1).at_ k (by rw [HN.out]; exact hlt)
          have HK := Lib.hid htk
          have hsz := HS.out t (List.mem_of_getElem? htk)
          obtain ⟨K, hK⟩ : ∃ K, t.k = K := ⟨_, rfl⟩
          obtain ⟨S, hS⟩ : ∃ S, bytesOf t.s = S := ⟨_, rfl⟩
          obtain ⟨a, ha⟩ : ∃ a, t.a = a := ⟨_, rfl⟩
          rw [hK] at c0
          rw [hS] at c1
          rw [ha] at c2
          have HSS := Lib.hid (show S.data.toList = t.s by rw [← hS, bytesOf_list])
          have hss : S.size ≤ maxLen := by rw [← hS, bytesOf_size]; exact hsz
          have HSZ := Lib.hid (show S.size = t.s.length by rw [← hS, bytesOf_size])
          unfold maxLen at hss
          clear hK hS ha htk hsz
          have hlt0 := BIs.lt hbi.out
          have HW := Lib.hid (show w.heap.size ≤ wr.heap.size by omega)
          have hba := Lib.hid (hbi.out.alloc (.cells #[.int .u8 K, .string S, .int .i64 a] 52))
          have hga := Lib.hid (hg.out.step ((Below.refl _ _).alloc (Nat.le_refl _) (.cells #[.int .u8 K, .string S, .int .i64 a] 52)))
          have hblk := Lib.hid (heap_alloc_new wr (.cells #[.int .u8 K, .string S, .int .i64 a] 52))
          by_cases h0 : k = 0
          · subst h0
            simp only [Nat.zero_mul, Addr.add_zero'] at c0 c1 c2
            have HL := Lib.hid (show jn ((L.take (0 + 1)).map (·.s)) = t.s from jn_first L t HK.out)
            have HB2 := Lib.hid (show BIs B0 B0 [] (wr.alloc (.cells #[.int .u8 K, .string S, .int .i64 a] 52)) from hba.out)
            clear hba hle hbi
            have HLN := Lib.hid (fun (m : Nat) => show Calls Tryz.prog 37 #[.pointer (some ⟨B0, 0, none⟩)] ((wr.alloc (.cells #[.int .u8 K, .string S, .int .i64 a] 52)).drewN m) fun e w' => e = .returned (.int .i64 0) ∧ ∃ m', w' = (wr.alloc (.cells #[.int .u8 K, .string S, .int .i64 a] 52)).drewN m' by
              have h := blen B0 B0 _ ((wr.alloc (.cells #[.int .u8 K, .string S, .int .i64 a] 52)).drewN m) (HB2.out.drewN m)
              exact h.mono fun e w' ⟨he, hw⟩ => ⟨he, m, hw.symm⟩)
            have HWS := Lib.hid (fun (m : Nat) (h1 : ([] : List UInt8).length + S.size ≤ 1000) => bwrite_string B0 B0 [] S ((wr.alloc (.cells #[.int .u8 K, .string S, .int .i64 a] 52)).drewN m) (HB2.out.drewN m) h1 (Nat.le_of_lt (BIs.lt HB2.out)))
            by_cases h5 : 400 < S.size
            · have HE := Lib.hid (show T = [] ∧ er = 18 by
                have h1 := HJ2.out
                have h2 := jn_le L (0 + 1)
                rw [HL.out, ← HSZ.out] at h2
                rw [if_pos (by omega)] at h1
                exact ⟨(Prod.mk.inj h1).1.symm, (Prod.mk.inj h1).2.symm⟩)
              obtain ⟨hT, hE⟩ := HE.out
              subst hT hE
              clear hwB hlt0 hk
              go_wp2
              go_quiet ((go_at_call 37; exact HLN.out _))
              go_wp2
              go_ret2
              exact ⟨rfl, hga.out.step (bd_drewN _ _)⟩
            · have HS1 := Lib.hid (show ([] : List UInt8).length + S.size ≤ 1000 by simp; omega)
              go_wp2
              go_quiet ((go_at_call 37; exact HLN.out _))
              go_wp2_with (go_at_call 38; refine (HWS.out _ HS1.out).mono ?_; rintro e w3 ⟨rfl, hb3, hbb3, _⟩; have HB3 := Lib.hid hb3; have HG3 := Lib.hid (show Good w w3 from ⟨(hga.out.step (bd_drewN _ _)).1.trans (hbb3.mono hwB), HT.out.stays ((hga.out.step (bd_drewN _ _)).1.trans (hbb3.mono hwB))⟩); clear hb3 hbb3)
              go_roundw
              case rel =>
                refine ⟨0 + 1, by omega, by go_num, Lib.hid ?_, Lib.hid ?_, HG3⟩
                · rw [HL.out, ← HSS.out]; exact HB3.out
                · rw [HL.out, ← HSZ.out]; omega
              case measure => simp [intOf]; omega
          · obtain ⟨l, hl⟩ : ∃ l, jn ((L.take k).map (·.s)) = l := ⟨_, rfl⟩
            rw [hl] at hba hle
            obtain ⟨q, hq⟩ : ∃ q, (l ++ [32]).length = q := ⟨_, rfl⟩
            have hq1 : q ≤ 401 := by have := hle.out; rw [← hq, List.length_append]; simp; omega
            have HL := Lib.hid (show jn ((L.take (k + 1)).map (·.s)) = (l ++ [32]) ++ t.s by rw [jn_step L k t HK.out (by omega), hl])
            have HQ := Lib.hid hq
            have hk0 : 0 < k := by omega
            have hq2 : l.length + 1 ≤ 1000 := by have := hle.out; omega
            have HWB := Lib.hid (fun W h hW => bwrite_byte B0 B0 l 32 W h hq2 hW)
            clear hl hq h0 hq2
            go_wp2_with (first
              | (go_at_call 36; (refine (HWB.out _ hba.out (Nat.le_trans (Nat.le_of_lt hlt0) ((Below.refl _ _).alloc (Nat.le_refl _) _).size)).mono ?_; rintro e w2 ⟨rfl, hb2, hbb2, hkk2⟩; have hnb := hkk2 _ _ _ _ hblk.out (by decide) (by omega); have d1 : w2.cell? ⟨wr.heap.size, 1, none⟩ = some (.string S) := (Lib.cell_of_heap hnb 1).trans rfl; have HB2 := Lib.hid hb2; have HG2 := Lib.hid (show Good w w2 from ⟨hga.out.1.trans (hbb2.mono hwB), HT.out.stays (hga.out.1.trans (hbb2.mono hwB))⟩); clear hkk2 hnb hbb2 hb2)))
            have HLN := Lib.hid (fun (m : Nat) => show Calls Tryz.prog 37 #[.pointer (some ⟨B0, 0, none⟩)] (w2.drewN m) fun e w' => e = .returned (.int .i64 q) ∧ ∃ m', w' = w2.drewN m' by
              have h := blen B0 B0 _ (w2.drewN m) (HB2.out.drewN m)
              rw [HQ.out] at h
              exact h.mono fun e w' ⟨he, hw⟩ => ⟨he, m, hw.symm⟩)
            have HWS := Lib.hid (fun (m : Nat) (h1 : (l ++ [32]).length + S.size ≤ 1000) => bwrite_string B0 B0 (l ++ [32]) S (w2.drewN m) (HB2.out.drewN m) h1 (Nat.le_of_lt (BIs.lt HB2.out)))
            have hw1 : IntKind.i64.wrap (400 - (q : Int)) = 400 - (q : Int) := IntWalk.i64_in _ (by omega)
            by_cases h5 : 400 - (q : Int) < S.size
            · have HE := Lib.hid (show T = [] ∧ er = 18 by
                have h1 := HJ2.out
                have h2 := jn_le L (k + 1)
                rw [HL.out, List.length_append, HQ.out, ← HSZ.out] at h2
                rw [if_pos (by omega)] at h1
                exact ⟨(Prod.mk.inj h1).1.symm, (Prod.mk.inj h1).2.symm⟩)
              obtain ⟨hT, hE⟩ := HE.out
              subst hT hE
              clear hwB hlt0 hk hq1
              go_quiet ((go_at_call 37; exact HLN.out _))
              clear hw1
              go_wp2
              go_ret2
              exact ⟨rfl, HG2.out.step (bd_drewN _ _)⟩
            · have HS1 := Lib.hid (show (l ++ [32]).length + S.size ≤ 1000 by rw [HQ.out]; omega)
              go_quiet ((go_at_call 37; exact HLN.out _))
              clear hw1
              go_wp2_with (go_at_call 38; refine (HWS.out _ HS1.out).mono ?_; rintro e w3 ⟨rfl, hb3, hbb3, _⟩; have HB3 := Lib.hid hb3; have HG3 := Lib.hid (show Good w w3 from ⟨(HG2.out.step (bd_drewN _ _)).1.trans (hbb3.mono hwB), HT.out.stays ((HG2.out.step (bd_drewN _ _)).1.trans (hbb3.mono hwB))⟩); clear hb3 hbb3)
              go_roundw
              case rel =>
                refine ⟨k + 1, by omega, by go_num, Lib.hid ?_, Lib.hid ?_, HG3⟩
                · rw [HL.out, ← HSS.out]; exact HB3.out
                · rw [HL.out, List.length_append, HQ.out, ← HSZ.out]; omega
              case measure => simp [intOf]; omega
        · obtain ⟨l, hl⟩ : ∃ l, jn ((L.take k).map (·.s)) = l := ⟨_, rfl⟩
          have HEnd := Lib.hid (show bytesOf l = bytesOf T ∧ er = 0 by
            have h1 := HJ2.out
            rw [← hl, List.take_of_length_le (by rw [HN.out]; omega)]
            have h2 := hle.out
            rw [List.take_of_length_le (by rw [HN.out]; omega)] at h2
            rw [if_neg (by omega)] at h1
            exact ⟨by rw [(Prod.mk.inj h1).1], (Prod.mk.inj h1).2.symm⟩)
          rw [hl] at hbi
          have HST := Lib.hid (bstring B0 B0 _ wr hbi.out (Nat.le_of_lt (BIs.lt hbi.out)))
          clear hl
          go_wp2_with (go_at_call 39; refine (HST.out).mono ?_; rintro e w3 ⟨rfl, hbb3⟩)
          go_ret2
          refine ⟨?_, hg.out.1.trans (hbb3.mono hwB), HT.out.stays (hg.out.1.trans (hbb3.mono hwB))⟩
          rw [HEnd.out.2, ← HEnd.out.1]; rfl

theorem join_any (A : Option Addr) (c : Nat) (L : List Tok) (w : World) (hL : L.length ≤ maxLen) (ht : Toks w A L) (hs : ∀ t ∈ L, t.s.length ≤ maxLen) (tb : Tabs w) (T : List UInt8) (er : Int) (hj : joinF L = (T, er)) :
    Calls Tryz.prog 13 #[.slice A L.length c] w (JoinPost w T er) := by
  by_cases h : 200 < L.length
  · rw [joinF, if_pos h] at hj
    obtain ⟨h1, h2⟩ := Prod.mk.inj hj
    subst h1 h2
    exact join_many A c L w hL h tb
  · exact join_go A c L w (by omega) ht hs tb T er hj
end Go.Proofs.YtlmamidodahgmaaGreatDoor

/- LOpen: What an argument that is a slice of tokens, or of bools, reads as. -/
namespace Go.Proofs.YtlmamidodahgmaaGreatDoor
open Go.ChangeShapes Go.WideShapes Go.ChangeAt Go.RowKit Go.Deep
set_option linter.unusedVariables false
set_option maxRecDepth 100000

theorem cell_lt {w : World} {p : Addr} {v : Value} (h : w.cell? p = some v) : p.block < w.heap.size := by
  rcases Nat.lt_or_ge p.block w.heap.size with hl | hl
  · exact hl
  · unfold World.cell? at h
    rw [Array.getElem?_eq_none hl] at h
    simp at h

section
variable {H : Type} {enc : TypeId × Value → H} {W : World} {sp : Nat → Bool} {held : Bool}

theorem tok_cells : Tryz.prog.cellsOf 52 = 3 := by kernel_rfl
theorem u8_cells : Tryz.prog.cellsOf 5 = 1 := by kernel_rfl
theorem str_cells : Tryz.prog.cellsOf 9 = 1 := by kernel_rfl
theorem int_cells : Tryz.prog.cellsOf 3 = 1 := by kernel_rfl
theorem bool_cells : Tryz.prog.cellsOf 4 = 1 := by kernel_rfl

set_option maxRecDepth 100000 in
theorem open_tok {n : Nat} {cs : List Value} {x : DataW H × List MemPlace} (h : DataW.trod enc Tryz.prog W 0 sp held n 52 cs = some x) :
    ∃ (k : Int) (s : ByteArray) (a : Int), cs = [.int .u8 k, .string s, .int .i64 a] ∧ s.size ≤ maxLen := by
  obtain ⟨xs, n', _, _, hlen, hxl, hf⟩ := DataW.trod_struct Tryz.underlying52 h
  rw [tok_cells] at hlen
  match cs, hlen with
  | [c0, c1, c2], _ =>
    have h0 : DataW.trod enc Tryz.prog W 0 sp held n' 5 (([c0, c1, c2].drop 0).take (Tryz.prog.cellsOf 5)) = xs[0]? := hf 0 _ rfl
    have h1 : DataW.trod enc Tryz.prog W 0 sp held n' 9 (([c0, c1, c2].drop 1).take (Tryz.prog.cellsOf 9)) = xs[1]? := hf 1 _ rfl
    have h2 : DataW.trod enc Tryz.prog W 0 sp held n' 3 (([c0, c1, c2].drop 2).take (Tryz.prog.cellsOf 3)) = xs[2]? := hf 2 _ rfl
    simp only [u8_cells, str_cells, int_cells, List.drop_zero, List.drop_succ_cons, List.take_succ_cons, List.take_zero] at h0 h1 h2
    match xs, hxl with
    | [y0, y1, y2], _ =>
      obtain ⟨k, e0, _⟩ := DataW.trod_int Tryz.underlying5 h0
      obtain ⟨s, e1, _, hs⟩ := DataW.trod_string Tryz.underlying9 h1
      obtain ⟨a, e2, _⟩ := DataW.trod_int Tryz.underlying3 h2
      simp only [List.cons.injEq, and_true] at e0 e1 e2
      subst e0 e1 e2
      exact ⟨k, s, a, rfl, hs⟩

theorem toks_of_cells (a : Addr) (len : Nat) (hi : ∀ i, i < len → ∃ (k : Int) (s : ByteArray) (z : Int), s.size ≤ maxLen ∧ W.cell? (a.add (i * 3)) = some (.int .u8 k) ∧ W.cell? (a.add (i * 3 + 1)) = some (.string s) ∧ W.cell? (a.add (i * 3 + 2)) = some (.int .i64 z)) :
    ∃ L : List Tok, L.length = len ∧ Toks W (some a) L ∧ ∀ t ∈ L, t.s.length ≤ maxLen := by
  have key : ∀ m, m ≤ len → ∃ L : List Tok, L.length = m ∧ (∀ j u, (tokCells L)[j]? = some u → W.cell? (a.add j) = some u) ∧ ∀ t ∈ L, t.s.length ≤ maxLen := by
    intro m
    induction m with
    | zero => intro _; exact ⟨[], rfl, by intro j u h; simp [tokCells] at h, by simp⟩
    | succ m ih =>
      intro hm
      obtain ⟨L, hL, hc, hs⟩ := ih (by omega)
      obtain ⟨k, s, z, hsz, c0, c1, c2⟩ := hi m (by omega)
      refine ⟨L ++ [⟨k, s.data.toList, z⟩], by simp [hL], ?_, ?_⟩
      · intro j u h
        rw [tokCells_snoc] at h
        have hl := tokCells_length L
        rw [hL] at hl
        rcases Nat.lt_or_ge j (m * 3) with hj | hj
        · rw [List.getElem?_append_left (by omega)] at h
          exact hc j u h
        · rw [List.getElem?_append_right (by omega), hl] at h
          have hb : bytesOf s.data.toList = s := by apply ByteArray.ext; apply Array.toList_inj.1; rw [bytesOf_list]
          have hj3 : j < m * 3 + 3 := by
            obtain ⟨hx, _⟩ := List.getElem?_eq_some_iff.1 h
            have : (tokC ⟨k, s.data.toList, z⟩).length = 3 := rfl
            omega
          rcases (by omega : j = m * 3 ∨ j = m * 3 + 1 ∨ j = m * 3 + 2) with rfl | rfl | rfl
          · rw [Nat.sub_self] at h
            rw [c0]; exact h
          · rw [show m * 3 + 1 - m * 3 = 1 by omega] at h
            rw [c1, ← hb]; exact h
          · rw [show m * 3 + 2 - m * 3 = 2 by omega] at h
            rw [c2]; exact h
      · intro t ht
        rcases List.mem_append.1 ht with ht | ht
        · exact hs t ht
        · simp only [List.mem_singleton] at ht
          subst ht
          show s.data.toList.length ≤ maxLen
          have : s.data.toList.length = s.size := by simp
          omega
  obtain ⟨L, hL, hc, hs⟩ := key len (Nat.le_refl _)
  refine ⟨L, hL, ?_, hs⟩
  rcases Nat.eq_zero_or_pos len with h0 | h0
  · exact .inl (List.eq_nil_of_length_eq_zero (by omega))
  · obtain ⟨k, s, z, _, c0, _, _⟩ := hi 0 h0
    refine .inr ⟨a, rfl, ?_, hc⟩
    have := cell_lt c0
    rwa [show (a.add (0 * 3)).block = a.block by unfold Addr.add; split <;> rfl] at this

theorem open_toks {r : Reach} {b0 : Nat} {v : Value} {d : DataW H} {ps : List MemPlace} (hval : Value.okWide Tryz.prog W r b0 35 v) (hd : DataW.Trod enc Tryz.prog W 0 (fun _ => true) held 35 v d ps) :
    ∃ (A : Option Addr) (c : Nat) (L : List Tok), v = .slice A L.length c ∧ L.length ≤ maxLen ∧ Toks W A L ∧ ∀ t ∈ L, t.s.length ≤ maxLen := by
  obtain ⟨A, n, c, rfl⟩ := okWide_slice Tryz.underlying35 hval
  obtain ⟨fuel, hf⟩ := hd
  rcases open_slice Tryz.underlying35 hf with ⟨hc, _⟩ | ⟨a, len, cap, m, nn, D, Pl, hc, hb, hl, hm, hmm, hx, hi⟩
  · simp [Value.cells] at hc
    obtain ⟨rfl, rfl, rfl⟩ := hc
    exact ⟨none, 0, [], rfl, Nat.zero_le _, .inl rfl, by simp⟩
  · simp [Value.cells] at hc
    obtain ⟨rfl, rfl, rfl⟩ := hc
    simp only [if_true] at hmm
    subst hmm
    obtain ⟨L, hL, ht, hs⟩ := toks_of_cells (W := W) a n (fun i hin => by
      obtain ⟨cs, hcs, htr⟩ := hi i (by omega)
      rw [tok_cells] at hcs
      obtain ⟨k, s, z, rfl, hsz⟩ := open_tok htr
      obtain ⟨_, _, hat⟩ := World.cells?_some hcs
      have aa : ∀ x y : Nat, (a.add x).add y = a.add (x + y) := fun x y => by unfold Addr.add; by_cases hx : x = 0 <;> by_cases hy : y = 0 <;> simp [hx, hy, Nat.add_assoc]
      have h0 := hat 0 (by decide)
      have h1 := hat 1 (by decide)
      have h2 := hat 2 (by decide)
      rw [aa] at h0 h1 h2
      exact ⟨k, s, z, hsz, h0, h1, h2⟩)
    exact ⟨some a, m, L, by rw [hL], by omega, ht, hs⟩
end
end Go.Proofs.YtlmamidodahgmaaGreatDoor
