/- What a reader of queries keeps in memory; its next token; words that it reads. -/
import Derived.Test.YtlmamidodahgmaaGreatDoorPMath
import Derived.BigQuiet
namespace Go.Proofs.YtlmamidodahgmaaGreatDoor.P9
open Go.ChangeShapes Go.WideShapes Go.ChangeAt Go.RowKit N4 Q8
set_option linter.unusedVariables false
set_option linter.unusedSimpArgs false
set_option maxRecDepth 100000

/-- The reader: its tokens, the place at which it stands, the query. -/
def Rq (w : World) (b : Nat) (V : Value) (i : Nat) (X : List Value) : Prop := w.heap[b]? = some (.cells (V :: .int .i64 i :: X).toArray 69 (0, 0))
section
variable {w w' : World} {b i : Nat} {V : Value} {X : List Value}
theorem Rq.lt (h : Rq w b V i X) : b < w.heap.size := (Array.getElem?_eq_some_iff.1 h).1
theorem Rq.c0 (h : Rq w b V i X) : w.cell? ⟨b, 0, none⟩ = some V := by
  have h' : w.heap[b]? = _ := h
  simp only [World.cell?, h']; rfl
theorem Rq.c1 (h : Rq w b V i X) : w.cell? ⟨b, 1, none⟩ = some (.int .i64 i) := by
  have h' : w.heap[b]? = _ := h
  simp only [World.cell?, h']; rfl
theorem Rq.cx (h : Rq w b V i X) {k : Nat} {v : Value} (hk : X[k]? = some v) : w.cell? ⟨b, k + 2, none⟩ = some v := by
  have h' : w.heap[b]? = _ := h
  simp only [World.cell?, h']
  simpa using hk
theorem Rq.fz (h : Rq w b V i X) (k : Nat) : w.frozen? ⟨b, k, none⟩ = false := by
  have h' : w.heap[b]? = _ := h
  simp only [World.frozen?, h']; rfl
theorem Rq.below (h : Rq w b V i X) (hb : Below w.heap.size w w') : Rq w' b V i X := by
  unfold Rq
  rw [hb.block b h.lt]; exact h
theorem Rq.drewN (h : Rq w b V i X) (n : Nat) : Rq (w.drewN n) b V i X := h.below (bd_drewN w n)
theorem Rq.set1 (h : Rq w b V i X) (j : Nat) : Rq (w.setCell ⟨b, 1, none⟩ (.int .i64 j)) b V j X := by
  unfold Rq at *
  unfold World.setCell
  simp only [Array.getElem?_modify, h]
  rfl
theorem Rq.setX (h : Rq w b V i X) (k : Nat) (u : Value) : Rq (w.setCell ⟨b, k + 2, none⟩ u) b V i (X.set k u) := by
  unfold Rq at *
  unfold World.setCell
  simp only [Array.getElem?_modify, h]
  simp
theorem Rq.of_alloc (hb : w.heap.size = b) : Rq (w.alloc (.cells (V :: .int .i64 i :: X).toArray 69)) b V i X := by
  subst hb
  unfold Rq World.alloc
  simp
end
/-- What stands of another world, but for the reader. -/
def Fr (b : Nat) (F w : World) : Prop := F.heap.size ≤ w.heap.size ∧ ∀ k, k < F.heap.size → k ≠ b → w.heap[k]? = F.heap[k]?
theorem Fr.kp {b : Nat} {F w w' : World} (h : Fr b F w) (k : Kp b w w') : Fr b F w' := ⟨Nat.le_trans h.1 k.size, fun i hi hb => (k.block i (Nat.lt_of_lt_of_le hi h.1) hb).trans (h.2 i hi hb)⟩
theorem Fr.refl (b : Nat) (w : World) : Fr b w w := ⟨Nat.le_refl _, fun _ _ _ => rfl⟩
/-- What stands throughout: the tokens left, what was there before the reader (w0.1), and behind it (w0.2). -/
structure St (w0 : World × World) (L : List Tok) (A : Option Addr) (c b : Nat) (s : List Tok) (X : List Value) (w : World) : Prop where
  suf : s <:+ L
  bl : Below b w0.1 w
  fr : Fr b w0.2 w
  rd : Rq w b (.slice A L.length c) (L.length - s.length) X
section
variable {w0 : World × World} {w w' : World} {L s s' : List Tok} {A : Option Addr} {c b : Nat} {X X' : List Value}
theorem St.below (h : St w0 L A c b s X w) (hb : Below w.heap.size w w') : St w0 L A c b s X w' := ⟨h.suf, h.bl.trans (hb.mono (Nat.le_of_lt h.rd.lt)), h.fr.kp (Kp.of_below hb), h.rd.below hb⟩
theorem St.drewN (h : St w0 L A c b s X w) (n : Nat) : St w0 L A c b s X (w.drewN n) := h.below (bd_drewN w n)
theorem St.toks (h : St w0 L A c b s X w) (f : Fx w0.1 L A c b) : Toks w A L := f.toks.below (f.base.symm ▸ h.bl)
theorem St.tabs (h : St w0 L A c b s X w) (f : Fx w0.1 L A c b) : Tab5 w := f.tabs.stays (f.base.symm ▸ h.bl)
theorem St.kp (h : St w0 L A c b s X w) (k : Kp b w w') (hs : s' <:+ L) (hr : Rq w' b (.slice A L.length c) (L.length - s'.length) X') : St w0 L A c b s' X' w' := ⟨hs, k.below h.bl (Nat.le_of_lt h.rd.lt), h.fr.kp k, hr⟩
end

/-! ### the next token -/
theorem next_q (w0 : World × World) (L : List Tok) (A : Option Addr) (c b : Nat) (s : List Tok) (X : List Value) (w : World) (f : Fx w0.1 L A c b) (h : St w0 L A c b s X w) :
    Calls Tryz.prog 102 #[.pointer (some ⟨b, 0, none⟩)] w fun e w' => e = .returned (.string (bytesOf (txt s))) ∧ ∃ n, w' = w.drewN n := by
  have hl := f.len
  cases s with
  | nil =>
    have h0 := h.rd.c0
    have h1 := h.rd.c1
    have hlt := h.rd.lt
    rw [show L.length - ([] : List Tok).length = L.length by simp] at h1
    generalize L.length = n at h0 h1 hl
    clear h f
    go_enter Tryz.func102, Tryz.ntmps102
    go_wp2
    go_quiet (fail)
    go_wp2
    go_ret
    exact ⟨rfl, _, rfl⟩
  | cons x s =>
    obtain ⟨hx, hi⟩ := suf_at h.suf
    have h0 := h.rd.c0
    have h1 := h.rd.c1
    have hlt := h.rd.lt
    have hle := h.suf.length_le
    have ht := h.toks f
    obtain ⟨ad, rfl, hcc⟩ : ∃ ad, A = some ad ∧ TokAt w ad (L.length - (x :: s).length) x := by
      obtain ⟨ad, t, k1, k2, k3⟩ := ht.at_ _ (List.getElem?_eq_some_iff.1 hx).1
      have k4 : t = x := Option.some.inj (k3.symm.trans hx)
      exact ⟨ad, k1, k4 ▸ k2⟩
    generalize L.length - (x :: s).length = i at h1 hi hcc
    have hin : i < L.length := by simp at hle hi; omega
    generalize L.length = n at h0 h1 hl hin
    obtain ⟨hc1, hc2, hc3⟩ := hcc
    clear h f ht hx hi hle
    go_enter Tryz.func102, Tryz.ntmps102
    have hne : ¬ ((i : Int) = (n : Int)) := by omega
    go_wp2
    go_quiet (fail)
    go_wp2
    go_quiet (fail)
    go_wp2
    go_ret
    exact ⟨rfl, _, World.drewN_drewN _ _ _⟩
theorem str_ne {S T : List UInt8} (h : S ≠ T) : ((bytesOf S).toList == (bytesOf T).toList) = false ∧ ((bytesOf S).toList != (bytesOf T).toList) = true := by
  rw [bytesOf_toList, bytesOf_toList]
  exact ⟨by simpa using h, by simpa using h⟩
theorem str_eq (T : List UInt8) : ((bytesOf T).toList == (bytesOf T).toList) = true ∧ ((bytesOf T).toList != (bytesOf T).toList) = false := by
  constructor <;> simp
theorem tail_suf {x : Tok} {s L : List Tok} (h : x :: s <:+ L) : s <:+ L := (List.suffix_cons x s).trans h
theorem skip_no (w0 : World × World) (L : List Tok) (A : Option Addr) (c b : Nat) (s : List Tok) (X : List Value) (w : World) (f : Fx w0.1 L A c b) (h : St w0 L A c b s X w) (T : List UInt8) (hT : txt s ≠ T) :
    Calls Tryz.prog 87 #[.pointer (some ⟨b, 0, none⟩), .string (bytesOf T)] w fun e w' => e = .returned (.bool false) ∧ ∃ n, w' = w.drewN n := by
  have HN := Lib.hid (next_q w0 L A c b s X w f h)
  obtain ⟨h1, h2⟩ := str_ne hT
  clear f h hT
  go_enter Tryz.func87, Tryz.ntmps87
  go_wp2_with (go_at_call 102; refine HN.out.mono ?_; rintro e w2 ⟨rfl, n, rfl⟩)
  go_ret
  exact ⟨rfl, _, rfl⟩
theorem Rq.inc {w : World} {b i : Nat} {V : Value} {X : List Value} (h : Rq w b V i X) : Rq (w.setCell ⟨b, 1, none⟩ (.int .i64 ((i : Int) + 1))) b V (i + 1) X := by
  have := h.set1 (i + 1)
  rwa [show (((i + 1 : Nat) : Int)) = (i : Int) + 1 by omega] at this
/-- One token on. -/
theorem St.inc {w0 : World × World} {L : List Tok} {A : Option Addr} {c b : Nat} {x : Tok} {s : List Tok} {X : List Value} {w : World} (h : St w0 L A c b (x :: s) X w) {i : Nat} (hi : L.length - (x :: s).length = i) :
    Kp b w (w.setCell ⟨b, 1, none⟩ (.int .i64 ((i : Int) + 1))) ∧ St w0 L A c b s X (w.setCell ⟨b, 1, none⟩ (.int .i64 ((i : Int) + 1))) := by
  refine ⟨Kp.set _ _ _ _, h.kp (Kp.set _ _ _ _) (tail_suf h.suf) ?_⟩
  have h2 := (suf_at h.suf).2
  rw [← h2, hi]
  have := h.rd
  rw [hi] at this
  exact this.inc
theorem skip_yes (w0 : World × World) (L : List Tok) (A : Option Addr) (c b : Nat) (x : Tok) (s : List Tok) (X : List Value) (w : World) (f : Fx w0.1 L A c b) (h : St w0 L A c b (x :: s) X w) (T : List UInt8) (hT : x.s = T) :
    Calls Tryz.prog 87 #[.pointer (some ⟨b, 0, none⟩), .string (bytesOf T)] w fun e w' => e = .returned (.bool true) ∧ Kp b w w' ∧ St w0 L A c b s X w' := by
  subst hT
  have HN := Lib.hid (next_q w0 L A c b (x :: s) X w f h)
  have h1 := h.rd.c1
  have hlt := h.rd.lt
  have hf := h.rd.fz 1
  have hl := f.len
  obtain ⟨g1, g2⟩ := str_eq x.s
  rw [show txt (x :: s) = x.s from rfl] at HN
  have hle := h.suf.length_le
  obtain ⟨i, hii⟩ : ∃ i, L.length - (x :: s).length = i := ⟨_, rfl⟩
  have HE := Lib.hid (fun n => (h.drewN n).inc hii)
  rw [hii] at h1
  have hi2 : i < 200 := by simp at hle hii; omega
  clear f h hii hle hl
  go_enter Tryz.func87, Tryz.ntmps87
  go_wp2_with (go_at_call 102; refine HN.out.mono ?_; rintro e w2 ⟨rfl, n, rfl⟩)
  go_ret
  exact ⟨rfl, (Kp.drewN _ _ _).trans (HE.out n).1, (HE.out n).2⟩

/-! ### words one behind the other -/
def expR : List (List UInt8) → List Tok → Bool × List Tok
  | [], s => (true, s)
  | T :: r, s => if txt s = T then expR r s.tail else (false, s)
theorem expP_R (q : Qy) : ∀ (Ts : List (List UInt8)) (s : List Tok), expP Ts q s = if (expR Ts s).1 = true then .ok q (expR Ts s).2 else .er 12 (expR Ts s).2 := by
  intro Ts
  induction Ts with
  | nil => intro s; rfl
  | cons T Ts ih =>
    intro s
    rw [expP, expR]
    split
    · exact ih _
    · rfl
theorem expR_suf : ∀ (Ts : List (List UInt8)) (s : List Tok), (expR Ts s).2 <:+ s := by
  intro Ts
  induction Ts with
  | nil => intro s; exact List.suffix_refl _
  | cons T Ts ih =>
    intro s
    rw [expR]
    split
    · exact (ih _).trans (List.tail_suffix s)
    · exact List.suffix_refl _
def strC (Ts : List (List UInt8)) : List Value := Ts.map fun T => .string (bytesOf T)
theorem strC_at {Ts : List (List UInt8)} {k : Nat} (hk : k < Ts.length) : (strC Ts)[k]? = some (.string (bytesOf Ts[k])) := by simp [strC, List.getElem?_map, List.getElem?_eq_getElem hk]
def codeR (b : Bool) : Int := if b = true then 0 else 12
set_option maxHeartbeats 1000000 in
theorem expect_q (w0 : World × World) (L : List Tok) (A : Option Addr) (c b : Nat) (s : List Tok) (X : List Value) (w : World) (f : Fx w0.1 L A c b) (h : St w0 L A c b s X w)
    (Ts : List (List UInt8)) (hT : ∀ T ∈ Ts, T ≠ []) (A2 : Option Addr) (n c2 : Nat) (hn : Ts.length = n) (hn2 : n ≤ 100) (hl : Lies w A2 (strC Ts)) (ha : ∀ a, A2 = some a → a.block ≠ b) :
    Calls Tryz.prog 83 #[.pointer (some ⟨b, 0, none⟩), .slice A2 n c2] w fun e w' => e = .returned (.int .i64 (codeR (expR Ts s).1)) ∧ Kp b w w' ∧ St w0 L A c b (expR Ts s).2 X w' := by
  obtain ⟨R, hR⟩ : ∃ R, expR Ts s = R := ⟨_, rfl⟩
  rw [hR]
  have HF := Lib.hid f
  have HL := Lib.hid (fun (W : World) (k : Kp b w W) => k.lies hl (fun a h _ => ha a h))
  have HN := Lib.hid hn
  have HT := Lib.hid hT
  have HS0 := Lib.hid h
  have HR0 := Lib.hid (show expR (Ts.drop 0) s = R from hR)
  clear f h hT hn hl ha hR
  go_enter Tryz.func83, Tryz.ntmps83
  go_wp2
  go_loopw [9] (fun i wr => ∃ (k : Nat) (sk : List Tok), k ≤ n ∧ i = .int .i64 k ∧ Hid (expR (Ts.drop k) sk = R) ∧ Hid (Kp b w wr) ∧ Hid (St w0 L A c b sk X wr)) (fun i _ => n - (intOf i).toNat)
  case atStart => exact ⟨0, s, Nat.zero_le _, rfl, HR0, Kp.refl _ _, HS0⟩
  case round =>
    clear HR0 HS0
    obtain ⟨k, sk, hk, rfl, HR, HK, HS⟩ := hrel
    by_cases hlt : k < n
    · have hkl : k < Ts.length := by rw [HN.out]; exact hlt
      obtain ⟨ad, rfl, hadl, c0⟩ := (HL.out wr HK.out).one (strC_at hkl)
      have hab : (ad.add k).block < wr.heap.size := by rw [add_block]; exact hadl
      have hd : Ts.drop k = Ts[k] :: Ts.drop (k + 1) := List.drop_eq_getElem_cons hkl
      have hne := HT.out Ts[k] (List.getElem_mem hkl)
      have hR := HR.out
      rw [hd, expR] at hR
      generalize Ts[k] = T at c0 hR hne
      clear hd hkl hadl HR
      by_cases ht : txt sk = T
      · rw [if_pos ht] at hR
        obtain ⟨x, hs, hx⟩ := txt_cons ht hne
        have HR' := Lib.hid hR
        have HY := Lib.hid (skip_yes w0 L A c b x sk.tail X wr HF.out (hs ▸ HS.out) T hx)
        clear hR hs hx ht hne
        go_wp2_with (go_at_call 87; refine HY.out.mono ?_; rintro e w2 ⟨rfl, hk2, hs2⟩; have HK2 := Lib.hid (HK.out.trans hk2); have HS2 := Lib.hid hs2; clear hk2 hs2)
        go_roundw
        case rel => exact ⟨k + 1, sk.tail, by omega, by go_num, HR', HK2, HS2⟩
        case measure => simp [intOf]; omega
      · rw [if_neg ht] at hR
        have HY := Lib.hid (skip_no w0 L A c b sk X wr HF.out HS.out T ht)
        have HE := Lib.hid hR
        clear hR ht hne
        go_wp2_with (go_at_call 87; refine HY.out.mono ?_; rintro e w2 ⟨rfl, m, rfl⟩)
        go_ret
        rw [← HE.out]
        exact ⟨rfl, HK.out.trans (Kp.drewN _ _ _), HS.out.drewN _⟩
    · obtain rfl : n = k := by omega
      have HE := Lib.hid (show (true, sk) = R by have := HR.out; rwa [List.drop_of_length_le (by rw [HN.out]; exact Nat.le_refl _)] at this)
      go_wp2
      go_ret
      rw [← HE.out]
      exact ⟨rfl, HK.out, HS.out⟩

/-! ### which of some words -/
def idxI (o : Option Nat) : Int := match o with
  | some i => i
  | none => -1
theorem idx_drop (T : List UInt8) : ∀ (k : Nat) (Ts : List (List UInt8)), (∀ x ∈ Ts.take k, x ≠ T) → idxOf T Ts = (idxOf T (Ts.drop k)).map (· + k) := by
  intro k
  induction k with
  | zero => intro Ts _; simp
  | succ k ih =>
    intro Ts h
    cases Ts with
    | nil => rfl
    | cons x Ts =>
      rw [idxOf, if_neg (h x (by simp)), ih Ts (fun y hy => h y (by simp [hy])), List.drop_succ_cons, Option.map_map]
      congr 1
theorem index_q (Ts : List (List UInt8)) (A2 : Option Addr) (n c2 : Nat) (w : World) (hn : Ts.length = n) (hn2 : n ≤ 100) (hl : Lies w A2 (strC Ts)) (T : List UInt8) :
    Calls Tryz.prog 101 #[.slice A2 n c2, .string (bytesOf T)] w fun e w' => e = .returned (.int .i64 (idxI (idxOf T Ts))) ∧ w = w' := by
  have HL := Lib.hid hl
  have HN := Lib.hid hn
  clear hl hn
  go_enter Tryz.func101, Tryz.ntmps101
  go_wp2
  go_loop [8] (fun i => ∃ k : Nat, k ≤ n ∧ i = .int .i64 k ∧ Hid (∀ x ∈ Ts.take k, x ≠ T)) (fun i => n - (intOf i).toNat)
  case atStart => exact ⟨0, Nat.zero_le _, rfl, Lib.hid (by simp)⟩
  case round =>
    obtain ⟨k, hk, rfl, HD⟩ := hrel
    by_cases hlt : k < n
    · have hkl : k < Ts.length := by rw [HN.out]; exact hlt
      obtain ⟨ad, rfl, hadl, c0⟩ := HL.out.one (strC_at hkl)
      have hab : (ad.add k).block < w.heap.size := by rw [add_block]; exact hadl
      have hd : Ts.drop k = Ts[k] :: Ts.drop (k + 1) := List.drop_eq_getElem_cons hkl
      have HI := Lib.hid (idx_drop T k Ts HD.out)
      have HT := Lib.hid (show Ts.take (k + 1) = Ts.take k ++ [Ts[k]] from List.take_succ_eq_append_getElem hkl)
      rw [hd, idxOf] at HI
      generalize Ts[k] = S at c0 HI HT
      clear hd hkl hadl
      have j1 : (0 : Int) ≤ k := by omega
      have j2 : (k : Int) < n := by omega
      by_cases ht : S = T
      · subst ht
        have HE := Lib.hid (show ((k : Nat) : Int) = idxI (idxOf S Ts) by rw [HI.out, if_pos rfl]; simp [idxI])
        obtain ⟨g1, g2⟩ := str_eq S
        go_wp2
        go_ret
        exact ⟨ret_int' HE.out, rfl⟩
      · have HD' := Lib.hid (show ∀ x ∈ Ts.take (k + 1), x ≠ T by
          rw [HT.out]
          intro x hx
          rcases List.mem_append.1 hx with hx | hx
          · exact HD.out x hx
          · rw [List.mem_singleton.1 hx]; exact ht)
        obtain ⟨g1, g2⟩ := str_ne (Ne.symm ht)
        clear ht
        go_wp2
        go_round
        case rel => exact ⟨k + 1, by omega, by go_num, HD'⟩
        case measure => simp [intOf]; omega
    · obtain rfl : n = k := by omega
      have HE := Lib.hid (show (-1 : Int) = idxI (idxOf T Ts) by
        have := idx_drop T n Ts HD.out
        rw [List.drop_of_length_le (by rw [HN.out]; exact Nat.le_refl _)] at this
        rw [this]; rfl)
      go_wp2
      go_ret
      exact ⟨ret_int' HE.out, rfl⟩
def chV (o : Option Nat) : Int := match o with
  | some i => i
  | none => 0
def chE (o : Option Nat) : Int := match o with
  | some _ => 0
  | none => 12
theorem choice_q (w0 : World × World) (L : List Tok) (A : Option Addr) (c b : Nat) (s : List Tok) (X : List Value) (w : World) (f : Fx w0.1 L A c b) (h : St w0 L A c b s X w)
    (Ts : List (List UInt8)) (A2 : Option Addr) (n c2 : Nat) (hn : Ts.length = n) (hn2 : n ≤ 100) (hl : Lies w A2 (strC Ts)) :
    Calls Tryz.prog 84 #[.pointer (some ⟨b, 0, none⟩), .slice A2 n c2] w fun e w' => e = .returned (.tuple #[.int .u8 (chV (idxOf (txt s) Ts)), .int .i64 (chE (idxOf (txt s) Ts))]) ∧ ∃ m, w' = w.drewN m := by
  have HN := Lib.hid (next_q w0 L A c b s X w f h)
  have HI := Lib.hid (fun m => index_q Ts A2 n c2 (w.drewN m) hn hn2 (hl.below (bd_drewN w m)) (txt s))
  have hlen := hn ▸ (fun i (hi : idxOf (txt s) Ts = some i) => (List.getElem?_eq_some_iff.1 (idx_some hi)).1)
  cases ho : idxOf (txt s) Ts with
  | none =>
    rw [ho] at HI
    have HI' := Lib.hid (fun m => show Calls Tryz.prog 101 #[.slice A2 n c2, .string (bytesOf (txt s))] (w.drewN m) fun e w' => e = .returned (.int .i64 (-1)) ∧ w.drewN m = w' from HI.out m)
    clear f h hn hl hlen ho HI
    go_enter Tryz.func84, Tryz.ntmps84
    go_wp2_with (first
      | (go_at_call 102; refine HN.out.mono ?_; rintro e w2 ⟨rfl, m, rfl⟩)
      | (go_at_call 101; refine (HI'.out _).mono ?_; rintro e w3 ⟨rfl, rfl⟩))
    go_ret2
    exact ⟨rfl, _, rfl⟩
  | some i =>
    rw [ho] at HI
    have hi := hlen i ho
    have HI' := Lib.hid (fun m => show Calls Tryz.prog 101 #[.slice A2 n c2, .string (bytesOf (txt s))] (w.drewN m) fun e w' => e = .returned (.int .i64 i) ∧ w.drewN m = w' from HI.out m)
    have h0 : ¬ ((i : Int) < 0) := by omega
    have h1 : (i : Int) < 256 := by omega
    clear f h hn hl hlen ho HI
    go_enter Tryz.func84, Tryz.ntmps84
    go_wp2_with (first
      | (go_at_call 102; refine HN.out.mono ?_; rintro e w2 ⟨rfl, m, rfl⟩)
      | (go_at_call 101; refine (HI'.out _).mono ?_; rintro e w3 ⟨rfl, rfl⟩))
    go_ret2
    exact ⟨rfl, _, rfl⟩
end Go.Proofs.YtlmamidodahgmaaGreatDoor.P9
