/- A reader's windows. -/
import Derived.Test.YtlmamidodahgmaaGreatDoorPParts
namespace Go.Proofs.YtlmamidodahgmaaGreatDoor.P9
open Go.ChangeShapes Go.WideShapes Go.ChangeAt Go.RowKit N4 Q8
set_option linter.unusedVariables false
set_option linter.unusedSimpArgs false
set_option maxRecDepth 100000

theorem iread_ok (T : List UInt8) (w : World) (hs : T.length ≤ maxLen) (h : rdErr T = 0) :
    Calls Tryz.prog 54 #[.string (bytesOf T)] w fun e w' => e = .returned (.tuple #[.int .i64 (val T : Nat), .int .i64 0]) ∧ w = w' := by
  unfold rdErr at h
  split at h
  · rename_i hf
    have hd := read_dig (bytesOf T) w (by rw [bytesOf_size]; exact hs) (by rw [bytesOf_list]; exact hf)
    rw [bytesOf_list] at hd
    have he : val T ≤ 9223372036854775807 := by
      unfold rdE at h
      split at h
      · assumption
      · omega
    rw [show rdN T = ((val T : Nat) : Int) by rw [rdN, if_pos he], h] at hd
    exact hd
  · omega
theorem iread_no (T : List UInt8) (w : World) (hs : T.length ≤ maxLen) : ∃ x : Int,
    Calls Tryz.prog 54 #[.string (bytesOf T)] w fun e w' => e = .returned (.tuple #[.int .i64 x, .int .i64 (rdErr T)]) ∧ w = w' := by
  have := iread_any (bytesOf T) w (by rw [bytesOf_size]; exact hs)
  rwa [bytesOf_list] at this
theorem val_max {T : List UInt8} (h : rdErr T = 0) : (val T : Nat) ≤ 9223372036854775807 := by
  unfold rdErr at h
  split at h
  · unfold rdE at h
    split at h
    · assumption
    · omega
  · omega
/-- The windows that 'size' asks for. -/
theorem size1_q (n : Int) (w : World) : Calls Tryz.prog 106 #[.int .i64 n] w fun e w' => e = .returned (.agg #[.int .u8 1, .int .i64 n, .int .i64 0]) ∧ Below w.heap.size w w' := by
  go_enter Tryz.func106, Tryz.ntmps106
  go_wp2
  refine bodyPost_ret (v := .agg #[.int .u8 1, .int .i64 n, .int .i64 0]) (by simp [results, Tryz.results106, go_sem]) rfl ?_
  refine ⟨rfl, ?_⟩
  repeat (first | exact Below.refl _ _ | refine Below.setCell ?_ (by simp) _ | refine Below.alloc ?_ (by simp) _)
theorem every1_q (n k s : Int) (g : Nat) (w : World) (hg : g < w.heap.size) (h0 : w.cell? ⟨g, 0, none⟩ = some (.int .u8 k)) (h1 : w.cell? ⟨g, 1, none⟩ = some (.int .i64 s)) :
    Calls Tryz.prog 107 #[.int .i64 n, .pointer (some ⟨g, 0, none⟩)] w fun e w' => e = .returned (.agg #[.int .u8 k, .int .i64 s, .int .i64 n]) ∧ Below w.heap.size w w' := by
  go_enter Tryz.func107, Tryz.ntmps107
  go_wp2
  refine bodyPost_ret (v := .agg #[.int .u8 k, .int .i64 s, .int .i64 n]) (by simp [results, Tryz.results107, go_sem]) rfl ?_
  refine ⟨rfl, ?_⟩
  repeat (first | exact Below.refl _ _ | refine Below.setCell ?_ (by simp) _ | refine Below.alloc ?_ (by simp) _)
/-- What 'number' leaves: the slices stay. -/
def NMem (w0 : World × World) (L : List Tok) (A : Option Addr) (c b : Nat) (VA VS VB : Value) (q : Qy) (B : Nat) (r : PR) (w' : World) : Prop :=
  match r with
  | .ok q' s => PQ w0 L A c b s VA VS VB q' B w'
  | .er v s => v ≠ 0 ∧ PQ w0 L A c b s VA VS VB q B w'
section
variable (w0 : World × World) (L : List Tok) (A : Option Addr) (c b : Nat)
theorem num_er {f : Int → Int × Int × Int} {q : Qy} {s s' : List Tok} {v : Int} (h : numP f q s = .er v s') : v ≠ 0 := by
  unfold numP at h
  split at h
  · split at h
    · cases h
    · injection h with h _; omega
  · injection h with h _; omega
theorem PQ.win {w0 : World × World} {w : World} {L s : List Tok} {A : Option Addr} {c b : Nat} {VA VS VB : Value} {q : Qy} {B : Nat} (h : PQ w0 L A c b s VA VS VB q B w) (k z v : Int) :
    PQ w0 L A c b s VA VS VB { q with k := k, s := z, v := v } B (((w.setCell ⟨b, 7, none⟩ (.int .u8 k)).setCell ⟨b, 8, none⟩ (.int .i64 z)).setCell ⟨b, 9, none⟩ (.int .i64 v)) := by
  have h1 : PQ w0 L A c b s VA VS VB { q with k := k } B (w.setCell ⟨b, 7, none⟩ (.int .u8 k)) := h.kp (q' := { q with k := k }) (Kp.set _ _ _ _) h.st.suf (h.st.rd.setX 5 _) rfl rfl rfl
  have h2 : PQ w0 L A c b s VA VS VB { q with k := k, s := z } B ((w.setCell ⟨b, 7, none⟩ (.int .u8 k)).setCell ⟨b, 8, none⟩ (.int .i64 z)) := h1.kp (q' := { q with k := k, s := z }) (Kp.set _ _ _ _) h1.st.suf (h1.st.rd.setX 6 _) rfl rfl rfl
  exact h2.kp (q' := { q with k := k, s := z, v := v }) (Kp.set _ _ _ _) h2.st.suf (h2.st.rd.setX 7 _) rfl rfl rfl
set_option maxHeartbeats 4000000 in
theorem number1_q (s : List Tok) (VA VS VB : Value) (q : Qy) (B : Nat) (w : World) (G : Gx w0 L A c b) (h : PQ w0 L A c b s VA VS VB q B w) :
    Calls Tryz.prog 105 #[.pointer (some ⟨b, 0, none⟩), .func (.func 106) #[] #[]] w fun e w' => e = .returned (.int .i64 (codeP (numP (fun n => (1, n, 0)) q s))) ∧ NMem w0 L A c b VA VS VB q B (numP (fun n => (1, n, 0)) q s) w' := by
  have f := G.fx
  have HN := Lib.hid (next_q w0 L A c b s _ w f h.st)
  have HP := Lib.hid h
  have hts : (txt s).length ≤ maxLen := by
    cases s with
    | nil => simp [txt, maxLen]
    | cons x s => exact (f.ok x (h.st.suf.subset List.mem_cons_self)).2
  unfold numP
  by_cases he : rdErr (txt s) = 0
  · rw [if_pos he]
    have HR := Lib.hid (fun W => iread_ok (txt s) W hts he)
    have hm := val_max he
    obtain ⟨x, hsx, hxs⟩ := txt_cons (s := s) rfl (fun e => by rw [e] at he; revert he; decide)
    have HSE := Lib.hid hsx
    obtain ⟨n, hn⟩ : ∃ n : Int, ((val (txt s) : Nat) : Int) = n := ⟨_, rfl⟩
    rw [hn] at HR ⊢
    have hm' : n ≤ 9223372036854775807 := by omega
    simp only
    clear hsx hxs he hts hn hm
    have HS1 := Lib.hid (fun W => size1_q n W)
    have HW := Lib.hid (fun W => win_any 1 n 0 W (by omega) _ rfl)
    by_cases hw : winE 1 n 0 = 0
    · rw [if_pos hw]
      rw [hw] at HW
      obtain ⟨m, hm⟩ : ∃ m, L.length - s.length = m := ⟨_, rfl⟩
      have HI := Lib.hid hm
      have hm2 : m < 201 := by have := f.len; omega
      clear hm hw f h
      go_enter Tryz.func105, Tryz.ntmps105
      go_wp2_with (first
        | (go_at_call 102; refine HN.out.mono ?_; rintro e w2 ⟨rfl, kk, rfl⟩; have HP2 := Lib.hid (HP.out.drewN kk); clear HN)
        | (go_at_call 54; refine (HR.out _).mono ?_; rintro e w3 ⟨rfl, rfl⟩)
        | (go_at_call 106; refine (HS1.out _).mono ?_; rintro e w4 ⟨rfl, hb⟩; have HP4 := Lib.hid (HP2.out.below hb); clear hb)
        | (go_at_call 69; refine (HW.out _).mono ?_; rintro e w5 ⟨rfl, hb⟩
           have k0 : w5.cell? ⟨w4.heap.size, 0, none⟩ = some (.int .u8 1) := by rw [hb.cell (p := ⟨w4.heap.size, 0, none⟩) (by simp)]; go_simp
           have k1 : w5.cell? ⟨w4.heap.size, 1, none⟩ = some (.int .i64 n) := by rw [hb.cell (p := ⟨w4.heap.size, 1, none⟩) (by simp)]; go_simp
           have k2 : w5.cell? ⟨w4.heap.size, 2, none⟩ = some (.int .i64 0) := by rw [hb.cell (p := ⟨w4.heap.size, 2, none⟩) (by simp)]; go_simp
           have z5 : w4.heap.size < w5.heap.size := by have := hb.size; simp at this; omega
           have HP5 := Lib.hid ((HP4.out.below ((Below.refl _ _).alloc (Nat.le_refl _) _)).below hb)
           have nb : b ≠ w4.heap.size := by have := HP4.out.st.rd.lt; omega
           have nb' : w4.heap.size ≠ b := Ne.symm nb
           clear hb
           obtain ⟨l5, _, d1, _, _, _, _, _, d7, d8, d9, _⟩ := HP5.out.cells
           rw [HI.out] at d1
           have f1 := HP5.out.st.rd.fz 1
           have f7 := HP5.out.st.rd.fz 7
           have f8 := HP5.out.st.rd.fz 8
           have f9 := HP5.out.st.rd.fz 9))
      go_ret
      exact ⟨rfl, (HP5.out.inc HSE.out HI.out).2.win _ _ _⟩
    · rw [if_neg hw]
      have hvb := errno_ne hw
      obtain ⟨m, hm⟩ : ∃ m, winE 1 n 0 = m := ⟨_, rfl⟩
      rw [hm] at hvb HW
      clear hm hw f h
      go_enter Tryz.func105, Tryz.ntmps105
      go_wp2_with (first
        | (go_at_call 102; refine HN.out.mono ?_; rintro e w2 ⟨rfl, kk, rfl⟩; have HP2 := Lib.hid (HP.out.drewN kk); clear HN)
        | (go_at_call 54; refine (HR.out _).mono ?_; rintro e w3 ⟨rfl, rfl⟩)
        | (go_at_call 106; refine (HS1.out _).mono ?_; rintro e w4 ⟨rfl, hb⟩; have HP4 := Lib.hid (HP2.out.below hb); clear hb)
        | (go_at_call 69; refine (HW.out _).mono ?_; rintro e w5 ⟨rfl, hb⟩; have HP5 := Lib.hid ((HP4.out.below ((Below.refl _ _).alloc (Nat.le_refl _) _)).below hb); clear hb))
      go_ret
      exact ⟨rfl, by decide, HP5.out⟩
  · rw [if_neg he]
    have hvb := errno_ne he
    obtain ⟨x, hR⟩ : ∃ x : Int, ∀ W, Calls Tryz.prog 54 #[.string (bytesOf (txt s))] W fun e w' => e = .returned (.tuple #[.int .i64 x, .int .i64 (rdErr (txt s))]) ∧ W = w' := by
      have key := iread_no (txt s)
      by_cases hf : (allDig (txt s) && !(txt s).isEmpty) = true
      · refine ⟨rdN (txt s), fun W => ?_⟩
        have hd := read_dig (bytesOf (txt s)) W (by rw [bytesOf_size]; exact hts) (by rw [bytesOf_list]; exact hf)
        rw [bytesOf_list] at hd
        rwa [rdErr, if_pos hf]
      · refine ⟨0, fun W => ?_⟩
        have hd := read_form (bytesOf (txt s)) W (by rw [bytesOf_size]; exact hts) (by rw [bytesOf_list]; simpa using hf)
        rwa [rdErr, if_neg hf]
    have HR := Lib.hid hR
    clear he hR hts f h
    generalize rdErr (txt s) = v at HR hvb
    go_enter Tryz.func105, Tryz.ntmps105
    go_wp2_with (first
      | (go_at_call 102; refine HN.out.mono ?_; rintro e w2 ⟨rfl, kk, rfl⟩; have HP2 := Lib.hid (HP.out.drewN kk); clear HN)
      | (go_at_call 54; refine (HR.out _).mono ?_; rintro e w3 ⟨rfl, rfl⟩))
    go_ret
    exact ⟨rfl, by decide, HP2.out⟩
set_option maxHeartbeats 4000000 in
theorem number2_q (s : List Tok) (VA VS VB : Value) (q : Qy) (B : Nat) (w : World) (G : Gx w0 L A c b) (h : PQ w0 L A c b s VA VS VB q B w) (g : Nat) (ka za : Int) (hg : g < w.heap.size) (hg0 : w.cell? ⟨g, 0, none⟩ = some (.int .u8 ka)) (hg1 : w.cell? ⟨g, 1, none⟩ = some (.int .i64 za)) (hza : za ≤ 9223372036854775807) :
    Calls Tryz.prog 105 #[.pointer (some ⟨b, 0, none⟩), .func (.func 107) #[] #[.pointer (some ⟨g, 0, none⟩)]] w fun e w' => e = .returned (.int .i64 (codeP (numP (fun n => (ka, za, n)) q s))) ∧ NMem w0 L A c b VA VS VB q B (numP (fun n => (ka, za, n)) q s) w' := by
  have f := G.fx
  have HN := Lib.hid (next_q w0 L A c b s _ w f h.st)
  have HP := Lib.hid h
  have HG := Lib.hid (And.intro hg (And.intro hg0 hg1))
  clear hg hg0 hg1
  have hts : (txt s).length ≤ maxLen := by
    cases s with
    | nil => simp [txt, maxLen]
    | cons x s => exact (f.ok x (h.st.suf.subset List.mem_cons_self)).2
  unfold numP
  by_cases he : rdErr (txt s) = 0
  · rw [if_pos he]
    have HR := Lib.hid (fun W => iread_ok (txt s) W hts he)
    have hm := val_max he
    obtain ⟨x, hsx, hxs⟩ := txt_cons (s := s) rfl (fun e => by rw [e] at he; revert he; decide)
    have HSE := Lib.hid hsx
    obtain ⟨n, hn⟩ : ∃ n : Int, ((val (txt s) : Nat) : Int) = n := ⟨_, rfl⟩
    rw [hn] at HR ⊢
    have hm' : n ≤ 9223372036854775807 := by omega
    simp only
    clear hsx hxs he hts hn hm
    have HS1 := Lib.hid (fun W (hb : Below w.heap.size w W) => every1_q n ka za g W (Nat.lt_of_lt_of_le HG.out.1 hb.size) (by rw [hb.cell (p := ⟨g, 0, none⟩) HG.out.1]; exact HG.out.2.1) (by rw [hb.cell (p := ⟨g, 1, none⟩) HG.out.1]; exact HG.out.2.2))
    have HW := Lib.hid (fun W => win_any ka za n W (by omega) _ rfl)
    by_cases hw : winE ka za n = 0
    · rw [if_pos hw]
      rw [hw] at HW
      obtain ⟨m, hm⟩ : ∃ m, L.length - s.length = m := ⟨_, rfl⟩
      have HI := Lib.hid hm
      have hm2 : m < 201 := by have := f.len; omega
      clear hm hw f h
      go_enter Tryz.func105, Tryz.ntmps105
      go_wp2_with (first
        | (go_at_call 102; refine HN.out.mono ?_; rintro e w2 ⟨rfl, kk, rfl⟩; have HP2 := Lib.hid (HP.out.drewN kk); clear HN)
        | (go_at_call 54; refine (HR.out _).mono ?_; rintro e w3 ⟨rfl, rfl⟩)
        | (go_at_call 107; refine (HS1.out _ (bd_drewN _ _)).mono ?_; rintro e w4 ⟨rfl, hb⟩; have HP4 := Lib.hid (HP2.out.below hb); clear hb)
        | (go_at_call 69; refine (HW.out _).mono ?_; rintro e w5 ⟨rfl, hb⟩
           have k0 : w5.cell? ⟨w4.heap.size, 0, none⟩ = some (.int .u8 ka) := by rw [hb.cell (p := ⟨w4.heap.size, 0, none⟩) (by simp)]; go_simp
           have k1 : w5.cell? ⟨w4.heap.size, 1, none⟩ = some (.int .i64 za) := by rw [hb.cell (p := ⟨w4.heap.size, 1, none⟩) (by simp)]; go_simp
           have k2 : w5.cell? ⟨w4.heap.size, 2, none⟩ = some (.int .i64 n) := by rw [hb.cell (p := ⟨w4.heap.size, 2, none⟩) (by simp)]; go_simp
           have z5 : w4.heap.size < w5.heap.size := by have := hb.size; simp at this; omega
           have HP5 := Lib.hid ((HP4.out.below ((Below.refl _ _).alloc (Nat.le_refl _) _)).below hb)
           have nb : b ≠ w4.heap.size := by have := HP4.out.st.rd.lt; omega
           have nb' : w4.heap.size ≠ b := Ne.symm nb
           clear hb
           obtain ⟨l5, _, d1, _, _, _, _, _, d7, d8, d9, _⟩ := HP5.out.cells
           rw [HI.out] at d1
           have f1 := HP5.out.st.rd.fz 1
           have f7 := HP5.out.st.rd.fz 7
           have f8 := HP5.out.st.rd.fz 8
           have f9 := HP5.out.st.rd.fz 9))
      go_ret
      exact ⟨rfl, (HP5.out.inc HSE.out HI.out).2.win _ _ _⟩
    · rw [if_neg hw]
      have hvb := errno_ne hw
      obtain ⟨m, hm⟩ : ∃ m, winE ka za n = m := ⟨_, rfl⟩
      rw [hm] at hvb HW
      clear hm hw f h
      go_enter Tryz.func105, Tryz.ntmps105
      go_wp2_with (first
        | (go_at_call 102; refine HN.out.mono ?_; rintro e w2 ⟨rfl, kk, rfl⟩; have HP2 := Lib.hid (HP.out.drewN kk); clear HN)
        | (go_at_call 54; refine (HR.out _).mono ?_; rintro e w3 ⟨rfl, rfl⟩)
        | (go_at_call 107; refine (HS1.out _ (bd_drewN _ _)).mono ?_; rintro e w4 ⟨rfl, hb⟩; have HP4 := Lib.hid (HP2.out.below hb); clear hb)
        | (go_at_call 69; refine (HW.out _).mono ?_; rintro e w5 ⟨rfl, hb⟩; have HP5 := Lib.hid ((HP4.out.below ((Below.refl _ _).alloc (Nat.le_refl _) _)).below hb); clear hb))
      go_ret
      exact ⟨rfl, by decide, HP5.out⟩
  · rw [if_neg he]
    have hvb := errno_ne he
    obtain ⟨x, hR⟩ : ∃ x : Int, ∀ W, Calls Tryz.prog 54 #[.string (bytesOf (txt s))] W fun e w' => e = .returned (.tuple #[.int .i64 x, .int .i64 (rdErr (txt s))]) ∧ W = w' := by
      have key := iread_no (txt s)
      by_cases hf : (allDig (txt s) && !(txt s).isEmpty) = true
      · refine ⟨rdN (txt s), fun W => ?_⟩
        have hd := read_dig (bytesOf (txt s)) W (by rw [bytesOf_size]; exact hts) (by rw [bytesOf_list]; exact hf)
        rw [bytesOf_list] at hd
        rwa [rdErr, if_pos hf]
      · refine ⟨0, fun W => ?_⟩
        have hd := read_form (bytesOf (txt s)) W (by rw [bytesOf_size]; exact hts) (by rw [bytesOf_list]; simpa using hf)
        rwa [rdErr, if_neg hf]
    have HR := Lib.hid hR
    clear he hR hts f h
    generalize rdErr (txt s) = v at HR hvb
    go_enter Tryz.func105, Tryz.ntmps105
    go_wp2_with (first
      | (go_at_call 102; refine HN.out.mono ?_; rintro e w2 ⟨rfl, kk, rfl⟩; have HP2 := Lib.hid (HP.out.drewN kk); clear HN)
      | (go_at_call 54; refine (HR.out _).mono ?_; rintro e w3 ⟨rfl, rfl⟩))
    go_ret
    exact ⟨rfl, by decide, HP2.out⟩
theorem everyP_er {q : Qy} {v : Int} {s s' : List Tok} (h : everyP q s = .er v s') : v ≠ 0 := by
  unfold everyP at h
  rw [expP_R] at h
  split at h
  · exact num_er (f := fun n => (q.k, q.s, n)) (q := q) h
  · injection h with h _; omega
set_option maxHeartbeats 4000000 in
theorem size_q (s : List Tok) (VA VS VB : Value) (q : Qy) (B : Nat) (w : World) (G : Gx w0 L A c b) (h : PQ w0 L A c b s VA VS VB q B w) (k : Int) :
    Calls Tryz.prog 89 #[.pointer (some ⟨b, 0, none⟩), .int .u8 k] w (QPost w0 L A c b (sizeP k q s)) := by
  have HN := Lib.hid (number1_q w0 L A c b s VA VS VB q B w G h)
  unfold sizeP
  clear h
  cases hn : numP (fun n => (1, n, 0)) q s with
  | er v s' =>
    rw [hn] at HN
    clear hn
    show Calls _ _ _ _ (QPost w0 L A c b (.er v s'))
    go_enter Tryz.func89, Tryz.ntmps89
    go_wp2_with (go_at_call 105; refine HN.out.mono ?_; rintro e w2 ⟨rfl, h0, hq⟩; have HP2 := Lib.hid hq; clear hq; simp only [codeP]; obtain ⟨l2, _, _, _, _, _, _, _, d7, _⟩ := HP2.out.cells; have f7 := HP2.out.st.rd.fz 7)
    go_ret
    exact ⟨rfl, h0, _, HP2.out.st.kp (Kp.set _ _ _ _) HP2.out.st.suf (HP2.out.st.rd.setX 5 _)⟩
  | ok q1 s' =>
    rw [hn] at HN
    clear hn
    show Calls _ _ _ _ (QPost w0 L A c b (.ok { q1 with k := k } s'))
    go_enter Tryz.func89, Tryz.ntmps89
    go_wp2_with (go_at_call 105; refine HN.out.mono ?_; rintro e w2 ⟨rfl, hq⟩; have HP2 := Lib.hid (show PQ w0 L A c b s' VA VS VB q1 B w2 from hq); clear hq; simp only [codeP]; obtain ⟨l2, _, _, _, _, _, _, _, d7, _⟩ := HP2.out.cells; have f7 := HP2.out.st.rd.fz 7)
    go_ret
    exact ⟨rfl, _, _, _, _, HP2.out.kp (q' := { q1 with k := k }) (Kp.set _ _ _ _) HP2.out.st.suf (HP2.out.st.rd.setX 5 _) rfl rfl rfl⟩
theorem NMem.q {w0 : World × World} {L : List Tok} {A : Option Addr} {c b : Nat} {VA VS VB : Value} {q : Qy} {B : Nat} {r : PR} {w' : World} (h : NMem w0 L A c b VA VS VB q B r w') : QMem w0 L A c b r w' := by
  cases r with
  | ok q' s => exact ⟨_, _, _, _, h⟩
  | er v s => exact ⟨h.1, _, h.2.st⟩
set_option maxHeartbeats 4000000 in
theorem every_q (s : List Tok) (VA VS VB : Value) (q : Qy) (B : Nat) (w : World) (G : Gx w0 L A c b) (h : PQ w0 L A c b s VA VS VB q B w) (hz : q.s ≤ 9223372036854775807) :
    Calls Tryz.prog 90 #[.pointer (some ⟨b, 0, none⟩)] w (QPost w0 L A c b (everyP q s)) := by
  have f := G.fx
  have HF := Lib.hid f
  have HP := Lib.hid h
  have HX := Lib.hid (expect_lit f h.st [k_every] (by decide) 1 1 rfl (by decide) #[.string ⟨#[101, 118, 101, 114, 121]⟩] 9 rfl)
  unfold everyP
  rw [expP_R]
  cases hb : (expR [k_every] s).1
  · rw [code_f hb] at HX
    clear h f
    go_enter Tryz.func90, Tryz.ntmps90
    go_wp2_with (go_at_call 83; refine HX.out.mono ?_; rintro e w2 ⟨rfl, hk, hs⟩; have HS := Lib.hid hs; clear hk hs)
    go_ret
    exact ⟨rfl, by decide, _, HS.out⟩
  · rw [code_t hb] at HX
    obtain ⟨s1, hs1⟩ : ∃ s1, (expR [k_every] s).2 = s1 := ⟨_, rfl⟩
    rw [hs1] at HX ⊢
    rw [if_pos rfl]
    show Calls _ _ _ _ (QPost w0 L A c b (numP (fun n => (q.k, q.s, n)) q s1))
    have HN := Lib.hid (fun (W : World) (hP : PQ w0 L A c b s1 VA VS VB q B W) (H : Nat) (hH : W.heap.size = H) => number2_q w0 L A c b s1 VA VS VB q B (W.alloc (.cells #[.int .u8 q.k, .int .i64 q.s, .int .i64 q.v] 25)) G (hP.below ((Below.refl _ _).alloc (Nat.le_refl _) _)) H q.k q.s (by subst hH; simp) (by subst hH; go_simp) (by subst hH; go_simp) hz)
    clear h f hs1 hb
    go_enter Tryz.func90, Tryz.ntmps90
    go_wp2_with (first
      | (go_at_call 83; refine HX.out.mono ?_; rintro e w2 ⟨rfl, hk, hs⟩; have HP2 := Lib.hid (HP.out.st' hk hs); clear hk hs; obtain ⟨l2, _, _, _, _, _, _, _, d7, d8, d9, _⟩ := HP2.out.cells)
      | (go_at_call 105; refine (HN.out w2 HP2.out _ rfl).mono ?_; rintro e w3 ⟨rfl, hq⟩; have HQ := Lib.hid hq.q; clear hq))
    go_ret
    exact ⟨rfl, HQ.out⟩
end
end Go.Proofs.YtlmamidodahgmaaGreatDoor.P9
