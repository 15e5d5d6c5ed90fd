/- TopText: the walk. -/
import Derived.Test.YtfnkofcgjbakeaaDoorTAlive
namespace Go.Proofs.YtfnkofcgjbakeaaDoor.T6
open Go.ChangeShapes Go.WideShapes Go.ChangeAt Go.RowKit N4
set_option linter.unusedVariables false
set_option linter.unusedSimpArgs false
set_option maxRecDepth 100000

def TS (w : World) (A : Option Addr) (L : List Tok) (W : World) : Prop := G6 w W ∧ Toks W A L
theorem TS.step {w W W' : World} {A : Option Addr} {L : List Tok} (h : TS w A L W) (hb : Below W.heap.size W W') : TS w A L W' := ⟨h.1.step hb, h.2.below hb⟩
theorem TS.g {w W : World} {A : Option Addr} {L : List Tok} (h : TS w A L W) : G6 w W := h.1
theorem TS.t {w W : World} {A : Option Addr} {L : List Tok} (h : TS w A L W) : Toks W A L := h.2
theorem TS.tok {w W : World} {A : Option Addr} {L : List Tok} (h : TS w A L W) {i : Nat} {t : Tok} (ht : L[i]? = some t) : ∃ ad, A = some ad ∧ TokAt W ad i t ∧ (ad.add (i * 3)).block < W.heap.size := by
  obtain ⟨ad, t', k1, k2, k3⟩ := h.2.at_ _ (List.getElem?_eq_some_iff.1 ht).1
  have k4 : t' = t := Option.some.inj (k3.symm.trans ht)
  exact ⟨ad, k1, k4 ▸ k2, cell_lt k2.1⟩
theorem TS.tokS {w W : World} {ad : Addr} {L : List Tok} (h : TS w (some ad) L W) {i : Nat} {t : Tok} (ht : L[i]? = some t) : TokAt W ad i t ∧ (ad.add (i * 3)).block < W.heap.size := by
  obtain ⟨ad', h1, h2, h3⟩ := h.tok ht
  injection h1 with h1
  subst h1
  exact ⟨h2, h3⟩
/-- .. and the nodes. -/
def TN (w : World) (A : Option Addr) (L : List Tok) (A3 : Option Addr) (X : List Nd) (W : World) : Prop := TS w A L W ∧ Lies W A3 (ndCells X)
theorem TN.step {w W W' : World} {A A3 : Option Addr} {L : List Tok} {X : List Nd} (h : TN w A L A3 X W) (hb : Below W.heap.size W W') : TN w A L A3 X W' := ⟨h.1.step hb, h.2.below hb⟩
theorem TN.ts {w W : World} {A A3 : Option Addr} {L : List Tok} {X : List Nd} (h : TN w A L A3 X W) : TS w A L W := h.1
theorem TN.l {w W : World} {A A3 : Option Addr} {L : List Tok} {X : List Nd} (h : TN w A L A3 X W) : Lies W A3 (ndCells X) := h.2
theorem TN.g {w W : World} {A A3 : Option Addr} {L : List Tok} {X : List Nd} (h : TN w A L A3 X W) : G6 w W := h.1.1
theorem TN.sig {w W : World} {A A3 : Option Addr} {L : List Tok} {X : List Nd} (h : TN w A L A3 X W) : K6.SigT W := h.1.1.2
theorem TN.nd {w W : World} {A : Option Addr} {a3 : Addr} {L : List Tok} {X : List Nd} (h : TN w A L (some a3) X W) {i : Nat} {x : Nd} (hx : X[i]? = some x) : NdAt W a3 i x ∧ (a3.add (i * 5)).block < W.heap.size := by
  obtain ⟨ad, h1, h2, h3⟩ := Lies.nd h.2 hx
  injection h1 with h1
  subst h1
  exact ⟨h3, by rw [N4.add_block]; exact h2⟩
/-- A token's kind, and the kind of its bytes. -/
def KB (t : Tok) (tk v : Int) (S : ByteArray) : Prop := t.k = tk ∧ bytesOf t.s = S ∧ S.size ≤ 400 ∧ ∀ (k : Nat) (h : k < S.size), kindI (S[k].toNat : Int) = v
theorem kb_of {t : Tok} (h : checkE t.k t.s = 0) (hl : t.s.length ≤ 400) : ∃ S, KB t 1 2 S ∨ KB t 2 3 S ∨ KB t 3 4 S := by
  have hsz : (bytesOf t.s).size ≤ 400 := by rw [bytesOf_size]; exact hl
  have hb : ∀ v : Int, (∀ c ∈ t.s, kindB c = v) → ∀ (k : Nat) (h : k < (bytesOf t.s).size), kindI ((bytesOf t.s)[k].toNat : Int) = v := by
    intro v hv k hk
    refine hv _ ?_
    have : (bytesOf t.s)[k] ∈ (bytesOf t.s).data.toList := by
      rw [Array.mem_toList_iff]
      exact Array.getElem_mem _
    rwa [bytesOf_list] at this
  refine ⟨bytesOf t.s, ?_⟩
  rcases check_kinds h with ⟨h1, _, h2⟩ | ⟨h1, h2⟩ | ⟨h1, h2⟩
  · exact .inl ⟨h1, rfl, hsz, hb _ h2⟩
  · exact .inr (.inl ⟨h1, rfl, hsz, hb _ h2⟩)
  · exact .inr (.inr ⟨h1, rfl, hsz, hb _ h2⟩)
theorem read_num (s : List UInt8) (h : rdErr s = 0) (hs : (bytesOf s).size ≤ maxLen) (W : World) :
    Calls Tryd.prog 33 #[.string (bytesOf s)] W fun e w' => e = .returned (.tuple #[.int .i64 (val s : Nat), .int .i64 0]) ∧ W = w' := by
  have hd : (allDig s && !s.isEmpty) = true := by
    unfold rdErr at h
    split at h
    · assumption
    · omega
  have h2 := read_dig (bytesOf s) W hs (by rw [bytesOf_list]; exact hd)
  rw [bytesOf_list] at h2
  have hv : val s ≤ 9223372036854775807 := by
    unfold rdErr rdE at h
    rw [if_pos hd] at h
    split at h
    · assumption
    · omega
  have e1 : rdN s = (val s : Nat) := by unfold rdN; rw [if_pos hv]
  have e2 : rdE s = 0 := by unfold rdErr at h; rw [if_pos hd] at h; exact h
  rwa [e1, e2] at h2
theorem nms_at {L : List Tok} {i : Nat} {t : Tok} (h : L[i]? = some t) : nmsT (L.drop i) = nmT t ++ nmsT (L.drop (i + 1)) := by
  obtain ⟨hl, e⟩ := List.getElem?_eq_some_iff.1 h
  rw [List.drop_eq_getElem_cons hl, e, nmsT_cons]
theorem nmn_at {X : List Nd} {i : Nat} {x : Nd} (h : X[i]? = some x) : nmsN (X.drop i) = nmN x ++ nmsN (X.drop (i + 1)) := by
  obtain ⟨hl, e⟩ := List.getElem?_eq_some_iff.1 h
  rw [List.drop_eq_getElem_cons hl, e]
  rfl
set_option maxHeartbeats 1000000 in
theorem top_big (S : ByteArray) (L : List Tok) (n q : Nat) (er : Int) (w : World) (hg : G6 w w) (HA0 : ∀ W, G6 w W → Calls Tryd.prog 29 #[.string S] W fun e w' => ∃ A c, e = .returned (.tuple #[.slice A n c, .int .i64 q, .int .i64 er]) ∧ Toks w' A L ∧ G6 w w') (h4 : 400 < S.size) :
    Calls Tryd.prog 9 #[.string S] w fun e w' => e = .returned (.bool true) ∧ Below w.heap.size w w' := by
  have HA := Lib.hid HA0
  have HG := Lib.hid hg
  clear hg HA0
  go_enter Tryd.func9, Tryd.ntmps9
  go_wp2_with (first
    | (go_at_call 28; (with_reducible refine (alive6 w _ HG.out).mono ?_); rintro e w1 ⟨rfl, hg1⟩; have HG1 := Lib.hid hg1; clear hg1)
    | (go_at_call 29; (with_reducible refine (HA.out _ HG1.out).mono ?_); rintro e w2 ⟨A, c, rfl, ht, hg2⟩; have HG2 := Lib.hid hg2; clear ht hg2))
  go_ret
  exact ⟨rfl, HG2.out.below⟩
set_option maxHeartbeats 1000000 in
theorem top_err (S : ByteArray) (L : List Tok) (n q : Nat) (er : Int) (w : World) (hg : G6 w w) (HA0 : ∀ W, G6 w W → Calls Tryd.prog 29 #[.string S] W fun e w' => ∃ A c, e = .returned (.tuple #[.slice A n c, .int .i64 q, .int .i64 er]) ∧ Toks w' A L ∧ G6 w w') (h4 : S.size ≤ 400) (he : er ≠ 0) :
    Calls Tryd.prog 9 #[.string S] w fun e w' => e = .returned (.bool true) ∧ Below w.heap.size w w' := by
  have HA := Lib.hid HA0
  have HG := Lib.hid hg
  clear hg HA0
  have hne := errno_ne he
  have f1 : ¬ (400 : Int) < (S.size : Int) := by omega
  go_enter Tryd.func9, Tryd.ntmps9
  go_wp2_with (first
    | (go_at_call 28; (with_reducible refine (alive6 w _ HG.out).mono ?_); rintro e w1 ⟨rfl, hg1⟩; have HG1 := Lib.hid hg1; clear hg1)
    | (go_at_call 29; (with_reducible refine (HA.out _ HG1.out).mono ?_); rintro e w2 ⟨A, c, rfl, ht, hg2⟩; have HG2 := Lib.hid hg2; clear ht hg2))
  go_ret
  exact ⟨rfl, HG2.out.below⟩
set_option maxHeartbeats 1000000 in
theorem top_nil (S : ByteArray) (L : List Tok) (n q : Nat) (er : Int) (w : World) (hg : G6 w w) (HA0 : ∀ W, G6 w W → Calls Tryd.prog 29 #[.string S] W fun e w' => ∃ A c, e = .returned (.tuple #[.slice A n c, .int .i64 q, .int .i64 er]) ∧ Toks w' A L ∧ G6 w w') (h4 : S.size ≤ 400) (he : er = 0) (hn : n = 0) :
    Calls Tryd.prog 9 #[.string S] w fun e w' => e = .returned (.bool true) ∧ Below w.heap.size w w' := by
  have HA := Lib.hid HA0
  have HG := Lib.hid hg
  clear hg HA0
  subst he hn
  have f1 : ¬ (400 : Int) < (S.size : Int) := by omega
  go_enter Tryd.func9, Tryd.ntmps9
  go_wp2_with (first
    | (go_at_call 28; (with_reducible refine (alive6 w _ HG.out).mono ?_); rintro e w1 ⟨rfl, hg1⟩; have HG1 := Lib.hid hg1; clear hg1)
    | (go_at_call 29; (with_reducible refine (HA.out _ HG1.out).mono ?_); rintro e w2 ⟨A, c, rfl, ht, hg2⟩; have HG2 := Lib.hid hg2; clear ht hg2))
  go_ret
  exact ⟨rfl, HG2.out.below⟩
set_option maxHeartbeats 8000000 in
theorem top_e (S : ByteArray) (L : List Tok) (n q : Nat) (w : World) (hg : G6 w w) (HA0 : ∀ W, G6 w W → Calls Tryd.prog 29 #[.string S] W fun e w' => ∃ A c, e = .returned (.tuple #[.slice A n c, .int .i64 q, .int .i64 0]) ∧ Toks w' A L ∧ G6 w w') (h4 : S.size ≤ 400) (hn : L.length = n) (h0 : 1 ≤ n) (h200 : n ≤ 200) (hv : ∀ t ∈ L, checkE t.k t.s = 0) (hsm : ∀ t ∈ L, t.s.length ≤ 400) (n2 : Nat) (f : Int) (HP0 : ∀ A c W, G6 w W → Toks W A L → Calls Tryd.prog 31 #[.slice A n c, .int .i64 0] W fun e w' => ∃ A3 m c3, e = .returned (.tuple #[.slice A3 m c3, .int .i64 n2, .int .i64 f]) ∧ G6 w w') (hf : f ≠ 0) :
    Calls Tryd.prog 9 #[.string S] w fun e w' => e = .returned (.bool true) ∧ Below w.heap.size w w' := by
  have HA := Lib.hid HA0
  have HG := Lib.hid hg
  have HN := Lib.hid hn
  have HV := Lib.hid hv
  have HSM := Lib.hid hsm
  have f1 : ((400 : Int) < (S.size : Int)) = False := by simp; omega
  have f2 : decide ((400 : Int) < (S.size : Int)) = false := by simp; omega
  have f3 : (400 < S.size) = False := by simp; omega
  have f4 : ((n : Int) == 0) = false := by rw [beq_eq_false_iff_ne]; omega
  have f5 : (n = 0) = False := by simp; omega
  clear hg hn hv hsm HA0
  have HP := Lib.hid HP0
  clear HP0
  have hne := errno_ne hf
  go_enter Tryd.func9, Tryd.ntmps9
  go_wp2_with (first
    | (go_at_call 28; (with_reducible refine (alive6 w _ HG.out).mono ?_); rintro e w1 ⟨rfl, hg1⟩; have HG1 := Lib.hid hg1; clear hg1)
    | (go_at_call 29; (with_reducible refine (HA.out _ HG1.out).mono ?_); rintro e w2 ⟨A, c, rfl, ht, hg2⟩; have HS2 := Lib.hid (show TS w A L w2 from ⟨hg2, ht⟩); clear ht hg2))
  go_loopw [7] (fun iv wr => ∃ i : Nat, iv = .int .i64 i ∧ i ≤ n ∧ Hid (TS w A L wr)) (fun iv _ => n - (intOf iv).toNat)
  case atStart => exact ⟨0, rfl, Nat.zero_le _, HS2⟩
  case round =>
    clear HS2
    obtain ⟨i, rfl, hi, HW⟩ := hrel
    by_cases hlt : i < n
    · obtain ⟨t, ht⟩ : ∃ t, L[i]? = some t := ⟨_, List.getElem?_eq_getElem (by rw [HN.out]; exact hlt)⟩
      have HTT := Lib.hid ht
      obtain ⟨ad, rfl, ⟨c0, c1, c2⟩, hab⟩ := HW.out.tok ht
      have j1 : (i : Int) < n := by omega
      have j2 : (0 : Int) ≤ i := by omega
      obtain ⟨Z, hZ⟩ := kb_of (HV.out t (List.mem_of_getElem? ht)) (HSM.out t (List.mem_of_getElem? ht))
      clear ht
      rcases hZ with ⟨hk, hz, hz4, hkd⟩ | ⟨hk, hz, hz4, hkd⟩ | ⟨hk, hz, hz4, hkd⟩
      all_goals
        have HZ := Lib.hid hz
        have HK := Lib.hid hk
        have HKD := Lib.hid hkd
        rw [hk] at c0
        rw [hz] at c1
        clear hk hz hkd
        go_wp2
        go_loopw [8] (fun kv wq => ∃ k : Nat, kv = .int .i64 k ∧ k ≤ Z.size ∧ Hid (TS w (some ad) L wq)) (fun kv _ => Z.size - (intOf kv).toNat)
        case atStart => exact ⟨0, rfl, Nat.zero_le _, HW⟩
        case round =>
          clear HW c0 c1 c2 hab
          obtain ⟨k, rfl, hk, HW⟩ := hrel
          obtain ⟨⟨c0, c1, c2⟩, hab⟩ := HW.out.tokS HTT.out
          rw [HK.out] at c0
          rw [HZ.out] at c1
          by_cases hlk : k < Z.size
          · have HC := Lib.hid (fun W => kind_v (Z[k].toNat : Int) _ W (HKD.out k hlk))
            go_wp2_with (go_at_call 30; (with_reducible refine (HC.out _).mono ?_); rintro e w5 ⟨rfl, hb⟩; have HW5 := Lib.hid (HW.out.step hb); obtain ⟨⟨c0', c1', c2'⟩, hab'⟩ := HW5.out.tokS HTT.out; rw [HK.out] at c0'; rw [HZ.out] at c1'; clear hb c0 c1 c2 hab)
            go_roundw
            case rel => exact ⟨k + 1, by go_num, by omega, HW5⟩
            case measure => simp [intOf] <;> omega
          · obtain rfl : k = Z.size := by omega
            go_wp2
            go_roundw
            case rel => exact ⟨i + 1, by go_num, by omega, HW⟩
            case measure => simp [intOf] <;> omega
    · obtain rfl : n = i := by omega
      go_wp2_with (go_at_call 31; (with_reducible refine (HP.out _ _ _ HW.out.g HW.out.t).mono ?_); rintro e w6 ⟨A3, m, c3, rfl, hg6⟩)
      go_ret
      exact ⟨rfl, hg6.below⟩
set_option maxHeartbeats 8000000 in
theorem top_n (S : ByteArray) (L : List Tok) (n q : Nat) (w : World) (hg : G6 w w) (HA0 : ∀ W, G6 w W → Calls Tryd.prog 29 #[.string S] W fun e w' => ∃ A c, e = .returned (.tuple #[.slice A n c, .int .i64 q, .int .i64 0]) ∧ Toks w' A L ∧ G6 w w') (h4 : S.size ≤ 400) (hn : L.length = n) (h0 : 1 ≤ n) (h200 : n ≤ 200) (hv : ∀ t ∈ L, checkE t.k t.s = 0) (hsm : ∀ t ∈ L, t.s.length ≤ 400) (n2 : Nat) (f : Int) (HP0 : ∀ A c W, G6 w W → Toks W A L → Calls Tryd.prog 31 #[.slice A n c, .int .i64 0] W fun e w' => ∃ A3 m c3, e = .returned (.tuple #[.slice A3 m c3, .int .i64 n2, .int .i64 f]) ∧ G6 w w') (hf : f = 0) (hnn : n2 ≠ n) :
    Calls Tryd.prog 9 #[.string S] w fun e w' => e = .returned (.bool true) ∧ Below w.heap.size w w' := by
  have HA := Lib.hid HA0
  have HG := Lib.hid hg
  have HN := Lib.hid hn
  have HV := Lib.hid hv
  have HSM := Lib.hid hsm
  have f1 : ((400 : Int) < (S.size : Int)) = False := by simp; omega
  have f2 : decide ((400 : Int) < (S.size : Int)) = false := by simp; omega
  have f3 : (400 < S.size) = False := by simp; omega
  have f4 : ((n : Int) == 0) = false := by rw [beq_eq_false_iff_ne]; omega
  have f5 : (n = 0) = False := by simp; omega
  clear hg hn hv hsm HA0
  have HP := Lib.hid HP0
  clear HP0
  subst hf
  have hne : ((n2 : Int) != (n : Int)) = true := by rw [bne_iff_ne]; omega
  go_enter Tryd.func9, Tryd.ntmps9
  go_wp2_with (first
    | (go_at_call 28; (with_reducible refine (alive6 w _ HG.out).mono ?_); rintro e w1 ⟨rfl, hg1⟩; have HG1 := Lib.hid hg1; clear hg1)
    | (go_at_call 29; (with_reducible refine (HA.out _ HG1.out).mono ?_); rintro e w2 ⟨A, c, rfl, ht, hg2⟩; have HS2 := Lib.hid (show TS w A L w2 from ⟨hg2, ht⟩); clear ht hg2))
  go_loopw [7] (fun iv wr => ∃ i : Nat, iv = .int .i64 i ∧ i ≤ n ∧ Hid (TS w A L wr)) (fun iv _ => n - (intOf iv).toNat)
  case atStart => exact ⟨0, rfl, Nat.zero_le _, HS2⟩
  case round =>
    clear HS2
    obtain ⟨i, rfl, hi, HW⟩ := hrel
    by_cases hlt : i < n
    · obtain ⟨t, ht⟩ : ∃ t, L[i]? = some t := ⟨_, List.getElem?_eq_getElem (by rw [HN.out]; exact hlt)⟩
      have HTT := Lib.hid ht
      obtain ⟨ad, rfl, ⟨c0, c1, c2⟩, hab⟩ := HW.out.tok ht
      have j1 : (i : Int) < n := by omega
      have j2 : (0 : Int) ≤ i := by omega
      obtain ⟨Z, hZ⟩ := kb_of (HV.out t (List.mem_of_getElem? ht)) (HSM.out t (List.mem_of_getElem? ht))
      clear ht
      rcases hZ with ⟨hk, hz, hz4, hkd⟩ | ⟨hk, hz, hz4, hkd⟩ | ⟨hk, hz, hz4, hkd⟩
      all_goals
        have HZ := Lib.hid hz
        have HK := Lib.hid hk
        have HKD := Lib.hid hkd
        rw [hk] at c0
        rw [hz] at c1
        clear hk hz hkd
        go_wp2
        go_loopw [8] (fun kv wq => ∃ k : Nat, kv = .int .i64 k ∧ k ≤ Z.size ∧ Hid (TS w (some ad) L wq)) (fun kv _ => Z.size - (intOf kv).toNat)
        case atStart => exact ⟨0, rfl, Nat.zero_le _, HW⟩
        case round =>
          clear HW c0 c1 c2 hab
          obtain ⟨k, rfl, hk, HW⟩ := hrel
          obtain ⟨⟨c0, c1, c2⟩, hab⟩ := HW.out.tokS HTT.out
          rw [HK.out] at c0
          rw [HZ.out] at c1
          by_cases hlk : k < Z.size
          · have HC := Lib.hid (fun W => kind_v (Z[k].toNat : Int) _ W (HKD.out k hlk))
            go_wp2_with (go_at_call 30; (with_reducible refine (HC.out _).mono ?_); rintro e w5 ⟨rfl, hb⟩; have HW5 := Lib.hid (HW.out.step hb); obtain ⟨⟨c0', c1', c2'⟩, hab'⟩ := HW5.out.tokS HTT.out; rw [HK.out] at c0'; rw [HZ.out] at c1'; clear hb c0 c1 c2 hab)
            go_roundw
            case rel => exact ⟨k + 1, by go_num, by omega, HW5⟩
            case measure => simp [intOf] <;> omega
          · obtain rfl : k = Z.size := by omega
            go_wp2
            go_roundw
            case rel => exact ⟨i + 1, by go_num, by omega, HW⟩
            case measure => simp [intOf] <;> omega
    · obtain rfl : n = i := by omega
      go_wp2_with (go_at_call 31; (with_reducible refine (HP.out _ _ _ HW.out.g HW.out.t).mono ?_); rintro e w6 ⟨A3, m, c3, rfl, hg6⟩)
      go_ret
      exact ⟨rfl, hg6.below⟩
set_option maxHeartbeats 40000000 in
theorem top_ok (S : ByteArray) (L : List Tok) (n q : Nat) (w : World) (hg : G6 w w) (HA0 : ∀ W, G6 w W → Calls Tryd.prog 29 #[.string S] W fun e w' => ∃ A c, e = .returned (.tuple #[.slice A n c, .int .i64 q, .int .i64 0]) ∧ Toks w' A L ∧ G6 w w') (h4 : S.size ≤ 400) (hn : L.length = n) (h0 : 1 ≤ n) (h200 : n ≤ 200) (hv : ∀ t ∈ L, checkE t.k t.s = 0) (hsm : ∀ t ∈ L, t.s.length ≤ 400) (t : Tr) (hr : Rd (.line 0) L (.ok t [])) (hok : t.ok = true) (her : t.er = 0) (hbig : t.big) (HP0 : ∀ A c W, G6 w W → Toks W A L → Calls Tryd.prog 31 #[.slice A n c, .int .i64 0] W fun e w' => ∃ A3 c3, e = .returned (.tuple #[.slice A3 t.sz (t.sz + c3), .int .i64 n, .int .i64 0]) ∧ Lies w' A3 (ndCells t.flat) ∧ Below W.heap.size W w') :
    Calls Tryd.prog 9 #[.string S] w fun e w' => e = .returned (.bool true) ∧ Below w.heap.size w w' := by
  obtain ⟨X, hX⟩ : ∃ X, t.flat = X := ⟨_, rfl⟩
  obtain ⟨m, hm⟩ : ∃ m, t.sz = m := ⟨_, rfl⟩
  have hXl : X.length = m := by rw [← hX, ← hm, t.flat_length]
  have hm0 : 1 ≤ m := by rw [← hm]; exact t.sz_pos
  have hm60 : m ≤ 60 := by rw [← hm]; exact (Tr.er_zero.1 her).1
  have hck : checkF X = 0 := by rw [← hX]; exact (t.check_flat hok).trans her
  obtain ⟨E, hgd⟩ := checkF_zero hck
  have hnm : nmsN X = nmsT L := by
    obtain ⟨c, h1, h2⟩ := Rd_nms hr rfl
    rw [List.append_nil] at h1
    subst h1
    rw [← hX, nms_flat t hok, ← h2]
    rfl
  have hne : X ≠ [] := hgd.1
  have HGT := Lib.hid (fun A c W (hW : TS w A L W) => great_any A c L W (by rw [hn]; unfold maxLen; omega) hW.2 false (great_no L (by omega) (fun t ht => by have := hsm t ht; omega)))
  rw [hn] at HGT
  have HCR := Lib.hid (fun A3 c3 W (hl : Lies W A3 (ndCells X)) => rcheck_any A3 c3 m X W hXl (by unfold maxLen; omega) hl 0 hck)
  have HOX := Lib.hid (fun (t' : Bool) (a' v' : Int) (h : K6.ofF X = (t', a', v')) A3 c3 W (hs : K6.SigT W) (hl : Lies W A3 (ndCells X)) => K6.of_any A3 c3 m X W hs hXl (by unfold maxLen; omega) hl t' a' v' h)
  have HPT := Lib.hid (fun A3 c3 (j s : Nat) W (hl : Lies W A3 (ndCells X)) (hc : m ≤ c3) (hj : j < m) (h : sizF X j = s) => part_ok A3 c3 m X j s W hl hck hXl hc hj h)
  have HTX := Lib.hid (fun A3 c3 W (hl : Lies W A3 (ndCells X)) (hg : G6 w W) => textF_ok A3 c3 m t W hm (by rw [hX]; exact hl) hok her hbig hg.1.2.2.1 hg.1.2.2.2)
  have HWR := Lib.hid (fun A3 c3 z W (hl : Lies W A3 (ndCells X)) (hz : z = (m : Int) - 1) => written_any A3 c3 m t W hm hm60 (by rw [hX]; exact hl) hok hbig z hz)
  have HWQ := beq_bytes (rfl : t.wr = t.wr)
  have HXL := Lib.hid hXl
  have HGD := Lib.hid hgd
  have HNM := Lib.hid hnm
  have HXN := Lib.hid hne
  have HP := Lib.hid HP0
  rw [hX, hm] at HP
  generalize t.wr = TT at HTX HWR HWQ
  have g1 : ((m : Int) - 1) = ((m - 1 : Nat) : Int) := by omega
  clear hr hok her hbig hX hm hXl hck hgd hnm hne g1 HP0
  have HA := Lib.hid HA0
  have HG := Lib.hid hg
  have HN := Lib.hid hn
  have HV := Lib.hid hv
  have HSM := Lib.hid hsm
  have f1 : ((400 : Int) < (S.size : Int)) = False := by simp; omega
  have f2 : decide ((400 : Int) < (S.size : Int)) = false := by simp; omega
  have f3 : (400 < S.size) = False := by simp; omega
  have f4 : ((n : Int) == 0) = false := by rw [beq_eq_false_iff_ne]; omega
  have f5 : (n = 0) = False := by simp; omega
  clear hg hn hv hsm HA0
  go_enter Tryd.func9, Tryd.ntmps9
  go_wp2_with (first
    | (go_at_call 28; (with_reducible refine (alive6 w _ HG.out).mono ?_); rintro e w1 ⟨rfl, hg1⟩; have HG1 := Lib.hid hg1; clear hg1)
    | (go_at_call 29; (with_reducible refine (HA.out _ HG1.out).mono ?_); rintro e w2 ⟨A, c, rfl, ht, hg2⟩; have HS2 := Lib.hid (show TS w A L w2 from ⟨hg2, ht⟩); clear ht hg2))
  go_loopw [7] (fun iv wr => ∃ i : Nat, iv = .int .i64 i ∧ i ≤ n ∧ Hid (TS w A L wr)) (fun iv _ => n - (intOf iv).toNat)
  case atStart => exact ⟨0, rfl, Nat.zero_le _, HS2⟩
  case round =>
    clear HS2
    obtain ⟨i, rfl, hi, HW⟩ := hrel
    by_cases hlt : i < n
    · obtain ⟨t, ht⟩ : ∃ t, L[i]? = some t := ⟨_, List.getElem?_eq_getElem (by rw [HN.out]; exact hlt)⟩
      have HTT := Lib.hid ht
      obtain ⟨ad, rfl, ⟨c0, c1, c2⟩, hab⟩ := HW.out.tok ht
      have j1 : (i : Int) < n := by omega
      have j2 : (0 : Int) ≤ i := by omega
      obtain ⟨Z, hZ⟩ := kb_of (HV.out t (List.mem_of_getElem? ht)) (HSM.out t (List.mem_of_getElem? ht))
      clear ht
      rcases hZ with ⟨hk, hz, hz4, hkd⟩ | ⟨hk, hz, hz4, hkd⟩ | ⟨hk, hz, hz4, hkd⟩
      all_goals
        have HZ := Lib.hid hz
        have HK := Lib.hid hk
        have HKD := Lib.hid hkd
        rw [hk] at c0
        rw [hz] at c1
        clear hk hz hkd
        go_wp2
        go_loopw [8] (fun kv wq => ∃ k : Nat, kv = .int .i64 k ∧ k ≤ Z.size ∧ Hid (TS w (some ad) L wq)) (fun kv _ => Z.size - (intOf kv).toNat)
        case atStart => exact ⟨0, rfl, Nat.zero_le _, HW⟩
        case round =>
          clear HW c0 c1 c2 hab
          obtain ⟨k, rfl, hk, HW⟩ := hrel
          obtain ⟨⟨c0, c1, c2⟩, hab⟩ := HW.out.tokS HTT.out
          rw [HK.out] at c0
          rw [HZ.out] at c1
          by_cases hlk : k < Z.size
          · have HC := Lib.hid (fun W => kind_v (Z[k].toNat : Int) _ W (HKD.out k hlk))
            go_wp2_with (go_at_call 30; (with_reducible refine (HC.out _).mono ?_); rintro e w5 ⟨rfl, hb⟩; have HW5 := Lib.hid (HW.out.step hb); obtain ⟨⟨c0', c1', c2'⟩, hab'⟩ := HW5.out.tokS HTT.out; rw [HK.out] at c0'; rw [HZ.out] at c1'; clear hb c0 c1 c2 hab)
            go_roundw
            case rel => exact ⟨k + 1, by go_num, by omega, HW5⟩
            case measure => simp [intOf] <;> omega
          · obtain rfl : k = Z.size := by omega
            go_wp2
            go_roundw
            case rel => exact ⟨i + 1, by go_num, by omega, HW⟩
            case measure => simp [intOf] <;> omega
    · obtain rfl : n = i := by omega
      go_wp2_with (first
        | (go_at_call 31; (with_reducible refine (HP.out _ _ _ HW.out.g HW.out.t).mono ?_); rintro e w6 ⟨A3, c3, rfl, hl6, hb6⟩; have HB6 := Lib.hid (show TN w A L A3 X w6 from ⟨HW.out.step hb6, hl6⟩); clear hl6 hb6)
        | (go_at_call 32; (with_reducible refine (HGT.out _ _ _ HB6.out.ts).mono ?_); rintro e w7 ⟨rfl, rfl⟩))
      obtain ⟨a3, rfl⟩ : ∃ a3, A3 = some a3 := by
        obtain ⟨x0, hx0⟩ : ∃ x0, X[0]? = some x0 := ⟨_, List.getElem?_eq_getElem (List.length_pos_iff.2 HXN.out)⟩
        obtain ⟨ad, h1, _⟩ := Lies.nd HB6.out.l hx0
        exact ⟨ad, h1⟩
      clear HW HA HP HGT
      go_loopw [13, 14] (fun av iv wr => ∃ at_ i : Nat, av = .int .i64 at_ ∧ iv = .int .i64 i ∧ i ≤ n ∧ at_ ≤ m ∧ Hid (nmsN (X.drop at_) = nmsT (L.drop i)) ∧ Hid (TN w A L (some a3) X wr)) (fun _ iv _ => n - (intOf iv).toNat)
      case atStart => exact ⟨0, 0, rfl, rfl, Nat.zero_le _, Nat.zero_le _, Lib.hid HNM.out, HB6⟩
      case round =>
        clear HB6
        obtain ⟨at_, i, rfl, rfl, hi, hat, HR, HB⟩ := hrel
        by_cases hlt : i < n
        · obtain ⟨t, ht⟩ : ∃ t, L[i]? = some t := ⟨_, List.getElem?_eq_getElem (by rw [HN.out]; exact hlt)⟩
          have HTT := Lib.hid ht
          obtain ⟨ad, rfl, ⟨c0, c1, c2⟩, hab⟩ := HB.out.ts.tok ht
          have j1 : (i : Int) < n := by omega
          have j2 : (0 : Int) ≤ i := by omega
          have hck := HV.out t (List.mem_of_getElem? ht)
          by_cases hk1 : t.k = 1
          rotate_left
          · have hkn : (t.k != 1) = true := by rw [bne_iff_ne]; exact hk1
            have HR2 := Lib.hid (show nmsN (X.drop at_) = nmsT (L.drop (i + 1)) by rw [HR.out, nms_at ht, nm_no (rd_ne hck hk1)]; rfl)
            clear ht hck hk1
            go_wp2
            go_roundw
            case rel => exact ⟨at_, i + 1, rfl, by go_num, by omega, hat, HR2, HB⟩
            case measure => simp [intOf] <;> omega
          · have hrd : rdErr t.s = 0 := by
              rcases check_kinds hck with ⟨_, h, _⟩ | ⟨h, _⟩ | ⟨h, _⟩
              · exact h
              · omega
              · omega
            have HRD := Lib.hid hrd
            have HRT := Lib.hid (show nmsT (L.drop i) = (((val t.s : Nat) : Int), t.a) :: nmsT (L.drop (i + 1)) by rw [nms_at ht]; unfold nmT; rw [if_pos hrd]; rfl)
            have HTS := Lib.hid (show (bytesOf t.s).size ≤ maxLen by rw [bytesOf_size]; have := HSM.out t (List.mem_of_getElem? ht); unfold maxLen; omega)
            rw [hk1] at c0
            have HK1 := Lib.hid hk1
            clear ht hck hk1 hrd
            go_wp2
            go_loopw [13] (fun av wq => ∃ z : Nat, av = .int .i64 z ∧ z ≤ m ∧ Hid (nmsN (X.drop z) = nmsT (L.drop i)) ∧ Hid (TN w (some ad) L (some a3) X wq)) (fun av _ => m - (intOf av).toNat)
            case atStart => exact ⟨at_, rfl, hat, HR, HB⟩
            case round =>
              clear HR HB c0 c1 c2 hab hat
              obtain ⟨z, rfl, hz, HR, HB⟩ := hrel
              by_cases hzm : z < m
              rotate_left
              · exfalso
                have h1 := HR.out
                rw [List.drop_of_length_le (by rw [HXL.out]; omega), HRT.out] at h1
                cases h1
              · obtain ⟨y, hy⟩ : ∃ y, X[z]? = some y := ⟨_, List.getElem?_eq_getElem (by rw [HXL.out]; exact hzm)⟩
                obtain ⟨⟨d0, d1, d2, d3, d4⟩, hdb⟩ := HB.out.nd hy
                have j3 : (z : Int) < m := by omega
                have j4 : (0 : Int) ≤ z := by omega
                by_cases hy1 : y.k = 1
                rotate_left
                · have hyn : (y.k != 1) = true := by rw [bne_iff_ne]; exact hy1
                  have HR2 := Lib.hid (show nmsN (X.drop (z + 1)) = nmsT (L.drop i) by
                    rw [← HR.out, nmn_at hy]; unfold nmN; rw [if_neg hy1]; rfl)
                  clear hy hy1
                  go_wp2
                  go_roundw
                  case rel => exact ⟨z + 1, by go_num, by omega, HR2, HB⟩
                  case measure => simp [intOf] <;> omega
                · obtain ⟨hyn, hyp, HR2⟩ : y.n = ((val t.s : Nat) : Int) ∧ y.p = t.a ∧ Hid (nmsN (X.drop (z + 1)) = nmsT (L.drop (i + 1))) := by
                    have h1 := HR.out
                    rw [nmn_at hy, HRT.out] at h1
                    unfold nmN at h1
                    rw [if_pos hy1] at h1
                    injection h1 with h1 h2
                    injection h1 with h3 h4
                    exact ⟨h3, h4, Lib.hid h2⟩
                  obtain ⟨⟨c0, c1, c2⟩, hab⟩ := HB.out.ts.tokS HTT.out
                  rw [HK1.out] at c0
                  rw [hy1] at d0
                  rw [hyn] at d1
                  rw [hyp] at d4
                  have HRE := Lib.hid (fun W => show Calls Tryd.prog 33 #[.string (bytesOf t.s)] W fun e w' => e = .returned (.tuple #[.int .i64 (val t.s : Nat), .int .i64 0]) ∧ W = w' from read_num t.s HRD.out HTS.out W)
                  generalize ((val t.s : Nat) : Int) = nv at d1 HRE hyn HRT
                  generalize bytesOf t.s = Z at c1 HRE HTS
                  generalize t.a = av at c2 d4 hyp HRT
                  have q1 : decide ((m : Int) ≤ (z : Int)) = false := by simp; omega
                  have q2 : ((m : Int) ≤ (z : Int)) = False := by simp; omega
                  have q3 : (m ≤ z) = False := by simp; omega
                  clear hy hy1 hyn hyp HRT
                  go_wp2_with (go_at_call 33; (with_reducible refine (HRE.out _).mono ?_); rintro e w8 ⟨rfl, rfl⟩)
                  go_quiet (fail)
                  go_wp2
                  go_roundw
                  case rel => exact ⟨z + 1, i + 1, by go_num, by go_num, by omega, by omega, HR2, Lib.hid (HB.out.step (bd_drewN _ _))⟩
                  case measure => simp [intOf] <;> omega
        · obtain rfl : n = i := by omega
          clear HR
          rcases K6.of_cases X with ⟨v, e1, e2, _⟩ | ⟨k, x, e1, e2, e3, e4, e5, e6⟩ | ⟨p, x, e1, e2, e3, e4, e5⟩
          · exact absurd (e1.symm.trans (checkF_ok HGD.out)) e2
          · have HO := Lib.hid (HOX.out false (k : Int) 42 e6)
            have HW := Lib.hid e2
            clear e1 e2 e3 e4 e5 e6 x
            go_wp2_with (first
              | (go_at_call 24; (with_reducible refine (HCR.out _ _ _ HB.out.l).mono ?_); rintro e wa ⟨rfl, hb⟩; have HBa := Lib.hid (HB.out.step hb); clear hb)
              | (go_at_call 12; (with_reducible refine (HO.out _ _ _ HBa.out.sig HBa.out.l).mono ?_); rintro e wb ⟨rfl, hb⟩; have HBb := Lib.hid (HBa.out.step hb); clear hb))
            clear HB HO
            go_loopw [20] (fun iv wr => ∃ i : Nat, iv = .int .i64 i ∧ i ≤ m ∧ Hid (TN w A L (some a3) X wr)) (fun iv _ => m - (intOf iv).toNat)
            case atStart => exact ⟨0, rfl, Nat.zero_le _, HBb⟩
            case round =>
              clear HBa HBb
              obtain ⟨i, rfl, hi, HB⟩ := hrel
              by_cases hlt : i < m
              · obtain ⟨y, hy⟩ : ∃ y, X[i]? = some y := ⟨_, List.getElem?_eq_getElem (by rw [HXL.out]; exact hlt)⟩
                obtain ⟨s1, s2, s3⟩ := HGD.out.size (i := i) (by rw [HXL.out]; exact hlt)
                obtain ⟨s, hs⟩ : ∃ s, sizF X i = s := ⟨_, rfl⟩
                rw [hs] at s1 s2 s3
                have HPP := Lib.hid (HPT.out (some a3) (m + c3) i s wr HB.out.l (by omega) hlt hs)
                have j3 : (i : Int) < m := by omega
                have j4 : (0 : Int) ≤ i := by omega
                by_cases hik : i < k
                · have q1 : decide ((i : Int) < (k : Int)) = true := by simp; omega
                  have q2 : (i : Int) < (k : Int) := by omega
                  have hcut := K6.cut_of HGD.out hy (fun j z hj hz => K6.fit_before (by rw [HW.out]; omega) hz)
                  rw [K6.fit_before (by rw [HW.out]; omega) hy, if_pos rfl, hs] at hcut
                  have HOP := Lib.hid (fun A9 W (hsg : K6.SigT W) hl => K6.of_any A9 s s (cutF X i) W hsg s3 (by unfold maxLen; omega) hl _ _ 0 hcut)
                  generalize K6.gvK y.k = gy at HOP
                  clear hcut hy hs s3
                  go_wp2_with (first
                    | (go_at_call 25; (with_reducible refine HPP.out.mono ?_); rintro e wc ⟨a9, rfl, hl9, hb⟩; have HBc := Lib.hid (HB.out.step hb); have HL9 := Lib.hid hl9; clear hb hl9)
                    | (go_at_call 12; (with_reducible refine (HOP.out _ _ HBc.out.sig HL9.out).mono ?_); rintro e wd ⟨rfl, hb⟩; have HBd := Lib.hid (HBc.out.step hb); clear hb))
                  go_roundw
                  case rel => exact ⟨i + 1, by go_num, by omega, HBd⟩
                  case measure => simp [intOf] <;> omega
                · have q1 : decide ((i : Int) < (k : Int)) = false := by simp; omega
                  have q2 : ((i : Int) < (k : Int)) = False := by simp; omega
                  have q3 : (i < k) = False := by simp; omega
                  obtain ⟨⟨ct, ca, cv⟩, hcut⟩ : ∃ r, K6.ofF (cutF X i) = r := ⟨_, rfl⟩
                  have HOP := Lib.hid (fun A9 W (hsg : K6.SigT W) hl => K6.of_any A9 s s (cutF X i) W hsg s3 (by unfold maxLen; omega) hl ct ca cv hcut)
                  clear hcut hy hs s3
                  go_wp2_with (first
                    | (go_at_call 25; (with_reducible refine HPP.out.mono ?_); rintro e wc ⟨a9, rfl, hl9, hb⟩; have HBc := Lib.hid (HB.out.step hb); have HL9 := Lib.hid hl9; clear hb hl9)
                    | (go_at_call 12; (with_reducible refine (HOP.out _ _ HBc.out.sig HL9.out).mono ?_); rintro e wd ⟨rfl, hb⟩; have HBd := Lib.hid (HBc.out.step hb); clear hb))
                  go_roundw
                  case rel => exact ⟨i + 1, by go_num, by omega, HBd⟩
                  case measure => simp [intOf] <;> omega
              · obtain rfl : m = i := by omega
                go_wp2_with (first
                  | (go_at_call 34; (with_reducible refine (HTX.out _ _ _ HB.out.l HB.out.g).mono ?_); rintro e wc ⟨rfl, hb⟩; have HBc := Lib.hid (HB.out.step hb); clear hb)
                  | (go_at_call 35; refine (HWR.out _ _ _ _ HBc.out.l (by omega)).mono ?_; rintro e wd ⟨rfl, hb⟩; have HBd := Lib.hid (HBc.out.step hb); clear hb))
                go_ret
                exact ⟨rfl, HBd.out.g.below⟩
          · have HO := Lib.hid (HOX.out _ (p : Int) 0 e5)
            have HW := Lib.hid (show K6.wrongF X = m by rw [e2, ← e3, HXL.out])
            generalize K6.gvK x.k = gv at HO
            clear e1 e2 e3 e4 e5 x
            go_wp2_with (first
              | (go_at_call 24; (with_reducible refine (HCR.out _ _ _ HB.out.l).mono ?_); rintro e wa ⟨rfl, hb⟩; have HBa := Lib.hid (HB.out.step hb); clear hb)
              | (go_at_call 12; (with_reducible refine (HO.out _ _ _ HBa.out.sig HBa.out.l).mono ?_); rintro e wb ⟨rfl, hb⟩; have HBb := Lib.hid (HBa.out.step hb); clear hb))
            clear HB HO
            go_loopw [20] (fun iv wr => ∃ i : Nat, iv = .int .i64 i ∧ i ≤ m ∧ Hid (TN w A L (some a3) X wr)) (fun iv _ => m - (intOf iv).toNat)
            case atStart => exact ⟨0, rfl, Nat.zero_le _, HBb⟩
            case round =>
              clear HBa HBb
              obtain ⟨i, rfl, hi, HB⟩ := hrel
              by_cases hlt : i < m
              · obtain ⟨y, hy⟩ : ∃ y, X[i]? = some y := ⟨_, List.getElem?_eq_getElem (by rw [HXL.out]; exact hlt)⟩
                obtain ⟨s1, s2, s3⟩ := HGD.out.size (i := i) (by rw [HXL.out]; exact hlt)
                obtain ⟨s, hs⟩ : ∃ s, sizF X i = s := ⟨_, rfl⟩
                rw [hs] at s1 s2 s3
                have HPP := Lib.hid (HPT.out (some a3) (m + c3) i s wr HB.out.l (by omega) hlt hs)
                have j3 : (i : Int) < m := by omega
                have j4 : (0 : Int) ≤ i := by omega
                have hik : True := trivial
                · skip
                  have hcut := K6.cut_of HGD.out hy (fun j z hj hz => K6.fit_before (by rw [HW.out]; omega) hz)
                  rw [K6.fit_before (by rw [HW.out]; omega) hy, if_pos rfl, hs] at hcut
                  have HOP := Lib.hid (fun A9 W (hsg : K6.SigT W) hl => K6.of_any A9 s s (cutF X i) W hsg s3 (by unfold maxLen; omega) hl _ _ 0 hcut)
                  generalize K6.gvK y.k = gy at HOP
                  clear hcut hy hs s3
                  go_wp2_with (first
                    | (go_at_call 25; (with_reducible refine HPP.out.mono ?_); rintro e wc ⟨a9, rfl, hl9, hb⟩; have HBc := Lib.hid (HB.out.step hb); have HL9 := Lib.hid hl9; clear hb hl9)
                    | (go_at_call 12; (with_reducible refine (HOP.out _ _ HBc.out.sig HL9.out).mono ?_); rintro e wd ⟨rfl, hb⟩; have HBd := Lib.hid (HBc.out.step hb); clear hb))
                  go_roundw
                  case rel => exact ⟨i + 1, by go_num, by omega, HBd⟩
                  case measure => simp [intOf] <;> omega
              · obtain rfl : m = i := by omega
                go_wp2_with (first
                  | (go_at_call 34; (with_reducible refine (HTX.out _ _ _ HB.out.l HB.out.g).mono ?_); rintro e wc ⟨rfl, hb⟩; have HBc := Lib.hid (HB.out.step hb); clear hb)
                  | (go_at_call 35; refine (HWR.out _ _ _ _ HBc.out.l (by omega)).mono ?_; rintro e wd ⟨rfl, hb⟩; have HBd := Lib.hid (HBc.out.step hb); clear hb))
                go_ret
                exact ⟨rfl, HBd.out.g.below⟩
end Go.Proofs.YtfnkofcgjbakeaaDoor.T6
