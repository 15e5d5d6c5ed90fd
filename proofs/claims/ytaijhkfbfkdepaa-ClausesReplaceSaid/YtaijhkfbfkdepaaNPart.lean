
/- The contracts of Part and of firstError. -/
import Derived.Test.YtaijhkfbfkdepaaNProg
import Derived.Test.YtaijhkfbfkdepaaNEach
namespace Go.Proofs.Ytaijhkfbfkdepaa.N4
open Go.ChangeShapes Go.WideShapes Go.ChangeAt Go.RowKit
set_option linter.unusedVariables false
set_option maxRecDepth 100000

theorem sm_of {L : List Nd} {E : List Ex} (h : Good4 L E) (d : Int) (hd : -100 ≤ d) (hd2 : d ≤ 100) : ∀ x ∈ L, Sm d x := by
  intro x hx
  obtain ⟨i, hi⟩ := List.mem_iff_getElem?.1 hx
  have hl := (List.getElem?_eq_some_iff.1 hi).1
  have h60 := h.2.1
  obtain ⟨h1, _, h2⟩ := node_facts h.ext hi
  refine ⟨h1, ?_, ?_⟩
  · rcases h2 with ⟨hk, _⟩ | ⟨hk, _, i1, _, h3, h4, _⟩ | ⟨hk, i1, _, _, h3, h4, h5, _⟩
    · intro h; rw [cnt_pos] at h; omega
    · omega
    · omega
  · rcases h2 with ⟨hk, _⟩ | ⟨hk, h6, _⟩ | ⟨hk, i1, _, _, h3, h4, h5, _⟩
    · intro h; rw [cnt_two] at h; omega
    · intro h; rw [cnt_two] at h; omega
    · omega
theorem Good4.size {L : List Nd} {E : List Ex} (h : Good4 L E) {i : Nat} (hi : i < L.length) : 1 ≤ sizF L i ∧ sizF L i ≤ i + 1 ∧ (cutF L i).length = sizF L i := by
  obtain ⟨y, hy, z1, z2, _⟩ := h.at_ hi
  rw [cutF_length h.ext hy, sizF_of h.ext hy]
  exact ⟨z1, z2, rfl⟩
def POk (w : World) (M : List Nd) (s : Nat) (e : Ending) (w' : World) : Prop :=
  ∃ ad, e = .returned (.tuple #[.slice (some ad) s s, .int .i64 0]) ∧ Lies w' (some ad) (ndCells M) ∧ Below w.heap.size w w'
/-! ### firstError -/
def firstE : List Int → Int
  | [] => 0
  | v :: r => if v = 0 then firstE r else v
theorem firstE_zeros : ∀ (l : List Int) (k : Nat), (∀ v ∈ l.take k, v = 0) → firstE l = firstE (l.drop k)
  | [], k, _ => by simp
  | v :: r, 0, _ => rfl
  | v :: r, k + 1, h => by
    rw [List.take_succ_cons] at h
    have h0 := h v (by simp)
    subst h0
    exact firstE_zeros r k (fun v hv => h v (by simp [hv]))
/-- Slices of expressions, as they lie. -/
def ExprAt (w : World) (u : Value) (L : List Nd) : Prop := ∃ A c, u = .slice A L.length c ∧ Lies w A (ndCells L) ∧ L.length ≤ maxLen
set_option maxHeartbeats 1000000 in
theorem first_any (A : Option Addr) (c n : Nat) (us : List Value) (Ls : List (List Nd)) (w : World) (hn : us.length = n) (hn2 : Ls.length = n) (hc : n ≤ 10) (hl : Lies w A us) (he : ∀ (i : Nat) (u : Value) (L : List Nd), us[i]? = some u → Ls[i]? = some L → ExprAt w u L) (v : Int) (hv : firstE (Ls.map checkF) = v) :
    Calls Try.prog 44 #[.slice A n c] w fun e w' => e = .returned (.int .i64 v) ∧ Below w.heap.size w w' := by
  have HL := Lib.hid hl
  have HE := Lib.hid he
  have HV := Lib.hid hv
  have HN := Lib.hid hn
  have HN2 := Lib.hid hn2
  clear hl he hv hn hn2
  go_enter Try.func44, Try.ntmps44
  go_wp2
  go_loopw [8] (fun i wr => ∃ k : Nat, i = .int .i64 k ∧ k ≤ n ∧ Hid (∀ v ∈ (Ls.map checkF).take k, v = 0) ∧ Hid (Below w.heap.size w wr)) (fun i _ => n - (intOf i).toNat)
  case atStart => exact ⟨0, rfl, Nat.zero_le _, Lib.hid (by simp), Lib.hid (Below.refl _ _)⟩
  case round =>
    obtain ⟨k, rfl, hk, HZ, HB⟩ := hrel
    by_cases hlt : k < n
    · obtain ⟨u, hu⟩ : ∃ u, us[k]? = some u := ⟨_, List.getElem?_eq_getElem (by rw [HN.out]; exact hlt)⟩
      obtain ⟨L, hL⟩ : ∃ L, Ls[k]? = some L := ⟨_, List.getElem?_eq_getElem (by rw [HN2.out]; exact hlt)⟩
      obtain ⟨A', c', rfl, hl', hm'⟩ := HE.out k u L hu hL
      obtain ⟨ad, rfl, hadl, c0⟩ := (HL.out.below HB.out).one hu
      have HC := Lib.hid (check_any A' c' L wr hm' (hl'.below HB.out) _ rfl)
      have hck : (Ls.map checkF)[k]? = some (checkF L) := by rw [List.getElem?_map, hL]; rfl
      have HK := Lib.hid hck
      obtain ⟨m, hm⟩ : ∃ m, L.length = m := ⟨_, rfl⟩
      rw [hm] at c0 HC
      obtain ⟨q, hq⟩ : ∃ q, checkF L = q := ⟨_, rfl⟩
      rw [hq] at HC HK
      clear hu hL hl' hm' hadl hck hm hq
      by_cases h0 : q = 0
      · subst h0
        go_wp2_with (go_at_call 16; refine HC.out.mono ?_; rintro e w1 ⟨rfl, hb1⟩)
        go_roundw
        case rel =>
          refine ⟨k + 1, by go_num, by omega, Lib.hid ?_, Lib.hid (HB.out.trans (hb1.mono HB.out.size))⟩
          intro v hv
          obtain ⟨hlt', e'⟩ := List.getElem?_eq_some_iff.1 HK.out
          rw [List.take_succ_eq_append_getElem hlt', e'] at hv
          rcases List.mem_append.1 hv with hv | hv
          · exact HZ.out v hv
          · simpa using hv
        case measure => simp [intOf]; omega
      · have hne := errno_ne h0
        have HF := Lib.hid (show q = v by
          rw [← HV.out, firstE_zeros _ k HZ.out]
          obtain ⟨hlt', e'⟩ := List.getElem?_eq_some_iff.1 HK.out
          rw [List.drop_eq_getElem_cons hlt', e', firstE, if_neg h0])
        clear h0
        go_wp2_with (go_at_call 16; refine HC.out.mono ?_; rintro e w1 ⟨rfl, hb1⟩)
        go_ret
        exact ⟨ret_int' HF.out, HB.out.trans (hb1.mono HB.out.size)⟩
    · have HF := Lib.hid (show 0 = v by
        rw [← HV.out, firstE_zeros _ k HZ.out, List.drop_of_length_le (by rw [List.length_map, HN2.out]; omega)]; rfl)
      go_wp2
      go_ret
      exact ⟨ret_int' HF.out, HB.out⟩
end Go.Proofs.Ytaijhkfbfkdepaa.N4
