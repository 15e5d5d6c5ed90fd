/- ExprsCounts: tokens and nodes. -/
import Derived.Test.YtoobggcopoljcaaDoorEAlive
import Derived.Test.YtoobggcopoljcaaDoorEAsk
import Derived.Test.YtoobggcopoljcaaDoorECnt
namespace Go.Proofs.YtoobggcopoljcaaDoor
open Go.ChangeShapes Go.WideShapes Go.ChangeAt Go.RowKit N4
set_option linter.unusedVariables false
set_option maxRecDepth 100000

theorem zero_401 (w : World) : (zeroValue 44).run Tryd.prog w = .ok (.agg (Array.replicate 401 (.int .i64 0))) w := by kernel_rfl
/-- An array that counts. -/
def Arr (w : World) (B : Nat) (f : Nat → Int) : Prop := B < w.heap.size ∧ ∀ v, v < 401 → w.cell? ⟨B, v, none⟩ = some (.int .i64 (f v)) ∧ w.frozen? ⟨B, v, none⟩ = false
theorem Arr.below {w w' : World} {B : Nat} {f : Nat → Int} (h : Arr w B f) (hb : Below w.heap.size w w') : Arr w' B f :=
  ⟨Nat.lt_of_lt_of_le h.1 hb.size, fun v hv => ⟨by rw [hb.cell (p := ⟨B, v, none⟩) h.1]; exact (h.2 v hv).1, by rw [hb.frozen (p := ⟨B, v, none⟩) h.1]; exact (h.2 v hv).2⟩⟩
theorem Arr.set {w : World} {B a : Nat} {f g : Nat → Int} (h : Arr w B f) (ha : a < 401) (hg : ∀ v, v ≠ a → g v = f v) : Arr (w.setCell ⟨B, a, none⟩ (.int .i64 (g a))) B g := by
  refine ⟨by simpa using h.1, fun v hv => ⟨?_, (World.frozen?_setCell _ _ _ _).trans (h.2 v hv).2⟩⟩
  by_cases e : v = a
  · subst e; rw [World.cell?_setCell_same _ _ _ (h.2 v hv).1]
  · rw [World.cell?_setCell_other _ _ _ _ (by intro h; injection h; omega), (h.2 v hv).1, hg v e]
theorem Arr.new (w : World) (t : TypeId) : Arr (w.alloc (.cells (Array.replicate 401 (.int .i64 0)) t)) w.heap.size (fun _ => 0) := by
  refine ⟨by simp, fun v hv => ⟨?_, ?_⟩⟩
  · rw [World.cell?, show (w.alloc (.cells (Array.replicate 401 (.int .i64 0)) t)).heap[w.heap.size]? = some (.cells (Array.replicate 401 (.int .i64 0)) t (0, 0)) by unfold World.alloc; simp]
    simp [hv]
  · rw [World.frozen?, show (w.alloc (.cells (Array.replicate 401 (.int .i64 0)) t)).heap[w.heap.size]? = some (.cells (Array.replicate 401 (.int .i64 0)) t (0, 0)) by unfold World.alloc; simp]
    simp

theorem bracket_any (k a : Int) (s : List UInt8) (w : World) (b : Bool) (hk : s = [40] ∨ s = [41] → k = 3) (hb : (decide (s = [40]) || decide (s = [41])) = b) :
    Calls Tryd.prog 19 #[.agg #[.int .u8 k, .string (bytesOf s), .int .i64 a]] w fun e w' => e = .returned (.bool b) ∧ Below w.heap.size w w' := by
  by_cases h1 : s = [40]
  · have h3 := hk (.inl h1)
    have hc := cst_eq h1
    obtain rfl : b = true := by rw [← hb]; simp [h1]
    subst h3
    clear hb hk h1
    go_enter Tryd.func19, Tryd.ntmps19
    go_wp2
    go_ret
    exact ⟨rfl, (Below.refl _ _).alloc (Nat.le_refl _) _⟩
  · have hc1 := cst_ne h1
    by_cases h2 : s = [41]
    · have h3 := hk (.inr h2)
      have hc := cst_eq h2
      obtain rfl : b = true := by rw [← hb]; simp [h2]
      subst h3
      clear hb hk h1 h2
      go_enter Tryd.func19, Tryd.ntmps19
      go_wp2
      go_ret
      exact ⟨rfl, (Below.refl _ _).alloc (Nat.le_refl _) _⟩
    · have hc2 := cst_ne h2
      obtain rfl : b = false := by rw [← hb]; simp [h1, h2]
      clear hb hk h1 h2
      by_cases h3 : k = 3
      · subst h3
        go_enter Tryd.func19, Tryd.ntmps19
        go_wp2
        go_ret
        exact ⟨rfl, (Below.refl _ _).alloc (Nat.le_refl _) _⟩
      · go_enter Tryd.func19, Tryd.ntmps19
        go_wp2
        go_ret
        exact ⟨rfl, (Below.refl _ _).alloc (Nat.le_refl _) _⟩

theorem cnt_great (A : Option Addr) (c : Nat) (L : List Tok) (a : Int) (w : World) (hg : G5 w w) (hL : L.length ≤ maxLen) (ht : Toks w A L) (h : greatF L = true) :
    Calls Tryd.prog 5 #[.slice A L.length c, .int .i64 a] w fun e w' => e = .returned (.bool true) ∧ G5 w w' := by
  have HG := Lib.hid hg
  have HA := Lib.hid (great_any A c L w hL ht true h)
  clear hg h ht
  generalize L.length = n at HA hL
  go_enter Tryd.func5, Tryd.ntmps5
  go_wp2_with (first
    | (go_at_call 16; refine HA.out.mono ?_; rintro e w' ⟨rfl, rfl⟩)
    | (go_at_call 12; refine (alive_g w _ HG.out).mono ?_; rintro e w' ⟨rfl, hg⟩; have HG2 := Lib.hid hg; clear hg))
  go_ret
  exact ⟨rfl, HG2.out⟩
theorem cnt_ask (A : Option Addr) (c : Nat) (L : List Tok) (a : Int) (w : World) (hg : G5 w w) (hL : L.length ≤ maxLen) (ht : Toks w A L) (hs : ∀ t ∈ L, t.s.length ≤ maxLen) (h : greatF L = false) (v : Int) (hv : askF L a = v) (h0 : v ≠ 0) :
    Calls Tryd.prog 5 #[.slice A L.length c, .int .i64 a] w fun e w' => e = .returned (.bool true) ∧ G5 w w' := by
  have HG := Lib.hid hg
  have HA := Lib.hid (great_any A c L w hL ht false h)
  have HK := Lib.hid (asked_any A c L.length L a w rfl hL ht hs v hv)
  have hvb := errno_ne h0
  clear hg h ht hs hv h0
  generalize L.length = n at HA HK hL
  go_enter Tryd.func5, Tryd.ntmps5
  go_wp2_with (first
    | (go_at_call 16; refine HA.out.mono ?_; rintro e w' ⟨rfl, rfl⟩)
    | (go_at_call 17; refine HK.out.mono ?_; rintro e w1 ⟨rfl, hb⟩; have HG1 := Lib.hid (HG.out.step hb); clear hb)
    | (go_at_call 12; refine (alive_g w _ HG1.out).mono ?_; rintro e w' ⟨rfl, hg⟩; have HG2 := Lib.hid hg; clear hg))
  go_ret
  exact ⟨rfl, HG2.out⟩
theorem cnt_er (A : Option Addr) (c : Nat) (L : List Tok) (i : Nat) (w : World) (hg : G5 w w) (ht : Toks w A L) (hs : ∀ t ∈ L, t.s.length ≤ maxLen) (h : greatF L = false) (hv : askF L i = 0) (v : Int) (q : List Tok) (hr : Rd (.line 0) (L.drop i) (.er v q)) :
    Calls Tryd.prog 5 #[.slice A L.length c, .int .i64 i] w fun e w' => e = .returned (.bool true) ∧ G5 w w' := by
  obtain ⟨hck, _, hi⟩ := ask_zero hv
  have h200 := (chk_zero hck).1
  have hL : L.length ≤ maxLen := by unfold maxLen; omega
  have HG := Lib.hid hg
  have HA := Lib.hid (great_any A c L w hL ht false h)
  have HK := Lib.hid (asked_any A c L.length L i w rfl hL ht hs 0 hv)
  have HP := Lib.hid (fun (W : World) (hW : G5 w W) => parse_g A c L.length L i _ rfl hs hck (by omega) hr w W hW (ht.below hW.1))
  have hvb := errno_ne (hr.er_ne rfl)
  have hq := hr.suf.length_le
  rw [List.length_drop] at hq
  have hq' : q.length ≤ L.length - i := hq
  unfold PPost at HP
  simp only at HP
  have hj1 : i ≤ L.length - q.length := by omega
  have hj2 : L.length - q.length ≤ L.length := by omega
  generalize L.length - q.length = j at HP hj1 hj2
  clear hg h ht hs hv hr hq hq' hck
  generalize L.length = n at HA HK HP hL h200 hi hj2
  go_enter Tryd.func5, Tryd.ntmps5
  go_wp2_with (first
    | (go_at_call 16; refine HA.out.mono ?_; rintro e w' ⟨rfl, rfl⟩)
    | (go_at_call 17; refine HK.out.mono ?_; rintro e w1 ⟨rfl, hb⟩; have HG1 := Lib.hid (HG.out.step hb); clear hb)
    | (go_at_call 10; refine (HP.out _ HG1.out).mono ?_; rintro e w2 ⟨⟨_, rfl⟩, hg⟩; have HG2 := Lib.hid hg; clear hg)
    | (go_at_call 12; refine (alive_g w _ HG2.out).mono ?_; rintro e w' ⟨rfl, hg⟩; have HG3 := Lib.hid hg; clear hg))
  go_ret
  exact ⟨rfl, HG3.out⟩
end Go.Proofs.YtoobggcopoljcaaDoor
