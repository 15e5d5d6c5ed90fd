
/- A node without parts. -/
import Derived.Test.YtfnkofcgjbakeaaDoorEMem
import Derived.Deep.LoopGhost
namespace Go.Proofs.YtfnkofcgjbakeaaDoor
open Go.ChangeShapes Go.WideShapes Go.ChangeAt Go.RowKit N4
set_option linter.unusedVariables false
set_option maxRecDepth 100000

def fldB (k : Nat) : List UInt8 := (fldT[k]?).getD []
def fldFrom : Nat → Nat → List UInt8 → Int
  | 0, _, _ => -1
  | f + 1, k, s => if s = fldB k then (k : Int) else fldFrom f (k + 1) s
theorem fld_table (m : Nat) (h : m < 3) : fldT[m]? = some (fldB m) := by
  have : ∀ m : Fin 3, fldT[m.val]? = some (fldB m.val) := by decide
  exact this ⟨m, h⟩
theorem fbeq {s t : List UInt8} (h : s = t) : ((bytesOf s).toList == (bytesOf t).toList) = true := by subst h; simp
theorem fbne {s t : List UInt8} (h : ¬ s = t) : ((bytesOf s).toList == (bytesOf t).toList) = false := by
  rw [bytesOf_toList, bytesOf_toList]; simpa using h
set_option maxHeartbeats 2000000 in
theorem index_any (s : List UInt8) (w : World) (h : Tab5 w) (o : Int) (ho : fldFrom 3 0 s = o) :
    Calls Tryd.prog 112 #[.slice (some ⟨1, 0, none⟩) 3 3, .string (bytesOf s)] w fun e w' => e = .returned (.int .i64 o) ∧ w = w' := by
  have HC := Lib.hid (fun (m : Nat) (hm : m < 3) => h.2.cellAt (fld_table m hm))
  have hlt := h.2.lt
  have HO := Lib.hid ho
  clear ho h
  go_enter Tryd.func112, Tryd.ntmps112
  go_wp2
  go_loopg [8] 3 (fun g i wx => ∃ m : Nat, m + g = 3 ∧ i = .int .i64 (m : Int) ∧ fldFrom g m s = o ∧ wx = w)
  case atStart => exact ⟨0, by omega, rfl, HO.out, rfl⟩
  case round =>
    obtain ⟨m, hm, rfl, hd, rfl⟩ := hrel
    have HD := Lib.hid hd
    clear hd
    cases gk with
    | zero =>
      obtain rfl : m = 3 := by omega
      clear hm
      go_wp2
      go_ret
      exact ⟨by rw [← HD.out]; rfl, rfl⟩
    | succ g =>
      have hml : m < 3 := by omega
      have hcell := HC.out m hml
      by_cases he : s = fldB m
      · have HE := Lib.hid (show fldFrom (g + 1) m s = (m : Int) by rw [fldFrom, if_pos he])
        have hbq := fbeq he
        clear he
        go_wp2
        go_ret
        exact ⟨by rw [← HD.out, HE.out]; rfl, rfl⟩
      · have HE := Lib.hid (show fldFrom (g + 1) m s = fldFrom g (m + 1) s by rw [fldFrom, if_neg he])
        have hbq := fbne he
        clear he
        go_wp2
        go_roundg g
        case measure => omega
        case rel => exact ⟨m + 1, by omega, by go_num, by rw [← HE.out]; exact HD.out, rfl⟩

def leafPost (o : Option (Int × Int)) (w : World) (e : Ending) (w' : World) : Prop :=
  e = .returned (.tuple #[.int .u8 (o.getD (0, 0)).1, .int .i64 (o.getD (0, 0)).2, .bool o.isSome]) ∧ w = w'
theorem leaf_word (s : List UInt8) (w : World) (x y : Int) (hy : y ≠ 0) (HR : Hid (Calls Tryd.prog 33 #[.string (bytesOf s)] w fun e w' => e = .returned (.tuple #[.int .i64 x, .int .i64 y]) ∧ w = w')) (h : Tab5 w) (he : rdErr s ≠ 0) (o : Option (Int × Int)) (ho : leafOf s = o) :
    Calls Tryd.prog 111 #[.string (bytesOf s)] w (leafPost o w) := by
  have HI := Lib.hid (index_any s w h)
  have hlt := h.2.lt
  clear h
  rw [leafOf, if_neg he] at ho
  clear he
  have key : ∀ v : Int, fldFrom 3 0 s = v → (v < 0 → o = none) ∧ (¬ v < 0 → v ≤ 2 ∧ o = some (2 + v, 0)) := by
    intro v hv
    simp only [fldFrom, show fldB 0 = [107] from rfl, show fldB (0 + 1) = [116] from rfl, show fldB (0 + 1 + 1) = [118] from rfl] at hv
    by_cases h1 : s = [107]
    · rw [if_pos h1] at hv ho; subst hv ho; exact ⟨fun h => by omega, fun _ => ⟨by omega, rfl⟩⟩
    · rw [if_neg h1] at hv ho
      by_cases h2 : s = [116]
      · rw [if_pos h2] at hv ho; subst hv ho; exact ⟨fun h => by omega, fun _ => ⟨by omega, rfl⟩⟩
      · rw [if_neg h2] at hv ho
        by_cases h3 : s = [118]
        · rw [if_pos h3] at hv ho; subst hv ho; exact ⟨fun h => by omega, fun _ => ⟨by omega, rfl⟩⟩
        · rw [if_neg h3] at hv ho; subst hv ho; exact ⟨fun _ => rfl, fun h => by omega⟩
  obtain ⟨v, hv⟩ : ∃ v, fldFrom 3 0 s = v := ⟨_, rfl⟩
  have HV := Lib.hid hv
  have hk := key v hv
  clear key hv ho
  by_cases h0 : v < 0
  · obtain rfl := hk.1 h0
    clear hk
    go_enter Tryd.func111, Tryd.ntmps111
    go_wp2_with (first | (go_at_call 33; refine HR.out.mono ?_; rintro e w' ⟨rfl, rfl⟩) | (go_at_call 112; refine (HI.out v HV.out).mono ?_; rintro e w' ⟨rfl, rfl⟩))
    go_ret3
    exact ⟨rfl, rfl⟩
  · obtain ⟨h2, rfl⟩ := hk.2 h0
    clear hk
    go_enter Tryd.func111, Tryd.ntmps111
    go_wp2_with (first | (go_at_call 33; refine HR.out.mono ?_; rintro e w' ⟨rfl, rfl⟩) | (go_at_call 112; refine (HI.out v HV.out).mono ?_; rintro e w' ⟨rfl, rfl⟩))
    go_ret3
    exact ⟨rfl, rfl⟩
theorem leaf_any (s : List UInt8) (w : World) (hs : s.length ≤ maxLen) (h : Tab5 w) (o : Option (Int × Int)) (ho : leafOf s = o) :
    Calls Tryd.prog 111 #[.string (bytesOf s)] w (leafPost o w) := by
  have hsz : (bytesOf s).size ≤ maxLen := by rw [bytesOf_size]; exact hs
  by_cases hd : (allDig s && !s.isEmpty) = true
  · have HR := Lib.hid (read_dig (bytesOf s) w hsz (by rw [bytesOf_list]; exact hd))
    rw [bytesOf_list] at HR
    by_cases hv : val s ≤ 9223372036854775807
    · have hN : rdN s = (val s : Nat) := by rw [rdN, if_pos hv]
      have hE : rdE s = 0 := by rw [rdE, if_pos hv]
      rw [hN, hE] at HR
      have HO : leafOf s = some (1, ((val s : Nat) : Int)) := by rw [leafOf, rdErr, if_pos hd, hE, if_pos rfl]
      rw [HO] at ho
      subst ho
      clear hN hE hd HO h
      generalize hvv : ((val s : Nat) : Int) = v at HR
      clear hvv hv
      go_enter Tryd.func111, Tryd.ntmps111
      go_wp2_with (go_at_call 33; refine HR.out.mono ?_; rintro e w' ⟨rfl, rfl⟩)
      go_ret3
      exact ⟨rfl, rfl⟩
    · have hE : rdE s = 16 := by rw [rdE, if_neg hv]
      rw [hE] at HR
      exact leaf_word s w _ 16 (by decide) HR h (by rw [rdErr, if_pos hd, hE]; decide) o ho
  · have HR := Lib.hid (read_form (bytesOf s) w hsz (by rw [bytesOf_list]; simpa using hd))
    exact leaf_word s w _ 12 (by decide) HR h (by rw [rdErr, if_neg hd]; decide) o ho
end Go.Proofs.YtfnkofcgjbakeaaDoor
