
/- The operator that stands next. -/
import Derived.Test.YtfnkofcgjbakeaaDoorEMem
import Derived.Deep.LoopGhost
namespace Go.Proofs.YtfnkofcgjbakeaaDoor
open Go.ChangeShapes Go.WideShapes Go.ChangeAt Go.RowKit N4
set_option linter.unusedVariables false
set_option maxRecDepth 100000

def opPost (o : Option Int) (w : World) (e : Ending) (w' : World) : Prop :=
  e = .returned (.tuple #[.int .u8 (o.getD 0), .bool o.isSome]) ∧ ∃ n, w' = w.drewN n
theorem op_table (m : Nat) (h : m < 13) : opT[m]? = some (opB (7 + (m : Int))) := by
  have : ∀ m : Fin 13, opT[m.val]? = some (opB (7 + (m.val : Int))) := by decide
  exact this ⟨m, h⟩
theorem beq_bytes {s t : List UInt8} (h : s = t) : ((bytesOf s).toList == (bytesOf t).toList) = true := by subst h; simp
theorem bne_bytes {s t : List UInt8} (h : ¬ s = t) : ((bytesOf s).toList == (bytesOf t).toList) = false := by
  rw [bytesOf_toList, bytesOf_toList]; simpa using h
set_option maxHeartbeats 2000000 in
theorem operator_any (w0 : World) (L : List Tok) (A : Option Addr) (c b : Nat) (s : List Tok) (w : World) (f : Fx w0 L A c b) (h : PS w0 L A c b s w)
    (lo hi : Nat) (hh : lo ≤ hi) (hi2 : hi < 13) (o : Option Int) (ho : opOf (7 + (lo : Int)) (7 + (hi : Int)) (txt s) = o) :
    Calls Tryd.prog 83 #[.pointer (some ⟨b, 0, none⟩), .int .u8 (7 + (lo : Int)), .int .u8 (7 + (hi : Int))] w (opPost o w) := by
  have HN := Lib.hid (fun (W : World) (h' : PS w0 L A c b s W) k => Calls.quiet_of (next_any w0 L A c b s (W.drewN k) f (h'.drewN k)))
  have HC := Lib.hid (fun (W : World) (h' : PS w0 L A c b s W) (m : Nat) (hm : m < 13) => (h'.tabs f).1.cellAt (op_table m hm))
  have HL := Lib.hid (fun (W : World) (h' : PS w0 L A c b s W) => (h'.tabs f).1.lt)
  have HO := Lib.hid ho
  clear ho f
  go_enter Tryd.func83, Tryd.ntmps83
  go_wp2
  go_loopg [8] (hi + 1 - lo) (fun g i wx => ∃ m : Nat, m + g = hi + 1 ∧ i = .int .u8 (7 + (m : Int)) ∧ opFrom g (7 + (m : Int)) (txt s) = o ∧ Hid (PS w0 L A c b s wx) ∧ ∃ n, wx = w.drewN n)
  case atStart => exact ⟨lo, by omega, rfl, by rw [← HO.out, opOf]; congr 1; omega, Lib.hid h, 0, rfl⟩
  case round =>
    clear h
    obtain ⟨m, hm, rfl, hd, HP, n, hn0⟩ := hrel
    have hn := Lib.hid hn0
    clear hn0
    have HD := Lib.hid hd
    clear hd
    cases gk with
    | zero =>
      obtain rfl : m = hi + 1 := by omega
      clear hm
      go_wp2
      go_ret2
      exact ⟨by rw [← HD.out]; rfl, n, hn.out⟩
    | succ g =>
      have hml : m < 13 := by omega
      have hcell := HC.out _ HP.out m hml
      have hlt := HL.out _ HP.out
      have HQ := Lib.hid (HN.out _ HP.out)
      by_cases he : txt s = opB (7 + (m : Int))
      · have HE := Lib.hid (show opFrom (g + 1) (7 + (m : Int)) (txt s) = some (7 + (m : Int)) by rw [opFrom, if_pos he])
        have hbq := beq_bytes he
        clear he
        go_wp2
        go_quiet ((go_at_call 88; with_reducible exact HQ.out _))
        go_wp2
        go_ret2
        exact ⟨by rw [← HD.out, HE.out]; rfl, _, by rw [hn.out]; exact World.drewN_drewN _ _ _⟩
      · have HE := Lib.hid (show opFrom (g + 1) (7 + (m : Int)) (txt s) = opFrom g (7 + ((m + 1 : Nat) : Int)) (txt s) by rw [opFrom, if_neg he, show (7 + (m : Int)) + 1 = 7 + ((m + 1 : Nat) : Int) by omega])
        have hbq := bne_bytes he
        clear he
        go_wp2
        go_quiet ((go_at_call 88; with_reducible exact HQ.out _))
        go_wp2
        go_roundg g
        case measure => omega
        case rel => exact ⟨m + 1, by omega, by go_num, by rw [← HE.out]; exact HD.out, Lib.hid (HP.out.drewN _), _, by rw [hn.out]; exact World.drewN_drewN _ _ _⟩
end Go.Proofs.YtfnkofcgjbakeaaDoor
