/- ParserExact walks to true. -/
import Derived.Test.YtlmamidodahgmaaGreatDoorPExa
namespace Go.Proofs.YtlmamidodahgmaaGreatDoor.P9
open Go.ChangeShapes Go.WideShapes Go.ChangeAt Go.RowKit N4 Q8
set_option linter.unusedVariables false
set_option maxRecDepth 100000

theorem ParserExact_walk (g : Int) (A : Option Addr) (c : Nat) (L : List Nd) (S : Option Addr) (d : Nat) (l : List Int) (j : Bool) (B : Option Addr) (e : Nat) (M : List Nd) (k s v : Int) (y : Bool) (t : Int) (a : Int) (w : World) (h : QO w A c L S d l B e M s v t) (_ : (Lit.int IntKind.i64 a).wf = true) (hp : Pow w) (hT : T9 w) : Calls Tryz.prog 3 #[.agg #[.int .u8 g, .slice A L.length c, .slice S l.length d, .bool j, .slice B M.length e, .int .u8 k, .int .i64 s, .int .i64 v, .bool y, .int .u8 t], .int .i64 a] w fun ee w' => ee = .returned (.bool true) ∧ Below w.heap.size w w' := by
  cases hgr : greatQ L.length M.length l.length
  · by_cases hck : Q8.chkF ⟨g, L, l, j, M, k, s, v, y, t⟩ = 0
    · by_cases ha : 0 ≤ a
      · have hbg := h.2.2.2.2.2.2.2
        obtain ⟨ta, tm, htr⟩ := trees_of hck hbg.2.1 hbg.2.2
        rcases text_ways htr with ⟨hb, hpf⟩ | ⟨hb, n, hal, hpf⟩ | ⟨hb, K, q1, ca, cf, cw, cn, ck, cl, hal, hpf, haq, hs⟩
        · exact exa_big g A c L S d l j B e M k s v y t a w h hT hp hgr hck ta tm htr _ rfl ha hb hpf
        · exact exa_many g A c L S d l j B e M k s v y t a w h hT hp hgr hck ta tm htr _ rfl ha hb n hal hpf
        · exact exa_go g A c L S d l j B e M k s v y t a w h hT hp hgr hck ta tm htr _ rfl ha hb K q1 hal hpf haq hs.long (fun i X f hi hj => cut_par hal hs haq hi hj)
      · exact exa_no3 g A c L S d l j B e M k s v y t a w h hT hgr hck (by omega)
    · exact exa_no2 g A c L S d l j B e M k s v y t a w h hT hgr hck
  · exact exa_no1 g A c L S d l j B e M k s v y t a w h hT hgr
end Go.Proofs.YtlmamidodahgmaaGreatDoor.P9
