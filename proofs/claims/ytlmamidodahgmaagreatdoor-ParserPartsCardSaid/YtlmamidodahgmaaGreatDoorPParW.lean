/- ParserParts walks to true. -/
import Derived.Test.YtlmamidodahgmaaGreatDoorPPar3
namespace Go.Proofs.YtlmamidodahgmaaGreatDoor.P9
open Go.ChangeShapes Go.WideShapes Go.ChangeAt Go.RowKit N4 Q8
set_option linter.unusedVariables false
set_option maxRecDepth 100000

theorem ParserParts_walk (g : Int) (A : Option Addr) (c : Nat) (L : List Nd) (S : Option Addr) (d : Nat) (l : List Int) (j : Bool) (B : Option Addr) (e : Nat) (M : List Nd) (k s v : Int) (y : Bool) (t : Int) (w : World) (h : QO w A c L S d l B e M s v t) (hp : Pow w) (hT : T9 w) : Calls Tryz.prog 4 #[.agg #[.int .u8 g, .slice A L.length c, .slice S l.length d, .bool j, .slice B M.length e, .int .u8 k, .int .i64 s, .int .i64 v, .bool y, .int .u8 t]] w fun ee w' => ee = .returned (.bool true) ∧ Below w.heap.size w w' := by
  cases hgr : greatQ L.length M.length l.length
  · by_cases hck : Q8.chkF ⟨g, L, l, j, M, k, s, v, y, t⟩ = 0
    · have hbg := h.2.2.2.2.2.2.2
      obtain ⟨ta, tm, htr⟩ := trees_of hck hbg.2.1 hbg.2.2
      rcases text_ways htr with ⟨hb, hpf⟩ | ⟨hb, n, ha, hpf⟩ | ⟨hb, K, q1, ca, cf, cw, cn, ck, cl, ha, hpf, hal, hs⟩
      · exact prt_big g A c L S d l j B e M k s v y t w h hT hp hgr hck ta tm htr _ rfl hb hpf
      · exact prt_many g A c L S d l j B e M k s v y t w h hT hp hgr hck ta tm htr _ rfl hb n ha hpf
      · exact prt_go g A c L S d l j B e M k s v y t w h hT hp hgr hck ta tm htr _ rfl hb K q1 ha hpf hal hs.long (fun hg => by obtain ⟨t, p, h1, h2, _⟩ := hs.arg hg; exact ⟨t, p, h1, h2⟩) (fun i x hi hx => hs.whr hi hx)
    · exact prt_no2 g A c L S d l j B e M k s v y t w h hT hgr hck
  · exact prt_no1 g A c L S d l j B e M k s v y t w h hT hgr
end Go.Proofs.YtlmamidodahgmaaGreatDoor.P9
