/- Every line of the grammar. -/
import Derived.Test.YtoobggcopoljcaaDoorEPrim
namespace Go.Proofs.YtoobggcopoljcaaDoor
open Go.ChangeShapes Go.WideShapes Go.ChangeAt Go.RowKit N4
set_option linter.unusedVariables false
set_option maxRecDepth 100000

theorem ln_expr (w0 : World) (L : List Tok) (A : Option Addr) (c b N : Nat) (f : Fx w0 L A c b) (H : LineC w0 L A c b 49 1 N) : LineC w0 L A c b 30 0 N := by
  intro s r w hs hr h
  have hlt := h.rd.lt
  have HC := Lib.hid (show Calls Tryd.prog 48 #[.pointer (some ⟨b, 0, none⟩), .int .u8 19, .int .u8 19, .func (.func 49) #[.pointer (some ⟨b, 0, none⟩)] #[]] w (LPost L A c b r w) from
    chain_any w0 L A c b 49 0 N f (fun args W => Tryd.call49 args W) (by decide) (by decide) H 12 12 rfl rfl (by omega) (by omega) s r w hs hr h)
  clear H h hr hs f
  cases r with
  | er v q =>
    go_enter Tryd.func30, Tryd.ntmps30
    go_wp2_with (go_at_call 48; refine HC.out.mono ?_; rintro e w2 ⟨hk, hr, rfl⟩; have HK := Lib.hid hk; have HR := Lib.hid hr; clear hk hr)
    go_ret2
    exact ⟨HK.out, HR.out, rfl⟩
  | ok t q =>
    go_enter Tryd.func30, Tryd.ntmps30
    go_wp2_with (go_at_call 48; refine HC.out.mono ?_; rintro e w2 ⟨hk, hr, A', c', rfl, hl⟩; have HK := Lib.hid hk; have HR := Lib.hid hr; have HL := Lib.hid hl; clear hk hr hl)
    go_ret2
    exact ⟨HK.out, HR.out, A', c', rfl, HL.out⟩
theorem ln_and (w0 : World) (L : List Tok) (A : Option Addr) (c b N : Nat) (f : Fx w0 L A c b) (H : LineC w0 L A c b 69 2 N) : LineC w0 L A c b 49 1 N := by
  intro s r w hs hr h
  have hlt := h.rd.lt
  have HC := Lib.hid (show Calls Tryd.prog 48 #[.pointer (some ⟨b, 0, none⟩), .int .u8 18, .int .u8 18, .func (.func 69) #[.pointer (some ⟨b, 0, none⟩)] #[]] w (LPost L A c b r w) from
    chain_any w0 L A c b 69 1 N f (fun args W => Tryd.call69 args W) (by decide) (by decide) H 11 11 rfl rfl (by omega) (by omega) s r w hs hr h)
  clear H h hr hs f
  cases r with
  | er v q =>
    go_enter Tryd.func49, Tryd.ntmps49
    go_wp2_with (go_at_call 48; refine HC.out.mono ?_; rintro e w2 ⟨hk, hr, rfl⟩; have HK := Lib.hid hk; have HR := Lib.hid hr; clear hk hr)
    go_ret2
    exact ⟨HK.out, HR.out, rfl⟩
  | ok t q =>
    go_enter Tryd.func49, Tryd.ntmps49
    go_wp2_with (go_at_call 48; refine HC.out.mono ?_; rintro e w2 ⟨hk, hr, A', c', rfl, hl⟩; have HK := Lib.hid hk; have HR := Lib.hid hr; have HL := Lib.hid hl; clear hk hr hl)
    go_ret2
    exact ⟨HK.out, HR.out, A', c', rfl, HL.out⟩
theorem ln_shift (w0 : World) (L : List Tok) (A : Option Addr) (c b N : Nat) (f : Fx w0 L A c b) (H : LineC w0 L A c b 85 5 N) : LineC w0 L A c b 80 4 N := by
  intro s r w hs hr h
  have hlt := h.rd.lt
  have HC := Lib.hid (show Calls Tryd.prog 48 #[.pointer (some ⟨b, 0, none⟩), .int .u8 10, .int .u8 11, .func (.func 85) #[.pointer (some ⟨b, 0, none⟩)] #[]] w (LPost L A c b r w) from
    chain_any w0 L A c b 85 4 N f (fun args W => Tryd.call85 args W) (by decide) (by decide) H 3 4 rfl rfl (by omega) (by omega) s r w hs hr h)
  clear H h hr hs f
  cases r with
  | er v q =>
    go_enter Tryd.func80, Tryd.ntmps80
    go_wp2_with (go_at_call 48; refine HC.out.mono ?_; rintro e w2 ⟨hk, hr, rfl⟩; have HK := Lib.hid hk; have HR := Lib.hid hr; clear hk hr)
    go_ret2
    exact ⟨HK.out, HR.out, rfl⟩
  | ok t q =>
    go_enter Tryd.func80, Tryd.ntmps80
    go_wp2_with (go_at_call 48; refine HC.out.mono ?_; rintro e w2 ⟨hk, hr, A', c', rfl, hl⟩; have HK := Lib.hid hk; have HR := Lib.hid hr; have HL := Lib.hid hl; clear hk hr hl)
    go_ret2
    exact ⟨HK.out, HR.out, A', c', rfl, HL.out⟩
theorem ln_sum (w0 : World) (L : List Tok) (A : Option Addr) (c b N : Nat) (f : Fx w0 L A c b) (H : LineC w0 L A c b 91 6 N) : LineC w0 L A c b 85 5 N := by
  intro s r w hs hr h
  have hlt := h.rd.lt
  have HC := Lib.hid (show Calls Tryd.prog 48 #[.pointer (some ⟨b, 0, none⟩), .int .u8 8, .int .u8 9, .func (.func 91) #[.pointer (some ⟨b, 0, none⟩)] #[]] w (LPost L A c b r w) from
    chain_any w0 L A c b 91 5 N f (fun args W => Tryd.call91 args W) (by decide) (by decide) H 1 2 rfl rfl (by omega) (by omega) s r w hs hr h)
  clear H h hr hs f
  cases r with
  | er v q =>
    go_enter Tryd.func85, Tryd.ntmps85
    go_wp2_with (go_at_call 48; refine HC.out.mono ?_; rintro e w2 ⟨hk, hr, rfl⟩; have HK := Lib.hid hk; have HR := Lib.hid hr; clear hk hr)
    go_ret2
    exact ⟨HK.out, HR.out, rfl⟩
  | ok t q =>
    go_enter Tryd.func85, Tryd.ntmps85
    go_wp2_with (go_at_call 48; refine HC.out.mono ?_; rintro e w2 ⟨hk, hr, A', c', rfl, hl⟩; have HK := Lib.hid hk; have HR := Lib.hid hr; have HL := Lib.hid hl; clear hk hr hl)
    go_ret2
    exact ⟨HK.out, HR.out, A', c', rfl, HL.out⟩
theorem ln_product (w0 : World) (L : List Tok) (A : Option Addr) (c b N : Nat) (f : Fx w0 L A c b) (H : LineC w0 L A c b 94 7 N) : LineC w0 L A c b 91 6 N := by
  intro s r w hs hr h
  have hlt := h.rd.lt
  have HC := Lib.hid (show Calls Tryd.prog 48 #[.pointer (some ⟨b, 0, none⟩), .int .u8 7, .int .u8 7, .func (.func 94) #[.pointer (some ⟨b, 0, none⟩)] #[]] w (LPost L A c b r w) from
    chain_any w0 L A c b 94 6 N f (fun args W => Tryd.call94 args W) (by decide) (by decide) H 0 0 rfl rfl (by omega) (by omega) s r w hs hr h)
  clear H h hr hs f
  cases r with
  | er v q =>
    go_enter Tryd.func91, Tryd.ntmps91
    go_wp2_with (go_at_call 48; refine HC.out.mono ?_; rintro e w2 ⟨hk, hr, rfl⟩; have HK := Lib.hid hk; have HR := Lib.hid hr; clear hk hr)
    go_ret2
    exact ⟨HK.out, HR.out, rfl⟩
  | ok t q =>
    go_enter Tryd.func91, Tryd.ntmps91
    go_wp2_with (go_at_call 48; refine HC.out.mono ?_; rintro e w2 ⟨hk, hr, A', c', rfl, hl⟩; have HK := Lib.hid hk; have HR := Lib.hid hr; have HL := Lib.hid hl; clear hk hr hl)
    go_ret2
    exact ⟨HK.out, HR.out, A', c', rfl, HL.out⟩
theorem ln_not (w0 : World) (L : List Tok) (A : Option Addr) (c b N : Nat) (f : Fx w0 L A c b) (H : LineC w0 L A c b 77 3 N) : LineC w0 L A c b 69 2 N := by
  intro s r w hs hr h
  have hlt := h.rd.lt
  have HC := Lib.hid (show Calls Tryd.prog 76 #[.pointer (some ⟨b, 0, none⟩), .string ⟨#[110, 111, 116]⟩, .int .u8 6, .func (.func 77) #[.pointer (some ⟨b, 0, none⟩)] #[]] w (LPost L A c b r w) from
    prefixed_any w0 L A c b 77 2 N f (fun args W => Tryd.call77 args W) (by decide) H s r w hs hr h)
  clear H h hr hs f
  cases r with
  | er v q =>
    go_enter Tryd.func69, Tryd.ntmps69
    go_wp2_with (go_at_call 76; refine HC.out.mono ?_; rintro e w2 ⟨hk, hr, rfl⟩; have HK := Lib.hid hk; have HR := Lib.hid hr; clear hk hr)
    go_ret2
    exact ⟨HK.out, HR.out, rfl⟩
  | ok t q =>
    go_enter Tryd.func69, Tryd.ntmps69
    go_wp2_with (go_at_call 76; refine HC.out.mono ?_; rintro e w2 ⟨hk, hr, A', c', rfl, hl⟩; have HK := Lib.hid hk; have HR := Lib.hid hr; have HL := Lib.hid hl; clear hk hr hl)
    go_ret2
    exact ⟨HK.out, HR.out, A', c', rfl, HL.out⟩
theorem ln_unary (w0 : World) (L : List Tok) (A : Option Addr) (c b N : Nat) (f : Fx w0 L A c b) (H : LineC w0 L A c b 95 8 N) : LineC w0 L A c b 94 7 N := by
  intro s r w hs hr h
  have hlt := h.rd.lt
  have HC := Lib.hid (show Calls Tryd.prog 76 #[.pointer (some ⟨b, 0, none⟩), .string ⟨#[45]⟩, .int .u8 5, .func (.func 95) #[.pointer (some ⟨b, 0, none⟩)] #[]] w (LPost L A c b r w) from
    prefixed_any w0 L A c b 95 7 N f (fun args W => Tryd.call95 args W) (by decide) H s r w hs hr h)
  clear H h hr hs f
  cases r with
  | er v q =>
    go_enter Tryd.func94, Tryd.ntmps94
    go_wp2_with (go_at_call 76; refine HC.out.mono ?_; rintro e w2 ⟨hk, hr, rfl⟩; have HK := Lib.hid hk; have HR := Lib.hid hr; clear hk hr)
    go_ret2
    exact ⟨HK.out, HR.out, rfl⟩
  | ok t q =>
    go_enter Tryd.func94, Tryd.ntmps94
    go_wp2_with (go_at_call 76; refine HC.out.mono ?_; rintro e w2 ⟨hk, hr, A', c', rfl, hl⟩; have HK := Lib.hid hk; have HR := Lib.hid hr; have HL := Lib.hid hl; clear hk hr hl)
    go_ret2
    exact ⟨HK.out, HR.out, A', c', rfl, HL.out⟩

theorem all_lines (w0 : World) (L : List Tok) (A : Option Addr) (c b N : Nat) (f : Fx w0 L A c b) (H8 : LineC w0 L A c b 95 8 N) : LineC w0 L A c b 30 0 N :=
  ln_expr w0 L A c b N f (ln_and w0 L A c b N f (ln_not w0 L A c b N f (fun s r w hs hr h => compare_any w0 L A c b N f (ln_shift w0 L A c b N f (ln_sum w0 L A c b N f (ln_product w0 L A c b N f (ln_unary w0 L A c b N f H8)))) s r w hs hr h)))
theorem expr_any (w0 : World) (L : List Tok) (A : Option Addr) (c b : Nat) (f : Fx w0 L A c b) : ∀ N, LineC w0 L A c b 30 0 N := by
  intro N
  induction N with
  | zero => exact all_lines w0 L A c b 0 f (fun s r w hs hr h => primary_any w0 L A c b 0 f s (fun h1 => by omega) r w (by omega) hr h)
  | succ N ih => exact all_lines w0 L A c b _ f (fun s r w hs hr h => primary_any w0 L A c b N f s (fun _ => ih) r w hs hr h)
end Go.Proofs.YtoobggcopoljcaaDoor
