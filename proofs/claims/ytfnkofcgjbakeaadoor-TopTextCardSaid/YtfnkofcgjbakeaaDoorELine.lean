
/- Every line of the grammar. -/
import Derived.Test.YtfnkofcgjbakeaaDoorEPrim
namespace Go.Proofs.YtfnkofcgjbakeaaDoor
open Go.ChangeShapes Go.WideShapes Go.ChangeAt Go.RowKit N4
set_option linter.unusedVariables false
set_option maxRecDepth 100000

theorem ln_expr (w0 : World) (L : List Tok) (A : Option Addr) (c b N : Nat) (f : Fx w0 L A c b) (H : LineC w0 L A c b 73 1 N) : LineC w0 L A c b 55 0 N := by
  intro s r w hs hr h
  have hlt := h.rd.lt
  have HC := Lib.hid (show Calls Tryd.prog 72 #[.pointer (some ⟨b, 0, none⟩), .int .u8 19, .int .u8 19, .func (.func 73) #[.pointer (some ⟨b, 0, none⟩)] #[]] w (LPost L A c b r w) from
    chain_any w0 L A c b 73 0 N f (fun args W => Tryd.call73 args W) (by decide) (by decide) H 12 12 rfl rfl (by omega) (by omega) s r w hs hr h)
  clear H h hr hs f
  cases r with
  | er v q =>
    go_enter Tryd.func55, Tryd.ntmps55
    go_wp2_with (go_at_call 72; refine HC.out.mono ?_; rintro e w2 ⟨hk, hr, rfl⟩; have HK := Lib.hid hk; have HR := Lib.hid hr; clear hk hr)
    go_ret2
    exact ⟨HK.out, HR.out, rfl⟩
  | ok t q =>
    go_enter Tryd.func55, Tryd.ntmps55
    go_wp2_with (go_at_call 72; refine HC.out.mono ?_; rintro e w2 ⟨hk, hr, A', c', rfl, hl⟩; have HK := Lib.hid hk; have HR := Lib.hid hr; have HL := Lib.hid hl; clear hk hr hl)
    go_ret2
    exact ⟨HK.out, HR.out, A', c', rfl, HL.out⟩
theorem ln_and (w0 : World) (L : List Tok) (A : Option Addr) (c b N : Nat) (f : Fx w0 L A c b) (H : LineC w0 L A c b 85 2 N) : LineC w0 L A c b 73 1 N := by
  intro s r w hs hr h
  have hlt := h.rd.lt
  have HC := Lib.hid (show Calls Tryd.prog 72 #[.pointer (some ⟨b, 0, none⟩), .int .u8 18, .int .u8 18, .func (.func 85) #[.pointer (some ⟨b, 0, none⟩)] #[]] w (LPost L A c b r w) from
    chain_any w0 L A c b 85 1 N f (fun args W => Tryd.call85 args W) (by decide) (by decide) H 11 11 rfl rfl (by omega) (by omega) s r w hs hr h)
  clear H h hr hs f
  cases r with
  | er v q =>
    go_enter Tryd.func73, Tryd.ntmps73
    go_wp2_with (go_at_call 72; refine HC.out.mono ?_; rintro e w2 ⟨hk, hr, rfl⟩; have HK := Lib.hid hk; have HR := Lib.hid hr; clear hk hr)
    go_ret2
    exact ⟨HK.out, HR.out, rfl⟩
  | ok t q =>
    go_enter Tryd.func73, Tryd.ntmps73
    go_wp2_with (go_at_call 72; refine HC.out.mono ?_; rintro e w2 ⟨hk, hr, A', c', rfl, hl⟩; have HK := Lib.hid hk; have HR := Lib.hid hr; have HL := Lib.hid hl; clear hk hr hl)
    go_ret2
    exact ⟨HK.out, HR.out, A', c', rfl, HL.out⟩
theorem ln_shift (w0 : World) (L : List Tok) (A : Option Addr) (c b N : Nat) (f : Fx w0 L A c b) (H : LineC w0 L A c b 99 5 N) : LineC w0 L A c b 94 4 N := by
  intro s r w hs hr h
  have hlt := h.rd.lt
  have HC := Lib.hid (show Calls Tryd.prog 72 #[.pointer (some ⟨b, 0, none⟩), .int .u8 10, .int .u8 11, .func (.func 99) #[.pointer (some ⟨b, 0, none⟩)] #[]] w (LPost L A c b r w) from
    chain_any w0 L A c b 99 4 N f (fun args W => Tryd.call99 args W) (by decide) (by decide) H 3 4 rfl rfl (by omega) (by omega) s r w hs hr h)
  clear H h hr hs f
  cases r with
  | er v q =>
    go_enter Tryd.func94, Tryd.ntmps94
    go_wp2_with (go_at_call 72; refine HC.out.mono ?_; rintro e w2 ⟨hk, hr, rfl⟩; have HK := Lib.hid hk; have HR := Lib.hid hr; clear hk hr)
    go_ret2
    exact ⟨HK.out, HR.out, rfl⟩
  | ok t q =>
    go_enter Tryd.func94, Tryd.ntmps94
    go_wp2_with (go_at_call 72; refine HC.out.mono ?_; rintro e w2 ⟨hk, hr, A', c', rfl, hl⟩; have HK := Lib.hid hk; have HR := Lib.hid hr; have HL := Lib.hid hl; clear hk hr hl)
    go_ret2
    exact ⟨HK.out, HR.out, A', c', rfl, HL.out⟩
theorem ln_sum (w0 : World) (L : List Tok) (A : Option Addr) (c b N : Nat) (f : Fx w0 L A c b) (H : LineC w0 L A c b 105 6 N) : LineC w0 L A c b 99 5 N := by
  intro s r w hs hr h
  have hlt := h.rd.lt
  have HC := Lib.hid (show Calls Tryd.prog 72 #[.pointer (some ⟨b, 0, none⟩), .int .u8 8, .int .u8 9, .func (.func 105) #[.pointer (some ⟨b, 0, none⟩)] #[]] w (LPost L A c b r w) from
    chain_any w0 L A c b 105 5 N f (fun args W => Tryd.call105 args W) (by decide) (by decide) H 1 2 rfl rfl (by omega) (by omega) s r w hs hr h)
  clear H h hr hs f
  cases r with
  | er v q =>
    go_enter Tryd.func99, Tryd.ntmps99
    go_wp2_with (go_at_call 72; refine HC.out.mono ?_; rintro e w2 ⟨hk, hr, rfl⟩; have HK := Lib.hid hk; have HR := Lib.hid hr; clear hk hr)
    go_ret2
    exact ⟨HK.out, HR.out, rfl⟩
  | ok t q =>
    go_enter Tryd.func99, Tryd.ntmps99
    go_wp2_with (go_at_call 72; refine HC.out.mono ?_; rintro e w2 ⟨hk, hr, A', c', rfl, hl⟩; have HK := Lib.hid hk; have HR := Lib.hid hr; have HL := Lib.hid hl; clear hk hr hl)
    go_ret2
    exact ⟨HK.out, HR.out, A', c', rfl, HL.out⟩
theorem ln_product (w0 : World) (L : List Tok) (A : Option Addr) (c b N : Nat) (f : Fx w0 L A c b) (H : LineC w0 L A c b 108 7 N) : LineC w0 L A c b 105 6 N := by
  intro s r w hs hr h
  have hlt := h.rd.lt
  have HC := Lib.hid (show Calls Tryd.prog 72 #[.pointer (some ⟨b, 0, none⟩), .int .u8 7, .int .u8 7, .func (.func 108) #[.pointer (some ⟨b, 0, none⟩)] #[]] w (LPost L A c b r w) from
    chain_any w0 L A c b 108 6 N f (fun args W => Tryd.call108 args W) (by decide) (by decide) H 0 0 rfl rfl (by omega) (by omega) s r w hs hr h)
  clear H h hr hs f
  cases r with
  | er v q =>
    go_enter Tryd.func105, Tryd.ntmps105
    go_wp2_with (go_at_call 72; refine HC.out.mono ?_; rintro e w2 ⟨hk, hr, rfl⟩; have HK := Lib.hid hk; have HR := Lib.hid hr; clear hk hr)
    go_ret2
    exact ⟨HK.out, HR.out, rfl⟩
  | ok t q =>
    go_enter Tryd.func105, Tryd.ntmps105
    go_wp2_with (go_at_call 72; refine HC.out.mono ?_; rintro e w2 ⟨hk, hr, A', c', rfl, hl⟩; have HK := Lib.hid hk; have HR := Lib.hid hr; have HL := Lib.hid hl; clear hk hr hl)
    go_ret2
    exact ⟨HK.out, HR.out, A', c', rfl, HL.out⟩
theorem ln_not (w0 : World) (L : List Tok) (A : Option Addr) (c b N : Nat) (f : Fx w0 L A c b) (H : LineC w0 L A c b 91 3 N) : LineC w0 L A c b 85 2 N := by
  intro s r w hs hr h
  have hlt := h.rd.lt
  have HC := Lib.hid (show Calls Tryd.prog 90 #[.pointer (some ⟨b, 0, none⟩), .string ⟨#[110, 111, 116]⟩, .int .u8 6, .func (.func 91) #[.pointer (some ⟨b, 0, none⟩)] #[]] w (LPost L A c b r w) from
    prefixed_any w0 L A c b 91 2 N f (fun args W => Tryd.call91 args W) (by decide) H s r w hs hr h)
  clear H h hr hs f
  cases r with
  | er v q =>
    go_enter Tryd.func85, Tryd.ntmps85
    go_wp2_with (go_at_call 90; refine HC.out.mono ?_; rintro e w2 ⟨hk, hr, rfl⟩; have HK := Lib.hid hk; have HR := Lib.hid hr; clear hk hr)
    go_ret2
    exact ⟨HK.out, HR.out, rfl⟩
  | ok t q =>
    go_enter Tryd.func85, Tryd.ntmps85
    go_wp2_with (go_at_call 90; refine HC.out.mono ?_; rintro e w2 ⟨hk, hr, A', c', rfl, hl⟩; have HK := Lib.hid hk; have HR := Lib.hid hr; have HL := Lib.hid hl; clear hk hr hl)
    go_ret2
    exact ⟨HK.out, HR.out, A', c', rfl, HL.out⟩
theorem ln_unary (w0 : World) (L : List Tok) (A : Option Addr) (c b N : Nat) (f : Fx w0 L A c b) (H : LineC w0 L A c b 109 8 N) : LineC w0 L A c b 108 7 N := by
  intro s r w hs hr h
  have hlt := h.rd.lt
  have HC := Lib.hid (show Calls Tryd.prog 90 #[.pointer (some ⟨b, 0, none⟩), .string ⟨#[45]⟩, .int .u8 5, .func (.func 109) #[.pointer (some ⟨b, 0, none⟩)] #[]] w (LPost L A c b r w) from
    prefixed_any w0 L A c b 109 7 N f (fun args W => Tryd.call109 args W) (by decide) H s r w hs hr h)
  clear H h hr hs f
  cases r with
  | er v q =>
    go_enter Tryd.func108, Tryd.ntmps108
    go_wp2_with (go_at_call 90; refine HC.out.mono ?_; rintro e w2 ⟨hk, hr, rfl⟩; have HK := Lib.hid hk; have HR := Lib.hid hr; clear hk hr)
    go_ret2
    exact ⟨HK.out, HR.out, rfl⟩
  | ok t q =>
    go_enter Tryd.func108, Tryd.ntmps108
    go_wp2_with (go_at_call 90; refine HC.out.mono ?_; rintro e w2 ⟨hk, hr, A', c', rfl, hl⟩; have HK := Lib.hid hk; have HR := Lib.hid hr; have HL := Lib.hid hl; clear hk hr hl)
    go_ret2
    exact ⟨HK.out, HR.out, A', c', rfl, HL.out⟩

theorem all_lines (w0 : World) (L : List Tok) (A : Option Addr) (c b N : Nat) (f : Fx w0 L A c b) (H8 : LineC w0 L A c b 109 8 N) : LineC w0 L A c b 55 0 N :=
  ln_expr w0 L A c b N f (ln_and w0 L A c b N f (ln_not w0 L A c b N f (fun s r w hs hr h => compare_any w0 L A c b N f (ln_shift w0 L A c b N f (ln_sum w0 L A c b N f (ln_product w0 L A c b N f (ln_unary w0 L A c b N f H8)))) s r w hs hr h)))
theorem expr_any (w0 : World) (L : List Tok) (A : Option Addr) (c b : Nat) (f : Fx w0 L A c b) : ∀ N, LineC w0 L A c b 55 0 N := by
  intro N
  induction N with
  | zero => exact all_lines w0 L A c b 0 f (fun s r w hs hr h => primary_any w0 L A c b 0 f s (fun h1 => by omega) r w (by omega) hr h)
  | succ N ih => exact all_lines w0 L A c b _ f (fun s r w hs hr h => primary_any w0 L A c b N f s (fun _ => ih) r w hs hr h)
end Go.Proofs.YtfnkofcgjbakeaaDoor
