/- Totals, as the grammar tells them. -/
import Derived.Test.YtpapcnogbmjpjaaGreatDoorK26
namespace Go.Proofs.YtpapcnogbmjpjaaGreatDoor
open Go.RowKit
set_option maxRecDepth 100000
set_option linter.unusedSimpArgs false
set_option linter.unusedVariables false
attribute [local go_sem] Oper.semAt_some

theorem takk_len {k en : Int} {s s1 : Rd} {t : TokV} (h : takeP' k en s = .ok t s1) : s1.T.length < s.T.length := by
  obtain ⟨L, h1, _, rfl⟩ := takk_yes h
  rw [h1]
  exact Nat.lt_succ_self _
theorem name_len {en : Int} {s s1 : Rd} {x : ByteArray} (h : nameP en s = .ok x s1) : s1.T.length < s.T.length := by
  unfold nameP at h
  split at h
  · cases ht : takeP' 1 en s with
    | ok t s2 =>
      simp only [ht] at h
      injection h with _ h
      subst h
      exact takk_len ht
    | flt a k => simp only [ht] at h; cases h
    | out => simp only [ht] at h; cases h
  · cases h
theorem sign_len {en x : Int} {s s1 : Rd} (h : signP en s = .ok x s1) : s1.T.length < s.T.length := by
  unfold signP at h
  cases h0 : skipP eqB s with
  | some s2 =>
    simp only [h0] at h
    injection h with _ h
    subst h
    exact skip_len h0
  | none =>
  cases h1 : skipP ltB s with
  | some s2 =>
    simp only [h0, h1] at h
    injection h with _ h
    subst h
    exact skip_len h1
  | none =>
  cases h2 : skipP gtB s with
  | some s2 =>
    simp only [h0, h1, h2] at h
    injection h with _ h
    subst h
    exact skip_len h2
  | none => simp only [h0, h1, h2] at h; cases h
theorem filt_len {en : Int} {s s1 : Rd} {f : FilV} (h : filtP en s = .ok f s1) : s1.T.length < s.T.length := by
  unfold filtP at h
  cases hn : nameP en s with
  | out => simp only [hn] at h; cases h
  | flt a k => simp only [hn] at h; cases h
  | ok x s2 =>
    cases hs : signP en s2 with
    | out => simp only [hn, hs] at h; cases h
    | flt a k => simp only [hn, hs] at h; cases h
    | ok y s3 =>
      cases ht : takeP' 2 en s3 with
      | out => simp only [hn, hs, ht] at h; cases h
      | flt a k => simp only [hn, hs, ht] at h; cases h
      | ok t s4 =>
        simp only [hn, hs, ht] at h
        injection h with _ h
        subst h
        have h1 := name_len hn
        have h2 := sign_len hs
        have h3 : s4.T.length < s3.T.length := takk_len ht
        omega
theorem filtP_out {en : Int} {s : Rd} (h : filtP en s = .out) : False := by
  unfold filtP at h
  cases hn : nameP en s with
  | out => exact nameP_out hn
  | flt a k => simp only [hn] at h; cases h
  | ok x s2 =>
    cases hs : signP en s2 with
    | out => exact signP_out hs
    | flt a k => simp only [hn, hs] at h; cases h
    | ok y s3 =>
      cases ht : takeP' 2 en s3 with
      | out => exact takk_out ht
      | flt a k => simp only [hn, hs, ht] at h; cases h
      | ok t s4 => simp only [hn, hs, ht] at h; cases h
/-- filters behind commas -/
def filsP (en : Int) : Nat → Rd → PR (List FilV)
  | 0, _ => .out
  | f + 1, s => match skipP cmB s with
    | none => .ok [] s
    | some s1 => match filtP en s1 with
      | .ok x s2 => (match filsP en f s2 with
        | .ok l s3 => .ok (x :: l) s3
        | .flt a k => .flt a k
        | .out => .out)
      | .flt a k => .flt a k
      | .out => .out
theorem fils_len (en : Int) : ∀ (f : Nat) (s s1 : Rd) (l : List FilV), filsP en f s = .ok l s1 → s1.T.length ≤ s.T.length := by
  intro f
  induction f with
  | zero => intro s s1 l h; unfold filsP at h; cases h
  | succ f ih =>
    intro s s1 l h
    unfold filsP at h
    cases h0 : skipP cmB s with
    | none =>
      simp only [h0] at h
      injection h with _ h
      subst h
      exact Nat.le_refl _
    | some s2 =>
      have hl := skip_len h0
      cases hf : filtP en s2 with
      | out => simp only [h0, hf] at h; cases h
      | flt a k => simp only [h0, hf] at h; cases h
      | ok x s3 =>
        have h2 := filt_len hf
        cases hr : filsP en f s3 with
        | out => simp only [h0, hf, hr] at h; cases h
        | flt a k => simp only [h0, hf, hr] at h; cases h
        | ok l2 s4 =>
          simp only [h0, hf, hr] at h
          injection h with _ h
          subst h
          have h3 := ih _ _ _ hr
          omega
theorem fils_out (en : Int) : ∀ (f : Nat) (s : Rd), s.T.length < f → filsP en f s ≠ .out := by
  intro f
  induction f with
  | zero => intro s h; omega
  | succ f ih =>
    intro s hs h
    unfold filsP at h
    cases h0 : skipP cmB s with
    | none => simp only [h0] at h; cases h
    | some s2 =>
      have hl := skip_len h0
      cases hf : filtP en s2 with
      | out => exact filtP_out hf
      | flt a k => simp only [h0, hf] at h; cases h
      | ok x s3 =>
        have h2 := filt_len hf
        cases hr : filsP en f s3 with
        | out => exact ih s3 (by omega) hr
        | flt a k => simp only [h0, hf, hr] at h; cases h
        | ok l2 s4 => simp only [h0, hf, hr] at h; cases h
/-- a Total, behind its word -/
def totalP (en : Int) (s : Rd) : PR Sh := match skipP opB s with
  | none => .flt (posP en s) 81
  | some s1 => match nameP en s1 with
    | .out => .out
    | .flt a k => .flt a k
    | .ok x s2 => match filsP en (s2.T.length + 1) s2 with
      | .out => .out
      | .flt a k => .flt a k
      | .ok l s3 => match skipP shB s3 with
        | none => .flt (posP en s3) 81
        | some s4 => .ok (.mk 3 0 x l []) { s4 with lg := s4.lg || !totB x l }
theorem total_out (en : Int) (s : Rd) : totalP en s ≠ .out := fun h => by
  unfold totalP at h
  cases h0 : skipP opB s with
  | none => simp only [h0] at h; cases h
  | some s1 =>
    cases h1 : nameP en s1 with
    | out => exact nameP_out h1
    | flt a k => simp only [h0, h1] at h; cases h
    | ok x s2 =>
      cases h2 : filsP en (s2.T.length + 1) s2 with
      | out => exact fils_out en _ s2 (Nat.lt_succ_self _) h2
      | flt a k => simp only [h0, h1, h2] at h; cases h
      | ok l s3 =>
        cases h3 : skipP shB s3 with
        | none => simp only [h0, h1, h2, h3] at h; cases h
        | some s4 => simp only [h0, h1, h2, h3] at h; cases h
theorem total_len (en : Int) (s : Rd) (y : Sh) (sz : Rd) (h : totalP en s = .ok y sz) : sz.T.length ≤ s.T.length := by
  unfold totalP at h
  cases h0 : skipP opB s with
  | none => simp only [h0] at h; cases h
  | some s1 =>
    cases h1 : nameP en s1 with
    | out => simp only [h0, h1] at h; cases h
    | flt a k => simp only [h0, h1] at h; cases h
    | ok x s2 =>
      cases h2 : filsP en (s2.T.length + 1) s2 with
      | out => simp only [h0, h1, h2] at h; cases h
      | flt a k => simp only [h0, h1, h2] at h; cases h
      | ok l s3 =>
        cases h3 : skipP shB s3 with
        | none => simp only [h0, h1, h2, h3] at h; cases h
        | some s4 =>
          simp only [h0, h1, h2, h3] at h
          injection h with _ h
          subst h
          have e0 := skip_len h0
          have e1 := name_len h1
          have e2 := fils_len en _ _ _ _ h2
          have e3 : s4.T.length < s3.T.length := skip_len h3
          show s4.T.length ≤ s.T.length
          omega
/-- the grammar of this document's programs -/
def gramG (en : Int) : Gr := ⟨en, totalP en⟩
/-- an expression, but for how a Total is read -/
theorem code_expr_of (en : Int) (R : Nat) (hT : TotalC (gramG en) R) {d : Nat} {s : Rd} {w : World} (hd : d ≤ 64) (hr : RdAt w R en s) (f : Nat) (hf : 8 * s.T.length + 4 ≤ f) :
    Calls Tryz.prog 38 #[.pointer (some ⟨R, 0, none⟩), .int .i64 (d : Nat)] w (OutQ R en w (exprP (gramG en) f d s)) :=
  code_expr (gramG en) R (boxN_C _ R) hT (fun s x s1 h => total_len en s x s1 h) (total_out en) hd hr f hf
end Go.Proofs.YtpapcnogbmjpjaaGreatDoor
