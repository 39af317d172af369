/- The chapter's example; the program's lexer against the document's, walked. -/
import Derived.Test.YtfjecohokmelfaaDoorLxL
import Derived.Test.YtfjecohokmelfaaDoorLxJ
namespace Go.Proofs.YtfjecohokmelfaaDoor
open Go.RowKit
set_option maxRecDepth 100000
set_option linter.unusedSimpArgs false
set_option linter.unusedVariables false

theorem lex_few {s : ByteArray} (h : s.size ≤ 65536) : (lexI s 0 []).1.length ≤ 65536 ∧ sumT (lexI s 0 []).1 ≤ 65536 ∧ (showL (lexI s 0 []).1).length ≤ 131072 := by
  have h1 := lex_bound (s := s) 0 [] (Nat.zero_le _) (Nat.le_refl _) (Nat.le_refl _)
  have h2 := showL_len (lexI s 0 []).1
  omega
theorem code_lexF (s : ByteArray) (w : World) (h : s.size ≤ 65536) :
    Calls Tryd.prog 7 #[.string s] w fun e w' => ∃ A c, e = .returned (.tuple #[.slice A (lexI s 0 []).1.length c, .int .i64 ((lexI s 0 []).2.1 : Nat), .int .i64 (lexI s 0 []).2.2]) ∧ RowTokV w' A (lexI s 0 []).1 ∧ Below w.heap.size w w' :=
  (code_lex s w h).mono fun e w' ⟨v, he, ho, hb⟩ => by
    obtain ⟨A, c, rfl, hr, _⟩ := ho.form
    exact ⟨A, c, he, hr, hb⟩
theorem ref_lexF (s : ByteArray) (w : World) (h : s.size ≤ 65536) :
    Calls Tryd.prog 8 #[.string s] w fun e w' => ∃ A c, e = .returned (.tuple #[.slice A (lexI s 0 []).1.length c, .int .i64 ((lexI s 0 []).2.1 : Nat), .int .i64 (lexI s 0 []).2.2]) ∧ RowTokR w' A (lexI s 0 []).1 ∧ Below w.heap.size w w' :=
  (ref_lex s w h).mono fun e w' ⟨v, he, ho, hb⟩ => by
    obtain ⟨A, c, rfl, hr, _⟩ := ho.form
    exact ⟨A, c, he, hr, hb⟩
def exS : ByteArray := ⟨#[98, 111, 120, 32, 49, 61, 115, 117, 109, 40, 98, 97, 115, 101, 41, 32, 59, 32, 35, 32, 97, 108, 108]⟩
theorem ex_err : (lexI exS 0 []).2.2 = 0 := by decide +kernel
theorem ex_show : showL (lexI exS 0 []).1 = [98, 111, 120, 32, 49, 32, 61, 32, 115, 117, 109, 32, 40, 32, 98, 97, 115, 101, 32, 41, 32, 59] := by decide +kernel
theorem kw_clamp : kwB ⟨#[99, 108, 97, 109, 112]⟩ = true := by decide +kernel
theorem kw_base : kwB ⟨#[98, 97, 115, 101]⟩ = false := by decide +kernel
theorem ex_parts : ∃ L a0, (∀ W, Calls Tryd.prog 7 #[.string ⟨#[98, 111, 120, 32, 49, 61, 115, 117, 109, 40, 98, 97, 115, 101, 41, 32, 59, 32, 35, 32, 97, 108, 108]⟩] W fun e w' => ∃ A c, e = .returned (.tuple #[.slice A (List.length L) c, .int .i64 a0, .int .i64 0]) ∧ RowTokV w' A L ∧ Below W.heap.size W w') ∧
    (∀ W A c, RowTokV W A L → Calls Tryd.prog 10 #[.slice A L.length c] W fun e w' => e = .returned (.string ⟨#[98, 111, 120, 32, 49, 32, 61, 32, 115, 117, 109, 32, 40, 32, 98, 97, 115, 101, 32, 41, 32, 59]⟩) ∧ Below W.heap.size W w') := by
  have hl := lex_few (s := exS) (by decide +kernel)
  have hc := fun W => code_lexF exS W (by decide +kernel)
  have h1 := ex_err
  have h2 := ex_show
  generalize lexI exS 0 [] = R at hl hc h1 h2
  obtain ⟨L, a0, er⟩ := R
  dsimp only at hl hc h1 h2
  subst h1
  refine ⟨L, ((a0 : Nat) : Int), hc, fun W A c hr => ?_⟩
  have h3 := code_show L A c W (by omega) (by omega) hr
  rw [h2] at h3
  exact h3
set_option maxHeartbeats 1000000 in
theorem code_lives (w : World) : Calls Tryd.prog 6 #[] w fun e w' => e = .returned (.bool true) ∧ Below w.heap.size w w' := by
  obtain ⟨L, a0, hc1, hc2⟩ := ex_parts
  have HC1 := Lib.hid hc1
  have HC2 := Lib.hid hc2
  clear hc1 hc2
  have HK1 : Hid (∀ W, Calls Tryd.prog 12 #[.string ⟨#[99, 108, 97, 109, 112]⟩] W fun e w' => e = .returned (.bool true) ∧ W = w') := Lib.hid (fun W => kw_clamp ▸ code_Keyword _ W)
  have HK2 : Hid (∀ W, Calls Tryd.prog 12 #[.string ⟨#[98, 97, 115, 101]⟩] W fun e w' => e = .returned (.bool false) ∧ W = w') := Lib.hid (fun W => kw_base ▸ code_Keyword _ W)
  go_enter Tryd.func6, Tryd.ntmps6
  go_wp2_with (go_at_call 7; refine (HC1.out _).mono ?_; rintro e w1 ⟨A, c, rfl, hr, hb⟩; have HR1 := Lib.hid hr; have HB1 := Lib.hid hb; clear hr hb; refine Stop.out ?_)
  unfold Stop
  go_wp2_with (go_at_call 10; refine (HC2.out _ _ _ HR1.out).mono ?_; rintro e w2 ⟨rfl, hb⟩; have HB2 := Lib.hid (below_then HB1.out hb); clear hb; refine Stop.out ?_)
  unfold Stop
  go_wp2_with (go_at_call 12; refine (HK1.out _).mono ?_; rintro e w3 ⟨rfl, rfl⟩; refine Stop.out ?_)
  unfold Stop
  go_wp2_with (go_at_call 12; refine (HK2.out _).mono ?_; rintro e w3 ⟨rfl, rfl⟩)
  go_ret
  exact ⟨rfl, HB2.out⟩
end Go.Proofs.YtfjecohokmelfaaDoor
