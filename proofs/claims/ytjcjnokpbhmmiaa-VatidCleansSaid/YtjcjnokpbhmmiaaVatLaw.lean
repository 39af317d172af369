/- The statements on numbers, and on what is made clean: their walks. -/
import Derived.Test.YtjcjnokpbhmmiaaVatCleanR
namespace Go.Proofs.Ytjcjnokpbhmmiaa
open Go.RowKit Go.Maps
set_option maxRecDepth 1000000

def exS : ByteArray := { data := #[98, 101, 32, 48, 49, 50, 51, 46, 52, 53, 54, 46, 55, 56, 57] }
theorem ex_clean : Cleaned exS = .tuple #[.string { data := #[66, 69] }, .string { data := #[48, 49, 50, 51, 52, 53, 54, 55, 56, 57] }, .int .i64 0] := by
  have h1 : cleanC exS = { data := #[66, 69] } := by decide +kernel
  have h2 : cleanN exS = { data := #[48, 49, 50, 51, 52, 53, 54, 55, 56, 57] } := by decide +kernel
  have h3 : rightP { data := #[66, 69] } { data := #[48, 49, 50, 51, 52, 53, 54, 55, 56, 57] } = true := by decide +kernel
  unfold Cleaned
  rw [h1, h2, if_pos h3]
theorem ex_r1 : rightP { data := #[68, 69] } { data := #[49, 50, 51, 52, 53, 54, 55, 56, 57] } = true := by decide +kernel
theorem ex_r2 : rightP { data := #[68, 69] } { data := #[49, 50, 51, 52, 53, 54, 55, 56] } = false := by decide +kernel

set_option maxHeartbeats 1000000 in
theorem vlives_any (w : World) (hM : MaxL w) : Calls Try.prog 25 #[] w fun e w' => e = .returned (.bool true) ∧ Below w.heap.size w w' := by
  have HC : Hid (Calls Try.prog 31 #[.string { data := #[98, 101, 32, 48, 49, 50, 51, 46, 52, 53, 54, 46, 55, 56, 57] }] w fun e w' => e = .returned (.tuple #[.string { data := #[66, 69] }, .string { data := #[48, 49, 50, 51, 52, 53, 54, 55, 56, 57] }, .int .i64 0]) ∧ Below w.heap.size w w') := Lib.hid (by
    have h := code_clean exS w (by decide) hM
    rw [ex_clean] at h
    exact h)
  have HR1 : Hid (∀ W, MaxL W → Calls Try.prog 26 #[.string { data := #[68, 69] }, .string { data := #[49, 50, 51, 52, 53, 54, 55, 56, 57] }] W fun e w' => e = .returned (.bool true) ∧ Below W.heap.size W w') := Lib.hid (fun W hW => by
    have h := code_right { data := #[68, 69] } { data := #[49, 50, 51, 52, 53, 54, 55, 56, 57] } W (by decide) (by decide) hW
    rw [ex_r1] at h
    exact h)
  have HR2 : Hid (∀ W, MaxL W → Calls Try.prog 26 #[.string { data := #[68, 69] }, .string { data := #[49, 50, 51, 52, 53, 54, 55, 56] }] W fun e w' => e = .returned (.bool false) ∧ Below W.heap.size W w') := Lib.hid (fun W hW => by
    have h := code_right { data := #[68, 69] } { data := #[49, 50, 51, 52, 53, 54, 55, 56] } W (by decide) (by decide) hW
    rw [ex_r2] at h
    exact h)
  have HM := Lib.hid hM
  clear hM
  go_enter Try.func25, Try.ntmps25
  go_wp2_with (first
    | (go_at_call 31; refine HC.out.mono ?_; rintro e w1 ⟨rfl, hb1⟩; have HB1 := Lib.hid hb1; have HM1 := Lib.hid (HM.out.below hb1); clear hb1)
    | (go_at_call 26; (with_reducible refine (HR1.out w1 HM1.out).mono ?_); rintro e w2 ⟨rfl, hb2⟩; have HB2 := Lib.hid (HB1.out.trans (hb2.mono HB1.out.size)); have HM2 := Lib.hid (HM1.out.below hb2); clear hb2)
    | (go_at_call 26; (with_reducible refine (HR2.out w2 HM2.out).mono ?_); rintro e w3 ⟨rfl, hb3⟩; have HB3 := Lib.hid (HB2.out.trans (hb3.mono HB2.out.size)); clear hb3))
  go_ret
  exact ⟨rfl, HB3.out⟩

set_option maxHeartbeats 1000000 in
theorem vatidNumbers_any (c n : ByteArray) (w : World) (hc : c.size ≤ 9223372036854775807) (hn : n.size ≤ 9223372036854775807) (hM : MaxL w) :
    Calls Try.prog 6 #[.string c, .string n] w fun e w' => e = .returned (.bool true) ∧ Below w.heap.size w w' := by
  have HM := Lib.hid hM
  have HLv : Hid (∀ W, MaxL W → Calls Try.prog 25 #[] W fun e w' => e = .returned (.bool true) ∧ Below W.heap.size W w') := Lib.hid (fun W hW => vlives_any W hW)
  have hci : (c.size : Int) ≤ 9223372036854775807 := by omega
  have hni : (n.size : Int) ≤ 9223372036854775807 := by omega
  clear hM
  by_cases h1 : c.size ≤ 1000
  · by_cases h2 : n.size ≤ 1000
    · have HR := Lib.hid (fun W hW => code_right c n W (by omega) (by omega) hW)
      have HRr := Lib.hid (fun W => ref_right c n W (by omega) (by omega))
      have HF := Lib.hid (fun W => code_forms c W (by unfold maxLen; omega))
      have HFr := Lib.hid (fun W => ref_forms c W)
      have HSm : Hid (∀ W A B p q, Strs W A (formsOf c) → Strs W B (formsOf c) → Calls Try.prog 28 #[.slice A (formsOf c).length p, .slice B (formsOf c).length q] W fun e w' => e = .returned (.bool true) ∧ Below W.heap.size W w') := Lib.hid (fun W A B p q hA hB => by
        have h := ref_same (formsOf c) (formsOf c) A B p q W (formsOf_len c) hA hB
        rw [decide_eq_true rfl] at h
        exact h)
      have h1i : (c.size : Int) ≤ 1000 := by omega
      have h2i : (n.size : Int) ≤ 1000 := by omega
      generalize rightP c n = R at *
      generalize formsOf c = L at *
      clear h1 h2 hc hn
      cases R
      all_goals
        go_enter Try.func6, Try.ntmps6
        go_wp2_with (first
          | (go_at_call 26; refine (HR.out w HM.out).mono ?_; rintro e w1 ⟨rfl, hb1⟩; have HB1 := Lib.hid hb1; have HM1 := Lib.hid (HM.out.below hb1); clear hb1)
          | (go_at_call 27; refine (HRr.out w1).mono ?_; rintro e w2 ⟨rfl, hb2⟩; have HB2 := Lib.hid (HB1.out.trans (hb2.mono HB1.out.size)); have HM2 := Lib.hid (HM1.out.below hb2); clear hb2)
          | (go_at_call 29; refine (HF.out w2).mono ?_; rintro e w3 ⟨A3, q3, rfl, hs3, hb3⟩; have HB3 := Lib.hid (HB2.out.trans (hb3.mono HB2.out.size)); have HM3 := Lib.hid (HM2.out.below hb3); have HS3 := Lib.hid hs3; clear hb3 hs3)
          | (go_at_call 30; refine (HFr.out w3).mono ?_; rintro e w4 ⟨A4, q4, rfl, hs4, hb4⟩; have HB4 := Lib.hid (HB3.out.trans (hb4.mono HB3.out.size)); have HM4 := Lib.hid (HM3.out.below hb4); have HS4 := Lib.hid hs4; have HS5 := Lib.hid (HS3.out.below hb4); clear hb4 hs4)
          | (go_at_call 28; refine (HSm.out w4 A3 A4 q3 q4 HS5.out HS4.out).mono ?_; rintro e w5 ⟨rfl, hb5⟩; have HB5 := Lib.hid (HB4.out.trans (hb5.mono HB4.out.size)); have HM5 := Lib.hid (HM4.out.below hb5); clear hb5)
          | (go_at_call 25; refine (HLv.out w5 HM5.out).mono ?_; rintro e w6 ⟨rfl, hb6⟩))
        go_ret
        exact ⟨rfl, HB5.out.trans (hb6.mono HB5.out.size)⟩
    · have h1i : (c.size : Int) ≤ 1000 := by omega
      have h2i : (1000 : Int) < (n.size : Int) := by omega
      clear h1 h2 hc hn
      go_enter Try.func6, Try.ntmps6
      go_wp2_with (go_at_call 25; refine (HLv.out w HM.out).mono ?_; rintro e w6 ⟨rfl, hb6⟩)
      go_ret
      exact ⟨rfl, hb6⟩
  · have h1i : (1000 : Int) < (c.size : Int) := by omega
    clear h1 hc hn
    go_enter Try.func6, Try.ntmps6
    go_wp2_with (go_at_call 25; refine (HLv.out w HM.out).mono ?_; rintro e w6 ⟨rfl, hb6⟩)
    go_ret
    exact ⟨rfl, hb6⟩
end Go.Proofs.Ytjcjnokpbhmmiaa
