/- The statements on numbers, and on what is made clean: their walks. -/
import Derived.Test.YtjcjnokpbhmmiaaDoorVatClean
namespace Go.Proofs.YtjcjnokpbhmmiaaDoor
open Go.RowKit Go.Maps
set_option maxRecDepth 1000000

def exS : ByteArray := { data := #[98, 101, 32, 48, 49, 50, 51, 46, 52, 53, 54, 46, 55, 56, 57] }
theorem ex_clean : Cleaned exS = .tuple #[.string { data := #[66, 69] }, .string { data := #[48, 49, 50, 51, 52, 53, 54, 55, 56, 57] }, .int .i64 0] := by
  have h1 : cleanC exS = { data := #[66, 69] } := by decide +kernel
  have h2 : cleanN exS = { data := #[48, 49, 50, 51, 52, 53, 54, 55, 56, 57] } := by decide +kernel
  have h3 : rightP { data := #[66, 69] } { data := #[48, 49, 50, 51, 52, 53, 54, 55, 56, 57] } = true := by decide +kernel
  unfold Cleaned
  rw [h1, h2, if_pos h3]
theorem ex_r1 : rightP { data := #[68, 69] } { data := #[49, 50, 51, 52, 53, 54, 55, 56, 57] } = true := by decide +kernel
theorem ex_r2 : rightP { data := #[68, 69] } { data := #[49, 50, 51, 52, 53, 54, 55, 56] } = false := by decide +kernel

set_option maxHeartbeats 1000000 in
theorem vlives_any (w : World) (hM : MaxL w) : Calls Tryd.prog 4 #[] w fun e w' => e = .returned (.bool true) ∧ Below w.heap.size w w' := by
  have HC : Hid (Calls Tryd.prog 14 #[.string { data := #[98, 101, 32, 48, 49, 50, 51, 46, 52, 53, 54, 46, 55, 56, 57] }] w fun e w' => e = .returned (.tuple #[.string { data := #[66, 69] }, .string { data := #[48, 49, 50, 51, 52, 53, 54, 55, 56, 57] }, .int .i64 0]) ∧ Below w.heap.size w w') := Lib.hid (by
    have h := code_clean exS w (by decide) hM
    rw [ex_clean] at h
    exact h)
  have HR1 : Hid (∀ W, MaxL W → Calls Tryd.prog 15 #[.string { data := #[68, 69] }, .string { data := #[49, 50, 51, 52, 53, 54, 55, 56, 57] }] W fun e w' => e = .returned (.bool true) ∧ Below W.heap.size W w') := Lib.hid (fun W hW => by
    have h := code_right { data := #[68, 69] } { data := #[49, 50, 51, 52, 53, 54, 55, 56, 57] } W (by decide) (by decide) hW
    rw [ex_r1] at h
    exact h)
  have HR2 : Hid (∀ W, MaxL W → Calls Tryd.prog 15 #[.string { data := #[68, 69] }, .string { data := #[49, 50, 51, 52, 53, 54, 55, 56] }] W fun e w' => e = .returned (.bool false) ∧ Below W.heap.size W w') := Lib.hid (fun W hW => by
    have h := code_right { data := #[68, 69] } { data := #[49, 50, 51, 52, 53, 54, 55, 56] } W (by decide) (by decide) hW
    rw [ex_r2] at h
    exact h)
  have HM := Lib.hid hM
  clear hM
  go_enter Tryd.func4, Tryd.ntmps4
  go_wp2_with (first
    | (go_at_call 14; refine HC.out.mono ?_; rintro e w1 ⟨rfl, hb1⟩; have HB1 := Lib.hid hb1; have HM1 := Lib.hid (HM.out.below hb1); clear hb1)
    | (go_at_call 15; (with_reducible refine (HR1.out w1 HM1.out).mono ?_); rintro e w2 ⟨rfl, hb2⟩; have HB2 := Lib.hid (HB1.out.trans (hb2.mono HB1.out.size)); have HM2 := Lib.hid (HM1.out.below hb2); clear hb2)
    | (go_at_call 15; (with_reducible refine (HR2.out w2 HM2.out).mono ?_); rintro e w3 ⟨rfl, hb3⟩; have HB3 := Lib.hid (HB2.out.trans (hb3.mono HB2.out.size)); clear hb3))
  go_ret
  exact ⟨rfl, HB3.out⟩

end Go.Proofs.YtjcjnokpbhmmiaaDoor
