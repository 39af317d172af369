/- The statement on countries: its walk. -/
import Derived.Test.YtjcjnokpbhmmiaaDoorVatLaw
import Derived.Test.YtjcjnokpbhmmiaaDoorVatZone
import Derived.Test.YtjcjnokpbhmmiaaDoorVatFields
namespace Go.Proofs.YtjcjnokpbhmmiaaDoor
open Go.RowKit Go.Maps
set_option maxRecDepth 1000000

set_option maxHeartbeats 4000000 in
theorem vatidCountries_any (h c : ByteArray) (w : World) (hh : h.size ≤ 9223372036854775807) (hc : c.size ≤ 9223372036854775807) (hM : MaxL w) (hS : SpL w) :
    Calls Tryd.prog 3 #[.string h, .string c] w fun e w' => e = .returned (.bool true) ∧ Below w.heap.size w w' := by
  have HM := Lib.hid hM
  have HP := Lib.hid hS
  have HLv : Hid (∀ W, MaxL W → Calls Tryd.prog 4 #[] W fun e w' => e = .returned (.bool true) ∧ Below W.heap.size W w') := Lib.hid (fun W hW => vlives_any W hW)
  have hhi : (h.size : Int) ≤ 9223372036854775807 := by omega
  have hci : (c.size : Int) ≤ 9223372036854775807 := by omega
  clear hM hS
  by_cases h1 : h.size ≤ 1000
  · by_cases h2 : c.size ≤ 1000
    · have HZ : Hid (∀ W, MaxL W → Calls Tryd.prog 5 #[.string h, .string c] W fun e w' => e = .returned (zoneV h c) ∧ W = w') := Lib.hid (fun W hW => code_zone h c W h1 h2 hW)
      have HZr : Hid (∀ W, Calls Tryd.prog 6 #[.string h, .string c] W fun e w' => e = .returned (zoneV h c) ∧ Below W.heap.size W w') := Lib.hid (fun W => ref_zone h c W h1 h2)
      have HC := Lib.hid (fun W => code_country c W (by omega))
      have HCr := Lib.hid (fun W => ref_country c W (by omega))
      have HB := Lib.hid (fun W hW => code_member c W (by omega) hW)
      have HBr := Lib.hid (fun W => ref_member c W)
      have HL := Lib.hid (fun W hW => code_members W hW)
      have HLr := Lib.hid (fun W => ref_members W)
      have HSm : Hid (∀ W A B p q, Strs W A (tabL.map (·.1)) → Strs W B (tabL.map (·.1)) → Calls Tryd.prog 11 #[.slice A (tabL.map (·.1)).length p, .slice B (tabL.map (·.1)).length q] W fun e w' => e = .returned (.bool true) ∧ Below W.heap.size W w') := Lib.hid (fun W A B p q hA hB => by
        have h := ref_same (tabL.map (·.1)) (tabL.map (·.1)) A B p q W (by decide +kernel) hA hB
        rw [decide_eq_true rfl] at h
        exact h)
      have h1i : (h.size : Int) ≤ 1000 := by omega
      have h2i : (c.size : Int) ≤ 1000 := by omega
      have hz := zone_four h c
      generalize zoneV h c = Z at *
      generalize Vat.country (strT c) = X at *
      generalize isMem c = Y at *
      generalize tabL.map (·.1) = L at *
      clear h1 h2 hh hc
      unfold zT at hz
      rcases hz with rfl | rfl | rfl | rfl
      all_goals
        cases X
        all_goals
          cases Y
          all_goals
            go_enter Tryd.func3, Tryd.ntmps3
            go_wp2_with (first
              | (go_at_call 5; refine (HZ.out w HM.out).mono ?_; rintro e w0 ⟨rfl, rfl⟩)
              | (go_at_call 6; refine (HZr.out w).mono ?_; rintro e w1 ⟨rfl, hb1⟩; have HB1 := Lib.hid hb1; have HM1 := Lib.hid (HM.out.below hb1); have HP1 := Lib.hid (HP.out.below hb1); clear hb1)
              | (go_at_call 7; refine (HC.out w1).mono ?_; rintro e w9 ⟨rfl, rfl⟩)
              | (go_at_call 8; refine (HCr.out w1).mono ?_; rintro e w8 ⟨rfl, rfl⟩)
              | (go_at_call 9; refine (HB.out w1 HM1.out).mono ?_; rintro e w7 ⟨rfl, rfl⟩)
              | (go_at_call 10; refine (HBr.out w1).mono ?_; rintro e w2 ⟨rfl, hb2⟩; have HB2 := Lib.hid (HB1.out.trans (hb2.mono HB1.out.size)); have HM2 := Lib.hid (HM1.out.below hb2); have HP2 := Lib.hid (HP1.out.below hb2); clear hb2)
              | (go_at_call 12; refine (HL.out w2 HP2.out).mono ?_; rintro e w3 ⟨A3, q3, rfl, hs3, hb3⟩; have HB3 := Lib.hid (HB2.out.trans (hb3.mono HB2.out.size)); have HM3 := Lib.hid (HM2.out.below hb3); have HS3 := Lib.hid hs3; clear hb3 hs3)
              | (go_at_call 13; refine (HLr.out w3).mono ?_; rintro e w4 ⟨A4, q4, rfl, hs4, hb4⟩; have HB4 := Lib.hid (HB3.out.trans (hb4.mono HB3.out.size)); have HM4 := Lib.hid (HM3.out.below hb4); have HS4 := Lib.hid hs4; have HS5 := Lib.hid (HS3.out.below hb4); clear hb4 hs4)
              | (go_at_call 11; refine (HSm.out w4 A3 A4 q3 q4 HS5.out HS4.out).mono ?_; rintro e w5 ⟨rfl, hb5⟩; have HB5 := Lib.hid (HB4.out.trans (hb5.mono HB4.out.size)); have HM5 := Lib.hid (HM4.out.below hb5); clear hb5)
              | (go_at_call 4; refine (HLv.out w5 HM5.out).mono ?_; rintro e w6 ⟨rfl, hb6⟩))
            go_ret
            exact ⟨rfl, HB5.out.trans (hb6.mono HB5.out.size)⟩
    · have h1i : (h.size : Int) ≤ 1000 := by omega
      have h2i : (1000 : Int) < (c.size : Int) := by omega
      clear h1 h2 hh hc
      go_enter Tryd.func3, Tryd.ntmps3
      go_wp2_with (go_at_call 4; refine (HLv.out w HM.out).mono ?_; rintro e w6 ⟨rfl, hb6⟩)
      go_ret
      exact ⟨rfl, hb6⟩
  · have h1i : (1000 : Int) < (h.size : Int) := by omega
    clear h1 hh hc
    go_enter Tryd.func3, Tryd.ntmps3
    go_wp2_with (go_at_call 4; refine (HLv.out w HM.out).mono ?_; rintro e w6 ⟨rfl, hb6⟩)
    go_ret
    exact ⟨rfl, hb6⟩
end Go.Proofs.YtjcjnokpbhmmiaaDoor
