/- People: the chapter's example. -/
import Derived.Test.YtgljajoknmgoeaaGreatPpI
namespace Go.Proofs.YtgljajoknmgoeaaGreat
open Go.RowKit
set_option maxRecDepth 100000
attribute [local go_sem] Oper.semAt_some

abbrev sDE : ByteArray := { data := #[68, 69] }
abbrev sFR : ByteArray := { data := #[70, 82] }
abbrev sNr : ByteArray := { data := #[49, 50, 51, 52, 53, 54, 55, 56, 57, 48, 49] }
abbrev sUS : ByteArray := { data := #[85, 83] }
abbrev s77 : ByteArray := { data := #[55, 55] }
theorem ex_right : rightP sFR sNr = true := by decide +kernel
theorem ex_right2 : rightP sUS s77 = true := by decide +kernel
theorem ex_mem : isMem sFR = true := by decide +kernel
theorem ex_mem2 : isMem sUS = false := by decide +kernel
theorem ex_mem3 : isMem sDE = true := by decide +kernel
theorem biz_us (F : Lns) (d : Int) : bizB sDE F sUS s77 d = true := by
  unfold bizB
  rw [ex_right2, ex_mem2]
  simp
theorem biz_fr (F : Lns) (d : Int) : bizB sDE F sFR sNr d = atB (Ln F (sFR ++ sNr)) d := by
  unfold bizB
  rw [ex_right, ex_mem, decide_eq_false (show ¬ sFR = sDE by decide +kernel)]
  simp
set_option maxHeartbeats 1000000 in
theorem pp_lives (w : World) (hM : MaxL w) : Calls Tryz.prog 5 #[] w fun e w' => e = .returned (.bool true) ∧ Below w.heap.size w w' := by
  have HN := Lib.hid (code_pnew sDE hM ex_mem3)
  have HMx := Lib.hid hM
  clear hM
  go_enter Tryz.func5, Tryz.ntmps5
  go_wp2_with (go_at_call 6; refine HN.out.mono ?_; rintro e w1 ⟨P, B0, bm, rfl, h1, hb1⟩; have H1 := Lib.hid (And.intro h1 hb1); clear h1 hb1; refine Stop.out ?_)
  unfold Stop
  have hb1' := code_business H1.out.1 (HMx.out.below H1.out.2) sFR sNr 5 (by decide) (by decide)
  rw [biz_fr, show atB (Ln (fun _ => none) (sFR ++ sNr)) 5 = false from rfl] at hb1'
  have HBa := Lib.hid hb1'
  clear hb1' HN
  go_wp2_with (go_at_call 17; refine HBa.out.mono ?_; rintro e w2 ⟨rfl, hb2⟩; have H2 := Lib.hid (And.intro (H1.out.1.on hb2) (below_then H1.out.2 hb2)); clear hb2; refine Stop.out ?_)
  unfold Stop
  have hb2' := code_business H2.out.1 (HMx.out.below H2.out.2) sUS s77 5 (by decide) (by decide)
  rw [biz_us] at hb2'
  have HBb := Lib.hid hb2'
  clear hb2' HBa
  go_wp2_with (go_at_call 17; refine HBb.out.mono ?_; rintro e w3 ⟨rfl, hb3⟩; have H3 := Lib.hid (And.intro (H2.out.1.on hb3) (below_then H2.out.2 hb3)); clear hb3; refine Stop.out ?_)
  unfold Stop
  have hst := code_status H3.out.1 (HMx.out.below H3.out.2) sFR sNr 0 9 0 (by decide) (by decide) ex_right (by unfold maxLen; omega)
  rw [show setE 256 (Ln (fun _ => none) (sFR ++ sNr)) 0 9 = 0 by decide +kernel] at hst
  have HSt := Lib.hid hst
  clear hst HBb
  go_wp2_with (go_at_call 12; refine HSt.out.mono ?_; rintro e w4 ⟨rfl, hb4, F4, h4, hs4⟩; have H4 := Lib.hid (And.intro h4 (And.intro (H3.out.2.trans hb4) hs4)); clear hb4 h4 hs4; refine Stop.out ?_)
  unfold Stop
  have hln : Ln F4 (sFR ++ sNr) = setL 256 [] (0, 9, 0) := by
    rcases H4.out.2.2 with ⟨h, _⟩ | ⟨_, B, rfl⟩
    · exact absurd (show setE 256 (Ln (fun _ => none) (sFR ++ sNr)) 0 9 = 0 by decide +kernel) h
    · unfold Ln
      rw [upd_same]
  have hb5' := code_business H4.out.1 (HMx.out.below H4.out.2.1) sFR sNr 5 (by decide) (by decide)
  rw [biz_fr, hln, show atB (setL 256 [] (0, 9, 0)) 5 = true by decide +kernel] at hb5'
  have HBc := Lib.hid hb5'
  have HLn := Lib.hid hln
  clear hb5' HSt hln
  go_wp2_with (go_at_call 17; refine HBc.out.mono ?_; rintro e w5 ⟨rfl, hb5⟩; have H5 := Lib.hid (And.intro (H4.out.1.on hb5) (below_then H4.out.2.1 hb5)); clear hb5; refine Stop.out ?_)
  unfold Stop
  have hb6' := code_business H5.out.1 (HMx.out.below H5.out.2) sFR sNr 10 (by decide) (by decide)
  rw [biz_fr, HLn.out, show atB (setL 256 [] (0, 9, 0)) 10 = false by decide +kernel] at hb6'
  have HBd := Lib.hid hb6'
  clear hb6' HBc
  go_wp2_with (go_at_call 17; refine HBd.out.mono ?_; rintro e w6 ⟨rfl, hb6⟩; have H6 := Lib.hid (below_then H5.out.2 hb6); clear hb6; refine Stop.out ?_)
  unfold Stop
  go_wp2
  go_ret
  exact ⟨rfl, H6.out⟩
end Go.Proofs.YtgljajoknmgoeaaGreat
