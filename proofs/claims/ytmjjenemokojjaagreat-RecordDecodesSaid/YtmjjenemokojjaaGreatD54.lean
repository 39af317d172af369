/- Any bytes, decoded: the walk through the statement. Contracts of the library, as they are at this program: laid by the guide's tool, in plain words. -/
import Derived.Test.YtmjjenemokojjaaGreatD53
import Derived.Test.YtmjjenemokojjaaGreatD52
import Derived.Test.YtmjjenemokojjaaGreatD46
import Derived.WalkMore
import Derived.Deep.Cut
import Derived.Deep.DeepCutAuto
import Derived.Laws.CopyOwn
import Derived.Shelf.Strings.Builder1
import Derived.Shelf.Strings.Builder2
import Derived.Shelf.Small.Bits
import Derived.Shelf.Strings.Search1
import Derived.Shelf.Strings.Search2
import Derived.Shelf.Strings.Search3
import Derived.Shelf.LaysM
import Derived.Shelf.Strings.Shaped
import Derived.Shelf.Strings.Prefix
import Derived.Shelf.Bits.Mul64
import Derived.Shelf.Strings.Repeat
import Derived.Test.YtmjjenemokojjaaGreatProg
namespace Go.Proofs.YtmjjenemokojjaaGreat
open Go.RowKit
set_option maxRecDepth 100000
set_option linter.unusedSimpArgs false
set_option linter.unusedVariables false

set_option maxHeartbeats 2000000 in
theorem dec_long (T : Text) (A0 : Option Addr) (cap : Nat) (w : World) (HS7 : Hid (∀ W, Below w.heap.size w W → Calls Tryz.prog 7 #[] W fun e w1 => e = .returned (.bool true) ∧ Below W.heap.size W w1)) (hl : 10000 < (T.length : Int)) : Calls Tryz.prog 5 #[.slice A0 T.length cap] w fun e w1 => e = .returned (.bool true) ∧ Below w.heap.size w w1 := by
 have HB0 := Lib.hid (Below.refl w.heap.size w)
 go_enter Tryz.func5, Tryz.ntmps5
 go_wp2_with (go_at_call 7; refine (HS7.out _ HB0.out).mono ?_; rintro e w9 ⟨rfl, hb⟩; have HB9 := Lib.hid hb; clear hb; refine Stop.out ?_)
 unfold Stop
 go_wp2
 go_ret
 exact ⟨rfl, HB9.out⟩
set_option maxHeartbeats 4000000 in
theorem dec_no (T : Text) (A0 : Option Addr) (cap : Nat) (w : World) (HS7 : Hid (∀ W, Below w.heap.size w W → Calls Tryz.prog 7 #[] W fun e w1 => e = .returned (.bool true) ∧ Below W.heap.size W w1)) (hl : ¬ 10000 < (T.length : Int)) (HP : Hid (∀ W, Below w.heap.size w W → Calls Tryz.prog 16 #[.slice A0 T.length cap] W fun e w1 => DecNo W e w1)) (HR : Hid (∀ W, Below w.heap.size w W → Calls Tryz.prog 18 #[.slice A0 T.length cap] W fun e w1 => DecNo W e w1))
 (HSm : Hid (∀ W, Below w.heap.size w W → Calls Tryz.prog 17 #[.agg zeroCmd, .agg zeroCmd] W fun e w1 => e = .returned (.bool true) ∧ Below W.heap.size W w1)) : Calls Tryz.prog 5 #[.slice A0 T.length cap] w fun e w1 => e = .returned (.bool true) ∧ Below w.heap.size w w1 := by
 have HB0 := Lib.hid (Below.refl w.heap.size w)
 have HO1 : Hid (zeroCmd.all (·.oneCell') = true) := Lib.hid (by simp [Value.oneCell'])
 have HI0 : Hid ((Tryz.prog.info? 28).map (·.size) = some zeroCmd.size) := Lib.hid cells_info'
 have HZ0 : Hid (zeroCmd.size = zeroCmd.size) := Lib.hid rfl
 go_enter Tryz.func5, Tryz.ntmps5
 go_wp2_with (go_at_call 16; refine (HP.out _ HB0.out).mono ?_; rintro e wa ⟨rfl, hb⟩; have HBa := Lib.hid hb; clear hb; refine Stop.out ?_)
 unfold Stop
 have HAa := Lib.hid (heap_alloc_new wa (.cells zeroCmd 28))
 have HBna := Lib.hid (below_setRow (below_alloc wa (.cells zeroCmd 28)) (Nat.le_refl wa.heap.size) zeroCmd)
 have HXa := Lib.hid (setRow_heap (wa.alloc (.cells zeroCmd 28)) wa.heap.size _ zeroCmd _ _ HAa.out)
 go_wp2_with ((with_reducible apply wpList_store_row (ty := 28) (g := wa.heap.size) (cells := zeroCmd) (t := 28) (old := zeroCmd) (hg := HAa.out) (hi := cells_info') (hold := rfl) (h1 := HO1.out)); (case hgd => rfl); (case ho => rfl); (case hx => rfl); (case hy => rfl); refine Stop.out ?_)
 unfold Stop
 generalize World.setRow _ _ _ = va at HBna HXa ⊢
 have HBb := Lib.hid (below_then HBa.out HBna.out)
 clear HBna HAa
 generalize wa.heap.size = ba at HXa ⊢
 go_wp2_with (go_at_call 18; refine (HR.out _ HBb.out).mono ?_; rintro e wb ⟨rfl, hb⟩; have HBc := Lib.hid (below_then HBb.out hb); have HXb0 := Lib.hid (heap_on hb HXa.out); clear hb; refine Stop.out ?_)
 unfold Stop
 have HAb := Lib.hid (heap_alloc_new wb (.cells zeroCmd 28))
 have HBnb := Lib.hid (below_setRow (below_alloc wb (.cells zeroCmd 28)) (Nat.le_refl wb.heap.size) zeroCmd)
 have HXb := Lib.hid (setRow_heap (wb.alloc (.cells zeroCmd 28)) wb.heap.size _ zeroCmd _ _ HAb.out)
 go_wp2_with ((with_reducible apply wpList_store_row (ty := 28) (g := wb.heap.size) (cells := zeroCmd) (t := 28) (old := zeroCmd) (hg := HAb.out) (hi := cells_info') (hold := rfl) (h1 := HO1.out)); (case hgd => rfl); (case ho => rfl); (case hx => rfl); (case hy => rfl); refine Stop.out ?_)
 unfold Stop
 generalize World.setRow _ _ _ = vb at HBnb HXb ⊢
 have HXa1 := Lib.hid (heap_on HBnb.out HXb0.out)
 have HBd := Lib.hid (below_then HBc.out HBnb.out)
 generalize wb.heap.size = bb at HXb ⊢
 go_wp2_with ((with_reducible apply wpList_load_rowG (ty := 28) (g := ba) (t := 28) (cs := zeroCmd) (fr := (0, 0)) (hg := HXa1.out) (hu := Tryz.underlying28) (hi := HI0.out)); (case hw => first | rfl | kernel_rfl); (case ho => rfl); (case hx => rfl); (case hd => rfl); refine Stop.out ?_)
 unfold Stop
 go_wp2_with ((with_reducible apply wpList_load_rowG (ty := 28) (g := bb) (t := 28) (cs := zeroCmd) (fr := (0, 0)) (hg := HXb.out) (hu := Tryz.underlying28) (hi := HI0.out)); (case hw => first | rfl | kernel_rfl); (case ho => rfl); (case hx => rfl); (case hd => rfl); refine Stop.out ?_)
 unfold Stop
 go_wp2_with (go_at_call 17; refine (HSm.out _ HBd.out).mono ?_; rintro e wc ⟨rfl, hb⟩; have HBe := Lib.hid (below_then HBd.out hb); clear hb; refine Stop.out ?_)
 unfold Stop
 go_wp2_with (go_at_call 7; refine (HS7.out _ HBe.out).mono ?_; rintro e w9 ⟨rfl, hb⟩; have HB9 := Lib.hid (below_then HBe.out hb); clear hb; refine Stop.out ?_)
 unfold Stop
 go_wp2
 go_ret
 exact ⟨rfl, HB9.out⟩
abbrev CmdBox (cs : Array Value) : Prop := (Tryz.prog.info? 28).map (·.size) = some cs.size ∧ cs.all (·.oneCell') = true ∧ zeroCmd.size = cs.size
theorem cmdBox (x : CmdV) : CmdBox (cmdA x) := ⟨cmd_info rfl, by simp [Value.oneCell', cmdA], rfl⟩
set_option maxHeartbeats 4000000 in
theorem dec_yes (P : CmdV → Prop) (T : Text) (A0 : Option Addr) (cap : Nat) (w : World) (HS7 : Hid (∀ W, Below w.heap.size w W → Calls Tryz.prog 7 #[] W fun e w1 => e = .returned (.bool true) ∧ Below W.heap.size W w1)) (hT : Txt w A0 T) (hA : A0 = none → T = []) (hl : ¬ 10000 < (T.length : Int)) (HP : Hid (∀ W, Below w.heap.size w W → Calls Tryz.prog 16 #[.slice A0 T.length cap] W fun e w1 => ∃ x : CmdV, e = .returned (.tuple #[.agg (cmdA x), .int .i64 0]) ∧ CmdVOk w1 x ∧ P x ∧ Below W.heap.size W w1)) (HR : Hid (∀ W, Below w.heap.size w W → Calls Tryz.prog 18 #[.slice A0 T.length cap] W fun e w1 => ∃ y : CmdV, e = .returned (.tuple #[.agg (cmdA y), .int .i64 0]) ∧ CmdVOk w1 y ∧ P y ∧ Below W.heap.size W w1)) (HSm : Hid (∀ (x y : CmdV) W, P x → P y → CmdVOk W x → CmdVOk W y → Calls Tryz.prog 17 #[.agg (cmdA x), .agg (cmdA y)] W fun e w1 => e = .returned (.bool true) ∧ Below W.heap.size W w1))
 (HE : Hid (∀ (x : CmdV) W, P x → Below w.heap.size w W → CmdVOk W x → Calls Tryz.prog 14 #[.agg (cmdA x)] W (EncP W T))) (HG : Hid (∀ (x : CmdV) W, P x → Below w.heap.size w W → CmdVOk W x → Calls Tryz.prog 8 #[.agg (cmdA x)] W fun e w1 => e = .returned (.bool true) ∧ Below W.heap.size W w1)) : Calls Tryz.prog 5 #[.slice A0 T.length cap] w fun e w1 => e = .returned (.bool true) ∧ Below w.heap.size w w1 := by
 have HB0 := Lib.hid (Below.refl w.heap.size w)
 have HT := Lib.hid (And.intro hT hA)
 clear hT hA
 go_enter Tryz.func5, Tryz.ntmps5
 go_wp2_with (go_at_call 16; refine (HP.out _ HB0.out).mono ?_; rintro e wa ⟨x, rfl, hx, hg, hb⟩; have HX := Lib.hid hx; have HGd := Lib.hid hg; have HBa := Lib.hid hb; clear hx hg hb; refine Stop.out ?_)
 unfold Stop
 have HCx := Lib.hid (cmdBox x)
 have HEx := Lib.hid (fun W => HE.out x W HGd.out)
 have HGx := Lib.hid (fun W => HG.out x W HGd.out)
 have HSx := Lib.hid (fun y W h => HSm.out x y W HGd.out h)
 clear HE HG HSm
 generalize hcx : cmdA x = cx at HCx HEx HGx HSx ⊢
 clear hcx
 have HAa := Lib.hid (heap_alloc_new wa (.cells zeroCmd 28))
 have HBna := Lib.hid (below_setRow (below_alloc wa (.cells zeroCmd 28)) (Nat.le_refl wa.heap.size) cx)
 have HXa := Lib.hid (setRow_heap (wa.alloc (.cells zeroCmd 28)) wa.heap.size _ cx _ _ HAa.out)
 go_wp2_with ((with_reducible apply wpList_store_row (ty := 28) (g := wa.heap.size) (cells := cx) (t := 28) (old := zeroCmd) (hg := HAa.out) (hi := HCx.out.1) (hold := HCx.out.2.2) (h1 := HCx.out.2.1)); (case hgd => rfl); (case ho => rfl); (case hx => rfl); (case hy => rfl); refine Stop.out ?_)
 unfold Stop
 generalize World.setRow _ _ _ = va at HBna HXa ⊢
 have HBb := Lib.hid (below_then HBa.out HBna.out)
 have HX1 := Lib.hid (CmdVOk.on' HX.out HBna.out)
 clear HBna HAa HX
 generalize wa.heap.size = ba at HXa ⊢
 go_wp2_with (go_at_call 18; refine (HR.out _ HBb.out).mono ?_; rintro e wb ⟨y, rfl, hy, hsm, hb⟩; have HY := Lib.hid hy; have HSm := Lib.hid (fun W => HSx.out y W hsm); have HBc := Lib.hid (below_then HBb.out hb); have HXb0 := Lib.hid (heap_on hb HXa.out); have HX2 := Lib.hid (CmdVOk.on' HX1.out hb); clear hy hsm hb; refine Stop.out ?_)
 unfold Stop
 have HCy := Lib.hid (cmdBox y)
 generalize hcy : cmdA y = cy at HCy HSm ⊢
 clear hcy HXa HX1 HSx
 have HAb := Lib.hid (heap_alloc_new wb (.cells zeroCmd 28))
 have HBnb := Lib.hid (below_setRow (below_alloc wb (.cells zeroCmd 28)) (Nat.le_refl wb.heap.size) cy)
 have HXb := Lib.hid (setRow_heap (wb.alloc (.cells zeroCmd 28)) wb.heap.size _ cy _ _ HAb.out)
 go_wp2_with ((with_reducible apply wpList_store_row (ty := 28) (g := wb.heap.size) (cells := cy) (t := 28) (old := zeroCmd) (hg := HAb.out) (hi := HCy.out.1) (hold := HCy.out.2.2) (h1 := HCy.out.2.1)); (case hgd => rfl); (case ho => rfl); (case hx => rfl); (case hy => rfl); refine Stop.out ?_)
 unfold Stop
 generalize World.setRow _ _ _ = vb at HBnb HXb ⊢
 have HXa1 := Lib.hid (heap_on HBnb.out HXb0.out)
 have HBd := Lib.hid (below_then HBc.out HBnb.out)
 have HX3 := Lib.hid (CmdVOk.on' HX2.out HBnb.out)
 have HY3 := Lib.hid (CmdVOk.on' HY.out HBnb.out)
 generalize wb.heap.size = bb at HXb ⊢
 go_wp2_with ((with_reducible apply wpList_load_rowG (ty := 28) (g := ba) (t := 28) (cs := cx) (fr := (0, 0)) (hg := HXa1.out) (hu := Tryz.underlying28) (hi := HCx.out.1)); (case hw => first | rfl | kernel_rfl); (case ho => rfl); (case hx => rfl); (case hd => rfl); refine Stop.out ?_)
 unfold Stop
 go_wp2_with ((with_reducible apply wpList_load_rowG (ty := 28) (g := bb) (t := 28) (cs := cy) (fr := (0, 0)) (hg := HXb.out) (hu := Tryz.underlying28) (hi := HCy.out.1)); (case hw => first | rfl | kernel_rfl); (case ho => rfl); (case hx => rfl); (case hd => rfl); refine Stop.out ?_)
 unfold Stop
 go_wp2_with (go_at_call 17; refine (HSm.out _ HX3.out HY3.out).mono ?_; rintro e wc ⟨rfl, hb⟩; have HBe := Lib.hid (below_then HBd.out hb); have HXc := Lib.hid (heap_on hb HXa1.out); have HX4 := Lib.hid (CmdVOk.on' HX3.out hb); clear hb; refine Stop.out ?_)
 unfold Stop
 go_wp2_with ((with_reducible apply wpList_load_row (ty := 28) (g := ba) (t := 28) (cs := cx) (fr := (0, 0)) (hg := HXc.out) (hu := Tryz.underlying28) (hi := HCx.out.1)); (case hgd => rfl); (case ho => rfl); (case hx => rfl); (case hd => rfl); refine Stop.out ?_)
 unfold Stop
 go_wp2_with (go_at_call 14; refine (HEx.out _ HBe.out HX4.out).mono ?_; rintro e wd ⟨hb, A, c, rfl, ht, hn⟩; have HBf := Lib.hid (below_then HBe.out hb); have HXd := Lib.hid (heap_on hb HXc.out); have HX5 := Lib.hid (CmdVOk.on' HX4.out hb); have hs1 := text_run wd A c T ht hn; have hs2 := text_run wd A0 cap T (HT.out.1.below HBf.out) HT.out.2; clear hb ht hn; refine Stop.out ?_)
 unfold Stop
 go_wp2_with ((with_reducible apply wpList_load_rowG (ty := 28) (g := ba) (t := 28) (cs := cx) (fr := (0, 0)) (hg := HXd.out) (hu := Tryz.underlying28) (hi := HCx.out.1)); (case hw => first | rfl | kernel_rfl); (case ho => rfl); (case hx => rfl); (case hd => rfl); refine Stop.out ?_)
 unfold Stop
 clear hs1 hs2
 go_wp2_with (go_at_call 8; refine (HGx.out _ HBf.out HX5.out).mono ?_; rintro e wg ⟨rfl, hb⟩; have HBg := Lib.hid (below_then HBf.out hb); clear hb; refine Stop.out ?_)
 unfold Stop
 go_wp2_with (go_at_call 7; refine (HS7.out _ HBg.out).mono ?_; rintro e w9 ⟨rfl, hb⟩; have HB9 := Lib.hid (below_then HBg.out hb); clear hb; refine Stop.out ?_)
 unfold Stop
 go_wp2
 go_ret
 exact ⟨rfl, HB9.out⟩
theorem same_at (s : Bool × Text) (A A' : Option Addr) (c c' : Nat) : sameC (dcX s A c) (dcX s A' c') = true := by
 rcases rd_cases (numV s) with h | h | h | h | h | h | h | h | h | h | h | h
 · rw [dcX_1 h, dcX_1 h]; exact sameC_self (dcX1 s A c)
 · rw [dcX_2 h, dcX_2 h]; exact sameC_self (dcX2 s A c)
 · rw [dcX_3 h, dcX_3 h]; exact sameC_self (dcX3 s A c)
 · rw [dcX_4 h, dcX_4 h]; exact sameC_self (dcX4 s A c)
 · rw [dcX_5 h, dcX_5 h]; exact sameC_self (dcX5 s A c)
 · rw [dcX_6 h, dcX_6 h]; exact sameC_self (dcX6 s A c)
 · rw [dcX_7 h, dcX_7 h]; exact sameC_self (dcX7 s A c)
 · rw [dcX_8 h, dcX_8 h]; exact sameC_self (dcX8 s A c)
 · rw [dcX_9 h, dcX_9 h]; exact sameC_self (dcX9 s A c)
 · rw [dcX_10 h, dcX_10 h]; exact sameC_self (dcX10 s A c)
 · rw [dcX_11 h, dcX_11 h]; exact sameC_self (dcX11 s A c)
 · rw [dcX_0 h, dcX_0 h]; exact sameC_self (dcX0 s A c)
theorem zero_ok (w : World) : CmdVOk w (onO (kindX 0)) := ⟨Nat.zero_le _, Nat.zero_le _, Nat.zero_le _, Nat.zero_le _, Nat.zero_le _, Nat.zero_le _, Nat.zero_le _, RowLineV.nil, fun _ => ⟨rfl, rfl⟩, Nat.le_refl _, Nat.zero_le _, fun r hr => absurd hr (by simp [onO])⟩
theorem recordDecodes_any (T : Text) (A0 : Option Addr) (cap : Nat) (w : World) (hT : Txt w A0 T) (hA : A0 = none → T = []) (hc : T.length ≤ cap) (hm : cap ≤ maxLen) (hM : MaxL w) : Calls Tryz.prog 5 #[.slice A0 T.length cap] w fun e w1 => e = .returned (.bool true) ∧ Below w.heap.size w w1 := by
 have h7 : Hid (∀ W, Below w.heap.size w W → Calls Tryz.prog 7 #[] W fun e w1 => e = .returned (.bool true) ∧ Below W.heap.size W w1) := Lib.hid fun W _ => rec_lives W
 by_cases hl : 10000 < (T.length : Int)
 · exact dec_long T A0 cap w h7 hl
 have hl2 : T.length ≤ 20000 := by omega
 have hp := fun W (hb : Below w.heap.size w W) => code_decode T A0 cap W hl2 (hT.below hb) hA (hM.below hb)
 have hr := fun W (hb : Below w.heap.size w W) => ref_decode T A0 cap W (hT.below hb) hA hl2 hc hm
 by_cases hq : dcS (false, T) = (false, []) ∧ goodC (dcX (false, T) none 0) = true
 · have hback : ∀ A c, goodC (dcX (false, T) A c) = true ∧ encT (dcX (false, T) A c) = T := fun A c => by
    have h := (dcX_good (false, T) A c).trans hq.2
    have e := rd_back hq.1 h
    injection e with _ e
    exact ⟨h, e.symm⟩
   refine dec_yes (fun x => ∃ A c, x = dcX (false, T) A c) T A0 cap w h7 hT hA hl (Lib.hid fun W hb => (hp W hb).mono fun e w1 h => ?_) (Lib.hid fun W hb => (hr W hb).mono fun e w1 h => ?_) (Lib.hid fun x y W hx hy hwx hwy => ?_) (Lib.hid fun x W hx hb hw => ?_) (Lib.hid fun x W hx hb hw => ?_)
   · rcases h with ⟨_, _, A, c, he, hx, hb2⟩ | h
     · exact ⟨_, he, hx, ⟨A, c, rfl⟩, hb2⟩
     · exact absurd hq h.1
   · obtain ⟨x, hcd, h⟩ := h
     obtain ⟨A, c, rfl⟩ := hcd hq.1 hq.2
     rcases h with ⟨_, _, he, hx, hb2⟩ | ⟨h, _⟩
     · exact ⟨_, he, hx, ⟨A, c, rfl⟩, hb2⟩
     · exact absurd (hback A c) h
   · obtain ⟨A, c, rfl⟩ := hx
     obtain ⟨A', c', rfl⟩ := hy
     exact ref_same _ _ W hwx hwy (Nat.le_trans (dcX_few _ _ _) (by omega)) true (same_at _ _ _ _ _)
   · obtain ⟨A, c, rfl⟩ := hx
     have h := encode_good _ W hw (Nat.le_trans (dcX_few _ _ _) (by omega)) (hM.below hb) (hback A c).1
     rw [(hback A c).2] at h
     exact h
   · obtain ⟨A, c, rfl⟩ := hx
     have h := code_goodC _ W hw (Nat.le_trans (dcX_few _ _ _) (by omega)) (hM.below hb)
     rw [(hback A c).1] at h
     exact h
 · refine dec_no T A0 cap w h7 hl (Lib.hid fun W hb => (hp W hb).mono fun e w1 h => ?_) (Lib.hid fun W hb => (hr W hb).mono fun e w1 h => ?_) (Lib.hid fun W hb => ref_same (onO (kindX 0)) (onO (kindX 0)) W (zero_ok W) (zero_ok W) (Nat.zero_le _) true (by simp [sameC, sameD, docOf, onO, kindX, likes]))
   · rcases h with h | h
     · exact absurd ⟨h.1, h.2.1⟩ hq
     · exact h.2
   · obtain ⟨x, hcd, h⟩ := h
     rcases h with ⟨hg, he, _⟩ | h
     · have h2 := rd_enc hg
       rw [he] at h2
       exact absurd h2 hq
     · exact h.2
end Go.Proofs.YtmjjenemokojjaaGreat

namespace Go.Proofs
open Go.Shelf
def Tryz.laysM144_ren : Go.Shelf.Ren := ⟨fun | 144 => 80 | 143 => 103 | 219 => 122 | 217 => 128 | 225 => 129 | 224 => 130 | 267 => 131 | 266 => 132 | 314 => 133 | n => n, fun | 9 => 9 | 4 => 4 | 3 => 3 | 5 => 5 | 46 => 106 | 146 => 125 | 51 => 124 | n => n, fun | 1 => 0 | n => n⟩
theorem Tryz.laysM144 : Go.Proofs.LaysM.n144 Tryz.prog Tryz.laysM144_ren := {
 mixed := by kernel_rfl
 f143 := Tryz.func103.trans (congrArg some (by kernel_rfl))
 f144 := Tryz.func80.trans (congrArg some (by kernel_rfl))
 f217 := Tryz.func128.trans (congrArg some (by kernel_rfl))
 f219 := Tryz.func122.trans (congrArg some (by kernel_rfl))
 f224 := Tryz.func130.trans (congrArg some (by kernel_rfl))
 f225 := Tryz.func129.trans (congrArg some (by kernel_rfl))
 f266 := Tryz.func132.trans (congrArg some (by kernel_rfl))
 f267 := Tryz.func131.trans (congrArg some (by kernel_rfl))
 f314 := Tryz.func133.trans (congrArg some (by kernel_rfl))
 t3 := Tryz.underlying3
 a3 := Tryz.isAgg3
 z3 := Tryz.sizeOf3
 v3 := Tryz.zeroValue3
 t4 := Tryz.underlying4
 a4 := Tryz.isAgg4
 z4 := Tryz.sizeOf4
 v4 := Tryz.zeroValue4
 t5 := Tryz.underlying5
 a5 := Tryz.isAgg5
 z5 := Tryz.sizeOf5
 v5 := Tryz.zeroValue5
 t9 := Tryz.underlying9
 a9 := Tryz.isAgg9
 z9 := Tryz.sizeOf9
 v9 := Tryz.zeroValue9
 t46 := Tryz.underlying106
 a46 := Tryz.isAgg106
 z46 := Tryz.sizeOf106
 v46 := Tryz.zeroValue106
 t51 := Tryz.underlying124
 a51 := Tryz.isAgg124
 z51 := Tryz.sizeOf124
 v51 := Tryz.zeroValue124
 t146 := Tryz.underlying125
 a146 := Tryz.isAgg125
 z146 := Tryz.sizeOf125
 v146 := Tryz.zeroValue125
 g1 := by kernel_rfl
 i3 := by kernel_rfl
 i4 := by kernel_rfl
 i5 := by kernel_rfl
 i9 := by kernel_rfl
 i46 := by kernel_rfl
 i51 := by kernel_rfl
 i146 := by kernel_rfl
 m1 := by kernel_rfl
 s1_3 := fun w h => Go.Proofs.cell_of_shapedOpen_int (zero := #[.int .i64 0]) (t := 3) h (of_decide_eq_true (by kernel_rfl)) (by kernel_rfl) rfl (by kernel_rfl) (by kernel_rfl) Tryz.underlying3 }
open Go.RowKit Go.Lib in
theorem Tryz.strings_Contains_shaped (s sub : ByteArray) (w : World) (h : w.ShapedOpen Tryz.prog) (hs : s.size < 4294967281) :
 Calls Tryz.prog 80 #[.string s, .string sub] w fun e w' => e = .returned (.bool (Lib.contains s.data.toList sub.data.toList)) ∧ w' = w := Any.strings_Contains_shaped Tryz.laysM144 s sub w h hs
end Go.Proofs
