/- The chapter's example. What is encoded: the walk through the statement. What is encoded. -/
import Derived.Test.YtplghpamckdklaaGreatE47
import Derived.Test.YtplghpamckdklaaGreatE46
import Derived.Test.YtplghpamckdklaaGreatE36
import Derived.Test.YtplghpamckdklaaGreatE34
import Derived.Test.YtplghpamckdklaaGreatE35
import Derived.Deep.Cut
import Derived.Deep.DeepCutAuto
import Derived.Laws.CopyOwn
import Derived.Test.YtplghpamckdklaaGreatE39
import Derived.Test.YtplghpamckdklaaGreatE43
import Derived.Test.YtplghpamckdklaaGreatE45
import Derived.Test.YtplghpamckdklaaGreatE3
import Derived.WalkMore
namespace Go.Proofs.YtplghpamckdklaaGreat
open Go.RowKit Go.ChangeShapes
set_option maxRecDepth 100000
set_option linter.unusedSimpArgs false
set_option linter.unusedVariables false

theorem rdYields_text {ops : Array Oper} {S : World → Prop} {o : Oper} {a : Act} (hw : Region.wanted o (yielded ops a.tmps) = true) (x : Operand) (ho : o.op = .convert 36 9 x) (A : Option Addr) (c n : Nat) (l : Text) (hn : l.length = n) (hx : a.eval x = .slice A n c)
 (hS : ∀ w, S w → Txt w A l) (hA : A = none → l = []) : YieldsIf Tryz.prog ops S o (.string ⟨l.toArray⟩) a := .inl ⟨hw, fun w hw' => by
 subst hn
 have hr := text_run w A c l (hS w hw') hA
 unfold execOp
 simp only [ho, hx]
 rw [Sem.run_bind, hr]
 rfl⟩
theorem simpleX_ok {A : Addr} {c : Nat} {W : World} (h : RowLineV W (some A) [simpleL]) (h1 : 1 ≤ c) (h2 : c ≤ maxLen) : CmdVOk W (simpleX A c) :=
 ⟨show (⟨#[]⟩ : ByteArray).size ≤ _ by decide, show (⟨#[]⟩ : ByteArray).size ≤ _ by decide, show (⟨#[97]⟩ : ByteArray).size ≤ _ by decide, show (⟨#[]⟩ : ByteArray).size ≤ _ by decide, show (⟨#[68, 69]⟩ : ByteArray).size ≤ _ by decide, show (⟨#[]⟩ : ByteArray).size ≤ _ by decide, show (⟨#[]⟩ : ByteArray).size ≤ _ by decide, h, fun e => absurd e (by simp [simpleX]), h1, h2, fun r hr => by
  have : r = simpleL := by simpa [simpleX] using hr
  subst this
  exact ⟨by decide, by decide, by decide⟩⟩
theorem same_simple (A B : Addr) (c d : Nat) (W : World) (hA : RowLineV W (some A) [simpleL]) (hB : RowLineV W (some B) [simpleL]) (h1 : 1 ≤ c) (h2 : c ≤ maxLen) (h3 : 1 ≤ d) (h4 : d ≤ maxLen) :
 Calls Tryz.prog 17 #[.agg (simpleCs (some A) c), .agg (simpleCs (some B) d)] W fun e w1 => e = .returned (.bool true) ∧ Below W.heap.size W w1 :=
 ref_same (simpleX A c) (simpleX B d) W (simpleX_ok hA h1 h2) (simpleX_ok hB h3 h4) (show ([simpleL] : List LineV).length ≤ _ by decide) true (show sameC (simpleX A c) (simpleX A c) = true from sameC_self _)
set_option maxHeartbeats 4000000 in
theorem rec_lives  (w : World) : Calls Tryz.prog 7 #[] w fun e w1 => e = .returned (.bool true) ∧ Below w.heap.size w w1 := by
 have HO1 : Hid (zeroCmd.size = 22) := Lib.hid rfl
 go_enter Tryz.func7, Tryz.ntmps7
 go_wp2_with (go_at_call 14; refine (encode_year _).mono ?_; rintro e w1 ⟨hb, A1, c1, rfl, ht, hn⟩; have HB1 := Lib.hid hb; have HT1 := Lib.hid ht; have HN1 := Lib.hid hn; clear hb ht hn; refine Stop.out ?_)
 unfold Stop
 go_wp2_with (go_at_call 19; refine (code_simple _).mono ?_; rintro e w2 ⟨Ax, rfl, hb, hr, hA⟩; have HB2 := Lib.hid (below_then HB1.out hb); have HT2 := Lib.hid (HT1.out.below hb); have HR2 := Lib.hid hr; have HA2 := Lib.hid hA; clear hb hr hA HB1 HT1; refine Stop.out ?_)
 unfold Stop
 go_wp2_with (go_at_call 14; refine (encode_simple Ax 1 _ HR2.out HA2.out (Nat.le_refl _) (by decide)).mono ?_; rintro e w3 ⟨hb, A3, c3, rfl, ht, hn⟩; have HB3 := Lib.hid (below_then HB2.out hb); have HT3 := Lib.hid (HT2.out.below hb); have HT3b := Lib.hid ht; have HN3 := Lib.hid hn; clear hb ht hn HB2 HT2 HR2 HA2; refine Stop.out ?_)
 unfold Stop
 go_wp2_with (go_at_call 16; refine (decode_simple A3 c3 _ HT3b.out HN3.out).mono ?_; rintro e w4 ⟨A4, c4, rfl, hr, hn, hl, hm, hb⟩; have HB4 := Lib.hid (below_then HB3.out hb); have HT4 := Lib.hid (HT3.out.below hb); have HR4 := Lib.hid hr; have HN4 := Lib.hid hn; have HL4 := Lib.hid (And.intro hl hm); clear hb hr hn hl hm HB3 HT3 HT3b HN3; refine Stop.out ?_)
 unfold Stop
 obtain ⟨A5, h5⟩ : ∃ A5, A4 = some A5 := by
  cases A4 with
  | none => exact absurd (HN4.out rfl).1 (by simp)
  | some A5 => exact ⟨A5, rfl⟩
 subst h5
 clear HN4
 have HSm : Hid (∀ (W : World) (Ay : Addr), RowLineV W (some A5) [simpleL] → RowLineV W (some Ay) [simpleL] → Calls Tryz.prog 17 #[.agg (simpleCs (some A5) c4), .agg #[.int .i64 8, .string ⟨#[]⟩, .string ⟨#[]⟩, .int .i64 0, .int .i64 0, .int .i64 0, .int .i64 0, .int .i64 0, .int .i64 0, .int .i64 0, .int .i64 0, .int .i64 0, .int .i64 0, .string ⟨#[97]⟩, .bool true, .bool false, .string ⟨#[]⟩, .int .i64 19000, .string ⟨#[68, 69]⟩, .string ⟨#[]⟩, .string ⟨#[]⟩, .slice (some Ay) 1 1]] W fun e w1 => e = .returned (.bool true) ∧ Below W.heap.size W w1) := Lib.hid (fun W Ay h h' => same_simple A5 Ay c4 1 W h h' HL4.out.1 HL4.out.2 (Nat.le_refl _) (by decide))
 have HCV := Lib.hid (simpleCs_ok (some A5) c4)
 generalize simpleCs (some A5) c4 = cv at HSm HCV ⊢
 have HX := Lib.hid (heap_alloc_new w4 (.cells zeroCmd 28))
 have HBn := Lib.hid (below_setRow (below_alloc w4 (.cells zeroCmd 28)) (Nat.le_refl w4.heap.size) cv)
 have HX3 := Lib.hid (setRow_heap (w4.alloc (.cells zeroCmd 28)) w4.heap.size _ cv _ _ HX.out)
 have HSZ : Hid (zeroCmd.size = cv.size) := Lib.hid (HO1.out.trans HCV.out.1.symm)
 have HI := Lib.hid (cmd_info HCV.out.1)
 go_wp2_with ((with_reducible refine wpList_store_row (o := ⟨none, _, _, _, _, _⟩) ?b1 28 (.tmp 5) (.tmp 21) ?b2 w4.heap.size cv ?b3 ?b4 28 zeroCmd HX.out ?b5 ?b6 ?b7 ?_); (case b1 => rfl); (case b2 => rfl); (case b3 => rfl); (case b4 => rfl); (case b5 => exact HI.out); (case b6 => exact HSZ.out); (case b7 => exact HCV.out.2); refine Stop.out ?_)
 unfold Stop
 generalize World.setRow _ _ _ = w5 at HBn HX3 ⊢
 generalize w4.heap.size = bb at HX3 ⊢
 clear HX
 go_wp2
 have HHd := Lib.hid (And.intro (heap_on (below_drew w5) HX3.out) ((HT4.out.below HBn.out).below (below_drew w5)))
 have HWdd := Lib.hid (below_then HBn.out (below_drew w5))
 refine wp_region_held_drew (S := fun V => V.heap[bb]? = some (.cells cv 28 (0, 0)) ∧ Txt V A1 [1, 11, 2, 7, 232]) (by kernel_rfl) HHd.out ?_
 intro hHeld
 clear HHd
 have HR5 := Lib.hid (HR4.out)
 generalize World.drew _ = wd at HWdd hHeld ⊢
 have HWd := HWdd
 clear HWdd
 (refine takeP (i := 0) ?_ rfl (.inl ⟨by rfl, ?_⟩) ?_; rotate_left; (focus ((intro wS hSw); (try dsimp only at hSw); obtain ⟨s0, s1⟩ := hSw; go_simp; (try with_reducible rfl); done)); (try simp only [Act.put, pA, pB, pC]))
 (refine takeH (i := 1) (v := (.string ⟨([1, 11, 2, 7, 232] : Text).toArray⟩)) rfl (by kernel_rfl) (by kernel_rfl) (by kernel_rfl) (fun _ _ _ h => h) (rdYields_text (by rfl) (.tmp 23) rfl A1 c1 5 [1, 11, 2, 7, 232] rfl rfl (fun _ h => h.2) HN1.out) (by assumption) ?_; (try simp only [Act.put, pA, pB, pC]))
 (refine takeP (i := 2) ?_ rfl (.inl ⟨by rfl, ?_⟩) ?_; rotate_left; (focus ((intro wS hSw); (try dsimp only at hSw); obtain ⟨s0, s1⟩ := hSw; go_simp; (try with_reducible rfl); done)); (try simp only [Act.put, pA, pB, pC]))
 (refine takeP (i := 3) ?_ rfl (.inl ⟨by rfl, ?_⟩) ?_; rotate_left; (focus ((intro wS hSw); (try dsimp only at hSw); obtain ⟨s0, s1⟩ := hSw; go_simp; (try with_reducible rfl); done)); (try simp only [Act.put, pA, pB, pC]))
 (refine takeP (i := 4) ?_ rfl (.inl ⟨by rfl, ?_⟩) ?_; rotate_left; (focus ((intro wS hSw); (try dsimp only at hSw); obtain ⟨s0, s1⟩ := hSw; go_simp; (try with_reducible rfl); done)); (try simp only [Act.put, pA, pB, pC]))
 (refine takeP (i := 5) ?_ rfl (.inl ⟨by rfl, ?_⟩) ?_; rotate_left; (focus ((intro wS hSw); (try dsimp only at hSw); obtain ⟨s0, s1⟩ := hSw; go_simp; (try with_reducible rfl); done)); (try simp only [Act.put, pA, pB, pC]))
 (refine takeP (i := 6) ?_ rfl (.inl ⟨by rfl, ?_⟩) ?_; rotate_left; (focus ((intro wS hSw); (try dsimp only at hSw); obtain ⟨s0, s1⟩ := hSw; go_simp; (try with_reducible rfl); done)); (try simp only [Act.put, pA, pB, pC]))
 (refine takeP (i := 7) ?_ rfl (.inl ⟨by rfl, ?_⟩) ?_; rotate_left; (focus ((intro wS hSw); (try dsimp only at hSw); obtain ⟨s0, s1⟩ := hSw; go_simp; (try with_reducible rfl); done)); (try simp only [Act.put, pA, pB, pC]))
 (refine takeP (i := 8) ?_ rfl (.inl ⟨by rfl, ?_⟩) ?_; rotate_left; (focus ((intro wS hSw); (try dsimp only at hSw); obtain ⟨s0, s1⟩ := hSw; go_simp; (try with_reducible rfl); done)); (try simp only [Act.put, pA, pB, pC]))
 (refine takeP (i := 9) ?_ rfl (.inl ⟨by rfl, ?_⟩) ?_; rotate_left; (focus ((intro wS hSw); (try dsimp only at hSw); obtain ⟨s0, s1⟩ := hSw; go_simp; (try with_reducible rfl); done)); (try simp only [Act.put, pA, pB, pC]))
 (refine takeP (i := 10) ?_ rfl (.inl ⟨by rfl, ?_⟩) ?_; rotate_left; (focus ((intro wS hSw); (try dsimp only at hSw); obtain ⟨s0, s1⟩ := hSw; go_simp; (try with_reducible rfl); done)); (try simp only [Act.put, pA, pB, pC]))
 (refine takeP (i := 11) ?_ rfl (.inl ⟨by rfl, ?_⟩) ?_; rotate_left; (focus ((intro wS hSw); (try dsimp only at hSw); obtain ⟨s0, s1⟩ := hSw; go_simp; (try with_reducible rfl); done)); (try simp only [Act.put, pA, pB, pC]))
 (refine takeP (i := 12) ?_ rfl (.inl ⟨by rfl, ?_⟩) ?_; rotate_left; (focus ((intro wS hSw); (try dsimp only at hSw); obtain ⟨s0, s1⟩ := hSw; go_simp; (try with_reducible rfl); done)); (try simp only [Act.put, pA, pB, pC]))
 (refine takeP (i := 13) ?_ rfl (.inl ⟨by rfl, ?_⟩) ?_; rotate_left; (focus ((intro wS hSw); (try dsimp only at hSw); obtain ⟨s0, s1⟩ := hSw; go_simp; (try with_reducible rfl); done)); (try simp only [Act.put, pA, pB, pC]))
 (refine takeP (i := 14) ?_ rfl (.inl ⟨by rfl, ?_⟩) ?_; rotate_left; (focus ((intro wS hSw); (try dsimp only at hSw); obtain ⟨s0, s1⟩ := hSw; go_simp; (try with_reducible rfl); done)); (try simp only [Act.put, pA, pB, pC]))
 (refine takeP (i := 15) ?_ rfl (.inl ⟨by rfl, ?_⟩) ?_; rotate_left; (focus ((intro wS hSw); (try dsimp only at hSw); obtain ⟨s0, s1⟩ := hSw; go_simp; (try with_reducible rfl); done)); (try simp only [Act.put, pA, pB, pC]))
 (refine takeH (i := 16) (v := (.agg cv)) rfl (by kernel_rfl) (by kernel_rfl) (by kernel_rfl) (fun _ _ _ h => h) (Or.inl ⟨by rfl, fun wS hSw => exec_load_row 28 (.tmp 5) rfl bb rfl 28 cv (0, 0) _ hSw.1 Tryz.underlying28 rfl HI.out⟩) (by assumption) ?_; (try simp only [Act.put, pA, pB, pC]))
 refine aloneH (i := 17) rfl (by kernel_rfl) (fun K hK => ?_)
 rw [if_pos (by rfl)]
 go_simp; ((refine (code_simple _).mono ?_); (rintro e w1 ⟨Ay, rfl, hb, hr, hA⟩); have HB1 := Lib.hid hb; have HRy := Lib.hid hr; clear hb hr hA; (try go_simp))
 refine hK.out _ _ (⟨heap_on HB1.out hHeld.1, (hHeld.2).below HB1.out⟩) ?_
 clear hK K hHeld; intro hHeld; (try simp only [Act.put, pA, pB, pC])
 refine aloneH (i := 18) rfl (by kernel_rfl) (fun K hK => ?_)
 rw [if_pos (by rfl)]
 go_simp; ((refine (HSm.out _ Ay (HR5.out.on (below_then HWd.out HB1.out)) HRy.out).mono ?_); (rintro e w2 ⟨rfl, hb⟩); have HB2 := Lib.hid hb; clear hb; (try go_simp))
 refine hK.out _ _ (⟨heap_on HB2.out hHeld.1, (hHeld.2).below HB2.out⟩) ?_
 clear hK K hHeld; intro hHeld; (try simp only [Act.put, pA, pB, pC])
 (refine takeP (i := 19) ?_ rfl (.inl ⟨by rfl, ?_⟩) ?_; rotate_left; (focus ((intro wS hSw); (try dsimp only at hSw); obtain ⟨s0, s1⟩ := hSw; go_simp; (try with_reducible rfl); done)); (try simp only [Act.put, pA, pB, pC]))
 (refine takeP (i := 20) ?_ rfl (.inl ⟨by rfl, ?_⟩) ?_; rotate_left; (focus ((intro wS hSw); (try dsimp only at hSw); obtain ⟨s0, s1⟩ := hSw; go_simp; (try with_reducible rfl); done)); (try simp only [Act.put, pA, pB]))
 refine wpAnyH_done (by kernel_rfl) ?_ _
 clear hHeld
 go_wp2
 go_ret
 exact ⟨rfl, below_then HB4.out (below_then HWd.out (below_then HB1.out HB2.out))⟩
end Go.Proofs.YtplghpamckdklaaGreat

namespace Go.Proofs.YtplghpamckdklaaGreat
open Go.RowKit
set_option maxRecDepth 100000
set_option linter.unusedSimpArgs false
set_option linter.unusedVariables false

set_option maxHeartbeats 2000000 in
theorem enc_long (cs : Array Value) (w : World) (hs : cs.size = 22) (HLx : Hid (∀ W, Below w.heap.size w W → Calls Tryz.prog 6 #[.agg cs] W fun e w1 => e = .returned (.bool false) ∧ Below W.heap.size W w1)) (HS7 : Hid (∀ W, Below w.heap.size w W → Calls Tryz.prog 7 #[] W fun e w1 => e = .returned (.bool true) ∧ Below W.heap.size W w1)) : Calls Tryz.prog 4 #[.agg cs] w fun e w1 => e = .returned (.bool true) ∧ Below w.heap.size w w1 := by
 have HX := Lib.hid (heap_alloc_new w (.cells cs 28))
 have HB0 := Lib.hid (below_alloc w (.cells cs 28))
 have HI := Lib.hid (cmd_info hs)
 clear hs
 go_enter Tryz.func4, Tryz.ntmps4
 go_wp2_with ((with_reducible refine wpList_load_row (o := ⟨some 9, _, _, _, _, _⟩) ?a1 28 (.tmp 1) ?a2 w.heap.size ?a3 28 cs (0, 0) _ HX.out Tryz.underlying28 ?a4 HI.out ?_); (case a1 => rfl); (case a2 => rfl); (case a3 => rfl); (case a4 => rfl); refine Stop.out ?_)
 unfold Stop
 go_wp2_with (go_at_call 6; refine (HLx.out _ HB0.out).mono ?_; rintro e w1 ⟨rfl, hb⟩; have HB1 := Lib.hid (below_then HB0.out hb); have HX1 := Lib.hid (heap_on hb HX.out); clear hb; refine Stop.out ?_)
 unfold Stop
 go_wp2_with (go_at_call 7; refine (HS7.out _ HB1.out).mono ?_; rintro e w9 ⟨rfl, hb⟩; have HB9 := Lib.hid (below_then HB1.out hb); clear hb; refine Stop.out ?_)
 unfold Stop
 go_wp2
 go_ret
 exact ⟨rfl, HB9.out⟩
set_option maxHeartbeats 2000000 in
theorem enc_bad (cs : Array Value) (w : World) (hs : cs.size = 22) (HLx : Hid (∀ W, Below w.heap.size w W → Calls Tryz.prog 6 #[.agg cs] W fun e w1 => e = .returned (.bool true) ∧ Below W.heap.size W w1)) (HE1 : Hid (∀ W, Below w.heap.size w W → Calls Tryz.prog 14 #[.agg cs] W fun e w1 => e = .returned (.tuple #[.slice none 0 0, .int .i64 2]) ∧ Below W.heap.size W w1)) (HE2 : Hid (∀ W, Below w.heap.size w W → Calls Tryz.prog 15 #[.agg cs] W fun e w1 => e = .returned (.tuple #[.slice none 0 0, .int .i64 2]) ∧ Below W.heap.size W w1)) (HS7 : Hid (∀ W, Below w.heap.size w W → Calls Tryz.prog 7 #[] W fun e w1 => e = .returned (.bool true) ∧ Below W.heap.size W w1)) : Calls Tryz.prog 4 #[.agg cs] w fun e w1 => e = .returned (.bool true) ∧ Below w.heap.size w w1 := by
 have HX := Lib.hid (heap_alloc_new w (.cells cs 28))
 have HB0 := Lib.hid (below_alloc w (.cells cs 28))
 have HI := Lib.hid (cmd_info hs)
 clear hs
 go_enter Tryz.func4, Tryz.ntmps4
 go_wp2_with ((with_reducible refine wpList_load_row (o := ⟨some 9, _, _, _, _, _⟩) ?a1 28 (.tmp 1) ?a2 w.heap.size ?a3 28 cs (0, 0) _ HX.out Tryz.underlying28 ?a4 HI.out ?_); (case a1 => rfl); (case a2 => rfl); (case a3 => rfl); (case a4 => rfl); refine Stop.out ?_)
 unfold Stop
 go_wp2_with (go_at_call 6; refine (HLx.out _ HB0.out).mono ?_; rintro e w1 ⟨rfl, hb⟩; have HB1 := Lib.hid (below_then HB0.out hb); have HX1 := Lib.hid (heap_on hb HX.out); clear hb; refine Stop.out ?_)
 unfold Stop
 go_wp2_with ((with_reducible refine wpList_load_row (o := ⟨some 14, _, _, _, _, _⟩) ?a1 28 (.tmp 1) ?a2 w.heap.size ?a3 28 cs (0, 0) _ HX1.out Tryz.underlying28 ?a4 HI.out ?_); (case a1 => rfl); (case a2 => rfl); (case a3 => rfl); (case a4 => rfl); refine Stop.out ?_)
 unfold Stop
 go_wp2_with (go_at_call 14; refine (HE1.out _ HB1.out).mono ?_; rintro e w2 ⟨rfl, hb⟩; have HB2 := Lib.hid (below_then HB1.out hb); have HX2 := Lib.hid (heap_on hb HX1.out); clear hb; refine Stop.out ?_)
 unfold Stop
 go_wp2_with ((with_reducible refine wpList_load_row (o := ⟨some 19, _, _, _, _, _⟩) ?a1 28 (.tmp 1) ?a2 w.heap.size ?a3 28 cs (0, 0) _ HX2.out Tryz.underlying28 ?a4 HI.out ?_); (case a1 => rfl); (case a2 => rfl); (case a3 => rfl); (case a4 => rfl); refine Stop.out ?_)
 unfold Stop
 go_wp2_with (go_at_call 15; refine (HE2.out _ HB2.out).mono ?_; rintro e w3 ⟨rfl, hb⟩; have HB3 := Lib.hid (below_then HB2.out hb); clear hb; have hs0 := text_run w3 none 0 [] Txt.none_ (fun _ => rfl); simp only [List.length_nil] at hs0; refine Stop.out ?_)
 unfold Stop
 go_wp2_with (go_at_call 7; refine (HS7.out _ HB3.out).mono ?_; rintro e w9 ⟨rfl, hb⟩; have HB9 := Lib.hid (below_then HB3.out hb); clear hb; refine Stop.out ?_)
 unfold Stop
 go_wp2
 go_ret
 exact ⟨rfl, HB9.out⟩
set_option maxHeartbeats 4000000 in
theorem enc_ok (cs : Array Value) (T : Text) (w : World) (hs : cs.size = 22) (HLx : Hid (∀ W, Below w.heap.size w W → Calls Tryz.prog 6 #[.agg cs] W fun e w1 => e = .returned (.bool true) ∧ Below W.heap.size W w1)) (HE1 : Hid (∀ W, Below w.heap.size w W → Calls Tryz.prog 14 #[.agg cs] W (EncP W T))) (HE2 : Hid (∀ W, Below w.heap.size w W → Calls Tryz.prog 15 #[.agg cs] W (EncR W T))) (HDc : Hid (∀ (W : World) (A : Option Addr) (c : Nat), Below w.heap.size w W → Txt W A T → (A = none → T = []) → Calls Tryz.prog 16 #[.slice A T.length c] W fun e w1 => ∃ cy : Array Value, e = .returned (.tuple #[.agg cy, .int .i64 0]) ∧ cy.size = 22 ∧ cy.all (·.oneCell') = true ∧ (∀ W1, Below w1.heap.size w1 W1 → Calls Tryz.prog 17 #[.agg cs, .agg cy] W1 fun e w2 => e = .returned (.bool true) ∧ Below W1.heap.size W1 w2) ∧ Below W.heap.size W w1)) (HS7 : Hid (∀ W, Below w.heap.size w W → Calls Tryz.prog 7 #[] W fun e w1 => e = .returned (.bool true) ∧ Below W.heap.size W w1)) : Calls Tryz.prog 4 #[.agg cs] w fun e w1 => e = .returned (.bool true) ∧ Below w.heap.size w w1 := by
 have HX := Lib.hid (heap_alloc_new w (.cells cs 28))
 have HB0 := Lib.hid (below_alloc w (.cells cs 28))
 have HI := Lib.hid (cmd_info hs)
 clear hs
 go_enter Tryz.func4, Tryz.ntmps4
 go_wp2_with ((with_reducible refine wpList_load_row (o := ⟨some 9, _, _, _, _, _⟩) ?a1 28 (.tmp 1) ?a2 w.heap.size ?a3 28 cs (0, 0) _ HX.out Tryz.underlying28 ?a4 HI.out ?_); (case a1 => rfl); (case a2 => rfl); (case a3 => rfl); (case a4 => rfl); refine Stop.out ?_)
 unfold Stop
 go_wp2_with (go_at_call 6; refine (HLx.out _ HB0.out).mono ?_; rintro e w1 ⟨rfl, hb⟩; have HB1 := Lib.hid (below_then HB0.out hb); have HX1 := Lib.hid (heap_on hb HX.out); clear hb; refine Stop.out ?_)
 unfold Stop
 go_wp2_with ((with_reducible refine wpList_load_row (o := ⟨some 14, _, _, _, _, _⟩) ?a1 28 (.tmp 1) ?a2 w.heap.size ?a3 28 cs (0, 0) _ HX1.out Tryz.underlying28 ?a4 HI.out ?_); (case a1 => rfl); (case a2 => rfl); (case a3 => rfl); (case a4 => rfl); refine Stop.out ?_)
 unfold Stop
 go_wp2_with (go_at_call 14; refine (HE1.out _ HB1.out).mono ?_; rintro e w2 ⟨hb, A, c, rfl, ht, hn⟩; have HB2 := Lib.hid (below_then HB1.out hb); have HX2 := Lib.hid (heap_on hb HX1.out); have HT := Lib.hid (And.intro ht hn); clear hb ht hn; refine Stop.out ?_)
 unfold Stop
 go_wp2_with ((with_reducible refine wpList_load_row (o := ⟨some 19, _, _, _, _, _⟩) ?a1 28 (.tmp 1) ?a2 w.heap.size ?a3 28 cs (0, 0) _ HX2.out Tryz.underlying28 ?a4 HI.out ?_); (case a1 => rfl); (case a2 => rfl); (case a3 => rfl); (case a4 => rfl); refine Stop.out ?_)
 unfold Stop
 go_wp2_with (go_at_call 15; refine (HE2.out _ HB2.out).mono ?_; rintro e w3 ⟨v, rfl, ho, hb⟩; obtain ⟨A2, c2, rfl, ht2, hn2⟩ := own_txt ho; have HB3 := Lib.hid (below_then HB2.out hb); have HX3 := Lib.hid (heap_on hb HX2.out); have HT3 := Lib.hid (HT.out.1.below hb); have hs1 := text_run w3 A c T HT3.out HT.out.2; have hs2 := text_run w3 A2 c2 T ht2 hn2; clear hb ho ht2 hn2; refine Stop.out ?_)
 unfold Stop
 go_wp2_with (go_at_call 16; refine (HDc.out _ A c HB3.out HT3.out HT.out.2).mono ?_; rintro e w4 ⟨cy, rfl, hsz, hone, hsm, hb⟩; have HB4 := Lib.hid (below_then HB3.out hb); have HX4 := Lib.hid (heap_on hb HX3.out); have HSM := Lib.hid hsm; have HCY := Lib.hid (And.intro (cmd_info hsz) (And.intro hone hsz)); clear hb hsz hone hsm hs1 hs2; refine Stop.out ?_)
 unfold Stop
 have HX5 := Lib.hid (heap_on (below_alloc w4 (.cells #[.int .i64 0, .string ⟨#[]⟩, .string ⟨#[]⟩, .int .i64 0, .int .i64 0, .int .i64 0, .int .i64 0, .int .i64 0, .int .i64 0, .int .i64 0, .int .i64 0, .int .i64 0, .int .i64 0, .string ⟨#[]⟩, .bool false, .bool false, .string ⟨#[]⟩, .int .i64 0, .string ⟨#[]⟩, .string ⟨#[]⟩, .string ⟨#[]⟩, .slice none 0 0] 28)) HX4.out)
 have HZ5 := Lib.hid (heap_alloc_new w4 (.cells #[.int .i64 0, .string ⟨#[]⟩, .string ⟨#[]⟩, .int .i64 0, .int .i64 0, .int .i64 0, .int .i64 0, .int .i64 0, .int .i64 0, .int .i64 0, .int .i64 0, .int .i64 0, .int .i64 0, .string ⟨#[]⟩, .bool false, .bool false, .string ⟨#[]⟩, .int .i64 0, .string ⟨#[]⟩, .string ⟨#[]⟩, .string ⟨#[]⟩, .slice none 0 0] 28))
 have HB5 := Lib.hid (below_then HB4.out (below_alloc w4 (.cells #[.int .i64 0, .string ⟨#[]⟩, .string ⟨#[]⟩, .int .i64 0, .int .i64 0, .int .i64 0, .int .i64 0, .int .i64 0, .int .i64 0, .int .i64 0, .int .i64 0, .int .i64 0, .int .i64 0, .string ⟨#[]⟩, .bool false, .bool false, .string ⟨#[]⟩, .int .i64 0, .string ⟨#[]⟩, .string ⟨#[]⟩, .string ⟨#[]⟩, .slice none 0 0] 28)))
 have HQ5 := Lib.hid (below_alloc w4 (.cells #[.int .i64 0, .string ⟨#[]⟩, .string ⟨#[]⟩, .int .i64 0, .int .i64 0, .int .i64 0, .int .i64 0, .int .i64 0, .int .i64 0, .int .i64 0, .int .i64 0, .int .i64 0, .int .i64 0, .string ⟨#[]⟩, .bool false, .bool false, .string ⟨#[]⟩, .int .i64 0, .string ⟨#[]⟩, .string ⟨#[]⟩, .string ⟨#[]⟩, .slice none 0 0] 28))
 have HLt := Lib.hid (show w.heap.size < w4.heap.size from heapLt HX4.out)
 go_wp2_with ((with_reducible refine wpList_store_row (o := ⟨none, _, _, _, _, _⟩) ?b1 28 (.tmp 7) (.tmp 39) ?b2 w4.heap.size cy ?b3 ?b4 28 #[.int .i64 0, .string ⟨#[]⟩, .string ⟨#[]⟩, .int .i64 0, .int .i64 0, .int .i64 0, .int .i64 0, .int .i64 0, .int .i64 0, .int .i64 0, .int .i64 0, .int .i64 0, .int .i64 0, .string ⟨#[]⟩, .bool false, .bool false, .string ⟨#[]⟩, .int .i64 0, .string ⟨#[]⟩, .string ⟨#[]⟩, .string ⟨#[]⟩, .slice none 0 0] HZ5.out ?b5 ?b6 ?b7 ?_); (case b1 => rfl); (case b2 => rfl); (case b3 => rfl); (case b4 => rfl); (case b5 => exact HCY.out.1); (case b6 => exact HCY.out.2.2.symm); (case b7 => exact HCY.out.2.1); refine Stop.out ?_)
 unfold Stop
 have HZ6 := Lib.hid (setRow_heap _ w4.heap.size _ cy _ _ HZ5.out)
 have HX6 := Lib.hid ((setRow_other _ w4.heap.size w.heap.size cy (Nat.ne_of_lt HLt.out)).trans HX5.out)
 have HB6 := Lib.hid (below_setRow HB5.out (Nat.le_of_lt HLt.out) cy)
 have HQ6 := Lib.hid (below_setRow HQ5.out (Nat.le_refl _) cy)
 generalize World.setRow _ _ _ = w6 at HZ6 HX6 HB6 HQ6 ⊢
 clear HX HB0 HX1 HB1 HX2 HB2 HX3 HB3 HX4 HB4 HX5 HZ5 HB5 HQ5 HT HT3
 go_wp2_with ((with_reducible refine wpList_load_rowG (o := ⟨some 44, _, _, _, _, _⟩) ?a0 28 (.tmp 1) ?a1 w.heap.size ?a2 28 cs (0, 0) _ HX6.out Tryz.underlying28 ?a4 HI.out ?_); (case a0 => first | rfl | kernel_rfl); (case a1 => rfl); (case a2 => rfl); (case a4 => rfl); refine Stop.out ?_)
 unfold Stop
 go_wp2_with ((with_reducible refine wpList_load_rowG (o := ⟨some 45, _, _, _, _, _⟩) ?a0 28 (.tmp 7) ?a1 w4.heap.size ?a2 28 cy (0, 0) _ HZ6.out Tryz.underlying28 ?a4 HCY.out.1 ?_); (case a0 => first | rfl | kernel_rfl); (case a1 => rfl); (case a2 => rfl); (case a4 => rfl); refine Stop.out ?_)
 unfold Stop
 go_wp2_with (go_at_call 17; refine (HSM.out _ HQ6.out).mono ?_; rintro e w7 ⟨rfl, hb⟩; have HB7 := Lib.hid (below_then HB6.out hb); clear hb; refine Stop.out ?_)
 unfold Stop
 go_wp2_with (go_at_call 7; refine (HS7.out _ HB7.out).mono ?_; rintro e w9 ⟨rfl, hb⟩; have HB9 := Lib.hid (below_then HB7.out hb); clear hb; refine Stop.out ?_)
 unfold Stop
 go_wp2
 go_ret
 exact ⟨rfl, HB9.out⟩
theorem light_few {x : CmdV} (h : lightC x = true) : x.lines.length ≤ 140737488351232 := by
 unfold lightC at h
 simp only [Bool.and_eq_true, decide_eq_true_eq] at h
 omega
end Go.Proofs.YtplghpamckdklaaGreat

namespace Go.Proofs.YtplghpamckdklaaGreat
open Go.RowKit
set_option maxRecDepth 100000
set_option linter.unusedSimpArgs false
set_option linter.unusedVariables false

theorem refEncode_1 (x : CmdV) (w : World) (hx : CmdVOk w x) (hn : x.lines.length ≤ 140737488351232) (hg : goodC x = true) (hk : x.kind = 1) : Calls Tryz.prog 15 #[.agg (cmdA x)] w (EncR w (encT x)) :=
 refEnc_1 (cmdA x) x w hk rfl (Lib.hid (fun W hb => by have h := ref_goodC x W (CmdVOk.on' hx hb) hn; rw [hg] at h; exact h)) (congrArg (fun z => some (Value.int .i64 z)) hk) rfl rfl rfl ((fit_1 hk hg).1) ((fit_1 hk hg).2.2) ((fit_1 hk hg).2.1)
theorem refEncode_2 (x : CmdV) (w : World) (hx : CmdVOk w x) (hn : x.lines.length ≤ 140737488351232) (hg : goodC x = true) (hk : x.kind = 2) : Calls Tryz.prog 15 #[.agg (cmdA x)] w (EncR w (encT x)) :=
 refEnc_2 (cmdA x) x w hk rfl (Lib.hid (fun W hb => by have h := ref_goodC x W (CmdVOk.on' hx hb) hn; rw [hg] at h; exact h)) (congrArg (fun z => some (Value.int .i64 z)) hk) rfl rfl rfl rfl rfl ((fit_2 hk hg).1) ((fit_2 hk hg).2.1) ((fit_2 hk hg).2.2.2.2) ((fit_2 hk hg).2.2.1) ((fit_2 hk hg).2.2.2.1)
theorem refEncode_3 (x : CmdV) (w : World) (hx : CmdVOk w x) (hn : x.lines.length ≤ 140737488351232) (hg : goodC x = true) (hk : x.kind = 3) : Calls Tryz.prog 15 #[.agg (cmdA x)] w (EncR w (encT x)) :=
 refEnc_3 (cmdA x) x w hk rfl (Lib.hid (fun W hb => by have h := ref_goodC x W (CmdVOk.on' hx hb) hn; rw [hg] at h; exact h)) (congrArg (fun z => some (Value.int .i64 z)) hk) rfl rfl ((fit_3 hk hg).1) ((fit_3 hk hg).2)
theorem refEncode_4 (x : CmdV) (w : World) (hx : CmdVOk w x) (hn : x.lines.length ≤ 140737488351232) (hg : goodC x = true) (hk : x.kind = 4) : Calls Tryz.prog 15 #[.agg (cmdA x)] w (EncR w (encT x)) :=
 refEnc_4 (cmdA x) x w hk rfl (Lib.hid (fun W hb => by have h := ref_goodC x W (CmdVOk.on' hx hb) hn; rw [hg] at h; exact h)) (congrArg (fun z => some (Value.int .i64 z)) hk) rfl rfl rfl rfl ((fit_4 hk hg).1) ((fit_4 hk hg).2.1) ((fit_4 hk hg).2.2.1) ((fit_4 hk hg).2.2.2)
theorem refEncode_5 (x : CmdV) (w : World) (hx : CmdVOk w x) (hn : x.lines.length ≤ 140737488351232) (hg : goodC x = true) (hk : x.kind = 5) : Calls Tryz.prog 15 #[.agg (cmdA x)] w (EncR w (encT x)) :=
 refEnc_5 (cmdA x) x w hk rfl (Lib.hid (fun W hb => by have h := ref_goodC x W (CmdVOk.on' hx hb) hn; rw [hg] at h; exact h)) (congrArg (fun z => some (Value.int .i64 z)) hk) rfl rfl rfl rfl rfl ((fit_5 hk hg).1) ((fit_5 hk hg).2.2.2.1) ((fit_5 hk hg).2.2.2.2) ((fit_5 hk hg).2.1) ((fit_5 hk hg).2.2.1)
theorem refEncode_6 (x : CmdV) (w : World) (hx : CmdVOk w x) (hn : x.lines.length ≤ 140737488351232) (hg : goodC x = true) (hk : x.kind = 6) : Calls Tryz.prog 15 #[.agg (cmdA x)] w (EncR w (encT x)) :=
 refEnc_6 (cmdA x) x w hk rfl (Lib.hid (fun W hb => by have h := ref_goodC x W (CmdVOk.on' hx hb) hn; rw [hg] at h; exact h)) (congrArg (fun z => some (Value.int .i64 z)) hk) rfl (fit_6 hk hg)
theorem refEncode_7 (x : CmdV) (w : World) (hx : CmdVOk w x) (hn : x.lines.length ≤ 140737488351232) (hg : goodC x = true) (hk : x.kind = 7) : Calls Tryz.prog 15 #[.agg (cmdA x)] w (EncR w (encT x)) :=
 refEnc_7 (cmdA x) x w hk rfl (Lib.hid (fun W hb => by have h := ref_goodC x W (CmdVOk.on' hx hb) hn; rw [hg] at h; exact h)) (congrArg (fun z => some (Value.int .i64 z)) hk) rfl rfl ((fit_7 hk hg).2) ((fit_7 hk hg).1)
theorem refEncode_8 (x : CmdV) (w : World) (hx : CmdVOk w x) (hn : x.lines.length ≤ 140737488351232) (hg : goodC x = true) (hk : x.kind = 8) : Calls Tryz.prog 15 #[.agg (cmdA x)] w (EncR w (encT x)) :=
 refEnc_8 (cmdA x) x w hk rfl (Lib.hid (fun W hb => by have h := ref_goodC x W (CmdVOk.on' hx hb) hn; rw [hg] at h; exact h)) (congrArg (fun z => some (Value.int .i64 z)) hk) rfl rfl rfl rfl rfl rfl rfl rfl rfl (fit_8 hk hg) hx.2.2.2.2.2.2.2.2.2.1 (fun W hb => hx.2.2.2.2.2.2.2.1.on hb)
theorem refEncode_9 (x : CmdV) (w : World) (hx : CmdVOk w x) (hn : x.lines.length ≤ 140737488351232) (hg : goodC x = true) (hk : x.kind = 9) : Calls Tryz.prog 15 #[.agg (cmdA x)] w (EncR w (encT x)) :=
 refEnc_9 (cmdA x) x w hk rfl (Lib.hid (fun W hb => by have h := ref_goodC x W (CmdVOk.on' hx hb) hn; rw [hg] at h; exact h)) (congrArg (fun z => some (Value.int .i64 z)) hk) rfl rfl rfl ((fit_9 hk hg).1) ((fit_9 hk hg).2.1) ((fit_9 hk hg).2.2)
theorem refEncode_10 (x : CmdV) (w : World) (hx : CmdVOk w x) (hn : x.lines.length ≤ 140737488351232) (hg : goodC x = true) (hk : x.kind = 10) : Calls Tryz.prog 15 #[.agg (cmdA x)] w (EncR w (encT x)) :=
 refEnc_10 (cmdA x) x w hk rfl (Lib.hid (fun W hb => by have h := ref_goodC x W (CmdVOk.on' hx hb) hn; rw [hg] at h; exact h)) (congrArg (fun z => some (Value.int .i64 z)) hk) rfl rfl rfl ((fit_10 hk hg).1) ((fit_10 hk hg).2.1) ((fit_10 hk hg).2.2)
theorem refEncode_11 (x : CmdV) (w : World) (hx : CmdVOk w x) (hn : x.lines.length ≤ 140737488351232) (hg : goodC x = true) (hk : x.kind = 11) : Calls Tryz.prog 15 #[.agg (cmdA x)] w (EncR w (encT x)) :=
 refEnc_11 (cmdA x) x w hk rfl (Lib.hid (fun W hb => by have h := ref_goodC x W (CmdVOk.on' hx hb) hn; rw [hg] at h; exact h)) (congrArg (fun z => some (Value.int .i64 z)) hk) rfl (fit_11 hk hg)
theorem refEncode_good (x : CmdV) (w : World) (hx : CmdVOk w x) (hn : x.lines.length ≤ 140737488351232) (hg : goodC x = true) : Calls Tryz.prog 15 #[.agg (cmdA x)] w (EncR w (encT x)) := by
 have hk := kind_in hg
 by_cases h1 : x.kind = 1
 · exact refEncode_1 x w hx hn hg h1
 by_cases h2 : x.kind = 2
 · exact refEncode_2 x w hx hn hg h2
 by_cases h3 : x.kind = 3
 · exact refEncode_3 x w hx hn hg h3
 by_cases h4 : x.kind = 4
 · exact refEncode_4 x w hx hn hg h4
 by_cases h5 : x.kind = 5
 · exact refEncode_5 x w hx hn hg h5
 by_cases h6 : x.kind = 6
 · exact refEncode_6 x w hx hn hg h6
 by_cases h7 : x.kind = 7
 · exact refEncode_7 x w hx hn hg h7
 by_cases h8 : x.kind = 8
 · exact refEncode_8 x w hx hn hg h8
 by_cases h9 : x.kind = 9
 · exact refEncode_9 x w hx hn hg h9
 by_cases h10 : x.kind = 10
 · exact refEncode_10 x w hx hn hg h10
 by_cases h11 : x.kind = 11
 · exact refEncode_11 x w hx hn hg h11
 omega
theorem recordEncodes_any (x : CmdV) (w : World) (hx : CmdVOk w x) (hM : MaxL w) :
 Calls Tryz.prog 4 #[.agg (cmdA x)] w fun e w1 => e = .returned (.bool true) ∧ Below w.heap.size w w1 := by
 have h7 : ∀ W, Below w.heap.size w W → Calls Tryz.prog 7 #[] W fun e w1 => e = .returned (.bool true) ∧ Below W.heap.size W w1 := fun W _ => rec_lives W
 cases hlx : lightC x with
 | false => exact enc_long (cmdA x) w rfl (Lib.hid fun W hb => code_light x W (CmdVOk.on' hx hb) false hlx) (Lib.hid h7)
 | true =>
   have n1 := light_few hlx
   have hL : Hid (∀ W, Below w.heap.size w W → Calls Tryz.prog 6 #[.agg (cmdA x)] W fun e w1 => e = .returned (.bool true) ∧ Below W.heap.size W w1) := Lib.hid fun W hb => code_light x W (CmdVOk.on' hx hb) true hlx
   cases hg : goodC x with
   | false =>
     exact enc_bad (cmdA x) w rfl hL
      (Lib.hid fun W hb => encode_not (cmdA x) W rfl (Lib.hid fun W2 hb2 => by have h := code_goodC x W2 (CmdVOk.on' hx (below_then hb hb2)) n1 (hM.below (below_then hb hb2)); rw [hg] at h; exact h))
      (Lib.hid fun W hb => refEnc_not (cmdA x) W rfl (Lib.hid fun W2 hb2 => by have h := ref_goodC x W2 (CmdVOk.on' hx (below_then hb hb2)) n1; rw [hg] at h; exact h))
      (Lib.hid h7)
   | true =>
     refine enc_ok (cmdA x) (encT x) w rfl hL
      (Lib.hid fun W hb => encode_good x W (CmdVOk.on' hx hb) n1 (hM.below hb) hg)
      (Lib.hid fun W hb => refEncode_good x W (CmdVOk.on' hx hb) n1 hg)
      (Lib.hid fun W A c hb hT hA => (decode_enc x W (CmdVOk.on' hx hb) n1 (hM.below hb) hg A c hT hA).mono fun e w1 h => ?_) (Lib.hid h7)
     obtain ⟨y, he, hy, hs, _, _, _, hb1⟩ := h
     exact ⟨(cmdA y), he, rfl, by simp [Value.oneCell', cmdA], fun W1 hb2 => ref_same x y W1 (CmdVOk.on' hx (below_then hb (below_then hb1 hb2))) (CmdVOk.on' hy hb2) n1 true hs, hb1⟩
end Go.Proofs.YtplghpamckdklaaGreat
