/- A document, and a command, is the same as itself. The chapter's example. Commands: what may be: the program's, by what it calls. -/
import Derived.Test.YtplghpamckdklaaGreatQ7
import Derived.Test.YtplghpamckdklaaGreatQ24
import Derived.Test.YtplghpamckdklaaGreatQ16
import Derived.Test.YtplghpamckdklaaGreatQ15
import Derived.Test.YtplghpamckdklaaGreatQ26
import Derived.Deep.Cut
import Derived.Deep.DeepCutAuto
import Derived.Laws.CopyOwn
import Derived.Test.YtplghpamckdklaaGreatQ9
import Derived.WalkMore
namespace Go.Proofs.YtplghpamckdklaaGreat

theorem likeL_self (p : LineV) : likeL p p = true := by
  unfold likeL
  simp
theorem likes_self (L : List LineV) : likes L L = true := by
  unfold likes
  rw [beq_self_eq_true, Bool.true_and, List.all_eq_true]
  intro z hz
  obtain ⟨i, hi, rfl⟩ := List.getElem_of_mem hz
  rw [List.getElem_zip]
  exact likeL_self _
theorem sameD_self (x : DocV) : sameD x x = true := by
  unfold sameD
  simp [likes_self]
theorem sameC_self (x : CmdV) : sameC x x = true := by
  unfold sameC
  simp [sameD_self]
end Go.Proofs.YtplghpamckdklaaGreat

namespace Go.Proofs.YtplghpamckdklaaGreat
open Go.RowKit Go.ChangeShapes
set_option maxRecDepth 100000
set_option linter.unusedSimpArgs false
set_option linter.unusedVariables false

theorem rdYields_text {ops : Array Oper} {S : World → Prop} {o : Oper} {a : Act} (hw : Region.wanted o (yielded ops a.tmps) = true) (x : Operand) (ho : o.op = .convert 36 9 x) (A : Option Addr) (c n : Nat) (l : Text) (hn : l.length = n) (hx : a.eval x = .slice A n c)
    (hS : ∀ w, S w → Txt w A l) (hA : A = none → l = []) : YieldsIf Tryz.prog ops S o (.string ⟨l.toArray⟩) a := .inl ⟨hw, fun w hw' => by
  subst hn
  have hr := text_run w A c l (hS w hw') hA
  unfold execOp
  simp only [ho, hx]
  rw [Sem.run_bind, hr]
  rfl⟩
theorem simpleX_ok {A : Addr} {c : Nat} {W : World} (h : RowLineV W (some A) [simpleL]) (h1 : 1 ≤ c) (h2 : c ≤ maxLen) : CmdVOk W (simpleX A c) :=
  ⟨show (⟨#[]⟩ : ByteArray).size ≤ _ by decide, show (⟨#[]⟩ : ByteArray).size ≤ _ by decide, show (⟨#[97]⟩ : ByteArray).size ≤ _ by decide, show (⟨#[]⟩ : ByteArray).size ≤ _ by decide, show (⟨#[68, 69]⟩ : ByteArray).size ≤ _ by decide, show (⟨#[]⟩ : ByteArray).size ≤ _ by decide, show (⟨#[]⟩ : ByteArray).size ≤ _ by decide, h, fun e => absurd e (by simp [simpleX]), h1, h2, fun r hr => by
    have : r = simpleL := by simpa [simpleX] using hr
    subst this
    exact ⟨by decide, by decide, by decide⟩⟩
theorem same_simple (A B : Addr) (c d : Nat) (W : World) (hA : RowLineV W (some A) [simpleL]) (hB : RowLineV W (some B) [simpleL]) (h1 : 1 ≤ c) (h2 : c ≤ maxLen) (h3 : 1 ≤ d) (h4 : d ≤ maxLen) :
    Calls Tryz.prog 17 #[.agg (simpleCs (some A) c), .agg (simpleCs (some B) d)] W fun e w1 => e = .returned (.bool true) ∧ Below W.heap.size W w1 :=
  ref_same (simpleX A c) (simpleX B d) W (simpleX_ok hA h1 h2) (simpleX_ok hB h3 h4) (show ([simpleL] : List LineV).length ≤ _ by decide) true (show sameC (simpleX A c) (simpleX A c) = true from sameC_self _)
set_option maxHeartbeats 4000000 in
theorem rec_lives  (w : World) : Calls Tryz.prog 7 #[] w fun e w1 => e = .returned (.bool true) ∧ Below w.heap.size w w1 := by
  have HO1 : Hid ((#[.int .i64 0, .string ⟨#[]⟩, .string ⟨#[]⟩, .int .i64 0, .int .i64 0, .int .i64 0, .int .i64 0, .int .i64 0, .int .i64 0, .int .i64 0, .int .i64 0, .int .i64 0, .int .i64 0, .string ⟨#[]⟩, .bool false, .bool false, .string ⟨#[]⟩, .int .i64 0, .string ⟨#[]⟩, .string ⟨#[]⟩, .string ⟨#[]⟩, .slice none 0 0] : Array Value).size = 22) := Lib.hid rfl
  go_enter Tryz.func7, Tryz.ntmps7
  go_wp2_with (go_at_call 14; refine (encode_year _).mono ?_; rintro e w1 ⟨hb, A1, c1, rfl, ht, hn⟩; have HB1 := Lib.hid hb; have HT1 := Lib.hid ht; have HN1 := Lib.hid hn; clear hb ht hn; refine Stop.out ?_)
  unfold Stop
  go_wp2_with (go_at_call 19; refine (code_simple _).mono ?_; rintro e w2 ⟨Ax, rfl, hb, hr, hA⟩; have HB2 := Lib.hid (below_then HB1.out hb); have HT2 := Lib.hid (HT1.out.below hb); have HR2 := Lib.hid hr; have HA2 := Lib.hid hA; clear hb hr hA HB1 HT1; refine Stop.out ?_)
  unfold Stop
  go_wp2_with (go_at_call 14; refine (encode_simple Ax 1 _ HR2.out HA2.out (Nat.le_refl _) (by decide)).mono ?_; rintro e w3 ⟨hb, A3, c3, rfl, ht, hn⟩; have HB3 := Lib.hid (below_then HB2.out hb); have HT3 := Lib.hid (HT2.out.below hb); have HT3b := Lib.hid ht; have HN3 := Lib.hid hn; clear hb ht hn HB2 HT2 HR2 HA2; refine Stop.out ?_)
  unfold Stop
  go_wp2_with (go_at_call 16; refine (decode_simple A3 c3 _ HT3b.out HN3.out).mono ?_; rintro e w4 ⟨A4, c4, rfl, hr, hn, hl, hm, hb⟩; have HB4 := Lib.hid (below_then HB3.out hb); have HT4 := Lib.hid (HT3.out.below hb); have HR4 := Lib.hid hr; have HN4 := Lib.hid hn; have HL4 := Lib.hid (And.intro hl hm); clear hb hr hn hl hm HB3 HT3 HT3b HN3; refine Stop.out ?_)
  unfold Stop
  obtain ⟨A5, h5⟩ : ∃ A5, A4 = some A5 := by
    cases A4 with
    | none => exact absurd (HN4.out rfl).1 (by simp)
    | some A5 => exact ⟨A5, rfl⟩
  subst h5
  clear HN4
  have HSm : Hid (∀ (W : World) (Ay : Addr), RowLineV W (some A5) [simpleL] → RowLineV W (some Ay) [simpleL] → Calls Tryz.prog 17 #[.agg (simpleCs (some A5) c4), .agg #[.int .i64 8, .string ⟨#[]⟩, .string ⟨#[]⟩, .int .i64 0, .int .i64 0, .int .i64 0, .int .i64 0, .int .i64 0, .int .i64 0, .int .i64 0, .int .i64 0, .int .i64 0, .int .i64 0, .string ⟨#[97]⟩, .bool true, .bool false, .string ⟨#[]⟩, .int .i64 19000, .string ⟨#[68, 69]⟩, .string ⟨#[]⟩, .string ⟨#[]⟩, .slice (some Ay) 1 1]] W fun e w1 => e = .returned (.bool true) ∧ Below W.heap.size W w1) := Lib.hid (fun W Ay h h' => same_simple A5 Ay c4 1 W h h' HL4.out.1 HL4.out.2 (Nat.le_refl _) (by decide))
  have HCV := Lib.hid (simpleCs_ok (some A5) c4)
  generalize simpleCs (some A5) c4 = cv at HSm HCV ⊢
  have HX := Lib.hid (heap_alloc_new w4 (.cells #[.int .i64 0, .string ⟨#[]⟩, .string ⟨#[]⟩, .int .i64 0, .int .i64 0, .int .i64 0, .int .i64 0, .int .i64 0, .int .i64 0, .int .i64 0, .int .i64 0, .int .i64 0, .int .i64 0, .string ⟨#[]⟩, .bool false, .bool false, .string ⟨#[]⟩, .int .i64 0, .string ⟨#[]⟩, .string ⟨#[]⟩, .string ⟨#[]⟩, .slice none 0 0] 28))
  have HBn := Lib.hid (below_setRow (below_alloc w4 (.cells #[.int .i64 0, .string ⟨#[]⟩, .string ⟨#[]⟩, .int .i64 0, .int .i64 0, .int .i64 0, .int .i64 0, .int .i64 0, .int .i64 0, .int .i64 0, .int .i64 0, .int .i64 0, .int .i64 0, .string ⟨#[]⟩, .bool false, .bool false, .string ⟨#[]⟩, .int .i64 0, .string ⟨#[]⟩, .string ⟨#[]⟩, .string ⟨#[]⟩, .slice none 0 0] 28)) (Nat.le_refl w4.heap.size) cv)
  have HX3 := Lib.hid (setRow_heap (w4.alloc (.cells #[.int .i64 0, .string ⟨#[]⟩, .string ⟨#[]⟩, .int .i64 0, .int .i64 0, .int .i64 0, .int .i64 0, .int .i64 0, .int .i64 0, .int .i64 0, .int .i64 0, .int .i64 0, .int .i64 0, .string ⟨#[]⟩, .bool false, .bool false, .string ⟨#[]⟩, .int .i64 0, .string ⟨#[]⟩, .string ⟨#[]⟩, .string ⟨#[]⟩, .slice none 0 0] 28)) w4.heap.size _ cv _ _ HX.out)
  have HSZ : Hid ((#[.int .i64 0, .string ⟨#[]⟩, .string ⟨#[]⟩, .int .i64 0, .int .i64 0, .int .i64 0, .int .i64 0, .int .i64 0, .int .i64 0, .int .i64 0, .int .i64 0, .int .i64 0, .int .i64 0, .string ⟨#[]⟩, .bool false, .bool false, .string ⟨#[]⟩, .int .i64 0, .string ⟨#[]⟩, .string ⟨#[]⟩, .string ⟨#[]⟩, .slice none 0 0] : Array Value).size = cv.size) := Lib.hid (HO1.out.trans HCV.out.1.symm)
  have HI := Lib.hid (cmd_info HCV.out.1)
  go_wp2_with ((with_reducible refine wpList_store_row (o := ⟨none, _, _, _, _, _⟩) ?b1 28 (.tmp 5) (.tmp 21) ?b2 w4.heap.size cv ?b3 ?b4 28 #[.int .i64 0, .string ⟨#[]⟩, .string ⟨#[]⟩, .int .i64 0, .int .i64 0, .int .i64 0, .int .i64 0, .int .i64 0, .int .i64 0, .int .i64 0, .int .i64 0, .int .i64 0, .int .i64 0, .string ⟨#[]⟩, .bool false, .bool false, .string ⟨#[]⟩, .int .i64 0, .string ⟨#[]⟩, .string ⟨#[]⟩, .string ⟨#[]⟩, .slice none 0 0] HX.out ?b5 ?b6 ?b7 ?_); (case b1 => rfl); (case b2 => rfl); (case b3 => rfl); (case b4 => rfl); (case b5 => exact HI.out); (case b6 => exact HSZ.out); (case b7 => exact HCV.out.2); refine Stop.out ?_)
  unfold Stop
  generalize World.setRow _ _ _ = w5 at HBn HX3 ⊢
  generalize w4.heap.size = bb at HX3 ⊢
  clear HX
  go_wp2
  have HHd := Lib.hid (And.intro (heap_on (below_drew w5) HX3.out) ((HT4.out.below HBn.out).below (below_drew w5)))
  have HWdd := Lib.hid (below_then HBn.out (below_drew w5))
  refine wp_region_held_drew (S := fun V => V.heap[bb]? = some (.cells cv 28 (0, 0)) ∧ Txt V A1 [1, 11, 2, 7, 232]) (by kernel_rfl) HHd.out ?_
  intro hHeld
  clear HHd
  have HR5 := Lib.hid (HR4.out)
  generalize World.drew _ = wd at HWdd hHeld ⊢
  have HWd := HWdd
  clear HWdd
  (refine takeH (i := 0) (v := ?_) rfl (by kernel_rfl) (by kernel_rfl) (by kernel_rfl) (fun _ _ _ h => h) (Or.inl ⟨by rfl, ?_⟩) (by assumption) ?_; rotate_left; (focus ((intro wS hSw); (try dsimp only at hSw); obtain ⟨s0, s1⟩ := hSw; go_simp; (try with_reducible rfl); done)); (try simp only [Act.put, List.setIfInBounds_toArray, List.set_cons_zero, List.set_cons_succ]))
  (refine takeH (i := 1) (v := (.string ⟨([1, 11, 2, 7, 232] : Text).toArray⟩)) rfl (by kernel_rfl) (by kernel_rfl) (by kernel_rfl) (fun _ _ _ h => h) (rdYields_text (by rfl) (.tmp 23) rfl A1 c1 5 [1, 11, 2, 7, 232] rfl rfl (fun _ h => h.2) HN1.out) (by assumption) ?_; (try simp only [Act.put, List.setIfInBounds_toArray, List.set_cons_zero, List.set_cons_succ]))
  (refine takeH (i := 2) (v := ?_) rfl (by kernel_rfl) (by kernel_rfl) (by kernel_rfl) (fun _ _ _ h => h) (Or.inl ⟨by rfl, ?_⟩) (by assumption) ?_; rotate_left; (focus ((intro wS hSw); (try dsimp only at hSw); obtain ⟨s0, s1⟩ := hSw; go_simp; (try with_reducible rfl); done)); (try simp only [Act.put, List.setIfInBounds_toArray, List.set_cons_zero, List.set_cons_succ]))
  (refine takeH (i := 3) (v := ?_) rfl (by kernel_rfl) (by kernel_rfl) (by kernel_rfl) (fun _ _ _ h => h) (Or.inl ⟨by rfl, ?_⟩) (by assumption) ?_; rotate_left; (focus ((intro wS hSw); (try dsimp only at hSw); obtain ⟨s0, s1⟩ := hSw; go_simp; (try with_reducible rfl); done)); (try simp only [Act.put, List.setIfInBounds_toArray, List.set_cons_zero, List.set_cons_succ]))
  (refine takeH (i := 4) (v := ?_) rfl (by kernel_rfl) (by kernel_rfl) (by kernel_rfl) (fun _ _ _ h => h) (Or.inl ⟨by rfl, ?_⟩) (by assumption) ?_; rotate_left; (focus ((intro wS hSw); (try dsimp only at hSw); obtain ⟨s0, s1⟩ := hSw; go_simp; (try with_reducible rfl); done)); (try simp only [Act.put, List.setIfInBounds_toArray, List.set_cons_zero, List.set_cons_succ]))
  (refine takeH (i := 5) (v := ?_) rfl (by kernel_rfl) (by kernel_rfl) (by kernel_rfl) (fun _ _ _ h => h) (Or.inl ⟨by rfl, ?_⟩) (by assumption) ?_; rotate_left; (focus ((intro wS hSw); (try dsimp only at hSw); obtain ⟨s0, s1⟩ := hSw; go_simp; (try with_reducible rfl); done)); (try simp only [Act.put, List.setIfInBounds_toArray, List.set_cons_zero, List.set_cons_succ]))
  (refine takeH (i := 6) (v := ?_) rfl (by kernel_rfl) (by kernel_rfl) (by kernel_rfl) (fun _ _ _ h => h) (Or.inl ⟨by rfl, ?_⟩) (by assumption) ?_; rotate_left; (focus ((intro wS hSw); (try dsimp only at hSw); obtain ⟨s0, s1⟩ := hSw; go_simp; (try with_reducible rfl); done)); (try simp only [Act.put, List.setIfInBounds_toArray, List.set_cons_zero, List.set_cons_succ]))
  (refine takeH (i := 7) (v := ?_) rfl (by kernel_rfl) (by kernel_rfl) (by kernel_rfl) (fun _ _ _ h => h) (Or.inl ⟨by rfl, ?_⟩) (by assumption) ?_; rotate_left; (focus ((intro wS hSw); (try dsimp only at hSw); obtain ⟨s0, s1⟩ := hSw; go_simp; (try with_reducible rfl); done)); (try simp only [Act.put, List.setIfInBounds_toArray, List.set_cons_zero, List.set_cons_succ]))
  (refine takeH (i := 8) (v := ?_) rfl (by kernel_rfl) (by kernel_rfl) (by kernel_rfl) (fun _ _ _ h => h) (Or.inl ⟨by rfl, ?_⟩) (by assumption) ?_; rotate_left; (focus ((intro wS hSw); (try dsimp only at hSw); obtain ⟨s0, s1⟩ := hSw; go_simp; (try with_reducible rfl); done)); (try simp only [Act.put, List.setIfInBounds_toArray, List.set_cons_zero, List.set_cons_succ]))
  (refine takeH (i := 9) (v := ?_) rfl (by kernel_rfl) (by kernel_rfl) (by kernel_rfl) (fun _ _ _ h => h) (Or.inl ⟨by rfl, ?_⟩) (by assumption) ?_; rotate_left; (focus ((intro wS hSw); (try dsimp only at hSw); obtain ⟨s0, s1⟩ := hSw; go_simp; (try with_reducible rfl); done)); (try simp only [Act.put, List.setIfInBounds_toArray, List.set_cons_zero, List.set_cons_succ]))
  (refine takeH (i := 10) (v := ?_) rfl (by kernel_rfl) (by kernel_rfl) (by kernel_rfl) (fun _ _ _ h => h) (Or.inl ⟨by rfl, ?_⟩) (by assumption) ?_; rotate_left; (focus ((intro wS hSw); (try dsimp only at hSw); obtain ⟨s0, s1⟩ := hSw; go_simp; (try with_reducible rfl); done)); (try simp only [Act.put, List.setIfInBounds_toArray, List.set_cons_zero, List.set_cons_succ]))
  (refine takeH (i := 11) (v := ?_) rfl (by kernel_rfl) (by kernel_rfl) (by kernel_rfl) (fun _ _ _ h => h) (Or.inl ⟨by rfl, ?_⟩) (by assumption) ?_; rotate_left; (focus ((intro wS hSw); (try dsimp only at hSw); obtain ⟨s0, s1⟩ := hSw; go_simp; (try with_reducible rfl); done)); (try simp only [Act.put, List.setIfInBounds_toArray, List.set_cons_zero, List.set_cons_succ]))
  (refine takeH (i := 12) (v := ?_) rfl (by kernel_rfl) (by kernel_rfl) (by kernel_rfl) (fun _ _ _ h => h) (Or.inl ⟨by rfl, ?_⟩) (by assumption) ?_; rotate_left; (focus ((intro wS hSw); (try dsimp only at hSw); obtain ⟨s0, s1⟩ := hSw; go_simp; (try with_reducible rfl); done)); (try simp only [Act.put, List.setIfInBounds_toArray, List.set_cons_zero, List.set_cons_succ]))
  (refine takeH (i := 13) (v := ?_) rfl (by kernel_rfl) (by kernel_rfl) (by kernel_rfl) (fun _ _ _ h => h) (Or.inl ⟨by rfl, ?_⟩) (by assumption) ?_; rotate_left; (focus ((intro wS hSw); (try dsimp only at hSw); obtain ⟨s0, s1⟩ := hSw; go_simp; (try with_reducible rfl); done)); (try simp only [Act.put, List.setIfInBounds_toArray, List.set_cons_zero, List.set_cons_succ]))
  (refine takeH (i := 14) (v := ?_) rfl (by kernel_rfl) (by kernel_rfl) (by kernel_rfl) (fun _ _ _ h => h) (Or.inl ⟨by rfl, ?_⟩) (by assumption) ?_; rotate_left; (focus ((intro wS hSw); (try dsimp only at hSw); obtain ⟨s0, s1⟩ := hSw; go_simp; (try with_reducible rfl); done)); (try simp only [Act.put, List.setIfInBounds_toArray, List.set_cons_zero, List.set_cons_succ]))
  (refine takeH (i := 15) (v := ?_) rfl (by kernel_rfl) (by kernel_rfl) (by kernel_rfl) (fun _ _ _ h => h) (Or.inl ⟨by rfl, ?_⟩) (by assumption) ?_; rotate_left; (focus ((intro wS hSw); (try dsimp only at hSw); obtain ⟨s0, s1⟩ := hSw; go_simp; (try with_reducible rfl); done)); (try simp only [Act.put, List.setIfInBounds_toArray, List.set_cons_zero, List.set_cons_succ]))
  (refine takeH (i := 16) (v := (.agg cv)) rfl (by kernel_rfl) (by kernel_rfl) (by kernel_rfl) (fun _ _ _ h => h) (Or.inl ⟨by rfl, fun wS hSw => exec_load_row 28 (.tmp 5) rfl bb rfl 28 cv (0, 0) _ hSw.1 Tryz.underlying28 rfl HI.out⟩) (by assumption) ?_; (try simp only [Act.put, List.setIfInBounds_toArray, List.set_cons_zero, List.set_cons_succ]))
  refine aloneH (i := 17) rfl (by kernel_rfl) (fun K hK => ?_)
  rw [if_pos (by rfl)]
  go_simp; ((refine (code_simple _).mono ?_); (rintro e w1 ⟨Ay, rfl, hb, hr, hA⟩); have HB1 := Lib.hid hb; have HRy := Lib.hid hr; clear hb hr hA; (try go_simp))
  refine hK.out _ _ (⟨heap_on HB1.out hHeld.1, (hHeld.2).below HB1.out⟩) (fun hNew => ?_)
  clear hK K hHeld; (have hHeld := hNew); clear hNew; (try simp only [Act.put, List.setIfInBounds_toArray, List.set_cons_zero, List.set_cons_succ])
  refine aloneH (i := 18) rfl (by kernel_rfl) (fun K hK => ?_)
  rw [if_pos (by rfl)]
  go_simp; ((refine (HSm.out _ Ay (HR5.out.on (below_then HWd.out HB1.out)) HRy.out).mono ?_); (rintro e w2 ⟨rfl, hb⟩); have HB2 := Lib.hid hb; clear hb; (try go_simp))
  refine hK.out _ _ (⟨heap_on HB2.out hHeld.1, (hHeld.2).below HB2.out⟩) (fun hNew => ?_)
  clear hK K hHeld; (have hHeld := hNew); clear hNew; (try simp only [Act.put, List.setIfInBounds_toArray, List.set_cons_zero, List.set_cons_succ])
  (refine takeH (i := 19) (v := ?_) rfl (by kernel_rfl) (by kernel_rfl) (by kernel_rfl) (fun _ _ _ h => h) (Or.inl ⟨by rfl, ?_⟩) (by assumption) ?_; rotate_left; (focus ((intro wS hSw); (try dsimp only at hSw); obtain ⟨s0, s1⟩ := hSw; go_simp; (try with_reducible rfl); done)); (try simp only [Act.put, List.setIfInBounds_toArray, List.set_cons_zero, List.set_cons_succ]))
  (refine takeH (i := 20) (v := ?_) rfl (by kernel_rfl) (by kernel_rfl) (by kernel_rfl) (fun _ _ _ h => h) (Or.inl ⟨by rfl, ?_⟩) (by assumption) ?_; rotate_left; (focus ((intro wS hSw); (try dsimp only at hSw); obtain ⟨s0, s1⟩ := hSw; go_simp; (try with_reducible rfl); done)); (try simp only [Act.put, List.setIfInBounds_toArray, List.set_cons_zero]))
  refine wpAnyH_done (by kernel_rfl) ?_ _
  clear hHeld
  go_wp2
  go_ret
  exact ⟨rfl, below_then HB4.out (below_then HWd.out (below_then HB1.out HB2.out))⟩
end Go.Proofs.YtplghpamckdklaaGreat

namespace Go.Proofs.YtplghpamckdklaaGreat
open Go.RowKit
set_option maxRecDepth 100000
set_option linter.unusedSimpArgs false
set_option linter.unusedVariables false

theorem good_any (cs : Array Value) (k : Int) (u : Array Value) (a s : Bool) (w : World) (hs : cs.size = 22) (hk : cs[0]? = some (.int .i64 k)) (HA : Hid (∀ W, Below w.heap.size w W → Calls Tryz.prog 20 #[.agg cs] W fun e w1 => e = .returned (.bool a) ∧ Below W.heap.size W w1)) (HU : Hid (∀ W, Calls Tryz.prog 22 #[.agg cs] W fun e w1 => e = .returned (.agg u) ∧ Below W.heap.size W w1)) (HSm : Hid (∀ W, Below w.heap.size w W → Calls Tryz.prog 21 #[.agg u, .agg #[.int .i64 k, .string ⟨#[]⟩, .string ⟨#[]⟩, .int .i64 0, .int .i64 0, .int .i64 0, .int .i64 0, .int .i64 0, .int .i64 0, .int .i64 0, .int .i64 0, .int .i64 0, .int .i64 0, .string ⟨#[]⟩, .bool false, .bool false, .string ⟨#[]⟩, .int .i64 0, .string ⟨#[]⟩, .string ⟨#[]⟩, .string ⟨#[]⟩, .slice none 0 0]] W fun e w1 => e = .returned (.bool s) ∧ Below W.heap.size W w1)) : Calls Tryz.prog 8 #[.agg cs] w fun e w1 => e = .returned (.bool (a && s)) ∧ Below w.heap.size w w1 := by
  cases a
  · exact good_no cs k w hs hk HA
  · rw [Bool.true_and]
    exact good_yes cs k u s w hs hk HA HU HSm
end Go.Proofs.YtplghpamckdklaaGreat
