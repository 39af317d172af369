/- Of any row and any name the amount, or the mark, is the document's: walked. -/
import Derived.Test.YtaccjfoifkfpfaaDoorEnH
namespace Go.Proofs.YtaccjfoifkfpfaaDoor
open Go.RowKit
set_option maxRecDepth 100000
set_option linter.unusedSimpArgs false
set_option linter.unusedVariables false

theorem same_fields (A B : Option Addr) (w : World) (hA : Strs w A fieldsL) (hB : Strs w B fieldsL) : Calls Tryd.prog 16 #[.slice A 4 4, .slice B 4 4] w fun e w' => e = .returned (.bool true) ∧ Below w.heap.size w w' := by
  have h := ref_same fieldsL fieldsL A B 4 4 w (by decide) hA hB
  rw [decide_eq_true rfl] at h
  exact h
theorem same_tags (A B : Option Addr) (w : World) (hA : Strs w A tagsL) (hB : Strs w B tagsL) : Calls Tryd.prog 16 #[.slice A 6 6, .slice B 6 6] w fun e w' => e = .returned (.bool true) ∧ Below w.heap.size w w' := by
  have h := ref_same tagsL tagsL A B 6 6 w (by decide) hA hB
  rw [decide_eq_true rfl] at h
  exact h
set_option maxHeartbeats 4000000 in
theorem entryNames_R (x : RowV) (R : Array Value) (hR : R = rowA x) (s : ByteArray) (w : World) (hx : ∀ W, Calls Tryd.prog 6 #[.agg (rowA x)] W fun e w1 => e = .returned (.bool (lightR x)) ∧ Below W.heap.size W w1) (hT : TabW w) :
    Calls Tryd.prog 3 #[.agg R, .string s] w fun e w' => e = .returned (.bool true) ∧ Below w.heap.size w w' := by
  have HLv : Hid (∀ W, Below w.heap.size w W → Calls Tryd.prog 7 #[] W fun e w1 => e = .returned (.bool true) ∧ Below W.heap.size W w1) := Lib.hid (fun W hb => en_lives W (hT.below hb))
  have HLi : Hid (∀ W, Calls Tryd.prog 6 #[.agg R] W fun e w1 => e = .returned (.bool (lightR x)) ∧ Below W.heap.size W w1) := Lib.hid (by rw [hR]; exact hx)
  obtain ⟨a, ha⟩ : ∃ a, a = (fieldX x s).1 := ⟨_, rfl⟩
  obtain ⟨qa, hqa⟩ : ∃ qa, qa = (fieldX x s).2 := ⟨_, rfl⟩
  obtain ⟨c, hc⟩ : ∃ c, c = (tagX x s).1 := ⟨_, rfl⟩
  obtain ⟨qc, hqc⟩ : ∃ qc, qc = (tagX x s).2 := ⟨_, rfl⟩
  obtain ⟨lt, hlt⟩ : ∃ lt, lt = lateB x := ⟨_, rfl⟩
  obtain ⟨ow, how⟩ : ∃ ow, ow = owedV x := ⟨_, rfl⟩
  have HF1 : Hid (∀ W, Calls Tryd.prog 8 #[.agg R, .string s] W fun e w1 => e = .returned (.tuple #[.int .i64 a, .bool qa]) ∧ Below W.heap.size W w1) := Lib.hid (by rw [hR, ha, hqa]; exact code_field x s)
  have HF2 : Hid (∀ W, Calls Tryd.prog 9 #[.agg R, .string s] W fun e w1 => e = .returned (.tuple #[.int .i64 a, .bool qa]) ∧ Below W.heap.size W w1) := Lib.hid (by rw [hR, ha, hqa]; exact ref_field x s)
  have HG1 : Hid (∀ W, Calls Tryd.prog 10 #[.agg R, .string s] W fun e w1 => e = .returned (.tuple #[.int .i64 c, .bool qc]) ∧ Below W.heap.size W w1) := Lib.hid (by rw [hR, hc, hqc]; exact code_tag x s)
  have HG2 : Hid (∀ W, Calls Tryd.prog 11 #[.agg R, .string s] W fun e w1 => e = .returned (.tuple #[.int .i64 c, .bool qc]) ∧ Below W.heap.size W w1) := Lib.hid (by rw [hR, hc, hqc]; exact ref_tag x s)
  have HL1 : Hid (∀ W, Calls Tryd.prog 12 #[.agg R] W fun e w1 => e = .returned (.bool lt) ∧ Below W.heap.size W w1) := Lib.hid (by rw [hR, hlt]; exact code_late x)
  have HL2 : Hid (∀ W, Calls Tryd.prog 13 #[.agg R] W fun e w1 => e = .returned (.bool lt) ∧ Below W.heap.size W w1) := Lib.hid (by rw [hR, hlt]; exact ref_late x)
  have HO1 : Hid (∀ W, Calls Tryd.prog 14 #[.agg R] W fun e w1 => e = .returned (.int .i64 ow) ∧ Below W.heap.size W w1) := Lib.hid (by rw [hR, how]; exact code_owed x)
  have HO2 : Hid (∀ W, Calls Tryd.prog 15 #[.agg R] W fun e w1 => e = .returned (.int .i64 ow) ∧ Below W.heap.size W w1) := Lib.hid (by rw [hR, how]; exact ref_owed x)
  have HIn : Hid ((Tryd.prog.info? 25).map (·.size) = some R.size) := Lib.hid (by rw [hR]; kernel_rfl)
  have HX0 : Hid ((w.alloc (.cells R 25)).heap[w.heap.size]? = some (.cells R 25 (0, 0))) := Lib.hid (heap_alloc_new w _)
  have HB0 : Hid (Below w.heap.size w (w.alloc (.cells R 25))) := Lib.hid (below_alloc _ _)
  generalize lightR x = ql at HLi
  clear hR hx hT ha hqa hc hqc hlt how
  cases ql
  · go_enter Tryd.func3, Tryd.ntmps3
    go_wp2_with ((with_reducible refine wpList_load_row (o := ⟨some 13, _, _, _, _, _⟩) ?a1 25 (.tmp 2) ?a2 w.heap.size ?a3 25 R (0, 0) _ HX0.out Tryd.underlying25 ?a4 HIn.out ?_); (case a1 => rfl); (case a2 => rfl); (case a3 => rfl); (case a4 => rfl); refine Stop.out ?_)
    unfold Stop
    go_wp2_with (go_at_call 6; refine (HLi.out _).mono ?_; rintro e w1 ⟨rfl, hb⟩; have HB1 := Lib.hid (below_then HB0.out hb); have HX1 := Lib.hid (heap_on hb HX0.out); clear hb; refine Stop.out ?_)
    unfold Stop
    go_wp2_with (go_at_call 7; refine (HLv.out _ HB1.out).mono ?_; rintro e wz ⟨rfl, hb⟩; have HBz := Lib.hid (below_then HB1.out hb); clear hb)
    go_ret
    exact ⟨rfl, HBz.out⟩
  · by_cases hbig : (300 : Int) < (s.size : Int)
    · go_enter Tryd.func3, Tryd.ntmps3
      go_wp2_with ((with_reducible refine wpList_load_row (o := ⟨some 13, _, _, _, _, _⟩) ?a1 25 (.tmp 2) ?a2 w.heap.size ?a3 25 R (0, 0) _ HX0.out Tryd.underlying25 ?a4 HIn.out ?_); (case a1 => rfl); (case a2 => rfl); (case a3 => rfl); (case a4 => rfl); refine Stop.out ?_)
      unfold Stop
      go_wp2_with (go_at_call 6; refine (HLi.out _).mono ?_; rintro e w1 ⟨rfl, hb⟩; have HB1 := Lib.hid (below_then HB0.out hb); have HX1 := Lib.hid (heap_on hb HX0.out); clear hb; refine Stop.out ?_)
      unfold Stop
      go_wp2_with (go_at_call 7; refine (HLv.out _ HB1.out).mono ?_; rintro e wz ⟨rfl, hb⟩; have HBz := Lib.hid (below_then HB1.out hb); clear hb)
      go_ret
      exact ⟨rfl, HBz.out⟩
    · have hbig' : ¬ (300 : Int) < (s.size : Int) := hbig
      go_enter Tryd.func3, Tryd.ntmps3
      go_wp2_with ((with_reducible refine wpList_load_row (o := ⟨some 13, _, _, _, _, _⟩) ?a1 25 (.tmp 2) ?a2 w.heap.size ?a3 25 R (0, 0) _ HX0.out Tryd.underlying25 ?a4 HIn.out ?_); (case a1 => rfl); (case a2 => rfl); (case a3 => rfl); (case a4 => rfl); refine Stop.out ?_)
      unfold Stop
      go_wp2_with (go_at_call 6; refine (HLi.out _).mono ?_; rintro e w1 ⟨rfl, hb⟩; have HB1 := Lib.hid (below_then HB0.out hb); have HX1 := Lib.hid (heap_on hb HX0.out); clear hb; refine Stop.out ?_)
      unfold Stop
      go_wp2_with ((with_reducible refine wpList_load_row (o := ⟨some 23, _, _, _, _, _⟩) ?a1 25 (.tmp 2) ?a2 w.heap.size ?a3 25 R (0, 0) _ HX1.out Tryd.underlying25 ?a4 HIn.out ?_); (case a1 => rfl); (case a2 => rfl); (case a3 => rfl); (case a4 => rfl); refine Stop.out ?_)
      unfold Stop
      go_wp2_with (go_at_call 8; refine (HF1.out _).mono ?_; rintro e w2 ⟨rfl, hb⟩; have HB2 := Lib.hid (below_then HB1.out hb); have HX2 := Lib.hid (heap_on hb HX1.out); clear hb; refine Stop.out ?_)
      unfold Stop
      go_wp2_with ((with_reducible refine wpList_load_row (o := ⟨some 29, _, _, _, _, _⟩) ?a1 25 (.tmp 2) ?a2 w.heap.size ?a3 25 R (0, 0) _ HX2.out Tryd.underlying25 ?a4 HIn.out ?_); (case a1 => rfl); (case a2 => rfl); (case a3 => rfl); (case a4 => rfl); refine Stop.out ?_)
      unfold Stop
      go_wp2_with (go_at_call 9; refine (HF2.out _).mono ?_; rintro e w3 ⟨rfl, hb⟩; have HB3 := Lib.hid (below_then HB2.out hb); have HX3 := Lib.hid (heap_on hb HX2.out); clear hb; refine Stop.out ?_)
      unfold Stop
      go_wp2_with ((with_reducible refine wpList_load_row (o := ⟨some 35, _, _, _, _, _⟩) ?a1 25 (.tmp 2) ?a2 w.heap.size ?a3 25 R (0, 0) _ HX3.out Tryd.underlying25 ?a4 HIn.out ?_); (case a1 => rfl); (case a2 => rfl); (case a3 => rfl); (case a4 => rfl); refine Stop.out ?_)
      unfold Stop
      go_wp2_with (go_at_call 10; refine (HG1.out _).mono ?_; rintro e w4 ⟨rfl, hb⟩; have HB4 := Lib.hid (below_then HB3.out hb); have HX4 := Lib.hid (heap_on hb HX3.out); clear hb; refine Stop.out ?_)
      unfold Stop
      go_wp2_with ((with_reducible refine wpList_load_row (o := ⟨some 41, _, _, _, _, _⟩) ?a1 25 (.tmp 2) ?a2 w.heap.size ?a3 25 R (0, 0) _ HX4.out Tryd.underlying25 ?a4 HIn.out ?_); (case a1 => rfl); (case a2 => rfl); (case a3 => rfl); (case a4 => rfl); refine Stop.out ?_)
      unfold Stop
      go_wp2_with (go_at_call 11; refine (HG2.out _).mono ?_; rintro e w5 ⟨rfl, hb⟩; have HB5 := Lib.hid (below_then HB4.out hb); have HX5 := Lib.hid (heap_on hb HX4.out); clear hb; refine Stop.out ?_)
      unfold Stop
      go_wp2
      have HXd : Hid (w5.drew.heap[w.heap.size]? = some (.cells R 25 (0, 0))) := Lib.hid (heap_on (Below.refl _ _).drew HX5.out)
      have HBd : Hid (Below w.heap.size w w5.drew) := Lib.hid HB5.out.drew
      clear HX0 HX1 HX2 HX3 HX4 HX5 HB0 HB1 HB2 HB3 HB4 HB5
      refine wp_region_held_drew (S := fun _ => True) (by kernel_rfl) trivial ?_
      intro hHeld
      generalize w5.drew = wd at HXd HBd hHeld ⊢
      (refine takeH (i := 0) (v := ?_) rfl (by kernel_rfl) (by kernel_rfl) (by kernel_rfl) (fun _ _ _ h => h) (Or.inl ⟨by rfl, ?_⟩) (by assumption) ?_; rotate_left; (focus ((intro wS hSw); (try dsimp only at hSw); skip; go_simp; (try with_reducible rfl); done)); (try simp only [Act.put, List.setIfInBounds_toArray, List.set_cons_zero, List.set_cons_succ]))
      (refine takeH (i := 1) (v := ?_) rfl (by kernel_rfl) (by kernel_rfl) (by kernel_rfl) (fun _ _ _ h => h) (Or.inl ⟨by rfl, ?_⟩) (by assumption) ?_; rotate_left; (focus ((intro wS hSw); (try dsimp only at hSw); skip; go_simp; (try with_reducible rfl); done)); (try simp only [Act.put, List.setIfInBounds_toArray, List.set_cons_zero, List.set_cons_succ]))
      (refine takeH (i := 2) (v := ?_) rfl (by kernel_rfl) (by kernel_rfl) (by kernel_rfl) (fun _ _ _ h => h) (Or.inl ⟨by rfl, ?_⟩) (by assumption) ?_; rotate_left; (focus ((intro wS hSw); (try dsimp only at hSw); skip; go_simp; (try with_reducible rfl); done)); (try simp only [Act.put, List.setIfInBounds_toArray, List.set_cons_zero, List.set_cons_succ]))
      (refine takeH (i := 3) (v := ?_) rfl (by kernel_rfl) (by kernel_rfl) (by kernel_rfl) (fun _ _ _ h => h) (Or.inl ⟨by rfl, ?_⟩) (by assumption) ?_; rotate_left; (focus ((intro wS hSw); (try dsimp only at hSw); skip; go_simp; (try with_reducible rfl); done)); (try simp only [Act.put, List.setIfInBounds_toArray, List.set_cons_zero, List.set_cons_succ]))
      (refine takeH (i := 4) (v := ?_) rfl (by kernel_rfl) (by kernel_rfl) (by kernel_rfl) (fun _ _ _ h => h) (Or.inl ⟨by rfl, ?_⟩) (by assumption) ?_; rotate_left; (focus ((intro wS hSw); (try dsimp only at hSw); skip; go_simp; (try with_reducible rfl); done)); (try simp only [Act.put, List.setIfInBounds_toArray, List.set_cons_zero, List.set_cons_succ]))
      (refine takeH (i := 5) (v := ?_) rfl (by kernel_rfl) (by kernel_rfl) (by kernel_rfl) (fun _ _ _ h => h) (Or.inl ⟨by rfl, ?_⟩) (by assumption) ?_; rotate_left; (focus ((intro wS hSw); (try dsimp only at hSw); skip; go_simp; (try with_reducible rfl); done)); (try simp only [Act.put, List.setIfInBounds_toArray, List.set_cons_zero, List.set_cons_succ]))
      (refine takeH (i := 6) (v := ?_) rfl (by kernel_rfl) (by kernel_rfl) (by kernel_rfl) (fun _ _ _ h => h) (Or.inl ⟨by rfl, ?_⟩) (by assumption) ?_; rotate_left; (focus ((intro wS hSw); (try dsimp only at hSw); skip; go_simp; (try with_reducible rfl); done)); (try simp only [Act.put, List.setIfInBounds_toArray, List.set_cons_zero, List.set_cons_succ]))
      (refine takeH (i := 7) (v := ?_) rfl (by kernel_rfl) (by kernel_rfl) (by kernel_rfl) (fun _ _ _ h => h) (Or.inl ⟨by rfl, ?_⟩) (by assumption) ?_; rotate_left; (focus ((intro wS hSw); (try dsimp only at hSw); skip; go_simp; (try with_reducible rfl); done)); (try simp only [Act.put, List.setIfInBounds_toArray, List.set_cons_zero, List.set_cons_succ]))
      (refine takeH (i := 8) (v := ?_) rfl (by kernel_rfl) (by kernel_rfl) (by kernel_rfl) (fun _ _ _ h => h) (Or.inl ⟨by rfl, ?_⟩) (by assumption) ?_; rotate_left; (focus ((intro wS hSw); (try dsimp only at hSw); skip; go_simp; (try with_reducible rfl); done)); (try simp only [Act.put, List.setIfInBounds_toArray, List.set_cons_zero, List.set_cons_succ]))
      (refine takeH (i := 9) (v := ?_) rfl (by kernel_rfl) (by kernel_rfl) (by kernel_rfl) (fun _ _ _ h => h) (Or.inl ⟨by rfl, ?_⟩) (by assumption) ?_; rotate_left; (focus ((intro wS hSw); (try dsimp only at hSw); skip; go_simp; (try with_reducible rfl); done)); (try simp only [Act.put, List.setIfInBounds_toArray, List.set_cons_zero, List.set_cons_succ]))
      (refine takeH (i := 10) (v := ?_) rfl (by kernel_rfl) (by kernel_rfl) (by kernel_rfl) (fun _ _ _ h => h) (Or.inl ⟨by rfl, ?_⟩) (by assumption) ?_; rotate_left; (focus ((intro wS hSw); (try dsimp only at hSw); skip; go_simp; (try with_reducible rfl); done)); (try simp only [Act.put, List.setIfInBounds_toArray, List.set_cons_zero, List.set_cons_succ]))
      (refine takeH (i := 11) (v := ?_) rfl (by kernel_rfl) (by kernel_rfl) (by kernel_rfl) (fun _ _ _ h => h) (Or.inl ⟨by rfl, ?_⟩) (by assumption) ?_; rotate_left; (focus ((intro wS hSw); (try dsimp only at hSw); skip; go_simp; (try with_reducible rfl); done)); (try simp only [Act.put, List.setIfInBounds_toArray, List.set_cons_zero, List.set_cons_succ]))
      (refine takeH (i := 12) (v := ?_) rfl (by kernel_rfl) (by kernel_rfl) (by kernel_rfl) (fun _ _ _ h => h) (Or.inl ⟨by rfl, ?_⟩) (by assumption) ?_; rotate_left; (focus ((intro wS hSw); (try dsimp only at hSw); skip; go_simp; (try with_reducible rfl); done)); (try simp only [Act.put, List.setIfInBounds_toArray, List.set_cons_zero, List.set_cons_succ]))
      (refine takeH (i := 13) (v := ?_) rfl (by kernel_rfl) (by kernel_rfl) (by kernel_rfl) (fun _ _ _ h => h) (Or.inl ⟨by rfl, ?_⟩) (by assumption) ?_; rotate_left; (focus ((intro wS hSw); (try dsimp only at hSw); skip; go_simp; (try with_reducible rfl); done)); (try simp only [Act.put, List.setIfInBounds_toArray, List.set_cons_zero, List.set_cons_succ]))
      (refine takeH (i := 14) (v := ?_) rfl (by kernel_rfl) (by kernel_rfl) (by kernel_rfl) (fun _ _ _ h => h) (Or.inl ⟨by rfl, ?_⟩) (by assumption) ?_; rotate_left; (focus ((intro wS hSw); (try dsimp only at hSw); skip; go_simp; (try with_reducible rfl); done)); (try simp only [Act.put, List.setIfInBounds_toArray, List.set_cons_zero, List.set_cons_succ]))
      (refine takeH (i := 15) (v := ?_) rfl (by kernel_rfl) (by kernel_rfl) (by kernel_rfl) (fun _ _ _ h => h) (Or.inl ⟨by rfl, ?_⟩) (by assumption) ?_; rotate_left; (focus ((intro wS hSw); (try dsimp only at hSw); skip; go_simp; (try with_reducible rfl); done)); (try simp only [Act.put, List.setIfInBounds_toArray, List.set_cons_zero, List.set_cons_succ]))
      (refine takeH (i := 16) (v := ?_) rfl (by kernel_rfl) (by kernel_rfl) (by kernel_rfl) (fun _ _ _ h => h) (Or.inl ⟨by rfl, ?_⟩) (by assumption) ?_; rotate_left; (focus ((intro wS hSw); (try dsimp only at hSw); skip; go_simp; (try with_reducible rfl); done)); (try simp only [Act.put, List.setIfInBounds_toArray, List.set_cons_zero, List.set_cons_succ]))
      (refine takeH (i := 17) (v := ?_) rfl (by kernel_rfl) (by kernel_rfl) (by kernel_rfl) (fun _ _ _ h => h) (Or.inl ⟨by rfl, ?_⟩) (by assumption) ?_; rotate_left; (focus ((intro wS hSw); (try dsimp only at hSw); skip; go_simp; (try with_reducible rfl); done)); (try simp only [Act.put, List.setIfInBounds_toArray, List.set_cons_zero, List.set_cons_succ]))
      (refine takeH (i := 18) (v := ?_) rfl (by kernel_rfl) (by kernel_rfl) (by kernel_rfl) (fun _ _ _ h => h) (Or.inl ⟨by rfl, ?_⟩) (by assumption) ?_; rotate_left; (focus ((intro wS hSw); (try dsimp only at hSw); skip; go_simp; (try with_reducible rfl); done)); (try simp only [Act.put, List.setIfInBounds_toArray, List.set_cons_zero, List.set_cons_succ]))
      refine twoH (i := 19) (i2 := 21) rfl rfl (by kernel_rfl) (fun K hK => ?_) (fun K hK => ?_)
      · rw [if_pos (by rfl)]
        refine wp_load_row 25 (.tmp 2) rfl w.heap.size rfl 25 R (0, 0) _ (heap_on (below_same wd) HXd.out) Tryd.underlying25 rfl HIn.out ?_
        have HB1 : Hid (Below wd.heap.size wd wd) := Lib.hid (Below.refl _ _)
        refine hK.out _ _ (trivial) (fun hNew => ?_)
        clear hK K hHeld; (have hHeld := hNew); clear hNew; (try simp only [Act.put, List.setIfInBounds_toArray, List.set_cons_zero, List.set_cons_succ])
        refine twoH (i := 20) (i2 := 21) rfl rfl (by kernel_rfl) (fun K hK => ?_) (fun K hK => ?_)
        · rw [if_pos (by rfl)]
          go_simp; ((refine (HL1.out wd).mono ?_); (rintro e w2 ⟨rfl, hb⟩); have HB2 := Lib.hid hb; clear hb; (try go_simp))
          refine hK.out _ _ (trivial) (fun hNew => ?_)
          clear hK K hHeld; (have hHeld := hNew); clear hNew; (try simp only [Act.put, List.setIfInBounds_toArray, List.set_cons_zero, List.set_cons_succ])
          refine aloneH (i := 21) rfl (by kernel_rfl) (fun K hK => ?_)
          rw [if_pos (by rfl)]
          refine wp_load_row 25 (.tmp 2) rfl w.heap.size rfl 25 R (0, 0) _ (heap_on (below_then HB1.out HB2.out) HXd.out) Tryd.underlying25 rfl HIn.out ?_
          have HB3 : Hid (Below w2.heap.size w2 w2) := Lib.hid (Below.refl _ _)
          refine hK.out _ _ (trivial) (fun hNew => ?_)
          clear hK K hHeld; (have hHeld := hNew); clear hNew; (try simp only [Act.put, List.setIfInBounds_toArray, List.set_cons_zero, List.set_cons_succ])
          refine aloneH (i := 22) rfl (by kernel_rfl) (fun K hK => ?_)
          rw [if_pos (by rfl)]
          go_simp; ((refine (HL2.out w2).mono ?_); (rintro e w4 ⟨rfl, hb⟩); have HB4 := Lib.hid hb; clear hb; (try go_simp))
          refine hK.out _ _ (trivial) (fun hNew => ?_)
          clear hK K hHeld; (have hHeld := hNew); clear hNew; (try simp only [Act.put, List.setIfInBounds_toArray, List.set_cons_zero, List.set_cons_succ])
          (refine takeH (i := 23) (v := ?_) rfl (by kernel_rfl) (by kernel_rfl) (by kernel_rfl) (fun _ _ _ h => h) (Or.inl ⟨by rfl, ?_⟩) (by assumption) ?_; rotate_left; (focus ((intro wS hSw); (try dsimp only at hSw); skip; go_simp; (try with_reducible rfl); done)); (try simp only [Act.put, List.setIfInBounds_toArray, List.set_cons_zero, List.set_cons_succ]))
          (refine takeH (i := 24) (v := ?_) rfl (by kernel_rfl) (by kernel_rfl) (by kernel_rfl) (fun _ _ _ h => h) (Or.inl ⟨by rfl, ?_⟩) (by assumption) ?_; rotate_left; (focus ((intro wS hSw); (try dsimp only at hSw); skip; go_simp; (try with_reducible rfl); done)); (try simp only [Act.put, List.setIfInBounds_toArray, List.set_cons_zero, List.set_cons_succ]))
          (refine takeH (i := 25) (v := ?_) rfl (by kernel_rfl) (by kernel_rfl) (by kernel_rfl) (fun _ _ _ h => h) (Or.inl ⟨by rfl, ?_⟩) (by assumption) ?_; rotate_left; (focus ((intro wS hSw); (try dsimp only at hSw); skip; go_simp; (try with_reducible rfl); done)); (try simp only [Act.put, List.setIfInBounds_toArray, List.set_cons_zero, List.set_cons_succ]))
          refine twoH (i := 26) (i2 := 28) rfl rfl (by kernel_rfl) (fun K hK => ?_) (fun K hK => ?_)
          · rw [if_pos (by rfl)]
            refine wp_load_row 25 (.tmp 2) rfl w.heap.size rfl 25 R (0, 0) _ (heap_on (below_then (below_then (below_then HB1.out HB2.out) HB3.out) HB4.out) HXd.out) Tryd.underlying25 rfl HIn.out ?_
            have HB5 : Hid (Below w4.heap.size w4 w4) := Lib.hid (Below.refl _ _)
            refine hK.out _ _ (trivial) (fun hNew => ?_)
            clear hK K hHeld; (have hHeld := hNew); clear hNew; (try simp only [Act.put, List.setIfInBounds_toArray, List.set_cons_zero, List.set_cons_succ])
            refine twoH (i := 27) (i2 := 28) rfl rfl (by kernel_rfl) (fun K hK => ?_) (fun K hK => ?_)
            · rw [if_pos (by rfl)]
              go_simp; ((refine (HO1.out w4).mono ?_); (rintro e w6 ⟨rfl, hb⟩); have HB6 := Lib.hid hb; clear hb; (try go_simp))
              refine hK.out _ _ (trivial) (fun hNew => ?_)
              clear hK K hHeld; (have hHeld := hNew); clear hNew; (try simp only [Act.put, List.setIfInBounds_toArray, List.set_cons_zero, List.set_cons_succ])
              refine aloneH (i := 28) rfl (by kernel_rfl) (fun K hK => ?_)
              rw [if_pos (by rfl)]
              refine wp_load_row 25 (.tmp 2) rfl w.heap.size rfl 25 R (0, 0) _ (heap_on (below_then (below_then (below_then (below_then (below_then HB1.out HB2.out) HB3.out) HB4.out) HB5.out) HB6.out) HXd.out) Tryd.underlying25 rfl HIn.out ?_
              have HB7 : Hid (Below w6.heap.size w6 w6) := Lib.hid (Below.refl _ _)
              refine hK.out _ _ (trivial) (fun hNew => ?_)
              clear hK K hHeld; (have hHeld := hNew); clear hNew; (try simp only [Act.put, List.setIfInBounds_toArray, List.set_cons_zero, List.set_cons_succ])
              refine aloneH (i := 29) rfl (by kernel_rfl) (fun K hK => ?_)
              rw [if_pos (by rfl)]
              go_simp; ((refine (HO2.out w6).mono ?_); (rintro e w8 ⟨rfl, hb⟩); have HB8 := Lib.hid hb; clear hb; (try go_simp))
              refine hK.out _ _ (trivial) (fun hNew => ?_)
              clear hK K hHeld; (have hHeld := hNew); clear hNew; (try simp only [Act.put, List.setIfInBounds_toArray, List.set_cons_zero, List.set_cons_succ])
              (refine takeH (i := 30) (v := ?_) rfl (by kernel_rfl) (by kernel_rfl) (by kernel_rfl) (fun _ _ _ h => h) (Or.inl ⟨by rfl, ?_⟩) (by assumption) ?_; rotate_left; (focus ((intro wS hSw); (try dsimp only at hSw); skip; go_simp; (try with_reducible rfl); done)); (try simp only [Act.put, List.setIfInBounds_toArray, List.set_cons_zero, List.set_cons_succ]))
              (refine takeH (i := 31) (v := ?_) rfl (by kernel_rfl) (by kernel_rfl) (by kernel_rfl) (fun _ _ _ h => h) (Or.inl ⟨by rfl, ?_⟩) (by assumption) ?_; rotate_left; (focus ((intro wS hSw); (try dsimp only at hSw); skip; go_simp; (try with_reducible rfl); done)); (try simp only [Act.put, List.setIfInBounds_toArray, List.set_cons_zero, List.set_cons_succ]))
              refine wpAnyH_done (by kernel_rfl) ?_ _
              clear hHeld
              have HX8 := Lib.hid (heap_on (below_then (below_then (below_then (below_then (below_then (below_then (below_then HB1.out HB2.out) HB3.out) HB4.out) HB5.out) HB6.out) HB7.out) HB8.out) HXd.out)
              have HB8 : Hid (Below w.heap.size w w8) := Lib.hid (HBd.out.trans ((below_then (below_then (below_then (below_then (below_then (below_then (below_then HB1.out HB2.out) HB3.out) HB4.out) HB5.out) HB6.out) HB7.out) HB8.out).mono HBd.out.size))
              clear HXd HBd
              go_wp2_with (first
                | (go_at_call 17; refine (code_fields _).mono ?_; rintro e wa ⟨rfl, hs, hb⟩; have HSa := Lib.hid hs; have HBa := Lib.hid (below_then HB8.out hb); clear hs hb; refine Stop.out ?_))
              unfold Stop
              have HSb := Lib.hid (fields_strs wa)
              have HSc := Lib.hid (HSa.out.below (below_alloc wa (.cells #[.string ⟨#[98, 97, 115, 101]⟩, .string ⟨#[116, 97, 120]⟩, .string ⟨#[111, 117, 116]⟩, .string ⟨#[105, 110]⟩] 9)))
              go_wp2_with (first
                | (go_at_call 16; refine (same_fields _ _ _ HSc.out HSb.out).mono ?_; rintro e wb ⟨rfl, hb⟩; have HBb := Lib.hid (below_then (below_then HBa.out (below_alloc wa _)) hb); clear hb; refine Stop.out ?_))
              unfold Stop
              clear HSa HSb HSc HBa
              go_wp2_with (first
                | (go_at_call 18; refine (code_tags _).mono ?_; rintro e wc ⟨rfl, hs, hb⟩; have HSd := Lib.hid hs; have HBc := Lib.hid (below_then HBb.out hb); clear hs hb; refine Stop.out ?_))
              unfold Stop
              have HSe := Lib.hid (tags_strs wc)
              have HSf := Lib.hid (HSd.out.below (below_alloc wc (.cells #[.string ⟨#[116, 114, 101, 97, 116]⟩, .string ⟨#[114, 97, 116, 101]⟩, .string ⟨#[115, 117, 112, 112, 108, 121]⟩, .string ⟨#[115, 97, 108, 101]⟩, .string ⟨#[108, 97, 116, 101]⟩, .string ⟨#[109, 105, 120, 101, 100]⟩] 9)))
              go_wp2_with (first
                | (go_at_call 16; refine (same_tags _ _ _ HSf.out HSe.out).mono ?_; rintro e wd2 ⟨rfl, hb⟩; have HBe := Lib.hid (below_then (below_then HBc.out (below_alloc wc _)) hb); clear hb; refine Stop.out ?_))
              unfold Stop
              go_wp2_with (first
                | (go_at_call 7; refine (HLv.out _ HBe.out).mono ?_; rintro e wz ⟨rfl, hb⟩; have HBz := Lib.hid (below_then HBe.out hb); clear hb))
              go_ret
              exact ⟨rfl, HBz.out⟩
            · rw [if_pos (by rfl)]
              refine wp_load_row 25 (.tmp 2) rfl w.heap.size rfl 25 R (0, 0) _ (heap_on (below_then (below_then (below_then (below_then HB1.out HB2.out) HB3.out) HB4.out) HB5.out) HXd.out) Tryd.underlying25 rfl HIn.out ?_
              have HB6 : Hid (Below w4.heap.size w4 w4) := Lib.hid (Below.refl _ _)
              refine hK.out _ _ (trivial) (fun hNew => ?_)
              clear hK K hHeld; (have hHeld := hNew); clear hNew; (try simp only [Act.put, List.setIfInBounds_toArray, List.set_cons_zero, List.set_cons_succ])
              refine aloneH (i := 27) rfl (by kernel_rfl) (fun K hK => ?_)
              rw [if_pos (by rfl)]
              go_simp; ((refine (HO1.out w4).mono ?_); (rintro e w7 ⟨rfl, hb⟩); have HB7 := Lib.hid hb; clear hb; (try go_simp))
              refine hK.out _ _ (trivial) (fun hNew => ?_)
              clear hK K hHeld; (have hHeld := hNew); clear hNew; (try simp only [Act.put, List.setIfInBounds_toArray, List.set_cons_zero, List.set_cons_succ])
              refine aloneH (i := 29) rfl (by kernel_rfl) (fun K hK => ?_)
              rw [if_pos (by rfl)]
              go_simp; ((refine (HO2.out w7).mono ?_); (rintro e w8 ⟨rfl, hb⟩); have HB8 := Lib.hid hb; clear hb; (try go_simp))
              refine hK.out _ _ (trivial) (fun hNew => ?_)
              clear hK K hHeld; (have hHeld := hNew); clear hNew; (try simp only [Act.put, List.setIfInBounds_toArray, List.set_cons_zero, List.set_cons_succ])
              (refine takeH (i := 30) (v := ?_) rfl (by kernel_rfl) (by kernel_rfl) (by kernel_rfl) (fun _ _ _ h => h) (Or.inl ⟨by rfl, ?_⟩) (by assumption) ?_; rotate_left; (focus ((intro wS hSw); (try dsimp only at hSw); skip; go_simp; (try with_reducible rfl); done)); (try simp only [Act.put, List.setIfInBounds_toArray, List.set_cons_zero, List.set_cons_succ]))
              (refine takeH (i := 31) (v := ?_) rfl (by kernel_rfl) (by kernel_rfl) (by kernel_rfl) (fun _ _ _ h => h) (Or.inl ⟨by rfl, ?_⟩) (by assumption) ?_; rotate_left; (focus ((intro wS hSw); (try dsimp only at hSw); skip; go_simp; (try with_reducible rfl); done)); (try simp only [Act.put, List.setIfInBounds_toArray, List.set_cons_zero, List.set_cons_succ]))
              refine wpAnyH_done (by kernel_rfl) ?_ _
              clear hHeld
              have HX8 := Lib.hid (heap_on (below_then (below_then (below_then (below_then (below_then (below_then (below_then HB1.out HB2.out) HB3.out) HB4.out) HB5.out) HB6.out) HB7.out) HB8.out) HXd.out)
              have HB8 : Hid (Below w.heap.size w w8) := Lib.hid (HBd.out.trans ((below_then (below_then (below_then (below_then (below_then (below_then (below_then HB1.out HB2.out) HB3.out) HB4.out) HB5.out) HB6.out) HB7.out) HB8.out).mono HBd.out.size))
              clear HXd HBd
              go_wp2_with (first
                | (go_at_call 17; refine (code_fields _).mono ?_; rintro e wa ⟨rfl, hs, hb⟩; have HSa := Lib.hid hs; have HBa := Lib.hid (below_then HB8.out hb); clear hs hb; refine Stop.out ?_))
              unfold Stop
              have HSb := Lib.hid (fields_strs wa)
              have HSc := Lib.hid (HSa.out.below (below_alloc wa (.cells #[.string ⟨#[98, 97, 115, 101]⟩, .string ⟨#[116, 97, 120]⟩, .string ⟨#[111, 117, 116]⟩, .string ⟨#[105, 110]⟩] 9)))
              go_wp2_with (first
                | (go_at_call 16; refine (same_fields _ _ _ HSc.out HSb.out).mono ?_; rintro e wb ⟨rfl, hb⟩; have HBb := Lib.hid (below_then (below_then HBa.out (below_alloc wa _)) hb); clear hb; refine Stop.out ?_))
              unfold Stop
              clear HSa HSb HSc HBa
              go_wp2_with (first
                | (go_at_call 18; refine (code_tags _).mono ?_; rintro e wc ⟨rfl, hs, hb⟩; have HSd := Lib.hid hs; have HBc := Lib.hid (below_then HBb.out hb); clear hs hb; refine Stop.out ?_))
              unfold Stop
              have HSe := Lib.hid (tags_strs wc)
              have HSf := Lib.hid (HSd.out.below (below_alloc wc (.cells #[.string ⟨#[116, 114, 101, 97, 116]⟩, .string ⟨#[114, 97, 116, 101]⟩, .string ⟨#[115, 117, 112, 112, 108, 121]⟩, .string ⟨#[115, 97, 108, 101]⟩, .string ⟨#[108, 97, 116, 101]⟩, .string ⟨#[109, 105, 120, 101, 100]⟩] 9)))
              go_wp2_with (first
                | (go_at_call 16; refine (same_tags _ _ _ HSf.out HSe.out).mono ?_; rintro e wd2 ⟨rfl, hb⟩; have HBe := Lib.hid (below_then (below_then HBc.out (below_alloc wc _)) hb); clear hb; refine Stop.out ?_))
              unfold Stop
              go_wp2_with (first
                | (go_at_call 7; refine (HLv.out _ HBe.out).mono ?_; rintro e wz ⟨rfl, hb⟩; have HBz := Lib.hid (below_then HBe.out hb); clear hb))
              go_ret
              exact ⟨rfl, HBz.out⟩
          · rw [if_pos (by rfl)]
            refine wp_load_row 25 (.tmp 2) rfl w.heap.size rfl 25 R (0, 0) _ (heap_on (below_then (below_then (below_then HB1.out HB2.out) HB3.out) HB4.out) HXd.out) Tryd.underlying25 rfl HIn.out ?_
            have HB5 : Hid (Below w4.heap.size w4 w4) := Lib.hid (Below.refl _ _)
            refine hK.out _ _ (trivial) (fun hNew => ?_)
            clear hK K hHeld; (have hHeld := hNew); clear hNew; (try simp only [Act.put, List.setIfInBounds_toArray, List.set_cons_zero, List.set_cons_succ])
            refine aloneH (i := 26) rfl (by kernel_rfl) (fun K hK => ?_)
            rw [if_pos (by rfl)]
            refine wp_load_row 25 (.tmp 2) rfl w.heap.size rfl 25 R (0, 0) _ (heap_on (below_then (below_then (below_then (below_then HB1.out HB2.out) HB3.out) HB4.out) HB5.out) HXd.out) Tryd.underlying25 rfl HIn.out ?_
            have HB6 : Hid (Below w4.heap.size w4 w4) := Lib.hid (Below.refl _ _)
            refine hK.out _ _ (trivial) (fun hNew => ?_)
            clear hK K hHeld; (have hHeld := hNew); clear hNew; (try simp only [Act.put, List.setIfInBounds_toArray, List.set_cons_zero, List.set_cons_succ])
            refine aloneH (i := 27) rfl (by kernel_rfl) (fun K hK => ?_)
            rw [if_pos (by rfl)]
            go_simp; ((refine (HO1.out w4).mono ?_); (rintro e w7 ⟨rfl, hb⟩); have HB7 := Lib.hid hb; clear hb; (try go_simp))
            refine hK.out _ _ (trivial) (fun hNew => ?_)
            clear hK K hHeld; (have hHeld := hNew); clear hNew; (try simp only [Act.put, List.setIfInBounds_toArray, List.set_cons_zero, List.set_cons_succ])
            refine aloneH (i := 29) rfl (by kernel_rfl) (fun K hK => ?_)
            rw [if_pos (by rfl)]
            go_simp; ((refine (HO2.out w7).mono ?_); (rintro e w8 ⟨rfl, hb⟩); have HB8 := Lib.hid hb; clear hb; (try go_simp))
            refine hK.out _ _ (trivial) (fun hNew => ?_)
            clear hK K hHeld; (have hHeld := hNew); clear hNew; (try simp only [Act.put, List.setIfInBounds_toArray, List.set_cons_zero, List.set_cons_succ])
            (refine takeH (i := 30) (v := ?_) rfl (by kernel_rfl) (by kernel_rfl) (by kernel_rfl) (fun _ _ _ h => h) (Or.inl ⟨by rfl, ?_⟩) (by assumption) ?_; rotate_left; (focus ((intro wS hSw); (try dsimp only at hSw); skip; go_simp; (try with_reducible rfl); done)); (try simp only [Act.put, List.setIfInBounds_toArray, List.set_cons_zero, List.set_cons_succ]))
            (refine takeH (i := 31) (v := ?_) rfl (by kernel_rfl) (by kernel_rfl) (by kernel_rfl) (fun _ _ _ h => h) (Or.inl ⟨by rfl, ?_⟩) (by assumption) ?_; rotate_left; (focus ((intro wS hSw); (try dsimp only at hSw); skip; go_simp; (try with_reducible rfl); done)); (try simp only [Act.put, List.setIfInBounds_toArray, List.set_cons_zero, List.set_cons_succ]))
            refine wpAnyH_done (by kernel_rfl) ?_ _
            clear hHeld
            have HX8 := Lib.hid (heap_on (below_then (below_then (below_then (below_then (below_then (below_then (below_then HB1.out HB2.out) HB3.out) HB4.out) HB5.out) HB6.out) HB7.out) HB8.out) HXd.out)
            have HB8 : Hid (Below w.heap.size w w8) := Lib.hid (HBd.out.trans ((below_then (below_then (below_then (below_then (below_then (below_then (below_then HB1.out HB2.out) HB3.out) HB4.out) HB5.out) HB6.out) HB7.out) HB8.out).mono HBd.out.size))
            clear HXd HBd
            go_wp2_with (first
              | (go_at_call 17; refine (code_fields _).mono ?_; rintro e wa ⟨rfl, hs, hb⟩; have HSa := Lib.hid hs; have HBa := Lib.hid (below_then HB8.out hb); clear hs hb; refine Stop.out ?_))
            unfold Stop
            have HSb := Lib.hid (fields_strs wa)
            have HSc := Lib.hid (HSa.out.below (below_alloc wa (.cells #[.string ⟨#[98, 97, 115, 101]⟩, .string ⟨#[116, 97, 120]⟩, .string ⟨#[111, 117, 116]⟩, .string ⟨#[105, 110]⟩] 9)))
            go_wp2_with (first
              | (go_at_call 16; refine (same_fields _ _ _ HSc.out HSb.out).mono ?_; rintro e wb ⟨rfl, hb⟩; have HBb := Lib.hid (below_then (below_then HBa.out (below_alloc wa _)) hb); clear hb; refine Stop.out ?_))
            unfold Stop
            clear HSa HSb HSc HBa
            go_wp2_with (first
              | (go_at_call 18; refine (code_tags _).mono ?_; rintro e wc ⟨rfl, hs, hb⟩; have HSd := Lib.hid hs; have HBc := Lib.hid (below_then HBb.out hb); clear hs hb; refine Stop.out ?_))
            unfold Stop
            have HSe := Lib.hid (tags_strs wc)
            have HSf := Lib.hid (HSd.out.below (below_alloc wc (.cells #[.string ⟨#[116, 114, 101, 97, 116]⟩, .string ⟨#[114, 97, 116, 101]⟩, .string ⟨#[115, 117, 112, 112, 108, 121]⟩, .string ⟨#[115, 97, 108, 101]⟩, .string ⟨#[108, 97, 116, 101]⟩, .string ⟨#[109, 105, 120, 101, 100]⟩] 9)))
            go_wp2_with (first
              | (go_at_call 16; refine (same_tags _ _ _ HSf.out HSe.out).mono ?_; rintro e wd2 ⟨rfl, hb⟩; have HBe := Lib.hid (below_then (below_then HBc.out (below_alloc wc _)) hb); clear hb; refine Stop.out ?_))
            unfold Stop
            go_wp2_with (first
              | (go_at_call 7; refine (HLv.out _ HBe.out).mono ?_; rintro e wz ⟨rfl, hb⟩; have HBz := Lib.hid (below_then HBe.out hb); clear hb))
            go_ret
            exact ⟨rfl, HBz.out⟩
        · rw [if_pos (by rfl)]
          refine wp_load_row 25 (.tmp 2) rfl w.heap.size rfl 25 R (0, 0) _ (heap_on HB1.out HXd.out) Tryd.underlying25 rfl HIn.out ?_
          have HB2 : Hid (Below wd.heap.size wd wd) := Lib.hid (Below.refl _ _)
          refine hK.out _ _ (trivial) (fun hNew => ?_)
          clear hK K hHeld; (have hHeld := hNew); clear hNew; (try simp only [Act.put, List.setIfInBounds_toArray, List.set_cons_zero, List.set_cons_succ])
          refine aloneH (i := 20) rfl (by kernel_rfl) (fun K hK => ?_)
          rw [if_pos (by rfl)]
          go_simp; ((refine (HL1.out wd).mono ?_); (rintro e w3 ⟨rfl, hb⟩); have HB3 := Lib.hid hb; clear hb; (try go_simp))
          refine hK.out _ _ (trivial) (fun hNew => ?_)
          clear hK K hHeld; (have hHeld := hNew); clear hNew; (try simp only [Act.put, List.setIfInBounds_toArray, List.set_cons_zero, List.set_cons_succ])
          refine aloneH (i := 22) rfl (by kernel_rfl) (fun K hK => ?_)
          rw [if_pos (by rfl)]
          go_simp; ((refine (HL2.out w3).mono ?_); (rintro e w4 ⟨rfl, hb⟩); have HB4 := Lib.hid hb; clear hb; (try go_simp))
          refine hK.out _ _ (trivial) (fun hNew => ?_)
          clear hK K hHeld; (have hHeld := hNew); clear hNew; (try simp only [Act.put, List.setIfInBounds_toArray, List.set_cons_zero, List.set_cons_succ])
          (refine takeH (i := 23) (v := ?_) rfl (by kernel_rfl) (by kernel_rfl) (by kernel_rfl) (fun _ _ _ h => h) (Or.inl ⟨by rfl, ?_⟩) (by assumption) ?_; rotate_left; (focus ((intro wS hSw); (try dsimp only at hSw); skip; go_simp; (try with_reducible rfl); done)); (try simp only [Act.put, List.setIfInBounds_toArray, List.set_cons_zero, List.set_cons_succ]))
          (refine takeH (i := 24) (v := ?_) rfl (by kernel_rfl) (by kernel_rfl) (by kernel_rfl) (fun _ _ _ h => h) (Or.inl ⟨by rfl, ?_⟩) (by assumption) ?_; rotate_left; (focus ((intro wS hSw); (try dsimp only at hSw); skip; go_simp; (try with_reducible rfl); done)); (try simp only [Act.put, List.setIfInBounds_toArray, List.set_cons_zero, List.set_cons_succ]))
          (refine takeH (i := 25) (v := ?_) rfl (by kernel_rfl) (by kernel_rfl) (by kernel_rfl) (fun _ _ _ h => h) (Or.inl ⟨by rfl, ?_⟩) (by assumption) ?_; rotate_left; (focus ((intro wS hSw); (try dsimp only at hSw); skip; go_simp; (try with_reducible rfl); done)); (try simp only [Act.put, List.setIfInBounds_toArray, List.set_cons_zero, List.set_cons_succ]))
          refine twoH (i := 26) (i2 := 28) rfl rfl (by kernel_rfl) (fun K hK => ?_) (fun K hK => ?_)
          · rw [if_pos (by rfl)]
            refine wp_load_row 25 (.tmp 2) rfl w.heap.size rfl 25 R (0, 0) _ (heap_on (below_then (below_then (below_then HB1.out HB2.out) HB3.out) HB4.out) HXd.out) Tryd.underlying25 rfl HIn.out ?_
            have HB5 : Hid (Below w4.heap.size w4 w4) := Lib.hid (Below.refl _ _)
            refine hK.out _ _ (trivial) (fun hNew => ?_)
            clear hK K hHeld; (have hHeld := hNew); clear hNew; (try simp only [Act.put, List.setIfInBounds_toArray, List.set_cons_zero, List.set_cons_succ])
            refine twoH (i := 27) (i2 := 28) rfl rfl (by kernel_rfl) (fun K hK => ?_) (fun K hK => ?_)
            · rw [if_pos (by rfl)]
              go_simp; ((refine (HO1.out w4).mono ?_); (rintro e w6 ⟨rfl, hb⟩); have HB6 := Lib.hid hb; clear hb; (try go_simp))
              refine hK.out _ _ (trivial) (fun hNew => ?_)
              clear hK K hHeld; (have hHeld := hNew); clear hNew; (try simp only [Act.put, List.setIfInBounds_toArray, List.set_cons_zero, List.set_cons_succ])
              refine aloneH (i := 28) rfl (by kernel_rfl) (fun K hK => ?_)
              rw [if_pos (by rfl)]
              refine wp_load_row 25 (.tmp 2) rfl w.heap.size rfl 25 R (0, 0) _ (heap_on (below_then (below_then (below_then (below_then (below_then HB1.out HB2.out) HB3.out) HB4.out) HB5.out) HB6.out) HXd.out) Tryd.underlying25 rfl HIn.out ?_
              have HB7 : Hid (Below w6.heap.size w6 w6) := Lib.hid (Below.refl _ _)
              refine hK.out _ _ (trivial) (fun hNew => ?_)
              clear hK K hHeld; (have hHeld := hNew); clear hNew; (try simp only [Act.put, List.setIfInBounds_toArray, List.set_cons_zero, List.set_cons_succ])
              refine aloneH (i := 29) rfl (by kernel_rfl) (fun K hK => ?_)
              rw [if_pos (by rfl)]
              go_simp; ((refine (HO2.out w6).mono ?_); (rintro e w8 ⟨rfl, hb⟩); have HB8 := Lib.hid hb; clear hb; (try go_simp))
              refine hK.out _ _ (trivial) (fun hNew => ?_)
              clear hK K hHeld; (have hHeld := hNew); clear hNew; (try simp only [Act.put, List.setIfInBounds_toArray, List.set_cons_zero, List.set_cons_succ])
              (refine takeH (i := 30) (v := ?_) rfl (by kernel_rfl) (by kernel_rfl) (by kernel_rfl) (fun _ _ _ h => h) (Or.inl ⟨by rfl, ?_⟩) (by assumption) ?_; rotate_left; (focus ((intro wS hSw); (try dsimp only at hSw); skip; go_simp; (try with_reducible rfl); done)); (try simp only [Act.put, List.setIfInBounds_toArray, List.set_cons_zero, List.set_cons_succ]))
              (refine takeH (i := 31) (v := ?_) rfl (by kernel_rfl) (by kernel_rfl) (by kernel_rfl) (fun _ _ _ h => h) (Or.inl ⟨by rfl, ?_⟩) (by assumption) ?_; rotate_left; (focus ((intro wS hSw); (try dsimp only at hSw); skip; go_simp; (try with_reducible rfl); done)); (try simp only [Act.put, List.setIfInBounds_toArray, List.set_cons_zero, List.set_cons_succ]))
              refine wpAnyH_done (by kernel_rfl) ?_ _
              clear hHeld
              have HX8 := Lib.hid (heap_on (below_then (below_then (below_then (below_then (below_then (below_then (below_then HB1.out HB2.out) HB3.out) HB4.out) HB5.out) HB6.out) HB7.out) HB8.out) HXd.out)
              have HB8 : Hid (Below w.heap.size w w8) := Lib.hid (HBd.out.trans ((below_then (below_then (below_then (below_then (below_then (below_then (below_then HB1.out HB2.out) HB3.out) HB4.out) HB5.out) HB6.out) HB7.out) HB8.out).mono HBd.out.size))
              clear HXd HBd
              go_wp2_with (first
                | (go_at_call 17; refine (code_fields _).mono ?_; rintro e wa ⟨rfl, hs, hb⟩; have HSa := Lib.hid hs; have HBa := Lib.hid (below_then HB8.out hb); clear hs hb; refine Stop.out ?_))
              unfold Stop
              have HSb := Lib.hid (fields_strs wa)
              have HSc := Lib.hid (HSa.out.below (below_alloc wa (.cells #[.string ⟨#[98, 97, 115, 101]⟩, .string ⟨#[116, 97, 120]⟩, .string ⟨#[111, 117, 116]⟩, .string ⟨#[105, 110]⟩] 9)))
              go_wp2_with (first
                | (go_at_call 16; refine (same_fields _ _ _ HSc.out HSb.out).mono ?_; rintro e wb ⟨rfl, hb⟩; have HBb := Lib.hid (below_then (below_then HBa.out (below_alloc wa _)) hb); clear hb; refine Stop.out ?_))
              unfold Stop
              clear HSa HSb HSc HBa
              go_wp2_with (first
                | (go_at_call 18; refine (code_tags _).mono ?_; rintro e wc ⟨rfl, hs, hb⟩; have HSd := Lib.hid hs; have HBc := Lib.hid (below_then HBb.out hb); clear hs hb; refine Stop.out ?_))
              unfold Stop
              have HSe := Lib.hid (tags_strs wc)
              have HSf := Lib.hid (HSd.out.below (below_alloc wc (.cells #[.string ⟨#[116, 114, 101, 97, 116]⟩, .string ⟨#[114, 97, 116, 101]⟩, .string ⟨#[115, 117, 112, 112, 108, 121]⟩, .string ⟨#[115, 97, 108, 101]⟩, .string ⟨#[108, 97, 116, 101]⟩, .string ⟨#[109, 105, 120, 101, 100]⟩] 9)))
              go_wp2_with (first
                | (go_at_call 16; refine (same_tags _ _ _ HSf.out HSe.out).mono ?_; rintro e wd2 ⟨rfl, hb⟩; have HBe := Lib.hid (below_then (below_then HBc.out (below_alloc wc _)) hb); clear hb; refine Stop.out ?_))
              unfold Stop
              go_wp2_with (first
                | (go_at_call 7; refine (HLv.out _ HBe.out).mono ?_; rintro e wz ⟨rfl, hb⟩; have HBz := Lib.hid (below_then HBe.out hb); clear hb))
              go_ret
              exact ⟨rfl, HBz.out⟩
            · rw [if_pos (by rfl)]
              refine wp_load_row 25 (.tmp 2) rfl w.heap.size rfl 25 R (0, 0) _ (heap_on (below_then (below_then (below_then (below_then HB1.out HB2.out) HB3.out) HB4.out) HB5.out) HXd.out) Tryd.underlying25 rfl HIn.out ?_
              have HB6 : Hid (Below w4.heap.size w4 w4) := Lib.hid (Below.refl _ _)
              refine hK.out _ _ (trivial) (fun hNew => ?_)
              clear hK K hHeld; (have hHeld := hNew); clear hNew; (try simp only [Act.put, List.setIfInBounds_toArray, List.set_cons_zero, List.set_cons_succ])
              refine aloneH (i := 27) rfl (by kernel_rfl) (fun K hK => ?_)
              rw [if_pos (by rfl)]
              go_simp; ((refine (HO1.out w4).mono ?_); (rintro e w7 ⟨rfl, hb⟩); have HB7 := Lib.hid hb; clear hb; (try go_simp))
              refine hK.out _ _ (trivial) (fun hNew => ?_)
              clear hK K hHeld; (have hHeld := hNew); clear hNew; (try simp only [Act.put, List.setIfInBounds_toArray, List.set_cons_zero, List.set_cons_succ])
              refine aloneH (i := 29) rfl (by kernel_rfl) (fun K hK => ?_)
              rw [if_pos (by rfl)]
              go_simp; ((refine (HO2.out w7).mono ?_); (rintro e w8 ⟨rfl, hb⟩); have HB8 := Lib.hid hb; clear hb; (try go_simp))
              refine hK.out _ _ (trivial) (fun hNew => ?_)
              clear hK K hHeld; (have hHeld := hNew); clear hNew; (try simp only [Act.put, List.setIfInBounds_toArray, List.set_cons_zero, List.set_cons_succ])
              (refine takeH (i := 30) (v := ?_) rfl (by kernel_rfl) (by kernel_rfl) (by kernel_rfl) (fun _ _ _ h => h) (Or.inl ⟨by rfl, ?_⟩) (by assumption) ?_; rotate_left; (focus ((intro wS hSw); (try dsimp only at hSw); skip; go_simp; (try with_reducible rfl); done)); (try simp only [Act.put, List.setIfInBounds_toArray, List.set_cons_zero, List.set_cons_succ]))
              (refine takeH (i := 31) (v := ?_) rfl (by kernel_rfl) (by kernel_rfl) (by kernel_rfl) (fun _ _ _ h => h) (Or.inl ⟨by rfl, ?_⟩) (by assumption) ?_; rotate_left; (focus ((intro wS hSw); (try dsimp only at hSw); skip; go_simp; (try with_reducible rfl); done)); (try simp only [Act.put, List.setIfInBounds_toArray, List.set_cons_zero, List.set_cons_succ]))
              refine wpAnyH_done (by kernel_rfl) ?_ _
              clear hHeld
              have HX8 := Lib.hid (heap_on (below_then (below_then (below_then (below_then (below_then (below_then (below_then HB1.out HB2.out) HB3.out) HB4.out) HB5.out) HB6.out) HB7.out) HB8.out) HXd.out)
              have HB8 : Hid (Below w.heap.size w w8) := Lib.hid (HBd.out.trans ((below_then (below_then (below_then (below_then (below_then (below_then (below_then HB1.out HB2.out) HB3.out) HB4.out) HB5.out) HB6.out) HB7.out) HB8.out).mono HBd.out.size))
              clear HXd HBd
              go_wp2_with (first
                | (go_at_call 17; refine (code_fields _).mono ?_; rintro e wa ⟨rfl, hs, hb⟩; have HSa := Lib.hid hs; have HBa := Lib.hid (below_then HB8.out hb); clear hs hb; refine Stop.out ?_))
              unfold Stop
              have HSb := Lib.hid (fields_strs wa)
              have HSc := Lib.hid (HSa.out.below (below_alloc wa (.cells #[.string ⟨#[98, 97, 115, 101]⟩, .string ⟨#[116, 97, 120]⟩, .string ⟨#[111, 117, 116]⟩, .string ⟨#[105, 110]⟩] 9)))
              go_wp2_with (first
                | (go_at_call 16; refine (same_fields _ _ _ HSc.out HSb.out).mono ?_; rintro e wb ⟨rfl, hb⟩; have HBb := Lib.hid (below_then (below_then HBa.out (below_alloc wa _)) hb); clear hb; refine Stop.out ?_))
              unfold Stop
              clear HSa HSb HSc HBa
              go_wp2_with (first
                | (go_at_call 18; refine (code_tags _).mono ?_; rintro e wc ⟨rfl, hs, hb⟩; have HSd := Lib.hid hs; have HBc := Lib.hid (below_then HBb.out hb); clear hs hb; refine Stop.out ?_))
              unfold Stop
              have HSe := Lib.hid (tags_strs wc)
              have HSf := Lib.hid (HSd.out.below (below_alloc wc (.cells #[.string ⟨#[116, 114, 101, 97, 116]⟩, .string ⟨#[114, 97, 116, 101]⟩, .string ⟨#[115, 117, 112, 112, 108, 121]⟩, .string ⟨#[115, 97, 108, 101]⟩, .string ⟨#[108, 97, 116, 101]⟩, .string ⟨#[109, 105, 120, 101, 100]⟩] 9)))
              go_wp2_with (first
                | (go_at_call 16; refine (same_tags _ _ _ HSf.out HSe.out).mono ?_; rintro e wd2 ⟨rfl, hb⟩; have HBe := Lib.hid (below_then (below_then HBc.out (below_alloc wc _)) hb); clear hb; refine Stop.out ?_))
              unfold Stop
              go_wp2_with (first
                | (go_at_call 7; refine (HLv.out _ HBe.out).mono ?_; rintro e wz ⟨rfl, hb⟩; have HBz := Lib.hid (below_then HBe.out hb); clear hb))
              go_ret
              exact ⟨rfl, HBz.out⟩
          · rw [if_pos (by rfl)]
            refine wp_load_row 25 (.tmp 2) rfl w.heap.size rfl 25 R (0, 0) _ (heap_on (below_then (below_then (below_then HB1.out HB2.out) HB3.out) HB4.out) HXd.out) Tryd.underlying25 rfl HIn.out ?_
            have HB5 : Hid (Below w4.heap.size w4 w4) := Lib.hid (Below.refl _ _)
            refine hK.out _ _ (trivial) (fun hNew => ?_)
            clear hK K hHeld; (have hHeld := hNew); clear hNew; (try simp only [Act.put, List.setIfInBounds_toArray, List.set_cons_zero, List.set_cons_succ])
            refine aloneH (i := 26) rfl (by kernel_rfl) (fun K hK => ?_)
            rw [if_pos (by rfl)]
            refine wp_load_row 25 (.tmp 2) rfl w.heap.size rfl 25 R (0, 0) _ (heap_on (below_then (below_then (below_then (below_then HB1.out HB2.out) HB3.out) HB4.out) HB5.out) HXd.out) Tryd.underlying25 rfl HIn.out ?_
            have HB6 : Hid (Below w4.heap.size w4 w4) := Lib.hid (Below.refl _ _)
            refine hK.out _ _ (trivial) (fun hNew => ?_)
            clear hK K hHeld; (have hHeld := hNew); clear hNew; (try simp only [Act.put, List.setIfInBounds_toArray, List.set_cons_zero, List.set_cons_succ])
            refine aloneH (i := 27) rfl (by kernel_rfl) (fun K hK => ?_)
            rw [if_pos (by rfl)]
            go_simp; ((refine (HO1.out w4).mono ?_); (rintro e w7 ⟨rfl, hb⟩); have HB7 := Lib.hid hb; clear hb; (try go_simp))
            refine hK.out _ _ (trivial) (fun hNew => ?_)
            clear hK K hHeld; (have hHeld := hNew); clear hNew; (try simp only [Act.put, List.setIfInBounds_toArray, List.set_cons_zero, List.set_cons_succ])
            refine aloneH (i := 29) rfl (by kernel_rfl) (fun K hK => ?_)
            rw [if_pos (by rfl)]
            go_simp; ((refine (HO2.out w7).mono ?_); (rintro e w8 ⟨rfl, hb⟩); have HB8 := Lib.hid hb; clear hb; (try go_simp))
            refine hK.out _ _ (trivial) (fun hNew => ?_)
            clear hK K hHeld; (have hHeld := hNew); clear hNew; (try simp only [Act.put, List.setIfInBounds_toArray, List.set_cons_zero, List.set_cons_succ])
            (refine takeH (i := 30) (v := ?_) rfl (by kernel_rfl) (by kernel_rfl) (by kernel_rfl) (fun _ _ _ h => h) (Or.inl ⟨by rfl, ?_⟩) (by assumption) ?_; rotate_left; (focus ((intro wS hSw); (try dsimp only at hSw); skip; go_simp; (try with_reducible rfl); done)); (try simp only [Act.put, List.setIfInBounds_toArray, List.set_cons_zero, List.set_cons_succ]))
            (refine takeH (i := 31) (v := ?_) rfl (by kernel_rfl) (by kernel_rfl) (by kernel_rfl) (fun _ _ _ h => h) (Or.inl ⟨by rfl, ?_⟩) (by assumption) ?_; rotate_left; (focus ((intro wS hSw); (try dsimp only at hSw); skip; go_simp; (try with_reducible rfl); done)); (try simp only [Act.put, List.setIfInBounds_toArray, List.set_cons_zero, List.set_cons_succ]))
            refine wpAnyH_done (by kernel_rfl) ?_ _
            clear hHeld
            have HX8 := Lib.hid (heap_on (below_then (below_then (below_then (below_then (below_then (below_then (below_then HB1.out HB2.out) HB3.out) HB4.out) HB5.out) HB6.out) HB7.out) HB8.out) HXd.out)
            have HB8 : Hid (Below w.heap.size w w8) := Lib.hid (HBd.out.trans ((below_then (below_then (below_then (below_then (below_then (below_then (below_then HB1.out HB2.out) HB3.out) HB4.out) HB5.out) HB6.out) HB7.out) HB8.out).mono HBd.out.size))
            clear HXd HBd
            go_wp2_with (first
              | (go_at_call 17; refine (code_fields _).mono ?_; rintro e wa ⟨rfl, hs, hb⟩; have HSa := Lib.hid hs; have HBa := Lib.hid (below_then HB8.out hb); clear hs hb; refine Stop.out ?_))
            unfold Stop
            have HSb := Lib.hid (fields_strs wa)
            have HSc := Lib.hid (HSa.out.below (below_alloc wa (.cells #[.string ⟨#[98, 97, 115, 101]⟩, .string ⟨#[116, 97, 120]⟩, .string ⟨#[111, 117, 116]⟩, .string ⟨#[105, 110]⟩] 9)))
            go_wp2_with (first
              | (go_at_call 16; refine (same_fields _ _ _ HSc.out HSb.out).mono ?_; rintro e wb ⟨rfl, hb⟩; have HBb := Lib.hid (below_then (below_then HBa.out (below_alloc wa _)) hb); clear hb; refine Stop.out ?_))
            unfold Stop
            clear HSa HSb HSc HBa
            go_wp2_with (first
              | (go_at_call 18; refine (code_tags _).mono ?_; rintro e wc ⟨rfl, hs, hb⟩; have HSd := Lib.hid hs; have HBc := Lib.hid (below_then HBb.out hb); clear hs hb; refine Stop.out ?_))
            unfold Stop
            have HSe := Lib.hid (tags_strs wc)
            have HSf := Lib.hid (HSd.out.below (below_alloc wc (.cells #[.string ⟨#[116, 114, 101, 97, 116]⟩, .string ⟨#[114, 97, 116, 101]⟩, .string ⟨#[115, 117, 112, 112, 108, 121]⟩, .string ⟨#[115, 97, 108, 101]⟩, .string ⟨#[108, 97, 116, 101]⟩, .string ⟨#[109, 105, 120, 101, 100]⟩] 9)))
            go_wp2_with (first
              | (go_at_call 16; refine (same_tags _ _ _ HSf.out HSe.out).mono ?_; rintro e wd2 ⟨rfl, hb⟩; have HBe := Lib.hid (below_then (below_then HBc.out (below_alloc wc _)) hb); clear hb; refine Stop.out ?_))
            unfold Stop
            go_wp2_with (first
              | (go_at_call 7; refine (HLv.out _ HBe.out).mono ?_; rintro e wz ⟨rfl, hb⟩; have HBz := Lib.hid (below_then HBe.out hb); clear hb))
            go_ret
            exact ⟨rfl, HBz.out⟩
      · rw [if_pos (by rfl)]
        refine wp_load_row 25 (.tmp 2) rfl w.heap.size rfl 25 R (0, 0) _ (heap_on (below_same wd) HXd.out) Tryd.underlying25 rfl HIn.out ?_
        have HB1 : Hid (Below wd.heap.size wd wd) := Lib.hid (Below.refl _ _)
        refine hK.out _ _ (trivial) (fun hNew => ?_)
        clear hK K hHeld; (have hHeld := hNew); clear hNew; (try simp only [Act.put, List.setIfInBounds_toArray, List.set_cons_zero, List.set_cons_succ])
        refine aloneH (i := 19) rfl (by kernel_rfl) (fun K hK => ?_)
        rw [if_pos (by rfl)]
        refine wp_load_row 25 (.tmp 2) rfl w.heap.size rfl 25 R (0, 0) _ (heap_on HB1.out HXd.out) Tryd.underlying25 rfl HIn.out ?_
        have HB2 : Hid (Below wd.heap.size wd wd) := Lib.hid (Below.refl _ _)
        refine hK.out _ _ (trivial) (fun hNew => ?_)
        clear hK K hHeld; (have hHeld := hNew); clear hNew; (try simp only [Act.put, List.setIfInBounds_toArray, List.set_cons_zero, List.set_cons_succ])
        refine aloneH (i := 20) rfl (by kernel_rfl) (fun K hK => ?_)
        rw [if_pos (by rfl)]
        go_simp; ((refine (HL1.out wd).mono ?_); (rintro e w3 ⟨rfl, hb⟩); have HB3 := Lib.hid hb; clear hb; (try go_simp))
        refine hK.out _ _ (trivial) (fun hNew => ?_)
        clear hK K hHeld; (have hHeld := hNew); clear hNew; (try simp only [Act.put, List.setIfInBounds_toArray, List.set_cons_zero, List.set_cons_succ])
        refine aloneH (i := 22) rfl (by kernel_rfl) (fun K hK => ?_)
        rw [if_pos (by rfl)]
        go_simp; ((refine (HL2.out w3).mono ?_); (rintro e w4 ⟨rfl, hb⟩); have HB4 := Lib.hid hb; clear hb; (try go_simp))
        refine hK.out _ _ (trivial) (fun hNew => ?_)
        clear hK K hHeld; (have hHeld := hNew); clear hNew; (try simp only [Act.put, List.setIfInBounds_toArray, List.set_cons_zero, List.set_cons_succ])
        (refine takeH (i := 23) (v := ?_) rfl (by kernel_rfl) (by kernel_rfl) (by kernel_rfl) (fun _ _ _ h => h) (Or.inl ⟨by rfl, ?_⟩) (by assumption) ?_; rotate_left; (focus ((intro wS hSw); (try dsimp only at hSw); skip; go_simp; (try with_reducible rfl); done)); (try simp only [Act.put, List.setIfInBounds_toArray, List.set_cons_zero, List.set_cons_succ]))
        (refine takeH (i := 24) (v := ?_) rfl (by kernel_rfl) (by kernel_rfl) (by kernel_rfl) (fun _ _ _ h => h) (Or.inl ⟨by rfl, ?_⟩) (by assumption) ?_; rotate_left; (focus ((intro wS hSw); (try dsimp only at hSw); skip; go_simp; (try with_reducible rfl); done)); (try simp only [Act.put, List.setIfInBounds_toArray, List.set_cons_zero, List.set_cons_succ]))
        (refine takeH (i := 25) (v := ?_) rfl (by kernel_rfl) (by kernel_rfl) (by kernel_rfl) (fun _ _ _ h => h) (Or.inl ⟨by rfl, ?_⟩) (by assumption) ?_; rotate_left; (focus ((intro wS hSw); (try dsimp only at hSw); skip; go_simp; (try with_reducible rfl); done)); (try simp only [Act.put, List.setIfInBounds_toArray, List.set_cons_zero, List.set_cons_succ]))
        refine twoH (i := 26) (i2 := 28) rfl rfl (by kernel_rfl) (fun K hK => ?_) (fun K hK => ?_)
        · rw [if_pos (by rfl)]
          refine wp_load_row 25 (.tmp 2) rfl w.heap.size rfl 25 R (0, 0) _ (heap_on (below_then (below_then (below_then HB1.out HB2.out) HB3.out) HB4.out) HXd.out) Tryd.underlying25 rfl HIn.out ?_
          have HB5 : Hid (Below w4.heap.size w4 w4) := Lib.hid (Below.refl _ _)
          refine hK.out _ _ (trivial) (fun hNew => ?_)
          clear hK K hHeld; (have hHeld := hNew); clear hNew; (try simp only [Act.put, List.setIfInBounds_toArray, List.set_cons_zero, List.set_cons_succ])
          refine twoH (i := 27) (i2 := 28) rfl rfl (by kernel_rfl) (fun K hK => ?_) (fun K hK => ?_)
          · rw [if_pos (by rfl)]
            go_simp; ((refine (HO1.out w4).mono ?_); (rintro e w6 ⟨rfl, hb⟩); have HB6 := Lib.hid hb; clear hb; (try go_simp))
            refine hK.out _ _ (trivial) (fun hNew => ?_)
            clear hK K hHeld; (have hHeld := hNew); clear hNew; (try simp only [Act.put, List.setIfInBounds_toArray, List.set_cons_zero, List.set_cons_succ])
            refine aloneH (i := 28) rfl (by kernel_rfl) (fun K hK => ?_)
            rw [if_pos (by rfl)]
            refine wp_load_row 25 (.tmp 2) rfl w.heap.size rfl 25 R (0, 0) _ (heap_on (below_then (below_then (below_then (below_then (below_then HB1.out HB2.out) HB3.out) HB4.out) HB5.out) HB6.out) HXd.out) Tryd.underlying25 rfl HIn.out ?_
            have HB7 : Hid (Below w6.heap.size w6 w6) := Lib.hid (Below.refl _ _)
            refine hK.out _ _ (trivial) (fun hNew => ?_)
            clear hK K hHeld; (have hHeld := hNew); clear hNew; (try simp only [Act.put, List.setIfInBounds_toArray, List.set_cons_zero, List.set_cons_succ])
            refine aloneH (i := 29) rfl (by kernel_rfl) (fun K hK => ?_)
            rw [if_pos (by rfl)]
            go_simp; ((refine (HO2.out w6).mono ?_); (rintro e w8 ⟨rfl, hb⟩); have HB8 := Lib.hid hb; clear hb; (try go_simp))
            refine hK.out _ _ (trivial) (fun hNew => ?_)
            clear hK K hHeld; (have hHeld := hNew); clear hNew; (try simp only [Act.put, List.setIfInBounds_toArray, List.set_cons_zero, List.set_cons_succ])
            (refine takeH (i := 30) (v := ?_) rfl (by kernel_rfl) (by kernel_rfl) (by kernel_rfl) (fun _ _ _ h => h) (Or.inl ⟨by rfl, ?_⟩) (by assumption) ?_; rotate_left; (focus ((intro wS hSw); (try dsimp only at hSw); skip; go_simp; (try with_reducible rfl); done)); (try simp only [Act.put, List.setIfInBounds_toArray, List.set_cons_zero, List.set_cons_succ]))
            (refine takeH (i := 31) (v := ?_) rfl (by kernel_rfl) (by kernel_rfl) (by kernel_rfl) (fun _ _ _ h => h) (Or.inl ⟨by rfl, ?_⟩) (by assumption) ?_; rotate_left; (focus ((intro wS hSw); (try dsimp only at hSw); skip; go_simp; (try with_reducible rfl); done)); (try simp only [Act.put, List.setIfInBounds_toArray, List.set_cons_zero, List.set_cons_succ]))
            refine wpAnyH_done (by kernel_rfl) ?_ _
            clear hHeld
            have HX8 := Lib.hid (heap_on (below_then (below_then (below_then (below_then (below_then (below_then (below_then HB1.out HB2.out) HB3.out) HB4.out) HB5.out) HB6.out) HB7.out) HB8.out) HXd.out)
            have HB8 : Hid (Below w.heap.size w w8) := Lib.hid (HBd.out.trans ((below_then (below_then (below_then (below_then (below_then (below_then (below_then HB1.out HB2.out) HB3.out) HB4.out) HB5.out) HB6.out) HB7.out) HB8.out).mono HBd.out.size))
            clear HXd HBd
            go_wp2_with (first
              | (go_at_call 17; refine (code_fields _).mono ?_; rintro e wa ⟨rfl, hs, hb⟩; have HSa := Lib.hid hs; have HBa := Lib.hid (below_then HB8.out hb); clear hs hb; refine Stop.out ?_))
            unfold Stop
            have HSb := Lib.hid (fields_strs wa)
            have HSc := Lib.hid (HSa.out.below (below_alloc wa (.cells #[.string ⟨#[98, 97, 115, 101]⟩, .string ⟨#[116, 97, 120]⟩, .string ⟨#[111, 117, 116]⟩, .string ⟨#[105, 110]⟩] 9)))
            go_wp2_with (first
              | (go_at_call 16; refine (same_fields _ _ _ HSc.out HSb.out).mono ?_; rintro e wb ⟨rfl, hb⟩; have HBb := Lib.hid (below_then (below_then HBa.out (below_alloc wa _)) hb); clear hb; refine Stop.out ?_))
            unfold Stop
            clear HSa HSb HSc HBa
            go_wp2_with (first
              | (go_at_call 18; refine (code_tags _).mono ?_; rintro e wc ⟨rfl, hs, hb⟩; have HSd := Lib.hid hs; have HBc := Lib.hid (below_then HBb.out hb); clear hs hb; refine Stop.out ?_))
            unfold Stop
            have HSe := Lib.hid (tags_strs wc)
            have HSf := Lib.hid (HSd.out.below (below_alloc wc (.cells #[.string ⟨#[116, 114, 101, 97, 116]⟩, .string ⟨#[114, 97, 116, 101]⟩, .string ⟨#[115, 117, 112, 112, 108, 121]⟩, .string ⟨#[115, 97, 108, 101]⟩, .string ⟨#[108, 97, 116, 101]⟩, .string ⟨#[109, 105, 120, 101, 100]⟩] 9)))
            go_wp2_with (first
              | (go_at_call 16; refine (same_tags _ _ _ HSf.out HSe.out).mono ?_; rintro e wd2 ⟨rfl, hb⟩; have HBe := Lib.hid (below_then (below_then HBc.out (below_alloc wc _)) hb); clear hb; refine Stop.out ?_))
            unfold Stop
            go_wp2_with (first
              | (go_at_call 7; refine (HLv.out _ HBe.out).mono ?_; rintro e wz ⟨rfl, hb⟩; have HBz := Lib.hid (below_then HBe.out hb); clear hb))
            go_ret
            exact ⟨rfl, HBz.out⟩
          · rw [if_pos (by rfl)]
            refine wp_load_row 25 (.tmp 2) rfl w.heap.size rfl 25 R (0, 0) _ (heap_on (below_then (below_then (below_then (below_then HB1.out HB2.out) HB3.out) HB4.out) HB5.out) HXd.out) Tryd.underlying25 rfl HIn.out ?_
            have HB6 : Hid (Below w4.heap.size w4 w4) := Lib.hid (Below.refl _ _)
            refine hK.out _ _ (trivial) (fun hNew => ?_)
            clear hK K hHeld; (have hHeld := hNew); clear hNew; (try simp only [Act.put, List.setIfInBounds_toArray, List.set_cons_zero, List.set_cons_succ])
            refine aloneH (i := 27) rfl (by kernel_rfl) (fun K hK => ?_)
            rw [if_pos (by rfl)]
            go_simp; ((refine (HO1.out w4).mono ?_); (rintro e w7 ⟨rfl, hb⟩); have HB7 := Lib.hid hb; clear hb; (try go_simp))
            refine hK.out _ _ (trivial) (fun hNew => ?_)
            clear hK K hHeld; (have hHeld := hNew); clear hNew; (try simp only [Act.put, List.setIfInBounds_toArray, List.set_cons_zero, List.set_cons_succ])
            refine aloneH (i := 29) rfl (by kernel_rfl) (fun K hK => ?_)
            rw [if_pos (by rfl)]
            go_simp; ((refine (HO2.out w7).mono ?_); (rintro e w8 ⟨rfl, hb⟩); have HB8 := Lib.hid hb; clear hb; (try go_simp))
            refine hK.out _ _ (trivial) (fun hNew => ?_)
            clear hK K hHeld; (have hHeld := hNew); clear hNew; (try simp only [Act.put, List.setIfInBounds_toArray, List.set_cons_zero, List.set_cons_succ])
            (refine takeH (i := 30) (v := ?_) rfl (by kernel_rfl) (by kernel_rfl) (by kernel_rfl) (fun _ _ _ h => h) (Or.inl ⟨by rfl, ?_⟩) (by assumption) ?_; rotate_left; (focus ((intro wS hSw); (try dsimp only at hSw); skip; go_simp; (try with_reducible rfl); done)); (try simp only [Act.put, List.setIfInBounds_toArray, List.set_cons_zero, List.set_cons_succ]))
            (refine takeH (i := 31) (v := ?_) rfl (by kernel_rfl) (by kernel_rfl) (by kernel_rfl) (fun _ _ _ h => h) (Or.inl ⟨by rfl, ?_⟩) (by assumption) ?_; rotate_left; (focus ((intro wS hSw); (try dsimp only at hSw); skip; go_simp; (try with_reducible rfl); done)); (try simp only [Act.put, List.setIfInBounds_toArray, List.set_cons_zero, List.set_cons_succ]))
            refine wpAnyH_done (by kernel_rfl) ?_ _
            clear hHeld
            have HX8 := Lib.hid (heap_on (below_then (below_then (below_then (below_then (below_then (below_then (below_then HB1.out HB2.out) HB3.out) HB4.out) HB5.out) HB6.out) HB7.out) HB8.out) HXd.out)
            have HB8 : Hid (Below w.heap.size w w8) := Lib.hid (HBd.out.trans ((below_then (below_then (below_then (below_then (below_then (below_then (below_then HB1.out HB2.out) HB3.out) HB4.out) HB5.out) HB6.out) HB7.out) HB8.out).mono HBd.out.size))
            clear HXd HBd
            go_wp2_with (first
              | (go_at_call 17; refine (code_fields _).mono ?_; rintro e wa ⟨rfl, hs, hb⟩; have HSa := Lib.hid hs; have HBa := Lib.hid (below_then HB8.out hb); clear hs hb; refine Stop.out ?_))
            unfold Stop
            have HSb := Lib.hid (fields_strs wa)
            have HSc := Lib.hid (HSa.out.below (below_alloc wa (.cells #[.string ⟨#[98, 97, 115, 101]⟩, .string ⟨#[116, 97, 120]⟩, .string ⟨#[111, 117, 116]⟩, .string ⟨#[105, 110]⟩] 9)))
            go_wp2_with (first
              | (go_at_call 16; refine (same_fields _ _ _ HSc.out HSb.out).mono ?_; rintro e wb ⟨rfl, hb⟩; have HBb := Lib.hid (below_then (below_then HBa.out (below_alloc wa _)) hb); clear hb; refine Stop.out ?_))
            unfold Stop
            clear HSa HSb HSc HBa
            go_wp2_with (first
              | (go_at_call 18; refine (code_tags _).mono ?_; rintro e wc ⟨rfl, hs, hb⟩; have HSd := Lib.hid hs; have HBc := Lib.hid (below_then HBb.out hb); clear hs hb; refine Stop.out ?_))
            unfold Stop
            have HSe := Lib.hid (tags_strs wc)
            have HSf := Lib.hid (HSd.out.below (below_alloc wc (.cells #[.string ⟨#[116, 114, 101, 97, 116]⟩, .string ⟨#[114, 97, 116, 101]⟩, .string ⟨#[115, 117, 112, 112, 108, 121]⟩, .string ⟨#[115, 97, 108, 101]⟩, .string ⟨#[108, 97, 116, 101]⟩, .string ⟨#[109, 105, 120, 101, 100]⟩] 9)))
            go_wp2_with (first
              | (go_at_call 16; refine (same_tags _ _ _ HSf.out HSe.out).mono ?_; rintro e wd2 ⟨rfl, hb⟩; have HBe := Lib.hid (below_then (below_then HBc.out (below_alloc wc _)) hb); clear hb; refine Stop.out ?_))
            unfold Stop
            go_wp2_with (first
              | (go_at_call 7; refine (HLv.out _ HBe.out).mono ?_; rintro e wz ⟨rfl, hb⟩; have HBz := Lib.hid (below_then HBe.out hb); clear hb))
            go_ret
            exact ⟨rfl, HBz.out⟩
        · rw [if_pos (by rfl)]
          refine wp_load_row 25 (.tmp 2) rfl w.heap.size rfl 25 R (0, 0) _ (heap_on (below_then (below_then (below_then HB1.out HB2.out) HB3.out) HB4.out) HXd.out) Tryd.underlying25 rfl HIn.out ?_
          have HB5 : Hid (Below w4.heap.size w4 w4) := Lib.hid (Below.refl _ _)
          refine hK.out _ _ (trivial) (fun hNew => ?_)
          clear hK K hHeld; (have hHeld := hNew); clear hNew; (try simp only [Act.put, List.setIfInBounds_toArray, List.set_cons_zero, List.set_cons_succ])
          refine aloneH (i := 26) rfl (by kernel_rfl) (fun K hK => ?_)
          rw [if_pos (by rfl)]
          refine wp_load_row 25 (.tmp 2) rfl w.heap.size rfl 25 R (0, 0) _ (heap_on (below_then (below_then (below_then (below_then HB1.out HB2.out) HB3.out) HB4.out) HB5.out) HXd.out) Tryd.underlying25 rfl HIn.out ?_
          have HB6 : Hid (Below w4.heap.size w4 w4) := Lib.hid (Below.refl _ _)
          refine hK.out _ _ (trivial) (fun hNew => ?_)
          clear hK K hHeld; (have hHeld := hNew); clear hNew; (try simp only [Act.put, List.setIfInBounds_toArray, List.set_cons_zero, List.set_cons_succ])
          refine aloneH (i := 27) rfl (by kernel_rfl) (fun K hK => ?_)
          rw [if_pos (by rfl)]
          go_simp; ((refine (HO1.out w4).mono ?_); (rintro e w7 ⟨rfl, hb⟩); have HB7 := Lib.hid hb; clear hb; (try go_simp))
          refine hK.out _ _ (trivial) (fun hNew => ?_)
          clear hK K hHeld; (have hHeld := hNew); clear hNew; (try simp only [Act.put, List.setIfInBounds_toArray, List.set_cons_zero, List.set_cons_succ])
          refine aloneH (i := 29) rfl (by kernel_rfl) (fun K hK => ?_)
          rw [if_pos (by rfl)]
          go_simp; ((refine (HO2.out w7).mono ?_); (rintro e w8 ⟨rfl, hb⟩); have HB8 := Lib.hid hb; clear hb; (try go_simp))
          refine hK.out _ _ (trivial) (fun hNew => ?_)
          clear hK K hHeld; (have hHeld := hNew); clear hNew; (try simp only [Act.put, List.setIfInBounds_toArray, List.set_cons_zero, List.set_cons_succ])
          (refine takeH (i := 30) (v := ?_) rfl (by kernel_rfl) (by kernel_rfl) (by kernel_rfl) (fun _ _ _ h => h) (Or.inl ⟨by rfl, ?_⟩) (by assumption) ?_; rotate_left; (focus ((intro wS hSw); (try dsimp only at hSw); skip; go_simp; (try with_reducible rfl); done)); (try simp only [Act.put, List.setIfInBounds_toArray, List.set_cons_zero, List.set_cons_succ]))
          (refine takeH (i := 31) (v := ?_) rfl (by kernel_rfl) (by kernel_rfl) (by kernel_rfl) (fun _ _ _ h => h) (Or.inl ⟨by rfl, ?_⟩) (by assumption) ?_; rotate_left; (focus ((intro wS hSw); (try dsimp only at hSw); skip; go_simp; (try with_reducible rfl); done)); (try simp only [Act.put, List.setIfInBounds_toArray, List.set_cons_zero, List.set_cons_succ]))
          refine wpAnyH_done (by kernel_rfl) ?_ _
          clear hHeld
          have HX8 := Lib.hid (heap_on (below_then (below_then (below_then (below_then (below_then (below_then (below_then HB1.out HB2.out) HB3.out) HB4.out) HB5.out) HB6.out) HB7.out) HB8.out) HXd.out)
          have HB8 : Hid (Below w.heap.size w w8) := Lib.hid (HBd.out.trans ((below_then (below_then (below_then (below_then (below_then (below_then (below_then HB1.out HB2.out) HB3.out) HB4.out) HB5.out) HB6.out) HB7.out) HB8.out).mono HBd.out.size))
          clear HXd HBd
          go_wp2_with (first
            | (go_at_call 17; refine (code_fields _).mono ?_; rintro e wa ⟨rfl, hs, hb⟩; have HSa := Lib.hid hs; have HBa := Lib.hid (below_then HB8.out hb); clear hs hb; refine Stop.out ?_))
          unfold Stop
          have HSb := Lib.hid (fields_strs wa)
          have HSc := Lib.hid (HSa.out.below (below_alloc wa (.cells #[.string ⟨#[98, 97, 115, 101]⟩, .string ⟨#[116, 97, 120]⟩, .string ⟨#[111, 117, 116]⟩, .string ⟨#[105, 110]⟩] 9)))
          go_wp2_with (first
            | (go_at_call 16; refine (same_fields _ _ _ HSc.out HSb.out).mono ?_; rintro e wb ⟨rfl, hb⟩; have HBb := Lib.hid (below_then (below_then HBa.out (below_alloc wa _)) hb); clear hb; refine Stop.out ?_))
          unfold Stop
          clear HSa HSb HSc HBa
          go_wp2_with (first
            | (go_at_call 18; refine (code_tags _).mono ?_; rintro e wc ⟨rfl, hs, hb⟩; have HSd := Lib.hid hs; have HBc := Lib.hid (below_then HBb.out hb); clear hs hb; refine Stop.out ?_))
          unfold Stop
          have HSe := Lib.hid (tags_strs wc)
          have HSf := Lib.hid (HSd.out.below (below_alloc wc (.cells #[.string ⟨#[116, 114, 101, 97, 116]⟩, .string ⟨#[114, 97, 116, 101]⟩, .string ⟨#[115, 117, 112, 112, 108, 121]⟩, .string ⟨#[115, 97, 108, 101]⟩, .string ⟨#[108, 97, 116, 101]⟩, .string ⟨#[109, 105, 120, 101, 100]⟩] 9)))
          go_wp2_with (first
            | (go_at_call 16; refine (same_tags _ _ _ HSf.out HSe.out).mono ?_; rintro e wd2 ⟨rfl, hb⟩; have HBe := Lib.hid (below_then (below_then HBc.out (below_alloc wc _)) hb); clear hb; refine Stop.out ?_))
          unfold Stop
          go_wp2_with (first
            | (go_at_call 7; refine (HLv.out _ HBe.out).mono ?_; rintro e wz ⟨rfl, hb⟩; have HBz := Lib.hid (below_then HBe.out hb); clear hb))
          go_ret
          exact ⟨rfl, HBz.out⟩
theorem entryNames_any (x : RowV) (s : ByteArray) (w : World) (hx : RowVOk w x) (hT : TabW w) :
    Calls Tryd.prog 3 #[.agg (rowA x), .string s] w fun e w' => e = .returned (.bool true) ∧ Below w.heap.size w w' :=
  entryNames_R x _ rfl s w (fun W => light_row x W hx) hT
end Go.Proofs.YtaccjfoifkfpfaaDoor
