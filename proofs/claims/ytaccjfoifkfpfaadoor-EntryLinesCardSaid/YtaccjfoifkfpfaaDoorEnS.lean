/- Any row has the document's text: walked. -/
import Derived.Test.YtaccjfoifkfpfaaDoorEnH
import Derived.Test.YtaccjfoifkfpfaaDoorEnQ
namespace Go.Proofs.YtaccjfoifkfpfaaDoor
open Go.RowKit
set_option maxRecDepth 100000
set_option linter.unusedSimpArgs false
set_option linter.unusedVariables false

set_option maxHeartbeats 4000000 in
theorem entryLines_R (x : RowV) (R : Array Value) (hR : R = rowA x) (w : World) (hx : ∀ W, Calls Tryd.prog 6 #[.agg (rowA x)] W fun e w1 => e = .returned (.bool (lightR x)) ∧ Below W.heap.size W w1) (hN : RowB x) (hT : TabW w) :
    Calls Tryd.prog 4 #[.agg R] w fun e w' => e = .returned (.bool true) ∧ Below w.heap.size w w' := by
  have HLv : Hid (∀ W, Below w.heap.size w W → Calls Tryd.prog 7 #[] W fun e w1 => e = .returned (.bool true) ∧ Below W.heap.size W w1) := Lib.hid (fun W hb => en_lives W (hT.below hb))
  have HLi : Hid (∀ W, Calls Tryd.prog 6 #[.agg R] W fun e w1 => e = .returned (.bool (lightR x)) ∧ Below W.heap.size W w1) := Lib.hid (by rw [hR]; exact hx)
  obtain ⟨V, hV⟩ : ∃ V, V = lineV x := ⟨_, rfl⟩
  have HC1 : Hid (∀ W, Below w.heap.size w W → Calls Tryd.prog 19 #[.agg R] W fun e w1 => e = .returned (.string V) ∧ Below W.heap.size W w1) := Lib.hid (fun W hb => by rw [hR, hV]; exact code_line x W hN (hT.below hb))
  have HC2 : Hid (∀ W, Below w.heap.size w W → Calls Tryd.prog 20 #[.agg R] W fun e w1 => e = .returned (.string V) ∧ Below W.heap.size W w1) := Lib.hid (fun W hb => by rw [hR, hV]; exact ref_line x W hN)
  have HIn : Hid ((Tryd.prog.info? 25).map (·.size) = some R.size) := Lib.hid (by rw [hR]; kernel_rfl)
  have HX0 : Hid ((w.alloc (.cells R 25)).heap[w.heap.size]? = some (.cells R 25 (0, 0))) := Lib.hid (heap_alloc_new w _)
  have HB0 : Hid (Below w.heap.size w (w.alloc (.cells R 25))) := Lib.hid (below_alloc _ _)
  generalize lightR x = ql at HLi
  clear hR hx hT hN hV
  cases ql
  · go_enter Tryd.func4, Tryd.ntmps4
    go_wp2_with ((with_reducible refine wpList_load_row (o := ⟨some 3, _, _, _, _, _⟩) ?a1 25 (.tmp 1) ?a2 w.heap.size ?a3 25 R (0, 0) _ HX0.out Tryd.underlying25 ?a4 HIn.out ?_); (case a1 => rfl); (case a2 => rfl); (case a3 => rfl); (case a4 => rfl); refine Stop.out ?_)
    unfold Stop
    go_wp2_with (go_at_call 6; refine (HLi.out _).mono ?_; rintro e w1 ⟨rfl, hb⟩; have HB1 := Lib.hid (below_then HB0.out hb); have HX1 := Lib.hid (heap_on hb HX0.out); clear hb; refine Stop.out ?_)
    unfold Stop
    go_wp2_with (go_at_call 7; refine (HLv.out _ HB1.out).mono ?_; rintro e wz ⟨rfl, hb⟩; have HBz := Lib.hid (below_then HB1.out hb); clear hb)
    go_ret
    exact ⟨rfl, HBz.out⟩
  · go_enter Tryd.func4, Tryd.ntmps4
    go_wp2_with ((with_reducible refine wpList_load_row (o := ⟨some 3, _, _, _, _, _⟩) ?a1 25 (.tmp 1) ?a2 w.heap.size ?a3 25 R (0, 0) _ HX0.out Tryd.underlying25 ?a4 HIn.out ?_); (case a1 => rfl); (case a2 => rfl); (case a3 => rfl); (case a4 => rfl); refine Stop.out ?_)
    unfold Stop
    go_wp2_with (go_at_call 6; refine (HLi.out _).mono ?_; rintro e w1 ⟨rfl, hb⟩; have HB1 := Lib.hid (below_then HB0.out hb); have HX1 := Lib.hid (heap_on hb HX0.out); clear hb; refine Stop.out ?_)
    unfold Stop
    go_wp2
    have hHd : w1.drew.heap[w.heap.size]? = some (.cells R 25 (0, 0)) := heap_on (Below.refl _ _).drew HX1.out
    have HBd : Hid (Below w.heap.size w w1.drew) := Lib.hid HB1.out.drew
    clear HX0 HX1 HB0 HB1
    refine wp_region_held_drew (S := fun W => W.heap[w.heap.size]? = some (.cells R 25 (0, 0))) (by kernel_rfl) hHd ?_
    clear hHd
    intro hHeld
    generalize w1.drew = wd at HBd hHeld ⊢
    (refine takeH (i := 0) (v := (.agg R)) rfl (by kernel_rfl) (by kernel_rfl) (by kernel_rfl) (fun _ _ _ h => h) (yieldsIf_load_rowE (by rfl) 25 (.tmp 1) rfl w.heap.size rfl 25 R (0, 0) _ (fun W h => h) Tryd.underlying25 rfl HIn.out) (by assumption) ?_; (try simp only [Act.put, List.setIfInBounds_toArray, List.set_cons_zero, List.set_cons_succ]))
    (refine takeH (i := 2) (v := (.agg R)) rfl (by kernel_rfl) (by kernel_rfl) (by kernel_rfl) (fun _ _ _ h => h) (yieldsIf_load_rowE (by rfl) 25 (.tmp 1) rfl w.heap.size rfl 25 R (0, 0) _ (fun W h => h) Tryd.underlying25 rfl HIn.out) (by assumption) ?_; (try simp only [Act.put, List.setIfInBounds_toArray, List.set_cons_zero, List.set_cons_succ]))
    refine aloneH (i := 1) rfl (by kernel_rfl) (fun K hK => ?_)
    rw [if_pos (by rfl)]
    go_simp; ((refine (HC1.out wd (HBd.out.trans ((below_same wd).mono HBd.out.size))).mono ?_); (rintro e w1 ⟨rfl, hb⟩); have HB1 := Lib.hid hb; clear hb; (try go_simp))
    refine hK.out _ _ (heap_on HB1.out hHeld) (fun hNew => ?_)
    clear hK K hHeld; (have hHeld := hNew); clear hNew; (try simp only [Act.put, List.setIfInBounds_toArray, List.set_cons_zero, List.set_cons_succ])
    refine aloneH (i := 3) rfl (by kernel_rfl) (fun K hK => ?_)
    rw [if_pos (by rfl)]
    go_simp; ((refine (HC2.out w1 (HBd.out.trans (HB1.out.mono HBd.out.size))).mono ?_); (rintro e w2 ⟨rfl, hb⟩); have HB2 := Lib.hid hb; clear hb; (try go_simp))
    refine hK.out _ _ (heap_on HB2.out hHeld) (fun hNew => ?_)
    clear hK K hHeld; (have hHeld := hNew); clear hNew; (try simp only [Act.put, List.setIfInBounds_toArray, List.set_cons_zero, List.set_cons_succ])
    (refine takeH (i := 4) (v := ?_) rfl (by kernel_rfl) (by kernel_rfl) (by kernel_rfl) (fun _ _ _ h => h) (Or.inl ⟨by rfl, ?_⟩) (by assumption) ?_; rotate_left; (focus ((intro wS hSw); (try dsimp only at hSw); have s0 := hSw; go_simp; (try with_reducible rfl); done)); (try simp only [Act.put, List.setIfInBounds_toArray, List.set_cons_zero, List.set_cons_succ]))
    (refine takeH (i := 5) (v := ?_) rfl (by kernel_rfl) (by kernel_rfl) (by kernel_rfl) (fun _ _ _ h => h) (Or.inl ⟨by rfl, ?_⟩) (by assumption) ?_; rotate_left; (focus ((intro wS hSw); (try dsimp only at hSw); have s0 := hSw; go_simp; (try with_reducible rfl); done)); (try simp only [Act.put, List.setIfInBounds_toArray, List.set_cons_zero, List.set_cons_succ]))
    refine aloneH (i := 6) rfl (by kernel_rfl) (fun K hK => ?_)
    rw [if_pos (by rfl)]
    go_simp; ((refine (HLv.out w2 (HBd.out.trans ((below_then HB1.out HB2.out).mono HBd.out.size))).mono ?_); (rintro e w3 ⟨rfl, hb⟩); have HB3 := Lib.hid hb; clear hb; (try go_simp))
    refine hK.out _ _ (heap_on HB3.out hHeld) (fun hNew => ?_)
    clear hK K hHeld; (have hHeld := hNew); clear hNew; (try simp only [Act.put, List.setIfInBounds_toArray, List.set_cons_zero, List.set_cons_succ])
    (refine takeH (i := 7) (v := ?_) rfl (by kernel_rfl) (by kernel_rfl) (by kernel_rfl) (fun _ _ _ h => h) (Or.inl ⟨by rfl, ?_⟩) (by assumption) ?_; rotate_left; (focus ((intro wS hSw); (try dsimp only at hSw); have s0 := hSw; go_simp; (try with_reducible rfl); done)); (try simp only [Act.put, List.setIfInBounds_toArray, List.set_cons_zero, List.set_cons_succ]))
    (refine takeH (i := 8) (v := ?_) rfl (by kernel_rfl) (by kernel_rfl) (by kernel_rfl) (fun _ _ _ h => h) (Or.inl ⟨by rfl, ?_⟩) (by assumption) ?_; rotate_left; (focus ((intro wS hSw); (try dsimp only at hSw); have s0 := hSw; go_simp; (try with_reducible rfl); done)); (try simp only [Act.put, List.setIfInBounds_toArray, List.set_cons_zero, List.set_cons_succ]))
    refine wpAnyH_done (by kernel_rfl) ?_ _
    have HBz : Hid (Below w.heap.size w w3) := Lib.hid (HBd.out.trans ((below_then (below_then HB1.out HB2.out) HB3.out).mono HBd.out.size))
    clear hHeld HBd
    go_wp2
    go_ret
    exact ⟨rfl, HBz.out⟩
theorem entryLines_any (x : RowV) (w : World) (hx : RowVOk w x) (hN : RowB x) (hT : TabW w) :
    Calls Tryd.prog 4 #[.agg (rowA x)] w fun e w' => e = .returned (.bool true) ∧ Below w.heap.size w w' :=
  entryLines_R x _ rfl w (fun W => light_row x W hx) hN hT
end Go.Proofs.YtaccjfoifkfpfaaDoor
