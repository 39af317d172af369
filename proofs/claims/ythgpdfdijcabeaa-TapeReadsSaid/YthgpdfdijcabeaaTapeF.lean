/- A batch's bytes, cut into sectors. -/
import Derived.Test.YthgpdfdijcabeaaTapeE
import Derived.Test.YthgpdfdijcabeaaRange
namespace Go.Proofs.Ythgpdfdijcabeaa
open Go.RowKit
set_option maxRecDepth 100000

/-- a sector of a batch's bytes -/
def cutT (l : Text) (i : Nat) : Text := overP zeros (l.drop (64 * i))
theorem cutT_len (l : Text) (i : Nat) : (cutT l i).length = 64 := overP_len zeros_len
theorem cell_below {w w' : World} {B : Nat} {p : Addr} {v : Value} (hb : Below B w w') (hp : p.block < B) (h : w.cell? p = some v) : w'.cell? p = some v := (hb.cell hp).trans h
set_option maxHeartbeats 1000000 in
theorem code_cut (l : Text) (b o c gb i : Nat) (w : World) (hi : 64 * i < l.length) (hl : l.length ≤ 140737488355328) (hc : l.length ≤ c) (hT : Txt w (some ⟨b, o, none⟩) l) (hG : w.cell? ⟨gb, 0, none⟩ = some (.slice (some ⟨b, o, none⟩) l.length c)) :
    Calls Try.prog 92 #[.int .i64 i, .pointer (some ⟨gb, 0, none⟩)] w fun e w' => e = .returned (pageV (cutT l i)) ∧ Below w.heap.size w w' := by
  have hgb := block_lt_of_cell hG
  have HZ0 : Hid (((w.alloc (.cells (zeros.map cellOf).toArray 110)).alloc (.cells (zeros.map cellOf).toArray 110)).heap[w.heap.size]? = some (.cells (zeros.map cellOf).toArray 110)) := Lib.hid (heap_on (below_alloc _ _) (heap_alloc_new w _))
  have HZ1 : Hid (((w.alloc (.cells (zeros.map cellOf).toArray 110)).alloc (.cells (zeros.map cellOf).toArray 110)).heap[w.heap.size + 1]? = some (.cells (zeros.map cellOf).toArray 110)) := Lib.hid (by have := heap_alloc_new (w.alloc (.cells (zeros.map cellOf).toArray 110)) (.cells (zeros.map cellOf).toArray 110); rwa [World.size_alloc] at this)
  have HBZ : Hid (Below w.heap.size w ((w.alloc (.cells (zeros.map cellOf).toArray 110)).alloc (.cells (zeros.map cellOf).toArray 110))) := Lib.hid (below_then (below_alloc w _) (below_alloc _ _))
  have hG2 : ((w.alloc (.cells (zeros.map cellOf).toArray 110)).alloc (.cells (zeros.map cellOf).toArray 110)).cell? ⟨gb, 0, none⟩ = some (.slice (some ⟨b, o, none⟩) l.length c) := cell_on HBZ.out hG
  have HT0 := Lib.hid (hT.below HBZ.out)
  have HT1 := Lib.hid (HT0.out.drop (64 * i))
  rw [Addr.add_mid] at HT1
  obtain ⟨k, hk⟩ : ∃ k, k = 64 * i := ⟨_, rfl⟩
  have i0 : IntKind.i64.wrap ((i : Int) * 64) = (k : Int) := by rw [IntKind.wrap_i64]; omega
  have i1 : (k : Int) ≤ (l.length : Int) := by omega
  have i4 : ¬ c = k := by omega
  have HK := Lib.hid hk
  unfold cutT
  rw [← hk] at HT1 ⊢
  have HGB : Hid (gb < w.heap.size) := Lib.hid hgb
  clear hT hG hi hl hc hgb HT0 hk
  go_enter Try.func92, Try.ntmps92
  go_wp2_with (first
    | ((with_reducible refine wpList_alloc_page pageT (o := ⟨some 3, _, _, _, _, _⟩) ?a1 ?a2 ?_); (case a1 => rfl); (case a2 => rfl); (try simp only [Act.put, List.setIfInBounds_toArray, List.set_cons_zero, List.set_cons_succ]))
    | ((with_reducible refine wpList_alloc_page pageT (o := ⟨some 4, _, _, _, _, _⟩) ?a1 ?a2 ?_); (case a1 => rfl); (case a2 => rfl); (try simp only [Act.put, List.setIfInBounds_toArray, List.set_cons_zero, List.set_cons_succ])))
  rw [World.size_alloc]
  generalize (w.alloc (.cells (zeros.map cellOf).toArray 110)).alloc (.cells (zeros.map cellOf).toArray 110) = w2 at HZ0 HZ1 HBZ HT1 hG2 ⊢
  refine wp_region_held_drew (S := fun W => W.cell? ⟨gb, 0, none⟩ = some (.slice (some ⟨b, o, none⟩) l.length c)) (by kernel_rfl) hG2 ?_
  intro hHeld
  (refine takeH (i := 0) (v := ?_) rfl (by kernel_rfl) (by kernel_rfl) (by kernel_rfl) (fun _ _ _ h => h) (Or.inl ⟨by rfl, ?_⟩) (by assumption) ?_; rotate_left; (focus ((intro wS hSw); (try dsimp only at hSw); have s0 := hSw; go_simp; (try with_reducible rfl); done)); (try simp only [Act.put, List.setIfInBounds_toArray, List.set_cons_zero, List.set_cons_succ]))
  (refine takeH (i := 1) (v := ?_) rfl (by kernel_rfl) (by kernel_rfl) (by kernel_rfl) (fun _ _ _ h => h) (Or.inl ⟨by rfl, ?_⟩) (by assumption) ?_; rotate_left; (focus ((intro wS hSw); (try dsimp only at hSw); have s0 := hSw; go_simp; (try with_reducible rfl); done)); (try simp only [Act.put, List.setIfInBounds_toArray, List.set_cons_zero, List.set_cons_succ]))
  (refine takeH (i := 2) (v := ?_) rfl (by kernel_rfl) (by kernel_rfl) (by kernel_rfl) (fun _ _ _ h => h) (Or.inl ⟨by rfl, ?_⟩) (by assumption) ?_; rotate_left; (focus ((intro wS hSw); (try dsimp only at hSw); have s0 := hSw; go_simp; (try with_reducible rfl); done)); (try simp only [Act.put, List.setIfInBounds_toArray, List.set_cons_zero, List.set_cons_succ]))
  (refine takeH (i := 3) (v := ?_) rfl (by kernel_rfl) (by kernel_rfl) (by kernel_rfl) (fun _ _ _ h => h) (Or.inl ⟨by rfl, ?_⟩) (by assumption) ?_; rotate_left; (focus ((intro wS hSw); (try dsimp only at hSw); have s0 := hSw; go_simp; (try with_reducible rfl); done)); (try simp only [Act.put, List.setIfInBounds_toArray, List.set_cons_zero, List.set_cons_succ]))
  (refine takeH (i := 4) (v := ?_) rfl (by kernel_rfl) (by kernel_rfl) (by kernel_rfl) (fun _ _ _ h => h) (Or.inl ⟨by rfl, ?_⟩) (by assumption) ?_; rotate_left; (focus ((intro wS hSw); (try dsimp only at hSw); have s0 := hSw; go_simp; (try with_reducible rfl); done)); (try simp only [Act.put, List.setIfInBounds_toArray, List.set_cons_zero, List.set_cons_succ]))
  refine aloneH (i := 5) rfl (by kernel_rfl) (fun K hK => ?_)
  refine step_copy_page rfl (.tmp 5) (.tmp 9) rfl (w.heap.size + 1) 64 rfl (some ⟨b, o + k, none⟩) (c - k) (l.length - k) (l.drop k) (by simp) rfl (HT1.out.below (below_drew _)) zeros zeros_len _ HZ1.out ?_
  intro w1 hg1 hb1
  have HB1 := Lib.hid hb1; have HG1 := Lib.hid hg1; clear hb1 hg1
  refine hK.out _ _ (cell_below HB1.out (Nat.lt_succ_of_lt HGB.out) hHeld) (fun hNew => ?_)
  clear hK K hHeld; (have hHeld := hNew); clear hNew; (try simp only [Act.put, List.setIfInBounds_toArray, List.set_cons_zero, List.set_cons_succ])
  refine wpAnyH_done (by kernel_rfl) ?_ _
  skip
  have HG0 : Hid (w1.heap[w.heap.size]? = some (.cells (zeros.map cellOf).toArray 110)) := Lib.hid ((HB1.out.block w.heap.size (Nat.lt_succ_self _)).trans HZ0.out)
  have HF : Hid (Below w.heap.size w w1) := Lib.hid (HBZ.out.drew.trans (HB1.out.mono (Nat.le_succ _)))
  have HLW : Hid ((overP zeros (l.drop k)).length = 64) := Lib.hid (overP_len zeros_len)
  go_wp2_with (first
    | ((with_reducible refine wpList_load_page pageT (o := ⟨some 11, _, _, _, _, _⟩) ?a1 (.tmp 4) ?a2 (w.heap.size + 1) ?a3 _ HLW.out _ _ HG1.out ?_); (case a1 => rfl); (case a2 => rfl); (case a3 => rfl); (try simp only [Act.put, List.setIfInBounds_toArray, List.set_cons_zero, List.set_cons_succ]))
    | ((with_reducible refine wpList_store_page pageT (o := ⟨none, _, _, _, _, _⟩) ?a1 (.tmp 3) (.tmp 11) ?a2 w.heap.size ?a3 _ HLW.out ?a4 _ ?a5 _ HG0.out ?_); (case a1 => rfl); (case a2 => rfl); (case a3 => rfl); (case a4 => rfl); (case a5 => simp [zeros]); (try simp only [Act.put])))
  refine bodyPost_ret (results_page rfl _ _ w.heap.size _ HLW.out rfl _ (setRow_heap _ _ _ _ _ _ HG0.out)) rfl ⟨rfl, ?_⟩
  exact below_setRow HF.out (Nat.le_refl _) _
end Go.Proofs.Ythgpdfdijcabeaa
