/- Is a disk the document's? -/
import Derived.Test.YtfjejiapafdgeaaJ27
import Derived.Test.YtfjejiapafdgeaaJ4
import Derived.Test.YtfjejiapafdgeaaJ28
namespace Go.Proofs.Ytfjejiapafdgeaa
open Go.RowKit
attribute [local go_sem] Oper.semAt_some
set_option maxRecDepth 100000

/-- the call's own variables -/
def LikeI (w : World) (g c n : Nat) (tr : Int) (d : DiskV) (W : World) : Prop :=
  W.heap[w.heap.size]? = some (.cells (refC g c d.many (aftR d) tr d.dead d.writes).toArray 28 (0, 0)) ∧ W.heap[w.heap.size + 1]? = some (.cells #[.bool false] 4 (0, 0)) ∧
  W.heap[w.heap.size + 1 + 1]? = some (.cells #[.int .i64 n] 3 (0, 0)) ∧ Below w.heap.size w W
theorem LikeI.below {w W W' : World} {g c n b : Nat} {tr : Int} {d : DiskV} (h : LikeI w g c n tr d W) (hb : Below b W W') (hB : w.heap.size + 3 ≤ b) : LikeI w g c n tr d W' :=
  ⟨(hb.block _ (by omega)).trans h.1, (hb.block _ (by omega)).trans h.2.1, (hb.block _ (by omega)).trans h.2.2.1, h.2.2.2.trans (hb.mono (by omega))⟩
theorem wrap_small {n : Nat} (h : n ≤ 4096) : IntKind.i64.wrap ((n : Int) + 1) = (n : Int) + 1 := by
  simp [IntKind.wrap, IntKind.signed, IntKind.bits]
  omega

set_option maxHeartbeats 3000000 in
theorem code_like (w : World) (B bm nn g c : Nat) (tr : Int) (d : DiskV) (h : Dsk w B bm nn d) (hr : RefIs w g c tr d) :
    Calls Try.prog 24 #[.pointer (some ⟨B, 0, none⟩), refV g c tr d] w fun e w' => e = .returned (.bool true) ∧ Below w.heap.size w w' := by
  have HD := Lib.hid h
  have HR := Lib.hid hr
  have hm := h.2.2.1
  have hgl := hr.1.1
  obtain ⟨vv, hvv⟩ : ∃ vv, vv = refV g c tr d := ⟨_, rfl⟩
  have HV : Hid (vv = .agg (refC g c d.many (aftR d) tr d.dead d.writes).toArray) := Lib.hid (by rw [hvv]; simp [refV, refC])
  rw [HV.out] at hvv
  unfold refV
  generalize haf : aftR d = af at *
  have HAF := Lib.hid haf
  clear h hr hvv haf
  have hfn := eql_func_nil
  refine callsIn_wide.1 (callsIn_of_wp_marks (n := 0) (F := Fence.wide) Try.func24 rfl trivial (wpIn_wide.2 ?_) rfl)
  simp only [Try.ntmps24, List.size_toArray, List.length_cons, List.length_nil, Nat.reduceAdd, Nat.reduceSub, Array.replicate_succ, Array.replicate_zero, List.push_toArray, List.append_toArray, List.nil_append, List.cons_append]
  go_wp2_with (go_at_call 55; refine (code_all _ _).mono ?_; rintro e w1 ⟨rfl, rfl⟩)
  obtain ⟨W9, hW9⟩ : ∃ W9, W9 = (((w.alloc (.cells #[.slice (some ⟨g, 0, none⟩) d.many c, .int .i64 af, .int .i64 tr, .bool d.dead, .int .i64 d.writes] 28)).alloc (.cells #[.bool false] 4)).alloc (.cells #[.int .i64 0] 3)).alloc (.cells #[.pointer (some ⟨B, 0, none⟩)] 25) := ⟨_, rfl⟩
  have e1 := heap_alloc_new w (.cells #[.slice (some ⟨g, 0, none⟩) d.many c, .int .i64 af, .int .i64 tr, .bool d.dead, .int .i64 d.writes] 28)
  have e2 := heap_alloc_new (w.alloc (.cells #[.slice (some ⟨g, 0, none⟩) d.many c, .int .i64 af, .int .i64 tr, .bool d.dead, .int .i64 d.writes] 28)) (.cells #[.bool false] 4)
  have e3 := heap_alloc_new ((w.alloc (.cells #[.slice (some ⟨g, 0, none⟩) d.many c, .int .i64 af, .int .i64 tr, .bool d.dead, .int .i64 d.writes] 28)).alloc (.cells #[.bool false] 4)) (.cells #[.int .i64 0] 3)
  have e4 := heap_alloc_new (((w.alloc (.cells #[.slice (some ⟨g, 0, none⟩) d.many c, .int .i64 af, .int .i64 tr, .bool d.dead, .int .i64 d.writes] 28)).alloc (.cells #[.bool false] 4)).alloc (.cells #[.int .i64 0] 3)) (.cells #[.pointer (some ⟨B, 0, none⟩)] 25)
  simp only [World.size_alloc] at e1 e2 e3 e4
  have hB9 : Below w.heap.size w W9 := by rw [hW9]; exact ((((Below.refl _ w).alloc (Nat.le_refl _) _).alloc (by simp) _).alloc (by simp <;> omega) _).alloc (by simp <;> omega) _
  have hI9 : LikeI w g c 0 tr d W9 := by
    refine ⟨?_, ?_, ?_, hB9⟩
    · rw [HAF.out, hW9, Below.heap_alloc _ _ _ (by simp <;> omega), Below.heap_alloc _ _ _ (by simp <;> omega), Below.heap_alloc _ _ _ (by simp)]; exact e1
    · rw [hW9, Below.heap_alloc _ _ _ (by simp <;> omega), Below.heap_alloc _ _ _ (by simp)]; exact e2
    · rw [hW9, Below.heap_alloc _ _ _ (by simp)]; exact e3
  have hs9 : W9.heap[w.heap.size + 1 + 1 + 1]? = some (.cells #[.pointer (some ⟨B, 0, none⟩)] 25 (0, 0)) := by rw [hW9]; exact e4
  have hz9 : W9.heap.size = w.heap.size + 4 := by rw [hW9]; simp
  have hD9 : Dsk W9 B bm nn d := HD.out.below hB9
  have HA := Lib.hid (all_told W9 (w.heap.size + 1 + 1 + 1) B bm nn d hD9 hs9)
  have hBl := HD.out.lt
  have hbl := HD.out.2.1.lt
  rw [← hW9]
  clear hW9 e1 e2 e3 e4 hB9 hs9 hD9
  refine wp_rangeTold (gf := 80) (lb := #[.pointer (some ⟨w.heap.size + 1 + 1 + 1, 0, none⟩)]) rfl (enters_of Try.func80 (by kernel_rfl) rfl) HA.out (fun h k => h.trans k) (fun A B h => ⟨fun _ => h.block _ (by omega), fun _ => h.block _ (by omega), fun _ => h.block _ (by omega), h.size⟩) (fun _ => rfl)
    (fun pre W => LikeI w g c pre.length tr d W) (fun _ _ _ => False) (fun _ A B h hb => h.below hb (by omega)) (fun _ _ _ _ h _ => h) hI9 ?round ?done ?stop
  case stop =>
    rintro D cc pre W _ _ h _
    exact h.elim
  case done =>
    intro D xs W hD hxl hI hK
    rw [show xs.length = d.many from hxl] at hI
    have HDk0 : Dsk W B bm nn d := HD.out.below hI.2.2.2
    have HDk := Lib.hid (HDk0.below (Below.refl _ _).drew)
    have HLen : Hid (∀ V, Dsk V B bm nn d → Calls Try.prog 46 #[.pointer (some ⟨B, 0, none⟩)] V fun e V' => e = .returned (.int .i64 d.many) ∧ V = V') := Lib.hid (fun V hV => code_dlen V B bm nn d hV)
    have HDd : Hid (∀ V, Dsk V B bm nn d → Calls Try.prog 56 #[.pointer (some ⟨B, 0, none⟩)] V fun e V' => e = .returned (.bool d.dead) ∧ V = V') := Lib.hid (fun V hV => code_dead V B bm nn d hV)
    have HWr : Hid (∀ V, Dsk V B bm nn d → Calls Try.prog 25 #[.pointer (some ⟨B, 0, none⟩)] V fun e V' => e = .returned (.int .i64 d.writes) ∧ V = V') := Lib.hid (fun V hV => code_writes V B bm nn d hV)
    have q5 := cell_of_row W _ 0 _ _ _ hI.2.2.1
    have q30 := cell_of_row W _ 0 _ _ _ hI.1
    have q33 := cell_of_row W _ 3 _ _ _ hI.1
    have q34 := cell_of_row W _ 4 _ _ _ hI.1
    simp only [refC, List.getElem?_toArray, List.getElem?_cons_zero, List.getElem?_cons_succ] at q5 q30 q33 q34
    have q4 := cell_of_row W _ 0 _ _ _ hI.2.1
    have qf := frozen_of_row W _ 0 _ _ hI.2.1
    simp only [List.getElem?_toArray, List.getElem?_cons_zero] at q4
    have HI := Lib.hid hI
    have HKK := Lib.hid hK
    have Hq : Hid (W.cell? ⟨w.heap.size + 1 + 1, 0, none⟩ = some (.int .i64 d.many) ∧ W.cell? ⟨w.heap.size, 0, none⟩ = some (.slice (some ⟨g, 0, none⟩) d.many c) ∧ W.cell? ⟨w.heap.size, 3, none⟩ = some (.bool d.dead) ∧ W.cell? ⟨w.heap.size, 4, none⟩ = some (.int .i64 d.writes)) := Lib.hid ⟨q5, q30, q33, q34⟩
    clear hI hK HDk0 hxl q5 q30 q33 q34
    go_wp2
    refine wp_region_noPanic (wp_region_held_drew (S := fun W => W.cell? ⟨w.heap.size + 1 + 1, 0, none⟩ = some (.int .i64 d.many) ∧ W.cell? ⟨w.heap.size, 0, none⟩ = some (.slice (some ⟨g, 0, none⟩) d.many c) ∧ W.cell? ⟨w.heap.size, 3, none⟩ = some (.bool d.dead) ∧ W.cell? ⟨w.heap.size, 4, none⟩ = some (.int .i64 d.writes)) (by kernel_rfl) Hq.out ?_)
    intro hHeld
    (refine takeH (i := 0) (v := ?_) rfl (by kernel_rfl) (by kernel_rfl) (by kernel_rfl) (fun _ _ _ h => h) (Or.inl ⟨by rfl, ?_⟩) (by assumption) ?_; rotate_left; (focus ((intro wS hSw); (try dsimp only at hSw); obtain ⟨s5, s3, s33, s34⟩ := hSw; go_simp; (try with_reducible rfl); done)); (try simp only [Act.put, List.setIfInBounds_toArray, List.set_cons_zero, List.set_cons_succ]))
    (refine takeH (i := 1) (v := ?_) rfl (by kernel_rfl) (by kernel_rfl) (by kernel_rfl) (fun _ _ _ h => h) (Or.inl ⟨by rfl, ?_⟩) (by assumption) ?_; rotate_left; (focus ((intro wS hSw); (try dsimp only at hSw); obtain ⟨s5, s3, s33, s34⟩ := hSw; go_simp; (try with_reducible rfl); done)); (try simp only [Act.put, List.setIfInBounds_toArray, List.set_cons_zero, List.set_cons_succ]))
    (refine takeH (i := 2) (v := ?_) rfl (by kernel_rfl) (by kernel_rfl) (by kernel_rfl) (fun _ _ _ h => h) (Or.inl ⟨by rfl, ?_⟩) (by assumption) ?_; rotate_left; (focus ((intro wS hSw); (try dsimp only at hSw); obtain ⟨s5, s3, s33, s34⟩ := hSw; go_simp; (try with_reducible rfl); done)); (try simp only [Act.put, List.setIfInBounds_toArray, List.set_cons_zero, List.set_cons_succ]))
    (refine takeH (i := 3) (v := ?_) rfl (by kernel_rfl) (by kernel_rfl) (by kernel_rfl) (fun _ _ _ h => h) (Or.inl ⟨by rfl, ?_⟩) (by assumption) ?_; rotate_left; (focus ((intro wS hSw); (try dsimp only at hSw); obtain ⟨s5, s3, s33, s34⟩ := hSw; go_simp; (try with_reducible rfl); done)); (try simp only [Act.put, List.setIfInBounds_toArray, List.set_cons_zero, List.set_cons_succ]))
    (refine takeH (i := 4) (v := ?_) rfl (by kernel_rfl) (by kernel_rfl) (by kernel_rfl) (fun _ _ _ h => h) (Or.inl ⟨by rfl, ?_⟩) (by assumption) ?_; rotate_left; (focus ((intro wS hSw); (try dsimp only at hSw); obtain ⟨s5, s3, s33, s34⟩ := hSw; go_simp; (try with_reducible rfl); done)); (try simp only [Act.put, List.setIfInBounds_toArray, List.set_cons_zero, List.set_cons_succ]))
    (refine takeH (i := 5) (v := ?_) rfl (by kernel_rfl) (by kernel_rfl) (by kernel_rfl) (fun _ _ _ h => h) (Or.inl ⟨by rfl, ?_⟩) (by assumption) ?_; rotate_left; (focus ((intro wS hSw); (try dsimp only at hSw); obtain ⟨s5, s3, s33, s34⟩ := hSw; go_simp; (try with_reducible rfl); done)); (try simp only [Act.put, List.setIfInBounds_toArray, List.set_cons_zero, List.set_cons_succ]))
    (refine takeH (i := 6) (v := ?_) rfl (by kernel_rfl) (by kernel_rfl) (by kernel_rfl) (fun _ _ _ h => h) (Or.inl ⟨by rfl, ?_⟩) (by assumption) ?_; rotate_left; (focus ((intro wS hSw); (try dsimp only at hSw); obtain ⟨s5, s3, s33, s34⟩ := hSw; go_simp; (try with_reducible rfl); done)); (try simp only [Act.put, List.setIfInBounds_toArray, List.set_cons_zero, List.set_cons_succ]))
    (refine takeH (i := 8) (v := ?_) rfl (by kernel_rfl) (by kernel_rfl) (by kernel_rfl) (fun _ _ _ h => h) (Or.inl ⟨by rfl, ?_⟩) (by assumption) ?_; rotate_left; (focus ((intro wS hSw); (try dsimp only at hSw); obtain ⟨s5, s3, s33, s34⟩ := hSw; go_simp; (try with_reducible rfl); done)); (try simp only [Act.put, List.setIfInBounds_toArray, List.set_cons_zero, List.set_cons_succ]))
    (refine aloneH (i := 7) rfl (by kernel_rfl) (fun K hK => ?_); rw [if_pos (by rfl)]; go_simp; ((refine (HLen.out _ HDk.out).mono ?_); (rintro e w20 ⟨rfl, rfl⟩); (try go_simp)); refine hK.out _ _ (hHeld) (fun hNew => ?_); clear hK K hHeld; (have hHeld := hNew); clear hNew; (try simp only [Act.put, List.setIfInBounds_toArray, List.set_cons_zero, List.set_cons_succ]))
    (refine takeH (i := 9) (v := ?_) rfl (by kernel_rfl) (by kernel_rfl) (by kernel_rfl) (fun _ _ _ h => h) (Or.inl ⟨by rfl, ?_⟩) (by assumption) ?_; rotate_left; (focus ((intro wS hSw); (try dsimp only at hSw); obtain ⟨s5, s3, s33, s34⟩ := hSw; go_simp; (try with_reducible rfl); done)); (try simp only [Act.put, List.setIfInBounds_toArray, List.set_cons_zero, List.set_cons_succ]))
    (refine takeH (i := 10) (v := ?_) rfl (by kernel_rfl) (by kernel_rfl) (by kernel_rfl) (fun _ _ _ h => h) (Or.inl ⟨by rfl, ?_⟩) (by assumption) ?_; rotate_left; (focus ((intro wS hSw); (try dsimp only at hSw); obtain ⟨s5, s3, s33, s34⟩ := hSw; go_simp; (try with_reducible rfl); done)); (try simp only [Act.put, List.setIfInBounds_toArray, List.set_cons_zero, List.set_cons_succ]))
    (refine takeH (i := 11) (v := ?_) rfl (by kernel_rfl) (by kernel_rfl) (by kernel_rfl) (fun _ _ _ h => h) (Or.inl ⟨by rfl, ?_⟩) (by assumption) ?_; rotate_left; (focus ((intro wS hSw); (try dsimp only at hSw); obtain ⟨s5, s3, s33, s34⟩ := hSw; go_simp; (try with_reducible rfl); done)); (try simp only [Act.put, List.setIfInBounds_toArray, List.set_cons_zero, List.set_cons_succ]))
    (refine takeH (i := 12) (v := ?_) rfl (by kernel_rfl) (by kernel_rfl) (by kernel_rfl) (fun _ _ _ h => h) (Or.inl ⟨by rfl, ?_⟩) (by assumption) ?_; rotate_left; (focus ((intro wS hSw); (try dsimp only at hSw); obtain ⟨s5, s3, s33, s34⟩ := hSw; go_simp; (try with_reducible rfl); done)); (try simp only [Act.put, List.setIfInBounds_toArray, List.set_cons_zero, List.set_cons_succ]))
    (refine takeH (i := 14) (v := ?_) rfl (by kernel_rfl) (by kernel_rfl) (by kernel_rfl) (fun _ _ _ h => h) (Or.inl ⟨by rfl, ?_⟩) (by assumption) ?_; rotate_left; (focus ((intro wS hSw); (try dsimp only at hSw); obtain ⟨s5, s3, s33, s34⟩ := hSw; go_simp; (try with_reducible rfl); done)); (try simp only [Act.put, List.setIfInBounds_toArray, List.set_cons_zero, List.set_cons_succ]))
    (refine takeH (i := 15) (v := ?_) rfl (by kernel_rfl) (by kernel_rfl) (by kernel_rfl) (fun _ _ _ h => h) (Or.inl ⟨by rfl, ?_⟩) (by assumption) ?_; rotate_left; (focus ((intro wS hSw); (try dsimp only at hSw); obtain ⟨s5, s3, s33, s34⟩ := hSw; go_simp; (try with_reducible rfl); done)); (try simp only [Act.put, List.setIfInBounds_toArray, List.set_cons_zero, List.set_cons_succ]))
    (refine aloneH (i := 13) rfl (by kernel_rfl) (fun K hK => ?_); rw [if_pos (by rfl)]; go_simp; ((refine (HDd.out _ HDk.out).mono ?_); (rintro e w21 ⟨rfl, rfl⟩); (try go_simp)); refine hK.out _ _ (hHeld) (fun hNew => ?_); clear hK K hHeld; (have hHeld := hNew); clear hNew; (try simp only [Act.put, List.setIfInBounds_toArray, List.set_cons_zero, List.set_cons_succ]))
    (refine takeH (i := 16) (v := ?_) rfl (by kernel_rfl) (by kernel_rfl) (by kernel_rfl) (fun _ _ _ h => h) (Or.inl ⟨by rfl, ?_⟩) (by assumption) ?_; rotate_left; (focus ((intro wS hSw); (try dsimp only at hSw); obtain ⟨s5, s3, s33, s34⟩ := hSw; go_simp; (try with_reducible rfl); done)); (try simp only [Act.put, List.setIfInBounds_toArray, List.set_cons_zero, List.set_cons_succ]))
    (refine takeH (i := 17) (v := ?_) rfl (by kernel_rfl) (by kernel_rfl) (by kernel_rfl) (fun _ _ _ h => h) (Or.inl ⟨by rfl, ?_⟩) (by assumption) ?_; rotate_left; (focus ((intro wS hSw); (try dsimp only at hSw); obtain ⟨s5, s3, s33, s34⟩ := hSw; go_simp; (try with_reducible rfl); done)); (try simp only [Act.put, List.setIfInBounds_toArray, List.set_cons_zero, List.set_cons_succ]))
    (refine takeH (i := 18) (v := ?_) rfl (by kernel_rfl) (by kernel_rfl) (by kernel_rfl) (fun _ _ _ h => h) (Or.inl ⟨by rfl, ?_⟩) (by assumption) ?_; rotate_left; (focus ((intro wS hSw); (try dsimp only at hSw); obtain ⟨s5, s3, s33, s34⟩ := hSw; go_simp; (try with_reducible rfl); done)); (try simp only [Act.put, List.setIfInBounds_toArray, List.set_cons_zero, List.set_cons_succ]))
    (refine takeH (i := 19) (v := ?_) rfl (by kernel_rfl) (by kernel_rfl) (by kernel_rfl) (fun _ _ _ h => h) (Or.inl ⟨by rfl, ?_⟩) (by assumption) ?_; rotate_left; (focus ((intro wS hSw); (try dsimp only at hSw); obtain ⟨s5, s3, s33, s34⟩ := hSw; go_simp; (try with_reducible rfl); done)); (try simp only [Act.put, List.setIfInBounds_toArray, List.set_cons_zero, List.set_cons_succ]))
    (refine takeH (i := 21) (v := ?_) rfl (by kernel_rfl) (by kernel_rfl) (by kernel_rfl) (fun _ _ _ h => h) (Or.inl ⟨by rfl, ?_⟩) (by assumption) ?_; rotate_left; (focus ((intro wS hSw); (try dsimp only at hSw); obtain ⟨s5, s3, s33, s34⟩ := hSw; go_simp; (try with_reducible rfl); done)); (try simp only [Act.put, List.setIfInBounds_toArray, List.set_cons_zero, List.set_cons_succ]))
    (refine takeH (i := 22) (v := ?_) rfl (by kernel_rfl) (by kernel_rfl) (by kernel_rfl) (fun _ _ _ h => h) (Or.inl ⟨by rfl, ?_⟩) (by assumption) ?_; rotate_left; (focus ((intro wS hSw); (try dsimp only at hSw); obtain ⟨s5, s3, s33, s34⟩ := hSw; go_simp; (try with_reducible rfl); done)); (try simp only [Act.put, List.setIfInBounds_toArray, List.set_cons_zero, List.set_cons_succ]))
    (refine aloneH (i := 20) rfl (by kernel_rfl) (fun K hK => ?_); rw [if_pos (by rfl)]; go_simp; ((refine (HWr.out _ HDk.out).mono ?_); (rintro e w22 ⟨rfl, rfl⟩); (try go_simp)); refine hK.out _ _ (hHeld) (fun hNew => ?_); clear hK K hHeld; (have hHeld := hNew); clear hNew; (try simp only [Act.put, List.setIfInBounds_toArray, List.set_cons_zero, List.set_cons_succ]))
    (refine takeH (i := 23) (v := ?_) rfl (by kernel_rfl) (by kernel_rfl) (by kernel_rfl) (fun _ _ _ h => h) (Or.inl ⟨by rfl, ?_⟩) (by assumption) ?_; rotate_left; (focus ((intro wS hSw); (try dsimp only at hSw); obtain ⟨s5, s3, s33, s34⟩ := hSw; go_simp; (try with_reducible rfl); done)); (try simp only [Act.put, List.setIfInBounds_toArray, List.set_cons_zero, List.set_cons_succ]))
    (refine takeH (i := 24) (v := ?_) rfl (by kernel_rfl) (by kernel_rfl) (by kernel_rfl) (fun _ _ _ h => h) (Or.inl ⟨by rfl, ?_⟩) (by assumption) ?_; rotate_left; (focus ((intro wS hSw); (try dsimp only at hSw); obtain ⟨s5, s3, s33, s34⟩ := hSw; go_simp; (try with_reducible rfl); done)); (try simp only [Act.put, List.setIfInBounds_toArray, List.set_cons_zero, List.set_cons_succ]))
    (refine aloneH (i := 25) rfl (by kernel_rfl) (fun K hK => ?_); rw [if_pos (by rfl)]; go_simp; refine hK.out _ _ ⟨(World.cell?_of_block (heap_setCell_other _ _ _ _ (by simp <;> omega))).trans hHeld.1, (World.cell?_of_block (heap_setCell_other _ _ _ _ (by simp <;> omega))).trans hHeld.2.1, (World.cell?_of_block (heap_setCell_other _ _ _ _ (by simp <;> omega))).trans hHeld.2.2.1, (World.cell?_of_block (heap_setCell_other _ _ _ _ (by simp <;> omega))).trans hHeld.2.2.2⟩ (fun hNew => ?_); clear hK K hHeld hNew; (try simp only [Act.put]))
    refine wpAnyH_done (by kernel_rfl) (NoPanic.normal ?_) _
    have hD4 : w.heap.size + 1 ≠ D := by omega
    go_wp2
    have hkk : (W.setCell ⟨w.heap.size + 1, 0, none⟩ (.bool true)).drew.heap[D]? = some (.deferred (some [])) := (heap_setCell_other _ _ _ _ (fun e => hD4 e.symm)).trans HKK.out
    refine ⟨by simp, .inl ⟨_, _, rfl, run_takeDeferred hkk, ?_⟩⟩
    refine ⟨.bool true, results_one_cell rfl _ _ _ true rfl (by kernel_rfl) ?_, rfl, ?_⟩
    · rw [World.cell?_of_block (World.putObj_heap_other hD4)]
      exact World.cell?_setCell_same' _ _ _ (by rw [q4]; rfl)
    · exact ((HI.out.2.2.2.setCell (p := ⟨w.heap.size + 1, 0, none⟩) (by simp) _).drew).trans (put_below _ _ (by omega))
  case round =>
    intro l r pre x W hl hr hI hx
    obtain ⟨j, g9⟩ := x
    obtain ⟨hjx, hj, hxt⟩ := hx
    dsimp only at hjx hj hxt
    obtain ⟨k, hk⟩ : ∃ k, k = pre.length := ⟨_, rfl⟩
    rw [← hk] at hI
    have hjk : j = k := by rw [hjx, hk]
    subst hjk
    have HI := Lib.hid hI
    have HRr := Lib.hid hr
    have HXT := Lib.hid hxt
    have HK := Lib.hid hk
    clear hI hr hxt hjx hk
    dsimp only [encA]
    gi_wp2
    refine ⟨Below.refl _ _, fun Wb hB => ?_⟩
    have hIb := HI.out.below (hB.below (b := w.heap.size + 3) (by omega)) (Nat.le_refl _)
    have hTb := HXT.out.beg HRr.out hB
    have hSl : (d.S j).length = 64 := by obtain ⟨_, ⟨D, _, h2⟩, _⟩ := HD.out; exact (h2 j hj).2
    have hPg := (HR.out.below hIb.2.2.2).1.2 j (by rw [pagesL_len]; exact hj)
    rw [pagesL_at] at hPg
    have hj' : (j : Int) < (d.many : Int) := by omega
    have hn1 := wrap_small (n := j) (by omega)
    have hge : ¬ ((d.many : Int) ≤ (j : Int)) := by omega
    have hge2 : ¬ (d.many ≤ j) := by omega
    have q3 := cell_of_row Wb _ 0 _ _ _ hIb.1
    simp only [refC, List.getElem?_toArray, List.getElem?_cons_zero] at q3
    have q5 := cell_of_row Wb _ 0 _ _ _ hIb.2.2.1
    have qf := frozen_of_row Wb _ 0 _ _ hIb.2.2.1
    simp only [List.getElem?_toArray, List.getElem?_cons_zero] at q5
    have HIb := Lib.hid hIb
    have HTb := Lib.hid hTb
    have HPg := Lib.hid hPg
    have Hq3 := Lib.hid q3
    clear hIb hTb hB HI HRr HXT hPg q3
    gi_wp2
    refine region_in_round (S := fun W => W.cell? ⟨w.heap.size + 1 + 1, 0, none⟩ = some (.int .i64 j) ∧ W.cell? ⟨w.heap.size, 0, none⟩ = some (.slice (some ⟨g, 0, none⟩) d.many c) ∧ W.cell? ⟨g, j, none⟩ = some (.string ⟨(d.S j).toArray⟩) ∧ Txt W (some ⟨g9, 0, none⟩) (d.S j)) (by kernel_rfl) (by kernel_rfl) ⟨q5, Hq3.out, HPg.out, HTb.out.below (Below.refl _ _).drew⟩ ?_
    intro hHeld
    (refine takeH (i := 0) (v := ?_) rfl (by kernel_rfl) (by kernel_rfl) (by kernel_rfl) (fun _ _ _ h => h) (Or.inl ⟨by rfl, ?_⟩) (by assumption) ?_; rotate_left; (focus ((intro wS hSw); (try dsimp only at hSw); obtain ⟨s5, s3, sg, st⟩ := hSw; (have ec := text_run_n wS _ 64 64 (d.S j) hSl st (by simp)); clear st; go_simp; (try with_reducible rfl); done)); (try simp only [Act.put, List.setIfInBounds_toArray, List.set_cons_zero, List.set_cons_succ]))
    (refine takeH (i := 1) (v := ?_) rfl (by kernel_rfl) (by kernel_rfl) (by kernel_rfl) (fun _ _ _ h => h) (Or.inl ⟨by rfl, ?_⟩) (by assumption) ?_; rotate_left; (focus ((intro wS hSw); (try dsimp only at hSw); obtain ⟨s5, s3, sg, st⟩ := hSw; (have ec := text_run_n wS _ 64 64 (d.S j) hSl st (by simp)); clear st; go_simp; (try with_reducible rfl); done)); (try simp only [Act.put, List.setIfInBounds_toArray, List.set_cons_zero, List.set_cons_succ]))
    (refine takeH (i := 2) (v := ?_) rfl (by kernel_rfl) (by kernel_rfl) (by kernel_rfl) (fun _ _ _ h => h) (Or.inl ⟨by rfl, ?_⟩) (by assumption) ?_; rotate_left; (focus ((intro wS hSw); (try dsimp only at hSw); obtain ⟨s5, s3, sg, st⟩ := hSw; (have ec := text_run_n wS _ 64 64 (d.S j) hSl st (by simp)); clear st; go_simp; (try with_reducible rfl); done)); (try simp only [Act.put, List.setIfInBounds_toArray, List.set_cons_zero, List.set_cons_succ]))
    (refine takeH (i := 3) (v := ?_) rfl (by kernel_rfl) (by kernel_rfl) (by kernel_rfl) (fun _ _ _ h => h) (Or.inl ⟨by rfl, ?_⟩) (by assumption) ?_; rotate_left; (focus ((intro wS hSw); (try dsimp only at hSw); obtain ⟨s5, s3, sg, st⟩ := hSw; (have ec := text_run_n wS _ 64 64 (d.S j) hSl st (by simp)); clear st; go_simp; (try with_reducible rfl); done)); (try simp only [Act.put, List.setIfInBounds_toArray, List.set_cons_zero, List.set_cons_succ]))
    (refine takeH (i := 4) (v := ?_) rfl (by kernel_rfl) (by kernel_rfl) (by kernel_rfl) (fun _ _ _ h => h) (Or.inl ⟨by rfl, ?_⟩) (by assumption) ?_; rotate_left; (focus ((intro wS hSw); (try dsimp only at hSw); obtain ⟨s5, s3, sg, st⟩ := hSw; (have ec := text_run_n wS _ 64 64 (d.S j) hSl st (by simp)); clear st; go_simp; (try with_reducible rfl); done)); (try simp only [Act.put, List.setIfInBounds_toArray, List.set_cons_zero, List.set_cons_succ]))
    (refine takeH (i := 5) (v := ?_) rfl (by kernel_rfl) (by kernel_rfl) (by kernel_rfl) (fun _ _ _ h => h) (Or.inl ⟨by rfl, ?_⟩) (by assumption) ?_; rotate_left; (focus ((intro wS hSw); (try dsimp only at hSw); obtain ⟨s5, s3, sg, st⟩ := hSw; (have ec := text_run_n wS _ 64 64 (d.S j) hSl st (by simp)); clear st; go_simp; (try with_reducible rfl); done)); (try simp only [Act.put, List.setIfInBounds_toArray, List.set_cons_zero, List.set_cons_succ]))
    (refine takeH (i := 6) (v := ?_) rfl (by kernel_rfl) (by kernel_rfl) (by kernel_rfl) (fun _ _ _ h => h) (Or.inl ⟨by rfl, ?_⟩) (by assumption) ?_; rotate_left; (focus ((intro wS hSw); (try dsimp only at hSw); obtain ⟨s5, s3, sg, st⟩ := hSw; (have ec := text_run_n wS _ 64 64 (d.S j) hSl st (by simp)); clear st; go_simp; (try with_reducible rfl); done)); (try simp only [Act.put, List.setIfInBounds_toArray, List.set_cons_zero, List.set_cons_succ]))
    (refine takeH (i := 7) (v := ?_) rfl (by kernel_rfl) (by kernel_rfl) (by kernel_rfl) (fun _ _ _ h => h) (Or.inl ⟨by rfl, ?_⟩) (by assumption) ?_; rotate_left; (focus ((intro wS hSw); (try dsimp only at hSw); obtain ⟨s5, s3, sg, st⟩ := hSw; (have ec := text_run_n wS _ 64 64 (d.S j) hSl st (by simp)); clear st; go_simp; (try with_reducible rfl); done)); (try simp only [Act.put, List.setIfInBounds_toArray, List.set_cons_zero, List.set_cons_succ]))
    (refine takeH (i := 8) (v := ?_) rfl (by kernel_rfl) (by kernel_rfl) (by kernel_rfl) (fun _ _ _ h => h) (Or.inl ⟨by rfl, ?_⟩) (by assumption) ?_; rotate_left; (focus ((intro wS hSw); (try dsimp only at hSw); obtain ⟨s5, s3, sg, st⟩ := hSw; (have ec := text_run_n wS _ 64 64 (d.S j) hSl st (by simp)); clear st; go_simp; (try with_reducible rfl); done)); (try simp only [Act.put, List.setIfInBounds_toArray, List.set_cons_zero, List.set_cons_succ]))
    (refine takeH (i := 9) (v := ?_) rfl (by kernel_rfl) (by kernel_rfl) (by kernel_rfl) (fun _ _ _ h => h) (Or.inl ⟨by rfl, ?_⟩) (by assumption) ?_; rotate_left; (focus ((intro wS hSw); (try dsimp only at hSw); obtain ⟨s5, s3, sg, st⟩ := hSw; (have ec := text_run_n wS _ 64 64 (d.S j) hSl st (by simp)); clear st; go_simp; (try with_reducible rfl); done)); (try simp only [Act.put, List.setIfInBounds_toArray, List.set_cons_zero, List.set_cons_succ]))
    (refine takeH (i := 10) (v := ?_) rfl (by kernel_rfl) (by kernel_rfl) (by kernel_rfl) (fun _ _ _ h => h) (Or.inl ⟨by rfl, ?_⟩) (by assumption) ?_; rotate_left; (focus ((intro wS hSw); (try dsimp only at hSw); obtain ⟨s5, s3, sg, st⟩ := hSw; (have ec := text_run_n wS _ 64 64 (d.S j) hSl st (by simp)); clear st; go_simp; (try with_reducible rfl); done)); (try simp only [Act.put, List.setIfInBounds_toArray, List.set_cons_zero, List.set_cons_succ]))
    (refine takeH (i := 11) (v := ?_) rfl (by kernel_rfl) (by kernel_rfl) (by kernel_rfl) (fun _ _ _ h => h) (Or.inl ⟨by rfl, ?_⟩) (by assumption) ?_; rotate_left; (focus ((intro wS hSw); (try dsimp only at hSw); obtain ⟨s5, s3, sg, st⟩ := hSw; (have ec := text_run_n wS _ 64 64 (d.S j) hSl st (by simp)); clear st; go_simp; (try with_reducible rfl); done)); (try simp only [Act.put, List.setIfInBounds_toArray, List.set_cons_zero, List.set_cons_succ]))
    (refine takeH (i := 12) (v := ?_) rfl (by kernel_rfl) (by kernel_rfl) (by kernel_rfl) (fun _ _ _ h => h) (Or.inl ⟨by rfl, ?_⟩) (by assumption) ?_; rotate_left; (focus ((intro wS hSw); (try dsimp only at hSw); obtain ⟨s5, s3, sg, st⟩ := hSw; (have ec := text_run_n wS _ 64 64 (d.S j) hSl st (by simp)); clear st; go_simp; (try with_reducible rfl); done)); (try simp only [Act.put, List.setIfInBounds_toArray, List.set_cons_zero, List.set_cons_succ]))
    (refine takeH (i := 13) (v := ?_) rfl (by kernel_rfl) (by kernel_rfl) (by kernel_rfl) (fun _ _ _ h => h) (Or.inl ⟨by rfl, ?_⟩) (by assumption) ?_; rotate_left; (focus ((intro wS hSw); (try dsimp only at hSw); obtain ⟨s5, s3, sg, st⟩ := hSw; (have ec := text_run_n wS _ 64 64 (d.S j) hSl st (by simp)); clear st; go_simp; (try with_reducible rfl); done)); (try simp only [Act.put, List.setIfInBounds_toArray, List.set_cons_zero, List.set_cons_succ]))
    (refine takeH (i := 14) (v := ?_) rfl (by kernel_rfl) (by kernel_rfl) (by kernel_rfl) (fun _ _ _ h => h) (Or.inl ⟨by rfl, ?_⟩) (by assumption) ?_; rotate_left; (focus ((intro wS hSw); (try dsimp only at hSw); obtain ⟨s5, s3, sg, st⟩ := hSw; (have ec := text_run_n wS _ 64 64 (d.S j) hSl st (by simp)); clear st; go_simp; (try with_reducible rfl); done)); (try simp only [Act.put, List.setIfInBounds_toArray, List.set_cons_zero, List.set_cons_succ]))
    (refine takeH (i := 15) (v := ?_) rfl (by kernel_rfl) (by kernel_rfl) (by kernel_rfl) (fun _ _ _ h => h) (Or.inl ⟨by rfl, ?_⟩) (by assumption) ?_; rotate_left; (focus ((intro wS hSw); (try dsimp only at hSw); obtain ⟨s5, s3, sg, st⟩ := hSw; (have ec := text_run_n wS _ 64 64 (d.S j) hSl st (by simp)); clear st; go_simp; (try with_reducible rfl); done)); (try simp only [Act.put, List.setIfInBounds_toArray, List.set_cons_zero, List.set_cons_succ]))
    (refine takeH (i := 16) (v := ?_) rfl (by kernel_rfl) (by kernel_rfl) (by kernel_rfl) (fun _ _ _ h => h) (Or.inl ⟨by rfl, ?_⟩) (by assumption) ?_; rotate_left; (focus ((intro wS hSw); (try dsimp only at hSw); obtain ⟨s5, s3, sg, st⟩ := hSw; (have ec := text_run_n wS _ 64 64 (d.S j) hSl st (by simp)); clear st; go_simp; (try with_reducible rfl); done)); (try simp only [Act.put, List.setIfInBounds_toArray, List.set_cons_zero, List.set_cons_succ]))
    (refine takeH (i := 17) (v := ?_) rfl (by kernel_rfl) (by kernel_rfl) (by kernel_rfl) (fun _ _ _ h => h) (Or.inl ⟨by rfl, ?_⟩) (by assumption) ?_; rotate_left; (focus ((intro wS hSw); (try dsimp only at hSw); obtain ⟨s5, s3, sg, st⟩ := hSw; (have ec := text_run_n wS _ 64 64 (d.S j) hSl st (by simp)); clear st; go_simp; (try with_reducible rfl); done)); (try simp only [Act.put, List.setIfInBounds_toArray, List.set_cons_zero, List.set_cons_succ]))
    (refine takeH (i := 18) (v := ?_) rfl (by kernel_rfl) (by kernel_rfl) (by kernel_rfl) (fun _ _ _ h => h) (Or.inl ⟨by rfl, ?_⟩) (by assumption) ?_; rotate_left; (focus ((intro wS hSw); (try dsimp only at hSw); obtain ⟨s5, s3, sg, st⟩ := hSw; (have ec := text_run_n wS _ 64 64 (d.S j) hSl st (by simp)); clear st; go_simp; (try with_reducible rfl); done)); (try simp only [Act.put, List.setIfInBounds_toArray, List.set_cons_zero, List.set_cons_succ]))
    (refine takeH (i := 19) (v := ?_) rfl (by kernel_rfl) (by kernel_rfl) (by kernel_rfl) (fun _ _ _ h => h) (Or.inl ⟨by rfl, ?_⟩) (by assumption) ?_; rotate_left; (focus ((intro wS hSw); (try dsimp only at hSw); obtain ⟨s5, s3, sg, st⟩ := hSw; (have ec := text_run_n wS _ 64 64 (d.S j) hSl st (by simp)); clear st; go_simp; (try with_reducible rfl); done)); (try simp only [Act.put, List.setIfInBounds_toArray, List.set_cons_zero, List.set_cons_succ]))
    refine wpAnyH_done (by kernel_rfl) (only_normal ?_) _
    clear hHeld
    gi_wp2
    refine ⟨(KeepsOthers.setCell _ _ _).trans (KeepsOthers.drew _), ⟨fun _ => heap_setCell_other _ _ _ _ (by simp <;> omega), fun _ => heap_setCell_other _ _ _ _ (by simp <;> omega), fun _ => heap_setCell_other _ _ _ _ (by simp <;> omega), by simp⟩, ?_⟩
    show LikeI w g c (pre ++ [(j, g9)]).length tr d _
    rw [List.length_append, ← HK.out]
    refine ⟨(heap_setCell_other _ _ _ _ (by simp <;> omega)).trans HIb.out.1, (heap_setCell_other _ _ _ _ (by simp <;> omega)).trans HIb.out.2.1, ?_, (HIb.out.2.2.2.setCell (p := ⟨w.heap.size + 1 + 1, 0, none⟩) (by simp <;> omega) _).drew⟩
    have := heap_setCell_same Wb (w.heap.size + 1 + 1) 0 _ _ (.int .i64 ((j : Int) + 1)) HIb.out.2.2.1
    exact this
end Go.Proofs.Ytfjejiapafdgeaa
