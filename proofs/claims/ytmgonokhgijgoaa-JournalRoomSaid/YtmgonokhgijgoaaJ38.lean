/- Is a disk the document's? The document's own disk: written. -/
import Derived.Test.YtmgonokhgijgoaaJ26
import Derived.Test.YtmgonokhgijgoaaJ31
import Derived.Test.YtmgonokhgijgoaaJ37
namespace Go.Proofs.Ytmgonokhgijgoaa
open Go.RowKit
attribute [local go_sem] Oper.semAt_some
set_option maxRecDepth 100000

/-- the call's own variables -/
def LikeI (w : World) (g c n : Nat) (tr : Int) (d : DiskV) (W : World) : Prop :=
  W.heap[w.heap.size]? = some (.cells (refC g c d.many (aftR d) tr d.dead d.writes).toArray 28 (0, 0)) ∧ W.heap[w.heap.size + 1]? = some (.cells #[.bool false] 4 (0, 0)) ∧
  W.heap[w.heap.size + 1 + 1]? = some (.cells #[.int .i64 n] 3 (0, 0)) ∧ Below w.heap.size w W
theorem LikeI.below {w W W' : World} {g c n b : Nat} {tr : Int} {d : DiskV} (h : LikeI w g c n tr d W) (hb : Below b W W') (hB : w.heap.size + 3 ≤ b) : LikeI w g c n tr d W' :=
  ⟨(hb.block _ (by omega)).trans h.1, (hb.block _ (by omega)).trans h.2.1, (hb.block _ (by omega)).trans h.2.2.1, h.2.2.2.trans (hb.mono (by omega))⟩
theorem wrap_small {n : Nat} (h : n ≤ 4096) : IntKind.i64.wrap ((n : Int) + 1) = (n : Int) + 1 := by
  simp [IntKind.wrap, IntKind.signed, IntKind.bits]
  omega

set_option maxHeartbeats 3000000 in
theorem code_like (w : World) (B bm nn g c : Nat) (tr : Int) (d : DiskV) (h : Dsk w B bm nn d) (hr : RefIs w g c tr d) :
    Calls Try.prog 24 #[.pointer (some ⟨B, 0, none⟩), refV g c tr d] w fun e w' => e = .returned (.bool true) ∧ Below w.heap.size w w' := by
  have HD := Lib.hid h
  have HR := Lib.hid hr
  have hm := h.2.2.1
  have hgl := hr.1.1
  obtain ⟨vv, hvv⟩ : ∃ vv, vv = refV g c tr d := ⟨_, rfl⟩
  have HV : Hid (vv = .agg (refC g c d.many (aftR d) tr d.dead d.writes).toArray) := Lib.hid (by rw [hvv]; simp [refV, refC])
  rw [HV.out] at hvv
  unfold refV
  generalize haf : aftR d = af at *
  have HAF := Lib.hid haf
  clear h hr hvv haf
  have hfn := eql_func_nil
  refine callsIn_wide.1 (callsIn_of_wp_marks (n := 0) (F := Fence.wide) Try.func24 rfl trivial (wpIn_wide.2 ?_) rfl)
  simp only [Try.ntmps24, List.size_toArray, List.length_cons, List.length_nil, Nat.reduceAdd, Nat.reduceSub, Array.replicate_succ, Array.replicate_zero, List.push_toArray, List.append_toArray, List.nil_append, List.cons_append]
  go_wp2_with (go_at_call 55; refine (code_all _ _).mono ?_; rintro e w1 ⟨rfl, rfl⟩)
  obtain ⟨W9, hW9⟩ : ∃ W9, W9 = (((w.alloc (.cells #[.slice (some ⟨g, 0, none⟩) d.many c, .int .i64 af, .int .i64 tr, .bool d.dead, .int .i64 d.writes] 28)).alloc (.cells #[.bool false] 4)).alloc (.cells #[.int .i64 0] 3)).alloc (.cells #[.pointer (some ⟨B, 0, none⟩)] 25) := ⟨_, rfl⟩
  have e1 := heap_alloc_new w (.cells #[.slice (some ⟨g, 0, none⟩) d.many c, .int .i64 af, .int .i64 tr, .bool d.dead, .int .i64 d.writes] 28)
  have e2 := heap_alloc_new (w.alloc (.cells #[.slice (some ⟨g, 0, none⟩) d.many c, .int .i64 af, .int .i64 tr, .bool d.dead, .int .i64 d.writes] 28)) (.cells #[.bool false] 4)
  have e3 := heap_alloc_new ((w.alloc (.cells #[.slice (some ⟨g, 0, none⟩) d.many c, .int .i64 af, .int .i64 tr, .bool d.dead, .int .i64 d.writes] 28)).alloc (.cells #[.bool false] 4)) (.cells #[.int .i64 0] 3)
  have e4 := heap_alloc_new (((w.alloc (.cells #[.slice (some ⟨g, 0, none⟩) d.many c, .int .i64 af, .int .i64 tr, .bool d.dead, .int .i64 d.writes] 28)).alloc (.cells #[.bool false] 4)).alloc (.cells #[.int .i64 0] 3)) (.cells #[.pointer (some ⟨B, 0, none⟩)] 25)
  simp only [World.size_alloc] at e1 e2 e3 e4
  have hB9 : Below w.heap.size w W9 := by rw [hW9]; exact ((((Below.refl _ w).alloc (Nat.le_refl _) _).alloc (by simp) _).alloc (by simp <;> omega) _).alloc (by simp <;> omega) _
  have hI9 : LikeI w g c 0 tr d W9 := by
    refine ⟨?_, ?_, ?_, hB9⟩
    · rw [HAF.out, hW9, Below.heap_alloc _ _ _ (by simp <;> omega), Below.heap_alloc _ _ _ (by simp <;> omega), Below.heap_alloc _ _ _ (by simp)]; exact e1
    · rw [hW9, Below.heap_alloc _ _ _ (by simp <;> omega), Below.heap_alloc _ _ _ (by simp)]; exact e2
    · rw [hW9, Below.heap_alloc _ _ _ (by simp)]; exact e3
  have hs9 : W9.heap[w.heap.size + 1 + 1 + 1]? = some (.cells #[.pointer (some ⟨B, 0, none⟩)] 25 (0, 0)) := by rw [hW9]; exact e4
  have hz9 : W9.heap.size = w.heap.size + 4 := by rw [hW9]; simp
  have hD9 : Dsk W9 B bm nn d := HD.out.below hB9
  have HA := Lib.hid (all_told W9 (w.heap.size + 1 + 1 + 1) B bm nn d hD9 hs9)
  have hBl := HD.out.lt
  have hbl := HD.out.2.1.lt
  rw [← hW9]
  clear hW9 e1 e2 e3 e4 hB9 hs9 hD9
  refine wp_rangeTold (gf := 80) (lb := #[.pointer (some ⟨w.heap.size + 1 + 1 + 1, 0, none⟩)]) rfl (enters_of Try.func80 (by kernel_rfl) rfl) HA.out (fun h k => h.trans k) (fun A B h => ⟨fun _ => h.block _ (by omega), fun _ => h.block _ (by omega), fun _ => h.block _ (by omega), h.size⟩) (fun _ => rfl)
    (fun pre W => LikeI w g c pre.length tr d W) (fun _ _ _ => False) (fun _ A B h hb => h.below hb (by omega)) (fun _ _ _ _ h _ => h) hI9 ?round ?done ?stop
  case stop =>
    rintro D cc pre W _ _ h _
    exact h.elim
  case done =>
    intro D xs W hD hxl hI hK
    rw [show xs.length = d.many from hxl] at hI
    have HDk0 : Dsk W B bm nn d := HD.out.below hI.2.2.2
    have HDk := Lib.hid (HDk0.below (Below.refl _ _).drew)
    have HLen : Hid (∀ V, Dsk V B bm nn d → Calls Try.prog 46 #[.pointer (some ⟨B, 0, none⟩)] V fun e V' => e = .returned (.int .i64 d.many) ∧ V = V') := Lib.hid (fun V hV => code_dlen V B bm nn d hV)
    have HDd : Hid (∀ V, Dsk V B bm nn d → Calls Try.prog 56 #[.pointer (some ⟨B, 0, none⟩)] V fun e V' => e = .returned (.bool d.dead) ∧ V = V') := Lib.hid (fun V hV => code_dead V B bm nn d hV)
    have HWr : Hid (∀ V, Dsk V B bm nn d → Calls Try.prog 25 #[.pointer (some ⟨B, 0, none⟩)] V fun e V' => e = .returned (.int .i64 d.writes) ∧ V = V') := Lib.hid (fun V hV => code_writes V B bm nn d hV)
    have q5 := cell_of_row W _ 0 _ _ _ hI.2.2.1
    have q30 := cell_of_row W _ 0 _ _ _ hI.1
    have q33 := cell_of_row W _ 3 _ _ _ hI.1
    have q34 := cell_of_row W _ 4 _ _ _ hI.1
    simp only [refC, List.getElem?_toArray, List.getElem?_cons_zero, List.getElem?_cons_succ] at q5 q30 q33 q34
    have q4 := cell_of_row W _ 0 _ _ _ hI.2.1
    have qf := frozen_of_row W _ 0 _ _ hI.2.1
    simp only [List.getElem?_toArray, List.getElem?_cons_zero] at q4
    have HI := Lib.hid hI
    have HKK := Lib.hid hK
    have Hq : Hid (W.cell? ⟨w.heap.size + 1 + 1, 0, none⟩ = some (.int .i64 d.many) ∧ W.cell? ⟨w.heap.size, 0, none⟩ = some (.slice (some ⟨g, 0, none⟩) d.many c) ∧ W.cell? ⟨w.heap.size, 3, none⟩ = some (.bool d.dead) ∧ W.cell? ⟨w.heap.size, 4, none⟩ = some (.int .i64 d.writes)) := Lib.hid ⟨q5, q30, q33, q34⟩
    clear hI hK HDk0 hxl q5 q30 q33 q34
    go_wp2
    refine wp_region_noPanic (wp_region_held_drew (S := fun W => W.cell? ⟨w.heap.size + 1 + 1, 0, none⟩ = some (.int .i64 d.many) ∧ W.cell? ⟨w.heap.size, 0, none⟩ = some (.slice (some ⟨g, 0, none⟩) d.many c) ∧ W.cell? ⟨w.heap.size, 3, none⟩ = some (.bool d.dead) ∧ W.cell? ⟨w.heap.size, 4, none⟩ = some (.int .i64 d.writes)) (by kernel_rfl) Hq.out ?_)
    intro hHeld
    (refine takeH (i := 0) (v := ?_) rfl (by kernel_rfl) (by kernel_rfl) (by kernel_rfl) (fun _ _ _ h => h) (Or.inl ⟨by rfl, ?_⟩) (by assumption) ?_; rotate_left; (focus ((intro wS hSw); (try dsimp only at hSw); obtain ⟨s5, s3, s33, s34⟩ := hSw; go_simp; (try with_reducible rfl); done)); (try simp only [Act.put, List.setIfInBounds_toArray, List.set_cons_zero, List.set_cons_succ]))
    (refine takeH (i := 1) (v := ?_) rfl (by kernel_rfl) (by kernel_rfl) (by kernel_rfl) (fun _ _ _ h => h) (Or.inl ⟨by rfl, ?_⟩) (by assumption) ?_; rotate_left; (focus ((intro wS hSw); (try dsimp only at hSw); obtain ⟨s5, s3, s33, s34⟩ := hSw; go_simp; (try with_reducible rfl); done)); (try simp only [Act.put, List.setIfInBounds_toArray, List.set_cons_zero, List.set_cons_succ]))
    (refine takeH (i := 2) (v := ?_) rfl (by kernel_rfl) (by kernel_rfl) (by kernel_rfl) (fun _ _ _ h => h) (Or.inl ⟨by rfl, ?_⟩) (by assumption) ?_; rotate_left; (focus ((intro wS hSw); (try dsimp only at hSw); obtain ⟨s5, s3, s33, s34⟩ := hSw; go_simp; (try with_reducible rfl); done)); (try simp only [Act.put, List.setIfInBounds_toArray, List.set_cons_zero, List.set_cons_succ]))
    (refine takeH (i := 3) (v := ?_) rfl (by kernel_rfl) (by kernel_rfl) (by kernel_rfl) (fun _ _ _ h => h) (Or.inl ⟨by rfl, ?_⟩) (by assumption) ?_; rotate_left; (focus ((intro wS hSw); (try dsimp only at hSw); obtain ⟨s5, s3, s33, s34⟩ := hSw; go_simp; (try with_reducible rfl); done)); (try simp only [Act.put, List.setIfInBounds_toArray, List.set_cons_zero, List.set_cons_succ]))
    (refine takeH (i := 4) (v := ?_) rfl (by kernel_rfl) (by kernel_rfl) (by kernel_rfl) (fun _ _ _ h => h) (Or.inl ⟨by rfl, ?_⟩) (by assumption) ?_; rotate_left; (focus ((intro wS hSw); (try dsimp only at hSw); obtain ⟨s5, s3, s33, s34⟩ := hSw; go_simp; (try with_reducible rfl); done)); (try simp only [Act.put, List.setIfInBounds_toArray, List.set_cons_zero, List.set_cons_succ]))
    (refine takeH (i := 5) (v := ?_) rfl (by kernel_rfl) (by kernel_rfl) (by kernel_rfl) (fun _ _ _ h => h) (Or.inl ⟨by rfl, ?_⟩) (by assumption) ?_; rotate_left; (focus ((intro wS hSw); (try dsimp only at hSw); obtain ⟨s5, s3, s33, s34⟩ := hSw; go_simp; (try with_reducible rfl); done)); (try simp only [Act.put, List.setIfInBounds_toArray, List.set_cons_zero, List.set_cons_succ]))
    (refine takeH (i := 6) (v := ?_) rfl (by kernel_rfl) (by kernel_rfl) (by kernel_rfl) (fun _ _ _ h => h) (Or.inl ⟨by rfl, ?_⟩) (by assumption) ?_; rotate_left; (focus ((intro wS hSw); (try dsimp only at hSw); obtain ⟨s5, s3, s33, s34⟩ := hSw; go_simp; (try with_reducible rfl); done)); (try simp only [Act.put, List.setIfInBounds_toArray, List.set_cons_zero, List.set_cons_succ]))
    (refine takeH (i := 8) (v := ?_) rfl (by kernel_rfl) (by kernel_rfl) (by kernel_rfl) (fun _ _ _ h => h) (Or.inl ⟨by rfl, ?_⟩) (by assumption) ?_; rotate_left; (focus ((intro wS hSw); (try dsimp only at hSw); obtain ⟨s5, s3, s33, s34⟩ := hSw; go_simp; (try with_reducible rfl); done)); (try simp only [Act.put, List.setIfInBounds_toArray, List.set_cons_zero, List.set_cons_succ]))
    (refine aloneH (i := 7) rfl (by kernel_rfl) (fun K hK => ?_); rw [if_pos (by rfl)]; go_simp; ((refine (HLen.out _ HDk.out).mono ?_); (rintro e w20 ⟨rfl, rfl⟩); (try go_simp)); refine hK.out _ _ (hHeld) (fun hNew => ?_); clear hK K hHeld; (have hHeld := hNew); clear hNew; (try simp only [Act.put, List.setIfInBounds_toArray, List.set_cons_zero, List.set_cons_succ]))
    (refine takeH (i := 9) (v := ?_) rfl (by kernel_rfl) (by kernel_rfl) (by kernel_rfl) (fun _ _ _ h => h) (Or.inl ⟨by rfl, ?_⟩) (by assumption) ?_; rotate_left; (focus ((intro wS hSw); (try dsimp only at hSw); obtain ⟨s5, s3, s33, s34⟩ := hSw; go_simp; (try with_reducible rfl); done)); (try simp only [Act.put, List.setIfInBounds_toArray, List.set_cons_zero, List.set_cons_succ]))
    (refine takeH (i := 10) (v := ?_) rfl (by kernel_rfl) (by kernel_rfl) (by kernel_rfl) (fun _ _ _ h => h) (Or.inl ⟨by rfl, ?_⟩) (by assumption) ?_; rotate_left; (focus ((intro wS hSw); (try dsimp only at hSw); obtain ⟨s5, s3, s33, s34⟩ := hSw; go_simp; (try with_reducible rfl); done)); (try simp only [Act.put, List.setIfInBounds_toArray, List.set_cons_zero, List.set_cons_succ]))
    (refine takeH (i := 11) (v := ?_) rfl (by kernel_rfl) (by kernel_rfl) (by kernel_rfl) (fun _ _ _ h => h) (Or.inl ⟨by rfl, ?_⟩) (by assumption) ?_; rotate_left; (focus ((intro wS hSw); (try dsimp only at hSw); obtain ⟨s5, s3, s33, s34⟩ := hSw; go_simp; (try with_reducible rfl); done)); (try simp only [Act.put, List.setIfInBounds_toArray, List.set_cons_zero, List.set_cons_succ]))
    (refine takeH (i := 12) (v := ?_) rfl (by kernel_rfl) (by kernel_rfl) (by kernel_rfl) (fun _ _ _ h => h) (Or.inl ⟨by rfl, ?_⟩) (by assumption) ?_; rotate_left; (focus ((intro wS hSw); (try dsimp only at hSw); obtain ⟨s5, s3, s33, s34⟩ := hSw; go_simp; (try with_reducible rfl); done)); (try simp only [Act.put, List.setIfInBounds_toArray, List.set_cons_zero, List.set_cons_succ]))
    (refine takeH (i := 14) (v := ?_) rfl (by kernel_rfl) (by kernel_rfl) (by kernel_rfl) (fun _ _ _ h => h) (Or.inl ⟨by rfl, ?_⟩) (by assumption) ?_; rotate_left; (focus ((intro wS hSw); (try dsimp only at hSw); obtain ⟨s5, s3, s33, s34⟩ := hSw; go_simp; (try with_reducible rfl); done)); (try simp only [Act.put, List.setIfInBounds_toArray, List.set_cons_zero, List.set_cons_succ]))
    (refine takeH (i := 15) (v := ?_) rfl (by kernel_rfl) (by kernel_rfl) (by kernel_rfl) (fun _ _ _ h => h) (Or.inl ⟨by rfl, ?_⟩) (by assumption) ?_; rotate_left; (focus ((intro wS hSw); (try dsimp only at hSw); obtain ⟨s5, s3, s33, s34⟩ := hSw; go_simp; (try with_reducible rfl); done)); (try simp only [Act.put, List.setIfInBounds_toArray, List.set_cons_zero, List.set_cons_succ]))
    (refine aloneH (i := 13) rfl (by kernel_rfl) (fun K hK => ?_); rw [if_pos (by rfl)]; go_simp; ((refine (HDd.out _ HDk.out).mono ?_); (rintro e w21 ⟨rfl, rfl⟩); (try go_simp)); refine hK.out _ _ (hHeld) (fun hNew => ?_); clear hK K hHeld; (have hHeld := hNew); clear hNew; (try simp only [Act.put, List.setIfInBounds_toArray, List.set_cons_zero, List.set_cons_succ]))
    (refine takeH (i := 16) (v := ?_) rfl (by kernel_rfl) (by kernel_rfl) (by kernel_rfl) (fun _ _ _ h => h) (Or.inl ⟨by rfl, ?_⟩) (by assumption) ?_; rotate_left; (focus ((intro wS hSw); (try dsimp only at hSw); obtain ⟨s5, s3, s33, s34⟩ := hSw; go_simp; (try with_reducible rfl); done)); (try simp only [Act.put, List.setIfInBounds_toArray, List.set_cons_zero, List.set_cons_succ]))
    (refine takeH (i := 17) (v := ?_) rfl (by kernel_rfl) (by kernel_rfl) (by kernel_rfl) (fun _ _ _ h => h) (Or.inl ⟨by rfl, ?_⟩) (by assumption) ?_; rotate_left; (focus ((intro wS hSw); (try dsimp only at hSw); obtain ⟨s5, s3, s33, s34⟩ := hSw; go_simp; (try with_reducible rfl); done)); (try simp only [Act.put, List.setIfInBounds_toArray, List.set_cons_zero, List.set_cons_succ]))
    (refine takeH (i := 18) (v := ?_) rfl (by kernel_rfl) (by kernel_rfl) (by kernel_rfl) (fun _ _ _ h => h) (Or.inl ⟨by rfl, ?_⟩) (by assumption) ?_; rotate_left; (focus ((intro wS hSw); (try dsimp only at hSw); obtain ⟨s5, s3, s33, s34⟩ := hSw; go_simp; (try with_reducible rfl); done)); (try simp only [Act.put, List.setIfInBounds_toArray, List.set_cons_zero, List.set_cons_succ]))
    (refine takeH (i := 19) (v := ?_) rfl (by kernel_rfl) (by kernel_rfl) (by kernel_rfl) (fun _ _ _ h => h) (Or.inl ⟨by rfl, ?_⟩) (by assumption) ?_; rotate_left; (focus ((intro wS hSw); (try dsimp only at hSw); obtain ⟨s5, s3, s33, s34⟩ := hSw; go_simp; (try with_reducible rfl); done)); (try simp only [Act.put, List.setIfInBounds_toArray, List.set_cons_zero, List.set_cons_succ]))
    (refine takeH (i := 21) (v := ?_) rfl (by kernel_rfl) (by kernel_rfl) (by kernel_rfl) (fun _ _ _ h => h) (Or.inl ⟨by rfl, ?_⟩) (by assumption) ?_; rotate_left; (focus ((intro wS hSw); (try dsimp only at hSw); obtain ⟨s5, s3, s33, s34⟩ := hSw; go_simp; (try with_reducible rfl); done)); (try simp only [Act.put, List.setIfInBounds_toArray, List.set_cons_zero, List.set_cons_succ]))
    (refine takeH (i := 22) (v := ?_) rfl (by kernel_rfl) (by kernel_rfl) (by kernel_rfl) (fun _ _ _ h => h) (Or.inl ⟨by rfl, ?_⟩) (by assumption) ?_; rotate_left; (focus ((intro wS hSw); (try dsimp only at hSw); obtain ⟨s5, s3, s33, s34⟩ := hSw; go_simp; (try with_reducible rfl); done)); (try simp only [Act.put, List.setIfInBounds_toArray, List.set_cons_zero, List.set_cons_succ]))
    (refine aloneH (i := 20) rfl (by kernel_rfl) (fun K hK => ?_); rw [if_pos (by rfl)]; go_simp; ((refine (HWr.out _ HDk.out).mono ?_); (rintro e w22 ⟨rfl, rfl⟩); (try go_simp)); refine hK.out _ _ (hHeld) (fun hNew => ?_); clear hK K hHeld; (have hHeld := hNew); clear hNew; (try simp only [Act.put, List.setIfInBounds_toArray, List.set_cons_zero, List.set_cons_succ]))
    (refine takeH (i := 23) (v := ?_) rfl (by kernel_rfl) (by kernel_rfl) (by kernel_rfl) (fun _ _ _ h => h) (Or.inl ⟨by rfl, ?_⟩) (by assumption) ?_; rotate_left; (focus ((intro wS hSw); (try dsimp only at hSw); obtain ⟨s5, s3, s33, s34⟩ := hSw; go_simp; (try with_reducible rfl); done)); (try simp only [Act.put, List.setIfInBounds_toArray, List.set_cons_zero, List.set_cons_succ]))
    (refine takeH (i := 24) (v := ?_) rfl (by kernel_rfl) (by kernel_rfl) (by kernel_rfl) (fun _ _ _ h => h) (Or.inl ⟨by rfl, ?_⟩) (by assumption) ?_; rotate_left; (focus ((intro wS hSw); (try dsimp only at hSw); obtain ⟨s5, s3, s33, s34⟩ := hSw; go_simp; (try with_reducible rfl); done)); (try simp only [Act.put, List.setIfInBounds_toArray, List.set_cons_zero, List.set_cons_succ]))
    (refine aloneH (i := 25) rfl (by kernel_rfl) (fun K hK => ?_); rw [if_pos (by rfl)]; go_simp; refine hK.out _ _ ⟨(World.cell?_of_block (heap_setCell_other _ _ _ _ (by simp <;> omega))).trans hHeld.1, (World.cell?_of_block (heap_setCell_other _ _ _ _ (by simp <;> omega))).trans hHeld.2.1, (World.cell?_of_block (heap_setCell_other _ _ _ _ (by simp <;> omega))).trans hHeld.2.2.1, (World.cell?_of_block (heap_setCell_other _ _ _ _ (by simp <;> omega))).trans hHeld.2.2.2⟩ (fun hNew => ?_); clear hK K hHeld hNew; (try simp only [Act.put]))
    refine wpAnyH_done (by kernel_rfl) (NoPanic.normal ?_) _
    have hD4 : w.heap.size + 1 ≠ D := by omega
    go_wp2
    have hkk : (W.setCell ⟨w.heap.size + 1, 0, none⟩ (.bool true)).drew.heap[D]? = some (.deferred (some [])) := (heap_setCell_other _ _ _ _ (fun e => hD4 e.symm)).trans HKK.out
    refine ⟨by simp, .inl ⟨_, _, rfl, run_takeDeferred hkk, ?_⟩⟩
    refine ⟨.bool true, results_one_cell rfl _ _ _ true rfl (by kernel_rfl) ?_, rfl, ?_⟩
    · rw [World.cell?_of_block (World.putObj_heap_other hD4)]
      exact World.cell?_setCell_same' _ _ _ (by rw [q4]; rfl)
    · exact ((HI.out.2.2.2.setCell (p := ⟨w.heap.size + 1, 0, none⟩) (by simp) _).drew).trans (put_below _ _ (by omega))
  case round =>
    intro l r pre x W hl hr hI hx
    obtain ⟨j, g9⟩ := x
    obtain ⟨hjx, hj, hxt⟩ := hx
    dsimp only at hjx hj hxt
    obtain ⟨k, hk⟩ : ∃ k, k = pre.length := ⟨_, rfl⟩
    rw [← hk] at hI
    have hjk : j = k := by rw [hjx, hk]
    subst hjk
    have HI := Lib.hid hI
    have HRr := Lib.hid hr
    have HXT := Lib.hid hxt
    have HK := Lib.hid hk
    clear hI hr hxt hjx hk
    dsimp only [encA]
    gi_wp2
    refine ⟨Below.refl _ _, fun Wb hB => ?_⟩
    have hIb := HI.out.below (hB.below (b := w.heap.size + 3) (by omega)) (Nat.le_refl _)
    have hTb := HXT.out.beg HRr.out hB
    have hSl : (d.S j).length = 64 := by obtain ⟨_, ⟨D, _, h2⟩, _⟩ := HD.out; exact (h2 j hj).2
    have hPg := (HR.out.below hIb.2.2.2).1.2 j (by rw [pagesL_len]; exact hj)
    rw [pagesL_at] at hPg
    have hj' : (j : Int) < (d.many : Int) := by omega
    have hn1 := wrap_small (n := j) (by omega)
    have hge : ¬ ((d.many : Int) ≤ (j : Int)) := by omega
    have hge2 : ¬ (d.many ≤ j) := by omega
    have q3 := cell_of_row Wb _ 0 _ _ _ hIb.1
    simp only [refC, List.getElem?_toArray, List.getElem?_cons_zero] at q3
    have q5 := cell_of_row Wb _ 0 _ _ _ hIb.2.2.1
    have qf := frozen_of_row Wb _ 0 _ _ hIb.2.2.1
    simp only [List.getElem?_toArray, List.getElem?_cons_zero] at q5
    have HIb := Lib.hid hIb
    have HTb := Lib.hid hTb
    have HPg := Lib.hid hPg
    have Hq3 := Lib.hid q3
    clear hIb hTb hB HI HRr HXT hPg q3
    gi_wp2
    refine region_in_round (S := fun W => W.cell? ⟨w.heap.size + 1 + 1, 0, none⟩ = some (.int .i64 j) ∧ W.cell? ⟨w.heap.size, 0, none⟩ = some (.slice (some ⟨g, 0, none⟩) d.many c) ∧ W.cell? ⟨g, j, none⟩ = some (.string ⟨(d.S j).toArray⟩) ∧ Txt W (some ⟨g9, 0, none⟩) (d.S j)) (by kernel_rfl) (by kernel_rfl) ⟨q5, Hq3.out, HPg.out, HTb.out.below (Below.refl _ _).drew⟩ ?_
    intro hHeld
    (refine takeH (i := 0) (v := ?_) rfl (by kernel_rfl) (by kernel_rfl) (by kernel_rfl) (fun _ _ _ h => h) (Or.inl ⟨by rfl, ?_⟩) (by assumption) ?_; rotate_left; (focus ((intro wS hSw); (try dsimp only at hSw); obtain ⟨s5, s3, sg, st⟩ := hSw; (have ec := text_run_n wS _ 64 64 (d.S j) hSl st (by simp)); clear st; go_simp; (try with_reducible rfl); done)); (try simp only [Act.put, List.setIfInBounds_toArray, List.set_cons_zero, List.set_cons_succ]))
    (refine takeH (i := 1) (v := ?_) rfl (by kernel_rfl) (by kernel_rfl) (by kernel_rfl) (fun _ _ _ h => h) (Or.inl ⟨by rfl, ?_⟩) (by assumption) ?_; rotate_left; (focus ((intro wS hSw); (try dsimp only at hSw); obtain ⟨s5, s3, sg, st⟩ := hSw; (have ec := text_run_n wS _ 64 64 (d.S j) hSl st (by simp)); clear st; go_simp; (try with_reducible rfl); done)); (try simp only [Act.put, List.setIfInBounds_toArray, List.set_cons_zero, List.set_cons_succ]))
    (refine takeH (i := 2) (v := ?_) rfl (by kernel_rfl) (by kernel_rfl) (by kernel_rfl) (fun _ _ _ h => h) (Or.inl ⟨by rfl, ?_⟩) (by assumption) ?_; rotate_left; (focus ((intro wS hSw); (try dsimp only at hSw); obtain ⟨s5, s3, sg, st⟩ := hSw; (have ec := text_run_n wS _ 64 64 (d.S j) hSl st (by simp)); clear st; go_simp; (try with_reducible rfl); done)); (try simp only [Act.put, List.setIfInBounds_toArray, List.set_cons_zero, List.set_cons_succ]))
    (refine takeH (i := 3) (v := ?_) rfl (by kernel_rfl) (by kernel_rfl) (by kernel_rfl) (fun _ _ _ h => h) (Or.inl ⟨by rfl, ?_⟩) (by assumption) ?_; rotate_left; (focus ((intro wS hSw); (try dsimp only at hSw); obtain ⟨s5, s3, sg, st⟩ := hSw; (have ec := text_run_n wS _ 64 64 (d.S j) hSl st (by simp)); clear st; go_simp; (try with_reducible rfl); done)); (try simp only [Act.put, List.setIfInBounds_toArray, List.set_cons_zero, List.set_cons_succ]))
    (refine takeH (i := 4) (v := ?_) rfl (by kernel_rfl) (by kernel_rfl) (by kernel_rfl) (fun _ _ _ h => h) (Or.inl ⟨by rfl, ?_⟩) (by assumption) ?_; rotate_left; (focus ((intro wS hSw); (try dsimp only at hSw); obtain ⟨s5, s3, sg, st⟩ := hSw; (have ec := text_run_n wS _ 64 64 (d.S j) hSl st (by simp)); clear st; go_simp; (try with_reducible rfl); done)); (try simp only [Act.put, List.setIfInBounds_toArray, List.set_cons_zero, List.set_cons_succ]))
    (refine takeH (i := 5) (v := ?_) rfl (by kernel_rfl) (by kernel_rfl) (by kernel_rfl) (fun _ _ _ h => h) (Or.inl ⟨by rfl, ?_⟩) (by assumption) ?_; rotate_left; (focus ((intro wS hSw); (try dsimp only at hSw); obtain ⟨s5, s3, sg, st⟩ := hSw; (have ec := text_run_n wS _ 64 64 (d.S j) hSl st (by simp)); clear st; go_simp; (try with_reducible rfl); done)); (try simp only [Act.put, List.setIfInBounds_toArray, List.set_cons_zero, List.set_cons_succ]))
    (refine takeH (i := 6) (v := ?_) rfl (by kernel_rfl) (by kernel_rfl) (by kernel_rfl) (fun _ _ _ h => h) (Or.inl ⟨by rfl, ?_⟩) (by assumption) ?_; rotate_left; (focus ((intro wS hSw); (try dsimp only at hSw); obtain ⟨s5, s3, sg, st⟩ := hSw; (have ec := text_run_n wS _ 64 64 (d.S j) hSl st (by simp)); clear st; go_simp; (try with_reducible rfl); done)); (try simp only [Act.put, List.setIfInBounds_toArray, List.set_cons_zero, List.set_cons_succ]))
    (refine takeH (i := 7) (v := ?_) rfl (by kernel_rfl) (by kernel_rfl) (by kernel_rfl) (fun _ _ _ h => h) (Or.inl ⟨by rfl, ?_⟩) (by assumption) ?_; rotate_left; (focus ((intro wS hSw); (try dsimp only at hSw); obtain ⟨s5, s3, sg, st⟩ := hSw; (have ec := text_run_n wS _ 64 64 (d.S j) hSl st (by simp)); clear st; go_simp; (try with_reducible rfl); done)); (try simp only [Act.put, List.setIfInBounds_toArray, List.set_cons_zero, List.set_cons_succ]))
    (refine takeH (i := 8) (v := ?_) rfl (by kernel_rfl) (by kernel_rfl) (by kernel_rfl) (fun _ _ _ h => h) (Or.inl ⟨by rfl, ?_⟩) (by assumption) ?_; rotate_left; (focus ((intro wS hSw); (try dsimp only at hSw); obtain ⟨s5, s3, sg, st⟩ := hSw; (have ec := text_run_n wS _ 64 64 (d.S j) hSl st (by simp)); clear st; go_simp; (try with_reducible rfl); done)); (try simp only [Act.put, List.setIfInBounds_toArray, List.set_cons_zero, List.set_cons_succ]))
    (refine takeH (i := 9) (v := ?_) rfl (by kernel_rfl) (by kernel_rfl) (by kernel_rfl) (fun _ _ _ h => h) (Or.inl ⟨by rfl, ?_⟩) (by assumption) ?_; rotate_left; (focus ((intro wS hSw); (try dsimp only at hSw); obtain ⟨s5, s3, sg, st⟩ := hSw; (have ec := text_run_n wS _ 64 64 (d.S j) hSl st (by simp)); clear st; go_simp; (try with_reducible rfl); done)); (try simp only [Act.put, List.setIfInBounds_toArray, List.set_cons_zero, List.set_cons_succ]))
    (refine takeH (i := 10) (v := ?_) rfl (by kernel_rfl) (by kernel_rfl) (by kernel_rfl) (fun _ _ _ h => h) (Or.inl ⟨by rfl, ?_⟩) (by assumption) ?_; rotate_left; (focus ((intro wS hSw); (try dsimp only at hSw); obtain ⟨s5, s3, sg, st⟩ := hSw; (have ec := text_run_n wS _ 64 64 (d.S j) hSl st (by simp)); clear st; go_simp; (try with_reducible rfl); done)); (try simp only [Act.put, List.setIfInBounds_toArray, List.set_cons_zero, List.set_cons_succ]))
    (refine takeH (i := 11) (v := ?_) rfl (by kernel_rfl) (by kernel_rfl) (by kernel_rfl) (fun _ _ _ h => h) (Or.inl ⟨by rfl, ?_⟩) (by assumption) ?_; rotate_left; (focus ((intro wS hSw); (try dsimp only at hSw); obtain ⟨s5, s3, sg, st⟩ := hSw; (have ec := text_run_n wS _ 64 64 (d.S j) hSl st (by simp)); clear st; go_simp; (try with_reducible rfl); done)); (try simp only [Act.put, List.setIfInBounds_toArray, List.set_cons_zero, List.set_cons_succ]))
    (refine takeH (i := 12) (v := ?_) rfl (by kernel_rfl) (by kernel_rfl) (by kernel_rfl) (fun _ _ _ h => h) (Or.inl ⟨by rfl, ?_⟩) (by assumption) ?_; rotate_left; (focus ((intro wS hSw); (try dsimp only at hSw); obtain ⟨s5, s3, sg, st⟩ := hSw; (have ec := text_run_n wS _ 64 64 (d.S j) hSl st (by simp)); clear st; go_simp; (try with_reducible rfl); done)); (try simp only [Act.put, List.setIfInBounds_toArray, List.set_cons_zero, List.set_cons_succ]))
    (refine takeH (i := 13) (v := ?_) rfl (by kernel_rfl) (by kernel_rfl) (by kernel_rfl) (fun _ _ _ h => h) (Or.inl ⟨by rfl, ?_⟩) (by assumption) ?_; rotate_left; (focus ((intro wS hSw); (try dsimp only at hSw); obtain ⟨s5, s3, sg, st⟩ := hSw; (have ec := text_run_n wS _ 64 64 (d.S j) hSl st (by simp)); clear st; go_simp; (try with_reducible rfl); done)); (try simp only [Act.put, List.setIfInBounds_toArray, List.set_cons_zero, List.set_cons_succ]))
    (refine takeH (i := 14) (v := ?_) rfl (by kernel_rfl) (by kernel_rfl) (by kernel_rfl) (fun _ _ _ h => h) (Or.inl ⟨by rfl, ?_⟩) (by assumption) ?_; rotate_left; (focus ((intro wS hSw); (try dsimp only at hSw); obtain ⟨s5, s3, sg, st⟩ := hSw; (have ec := text_run_n wS _ 64 64 (d.S j) hSl st (by simp)); clear st; go_simp; (try with_reducible rfl); done)); (try simp only [Act.put, List.setIfInBounds_toArray, List.set_cons_zero, List.set_cons_succ]))
    (refine takeH (i := 15) (v := ?_) rfl (by kernel_rfl) (by kernel_rfl) (by kernel_rfl) (fun _ _ _ h => h) (Or.inl ⟨by rfl, ?_⟩) (by assumption) ?_; rotate_left; (focus ((intro wS hSw); (try dsimp only at hSw); obtain ⟨s5, s3, sg, st⟩ := hSw; (have ec := text_run_n wS _ 64 64 (d.S j) hSl st (by simp)); clear st; go_simp; (try with_reducible rfl); done)); (try simp only [Act.put, List.setIfInBounds_toArray, List.set_cons_zero, List.set_cons_succ]))
    (refine takeH (i := 16) (v := ?_) rfl (by kernel_rfl) (by kernel_rfl) (by kernel_rfl) (fun _ _ _ h => h) (Or.inl ⟨by rfl, ?_⟩) (by assumption) ?_; rotate_left; (focus ((intro wS hSw); (try dsimp only at hSw); obtain ⟨s5, s3, sg, st⟩ := hSw; (have ec := text_run_n wS _ 64 64 (d.S j) hSl st (by simp)); clear st; go_simp; (try with_reducible rfl); done)); (try simp only [Act.put, List.setIfInBounds_toArray, List.set_cons_zero, List.set_cons_succ]))
    (refine takeH (i := 17) (v := ?_) rfl (by kernel_rfl) (by kernel_rfl) (by kernel_rfl) (fun _ _ _ h => h) (Or.inl ⟨by rfl, ?_⟩) (by assumption) ?_; rotate_left; (focus ((intro wS hSw); (try dsimp only at hSw); obtain ⟨s5, s3, sg, st⟩ := hSw; (have ec := text_run_n wS _ 64 64 (d.S j) hSl st (by simp)); clear st; go_simp; (try with_reducible rfl); done)); (try simp only [Act.put, List.setIfInBounds_toArray, List.set_cons_zero, List.set_cons_succ]))
    (refine takeH (i := 18) (v := ?_) rfl (by kernel_rfl) (by kernel_rfl) (by kernel_rfl) (fun _ _ _ h => h) (Or.inl ⟨by rfl, ?_⟩) (by assumption) ?_; rotate_left; (focus ((intro wS hSw); (try dsimp only at hSw); obtain ⟨s5, s3, sg, st⟩ := hSw; (have ec := text_run_n wS _ 64 64 (d.S j) hSl st (by simp)); clear st; go_simp; (try with_reducible rfl); done)); (try simp only [Act.put, List.setIfInBounds_toArray, List.set_cons_zero, List.set_cons_succ]))
    (refine takeH (i := 19) (v := ?_) rfl (by kernel_rfl) (by kernel_rfl) (by kernel_rfl) (fun _ _ _ h => h) (Or.inl ⟨by rfl, ?_⟩) (by assumption) ?_; rotate_left; (focus ((intro wS hSw); (try dsimp only at hSw); obtain ⟨s5, s3, sg, st⟩ := hSw; (have ec := text_run_n wS _ 64 64 (d.S j) hSl st (by simp)); clear st; go_simp; (try with_reducible rfl); done)); (try simp only [Act.put, List.setIfInBounds_toArray, List.set_cons_zero, List.set_cons_succ]))
    refine wpAnyH_done (by kernel_rfl) (only_normal ?_) _
    clear hHeld
    gi_wp2
    refine ⟨(KeepsOthers.setCell _ _ _).trans (KeepsOthers.drew _), ⟨fun _ => heap_setCell_other _ _ _ _ (by simp <;> omega), fun _ => heap_setCell_other _ _ _ _ (by simp <;> omega), fun _ => heap_setCell_other _ _ _ _ (by simp <;> omega), by simp⟩, ?_⟩
    show LikeI w g c (pre ++ [(j, g9)]).length tr d _
    rw [List.length_append, ← HK.out]
    refine ⟨(heap_setCell_other _ _ _ _ (by simp <;> omega)).trans HIb.out.1, (heap_setCell_other _ _ _ _ (by simp <;> omega)).trans HIb.out.2.1, ?_, (HIb.out.2.2.2.setCell (p := ⟨w.heap.size + 1 + 1, 0, none⟩) (by simp <;> omega) _).drew⟩
    have := heap_setCell_same Wb (w.heap.size + 1 + 1) 0 _ _ (.int .i64 ((j : Int) + 1)) HIb.out.2.2.1
    exact this
end Go.Proofs.Ytmgonokhgijgoaa

namespace Go.Proofs.Ytmgonokhgijgoaa
open Go.RowKit
set_option maxRecDepth 100000

theorem strfactS : (Try.prog.info? 9).map (fun i => (i.zero, i.size, i.bytes)) = some (some (.string {data:=#[]}), 1, 16) := by kernel_rfl
/-- a row copied -/
theorem wpList_copy_row {w : World} {ops : Array Oper} {rest : List Oper} {o : Oper} {a : Act} {Q : Exit → Act → World → Prop} (hgd : o.guard = none) (s x : Operand)
    (ho : o.op = .call { callee := .builtin .append, args := #[s, x], argTypes := #[26, 26] }) (wb : World) (hw : w = wb.alloc (.cells #[] 9)) (hs : a.eval s = .slice (some ⟨wb.heap.size, 0, none⟩) 0 0)
    (g c n : Nat) (L : List ByteArray) (hx : a.eval x = .slice (some ⟨g, 0, none⟩) n c) (hn : L.length = n) (hP : Pgs wb g L) (hL : L.length ≤ 1000) (hpos : 0 < L.length)
    (h : ∀ g' c' cur w', w'.heap[g']? = some (.cells cur 9 (0, 0)) → (∀ i (h : i < L.length), cur[i]? = some (.string L[i])) → n ≤ c' → c' ≤ maxLen → wb.heap.size ≤ g' → Below wb.heap.size wb w' → wpList Try.prog ops Q rest (a.put o.dst (.slice (some ⟨g', 0, none⟩) n c')) w') :
    wpList Try.prog ops Q (o :: rest) a w := by
  subst hw hn
  obtain ⟨i0, hi, hz0, hz1, hz2⟩ := info_parts strfactS
  have hb1 : Below wb.heap.size wb (wb.alloc (.cells #[] 9)) := (Below.refl _ _).alloc (Nat.le_refl _) _
  have hown : (wb.alloc (.cells #[] 9)).ownsRow wb.heap.size 9 1 (.slice (some ⟨wb.heap.size, 0, none⟩) 0 0) 0 [] := World.ownsRow_lit wb #[] 0 (Nat.le_refl _) (by unfold maxLen; omega) rfl
  have hP2 := hP.below hb1
  refine wpList_append_own_at (P := Try.prog) _ hgd s x 26 ho wb.heap.size 9 i0 (.string {data:=#[]}) 1 16 Try.underlying26 hi hz0 hz1 hz2 rfl (by decide) _ 0 [] hs hown ⟨g, 0, none⟩ L.length c (L.map .string) hx (by simp) ?_ ?_ (by unfold maxLen; omega) (by omega) (by simp) fun v' w' k1 k2 _ _ => ?_
  · intro j u hu
    have hj : j < L.length := by
      have := (List.getElem?_eq_some_iff.1 hu).1
      simpa using this
    have := hP2.2 j hj
    rw [List.getElem?_map, List.getElem?_eq_getElem hj] at hu
    rw [Addr.add_mid, Nat.zero_add, this]
    exact hu
  · intro u hu
    obtain ⟨c, _, rfl⟩ := List.mem_map.1 hu
    rfl
  · rcases k1.2 with ⟨_, h0⟩ | ⟨g', c', cur, rfl, hB, hh, hc, hm, _⟩
    · omega
    · have hcells : ∀ i (h : i < L.length), cur[i]? = some (.string L[i]) := fun i hi => by
        have h1 := k1.cells (g := g') rfl i (.string L[i]) (by simp [hi])
        rw [Addr.add_mid, Nat.zero_add, cell_of_row w' g' i _ _ _ hh] at h1
        exact h1
      rw [Nat.zero_add] at *
      exact h g' c' cur w' hh hcells hc hm hB (hb1.trans ⟨k2.os, k2.tape, k2.output, Nat.le_trans (by simp) k2.size, fun k hk => k2.block k (by simp; omega) (fun e => by simp [Value.ownBlock] at e; omega)⟩)

theorem set_struct5 {w : World} {b : Nat} {x0 x1 x2 x3 x4 : Value} {t : TypeId} (h : w.heap[b]? = some (.cells #[x0, x1, x2, x3, x4] t (0, 0))) (v0 v1 v2 v3 v4 : Value) :
    (((((w.setCell ⟨b, 0, none⟩ v0).setCell ⟨b, 1, none⟩ v1).setCell ⟨b, 2, none⟩ v2).setCell ⟨b, 3, none⟩ v3).setCell ⟨b, 4, none⟩ v4).heap[b]? = some (.cells #[v0, v1, v2, v3, v4] t (0, 0)) := by
  have h0 : (w.setCell ⟨b, 0, none⟩ v0).heap[b]? = some (.cells #[v0, x1, x2, x3, x4] t (0, 0)) := heap_setCell_same w b 0 _ _ v0 h
  have h1 : ((w.setCell ⟨b, 0, none⟩ v0).setCell ⟨b, 1, none⟩ v1).heap[b]? = some (.cells #[v0, v1, x2, x3, x4] t (0, 0)) := heap_setCell_same _ b 1 _ _ v1 h0
  have h2 : (((w.setCell ⟨b, 0, none⟩ v0).setCell ⟨b, 1, none⟩ v1).setCell ⟨b, 2, none⟩ v2).heap[b]? = some (.cells #[v0, v1, v2, x3, x4] t (0, 0)) := heap_setCell_same _ b 2 _ _ v2 h1
  have h3 : ((((w.setCell ⟨b, 0, none⟩ v0).setCell ⟨b, 1, none⟩ v1).setCell ⟨b, 2, none⟩ v2).setCell ⟨b, 3, none⟩ v3).heap[b]? = some (.cells #[v0, v1, v2, v3, x4] t (0, 0)) := heap_setCell_same _ b 3 _ _ v3 h2
  exact heap_setCell_same _ b 4 _ _ v4 h3
theorem set_below5 {w w1 : World} {b : Nat} (hb : Below w.heap.size w w1) (hB : w.heap.size ≤ b) (v0 v1 v2 v3 v4 : Value) :
    Below w.heap.size w (((((w1.setCell ⟨b, 0, none⟩ v0).setCell ⟨b, 1, none⟩ v1).setCell ⟨b, 2, none⟩ v2).setCell ⟨b, 3, none⟩ v3).setCell ⟨b, 4, none⟩ v4) :=
  ((((hb.setCell (p := ⟨b, 0, none⟩) hB _).setCell (p := ⟨b, 1, none⟩) hB _).setCell (p := ⟨b, 2, none⟩) hB _).setCell (p := ⟨b, 3, none⟩) hB _).setCell (p := ⟨b, 4, none⟩) hB _
theorem RefIs.set5 {w : World} {g c b : Nat} {tr : Int} {d : DiskV} (h : RefIs w g c tr d) (hne : g ≠ b) (v0 v1 v2 v3 v4 : Value) :
    RefIs (((((w.setCell ⟨b, 0, none⟩ v0).setCell ⟨b, 1, none⟩ v1).setCell ⟨b, 2, none⟩ v2).setCell ⟨b, 3, none⟩ v3).setCell ⟨b, 4, none⟩ v4) g c tr d := by
  refine ⟨⟨by simpa using h.1.1, fun i hi => ?_⟩, h.2⟩
  have := h.1.2 i hi
  exact (World.cell?_of_block (by rw [heap_setCell_other _ _ _ _ hne, heap_setCell_other _ _ _ _ hne, heap_setCell_other _ _ _ _ hne, heap_setCell_other _ _ _ _ hne, heap_setCell_other _ _ _ _ hne])).trans this
/-- what a write of the document's leaves -/
def WroteR (w : World) (d' : DiskV) (v : Int) (e : Ending) (w' : World) : Prop := ∃ g c tr, e = .returned (.tuple #[refV g c tr d', .int .i64 v]) ∧ RefIs w' g c tr d' ∧ Below w.heap.size w w'
set_option maxHeartbeats 2000000 in
theorem ref_write_no (w : World) (g c : Nat) (tr : Int) (d : DiskV) (i : Int) (s : ByteArray) (h : RefIs w g c tr d) (hno : reachV d i ≠ 0 ∨ (reachV d i = 0 ∧ s.size ≠ 64)) (v : Int) (hv : v = if reachV d i ≠ 0 then reachV d i else 2) :
    Calls Try.prog 44 #[refV g c tr d, .int .i64 i, .string s] w (WroteR w d v) := by
  have HE : Hid (Value.agg (refC g c d.many (aftR d) tr d.dead d.writes).toArray = refV g c tr d) := Lib.hid (by simp [refC, refV])
  obtain ⟨w0, hw0⟩ : ∃ w0, w0 = (w.alloc (.cells (refC g c d.many (aftR d) tr d.dead d.writes).toArray 28)).alloc (.cells #[.slice none 0 0, .int .i64 0, .int .i64 0, .bool false, .int .i64 0] 28) := ⟨_, rfl⟩
  have hb0 : Below w.heap.size w w0 := by rw [hw0]; exact ((Below.refl _ w).alloc (Nat.le_refl _) _).alloc (by simp) _
  have hx3 : w0.heap[w.heap.size]? = some (.cells (refC g c d.many (aftR d) tr d.dead d.writes).toArray 28 (0, 0)) := by rw [hw0, Below.heap_alloc _ _ _ (by simp)]; exact heap_alloc_new w _
  have hx6 : w0.heap[w.heap.size + 1]? = some (.cells #[.slice none 0 0, .int .i64 0, .int .i64 0, .bool false, .int .i64 0] 28 (0, 0)) := by
    rw [hw0]
    have := heap_alloc_new (w.alloc (.cells (refC g c d.many (aftR d) tr d.dead d.writes).toArray 28)) (.cells #[.slice none 0 0, .int .i64 0, .int .i64 0, .bool false, .int .i64 0] 28)
    rwa [World.size_alloc] at this
  have hsz : w0.heap.size = w.heap.size + 2 := by rw [hw0]; simp
  have HR : Hid (Calls Try.prog 67 #[refV g c tr d, .int .i64 i] w0 fun e w' => e = .returned (.tuple #[.string (readS d i), .int .i64 (reachV d i)]) ∧ (w'.heap[w.heap.size]? = some (.cells (refC g c d.many (aftR d) tr d.dead d.writes).toArray 28 (0, 0)) ∧
      w'.heap[w.heap.size + 1]? = some (.cells #[.slice none 0 0, .int .i64 0, .int .i64 0, .bool false, .int .i64 0] 28 (0, 0)) ∧ RefIs w' g c tr d ∧ Below w.heap.size w w')) := Lib.hid ((ref_read w0 g c tr d i (h.below hb0)).mono fun e w' ⟨q1, q2⟩ =>
        ⟨q1, (q2.block _ (by omega)).trans hx3, (q2.block _ (by omega)).trans hx6, (h.below hb0).below q2, hb0.trans (q2.mono (by omega))⟩)
  have HG : Hid (g ≠ w.heap.size + 1) := Lib.hid (by have := h.1.1; omega)
  unfold refV at HR ⊢
  rw [hw0] at HR
  generalize hr : reachV d i = r at *
  generalize readS d i = rs at *
  have HV : Hid (v = if r ≠ 0 then r else 2) := Lib.hid hv
  clear h hw0 hb0 hx3 hx6 hsz hv hr
  generalize haf : aftR d = af at *
  have HAF := Lib.hid haf
  clear haf
  rcases hno with h1 | ⟨rfl, h1⟩
  · have hb : (r == 0) = false := by simpa using h1
    have HV1 : Hid (v = r) := Lib.hid (by rw [HV.out, if_pos h1])
    clear h1
    go_enter Try.func44, Try.ntmps44
    go_wp2_with (go_at_call 67; refine HR.out.mono ?_; rintro e w1 ⟨rfl, hx3, hx6, hri, hb1⟩; have c0 := cell_of_row w1 _ 0 _ _ _ hx3; have c1 := cell_of_row w1 _ 1 _ _ _ hx3; have c2 := cell_of_row w1 _ 2 _ _ _ hx3; have c3 := cell_of_row w1 _ 3 _ _ _ hx3; have c4 := cell_of_row w1 _ 4 _ _ _ hx3; simp only [refC, List.getElem?_toArray, List.getElem?_cons_zero, List.getElem?_cons_succ] at c0 c1 c2 c3 c4; have d0 := cell_of_row w1 _ 0 _ _ _ hx6; have d1 := cell_of_row w1 _ 1 _ _ _ hx6; have d2 := cell_of_row w1 _ 2 _ _ _ hx6; have d3 := cell_of_row w1 _ 3 _ _ _ hx6; have d4 := cell_of_row w1 _ 4 _ _ _ hx6; simp only [List.getElem?_toArray, List.getElem?_cons_zero, List.getElem?_cons_succ] at d0 d1 d2 d3 d4; have f0 := frozen_of_row w1 _ 0 _ _ hx6; have f1 := frozen_of_row w1 _ 1 _ _ hx6; have f2 := frozen_of_row w1 _ 2 _ _ hx6; have f3 := frozen_of_row w1 _ 3 _ _ hx6; have f4 := frozen_of_row w1 _ 4 _ _ hx6; have HX6 := Lib.hid hx6; have HRI := Lib.hid hri; have HB1 := Lib.hid hb1; clear hx3 hx6 hri hb1)
    have hx := set_struct5 HX6.out (.slice (some ⟨g, 0, none⟩) d.many c) (.int .i64 af) (.int .i64 tr) (.bool d.dead) (.int .i64 d.writes)
    have hbb := set_below5 HB1.out (b := w.heap.size + 1) (by omega) (.slice (some ⟨g, 0, none⟩) d.many c) (.int .i64 af) (.int .i64 tr) (.bool d.dead) (.int .i64 d.writes)
    refine bodyPost_ret (results_cell_of2 rfl _ _ (w.heap.size + 1) _ _ rfl rfl (load_ref _ _ (refC g c d.many af tr d.dead d.writes) rfl _ _ hx)) rfl ⟨g, c, tr, ?_, HRI.out.set5 HG.out _ _ _ _ _, hbb⟩
    rw [HE.out, HV1.out]; rfl
  · have hb : ((s.size : Int) != 64) = true := by simp; omega
    have HV1 : Hid (v = 2) := Lib.hid (by rw [HV.out, if_neg (by omega)])
    have h1' : ¬ ((s.size : Int) = 64) := by omega
    clear h1
    go_enter Try.func44, Try.ntmps44
    go_wp2_with (go_at_call 67; refine HR.out.mono ?_; rintro e w1 ⟨rfl, hx3, hx6, hri, hb1⟩; have c0 := cell_of_row w1 _ 0 _ _ _ hx3; have c1 := cell_of_row w1 _ 1 _ _ _ hx3; have c2 := cell_of_row w1 _ 2 _ _ _ hx3; have c3 := cell_of_row w1 _ 3 _ _ _ hx3; have c4 := cell_of_row w1 _ 4 _ _ _ hx3; simp only [refC, List.getElem?_toArray, List.getElem?_cons_zero, List.getElem?_cons_succ] at c0 c1 c2 c3 c4; have d0 := cell_of_row w1 _ 0 _ _ _ hx6; have d1 := cell_of_row w1 _ 1 _ _ _ hx6; have d2 := cell_of_row w1 _ 2 _ _ _ hx6; have d3 := cell_of_row w1 _ 3 _ _ _ hx6; have d4 := cell_of_row w1 _ 4 _ _ _ hx6; simp only [List.getElem?_toArray, List.getElem?_cons_zero, List.getElem?_cons_succ] at d0 d1 d2 d3 d4; have f0 := frozen_of_row w1 _ 0 _ _ hx6; have f1 := frozen_of_row w1 _ 1 _ _ hx6; have f2 := frozen_of_row w1 _ 2 _ _ hx6; have f3 := frozen_of_row w1 _ 3 _ _ hx6; have f4 := frozen_of_row w1 _ 4 _ _ hx6; have HX6 := Lib.hid hx6; have HRI := Lib.hid hri; have HB1 := Lib.hid hb1; clear hx3 hx6 hri hb1)
    have hx := set_struct5 HX6.out (.slice (some ⟨g, 0, none⟩) d.many c) (.int .i64 af) (.int .i64 tr) (.bool d.dead) (.int .i64 d.writes)
    have hbb := set_below5 HB1.out (b := w.heap.size + 1) (by omega) (.slice (some ⟨g, 0, none⟩) d.many c) (.int .i64 af) (.int .i64 tr) (.bool d.dead) (.int .i64 d.writes)
    refine bodyPost_ret (results_cell_of2 rfl _ _ (w.heap.size + 1) _ _ rfl rfl (load_ref _ _ (refC g c d.many af tr d.dead d.writes) rfl _ _ hx)) rfl ⟨g, c, tr, ?_, HRI.out.set5 HG.out _ _ _ _ _, hbb⟩
    rw [HE.out, HV1.out]; rfl
end Go.Proofs.Ytmgonokhgijgoaa
