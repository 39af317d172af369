/- The document's reading of a head. -/
import Derived.Test.YtfjejiapafdgeaaJ22
import Derived.Test.YtfjejiapafdgeaaJ15
import Derived.Deep.Cut
namespace Go.Proofs.Ytfjejiapafdgeaa
open Go.RowKit
set_option maxRecDepth 100000

theorem headR_und : ∃ fs, Try.prog.underlying 112 = some (.struct fs) := ⟨_, Try.underlying112⟩
set_option maxHeartbeats 2000000 in
theorem ref_begin_no (l : Text) (A : Option Addr) (c : Nat) (w : World) (hT : Txt w A l) (hl : l.length = 64) (hc : 64 ≤ c) (hh : headOk (seqB l) (lenB l) = false) :
    Calls Try.prog 75 #[.slice A l.length c] w fun e w' => e = .returned (beginV l) ∧ Below w.heap.size w w' := by
  obtain ⟨b, o, rfl, hb, hr⟩ := txt_mid hT (by intro e; subst e; simp at hl)
  have hlb : l.length = 64 := hl
  obtain ⟨X1, hX1⟩ : ∃ X, X = numT ((l.drop 5).take 8) := ⟨_, rfl⟩
  obtain ⟨X2, hX2⟩ : ∃ X, X = lenB l := ⟨_, rfl⟩
  obtain ⟨X3, hX3⟩ : ∃ X, X = sumB l := ⟨_, rfl⟩
  obtain ⟨Z1, hZ1⟩ : ∃ Z, Z = seqB l := ⟨_, rfl⟩
  have j1 : IntKind.i64.wrap (X1 : Int) = Z1 := by rw [hX1, hZ1]; rfl
  have b2 : X2 < 4294967296 := by rw [hX2]; exact num4 _
  have b3 : X3 < 4294967296 := by rw [hX3]; exact num4 _
  have j2 : IntKind.i64.wrap (X2 : Int) = (X2 : Int) := by rw [IntKind.wrap_i64]; omega
  have j4 : IntKind.i64.wrap (X3 : Int) = (X3 : Int) := by rw [IntKind.wrap_i64]; omega
  have j3 : IntKind.u32.wrap (X3 : Int) = (X3 : Int) := by rw [IntKind.wrap_u32]; omega
  have k13 : (13 : Int) ≤ (c : Int) := by omega
  have k17 : (17 : Int) ≤ (c : Int) := by omega
  have k21 : (21 : Int) ≤ (c : Int) := by omega
  have n5 : ¬ c = 5 := by omega
  have n13 : ¬ c = 13 := by omega
  have n17 : ¬ c = 17 := by omega
  have HV : Hid (beginV l = .tuple #[headV 0 0 0, .bool false]) := Lib.hid (by unfold beginV isB; rw [hh]; simp)
  have HH : Hid (∀ W, Calls Try.prog 58 #[headV Z1 X2 X3] W fun e w' => e = .returned (.bool false) ∧ Below W.heap.size W w') := Lib.hid (fun W => by have := ref_right Z1 X2 X3 W; rwa [hZ1, hX2, hh, ← hZ1, ← hX2] at this)
  unfold headV at HH
  clear hh
  have HN1 : Hid (∀ W, Txt W (some ⟨b, o, none⟩) l → Calls Try.prog 90 #[.slice (some ⟨b, o + 5, none⟩) 8 (c - 5)] W fun e w' => e = .returned (.int .i64 Z1) ∧ W = w') := Lib.hid (fun W h => by
    have h2 := (h.drop 5).take 8
    rw [Addr.add_mid] at h2
    have := ref_number _ _ (c - 5) W (by simp; omega) h2
    rw [show ((l.drop 5).take 8).length = 8 by simp [hlb], ← hX1, j1] at this
    exact this)
  have HN2 : Hid (∀ W, Txt W (some ⟨b, o, none⟩) l → Calls Try.prog 90 #[.slice (some ⟨b, o + 13, none⟩) 4 (c - 13)] W fun e w' => e = .returned (.int .i64 X2) ∧ W = w') := Lib.hid (fun W h => by
    have h2 := (h.drop 13).take 4
    rw [Addr.add_mid] at h2
    have := ref_number _ _ (c - 13) W (by simp; omega) h2
    rw [show ((l.drop 13).take 4).length = 4 by simp [hlb], show numT ((l.drop 13).take 4) = X2 from hX2.symm, j2] at this
    exact this)
  have HN3 : Hid (∀ W, Txt W (some ⟨b, o, none⟩) l → Calls Try.prog 90 #[.slice (some ⟨b, o + 17, none⟩) 4 (c - 17)] W fun e w' => e = .returned (.int .i64 X3) ∧ W = w') := Lib.hid (fun W h => by
    have h2 := (h.drop 17).take 4
    rw [Addr.add_mid] at h2
    have := ref_number _ _ (c - 17) W (by simp; omega) h2
    rw [show ((l.drop 17).take 4).length = 4 by simp [hlb], show numT ((l.drop 17).take 4) = X3 from hX3.symm, j4] at this
    exact this)
  have HL := Lib.hid hlb
  have HRW : Hid ((w.alloc (headO' 0 0 0)).rangeAt b o (l.map cellOf)) := Lib.hid (range_on (below_alloc w _) hr)
  have HBW : Hid (Below w.heap.size w (w.alloc (headO' 0 0 0))) := Lib.hid (below_alloc w _)
  have HZH : Hid ((w.alloc (headO' 0 0 0)).heap[w.heap.size]? = some (headO' 0 0 0)) := Lib.hid (heap_alloc_new w _)
  rw [hl]
  clear hT hl hlb hr hX1 hX2 hX3 hZ1 hc b2 b3
  unfold headO' at HBW HZH HRW
  go_enter Try.func75, Try.ntmps75
  go_wp2
  generalize (w.alloc (.cells #[.int .i64 0, .int .i64 0, .int .u32 0] 112)) = wb at HBW HZH HRW ⊢
  have HLT : Hid (b < wb.drew.heap.size) := Lib.hid (Nat.lt_of_lt_of_le hb HBW.out.size)
  go_cut [4] from 5 (fun s4 wx => ∃ g, s4 = .pointer (some ⟨g, 0, none⟩) ∧ Hid (wx.heap[g]? = some (headO' Z1 X2 X3)) ∧ Hid (Below wb.heap.size wb wx))
  case first =>
    refine wp_region_held_drew (S := fun W => W.rangeAt b o (l.map cellOf)) (by kernel_rfl) (range_on (below_drew wb) HRW.out) ?_
    intro hHeld
    have HBB := Lib.hid (below_drew wb)
    generalize wb.drew = w0 at HLT HBB hHeld ⊢
    (refine takeH (i := 0) (v := ?_) rfl (by kernel_rfl) (by kernel_rfl) (by kernel_rfl) (fun _ _ _ h => h) (Or.inl ⟨by rfl, ?_⟩) (by assumption) ?_; rotate_left; (focus ((intro wS hSw); (try dsimp only at hSw); have s0 := hSw; go_simp; (try with_reducible rfl); done)); (try simp only [Act.put, List.setIfInBounds_toArray, List.set_cons_zero, List.set_cons_succ]))
    (refine takeH (i := 1) (v := ?_) rfl (by kernel_rfl) (by kernel_rfl) (by kernel_rfl) (fun _ _ _ h => h) (Or.inl ⟨by rfl, ?_⟩) (by assumption) ?_; rotate_left; (focus ((intro wS hSw); (try dsimp only at hSw); have s0 := hSw; go_simp; (try with_reducible rfl); done)); (try simp only [Act.put, List.setIfInBounds_toArray, List.set_cons_zero, List.set_cons_succ]))
    (refine takeH (i := 3) (v := ?_) rfl (by kernel_rfl) (by kernel_rfl) (by kernel_rfl) (fun _ _ _ h => h) (Or.inl ⟨by rfl, ?_⟩) (by assumption) ?_; rotate_left; (focus ((intro wS hSw); (try dsimp only at hSw); have s0 := hSw; go_simp; (try with_reducible rfl); done)); (try simp only [Act.put, List.setIfInBounds_toArray, List.set_cons_zero, List.set_cons_succ]))
    (refine takeH (i := 4) (v := ?_) rfl (by kernel_rfl) (by kernel_rfl) (by kernel_rfl) (fun _ _ _ h => h) (Or.inl ⟨by rfl, ?_⟩) (by assumption) ?_; rotate_left; (focus ((intro wS hSw); (try dsimp only at hSw); have s0 := hSw; go_simp; (try with_reducible rfl); done)); (try simp only [Act.put, List.setIfInBounds_toArray, List.set_cons_zero, List.set_cons_succ]))
    (refine takeH (i := 6) (v := ?_) rfl (by kernel_rfl) (by kernel_rfl) (by kernel_rfl) (fun _ _ _ h => h) (Or.inl ⟨by rfl, ?_⟩) (by assumption) ?_; rotate_left; (focus ((intro wS hSw); (try dsimp only at hSw); have s0 := hSw; go_simp; (try with_reducible rfl); done)); (try simp only [Act.put, List.setIfInBounds_toArray, List.set_cons_zero, List.set_cons_succ]))
    (refine takeH (i := 7) (v := ?_) rfl (by kernel_rfl) (by kernel_rfl) (by kernel_rfl) (fun _ _ _ h => h) (Or.inl ⟨by rfl, ?_⟩) (by assumption) ?_; rotate_left; (focus ((intro wS hSw); (try dsimp only at hSw); have s0 := hSw; go_simp; (try with_reducible rfl); done)); (try simp only [Act.put, List.setIfInBounds_toArray, List.set_cons_zero, List.set_cons_succ]))
    refine twoH (i := 2) (i2 := 11) rfl rfl (by kernel_rfl) (fun K hK => ?_) (fun K hK => ?_)
    · rw [if_pos (by rfl)]
      go_simp; ((refine (HN1.out w0 (mid_txt hHeld)).mono ?_); (rintro e w1 ⟨rfl, rfl⟩); (try go_simp))
      have HB1 : Hid (Below w0.heap.size w0 w0) := Lib.hid (Below.refl _ _)
      refine hK.out _ _ (hHeld) (fun hNew => ?_)
      clear hK K hHeld; (have hHeld := hNew); clear hNew; (try simp only [Act.put, List.setIfInBounds_toArray, List.set_cons_zero, List.set_cons_succ])
      refine twoH (i := 5) (i2 := 11) rfl rfl (by kernel_rfl) (fun K hK => ?_) (fun K hK => ?_)
      · rw [if_pos (by rfl)]
        go_simp; ((refine (HN2.out w0 (mid_txt hHeld)).mono ?_); (rintro e w2 ⟨rfl, rfl⟩); (try go_simp))
        have HB2 : Hid (Below w0.heap.size w0 w0) := Lib.hid (Below.refl _ _)
        refine hK.out _ _ (hHeld) (fun hNew => ?_)
        clear hK K hHeld; (have hHeld := hNew); clear hNew; (try simp only [Act.put, List.setIfInBounds_toArray, List.set_cons_zero, List.set_cons_succ])
        refine twoH (i := 8) (i2 := 11) rfl rfl (by kernel_rfl) (fun K hK => ?_) (fun K hK => ?_)
        · rw [if_pos (by rfl)]
          go_simp; ((refine (HN3.out w0 (mid_txt hHeld)).mono ?_); (rintro e w3 ⟨rfl, rfl⟩); (try go_simp))
          have HB3 : Hid (Below w0.heap.size w0 w0) := Lib.hid (Below.refl _ _)
          refine hK.out _ _ (hHeld) (fun hNew => ?_)
          clear hK K hHeld; (have hHeld := hNew); clear hNew; (try simp only [Act.put, List.setIfInBounds_toArray, List.set_cons_zero, List.set_cons_succ])
          (refine takeH (i := 9) (v := ?_) rfl (by kernel_rfl) (by kernel_rfl) (by kernel_rfl) (fun _ _ _ h => h) (Or.inl ⟨by rfl, ?_⟩) (by assumption) ?_; rotate_left; (focus ((intro wS hSw); (try dsimp only at hSw); have s0 := hSw; go_simp; (try with_reducible rfl); done)); (try simp only [Act.put, List.setIfInBounds_toArray, List.set_cons_zero, List.set_cons_succ]))
          (refine takeH (i := 10) (v := ?_) rfl (by kernel_rfl) (by kernel_rfl) (by kernel_rfl) (fun _ _ _ h => h) (Or.inl ⟨by rfl, ?_⟩) (by assumption) ?_; rotate_left; (focus ((intro wS hSw); (try dsimp only at hSw); have s0 := hSw; go_simp; (try with_reducible rfl); done)); (try simp only [Act.put, List.setIfInBounds_toArray, List.set_cons_zero, List.set_cons_succ]))
          refine aloneH (i := 11) rfl (by kernel_rfl) (fun K hK => ?_)
          rw [if_pos (by rfl)]
          go_simp; (have HA := Lib.hid (heap_alloc_new w0 (.cells #[.int .i64 0, .int .i64 0, .int .u32 0] 112)); have HB4 := Lib.hid (below_alloc w0 (.cells #[.int .i64 0, .int .i64 0, .int .u32 0] 112)); generalize hx4 : World.alloc w0 (.cells #[.int .i64 0, .int .i64 0, .int .u32 0] 112) = w4 at HA HB4 ⊢; clear hx4)
          refine hK.out _ _ (range_on HB4.out hHeld) (fun hNew => ?_)
          clear hK K hHeld; (have hHeld := hNew); clear hNew; (try simp only [Act.put, List.setIfInBounds_toArray, List.set_cons_zero, List.set_cons_succ])
          refine aloneH (i := 12) rfl (by kernel_rfl) (fun K hK => ?_)
          rw [if_pos (by rfl)]
          have HG : Hid (w4.heap[w0.heap.size]? = some (.cells #[.int .i64 0, .int .i64 0, .int .u32 0] 112)) := Lib.hid (heap_on (below_same w4) HA.out)
          refine wp_store_row 112 (.tmp 4) (.tmp 19) rfl w0.heap.size rfl [.int .i64 Z1, .int .i64 X2, .int .u32 X3] (by kernel_rfl) (one3 _ _ _ _ _ _) rfl #[.int .i64 0, .int .i64 0, .int .u32 0] rfl _ HG.out ?_
          refine hK.out _ _ (range_setRow (Nat.ne_of_lt (Nat.lt_of_lt_of_le HLT.out (below_then (below_then HB1.out HB2.out) HB3.out).size)) hHeld) (fun hNew => ?_)
          clear hK K hHeld; (have hHeld := hNew); clear hNew; (try simp only [Act.put])
          refine wpAnyH_done (by kernel_rfl) ?_ _
          go_wp2_with fail
          go_meet
          case rel => exact ⟨w0.heap.size, rfl, Lib.hid (setRow_heap _ _ _ _ _ _ HG.out), Lib.hid (below_setRow (below_then HBB.out (below_then (below_then (below_then HB1.out HB2.out) HB3.out) HB4.out)) (Nat.le_trans HBB.out.size (below_then (below_then HB1.out HB2.out) HB3.out).size) _)⟩
        · rw [if_pos (by rfl)]
          go_simp; (have HA := Lib.hid (heap_alloc_new w0 (.cells #[.int .i64 0, .int .i64 0, .int .u32 0] 112)); have HB3 := Lib.hid (below_alloc w0 (.cells #[.int .i64 0, .int .i64 0, .int .u32 0] 112)); generalize hx3 : World.alloc w0 (.cells #[.int .i64 0, .int .i64 0, .int .u32 0] 112) = w3 at HA HB3 ⊢; clear hx3)
          refine hK.out _ _ (range_on HB3.out hHeld) (fun hNew => ?_)
          clear hK K hHeld; (have hHeld := hNew); clear hNew; (try simp only [Act.put, List.setIfInBounds_toArray, List.set_cons_zero, List.set_cons_succ])
          refine aloneH (i := 8) rfl (by kernel_rfl) (fun K hK => ?_)
          rw [if_pos (by rfl)]
          go_simp; ((refine (HN3.out w3 (mid_txt hHeld)).mono ?_); (rintro e w4 ⟨rfl, rfl⟩); (try go_simp))
          have HB4 : Hid (Below w3.heap.size w3 w3) := Lib.hid (Below.refl _ _)
          refine hK.out _ _ (hHeld) (fun hNew => ?_)
          clear hK K hHeld; (have hHeld := hNew); clear hNew; (try simp only [Act.put, List.setIfInBounds_toArray, List.set_cons_zero, List.set_cons_succ])
          (refine takeH (i := 9) (v := ?_) rfl (by kernel_rfl) (by kernel_rfl) (by kernel_rfl) (fun _ _ _ h => h) (Or.inl ⟨by rfl, ?_⟩) (by assumption) ?_; rotate_left; (focus ((intro wS hSw); (try dsimp only at hSw); have s0 := hSw; go_simp; (try with_reducible rfl); done)); (try simp only [Act.put, List.setIfInBounds_toArray, List.set_cons_zero, List.set_cons_succ]))
          (refine takeH (i := 10) (v := ?_) rfl (by kernel_rfl) (by kernel_rfl) (by kernel_rfl) (fun _ _ _ h => h) (Or.inl ⟨by rfl, ?_⟩) (by assumption) ?_; rotate_left; (focus ((intro wS hSw); (try dsimp only at hSw); have s0 := hSw; go_simp; (try with_reducible rfl); done)); (try simp only [Act.put, List.setIfInBounds_toArray, List.set_cons_zero, List.set_cons_succ]))
          refine aloneH (i := 12) rfl (by kernel_rfl) (fun K hK => ?_)
          rw [if_pos (by rfl)]
          have HG : Hid (w3.heap[w0.heap.size]? = some (.cells #[.int .i64 0, .int .i64 0, .int .u32 0] 112)) := Lib.hid (heap_on HB4.out HA.out)
          refine wp_store_row 112 (.tmp 4) (.tmp 19) rfl w0.heap.size rfl [.int .i64 Z1, .int .i64 X2, .int .u32 X3] (by kernel_rfl) (one3 _ _ _ _ _ _) rfl #[.int .i64 0, .int .i64 0, .int .u32 0] rfl _ HG.out ?_
          refine hK.out _ _ (range_setRow (Nat.ne_of_lt (Nat.lt_of_lt_of_le HLT.out (below_then HB1.out HB2.out).size)) hHeld) (fun hNew => ?_)
          clear hK K hHeld; (have hHeld := hNew); clear hNew; (try simp only [Act.put])
          refine wpAnyH_done (by kernel_rfl) ?_ _
          go_wp2_with fail
          go_meet
          case rel => exact ⟨w0.heap.size, rfl, Lib.hid (setRow_heap _ _ _ _ _ _ HG.out), Lib.hid (below_setRow (below_then HBB.out (below_then (below_then (below_then HB1.out HB2.out) HB3.out) HB4.out)) (Nat.le_trans HBB.out.size (below_then HB1.out HB2.out).size) _)⟩
      · rw [if_pos (by rfl)]
        go_simp; (have HA := Lib.hid (heap_alloc_new w0 (.cells #[.int .i64 0, .int .i64 0, .int .u32 0] 112)); have HB2 := Lib.hid (below_alloc w0 (.cells #[.int .i64 0, .int .i64 0, .int .u32 0] 112)); generalize hx2 : World.alloc w0 (.cells #[.int .i64 0, .int .i64 0, .int .u32 0] 112) = w2 at HA HB2 ⊢; clear hx2)
        refine hK.out _ _ (range_on HB2.out hHeld) (fun hNew => ?_)
        clear hK K hHeld; (have hHeld := hNew); clear hNew; (try simp only [Act.put, List.setIfInBounds_toArray, List.set_cons_zero, List.set_cons_succ])
        refine aloneH (i := 5) rfl (by kernel_rfl) (fun K hK => ?_)
        rw [if_pos (by rfl)]
        go_simp; ((refine (HN2.out w2 (mid_txt hHeld)).mono ?_); (rintro e w3 ⟨rfl, rfl⟩); (try go_simp))
        have HB3 : Hid (Below w2.heap.size w2 w2) := Lib.hid (Below.refl _ _)
        refine hK.out _ _ (hHeld) (fun hNew => ?_)
        clear hK K hHeld; (have hHeld := hNew); clear hNew; (try simp only [Act.put, List.setIfInBounds_toArray, List.set_cons_zero, List.set_cons_succ])
        refine aloneH (i := 8) rfl (by kernel_rfl) (fun K hK => ?_)
        rw [if_pos (by rfl)]
        go_simp; ((refine (HN3.out w2 (mid_txt hHeld)).mono ?_); (rintro e w4 ⟨rfl, rfl⟩); (try go_simp))
        have HB4 : Hid (Below w2.heap.size w2 w2) := Lib.hid (Below.refl _ _)
        refine hK.out _ _ (hHeld) (fun hNew => ?_)
        clear hK K hHeld; (have hHeld := hNew); clear hNew; (try simp only [Act.put, List.setIfInBounds_toArray, List.set_cons_zero, List.set_cons_succ])
        (refine takeH (i := 9) (v := ?_) rfl (by kernel_rfl) (by kernel_rfl) (by kernel_rfl) (fun _ _ _ h => h) (Or.inl ⟨by rfl, ?_⟩) (by assumption) ?_; rotate_left; (focus ((intro wS hSw); (try dsimp only at hSw); have s0 := hSw; go_simp; (try with_reducible rfl); done)); (try simp only [Act.put, List.setIfInBounds_toArray, List.set_cons_zero, List.set_cons_succ]))
        (refine takeH (i := 10) (v := ?_) rfl (by kernel_rfl) (by kernel_rfl) (by kernel_rfl) (fun _ _ _ h => h) (Or.inl ⟨by rfl, ?_⟩) (by assumption) ?_; rotate_left; (focus ((intro wS hSw); (try dsimp only at hSw); have s0 := hSw; go_simp; (try with_reducible rfl); done)); (try simp only [Act.put, List.setIfInBounds_toArray, List.set_cons_zero, List.set_cons_succ]))
        refine aloneH (i := 12) rfl (by kernel_rfl) (fun K hK => ?_)
        rw [if_pos (by rfl)]
        have HG : Hid (w2.heap[w0.heap.size]? = some (.cells #[.int .i64 0, .int .i64 0, .int .u32 0] 112)) := Lib.hid (heap_on (below_then HB3.out HB4.out) HA.out)
        refine wp_store_row 112 (.tmp 4) (.tmp 19) rfl w0.heap.size rfl [.int .i64 Z1, .int .i64 X2, .int .u32 X3] (by kernel_rfl) (one3 _ _ _ _ _ _) rfl #[.int .i64 0, .int .i64 0, .int .u32 0] rfl _ HG.out ?_
        refine hK.out _ _ (range_setRow (Nat.ne_of_lt (Nat.lt_of_lt_of_le HLT.out HB1.out.size)) hHeld) (fun hNew => ?_)
        clear hK K hHeld; (have hHeld := hNew); clear hNew; (try simp only [Act.put])
        refine wpAnyH_done (by kernel_rfl) ?_ _
        go_wp2_with fail
        go_meet
        case rel => exact ⟨w0.heap.size, rfl, Lib.hid (setRow_heap _ _ _ _ _ _ HG.out), Lib.hid (below_setRow (below_then HBB.out (below_then (below_then (below_then HB1.out HB2.out) HB3.out) HB4.out)) (Nat.le_trans HBB.out.size HB1.out.size) _)⟩
    · rw [if_pos (by rfl)]
      go_simp; (have HA := Lib.hid (heap_alloc_new w0 (.cells #[.int .i64 0, .int .i64 0, .int .u32 0] 112)); have HB1 := Lib.hid (below_alloc w0 (.cells #[.int .i64 0, .int .i64 0, .int .u32 0] 112)); generalize hx1 : World.alloc w0 (.cells #[.int .i64 0, .int .i64 0, .int .u32 0] 112) = w1 at HA HB1 ⊢; clear hx1)
      refine hK.out _ _ (range_on HB1.out hHeld) (fun hNew => ?_)
      clear hK K hHeld; (have hHeld := hNew); clear hNew; (try simp only [Act.put, List.setIfInBounds_toArray, List.set_cons_zero, List.set_cons_succ])
      refine aloneH (i := 2) rfl (by kernel_rfl) (fun K hK => ?_)
      rw [if_pos (by rfl)]
      go_simp; ((refine (HN1.out w1 (mid_txt hHeld)).mono ?_); (rintro e w2 ⟨rfl, rfl⟩); (try go_simp))
      have HB2 : Hid (Below w1.heap.size w1 w1) := Lib.hid (Below.refl _ _)
      refine hK.out _ _ (hHeld) (fun hNew => ?_)
      clear hK K hHeld; (have hHeld := hNew); clear hNew; (try simp only [Act.put, List.setIfInBounds_toArray, List.set_cons_zero, List.set_cons_succ])
      refine aloneH (i := 5) rfl (by kernel_rfl) (fun K hK => ?_)
      rw [if_pos (by rfl)]
      go_simp; ((refine (HN2.out w1 (mid_txt hHeld)).mono ?_); (rintro e w3 ⟨rfl, rfl⟩); (try go_simp))
      have HB3 : Hid (Below w1.heap.size w1 w1) := Lib.hid (Below.refl _ _)
      refine hK.out _ _ (hHeld) (fun hNew => ?_)
      clear hK K hHeld; (have hHeld := hNew); clear hNew; (try simp only [Act.put, List.setIfInBounds_toArray, List.set_cons_zero, List.set_cons_succ])
      refine aloneH (i := 8) rfl (by kernel_rfl) (fun K hK => ?_)
      rw [if_pos (by rfl)]
      go_simp; ((refine (HN3.out w1 (mid_txt hHeld)).mono ?_); (rintro e w4 ⟨rfl, rfl⟩); (try go_simp))
      have HB4 : Hid (Below w1.heap.size w1 w1) := Lib.hid (Below.refl _ _)
      refine hK.out _ _ (hHeld) (fun hNew => ?_)
      clear hK K hHeld; (have hHeld := hNew); clear hNew; (try simp only [Act.put, List.setIfInBounds_toArray, List.set_cons_zero, List.set_cons_succ])
      (refine takeH (i := 9) (v := ?_) rfl (by kernel_rfl) (by kernel_rfl) (by kernel_rfl) (fun _ _ _ h => h) (Or.inl ⟨by rfl, ?_⟩) (by assumption) ?_; rotate_left; (focus ((intro wS hSw); (try dsimp only at hSw); have s0 := hSw; go_simp; (try with_reducible rfl); done)); (try simp only [Act.put, List.setIfInBounds_toArray, List.set_cons_zero, List.set_cons_succ]))
      (refine takeH (i := 10) (v := ?_) rfl (by kernel_rfl) (by kernel_rfl) (by kernel_rfl) (fun _ _ _ h => h) (Or.inl ⟨by rfl, ?_⟩) (by assumption) ?_; rotate_left; (focus ((intro wS hSw); (try dsimp only at hSw); have s0 := hSw; go_simp; (try with_reducible rfl); done)); (try simp only [Act.put, List.setIfInBounds_toArray, List.set_cons_zero, List.set_cons_succ]))
      refine aloneH (i := 12) rfl (by kernel_rfl) (fun K hK => ?_)
      rw [if_pos (by rfl)]
      have HG : Hid (w1.heap[w0.heap.size]? = some (.cells #[.int .i64 0, .int .i64 0, .int .u32 0] 112)) := Lib.hid (heap_on (below_then (below_then HB2.out HB3.out) HB4.out) HA.out)
      refine wp_store_row 112 (.tmp 4) (.tmp 19) rfl w0.heap.size rfl [.int .i64 Z1, .int .i64 X2, .int .u32 X3] (by kernel_rfl) (one3 _ _ _ _ _ _) rfl #[.int .i64 0, .int .i64 0, .int .u32 0] rfl _ HG.out ?_
      refine hK.out _ _ (range_setRow (Nat.ne_of_lt (Nat.lt_of_lt_of_le HLT.out (below_same w0).size)) hHeld) (fun hNew => ?_)
      clear hK K hHeld; (have hHeld := hNew); clear hNew; (try simp only [Act.put])
      refine wpAnyH_done (by kernel_rfl) ?_ _
      go_wp2_with fail
      go_meet
      case rel => exact ⟨w0.heap.size, rfl, Lib.hid (setRow_heap _ _ _ _ _ _ HG.out), Lib.hid (below_setRow (below_then HBB.out (below_then (below_then (below_then HB1.out HB2.out) HB3.out) HB4.out)) (Nat.le_trans HBB.out.size (below_same w0).size) _)⟩
  case rest =>
    obtain ⟨g, rfl, HG1, HB1⟩ := hcut
    unfold headO' at HG1
    go_wp2_with fail
    have hHd := head_cells' (w := wc) HG1.out
    refine wp_region_held_drew (S := fun W => W.cell? ⟨g, 0, none⟩ = some (.int .i64 Z1) ∧ W.cell? ⟨g, 1, none⟩ = some (.int .i64 X2) ∧ W.cell? ⟨g, 2, none⟩ = some (.int .u32 X3) ∧ W.rangeAt b o (l.map cellOf)) (by kernel_rfl) ⟨hHd.1, hHd.2.1, hHd.2.2, range_on HB1.out.drew HRW.out⟩ ?_
    intro hHeld
    have HBD := Lib.hid (HBW.out.trans (HB1.out.drew.mono HBW.out.size))
    have HGD : Hid (wc.drew.heap[g]? = some (.cells #[.int .i64 Z1, .int .i64 X2, .int .u32 X3] 112)) := Lib.hid HG1.out
    have HZD : Hid (wc.drew.heap[w.heap.size]? = some (.cells #[.int .i64 0, .int .i64 0, .int .u32 0] 112)) := Lib.hid (heap_on HB1.out.drew HZH.out)
    clear HB1 HG1 hHd HBW HZH HRW HLT
    generalize wc.drew = w0 at HBD HGD HZD hHeld ⊢
    (refine takeH (i := 0) (v := ?_) rfl (by kernel_rfl) (by kernel_rfl) (by kernel_rfl) (fun _ _ _ h => h) (Or.inl ⟨by rfl, ?_⟩) (by assumption) ?_; rotate_left; (focus ((intro wS hSw); (try dsimp only at hSw); obtain ⟨s0, s1, s2, s3⟩ := hSw; go_simp; (try with_reducible rfl); done)); (try simp only [Act.put, List.setIfInBounds_toArray, List.set_cons_zero, List.set_cons_succ]))
    refine aloneH (i := 1) rfl (by kernel_rfl) (fun K hK => ?_)
    rw [if_pos (by rfl)]
    go_simp; ((refine (HH.out w0).mono ?_); (rintro e w1 ⟨rfl, hb⟩); have HB1 := Lib.hid hb; clear hb; (try go_simp))
    refine hK.out _ _ (⟨cell_on HB1.out hHeld.1, cell_on HB1.out hHeld.2.1, cell_on HB1.out hHeld.2.2.1, range_on HB1.out hHeld.2.2.2⟩) (fun hNew => ?_)
    clear hK K hHeld; (have hHeld := hNew); clear hNew; (try simp only [Act.put, List.setIfInBounds_toArray, List.set_cons_zero, List.set_cons_succ])
    (refine takeH (i := 2) (v := ?_) rfl (by kernel_rfl) (by kernel_rfl) (by kernel_rfl) (fun _ _ _ h => h) (Or.inl ⟨by rfl, ?_⟩) (by assumption) ?_; rotate_left; (focus ((intro wS hSw); (try dsimp only at hSw); obtain ⟨s0, s1, s2, s3⟩ := hSw; go_simp; (try with_reducible rfl); done)); (try simp only [Act.put, List.setIfInBounds_toArray, List.set_cons_zero, List.set_cons_succ]))
    (refine takeH (i := 3) (v := ?_) rfl (by kernel_rfl) (by kernel_rfl) (by kernel_rfl) (fun _ _ _ h => h) (Or.inl ⟨by rfl, ?_⟩) (by assumption) ?_; rotate_left; (focus ((intro wS hSw); (try dsimp only at hSw); obtain ⟨s0, s1, s2, s3⟩ := hSw; go_simp; (try with_reducible rfl); done)); (try simp only [Act.put, List.setIfInBounds_toArray, List.set_cons_zero, List.set_cons_succ]))
    (refine takeH (i := 4) (v := undef) rfl (by kernel_rfl) (by kernel_rfl) (by kernel_rfl) (fun _ _ _ h => h) (Or.inr ⟨by rfl, rfl⟩) (by assumption) ?_; (try simp only [Act.put, List.setIfInBounds_toArray, List.set_cons_zero, List.set_cons_succ]))
    (refine takeH (i := 5) (v := undef) rfl (by kernel_rfl) (by kernel_rfl) (by kernel_rfl) (fun _ _ _ h => h) (Or.inr ⟨by rfl, rfl⟩) (by assumption) ?_; (try simp only [Act.put, List.setIfInBounds_toArray, List.set_cons_zero, List.set_cons_succ]))
    (refine takeH (i := 6) (v := undef) rfl (by kernel_rfl) (by kernel_rfl) (by kernel_rfl) (fun _ _ _ h => h) (Or.inr ⟨by rfl, rfl⟩) (by assumption) ?_; (try simp only [Act.put, List.setIfInBounds_toArray, List.set_cons_zero, List.set_cons_succ]))
    (refine takeH (i := 7) (v := undef) rfl (by kernel_rfl) (by kernel_rfl) (by kernel_rfl) (fun _ _ _ h => h) (Or.inr ⟨by rfl, rfl⟩) (by assumption) ?_; (try simp only [Act.put, List.setIfInBounds_toArray, List.set_cons_zero, List.set_cons_succ]))
    (refine takeH (i := 8) (v := undef) rfl (by kernel_rfl) (by kernel_rfl) (by kernel_rfl) (fun _ _ _ h => h) (Or.inr ⟨by rfl, rfl⟩) (by assumption) ?_; (try simp only [Act.put, List.setIfInBounds_toArray, List.set_cons_zero, List.set_cons_succ]))
    (refine takeH (i := 9) (v := undef) rfl (by kernel_rfl) (by kernel_rfl) (by kernel_rfl) (fun _ _ _ h => h) (Or.inr ⟨by rfl, rfl⟩) (by assumption) ?_; (try simp only [Act.put, List.setIfInBounds_toArray, List.set_cons_zero, List.set_cons_succ]))
    (refine takeH (i := 10) (v := ?_) rfl (by kernel_rfl) (by kernel_rfl) (by kernel_rfl) (fun _ _ _ h => h) (Or.inl ⟨by rfl, ?_⟩) (by assumption) ?_; rotate_left; (focus ((intro wS hSw); (try dsimp only at hSw); obtain ⟨s0, s1, s2, s3⟩ := hSw; go_simp; (try with_reducible rfl); done)); (try simp only [Act.put, List.setIfInBounds_toArray, List.set_cons_zero, List.set_cons_succ]))
    refine wpAnyH_done (by kernel_rfl) ?_ _
    have HW3 : Hid (Below w0.heap.size w0 w1) := Lib.hid HB1.out
    have HZ3 : Hid (w1.heap[w.heap.size]? = some (.cells #[.int .i64 0, .int .i64 0, .int .u32 0] 112)) := Lib.hid (heap_on HW3.out HZD.out)
    go_wp2_with ((with_reducible refine wpList_store_row 112 (o := ⟨none, _, _, _, _, _⟩) ?a1 (.tmp 2) (.tmp 31) ?a2 w.heap.size ?a3 [.int .i64 0, .int .i64 0, .int .u32 0] ?a4 ?a5 ?a6 #[.int .i64 0, .int .i64 0, .int .u32 0] ?a7 112 ?a8 ?_); (case a1 => rfl); (case a2 => rfl); (case a3 => rfl); (case a4 => kernel_rfl); (case a5 => exact one3 _ _ _ _ _ _); (case a6 => rfl); (case a7 => rfl); (case a8 => exact HZ3.out); (try simp only [Act.put]))
    refine bodyPost_ret (results_head headR_und (by kernel_rfl) rfl _ _ w.heap.size _ _ _ (.bool false) rfl rfl _ _ (setRow_heap _ _ _ _ _ _ HZ3.out)) rfl ⟨by rw [HV.out]; rfl, ?_⟩
    exact below_setRow (HBD.out.trans (HW3.out.mono HBD.out.size)) (Nat.le_refl _) _

set_option maxHeartbeats 2000000 in
theorem ref_begin_yes (l : Text) (A : Option Addr) (c : Nat) (w : World) (hT : Txt w A l) (hl : l.length = 64) (hc : 64 ≤ c) (hh : headOk (seqB l) (lenB l) = true) :
    Calls Try.prog 75 #[.slice A l.length c] w fun e w' => e = .returned (beginV l) ∧ Below w.heap.size w w' := by
  obtain ⟨b, o, rfl, hb, hr⟩ := txt_mid hT (by intro e; subst e; simp at hl)
  have hlb : l.length = 64 := hl
  obtain ⟨X1, hX1⟩ : ∃ X, X = numT ((l.drop 5).take 8) := ⟨_, rfl⟩
  obtain ⟨X2, hX2⟩ : ∃ X, X = lenB l := ⟨_, rfl⟩
  obtain ⟨X3, hX3⟩ : ∃ X, X = sumB l := ⟨_, rfl⟩
  obtain ⟨Z1, hZ1⟩ : ∃ Z, Z = seqB l := ⟨_, rfl⟩
  have j1 : IntKind.i64.wrap (X1 : Int) = Z1 := by rw [hX1, hZ1]; rfl
  have b2 : X2 < 4294967296 := by rw [hX2]; exact num4 _
  have b3 : X3 < 4294967296 := by rw [hX3]; exact num4 _
  have j2 : IntKind.i64.wrap (X2 : Int) = (X2 : Int) := by rw [IntKind.wrap_i64]; omega
  have j4 : IntKind.i64.wrap (X3 : Int) = (X3 : Int) := by rw [IntKind.wrap_i64]; omega
  have j3 : IntKind.u32.wrap (X3 : Int) = (X3 : Int) := by rw [IntKind.wrap_u32]; omega
  have k13 : (13 : Int) ≤ (c : Int) := by omega
  have k17 : (17 : Int) ≤ (c : Int) := by omega
  have k21 : (21 : Int) ≤ (c : Int) := by omega
  have n5 : ¬ c = 5 := by omega
  have n13 : ¬ c = 13 := by omega
  have n17 : ¬ c = 17 := by omega
  obtain ⟨z, hz⟩ : ∃ z, z = headP Z1.toNat X2 X3 := ⟨_, rfl⟩
  obtain ⟨q, hq⟩ : ∃ q, decide (l = z) = !q := ⟨_, (Bool.not_not _).symm⟩
  have hz' : headP (seqB l).toNat (lenB l) (sumB l) = z := by rw [hz, hZ1, hX2, hX3]
  have HV : Hid (beginV l = if q = true then .tuple #[headV 0 0 0, .bool false] else .tuple #[headV Z1 X2 X3, .bool true]) := Lib.hid (by unfold beginV isB; rw [hh, hz', hq, hl, hZ1, hX2, hX3]; cases q <;> simp)
  have h1 : (z == l) = !q := by
    rw [← hq]
    by_cases h : l = z
    · subst h; simp
    · have h' : ¬ z = l := fun e => h e.symm
      simp [h, h']
  have h2 : (z != l) = q := by unfold bne; rw [h1, Bool.not_not]
  have HH : Hid (∀ W, Calls Try.prog 58 #[headV Z1 X2 X3] W fun e w' => e = .returned (.bool true) ∧ Below W.heap.size W w') := Lib.hid (fun W => by have := ref_right Z1 X2 X3 W; rwa [hZ1, hX2, hh, ← hZ1, ← hX2] at this)
  have HE : Hid (∀ W, Calls Try.prog 59 #[headV Z1 X2 X3] W (ToldG W z)) := Lib.hid (fun W => by
    have h0 : headOk Z1 X2 = true := by rw [hZ1, hX2]; exact hh
    have hx : seqOk Z1 = true ∧ 0 < needV X2 := by unfold headOk at h0; simpa using h0
    obtain ⟨s1, s2⟩ := (seqOk_iff Z1).1 hx.1
    obtain ⟨S, hS⟩ : ∃ S : Nat, Z1 = S := ⟨Z1.toNat, by omega⟩
    rw [hz, hS, Int.toNat_natCast]
    exact ref_first S X2 X3 W (by omega) (by omega) b3)
  unfold headV at HH HE
  clear hh hq hz hz'

  have HN1 : Hid (∀ W, Txt W (some ⟨b, o, none⟩) l → Calls Try.prog 90 #[.slice (some ⟨b, o + 5, none⟩) 8 (c - 5)] W fun e w' => e = .returned (.int .i64 Z1) ∧ W = w') := Lib.hid (fun W h => by
    have h2 := (h.drop 5).take 8
    rw [Addr.add_mid] at h2
    have := ref_number _ _ (c - 5) W (by simp; omega) h2
    rw [show ((l.drop 5).take 8).length = 8 by simp [hlb], ← hX1, j1] at this
    exact this)
  have HN2 : Hid (∀ W, Txt W (some ⟨b, o, none⟩) l → Calls Try.prog 90 #[.slice (some ⟨b, o + 13, none⟩) 4 (c - 13)] W fun e w' => e = .returned (.int .i64 X2) ∧ W = w') := Lib.hid (fun W h => by
    have h2 := (h.drop 13).take 4
    rw [Addr.add_mid] at h2
    have := ref_number _ _ (c - 13) W (by simp; omega) h2
    rw [show ((l.drop 13).take 4).length = 4 by simp [hlb], show numT ((l.drop 13).take 4) = X2 from hX2.symm, j2] at this
    exact this)
  have HN3 : Hid (∀ W, Txt W (some ⟨b, o, none⟩) l → Calls Try.prog 90 #[.slice (some ⟨b, o + 17, none⟩) 4 (c - 17)] W fun e w' => e = .returned (.int .i64 X3) ∧ W = w') := Lib.hid (fun W h => by
    have h2 := (h.drop 17).take 4
    rw [Addr.add_mid] at h2
    have := ref_number _ _ (c - 17) W (by simp; omega) h2
    rw [show ((l.drop 17).take 4).length = 4 by simp [hlb], show numT ((l.drop 17).take 4) = X3 from hX3.symm, j4] at this
    exact this)
  have HL := Lib.hid hlb
  have HRW : Hid ((w.alloc (headO' 0 0 0)).rangeAt b o (l.map cellOf)) := Lib.hid (range_on (below_alloc w _) hr)
  have HBW : Hid (Below w.heap.size w (w.alloc (headO' 0 0 0))) := Lib.hid (below_alloc w _)
  have HZH : Hid ((w.alloc (headO' 0 0 0)).heap[w.heap.size]? = some (headO' 0 0 0)) := Lib.hid (heap_alloc_new w _)
  rw [hl]
  clear hT hl hlb hr hX1 hX2 hX3 hZ1 hc b2 b3
  unfold headO' at HBW HZH HRW
  go_enter Try.func75, Try.ntmps75
  go_wp2
  generalize (w.alloc (.cells #[.int .i64 0, .int .i64 0, .int .u32 0] 112)) = wb at HBW HZH HRW ⊢
  have HLT : Hid (b < wb.drew.heap.size) := Lib.hid (Nat.lt_of_lt_of_le hb HBW.out.size)
  go_cut [4] from 5 (fun s4 wx => ∃ g, s4 = .pointer (some ⟨g, 0, none⟩) ∧ Hid (wx.heap[g]? = some (headO' Z1 X2 X3)) ∧ Hid (Below wb.heap.size wb wx))
  case first =>
    refine wp_region_held_drew (S := fun W => W.rangeAt b o (l.map cellOf)) (by kernel_rfl) (range_on (below_drew wb) HRW.out) ?_
    intro hHeld
    have HBB := Lib.hid (below_drew wb)
    generalize wb.drew = w0 at HLT HBB hHeld ⊢
    (refine takeH (i := 0) (v := ?_) rfl (by kernel_rfl) (by kernel_rfl) (by kernel_rfl) (fun _ _ _ h => h) (Or.inl ⟨by rfl, ?_⟩) (by assumption) ?_; rotate_left; (focus ((intro wS hSw); (try dsimp only at hSw); have s0 := hSw; go_simp; (try with_reducible rfl); done)); (try simp only [Act.put, List.setIfInBounds_toArray, List.set_cons_zero, List.set_cons_succ]))
    (refine takeH (i := 1) (v := ?_) rfl (by kernel_rfl) (by kernel_rfl) (by kernel_rfl) (fun _ _ _ h => h) (Or.inl ⟨by rfl, ?_⟩) (by assumption) ?_; rotate_left; (focus ((intro wS hSw); (try dsimp only at hSw); have s0 := hSw; go_simp; (try with_reducible rfl); done)); (try simp only [Act.put, List.setIfInBounds_toArray, List.set_cons_zero, List.set_cons_succ]))
    (refine takeH (i := 3) (v := ?_) rfl (by kernel_rfl) (by kernel_rfl) (by kernel_rfl) (fun _ _ _ h => h) (Or.inl ⟨by rfl, ?_⟩) (by assumption) ?_; rotate_left; (focus ((intro wS hSw); (try dsimp only at hSw); have s0 := hSw; go_simp; (try with_reducible rfl); done)); (try simp only [Act.put, List.setIfInBounds_toArray, List.set_cons_zero, List.set_cons_succ]))
    (refine takeH (i := 4) (v := ?_) rfl (by kernel_rfl) (by kernel_rfl) (by kernel_rfl) (fun _ _ _ h => h) (Or.inl ⟨by rfl, ?_⟩) (by assumption) ?_; rotate_left; (focus ((intro wS hSw); (try dsimp only at hSw); have s0 := hSw; go_simp; (try with_reducible rfl); done)); (try simp only [Act.put, List.setIfInBounds_toArray, List.set_cons_zero, List.set_cons_succ]))
    (refine takeH (i := 6) (v := ?_) rfl (by kernel_rfl) (by kernel_rfl) (by kernel_rfl) (fun _ _ _ h => h) (Or.inl ⟨by rfl, ?_⟩) (by assumption) ?_; rotate_left; (focus ((intro wS hSw); (try dsimp only at hSw); have s0 := hSw; go_simp; (try with_reducible rfl); done)); (try simp only [Act.put, List.setIfInBounds_toArray, List.set_cons_zero, List.set_cons_succ]))
    (refine takeH (i := 7) (v := ?_) rfl (by kernel_rfl) (by kernel_rfl) (by kernel_rfl) (fun _ _ _ h => h) (Or.inl ⟨by rfl, ?_⟩) (by assumption) ?_; rotate_left; (focus ((intro wS hSw); (try dsimp only at hSw); have s0 := hSw; go_simp; (try with_reducible rfl); done)); (try simp only [Act.put, List.setIfInBounds_toArray, List.set_cons_zero, List.set_cons_succ]))
    refine twoH (i := 2) (i2 := 11) rfl rfl (by kernel_rfl) (fun K hK => ?_) (fun K hK => ?_)
    · rw [if_pos (by rfl)]
      go_simp; ((refine (HN1.out w0 (mid_txt hHeld)).mono ?_); (rintro e w1 ⟨rfl, rfl⟩); (try go_simp))
      have HB1 : Hid (Below w0.heap.size w0 w0) := Lib.hid (Below.refl _ _)
      refine hK.out _ _ (hHeld) (fun hNew => ?_)
      clear hK K hHeld; (have hHeld := hNew); clear hNew; (try simp only [Act.put, List.setIfInBounds_toArray, List.set_cons_zero, List.set_cons_succ])
      refine twoH (i := 5) (i2 := 11) rfl rfl (by kernel_rfl) (fun K hK => ?_) (fun K hK => ?_)
      · rw [if_pos (by rfl)]
        go_simp; ((refine (HN2.out w0 (mid_txt hHeld)).mono ?_); (rintro e w2 ⟨rfl, rfl⟩); (try go_simp))
        have HB2 : Hid (Below w0.heap.size w0 w0) := Lib.hid (Below.refl _ _)
        refine hK.out _ _ (hHeld) (fun hNew => ?_)
        clear hK K hHeld; (have hHeld := hNew); clear hNew; (try simp only [Act.put, List.setIfInBounds_toArray, List.set_cons_zero, List.set_cons_succ])
        refine twoH (i := 8) (i2 := 11) rfl rfl (by kernel_rfl) (fun K hK => ?_) (fun K hK => ?_)
        · rw [if_pos (by rfl)]
          go_simp; ((refine (HN3.out w0 (mid_txt hHeld)).mono ?_); (rintro e w3 ⟨rfl, rfl⟩); (try go_simp))
          have HB3 : Hid (Below w0.heap.size w0 w0) := Lib.hid (Below.refl _ _)
          refine hK.out _ _ (hHeld) (fun hNew => ?_)
          clear hK K hHeld; (have hHeld := hNew); clear hNew; (try simp only [Act.put, List.setIfInBounds_toArray, List.set_cons_zero, List.set_cons_succ])
          (refine takeH (i := 9) (v := ?_) rfl (by kernel_rfl) (by kernel_rfl) (by kernel_rfl) (fun _ _ _ h => h) (Or.inl ⟨by rfl, ?_⟩) (by assumption) ?_; rotate_left; (focus ((intro wS hSw); (try dsimp only at hSw); have s0 := hSw; go_simp; (try with_reducible rfl); done)); (try simp only [Act.put, List.setIfInBounds_toArray, List.set_cons_zero, List.set_cons_succ]))
          (refine takeH (i := 10) (v := ?_) rfl (by kernel_rfl) (by kernel_rfl) (by kernel_rfl) (fun _ _ _ h => h) (Or.inl ⟨by rfl, ?_⟩) (by assumption) ?_; rotate_left; (focus ((intro wS hSw); (try dsimp only at hSw); have s0 := hSw; go_simp; (try with_reducible rfl); done)); (try simp only [Act.put, List.setIfInBounds_toArray, List.set_cons_zero, List.set_cons_succ]))
          refine aloneH (i := 11) rfl (by kernel_rfl) (fun K hK => ?_)
          rw [if_pos (by rfl)]
          go_simp; (have HA := Lib.hid (heap_alloc_new w0 (.cells #[.int .i64 0, .int .i64 0, .int .u32 0] 112)); have HB4 := Lib.hid (below_alloc w0 (.cells #[.int .i64 0, .int .i64 0, .int .u32 0] 112)); generalize hx4 : World.alloc w0 (.cells #[.int .i64 0, .int .i64 0, .int .u32 0] 112) = w4 at HA HB4 ⊢; clear hx4)
          refine hK.out _ _ (range_on HB4.out hHeld) (fun hNew => ?_)
          clear hK K hHeld; (have hHeld := hNew); clear hNew; (try simp only [Act.put, List.setIfInBounds_toArray, List.set_cons_zero, List.set_cons_succ])
          refine aloneH (i := 12) rfl (by kernel_rfl) (fun K hK => ?_)
          rw [if_pos (by rfl)]
          have HG : Hid (w4.heap[w0.heap.size]? = some (.cells #[.int .i64 0, .int .i64 0, .int .u32 0] 112)) := Lib.hid (heap_on (below_same w4) HA.out)
          refine wp_store_row 112 (.tmp 4) (.tmp 19) rfl w0.heap.size rfl [.int .i64 Z1, .int .i64 X2, .int .u32 X3] (by kernel_rfl) (one3 _ _ _ _ _ _) rfl #[.int .i64 0, .int .i64 0, .int .u32 0] rfl _ HG.out ?_
          refine hK.out _ _ (range_setRow (Nat.ne_of_lt (Nat.lt_of_lt_of_le HLT.out (below_then (below_then HB1.out HB2.out) HB3.out).size)) hHeld) (fun hNew => ?_)
          clear hK K hHeld; (have hHeld := hNew); clear hNew; (try simp only [Act.put])
          refine wpAnyH_done (by kernel_rfl) ?_ _
          go_wp2_with fail
          go_meet
          case rel => exact ⟨w0.heap.size, rfl, Lib.hid (setRow_heap _ _ _ _ _ _ HG.out), Lib.hid (below_setRow (below_then HBB.out (below_then (below_then (below_then HB1.out HB2.out) HB3.out) HB4.out)) (Nat.le_trans HBB.out.size (below_then (below_then HB1.out HB2.out) HB3.out).size) _)⟩
        · rw [if_pos (by rfl)]
          go_simp; (have HA := Lib.hid (heap_alloc_new w0 (.cells #[.int .i64 0, .int .i64 0, .int .u32 0] 112)); have HB3 := Lib.hid (below_alloc w0 (.cells #[.int .i64 0, .int .i64 0, .int .u32 0] 112)); generalize hx3 : World.alloc w0 (.cells #[.int .i64 0, .int .i64 0, .int .u32 0] 112) = w3 at HA HB3 ⊢; clear hx3)
          refine hK.out _ _ (range_on HB3.out hHeld) (fun hNew => ?_)
          clear hK K hHeld; (have hHeld := hNew); clear hNew; (try simp only [Act.put, List.setIfInBounds_toArray, List.set_cons_zero, List.set_cons_succ])
          refine aloneH (i := 8) rfl (by kernel_rfl) (fun K hK => ?_)
          rw [if_pos (by rfl)]
          go_simp; ((refine (HN3.out w3 (mid_txt hHeld)).mono ?_); (rintro e w4 ⟨rfl, rfl⟩); (try go_simp))
          have HB4 : Hid (Below w3.heap.size w3 w3) := Lib.hid (Below.refl _ _)
          refine hK.out _ _ (hHeld) (fun hNew => ?_)
          clear hK K hHeld; (have hHeld := hNew); clear hNew; (try simp only [Act.put, List.setIfInBounds_toArray, List.set_cons_zero, List.set_cons_succ])
          (refine takeH (i := 9) (v := ?_) rfl (by kernel_rfl) (by kernel_rfl) (by kernel_rfl) (fun _ _ _ h => h) (Or.inl ⟨by rfl, ?_⟩) (by assumption) ?_; rotate_left; (focus ((intro wS hSw); (try dsimp only at hSw); have s0 := hSw; go_simp; (try with_reducible rfl); done)); (try simp only [Act.put, List.setIfInBounds_toArray, List.set_cons_zero, List.set_cons_succ]))
          (refine takeH (i := 10) (v := ?_) rfl (by kernel_rfl) (by kernel_rfl) (by kernel_rfl) (fun _ _ _ h => h) (Or.inl ⟨by rfl, ?_⟩) (by assumption) ?_; rotate_left; (focus ((intro wS hSw); (try dsimp only at hSw); have s0 := hSw; go_simp; (try with_reducible rfl); done)); (try simp only [Act.put, List.setIfInBounds_toArray, List.set_cons_zero, List.set_cons_succ]))
          refine aloneH (i := 12) rfl (by kernel_rfl) (fun K hK => ?_)
          rw [if_pos (by rfl)]
          have HG : Hid (w3.heap[w0.heap.size]? = some (.cells #[.int .i64 0, .int .i64 0, .int .u32 0] 112)) := Lib.hid (heap_on HB4.out HA.out)
          refine wp_store_row 112 (.tmp 4) (.tmp 19) rfl w0.heap.size rfl [.int .i64 Z1, .int .i64 X2, .int .u32 X3] (by kernel_rfl) (one3 _ _ _ _ _ _) rfl #[.int .i64 0, .int .i64 0, .int .u32 0] rfl _ HG.out ?_
          refine hK.out _ _ (range_setRow (Nat.ne_of_lt (Nat.lt_of_lt_of_le HLT.out (below_then HB1.out HB2.out).size)) hHeld) (fun hNew => ?_)
          clear hK K hHeld; (have hHeld := hNew); clear hNew; (try simp only [Act.put])
          refine wpAnyH_done (by kernel_rfl) ?_ _
          go_wp2_with fail
          go_meet
          case rel => exact ⟨w0.heap.size, rfl, Lib.hid (setRow_heap _ _ _ _ _ _ HG.out), Lib.hid (below_setRow (below_then HBB.out (below_then (below_then (below_then HB1.out HB2.out) HB3.out) HB4.out)) (Nat.le_trans HBB.out.size (below_then HB1.out HB2.out).size) _)⟩
      · rw [if_pos (by rfl)]
        go_simp; (have HA := Lib.hid (heap_alloc_new w0 (.cells #[.int .i64 0, .int .i64 0, .int .u32 0] 112)); have HB2 := Lib.hid (below_alloc w0 (.cells #[.int .i64 0, .int .i64 0, .int .u32 0] 112)); generalize hx2 : World.alloc w0 (.cells #[.int .i64 0, .int .i64 0, .int .u32 0] 112) = w2 at HA HB2 ⊢; clear hx2)
        refine hK.out _ _ (range_on HB2.out hHeld) (fun hNew => ?_)
        clear hK K hHeld; (have hHeld := hNew); clear hNew; (try simp only [Act.put, List.setIfInBounds_toArray, List.set_cons_zero, List.set_cons_succ])
        refine aloneH (i := 5) rfl (by kernel_rfl) (fun K hK => ?_)
        rw [if_pos (by rfl)]
        go_simp; ((refine (HN2.out w2 (mid_txt hHeld)).mono ?_); (rintro e w3 ⟨rfl, rfl⟩); (try go_simp))
        have HB3 : Hid (Below w2.heap.size w2 w2) := Lib.hid (Below.refl _ _)
        refine hK.out _ _ (hHeld) (fun hNew => ?_)
        clear hK K hHeld; (have hHeld := hNew); clear hNew; (try simp only [Act.put, List.setIfInBounds_toArray, List.set_cons_zero, List.set_cons_succ])
        refine aloneH (i := 8) rfl (by kernel_rfl) (fun K hK => ?_)
        rw [if_pos (by rfl)]
        go_simp; ((refine (HN3.out w2 (mid_txt hHeld)).mono ?_); (rintro e w4 ⟨rfl, rfl⟩); (try go_simp))
        have HB4 : Hid (Below w2.heap.size w2 w2) := Lib.hid (Below.refl _ _)
        refine hK.out _ _ (hHeld) (fun hNew => ?_)
        clear hK K hHeld; (have hHeld := hNew); clear hNew; (try simp only [Act.put, List.setIfInBounds_toArray, List.set_cons_zero, List.set_cons_succ])
        (refine takeH (i := 9) (v := ?_) rfl (by kernel_rfl) (by kernel_rfl) (by kernel_rfl) (fun _ _ _ h => h) (Or.inl ⟨by rfl, ?_⟩) (by assumption) ?_; rotate_left; (focus ((intro wS hSw); (try dsimp only at hSw); have s0 := hSw; go_simp; (try with_reducible rfl); done)); (try simp only [Act.put, List.setIfInBounds_toArray, List.set_cons_zero, List.set_cons_succ]))
        (refine takeH (i := 10) (v := ?_) rfl (by kernel_rfl) (by kernel_rfl) (by kernel_rfl) (fun _ _ _ h => h) (Or.inl ⟨by rfl, ?_⟩) (by assumption) ?_; rotate_left; (focus ((intro wS hSw); (try dsimp only at hSw); have s0 := hSw; go_simp; (try with_reducible rfl); done)); (try simp only [Act.put, List.setIfInBounds_toArray, List.set_cons_zero, List.set_cons_succ]))
        refine aloneH (i := 12) rfl (by kernel_rfl) (fun K hK => ?_)
        rw [if_pos (by rfl)]
        have HG : Hid (w2.heap[w0.heap.size]? = some (.cells #[.int .i64 0, .int .i64 0, .int .u32 0] 112)) := Lib.hid (heap_on (below_then HB3.out HB4.out) HA.out)
        refine wp_store_row 112 (.tmp 4) (.tmp 19) rfl w0.heap.size rfl [.int .i64 Z1, .int .i64 X2, .int .u32 X3] (by kernel_rfl) (one3 _ _ _ _ _ _) rfl #[.int .i64 0, .int .i64 0, .int .u32 0] rfl _ HG.out ?_
        refine hK.out _ _ (range_setRow (Nat.ne_of_lt (Nat.lt_of_lt_of_le HLT.out HB1.out.size)) hHeld) (fun hNew => ?_)
        clear hK K hHeld; (have hHeld := hNew); clear hNew; (try simp only [Act.put])
        refine wpAnyH_done (by kernel_rfl) ?_ _
        go_wp2_with fail
        go_meet
        case rel => exact ⟨w0.heap.size, rfl, Lib.hid (setRow_heap _ _ _ _ _ _ HG.out), Lib.hid (below_setRow (below_then HBB.out (below_then (below_then (below_then HB1.out HB2.out) HB3.out) HB4.out)) (Nat.le_trans HBB.out.size HB1.out.size) _)⟩
    · rw [if_pos (by rfl)]
      go_simp; (have HA := Lib.hid (heap_alloc_new w0 (.cells #[.int .i64 0, .int .i64 0, .int .u32 0] 112)); have HB1 := Lib.hid (below_alloc w0 (.cells #[.int .i64 0, .int .i64 0, .int .u32 0] 112)); generalize hx1 : World.alloc w0 (.cells #[.int .i64 0, .int .i64 0, .int .u32 0] 112) = w1 at HA HB1 ⊢; clear hx1)
      refine hK.out _ _ (range_on HB1.out hHeld) (fun hNew => ?_)
      clear hK K hHeld; (have hHeld := hNew); clear hNew; (try simp only [Act.put, List.setIfInBounds_toArray, List.set_cons_zero, List.set_cons_succ])
      refine aloneH (i := 2) rfl (by kernel_rfl) (fun K hK => ?_)
      rw [if_pos (by rfl)]
      go_simp; ((refine (HN1.out w1 (mid_txt hHeld)).mono ?_); (rintro e w2 ⟨rfl, rfl⟩); (try go_simp))
      have HB2 : Hid (Below w1.heap.size w1 w1) := Lib.hid (Below.refl _ _)
      refine hK.out _ _ (hHeld) (fun hNew => ?_)
      clear hK K hHeld; (have hHeld := hNew); clear hNew; (try simp only [Act.put, List.setIfInBounds_toArray, List.set_cons_zero, List.set_cons_succ])
      refine aloneH (i := 5) rfl (by kernel_rfl) (fun K hK => ?_)
      rw [if_pos (by rfl)]
      go_simp; ((refine (HN2.out w1 (mid_txt hHeld)).mono ?_); (rintro e w3 ⟨rfl, rfl⟩); (try go_simp))
      have HB3 : Hid (Below w1.heap.size w1 w1) := Lib.hid (Below.refl _ _)
      refine hK.out _ _ (hHeld) (fun hNew => ?_)
      clear hK K hHeld; (have hHeld := hNew); clear hNew; (try simp only [Act.put, List.setIfInBounds_toArray, List.set_cons_zero, List.set_cons_succ])
      refine aloneH (i := 8) rfl (by kernel_rfl) (fun K hK => ?_)
      rw [if_pos (by rfl)]
      go_simp; ((refine (HN3.out w1 (mid_txt hHeld)).mono ?_); (rintro e w4 ⟨rfl, rfl⟩); (try go_simp))
      have HB4 : Hid (Below w1.heap.size w1 w1) := Lib.hid (Below.refl _ _)
      refine hK.out _ _ (hHeld) (fun hNew => ?_)
      clear hK K hHeld; (have hHeld := hNew); clear hNew; (try simp only [Act.put, List.setIfInBounds_toArray, List.set_cons_zero, List.set_cons_succ])
      (refine takeH (i := 9) (v := ?_) rfl (by kernel_rfl) (by kernel_rfl) (by kernel_rfl) (fun _ _ _ h => h) (Or.inl ⟨by rfl, ?_⟩) (by assumption) ?_; rotate_left; (focus ((intro wS hSw); (try dsimp only at hSw); have s0 := hSw; go_simp; (try with_reducible rfl); done)); (try simp only [Act.put, List.setIfInBounds_toArray, List.set_cons_zero, List.set_cons_succ]))
      (refine takeH (i := 10) (v := ?_) rfl (by kernel_rfl) (by kernel_rfl) (by kernel_rfl) (fun _ _ _ h => h) (Or.inl ⟨by rfl, ?_⟩) (by assumption) ?_; rotate_left; (focus ((intro wS hSw); (try dsimp only at hSw); have s0 := hSw; go_simp; (try with_reducible rfl); done)); (try simp only [Act.put, List.setIfInBounds_toArray, List.set_cons_zero, List.set_cons_succ]))
      refine aloneH (i := 12) rfl (by kernel_rfl) (fun K hK => ?_)
      rw [if_pos (by rfl)]
      have HG : Hid (w1.heap[w0.heap.size]? = some (.cells #[.int .i64 0, .int .i64 0, .int .u32 0] 112)) := Lib.hid (heap_on (below_then (below_then HB2.out HB3.out) HB4.out) HA.out)
      refine wp_store_row 112 (.tmp 4) (.tmp 19) rfl w0.heap.size rfl [.int .i64 Z1, .int .i64 X2, .int .u32 X3] (by kernel_rfl) (one3 _ _ _ _ _ _) rfl #[.int .i64 0, .int .i64 0, .int .u32 0] rfl _ HG.out ?_
      refine hK.out _ _ (range_setRow (Nat.ne_of_lt (Nat.lt_of_lt_of_le HLT.out (below_same w0).size)) hHeld) (fun hNew => ?_)
      clear hK K hHeld; (have hHeld := hNew); clear hNew; (try simp only [Act.put])
      refine wpAnyH_done (by kernel_rfl) ?_ _
      go_wp2_with fail
      go_meet
      case rel => exact ⟨w0.heap.size, rfl, Lib.hid (setRow_heap _ _ _ _ _ _ HG.out), Lib.hid (below_setRow (below_then HBB.out (below_then (below_then (below_then HB1.out HB2.out) HB3.out) HB4.out)) (Nat.le_trans HBB.out.size (below_same w0).size) _)⟩
  case rest =>
    obtain ⟨g, rfl, HG1, HB1⟩ := hcut
    unfold headO' at HG1
    go_wp2_with fail
    have hHd := head_cells' (w := wc) HG1.out
    refine wp_region_held_drew (S := fun W => W.cell? ⟨g, 0, none⟩ = some (.int .i64 Z1) ∧ W.cell? ⟨g, 1, none⟩ = some (.int .i64 X2) ∧ W.cell? ⟨g, 2, none⟩ = some (.int .u32 X3) ∧ W.rangeAt b o (l.map cellOf)) (by kernel_rfl) ⟨hHd.1, hHd.2.1, hHd.2.2, range_on HB1.out.drew HRW.out⟩ ?_
    intro hHeld
    have HBD := Lib.hid (HBW.out.trans (HB1.out.drew.mono HBW.out.size))
    have HGD : Hid (wc.drew.heap[g]? = some (.cells #[.int .i64 Z1, .int .i64 X2, .int .u32 X3] 112)) := Lib.hid HG1.out
    have HZD : Hid (wc.drew.heap[w.heap.size]? = some (.cells #[.int .i64 0, .int .i64 0, .int .u32 0] 112)) := Lib.hid (heap_on HB1.out.drew HZH.out)
    clear HB1 HG1 hHd HBW HZH HRW HLT
    generalize wc.drew = w0 at HBD HGD HZD hHeld ⊢
    (refine takeH (i := 0) (v := ?_) rfl (by kernel_rfl) (by kernel_rfl) (by kernel_rfl) (fun _ _ _ h => h) (Or.inl ⟨by rfl, ?_⟩) (by assumption) ?_; rotate_left; (focus ((intro wS hSw); (try dsimp only at hSw); obtain ⟨s0, s1, s2, s3⟩ := hSw; go_simp; (try with_reducible rfl); done)); (try simp only [Act.put, List.setIfInBounds_toArray, List.set_cons_zero, List.set_cons_succ]))
    refine aloneH (i := 1) rfl (by kernel_rfl) (fun K hK => ?_)
    rw [if_pos (by rfl)]
    go_simp; ((refine (HH.out w0).mono ?_); (rintro e w1 ⟨rfl, hb⟩); have HB1 := Lib.hid hb; clear hb; (try go_simp))
    refine hK.out _ _ (⟨cell_on HB1.out hHeld.1, cell_on HB1.out hHeld.2.1, cell_on HB1.out hHeld.2.2.1, range_on HB1.out hHeld.2.2.2⟩) (fun hNew => ?_)
    clear hK K hHeld; (have hHeld := hNew); clear hNew; (try simp only [Act.put, List.setIfInBounds_toArray, List.set_cons_zero, List.set_cons_succ])
    (refine takeH (i := 2) (v := ?_) rfl (by kernel_rfl) (by kernel_rfl) (by kernel_rfl) (fun _ _ _ h => h) (Or.inl ⟨by rfl, ?_⟩) (by assumption) ?_; rotate_left; (focus ((intro wS hSw); (try dsimp only at hSw); obtain ⟨s0, s1, s2, s3⟩ := hSw; go_simp; (try with_reducible rfl); done)); (try simp only [Act.put, List.setIfInBounds_toArray, List.set_cons_zero, List.set_cons_succ]))
    (refine takeH (i := 3) (v := ?_) rfl (by kernel_rfl) (by kernel_rfl) (by kernel_rfl) (fun _ _ _ h => h) (Or.inl ⟨by rfl, ?_⟩) (by assumption) ?_; rotate_left; (focus ((intro wS hSw); (try dsimp only at hSw); obtain ⟨s0, s1, s2, s3⟩ := hSw; go_simp; (try with_reducible rfl); done)); (try simp only [Act.put, List.setIfInBounds_toArray, List.set_cons_zero, List.set_cons_succ]))
    (refine takeH (i := 4) (v := ?_) rfl (by kernel_rfl) (by kernel_rfl) (by kernel_rfl) (fun _ _ _ h => h) (Or.inl ⟨by rfl, ?_⟩) (by assumption) ?_; rotate_left; (focus ((intro wS hSw); (try dsimp only at hSw); obtain ⟨s0, s1, s2, s3⟩ := hSw; go_simp; (try with_reducible rfl); done)); (try simp only [Act.put, List.setIfInBounds_toArray, List.set_cons_zero, List.set_cons_succ]))
    (refine takeH (i := 7) (v := ?_) rfl (by kernel_rfl) (by kernel_rfl) (by kernel_rfl) (fun _ _ _ h => h) (Or.inl ⟨by rfl, ?_⟩) (by assumption) ?_; rotate_left; (focus ((intro wS hSw); (try dsimp only at hSw); obtain ⟨s0, s1, s2, s3⟩ := hSw; go_simp; (try with_reducible rfl); done)); (try simp only [Act.put, List.setIfInBounds_toArray, List.set_cons_zero, List.set_cons_succ]))
    (refine takeH (i := 8) (v := (.string ⟨l.toArray⟩)) rfl (by kernel_rfl) (by kernel_rfl) (by kernel_rfl) (fun _ _ _ h => h) (yieldsIf_text (by rfl) (.tmp 27) rfl (some ⟨b, o, none⟩) c 64 l HL.out rfl (fun _ h => mid_txt h.2.2.2) (fun e => by cases e)) (by assumption) ?_; (try simp only [Act.put, List.setIfInBounds_toArray, List.set_cons_zero, List.set_cons_succ]))
    refine aloneH (i := 5) rfl (by kernel_rfl) (fun K hK => ?_)
    rw [if_pos (by rfl)]
    go_simp; ((refine (HE.out w1).mono ?_); (rintro e w2 ⟨ga, ca, rfl, hc1, hm1, ht1, hb, hg1⟩); have HB2 := Lib.hid hb; have HTa := Lib.hid ht1; clear hb hc1 hm1 ht1 hg1; (try go_simp))
    refine hK.out _ _ (⟨cell_on HB2.out hHeld.1, cell_on HB2.out hHeld.2.1, cell_on HB2.out hHeld.2.2.1, range_on HB2.out hHeld.2.2.2⟩) (fun hNew => ?_)
    clear hK K hHeld; (have hHeld := hNew); clear hNew; (try simp only [Act.put, List.setIfInBounds_toArray, List.set_cons_zero, List.set_cons_succ])
    refine aloneH (i := 6) rfl (by kernel_rfl) (fun K hK => ?_)
    rw [if_pos (by rfl)]
    refine wp_text (.tmp 25) rfl (some ⟨ga, 0, none⟩) ca z.length z rfl rfl (HTa.out.below (below_same w2)) (fun e => by cases e) ?_
    have HB3 : Hid (Below w2.heap.size w2 w2) := Lib.hid (Below.refl _ _)
    refine hK.out _ _ (hHeld) (fun hNew => ?_)
    clear hK K hHeld; (have hHeld := hNew); clear hNew; (try simp only [Act.put, List.setIfInBounds_toArray, List.set_cons_zero, List.set_cons_succ])
    (refine takeH (i := 9) (v := ?_) rfl (by kernel_rfl) (by kernel_rfl) (by kernel_rfl) (fun _ _ _ h => h) (Or.inl ⟨by rfl, ?_⟩) (by assumption) ?_; rotate_left; (focus ((intro wS hSw); (try dsimp only at hSw); obtain ⟨s0, s1, s2, s3⟩ := hSw; go_simp; (try with_reducible rfl); done)); (try simp only [Act.put, List.setIfInBounds_toArray, List.set_cons_zero, List.set_cons_succ]))
    (refine takeH (i := 10) (v := ?_) rfl (by kernel_rfl) (by kernel_rfl) (by kernel_rfl) (fun _ _ _ h => h) (Or.inl ⟨by rfl, ?_⟩) (by assumption) ?_; rotate_left; (focus ((intro wS hSw); (try dsimp only at hSw); obtain ⟨s0, s1, s2, s3⟩ := hSw; go_simp; (try with_reducible rfl); done)); (try simp only [Act.put, List.setIfInBounds_toArray, List.set_cons_zero, List.set_cons_succ]))
    refine wpAnyH_done (by kernel_rfl) ?_ _
    have HW3 : Hid (Below w0.heap.size w0 w2) := Lib.hid (below_then (below_then HB1.out HB2.out) HB3.out)
    have HZ3 : Hid (w2.heap[w.heap.size]? = some (.cells #[.int .i64 0, .int .i64 0, .int .u32 0] 112)) := Lib.hid (heap_on HW3.out HZD.out)
    have HG3 : Hid (w2.heap[g]? = some (headO' Z1 X2 X3)) := Lib.hid (heap_on HW3.out HGD.out)
    obtain ⟨y1, y2, y3⟩ := head_cells' HG3.out
    cases q
    · go_wp2_with ((with_reducible refine wpList_store_row 112 (o := ⟨none, _, _, _, _, _⟩) ?a1 (.tmp 2) (.tmp 32) ?a2 w.heap.size ?a3 [.int .i64 Z1, .int .i64 X2, .int .u32 X3] ?a4 ?a5 ?a6 #[.int .i64 0, .int .i64 0, .int .u32 0] ?a7 112 ?a8 ?_); (case a1 => rfl); (case a2 => rfl); (case a3 => rfl); (case a4 => kernel_rfl); (case a5 => exact one3 _ _ _ _ _ _); (case a6 => rfl); (case a7 => rfl); (case a8 => exact HZ3.out); (try simp only [Act.put]))
      refine bodyPost_ret (results_head headR_und (by kernel_rfl) rfl _ _ w.heap.size _ _ _ (.bool true) rfl rfl _ _ (setRow_heap _ _ _ _ _ _ HZ3.out)) rfl ⟨by rw [HV.out]; rfl, ?_⟩
      exact below_setRow (HBD.out.trans (HW3.out.mono HBD.out.size)) (Nat.le_refl _) _
    · go_wp2_with ((with_reducible refine wpList_store_row 112 (o := ⟨none, _, _, _, _, _⟩) ?a1 (.tmp 2) (.tmp 31) ?a2 w.heap.size ?a3 [.int .i64 0, .int .i64 0, .int .u32 0] ?a4 ?a5 ?a6 #[.int .i64 0, .int .i64 0, .int .u32 0] ?a7 112 ?a8 ?_); (case a1 => rfl); (case a2 => rfl); (case a3 => rfl); (case a4 => kernel_rfl); (case a5 => exact one3 _ _ _ _ _ _); (case a6 => rfl); (case a7 => rfl); (case a8 => exact HZ3.out); (try simp only [Act.put]))
      refine bodyPost_ret (results_head headR_und (by kernel_rfl) rfl _ _ w.heap.size _ _ _ (.bool false) rfl rfl _ _ (setRow_heap _ _ _ _ _ _ HZ3.out)) rfl ⟨by rw [HV.out]; rfl, ?_⟩
      exact below_setRow (HBD.out.trans (HW3.out.mono HBD.out.size)) (Nat.le_refl _) _

set_option maxHeartbeats 1000000 in
theorem ref_begin_short (l : Text) (A : Option Addr) (c : Nat) (w : World) (hl : l.length ≠ 64) :
    Calls Try.prog 75 #[.slice A l.length c] w fun e w' => e = .returned (beginV l) ∧ Below w.heap.size w w' := by
  have HV : Hid (beginV l = .tuple #[headV 0 0 0, .bool false]) := Lib.hid (by unfold beginV isB; rw [decide_eq_false hl]; simp)
  have HBW : Hid (Below w.heap.size w (w.alloc (headO' 0 0 0))) := Lib.hid (below_alloc w _)
  have HZH : Hid ((w.alloc (headO' 0 0 0)).heap[w.heap.size]? = some (headO' 0 0 0)) := Lib.hid (heap_alloc_new w _)
  have i1 : ¬ (l.length : Int) = 64 := by omega
  unfold headO' at HBW HZH
  clear hl
  go_enter Try.func75, Try.ntmps75
  go_wp2_with ((with_reducible refine wpList_store_row 112 (o := ⟨none, _, _, _, _, _⟩) ?a1 (.tmp 2) (.tmp 8) ?a2 w.heap.size ?a3 [.int .i64 0, .int .i64 0, .int .u32 0] ?a4 ?a5 ?a6 #[.int .i64 0, .int .i64 0, .int .u32 0] ?a7 112 ?a8 ?_); (case a1 => rfl); (case a2 => rfl); (case a3 => rfl); (case a4 => kernel_rfl); (case a5 => exact one3 _ _ _ _ _ _); (case a6 => rfl); (case a7 => rfl); (case a8 => exact HZH.out); (try simp only [Act.put]))
  refine bodyPost_ret (results_head headR_und (by kernel_rfl) rfl _ _ w.heap.size _ _ _ (.bool false) rfl rfl _ _ (setRow_heap _ _ _ _ _ _ HZH.out)) rfl ⟨by rw [HV.out]; rfl, ?_⟩
  exact below_setRow HBW.out (Nat.le_refl _) _
theorem ref_begin (l : Text) (A : Option Addr) (c : Nat) (w : World) (hT : Txt w A l) (hc : l.length ≤ c) :
    Calls Try.prog 75 #[.slice A l.length c] w fun e w' => e = .returned (beginV l) ∧ Below w.heap.size w w' := by
  by_cases hl : l.length = 64
  · rcases Bool.eq_false_or_eq_true (headOk (seqB l) (lenB l)) with hh | hh
    · exact ref_begin_yes l A c w hT hl (by omega) hh
    · exact ref_begin_no l A c w hT hl (by omega) hh
  · exact ref_begin_short l A c w hl
end Go.Proofs.Ytfjejiapafdgeaa
