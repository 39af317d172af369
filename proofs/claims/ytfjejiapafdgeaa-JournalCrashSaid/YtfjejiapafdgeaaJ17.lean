/- A batch's sectors, made. -/
import Derived.Test.YtfjejiapafdgeaaJ13
import Derived.Test.YtfjejiapafdgeaaJ15
import Derived.Test.YtfjejiapafdgeaaJ16
import Derived.Test.YtfjejiapafdgeaaJ3
import Derived.Deep.RegionHeld3
namespace Go.Proofs.Ytfjejiapafdgeaa
open Go.RowKit
set_option maxRecDepth 100000

/-- a batch's sectors -/
def sumN (l : Text) : Nat := (Crc.sumT l).toNat
def cutP (l : Text) (k : Nat) : List Text := (cutsT l k).map Prod.snd
def pagesT (s : Nat) (l : Text) : List Text := headP s l.length (sumN l) :: (cutP l (manyC l) ++ [endP s (sumN l)])
def cutL (pre : List (Nat × Text)) : List Text := pre.map Prod.snd
theorem cutL_snoc (pre : List (Nat × Text)) (x : Nat × Text) : cutL (pre ++ [x]) = cutL pre ++ [x.2] := by simp [cutL]
theorem tape_info1 : (Try.prog.info? 31).map (·.size) = some 1 := by kernel_rfl
set_option maxHeartbeats 4000000 in
theorem code_pages_yes (s : Nat) (l : Text) (A : Option Addr) (c : Nat) (w : World) (h1 : 1 ≤ s) (h2 : s ≤ 4611686018427387904) (h3 : 1 ≤ l.length) (h4 : l.length ≤ 131072) (hc : l.length ≤ c) (hT : Txt w A l) :
    Calls Try.prog 65 #[.int .i64 s, .slice A l.length c] w fun e w' => ∃ v, e = .returned (.tuple #[v, .int .i64 0]) ∧ OwnT w.heap.size v (pagesT s l) w' ∧ Below w.heap.size w w' := by
  obtain ⟨b, o, rfl, hb, hr⟩ := txt_mid hT (by intro e; subst e; simp at h3)
  obtain ⟨u, hu⟩ : ∃ u, u = sumN l := ⟨_, rfl⟩
  have hub : u < 4294967296 := by rw [hu]; exact (Crc.sumT l).isLt
  have HU := Lib.hid hu
  have HH : Hid (∀ W, Calls Try.prog 70 #[headV s l.length 0] W fun e w' => e = .returned (.bool true) ∧ Below W.heap.size W w') := Lib.hid (fun W => by
    have := code_isHead s l.length 0 W
    have hh : headOk s l.length = true := by
      unfold headOk seqOk needV
      rw [if_neg (by omega)]
      simp
      omega
    rwa [hh] at this)
  have HS : Hid (∀ W, Txt W (some ⟨b, o, none⟩) l → Calls Try.prog 84 #[.slice (some ⟨b, o, none⟩) l.length c] W fun e w' => e = .returned (.int .u32 u) ∧ Below W.heap.size W w') := Lib.hid (fun W h => by
    refine (code_sum l (some ⟨b, o, none⟩) c W (by omega) h).mono ?_
    rintro e w' ⟨rfl, hb⟩
    exact ⟨by rw [hu]; rfl, hb⟩)
  have HE1 : Hid (∀ W, Calls Try.prog 71 #[headV s l.length u] W fun e w' => e = .returned (pageV (headP s l.length u)) ∧ Below W.heap.size W w') := Lib.hid (fun W => code_headPage s l.length u W h2 h4 hub)
  have HE2 : Hid (∀ W, Calls Try.prog 85 #[headV s l.length u] W fun e w' => e = .returned (pageV (endP s u)) ∧ Below W.heap.size W w') := Lib.hid (fun W => code_endPage s u l.length W h2 hub)
  have HL : Hid (1 ≤ l.length ∧ l.length ≤ 131072 ∧ l.length ≤ c) := Lib.hid ⟨h3, h4, hc⟩
  have i2 : (l.length : Int) ≤ 131072 := by omega
  have HT := Lib.hid hT
  have HBL : Hid (b < w.heap.size) := Lib.hid hb
  have HZ0 : Hid (∀ W, Below (w.alloc (headO s l.length 0)).heap.size (w.alloc (headO s l.length 0)) W → W.heap[w.heap.size]? = some (headO s l.length 0)) := Lib.hid (fun W h => heap_on h (heap_alloc_new w _))
  unfold pagesT
  rw [← hu]
  unfold headV at HH HE1 HE2
  unfold headO at HZ0
  clear hT hr hu hub h1 h2 h3 h4 hc hb
  refine callsIn_wide.1 (callsIn_of_wp_marks (n := 0) (F := Fence.wide) Try.func65 rfl trivial (wpIn_wide.2 ?_) rfl)
  simp only [Try.ntmps65, List.size_toArray, List.length_cons, List.length_nil, Nat.reduceAdd, Nat.reduceSub, Array.replicate_succ, Array.replicate_zero, List.push_toArray, List.append_toArray, List.nil_append, List.cons_append]
  go_wp2_with (first
    | (go_at_call 70; refine (HH.out _).mono ?_; rintro e w1 ⟨rfl, hb1⟩; have HB1 := Lib.hid hb1; clear hb1)
    | (go_at_call 84; refine (HS.out _ ((HT.out.alloc _).below HB1.out)).mono ?_; rintro e w2 ⟨rfl, hb2⟩; have HB2 := Lib.hid (below_then HB1.out hb2); clear hb2; have hx := HZ0.out _ HB2.out; have x2 := cell_of_row _ _ 2 _ _ _ hx; have z2 := frozen_of_row _ _ 2 _ _ hx; have HX := Lib.hid hx; clear hx; simp only [List.getElem?_toArray, List.getElem?_cons_succ, List.getElem?_cons_zero] at x2))
  have HHd : Hid ((w2.setCell ⟨w.heap.size, 2, none⟩ (.int .u32 u)).heap[w.heap.size]? = some (headO s l.length u)) := Lib.hid (by
    rw [heap_setCell_same w2 w.heap.size 2 _ _ _ HX.out]
    rfl)
  have HBW : Hid (Below w.heap.size w (w2.setCell ⟨w.heap.size, 2, none⟩ (.int .u32 u))) := Lib.hid ((below_then (below_alloc w _) HB2.out).setCell (p := ⟨w.heap.size, 2, none⟩) (Nat.le_refl _) _)
  have HS1 : Hid (w.heap.size + 1 ≤ (w2.setCell ⟨w.heap.size, 2, none⟩ (.int .u32 u)).heap.size) := Lib.hid (by have := HB2.out.size; simpa using this)
  clear x2 z2 HX HB2 HB1 HZ0 HH HS
  unfold headO at HHd
  generalize w2.setCell ⟨w.heap.size, 2, none⟩ (.int .u32 u) = wb at HHd HBW HS1 ⊢
  go_cut [7, 8] from 12 (fun s7 s8 wx => ∃ g1 g2, s7 = .pointer (some ⟨g1, 0, none⟩) ∧ s8 = .pointer (some ⟨g2, 0, none⟩) ∧ Hid (wx.heap[g1]? = some (.cells ((headP s l.length u).map cellOf).toArray 128)) ∧ Hid (wx.heap[g2]? = some (.cells ((endP s u).map cellOf).toArray 128)) ∧ Hid (g1 ≠ g2) ∧
    Hid (Below wb.heap.size wb wx) ∧ Hid (wb.heap.size ≤ g1) ∧ Hid (wb.heap.size ≤ g2))
  case first =>
    refine wp_region_noPanic (wp_region_held_drew (S := fun W => W.cell? ⟨w.heap.size, 0, none⟩ = some (.int .i64 s) ∧ W.cell? ⟨w.heap.size, 1, none⟩ = some (.int .i64 l.length) ∧ W.cell? ⟨w.heap.size, 2, none⟩ = some (.int .u32 u)) (by kernel_rfl) (head_cells (w := wb) HHd.out) ?_)
    intro hHeld
    have HBB := Lib.hid (below_drew wb)
    have HLT : Hid (w.heap.size < wb.drew.heap.size) := Lib.hid HS1.out
    generalize wb.drew = w0 at HLT HBB hHeld ⊢
    (refine takeH (i := 0) (v := ?_) rfl (by kernel_rfl) (by kernel_rfl) (by kernel_rfl) (fun _ _ _ h => h) (Or.inl ⟨by rfl, ?_⟩) (by assumption) ?_; rotate_left; (focus ((intro wS hSw); (try dsimp only at hSw); obtain ⟨s0, s1, s2⟩ := hSw; go_simp; (try with_reducible rfl); done)); (try simp only [Act.put, List.setIfInBounds_toArray, List.set_cons_zero, List.set_cons_succ]))
    (refine takeH (i := 2) (v := ?_) rfl (by kernel_rfl) (by kernel_rfl) (by kernel_rfl) (fun _ _ _ h => h) (Or.inl ⟨by rfl, ?_⟩) (by assumption) ?_; rotate_left; (focus ((intro wS hSw); (try dsimp only at hSw); obtain ⟨s0, s1, s2⟩ := hSw; go_simp; (try with_reducible rfl); done)); (try simp only [Act.put, List.setIfInBounds_toArray, List.set_cons_zero, List.set_cons_succ]))
    refine threeH (i := 1) (i2 := 4) (i3 := 5) rfl rfl rfl (by kernel_rfl) (fun K hK => ?_) (fun K hK => ?_) (fun K hK => ?_)
    · rw [if_pos (by rfl)]
      go_simp; ((refine (HE1.out w0).mono ?_); (rintro e w1 ⟨rfl, hb⟩); have HB1 := Lib.hid hb; clear hb; (try go_simp))
      refine hK.out _ _ (⟨cell_on HB1.out hHeld.1, cell_on HB1.out hHeld.2.1, cell_on HB1.out hHeld.2.2⟩) (fun hNew => ?_)
      clear hK K hHeld; (have hHeld := hNew); clear hNew; (try simp only [Act.put, List.setIfInBounds_toArray, List.set_cons_zero, List.set_cons_succ])
      refine threeH (i := 3) (i2 := 4) (i3 := 5) rfl rfl rfl (by kernel_rfl) (fun K hK => ?_) (fun K hK => ?_) (fun K hK => ?_)
      · rw [if_pos (by rfl)]
        go_simp; ((refine (HE2.out w1).mono ?_); (rintro e w2 ⟨rfl, hb⟩); have HB2 := Lib.hid hb; clear hb; (try go_simp))
        refine hK.out _ _ (⟨cell_on HB2.out hHeld.1, cell_on HB2.out hHeld.2.1, cell_on HB2.out hHeld.2.2⟩) (fun hNew => ?_)
        clear hK K hHeld; (have hHeld := hNew); clear hNew; (try simp only [Act.put, List.setIfInBounds_toArray, List.set_cons_zero, List.set_cons_succ])
        refine twoH (i := 4) (i2 := 5) rfl rfl (by kernel_rfl) (fun K hK => ?_) (fun K hK => ?_)
        · rw [if_pos (by rfl)]
          refine wp_alloc_page pageT rfl ?_
          have HA1 := Lib.hid (heap_alloc_new w2 (.cells (zeros.map cellOf).toArray 128)); have HB3 := Lib.hid (below_alloc w2 (.cells (zeros.map cellOf).toArray 128)); generalize hx3 : World.alloc w2 (.cells (zeros.map cellOf).toArray 128) = w3 at HA1 HB3 ⊢; clear hx3; (try simp only [Act.put, List.setIfInBounds_toArray, List.set_cons_zero, List.set_cons_succ])
          refine hK.out _ _ (⟨cell_on HB3.out hHeld.1, cell_on HB3.out hHeld.2.1, cell_on HB3.out hHeld.2.2⟩) (fun hNew => ?_)
          clear hK K hHeld; (have hHeld := hNew); clear hNew; (try simp only [Act.put, List.setIfInBounds_toArray, List.set_cons_zero, List.set_cons_succ])
          refine aloneH (i := 5) rfl (by kernel_rfl) (fun K hK => ?_)
          rw [if_pos (by rfl)]
          refine wp_alloc_page pageT rfl ?_
          have HA2 := Lib.hid (heap_alloc_new w3 (.cells (zeros.map cellOf).toArray 128)); have HB4 := Lib.hid (below_alloc w3 (.cells (zeros.map cellOf).toArray 128)); generalize hx4 : World.alloc w3 (.cells (zeros.map cellOf).toArray 128) = w4 at HA2 HB4 ⊢; clear hx4; (try simp only [Act.put, List.setIfInBounds_toArray, List.set_cons_zero, List.set_cons_succ])
          refine hK.out _ _ (⟨cell_on HB4.out hHeld.1, cell_on HB4.out hHeld.2.1, cell_on HB4.out hHeld.2.2⟩) (fun hNew => ?_)
          clear hK K hHeld; (have hHeld := hNew); clear hNew; (try simp only [Act.put, List.setIfInBounds_toArray, List.set_cons_zero, List.set_cons_succ])
          refine aloneH (i := 6) rfl (by kernel_rfl) (fun K hK => ?_)
          rw [if_pos (by rfl)]
          have HG1 : Hid (w4.heap[w2.heap.size]? = some (.cells (zeros.map cellOf).toArray 128)) := Lib.hid (heap_on HB4.out HA1.out)
          refine wp_store_page pageT (.tmp 7) (.tmp 23) rfl w2.heap.size rfl (headP s l.length u) (headP_len s l.length u) rfl _ (by simp [zeros]) _ HG1.out ?_
          refine hK.out _ _ (⟨cell_setRow (Nat.ne_of_lt (Nat.lt_of_lt_of_le HLT.out (below_then HB1.out HB2.out).size)) hHeld.1, cell_setRow (Nat.ne_of_lt (Nat.lt_of_lt_of_le HLT.out (below_then HB1.out HB2.out).size)) hHeld.2.1, cell_setRow (Nat.ne_of_lt (Nat.lt_of_lt_of_le HLT.out (below_then HB1.out HB2.out).size)) hHeld.2.2⟩) (fun hNew => ?_)
          clear hK K hHeld; (have hHeld := hNew); clear hNew; (try simp only [Act.put])
          refine aloneH (i := 7) rfl (by kernel_rfl) (fun K hK => ?_)
          rw [if_pos (by rfl)]
          have hne : w3.heap.size ≠ w2.heap.size := (Nat.ne_of_gt (Nat.lt_of_lt_of_le (heapLt HA1.out) (below_same w3).size))
          have HNE := Lib.hid hne
          have HG2 : Hid ((w4.setRow w2.heap.size ((headP s l.length u).map cellOf).toArray).heap[w3.heap.size]? = some (.cells (zeros.map cellOf).toArray 128)) := Lib.hid ((setRow_other _ _ _ _ hne).trans (heap_on (below_same w4) HA2.out))
          clear hne
          refine wp_store_page pageT (.tmp 8) (.tmp 25) rfl w3.heap.size rfl (endP s u) (endP_len s u) rfl _ (by simp [zeros]) _ HG2.out ?_
          refine hK.out _ _ (⟨cell_setRow (Nat.ne_of_lt (Nat.lt_of_lt_of_le HLT.out (below_then (below_then HB1.out HB2.out) HB3.out).size)) hHeld.1, cell_setRow (Nat.ne_of_lt (Nat.lt_of_lt_of_le HLT.out (below_then (below_then HB1.out HB2.out) HB3.out).size)) hHeld.2.1, cell_setRow (Nat.ne_of_lt (Nat.lt_of_lt_of_le HLT.out (below_then (below_then HB1.out HB2.out) HB3.out).size)) hHeld.2.2⟩) (fun hNew => ?_)
          clear hK K hHeld; (have hHeld := hNew); clear hNew; (try simp only [Act.put])
          refine wpAnyH_done (by kernel_rfl) ?_ _
          refine NoPanic.normal ?_
          go_wp2_with fail
          go_meet
          case rel => exact ⟨w2.heap.size, w3.heap.size, rfl, rfl, Lib.hid ((setRow_other _ _ _ _ (Ne.symm HNE.out)).trans (setRow_heap _ _ _ _ _ _ HG1.out)), Lib.hid (setRow_heap _ _ _ _ _ _ HG2.out), Lib.hid (Ne.symm HNE.out), Lib.hid (below_setRow (below_setRow (HBB.out.trans ((below_then (below_then (below_then HB1.out HB2.out) HB3.out) HB4.out).mono HBB.out.size)) (Nat.le_trans HBB.out.size (below_then HB1.out HB2.out).size) _) (Nat.le_trans HBB.out.size (below_then (below_then HB1.out HB2.out) HB3.out).size) _), Lib.hid (Nat.le_trans HBB.out.size (below_then HB1.out HB2.out).size), Lib.hid (Nat.le_trans HBB.out.size (below_then (below_then HB1.out HB2.out) HB3.out).size)⟩
        · rw [if_pos (by rfl)]
          refine wp_alloc_page pageT rfl ?_
          have HA2 := Lib.hid (heap_alloc_new w2 (.cells (zeros.map cellOf).toArray 128)); have HB3 := Lib.hid (below_alloc w2 (.cells (zeros.map cellOf).toArray 128)); generalize hx3 : World.alloc w2 (.cells (zeros.map cellOf).toArray 128) = w3 at HA2 HB3 ⊢; clear hx3; (try simp only [Act.put, List.setIfInBounds_toArray, List.set_cons_zero, List.set_cons_succ])
          refine hK.out _ _ (⟨cell_on HB3.out hHeld.1, cell_on HB3.out hHeld.2.1, cell_on HB3.out hHeld.2.2⟩) (fun hNew => ?_)
          clear hK K hHeld; (have hHeld := hNew); clear hNew; (try simp only [Act.put, List.setIfInBounds_toArray, List.set_cons_zero, List.set_cons_succ])
          refine aloneH (i := 4) rfl (by kernel_rfl) (fun K hK => ?_)
          rw [if_pos (by rfl)]
          refine wp_alloc_page pageT rfl ?_
          have HA1 := Lib.hid (heap_alloc_new w3 (.cells (zeros.map cellOf).toArray 128)); have HB4 := Lib.hid (below_alloc w3 (.cells (zeros.map cellOf).toArray 128)); generalize hx4 : World.alloc w3 (.cells (zeros.map cellOf).toArray 128) = w4 at HA1 HB4 ⊢; clear hx4; (try simp only [Act.put, List.setIfInBounds_toArray, List.set_cons_zero, List.set_cons_succ])
          refine hK.out _ _ (⟨cell_on HB4.out hHeld.1, cell_on HB4.out hHeld.2.1, cell_on HB4.out hHeld.2.2⟩) (fun hNew => ?_)
          clear hK K hHeld; (have hHeld := hNew); clear hNew; (try simp only [Act.put, List.setIfInBounds_toArray, List.set_cons_zero, List.set_cons_succ])
          refine aloneH (i := 6) rfl (by kernel_rfl) (fun K hK => ?_)
          rw [if_pos (by rfl)]
          have HG1 : Hid (w4.heap[w3.heap.size]? = some (.cells (zeros.map cellOf).toArray 128)) := Lib.hid (heap_on (below_same w4) HA1.out)
          refine wp_store_page pageT (.tmp 7) (.tmp 23) rfl w3.heap.size rfl (headP s l.length u) (headP_len s l.length u) rfl _ (by simp [zeros]) _ HG1.out ?_
          refine hK.out _ _ (⟨cell_setRow (Nat.ne_of_lt (Nat.lt_of_lt_of_le HLT.out (below_then (below_then HB1.out HB2.out) HB3.out).size)) hHeld.1, cell_setRow (Nat.ne_of_lt (Nat.lt_of_lt_of_le HLT.out (below_then (below_then HB1.out HB2.out) HB3.out).size)) hHeld.2.1, cell_setRow (Nat.ne_of_lt (Nat.lt_of_lt_of_le HLT.out (below_then (below_then HB1.out HB2.out) HB3.out).size)) hHeld.2.2⟩) (fun hNew => ?_)
          clear hK K hHeld; (have hHeld := hNew); clear hNew; (try simp only [Act.put])
          refine aloneH (i := 7) rfl (by kernel_rfl) (fun K hK => ?_)
          rw [if_pos (by rfl)]
          have hne : w2.heap.size ≠ w3.heap.size := (Nat.ne_of_lt (Nat.lt_of_lt_of_le (heapLt HA2.out) (below_same w3).size))
          have HNE := Lib.hid hne
          have HG2 : Hid ((w4.setRow w3.heap.size ((headP s l.length u).map cellOf).toArray).heap[w2.heap.size]? = some (.cells (zeros.map cellOf).toArray 128)) := Lib.hid ((setRow_other _ _ _ _ hne).trans (heap_on HB4.out HA2.out))
          clear hne
          refine wp_store_page pageT (.tmp 8) (.tmp 25) rfl w2.heap.size rfl (endP s u) (endP_len s u) rfl _ (by simp [zeros]) _ HG2.out ?_
          refine hK.out _ _ (⟨cell_setRow (Nat.ne_of_lt (Nat.lt_of_lt_of_le HLT.out (below_then HB1.out HB2.out).size)) hHeld.1, cell_setRow (Nat.ne_of_lt (Nat.lt_of_lt_of_le HLT.out (below_then HB1.out HB2.out).size)) hHeld.2.1, cell_setRow (Nat.ne_of_lt (Nat.lt_of_lt_of_le HLT.out (below_then HB1.out HB2.out).size)) hHeld.2.2⟩) (fun hNew => ?_)
          clear hK K hHeld; (have hHeld := hNew); clear hNew; (try simp only [Act.put])
          refine wpAnyH_done (by kernel_rfl) ?_ _
          refine NoPanic.normal ?_
          go_wp2_with fail
          go_meet
          case rel => exact ⟨w3.heap.size, w2.heap.size, rfl, rfl, Lib.hid ((setRow_other _ _ _ _ (Ne.symm HNE.out)).trans (setRow_heap _ _ _ _ _ _ HG1.out)), Lib.hid (setRow_heap _ _ _ _ _ _ HG2.out), Lib.hid (Ne.symm HNE.out), Lib.hid (below_setRow (below_setRow (HBB.out.trans ((below_then (below_then (below_then HB1.out HB2.out) HB3.out) HB4.out).mono HBB.out.size)) (Nat.le_trans HBB.out.size (below_then (below_then HB1.out HB2.out) HB3.out).size) _) (Nat.le_trans HBB.out.size (below_then HB1.out HB2.out).size) _), Lib.hid (Nat.le_trans HBB.out.size (below_then (below_then HB1.out HB2.out) HB3.out).size), Lib.hid (Nat.le_trans HBB.out.size (below_then HB1.out HB2.out).size)⟩
      · rw [if_pos (by rfl)]
        refine wp_alloc_page pageT rfl ?_
        have HA1 := Lib.hid (heap_alloc_new w1 (.cells (zeros.map cellOf).toArray 128)); have HB2 := Lib.hid (below_alloc w1 (.cells (zeros.map cellOf).toArray 128)); generalize hx2 : World.alloc w1 (.cells (zeros.map cellOf).toArray 128) = w2 at HA1 HB2 ⊢; clear hx2; (try simp only [Act.put, List.setIfInBounds_toArray, List.set_cons_zero, List.set_cons_succ])
        refine hK.out _ _ (⟨cell_on HB2.out hHeld.1, cell_on HB2.out hHeld.2.1, cell_on HB2.out hHeld.2.2⟩) (fun hNew => ?_)
        clear hK K hHeld; (have hHeld := hNew); clear hNew; (try simp only [Act.put, List.setIfInBounds_toArray, List.set_cons_zero, List.set_cons_succ])
        refine twoH (i := 3) (i2 := 5) rfl rfl (by kernel_rfl) (fun K hK => ?_) (fun K hK => ?_)
        · rw [if_pos (by rfl)]
          go_simp; ((refine (HE2.out w2).mono ?_); (rintro e w3 ⟨rfl, hb⟩); have HB3 := Lib.hid hb; clear hb; (try go_simp))
          refine hK.out _ _ (⟨cell_on HB3.out hHeld.1, cell_on HB3.out hHeld.2.1, cell_on HB3.out hHeld.2.2⟩) (fun hNew => ?_)
          clear hK K hHeld; (have hHeld := hNew); clear hNew; (try simp only [Act.put, List.setIfInBounds_toArray, List.set_cons_zero, List.set_cons_succ])
          refine aloneH (i := 5) rfl (by kernel_rfl) (fun K hK => ?_)
          rw [if_pos (by rfl)]
          refine wp_alloc_page pageT rfl ?_
          have HA2 := Lib.hid (heap_alloc_new w3 (.cells (zeros.map cellOf).toArray 128)); have HB4 := Lib.hid (below_alloc w3 (.cells (zeros.map cellOf).toArray 128)); generalize hx4 : World.alloc w3 (.cells (zeros.map cellOf).toArray 128) = w4 at HA2 HB4 ⊢; clear hx4; (try simp only [Act.put, List.setIfInBounds_toArray, List.set_cons_zero, List.set_cons_succ])
          refine hK.out _ _ (⟨cell_on HB4.out hHeld.1, cell_on HB4.out hHeld.2.1, cell_on HB4.out hHeld.2.2⟩) (fun hNew => ?_)
          clear hK K hHeld; (have hHeld := hNew); clear hNew; (try simp only [Act.put, List.setIfInBounds_toArray, List.set_cons_zero, List.set_cons_succ])
          refine aloneH (i := 6) rfl (by kernel_rfl) (fun K hK => ?_)
          rw [if_pos (by rfl)]
          have HG1 : Hid (w4.heap[w1.heap.size]? = some (.cells (zeros.map cellOf).toArray 128)) := Lib.hid (heap_on (below_then HB3.out HB4.out) HA1.out)
          refine wp_store_page pageT (.tmp 7) (.tmp 23) rfl w1.heap.size rfl (headP s l.length u) (headP_len s l.length u) rfl _ (by simp [zeros]) _ HG1.out ?_
          refine hK.out _ _ (⟨cell_setRow (Nat.ne_of_lt (Nat.lt_of_lt_of_le HLT.out HB1.out.size)) hHeld.1, cell_setRow (Nat.ne_of_lt (Nat.lt_of_lt_of_le HLT.out HB1.out.size)) hHeld.2.1, cell_setRow (Nat.ne_of_lt (Nat.lt_of_lt_of_le HLT.out HB1.out.size)) hHeld.2.2⟩) (fun hNew => ?_)
          clear hK K hHeld; (have hHeld := hNew); clear hNew; (try simp only [Act.put])
          refine aloneH (i := 7) rfl (by kernel_rfl) (fun K hK => ?_)
          rw [if_pos (by rfl)]
          have hne : w3.heap.size ≠ w1.heap.size := (Nat.ne_of_gt (Nat.lt_of_lt_of_le (heapLt HA1.out) HB3.out.size))
          have HNE := Lib.hid hne
          have HG2 : Hid ((w4.setRow w1.heap.size ((headP s l.length u).map cellOf).toArray).heap[w3.heap.size]? = some (.cells (zeros.map cellOf).toArray 128)) := Lib.hid ((setRow_other _ _ _ _ hne).trans (heap_on (below_same w4) HA2.out))
          clear hne
          refine wp_store_page pageT (.tmp 8) (.tmp 25) rfl w3.heap.size rfl (endP s u) (endP_len s u) rfl _ (by simp [zeros]) _ HG2.out ?_
          refine hK.out _ _ (⟨cell_setRow (Nat.ne_of_lt (Nat.lt_of_lt_of_le HLT.out (below_then (below_then HB1.out HB2.out) HB3.out).size)) hHeld.1, cell_setRow (Nat.ne_of_lt (Nat.lt_of_lt_of_le HLT.out (below_then (below_then HB1.out HB2.out) HB3.out).size)) hHeld.2.1, cell_setRow (Nat.ne_of_lt (Nat.lt_of_lt_of_le HLT.out (below_then (below_then HB1.out HB2.out) HB3.out).size)) hHeld.2.2⟩) (fun hNew => ?_)
          clear hK K hHeld; (have hHeld := hNew); clear hNew; (try simp only [Act.put])
          refine wpAnyH_done (by kernel_rfl) ?_ _
          refine NoPanic.normal ?_
          go_wp2_with fail
          go_meet
          case rel => exact ⟨w1.heap.size, w3.heap.size, rfl, rfl, Lib.hid ((setRow_other _ _ _ _ (Ne.symm HNE.out)).trans (setRow_heap _ _ _ _ _ _ HG1.out)), Lib.hid (setRow_heap _ _ _ _ _ _ HG2.out), Lib.hid (Ne.symm HNE.out), Lib.hid (below_setRow (below_setRow (HBB.out.trans ((below_then (below_then (below_then HB1.out HB2.out) HB3.out) HB4.out).mono HBB.out.size)) (Nat.le_trans HBB.out.size HB1.out.size) _) (Nat.le_trans HBB.out.size (below_then (below_then HB1.out HB2.out) HB3.out).size) _), Lib.hid (Nat.le_trans HBB.out.size HB1.out.size), Lib.hid (Nat.le_trans HBB.out.size (below_then (below_then HB1.out HB2.out) HB3.out).size)⟩
        · rw [if_pos (by rfl)]
          refine wp_alloc_page pageT rfl ?_
          have HA2 := Lib.hid (heap_alloc_new w2 (.cells (zeros.map cellOf).toArray 128)); have HB3 := Lib.hid (below_alloc w2 (.cells (zeros.map cellOf).toArray 128)); generalize hx3 : World.alloc w2 (.cells (zeros.map cellOf).toArray 128) = w3 at HA2 HB3 ⊢; clear hx3; (try simp only [Act.put, List.setIfInBounds_toArray, List.set_cons_zero, List.set_cons_succ])
          refine hK.out _ _ (⟨cell_on HB3.out hHeld.1, cell_on HB3.out hHeld.2.1, cell_on HB3.out hHeld.2.2⟩) (fun hNew => ?_)
          clear hK K hHeld; (have hHeld := hNew); clear hNew; (try simp only [Act.put, List.setIfInBounds_toArray, List.set_cons_zero, List.set_cons_succ])
          refine aloneH (i := 3) rfl (by kernel_rfl) (fun K hK => ?_)
          rw [if_pos (by rfl)]
          go_simp; ((refine (HE2.out w3).mono ?_); (rintro e w4 ⟨rfl, hb⟩); have HB4 := Lib.hid hb; clear hb; (try go_simp))
          refine hK.out _ _ (⟨cell_on HB4.out hHeld.1, cell_on HB4.out hHeld.2.1, cell_on HB4.out hHeld.2.2⟩) (fun hNew => ?_)
          clear hK K hHeld; (have hHeld := hNew); clear hNew; (try simp only [Act.put, List.setIfInBounds_toArray, List.set_cons_zero, List.set_cons_succ])
          refine aloneH (i := 6) rfl (by kernel_rfl) (fun K hK => ?_)
          rw [if_pos (by rfl)]
          have HG1 : Hid (w4.heap[w1.heap.size]? = some (.cells (zeros.map cellOf).toArray 128)) := Lib.hid (heap_on (below_then HB3.out HB4.out) HA1.out)
          refine wp_store_page pageT (.tmp 7) (.tmp 23) rfl w1.heap.size rfl (headP s l.length u) (headP_len s l.length u) rfl _ (by simp [zeros]) _ HG1.out ?_
          refine hK.out _ _ (⟨cell_setRow (Nat.ne_of_lt (Nat.lt_of_lt_of_le HLT.out HB1.out.size)) hHeld.1, cell_setRow (Nat.ne_of_lt (Nat.lt_of_lt_of_le HLT.out HB1.out.size)) hHeld.2.1, cell_setRow (Nat.ne_of_lt (Nat.lt_of_lt_of_le HLT.out HB1.out.size)) hHeld.2.2⟩) (fun hNew => ?_)
          clear hK K hHeld; (have hHeld := hNew); clear hNew; (try simp only [Act.put])
          refine aloneH (i := 7) rfl (by kernel_rfl) (fun K hK => ?_)
          rw [if_pos (by rfl)]
          have hne : w2.heap.size ≠ w1.heap.size := (Nat.ne_of_gt (Nat.lt_of_lt_of_le (heapLt HA1.out) (below_same w2).size))
          have HNE := Lib.hid hne
          have HG2 : Hid ((w4.setRow w1.heap.size ((headP s l.length u).map cellOf).toArray).heap[w2.heap.size]? = some (.cells (zeros.map cellOf).toArray 128)) := Lib.hid ((setRow_other _ _ _ _ hne).trans (heap_on HB4.out HA2.out))
          clear hne
          refine wp_store_page pageT (.tmp 8) (.tmp 25) rfl w2.heap.size rfl (endP s u) (endP_len s u) rfl _ (by simp [zeros]) _ HG2.out ?_
          refine hK.out _ _ (⟨cell_setRow (Nat.ne_of_lt (Nat.lt_of_lt_of_le HLT.out (below_then HB1.out HB2.out).size)) hHeld.1, cell_setRow (Nat.ne_of_lt (Nat.lt_of_lt_of_le HLT.out (below_then HB1.out HB2.out).size)) hHeld.2.1, cell_setRow (Nat.ne_of_lt (Nat.lt_of_lt_of_le HLT.out (below_then HB1.out HB2.out).size)) hHeld.2.2⟩) (fun hNew => ?_)
          clear hK K hHeld; (have hHeld := hNew); clear hNew; (try simp only [Act.put])
          refine wpAnyH_done (by kernel_rfl) ?_ _
          refine NoPanic.normal ?_
          go_wp2_with fail
          go_meet
          case rel => exact ⟨w1.heap.size, w2.heap.size, rfl, rfl, Lib.hid ((setRow_other _ _ _ _ (Ne.symm HNE.out)).trans (setRow_heap _ _ _ _ _ _ HG1.out)), Lib.hid (setRow_heap _ _ _ _ _ _ HG2.out), Lib.hid (Ne.symm HNE.out), Lib.hid (below_setRow (below_setRow (HBB.out.trans ((below_then (below_then (below_then HB1.out HB2.out) HB3.out) HB4.out).mono HBB.out.size)) (Nat.le_trans HBB.out.size HB1.out.size) _) (Nat.le_trans HBB.out.size (below_then HB1.out HB2.out).size) _), Lib.hid (Nat.le_trans HBB.out.size HB1.out.size), Lib.hid (Nat.le_trans HBB.out.size (below_then HB1.out HB2.out).size)⟩
      · rw [if_pos (by rfl)]
        refine wp_alloc_page pageT rfl ?_
        have HA2 := Lib.hid (heap_alloc_new w1 (.cells (zeros.map cellOf).toArray 128)); have HB2 := Lib.hid (below_alloc w1 (.cells (zeros.map cellOf).toArray 128)); generalize hx2 : World.alloc w1 (.cells (zeros.map cellOf).toArray 128) = w2 at HA2 HB2 ⊢; clear hx2; (try simp only [Act.put, List.setIfInBounds_toArray, List.set_cons_zero, List.set_cons_succ])
        refine hK.out _ _ (⟨cell_on HB2.out hHeld.1, cell_on HB2.out hHeld.2.1, cell_on HB2.out hHeld.2.2⟩) (fun hNew => ?_)
        clear hK K hHeld; (have hHeld := hNew); clear hNew; (try simp only [Act.put, List.setIfInBounds_toArray, List.set_cons_zero, List.set_cons_succ])
        refine twoH (i := 3) (i2 := 4) rfl rfl (by kernel_rfl) (fun K hK => ?_) (fun K hK => ?_)
        · rw [if_pos (by rfl)]
          go_simp; ((refine (HE2.out w2).mono ?_); (rintro e w3 ⟨rfl, hb⟩); have HB3 := Lib.hid hb; clear hb; (try go_simp))
          refine hK.out _ _ (⟨cell_on HB3.out hHeld.1, cell_on HB3.out hHeld.2.1, cell_on HB3.out hHeld.2.2⟩) (fun hNew => ?_)
          clear hK K hHeld; (have hHeld := hNew); clear hNew; (try simp only [Act.put, List.setIfInBounds_toArray, List.set_cons_zero, List.set_cons_succ])
          refine aloneH (i := 4) rfl (by kernel_rfl) (fun K hK => ?_)
          rw [if_pos (by rfl)]
          refine wp_alloc_page pageT rfl ?_
          have HA1 := Lib.hid (heap_alloc_new w3 (.cells (zeros.map cellOf).toArray 128)); have HB4 := Lib.hid (below_alloc w3 (.cells (zeros.map cellOf).toArray 128)); generalize hx4 : World.alloc w3 (.cells (zeros.map cellOf).toArray 128) = w4 at HA1 HB4 ⊢; clear hx4; (try simp only [Act.put, List.setIfInBounds_toArray, List.set_cons_zero, List.set_cons_succ])
          refine hK.out _ _ (⟨cell_on HB4.out hHeld.1, cell_on HB4.out hHeld.2.1, cell_on HB4.out hHeld.2.2⟩) (fun hNew => ?_)
          clear hK K hHeld; (have hHeld := hNew); clear hNew; (try simp only [Act.put, List.setIfInBounds_toArray, List.set_cons_zero, List.set_cons_succ])
          refine aloneH (i := 6) rfl (by kernel_rfl) (fun K hK => ?_)
          rw [if_pos (by rfl)]
          have HG1 : Hid (w4.heap[w3.heap.size]? = some (.cells (zeros.map cellOf).toArray 128)) := Lib.hid (heap_on (below_same w4) HA1.out)
          refine wp_store_page pageT (.tmp 7) (.tmp 23) rfl w3.heap.size rfl (headP s l.length u) (headP_len s l.length u) rfl _ (by simp [zeros]) _ HG1.out ?_
          refine hK.out _ _ (⟨cell_setRow (Nat.ne_of_lt (Nat.lt_of_lt_of_le HLT.out (below_then (below_then HB1.out HB2.out) HB3.out).size)) hHeld.1, cell_setRow (Nat.ne_of_lt (Nat.lt_of_lt_of_le HLT.out (below_then (below_then HB1.out HB2.out) HB3.out).size)) hHeld.2.1, cell_setRow (Nat.ne_of_lt (Nat.lt_of_lt_of_le HLT.out (below_then (below_then HB1.out HB2.out) HB3.out).size)) hHeld.2.2⟩) (fun hNew => ?_)
          clear hK K hHeld; (have hHeld := hNew); clear hNew; (try simp only [Act.put])
          refine aloneH (i := 7) rfl (by kernel_rfl) (fun K hK => ?_)
          rw [if_pos (by rfl)]
          have hne : w1.heap.size ≠ w3.heap.size := (Nat.ne_of_lt (Nat.lt_of_lt_of_le (heapLt HA2.out) HB3.out.size))
          have HNE := Lib.hid hne
          have HG2 : Hid ((w4.setRow w3.heap.size ((headP s l.length u).map cellOf).toArray).heap[w1.heap.size]? = some (.cells (zeros.map cellOf).toArray 128)) := Lib.hid ((setRow_other _ _ _ _ hne).trans (heap_on (below_then HB3.out HB4.out) HA2.out))
          clear hne
          refine wp_store_page pageT (.tmp 8) (.tmp 25) rfl w1.heap.size rfl (endP s u) (endP_len s u) rfl _ (by simp [zeros]) _ HG2.out ?_
          refine hK.out _ _ (⟨cell_setRow (Nat.ne_of_lt (Nat.lt_of_lt_of_le HLT.out HB1.out.size)) hHeld.1, cell_setRow (Nat.ne_of_lt (Nat.lt_of_lt_of_le HLT.out HB1.out.size)) hHeld.2.1, cell_setRow (Nat.ne_of_lt (Nat.lt_of_lt_of_le HLT.out HB1.out.size)) hHeld.2.2⟩) (fun hNew => ?_)
          clear hK K hHeld; (have hHeld := hNew); clear hNew; (try simp only [Act.put])
          refine wpAnyH_done (by kernel_rfl) ?_ _
          refine NoPanic.normal ?_
          go_wp2_with fail
          go_meet
          case rel => exact ⟨w3.heap.size, w1.heap.size, rfl, rfl, Lib.hid ((setRow_other _ _ _ _ (Ne.symm HNE.out)).trans (setRow_heap _ _ _ _ _ _ HG1.out)), Lib.hid (setRow_heap _ _ _ _ _ _ HG2.out), Lib.hid (Ne.symm HNE.out), Lib.hid (below_setRow (below_setRow (HBB.out.trans ((below_then (below_then (below_then HB1.out HB2.out) HB3.out) HB4.out).mono HBB.out.size)) (Nat.le_trans HBB.out.size (below_then (below_then HB1.out HB2.out) HB3.out).size) _) (Nat.le_trans HBB.out.size HB1.out.size) _), Lib.hid (Nat.le_trans HBB.out.size (below_then (below_then HB1.out HB2.out) HB3.out).size), Lib.hid (Nat.le_trans HBB.out.size HB1.out.size)⟩
        · rw [if_pos (by rfl)]
          refine wp_alloc_page pageT rfl ?_
          have HA1 := Lib.hid (heap_alloc_new w2 (.cells (zeros.map cellOf).toArray 128)); have HB3 := Lib.hid (below_alloc w2 (.cells (zeros.map cellOf).toArray 128)); generalize hx3 : World.alloc w2 (.cells (zeros.map cellOf).toArray 128) = w3 at HA1 HB3 ⊢; clear hx3; (try simp only [Act.put, List.setIfInBounds_toArray, List.set_cons_zero, List.set_cons_succ])
          refine hK.out _ _ (⟨cell_on HB3.out hHeld.1, cell_on HB3.out hHeld.2.1, cell_on HB3.out hHeld.2.2⟩) (fun hNew => ?_)
          clear hK K hHeld; (have hHeld := hNew); clear hNew; (try simp only [Act.put, List.setIfInBounds_toArray, List.set_cons_zero, List.set_cons_succ])
          refine aloneH (i := 3) rfl (by kernel_rfl) (fun K hK => ?_)
          rw [if_pos (by rfl)]
          go_simp; ((refine (HE2.out w3).mono ?_); (rintro e w4 ⟨rfl, hb⟩); have HB4 := Lib.hid hb; clear hb; (try go_simp))
          refine hK.out _ _ (⟨cell_on HB4.out hHeld.1, cell_on HB4.out hHeld.2.1, cell_on HB4.out hHeld.2.2⟩) (fun hNew => ?_)
          clear hK K hHeld; (have hHeld := hNew); clear hNew; (try simp only [Act.put, List.setIfInBounds_toArray, List.set_cons_zero, List.set_cons_succ])
          refine aloneH (i := 6) rfl (by kernel_rfl) (fun K hK => ?_)
          rw [if_pos (by rfl)]
          have HG1 : Hid (w4.heap[w2.heap.size]? = some (.cells (zeros.map cellOf).toArray 128)) := Lib.hid (heap_on HB4.out HA1.out)
          refine wp_store_page pageT (.tmp 7) (.tmp 23) rfl w2.heap.size rfl (headP s l.length u) (headP_len s l.length u) rfl _ (by simp [zeros]) _ HG1.out ?_
          refine hK.out _ _ (⟨cell_setRow (Nat.ne_of_lt (Nat.lt_of_lt_of_le HLT.out (below_then HB1.out HB2.out).size)) hHeld.1, cell_setRow (Nat.ne_of_lt (Nat.lt_of_lt_of_le HLT.out (below_then HB1.out HB2.out).size)) hHeld.2.1, cell_setRow (Nat.ne_of_lt (Nat.lt_of_lt_of_le HLT.out (below_then HB1.out HB2.out).size)) hHeld.2.2⟩) (fun hNew => ?_)
          clear hK K hHeld; (have hHeld := hNew); clear hNew; (try simp only [Act.put])
          refine aloneH (i := 7) rfl (by kernel_rfl) (fun K hK => ?_)
          rw [if_pos (by rfl)]
          have hne : w1.heap.size ≠ w2.heap.size := (Nat.ne_of_lt (Nat.lt_of_lt_of_le (heapLt HA2.out) (below_same w2).size))
          have HNE := Lib.hid hne
          have HG2 : Hid ((w4.setRow w2.heap.size ((headP s l.length u).map cellOf).toArray).heap[w1.heap.size]? = some (.cells (zeros.map cellOf).toArray 128)) := Lib.hid ((setRow_other _ _ _ _ hne).trans (heap_on (below_then HB3.out HB4.out) HA2.out))
          clear hne
          refine wp_store_page pageT (.tmp 8) (.tmp 25) rfl w1.heap.size rfl (endP s u) (endP_len s u) rfl _ (by simp [zeros]) _ HG2.out ?_
          refine hK.out _ _ (⟨cell_setRow (Nat.ne_of_lt (Nat.lt_of_lt_of_le HLT.out HB1.out.size)) hHeld.1, cell_setRow (Nat.ne_of_lt (Nat.lt_of_lt_of_le HLT.out HB1.out.size)) hHeld.2.1, cell_setRow (Nat.ne_of_lt (Nat.lt_of_lt_of_le HLT.out HB1.out.size)) hHeld.2.2⟩) (fun hNew => ?_)
          clear hK K hHeld; (have hHeld := hNew); clear hNew; (try simp only [Act.put])
          refine wpAnyH_done (by kernel_rfl) ?_ _
          refine NoPanic.normal ?_
          go_wp2_with fail
          go_meet
          case rel => exact ⟨w2.heap.size, w1.heap.size, rfl, rfl, Lib.hid ((setRow_other _ _ _ _ (Ne.symm HNE.out)).trans (setRow_heap _ _ _ _ _ _ HG1.out)), Lib.hid (setRow_heap _ _ _ _ _ _ HG2.out), Lib.hid (Ne.symm HNE.out), Lib.hid (below_setRow (below_setRow (HBB.out.trans ((below_then (below_then (below_then HB1.out HB2.out) HB3.out) HB4.out).mono HBB.out.size)) (Nat.le_trans HBB.out.size (below_then HB1.out HB2.out).size) _) (Nat.le_trans HBB.out.size HB1.out.size) _), Lib.hid (Nat.le_trans HBB.out.size (below_then HB1.out HB2.out).size), Lib.hid (Nat.le_trans HBB.out.size HB1.out.size)⟩
    · rw [if_pos (by rfl)]
      refine wp_alloc_page pageT rfl ?_
      have HA1 := Lib.hid (heap_alloc_new w0 (.cells (zeros.map cellOf).toArray 128)); have HB1 := Lib.hid (below_alloc w0 (.cells (zeros.map cellOf).toArray 128)); generalize hx1 : World.alloc w0 (.cells (zeros.map cellOf).toArray 128) = w1 at HA1 HB1 ⊢; clear hx1; (try simp only [Act.put, List.setIfInBounds_toArray, List.set_cons_zero, List.set_cons_succ])
      refine hK.out _ _ (⟨cell_on HB1.out hHeld.1, cell_on HB1.out hHeld.2.1, cell_on HB1.out hHeld.2.2⟩) (fun hNew => ?_)
      clear hK K hHeld; (have hHeld := hNew); clear hNew; (try simp only [Act.put, List.setIfInBounds_toArray, List.set_cons_zero, List.set_cons_succ])
      refine twoH (i := 1) (i2 := 5) rfl rfl (by kernel_rfl) (fun K hK => ?_) (fun K hK => ?_)
      · rw [if_pos (by rfl)]
        go_simp; ((refine (HE1.out w1).mono ?_); (rintro e w2 ⟨rfl, hb⟩); have HB2 := Lib.hid hb; clear hb; (try go_simp))
        refine hK.out _ _ (⟨cell_on HB2.out hHeld.1, cell_on HB2.out hHeld.2.1, cell_on HB2.out hHeld.2.2⟩) (fun hNew => ?_)
        clear hK K hHeld; (have hHeld := hNew); clear hNew; (try simp only [Act.put, List.setIfInBounds_toArray, List.set_cons_zero, List.set_cons_succ])
        refine twoH (i := 3) (i2 := 5) rfl rfl (by kernel_rfl) (fun K hK => ?_) (fun K hK => ?_)
        · rw [if_pos (by rfl)]
          go_simp; ((refine (HE2.out w2).mono ?_); (rintro e w3 ⟨rfl, hb⟩); have HB3 := Lib.hid hb; clear hb; (try go_simp))
          refine hK.out _ _ (⟨cell_on HB3.out hHeld.1, cell_on HB3.out hHeld.2.1, cell_on HB3.out hHeld.2.2⟩) (fun hNew => ?_)
          clear hK K hHeld; (have hHeld := hNew); clear hNew; (try simp only [Act.put, List.setIfInBounds_toArray, List.set_cons_zero, List.set_cons_succ])
          refine aloneH (i := 5) rfl (by kernel_rfl) (fun K hK => ?_)
          rw [if_pos (by rfl)]
          refine wp_alloc_page pageT rfl ?_
          have HA2 := Lib.hid (heap_alloc_new w3 (.cells (zeros.map cellOf).toArray 128)); have HB4 := Lib.hid (below_alloc w3 (.cells (zeros.map cellOf).toArray 128)); generalize hx4 : World.alloc w3 (.cells (zeros.map cellOf).toArray 128) = w4 at HA2 HB4 ⊢; clear hx4; (try simp only [Act.put, List.setIfInBounds_toArray, List.set_cons_zero, List.set_cons_succ])
          refine hK.out _ _ (⟨cell_on HB4.out hHeld.1, cell_on HB4.out hHeld.2.1, cell_on HB4.out hHeld.2.2⟩) (fun hNew => ?_)
          clear hK K hHeld; (have hHeld := hNew); clear hNew; (try simp only [Act.put, List.setIfInBounds_toArray, List.set_cons_zero, List.set_cons_succ])
          refine aloneH (i := 6) rfl (by kernel_rfl) (fun K hK => ?_)
          rw [if_pos (by rfl)]
          have HG1 : Hid (w4.heap[w0.heap.size]? = some (.cells (zeros.map cellOf).toArray 128)) := Lib.hid (heap_on (below_then (below_then HB2.out HB3.out) HB4.out) HA1.out)
          refine wp_store_page pageT (.tmp 7) (.tmp 23) rfl w0.heap.size rfl (headP s l.length u) (headP_len s l.length u) rfl _ (by simp [zeros]) _ HG1.out ?_
          refine hK.out _ _ (⟨cell_setRow (Nat.ne_of_lt (Nat.lt_of_lt_of_le HLT.out (below_same w0).size)) hHeld.1, cell_setRow (Nat.ne_of_lt (Nat.lt_of_lt_of_le HLT.out (below_same w0).size)) hHeld.2.1, cell_setRow (Nat.ne_of_lt (Nat.lt_of_lt_of_le HLT.out (below_same w0).size)) hHeld.2.2⟩) (fun hNew => ?_)
          clear hK K hHeld; (have hHeld := hNew); clear hNew; (try simp only [Act.put])
          refine aloneH (i := 7) rfl (by kernel_rfl) (fun K hK => ?_)
          rw [if_pos (by rfl)]
          have hne : w3.heap.size ≠ w0.heap.size := (Nat.ne_of_gt (Nat.lt_of_lt_of_le (heapLt HA1.out) (below_then HB2.out HB3.out).size))
          have HNE := Lib.hid hne
          have HG2 : Hid ((w4.setRow w0.heap.size ((headP s l.length u).map cellOf).toArray).heap[w3.heap.size]? = some (.cells (zeros.map cellOf).toArray 128)) := Lib.hid ((setRow_other _ _ _ _ hne).trans (heap_on (below_same w4) HA2.out))
          clear hne
          refine wp_store_page pageT (.tmp 8) (.tmp 25) rfl w3.heap.size rfl (endP s u) (endP_len s u) rfl _ (by simp [zeros]) _ HG2.out ?_
          refine hK.out _ _ (⟨cell_setRow (Nat.ne_of_lt (Nat.lt_of_lt_of_le HLT.out (below_then (below_then HB1.out HB2.out) HB3.out).size)) hHeld.1, cell_setRow (Nat.ne_of_lt (Nat.lt_of_lt_of_le HLT.out (below_then (below_then HB1.out HB2.out) HB3.out).size)) hHeld.2.1, cell_setRow (Nat.ne_of_lt (Nat.lt_of_lt_of_le HLT.out (below_then (below_then HB1.out HB2.out) HB3.out).size)) hHeld.2.2⟩) (fun hNew => ?_)
          clear hK K hHeld; (have hHeld := hNew); clear hNew; (try simp only [Act.put])
          refine wpAnyH_done (by kernel_rfl) ?_ _
          refine NoPanic.normal ?_
          go_wp2_with fail
          go_meet
          case rel => exact ⟨w0.heap.size, w3.heap.size, rfl, rfl, Lib.hid ((setRow_other _ _ _ _ (Ne.symm HNE.out)).trans (setRow_heap _ _ _ _ _ _ HG1.out)), Lib.hid (setRow_heap _ _ _ _ _ _ HG2.out), Lib.hid (Ne.symm HNE.out), Lib.hid (below_setRow (below_setRow (HBB.out.trans ((below_then (below_then (below_then HB1.out HB2.out) HB3.out) HB4.out).mono HBB.out.size)) (Nat.le_trans HBB.out.size (below_same w0).size) _) (Nat.le_trans HBB.out.size (below_then (below_then HB1.out HB2.out) HB3.out).size) _), Lib.hid (Nat.le_trans HBB.out.size (below_same w0).size), Lib.hid (Nat.le_trans HBB.out.size (below_then (below_then HB1.out HB2.out) HB3.out).size)⟩
        · rw [if_pos (by rfl)]
          refine wp_alloc_page pageT rfl ?_
          have HA2 := Lib.hid (heap_alloc_new w2 (.cells (zeros.map cellOf).toArray 128)); have HB3 := Lib.hid (below_alloc w2 (.cells (zeros.map cellOf).toArray 128)); generalize hx3 : World.alloc w2 (.cells (zeros.map cellOf).toArray 128) = w3 at HA2 HB3 ⊢; clear hx3; (try simp only [Act.put, List.setIfInBounds_toArray, List.set_cons_zero, List.set_cons_succ])
          refine hK.out _ _ (⟨cell_on HB3.out hHeld.1, cell_on HB3.out hHeld.2.1, cell_on HB3.out hHeld.2.2⟩) (fun hNew => ?_)
          clear hK K hHeld; (have hHeld := hNew); clear hNew; (try simp only [Act.put, List.setIfInBounds_toArray, List.set_cons_zero, List.set_cons_succ])
          refine aloneH (i := 3) rfl (by kernel_rfl) (fun K hK => ?_)
          rw [if_pos (by rfl)]
          go_simp; ((refine (HE2.out w3).mono ?_); (rintro e w4 ⟨rfl, hb⟩); have HB4 := Lib.hid hb; clear hb; (try go_simp))
          refine hK.out _ _ (⟨cell_on HB4.out hHeld.1, cell_on HB4.out hHeld.2.1, cell_on HB4.out hHeld.2.2⟩) (fun hNew => ?_)
          clear hK K hHeld; (have hHeld := hNew); clear hNew; (try simp only [Act.put, List.setIfInBounds_toArray, List.set_cons_zero, List.set_cons_succ])
          refine aloneH (i := 6) rfl (by kernel_rfl) (fun K hK => ?_)
          rw [if_pos (by rfl)]
          have HG1 : Hid (w4.heap[w0.heap.size]? = some (.cells (zeros.map cellOf).toArray 128)) := Lib.hid (heap_on (below_then (below_then HB2.out HB3.out) HB4.out) HA1.out)
          refine wp_store_page pageT (.tmp 7) (.tmp 23) rfl w0.heap.size rfl (headP s l.length u) (headP_len s l.length u) rfl _ (by simp [zeros]) _ HG1.out ?_
          refine hK.out _ _ (⟨cell_setRow (Nat.ne_of_lt (Nat.lt_of_lt_of_le HLT.out (below_same w0).size)) hHeld.1, cell_setRow (Nat.ne_of_lt (Nat.lt_of_lt_of_le HLT.out (below_same w0).size)) hHeld.2.1, cell_setRow (Nat.ne_of_lt (Nat.lt_of_lt_of_le HLT.out (below_same w0).size)) hHeld.2.2⟩) (fun hNew => ?_)
          clear hK K hHeld; (have hHeld := hNew); clear hNew; (try simp only [Act.put])
          refine aloneH (i := 7) rfl (by kernel_rfl) (fun K hK => ?_)
          rw [if_pos (by rfl)]
          have hne : w2.heap.size ≠ w0.heap.size := (Nat.ne_of_gt (Nat.lt_of_lt_of_le (heapLt HA1.out) HB2.out.size))
          have HNE := Lib.hid hne
          have HG2 : Hid ((w4.setRow w0.heap.size ((headP s l.length u).map cellOf).toArray).heap[w2.heap.size]? = some (.cells (zeros.map cellOf).toArray 128)) := Lib.hid ((setRow_other _ _ _ _ hne).trans (heap_on HB4.out HA2.out))
          clear hne
          refine wp_store_page pageT (.tmp 8) (.tmp 25) rfl w2.heap.size rfl (endP s u) (endP_len s u) rfl _ (by simp [zeros]) _ HG2.out ?_
          refine hK.out _ _ (⟨cell_setRow (Nat.ne_of_lt (Nat.lt_of_lt_of_le HLT.out (below_then HB1.out HB2.out).size)) hHeld.1, cell_setRow (Nat.ne_of_lt (Nat.lt_of_lt_of_le HLT.out (below_then HB1.out HB2.out).size)) hHeld.2.1, cell_setRow (Nat.ne_of_lt (Nat.lt_of_lt_of_le HLT.out (below_then HB1.out HB2.out).size)) hHeld.2.2⟩) (fun hNew => ?_)
          clear hK K hHeld; (have hHeld := hNew); clear hNew; (try simp only [Act.put])
          refine wpAnyH_done (by kernel_rfl) ?_ _
          refine NoPanic.normal ?_
          go_wp2_with fail
          go_meet
          case rel => exact ⟨w0.heap.size, w2.heap.size, rfl, rfl, Lib.hid ((setRow_other _ _ _ _ (Ne.symm HNE.out)).trans (setRow_heap _ _ _ _ _ _ HG1.out)), Lib.hid (setRow_heap _ _ _ _ _ _ HG2.out), Lib.hid (Ne.symm HNE.out), Lib.hid (below_setRow (below_setRow (HBB.out.trans ((below_then (below_then (below_then HB1.out HB2.out) HB3.out) HB4.out).mono HBB.out.size)) (Nat.le_trans HBB.out.size (below_same w0).size) _) (Nat.le_trans HBB.out.size (below_then HB1.out HB2.out).size) _), Lib.hid (Nat.le_trans HBB.out.size (below_same w0).size), Lib.hid (Nat.le_trans HBB.out.size (below_then HB1.out HB2.out).size)⟩
      · rw [if_pos (by rfl)]
        refine wp_alloc_page pageT rfl ?_
        have HA2 := Lib.hid (heap_alloc_new w1 (.cells (zeros.map cellOf).toArray 128)); have HB2 := Lib.hid (below_alloc w1 (.cells (zeros.map cellOf).toArray 128)); generalize hx2 : World.alloc w1 (.cells (zeros.map cellOf).toArray 128) = w2 at HA2 HB2 ⊢; clear hx2; (try simp only [Act.put, List.setIfInBounds_toArray, List.set_cons_zero, List.set_cons_succ])
        refine hK.out _ _ (⟨cell_on HB2.out hHeld.1, cell_on HB2.out hHeld.2.1, cell_on HB2.out hHeld.2.2⟩) (fun hNew => ?_)
        clear hK K hHeld; (have hHeld := hNew); clear hNew; (try simp only [Act.put, List.setIfInBounds_toArray, List.set_cons_zero, List.set_cons_succ])
        refine aloneH (i := 1) rfl (by kernel_rfl) (fun K hK => ?_)
        rw [if_pos (by rfl)]
        go_simp; ((refine (HE1.out w2).mono ?_); (rintro e w3 ⟨rfl, hb⟩); have HB3 := Lib.hid hb; clear hb; (try go_simp))
        refine hK.out _ _ (⟨cell_on HB3.out hHeld.1, cell_on HB3.out hHeld.2.1, cell_on HB3.out hHeld.2.2⟩) (fun hNew => ?_)
        clear hK K hHeld; (have hHeld := hNew); clear hNew; (try simp only [Act.put, List.setIfInBounds_toArray, List.set_cons_zero, List.set_cons_succ])
        refine aloneH (i := 3) rfl (by kernel_rfl) (fun K hK => ?_)
        rw [if_pos (by rfl)]
        go_simp; ((refine (HE2.out w3).mono ?_); (rintro e w4 ⟨rfl, hb⟩); have HB4 := Lib.hid hb; clear hb; (try go_simp))
        refine hK.out _ _ (⟨cell_on HB4.out hHeld.1, cell_on HB4.out hHeld.2.1, cell_on HB4.out hHeld.2.2⟩) (fun hNew => ?_)
        clear hK K hHeld; (have hHeld := hNew); clear hNew; (try simp only [Act.put, List.setIfInBounds_toArray, List.set_cons_zero, List.set_cons_succ])
        refine aloneH (i := 6) rfl (by kernel_rfl) (fun K hK => ?_)
        rw [if_pos (by rfl)]
        have HG1 : Hid (w4.heap[w0.heap.size]? = some (.cells (zeros.map cellOf).toArray 128)) := Lib.hid (heap_on (below_then (below_then HB2.out HB3.out) HB4.out) HA1.out)
        refine wp_store_page pageT (.tmp 7) (.tmp 23) rfl w0.heap.size rfl (headP s l.length u) (headP_len s l.length u) rfl _ (by simp [zeros]) _ HG1.out ?_
        refine hK.out _ _ (⟨cell_setRow (Nat.ne_of_lt (Nat.lt_of_lt_of_le HLT.out (below_same w0).size)) hHeld.1, cell_setRow (Nat.ne_of_lt (Nat.lt_of_lt_of_le HLT.out (below_same w0).size)) hHeld.2.1, cell_setRow (Nat.ne_of_lt (Nat.lt_of_lt_of_le HLT.out (below_same w0).size)) hHeld.2.2⟩) (fun hNew => ?_)
        clear hK K hHeld; (have hHeld := hNew); clear hNew; (try simp only [Act.put])
        refine aloneH (i := 7) rfl (by kernel_rfl) (fun K hK => ?_)
        rw [if_pos (by rfl)]
        have hne : w1.heap.size ≠ w0.heap.size := (Nat.ne_of_gt (Nat.lt_of_lt_of_le (heapLt HA1.out) (below_same w1).size))
        have HNE := Lib.hid hne
        have HG2 : Hid ((w4.setRow w0.heap.size ((headP s l.length u).map cellOf).toArray).heap[w1.heap.size]? = some (.cells (zeros.map cellOf).toArray 128)) := Lib.hid ((setRow_other _ _ _ _ hne).trans (heap_on (below_then HB3.out HB4.out) HA2.out))
        clear hne
        refine wp_store_page pageT (.tmp 8) (.tmp 25) rfl w1.heap.size rfl (endP s u) (endP_len s u) rfl _ (by simp [zeros]) _ HG2.out ?_
        refine hK.out _ _ (⟨cell_setRow (Nat.ne_of_lt (Nat.lt_of_lt_of_le HLT.out HB1.out.size)) hHeld.1, cell_setRow (Nat.ne_of_lt (Nat.lt_of_lt_of_le HLT.out HB1.out.size)) hHeld.2.1, cell_setRow (Nat.ne_of_lt (Nat.lt_of_lt_of_le HLT.out HB1.out.size)) hHeld.2.2⟩) (fun hNew => ?_)
        clear hK K hHeld; (have hHeld := hNew); clear hNew; (try simp only [Act.put])
        refine wpAnyH_done (by kernel_rfl) ?_ _
        refine NoPanic.normal ?_
        go_wp2_with fail
        go_meet
        case rel => exact ⟨w0.heap.size, w1.heap.size, rfl, rfl, Lib.hid ((setRow_other _ _ _ _ (Ne.symm HNE.out)).trans (setRow_heap _ _ _ _ _ _ HG1.out)), Lib.hid (setRow_heap _ _ _ _ _ _ HG2.out), Lib.hid (Ne.symm HNE.out), Lib.hid (below_setRow (below_setRow (HBB.out.trans ((below_then (below_then (below_then HB1.out HB2.out) HB3.out) HB4.out).mono HBB.out.size)) (Nat.le_trans HBB.out.size (below_same w0).size) _) (Nat.le_trans HBB.out.size HB1.out.size) _), Lib.hid (Nat.le_trans HBB.out.size (below_same w0).size), Lib.hid (Nat.le_trans HBB.out.size HB1.out.size)⟩
    · rw [if_pos (by rfl)]
      refine wp_alloc_page pageT rfl ?_
      have HA2 := Lib.hid (heap_alloc_new w0 (.cells (zeros.map cellOf).toArray 128)); have HB1 := Lib.hid (below_alloc w0 (.cells (zeros.map cellOf).toArray 128)); generalize hx1 : World.alloc w0 (.cells (zeros.map cellOf).toArray 128) = w1 at HA2 HB1 ⊢; clear hx1; (try simp only [Act.put, List.setIfInBounds_toArray, List.set_cons_zero, List.set_cons_succ])
      refine hK.out _ _ (⟨cell_on HB1.out hHeld.1, cell_on HB1.out hHeld.2.1, cell_on HB1.out hHeld.2.2⟩) (fun hNew => ?_)
      clear hK K hHeld; (have hHeld := hNew); clear hNew; (try simp only [Act.put, List.setIfInBounds_toArray, List.set_cons_zero, List.set_cons_succ])
      refine twoH (i := 1) (i2 := 4) rfl rfl (by kernel_rfl) (fun K hK => ?_) (fun K hK => ?_)
      · rw [if_pos (by rfl)]
        go_simp; ((refine (HE1.out w1).mono ?_); (rintro e w2 ⟨rfl, hb⟩); have HB2 := Lib.hid hb; clear hb; (try go_simp))
        refine hK.out _ _ (⟨cell_on HB2.out hHeld.1, cell_on HB2.out hHeld.2.1, cell_on HB2.out hHeld.2.2⟩) (fun hNew => ?_)
        clear hK K hHeld; (have hHeld := hNew); clear hNew; (try simp only [Act.put, List.setIfInBounds_toArray, List.set_cons_zero, List.set_cons_succ])
        refine twoH (i := 3) (i2 := 4) rfl rfl (by kernel_rfl) (fun K hK => ?_) (fun K hK => ?_)
        · rw [if_pos (by rfl)]
          go_simp; ((refine (HE2.out w2).mono ?_); (rintro e w3 ⟨rfl, hb⟩); have HB3 := Lib.hid hb; clear hb; (try go_simp))
          refine hK.out _ _ (⟨cell_on HB3.out hHeld.1, cell_on HB3.out hHeld.2.1, cell_on HB3.out hHeld.2.2⟩) (fun hNew => ?_)
          clear hK K hHeld; (have hHeld := hNew); clear hNew; (try simp only [Act.put, List.setIfInBounds_toArray, List.set_cons_zero, List.set_cons_succ])
          refine aloneH (i := 4) rfl (by kernel_rfl) (fun K hK => ?_)
          rw [if_pos (by rfl)]
          refine wp_alloc_page pageT rfl ?_
          have HA1 := Lib.hid (heap_alloc_new w3 (.cells (zeros.map cellOf).toArray 128)); have HB4 := Lib.hid (below_alloc w3 (.cells (zeros.map cellOf).toArray 128)); generalize hx4 : World.alloc w3 (.cells (zeros.map cellOf).toArray 128) = w4 at HA1 HB4 ⊢; clear hx4; (try simp only [Act.put, List.setIfInBounds_toArray, List.set_cons_zero, List.set_cons_succ])
          refine hK.out _ _ (⟨cell_on HB4.out hHeld.1, cell_on HB4.out hHeld.2.1, cell_on HB4.out hHeld.2.2⟩) (fun hNew => ?_)
          clear hK K hHeld; (have hHeld := hNew); clear hNew; (try simp only [Act.put, List.setIfInBounds_toArray, List.set_cons_zero, List.set_cons_succ])
          refine aloneH (i := 6) rfl (by kernel_rfl) (fun K hK => ?_)
          rw [if_pos (by rfl)]
          have HG1 : Hid (w4.heap[w3.heap.size]? = some (.cells (zeros.map cellOf).toArray 128)) := Lib.hid (heap_on (below_same w4) HA1.out)
          refine wp_store_page pageT (.tmp 7) (.tmp 23) rfl w3.heap.size rfl (headP s l.length u) (headP_len s l.length u) rfl _ (by simp [zeros]) _ HG1.out ?_
          refine hK.out _ _ (⟨cell_setRow (Nat.ne_of_lt (Nat.lt_of_lt_of_le HLT.out (below_then (below_then HB1.out HB2.out) HB3.out).size)) hHeld.1, cell_setRow (Nat.ne_of_lt (Nat.lt_of_lt_of_le HLT.out (below_then (below_then HB1.out HB2.out) HB3.out).size)) hHeld.2.1, cell_setRow (Nat.ne_of_lt (Nat.lt_of_lt_of_le HLT.out (below_then (below_then HB1.out HB2.out) HB3.out).size)) hHeld.2.2⟩) (fun hNew => ?_)
          clear hK K hHeld; (have hHeld := hNew); clear hNew; (try simp only [Act.put])
          refine aloneH (i := 7) rfl (by kernel_rfl) (fun K hK => ?_)
          rw [if_pos (by rfl)]
          have hne : w0.heap.size ≠ w3.heap.size := (Nat.ne_of_lt (Nat.lt_of_lt_of_le (heapLt HA2.out) (below_then HB2.out HB3.out).size))
          have HNE := Lib.hid hne
          have HG2 : Hid ((w4.setRow w3.heap.size ((headP s l.length u).map cellOf).toArray).heap[w0.heap.size]? = some (.cells (zeros.map cellOf).toArray 128)) := Lib.hid ((setRow_other _ _ _ _ hne).trans (heap_on (below_then (below_then HB2.out HB3.out) HB4.out) HA2.out))
          clear hne
          refine wp_store_page pageT (.tmp 8) (.tmp 25) rfl w0.heap.size rfl (endP s u) (endP_len s u) rfl _ (by simp [zeros]) _ HG2.out ?_
          refine hK.out _ _ (⟨cell_setRow (Nat.ne_of_lt (Nat.lt_of_lt_of_le HLT.out (below_same w0).size)) hHeld.1, cell_setRow (Nat.ne_of_lt (Nat.lt_of_lt_of_le HLT.out (below_same w0).size)) hHeld.2.1, cell_setRow (Nat.ne_of_lt (Nat.lt_of_lt_of_le HLT.out (below_same w0).size)) hHeld.2.2⟩) (fun hNew => ?_)
          clear hK K hHeld; (have hHeld := hNew); clear hNew; (try simp only [Act.put])
          refine wpAnyH_done (by kernel_rfl) ?_ _
          refine NoPanic.normal ?_
          go_wp2_with fail
          go_meet
          case rel => exact ⟨w3.heap.size, w0.heap.size, rfl, rfl, Lib.hid ((setRow_other _ _ _ _ (Ne.symm HNE.out)).trans (setRow_heap _ _ _ _ _ _ HG1.out)), Lib.hid (setRow_heap _ _ _ _ _ _ HG2.out), Lib.hid (Ne.symm HNE.out), Lib.hid (below_setRow (below_setRow (HBB.out.trans ((below_then (below_then (below_then HB1.out HB2.out) HB3.out) HB4.out).mono HBB.out.size)) (Nat.le_trans HBB.out.size (below_then (below_then HB1.out HB2.out) HB3.out).size) _) (Nat.le_trans HBB.out.size (below_same w0).size) _), Lib.hid (Nat.le_trans HBB.out.size (below_then (below_then HB1.out HB2.out) HB3.out).size), Lib.hid (Nat.le_trans HBB.out.size (below_same w0).size)⟩
        · rw [if_pos (by rfl)]
          refine wp_alloc_page pageT rfl ?_
          have HA1 := Lib.hid (heap_alloc_new w2 (.cells (zeros.map cellOf).toArray 128)); have HB3 := Lib.hid (below_alloc w2 (.cells (zeros.map cellOf).toArray 128)); generalize hx3 : World.alloc w2 (.cells (zeros.map cellOf).toArray 128) = w3 at HA1 HB3 ⊢; clear hx3; (try simp only [Act.put, List.setIfInBounds_toArray, List.set_cons_zero, List.set_cons_succ])
          refine hK.out _ _ (⟨cell_on HB3.out hHeld.1, cell_on HB3.out hHeld.2.1, cell_on HB3.out hHeld.2.2⟩) (fun hNew => ?_)
          clear hK K hHeld; (have hHeld := hNew); clear hNew; (try simp only [Act.put, List.setIfInBounds_toArray, List.set_cons_zero, List.set_cons_succ])
          refine aloneH (i := 3) rfl (by kernel_rfl) (fun K hK => ?_)
          rw [if_pos (by rfl)]
          go_simp; ((refine (HE2.out w3).mono ?_); (rintro e w4 ⟨rfl, hb⟩); have HB4 := Lib.hid hb; clear hb; (try go_simp))
          refine hK.out _ _ (⟨cell_on HB4.out hHeld.1, cell_on HB4.out hHeld.2.1, cell_on HB4.out hHeld.2.2⟩) (fun hNew => ?_)
          clear hK K hHeld; (have hHeld := hNew); clear hNew; (try simp only [Act.put, List.setIfInBounds_toArray, List.set_cons_zero, List.set_cons_succ])
          refine aloneH (i := 6) rfl (by kernel_rfl) (fun K hK => ?_)
          rw [if_pos (by rfl)]
          have HG1 : Hid (w4.heap[w2.heap.size]? = some (.cells (zeros.map cellOf).toArray 128)) := Lib.hid (heap_on HB4.out HA1.out)
          refine wp_store_page pageT (.tmp 7) (.tmp 23) rfl w2.heap.size rfl (headP s l.length u) (headP_len s l.length u) rfl _ (by simp [zeros]) _ HG1.out ?_
          refine hK.out _ _ (⟨cell_setRow (Nat.ne_of_lt (Nat.lt_of_lt_of_le HLT.out (below_then HB1.out HB2.out).size)) hHeld.1, cell_setRow (Nat.ne_of_lt (Nat.lt_of_lt_of_le HLT.out (below_then HB1.out HB2.out).size)) hHeld.2.1, cell_setRow (Nat.ne_of_lt (Nat.lt_of_lt_of_le HLT.out (below_then HB1.out HB2.out).size)) hHeld.2.2⟩) (fun hNew => ?_)
          clear hK K hHeld; (have hHeld := hNew); clear hNew; (try simp only [Act.put])
          refine aloneH (i := 7) rfl (by kernel_rfl) (fun K hK => ?_)
          rw [if_pos (by rfl)]
          have hne : w0.heap.size ≠ w2.heap.size := (Nat.ne_of_lt (Nat.lt_of_lt_of_le (heapLt HA2.out) HB2.out.size))
          have HNE := Lib.hid hne
          have HG2 : Hid ((w4.setRow w2.heap.size ((headP s l.length u).map cellOf).toArray).heap[w0.heap.size]? = some (.cells (zeros.map cellOf).toArray 128)) := Lib.hid ((setRow_other _ _ _ _ hne).trans (heap_on (below_then (below_then HB2.out HB3.out) HB4.out) HA2.out))
          clear hne
          refine wp_store_page pageT (.tmp 8) (.tmp 25) rfl w0.heap.size rfl (endP s u) (endP_len s u) rfl _ (by simp [zeros]) _ HG2.out ?_
          refine hK.out _ _ (⟨cell_setRow (Nat.ne_of_lt (Nat.lt_of_lt_of_le HLT.out (below_same w0).size)) hHeld.1, cell_setRow (Nat.ne_of_lt (Nat.lt_of_lt_of_le HLT.out (below_same w0).size)) hHeld.2.1, cell_setRow (Nat.ne_of_lt (Nat.lt_of_lt_of_le HLT.out (below_same w0).size)) hHeld.2.2⟩) (fun hNew => ?_)
          clear hK K hHeld; (have hHeld := hNew); clear hNew; (try simp only [Act.put])
          refine wpAnyH_done (by kernel_rfl) ?_ _
          refine NoPanic.normal ?_
          go_wp2_with fail
          go_meet
          case rel => exact ⟨w2.heap.size, w0.heap.size, rfl, rfl, Lib.hid ((setRow_other _ _ _ _ (Ne.symm HNE.out)).trans (setRow_heap _ _ _ _ _ _ HG1.out)), Lib.hid (setRow_heap _ _ _ _ _ _ HG2.out), Lib.hid (Ne.symm HNE.out), Lib.hid (below_setRow (below_setRow (HBB.out.trans ((below_then (below_then (below_then HB1.out HB2.out) HB3.out) HB4.out).mono HBB.out.size)) (Nat.le_trans HBB.out.size (below_then HB1.out HB2.out).size) _) (Nat.le_trans HBB.out.size (below_same w0).size) _), Lib.hid (Nat.le_trans HBB.out.size (below_then HB1.out HB2.out).size), Lib.hid (Nat.le_trans HBB.out.size (below_same w0).size)⟩
      · rw [if_pos (by rfl)]
        refine wp_alloc_page pageT rfl ?_
        have HA1 := Lib.hid (heap_alloc_new w1 (.cells (zeros.map cellOf).toArray 128)); have HB2 := Lib.hid (below_alloc w1 (.cells (zeros.map cellOf).toArray 128)); generalize hx2 : World.alloc w1 (.cells (zeros.map cellOf).toArray 128) = w2 at HA1 HB2 ⊢; clear hx2; (try simp only [Act.put, List.setIfInBounds_toArray, List.set_cons_zero, List.set_cons_succ])
        refine hK.out _ _ (⟨cell_on HB2.out hHeld.1, cell_on HB2.out hHeld.2.1, cell_on HB2.out hHeld.2.2⟩) (fun hNew => ?_)
        clear hK K hHeld; (have hHeld := hNew); clear hNew; (try simp only [Act.put, List.setIfInBounds_toArray, List.set_cons_zero, List.set_cons_succ])
        refine aloneH (i := 1) rfl (by kernel_rfl) (fun K hK => ?_)
        rw [if_pos (by rfl)]
        go_simp; ((refine (HE1.out w2).mono ?_); (rintro e w3 ⟨rfl, hb⟩); have HB3 := Lib.hid hb; clear hb; (try go_simp))
        refine hK.out _ _ (⟨cell_on HB3.out hHeld.1, cell_on HB3.out hHeld.2.1, cell_on HB3.out hHeld.2.2⟩) (fun hNew => ?_)
        clear hK K hHeld; (have hHeld := hNew); clear hNew; (try simp only [Act.put, List.setIfInBounds_toArray, List.set_cons_zero, List.set_cons_succ])
        refine aloneH (i := 3) rfl (by kernel_rfl) (fun K hK => ?_)
        rw [if_pos (by rfl)]
        go_simp; ((refine (HE2.out w3).mono ?_); (rintro e w4 ⟨rfl, hb⟩); have HB4 := Lib.hid hb; clear hb; (try go_simp))
        refine hK.out _ _ (⟨cell_on HB4.out hHeld.1, cell_on HB4.out hHeld.2.1, cell_on HB4.out hHeld.2.2⟩) (fun hNew => ?_)
        clear hK K hHeld; (have hHeld := hNew); clear hNew; (try simp only [Act.put, List.setIfInBounds_toArray, List.set_cons_zero, List.set_cons_succ])
        refine aloneH (i := 6) rfl (by kernel_rfl) (fun K hK => ?_)
        rw [if_pos (by rfl)]
        have HG1 : Hid (w4.heap[w1.heap.size]? = some (.cells (zeros.map cellOf).toArray 128)) := Lib.hid (heap_on (below_then HB3.out HB4.out) HA1.out)
        refine wp_store_page pageT (.tmp 7) (.tmp 23) rfl w1.heap.size rfl (headP s l.length u) (headP_len s l.length u) rfl _ (by simp [zeros]) _ HG1.out ?_
        refine hK.out _ _ (⟨cell_setRow (Nat.ne_of_lt (Nat.lt_of_lt_of_le HLT.out HB1.out.size)) hHeld.1, cell_setRow (Nat.ne_of_lt (Nat.lt_of_lt_of_le HLT.out HB1.out.size)) hHeld.2.1, cell_setRow (Nat.ne_of_lt (Nat.lt_of_lt_of_le HLT.out HB1.out.size)) hHeld.2.2⟩) (fun hNew => ?_)
        clear hK K hHeld; (have hHeld := hNew); clear hNew; (try simp only [Act.put])
        refine aloneH (i := 7) rfl (by kernel_rfl) (fun K hK => ?_)
        rw [if_pos (by rfl)]
        have hne : w0.heap.size ≠ w1.heap.size := (Nat.ne_of_lt (Nat.lt_of_lt_of_le (heapLt HA2.out) (below_same w1).size))
        have HNE := Lib.hid hne
        have HG2 : Hid ((w4.setRow w1.heap.size ((headP s l.length u).map cellOf).toArray).heap[w0.heap.size]? = some (.cells (zeros.map cellOf).toArray 128)) := Lib.hid ((setRow_other _ _ _ _ hne).trans (heap_on (below_then (below_then HB2.out HB3.out) HB4.out) HA2.out))
        clear hne
        refine wp_store_page pageT (.tmp 8) (.tmp 25) rfl w0.heap.size rfl (endP s u) (endP_len s u) rfl _ (by simp [zeros]) _ HG2.out ?_
        refine hK.out _ _ (⟨cell_setRow (Nat.ne_of_lt (Nat.lt_of_lt_of_le HLT.out (below_same w0).size)) hHeld.1, cell_setRow (Nat.ne_of_lt (Nat.lt_of_lt_of_le HLT.out (below_same w0).size)) hHeld.2.1, cell_setRow (Nat.ne_of_lt (Nat.lt_of_lt_of_le HLT.out (below_same w0).size)) hHeld.2.2⟩) (fun hNew => ?_)
        clear hK K hHeld; (have hHeld := hNew); clear hNew; (try simp only [Act.put])
        refine wpAnyH_done (by kernel_rfl) ?_ _
        refine NoPanic.normal ?_
        go_wp2_with fail
        go_meet
        case rel => exact ⟨w1.heap.size, w0.heap.size, rfl, rfl, Lib.hid ((setRow_other _ _ _ _ (Ne.symm HNE.out)).trans (setRow_heap _ _ _ _ _ _ HG1.out)), Lib.hid (setRow_heap _ _ _ _ _ _ HG2.out), Lib.hid (Ne.symm HNE.out), Lib.hid (below_setRow (below_setRow (HBB.out.trans ((below_then (below_then (below_then HB1.out HB2.out) HB3.out) HB4.out).mono HBB.out.size)) (Nat.le_trans HBB.out.size HB1.out.size) _) (Nat.le_trans HBB.out.size (below_same w0).size) _), Lib.hid (Nat.le_trans HBB.out.size HB1.out.size), Lib.hid (Nat.le_trans HBB.out.size (below_same w0).size)⟩
  case rest =>
    obtain ⟨g1, g2, rfl, rfl, HG1, HG2, HNE, HB, HL1, HL2⟩ := hcut
    have HBWc := Lib.hid (HBW.out.trans (HB.out.mono HBW.out.size))
    clear HHd HE1 HE2
    have hNE5 : ∀ x, Below wc.heap.size wc ((wc.alloc (.cells #[.slice (some ⟨g1, 0, none⟩) 64 64] 51)).alloc x) := fun x => below_then (below_alloc wc _) (below_alloc _ _)
    have HI0 : Hid (ToldI w (wc.heap.size + 1) g2 (endP s u) [wc.heap.size + 1, g2] [headP s l.length u] ((wc.alloc (.cells #[.slice (some ⟨g1, 0, none⟩) 64 64] 51)).alloc (.cells #[.slice (some ⟨wc.heap.size, 0, none⟩) 1 1] 31))) := Lib.hid (by
      have hlt2 := heapLt HG2.out
      refine ⟨wc.heap.size, 1, ?_, ?_, heap_on (hNE5 _) HG2.out, ?_, by simp, by simp, HBWc.out.trans ((hNE5 _).mono HBWc.out.size), ?_, by omega⟩
      · have := heap_alloc_new (wc.alloc (.cells #[.slice (some ⟨g1, 0, none⟩) 64 64] 51)) (.cells #[.slice (some ⟨wc.heap.size, 0, none⟩) 1 1] 31)
        rwa [World.size_alloc] at this
      · exact (OwnT.one (headP_len s l.length u) (by decide) HBWc.out.size (Nat.le_refl _) (by unfold maxLen; omega) (range_cells HG1.out) (heapLt HG1.out)).on (below_alloc _ _)
      · intro k hk
        simp only [List.mem_cons, List.not_mem_nil, or_false] at hk
        rw [World.size_alloc, World.size_alloc]
        rcases hk with rfl | rfl <;> omega
      · have := HBWc.out.size; omega)
    have HCU : Hid (Calls Try.prog 86 #[.slice (some ⟨b, o, none⟩) l.length c] ((wc.alloc (.cells #[.slice (some ⟨g1, 0, none⟩) 64 64] 51)).alloc (.cells #[.slice (some ⟨wc.heap.size, 0, none⟩) 1 1] 31)) fun e W => e = .returned (cutsF (wc.heap.size + 2)) ∧
        (W.cell? ⟨wc.heap.size + 2, 0, none⟩ = some (.slice (some ⟨b, o, none⟩) l.length c) ∧ W.cell? ⟨wc.heap.size + 2 + 1, 0, none⟩ = some (cutF (wc.heap.size + 2)) ∧ W.heap.size = wc.heap.size + 4) ∧ ToldI w (wc.heap.size + 1) g2 (endP s u) [wc.heap.size + 1, g2, wc.heap.size + 2, wc.heap.size + 2 + 1] [headP s l.length u] W) := Lib.hid (by
      have := code_cuts (some ⟨b, o, none⟩) l.length c ((wc.alloc (.cells #[.slice (some ⟨g1, 0, none⟩) 64 64] 51)).alloc (.cells #[.slice (some ⟨wc.heap.size, 0, none⟩) 1 1] 31))
      rw [World.size_alloc, World.size_alloc] at this
      refine this.mono ?_
      rintro e W ⟨x1, x2, x3, x4, x5⟩
      have hlt2 := heapLt HG2.out
      obtain ⟨g, c, q1, q2, q3, q4, q5, q6, q7, q8⟩ := HI0.out.on (W' := W) (by rw [World.size_alloc, World.size_alloc]; exact x5)
      have hg : g = wc.heap.size := by
        have h1 := HI0.out
        obtain ⟨g0, c0, y1, _⟩ := h1
        have h2 := heap_alloc_new (wc.alloc (.cells #[.slice (some ⟨g1, 0, none⟩) 64 64] 51)) (.cells #[.slice (some ⟨wc.heap.size, 0, none⟩) 1 1] 31)
        rw [World.size_alloc] at h2
        have h3 := (x5.block (wc.heap.size + 1) (by omega)).trans h2
        rw [q1] at h3
        injection h3 with h3
        injection h3 with h3
        have h3' := congrArg Array.toList h3
        simp at h3'
        exact h3'.1
      refine ⟨x1, ⟨x2, x3, by rw [x4]⟩, g, c, q1, q2, q3, fun k hk => ?_, by simp, by simp, q7, q8⟩
      simp only [List.mem_cons, List.not_mem_nil, or_false] at hk
      rw [x4]
      rcases hk with rfl | rfl | rfl | rfl <;> omega)
    clear hNE5 HI0
    go_wp2_with (go_at_call 86; refine HCU.out.mono ?_; rintro e w5 ⟨rfl, x5, i5⟩; have HX5 := Lib.hid x5; have HI5 := Lib.hid i5; clear x5 i5)
    clear HCU
    have hb5 : b < w5.heap.size := by have := HBL.out; have := HBWc.out.size; have := HX5.out.2.2; omega
    have hT5 : Txt w5 (some ⟨b, o, none⟩) l := by
      obtain ⟨_, _, _, _, _, _, _, _, hbl, _⟩ := HI5.out
      exact HT.out.below hbl
    have HA := Lib.hid (cuts_told w5 (wc.heap.size + 2) b o c l HL.out.2.1 HL.out.2.2 hb5 hT5 HX5.out.1 HX5.out.2.1)
    have HSZ : Hid (w5.heap.size = wc.heap.size + 4) := Lib.hid HX5.out.2.2
    have HBC : Hid (w.heap.size ≤ wc.heap.size ∧ b < w5.heap.size) := Lib.hid ⟨HBWc.out.size, hb5⟩
    clear hb5 hT5 HX5 HG1 HG2 HNE HB HL1 HBW HS1
    refine wp_rangeTold2 (gf := 94) (lb := #[.pointer (some ⟨wc.heap.size + 2, 0, none⟩), .pointer (some ⟨wc.heap.size + 2 + 1, 0, none⟩)]) rfl (enters_of Try.func94 (by kernel_rfl) rfl) HA.out (fun h k => h.trans k)
      (fun A B h => KpC.of_below h HBC.out.2 (by have := HSZ.out; omega)) (fun _ => rfl)
      (fun pre W => ToldI w (wc.heap.size + 1) g2 (endP s u) [wc.heap.size + 1, g2, wc.heap.size + 2, wc.heap.size + 2 + 1] (headP s l.length u :: cutL pre) W ∧ w5.heap.size ≤ W.heap.size) (fun _ _ _ => False) (fun pre A B h hb => ⟨h.1.on hb, Nat.le_trans h.2 hb.size⟩) (fun _ _ _ _ h _ => h)
      (fun pre A lx r ob hlx h hl => ⟨h.1.rec_ (W' := A.putObj lx ob) hl rfl (by simp) rfl rfl rfl (fun k hk => World.putObj_heap_other hk) (by have := HBC.out.1; have := HSZ.out; omega), by simpa using h.2⟩) (fun _ _ _ _ _ _ _ h _ => False.elim h) ⟨HI5.out, Nat.le_refl _⟩ ?round ?done ?stop
    case stop =>
      rintro D cc pre W _ _ h _
      exact h.elim
    case done =>
      intro D xs W hD hS hI hK
      obtain ⟨⟨g, cx, q1, q2, q3, q4, q5, q6, q7, q8, q9⟩, _⟩ := hI
      rw [hS] at q1 q2
      have hDW : w.heap.size ≤ D := by have := HBC.out.1; have := HSZ.out; omega
      have hLen : (headP s l.length u :: cutL (cutsT l (manyC l))).length ≤ 100000 := by
        have := cutsT_len l (manyC l)
        simp only [List.length_cons, cutL, List.length_map, this]
        have := HL.out.2.1
        unfold manyC
        omega
      have HLen := Lib.hid hLen
      generalize hLL : headP s l.length u :: cutL (cutsT l (manyC l)) = LL at q1 q2 hLen HLen
      have HLL := Lib.hid hLL
      clear hLL hS hLen
      have HQ1 := Lib.hid q1
      have HQ2 := Lib.hid q2
      have HQ3 := Lib.hid q3
      have HQ4 := Lib.hid (q4 g2 q6)
      have HT9 := Lib.hid (q4 _ q5).1
      have HQ7 := Lib.hid q7
      have HK := Lib.hid hK
      have hc0 := cell_of_row W _ 0 _ _ _ q1
      simp only [List.getElem?_toArray, List.getElem?_cons_zero] at hc0
      clear q1 q2 q3 q4 q5 q6 q7 q8 q9 hK
      go_wp2
      refine wp_region_noPanic (wp_region_held_drew (S := fun W => W.cell? ⟨wc.heap.size + 1, 0, none⟩ = some (.slice (some ⟨g, 0, none⟩) LL.length cx)) (by kernel_rfl) hc0 ?_)
      intro hHeld
      have HBD := Lib.hid (below_drew W)
      generalize W.drew = w0 at HBD hHeld ⊢
      (refine takeH (i := 0) (v := ?_) rfl (by kernel_rfl) (by kernel_rfl) (by kernel_rfl) (fun _ _ _ h => h) (Or.inl ⟨by rfl, ?_⟩) (by assumption) ?_; rotate_left; (focus ((intro wS hSw); (try dsimp only at hSw); have s0 := hSw; go_simp; (try with_reducible rfl); done)); (try simp only [Act.put, List.setIfInBounds_toArray, List.set_cons_zero, List.set_cons_succ]))
      (refine takeH (i := 1) (v := ?_) rfl (by kernel_rfl) (by kernel_rfl) (by kernel_rfl) (fun _ _ _ h => h) (Or.inl ⟨by rfl, ?_⟩) (by assumption) ?_; rotate_left; (focus ((intro wS hSw); (try dsimp only at hSw); have s0 := hSw; go_simp; (try with_reducible rfl); done)); (try simp only [Act.put, List.setIfInBounds_toArray, List.set_cons_zero, List.set_cons_succ]))
      refine aloneH (i := 2) rfl (by kernel_rfl) (fun K hK => ?_)
      rw [if_pos (by rfl)]
      go_simp; (have HR0 := Lib.hid (heap_alloc_new w0 (.cells #[.slice (some ⟨g2, 0, none⟩) 64 64] 51)); have HB1 := Lib.hid (below_alloc w0 (.cells #[.slice (some ⟨g2, 0, none⟩) 64 64] 51)); generalize hx1 : World.alloc w0 (.cells #[.slice (some ⟨g2, 0, none⟩) 64 64] 51) = w1 at HR0 HB1 ⊢; clear hx1)
      refine hK.out _ _ (cell_on HB1.out hHeld) (fun hNew => ?_)
      clear hK K hHeld; (have hHeld := hNew); clear hNew; (try simp only [Act.put, List.setIfInBounds_toArray, List.set_cons_zero, List.set_cons_succ])
      refine aloneH (i := 3) rfl (by kernel_rfl) (fun K hK => ?_)
      rw [if_pos (by rfl)]
      have HOw : Hid (OwnT w.heap.size (.slice (some ⟨g, 0, none⟩) LL.length cx) LL w1) := Lib.hid (HQ2.out.on (below_then HBD.out HB1.out))
      have HGp : Hid (w1.heap[g2]? = some (.cells ((endP s u).map cellOf).toArray 128)) := Lib.hid (heap_on (below_then HBD.out HB1.out) HQ3.out)
      refine wp_append_rows (.tmp 36) (.tmp 38) rfl rfl w.heap.size (.slice (some ⟨g, 0, none⟩) LL.length cx) LL rfl HOw.out w0.heap.size rfl g2 64 64 (endP s u) _ _ HR0.out (endP_len s u) (by decide) (Nat.le_refl _) (by unfold maxLen; omega) (range_cells HGp.out) (heapLt HGp.out) (by simp only [Value.ownBlock]; intro e; injection e with e; exact HQ4.out.1 e) HLen.out (Nat.le_trans HQ7.out.size (Nat.le_trans HBD.out.size HB1.out.size)) ?_
      intro v2 wv hov hgv hvv
      have HOV := Lib.hid hov; have HGV := Lib.hid hgv; have HVV := Lib.hid hvv; clear hov hgv hvv
      refine hK.out _ _ (HGV.out.cell hHeld (by simp only [Value.ownBlock]; intro e; injection e with e; exact HT9.out e.symm)) (fun hNew => ?_)
      clear hK K hHeld; (have hHeld := hNew); clear hNew; (try simp only [Act.put, List.setIfInBounds_toArray, List.set_cons_zero, List.set_cons_succ])
      (refine takeH (i := 4) (v := ?_) rfl (by kernel_rfl) (by kernel_rfl) (by kernel_rfl) (fun _ _ _ h => h) (Or.inl ⟨by rfl, ?_⟩) (by assumption) ?_; rotate_left; (focus ((intro wS hSw); (try dsimp only at hSw); have s0 := hSw; go_simp; (try with_reducible rfl); done)); (try simp only [Act.put, List.setIfInBounds_toArray, List.set_cons_zero, List.set_cons_succ]))
      (refine takeH (i := 5) (v := ?_) rfl (by kernel_rfl) (by kernel_rfl) (by kernel_rfl) (fun _ _ _ h => h) (Or.inl ⟨by rfl, ?_⟩) (by assumption) ?_; rotate_left; (focus ((intro wS hSw); (try dsimp only at hSw); have s0 := hSw; go_simp; (try with_reducible rfl); done)); (try simp only [Act.put, List.setIfInBounds_toArray, List.set_cons_zero, List.set_cons_succ]))
      refine wpAnyH_done (by kernel_rfl) ?_ _
      clear hHeld
      have hDn : g ≠ D := fun e => by
        have hx := HOw.out.put (W' := w1.putObj D (.deferred none)) (heap_on (below_then HBD.out HB1.out) HK.out) rfl (by simp) (fun k hk => World.putObj_heap_other hk)
        obtain ⟨xs, y1, _⟩ := HQ2.out
        rcases y1.2 with ⟨y, _⟩ | ⟨g', cap, cur, y, _, hgg, _⟩
        · injection y with y; cases y
        · injection y with y; injection y with y; injection y with y
          have hk := HK.out
          rw [← e, y, hgg] at hk
          cases hk
      have hKv : wv.heap[D]? = some (.deferred (some [])) := (HGV.out.block D (heapLt (heap_on (below_then HBD.out HB1.out) HK.out)) (fun e => hDn (by simp only [Value.ownBlock] at e; injection e with e; exact e.symm))).trans (heap_on (below_then HBD.out HB1.out) HK.out)
      refine NoPanic.normal ?_
      go_wp2
      refine ⟨by simp, .inl ⟨_, _, rfl, run_takeDeferred hKv, ?_⟩⟩
      refine ⟨_, results_tmp2 rfl _ _ _, v2, rfl, ?_, ?_⟩
      · have := HOV.out.put (W' := wv.putObj D (.deferred none)) hKv rfl (by simp) (fun k hk => World.putObj_heap_other hk)
        rw [← HLL.out] at this
        exact this
      · exact ((HQ7.out.trans ((below_then HBD.out HB1.out).mono HQ7.out.size)).grown HGV.out (Nat.le_trans HQ7.out.size (Nat.le_trans HBD.out.size HB1.out.size)) (fun k hk => by simp only [Value.ownBlock] at hk; injection hk with hk; subst hk; exact (HQ2.out.base _ rfl).1)).trans (put_below _ _ hDW)
    case round =>
      intro ll r pre x W hl hr hI hx
      obtain ⟨hp1, hp2, rfl⟩ := hx
      obtain ⟨k, hk⟩ : ∃ k, k = pre.length := ⟨_, rfl⟩
      rw [← hk]
      have HPK := Lib.hid (And.intro hk (by rw [hk]; exact hp2 : k < manyC l))
      have HI := Lib.hid hI
      have HR := Lib.hid hr
      clear hp1 hp2 hI hr hk
      have HW1 : Hid (Below W.heap.size W ((W.alloc (.cells (zeros.map cellOf).toArray 128)).setRow W.heap.size ((cutT l k).map cellOf).toArray)) := Lib.hid (below_setRow (below_alloc W _) (Nat.le_refl _) _)
      dsimp only [encC]
      gi_wp2_with (first
        | ((with_reducible refine wpListIn_alloc_page pageT (o := ⟨some 11, _, _, _, _, _⟩) ?a1 ?a2 ?_); (case a1 => rfl); (case a2 => rfl); (simp only [Act.put, List.zip_toArray, List.zip_cons_cons, List.zip_nil_right, List.size_toArray, List.length_cons, List.length_nil, Nat.zero_add, Nat.reduceAdd, List.foldl_toArray', List.foldl_cons, List.foldl_nil, List.setIfInBounds_toArray, List.set_cons_zero, List.set_cons_succ]))
        | ((refine wpListIn_store_page pageT (o := ⟨none, _, _, _, _, _⟩) ?b1 (.tmp 11) (.tmp 31) ?b2 W.heap.size ?b3 (cutT l k) (cutT_len l k) ?b4 _ ?b5 _ (heap_alloc_new W _) ?_); (case b1 => rfl); (case b2 => rfl); (case b3 => rfl); (case b4 => rfl); (case b5 => simp [zeros]); (try simp only [Act.put])))
      refine ⟨HW1.out, fun Wb hB => ?_⟩
      have hlb : ll ≠ W.heap.size := by have := heapLt HR.out; omega
      have HIb : Hid (ToldI w (wc.heap.size + 1) g2 (endP s u) [wc.heap.size + 1, g2, wc.heap.size + 2, wc.heap.size + 2 + 1] (headP s l.length u :: cutL pre) Wb) := Lib.hid ((HI.out.1.on HW1.out).rec_ (heap_on HW1.out HR.out) rfl hB.size hB.os hB.tape hB.output hB.block (by have := HBC.out.1; have := HSZ.out; omega))
      have HGb : Hid (Wb.heap[W.heap.size]? = some (.cells ((cutT l k).map cellOf).toArray 128)) := Lib.hid ((hB.block _ (Ne.symm hlb)).trans (setRow_heap _ _ _ _ _ _ (heap_alloc_new W _)))
      have HSb : Hid (w5.heap.size ≤ Wb.heap.size ∧ W.heap.size < Wb.heap.size) := Lib.hid (by
        have h1 := hB.size
        have h2 : ((W.alloc (.cells (zeros.map cellOf).toArray 128)).setRow W.heap.size ((cutT l k).map cellOf).toArray).heap.size = W.heap.size + 1 := by simp [World.setRow]
        have h3 : w5.heap.size ≤ W.heap.size := HI.out.2
        omega)
      have HNR : Hid (∀ g c, Wb.heap[wc.heap.size + 1]? = some (.cells #[.slice (some ⟨g, 0, none⟩) (headP s l.length u :: cutL pre).length c] 31 (0, 0)) → (Value.slice (some ⟨g, 0, none⟩) (headP s l.length u :: cutL pre).length c).ownBlock ≠ some W.heap.size) := Lib.hid (by
        intro g c hg e
        obtain ⟨g0, c0, y1, y2, _⟩ := HI.out.1
        have h5 : g0 < W.heap.size := (y2.base g0 rfl).2
        have h6 := (hB.block (wc.heap.size + 1) (fun e => by have := HSZ.out; omega)).trans (heap_on HW1.out y1)
        rw [hg] at h6
        injection h6 with h6
        injection h6 with h6
        have h6' := congrArg Array.toList h6
        simp at h6'
        simp only [Value.ownBlock] at e
        injection e with e
        have h7 := h6'.1
        omega)
      clear HI HR HW1 hB hl hlb
      obtain ⟨g, cx, q1, q2, q3, q4, q5, q6, q7, q8, q9⟩ := HIb.out
      have hLen : (headP s l.length u :: cutL pre).length ≤ 100000 := by
        have h1 := HPK.out.1
        have h2 := HPK.out.2
        simp only [List.length_cons, cutL, List.length_map]
        have := HL.out.2.1
        unfold manyC at h2
        omega
      have HLen := Lib.hid hLen
      generalize hLL : headP s l.length u :: cutL pre = LL at q1 q2 hLen HLen HIb HNR
      have HLL := Lib.hid hLL
      have HQ1 := Lib.hid q1
      have HQ2 := Lib.hid q2
      have hc0 := cell_of_row Wb _ 0 _ _ _ q1
      simp only [List.getElem?_toArray, List.getElem?_cons_zero] at hc0
      have HNE := Lib.hid (HNR.out g cx q1)
      have HT9 := Lib.hid (q4 _ q5).1
      have HAV := Lib.hid (fun kk (hk : kk ∈ [wc.heap.size + 1, g2, wc.heap.size + 2, wc.heap.size + 2 + 1]) => q4 kk hk)
      have HBL7 := Lib.hid q7
      clear q1 q2 q3 q4 q5 q6 q7 q8 q9 hLL hLen HNR
      gi_wp2
      refine region_in_round (S := fun _ => True) (by kernel_rfl) (by kernel_rfl) trivial ?_
      intro hHeld
      have HC0 : Hid (Wb.drew.cell? ⟨wc.heap.size + 1, 0, none⟩ = some (.slice (some ⟨g, 0, none⟩) LL.length cx)) := Lib.hid hc0
      have HBD := Lib.hid (below_drew Wb)
      clear hc0
      generalize Wb.drew = w0 at HBD HC0 ⊢
      (refine takeH (i := 1) (v := ?_) rfl (by kernel_rfl) (by kernel_rfl) (by kernel_rfl) (fun _ _ _ h => h) (Or.inl ⟨by rfl, ?_⟩) (by assumption) ?_; rotate_left; (focus ((intro wS hSw); (try dsimp only at hSw); skip; go_simp; (try with_reducible rfl); done)); (try simp only [Act.put, List.setIfInBounds_toArray, List.set_cons_zero, List.set_cons_succ]))
      refine twoH (i := 0) (i2 := 2) rfl rfl (by kernel_rfl) (fun K hK => ?_) (fun K hK => ?_)
      · rw [if_pos (by rfl)]
        have hcl := cell_on (below_same w0) HC0.out
        go_simp
        clear hcl
        have HB1 : Hid (Below w0.heap.size w0 w0) := Lib.hid (below_same _)
        refine hK.out _ _ (trivial) (fun hNew => ?_)
        clear hK K hHeld; (have hHeld := hNew); clear hNew; (try simp only [Act.put, List.setIfInBounds_toArray, List.set_cons_zero, List.set_cons_succ])
        refine aloneH (i := 2) rfl (by kernel_rfl) (fun K hK => ?_)
        rw [if_pos (by rfl)]
        go_simp; (have HR0 := Lib.hid (heap_alloc_new w0 (.cells #[.slice (some ⟨W.heap.size, 0, none⟩) 64 64] 51)); have HB2 := Lib.hid (below_alloc w0 (.cells #[.slice (some ⟨W.heap.size, 0, none⟩) 64 64] 51)); generalize hx2 : World.alloc w0 (.cells #[.slice (some ⟨W.heap.size, 0, none⟩) 64 64] 51) = w2 at HR0 HB2 ⊢; clear hx2)
        refine hK.out _ _ (trivial) (fun hNew => ?_)
        clear hK K hHeld; (have hHeld := hNew); clear hNew; (try simp only [Act.put, List.setIfInBounds_toArray, List.set_cons_zero, List.set_cons_succ])
        refine aloneH (i := 3) rfl (by kernel_rfl) (fun K hK => ?_)
        rw [if_pos (by rfl)]
        have HOw : Hid (OwnT w.heap.size (.slice (some ⟨g, 0, none⟩) LL.length cx) LL w2) := Lib.hid (HQ2.out.on (below_then HBD.out (below_then HB1.out HB2.out)))
        have HGp : Hid (w2.heap[W.heap.size]? = some (.cells ((cutT l k).map cellOf).toArray 128)) := Lib.hid (heap_on (below_then HBD.out (below_then HB1.out HB2.out)) HGb.out)
        refine wp_append_rows (.tmp 32) (.tmp 34) rfl rfl w.heap.size (.slice (some ⟨g, 0, none⟩) LL.length cx) LL rfl HOw.out w0.heap.size rfl W.heap.size 64 64 (cutT l k) _ _ HR0.out (cutT_len l k) (by decide) (Nat.le_refl _) (by unfold maxLen; omega) (range_cells HGp.out) (heapLt HGp.out) HNE.out HLen.out (Nat.le_trans HBL7.out.size (Nat.le_trans HBD.out.size (below_then HB1.out HB2.out).size)) ?_
        intro v2 wv hov hgv hvv
        have HOV := Lib.hid hov; have HGV := Lib.hid hgv; have HVV := Lib.hid hvv; clear hov hgv hvv
        refine hK.out _ _ (trivial) (fun hNew => ?_)
        clear hK K hHeld; (have hHeld := hNew); clear hNew; (try simp only [Act.put, List.setIfInBounds_toArray, List.set_cons_zero, List.set_cons_succ])
        refine aloneH (i := 4) rfl (by kernel_rfl) (fun K hK => ?_)
        rw [if_pos (by rfl)]
        obtain ⟨g', c', hv2, hT9c, hNx⟩ := HIb.out.next (below_then HBD.out (below_then HB1.out HB2.out)) HQ1.out HOV.out HGV.out HVV.out
        have HT9c := Lib.hid hT9c; have HNX := Lib.hid hNx; clear hT9c hNx
        subst hv2
        refine wp_store_one 31 (.tmp 9) (.tmp 35) rfl (wc.heap.size + 1) rfl (.slice (some ⟨g', 0, none⟩) (LL ++ [cutT l k]).length c') tape_info1 rfl rfl rfl _ _ HT9c.out ?_
        refine hK.out _ _ (trivial) (fun hNew => ?_)
        clear hK K hHeld; (have hHeld := hNew); clear hNew; (try simp only [Act.put])
        refine wpAnyH_done (by kernel_rfl) ?_ _
        refine only_normal ?_
        have hbel := (below_then HBD.out (below_then HB1.out HB2.out))
        have hbs : w.heap.size ≤ g := (HOw.out.base g rfl).1
        refine ⟨((others_below hbel).trans (HOw.out.others HGV.out)).trans (others_setRow HT9c.out), ⟨?_, ?_, ?_, ?_⟩, ?_, ?_⟩
        · have h1 := HBL.out; have h2 := HBC.out.1
          exact (setRow_other _ _ _ _ (by omega)).trans ((HGV.out.block _ (by have := hbel.size; have := HBC.out.2; have := HSb.out.1; omega) (by simp only [Value.ownBlock]; intro e; injection e with e; omega)).trans (hbel.block _ (by have := HBC.out.2; have := HSb.out.1; omega)))
        · have h3 := HAV.out (wc.heap.size + 2) (by simp)
          exact (setRow_other _ _ _ _ (by omega)).trans ((HGV.out.block _ (Nat.lt_of_lt_of_le h3.2 hbel.size) (by simp only [Value.ownBlock]; intro e; injection e with e; exact h3.1 e.symm)).trans (hbel.block _ h3.2))
        · have h3 := HAV.out (wc.heap.size + 2 + 1) (by simp)
          exact (setRow_other _ _ _ _ (by omega)).trans ((HGV.out.block _ (Nat.lt_of_lt_of_le h3.2 hbel.size) (by simp only [Value.ownBlock]; intro e; injection e with e; exact h3.1 e.symm)).trans (hbel.block _ h3.2))
        · have h1 := hbel.size; have h2 := HGV.out.size
          simp only [World.setRow, Array.size_modify]
          omega
        · have h1 := HNX.out
          rw [← HLL.out] at h1 ⊢
          rw [cutL_snoc]
          exact h1
        · have h1 := hbel.size; have h2 := HGV.out.size; have h3 := HSb.out.1
          simp only [World.setRow, Array.size_modify]
          omega
      · rw [if_pos (by rfl)]
        go_simp; (have HR0 := Lib.hid (heap_alloc_new w0 (.cells #[.slice (some ⟨W.heap.size, 0, none⟩) 64 64] 51)); have HB1 := Lib.hid (below_alloc w0 (.cells #[.slice (some ⟨W.heap.size, 0, none⟩) 64 64] 51)); generalize hx1 : World.alloc w0 (.cells #[.slice (some ⟨W.heap.size, 0, none⟩) 64 64] 51) = w1 at HR0 HB1 ⊢; clear hx1)
        refine hK.out _ _ (trivial) (fun hNew => ?_)
        clear hK K hHeld; (have hHeld := hNew); clear hNew; (try simp only [Act.put, List.setIfInBounds_toArray, List.set_cons_zero, List.set_cons_succ])
        refine aloneH (i := 0) rfl (by kernel_rfl) (fun K hK => ?_)
        rw [if_pos (by rfl)]
        have hcl := cell_on HB1.out HC0.out
        go_simp
        clear hcl
        have HB2 : Hid (Below w1.heap.size w1 w1) := Lib.hid (below_same _)
        refine hK.out _ _ (trivial) (fun hNew => ?_)
        clear hK K hHeld; (have hHeld := hNew); clear hNew; (try simp only [Act.put, List.setIfInBounds_toArray, List.set_cons_zero, List.set_cons_succ])
        refine aloneH (i := 3) rfl (by kernel_rfl) (fun K hK => ?_)
        rw [if_pos (by rfl)]
        have HOw : Hid (OwnT w.heap.size (.slice (some ⟨g, 0, none⟩) LL.length cx) LL w1) := Lib.hid (HQ2.out.on (below_then HBD.out (below_then HB1.out HB2.out)))
        have HGp : Hid (w1.heap[W.heap.size]? = some (.cells ((cutT l k).map cellOf).toArray 128)) := Lib.hid (heap_on (below_then HBD.out (below_then HB1.out HB2.out)) HGb.out)
        refine wp_append_rows (.tmp 32) (.tmp 34) rfl rfl w.heap.size (.slice (some ⟨g, 0, none⟩) LL.length cx) LL rfl HOw.out w0.heap.size rfl W.heap.size 64 64 (cutT l k) _ _ HR0.out (cutT_len l k) (by decide) (Nat.le_refl _) (by unfold maxLen; omega) (range_cells HGp.out) (heapLt HGp.out) HNE.out HLen.out (Nat.le_trans HBL7.out.size (Nat.le_trans HBD.out.size (below_then HB1.out HB2.out).size)) ?_
        intro v2 wv hov hgv hvv
        have HOV := Lib.hid hov; have HGV := Lib.hid hgv; have HVV := Lib.hid hvv; clear hov hgv hvv
        refine hK.out _ _ (trivial) (fun hNew => ?_)
        clear hK K hHeld; (have hHeld := hNew); clear hNew; (try simp only [Act.put, List.setIfInBounds_toArray, List.set_cons_zero, List.set_cons_succ])
        refine aloneH (i := 4) rfl (by kernel_rfl) (fun K hK => ?_)
        rw [if_pos (by rfl)]
        obtain ⟨g', c', hv2, hT9c, hNx⟩ := HIb.out.next (below_then HBD.out (below_then HB1.out HB2.out)) HQ1.out HOV.out HGV.out HVV.out
        have HT9c := Lib.hid hT9c; have HNX := Lib.hid hNx; clear hT9c hNx
        subst hv2
        refine wp_store_one 31 (.tmp 9) (.tmp 35) rfl (wc.heap.size + 1) rfl (.slice (some ⟨g', 0, none⟩) (LL ++ [cutT l k]).length c') tape_info1 rfl rfl rfl _ _ HT9c.out ?_
        refine hK.out _ _ (trivial) (fun hNew => ?_)
        clear hK K hHeld; (have hHeld := hNew); clear hNew; (try simp only [Act.put])
        refine wpAnyH_done (by kernel_rfl) ?_ _
        refine only_normal ?_
        have hbel := (below_then HBD.out (below_then HB1.out HB2.out))
        have hbs : w.heap.size ≤ g := (HOw.out.base g rfl).1
        refine ⟨((others_below hbel).trans (HOw.out.others HGV.out)).trans (others_setRow HT9c.out), ⟨?_, ?_, ?_, ?_⟩, ?_, ?_⟩
        · have h1 := HBL.out; have h2 := HBC.out.1
          exact (setRow_other _ _ _ _ (by omega)).trans ((HGV.out.block _ (by have := hbel.size; have := HBC.out.2; have := HSb.out.1; omega) (by simp only [Value.ownBlock]; intro e; injection e with e; omega)).trans (hbel.block _ (by have := HBC.out.2; have := HSb.out.1; omega)))
        · have h3 := HAV.out (wc.heap.size + 2) (by simp)
          exact (setRow_other _ _ _ _ (by omega)).trans ((HGV.out.block _ (Nat.lt_of_lt_of_le h3.2 hbel.size) (by simp only [Value.ownBlock]; intro e; injection e with e; exact h3.1 e.symm)).trans (hbel.block _ h3.2))
        · have h3 := HAV.out (wc.heap.size + 2 + 1) (by simp)
          exact (setRow_other _ _ _ _ (by omega)).trans ((HGV.out.block _ (Nat.lt_of_lt_of_le h3.2 hbel.size) (by simp only [Value.ownBlock]; intro e; injection e with e; exact h3.1 e.symm)).trans (hbel.block _ h3.2))
        · have h1 := hbel.size; have h2 := HGV.out.size
          simp only [World.setRow, Array.size_modify]
          omega
        · have h1 := HNX.out
          rw [← HLL.out] at h1 ⊢
          rw [cutL_snoc]
          exact h1
        · have h1 := hbel.size; have h2 := HGV.out.size; have h3 := HSb.out.1
          simp only [World.setRow, Array.size_modify]
          omega
end Go.Proofs.Ytfjejiapafdgeaa
