/- The document's own disk: written, where the fuse cuts it. The document's own disk: made. A disk cloned. -/
import Derived.Test.YtfjejiapafdgeaaJ30
import Derived.Deep.RegionHeld3
import Derived.Test.YtfjejiapafdgeaaJ2
import Derived.Deep.RegionLaw
import Derived.Deep.AppendLies
import Derived.Deep.OwnRows
import Derived.Test.YtfjejiapafdgeaaJ3
import Derived.Laws.Externs
import Derived.MapKept
namespace Go.Proofs.Ytfjejiapafdgeaa
open Go.RowKit
set_option maxRecDepth 100000

set_option maxHeartbeats 2000000 in
theorem ref_write_cut (w : World) (g c : Nat) (tr : Int) (d : DiskV) (k : Nat) (s : ByteArray) (h : RefIs w g c tr d) (ho : OkD d) (hm : d.many ≤ 1000) (hr : reachV d k = 0) (hs : s.size = 64) (hf : d.set = true ∧ d.after = 0) (T : Text) (hT : s = ⟨T.toArray⟩) (hSk : (d.S k).length = 64) :
    Calls Try.prog 44 #[refV g c tr d, .int .i64 k, .string s] w (WroteR w (writeD d k T) 32) := by
  have HE : Hid (Value.agg (refC g c d.many (aftR d) tr d.dead d.writes).toArray = refV g c tr d) := Lib.hid (by simp [refC, refV])
  obtain ⟨w0, hw0⟩ : ∃ w0, w0 = (w.alloc (.cells (refC g c d.many (aftR d) tr d.dead d.writes).toArray 28)).alloc (.cells #[.slice none 0 0, .int .i64 0, .int .i64 0, .bool false, .int .i64 0] 28) := ⟨_, rfl⟩
  have hb0 : Below w.heap.size w w0 := by rw [hw0]; exact ((Below.refl _ w).alloc (Nat.le_refl _) _).alloc (by simp) _
  have hx3 : w0.heap[w.heap.size]? = some (.cells (refC g c d.many (aftR d) tr d.dead d.writes).toArray 28 (0, 0)) := by rw [hw0, Below.heap_alloc _ _ _ (by simp)]; exact heap_alloc_new w _
  have hx6 : w0.heap[w.heap.size + 1]? = some (.cells #[.slice none 0 0, .int .i64 0, .int .i64 0, .bool false, .int .i64 0] 28 (0, 0)) := by
    rw [hw0]
    have := heap_alloc_new (w.alloc (.cells (refC g c d.many (aftR d) tr d.dead d.writes).toArray 28)) (.cells #[.slice none 0 0, .int .i64 0, .int .i64 0, .bool false, .int .i64 0] 28)
    rwa [World.size_alloc] at this
  have hsz : w0.heap.size = w.heap.size + 2 := by rw [hw0]; simp
  have HR : Hid (Calls Try.prog 67 #[refV g c tr d, .int .i64 (k : Int)] w0 fun e w' => e = .returned (.tuple #[.string (readS d (k : Int)), .int .i64 (reachV d (k : Int))]) ∧ (w'.heap[w.heap.size]? = some (.cells (refC g c d.many (aftR d) tr d.dead d.writes).toArray 28 (0, 0)) ∧
      w'.heap[w.heap.size + 1]? = some (.cells #[.slice none 0 0, .int .i64 0, .int .i64 0, .bool false, .int .i64 0] 28 (0, 0)) ∧ RefIs w' g c tr d ∧ Below w.heap.size w w')) := Lib.hid ((ref_read w0 g c tr d k (h.below hb0)).mono fun e w' ⟨q1, q2⟩ =>
        ⟨q1, (q2.block _ (by omega)).trans hx3, (q2.block _ (by omega)).trans hx6, (h.below hb0).below q2, hb0.trans (q2.mono (by omega))⟩)
  have HG : Hid (g ≠ w.heap.size + 1) := Lib.hid (by have := h.1.1; omega)
  unfold refV at HR ⊢
  rw [hw0] at HR
  rw [hr] at HR
  generalize readS d (k : Int) = rs at *
  have hkm : k < d.many := by have := (reach_ok hr).2.1; omega
  have hkm' : (k : Int) < (d.many : Int) := by omega
  have hs' : (s.size : Int) = 64 := by omega
  obtain ⟨o1, o2, o3, o4, o5⟩ := ho
  have hTl : T.length = 64 := by rw [hT] at hs; exact hs
  have HTR := Lib.hid (h.2.2.2 hf.1)
  obtain ⟨t, htt⟩ : ∃ t : Nat, d.torn = (t : Int) := ⟨d.torn.toNat, by omega⟩
  have ht64 : (t : Int) ≤ 64 := by omega
  have HWD : Hid (writeD d k T = { d.lay k (T.take t) with dead := true, set := false, after := 0, torn := 0 }) := Lib.hid (by
    unfold writeD
    rw [if_neg (by omega), if_neg (by omega), if_pos hf, Int.toNat_natCast, htt, Int.toNat_natCast])
  obtain ⟨old, hold⟩ : ∃ old : ByteArray, old = ⟨(d.S k).toArray⟩ := ⟨_, rfl⟩
  have hos : old.size = 64 := by rw [hold]; exact hSk
  have HST := Lib.hid hT
  have HOLD := Lib.hid hold
  have haf : aftR d = 0 := by unfold aftR; rw [if_pos hf.1]; exact hf.2
  rw [haf] at HR ⊢
  have htr2 : tr = (t : Int) := by rw [HTR.out, htt]
  rw [htr2] at HR ⊢
  clear hw0 hb0 hx3 hx6 hsz h hT hr hs hold haf htr2
  go_enter Try.func44, Try.ntmps44
  go_wp2_with (first
    | (go_at_call 67; refine HR.out.mono ?_; rintro e w1 ⟨rfl, hx3, hx6, hri, hb1⟩; have c0 := cell_of_row w1 _ 0 _ _ _ hx3; have c1 := cell_of_row w1 _ 1 _ _ _ hx3; have c2 := cell_of_row w1 _ 2 _ _ _ hx3; have c3 := cell_of_row w1 _ 3 _ _ _ hx3; have c4 := cell_of_row w1 _ 4 _ _ _ hx3; simp only [refC, List.getElem?_toArray, List.getElem?_cons_zero, List.getElem?_cons_succ] at c0 c1 c2 c3 c4; have c0a : ∀ x, (w1.alloc x).cell? ⟨w.heap.size, 0, none⟩ = some (.slice (some ⟨g, 0, none⟩) d.many c) := fun x => (((Below.refl w1.heap.size w1).alloc (Nat.le_refl _) x).cell (heapLt hx3)).trans c0; have HX3 := Lib.hid hx3; have HX6 := Lib.hid hx6; have HPG : Hid (Pgs w1 g (pagesL d)) := Lib.hid hri.1; have HRI := Lib.hid hri; have HB1 := Lib.hid hb1; clear hx3 hx6 hri hb1)
    | ((with_reducible refine wpList_copy_row (o := ⟨some 28, _, _, _, _, _⟩) ?q1 (.tmp 25) (.tmp 27) ?q2 w1 ?q3 ?q4 g c d.many (pagesL d) ?q5 (pagesL_len d) HPG.out ?q6 ?q7 ?_); (case q1 => rfl); (case q2 => rfl); (case q3 => rfl); (case q4 => rfl); (case q5 => rfl); (case q6 => rw [pagesL_len]; omega); (case q7 => rw [pagesL_len]; omega); intro g2 c2 cur w2 hh2 hcur hc2 hm2 hg2 hb2; have y3 := (hb2.block _ (heapLt HX3.out)).trans HX3.out; have y6 := (hb2.block _ (heapLt HX6.out)).trans HX6.out; have e0 := cell_of_row w2 _ 0 _ _ _ y3; have e1 := cell_of_row w2 _ 1 _ _ _ y3; have e2 := cell_of_row w2 _ 2 _ _ _ y3; have e3 := cell_of_row w2 _ 3 _ _ _ y3; have e4 := cell_of_row w2 _ 4 _ _ _ y3; simp only [refC, List.getElem?_toArray, List.getElem?_cons_zero, List.getElem?_cons_succ] at e0 e1 e2 e3 e4; have z0 := frozen_of_row w2 _ 0 _ _ y3; have z1 := frozen_of_row w2 _ 1 _ _ y3; have z4 := frozen_of_row w2 _ 4 _ _ y3; have k0 := cell_of_row w2 _ 0 _ _ _ y6; have k1 := cell_of_row w2 _ 1 _ _ _ y6; have k2 := cell_of_row w2 _ 2 _ _ _ y6; have k3 := cell_of_row w2 _ 3 _ _ _ y6; have k4 := cell_of_row w2 _ 4 _ _ _ y6; simp only [List.getElem?_toArray, List.getElem?_cons_zero, List.getElem?_cons_succ] at k0 k1 k2 k3 k4; have m0 := frozen_of_row w2 _ 0 _ _ y6; have m1 := frozen_of_row w2 _ 1 _ _ y6; have m2 := frozen_of_row w2 _ 2 _ _ y6; have m3 := frozen_of_row w2 _ 3 _ _ y6; have m4 := frozen_of_row w2 _ 4 _ _ y6; have rk := cell_of_row w2 g2 k _ _ _ hh2; rw [hcur k (by rw [pagesL_len]; exact hkm), pagesL_at, ← HOLD.out] at rk; have rf := frozen_of_row w2 g2 k _ _ hh2; have n3 : ¬ g2 = w.heap.size := (by have := heapLt HX3.out; omega); have n6 : ¬ g2 = w.heap.size + 1 := (by have := heapLt HX6.out; omega); have n3' : ¬ w.heap.size = g2 := (by omega); have n6' : ¬ w.heap.size + 1 = g2 := (by omega); have HY6 := Lib.hid y6; have HY3 := Lib.hid y3; have HH2 := Lib.hid hh2; have HC2 := Lib.hid (And.intro hcur (And.intro hc2 (And.intro hm2 hg2))); have HB2 := Lib.hid hb2; clear y3 y6 hh2 hcur hc2 hm2 hg2 hb2; (try simp only [Act.put, List.setIfInBounds_toArray, List.set_cons_zero, List.set_cons_succ])))
  have rk' : w2.drew.cell? ⟨g2, k, none⟩ = some (.string old) := rk
  have rf' : w2.drew.frozen? ⟨g2, k, none⟩ = false := rf
  refine wp_region_held_drew (S := fun w' => w'.cell? ⟨w.heap.size, 2, none⟩ = some (.int .i64 t)) (by kernel_rfl) e2 ?_
  intro hHeld
  (refine takeH (i := 0) (v := ?_) rfl (by kernel_rfl) (by kernel_rfl) (by kernel_rfl) (fun _ _ _ h => h) (Or.inl ⟨by rfl, ?_⟩) (by assumption) ?_; rotate_left; (focus ((intro wS hSw); (try dsimp only at hSw); go_simp; (try with_reducible rfl); done)); (try simp only [Act.put, List.setIfInBounds_toArray, List.set_cons_zero, List.set_cons_succ]))
  (refine takeH (i := 1) (v := ?_) rfl (by kernel_rfl) (by kernel_rfl) (by kernel_rfl) (fun _ _ _ h => h) (Or.inl ⟨by rfl, ?_⟩) (by assumption) ?_; rotate_left; (focus ((intro wS hSw); (try dsimp only at hSw); go_simp; (try with_reducible rfl); done)); (try simp only [Act.put, List.setIfInBounds_toArray, List.set_cons_zero, List.set_cons_succ]))
  (refine takeH (i := 2) (v := ?_) rfl (by kernel_rfl) (by kernel_rfl) (by kernel_rfl) (fun _ _ _ h => h) (Or.inl ⟨by rfl, ?_⟩) (by assumption) ?_; rotate_left; (focus ((intro wS hSw); (try dsimp only at hSw); go_simp; (try with_reducible rfl); done)); (try simp only [Act.put, List.setIfInBounds_toArray, List.set_cons_zero, List.set_cons_succ]))
  (refine takeH (i := 3) (v := ?_) rfl (by kernel_rfl) (by kernel_rfl) (by kernel_rfl) (fun _ _ _ h => h) (Or.inl ⟨by rfl, ?_⟩) (by assumption) ?_; rotate_left; (focus ((intro wS hSw); (try dsimp only at hSw); go_simp; (try with_reducible rfl); done)); (try simp only [Act.put, List.setIfInBounds_toArray, List.set_cons_zero, List.set_cons_succ]))
  (refine takeH (i := 4) (v := ?_) rfl (by kernel_rfl) (by kernel_rfl) (by kernel_rfl) (fun _ _ _ h => h) (Or.inl ⟨by rfl, ?_⟩) (by assumption) ?_; rotate_left; (focus ((intro wS hSw); (try dsimp only at hSw); go_simp; (try with_reducible rfl); done)); (try simp only [Act.put, List.setIfInBounds_toArray, List.set_cons_zero, List.set_cons_succ]))
  (refine takeH (i := 5) (v := ?_) rfl (by kernel_rfl) (by kernel_rfl) (by kernel_rfl) (fun _ _ _ h => h) (Or.inl ⟨by rfl, ?_⟩) (by assumption) ?_; rotate_left; (focus ((intro wS hSw); (try dsimp only at hSw); go_simp; (try with_reducible rfl); done)); (try simp only [Act.put, List.setIfInBounds_toArray, List.set_cons_zero, List.set_cons_succ]))
  (refine takeH (i := 6) (v := ?_) rfl (by kernel_rfl) (by kernel_rfl) (by kernel_rfl) (fun _ _ _ h => h) (Or.inl ⟨by rfl, ?_⟩) (by assumption) ?_; rotate_left; (focus ((intro wS hSw); (try dsimp only at hSw); go_simp; (try with_reducible rfl); done)); (try simp only [Act.put, List.setIfInBounds_toArray, List.set_cons_zero, List.set_cons_succ]))
  (refine takeH (i := 7) (v := ?_) rfl (by kernel_rfl) (by kernel_rfl) (by kernel_rfl) (fun _ _ _ h => h) (Or.inl ⟨by rfl, ?_⟩) (by assumption) ?_; rotate_left; (focus ((intro wS hSw); (try dsimp only at hSw); go_simp; (try with_reducible rfl); done)); (try simp only [Act.put, List.setIfInBounds_toArray, List.set_cons_zero, List.set_cons_succ]))
  (refine takeH (i := 8) (v := ?_) rfl (by kernel_rfl) (by kernel_rfl) (by kernel_rfl) (fun _ _ _ h => h) (Or.inl ⟨by rfl, ?_⟩) (by assumption) ?_; rotate_left; (focus ((intro wS hSw); (try dsimp only at hSw); go_simp; (try with_reducible rfl); done)); (try simp only [Act.put, List.setIfInBounds_toArray, List.set_cons_zero, List.set_cons_succ]))
  (refine takeH (i := 10) (v := ?_) rfl (by kernel_rfl) (by kernel_rfl) (by kernel_rfl) (fun _ _ _ h => h) (Or.inl ⟨by rfl, ?_⟩) (by assumption) ?_; rotate_left; (focus ((intro wS hSw); (try dsimp only at hSw); go_simp; (try with_reducible rfl); done)); (try simp only [Act.put, List.setIfInBounds_toArray, List.set_cons_zero, List.set_cons_succ]))
  (refine takeH (i := 11) (v := ?_) rfl (by kernel_rfl) (by kernel_rfl) (by kernel_rfl) (fun _ _ _ h => h) (Or.inl ⟨by rfl, ?_⟩) (by assumption) ?_; rotate_left; (focus ((intro wS hSw); (try dsimp only at hSw); go_simp; (try with_reducible rfl); done)); (try simp only [Act.put, List.setIfInBounds_toArray, List.set_cons_zero, List.set_cons_succ]))
  (refine aloneH (i := 9) rfl (by kernel_rfl) (fun K hK => ?_); rw [if_pos (by rfl)]; go_simp; refine hK.out _ _ hHeld (fun hNew => ?_); clear hK K hHeld; (have hHeld := hNew); clear hNew; (try simp only [Act.put, List.setIfInBounds_toArray, List.set_cons_zero, List.set_cons_succ]))
  have hsum : ¬ (9223372036854775807 < min t 64 + (64 - t)) := by omega
  have hx1 : s.extract 0 t = ByteArray.mk (T.take t).toArray := by
    rw [HST.out, ByteArray.extract_mk]
    congr 1 <;> simp
  have hx2 : old.extract t 64 = ByteArray.mk ((d.S k).drop t).toArray := by
    rw [HOLD.out, ByteArray.extract_mk]
    congr 1
    simp
    exact List.take_of_length_le (by rw [List.length_drop]; omega)
  (refine takeH (i := 12) (v := ?_) rfl (by kernel_rfl) (by kernel_rfl) (by kernel_rfl) (fun _ _ _ h => h) (Or.inl ⟨by rfl, ?_⟩) (by assumption) ?_; rotate_left; (focus ((intro wS hSw); (try dsimp only at hSw); go_simp; (try with_reducible rfl); done)); (try simp only [Act.put, List.setIfInBounds_toArray, List.set_cons_zero, List.set_cons_succ]))
  (refine takeH (i := 13) (v := ?_) rfl (by kernel_rfl) (by kernel_rfl) (by kernel_rfl) (fun _ _ _ h => h) (Or.inl ⟨by rfl, ?_⟩) (by assumption) ?_; rotate_left; (focus ((intro wS hSw); (try dsimp only at hSw); go_simp; (try with_reducible rfl); done)); (try simp only [Act.put, List.setIfInBounds_toArray, List.set_cons_zero, List.set_cons_succ]))
  rw [ByteArray.mk_append_mk]
  clear hx1 hx2
  (refine takeH (i := 14) (v := ?_) rfl (by kernel_rfl) (by kernel_rfl) (by kernel_rfl) (fun _ _ _ h => h) (Or.inl ⟨by rfl, ?_⟩) (by assumption) ?_; rotate_left; (focus ((intro wS hSw); (try dsimp only at hSw); go_simp; (try with_reducible rfl); done)); (try simp only [Act.put, List.setIfInBounds_toArray, List.set_cons_zero, List.set_cons_succ]))
  obtain ⟨N, hN⟩ : ∃ N : Text, N = T.take t ++ (d.S k).drop t := ⟨_, rfl⟩
  have HNN := Lib.hid hN
  rw [← hN]
  clear hN
  have hX3 : (w2.setCell ⟨g2, k, none⟩ (.string ⟨N.toArray⟩)).drew.heap[w.heap.size]? = w2.heap[w.heap.size]? := heap_setCell_other _ _ _ _ n3'
  have hX6 : (w2.setCell ⟨g2, k, none⟩ (.string ⟨N.toArray⟩)).drew.heap[w.heap.size + 1]? = w2.heap[w.heap.size + 1]? := heap_setCell_other _ _ _ _ n6'
  have hXg : (w2.setCell ⟨g2, k, none⟩ (.string ⟨N.toArray⟩)).drew.heap[g2]? = some (.cells (cur.setIfInBounds k (.string ⟨N.toArray⟩)) 9 (0, 0)) := heap_setCell_same w2 g2 k _ _ _ HH2.out
  have hXb : Below w.heap.size w (w2.setCell ⟨g2, k, none⟩ (.string ⟨N.toArray⟩)).drew := ((HB1.out.trans (HB2.out.mono HB1.out.size)).setCell (p := ⟨g2, k, none⟩) (by have := HC2.out.2.2.2; have := HB1.out.size; simp; omega) _).drew
  (refine aloneH (i := 15) rfl (by kernel_rfl) (fun K hK => ?_); rw [if_pos (by rfl)]; go_simp; refine hK.out _ _ ((World.cell?_of_block hX3).trans e2) (fun hNew => ?_); clear hK K hHeld hNew; (try simp only [Act.put]))
  have x3 := hX3.trans HY3.out
  have x6 := hX6.trans HY6.out
  clear hX3 hX6 rk' rf' rk rf e0 e1 e2 e3 e4 k0 k1 k2 k3 k4 m0 m1 m2 m3 m4 z0 z1 z4
  generalize (w2.setCell ⟨g2, k, none⟩ (.string ⟨N.toArray⟩)).drew = W3 at *
  have e0 := cell_of_row W3 _ 0 _ _ _ x3
  have e1 := cell_of_row W3 _ 1 _ _ _ x3
  have e2 := cell_of_row W3 _ 2 _ _ _ x3
  have e3 := cell_of_row W3 _ 3 _ _ _ x3
  have e4 := cell_of_row W3 _ 4 _ _ _ x3
  simp only [refC, List.getElem?_toArray, List.getElem?_cons_zero, List.getElem?_cons_succ] at e0 e1 e2 e3 e4
  have k0 := cell_of_row W3 _ 0 _ _ _ x6
  have k1 := cell_of_row W3 _ 1 _ _ _ x6
  have k2 := cell_of_row W3 _ 2 _ _ _ x6
  have k3 := cell_of_row W3 _ 3 _ _ _ x6
  have k4 := cell_of_row W3 _ 4 _ _ _ x6
  simp only [List.getElem?_toArray, List.getElem?_cons_zero, List.getElem?_cons_succ] at k0 k1 k2 k3 k4
  have m0 := frozen_of_row W3 _ 0 _ _ x6
  have m1 := frozen_of_row W3 _ 1 _ _ x6
  have m2 := frozen_of_row W3 _ 2 _ _ x6
  have m3 := frozen_of_row W3 _ 3 _ _ x6
  have m4 := frozen_of_row W3 _ 4 _ _ x6
  have HXG := Lib.hid hXg
  have HX66 := Lib.hid x6
  have HXB := Lib.hid hXb
  clear hXg x6 x3 hXb
  refine wpAnyH_done (by kernel_rfl) ?_ _
  go_wp2
  obtain ⟨q1, q2, q3⟩ := wrote_post (d := d) (d' := writeD d k T) (T := N) (tr := 0) HXB.out (b := w.heap.size + 1) (by omega) HX66.out HXG.out n6 HC2.out.1 hkm (by rw [HWD.out]; rfl) (fun i => by
      rw [HWD.out, HNN.out]
      show (if i = k then overP (d.S k) (T.take t) else d.S i) = _
      by_cases e : i = k
      · rw [if_pos e, if_pos e]
        unfold overP
        have hl : (T.take t).length = t := by rw [List.length_take]; omega
        rw [List.take_of_length_le (by omega), hl]
      · rw [if_neg e, if_neg e]) HC2.out.2.1 HC2.out.2.2.1 (by rw [HWD.out]; intro hx; cases hx)
    (.slice (some ⟨g2, 0, none⟩) d.many c2) (.int .i64 (-1)) (.int .i64 0) (.bool true) (.int .i64 d.writes) (by rw [HWD.out]; simp [refC, aftR, DiskV.lay])
  exact bodyPost_ret (results_cell_of2 rfl _ _ (w.heap.size + 1) _ _ rfl rfl (load_ref _ _ _ rfl _ _ q1)) rfl ⟨g2, c2, 0, rfl, q2, q3⟩
end Go.Proofs.Ytfjejiapafdgeaa

namespace Go.Proofs.Ytfjejiapafdgeaa
open Go.RowKit
set_option maxRecDepth 100000

def zeroS : ByteArray := ⟨zeros.toArray⟩
theorem make64 (w : World) : (Instr.makeSlice 51 (.int .i64 64) (.int .i64 64)).run Try.prog w = .ok (.slice (some ⟨w.heap.size, 0, none⟩) 64 64) (w.alloc (.cells (zeros.map cellOf).toArray 5)) := by
  have hmk := run_make_row' (P := Try.prog) 51 5 (.int .u8 0) 1 Try.underlying51 u8fact rfl .i64 .i64 64 (by omega) (by omega) w
  have e : madeCells #[Value.int .u8 0] 64 = (zeros.map cellOf).toArray := by
    apply Array.ext
    · simp [madeCells, zeros]
    · intro i h1 h2
      have h3 : i < zeros.length := by simpa using h2
      have h4 : zeros[i] = 0 := by unfold zeros; exact List.getElem_replicate ..
      simp only [List.getElem_toArray, List.getElem_map, h4]
      simp [madeCells, cellOf, Nat.mod_one]
  rw [e] at hmk
  exact hmk

theorem one_new (w : World) (s : ByteArray) (g : Nat) (hg : w.heap.size = g) : ∀ j u, ([Value.string s] : List Value)[j]? = some u → (w.alloc (.cells #[.string s] 9)).drew.cell? ((⟨g, 0, none⟩ : Addr).add j) = some u := fun j u hu => by
  subst hg
  cases j with
  | zero =>
    simp at hu
    subst hu
    have h7 : (⟨w.heap.size, 0, none⟩ : Addr).add 0 = ⟨w.heap.size, 0, none⟩ := by simp [Addr.add]
    rw [h7]
    exact cell_of_row _ w.heap.size 0 _ _ _ (heap_alloc_new w (.cells #[.string s] 9))
  | succ j => simp at hu
theorem own_set_str {w : World} {base : Nat} {v : Value} {n : Nat} {xs : List Value} (h : w.ownsRow base 9 1 v n xs) (a : Addr) (u : Value) (hne : v.ownBlock ≠ some a.block) : (w.setCell a u).ownsRow base 9 1 v n xs :=
  h.kept (row := some a.block) ⟨rfl, rfl, rfl, by simp, fun k _ hk => heap_setCell_other w a k u (fun e => hk (by rw [e]))⟩ (.inr hne)
set_option maxHeartbeats 2000000 in
theorem ref_new (w : World) (m : Nat) (h1 : 1 ≤ m) (h2 : m ≤ 40) : Calls Try.prog 43 #[.int .i64 m] w fun e w' => ∃ g c, e = .returned (refV g c 0 (newD m)) ∧ RefIs w' g c 0 (newD m) ∧ Below w.heap.size w w' ∧ w.heap.size ≤ g := by
  have hmk := make64
  have hmix : Try.prog.follows .mixedOrders = true := by kernel_rfl
  go_enter Try.func43, Try.ntmps43
  go_wp2
  go_loopw [4] (fun i wr => ∃ (k : Nat) (v : Value), k ≤ m ∧ i = .int .i64 k ∧ (∃ A n c, v = .slice A n c) ∧ Hid (wr.heap[w.heap.size + 1]? = some (.cells #[v, .int .i64 (-1), .int .i64 0, .bool false, .int .i64 0] 28 (0, 0))) ∧
    Hid (wr.heap[w.heap.size]? = some (.cells #[.slice none 0 0, .int .i64 0, .int .i64 0, .bool false, .int .i64 0] 28 (0, 0))) ∧ Hid (wr.ownsRow (w.heap.size + 2) 9 1 v k (List.replicate k (.string zeroS))) ∧ Hid (Below w.heap.size w wr)) (fun i _ => m - (intOf i).toNat)
  case atStart =>
    refine ⟨0, .slice none 0 0, Nat.zero_le _, rfl, ⟨_, _, _, rfl⟩, Lib.hid ?_, Lib.hid ?_, Lib.hid (World.ownsRow_nil _ _ _ _), Lib.hid (((Below.refl _ w).alloc (Nat.le_refl _) _).alloc (by simp) _)⟩
    · have := heap_alloc_new (w.alloc (.cells #[.slice none 0 0, .int .i64 0, .int .i64 0, .bool false, .int .i64 0] 28)) (.cells #[.slice none 0 0, .int .i64 (-1), .int .i64 0, .bool false, .int .i64 0] 28)
      rwa [World.size_alloc] at this
    · rw [Below.heap_alloc _ _ _ (by simp)]
      exact heap_alloc_new w _
  case round =>
    obtain ⟨k, v, hk, rfl, ⟨A, n, c, rfl⟩, H3, H2, HO, HB⟩ := hrel
    have c0 := cell_of_row wr _ 0 _ _ _ H3.out
    have c1 := cell_of_row wr _ 1 _ _ _ H3.out
    have c2 := cell_of_row wr _ 2 _ _ _ H3.out
    have c3 := cell_of_row wr _ 3 _ _ _ H3.out
    have c4 := cell_of_row wr _ 4 _ _ _ H3.out
    simp only [List.getElem?_toArray, List.getElem?_cons_zero, List.getElem?_cons_succ] at c0 c1 c2 c3 c4
    have f0 := frozen_of_row wr _ 0 _ _ H3.out
    have hlt3 := heapLt H3.out
    by_cases hlt : k < m
    · have hlt' : (k : Int) < (m : Int) := by omega
      have hcv : (convert 51 9 (.slice (some ⟨wr.heap.size, 0, none⟩) 64 64)).run Try.prog (wr.alloc (.cells (zeros.map cellOf).toArray 5)).drew = .ok (.string zeroS) (wr.alloc (.cells (zeros.map cellOf).toArray 5)).drew :=
        text_run_n _ _ 64 64 zeros zeros_len (txt_page (t := 5) (fr := (0, 0)) (heap_alloc_new wr _)) (by simp)
      obtain ⟨i0, hi, hz0, hz1, hz2⟩ := info_parts strfactS
      have hb8 : ∀ x y, Below wr.heap.size wr ((wr.alloc x).alloc y).drew := fun x y => (((Below.refl wr.heap.size wr).alloc (Nat.le_refl _) x).alloc (by simp) y).drew
      have HO8 : Hid (∀ x y, ((wr.alloc x).alloc y).drew.ownsRow (w.heap.size + 2) 9 1 (.slice A n c) k (List.replicate k (.string zeroS))) := Lib.hid (fun x y => HO.out.kept (row := none) ⟨(hb8 x y).os, (hb8 x y).tape, (hb8 x y).output, (hb8 x y).size, fun q hq _ => (hb8 x y).block q hq⟩ (by
        rcases HO.out.2 with ⟨h, _⟩ | ⟨g, c, cur, h, _⟩
        · exact .inl (by rw [h]; rfl)
        · exact .inr (by simp [h, Value.ownBlock])))
      have hsz3 : w.heap.size + 2 ≤ wr.heap.size := by omega
      have HGW : Hid (∀ x y w2, ((wr.alloc x).alloc y).drew.grownBy w2 (Value.slice A n c).ownBlock → w2.heap[w.heap.size + 1]? = some (.cells #[.slice A n c, .int .i64 (-1), .int .i64 0, .bool false, .int .i64 0] 28 (0, 0)) ∧
          w2.heap[w.heap.size]? = some (.cells #[.slice none 0 0, .int .i64 0, .int .i64 0, .bool false, .int .i64 0] 28 (0, 0)) ∧ Below w.heap.size w w2) := Lib.hid (fun x y w2 hg => by
        have hrow : ∀ q, some q = (Value.slice A n c).ownBlock → w.heap.size + 2 ≤ q := fun q e => (HO.out.lt q e.symm).1
        have hbw := (hb8 x y)
        refine ⟨?_, ?_, ?_⟩
        · exact (hg.block _ (by have := hbw.size; omega) (fun e => by have := hrow _ e; omega)).trans ((hbw.block _ (by omega)).trans H3.out)
        · exact (hg.block _ (by have := hbw.size; omega) (fun e => by have := hrow _ e; omega)).trans ((hbw.block _ (by omega)).trans H2.out)
        · exact (HB.out.trans (hbw.mono HB.out.size)).grown hg (Nat.le_trans HB.out.size hbw.size) (fun q e => by have := hrow q e.symm; omega))
      have hc1 : ∀ x, (wr.alloc x).cell? ⟨w.heap.size + 1, 0, none⟩ = some (.slice A n c) := fun x => (((Below.refl wr.heap.size wr).alloc (Nat.le_refl _) x).cell hlt3).trans c0
      have hc2 : ∀ x y, ((wr.alloc x).alloc y).cell? ⟨w.heap.size + 1, 0, none⟩ = some (.slice A n c) := fun x y => ((((Below.refl wr.heap.size wr).alloc (Nat.le_refl _) x).alloc (by simp) y).cell hlt3).trans c0
      clear hb8
      go_wp2
      go_region_law ((refine step_append_lies _ (by rfl) _ _ _ (by rfl) (w.heap.size + 2) 9 i0 (.string {data:=#[]}) 1 16 Try.underlying26 hi hz0 hz1 hz2 rfl (by decide) _ k _ (by rfl) (HO8.out _ _) ⟨wr.heap.size + 1, 0, none⟩ 1 1 [.string zeroS] (by rfl) rfl (one_new _ _ _ (by simp)) (by simp [Value.oneCell']) (by omega) (by unfold maxLen; omega) (by omega) (by simp <;> omega) (wr.heap.size + 2) (by simp) ?_; intro g2 cap2 w2 hown2 hgrow2 hat2 hlt2; obtain ⟨y3, y2, hb2⟩ := HGW.out _ _ w2 hgrow2; have d0 := cell_of_row w2 _ 0 _ _ _ y3; have d1 := frozen_of_row w2 _ 0 _ _ y3; have HY := Lib.hid (And.intro y3 (And.intro y2 hb2)); have HOW := Lib.hid hown2; clear y3 y2 hb2 hown2 hgrow2 hat2 hlt2))
      all_goals go_wp2
      all_goals go_roundw
      all_goals first
        | (show _ < _; simp [intOf]; omega)
        | (refine ⟨k + 1, .slice (some ⟨g2, 0, none⟩) (k + 1) cap2, by omega, by go_num, ⟨_, _, _, rfl⟩, Lib.hid (heap_setCell_same w2 _ 0 _ _ _ HY.out.1), Lib.hid ((heap_setCell_other _ _ _ _ (by simp)).trans HY.out.2.1), Lib.hid ?_, Lib.hid (HY.out.2.2.setCell (p := ⟨w.heap.size + 1, 0, none⟩) (by simp) _)⟩; rw [List.replicate_succ']; exact own_set_str HOW.out ⟨w.heap.size + 1, 0, none⟩ _ (fun e => by have := (HOW.out.lt _ e).1; simp at this))
    · obtain rfl : k = m := by omega
      have d0 := cell_of_row wr _ 0 _ _ _ H2.out
      have d1 := cell_of_row wr _ 1 _ _ _ H2.out
      have d2 := cell_of_row wr _ 2 _ _ _ H2.out
      have d3 := cell_of_row wr _ 3 _ _ _ H2.out
      have d4 := cell_of_row wr _ 4 _ _ _ H2.out
      simp only [List.getElem?_toArray, List.getElem?_cons_zero, List.getElem?_cons_succ] at d0 d1 d2 d3 d4
      have z0 := frozen_of_row wr _ 0 _ _ H2.out
      have z1 := frozen_of_row wr _ 1 _ _ H2.out
      have z2 := frozen_of_row wr _ 2 _ _ H2.out
      have z3 := frozen_of_row wr _ 3 _ _ H2.out
      have z4 := frozen_of_row wr _ 4 _ _ H2.out
      rcases HO.out.2 with ⟨_, h0⟩ | ⟨g, cc, cur, hv, hB, hh, hc, hm, _⟩
      · omega
      injection hv with e1 e2 e3
      subst e1 e2 e3
      have HP : Hid (Pgs wr g (pagesL (newD n)) ∧ n ≤ c ∧ c ≤ maxLen ∧ w.heap.size + 2 ≤ g) := Lib.hid ⟨⟨heapLt hh, fun i hi => by
        have hi' : i < n := by rw [pagesL_len] at hi; exact hi
        have := HO.out.cells (g := g) rfl i (.string zeroS) (by rw [List.getElem?_replicate, if_pos hi'])
        rw [Addr.add_mid, Nat.zero_add] at this
        rw [this, pagesL_at]
        rfl⟩, hc, hm, by omega⟩
      clear hh hc hm hB
      go_wp2
      have hx := set_struct5 H2.out (.slice (some ⟨g, 0, none⟩) n c) (.int .i64 (-1)) (.int .i64 0) (.bool false) (.int .i64 0)
      have hri : RefIs wr g c 0 (newD n) := ⟨HP.out.1, HP.out.2.1, HP.out.2.2.1, fun hx => by cases hx⟩
      exact bodyPost_ret (results_cell_of rfl _ _ w.heap.size _ rfl (load_ref _ _ (refC g c n (-1) 0 false 0) rfl _ _ hx)) rfl ⟨g, c, rfl, hri.set5 (by have := HP.out.2.2.2; omega) _ _ _ _ _, set_below5 HB.out (Nat.le_refl _) _ _ _ _ _, by have := HP.out.2.2.2; omega⟩
end Go.Proofs.Ytfjejiapafdgeaa

namespace Go.Proofs.Ytfjejiapafdgeaa
open Go.RowKit
set_option maxRecDepth 100000

theorem eql_map_in (w : World) (d b : Nat) : (Op.equalIn (d + 1) 56 (.map (some b)) (.map none)).run Try.prog w = .ok false w := by
  rw [Op.equalIn]
  simp only [Sem.run_bind, run_underlying Try.underlying56, Result.andThen_ok]
  rfl
theorem eql_map_step (t : TypeId) (b : Nat) (w : World) : (binOp .eql t (.map (some b)) (.map none)).run Try.prog w = ((Op.equalIn 10000 t (.map (some b)) (.map none)).run Try.prog w).andThen fun b w' => .ok (.bool b) w' := by
  simp only [binOp]
  simp [Op.equal, Op.maxDepth]
theorem eql_map_nil (w : World) (b : Nat) : (binOp .eql 56 (.map (some b)) (.map none)).run Try.prog w = .ok (.bool false) w := by
  rw [eql_map_step, eql_map_in w 9999 b]
  rfl
theorem assert_map (w : World) (xT : TypeId) (v : Value) : (Instr.typeAssert (.iface 56 v) xT 56 false).run Try.prog w = .ok v w := by
  simp [Instr.typeAssert, run_underlying Try.underlying56, go_sem, Result.andThen]
theorem clone_map (w : World) {r : Nat} {es : Array MapEntry} {clock : Nat} (t : TypeId) (hb : w.heap[r]? = some (.map es clock)) :
    (Extern.MapsClone.clone #[.iface t (.map (some r))]).run Try.prog w = .ok (.iface t (.map (some w.heap.size))) (w.alloc (.map es clock)) := by
  have e : Extern.MapsClone.clone #[.iface t (.map (some r))] = (do
    let .map entries clock ← getObj r | stuck "maps.clone: a map expected"
    pure (.iface t (.map (some (← newObj (.map entries clock)))))) := rfl
  rw [e]
  simp [MapKept.run_getObj_map hb, Result.andThen, go_sem]

end Go.Proofs.Ytfjejiapafdgeaa
