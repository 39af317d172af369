/- The sector that is a head, and the one that is an end. A range over a function whose rounds are handed what they may read: told by the iterator, not by the round. -/
import Derived.Test.YtmgonokhgijgoaaJ9
import Derived.Test.YtmgonokhgijgoaaJ1
import Derived.RangeFuncNested
import Derived.RangeFuncBound
import Derived.RangeFuncCalls
import Derived.RangeFuncLeaves
import Derived.Shelf.Abstract
import Derived.Shelf.RegionOpen
import Derived.OwnWalkIn
import Derived.TacticsInMore
import Derived.LoopNIn
import Derived.LoopIn
import Derived.Deep.RegionHeld3
namespace Go.Proofs.Ytmgonokhgijgoaa
open Go.RowKit
set_option maxRecDepth 100000

def headB (s n u : Nat) : Text := [72] ++ (highT s 8 ++ (highT n 4 ++ (highT u 4 ++ [])))
def endB (s u : Nat) : Text := [69] ++ (highT s 8 ++ (highT u 4 ++ []))
theorem headB_len (s n u : Nat) : (headB s n u).length = 17 := by simp [headB, highT_len]
theorem endB_len (s u : Nat) : (endB s u).length = 13 := by simp [endB, highT_len]
def headP (s n u : Nat) : Text := overP zeros (wrapT (headB s n u))
def endP (s u : Nat) : Text := overP zeros (wrapT (endB s u))
theorem headP_len (s n u : Nat) : (headP s n u).length = 64 := overP_len zeros_len
theorem endP_len (s u : Nat) : (endP s u).length = 64 := overP_len zeros_len
/-- a slice among others -/
def PartT (w : World) (v : Value) (l : Text) : Prop := ∃ Ai ci, v = .slice Ai l.length ci ∧ Txt w Ai l ∧ (Ai = none → l = []) ∧ l.length ≤ 9223372036854775807
theorem rows3 {w : World} {g : Nat} {t : TypeId} {fr : Nat × Nat} {v1 v2 v3 : Value} {l1 l2 l3 : Text} (hg : w.heap[g]? = some (.cells #[v1, v2, v3] t fr)) (h1 : PartT w v1 l1) (h2 : PartT w v2 l2) (h3 : PartT w v3 l3) : TextRows w (some ⟨g, 0, none⟩) [l1, l2, l3] := by
  intro i hi
  have hi' : i = 0 ∨ i = 1 ∨ i = 2 := by simp at hi; omega
  rcases hi' with rfl | rfl | rfl
  · obtain ⟨A, c, rfl, a1, a2, a3⟩ := h1
    exact ⟨_, A, c, rfl, heapLt hg, by rw [Addr.add_mid, cell_of_row w g _ _ _ _ hg]; rfl, a1, a2, a3⟩
  · obtain ⟨A, c, rfl, a1, a2, a3⟩ := h2
    exact ⟨_, A, c, rfl, heapLt hg, by rw [Addr.add_mid, cell_of_row w g _ _ _ _ hg]; rfl, a1, a2, a3⟩
  · obtain ⟨A, c, rfl, a1, a2, a3⟩ := h3
    exact ⟨_, A, c, rfl, heapLt hg, by rw [Addr.add_mid, cell_of_row w g _ _ _ _ hg]; rfl, a1, a2, a3⟩
theorem rows4 {w : World} {g : Nat} {t : TypeId} {fr : Nat × Nat} {v1 v2 v3 v4 : Value} {l1 l2 l3 l4 : Text} (hg : w.heap[g]? = some (.cells #[v1, v2, v3, v4] t fr)) (h1 : PartT w v1 l1) (h2 : PartT w v2 l2) (h3 : PartT w v3 l3) (h4 : PartT w v4 l4) : TextRows w (some ⟨g, 0, none⟩) [l1, l2, l3, l4] := by
  intro i hi
  have hi' : i = 0 ∨ i = 1 ∨ i = 2 ∨ i = 3 := by simp at hi; omega
  rcases hi' with rfl | rfl | rfl | rfl
  · obtain ⟨A, c, rfl, a1, a2, a3⟩ := h1
    exact ⟨_, A, c, rfl, heapLt hg, by rw [Addr.add_mid, cell_of_row w g _ _ _ _ hg]; rfl, a1, a2, a3⟩
  · obtain ⟨A, c, rfl, a1, a2, a3⟩ := h2
    exact ⟨_, A, c, rfl, heapLt hg, by rw [Addr.add_mid, cell_of_row w g _ _ _ _ hg]; rfl, a1, a2, a3⟩
  · obtain ⟨A, c, rfl, a1, a2, a3⟩ := h3
    exact ⟨_, A, c, rfl, heapLt hg, by rw [Addr.add_mid, cell_of_row w g _ _ _ _ hg]; rfl, a1, a2, a3⟩
  · obtain ⟨A, c, rfl, a1, a2, a3⟩ := h4
    exact ⟨_, A, c, rfl, heapLt hg, by rw [Addr.add_mid, cell_of_row w g _ _ _ _ hg]; rfl, a1, a2, a3⟩
/-- a batch's head, as it lies in a variable -/
def headO (s n u : Int) : Obj := .cells #[.int .i64 s, .int .i64 n, .int .u32 u] 96
theorem head_cells {w : World} {g : Nat} {s n u : Int} (h : w.heap[g]? = some (headO s n u)) : w.cell? ⟨g, 0, none⟩ = some (.int .i64 s) ∧ w.cell? ⟨g, 1, none⟩ = some (.int .i64 n) ∧ w.cell? ⟨g, 2, none⟩ = some (.int .u32 u) := by
  unfold headO at h
  exact ⟨by rw [cell_of_row w g _ _ _ _ h]; rfl, by rw [cell_of_row w g _ _ _ _ h]; rfl, by rw [cell_of_row w g _ _ _ _ h]; rfl⟩
set_option maxHeartbeats 2000000 in
theorem code_headPage (s n u : Nat) (w : World) (hs : s ≤ 4611686018427387904) (hn : n ≤ 131072) (hu : u < 4294967296) :
    Calls Try.prog 71 #[headV s n u] w fun e w' => e = .returned (pageV (headP s n u)) ∧ Below w.heap.size w w' := by
  have HBW : Hid (Below w.heap.size w ((w.alloc (headO s n u)).alloc (.cells (zeros.map cellOf).toArray 128))) := Lib.hid (below_then (below_alloc w _) (below_alloc _ _))
  have HZ : Hid (((w.alloc (headO s n u)).alloc (.cells (zeros.map cellOf).toArray 128)).heap[w.heap.size + 1]? = some (.cells (zeros.map cellOf).toArray 128)) := Lib.hid (by have := heap_alloc_new (w.alloc (headO s n u)) (.cells (zeros.map cellOf).toArray 128); rwa [World.size_alloc] at this)
  have HH : Hid (((w.alloc (headO s n u)).alloc (.cells (zeros.map cellOf).toArray 128)).heap[w.heap.size]? = some (headO s n u)) := Lib.hid (heap_on (below_alloc _ _) (heap_alloc_new w _))
  have HCs : Hid (∀ W, Calls Try.prog 89 #[.int .u64 s, .int .i64 8] W fun e w' => e = .returned (.slice (some ⟨W.heap.size, 0, none⟩) 8 8) ∧ Txt w' (some ⟨W.heap.size, 0, none⟩) (highT s 8) ∧ Below W.heap.size W w') := Lib.hid (fun W => code_high s 8 W (by omega))
  have HCn : Hid (∀ W, Calls Try.prog 89 #[.int .u64 n, .int .i64 4] W fun e w' => e = .returned (.slice (some ⟨W.heap.size, 0, none⟩) 4 4) ∧ Txt w' (some ⟨W.heap.size, 0, none⟩) (highT n 4) ∧ Below W.heap.size W w') := Lib.hid (fun W => code_high n 4 W (by omega))
  have HCu : Hid (∀ W, Calls Try.prog 89 #[.int .u64 u, .int .i64 4] W fun e w' => e = .returned (.slice (some ⟨W.heap.size, 0, none⟩) 4 4) ∧ Txt w' (some ⟨W.heap.size, 0, none⟩) (highT u 4) ∧ Below W.heap.size W w') := Lib.hid (fun W => code_high u 4 W (by omega))
  have HSl : Hid (∀ W g, TextRows W (some ⟨g, 0, none⟩) [[72], highT s 8, highT n 4, highT u 4] → Calls Try.prog 88 #[.slice (some ⟨g, 0, none⟩) 4 4] W fun e w' => e = .returned (pageV (headP s n u)) ∧ Below W.heap.size W w') :=
    Lib.hid (fun W g h => code_sealed [[72], highT s 8, highT n 4, highT u 4] (some ⟨g, 0, none⟩) 4 W (by simp) (by simp [highT_len]) (by simp) h)
  have i1 : (s : Int) ≤ 4611686018427387904 := by omega
  have i2 : (n : Int) ≤ 131072 := by omega
  have i3 : (u : Int) < 4294967296 := by omega
  have j1 : IntKind.u64.wrap (s : Int) = (s : Int) := by rw [IntKind.wrap_u64]; omega
  have j2 : IntKind.u64.wrap (n : Int) = (n : Int) := by rw [IntKind.wrap_u64]; omega
  have j3 : IntKind.u64.wrap (u : Int) = (u : Int) := by rw [IntKind.wrap_u64]; omega
  clear hs hn hu
  unfold headV
  go_enter Try.func71, Try.ntmps71
  go_wp2_with ((with_reducible refine wpList_alloc_page pageT (o := ⟨some 2, _, _, _, _, _⟩) ?a1 ?a2 ?_); (case a1 => rfl); (case a2 => rfl); (try simp only [Act.put, List.setIfInBounds_toArray, List.set_cons_zero, List.set_cons_succ]))
  rw [World.size_alloc]
  unfold headO at HBW HZ HH
  generalize (w.alloc (.cells #[.int .i64 s, .int .i64 n, .int .u32 u] 96)).alloc (.cells (zeros.map cellOf).toArray 128) = wb at HBW HZ HH ⊢
  refine wp_region_held_drew (S := fun W => W.cell? ⟨w.heap.size, 0, none⟩ = some (.int .i64 s) ∧ W.cell? ⟨w.heap.size, 1, none⟩ = some (.int .i64 n) ∧ W.cell? ⟨w.heap.size, 2, none⟩ = some (.int .u32 u)) (by kernel_rfl) (head_cells (w := wb) HH.out) ?_
  intro hHeld
  have HBD := Lib.hid HBW.out.drew
  have HZD : Hid (wb.drew.heap[w.heap.size + 1]? = some (.cells (zeros.map cellOf).toArray 128)) := Lib.hid HZ.out
  clear HBW HZ HH
  generalize wb.drew = w0 at HBD HZD hHeld ⊢
  (refine takeH (i := 1) (v := ?_) rfl (by kernel_rfl) (by kernel_rfl) (by kernel_rfl) (fun _ _ _ h => h) (Or.inl ⟨by rfl, ?_⟩) (by assumption) ?_; rotate_left; (focus ((intro wS hSw); (try dsimp only at hSw); obtain ⟨s0, s1, s2⟩ := hSw; go_simp; (try with_reducible rfl); done)); (try simp only [Act.put, List.setIfInBounds_toArray, List.set_cons_zero, List.set_cons_succ]))
  (refine takeH (i := 2) (v := ?_) rfl (by kernel_rfl) (by kernel_rfl) (by kernel_rfl) (fun _ _ _ h => h) (Or.inl ⟨by rfl, ?_⟩) (by assumption) ?_; rotate_left; (focus ((intro wS hSw); (try dsimp only at hSw); obtain ⟨s0, s1, s2⟩ := hSw; go_simp; (try with_reducible rfl); done)); (try simp only [Act.put, List.setIfInBounds_toArray, List.set_cons_zero, List.set_cons_succ]))
  (refine takeH (i := 3) (v := ?_) rfl (by kernel_rfl) (by kernel_rfl) (by kernel_rfl) (fun _ _ _ h => h) (Or.inl ⟨by rfl, ?_⟩) (by assumption) ?_; rotate_left; (focus ((intro wS hSw); (try dsimp only at hSw); obtain ⟨s0, s1, s2⟩ := hSw; go_simp; (try with_reducible rfl); done)); (try simp only [Act.put, List.setIfInBounds_toArray, List.set_cons_zero, List.set_cons_succ]))
  (refine takeH (i := 5) (v := ?_) rfl (by kernel_rfl) (by kernel_rfl) (by kernel_rfl) (fun _ _ _ h => h) (Or.inl ⟨by rfl, ?_⟩) (by assumption) ?_; rotate_left; (focus ((intro wS hSw); (try dsimp only at hSw); obtain ⟨s0, s1, s2⟩ := hSw; go_simp; (try with_reducible rfl); done)); (try simp only [Act.put, List.setIfInBounds_toArray, List.set_cons_zero, List.set_cons_succ]))
  (refine takeH (i := 6) (v := ?_) rfl (by kernel_rfl) (by kernel_rfl) (by kernel_rfl) (fun _ _ _ h => h) (Or.inl ⟨by rfl, ?_⟩) (by assumption) ?_; rotate_left; (focus ((intro wS hSw); (try dsimp only at hSw); obtain ⟨s0, s1, s2⟩ := hSw; go_simp; (try with_reducible rfl); done)); (try simp only [Act.put, List.setIfInBounds_toArray, List.set_cons_zero, List.set_cons_succ]))
  (refine takeH (i := 7) (v := ?_) rfl (by kernel_rfl) (by kernel_rfl) (by kernel_rfl) (fun _ _ _ h => h) (Or.inl ⟨by rfl, ?_⟩) (by assumption) ?_; rotate_left; (focus ((intro wS hSw); (try dsimp only at hSw); obtain ⟨s0, s1, s2⟩ := hSw; go_simp; (try with_reducible rfl); done)); (try simp only [Act.put, List.setIfInBounds_toArray, List.set_cons_zero, List.set_cons_succ]))
  (refine takeH (i := 9) (v := ?_) rfl (by kernel_rfl) (by kernel_rfl) (by kernel_rfl) (fun _ _ _ h => h) (Or.inl ⟨by rfl, ?_⟩) (by assumption) ?_; rotate_left; (focus ((intro wS hSw); (try dsimp only at hSw); obtain ⟨s0, s1, s2⟩ := hSw; go_simp; (try with_reducible rfl); done)); (try simp only [Act.put, List.setIfInBounds_toArray, List.set_cons_zero, List.set_cons_succ]))
  (refine takeH (i := 10) (v := ?_) rfl (by kernel_rfl) (by kernel_rfl) (by kernel_rfl) (fun _ _ _ h => h) (Or.inl ⟨by rfl, ?_⟩) (by assumption) ?_; rotate_left; (focus ((intro wS hSw); (try dsimp only at hSw); obtain ⟨s0, s1, s2⟩ := hSw; go_simp; (try with_reducible rfl); done)); (try simp only [Act.put, List.setIfInBounds_toArray, List.set_cons_zero, List.set_cons_succ]))
  (refine takeH (i := 11) (v := ?_) rfl (by kernel_rfl) (by kernel_rfl) (by kernel_rfl) (fun _ _ _ h => h) (Or.inl ⟨by rfl, ?_⟩) (by assumption) ?_; rotate_left; (focus ((intro wS hSw); (try dsimp only at hSw); obtain ⟨s0, s1, s2⟩ := hSw; go_simp; (try with_reducible rfl); done)); (try simp only [Act.put, List.setIfInBounds_toArray, List.set_cons_zero, List.set_cons_succ]))
  refine twoH (i := 0) (i2 := 4) rfl rfl (by kernel_rfl) (fun K hK => ?_) (fun K hK => ?_)
  · rw [if_pos (by rfl)]
    go_simp; (have HTa := Lib.hid (txt_page (l := [72]) (t := 5) (fr := (0, 0)) (heap_alloc_new w0 (.cells #[.int .u8 72] 5))); have HB1 := Lib.hid (below_alloc w0 (.cells #[.int .u8 72] 5)); generalize hx1 : World.alloc w0 (.cells #[.int .u8 72] 5) = w1 at HTa HB1 ⊢; clear hx1)
    refine hK.out _ _ (⟨cell_on HB1.out hHeld.1, cell_on HB1.out hHeld.2.1, cell_on HB1.out hHeld.2.2⟩) (fun hNew => ?_)
    clear hK K hHeld; (have hHeld := hNew); clear hNew; (try simp only [Act.put, List.setIfInBounds_toArray, List.set_cons_zero, List.set_cons_succ])
    refine aloneH (i := 4) rfl (by kernel_rfl) (fun K hK => ?_)
    rw [if_pos (by rfl)]
    go_simp; ((refine (HCs.out w1).mono ?_); (rintro e w2 ⟨rfl, ht, hb⟩); have HTs := Lib.hid ht; have HB2 := Lib.hid hb; clear ht hb; (try go_simp))
    refine hK.out _ _ (⟨cell_on HB2.out hHeld.1, cell_on HB2.out hHeld.2.1, cell_on HB2.out hHeld.2.2⟩) (fun hNew => ?_)
    clear hK K hHeld; (have hHeld := hNew); clear hNew; (try simp only [Act.put, List.setIfInBounds_toArray, List.set_cons_zero, List.set_cons_succ])
    refine aloneH (i := 8) rfl (by kernel_rfl) (fun K hK => ?_)
    rw [if_pos (by rfl)]
    go_simp; ((refine (HCn.out w2).mono ?_); (rintro e w3 ⟨rfl, ht, hb⟩); have HTn := Lib.hid ht; have HB3 := Lib.hid hb; clear ht hb; (try go_simp))
    refine hK.out _ _ (⟨cell_on HB3.out hHeld.1, cell_on HB3.out hHeld.2.1, cell_on HB3.out hHeld.2.2⟩) (fun hNew => ?_)
    clear hK K hHeld; (have hHeld := hNew); clear hNew; (try simp only [Act.put, List.setIfInBounds_toArray, List.set_cons_zero, List.set_cons_succ])
    refine aloneH (i := 12) rfl (by kernel_rfl) (fun K hK => ?_)
    rw [if_pos (by rfl)]
    go_simp; ((refine (HCu.out w3).mono ?_); (rintro e w4 ⟨rfl, ht, hb⟩); have HTu := Lib.hid ht; have HB4 := Lib.hid hb; clear ht hb; (try go_simp))
    refine hK.out _ _ (⟨cell_on HB4.out hHeld.1, cell_on HB4.out hHeld.2.1, cell_on HB4.out hHeld.2.2⟩) (fun hNew => ?_)
    clear hK K hHeld; (have hHeld := hNew); clear hNew; (try simp only [Act.put, List.setIfInBounds_toArray, List.set_cons_zero, List.set_cons_succ])
    refine aloneH (i := 13) rfl (by kernel_rfl) (fun K hK => ?_)
    rw [if_pos (by rfl)]
    go_simp; (have HB5 := Lib.hid (below_alloc w4 (.cells #[.slice (some ⟨w0.heap.size, 0, none⟩) 1 1, .slice (some ⟨w1.heap.size, 0, none⟩) 8 8, .slice (some ⟨w2.heap.size, 0, none⟩) 4 4, .slice (some ⟨w3.heap.size, 0, none⟩) 4 4] 51)); have HR0 := Lib.hid (heap_alloc_new w4 (.cells #[.slice (some ⟨w0.heap.size, 0, none⟩) 1 1, .slice (some ⟨w1.heap.size, 0, none⟩) 8 8, .slice (some ⟨w2.heap.size, 0, none⟩) 4 4, .slice (some ⟨w3.heap.size, 0, none⟩) 4 4] 51)); generalize hx5 : World.alloc w4 (.cells #[.slice (some ⟨w0.heap.size, 0, none⟩) 1 1, .slice (some ⟨w1.heap.size, 0, none⟩) 8 8, .slice (some ⟨w2.heap.size, 0, none⟩) 4 4, .slice (some ⟨w3.heap.size, 0, none⟩) 4 4] 51) = w5 at HB5 HR0 ⊢; clear hx5)
    have HR : Hid (TextRows w5 (some ⟨w4.heap.size, 0, none⟩) [[72], highT s 8, highT n 4, highT u 4]) := Lib.hid (rows4 HR0.out ⟨_, _, rfl, HTa.out.below (below_then (below_then (below_then HB2.out HB3.out) HB4.out) HB5.out), by simp, by simp⟩ ⟨_, _, rfl, HTs.out.below (below_then (below_then HB3.out HB4.out) HB5.out), by simp, by simp [highT_len]⟩ ⟨_, _, rfl, HTn.out.below (below_then HB4.out HB5.out), by simp, by simp [highT_len]⟩ ⟨_, _, rfl, HTu.out.below HB5.out, by simp, by simp [highT_len]⟩)
    refine hK.out _ _ (⟨cell_on HB5.out hHeld.1, cell_on HB5.out hHeld.2.1, cell_on HB5.out hHeld.2.2⟩) (fun hNew => ?_)
    clear hK K hHeld; (have hHeld := hNew); clear hNew; (try simp only [Act.put, List.setIfInBounds_toArray, List.set_cons_zero, List.set_cons_succ])
    refine aloneH (i := 14) rfl (by kernel_rfl) (fun K hK => ?_)
    rw [if_pos (by rfl)]
    go_simp; ((refine (HSl.out w5 _ HR.out).mono ?_); (rintro e w6 ⟨rfl, hb⟩); have HB6 := Lib.hid hb; clear hb; (try go_simp))
    refine hK.out _ _ (⟨cell_on HB6.out hHeld.1, cell_on HB6.out hHeld.2.1, cell_on HB6.out hHeld.2.2⟩) (fun hNew => ?_)
    clear hK K hHeld; (have hHeld := hNew); clear hNew; (try simp only [Act.put, List.setIfInBounds_toArray, List.set_cons_zero, List.set_cons_succ])
    refine aloneH (i := 15) rfl (by kernel_rfl) (fun K hK => ?_)
    rw [if_pos (by rfl)]
    have HG : Hid (w6.heap[w.heap.size + 1]? = some (.cells (zeros.map cellOf).toArray 128)) := Lib.hid (heap_on (below_then (below_then (below_then (below_then (below_then HB1.out HB2.out) HB3.out) HB4.out) HB5.out) HB6.out) HZD.out)
    refine wp_store_page pageT (.tmp 2) (.tmp 17) rfl (w.heap.size + 1) rfl (headP s n u) (headP_len s n u) rfl _ (by simp [zeros]) _ HG.out ?_
    refine hK.out _ _ (⟨cell_setRow (by simp) hHeld.1, cell_setRow (by simp) hHeld.2.1, cell_setRow (by simp) hHeld.2.2⟩) (fun hNew => ?_)
    clear hK K hHeld; (have hHeld := hNew); clear hNew; (try simp only [Act.put])
    refine wpAnyH_done (by kernel_rfl) ?_ _
    go_wp2
    refine bodyPost_ret (results_page rfl _ _ (w.heap.size + 1) (headP s n u) (headP_len s n u) rfl _ (setRow_heap _ _ _ _ _ _ HG.out)) rfl ⟨rfl, ?_⟩
    exact below_setRow (HBD.out.trans ((below_then (below_then (below_then (below_then (below_then HB1.out HB2.out) HB3.out) HB4.out) HB5.out) HB6.out).mono HBD.out.size)) (Nat.le_succ _) _
  · rw [if_pos (by rfl)]
    go_simp; ((refine (HCs.out w0).mono ?_); (rintro e w1 ⟨rfl, ht, hb⟩); have HTs := Lib.hid ht; have HB1 := Lib.hid hb; clear ht hb; (try go_simp))
    refine hK.out _ _ (⟨cell_on HB1.out hHeld.1, cell_on HB1.out hHeld.2.1, cell_on HB1.out hHeld.2.2⟩) (fun hNew => ?_)
    clear hK K hHeld; (have hHeld := hNew); clear hNew; (try simp only [Act.put, List.setIfInBounds_toArray, List.set_cons_zero, List.set_cons_succ])
    refine twoH (i := 0) (i2 := 8) rfl rfl (by kernel_rfl) (fun K hK => ?_) (fun K hK => ?_)
    · rw [if_pos (by rfl)]
      go_simp; (have HTa := Lib.hid (txt_page (l := [72]) (t := 5) (fr := (0, 0)) (heap_alloc_new w1 (.cells #[.int .u8 72] 5))); have HB2 := Lib.hid (below_alloc w1 (.cells #[.int .u8 72] 5)); generalize hx2 : World.alloc w1 (.cells #[.int .u8 72] 5) = w2 at HTa HB2 ⊢; clear hx2)
      refine hK.out _ _ (⟨cell_on HB2.out hHeld.1, cell_on HB2.out hHeld.2.1, cell_on HB2.out hHeld.2.2⟩) (fun hNew => ?_)
      clear hK K hHeld; (have hHeld := hNew); clear hNew; (try simp only [Act.put, List.setIfInBounds_toArray, List.set_cons_zero, List.set_cons_succ])
      refine aloneH (i := 8) rfl (by kernel_rfl) (fun K hK => ?_)
      rw [if_pos (by rfl)]
      go_simp; ((refine (HCn.out w2).mono ?_); (rintro e w3 ⟨rfl, ht, hb⟩); have HTn := Lib.hid ht; have HB3 := Lib.hid hb; clear ht hb; (try go_simp))
      refine hK.out _ _ (⟨cell_on HB3.out hHeld.1, cell_on HB3.out hHeld.2.1, cell_on HB3.out hHeld.2.2⟩) (fun hNew => ?_)
      clear hK K hHeld; (have hHeld := hNew); clear hNew; (try simp only [Act.put, List.setIfInBounds_toArray, List.set_cons_zero, List.set_cons_succ])
      refine aloneH (i := 12) rfl (by kernel_rfl) (fun K hK => ?_)
      rw [if_pos (by rfl)]
      go_simp; ((refine (HCu.out w3).mono ?_); (rintro e w4 ⟨rfl, ht, hb⟩); have HTu := Lib.hid ht; have HB4 := Lib.hid hb; clear ht hb; (try go_simp))
      refine hK.out _ _ (⟨cell_on HB4.out hHeld.1, cell_on HB4.out hHeld.2.1, cell_on HB4.out hHeld.2.2⟩) (fun hNew => ?_)
      clear hK K hHeld; (have hHeld := hNew); clear hNew; (try simp only [Act.put, List.setIfInBounds_toArray, List.set_cons_zero, List.set_cons_succ])
      refine aloneH (i := 13) rfl (by kernel_rfl) (fun K hK => ?_)
      rw [if_pos (by rfl)]
      go_simp; (have HB5 := Lib.hid (below_alloc w4 (.cells #[.slice (some ⟨w1.heap.size, 0, none⟩) 1 1, .slice (some ⟨w0.heap.size, 0, none⟩) 8 8, .slice (some ⟨w2.heap.size, 0, none⟩) 4 4, .slice (some ⟨w3.heap.size, 0, none⟩) 4 4] 51)); have HR0 := Lib.hid (heap_alloc_new w4 (.cells #[.slice (some ⟨w1.heap.size, 0, none⟩) 1 1, .slice (some ⟨w0.heap.size, 0, none⟩) 8 8, .slice (some ⟨w2.heap.size, 0, none⟩) 4 4, .slice (some ⟨w3.heap.size, 0, none⟩) 4 4] 51)); generalize hx5 : World.alloc w4 (.cells #[.slice (some ⟨w1.heap.size, 0, none⟩) 1 1, .slice (some ⟨w0.heap.size, 0, none⟩) 8 8, .slice (some ⟨w2.heap.size, 0, none⟩) 4 4, .slice (some ⟨w3.heap.size, 0, none⟩) 4 4] 51) = w5 at HB5 HR0 ⊢; clear hx5)
      have HR : Hid (TextRows w5 (some ⟨w4.heap.size, 0, none⟩) [[72], highT s 8, highT n 4, highT u 4]) := Lib.hid (rows4 HR0.out ⟨_, _, rfl, HTa.out.below (below_then (below_then HB3.out HB4.out) HB5.out), by simp, by simp⟩ ⟨_, _, rfl, HTs.out.below (below_then (below_then (below_then HB2.out HB3.out) HB4.out) HB5.out), by simp, by simp [highT_len]⟩ ⟨_, _, rfl, HTn.out.below (below_then HB4.out HB5.out), by simp, by simp [highT_len]⟩ ⟨_, _, rfl, HTu.out.below HB5.out, by simp, by simp [highT_len]⟩)
      refine hK.out _ _ (⟨cell_on HB5.out hHeld.1, cell_on HB5.out hHeld.2.1, cell_on HB5.out hHeld.2.2⟩) (fun hNew => ?_)
      clear hK K hHeld; (have hHeld := hNew); clear hNew; (try simp only [Act.put, List.setIfInBounds_toArray, List.set_cons_zero, List.set_cons_succ])
      refine aloneH (i := 14) rfl (by kernel_rfl) (fun K hK => ?_)
      rw [if_pos (by rfl)]
      go_simp; ((refine (HSl.out w5 _ HR.out).mono ?_); (rintro e w6 ⟨rfl, hb⟩); have HB6 := Lib.hid hb; clear hb; (try go_simp))
      refine hK.out _ _ (⟨cell_on HB6.out hHeld.1, cell_on HB6.out hHeld.2.1, cell_on HB6.out hHeld.2.2⟩) (fun hNew => ?_)
      clear hK K hHeld; (have hHeld := hNew); clear hNew; (try simp only [Act.put, List.setIfInBounds_toArray, List.set_cons_zero, List.set_cons_succ])
      refine aloneH (i := 15) rfl (by kernel_rfl) (fun K hK => ?_)
      rw [if_pos (by rfl)]
      have HG : Hid (w6.heap[w.heap.size + 1]? = some (.cells (zeros.map cellOf).toArray 128)) := Lib.hid (heap_on (below_then (below_then (below_then (below_then (below_then HB1.out HB2.out) HB3.out) HB4.out) HB5.out) HB6.out) HZD.out)
      refine wp_store_page pageT (.tmp 2) (.tmp 17) rfl (w.heap.size + 1) rfl (headP s n u) (headP_len s n u) rfl _ (by simp [zeros]) _ HG.out ?_
      refine hK.out _ _ (⟨cell_setRow (by simp) hHeld.1, cell_setRow (by simp) hHeld.2.1, cell_setRow (by simp) hHeld.2.2⟩) (fun hNew => ?_)
      clear hK K hHeld; (have hHeld := hNew); clear hNew; (try simp only [Act.put])
      refine wpAnyH_done (by kernel_rfl) ?_ _
      go_wp2
      refine bodyPost_ret (results_page rfl _ _ (w.heap.size + 1) (headP s n u) (headP_len s n u) rfl _ (setRow_heap _ _ _ _ _ _ HG.out)) rfl ⟨rfl, ?_⟩
      exact below_setRow (HBD.out.trans ((below_then (below_then (below_then (below_then (below_then HB1.out HB2.out) HB3.out) HB4.out) HB5.out) HB6.out).mono HBD.out.size)) (Nat.le_succ _) _
    · rw [if_pos (by rfl)]
      go_simp; ((refine (HCn.out w1).mono ?_); (rintro e w2 ⟨rfl, ht, hb⟩); have HTn := Lib.hid ht; have HB2 := Lib.hid hb; clear ht hb; (try go_simp))
      refine hK.out _ _ (⟨cell_on HB2.out hHeld.1, cell_on HB2.out hHeld.2.1, cell_on HB2.out hHeld.2.2⟩) (fun hNew => ?_)
      clear hK K hHeld; (have hHeld := hNew); clear hNew; (try simp only [Act.put, List.setIfInBounds_toArray, List.set_cons_zero, List.set_cons_succ])
      refine twoH (i := 0) (i2 := 12) rfl rfl (by kernel_rfl) (fun K hK => ?_) (fun K hK => ?_)
      · rw [if_pos (by rfl)]
        go_simp; (have HTa := Lib.hid (txt_page (l := [72]) (t := 5) (fr := (0, 0)) (heap_alloc_new w2 (.cells #[.int .u8 72] 5))); have HB3 := Lib.hid (below_alloc w2 (.cells #[.int .u8 72] 5)); generalize hx3 : World.alloc w2 (.cells #[.int .u8 72] 5) = w3 at HTa HB3 ⊢; clear hx3)
        refine hK.out _ _ (⟨cell_on HB3.out hHeld.1, cell_on HB3.out hHeld.2.1, cell_on HB3.out hHeld.2.2⟩) (fun hNew => ?_)
        clear hK K hHeld; (have hHeld := hNew); clear hNew; (try simp only [Act.put, List.setIfInBounds_toArray, List.set_cons_zero, List.set_cons_succ])
        refine aloneH (i := 12) rfl (by kernel_rfl) (fun K hK => ?_)
        rw [if_pos (by rfl)]
        go_simp; ((refine (HCu.out w3).mono ?_); (rintro e w4 ⟨rfl, ht, hb⟩); have HTu := Lib.hid ht; have HB4 := Lib.hid hb; clear ht hb; (try go_simp))
        refine hK.out _ _ (⟨cell_on HB4.out hHeld.1, cell_on HB4.out hHeld.2.1, cell_on HB4.out hHeld.2.2⟩) (fun hNew => ?_)
        clear hK K hHeld; (have hHeld := hNew); clear hNew; (try simp only [Act.put, List.setIfInBounds_toArray, List.set_cons_zero, List.set_cons_succ])
        refine aloneH (i := 13) rfl (by kernel_rfl) (fun K hK => ?_)
        rw [if_pos (by rfl)]
        go_simp; (have HB5 := Lib.hid (below_alloc w4 (.cells #[.slice (some ⟨w2.heap.size, 0, none⟩) 1 1, .slice (some ⟨w0.heap.size, 0, none⟩) 8 8, .slice (some ⟨w1.heap.size, 0, none⟩) 4 4, .slice (some ⟨w3.heap.size, 0, none⟩) 4 4] 51)); have HR0 := Lib.hid (heap_alloc_new w4 (.cells #[.slice (some ⟨w2.heap.size, 0, none⟩) 1 1, .slice (some ⟨w0.heap.size, 0, none⟩) 8 8, .slice (some ⟨w1.heap.size, 0, none⟩) 4 4, .slice (some ⟨w3.heap.size, 0, none⟩) 4 4] 51)); generalize hx5 : World.alloc w4 (.cells #[.slice (some ⟨w2.heap.size, 0, none⟩) 1 1, .slice (some ⟨w0.heap.size, 0, none⟩) 8 8, .slice (some ⟨w1.heap.size, 0, none⟩) 4 4, .slice (some ⟨w3.heap.size, 0, none⟩) 4 4] 51) = w5 at HB5 HR0 ⊢; clear hx5)
        have HR : Hid (TextRows w5 (some ⟨w4.heap.size, 0, none⟩) [[72], highT s 8, highT n 4, highT u 4]) := Lib.hid (rows4 HR0.out ⟨_, _, rfl, HTa.out.below (below_then HB4.out HB5.out), by simp, by simp⟩ ⟨_, _, rfl, HTs.out.below (below_then (below_then (below_then HB2.out HB3.out) HB4.out) HB5.out), by simp, by simp [highT_len]⟩ ⟨_, _, rfl, HTn.out.below (below_then (below_then HB3.out HB4.out) HB5.out), by simp, by simp [highT_len]⟩ ⟨_, _, rfl, HTu.out.below HB5.out, by simp, by simp [highT_len]⟩)
        refine hK.out _ _ (⟨cell_on HB5.out hHeld.1, cell_on HB5.out hHeld.2.1, cell_on HB5.out hHeld.2.2⟩) (fun hNew => ?_)
        clear hK K hHeld; (have hHeld := hNew); clear hNew; (try simp only [Act.put, List.setIfInBounds_toArray, List.set_cons_zero, List.set_cons_succ])
        refine aloneH (i := 14) rfl (by kernel_rfl) (fun K hK => ?_)
        rw [if_pos (by rfl)]
        go_simp; ((refine (HSl.out w5 _ HR.out).mono ?_); (rintro e w6 ⟨rfl, hb⟩); have HB6 := Lib.hid hb; clear hb; (try go_simp))
        refine hK.out _ _ (⟨cell_on HB6.out hHeld.1, cell_on HB6.out hHeld.2.1, cell_on HB6.out hHeld.2.2⟩) (fun hNew => ?_)
        clear hK K hHeld; (have hHeld := hNew); clear hNew; (try simp only [Act.put, List.setIfInBounds_toArray, List.set_cons_zero, List.set_cons_succ])
        refine aloneH (i := 15) rfl (by kernel_rfl) (fun K hK => ?_)
        rw [if_pos (by rfl)]
        have HG : Hid (w6.heap[w.heap.size + 1]? = some (.cells (zeros.map cellOf).toArray 128)) := Lib.hid (heap_on (below_then (below_then (below_then (below_then (below_then HB1.out HB2.out) HB3.out) HB4.out) HB5.out) HB6.out) HZD.out)
        refine wp_store_page pageT (.tmp 2) (.tmp 17) rfl (w.heap.size + 1) rfl (headP s n u) (headP_len s n u) rfl _ (by simp [zeros]) _ HG.out ?_
        refine hK.out _ _ (⟨cell_setRow (by simp) hHeld.1, cell_setRow (by simp) hHeld.2.1, cell_setRow (by simp) hHeld.2.2⟩) (fun hNew => ?_)
        clear hK K hHeld; (have hHeld := hNew); clear hNew; (try simp only [Act.put])
        refine wpAnyH_done (by kernel_rfl) ?_ _
        go_wp2
        refine bodyPost_ret (results_page rfl _ _ (w.heap.size + 1) (headP s n u) (headP_len s n u) rfl _ (setRow_heap _ _ _ _ _ _ HG.out)) rfl ⟨rfl, ?_⟩
        exact below_setRow (HBD.out.trans ((below_then (below_then (below_then (below_then (below_then HB1.out HB2.out) HB3.out) HB4.out) HB5.out) HB6.out).mono HBD.out.size)) (Nat.le_succ _) _
      · rw [if_pos (by rfl)]
        go_simp; ((refine (HCu.out w2).mono ?_); (rintro e w3 ⟨rfl, ht, hb⟩); have HTu := Lib.hid ht; have HB3 := Lib.hid hb; clear ht hb; (try go_simp))
        refine hK.out _ _ (⟨cell_on HB3.out hHeld.1, cell_on HB3.out hHeld.2.1, cell_on HB3.out hHeld.2.2⟩) (fun hNew => ?_)
        clear hK K hHeld; (have hHeld := hNew); clear hNew; (try simp only [Act.put, List.setIfInBounds_toArray, List.set_cons_zero, List.set_cons_succ])
        refine aloneH (i := 0) rfl (by kernel_rfl) (fun K hK => ?_)
        rw [if_pos (by rfl)]
        go_simp; (have HTa := Lib.hid (txt_page (l := [72]) (t := 5) (fr := (0, 0)) (heap_alloc_new w3 (.cells #[.int .u8 72] 5))); have HB4 := Lib.hid (below_alloc w3 (.cells #[.int .u8 72] 5)); generalize hx4 : World.alloc w3 (.cells #[.int .u8 72] 5) = w4 at HTa HB4 ⊢; clear hx4)
        refine hK.out _ _ (⟨cell_on HB4.out hHeld.1, cell_on HB4.out hHeld.2.1, cell_on HB4.out hHeld.2.2⟩) (fun hNew => ?_)
        clear hK K hHeld; (have hHeld := hNew); clear hNew; (try simp only [Act.put, List.setIfInBounds_toArray, List.set_cons_zero, List.set_cons_succ])
        refine aloneH (i := 13) rfl (by kernel_rfl) (fun K hK => ?_)
        rw [if_pos (by rfl)]
        go_simp; (have HB5 := Lib.hid (below_alloc w4 (.cells #[.slice (some ⟨w3.heap.size, 0, none⟩) 1 1, .slice (some ⟨w0.heap.size, 0, none⟩) 8 8, .slice (some ⟨w1.heap.size, 0, none⟩) 4 4, .slice (some ⟨w2.heap.size, 0, none⟩) 4 4] 51)); have HR0 := Lib.hid (heap_alloc_new w4 (.cells #[.slice (some ⟨w3.heap.size, 0, none⟩) 1 1, .slice (some ⟨w0.heap.size, 0, none⟩) 8 8, .slice (some ⟨w1.heap.size, 0, none⟩) 4 4, .slice (some ⟨w2.heap.size, 0, none⟩) 4 4] 51)); generalize hx5 : World.alloc w4 (.cells #[.slice (some ⟨w3.heap.size, 0, none⟩) 1 1, .slice (some ⟨w0.heap.size, 0, none⟩) 8 8, .slice (some ⟨w1.heap.size, 0, none⟩) 4 4, .slice (some ⟨w2.heap.size, 0, none⟩) 4 4] 51) = w5 at HB5 HR0 ⊢; clear hx5)
        have HR : Hid (TextRows w5 (some ⟨w4.heap.size, 0, none⟩) [[72], highT s 8, highT n 4, highT u 4]) := Lib.hid (rows4 HR0.out ⟨_, _, rfl, HTa.out.below HB5.out, by simp, by simp⟩ ⟨_, _, rfl, HTs.out.below (below_then (below_then (below_then HB2.out HB3.out) HB4.out) HB5.out), by simp, by simp [highT_len]⟩ ⟨_, _, rfl, HTn.out.below (below_then (below_then HB3.out HB4.out) HB5.out), by simp, by simp [highT_len]⟩ ⟨_, _, rfl, HTu.out.below (below_then HB4.out HB5.out), by simp, by simp [highT_len]⟩)
        refine hK.out _ _ (⟨cell_on HB5.out hHeld.1, cell_on HB5.out hHeld.2.1, cell_on HB5.out hHeld.2.2⟩) (fun hNew => ?_)
        clear hK K hHeld; (have hHeld := hNew); clear hNew; (try simp only [Act.put, List.setIfInBounds_toArray, List.set_cons_zero, List.set_cons_succ])
        refine aloneH (i := 14) rfl (by kernel_rfl) (fun K hK => ?_)
        rw [if_pos (by rfl)]
        go_simp; ((refine (HSl.out w5 _ HR.out).mono ?_); (rintro e w6 ⟨rfl, hb⟩); have HB6 := Lib.hid hb; clear hb; (try go_simp))
        refine hK.out _ _ (⟨cell_on HB6.out hHeld.1, cell_on HB6.out hHeld.2.1, cell_on HB6.out hHeld.2.2⟩) (fun hNew => ?_)
        clear hK K hHeld; (have hHeld := hNew); clear hNew; (try simp only [Act.put, List.setIfInBounds_toArray, List.set_cons_zero, List.set_cons_succ])
        refine aloneH (i := 15) rfl (by kernel_rfl) (fun K hK => ?_)
        rw [if_pos (by rfl)]
        have HG : Hid (w6.heap[w.heap.size + 1]? = some (.cells (zeros.map cellOf).toArray 128)) := Lib.hid (heap_on (below_then (below_then (below_then (below_then (below_then HB1.out HB2.out) HB3.out) HB4.out) HB5.out) HB6.out) HZD.out)
        refine wp_store_page pageT (.tmp 2) (.tmp 17) rfl (w.heap.size + 1) rfl (headP s n u) (headP_len s n u) rfl _ (by simp [zeros]) _ HG.out ?_
        refine hK.out _ _ (⟨cell_setRow (by simp) hHeld.1, cell_setRow (by simp) hHeld.2.1, cell_setRow (by simp) hHeld.2.2⟩) (fun hNew => ?_)
        clear hK K hHeld; (have hHeld := hNew); clear hNew; (try simp only [Act.put])
        refine wpAnyH_done (by kernel_rfl) ?_ _
        go_wp2
        refine bodyPost_ret (results_page rfl _ _ (w.heap.size + 1) (headP s n u) (headP_len s n u) rfl _ (setRow_heap _ _ _ _ _ _ HG.out)) rfl ⟨rfl, ?_⟩
        exact below_setRow (HBD.out.trans ((below_then (below_then (below_then (below_then (below_then HB1.out HB2.out) HB3.out) HB4.out) HB5.out) HB6.out).mono HBD.out.size)) (Nat.le_succ _) _
set_option maxHeartbeats 2000000 in
theorem code_endPage (s u : Nat) (n : Int) (w : World) (hs : s ≤ 4611686018427387904) (hu : u < 4294967296) :
    Calls Try.prog 85 #[headV s n u] w fun e w' => e = .returned (pageV (endP s u)) ∧ Below w.heap.size w w' := by
  have HBW : Hid (Below w.heap.size w ((w.alloc (headO s n u)).alloc (.cells (zeros.map cellOf).toArray 128))) := Lib.hid (below_then (below_alloc w _) (below_alloc _ _))
  have HZ : Hid (((w.alloc (headO s n u)).alloc (.cells (zeros.map cellOf).toArray 128)).heap[w.heap.size + 1]? = some (.cells (zeros.map cellOf).toArray 128)) := Lib.hid (by have := heap_alloc_new (w.alloc (headO s n u)) (.cells (zeros.map cellOf).toArray 128); rwa [World.size_alloc] at this)
  have HH : Hid (((w.alloc (headO s n u)).alloc (.cells (zeros.map cellOf).toArray 128)).heap[w.heap.size]? = some (headO s n u)) := Lib.hid (heap_on (below_alloc _ _) (heap_alloc_new w _))
  have HCs : Hid (∀ W, Calls Try.prog 89 #[.int .u64 s, .int .i64 8] W fun e w' => e = .returned (.slice (some ⟨W.heap.size, 0, none⟩) 8 8) ∧ Txt w' (some ⟨W.heap.size, 0, none⟩) (highT s 8) ∧ Below W.heap.size W w') := Lib.hid (fun W => code_high s 8 W (by omega))
  have HCu : Hid (∀ W, Calls Try.prog 89 #[.int .u64 u, .int .i64 4] W fun e w' => e = .returned (.slice (some ⟨W.heap.size, 0, none⟩) 4 4) ∧ Txt w' (some ⟨W.heap.size, 0, none⟩) (highT u 4) ∧ Below W.heap.size W w') := Lib.hid (fun W => code_high u 4 W (by omega))
  have HSl : Hid (∀ W g, TextRows W (some ⟨g, 0, none⟩) [[69], highT s 8, highT u 4] → Calls Try.prog 88 #[.slice (some ⟨g, 0, none⟩) 3 3] W fun e w' => e = .returned (pageV (endP s u)) ∧ Below W.heap.size W w') :=
    Lib.hid (fun W g h => code_sealed [[69], highT s 8, highT u 4] (some ⟨g, 0, none⟩) 3 W (by simp) (by simp [highT_len]) (by simp) h)
  have i1 : (s : Int) ≤ 4611686018427387904 := by omega
  have i3 : (u : Int) < 4294967296 := by omega
  have j1 : IntKind.u64.wrap (s : Int) = (s : Int) := by rw [IntKind.wrap_u64]; omega
  have j3 : IntKind.u64.wrap (u : Int) = (u : Int) := by rw [IntKind.wrap_u64]; omega
  clear hs hu
  unfold headV
  go_enter Try.func85, Try.ntmps85
  go_wp2_with ((with_reducible refine wpList_alloc_page pageT (o := ⟨some 2, _, _, _, _, _⟩) ?a1 ?a2 ?_); (case a1 => rfl); (case a2 => rfl); (try simp only [Act.put, List.setIfInBounds_toArray, List.set_cons_zero, List.set_cons_succ]))
  rw [World.size_alloc]
  unfold headO at HBW HZ HH
  generalize (w.alloc (.cells #[.int .i64 s, .int .i64 n, .int .u32 u] 96)).alloc (.cells (zeros.map cellOf).toArray 128) = wb at HBW HZ HH ⊢
  refine wp_region_held_drew (S := fun W => W.cell? ⟨w.heap.size, 0, none⟩ = some (.int .i64 s) ∧ W.cell? ⟨w.heap.size, 1, none⟩ = some (.int .i64 n) ∧ W.cell? ⟨w.heap.size, 2, none⟩ = some (.int .u32 u)) (by kernel_rfl) (head_cells (w := wb) HH.out) ?_
  intro hHeld
  have HBD := Lib.hid HBW.out.drew
  have HZD : Hid (wb.drew.heap[w.heap.size + 1]? = some (.cells (zeros.map cellOf).toArray 128)) := Lib.hid HZ.out
  clear HBW HZ HH
  generalize wb.drew = w0 at HBD HZD hHeld ⊢
  (refine takeH (i := 1) (v := ?_) rfl (by kernel_rfl) (by kernel_rfl) (by kernel_rfl) (fun _ _ _ h => h) (Or.inl ⟨by rfl, ?_⟩) (by assumption) ?_; rotate_left; (focus ((intro wS hSw); (try dsimp only at hSw); obtain ⟨s0, s1, s2⟩ := hSw; go_simp; (try with_reducible rfl); done)); (try simp only [Act.put, List.setIfInBounds_toArray, List.set_cons_zero, List.set_cons_succ]))
  (refine takeH (i := 2) (v := ?_) rfl (by kernel_rfl) (by kernel_rfl) (by kernel_rfl) (fun _ _ _ h => h) (Or.inl ⟨by rfl, ?_⟩) (by assumption) ?_; rotate_left; (focus ((intro wS hSw); (try dsimp only at hSw); obtain ⟨s0, s1, s2⟩ := hSw; go_simp; (try with_reducible rfl); done)); (try simp only [Act.put, List.setIfInBounds_toArray, List.set_cons_zero, List.set_cons_succ]))
  (refine takeH (i := 3) (v := ?_) rfl (by kernel_rfl) (by kernel_rfl) (by kernel_rfl) (fun _ _ _ h => h) (Or.inl ⟨by rfl, ?_⟩) (by assumption) ?_; rotate_left; (focus ((intro wS hSw); (try dsimp only at hSw); obtain ⟨s0, s1, s2⟩ := hSw; go_simp; (try with_reducible rfl); done)); (try simp only [Act.put, List.setIfInBounds_toArray, List.set_cons_zero, List.set_cons_succ]))
  (refine takeH (i := 5) (v := ?_) rfl (by kernel_rfl) (by kernel_rfl) (by kernel_rfl) (fun _ _ _ h => h) (Or.inl ⟨by rfl, ?_⟩) (by assumption) ?_; rotate_left; (focus ((intro wS hSw); (try dsimp only at hSw); obtain ⟨s0, s1, s2⟩ := hSw; go_simp; (try with_reducible rfl); done)); (try simp only [Act.put, List.setIfInBounds_toArray, List.set_cons_zero, List.set_cons_succ]))
  (refine takeH (i := 6) (v := ?_) rfl (by kernel_rfl) (by kernel_rfl) (by kernel_rfl) (fun _ _ _ h => h) (Or.inl ⟨by rfl, ?_⟩) (by assumption) ?_; rotate_left; (focus ((intro wS hSw); (try dsimp only at hSw); obtain ⟨s0, s1, s2⟩ := hSw; go_simp; (try with_reducible rfl); done)); (try simp only [Act.put, List.setIfInBounds_toArray, List.set_cons_zero, List.set_cons_succ]))
  (refine takeH (i := 7) (v := ?_) rfl (by kernel_rfl) (by kernel_rfl) (by kernel_rfl) (fun _ _ _ h => h) (Or.inl ⟨by rfl, ?_⟩) (by assumption) ?_; rotate_left; (focus ((intro wS hSw); (try dsimp only at hSw); obtain ⟨s0, s1, s2⟩ := hSw; go_simp; (try with_reducible rfl); done)); (try simp only [Act.put, List.setIfInBounds_toArray, List.set_cons_zero, List.set_cons_succ]))
  refine twoH (i := 0) (i2 := 4) rfl rfl (by kernel_rfl) (fun K hK => ?_) (fun K hK => ?_)
  · rw [if_pos (by rfl)]
    go_simp; (have HTa := Lib.hid (txt_page (l := [69]) (t := 5) (fr := (0, 0)) (heap_alloc_new w0 (.cells #[.int .u8 69] 5))); have HB1 := Lib.hid (below_alloc w0 (.cells #[.int .u8 69] 5)); generalize hx1 : World.alloc w0 (.cells #[.int .u8 69] 5) = w1 at HTa HB1 ⊢; clear hx1)
    refine hK.out _ _ (⟨cell_on HB1.out hHeld.1, cell_on HB1.out hHeld.2.1, cell_on HB1.out hHeld.2.2⟩) (fun hNew => ?_)
    clear hK K hHeld; (have hHeld := hNew); clear hNew; (try simp only [Act.put, List.setIfInBounds_toArray, List.set_cons_zero, List.set_cons_succ])
    refine aloneH (i := 4) rfl (by kernel_rfl) (fun K hK => ?_)
    rw [if_pos (by rfl)]
    go_simp; ((refine (HCs.out w1).mono ?_); (rintro e w2 ⟨rfl, ht, hb⟩); have HTs := Lib.hid ht; have HB2 := Lib.hid hb; clear ht hb; (try go_simp))
    refine hK.out _ _ (⟨cell_on HB2.out hHeld.1, cell_on HB2.out hHeld.2.1, cell_on HB2.out hHeld.2.2⟩) (fun hNew => ?_)
    clear hK K hHeld; (have hHeld := hNew); clear hNew; (try simp only [Act.put, List.setIfInBounds_toArray, List.set_cons_zero, List.set_cons_succ])
    refine aloneH (i := 8) rfl (by kernel_rfl) (fun K hK => ?_)
    rw [if_pos (by rfl)]
    go_simp; ((refine (HCu.out w2).mono ?_); (rintro e w3 ⟨rfl, ht, hb⟩); have HTu := Lib.hid ht; have HB3 := Lib.hid hb; clear ht hb; (try go_simp))
    refine hK.out _ _ (⟨cell_on HB3.out hHeld.1, cell_on HB3.out hHeld.2.1, cell_on HB3.out hHeld.2.2⟩) (fun hNew => ?_)
    clear hK K hHeld; (have hHeld := hNew); clear hNew; (try simp only [Act.put, List.setIfInBounds_toArray, List.set_cons_zero, List.set_cons_succ])
    refine aloneH (i := 9) rfl (by kernel_rfl) (fun K hK => ?_)
    rw [if_pos (by rfl)]
    go_simp; (have HB4 := Lib.hid (below_alloc w3 (.cells #[.slice (some ⟨w0.heap.size, 0, none⟩) 1 1, .slice (some ⟨w1.heap.size, 0, none⟩) 8 8, .slice (some ⟨w2.heap.size, 0, none⟩) 4 4] 51)); have HR0 := Lib.hid (heap_alloc_new w3 (.cells #[.slice (some ⟨w0.heap.size, 0, none⟩) 1 1, .slice (some ⟨w1.heap.size, 0, none⟩) 8 8, .slice (some ⟨w2.heap.size, 0, none⟩) 4 4] 51)); generalize hx4 : World.alloc w3 (.cells #[.slice (some ⟨w0.heap.size, 0, none⟩) 1 1, .slice (some ⟨w1.heap.size, 0, none⟩) 8 8, .slice (some ⟨w2.heap.size, 0, none⟩) 4 4] 51) = w4 at HB4 HR0 ⊢; clear hx4)
    have HR : Hid (TextRows w4 (some ⟨w3.heap.size, 0, none⟩) [[69], highT s 8, highT u 4]) := Lib.hid (rows3 HR0.out ⟨_, _, rfl, HTa.out.below (below_then (below_then HB2.out HB3.out) HB4.out), by simp, by simp⟩ ⟨_, _, rfl, HTs.out.below (below_then HB3.out HB4.out), by simp, by simp [highT_len]⟩ ⟨_, _, rfl, HTu.out.below HB4.out, by simp, by simp [highT_len]⟩)
    refine hK.out _ _ (⟨cell_on HB4.out hHeld.1, cell_on HB4.out hHeld.2.1, cell_on HB4.out hHeld.2.2⟩) (fun hNew => ?_)
    clear hK K hHeld; (have hHeld := hNew); clear hNew; (try simp only [Act.put, List.setIfInBounds_toArray, List.set_cons_zero, List.set_cons_succ])
    refine aloneH (i := 10) rfl (by kernel_rfl) (fun K hK => ?_)
    rw [if_pos (by rfl)]
    go_simp; ((refine (HSl.out w4 _ HR.out).mono ?_); (rintro e w5 ⟨rfl, hb⟩); have HB5 := Lib.hid hb; clear hb; (try go_simp))
    refine hK.out _ _ (⟨cell_on HB5.out hHeld.1, cell_on HB5.out hHeld.2.1, cell_on HB5.out hHeld.2.2⟩) (fun hNew => ?_)
    clear hK K hHeld; (have hHeld := hNew); clear hNew; (try simp only [Act.put, List.setIfInBounds_toArray, List.set_cons_zero, List.set_cons_succ])
    refine aloneH (i := 11) rfl (by kernel_rfl) (fun K hK => ?_)
    rw [if_pos (by rfl)]
    have HG : Hid (w5.heap[w.heap.size + 1]? = some (.cells (zeros.map cellOf).toArray 128)) := Lib.hid (heap_on (below_then (below_then (below_then (below_then HB1.out HB2.out) HB3.out) HB4.out) HB5.out) HZD.out)
    refine wp_store_page pageT (.tmp 2) (.tmp 13) rfl (w.heap.size + 1) rfl (endP s u) (endP_len s u) rfl _ (by simp [zeros]) _ HG.out ?_
    refine hK.out _ _ (⟨cell_setRow (by simp) hHeld.1, cell_setRow (by simp) hHeld.2.1, cell_setRow (by simp) hHeld.2.2⟩) (fun hNew => ?_)
    clear hK K hHeld; (have hHeld := hNew); clear hNew; (try simp only [Act.put])
    refine wpAnyH_done (by kernel_rfl) ?_ _
    go_wp2
    refine bodyPost_ret (results_page rfl _ _ (w.heap.size + 1) (endP s u) (endP_len s u) rfl _ (setRow_heap _ _ _ _ _ _ HG.out)) rfl ⟨rfl, ?_⟩
    exact below_setRow (HBD.out.trans ((below_then (below_then (below_then (below_then HB1.out HB2.out) HB3.out) HB4.out) HB5.out).mono HBD.out.size)) (Nat.le_succ _) _
  · rw [if_pos (by rfl)]
    go_simp; ((refine (HCs.out w0).mono ?_); (rintro e w1 ⟨rfl, ht, hb⟩); have HTs := Lib.hid ht; have HB1 := Lib.hid hb; clear ht hb; (try go_simp))
    refine hK.out _ _ (⟨cell_on HB1.out hHeld.1, cell_on HB1.out hHeld.2.1, cell_on HB1.out hHeld.2.2⟩) (fun hNew => ?_)
    clear hK K hHeld; (have hHeld := hNew); clear hNew; (try simp only [Act.put, List.setIfInBounds_toArray, List.set_cons_zero, List.set_cons_succ])
    refine twoH (i := 0) (i2 := 8) rfl rfl (by kernel_rfl) (fun K hK => ?_) (fun K hK => ?_)
    · rw [if_pos (by rfl)]
      go_simp; (have HTa := Lib.hid (txt_page (l := [69]) (t := 5) (fr := (0, 0)) (heap_alloc_new w1 (.cells #[.int .u8 69] 5))); have HB2 := Lib.hid (below_alloc w1 (.cells #[.int .u8 69] 5)); generalize hx2 : World.alloc w1 (.cells #[.int .u8 69] 5) = w2 at HTa HB2 ⊢; clear hx2)
      refine hK.out _ _ (⟨cell_on HB2.out hHeld.1, cell_on HB2.out hHeld.2.1, cell_on HB2.out hHeld.2.2⟩) (fun hNew => ?_)
      clear hK K hHeld; (have hHeld := hNew); clear hNew; (try simp only [Act.put, List.setIfInBounds_toArray, List.set_cons_zero, List.set_cons_succ])
      refine aloneH (i := 8) rfl (by kernel_rfl) (fun K hK => ?_)
      rw [if_pos (by rfl)]
      go_simp; ((refine (HCu.out w2).mono ?_); (rintro e w3 ⟨rfl, ht, hb⟩); have HTu := Lib.hid ht; have HB3 := Lib.hid hb; clear ht hb; (try go_simp))
      refine hK.out _ _ (⟨cell_on HB3.out hHeld.1, cell_on HB3.out hHeld.2.1, cell_on HB3.out hHeld.2.2⟩) (fun hNew => ?_)
      clear hK K hHeld; (have hHeld := hNew); clear hNew; (try simp only [Act.put, List.setIfInBounds_toArray, List.set_cons_zero, List.set_cons_succ])
      refine aloneH (i := 9) rfl (by kernel_rfl) (fun K hK => ?_)
      rw [if_pos (by rfl)]
      go_simp; (have HB4 := Lib.hid (below_alloc w3 (.cells #[.slice (some ⟨w1.heap.size, 0, none⟩) 1 1, .slice (some ⟨w0.heap.size, 0, none⟩) 8 8, .slice (some ⟨w2.heap.size, 0, none⟩) 4 4] 51)); have HR0 := Lib.hid (heap_alloc_new w3 (.cells #[.slice (some ⟨w1.heap.size, 0, none⟩) 1 1, .slice (some ⟨w0.heap.size, 0, none⟩) 8 8, .slice (some ⟨w2.heap.size, 0, none⟩) 4 4] 51)); generalize hx4 : World.alloc w3 (.cells #[.slice (some ⟨w1.heap.size, 0, none⟩) 1 1, .slice (some ⟨w0.heap.size, 0, none⟩) 8 8, .slice (some ⟨w2.heap.size, 0, none⟩) 4 4] 51) = w4 at HB4 HR0 ⊢; clear hx4)
      have HR : Hid (TextRows w4 (some ⟨w3.heap.size, 0, none⟩) [[69], highT s 8, highT u 4]) := Lib.hid (rows3 HR0.out ⟨_, _, rfl, HTa.out.below (below_then HB3.out HB4.out), by simp, by simp⟩ ⟨_, _, rfl, HTs.out.below (below_then (below_then HB2.out HB3.out) HB4.out), by simp, by simp [highT_len]⟩ ⟨_, _, rfl, HTu.out.below HB4.out, by simp, by simp [highT_len]⟩)
      refine hK.out _ _ (⟨cell_on HB4.out hHeld.1, cell_on HB4.out hHeld.2.1, cell_on HB4.out hHeld.2.2⟩) (fun hNew => ?_)
      clear hK K hHeld; (have hHeld := hNew); clear hNew; (try simp only [Act.put, List.setIfInBounds_toArray, List.set_cons_zero, List.set_cons_succ])
      refine aloneH (i := 10) rfl (by kernel_rfl) (fun K hK => ?_)
      rw [if_pos (by rfl)]
      go_simp; ((refine (HSl.out w4 _ HR.out).mono ?_); (rintro e w5 ⟨rfl, hb⟩); have HB5 := Lib.hid hb; clear hb; (try go_simp))
      refine hK.out _ _ (⟨cell_on HB5.out hHeld.1, cell_on HB5.out hHeld.2.1, cell_on HB5.out hHeld.2.2⟩) (fun hNew => ?_)
      clear hK K hHeld; (have hHeld := hNew); clear hNew; (try simp only [Act.put, List.setIfInBounds_toArray, List.set_cons_zero, List.set_cons_succ])
      refine aloneH (i := 11) rfl (by kernel_rfl) (fun K hK => ?_)
      rw [if_pos (by rfl)]
      have HG : Hid (w5.heap[w.heap.size + 1]? = some (.cells (zeros.map cellOf).toArray 128)) := Lib.hid (heap_on (below_then (below_then (below_then (below_then HB1.out HB2.out) HB3.out) HB4.out) HB5.out) HZD.out)
      refine wp_store_page pageT (.tmp 2) (.tmp 13) rfl (w.heap.size + 1) rfl (endP s u) (endP_len s u) rfl _ (by simp [zeros]) _ HG.out ?_
      refine hK.out _ _ (⟨cell_setRow (by simp) hHeld.1, cell_setRow (by simp) hHeld.2.1, cell_setRow (by simp) hHeld.2.2⟩) (fun hNew => ?_)
      clear hK K hHeld; (have hHeld := hNew); clear hNew; (try simp only [Act.put])
      refine wpAnyH_done (by kernel_rfl) ?_ _
      go_wp2
      refine bodyPost_ret (results_page rfl _ _ (w.heap.size + 1) (endP s u) (endP_len s u) rfl _ (setRow_heap _ _ _ _ _ _ HG.out)) rfl ⟨rfl, ?_⟩
      exact below_setRow (HBD.out.trans ((below_then (below_then (below_then (below_then HB1.out HB2.out) HB3.out) HB4.out) HB5.out).mono HBD.out.size)) (Nat.le_succ _) _
    · rw [if_pos (by rfl)]
      go_simp; ((refine (HCu.out w1).mono ?_); (rintro e w2 ⟨rfl, ht, hb⟩); have HTu := Lib.hid ht; have HB2 := Lib.hid hb; clear ht hb; (try go_simp))
      refine hK.out _ _ (⟨cell_on HB2.out hHeld.1, cell_on HB2.out hHeld.2.1, cell_on HB2.out hHeld.2.2⟩) (fun hNew => ?_)
      clear hK K hHeld; (have hHeld := hNew); clear hNew; (try simp only [Act.put, List.setIfInBounds_toArray, List.set_cons_zero, List.set_cons_succ])
      refine aloneH (i := 0) rfl (by kernel_rfl) (fun K hK => ?_)
      rw [if_pos (by rfl)]
      go_simp; (have HTa := Lib.hid (txt_page (l := [69]) (t := 5) (fr := (0, 0)) (heap_alloc_new w2 (.cells #[.int .u8 69] 5))); have HB3 := Lib.hid (below_alloc w2 (.cells #[.int .u8 69] 5)); generalize hx3 : World.alloc w2 (.cells #[.int .u8 69] 5) = w3 at HTa HB3 ⊢; clear hx3)
      refine hK.out _ _ (⟨cell_on HB3.out hHeld.1, cell_on HB3.out hHeld.2.1, cell_on HB3.out hHeld.2.2⟩) (fun hNew => ?_)
      clear hK K hHeld; (have hHeld := hNew); clear hNew; (try simp only [Act.put, List.setIfInBounds_toArray, List.set_cons_zero, List.set_cons_succ])
      refine aloneH (i := 9) rfl (by kernel_rfl) (fun K hK => ?_)
      rw [if_pos (by rfl)]
      go_simp; (have HB4 := Lib.hid (below_alloc w3 (.cells #[.slice (some ⟨w2.heap.size, 0, none⟩) 1 1, .slice (some ⟨w0.heap.size, 0, none⟩) 8 8, .slice (some ⟨w1.heap.size, 0, none⟩) 4 4] 51)); have HR0 := Lib.hid (heap_alloc_new w3 (.cells #[.slice (some ⟨w2.heap.size, 0, none⟩) 1 1, .slice (some ⟨w0.heap.size, 0, none⟩) 8 8, .slice (some ⟨w1.heap.size, 0, none⟩) 4 4] 51)); generalize hx4 : World.alloc w3 (.cells #[.slice (some ⟨w2.heap.size, 0, none⟩) 1 1, .slice (some ⟨w0.heap.size, 0, none⟩) 8 8, .slice (some ⟨w1.heap.size, 0, none⟩) 4 4] 51) = w4 at HB4 HR0 ⊢; clear hx4)
      have HR : Hid (TextRows w4 (some ⟨w3.heap.size, 0, none⟩) [[69], highT s 8, highT u 4]) := Lib.hid (rows3 HR0.out ⟨_, _, rfl, HTa.out.below HB4.out, by simp, by simp⟩ ⟨_, _, rfl, HTs.out.below (below_then (below_then HB2.out HB3.out) HB4.out), by simp, by simp [highT_len]⟩ ⟨_, _, rfl, HTu.out.below (below_then HB3.out HB4.out), by simp, by simp [highT_len]⟩)
      refine hK.out _ _ (⟨cell_on HB4.out hHeld.1, cell_on HB4.out hHeld.2.1, cell_on HB4.out hHeld.2.2⟩) (fun hNew => ?_)
      clear hK K hHeld; (have hHeld := hNew); clear hNew; (try simp only [Act.put, List.setIfInBounds_toArray, List.set_cons_zero, List.set_cons_succ])
      refine aloneH (i := 10) rfl (by kernel_rfl) (fun K hK => ?_)
      rw [if_pos (by rfl)]
      go_simp; ((refine (HSl.out w4 _ HR.out).mono ?_); (rintro e w5 ⟨rfl, hb⟩); have HB5 := Lib.hid hb; clear hb; (try go_simp))
      refine hK.out _ _ (⟨cell_on HB5.out hHeld.1, cell_on HB5.out hHeld.2.1, cell_on HB5.out hHeld.2.2⟩) (fun hNew => ?_)
      clear hK K hHeld; (have hHeld := hNew); clear hNew; (try simp only [Act.put, List.setIfInBounds_toArray, List.set_cons_zero, List.set_cons_succ])
      refine aloneH (i := 11) rfl (by kernel_rfl) (fun K hK => ?_)
      rw [if_pos (by rfl)]
      have HG : Hid (w5.heap[w.heap.size + 1]? = some (.cells (zeros.map cellOf).toArray 128)) := Lib.hid (heap_on (below_then (below_then (below_then (below_then HB1.out HB2.out) HB3.out) HB4.out) HB5.out) HZD.out)
      refine wp_store_page pageT (.tmp 2) (.tmp 13) rfl (w.heap.size + 1) rfl (endP s u) (endP_len s u) rfl _ (by simp [zeros]) _ HG.out ?_
      refine hK.out _ _ (⟨cell_setRow (by simp) hHeld.1, cell_setRow (by simp) hHeld.2.1, cell_setRow (by simp) hHeld.2.2⟩) (fun hNew => ?_)
      clear hK K hHeld; (have hHeld := hNew); clear hNew; (try simp only [Act.put])
      refine wpAnyH_done (by kernel_rfl) ?_ _
      go_wp2
      refine bodyPost_ret (results_page rfl _ _ (w.heap.size + 1) (endP s u) (endP_len s u) rfl _ (setRow_heap _ _ _ _ _ _ HG.out)) rfl ⟨rfl, ?_⟩
      exact below_setRow (HBD.out.trans ((below_then (below_then (below_then (below_then HB1.out HB2.out) HB3.out) HB4.out) HB5.out).mono HBD.out.size)) (Nat.le_succ _) _
end Go.Proofs.Ytmgonokhgijgoaa

namespace Go.Proofs.Ytmgonokhgijgoaa
open Go.RowKit
set_option maxRecDepth 100000

section
variable {α : Type} {P : Program}
/-- the contract: of each value that comes, 'Fx' holds where it comes -/
def SeqTold (P : Program) (gf : Nat) (lb : Array Value) (encs : α → Array Value) (Fx : List α → α → World → Prop) (Kp : World → World → Prop) (S Sp : List α → Prop) (w : World) : Prop :=
  ∀ (l : Nat) (J Jx : List α → World → Prop) (W : World), Below w.heap.size w W → (∀ pre A B, J pre A → Below A.heap.size A B → J pre B) → (∀ pre A B, Jx pre A → Below A.heap.size A B → Jx pre B) →
    (∀ pre x A, J pre A → Fx pre x A → YieldAt Fence.wide 1 P l (encs x) A fun e B =>
      (e = .returned (.bool true) ∧ J (pre ++ [x]) B ∧ Kp A B) ∨ (e = .returned (.bool false) ∧ Jx (pre ++ [x]) B)) →
    J [] W → Calls P gf (#[.func (.yield l) #[] #[]] ++ lb) W fun e B => (∃ v, e = .returned v) ∧ ((∃ xs, S xs ∧ J xs B) ∨ (∃ pre, Sp pre ∧ Jx pre B))
/-- how a round is left -/
def jumpOf : Exit → Option (Option Code)
  | .normal => some none
  | .ret => some (some .ret)
  | .exit id => some (some (.exit id))
  | .goto t => some (some (.goto t))
  | _ => none
def roundP (Kp : World → World → Prop) (I : List α → World → Prop) (Ix : Code → List α → World → Prop) (xs : List α) (W : World) (ex : Exit) (_ : Act) (W' : World) : Prop :=
  match jumpOf ex with
  | some none => KeepsOthers W W' ∧ Kp W W' ∧ I xs W'
  | some (some c) => KeepsOthers W W' ∧ Ix c xs W'
  | none => False
theorem put_below {b : Nat} (W : World) {l : Nat} (o : Obj) (h : b ≤ l) : Below b W (W.putObj l o) :=
  ⟨rfl, rfl, rfl, by simp, fun k hk => World.putObj_heap_other (by omega)⟩

/-- the loop's record turned, and nothing else -/
structure Beg (l : Nat) (A B : World) : Prop where
  os : B.os = A.os
  tape : B.tape = A.tape
  output : B.output = A.output
  size : B.heap.size = A.heap.size
  block : ∀ k, k ≠ l → B.heap[k]? = A.heap[k]?
theorem Beg.below {l b : Nat} {A B : World} (h : Beg l A B) (hb : b ≤ l) : Below b A B := ⟨h.os, h.tape, h.output, by rw [h.size]; exact Nat.le_refl _, fun k hk => h.block k (by omega)⟩
theorem beg_put (l : Nat) (A : World) (o : Obj) : Beg l A (A.putObj l o) := ⟨rfl, rfl, rfl, by simp, fun k hk => World.putObj_heap_other hk⟩
theorem Txt.beg {A B : World} {l : Nat} {r : Loop} {p : Option Addr} {T : Text} (h : Txt A p T) (hl : A.heap[l]? = some (.loop r)) (hb : Beg l A B) : Txt B p T := fun hn => by
  obtain ⟨a, e, h1, h2⟩ := h hn
  have h0 : 0 < T.length := List.length_pos_iff.2 hn
  have hne : a.block ≠ l := fun e => by
    have := h2 0 h0
    unfold World.cell? at this
    rw [add_block, e, hl] at this
    simp at this
  exact ⟨a, e, by rw [hb.size]; exact h1, fun i hi => (World.cell?_of_block (hb.block _ (by rw [add_block]; exact hne))).trans (h2 i hi)⟩

theorem wp_rangeTold {g : Operand} {ps : Array Tmp} {assign body : Code} {Q : Exit → Act → World → Prop} {a : Act} {w : World} {gf : Nat} {lb : Array Value}
    (hg : a.eval g = .func (.func gf) #[] lb) (eg : ∀ args w, (callFunc gf args).run P w = .ok (.enter gf args) w) {encs : α → Array Value} {Fx : List α → α → World → Prop} {Kp : World → World → Prop} {S Sp : List α → Prop}
    (hseq : SeqTold P gf lb encs Fx Kp S Sp w) (hKt : ∀ {A B C : World}, Kp A B → Kp B C → Kp A C) (hKb : ∀ A B, Below w.heap.size A B → Kp A B)
    (hps : ∀ x, (encs x).size = ps.size)
    (I : List α → World → Prop) (Ix : Code → List α → World → Prop) (hI : ∀ pre A B, I pre A → Below w.heap.size A B → I pre B) (hIx : ∀ c pre A B, Ix c pre A → Below w.heap.size A B → Ix c pre B) (h0 : I [] w)
    (hround : ∀ (l : Nat) (r : Loop) (pre : List α) (x : α) (W : World), w.heap.size < l → W.heap[l]? = some (.loop r) → I pre W → Fx pre x W →
      assign.wpIn (Fence.wide.inRound l) 1 P (Exit.then (fun a₁ w₁ => Below W.heap.size W w₁ ∧ ∀ Wb, Beg l w₁ Wb → body.wpIn (Fence.wide.inRound l) 1 P (roundP Kp I Ix (pre ++ [x]) Wb) a₁ Wb) (fun _ _ _ => False))
        { tmps := (ps.zip (encs x)).foldl (fun t (p, v) => t.setIfInBounds p v) a.tmps, defers := [] } W)
    (hdone : ∀ (D : Nat) (xs : List α) (W : World), w.heap.size ≤ D → S xs → I xs W → W.heap[D]? = some (.deferred (some [])) → Q .normal { a with defers := { target := .collected D, args := #[] } :: a.defers } W)
    (hstop : ∀ (D : Nat) (c : Code) (pre : List α) (W : World), w.heap.size ≤ D → Sp pre → Ix c pre W → W.heap[D]? = some (.deferred (some [])) → c.wp P Q { a with defers := { target := .collected D, args := #[] } :: a.defers } W) :
    (Code.rangeFunc g ps assign body).wp P Q a w := by
  refine (wpIn_wide (n := 1)).1 (wpIn_rangeFunc fun fn hfn => ?_)
  -- the loop's record, in whatever state; the two blocks that are laid
  let rc : LoopState → Option Code → Loop := fun st pe => { state := st, pending := pe, fn := fn, tmps := a.tmps, params := ps, assign := assign, body := body, defers := w.heap.size }
  let L := w.heap.size + 1
  let W1 := (w.alloc (.deferred (some []))).alloc (.loop (rc .ready none))
  let At : LoopState → Option Code → World → Prop := fun st pe W => W.heap[L]? = some (.loop (rc st pe)) ∧ W.heap[w.heap.size]? = some (.deferred (some []))
  have hLlt : ∀ {st pe W}, At st pe W → L < W.heap.size := fun h => (Array.getElem?_eq_some_iff.1 h.1).1
  have atBelow : ∀ {st pe A B}, At st pe A → Below A.heap.size A B → At st pe B := fun h hb => ⟨(hb.block _ (hLlt h)).trans h.1, (hb.block _ (by have := hLlt h; omega)).trans h.2⟩
  have atPut : ∀ {st pe W} (st' pe'), At st pe W → At st' pe' (W.putObj L (.loop (rc st' pe'))) := fun st' pe' h => ⟨World.putObj_heap_same (hLlt h), (World.putObj_heap_other (by omega)).trans h.2⟩
  have hb1 : Below w.heap.size w W1 := ((Below.refl _ w).alloc (Nat.le_refl _) _).alloc (by simp) _
  have hA1 : At .ready none W1 := by
    refine ⟨?_, (Below.heap_alloc _ _ _ (by simp)).trans (World.alloc_heap_new w _)⟩
    have := World.alloc_heap_new (w.alloc (.deferred (some []))) (.loop (rc .ready none))
    rwa [World.size_alloc] at this
  refine ⟨L, [{ target := .collected w.heap.size, args := #[] }], W1, { target := .fn (.func gf) lb, args := #[.func (.yield L) #[] #[]] }, W1, gf, #[.func (.yield L) #[] #[]] ++ lb, W1, run_enterLoop_outer _ _ _ _ _, ?_, fun _ _ => trivial, ?_, fun h => (by simp [Fence.wide] at h), callsIn_wide.2 ?_⟩
  · simp only [resolve, hg]
    simp [go_sem]
  · simp [invoke, go_sem, eg]
  have hsz : w.heap.size ≤ W1.heap.size := hb1.size
  refine (hseq L (fun pre W => I pre W ∧ At .ready none W ∧ w.heap.size ≤ W.heap.size) (fun pre W => ∃ c, Ix c pre W ∧ At .done (some c) W ∧ w.heap.size ≤ W.heap.size) W1 hb1
    (fun pre A B h hb => ⟨hI _ _ _ h.1 (hb.mono h.2.2), atBelow h.2.1 hb, Nat.le_trans h.2.2 hb.size⟩)
    (fun pre A B ⟨c, h1, h2, h3⟩ hb => ⟨c, hIx _ _ _ _ h1 (hb.mono h3), atBelow h2 hb, Nat.le_trans h3 hb.size⟩) ?round ⟨hI _ _ _ h0 hb1, hA1, hsz⟩).mono ?behind
  case behind =>
    rintro e B ⟨⟨v, rfl⟩, ⟨xs, hS, hi, hA, _⟩ | ⟨pre, hSp, c, hi, hA, _⟩⟩
    · exact ⟨none, _, run_endLoop hA.1 (by simp [rc]), hdone _ xs _ (Nat.le_refl _) hS (hI _ _ _ hi (put_below _ _ (by omega))) ((World.putObj_heap_other (by omega)).trans hA.2)⟩
    · exact ⟨some c, _, run_endLoop hA.1 (by simp [rc]), wpIn_wide.2 (hstop _ c pre _ (Nat.le_refl _) hSp (hIx _ _ _ _ hi (put_below _ _ (by omega))) ((World.putObj_heap_other (by omega)).trans hA.2))⟩
  case round =>
    rintro pre x A ⟨hi, hA, hs⟩ hx
    refine ⟨fn, _, assign, body, run_yield hA.1 (hps x), roundIn_of_wpIn hfn (wpIn_mono (hround L _ pre x A (by omega) hA.1 hi hx) ?_)⟩
    intro ex0 a1 w1 hq
    cases ex0 with
    | exit id => exact hq
    | goto t => exact hq
    | ret => exact hq
    | panic ch => exact hq
    | outgrown => exact hq
    | normal =>
    obtain ⟨hw1, hbod⟩ := hq
    have hA1 : At .ready none w1 := atBelow hA hw1
    have hs1 : w.heap.size ≤ w1.heap.size := Nat.le_trans hs hw1.size
    refine ⟨_, run_beginRound hA1.1 rfl, ?_⟩
    have hA2 : At .busy none (w1.putObj L (.loop (rc .busy none))) := atPut _ _ hA1
    have hbl : Below w.heap.size A (w1.putObj L (.loop (rc .busy none))) := (hw1.mono hs).trans (put_below _ _ (by omega))
    refine wpIn_mono (hbod _ (beg_put _ _ _)) ?_
    intro ex a3 B hp
    have hend : ∀ (j : Option Code), KeepsOthers (w1.putObj L (.loop (rc .busy none))) B → (Instr.endRound L j).run P B = .ok (.bool j.isNone) (B.putObj L (.loop (rc (if j.isNone then .ready else .done) j))) ∧
        At (if j.isNone then .ready else .done) j (B.putObj L (.loop (rc (if j.isNone then .ready else .done) j))) ∧ Below w.heap.size B (B.putObj L (.loop (rc (if j.isNone then .ready else .done) j))) ∧ w.heap.size ≤ (B.putObj L (.loop (rc (if j.isNone then .ready else .done) j))).heap.size := fun j hk => by
      have hB : At .busy none B := ⟨hk.same _ _ hA2.1 rfl, hk.same _ _ hA2.2 rfl⟩
      have := hLlt hB
      exact ⟨run_endRound j hB.1, atPut _ _ hB, put_below _ _ (by omega), by simp; omega⟩
    have goOn : ∀ (c : Code), KeepsOthers (w1.putObj L (.loop (rc .busy none))) B → Ix c (pre ++ [x]) B → ∃ v B', (Instr.endRound L (some c)).run P B = .ok v B' ∧
        ((Ending.returned v = .returned (.bool true) ∧ (I (pre ++ [x]) B' ∧ At .ready none B' ∧ w.heap.size ≤ B'.heap.size) ∧ Kp A B') ∨ (Ending.returned v = .returned (.bool false) ∧ ∃ c, Ix c (pre ++ [x]) B' ∧ At .done (some c) B' ∧ w.heap.size ≤ B'.heap.size)) := fun c hk hc => by
      obtain ⟨h1, h2, h3, h4⟩ := hend (some c) hk
      exact ⟨_, _, h1, .inr ⟨rfl, c, hIx _ _ _ _ hc h3, h2, h4⟩⟩
    cases ex with
    | normal =>
      obtain ⟨hk, hkp, hi2⟩ := hp
      obtain ⟨h1, h2, h3, h4⟩ := hend none hk
      exact ⟨_, _, h1, .inl ⟨rfl, ⟨hI _ _ _ hi2 h3, h2, h4⟩, hKt (hKb _ _ hbl) (hKt hkp (hKb _ _ h3))⟩⟩
    | ret => exact goOn _ hp.1 hp.2
    | exit id => exact goOn _ hp.1 hp.2
    | goto t => exact goOn _ hp.1 hp.2
    | panic ch => exact hp.elim
    | outgrown => exact hp.elim
end
/-! ### a region that draws its order, in a round: as in a plain frame -/
section
variable {P : Program}
/-- Q where nothing else comes -/
def Only (Q : Exit → Act → World → Prop) : Exit → Act → World → Prop
  | .normal, a, w => Q .normal a w
  | _, _, _ => False
theorem only_out {Q : Exit → Act → World → Prop} (h : LetsOut (Only Q)) : False := by
  obtain ⟨a, w, h⟩ := h
  exact h
theorem only_normal {Q : Exit → Act → World → Prop} {a : Act} {w : World} (h : Q .normal a w) : Only Q .normal a w := h
theorem only_imp {Q : Exit → Act → World → Prop} : ∀ (e : Exit) (a : Act) (w : World), Only Q e a w → Q e a w := fun e a w h => by
  cases e <;> first | exact h | exact (h : False).elim
theorem op_in_round (l n : Nat) {o : Oper} {a : Act} {w : World} {K : Act → World → Prop} {Q : Exit → Act → World → Prop} (hnd : ∀ c, o.op ≠ .defer c)
    (h : o.wp P a w K (Only Q)) : o.wpIn (Fence.wide.inRound l) n P a w K (Only Q) := by
  refine ⟨fun _ _ => trivial, ?_⟩
  rw [Oper.semAt_eq _ _ _ hnd]
  unfold Oper.wp at h
  generalize (execOp a.eval o).run P w = r at *
  cases r with
  | halt x w' => cases x <;> first | exact h | exact (h : False).elim
  | ok x w' =>
    cases x with
    | enter f args => exact ⟨fun h' => (by simp [Fence.wide, Fence.inRound] at h'), CallsIn.inRound l (callsIn_wide.2 h)⟩
    | row row args => exact ⟨fun h' => (by simp [Fence.wide, Fence.inRound] at h'), fun c cs _ => let ⟨v, w', r, st⟩ := h c cs; ⟨v, w', r, stepsIn_wide.2 st⟩⟩
    | _ => first | exact h | exact (h : False).elim
theorem any_in_round (l n : Nat) {md : Region.Mode} {ops : Array Oper} {Q : Exit → Act → World → Prop} (hnd : ∀ (i : Nat) o c, ops[i]? = some o → o.op ≠ .defer c) : ∀ (fuel : Nat) (listed : Array Bool) (a : Act) (w : World),
    wpAny P md ops (Only Q) fuel listed a w → wpAnyIn (Fence.wide.inRound l) n P md ops (Only Q) fuel listed a w
  | 0, _, _, _, h => h
  | fuel + 1, listed, a, w, h => ⟨h.1, fun i hi => by
      have h1 := h.2 i hi
      unfold wpOp at h1
      unfold wpOpIn
      cases ho : ops[i]? with
      | none => simp only [ho] at h1 ⊢; exact any_in_round l n hnd fuel _ _ _ h1
      | some o =>
        simp only [ho] at h1 ⊢
        by_cases hw : Region.wanted o (yielded ops a.tmps) = true
        · rw [if_pos hw] at h1 ⊢
          rcases h1 with h1 | h1
          · exact Oper.wpIn_mono (fun a w h => any_in_round l n hnd fuel _ a w h) (op_in_round l n (hnd i o · ho) h1)
          · exact (only_out h1.2).elim
        · rw [if_neg hw] at h1 ⊢
          exact ⟨fun _ _ => trivial, any_in_round l n hnd fuel _ _ _ h1⟩⟩
theorem region_in_round {id l n : Nat} {ops : Array Oper} {Q : Exit → Act → World → Prop} {S : World → Prop} {a : Act} {w : World} (hm : P.follows .mixedOrders = true) (hnd : ops.all (fun o => !(o.op matches .defer _)) = true) (hS : S w.drew)
    (h : S w.drew → wpAnyH P .any ops (Only Q) S ops.size (Array.replicate ops.size false) a w.drew) : (Code.region id ops true).wpIn (Fence.wide.inRound l) n P Q a w := by
  have hnd' : ∀ (i : Nat) o c, ops[i]? = some o → o.op ≠ .defer c := fun i o c ho e => by
    have := Array.all_eq_true_iff_forall_mem.1 hnd o (Array.mem_of_getElem? ho)
    rw [e] at this
    simp at this
  exact wpIn_mono (wpIn_region_any hm (any_in_round l n hnd' _ _ _ _ (wpAny_of_held _ _ _ _ (h hS)))) only_imp
end
end Go.Proofs.Ytmgonokhgijgoaa
