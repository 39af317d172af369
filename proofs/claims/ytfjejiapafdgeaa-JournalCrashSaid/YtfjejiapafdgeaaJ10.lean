/- The sector that is a head, and the one that is an end. -/
import Derived.Test.YtfjejiapafdgeaaJ9
namespace Go.Proofs.Ytfjejiapafdgeaa
open Go.RowKit
set_option maxRecDepth 100000

def headB (s n u : Nat) : Text := [72] ++ (highT s 8 ++ (highT n 4 ++ (highT u 4 ++ [])))
def endB (s u : Nat) : Text := [69] ++ (highT s 8 ++ (highT u 4 ++ []))
theorem headB_len (s n u : Nat) : (headB s n u).length = 17 := by simp [headB, highT_len]
theorem endB_len (s u : Nat) : (endB s u).length = 13 := by simp [endB, highT_len]
def headP (s n u : Nat) : Text := overP zeros (wrapT (headB s n u))
def endP (s u : Nat) : Text := overP zeros (wrapT (endB s u))
theorem headP_len (s n u : Nat) : (headP s n u).length = 64 := overP_len zeros_len
theorem endP_len (s u : Nat) : (endP s u).length = 64 := overP_len zeros_len
/-- a slice among others -/
def PartT (w : World) (v : Value) (l : Text) : Prop := ∃ Ai ci, v = .slice Ai l.length ci ∧ Txt w Ai l ∧ (Ai = none → l = []) ∧ l.length ≤ 9223372036854775807
theorem rows3 {w : World} {g : Nat} {t : TypeId} {fr : Nat × Nat} {v1 v2 v3 : Value} {l1 l2 l3 : Text} (hg : w.heap[g]? = some (.cells #[v1, v2, v3] t fr)) (h1 : PartT w v1 l1) (h2 : PartT w v2 l2) (h3 : PartT w v3 l3) : TextRows w (some ⟨g, 0, none⟩) [l1, l2, l3] := by
  intro i hi
  have hi' : i = 0 ∨ i = 1 ∨ i = 2 := by simp at hi; omega
  rcases hi' with rfl | rfl | rfl
  · obtain ⟨A, c, rfl, a1, a2, a3⟩ := h1
    exact ⟨_, A, c, rfl, heapLt hg, by rw [Addr.add_mid, cell_of_row w g _ _ _ _ hg]; rfl, a1, a2, a3⟩
  · obtain ⟨A, c, rfl, a1, a2, a3⟩ := h2
    exact ⟨_, A, c, rfl, heapLt hg, by rw [Addr.add_mid, cell_of_row w g _ _ _ _ hg]; rfl, a1, a2, a3⟩
  · obtain ⟨A, c, rfl, a1, a2, a3⟩ := h3
    exact ⟨_, A, c, rfl, heapLt hg, by rw [Addr.add_mid, cell_of_row w g _ _ _ _ hg]; rfl, a1, a2, a3⟩
theorem rows4 {w : World} {g : Nat} {t : TypeId} {fr : Nat × Nat} {v1 v2 v3 v4 : Value} {l1 l2 l3 l4 : Text} (hg : w.heap[g]? = some (.cells #[v1, v2, v3, v4] t fr)) (h1 : PartT w v1 l1) (h2 : PartT w v2 l2) (h3 : PartT w v3 l3) (h4 : PartT w v4 l4) : TextRows w (some ⟨g, 0, none⟩) [l1, l2, l3, l4] := by
  intro i hi
  have hi' : i = 0 ∨ i = 1 ∨ i = 2 ∨ i = 3 := by simp at hi; omega
  rcases hi' with rfl | rfl | rfl | rfl
  · obtain ⟨A, c, rfl, a1, a2, a3⟩ := h1
    exact ⟨_, A, c, rfl, heapLt hg, by rw [Addr.add_mid, cell_of_row w g _ _ _ _ hg]; rfl, a1, a2, a3⟩
  · obtain ⟨A, c, rfl, a1, a2, a3⟩ := h2
    exact ⟨_, A, c, rfl, heapLt hg, by rw [Addr.add_mid, cell_of_row w g _ _ _ _ hg]; rfl, a1, a2, a3⟩
  · obtain ⟨A, c, rfl, a1, a2, a3⟩ := h3
    exact ⟨_, A, c, rfl, heapLt hg, by rw [Addr.add_mid, cell_of_row w g _ _ _ _ hg]; rfl, a1, a2, a3⟩
  · obtain ⟨A, c, rfl, a1, a2, a3⟩ := h4
    exact ⟨_, A, c, rfl, heapLt hg, by rw [Addr.add_mid, cell_of_row w g _ _ _ _ hg]; rfl, a1, a2, a3⟩
/-- a batch's head, as it lies in a variable -/
def headO (s n u : Int) : Obj := .cells #[.int .i64 s, .int .i64 n, .int .u32 u] 96
theorem head_cells {w : World} {g : Nat} {s n u : Int} (h : w.heap[g]? = some (headO s n u)) : w.cell? ⟨g, 0, none⟩ = some (.int .i64 s) ∧ w.cell? ⟨g, 1, none⟩ = some (.int .i64 n) ∧ w.cell? ⟨g, 2, none⟩ = some (.int .u32 u) := by
  unfold headO at h
  exact ⟨by rw [cell_of_row w g _ _ _ _ h]; rfl, by rw [cell_of_row w g _ _ _ _ h]; rfl, by rw [cell_of_row w g _ _ _ _ h]; rfl⟩
set_option maxHeartbeats 2000000 in
theorem code_headPage (s n u : Nat) (w : World) (hs : s ≤ 4611686018427387904) (hn : n ≤ 131072) (hu : u < 4294967296) :
    Calls Try.prog 71 #[headV s n u] w fun e w' => e = .returned (pageV (headP s n u)) ∧ Below w.heap.size w w' := by
  have HBW : Hid (Below w.heap.size w ((w.alloc (headO s n u)).alloc (.cells (zeros.map cellOf).toArray 128))) := Lib.hid (below_then (below_alloc w _) (below_alloc _ _))
  have HZ : Hid (((w.alloc (headO s n u)).alloc (.cells (zeros.map cellOf).toArray 128)).heap[w.heap.size + 1]? = some (.cells (zeros.map cellOf).toArray 128)) := Lib.hid (by have := heap_alloc_new (w.alloc (headO s n u)) (.cells (zeros.map cellOf).toArray 128); rwa [World.size_alloc] at this)
  have HH : Hid (((w.alloc (headO s n u)).alloc (.cells (zeros.map cellOf).toArray 128)).heap[w.heap.size]? = some (headO s n u)) := Lib.hid (heap_on (below_alloc _ _) (heap_alloc_new w _))
  have HCs : Hid (∀ W, Calls Try.prog 89 #[.int .u64 s, .int .i64 8] W fun e w' => e = .returned (.slice (some ⟨W.heap.size, 0, none⟩) 8 8) ∧ Txt w' (some ⟨W.heap.size, 0, none⟩) (highT s 8) ∧ Below W.heap.size W w') := Lib.hid (fun W => code_high s 8 W (by omega))
  have HCn : Hid (∀ W, Calls Try.prog 89 #[.int .u64 n, .int .i64 4] W fun e w' => e = .returned (.slice (some ⟨W.heap.size, 0, none⟩) 4 4) ∧ Txt w' (some ⟨W.heap.size, 0, none⟩) (highT n 4) ∧ Below W.heap.size W w') := Lib.hid (fun W => code_high n 4 W (by omega))
  have HCu : Hid (∀ W, Calls Try.prog 89 #[.int .u64 u, .int .i64 4] W fun e w' => e = .returned (.slice (some ⟨W.heap.size, 0, none⟩) 4 4) ∧ Txt w' (some ⟨W.heap.size, 0, none⟩) (highT u 4) ∧ Below W.heap.size W w') := Lib.hid (fun W => code_high u 4 W (by omega))
  have HSl : Hid (∀ W g, TextRows W (some ⟨g, 0, none⟩) [[72], highT s 8, highT n 4, highT u 4] → Calls Try.prog 88 #[.slice (some ⟨g, 0, none⟩) 4 4] W fun e w' => e = .returned (pageV (headP s n u)) ∧ Below W.heap.size W w') :=
    Lib.hid (fun W g h => code_sealed [[72], highT s 8, highT n 4, highT u 4] (some ⟨g, 0, none⟩) 4 W (by simp) (by simp [highT_len]) (by simp) h)
  have i1 : (s : Int) ≤ 4611686018427387904 := by omega
  have i2 : (n : Int) ≤ 131072 := by omega
  have i3 : (u : Int) < 4294967296 := by omega
  have j1 : IntKind.u64.wrap (s : Int) = (s : Int) := by rw [IntKind.wrap_u64]; omega
  have j2 : IntKind.u64.wrap (n : Int) = (n : Int) := by rw [IntKind.wrap_u64]; omega
  have j3 : IntKind.u64.wrap (u : Int) = (u : Int) := by rw [IntKind.wrap_u64]; omega
  clear hs hn hu
  unfold headV
  go_enter Try.func71, Try.ntmps71
  go_wp2_with ((with_reducible refine wpList_alloc_page pageT (o := ⟨some 2, _, _, _, _, _⟩) ?a1 ?a2 ?_); (case a1 => rfl); (case a2 => rfl); (try simp only [Act.put, List.setIfInBounds_toArray, List.set_cons_zero, List.set_cons_succ]))
  rw [World.size_alloc]
  unfold headO at HBW HZ HH
  generalize (w.alloc (.cells #[.int .i64 s, .int .i64 n, .int .u32 u] 96)).alloc (.cells (zeros.map cellOf).toArray 128) = wb at HBW HZ HH ⊢
  refine wp_region_held_drew (S := fun W => W.cell? ⟨w.heap.size, 0, none⟩ = some (.int .i64 s) ∧ W.cell? ⟨w.heap.size, 1, none⟩ = some (.int .i64 n) ∧ W.cell? ⟨w.heap.size, 2, none⟩ = some (.int .u32 u)) (by kernel_rfl) (head_cells (w := wb) HH.out) ?_
  intro hHeld
  have HBD := Lib.hid HBW.out.drew
  have HZD : Hid (wb.drew.heap[w.heap.size + 1]? = some (.cells (zeros.map cellOf).toArray 128)) := Lib.hid HZ.out
  clear HBW HZ HH
  generalize wb.drew = w0 at HBD HZD hHeld ⊢
  (refine takeH (i := 1) (v := ?_) rfl (by kernel_rfl) (by kernel_rfl) (by kernel_rfl) (fun _ _ _ h => h) (Or.inl ⟨by rfl, ?_⟩) (by assumption) ?_; rotate_left; (focus ((intro wS hSw); (try dsimp only at hSw); obtain ⟨s0, s1, s2⟩ := hSw; go_simp; (try with_reducible rfl); done)); (try simp only [Act.put, List.setIfInBounds_toArray, List.set_cons_zero, List.set_cons_succ]))
  (refine takeH (i := 2) (v := ?_) rfl (by kernel_rfl) (by kernel_rfl) (by kernel_rfl) (fun _ _ _ h => h) (Or.inl ⟨by rfl, ?_⟩) (by assumption) ?_; rotate_left; (focus ((intro wS hSw); (try dsimp only at hSw); obtain ⟨s0, s1, s2⟩ := hSw; go_simp; (try with_reducible rfl); done)); (try simp only [Act.put, List.setIfInBounds_toArray, List.set_cons_zero, List.set_cons_succ]))
  (refine takeH (i := 3) (v := ?_) rfl (by kernel_rfl) (by kernel_rfl) (by kernel_rfl) (fun _ _ _ h => h) (Or.inl ⟨by rfl, ?_⟩) (by assumption) ?_; rotate_left; (focus ((intro wS hSw); (try dsimp only at hSw); obtain ⟨s0, s1, s2⟩ := hSw; go_simp; (try with_reducible rfl); done)); (try simp only [Act.put, List.setIfInBounds_toArray, List.set_cons_zero, List.set_cons_succ]))
  (refine takeH (i := 5) (v := ?_) rfl (by kernel_rfl) (by kernel_rfl) (by kernel_rfl) (fun _ _ _ h => h) (Or.inl ⟨by rfl, ?_⟩) (by assumption) ?_; rotate_left; (focus ((intro wS hSw); (try dsimp only at hSw); obtain ⟨s0, s1, s2⟩ := hSw; go_simp; (try with_reducible rfl); done)); (try simp only [Act.put, List.setIfInBounds_toArray, List.set_cons_zero, List.set_cons_succ]))
  (refine takeH (i := 6) (v := ?_) rfl (by kernel_rfl) (by kernel_rfl) (by kernel_rfl) (fun _ _ _ h => h) (Or.inl ⟨by rfl, ?_⟩) (by assumption) ?_; rotate_left; (focus ((intro wS hSw); (try dsimp only at hSw); obtain ⟨s0, s1, s2⟩ := hSw; go_simp; (try with_reducible rfl); done)); (try simp only [Act.put, List.setIfInBounds_toArray, List.set_cons_zero, List.set_cons_succ]))
  (refine takeH (i := 7) (v := ?_) rfl (by kernel_rfl) (by kernel_rfl) (by kernel_rfl) (fun _ _ _ h => h) (Or.inl ⟨by rfl, ?_⟩) (by assumption) ?_; rotate_left; (focus ((intro wS hSw); (try dsimp only at hSw); obtain ⟨s0, s1, s2⟩ := hSw; go_simp; (try with_reducible rfl); done)); (try simp only [Act.put, List.setIfInBounds_toArray, List.set_cons_zero, List.set_cons_succ]))
  (refine takeH (i := 9) (v := ?_) rfl (by kernel_rfl) (by kernel_rfl) (by kernel_rfl) (fun _ _ _ h => h) (Or.inl ⟨by rfl, ?_⟩) (by assumption) ?_; rotate_left; (focus ((intro wS hSw); (try dsimp only at hSw); obtain ⟨s0, s1, s2⟩ := hSw; go_simp; (try with_reducible rfl); done)); (try simp only [Act.put, List.setIfInBounds_toArray, List.set_cons_zero, List.set_cons_succ]))
  (refine takeH (i := 10) (v := ?_) rfl (by kernel_rfl) (by kernel_rfl) (by kernel_rfl) (fun _ _ _ h => h) (Or.inl ⟨by rfl, ?_⟩) (by assumption) ?_; rotate_left; (focus ((intro wS hSw); (try dsimp only at hSw); obtain ⟨s0, s1, s2⟩ := hSw; go_simp; (try with_reducible rfl); done)); (try simp only [Act.put, List.setIfInBounds_toArray, List.set_cons_zero, List.set_cons_succ]))
  (refine takeH (i := 11) (v := ?_) rfl (by kernel_rfl) (by kernel_rfl) (by kernel_rfl) (fun _ _ _ h => h) (Or.inl ⟨by rfl, ?_⟩) (by assumption) ?_; rotate_left; (focus ((intro wS hSw); (try dsimp only at hSw); obtain ⟨s0, s1, s2⟩ := hSw; go_simp; (try with_reducible rfl); done)); (try simp only [Act.put, List.setIfInBounds_toArray, List.set_cons_zero, List.set_cons_succ]))
  refine twoH (i := 0) (i2 := 4) rfl rfl (by kernel_rfl) (fun K hK => ?_) (fun K hK => ?_)
  · rw [if_pos (by rfl)]
    go_simp; (have HTa := Lib.hid (txt_page (l := [72]) (t := 5) (fr := (0, 0)) (heap_alloc_new w0 (.cells #[.int .u8 72] 5))); have HB1 := Lib.hid (below_alloc w0 (.cells #[.int .u8 72] 5)); generalize hx1 : World.alloc w0 (.cells #[.int .u8 72] 5) = w1 at HTa HB1 ⊢; clear hx1)
    refine hK.out _ _ (⟨cell_on HB1.out hHeld.1, cell_on HB1.out hHeld.2.1, cell_on HB1.out hHeld.2.2⟩) (fun hNew => ?_)
    clear hK K hHeld; (have hHeld := hNew); clear hNew; (try simp only [Act.put, List.setIfInBounds_toArray, List.set_cons_zero, List.set_cons_succ])
    refine aloneH (i := 4) rfl (by kernel_rfl) (fun K hK => ?_)
    rw [if_pos (by rfl)]
    go_simp; ((refine (HCs.out w1).mono ?_); (rintro e w2 ⟨rfl, ht, hb⟩); have HTs := Lib.hid ht; have HB2 := Lib.hid hb; clear ht hb; (try go_simp))
    refine hK.out _ _ (⟨cell_on HB2.out hHeld.1, cell_on HB2.out hHeld.2.1, cell_on HB2.out hHeld.2.2⟩) (fun hNew => ?_)
    clear hK K hHeld; (have hHeld := hNew); clear hNew; (try simp only [Act.put, List.setIfInBounds_toArray, List.set_cons_zero, List.set_cons_succ])
    refine aloneH (i := 8) rfl (by kernel_rfl) (fun K hK => ?_)
    rw [if_pos (by rfl)]
    go_simp; ((refine (HCn.out w2).mono ?_); (rintro e w3 ⟨rfl, ht, hb⟩); have HTn := Lib.hid ht; have HB3 := Lib.hid hb; clear ht hb; (try go_simp))
    refine hK.out _ _ (⟨cell_on HB3.out hHeld.1, cell_on HB3.out hHeld.2.1, cell_on HB3.out hHeld.2.2⟩) (fun hNew => ?_)
    clear hK K hHeld; (have hHeld := hNew); clear hNew; (try simp only [Act.put, List.setIfInBounds_toArray, List.set_cons_zero, List.set_cons_succ])
    refine aloneH (i := 12) rfl (by kernel_rfl) (fun K hK => ?_)
    rw [if_pos (by rfl)]
    go_simp; ((refine (HCu.out w3).mono ?_); (rintro e w4 ⟨rfl, ht, hb⟩); have HTu := Lib.hid ht; have HB4 := Lib.hid hb; clear ht hb; (try go_simp))
    refine hK.out _ _ (⟨cell_on HB4.out hHeld.1, cell_on HB4.out hHeld.2.1, cell_on HB4.out hHeld.2.2⟩) (fun hNew => ?_)
    clear hK K hHeld; (have hHeld := hNew); clear hNew; (try simp only [Act.put, List.setIfInBounds_toArray, List.set_cons_zero, List.set_cons_succ])
    refine aloneH (i := 13) rfl (by kernel_rfl) (fun K hK => ?_)
    rw [if_pos (by rfl)]
    go_simp; (have HB5 := Lib.hid (below_alloc w4 (.cells #[.slice (some ⟨w0.heap.size, 0, none⟩) 1 1, .slice (some ⟨w1.heap.size, 0, none⟩) 8 8, .slice (some ⟨w2.heap.size, 0, none⟩) 4 4, .slice (some ⟨w3.heap.size, 0, none⟩) 4 4] 51)); have HR0 := Lib.hid (heap_alloc_new w4 (.cells #[.slice (some ⟨w0.heap.size, 0, none⟩) 1 1, .slice (some ⟨w1.heap.size, 0, none⟩) 8 8, .slice (some ⟨w2.heap.size, 0, none⟩) 4 4, .slice (some ⟨w3.heap.size, 0, none⟩) 4 4] 51)); generalize hx5 : World.alloc w4 (.cells #[.slice (some ⟨w0.heap.size, 0, none⟩) 1 1, .slice (some ⟨w1.heap.size, 0, none⟩) 8 8, .slice (some ⟨w2.heap.size, 0, none⟩) 4 4, .slice (some ⟨w3.heap.size, 0, none⟩) 4 4] 51) = w5 at HB5 HR0 ⊢; clear hx5)
    have HR : Hid (TextRows w5 (some ⟨w4.heap.size, 0, none⟩) [[72], highT s 8, highT n 4, highT u 4]) := Lib.hid (rows4 HR0.out ⟨_, _, rfl, HTa.out.below (below_then (below_then (below_then HB2.out HB3.out) HB4.out) HB5.out), by simp, by simp⟩ ⟨_, _, rfl, HTs.out.below (below_then (below_then HB3.out HB4.out) HB5.out), by simp, by simp [highT_len]⟩ ⟨_, _, rfl, HTn.out.below (below_then HB4.out HB5.out), by simp, by simp [highT_len]⟩ ⟨_, _, rfl, HTu.out.below HB5.out, by simp, by simp [highT_len]⟩)
    refine hK.out _ _ (⟨cell_on HB5.out hHeld.1, cell_on HB5.out hHeld.2.1, cell_on HB5.out hHeld.2.2⟩) (fun hNew => ?_)
    clear hK K hHeld; (have hHeld := hNew); clear hNew; (try simp only [Act.put, List.setIfInBounds_toArray, List.set_cons_zero, List.set_cons_succ])
    refine aloneH (i := 14) rfl (by kernel_rfl) (fun K hK => ?_)
    rw [if_pos (by rfl)]
    go_simp; ((refine (HSl.out w5 _ HR.out).mono ?_); (rintro e w6 ⟨rfl, hb⟩); have HB6 := Lib.hid hb; clear hb; (try go_simp))
    refine hK.out _ _ (⟨cell_on HB6.out hHeld.1, cell_on HB6.out hHeld.2.1, cell_on HB6.out hHeld.2.2⟩) (fun hNew => ?_)
    clear hK K hHeld; (have hHeld := hNew); clear hNew; (try simp only [Act.put, List.setIfInBounds_toArray, List.set_cons_zero, List.set_cons_succ])
    refine aloneH (i := 15) rfl (by kernel_rfl) (fun K hK => ?_)
    rw [if_pos (by rfl)]
    have HG : Hid (w6.heap[w.heap.size + 1]? = some (.cells (zeros.map cellOf).toArray 128)) := Lib.hid (heap_on (below_then (below_then (below_then (below_then (below_then HB1.out HB2.out) HB3.out) HB4.out) HB5.out) HB6.out) HZD.out)
    refine wp_store_page pageT (.tmp 2) (.tmp 17) rfl (w.heap.size + 1) rfl (headP s n u) (headP_len s n u) rfl _ (by simp [zeros]) _ HG.out ?_
    refine hK.out _ _ (⟨cell_setRow (by simp) hHeld.1, cell_setRow (by simp) hHeld.2.1, cell_setRow (by simp) hHeld.2.2⟩) (fun hNew => ?_)
    clear hK K hHeld; (have hHeld := hNew); clear hNew; (try simp only [Act.put])
    refine wpAnyH_done (by kernel_rfl) ?_ _
    go_wp2
    refine bodyPost_ret (results_page rfl _ _ (w.heap.size + 1) (headP s n u) (headP_len s n u) rfl _ (setRow_heap _ _ _ _ _ _ HG.out)) rfl ⟨rfl, ?_⟩
    exact below_setRow (HBD.out.trans ((below_then (below_then (below_then (below_then (below_then HB1.out HB2.out) HB3.out) HB4.out) HB5.out) HB6.out).mono HBD.out.size)) (Nat.le_succ _) _
  · rw [if_pos (by rfl)]
    go_simp; ((refine (HCs.out w0).mono ?_); (rintro e w1 ⟨rfl, ht, hb⟩); have HTs := Lib.hid ht; have HB1 := Lib.hid hb; clear ht hb; (try go_simp))
    refine hK.out _ _ (⟨cell_on HB1.out hHeld.1, cell_on HB1.out hHeld.2.1, cell_on HB1.out hHeld.2.2⟩) (fun hNew => ?_)
    clear hK K hHeld; (have hHeld := hNew); clear hNew; (try simp only [Act.put, List.setIfInBounds_toArray, List.set_cons_zero, List.set_cons_succ])
    refine twoH (i := 0) (i2 := 8) rfl rfl (by kernel_rfl) (fun K hK => ?_) (fun K hK => ?_)
    · rw [if_pos (by rfl)]
      go_simp; (have HTa := Lib.hid (txt_page (l := [72]) (t := 5) (fr := (0, 0)) (heap_alloc_new w1 (.cells #[.int .u8 72] 5))); have HB2 := Lib.hid (below_alloc w1 (.cells #[.int .u8 72] 5)); generalize hx2 : World.alloc w1 (.cells #[.int .u8 72] 5) = w2 at HTa HB2 ⊢; clear hx2)
      refine hK.out _ _ (⟨cell_on HB2.out hHeld.1, cell_on HB2.out hHeld.2.1, cell_on HB2.out hHeld.2.2⟩) (fun hNew => ?_)
      clear hK K hHeld; (have hHeld := hNew); clear hNew; (try simp only [Act.put, List.setIfInBounds_toArray, List.set_cons_zero, List.set_cons_succ])
      refine aloneH (i := 8) rfl (by kernel_rfl) (fun K hK => ?_)
      rw [if_pos (by rfl)]
      go_simp; ((refine (HCn.out w2).mono ?_); (rintro e w3 ⟨rfl, ht, hb⟩); have HTn := Lib.hid ht; have HB3 := Lib.hid hb; clear ht hb; (try go_simp))
      refine hK.out _ _ (⟨cell_on HB3.out hHeld.1, cell_on HB3.out hHeld.2.1, cell_on HB3.out hHeld.2.2⟩) (fun hNew => ?_)
      clear hK K hHeld; (have hHeld := hNew); clear hNew; (try simp only [Act.put, List.setIfInBounds_toArray, List.set_cons_zero, List.set_cons_succ])
      refine aloneH (i := 12) rfl (by kernel_rfl) (fun K hK => ?_)
      rw [if_pos (by rfl)]
      go_simp; ((refine (HCu.out w3).mono ?_); (rintro e w4 ⟨rfl, ht, hb⟩); have HTu := Lib.hid ht; have HB4 := Lib.hid hb; clear ht hb; (try go_simp))
      refine hK.out _ _ (⟨cell_on HB4.out hHeld.1, cell_on HB4.out hHeld.2.1, cell_on HB4.out hHeld.2.2⟩) (fun hNew => ?_)
      clear hK K hHeld; (have hHeld := hNew); clear hNew; (try simp only [Act.put, List.setIfInBounds_toArray, List.set_cons_zero, List.set_cons_succ])
      refine aloneH (i := 13) rfl (by kernel_rfl) (fun K hK => ?_)
      rw [if_pos (by rfl)]
      go_simp; (have HB5 := Lib.hid (below_alloc w4 (.cells #[.slice (some ⟨w1.heap.size, 0, none⟩) 1 1, .slice (some ⟨w0.heap.size, 0, none⟩) 8 8, .slice (some ⟨w2.heap.size, 0, none⟩) 4 4, .slice (some ⟨w3.heap.size, 0, none⟩) 4 4] 51)); have HR0 := Lib.hid (heap_alloc_new w4 (.cells #[.slice (some ⟨w1.heap.size, 0, none⟩) 1 1, .slice (some ⟨w0.heap.size, 0, none⟩) 8 8, .slice (some ⟨w2.heap.size, 0, none⟩) 4 4, .slice (some ⟨w3.heap.size, 0, none⟩) 4 4] 51)); generalize hx5 : World.alloc w4 (.cells #[.slice (some ⟨w1.heap.size, 0, none⟩) 1 1, .slice (some ⟨w0.heap.size, 0, none⟩) 8 8, .slice (some ⟨w2.heap.size, 0, none⟩) 4 4, .slice (some ⟨w3.heap.size, 0, none⟩) 4 4] 51) = w5 at HB5 HR0 ⊢; clear hx5)
      have HR : Hid (TextRows w5 (some ⟨w4.heap.size, 0, none⟩) [[72], highT s 8, highT n 4, highT u 4]) := Lib.hid (rows4 HR0.out ⟨_, _, rfl, HTa.out.below (below_then (below_then HB3.out HB4.out) HB5.out), by simp, by simp⟩ ⟨_, _, rfl, HTs.out.below (below_then (below_then (below_then HB2.out HB3.out) HB4.out) HB5.out), by simp, by simp [highT_len]⟩ ⟨_, _, rfl, HTn.out.below (below_then HB4.out HB5.out), by simp, by simp [highT_len]⟩ ⟨_, _, rfl, HTu.out.below HB5.out, by simp, by simp [highT_len]⟩)
      refine hK.out _ _ (⟨cell_on HB5.out hHeld.1, cell_on HB5.out hHeld.2.1, cell_on HB5.out hHeld.2.2⟩) (fun hNew => ?_)
      clear hK K hHeld; (have hHeld := hNew); clear hNew; (try simp only [Act.put, List.setIfInBounds_toArray, List.set_cons_zero, List.set_cons_succ])
      refine aloneH (i := 14) rfl (by kernel_rfl) (fun K hK => ?_)
      rw [if_pos (by rfl)]
      go_simp; ((refine (HSl.out w5 _ HR.out).mono ?_); (rintro e w6 ⟨rfl, hb⟩); have HB6 := Lib.hid hb; clear hb; (try go_simp))
      refine hK.out _ _ (⟨cell_on HB6.out hHeld.1, cell_on HB6.out hHeld.2.1, cell_on HB6.out hHeld.2.2⟩) (fun hNew => ?_)
      clear hK K hHeld; (have hHeld := hNew); clear hNew; (try simp only [Act.put, List.setIfInBounds_toArray, List.set_cons_zero, List.set_cons_succ])
      refine aloneH (i := 15) rfl (by kernel_rfl) (fun K hK => ?_)
      rw [if_pos (by rfl)]
      have HG : Hid (w6.heap[w.heap.size + 1]? = some (.cells (zeros.map cellOf).toArray 128)) := Lib.hid (heap_on (below_then (below_then (below_then (below_then (below_then HB1.out HB2.out) HB3.out) HB4.out) HB5.out) HB6.out) HZD.out)
      refine wp_store_page pageT (.tmp 2) (.tmp 17) rfl (w.heap.size + 1) rfl (headP s n u) (headP_len s n u) rfl _ (by simp [zeros]) _ HG.out ?_
      refine hK.out _ _ (⟨cell_setRow (by simp) hHeld.1, cell_setRow (by simp) hHeld.2.1, cell_setRow (by simp) hHeld.2.2⟩) (fun hNew => ?_)
      clear hK K hHeld; (have hHeld := hNew); clear hNew; (try simp only [Act.put])
      refine wpAnyH_done (by kernel_rfl) ?_ _
      go_wp2
      refine bodyPost_ret (results_page rfl _ _ (w.heap.size + 1) (headP s n u) (headP_len s n u) rfl _ (setRow_heap _ _ _ _ _ _ HG.out)) rfl ⟨rfl, ?_⟩
      exact below_setRow (HBD.out.trans ((below_then (below_then (below_then (below_then (below_then HB1.out HB2.out) HB3.out) HB4.out) HB5.out) HB6.out).mono HBD.out.size)) (Nat.le_succ _) _
    · rw [if_pos (by rfl)]
      go_simp; ((refine (HCn.out w1).mono ?_); (rintro e w2 ⟨rfl, ht, hb⟩); have HTn := Lib.hid ht; have HB2 := Lib.hid hb; clear ht hb; (try go_simp))
      refine hK.out _ _ (⟨cell_on HB2.out hHeld.1, cell_on HB2.out hHeld.2.1, cell_on HB2.out hHeld.2.2⟩) (fun hNew => ?_)
      clear hK K hHeld; (have hHeld := hNew); clear hNew; (try simp only [Act.put, List.setIfInBounds_toArray, List.set_cons_zero, List.set_cons_succ])
      refine twoH (i := 0) (i2 := 12) rfl rfl (by kernel_rfl) (fun K hK => ?_) (fun K hK => ?_)
      · rw [if_pos (by rfl)]
        go_simp; (have HTa := Lib.hid (txt_page (l := [72]) (t := 5) (fr := (0, 0)) (heap_alloc_new w2 (.cells #[.int .u8 72] 5))); have HB3 := Lib.hid (below_alloc w2 (.cells #[.int .u8 72] 5)); generalize hx3 : World.alloc w2 (.cells #[.int .u8 72] 5) = w3 at HTa HB3 ⊢; clear hx3)
        refine hK.out _ _ (⟨cell_on HB3.out hHeld.1, cell_on HB3.out hHeld.2.1, cell_on HB3.out hHeld.2.2⟩) (fun hNew => ?_)
        clear hK K hHeld; (have hHeld := hNew); clear hNew; (try simp only [Act.put, List.setIfInBounds_toArray, List.set_cons_zero, List.set_cons_succ])
        refine aloneH (i := 12) rfl (by kernel_rfl) (fun K hK => ?_)
        rw [if_pos (by rfl)]
        go_simp; ((refine (HCu.out w3).mono ?_); (rintro e w4 ⟨rfl, ht, hb⟩); have HTu := Lib.hid ht; have HB4 := Lib.hid hb; clear ht hb; (try go_simp))
        refine hK.out _ _ (⟨cell_on HB4.out hHeld.1, cell_on HB4.out hHeld.2.1, cell_on HB4.out hHeld.2.2⟩) (fun hNew => ?_)
        clear hK K hHeld; (have hHeld := hNew); clear hNew; (try simp only [Act.put, List.setIfInBounds_toArray, List.set_cons_zero, List.set_cons_succ])
        refine aloneH (i := 13) rfl (by kernel_rfl) (fun K hK => ?_)
        rw [if_pos (by rfl)]
        go_simp; (have HB5 := Lib.hid (below_alloc w4 (.cells #[.slice (some ⟨w2.heap.size, 0, none⟩) 1 1, .slice (some ⟨w0.heap.size, 0, none⟩) 8 8, .slice (some ⟨w1.heap.size, 0, none⟩) 4 4, .slice (some ⟨w3.heap.size, 0, none⟩) 4 4] 51)); have HR0 := Lib.hid (heap_alloc_new w4 (.cells #[.slice (some ⟨w2.heap.size, 0, none⟩) 1 1, .slice (some ⟨w0.heap.size, 0, none⟩) 8 8, .slice (some ⟨w1.heap.size, 0, none⟩) 4 4, .slice (some ⟨w3.heap.size, 0, none⟩) 4 4] 51)); generalize hx5 : World.alloc w4 (.cells #[.slice (some ⟨w2.heap.size, 0, none⟩) 1 1, .slice (some ⟨w0.heap.size, 0, none⟩) 8 8, .slice (some ⟨w1.heap.size, 0, none⟩) 4 4, .slice (some ⟨w3.heap.size, 0, none⟩) 4 4] 51) = w5 at HB5 HR0 ⊢; clear hx5)
        have HR : Hid (TextRows w5 (some ⟨w4.heap.size, 0, none⟩) [[72], highT s 8, highT n 4, highT u 4]) := Lib.hid (rows4 HR0.out ⟨_, _, rfl, HTa.out.below (below_then HB4.out HB5.out), by simp, by simp⟩ ⟨_, _, rfl, HTs.out.below (below_then (below_then (below_then HB2.out HB3.out) HB4.out) HB5.out), by simp, by simp [highT_len]⟩ ⟨_, _, rfl, HTn.out.below (below_then (below_then HB3.out HB4.out) HB5.out), by simp, by simp [highT_len]⟩ ⟨_, _, rfl, HTu.out.below HB5.out, by simp, by simp [highT_len]⟩)
        refine hK.out _ _ (⟨cell_on HB5.out hHeld.1, cell_on HB5.out hHeld.2.1, cell_on HB5.out hHeld.2.2⟩) (fun hNew => ?_)
        clear hK K hHeld; (have hHeld := hNew); clear hNew; (try simp only [Act.put, List.setIfInBounds_toArray, List.set_cons_zero, List.set_cons_succ])
        refine aloneH (i := 14) rfl (by kernel_rfl) (fun K hK => ?_)
        rw [if_pos (by rfl)]
        go_simp; ((refine (HSl.out w5 _ HR.out).mono ?_); (rintro e w6 ⟨rfl, hb⟩); have HB6 := Lib.hid hb; clear hb; (try go_simp))
        refine hK.out _ _ (⟨cell_on HB6.out hHeld.1, cell_on HB6.out hHeld.2.1, cell_on HB6.out hHeld.2.2⟩) (fun hNew => ?_)
        clear hK K hHeld; (have hHeld := hNew); clear hNew; (try simp only [Act.put, List.setIfInBounds_toArray, List.set_cons_zero, List.set_cons_succ])
        refine aloneH (i := 15) rfl (by kernel_rfl) (fun K hK => ?_)
        rw [if_pos (by rfl)]
        have HG : Hid (w6.heap[w.heap.size + 1]? = some (.cells (zeros.map cellOf).toArray 128)) := Lib.hid (heap_on (below_then (below_then (below_then (below_then (below_then HB1.out HB2.out) HB3.out) HB4.out) HB5.out) HB6.out) HZD.out)
        refine wp_store_page pageT (.tmp 2) (.tmp 17) rfl (w.heap.size + 1) rfl (headP s n u) (headP_len s n u) rfl _ (by simp [zeros]) _ HG.out ?_
        refine hK.out _ _ (⟨cell_setRow (by simp) hHeld.1, cell_setRow (by simp) hHeld.2.1, cell_setRow (by simp) hHeld.2.2⟩) (fun hNew => ?_)
        clear hK K hHeld; (have hHeld := hNew); clear hNew; (try simp only [Act.put])
        refine wpAnyH_done (by kernel_rfl) ?_ _
        go_wp2
        refine bodyPost_ret (results_page rfl _ _ (w.heap.size + 1) (headP s n u) (headP_len s n u) rfl _ (setRow_heap _ _ _ _ _ _ HG.out)) rfl ⟨rfl, ?_⟩
        exact below_setRow (HBD.out.trans ((below_then (below_then (below_then (below_then (below_then HB1.out HB2.out) HB3.out) HB4.out) HB5.out) HB6.out).mono HBD.out.size)) (Nat.le_succ _) _
      · rw [if_pos (by rfl)]
        go_simp; ((refine (HCu.out w2).mono ?_); (rintro e w3 ⟨rfl, ht, hb⟩); have HTu := Lib.hid ht; have HB3 := Lib.hid hb; clear ht hb; (try go_simp))
        refine hK.out _ _ (⟨cell_on HB3.out hHeld.1, cell_on HB3.out hHeld.2.1, cell_on HB3.out hHeld.2.2⟩) (fun hNew => ?_)
        clear hK K hHeld; (have hHeld := hNew); clear hNew; (try simp only [Act.put, List.setIfInBounds_toArray, List.set_cons_zero, List.set_cons_succ])
        refine aloneH (i := 0) rfl (by kernel_rfl) (fun K hK => ?_)
        rw [if_pos (by rfl)]
        go_simp; (have HTa := Lib.hid (txt_page (l := [72]) (t := 5) (fr := (0, 0)) (heap_alloc_new w3 (.cells #[.int .u8 72] 5))); have HB4 := Lib.hid (below_alloc w3 (.cells #[.int .u8 72] 5)); generalize hx4 : World.alloc w3 (.cells #[.int .u8 72] 5) = w4 at HTa HB4 ⊢; clear hx4)
        refine hK.out _ _ (⟨cell_on HB4.out hHeld.1, cell_on HB4.out hHeld.2.1, cell_on HB4.out hHeld.2.2⟩) (fun hNew => ?_)
        clear hK K hHeld; (have hHeld := hNew); clear hNew; (try simp only [Act.put, List.setIfInBounds_toArray, List.set_cons_zero, List.set_cons_succ])
        refine aloneH (i := 13) rfl (by kernel_rfl) (fun K hK => ?_)
        rw [if_pos (by rfl)]
        go_simp; (have HB5 := Lib.hid (below_alloc w4 (.cells #[.slice (some ⟨w3.heap.size, 0, none⟩) 1 1, .slice (some ⟨w0.heap.size, 0, none⟩) 8 8, .slice (some ⟨w1.heap.size, 0, none⟩) 4 4, .slice (some ⟨w2.heap.size, 0, none⟩) 4 4] 51)); have HR0 := Lib.hid (heap_alloc_new w4 (.cells #[.slice (some ⟨w3.heap.size, 0, none⟩) 1 1, .slice (some ⟨w0.heap.size, 0, none⟩) 8 8, .slice (some ⟨w1.heap.size, 0, none⟩) 4 4, .slice (some ⟨w2.heap.size, 0, none⟩) 4 4] 51)); generalize hx5 : World.alloc w4 (.cells #[.slice (some ⟨w3.heap.size, 0, none⟩) 1 1, .slice (some ⟨w0.heap.size, 0, none⟩) 8 8, .slice (some ⟨w1.heap.size, 0, none⟩) 4 4, .slice (some ⟨w2.heap.size, 0, none⟩) 4 4] 51) = w5 at HB5 HR0 ⊢; clear hx5)
        have HR : Hid (TextRows w5 (some ⟨w4.heap.size, 0, none⟩) [[72], highT s 8, highT n 4, highT u 4]) := Lib.hid (rows4 HR0.out ⟨_, _, rfl, HTa.out.below HB5.out, by simp, by simp⟩ ⟨_, _, rfl, HTs.out.below (below_then (below_then (below_then HB2.out HB3.out) HB4.out) HB5.out), by simp, by simp [highT_len]⟩ ⟨_, _, rfl, HTn.out.below (below_then (below_then HB3.out HB4.out) HB5.out), by simp, by simp [highT_len]⟩ ⟨_, _, rfl, HTu.out.below (below_then HB4.out HB5.out), by simp, by simp [highT_len]⟩)
        refine hK.out _ _ (⟨cell_on HB5.out hHeld.1, cell_on HB5.out hHeld.2.1, cell_on HB5.out hHeld.2.2⟩) (fun hNew => ?_)
        clear hK K hHeld; (have hHeld := hNew); clear hNew; (try simp only [Act.put, List.setIfInBounds_toArray, List.set_cons_zero, List.set_cons_succ])
        refine aloneH (i := 14) rfl (by kernel_rfl) (fun K hK => ?_)
        rw [if_pos (by rfl)]
        go_simp; ((refine (HSl.out w5 _ HR.out).mono ?_); (rintro e w6 ⟨rfl, hb⟩); have HB6 := Lib.hid hb; clear hb; (try go_simp))
        refine hK.out _ _ (⟨cell_on HB6.out hHeld.1, cell_on HB6.out hHeld.2.1, cell_on HB6.out hHeld.2.2⟩) (fun hNew => ?_)
        clear hK K hHeld; (have hHeld := hNew); clear hNew; (try simp only [Act.put, List.setIfInBounds_toArray, List.set_cons_zero, List.set_cons_succ])
        refine aloneH (i := 15) rfl (by kernel_rfl) (fun K hK => ?_)
        rw [if_pos (by rfl)]
        have HG : Hid (w6.heap[w.heap.size + 1]? = some (.cells (zeros.map cellOf).toArray 128)) := Lib.hid (heap_on (below_then (below_then (below_then (below_then (below_then HB1.out HB2.out) HB3.out) HB4.out) HB5.out) HB6.out) HZD.out)
        refine wp_store_page pageT (.tmp 2) (.tmp 17) rfl (w.heap.size + 1) rfl (headP s n u) (headP_len s n u) rfl _ (by simp [zeros]) _ HG.out ?_
        refine hK.out _ _ (⟨cell_setRow (by simp) hHeld.1, cell_setRow (by simp) hHeld.2.1, cell_setRow (by simp) hHeld.2.2⟩) (fun hNew => ?_)
        clear hK K hHeld; (have hHeld := hNew); clear hNew; (try simp only [Act.put])
        refine wpAnyH_done (by kernel_rfl) ?_ _
        go_wp2
        refine bodyPost_ret (results_page rfl _ _ (w.heap.size + 1) (headP s n u) (headP_len s n u) rfl _ (setRow_heap _ _ _ _ _ _ HG.out)) rfl ⟨rfl, ?_⟩
        exact below_setRow (HBD.out.trans ((below_then (below_then (below_then (below_then (below_then HB1.out HB2.out) HB3.out) HB4.out) HB5.out) HB6.out).mono HBD.out.size)) (Nat.le_succ _) _
set_option maxHeartbeats 2000000 in
theorem code_endPage (s u : Nat) (n : Int) (w : World) (hs : s ≤ 4611686018427387904) (hu : u < 4294967296) :
    Calls Try.prog 85 #[headV s n u] w fun e w' => e = .returned (pageV (endP s u)) ∧ Below w.heap.size w w' := by
  have HBW : Hid (Below w.heap.size w ((w.alloc (headO s n u)).alloc (.cells (zeros.map cellOf).toArray 128))) := Lib.hid (below_then (below_alloc w _) (below_alloc _ _))
  have HZ : Hid (((w.alloc (headO s n u)).alloc (.cells (zeros.map cellOf).toArray 128)).heap[w.heap.size + 1]? = some (.cells (zeros.map cellOf).toArray 128)) := Lib.hid (by have := heap_alloc_new (w.alloc (headO s n u)) (.cells (zeros.map cellOf).toArray 128); rwa [World.size_alloc] at this)
  have HH : Hid (((w.alloc (headO s n u)).alloc (.cells (zeros.map cellOf).toArray 128)).heap[w.heap.size]? = some (headO s n u)) := Lib.hid (heap_on (below_alloc _ _) (heap_alloc_new w _))
  have HCs : Hid (∀ W, Calls Try.prog 89 #[.int .u64 s, .int .i64 8] W fun e w' => e = .returned (.slice (some ⟨W.heap.size, 0, none⟩) 8 8) ∧ Txt w' (some ⟨W.heap.size, 0, none⟩) (highT s 8) ∧ Below W.heap.size W w') := Lib.hid (fun W => code_high s 8 W (by omega))
  have HCu : Hid (∀ W, Calls Try.prog 89 #[.int .u64 u, .int .i64 4] W fun e w' => e = .returned (.slice (some ⟨W.heap.size, 0, none⟩) 4 4) ∧ Txt w' (some ⟨W.heap.size, 0, none⟩) (highT u 4) ∧ Below W.heap.size W w') := Lib.hid (fun W => code_high u 4 W (by omega))
  have HSl : Hid (∀ W g, TextRows W (some ⟨g, 0, none⟩) [[69], highT s 8, highT u 4] → Calls Try.prog 88 #[.slice (some ⟨g, 0, none⟩) 3 3] W fun e w' => e = .returned (pageV (endP s u)) ∧ Below W.heap.size W w') :=
    Lib.hid (fun W g h => code_sealed [[69], highT s 8, highT u 4] (some ⟨g, 0, none⟩) 3 W (by simp) (by simp [highT_len]) (by simp) h)
  have i1 : (s : Int) ≤ 4611686018427387904 := by omega
  have i3 : (u : Int) < 4294967296 := by omega
  have j1 : IntKind.u64.wrap (s : Int) = (s : Int) := by rw [IntKind.wrap_u64]; omega
  have j3 : IntKind.u64.wrap (u : Int) = (u : Int) := by rw [IntKind.wrap_u64]; omega
  clear hs hu
  unfold headV
  go_enter Try.func85, Try.ntmps85
  go_wp2_with ((with_reducible refine wpList_alloc_page pageT (o := ⟨some 2, _, _, _, _, _⟩) ?a1 ?a2 ?_); (case a1 => rfl); (case a2 => rfl); (try simp only [Act.put, List.setIfInBounds_toArray, List.set_cons_zero, List.set_cons_succ]))
  rw [World.size_alloc]
  unfold headO at HBW HZ HH
  generalize (w.alloc (.cells #[.int .i64 s, .int .i64 n, .int .u32 u] 96)).alloc (.cells (zeros.map cellOf).toArray 128) = wb at HBW HZ HH ⊢
  refine wp_region_held_drew (S := fun W => W.cell? ⟨w.heap.size, 0, none⟩ = some (.int .i64 s) ∧ W.cell? ⟨w.heap.size, 1, none⟩ = some (.int .i64 n) ∧ W.cell? ⟨w.heap.size, 2, none⟩ = some (.int .u32 u)) (by kernel_rfl) (head_cells (w := wb) HH.out) ?_
  intro hHeld
  have HBD := Lib.hid HBW.out.drew
  have HZD : Hid (wb.drew.heap[w.heap.size + 1]? = some (.cells (zeros.map cellOf).toArray 128)) := Lib.hid HZ.out
  clear HBW HZ HH
  generalize wb.drew = w0 at HBD HZD hHeld ⊢
  (refine takeH (i := 1) (v := ?_) rfl (by kernel_rfl) (by kernel_rfl) (by kernel_rfl) (fun _ _ _ h => h) (Or.inl ⟨by rfl, ?_⟩) (by assumption) ?_; rotate_left; (focus ((intro wS hSw); (try dsimp only at hSw); obtain ⟨s0, s1, s2⟩ := hSw; go_simp; (try with_reducible rfl); done)); (try simp only [Act.put, List.setIfInBounds_toArray, List.set_cons_zero, List.set_cons_succ]))
  (refine takeH (i := 2) (v := ?_) rfl (by kernel_rfl) (by kernel_rfl) (by kernel_rfl) (fun _ _ _ h => h) (Or.inl ⟨by rfl, ?_⟩) (by assumption) ?_; rotate_left; (focus ((intro wS hSw); (try dsimp only at hSw); obtain ⟨s0, s1, s2⟩ := hSw; go_simp; (try with_reducible rfl); done)); (try simp only [Act.put, List.setIfInBounds_toArray, List.set_cons_zero, List.set_cons_succ]))
  (refine takeH (i := 3) (v := ?_) rfl (by kernel_rfl) (by kernel_rfl) (by kernel_rfl) (fun _ _ _ h => h) (Or.inl ⟨by rfl, ?_⟩) (by assumption) ?_; rotate_left; (focus ((intro wS hSw); (try dsimp only at hSw); obtain ⟨s0, s1, s2⟩ := hSw; go_simp; (try with_reducible rfl); done)); (try simp only [Act.put, List.setIfInBounds_toArray, List.set_cons_zero, List.set_cons_succ]))
  (refine takeH (i := 5) (v := ?_) rfl (by kernel_rfl) (by kernel_rfl) (by kernel_rfl) (fun _ _ _ h => h) (Or.inl ⟨by rfl, ?_⟩) (by assumption) ?_; rotate_left; (focus ((intro wS hSw); (try dsimp only at hSw); obtain ⟨s0, s1, s2⟩ := hSw; go_simp; (try with_reducible rfl); done)); (try simp only [Act.put, List.setIfInBounds_toArray, List.set_cons_zero, List.set_cons_succ]))
  (refine takeH (i := 6) (v := ?_) rfl (by kernel_rfl) (by kernel_rfl) (by kernel_rfl) (fun _ _ _ h => h) (Or.inl ⟨by rfl, ?_⟩) (by assumption) ?_; rotate_left; (focus ((intro wS hSw); (try dsimp only at hSw); obtain ⟨s0, s1, s2⟩ := hSw; go_simp; (try with_reducible rfl); done)); (try simp only [Act.put, List.setIfInBounds_toArray, List.set_cons_zero, List.set_cons_succ]))
  (refine takeH (i := 7) (v := ?_) rfl (by kernel_rfl) (by kernel_rfl) (by kernel_rfl) (fun _ _ _ h => h) (Or.inl ⟨by rfl, ?_⟩) (by assumption) ?_; rotate_left; (focus ((intro wS hSw); (try dsimp only at hSw); obtain ⟨s0, s1, s2⟩ := hSw; go_simp; (try with_reducible rfl); done)); (try simp only [Act.put, List.setIfInBounds_toArray, List.set_cons_zero, List.set_cons_succ]))
  refine twoH (i := 0) (i2 := 4) rfl rfl (by kernel_rfl) (fun K hK => ?_) (fun K hK => ?_)
  · rw [if_pos (by rfl)]
    go_simp; (have HTa := Lib.hid (txt_page (l := [69]) (t := 5) (fr := (0, 0)) (heap_alloc_new w0 (.cells #[.int .u8 69] 5))); have HB1 := Lib.hid (below_alloc w0 (.cells #[.int .u8 69] 5)); generalize hx1 : World.alloc w0 (.cells #[.int .u8 69] 5) = w1 at HTa HB1 ⊢; clear hx1)
    refine hK.out _ _ (⟨cell_on HB1.out hHeld.1, cell_on HB1.out hHeld.2.1, cell_on HB1.out hHeld.2.2⟩) (fun hNew => ?_)
    clear hK K hHeld; (have hHeld := hNew); clear hNew; (try simp only [Act.put, List.setIfInBounds_toArray, List.set_cons_zero, List.set_cons_succ])
    refine aloneH (i := 4) rfl (by kernel_rfl) (fun K hK => ?_)
    rw [if_pos (by rfl)]
    go_simp; ((refine (HCs.out w1).mono ?_); (rintro e w2 ⟨rfl, ht, hb⟩); have HTs := Lib.hid ht; have HB2 := Lib.hid hb; clear ht hb; (try go_simp))
    refine hK.out _ _ (⟨cell_on HB2.out hHeld.1, cell_on HB2.out hHeld.2.1, cell_on HB2.out hHeld.2.2⟩) (fun hNew => ?_)
    clear hK K hHeld; (have hHeld := hNew); clear hNew; (try simp only [Act.put, List.setIfInBounds_toArray, List.set_cons_zero, List.set_cons_succ])
    refine aloneH (i := 8) rfl (by kernel_rfl) (fun K hK => ?_)
    rw [if_pos (by rfl)]
    go_simp; ((refine (HCu.out w2).mono ?_); (rintro e w3 ⟨rfl, ht, hb⟩); have HTu := Lib.hid ht; have HB3 := Lib.hid hb; clear ht hb; (try go_simp))
    refine hK.out _ _ (⟨cell_on HB3.out hHeld.1, cell_on HB3.out hHeld.2.1, cell_on HB3.out hHeld.2.2⟩) (fun hNew => ?_)
    clear hK K hHeld; (have hHeld := hNew); clear hNew; (try simp only [Act.put, List.setIfInBounds_toArray, List.set_cons_zero, List.set_cons_succ])
    refine aloneH (i := 9) rfl (by kernel_rfl) (fun K hK => ?_)
    rw [if_pos (by rfl)]
    go_simp; (have HB4 := Lib.hid (below_alloc w3 (.cells #[.slice (some ⟨w0.heap.size, 0, none⟩) 1 1, .slice (some ⟨w1.heap.size, 0, none⟩) 8 8, .slice (some ⟨w2.heap.size, 0, none⟩) 4 4] 51)); have HR0 := Lib.hid (heap_alloc_new w3 (.cells #[.slice (some ⟨w0.heap.size, 0, none⟩) 1 1, .slice (some ⟨w1.heap.size, 0, none⟩) 8 8, .slice (some ⟨w2.heap.size, 0, none⟩) 4 4] 51)); generalize hx4 : World.alloc w3 (.cells #[.slice (some ⟨w0.heap.size, 0, none⟩) 1 1, .slice (some ⟨w1.heap.size, 0, none⟩) 8 8, .slice (some ⟨w2.heap.size, 0, none⟩) 4 4] 51) = w4 at HB4 HR0 ⊢; clear hx4)
    have HR : Hid (TextRows w4 (some ⟨w3.heap.size, 0, none⟩) [[69], highT s 8, highT u 4]) := Lib.hid (rows3 HR0.out ⟨_, _, rfl, HTa.out.below (below_then (below_then HB2.out HB3.out) HB4.out), by simp, by simp⟩ ⟨_, _, rfl, HTs.out.below (below_then HB3.out HB4.out), by simp, by simp [highT_len]⟩ ⟨_, _, rfl, HTu.out.below HB4.out, by simp, by simp [highT_len]⟩)
    refine hK.out _ _ (⟨cell_on HB4.out hHeld.1, cell_on HB4.out hHeld.2.1, cell_on HB4.out hHeld.2.2⟩) (fun hNew => ?_)
    clear hK K hHeld; (have hHeld := hNew); clear hNew; (try simp only [Act.put, List.setIfInBounds_toArray, List.set_cons_zero, List.set_cons_succ])
    refine aloneH (i := 10) rfl (by kernel_rfl) (fun K hK => ?_)
    rw [if_pos (by rfl)]
    go_simp; ((refine (HSl.out w4 _ HR.out).mono ?_); (rintro e w5 ⟨rfl, hb⟩); have HB5 := Lib.hid hb; clear hb; (try go_simp))
    refine hK.out _ _ (⟨cell_on HB5.out hHeld.1, cell_on HB5.out hHeld.2.1, cell_on HB5.out hHeld.2.2⟩) (fun hNew => ?_)
    clear hK K hHeld; (have hHeld := hNew); clear hNew; (try simp only [Act.put, List.setIfInBounds_toArray, List.set_cons_zero, List.set_cons_succ])
    refine aloneH (i := 11) rfl (by kernel_rfl) (fun K hK => ?_)
    rw [if_pos (by rfl)]
    have HG : Hid (w5.heap[w.heap.size + 1]? = some (.cells (zeros.map cellOf).toArray 128)) := Lib.hid (heap_on (below_then (below_then (below_then (below_then HB1.out HB2.out) HB3.out) HB4.out) HB5.out) HZD.out)
    refine wp_store_page pageT (.tmp 2) (.tmp 13) rfl (w.heap.size + 1) rfl (endP s u) (endP_len s u) rfl _ (by simp [zeros]) _ HG.out ?_
    refine hK.out _ _ (⟨cell_setRow (by simp) hHeld.1, cell_setRow (by simp) hHeld.2.1, cell_setRow (by simp) hHeld.2.2⟩) (fun hNew => ?_)
    clear hK K hHeld; (have hHeld := hNew); clear hNew; (try simp only [Act.put])
    refine wpAnyH_done (by kernel_rfl) ?_ _
    go_wp2
    refine bodyPost_ret (results_page rfl _ _ (w.heap.size + 1) (endP s u) (endP_len s u) rfl _ (setRow_heap _ _ _ _ _ _ HG.out)) rfl ⟨rfl, ?_⟩
    exact below_setRow (HBD.out.trans ((below_then (below_then (below_then (below_then HB1.out HB2.out) HB3.out) HB4.out) HB5.out).mono HBD.out.size)) (Nat.le_succ _) _
  · rw [if_pos (by rfl)]
    go_simp; ((refine (HCs.out w0).mono ?_); (rintro e w1 ⟨rfl, ht, hb⟩); have HTs := Lib.hid ht; have HB1 := Lib.hid hb; clear ht hb; (try go_simp))
    refine hK.out _ _ (⟨cell_on HB1.out hHeld.1, cell_on HB1.out hHeld.2.1, cell_on HB1.out hHeld.2.2⟩) (fun hNew => ?_)
    clear hK K hHeld; (have hHeld := hNew); clear hNew; (try simp only [Act.put, List.setIfInBounds_toArray, List.set_cons_zero, List.set_cons_succ])
    refine twoH (i := 0) (i2 := 8) rfl rfl (by kernel_rfl) (fun K hK => ?_) (fun K hK => ?_)
    · rw [if_pos (by rfl)]
      go_simp; (have HTa := Lib.hid (txt_page (l := [69]) (t := 5) (fr := (0, 0)) (heap_alloc_new w1 (.cells #[.int .u8 69] 5))); have HB2 := Lib.hid (below_alloc w1 (.cells #[.int .u8 69] 5)); generalize hx2 : World.alloc w1 (.cells #[.int .u8 69] 5) = w2 at HTa HB2 ⊢; clear hx2)
      refine hK.out _ _ (⟨cell_on HB2.out hHeld.1, cell_on HB2.out hHeld.2.1, cell_on HB2.out hHeld.2.2⟩) (fun hNew => ?_)
      clear hK K hHeld; (have hHeld := hNew); clear hNew; (try simp only [Act.put, List.setIfInBounds_toArray, List.set_cons_zero, List.set_cons_succ])
      refine aloneH (i := 8) rfl (by kernel_rfl) (fun K hK => ?_)
      rw [if_pos (by rfl)]
      go_simp; ((refine (HCu.out w2).mono ?_); (rintro e w3 ⟨rfl, ht, hb⟩); have HTu := Lib.hid ht; have HB3 := Lib.hid hb; clear ht hb; (try go_simp))
      refine hK.out _ _ (⟨cell_on HB3.out hHeld.1, cell_on HB3.out hHeld.2.1, cell_on HB3.out hHeld.2.2⟩) (fun hNew => ?_)
      clear hK K hHeld; (have hHeld := hNew); clear hNew; (try simp only [Act.put, List.setIfInBounds_toArray, List.set_cons_zero, List.set_cons_succ])
      refine aloneH (i := 9) rfl (by kernel_rfl) (fun K hK => ?_)
      rw [if_pos (by rfl)]
      go_simp; (have HB4 := Lib.hid (below_alloc w3 (.cells #[.slice (some ⟨w1.heap.size, 0, none⟩) 1 1, .slice (some ⟨w0.heap.size, 0, none⟩) 8 8, .slice (some ⟨w2.heap.size, 0, none⟩) 4 4] 51)); have HR0 := Lib.hid (heap_alloc_new w3 (.cells #[.slice (some ⟨w1.heap.size, 0, none⟩) 1 1, .slice (some ⟨w0.heap.size, 0, none⟩) 8 8, .slice (some ⟨w2.heap.size, 0, none⟩) 4 4] 51)); generalize hx4 : World.alloc w3 (.cells #[.slice (some ⟨w1.heap.size, 0, none⟩) 1 1, .slice (some ⟨w0.heap.size, 0, none⟩) 8 8, .slice (some ⟨w2.heap.size, 0, none⟩) 4 4] 51) = w4 at HB4 HR0 ⊢; clear hx4)
      have HR : Hid (TextRows w4 (some ⟨w3.heap.size, 0, none⟩) [[69], highT s 8, highT u 4]) := Lib.hid (rows3 HR0.out ⟨_, _, rfl, HTa.out.below (below_then HB3.out HB4.out), by simp, by simp⟩ ⟨_, _, rfl, HTs.out.below (below_then (below_then HB2.out HB3.out) HB4.out), by simp, by simp [highT_len]⟩ ⟨_, _, rfl, HTu.out.below HB4.out, by simp, by simp [highT_len]⟩)
      refine hK.out _ _ (⟨cell_on HB4.out hHeld.1, cell_on HB4.out hHeld.2.1, cell_on HB4.out hHeld.2.2⟩) (fun hNew => ?_)
      clear hK K hHeld; (have hHeld := hNew); clear hNew; (try simp only [Act.put, List.setIfInBounds_toArray, List.set_cons_zero, List.set_cons_succ])
      refine aloneH (i := 10) rfl (by kernel_rfl) (fun K hK => ?_)
      rw [if_pos (by rfl)]
      go_simp; ((refine (HSl.out w4 _ HR.out).mono ?_); (rintro e w5 ⟨rfl, hb⟩); have HB5 := Lib.hid hb; clear hb; (try go_simp))
      refine hK.out _ _ (⟨cell_on HB5.out hHeld.1, cell_on HB5.out hHeld.2.1, cell_on HB5.out hHeld.2.2⟩) (fun hNew => ?_)
      clear hK K hHeld; (have hHeld := hNew); clear hNew; (try simp only [Act.put, List.setIfInBounds_toArray, List.set_cons_zero, List.set_cons_succ])
      refine aloneH (i := 11) rfl (by kernel_rfl) (fun K hK => ?_)
      rw [if_pos (by rfl)]
      have HG : Hid (w5.heap[w.heap.size + 1]? = some (.cells (zeros.map cellOf).toArray 128)) := Lib.hid (heap_on (below_then (below_then (below_then (below_then HB1.out HB2.out) HB3.out) HB4.out) HB5.out) HZD.out)
      refine wp_store_page pageT (.tmp 2) (.tmp 13) rfl (w.heap.size + 1) rfl (endP s u) (endP_len s u) rfl _ (by simp [zeros]) _ HG.out ?_
      refine hK.out _ _ (⟨cell_setRow (by simp) hHeld.1, cell_setRow (by simp) hHeld.2.1, cell_setRow (by simp) hHeld.2.2⟩) (fun hNew => ?_)
      clear hK K hHeld; (have hHeld := hNew); clear hNew; (try simp only [Act.put])
      refine wpAnyH_done (by kernel_rfl) ?_ _
      go_wp2
      refine bodyPost_ret (results_page rfl _ _ (w.heap.size + 1) (endP s u) (endP_len s u) rfl _ (setRow_heap _ _ _ _ _ _ HG.out)) rfl ⟨rfl, ?_⟩
      exact below_setRow (HBD.out.trans ((below_then (below_then (below_then (below_then HB1.out HB2.out) HB3.out) HB4.out) HB5.out).mono HBD.out.size)) (Nat.le_succ _) _
    · rw [if_pos (by rfl)]
      go_simp; ((refine (HCu.out w1).mono ?_); (rintro e w2 ⟨rfl, ht, hb⟩); have HTu := Lib.hid ht; have HB2 := Lib.hid hb; clear ht hb; (try go_simp))
      refine hK.out _ _ (⟨cell_on HB2.out hHeld.1, cell_on HB2.out hHeld.2.1, cell_on HB2.out hHeld.2.2⟩) (fun hNew => ?_)
      clear hK K hHeld; (have hHeld := hNew); clear hNew; (try simp only [Act.put, List.setIfInBounds_toArray, List.set_cons_zero, List.set_cons_succ])
      refine aloneH (i := 0) rfl (by kernel_rfl) (fun K hK => ?_)
      rw [if_pos (by rfl)]
      go_simp; (have HTa := Lib.hid (txt_page (l := [69]) (t := 5) (fr := (0, 0)) (heap_alloc_new w2 (.cells #[.int .u8 69] 5))); have HB3 := Lib.hid (below_alloc w2 (.cells #[.int .u8 69] 5)); generalize hx3 : World.alloc w2 (.cells #[.int .u8 69] 5) = w3 at HTa HB3 ⊢; clear hx3)
      refine hK.out _ _ (⟨cell_on HB3.out hHeld.1, cell_on HB3.out hHeld.2.1, cell_on HB3.out hHeld.2.2⟩) (fun hNew => ?_)
      clear hK K hHeld; (have hHeld := hNew); clear hNew; (try simp only [Act.put, List.setIfInBounds_toArray, List.set_cons_zero, List.set_cons_succ])
      refine aloneH (i := 9) rfl (by kernel_rfl) (fun K hK => ?_)
      rw [if_pos (by rfl)]
      go_simp; (have HB4 := Lib.hid (below_alloc w3 (.cells #[.slice (some ⟨w2.heap.size, 0, none⟩) 1 1, .slice (some ⟨w0.heap.size, 0, none⟩) 8 8, .slice (some ⟨w1.heap.size, 0, none⟩) 4 4] 51)); have HR0 := Lib.hid (heap_alloc_new w3 (.cells #[.slice (some ⟨w2.heap.size, 0, none⟩) 1 1, .slice (some ⟨w0.heap.size, 0, none⟩) 8 8, .slice (some ⟨w1.heap.size, 0, none⟩) 4 4] 51)); generalize hx4 : World.alloc w3 (.cells #[.slice (some ⟨w2.heap.size, 0, none⟩) 1 1, .slice (some ⟨w0.heap.size, 0, none⟩) 8 8, .slice (some ⟨w1.heap.size, 0, none⟩) 4 4] 51) = w4 at HB4 HR0 ⊢; clear hx4)
      have HR : Hid (TextRows w4 (some ⟨w3.heap.size, 0, none⟩) [[69], highT s 8, highT u 4]) := Lib.hid (rows3 HR0.out ⟨_, _, rfl, HTa.out.below HB4.out, by simp, by simp⟩ ⟨_, _, rfl, HTs.out.below (below_then (below_then HB2.out HB3.out) HB4.out), by simp, by simp [highT_len]⟩ ⟨_, _, rfl, HTu.out.below (below_then HB3.out HB4.out), by simp, by simp [highT_len]⟩)
      refine hK.out _ _ (⟨cell_on HB4.out hHeld.1, cell_on HB4.out hHeld.2.1, cell_on HB4.out hHeld.2.2⟩) (fun hNew => ?_)
      clear hK K hHeld; (have hHeld := hNew); clear hNew; (try simp only [Act.put, List.setIfInBounds_toArray, List.set_cons_zero, List.set_cons_succ])
      refine aloneH (i := 10) rfl (by kernel_rfl) (fun K hK => ?_)
      rw [if_pos (by rfl)]
      go_simp; ((refine (HSl.out w4 _ HR.out).mono ?_); (rintro e w5 ⟨rfl, hb⟩); have HB5 := Lib.hid hb; clear hb; (try go_simp))
      refine hK.out _ _ (⟨cell_on HB5.out hHeld.1, cell_on HB5.out hHeld.2.1, cell_on HB5.out hHeld.2.2⟩) (fun hNew => ?_)
      clear hK K hHeld; (have hHeld := hNew); clear hNew; (try simp only [Act.put, List.setIfInBounds_toArray, List.set_cons_zero, List.set_cons_succ])
      refine aloneH (i := 11) rfl (by kernel_rfl) (fun K hK => ?_)
      rw [if_pos (by rfl)]
      have HG : Hid (w5.heap[w.heap.size + 1]? = some (.cells (zeros.map cellOf).toArray 128)) := Lib.hid (heap_on (below_then (below_then (below_then (below_then HB1.out HB2.out) HB3.out) HB4.out) HB5.out) HZD.out)
      refine wp_store_page pageT (.tmp 2) (.tmp 13) rfl (w.heap.size + 1) rfl (endP s u) (endP_len s u) rfl _ (by simp [zeros]) _ HG.out ?_
      refine hK.out _ _ (⟨cell_setRow (by simp) hHeld.1, cell_setRow (by simp) hHeld.2.1, cell_setRow (by simp) hHeld.2.2⟩) (fun hNew => ?_)
      clear hK K hHeld; (have hHeld := hNew); clear hNew; (try simp only [Act.put])
      refine wpAnyH_done (by kernel_rfl) ?_ _
      go_wp2
      refine bodyPost_ret (results_page rfl _ _ (w.heap.size + 1) (endP s u) (endP_len s u) rfl _ (setRow_heap _ _ _ _ _ _ HG.out)) rfl ⟨rfl, ?_⟩
      exact below_setRow (HBD.out.trans ((below_then (below_then (below_then (below_then HB1.out HB2.out) HB3.out) HB4.out) HB5.out).mono HBD.out.size)) (Nat.le_succ _) _
end Go.Proofs.Ytfjejiapafdgeaa
