/- The document's own disk: written. -/
import Derived.Test.YtglbpbhdhnikbaaSecRef
namespace Go.Proofs.Ytglbpbhdhnikbaa
open Go.RowKit
set_option maxRecDepth 100000

theorem strfactS : (Try.prog.info? 9).map (fun i => (i.zero, i.size, i.bytes)) = some (some (.string {data:=#[]}), 1, 16) := by kernel_rfl
/-- a row copied -/
theorem wpList_copy_row {w : World} {ops : Array Oper} {rest : List Oper} {o : Oper} {a : Act} {Q : Exit → Act → World → Prop} (hgd : o.guard = none) (s x : Operand)
    (ho : o.op = .call { callee := .builtin .append, args := #[s, x], argTypes := #[36, 36] }) (wb : World) (hw : w = wb.alloc (.cells #[] 9)) (hs : a.eval s = .slice (some ⟨wb.heap.size, 0, none⟩) 0 0)
    (g c n : Nat) (L : List ByteArray) (hx : a.eval x = .slice (some ⟨g, 0, none⟩) n c) (hn : L.length = n) (hP : Pgs wb g L) (hL : L.length ≤ 1000) (hpos : 0 < L.length)
    (h : ∀ g' c' cur w', w'.heap[g']? = some (.cells cur 9 (0, 0)) → (∀ i (h : i < L.length), cur[i]? = some (.string L[i])) → n ≤ c' → c' ≤ maxLen → wb.heap.size ≤ g' → Below wb.heap.size wb w' → wpList Try.prog ops Q rest (a.put o.dst (.slice (some ⟨g', 0, none⟩) n c')) w') :
    wpList Try.prog ops Q (o :: rest) a w := by
  subst hw hn
  obtain ⟨i0, hi, hz0, hz1, hz2⟩ := info_parts strfactS
  have hb1 : Below wb.heap.size wb (wb.alloc (.cells #[] 9)) := (Below.refl _ _).alloc (Nat.le_refl _) _
  have hown : (wb.alloc (.cells #[] 9)).ownsRow wb.heap.size 9 1 (.slice (some ⟨wb.heap.size, 0, none⟩) 0 0) 0 [] := World.ownsRow_lit wb #[] 0 (Nat.le_refl _) (by unfold maxLen; omega) rfl
  have hP2 := hP.below hb1
  refine wpList_append_own_at (P := Try.prog) _ hgd s x 36 ho wb.heap.size 9 i0 (.string {data:=#[]}) 1 16 Try.underlying36 hi hz0 hz1 hz2 rfl (by decide) _ 0 [] hs hown ⟨g, 0, none⟩ L.length c (L.map .string) hx (by simp) ?_ ?_ (by unfold maxLen; omega) (by omega) (by simp) fun v' w' k1 k2 _ _ => ?_
  · intro j u hu
    have hj : j < L.length := by
      have := (List.getElem?_eq_some_iff.1 hu).1
      simpa using this
    have := hP2.2 j hj
    rw [List.getElem?_map, List.getElem?_eq_getElem hj] at hu
    rw [Addr.add_mid, Nat.zero_add, this]
    exact hu
  · intro u hu
    obtain ⟨c, _, rfl⟩ := List.mem_map.1 hu
    rfl
  · rcases k1.2 with ⟨_, h0⟩ | ⟨g', c', cur, rfl, hB, hh, hc, hm, _⟩
    · omega
    · have hcells : ∀ i (h : i < L.length), cur[i]? = some (.string L[i]) := fun i hi => by
        have h1 := k1.cells (g := g') rfl i (.string L[i]) (by simp [hi])
        rw [Addr.add_mid, Nat.zero_add, cell_of_row w' g' i _ _ _ hh] at h1
        exact h1
      rw [Nat.zero_add] at *
      exact h g' c' cur w' hh hcells hc hm hB (hb1.trans ⟨k2.os, k2.tape, k2.output, Nat.le_trans (by simp) k2.size, fun k hk => k2.block k (by simp; omega) (fun e => by simp [Value.ownBlock] at e; omega)⟩)

theorem set_struct5 {w : World} {b : Nat} {x0 x1 x2 x3 x4 : Value} {t : TypeId} (h : w.heap[b]? = some (.cells #[x0, x1, x2, x3, x4] t (0, 0))) (v0 v1 v2 v3 v4 : Value) :
    (((((w.setCell ⟨b, 0, none⟩ v0).setCell ⟨b, 1, none⟩ v1).setCell ⟨b, 2, none⟩ v2).setCell ⟨b, 3, none⟩ v3).setCell ⟨b, 4, none⟩ v4).heap[b]? = some (.cells #[v0, v1, v2, v3, v4] t (0, 0)) := by
  have h0 : (w.setCell ⟨b, 0, none⟩ v0).heap[b]? = some (.cells #[v0, x1, x2, x3, x4] t (0, 0)) := heap_setCell_same w b 0 _ _ v0 h
  have h1 : ((w.setCell ⟨b, 0, none⟩ v0).setCell ⟨b, 1, none⟩ v1).heap[b]? = some (.cells #[v0, v1, x2, x3, x4] t (0, 0)) := heap_setCell_same _ b 1 _ _ v1 h0
  have h2 : (((w.setCell ⟨b, 0, none⟩ v0).setCell ⟨b, 1, none⟩ v1).setCell ⟨b, 2, none⟩ v2).heap[b]? = some (.cells #[v0, v1, v2, x3, x4] t (0, 0)) := heap_setCell_same _ b 2 _ _ v2 h1
  have h3 : ((((w.setCell ⟨b, 0, none⟩ v0).setCell ⟨b, 1, none⟩ v1).setCell ⟨b, 2, none⟩ v2).setCell ⟨b, 3, none⟩ v3).heap[b]? = some (.cells #[v0, v1, v2, v3, x4] t (0, 0)) := heap_setCell_same _ b 3 _ _ v3 h2
  exact heap_setCell_same _ b 4 _ _ v4 h3
theorem set_below5 {w w1 : World} {b : Nat} (hb : Below w.heap.size w w1) (hB : w.heap.size ≤ b) (v0 v1 v2 v3 v4 : Value) :
    Below w.heap.size w (((((w1.setCell ⟨b, 0, none⟩ v0).setCell ⟨b, 1, none⟩ v1).setCell ⟨b, 2, none⟩ v2).setCell ⟨b, 3, none⟩ v3).setCell ⟨b, 4, none⟩ v4) :=
  ((((hb.setCell (p := ⟨b, 0, none⟩) hB _).setCell (p := ⟨b, 1, none⟩) hB _).setCell (p := ⟨b, 2, none⟩) hB _).setCell (p := ⟨b, 3, none⟩) hB _).setCell (p := ⟨b, 4, none⟩) hB _
theorem RefIs.set5 {w : World} {g c b : Nat} {tr : Int} {d : DiskV} (h : RefIs w g c tr d) (hne : g ≠ b) (v0 v1 v2 v3 v4 : Value) :
    RefIs (((((w.setCell ⟨b, 0, none⟩ v0).setCell ⟨b, 1, none⟩ v1).setCell ⟨b, 2, none⟩ v2).setCell ⟨b, 3, none⟩ v3).setCell ⟨b, 4, none⟩ v4) g c tr d := by
  refine ⟨⟨by simpa using h.1.1, fun i hi => ?_⟩, h.2⟩
  have := h.1.2 i hi
  exact (World.cell?_of_block (by rw [heap_setCell_other _ _ _ _ hne, heap_setCell_other _ _ _ _ hne, heap_setCell_other _ _ _ _ hne, heap_setCell_other _ _ _ _ hne, heap_setCell_other _ _ _ _ hne])).trans this
/-- what a write of the document's leaves -/
def WroteR (w : World) (d' : DiskV) (v : Int) (e : Ending) (w' : World) : Prop := ∃ g c tr, e = .returned (.tuple #[refV g c tr d', .int .i64 v]) ∧ RefIs w' g c tr d' ∧ Below w.heap.size w w'
set_option maxHeartbeats 2000000 in
theorem ref_write_no (w : World) (g c : Nat) (tr : Int) (d : DiskV) (i : Int) (s : ByteArray) (h : RefIs w g c tr d) (hno : reachV d i ≠ 0 ∨ (reachV d i = 0 ∧ s.size ≠ 64)) (v : Int) (hv : v = if reachV d i ≠ 0 then reachV d i else 2) :
    Calls Try.prog 20 #[refV g c tr d, .int .i64 i, .string s] w (WroteR w d v) := by
  have HE : Hid (Value.agg (refC g c d.many (aftR d) tr d.dead d.writes).toArray = refV g c tr d) := Lib.hid (by simp [refC, refV])
  obtain ⟨w0, hw0⟩ : ∃ w0, w0 = (w.alloc (.cells (refC g c d.many (aftR d) tr d.dead d.writes).toArray 38)).alloc (.cells #[.slice none 0 0, .int .i64 0, .int .i64 0, .bool false, .int .i64 0] 38) := ⟨_, rfl⟩
  have hb0 : Below w.heap.size w w0 := by rw [hw0]; exact ((Below.refl _ w).alloc (Nat.le_refl _) _).alloc (by simp) _
  have hx3 : w0.heap[w.heap.size]? = some (.cells (refC g c d.many (aftR d) tr d.dead d.writes).toArray 38 (0, 0)) := by rw [hw0, Below.heap_alloc _ _ _ (by simp)]; exact heap_alloc_new w _
  have hx6 : w0.heap[w.heap.size + 1]? = some (.cells #[.slice none 0 0, .int .i64 0, .int .i64 0, .bool false, .int .i64 0] 38 (0, 0)) := by
    rw [hw0]
    have := heap_alloc_new (w.alloc (.cells (refC g c d.many (aftR d) tr d.dead d.writes).toArray 38)) (.cells #[.slice none 0 0, .int .i64 0, .int .i64 0, .bool false, .int .i64 0] 38)
    rwa [World.size_alloc] at this
  have hsz : w0.heap.size = w.heap.size + 2 := by rw [hw0]; simp
  have HR : Hid (Calls Try.prog 22 #[refV g c tr d, .int .i64 i] w0 fun e w' => e = .returned (.tuple #[.string (readS d i), .int .i64 (reachV d i)]) ∧ (w'.heap[w.heap.size]? = some (.cells (refC g c d.many (aftR d) tr d.dead d.writes).toArray 38 (0, 0)) ∧
      w'.heap[w.heap.size + 1]? = some (.cells #[.slice none 0 0, .int .i64 0, .int .i64 0, .bool false, .int .i64 0] 38 (0, 0)) ∧ RefIs w' g c tr d ∧ Below w.heap.size w w')) := Lib.hid ((ref_read w0 g c tr d i (h.below hb0)).mono fun e w' ⟨q1, q2⟩ =>
        ⟨q1, (q2.block _ (by omega)).trans hx3, (q2.block _ (by omega)).trans hx6, (h.below hb0).below q2, hb0.trans (q2.mono (by omega))⟩)
  have HG : Hid (g ≠ w.heap.size + 1) := Lib.hid (by have := h.1.1; omega)
  unfold refV at HR ⊢
  rw [hw0] at HR
  generalize hr : reachV d i = r at *
  generalize readS d i = rs at *
  have HV : Hid (v = if r ≠ 0 then r else 2) := Lib.hid hv
  clear h hw0 hb0 hx3 hx6 hsz hv hr
  generalize haf : aftR d = af at *
  have HAF := Lib.hid haf
  clear haf
  rcases hno with h1 | ⟨rfl, h1⟩
  · have hb : (r == 0) = false := by simpa using h1
    have HV1 : Hid (v = r) := Lib.hid (by rw [HV.out, if_pos h1])
    clear h1
    go_enter Try.func20, Try.ntmps20
    go_wp2_with (go_at_call 22; refine HR.out.mono ?_; rintro e w1 ⟨rfl, hx3, hx6, hri, hb1⟩; have c0 := cell_of_row w1 _ 0 _ _ _ hx3; have c1 := cell_of_row w1 _ 1 _ _ _ hx3; have c2 := cell_of_row w1 _ 2 _ _ _ hx3; have c3 := cell_of_row w1 _ 3 _ _ _ hx3; have c4 := cell_of_row w1 _ 4 _ _ _ hx3; simp only [refC, List.getElem?_toArray, List.getElem?_cons_zero, List.getElem?_cons_succ] at c0 c1 c2 c3 c4; have d0 := cell_of_row w1 _ 0 _ _ _ hx6; have d1 := cell_of_row w1 _ 1 _ _ _ hx6; have d2 := cell_of_row w1 _ 2 _ _ _ hx6; have d3 := cell_of_row w1 _ 3 _ _ _ hx6; have d4 := cell_of_row w1 _ 4 _ _ _ hx6; simp only [List.getElem?_toArray, List.getElem?_cons_zero, List.getElem?_cons_succ] at d0 d1 d2 d3 d4; have f0 := frozen_of_row w1 _ 0 _ _ hx6; have f1 := frozen_of_row w1 _ 1 _ _ hx6; have f2 := frozen_of_row w1 _ 2 _ _ hx6; have f3 := frozen_of_row w1 _ 3 _ _ hx6; have f4 := frozen_of_row w1 _ 4 _ _ hx6; have HX6 := Lib.hid hx6; have HRI := Lib.hid hri; have HB1 := Lib.hid hb1; clear hx3 hx6 hri hb1)
    have hx := set_struct5 HX6.out (.slice (some ⟨g, 0, none⟩) d.many c) (.int .i64 af) (.int .i64 tr) (.bool d.dead) (.int .i64 d.writes)
    have hbb := set_below5 HB1.out (b := w.heap.size + 1) (by omega) (.slice (some ⟨g, 0, none⟩) d.many c) (.int .i64 af) (.int .i64 tr) (.bool d.dead) (.int .i64 d.writes)
    refine bodyPost_ret (results_cell_of2 rfl _ _ (w.heap.size + 1) _ _ rfl rfl (load_ref _ _ (refC g c d.many af tr d.dead d.writes) rfl _ _ hx)) rfl ⟨g, c, tr, ?_, HRI.out.set5 HG.out _ _ _ _ _, hbb⟩
    rw [HE.out, HV1.out]; rfl
  · have hb : ((s.size : Int) != 64) = true := by simp; omega
    have HV1 : Hid (v = 2) := Lib.hid (by rw [HV.out, if_neg (by omega)])
    have h1' : ¬ ((s.size : Int) = 64) := by omega
    clear h1
    go_enter Try.func20, Try.ntmps20
    go_wp2_with (go_at_call 22; refine HR.out.mono ?_; rintro e w1 ⟨rfl, hx3, hx6, hri, hb1⟩; have c0 := cell_of_row w1 _ 0 _ _ _ hx3; have c1 := cell_of_row w1 _ 1 _ _ _ hx3; have c2 := cell_of_row w1 _ 2 _ _ _ hx3; have c3 := cell_of_row w1 _ 3 _ _ _ hx3; have c4 := cell_of_row w1 _ 4 _ _ _ hx3; simp only [refC, List.getElem?_toArray, List.getElem?_cons_zero, List.getElem?_cons_succ] at c0 c1 c2 c3 c4; have d0 := cell_of_row w1 _ 0 _ _ _ hx6; have d1 := cell_of_row w1 _ 1 _ _ _ hx6; have d2 := cell_of_row w1 _ 2 _ _ _ hx6; have d3 := cell_of_row w1 _ 3 _ _ _ hx6; have d4 := cell_of_row w1 _ 4 _ _ _ hx6; simp only [List.getElem?_toArray, List.getElem?_cons_zero, List.getElem?_cons_succ] at d0 d1 d2 d3 d4; have f0 := frozen_of_row w1 _ 0 _ _ hx6; have f1 := frozen_of_row w1 _ 1 _ _ hx6; have f2 := frozen_of_row w1 _ 2 _ _ hx6; have f3 := frozen_of_row w1 _ 3 _ _ hx6; have f4 := frozen_of_row w1 _ 4 _ _ hx6; have HX6 := Lib.hid hx6; have HRI := Lib.hid hri; have HB1 := Lib.hid hb1; clear hx3 hx6 hri hb1)
    have hx := set_struct5 HX6.out (.slice (some ⟨g, 0, none⟩) d.many c) (.int .i64 af) (.int .i64 tr) (.bool d.dead) (.int .i64 d.writes)
    have hbb := set_below5 HB1.out (b := w.heap.size + 1) (by omega) (.slice (some ⟨g, 0, none⟩) d.many c) (.int .i64 af) (.int .i64 tr) (.bool d.dead) (.int .i64 d.writes)
    refine bodyPost_ret (results_cell_of2 rfl _ _ (w.heap.size + 1) _ _ rfl rfl (load_ref _ _ (refC g c d.many af tr d.dead d.writes) rfl _ _ hx)) rfl ⟨g, c, tr, ?_, HRI.out.set5 HG.out _ _ _ _ _, hbb⟩
    rw [HE.out, HV1.out]; rfl
end Go.Proofs.Ytglbpbhdhnikbaa
