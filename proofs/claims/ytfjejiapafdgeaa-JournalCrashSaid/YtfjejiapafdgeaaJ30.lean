/- The document's own disk: written. The document's own disk: written, where it is written. -/
import Derived.Test.YtfjejiapafdgeaaJ27
namespace Go.Proofs.Ytfjejiapafdgeaa
open Go.RowKit
set_option maxRecDepth 100000

theorem strfactS : (Try.prog.info? 9).map (fun i => (i.zero, i.size, i.bytes)) = some (some (.string {data:=#[]}), 1, 16) := by kernel_rfl
/-- a row copied -/
theorem wpList_copy_row {w : World} {ops : Array Oper} {rest : List Oper} {o : Oper} {a : Act} {Q : Exit → Act → World → Prop} (hgd : o.guard = none) (s x : Operand)
    (ho : o.op = .call { callee := .builtin .append, args := #[s, x], argTypes := #[26, 26] }) (wb : World) (hw : w = wb.alloc (.cells #[] 9)) (hs : a.eval s = .slice (some ⟨wb.heap.size, 0, none⟩) 0 0)
    (g c n : Nat) (L : List ByteArray) (hx : a.eval x = .slice (some ⟨g, 0, none⟩) n c) (hn : L.length = n) (hP : Pgs wb g L) (hL : L.length ≤ 1000) (hpos : 0 < L.length)
    (h : ∀ g' c' cur w', w'.heap[g']? = some (.cells cur 9 (0, 0)) → (∀ i (h : i < L.length), cur[i]? = some (.string L[i])) → n ≤ c' → c' ≤ maxLen → wb.heap.size ≤ g' → Below wb.heap.size wb w' → wpList Try.prog ops Q rest (a.put o.dst (.slice (some ⟨g', 0, none⟩) n c')) w') :
    wpList Try.prog ops Q (o :: rest) a w := by
  subst hw hn
  obtain ⟨i0, hi, hz0, hz1, hz2⟩ := info_parts strfactS
  have hb1 : Below wb.heap.size wb (wb.alloc (.cells #[] 9)) := (Below.refl _ _).alloc (Nat.le_refl _) _
  have hown : (wb.alloc (.cells #[] 9)).ownsRow wb.heap.size 9 1 (.slice (some ⟨wb.heap.size, 0, none⟩) 0 0) 0 [] := World.ownsRow_lit wb #[] 0 (Nat.le_refl _) (by unfold maxLen; omega) rfl
  have hP2 := hP.below hb1
  refine wpList_append_own_at (P := Try.prog) _ hgd s x 26 ho wb.heap.size 9 i0 (.string {data:=#[]}) 1 16 Try.underlying26 hi hz0 hz1 hz2 rfl (by decide) _ 0 [] hs hown ⟨g, 0, none⟩ L.length c (L.map .string) hx (by simp) ?_ ?_ (by unfold maxLen; omega) (by omega) (by simp) fun v' w' k1 k2 _ _ => ?_
  · intro j u hu
    have hj : j < L.length := by
      have := (List.getElem?_eq_some_iff.1 hu).1
      simpa using this
    have := hP2.2 j hj
    rw [List.getElem?_map, List.getElem?_eq_getElem hj] at hu
    rw [Addr.add_mid, Nat.zero_add, this]
    exact hu
  · intro u hu
    obtain ⟨c, _, rfl⟩ := List.mem_map.1 hu
    rfl
  · rcases k1.2 with ⟨_, h0⟩ | ⟨g', c', cur, rfl, hB, hh, hc, hm, _⟩
    · omega
    · have hcells : ∀ i (h : i < L.length), cur[i]? = some (.string L[i]) := fun i hi => by
        have h1 := k1.cells (g := g') rfl i (.string L[i]) (by simp [hi])
        rw [Addr.add_mid, Nat.zero_add, cell_of_row w' g' i _ _ _ hh] at h1
        exact h1
      rw [Nat.zero_add] at *
      exact h g' c' cur w' hh hcells hc hm hB (hb1.trans ⟨k2.os, k2.tape, k2.output, Nat.le_trans (by simp) k2.size, fun k hk => k2.block k (by simp; omega) (fun e => by simp [Value.ownBlock] at e; omega)⟩)

theorem set_struct5 {w : World} {b : Nat} {x0 x1 x2 x3 x4 : Value} {t : TypeId} (h : w.heap[b]? = some (.cells #[x0, x1, x2, x3, x4] t (0, 0))) (v0 v1 v2 v3 v4 : Value) :
    (((((w.setCell ⟨b, 0, none⟩ v0).setCell ⟨b, 1, none⟩ v1).setCell ⟨b, 2, none⟩ v2).setCell ⟨b, 3, none⟩ v3).setCell ⟨b, 4, none⟩ v4).heap[b]? = some (.cells #[v0, v1, v2, v3, v4] t (0, 0)) := by
  have h0 : (w.setCell ⟨b, 0, none⟩ v0).heap[b]? = some (.cells #[v0, x1, x2, x3, x4] t (0, 0)) := heap_setCell_same w b 0 _ _ v0 h
  have h1 : ((w.setCell ⟨b, 0, none⟩ v0).setCell ⟨b, 1, none⟩ v1).heap[b]? = some (.cells #[v0, v1, x2, x3, x4] t (0, 0)) := heap_setCell_same _ b 1 _ _ v1 h0
  have h2 : (((w.setCell ⟨b, 0, none⟩ v0).setCell ⟨b, 1, none⟩ v1).setCell ⟨b, 2, none⟩ v2).heap[b]? = some (.cells #[v0, v1, v2, x3, x4] t (0, 0)) := heap_setCell_same _ b 2 _ _ v2 h1
  have h3 : ((((w.setCell ⟨b, 0, none⟩ v0).setCell ⟨b, 1, none⟩ v1).setCell ⟨b, 2, none⟩ v2).setCell ⟨b, 3, none⟩ v3).heap[b]? = some (.cells #[v0, v1, v2, v3, x4] t (0, 0)) := heap_setCell_same _ b 3 _ _ v3 h2
  exact heap_setCell_same _ b 4 _ _ v4 h3
theorem set_below5 {w w1 : World} {b : Nat} (hb : Below w.heap.size w w1) (hB : w.heap.size ≤ b) (v0 v1 v2 v3 v4 : Value) :
    Below w.heap.size w (((((w1.setCell ⟨b, 0, none⟩ v0).setCell ⟨b, 1, none⟩ v1).setCell ⟨b, 2, none⟩ v2).setCell ⟨b, 3, none⟩ v3).setCell ⟨b, 4, none⟩ v4) :=
  ((((hb.setCell (p := ⟨b, 0, none⟩) hB _).setCell (p := ⟨b, 1, none⟩) hB _).setCell (p := ⟨b, 2, none⟩) hB _).setCell (p := ⟨b, 3, none⟩) hB _).setCell (p := ⟨b, 4, none⟩) hB _
theorem RefIs.set5 {w : World} {g c b : Nat} {tr : Int} {d : DiskV} (h : RefIs w g c tr d) (hne : g ≠ b) (v0 v1 v2 v3 v4 : Value) :
    RefIs (((((w.setCell ⟨b, 0, none⟩ v0).setCell ⟨b, 1, none⟩ v1).setCell ⟨b, 2, none⟩ v2).setCell ⟨b, 3, none⟩ v3).setCell ⟨b, 4, none⟩ v4) g c tr d := by
  refine ⟨⟨by simpa using h.1.1, fun i hi => ?_⟩, h.2⟩
  have := h.1.2 i hi
  exact (World.cell?_of_block (by rw [heap_setCell_other _ _ _ _ hne, heap_setCell_other _ _ _ _ hne, heap_setCell_other _ _ _ _ hne, heap_setCell_other _ _ _ _ hne, heap_setCell_other _ _ _ _ hne])).trans this
/-- what a write of the document's leaves -/
def WroteR (w : World) (d' : DiskV) (v : Int) (e : Ending) (w' : World) : Prop := ∃ g c tr, e = .returned (.tuple #[refV g c tr d', .int .i64 v]) ∧ RefIs w' g c tr d' ∧ Below w.heap.size w w'
set_option maxHeartbeats 2000000 in
theorem ref_write_no (w : World) (g c : Nat) (tr : Int) (d : DiskV) (i : Int) (s : ByteArray) (h : RefIs w g c tr d) (hno : reachV d i ≠ 0 ∨ (reachV d i = 0 ∧ s.size ≠ 64)) (v : Int) (hv : v = if reachV d i ≠ 0 then reachV d i else 2) :
    Calls Try.prog 44 #[refV g c tr d, .int .i64 i, .string s] w (WroteR w d v) := by
  have HE : Hid (Value.agg (refC g c d.many (aftR d) tr d.dead d.writes).toArray = refV g c tr d) := Lib.hid (by simp [refC, refV])
  obtain ⟨w0, hw0⟩ : ∃ w0, w0 = (w.alloc (.cells (refC g c d.many (aftR d) tr d.dead d.writes).toArray 28)).alloc (.cells #[.slice none 0 0, .int .i64 0, .int .i64 0, .bool false, .int .i64 0] 28) := ⟨_, rfl⟩
  have hb0 : Below w.heap.size w w0 := by rw [hw0]; exact ((Below.refl _ w).alloc (Nat.le_refl _) _).alloc (by simp) _
  have hx3 : w0.heap[w.heap.size]? = some (.cells (refC g c d.many (aftR d) tr d.dead d.writes).toArray 28 (0, 0)) := by rw [hw0, Below.heap_alloc _ _ _ (by simp)]; exact heap_alloc_new w _
  have hx6 : w0.heap[w.heap.size + 1]? = some (.cells #[.slice none 0 0, .int .i64 0, .int .i64 0, .bool false, .int .i64 0] 28 (0, 0)) := by
    rw [hw0]
    have := heap_alloc_new (w.alloc (.cells (refC g c d.many (aftR d) tr d.dead d.writes).toArray 28)) (.cells #[.slice none 0 0, .int .i64 0, .int .i64 0, .bool false, .int .i64 0] 28)
    rwa [World.size_alloc] at this
  have hsz : w0.heap.size = w.heap.size + 2 := by rw [hw0]; simp
  have HR : Hid (Calls Try.prog 67 #[refV g c tr d, .int .i64 i] w0 fun e w' => e = .returned (.tuple #[.string (readS d i), .int .i64 (reachV d i)]) ∧ (w'.heap[w.heap.size]? = some (.cells (refC g c d.many (aftR d) tr d.dead d.writes).toArray 28 (0, 0)) ∧
      w'.heap[w.heap.size + 1]? = some (.cells #[.slice none 0 0, .int .i64 0, .int .i64 0, .bool false, .int .i64 0] 28 (0, 0)) ∧ RefIs w' g c tr d ∧ Below w.heap.size w w')) := Lib.hid ((ref_read w0 g c tr d i (h.below hb0)).mono fun e w' ⟨q1, q2⟩ =>
        ⟨q1, (q2.block _ (by omega)).trans hx3, (q2.block _ (by omega)).trans hx6, (h.below hb0).below q2, hb0.trans (q2.mono (by omega))⟩)
  have HG : Hid (g ≠ w.heap.size + 1) := Lib.hid (by have := h.1.1; omega)
  unfold refV at HR ⊢
  rw [hw0] at HR
  generalize hr : reachV d i = r at *
  generalize readS d i = rs at *
  have HV : Hid (v = if r ≠ 0 then r else 2) := Lib.hid hv
  clear h hw0 hb0 hx3 hx6 hsz hv hr
  generalize haf : aftR d = af at *
  have HAF := Lib.hid haf
  clear haf
  rcases hno with h1 | ⟨rfl, h1⟩
  · have hb : (r == 0) = false := by simpa using h1
    have HV1 : Hid (v = r) := Lib.hid (by rw [HV.out, if_pos h1])
    clear h1
    go_enter Try.func44, Try.ntmps44
    go_wp2_with (go_at_call 67; refine HR.out.mono ?_; rintro e w1 ⟨rfl, hx3, hx6, hri, hb1⟩; have c0 := cell_of_row w1 _ 0 _ _ _ hx3; have c1 := cell_of_row w1 _ 1 _ _ _ hx3; have c2 := cell_of_row w1 _ 2 _ _ _ hx3; have c3 := cell_of_row w1 _ 3 _ _ _ hx3; have c4 := cell_of_row w1 _ 4 _ _ _ hx3; simp only [refC, List.getElem?_toArray, List.getElem?_cons_zero, List.getElem?_cons_succ] at c0 c1 c2 c3 c4; have d0 := cell_of_row w1 _ 0 _ _ _ hx6; have d1 := cell_of_row w1 _ 1 _ _ _ hx6; have d2 := cell_of_row w1 _ 2 _ _ _ hx6; have d3 := cell_of_row w1 _ 3 _ _ _ hx6; have d4 := cell_of_row w1 _ 4 _ _ _ hx6; simp only [List.getElem?_toArray, List.getElem?_cons_zero, List.getElem?_cons_succ] at d0 d1 d2 d3 d4; have f0 := frozen_of_row w1 _ 0 _ _ hx6; have f1 := frozen_of_row w1 _ 1 _ _ hx6; have f2 := frozen_of_row w1 _ 2 _ _ hx6; have f3 := frozen_of_row w1 _ 3 _ _ hx6; have f4 := frozen_of_row w1 _ 4 _ _ hx6; have HX6 := Lib.hid hx6; have HRI := Lib.hid hri; have HB1 := Lib.hid hb1; clear hx3 hx6 hri hb1)
    have hx := set_struct5 HX6.out (.slice (some ⟨g, 0, none⟩) d.many c) (.int .i64 af) (.int .i64 tr) (.bool d.dead) (.int .i64 d.writes)
    have hbb := set_below5 HB1.out (b := w.heap.size + 1) (by omega) (.slice (some ⟨g, 0, none⟩) d.many c) (.int .i64 af) (.int .i64 tr) (.bool d.dead) (.int .i64 d.writes)
    refine bodyPost_ret (results_cell_of2 rfl _ _ (w.heap.size + 1) _ _ rfl rfl (load_ref _ _ (refC g c d.many af tr d.dead d.writes) rfl _ _ hx)) rfl ⟨g, c, tr, ?_, HRI.out.set5 HG.out _ _ _ _ _, hbb⟩
    rw [HE.out, HV1.out]; rfl
  · have hb : ((s.size : Int) != 64) = true := by simp; omega
    have HV1 : Hid (v = 2) := Lib.hid (by rw [HV.out, if_neg (by omega)])
    have h1' : ¬ ((s.size : Int) = 64) := by omega
    clear h1
    go_enter Try.func44, Try.ntmps44
    go_wp2_with (go_at_call 67; refine HR.out.mono ?_; rintro e w1 ⟨rfl, hx3, hx6, hri, hb1⟩; have c0 := cell_of_row w1 _ 0 _ _ _ hx3; have c1 := cell_of_row w1 _ 1 _ _ _ hx3; have c2 := cell_of_row w1 _ 2 _ _ _ hx3; have c3 := cell_of_row w1 _ 3 _ _ _ hx3; have c4 := cell_of_row w1 _ 4 _ _ _ hx3; simp only [refC, List.getElem?_toArray, List.getElem?_cons_zero, List.getElem?_cons_succ] at c0 c1 c2 c3 c4; have d0 := cell_of_row w1 _ 0 _ _ _ hx6; have d1 := cell_of_row w1 _ 1 _ _ _ hx6; have d2 := cell_of_row w1 _ 2 _ _ _ hx6; have d3 := cell_of_row w1 _ 3 _ _ _ hx6; have d4 := cell_of_row w1 _ 4 _ _ _ hx6; simp only [List.getElem?_toArray, List.getElem?_cons_zero, List.getElem?_cons_succ] at d0 d1 d2 d3 d4; have f0 := frozen_of_row w1 _ 0 _ _ hx6; have f1 := frozen_of_row w1 _ 1 _ _ hx6; have f2 := frozen_of_row w1 _ 2 _ _ hx6; have f3 := frozen_of_row w1 _ 3 _ _ hx6; have f4 := frozen_of_row w1 _ 4 _ _ hx6; have HX6 := Lib.hid hx6; have HRI := Lib.hid hri; have HB1 := Lib.hid hb1; clear hx3 hx6 hri hb1)
    have hx := set_struct5 HX6.out (.slice (some ⟨g, 0, none⟩) d.many c) (.int .i64 af) (.int .i64 tr) (.bool d.dead) (.int .i64 d.writes)
    have hbb := set_below5 HB1.out (b := w.heap.size + 1) (by omega) (.slice (some ⟨g, 0, none⟩) d.many c) (.int .i64 af) (.int .i64 tr) (.bool d.dead) (.int .i64 d.writes)
    refine bodyPost_ret (results_cell_of2 rfl _ _ (w.heap.size + 1) _ _ rfl rfl (load_ref _ _ (refC g c d.many af tr d.dead d.writes) rfl _ _ hx)) rfl ⟨g, c, tr, ?_, HRI.out.set5 HG.out _ _ _ _ _, hbb⟩
    rw [HE.out, HV1.out]; rfl
end Go.Proofs.Ytfjejiapafdgeaa

namespace Go.Proofs.Ytfjejiapafdgeaa
open Go.RowKit
set_option maxRecDepth 100000

theorem row_put {w : World} {g : Nat} {L : List ByteArray} {cur : Array Value} {t : TypeId} {fr : Nat × Nat} (k : Nat) (s : ByteArray) (hg : w.heap[g]? = some (.cells (cur.setIfInBounds k (.string s)) t fr)) (hc : ∀ i (h : i < L.length), cur[i]? = some (.string L[i])) (L' : List ByteArray) (hl : L'.length = L.length)
    (hL : ∀ i (h : i < L'.length), L'[i] = if i = k then s else L[i]'(by omega)) (hk : k < L.length) : Pgs w g L' := by
  refine ⟨heapLt hg, fun i hi => ?_⟩
  have h1 : w.cell? ⟨g, i, none⟩ = (cur.setIfInBounds k (.string s))[i]? := cell_of_row w g i _ _ _ hg
  rw [h1, hL i hi]
  have h2 := hc i (by omega)
  have hsz : i < cur.size := (Array.getElem?_eq_some_iff.1 h2).1
  by_cases e : i = k
  · subst e
    simp [hsz]
  · rw [if_neg e, Array.getElem?_setIfInBounds_ne (fun h => e h.symm)]
    exact h2

theorem over_all {l m : Text} (hl : l.length = 64) (hm : m.length = 64) : overP l m = m := by
  unfold overP
  rw [List.take_of_length_le (by omega), hm, List.drop_eq_nil_of_le (by omega), List.append_nil]
theorem wrote_post {w W3 : World} {b g2 c2 k : Nat} {cur : Array Value} {x0 x1 x2 x3 x4 : Value} {t T5 : TypeId} {fr : Nat × Nat} {d d' : DiskV} {T : Text} {tr : Int} (hb : Below w.heap.size w W3) (hB : w.heap.size ≤ b) (h6 : W3.heap[b]? = some (.cells #[x0, x1, x2, x3, x4] T5 (0, 0)))
    (hg : W3.heap[g2]? = some (.cells (cur.setIfInBounds k (.string ⟨T.toArray⟩)) t fr)) (hne : g2 ≠ b) (hc : ∀ i (h : i < (pagesL d).length), cur[i]? = some (.string (pagesL d)[i])) (hk : k < d.many) (hm : d'.many = d.many) (hS : ∀ i, d'.S i = if i = k then T else d.S i) (hc2 : d.many ≤ c2) (hm2 : c2 ≤ maxLen) (htr : d'.set = true → tr = d'.torn)
    (v0 v1 v2 v3 v4 : Value) (hv : #[v0, v1, v2, v3, v4] = (refC g2 c2 d'.many (aftR d') tr d'.dead d'.writes).toArray) :
    ((((((W3.setCell ⟨b, 0, none⟩ v0).setCell ⟨b, 1, none⟩ v1).setCell ⟨b, 2, none⟩ v2).setCell ⟨b, 3, none⟩ v3).setCell ⟨b, 4, none⟩ v4).heap[b]? = some (.cells (refC g2 c2 d'.many (aftR d') tr d'.dead d'.writes).toArray T5 (0, 0))) ∧
    RefIs (((((W3.setCell ⟨b, 0, none⟩ v0).setCell ⟨b, 1, none⟩ v1).setCell ⟨b, 2, none⟩ v2).setCell ⟨b, 3, none⟩ v3).setCell ⟨b, 4, none⟩ v4) g2 c2 tr d' ∧
    Below w.heap.size w (((((W3.setCell ⟨b, 0, none⟩ v0).setCell ⟨b, 1, none⟩ v1).setCell ⟨b, 2, none⟩ v2).setCell ⟨b, 3, none⟩ v3).setCell ⟨b, 4, none⟩ v4) := by
  have h1 : Pgs W3 g2 (pagesL d') := row_put (L := pagesL d) k ⟨T.toArray⟩ hg hc (pagesL d') (by rw [pagesL_len, pagesL_len, hm]) (fun i hi => by
    rw [pagesL_at, pagesL_at, hS i]
    by_cases e : i = k
    · rw [if_pos e, if_pos e]
    · rw [if_neg e, if_neg e]) (by rw [pagesL_len]; exact hk)
  have h2 : RefIs W3 g2 c2 tr d' := ⟨h1, by rw [hm]; exact hc2, hm2, htr⟩
  refine ⟨?_, h2.set5 hne _ _ _ _ _, set_below5 hb hB _ _ _ _ _⟩
  rw [set_struct5 h6, hv]
set_option maxHeartbeats 2000000 in
theorem ref_write_on (w : World) (g c : Nat) (tr : Int) (d : DiskV) (k : Nat) (s : ByteArray) (h : RefIs w g c tr d) (ho : OkD d) (hw : d.writes < 9223372036854775807) (hm : d.many ≤ 1000) (hr : reachV d k = 0) (hs : s.size = 64) (hf : ¬ (d.set = true ∧ d.after = 0)) (T : Text) (hT : s = ⟨T.toArray⟩) (hSk : (d.S k).length = 64) :
    Calls Try.prog 44 #[refV g c tr d, .int .i64 k, .string s] w (WroteR w (writeD d k T) 0) := by
  have HE : Hid (Value.agg (refC g c d.many (aftR d) tr d.dead d.writes).toArray = refV g c tr d) := Lib.hid (by simp [refC, refV])
  obtain ⟨w0, hw0⟩ : ∃ w0, w0 = (w.alloc (.cells (refC g c d.many (aftR d) tr d.dead d.writes).toArray 28)).alloc (.cells #[.slice none 0 0, .int .i64 0, .int .i64 0, .bool false, .int .i64 0] 28) := ⟨_, rfl⟩
  have hb0 : Below w.heap.size w w0 := by rw [hw0]; exact ((Below.refl _ w).alloc (Nat.le_refl _) _).alloc (by simp) _
  have hx3 : w0.heap[w.heap.size]? = some (.cells (refC g c d.many (aftR d) tr d.dead d.writes).toArray 28 (0, 0)) := by rw [hw0, Below.heap_alloc _ _ _ (by simp)]; exact heap_alloc_new w _
  have hx6 : w0.heap[w.heap.size + 1]? = some (.cells #[.slice none 0 0, .int .i64 0, .int .i64 0, .bool false, .int .i64 0] 28 (0, 0)) := by
    rw [hw0]
    have := heap_alloc_new (w.alloc (.cells (refC g c d.many (aftR d) tr d.dead d.writes).toArray 28)) (.cells #[.slice none 0 0, .int .i64 0, .int .i64 0, .bool false, .int .i64 0] 28)
    rwa [World.size_alloc] at this
  have hsz : w0.heap.size = w.heap.size + 2 := by rw [hw0]; simp
  have HR : Hid (Calls Try.prog 67 #[refV g c tr d, .int .i64 (k : Int)] w0 fun e w' => e = .returned (.tuple #[.string (readS d (k : Int)), .int .i64 (reachV d (k : Int))]) ∧ (w'.heap[w.heap.size]? = some (.cells (refC g c d.many (aftR d) tr d.dead d.writes).toArray 28 (0, 0)) ∧
      w'.heap[w.heap.size + 1]? = some (.cells #[.slice none 0 0, .int .i64 0, .int .i64 0, .bool false, .int .i64 0] 28 (0, 0)) ∧ RefIs w' g c tr d ∧ Below w.heap.size w w')) := Lib.hid ((ref_read w0 g c tr d k (h.below hb0)).mono fun e w' ⟨q1, q2⟩ =>
        ⟨q1, (q2.block _ (by omega)).trans hx3, (q2.block _ (by omega)).trans hx6, (h.below hb0).below q2, hb0.trans (q2.mono (by omega))⟩)
  have HG : Hid (g ≠ w.heap.size + 1) := Lib.hid (by have := h.1.1; omega)
  unfold refV at HR ⊢
  rw [hw0] at HR
  rw [hr] at HR
  generalize readS d (k : Int) = rs at *
  have hkm : k < d.many := by have := (reach_ok hr).2.1; omega
  have hkm' : (k : Int) < (d.many : Int) := by omega
  have hs' : (s.size : Int) = 64 := by omega
  have hw1 : d.writes + 1 ≤ 9223372036854775807 := by omega
  obtain ⟨o1, o2, o3, o4, o5⟩ := ho
  have HWD : Hid (writeD d k T = { d.lay k T with writes := d.writes + 1, after := if d.set = true then d.after - 1 else d.after }) := Lib.hid (by
    unfold writeD
    have : T.length = 64 := by rw [hT] at hs; exact hs
    rw [if_neg (by omega), if_neg (by omega), if_neg hf, Int.toNat_natCast])
  have hTl : T.length = 64 := by rw [hT] at hs; exact hs
  have HS : Hid (∀ i, (writeD d k T).S i = if i = k then T else d.S i) := Lib.hid (fun i => by
    rw [HWD.out]
    show (if i = k then overP (d.S k) T else d.S i) = _
    rw [over_all hSk hTl])
  have HST := Lib.hid hT
  have HTR := Lib.hid h.2.2.2
  clear hw0 hb0 hx3 hx6 hsz h
  rcases Bool.eq_false_or_eq_true d.set with hset | hset
  · have haf : aftR d = d.after := by unfold aftR; rw [if_pos hset]
    rw [haf] at HR ⊢
    have hn0 : ¬ d.after = 0 := fun e => hf ⟨hset, e⟩
    have hb0 : (d.after == 0) = false := by simpa using hn0
    have ha1 : 0 < d.after := by omega
    clear hf hT hs hr hw
    go_enter Try.func44, Try.ntmps44
    go_wp2_with (first
      | (go_at_call 67; refine HR.out.mono ?_; rintro e w1 ⟨rfl, hx3, hx6, hri, hb1⟩; have c0 := cell_of_row w1 _ 0 _ _ _ hx3; have c1 := cell_of_row w1 _ 1 _ _ _ hx3; have c2 := cell_of_row w1 _ 2 _ _ _ hx3; have c3 := cell_of_row w1 _ 3 _ _ _ hx3; have c4 := cell_of_row w1 _ 4 _ _ _ hx3; simp only [refC, List.getElem?_toArray, List.getElem?_cons_zero, List.getElem?_cons_succ] at c0 c1 c2 c3 c4; have c0a : ∀ x, (w1.alloc x).cell? ⟨w.heap.size, 0, none⟩ = some (.slice (some ⟨g, 0, none⟩) d.many c) := fun x => (((Below.refl w1.heap.size w1).alloc (Nat.le_refl _) x).cell (heapLt hx3)).trans c0; have HX3 := Lib.hid hx3; have HX6 := Lib.hid hx6; have HPG : Hid (Pgs w1 g (pagesL d)) := Lib.hid hri.1; have HRI := Lib.hid hri; have HB1 := Lib.hid hb1; clear hx3 hx6 hri hb1)
      | ((with_reducible refine wpList_copy_row (o := ⟨some 28, _, _, _, _, _⟩) ?q1 (.tmp 25) (.tmp 27) ?q2 w1 ?q3 ?q4 g c d.many (pagesL d) ?q5 (pagesL_len d) HPG.out ?q6 ?q7 ?_); (case q1 => rfl); (case q2 => rfl); (case q3 => rfl); (case q4 => rfl); (case q5 => rfl); (case q6 => rw [pagesL_len]; omega); (case q7 => rw [pagesL_len]; omega); intro g2 c2 cur w2 hh2 hcur hc2 hm2 hg2 hb2; have y3 := (hb2.block _ (heapLt HX3.out)).trans HX3.out; have y6 := (hb2.block _ (heapLt HX6.out)).trans HX6.out; have e0 := cell_of_row w2 _ 0 _ _ _ y3; have e1 := cell_of_row w2 _ 1 _ _ _ y3; have e2 := cell_of_row w2 _ 2 _ _ _ y3; have e3 := cell_of_row w2 _ 3 _ _ _ y3; have e4 := cell_of_row w2 _ 4 _ _ _ y3; simp only [refC, List.getElem?_toArray, List.getElem?_cons_zero, List.getElem?_cons_succ] at e0 e1 e2 e3 e4; have z0 := frozen_of_row w2 _ 0 _ _ y3; have z1 := frozen_of_row w2 _ 1 _ _ y3; have z4 := frozen_of_row w2 _ 4 _ _ y3; have k0 := cell_of_row w2 _ 0 _ _ _ y6; have k1 := cell_of_row w2 _ 1 _ _ _ y6; have k2 := cell_of_row w2 _ 2 _ _ _ y6; have k3 := cell_of_row w2 _ 3 _ _ _ y6; have k4 := cell_of_row w2 _ 4 _ _ _ y6; simp only [List.getElem?_toArray, List.getElem?_cons_zero, List.getElem?_cons_succ] at k0 k1 k2 k3 k4; have m0 := frozen_of_row w2 _ 0 _ _ y6; have m1 := frozen_of_row w2 _ 1 _ _ y6; have m2 := frozen_of_row w2 _ 2 _ _ y6; have m3 := frozen_of_row w2 _ 3 _ _ y6; have m4 := frozen_of_row w2 _ 4 _ _ y6; have rk := cell_of_row w2 g2 k _ _ _ hh2; rw [hcur k (by rw [pagesL_len]; exact hkm)] at rk; have rf := frozen_of_row w2 g2 k _ _ hh2; have n3 : ¬ g2 = w.heap.size := (by have := heapLt HX3.out; omega); have n6 : ¬ g2 = w.heap.size + 1 := (by have := heapLt HX6.out; omega); have n3' : ¬ w.heap.size = g2 := (by omega); have n6' : ¬ w.heap.size + 1 = g2 := (by omega); have HY6 := Lib.hid y6; have HH2 := Lib.hid hh2; have HC2 := Lib.hid (And.intro hcur (And.intro hc2 (And.intro hm2 hg2))); have HB2 := Lib.hid hb2; clear y3 y6 hh2 hcur hc2 hm2 hg2 hb2; (try simp only [Act.put, List.setIfInBounds_toArray, List.set_cons_zero, List.set_cons_succ])))
    have hw3 : Below w.heap.size w ((((w2.setCell ⟨g2, k, none⟩ (.string s)).setCell ⟨w.heap.size, 0, none⟩ (.slice (some ⟨g2, 0, none⟩) d.many c2)).setCell ⟨w.heap.size, 4, none⟩ (.int .i64 (d.writes + 1))).setCell ⟨w.heap.size, 1, none⟩ (.int .i64 (d.after - 1))) :=
      ((((HB1.out.trans (HB2.out.mono HB1.out.size)).setCell (p := ⟨g2, k, none⟩) (by have := HC2.out.2.2.2; have := HB1.out.size; simp; omega) _).setCell (p := ⟨w.heap.size, 0, none⟩) (Nat.le_refl _) _).setCell (p := ⟨w.heap.size, 4, none⟩) (Nat.le_refl _) _).setCell (p := ⟨w.heap.size, 1, none⟩) (Nat.le_refl _) _
    have hw6 : ((((w2.setCell ⟨g2, k, none⟩ (.string s)).setCell ⟨w.heap.size, 0, none⟩ (.slice (some ⟨g2, 0, none⟩) d.many c2)).setCell ⟨w.heap.size, 4, none⟩ (.int .i64 (d.writes + 1))).setCell ⟨w.heap.size, 1, none⟩ (.int .i64 (d.after - 1))).heap[w.heap.size + 1]? = some (.cells #[.slice none 0 0, .int .i64 0, .int .i64 0, .bool false, .int .i64 0] 28 (0, 0)) := by
      rw [heap_setCell_other _ _ _ _ (by simp), heap_setCell_other _ _ _ _ (by simp), heap_setCell_other _ _ _ _ (by simp), heap_setCell_other _ _ _ _ (fun e => n6 e.symm)]
      exact HY6.out
    have hwg : ((((w2.setCell ⟨g2, k, none⟩ (.string s)).setCell ⟨w.heap.size, 0, none⟩ (.slice (some ⟨g2, 0, none⟩) d.many c2)).setCell ⟨w.heap.size, 4, none⟩ (.int .i64 (d.writes + 1))).setCell ⟨w.heap.size, 1, none⟩ (.int .i64 (d.after - 1))).heap[g2]? = some (.cells (cur.setIfInBounds k (.string ⟨T.toArray⟩)) 9 (0, 0)) := by
      rw [heap_setCell_other _ _ _ _ n3, heap_setCell_other _ _ _ _ n3, heap_setCell_other _ _ _ _ n3, heap_setCell_same w2 g2 k _ _ _ HH2.out, HST.out]
    obtain ⟨q1, q2, q3⟩ := wrote_post (d' := writeD d k T) (tr := tr) hw3 (b := w.heap.size + 1) (by omega) hw6 hwg n6 HC2.out.1 hkm (by rw [HWD.out]; rfl) HS.out HC2.out.2.1 HC2.out.2.2.1 (by rw [HWD.out]; intro hx; exact HTR.out hset)
      (.slice (some ⟨g2, 0, none⟩) d.many c2) (.int .i64 (d.after - 1)) (.int .i64 tr) (.bool d.dead) (.int .i64 (d.writes + 1)) (by rw [HWD.out]; simp [refC, aftR, hset, DiskV.lay])
    exact bodyPost_ret (results_cell_of2 rfl _ _ (w.heap.size + 1) _ _ rfl rfl (load_ref _ _ _ rfl _ _ q1)) rfl ⟨g2, c2, tr, rfl, q2, q3⟩
  · have haf : aftR d = -1 := by unfold aftR; rw [if_neg (by simp [hset])]
    rw [haf] at HR ⊢
    clear hf hT hs hr hw
    go_enter Try.func44, Try.ntmps44
    go_wp2_with (first
      | (go_at_call 67; refine HR.out.mono ?_; rintro e w1 ⟨rfl, hx3, hx6, hri, hb1⟩; have c0 := cell_of_row w1 _ 0 _ _ _ hx3; have c1 := cell_of_row w1 _ 1 _ _ _ hx3; have c2 := cell_of_row w1 _ 2 _ _ _ hx3; have c3 := cell_of_row w1 _ 3 _ _ _ hx3; have c4 := cell_of_row w1 _ 4 _ _ _ hx3; simp only [refC, List.getElem?_toArray, List.getElem?_cons_zero, List.getElem?_cons_succ] at c0 c1 c2 c3 c4; have c0a : ∀ x, (w1.alloc x).cell? ⟨w.heap.size, 0, none⟩ = some (.slice (some ⟨g, 0, none⟩) d.many c) := fun x => (((Below.refl w1.heap.size w1).alloc (Nat.le_refl _) x).cell (heapLt hx3)).trans c0; have HX3 := Lib.hid hx3; have HX6 := Lib.hid hx6; have HPG : Hid (Pgs w1 g (pagesL d)) := Lib.hid hri.1; have HRI := Lib.hid hri; have HB1 := Lib.hid hb1; clear hx3 hx6 hri hb1)
      | ((with_reducible refine wpList_copy_row (o := ⟨some 28, _, _, _, _, _⟩) ?q1 (.tmp 25) (.tmp 27) ?q2 w1 ?q3 ?q4 g c d.many (pagesL d) ?q5 (pagesL_len d) HPG.out ?q6 ?q7 ?_); (case q1 => rfl); (case q2 => rfl); (case q3 => rfl); (case q4 => rfl); (case q5 => rfl); (case q6 => rw [pagesL_len]; omega); (case q7 => rw [pagesL_len]; omega); intro g2 c2 cur w2 hh2 hcur hc2 hm2 hg2 hb2; have y3 := (hb2.block _ (heapLt HX3.out)).trans HX3.out; have y6 := (hb2.block _ (heapLt HX6.out)).trans HX6.out; have e0 := cell_of_row w2 _ 0 _ _ _ y3; have e1 := cell_of_row w2 _ 1 _ _ _ y3; have e2 := cell_of_row w2 _ 2 _ _ _ y3; have e3 := cell_of_row w2 _ 3 _ _ _ y3; have e4 := cell_of_row w2 _ 4 _ _ _ y3; simp only [refC, List.getElem?_toArray, List.getElem?_cons_zero, List.getElem?_cons_succ] at e0 e1 e2 e3 e4; have z0 := frozen_of_row w2 _ 0 _ _ y3; have z1 := frozen_of_row w2 _ 1 _ _ y3; have z4 := frozen_of_row w2 _ 4 _ _ y3; have k0 := cell_of_row w2 _ 0 _ _ _ y6; have k1 := cell_of_row w2 _ 1 _ _ _ y6; have k2 := cell_of_row w2 _ 2 _ _ _ y6; have k3 := cell_of_row w2 _ 3 _ _ _ y6; have k4 := cell_of_row w2 _ 4 _ _ _ y6; simp only [List.getElem?_toArray, List.getElem?_cons_zero, List.getElem?_cons_succ] at k0 k1 k2 k3 k4; have m0 := frozen_of_row w2 _ 0 _ _ y6; have m1 := frozen_of_row w2 _ 1 _ _ y6; have m2 := frozen_of_row w2 _ 2 _ _ y6; have m3 := frozen_of_row w2 _ 3 _ _ y6; have m4 := frozen_of_row w2 _ 4 _ _ y6; have rk := cell_of_row w2 g2 k _ _ _ hh2; rw [hcur k (by rw [pagesL_len]; exact hkm)] at rk; have rf := frozen_of_row w2 g2 k _ _ hh2; have n3 : ¬ g2 = w.heap.size := (by have := heapLt HX3.out; omega); have n6 : ¬ g2 = w.heap.size + 1 := (by have := heapLt HX6.out; omega); have n3' : ¬ w.heap.size = g2 := (by omega); have n6' : ¬ w.heap.size + 1 = g2 := (by omega); have HY6 := Lib.hid y6; have HH2 := Lib.hid hh2; have HC2 := Lib.hid (And.intro hcur (And.intro hc2 (And.intro hm2 hg2))); have HB2 := Lib.hid hb2; clear y3 y6 hh2 hcur hc2 hm2 hg2 hb2; (try simp only [Act.put, List.setIfInBounds_toArray, List.set_cons_zero, List.set_cons_succ])))
    have hw3 : Below w.heap.size w (((w2.setCell ⟨g2, k, none⟩ (.string s)).setCell ⟨w.heap.size, 0, none⟩ (.slice (some ⟨g2, 0, none⟩) d.many c2)).setCell ⟨w.heap.size, 4, none⟩ (.int .i64 (d.writes + 1))) :=
      (((HB1.out.trans (HB2.out.mono HB1.out.size)).setCell (p := ⟨g2, k, none⟩) (by have := HC2.out.2.2.2; have := HB1.out.size; simp; omega) _).setCell (p := ⟨w.heap.size, 0, none⟩) (Nat.le_refl _) _).setCell (p := ⟨w.heap.size, 4, none⟩) (Nat.le_refl _) _
    have hw6 : (((w2.setCell ⟨g2, k, none⟩ (.string s)).setCell ⟨w.heap.size, 0, none⟩ (.slice (some ⟨g2, 0, none⟩) d.many c2)).setCell ⟨w.heap.size, 4, none⟩ (.int .i64 (d.writes + 1))).heap[w.heap.size + 1]? = some (.cells #[.slice none 0 0, .int .i64 0, .int .i64 0, .bool false, .int .i64 0] 28 (0, 0)) := by
      rw [heap_setCell_other _ _ _ _ (by simp), heap_setCell_other _ _ _ _ (by simp), heap_setCell_other _ _ _ _ (fun e => n6 e.symm)]
      exact HY6.out
    have hwg : (((w2.setCell ⟨g2, k, none⟩ (.string s)).setCell ⟨w.heap.size, 0, none⟩ (.slice (some ⟨g2, 0, none⟩) d.many c2)).setCell ⟨w.heap.size, 4, none⟩ (.int .i64 (d.writes + 1))).heap[g2]? = some (.cells (cur.setIfInBounds k (.string ⟨T.toArray⟩)) 9 (0, 0)) := by
      rw [heap_setCell_other _ _ _ _ n3, heap_setCell_other _ _ _ _ n3, heap_setCell_same w2 g2 k _ _ _ HH2.out, HST.out]
    obtain ⟨q1, q2, q3⟩ := wrote_post (d' := writeD d k T) (tr := tr) hw3 (b := w.heap.size + 1) (by omega) hw6 hwg n6 HC2.out.1 hkm (by rw [HWD.out]; rfl) HS.out HC2.out.2.1 HC2.out.2.2.1 (by rw [HWD.out]; intro hx; exact absurd (show d.set = true from hx) (by simp [hset]))
      (.slice (some ⟨g2, 0, none⟩) d.many c2) (.int .i64 (-1)) (.int .i64 tr) (.bool d.dead) (.int .i64 (d.writes + 1)) (by rw [HWD.out]; simp [refC, aftR, hset, DiskV.lay])
    exact bodyPost_ret (results_cell_of2 rfl _ _ (w.heap.size + 1) _ _ rfl rfl (load_ref _ _ _ rfl _ _ q1)) rfl ⟨g2, c2, tr, rfl, q2, q3⟩
end Go.Proofs.Ytfjejiapafdgeaa
