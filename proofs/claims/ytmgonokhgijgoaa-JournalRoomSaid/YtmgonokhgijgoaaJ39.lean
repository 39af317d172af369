/- The document's own disk: written, where it is written. The document's own disk: written, where the fuse cuts it. -/
import Derived.Test.YtmgonokhgijgoaaJ38
import Derived.Deep.RegionHeld3
import Derived.Test.YtmgonokhgijgoaaJ7
namespace Go.Proofs.Ytmgonokhgijgoaa
open Go.RowKit
set_option maxRecDepth 100000

theorem row_put {w : World} {g : Nat} {L : List ByteArray} {cur : Array Value} {t : TypeId} {fr : Nat × Nat} (k : Nat) (s : ByteArray) (hg : w.heap[g]? = some (.cells (cur.setIfInBounds k (.string s)) t fr)) (hc : ∀ i (h : i < L.length), cur[i]? = some (.string L[i])) (L' : List ByteArray) (hl : L'.length = L.length)
    (hL : ∀ i (h : i < L'.length), L'[i] = if i = k then s else L[i]'(by omega)) (hk : k < L.length) : Pgs w g L' := by
  refine ⟨heapLt hg, fun i hi => ?_⟩
  have h1 : w.cell? ⟨g, i, none⟩ = (cur.setIfInBounds k (.string s))[i]? := cell_of_row w g i _ _ _ hg
  rw [h1, hL i hi]
  have h2 := hc i (by omega)
  have hsz : i < cur.size := (Array.getElem?_eq_some_iff.1 h2).1
  by_cases e : i = k
  · subst e
    simp [hsz]
  · rw [if_neg e, Array.getElem?_setIfInBounds_ne (fun h => e h.symm)]
    exact h2

theorem over_all {l m : Text} (hl : l.length = 64) (hm : m.length = 64) : overP l m = m := by
  unfold overP
  rw [List.take_of_length_le (by omega), hm, List.drop_eq_nil_of_le (by omega), List.append_nil]
theorem wrote_post {w W3 : World} {b g2 c2 k : Nat} {cur : Array Value} {x0 x1 x2 x3 x4 : Value} {t T5 : TypeId} {fr : Nat × Nat} {d d' : DiskV} {T : Text} {tr : Int} (hb : Below w.heap.size w W3) (hB : w.heap.size ≤ b) (h6 : W3.heap[b]? = some (.cells #[x0, x1, x2, x3, x4] T5 (0, 0)))
    (hg : W3.heap[g2]? = some (.cells (cur.setIfInBounds k (.string ⟨T.toArray⟩)) t fr)) (hne : g2 ≠ b) (hc : ∀ i (h : i < (pagesL d).length), cur[i]? = some (.string (pagesL d)[i])) (hk : k < d.many) (hm : d'.many = d.many) (hS : ∀ i, d'.S i = if i = k then T else d.S i) (hc2 : d.many ≤ c2) (hm2 : c2 ≤ maxLen) (htr : d'.set = true → tr = d'.torn)
    (v0 v1 v2 v3 v4 : Value) (hv : #[v0, v1, v2, v3, v4] = (refC g2 c2 d'.many (aftR d') tr d'.dead d'.writes).toArray) :
    ((((((W3.setCell ⟨b, 0, none⟩ v0).setCell ⟨b, 1, none⟩ v1).setCell ⟨b, 2, none⟩ v2).setCell ⟨b, 3, none⟩ v3).setCell ⟨b, 4, none⟩ v4).heap[b]? = some (.cells (refC g2 c2 d'.many (aftR d') tr d'.dead d'.writes).toArray T5 (0, 0))) ∧
    RefIs (((((W3.setCell ⟨b, 0, none⟩ v0).setCell ⟨b, 1, none⟩ v1).setCell ⟨b, 2, none⟩ v2).setCell ⟨b, 3, none⟩ v3).setCell ⟨b, 4, none⟩ v4) g2 c2 tr d' ∧
    Below w.heap.size w (((((W3.setCell ⟨b, 0, none⟩ v0).setCell ⟨b, 1, none⟩ v1).setCell ⟨b, 2, none⟩ v2).setCell ⟨b, 3, none⟩ v3).setCell ⟨b, 4, none⟩ v4) := by
  have h1 : Pgs W3 g2 (pagesL d') := row_put (L := pagesL d) k ⟨T.toArray⟩ hg hc (pagesL d') (by rw [pagesL_len, pagesL_len, hm]) (fun i hi => by
    rw [pagesL_at, pagesL_at, hS i]
    by_cases e : i = k
    · rw [if_pos e, if_pos e]
    · rw [if_neg e, if_neg e]) (by rw [pagesL_len]; exact hk)
  have h2 : RefIs W3 g2 c2 tr d' := ⟨h1, by rw [hm]; exact hc2, hm2, htr⟩
  refine ⟨?_, h2.set5 hne _ _ _ _ _, set_below5 hb hB _ _ _ _ _⟩
  rw [set_struct5 h6, hv]
set_option maxHeartbeats 2000000 in
theorem ref_write_on (w : World) (g c : Nat) (tr : Int) (d : DiskV) (k : Nat) (s : ByteArray) (h : RefIs w g c tr d) (ho : OkD d) (hw : d.writes < 9223372036854775807) (hm : d.many ≤ 1000) (hr : reachV d k = 0) (hs : s.size = 64) (hf : ¬ (d.set = true ∧ d.after = 0)) (T : Text) (hT : s = ⟨T.toArray⟩) (hSk : (d.S k).length = 64) :
    Calls Try.prog 44 #[refV g c tr d, .int .i64 k, .string s] w (WroteR w (writeD d k T) 0) := by
  have HE : Hid (Value.agg (refC g c d.many (aftR d) tr d.dead d.writes).toArray = refV g c tr d) := Lib.hid (by simp [refC, refV])
  obtain ⟨w0, hw0⟩ : ∃ w0, w0 = (w.alloc (.cells (refC g c d.many (aftR d) tr d.dead d.writes).toArray 28)).alloc (.cells #[.slice none 0 0, .int .i64 0, .int .i64 0, .bool false, .int .i64 0] 28) := ⟨_, rfl⟩
  have hb0 : Below w.heap.size w w0 := by rw [hw0]; exact ((Below.refl _ w).alloc (Nat.le_refl _) _).alloc (by simp) _
  have hx3 : w0.heap[w.heap.size]? = some (.cells (refC g c d.many (aftR d) tr d.dead d.writes).toArray 28 (0, 0)) := by rw [hw0, Below.heap_alloc _ _ _ (by simp)]; exact heap_alloc_new w _
  have hx6 : w0.heap[w.heap.size + 1]? = some (.cells #[.slice none 0 0, .int .i64 0, .int .i64 0, .bool false, .int .i64 0] 28 (0, 0)) := by
    rw [hw0]
    have := heap_alloc_new (w.alloc (.cells (refC g c d.many (aftR d) tr d.dead d.writes).toArray 28)) (.cells #[.slice none 0 0, .int .i64 0, .int .i64 0, .bool false, .int .i64 0] 28)
    rwa [World.size_alloc] at this
  have hsz : w0.heap.size = w.heap.size + 2 := by rw [hw0]; simp
  have HR : Hid (Calls Try.prog 67 #[refV g c tr d, .int .i64 (k : Int)] w0 fun e w' => e = .returned (.tuple #[.string (readS d (k : Int)), .int .i64 (reachV d (k : Int))]) ∧ (w'.heap[w.heap.size]? = some (.cells (refC g c d.many (aftR d) tr d.dead d.writes).toArray 28 (0, 0)) ∧
      w'.heap[w.heap.size + 1]? = some (.cells #[.slice none 0 0, .int .i64 0, .int .i64 0, .bool false, .int .i64 0] 28 (0, 0)) ∧ RefIs w' g c tr d ∧ Below w.heap.size w w')) := Lib.hid ((ref_read w0 g c tr d k (h.below hb0)).mono fun e w' ⟨q1, q2⟩ =>
        ⟨q1, (q2.block _ (by omega)).trans hx3, (q2.block _ (by omega)).trans hx6, (h.below hb0).below q2, hb0.trans (q2.mono (by omega))⟩)
  have HG : Hid (g ≠ w.heap.size + 1) := Lib.hid (by have := h.1.1; omega)
  unfold refV at HR ⊢
  rw [hw0] at HR
  rw [hr] at HR
  generalize readS d (k : Int) = rs at *
  have hkm : k < d.many := by have := (reach_ok hr).2.1; omega
  have hkm' : (k : Int) < (d.many : Int) := by omega
  have hs' : (s.size : Int) = 64 := by omega
  have hw1 : d.writes + 1 ≤ 9223372036854775807 := by omega
  obtain ⟨o1, o2, o3, o4, o5⟩ := ho
  have HWD : Hid (writeD d k T = { d.lay k T with writes := d.writes + 1, after := if d.set = true then d.after - 1 else d.after }) := Lib.hid (by
    unfold writeD
    have : T.length = 64 := by rw [hT] at hs; exact hs
    rw [if_neg (by omega), if_neg (by omega), if_neg hf, Int.toNat_natCast])
  have hTl : T.length = 64 := by rw [hT] at hs; exact hs
  have HS : Hid (∀ i, (writeD d k T).S i = if i = k then T else d.S i) := Lib.hid (fun i => by
    rw [HWD.out]
    show (if i = k then overP (d.S k) T else d.S i) = _
    rw [over_all hSk hTl])
  have HST := Lib.hid hT
  have HTR := Lib.hid h.2.2.2
  clear hw0 hb0 hx3 hx6 hsz h
  rcases Bool.eq_false_or_eq_true d.set with hset | hset
  · have haf : aftR d = d.after := by unfold aftR; rw [if_pos hset]
    rw [haf] at HR ⊢
    have hn0 : ¬ d.after = 0 := fun e => hf ⟨hset, e⟩
    have hb0 : (d.after == 0) = false := by simpa using hn0
    have ha1 : 0 < d.after := by omega
    clear hf hT hs hr hw
    go_enter Try.func44, Try.ntmps44
    go_wp2_with (first
      | (go_at_call 67; refine HR.out.mono ?_; rintro e w1 ⟨rfl, hx3, hx6, hri, hb1⟩; have c0 := cell_of_row w1 _ 0 _ _ _ hx3; have c1 := cell_of_row w1 _ 1 _ _ _ hx3; have c2 := cell_of_row w1 _ 2 _ _ _ hx3; have c3 := cell_of_row w1 _ 3 _ _ _ hx3; have c4 := cell_of_row w1 _ 4 _ _ _ hx3; simp only [refC, List.getElem?_toArray, List.getElem?_cons_zero, List.getElem?_cons_succ] at c0 c1 c2 c3 c4; have c0a : ∀ x, (w1.alloc x).cell? ⟨w.heap.size, 0, none⟩ = some (.slice (some ⟨g, 0, none⟩) d.many c) := fun x => (((Below.refl w1.heap.size w1).alloc (Nat.le_refl _) x).cell (heapLt hx3)).trans c0; have HX3 := Lib.hid hx3; have HX6 := Lib.hid hx6; have HPG : Hid (Pgs w1 g (pagesL d)) := Lib.hid hri.1; have HRI := Lib.hid hri; have HB1 := Lib.hid hb1; clear hx3 hx6 hri hb1)
      | ((with_reducible refine wpList_copy_row (o := ⟨some 28, _, _, _, _, _⟩) ?q1 (.tmp 25) (.tmp 27) ?q2 w1 ?q3 ?q4 g c d.many (pagesL d) ?q5 (pagesL_len d) HPG.out ?q6 ?q7 ?_); (case q1 => rfl); (case q2 => rfl); (case q3 => rfl); (case q4 => rfl); (case q5 => rfl); (case q6 => rw [pagesL_len]; omega); (case q7 => rw [pagesL_len]; omega); intro g2 c2 cur w2 hh2 hcur hc2 hm2 hg2 hb2; have y3 := (hb2.block _ (heapLt HX3.out)).trans HX3.out; have y6 := (hb2.block _ (heapLt HX6.out)).trans HX6.out; have e0 := cell_of_row w2 _ 0 _ _ _ y3; have e1 := cell_of_row w2 _ 1 _ _ _ y3; have e2 := cell_of_row w2 _ 2 _ _ _ y3; have e3 := cell_of_row w2 _ 3 _ _ _ y3; have e4 := cell_of_row w2 _ 4 _ _ _ y3; simp only [refC, List.getElem?_toArray, List.getElem?_cons_zero, List.getElem?_cons_succ] at e0 e1 e2 e3 e4; have z0 := frozen_of_row w2 _ 0 _ _ y3; have z1 := frozen_of_row w2 _ 1 _ _ y3; have z4 := frozen_of_row w2 _ 4 _ _ y3; have k0 := cell_of_row w2 _ 0 _ _ _ y6; have k1 := cell_of_row w2 _ 1 _ _ _ y6; have k2 := cell_of_row w2 _ 2 _ _ _ y6; have k3 := cell_of_row w2 _ 3 _ _ _ y6; have k4 := cell_of_row w2 _ 4 _ _ _ y6; simp only [List.getElem?_toArray, List.getElem?_cons_zero, List.getElem?_cons_succ] at k0 k1 k2 k3 k4; have m0 := frozen_of_row w2 _ 0 _ _ y6; have m1 := frozen_of_row w2 _ 1 _ _ y6; have m2 := frozen_of_row w2 _ 2 _ _ y6; have m3 := frozen_of_row w2 _ 3 _ _ y6; have m4 := frozen_of_row w2 _ 4 _ _ y6; have rk := cell_of_row w2 g2 k _ _ _ hh2; rw [hcur k (by rw [pagesL_len]; exact hkm)] at rk; have rf := frozen_of_row w2 g2 k _ _ hh2; have n3 : ¬ g2 = w.heap.size := (by have := heapLt HX3.out; omega); have n6 : ¬ g2 = w.heap.size + 1 := (by have := heapLt HX6.out; omega); have n3' : ¬ w.heap.size = g2 := (by omega); have n6' : ¬ w.heap.size + 1 = g2 := (by omega); have HY6 := Lib.hid y6; have HH2 := Lib.hid hh2; have HC2 := Lib.hid (And.intro hcur (And.intro hc2 (And.intro hm2 hg2))); have HB2 := Lib.hid hb2; clear y3 y6 hh2 hcur hc2 hm2 hg2 hb2; (try simp only [Act.put, List.setIfInBounds_toArray, List.set_cons_zero, List.set_cons_succ])))
    have hw3 : Below w.heap.size w ((((w2.setCell ⟨g2, k, none⟩ (.string s)).setCell ⟨w.heap.size, 0, none⟩ (.slice (some ⟨g2, 0, none⟩) d.many c2)).setCell ⟨w.heap.size, 4, none⟩ (.int .i64 (d.writes + 1))).setCell ⟨w.heap.size, 1, none⟩ (.int .i64 (d.after - 1))) :=
      ((((HB1.out.trans (HB2.out.mono HB1.out.size)).setCell (p := ⟨g2, k, none⟩) (by have := HC2.out.2.2.2; have := HB1.out.size; simp; omega) _).setCell (p := ⟨w.heap.size, 0, none⟩) (Nat.le_refl _) _).setCell (p := ⟨w.heap.size, 4, none⟩) (Nat.le_refl _) _).setCell (p := ⟨w.heap.size, 1, none⟩) (Nat.le_refl _) _
    have hw6 : ((((w2.setCell ⟨g2, k, none⟩ (.string s)).setCell ⟨w.heap.size, 0, none⟩ (.slice (some ⟨g2, 0, none⟩) d.many c2)).setCell ⟨w.heap.size, 4, none⟩ (.int .i64 (d.writes + 1))).setCell ⟨w.heap.size, 1, none⟩ (.int .i64 (d.after - 1))).heap[w.heap.size + 1]? = some (.cells #[.slice none 0 0, .int .i64 0, .int .i64 0, .bool false, .int .i64 0] 28 (0, 0)) := by
      rw [heap_setCell_other _ _ _ _ (by simp), heap_setCell_other _ _ _ _ (by simp), heap_setCell_other _ _ _ _ (by simp), heap_setCell_other _ _ _ _ (fun e => n6 e.symm)]
      exact HY6.out
    have hwg : ((((w2.setCell ⟨g2, k, none⟩ (.string s)).setCell ⟨w.heap.size, 0, none⟩ (.slice (some ⟨g2, 0, none⟩) d.many c2)).setCell ⟨w.heap.size, 4, none⟩ (.int .i64 (d.writes + 1))).setCell ⟨w.heap.size, 1, none⟩ (.int .i64 (d.after - 1))).heap[g2]? = some (.cells (cur.setIfInBounds k (.string ⟨T.toArray⟩)) 9 (0, 0)) := by
      rw [heap_setCell_other _ _ _ _ n3, heap_setCell_other _ _ _ _ n3, heap_setCell_other _ _ _ _ n3, heap_setCell_same w2 g2 k _ _ _ HH2.out, HST.out]
    obtain ⟨q1, q2, q3⟩ := wrote_post (d' := writeD d k T) (tr := tr) hw3 (b := w.heap.size + 1) (by omega) hw6 hwg n6 HC2.out.1 hkm (by rw [HWD.out]; rfl) HS.out HC2.out.2.1 HC2.out.2.2.1 (by rw [HWD.out]; intro hx; exact HTR.out hset)
      (.slice (some ⟨g2, 0, none⟩) d.many c2) (.int .i64 (d.after - 1)) (.int .i64 tr) (.bool d.dead) (.int .i64 (d.writes + 1)) (by rw [HWD.out]; simp [refC, aftR, hset, DiskV.lay])
    exact bodyPost_ret (results_cell_of2 rfl _ _ (w.heap.size + 1) _ _ rfl rfl (load_ref _ _ _ rfl _ _ q1)) rfl ⟨g2, c2, tr, rfl, q2, q3⟩
  · have haf : aftR d = -1 := by unfold aftR; rw [if_neg (by simp [hset])]
    rw [haf] at HR ⊢
    clear hf hT hs hr hw
    go_enter Try.func44, Try.ntmps44
    go_wp2_with (first
      | (go_at_call 67; refine HR.out.mono ?_; rintro e w1 ⟨rfl, hx3, hx6, hri, hb1⟩; have c0 := cell_of_row w1 _ 0 _ _ _ hx3; have c1 := cell_of_row w1 _ 1 _ _ _ hx3; have c2 := cell_of_row w1 _ 2 _ _ _ hx3; have c3 := cell_of_row w1 _ 3 _ _ _ hx3; have c4 := cell_of_row w1 _ 4 _ _ _ hx3; simp only [refC, List.getElem?_toArray, List.getElem?_cons_zero, List.getElem?_cons_succ] at c0 c1 c2 c3 c4; have c0a : ∀ x, (w1.alloc x).cell? ⟨w.heap.size, 0, none⟩ = some (.slice (some ⟨g, 0, none⟩) d.many c) := fun x => (((Below.refl w1.heap.size w1).alloc (Nat.le_refl _) x).cell (heapLt hx3)).trans c0; have HX3 := Lib.hid hx3; have HX6 := Lib.hid hx6; have HPG : Hid (Pgs w1 g (pagesL d)) := Lib.hid hri.1; have HRI := Lib.hid hri; have HB1 := Lib.hid hb1; clear hx3 hx6 hri hb1)
      | ((with_reducible refine wpList_copy_row (o := ⟨some 28, _, _, _, _, _⟩) ?q1 (.tmp 25) (.tmp 27) ?q2 w1 ?q3 ?q4 g c d.many (pagesL d) ?q5 (pagesL_len d) HPG.out ?q6 ?q7 ?_); (case q1 => rfl); (case q2 => rfl); (case q3 => rfl); (case q4 => rfl); (case q5 => rfl); (case q6 => rw [pagesL_len]; omega); (case q7 => rw [pagesL_len]; omega); intro g2 c2 cur w2 hh2 hcur hc2 hm2 hg2 hb2; have y3 := (hb2.block _ (heapLt HX3.out)).trans HX3.out; have y6 := (hb2.block _ (heapLt HX6.out)).trans HX6.out; have e0 := cell_of_row w2 _ 0 _ _ _ y3; have e1 := cell_of_row w2 _ 1 _ _ _ y3; have e2 := cell_of_row w2 _ 2 _ _ _ y3; have e3 := cell_of_row w2 _ 3 _ _ _ y3; have e4 := cell_of_row w2 _ 4 _ _ _ y3; simp only [refC, List.getElem?_toArray, List.getElem?_cons_zero, List.getElem?_cons_succ] at e0 e1 e2 e3 e4; have z0 := frozen_of_row w2 _ 0 _ _ y3; have z1 := frozen_of_row w2 _ 1 _ _ y3; have z4 := frozen_of_row w2 _ 4 _ _ y3; have k0 := cell_of_row w2 _ 0 _ _ _ y6; have k1 := cell_of_row w2 _ 1 _ _ _ y6; have k2 := cell_of_row w2 _ 2 _ _ _ y6; have k3 := cell_of_row w2 _ 3 _ _ _ y6; have k4 := cell_of_row w2 _ 4 _ _ _ y6; simp only [List.getElem?_toArray, List.getElem?_cons_zero, List.getElem?_cons_succ] at k0 k1 k2 k3 k4; have m0 := frozen_of_row w2 _ 0 _ _ y6; have m1 := frozen_of_row w2 _ 1 _ _ y6; have m2 := frozen_of_row w2 _ 2 _ _ y6; have m3 := frozen_of_row w2 _ 3 _ _ y6; have m4 := frozen_of_row w2 _ 4 _ _ y6; have rk := cell_of_row w2 g2 k _ _ _ hh2; rw [hcur k (by rw [pagesL_len]; exact hkm)] at rk; have rf := frozen_of_row w2 g2 k _ _ hh2; have n3 : ¬ g2 = w.heap.size := (by have := heapLt HX3.out; omega); have n6 : ¬ g2 = w.heap.size + 1 := (by have := heapLt HX6.out; omega); have n3' : ¬ w.heap.size = g2 := (by omega); have n6' : ¬ w.heap.size + 1 = g2 := (by omega); have HY6 := Lib.hid y6; have HH2 := Lib.hid hh2; have HC2 := Lib.hid (And.intro hcur (And.intro hc2 (And.intro hm2 hg2))); have HB2 := Lib.hid hb2; clear y3 y6 hh2 hcur hc2 hm2 hg2 hb2; (try simp only [Act.put, List.setIfInBounds_toArray, List.set_cons_zero, List.set_cons_succ])))
    have hw3 : Below w.heap.size w (((w2.setCell ⟨g2, k, none⟩ (.string s)).setCell ⟨w.heap.size, 0, none⟩ (.slice (some ⟨g2, 0, none⟩) d.many c2)).setCell ⟨w.heap.size, 4, none⟩ (.int .i64 (d.writes + 1))) :=
      (((HB1.out.trans (HB2.out.mono HB1.out.size)).setCell (p := ⟨g2, k, none⟩) (by have := HC2.out.2.2.2; have := HB1.out.size; simp; omega) _).setCell (p := ⟨w.heap.size, 0, none⟩) (Nat.le_refl _) _).setCell (p := ⟨w.heap.size, 4, none⟩) (Nat.le_refl _) _
    have hw6 : (((w2.setCell ⟨g2, k, none⟩ (.string s)).setCell ⟨w.heap.size, 0, none⟩ (.slice (some ⟨g2, 0, none⟩) d.many c2)).setCell ⟨w.heap.size, 4, none⟩ (.int .i64 (d.writes + 1))).heap[w.heap.size + 1]? = some (.cells #[.slice none 0 0, .int .i64 0, .int .i64 0, .bool false, .int .i64 0] 28 (0, 0)) := by
      rw [heap_setCell_other _ _ _ _ (by simp), heap_setCell_other _ _ _ _ (by simp), heap_setCell_other _ _ _ _ (fun e => n6 e.symm)]
      exact HY6.out
    have hwg : (((w2.setCell ⟨g2, k, none⟩ (.string s)).setCell ⟨w.heap.size, 0, none⟩ (.slice (some ⟨g2, 0, none⟩) d.many c2)).setCell ⟨w.heap.size, 4, none⟩ (.int .i64 (d.writes + 1))).heap[g2]? = some (.cells (cur.setIfInBounds k (.string ⟨T.toArray⟩)) 9 (0, 0)) := by
      rw [heap_setCell_other _ _ _ _ n3, heap_setCell_other _ _ _ _ n3, heap_setCell_same w2 g2 k _ _ _ HH2.out, HST.out]
    obtain ⟨q1, q2, q3⟩ := wrote_post (d' := writeD d k T) (tr := tr) hw3 (b := w.heap.size + 1) (by omega) hw6 hwg n6 HC2.out.1 hkm (by rw [HWD.out]; rfl) HS.out HC2.out.2.1 HC2.out.2.2.1 (by rw [HWD.out]; intro hx; exact absurd (show d.set = true from hx) (by simp [hset]))
      (.slice (some ⟨g2, 0, none⟩) d.many c2) (.int .i64 (-1)) (.int .i64 tr) (.bool d.dead) (.int .i64 (d.writes + 1)) (by rw [HWD.out]; simp [refC, aftR, hset, DiskV.lay])
    exact bodyPost_ret (results_cell_of2 rfl _ _ (w.heap.size + 1) _ _ rfl rfl (load_ref _ _ _ rfl _ _ q1)) rfl ⟨g2, c2, tr, rfl, q2, q3⟩
end Go.Proofs.Ytmgonokhgijgoaa

namespace Go.Proofs.Ytmgonokhgijgoaa
open Go.RowKit
set_option maxRecDepth 100000

set_option maxHeartbeats 2000000 in
theorem ref_write_cut (w : World) (g c : Nat) (tr : Int) (d : DiskV) (k : Nat) (s : ByteArray) (h : RefIs w g c tr d) (ho : OkD d) (hm : d.many ≤ 1000) (hr : reachV d k = 0) (hs : s.size = 64) (hf : d.set = true ∧ d.after = 0) (T : Text) (hT : s = ⟨T.toArray⟩) (hSk : (d.S k).length = 64) :
    Calls Try.prog 44 #[refV g c tr d, .int .i64 k, .string s] w (WroteR w (writeD d k T) 32) := by
  have HE : Hid (Value.agg (refC g c d.many (aftR d) tr d.dead d.writes).toArray = refV g c tr d) := Lib.hid (by simp [refC, refV])
  obtain ⟨w0, hw0⟩ : ∃ w0, w0 = (w.alloc (.cells (refC g c d.many (aftR d) tr d.dead d.writes).toArray 28)).alloc (.cells #[.slice none 0 0, .int .i64 0, .int .i64 0, .bool false, .int .i64 0] 28) := ⟨_, rfl⟩
  have hb0 : Below w.heap.size w w0 := by rw [hw0]; exact ((Below.refl _ w).alloc (Nat.le_refl _) _).alloc (by simp) _
  have hx3 : w0.heap[w.heap.size]? = some (.cells (refC g c d.many (aftR d) tr d.dead d.writes).toArray 28 (0, 0)) := by rw [hw0, Below.heap_alloc _ _ _ (by simp)]; exact heap_alloc_new w _
  have hx6 : w0.heap[w.heap.size + 1]? = some (.cells #[.slice none 0 0, .int .i64 0, .int .i64 0, .bool false, .int .i64 0] 28 (0, 0)) := by
    rw [hw0]
    have := heap_alloc_new (w.alloc (.cells (refC g c d.many (aftR d) tr d.dead d.writes).toArray 28)) (.cells #[.slice none 0 0, .int .i64 0, .int .i64 0, .bool false, .int .i64 0] 28)
    rwa [World.size_alloc] at this
  have hsz : w0.heap.size = w.heap.size + 2 := by rw [hw0]; simp
  have HR : Hid (Calls Try.prog 67 #[refV g c tr d, .int .i64 (k : Int)] w0 fun e w' => e = .returned (.tuple #[.string (readS d (k : Int)), .int .i64 (reachV d (k : Int))]) ∧ (w'.heap[w.heap.size]? = some (.cells (refC g c d.many (aftR d) tr d.dead d.writes).toArray 28 (0, 0)) ∧
      w'.heap[w.heap.size + 1]? = some (.cells #[.slice none 0 0, .int .i64 0, .int .i64 0, .bool false, .int .i64 0] 28 (0, 0)) ∧ RefIs w' g c tr d ∧ Below w.heap.size w w')) := Lib.hid ((ref_read w0 g c tr d k (h.below hb0)).mono fun e w' ⟨q1, q2⟩ =>
        ⟨q1, (q2.block _ (by omega)).trans hx3, (q2.block _ (by omega)).trans hx6, (h.below hb0).below q2, hb0.trans (q2.mono (by omega))⟩)
  have HG : Hid (g ≠ w.heap.size + 1) := Lib.hid (by have := h.1.1; omega)
  unfold refV at HR ⊢
  rw [hw0] at HR
  rw [hr] at HR
  generalize readS d (k : Int) = rs at *
  have hkm : k < d.many := by have := (reach_ok hr).2.1; omega
  have hkm' : (k : Int) < (d.many : Int) := by omega
  have hs' : (s.size : Int) = 64 := by omega
  obtain ⟨o1, o2, o3, o4, o5⟩ := ho
  have hTl : T.length = 64 := by rw [hT] at hs; exact hs
  have HTR := Lib.hid (h.2.2.2 hf.1)
  obtain ⟨t, htt⟩ : ∃ t : Nat, d.torn = (t : Int) := ⟨d.torn.toNat, by omega⟩
  have ht64 : (t : Int) ≤ 64 := by omega
  have HWD : Hid (writeD d k T = { d.lay k (T.take t) with dead := true, set := false, after := 0, torn := 0 }) := Lib.hid (by
    unfold writeD
    rw [if_neg (by omega), if_neg (by omega), if_pos hf, Int.toNat_natCast, htt, Int.toNat_natCast])
  obtain ⟨old, hold⟩ : ∃ old : ByteArray, old = ⟨(d.S k).toArray⟩ := ⟨_, rfl⟩
  have hos : old.size = 64 := by rw [hold]; exact hSk
  have HST := Lib.hid hT
  have HOLD := Lib.hid hold
  have haf : aftR d = 0 := by unfold aftR; rw [if_pos hf.1]; exact hf.2
  rw [haf] at HR ⊢
  have htr2 : tr = (t : Int) := by rw [HTR.out, htt]
  rw [htr2] at HR ⊢
  clear hw0 hb0 hx3 hx6 hsz h hT hr hs hold haf htr2
  go_enter Try.func44, Try.ntmps44
  go_wp2_with (first
    | (go_at_call 67; refine HR.out.mono ?_; rintro e w1 ⟨rfl, hx3, hx6, hri, hb1⟩; have c0 := cell_of_row w1 _ 0 _ _ _ hx3; have c1 := cell_of_row w1 _ 1 _ _ _ hx3; have c2 := cell_of_row w1 _ 2 _ _ _ hx3; have c3 := cell_of_row w1 _ 3 _ _ _ hx3; have c4 := cell_of_row w1 _ 4 _ _ _ hx3; simp only [refC, List.getElem?_toArray, List.getElem?_cons_zero, List.getElem?_cons_succ] at c0 c1 c2 c3 c4; have c0a : ∀ x, (w1.alloc x).cell? ⟨w.heap.size, 0, none⟩ = some (.slice (some ⟨g, 0, none⟩) d.many c) := fun x => (((Below.refl w1.heap.size w1).alloc (Nat.le_refl _) x).cell (heapLt hx3)).trans c0; have HX3 := Lib.hid hx3; have HX6 := Lib.hid hx6; have HPG : Hid (Pgs w1 g (pagesL d)) := Lib.hid hri.1; have HRI := Lib.hid hri; have HB1 := Lib.hid hb1; clear hx3 hx6 hri hb1)
    | ((with_reducible refine wpList_copy_row (o := ⟨some 28, _, _, _, _, _⟩) ?q1 (.tmp 25) (.tmp 27) ?q2 w1 ?q3 ?q4 g c d.many (pagesL d) ?q5 (pagesL_len d) HPG.out ?q6 ?q7 ?_); (case q1 => rfl); (case q2 => rfl); (case q3 => rfl); (case q4 => rfl); (case q5 => rfl); (case q6 => rw [pagesL_len]; omega); (case q7 => rw [pagesL_len]; omega); intro g2 c2 cur w2 hh2 hcur hc2 hm2 hg2 hb2; have y3 := (hb2.block _ (heapLt HX3.out)).trans HX3.out; have y6 := (hb2.block _ (heapLt HX6.out)).trans HX6.out; have e0 := cell_of_row w2 _ 0 _ _ _ y3; have e1 := cell_of_row w2 _ 1 _ _ _ y3; have e2 := cell_of_row w2 _ 2 _ _ _ y3; have e3 := cell_of_row w2 _ 3 _ _ _ y3; have e4 := cell_of_row w2 _ 4 _ _ _ y3; simp only [refC, List.getElem?_toArray, List.getElem?_cons_zero, List.getElem?_cons_succ] at e0 e1 e2 e3 e4; have z0 := frozen_of_row w2 _ 0 _ _ y3; have z1 := frozen_of_row w2 _ 1 _ _ y3; have z4 := frozen_of_row w2 _ 4 _ _ y3; have k0 := cell_of_row w2 _ 0 _ _ _ y6; have k1 := cell_of_row w2 _ 1 _ _ _ y6; have k2 := cell_of_row w2 _ 2 _ _ _ y6; have k3 := cell_of_row w2 _ 3 _ _ _ y6; have k4 := cell_of_row w2 _ 4 _ _ _ y6; simp only [List.getElem?_toArray, List.getElem?_cons_zero, List.getElem?_cons_succ] at k0 k1 k2 k3 k4; have m0 := frozen_of_row w2 _ 0 _ _ y6; have m1 := frozen_of_row w2 _ 1 _ _ y6; have m2 := frozen_of_row w2 _ 2 _ _ y6; have m3 := frozen_of_row w2 _ 3 _ _ y6; have m4 := frozen_of_row w2 _ 4 _ _ y6; have rk := cell_of_row w2 g2 k _ _ _ hh2; rw [hcur k (by rw [pagesL_len]; exact hkm), pagesL_at, ← HOLD.out] at rk; have rf := frozen_of_row w2 g2 k _ _ hh2; have n3 : ¬ g2 = w.heap.size := (by have := heapLt HX3.out; omega); have n6 : ¬ g2 = w.heap.size + 1 := (by have := heapLt HX6.out; omega); have n3' : ¬ w.heap.size = g2 := (by omega); have n6' : ¬ w.heap.size + 1 = g2 := (by omega); have HY6 := Lib.hid y6; have HY3 := Lib.hid y3; have HH2 := Lib.hid hh2; have HC2 := Lib.hid (And.intro hcur (And.intro hc2 (And.intro hm2 hg2))); have HB2 := Lib.hid hb2; clear y3 y6 hh2 hcur hc2 hm2 hg2 hb2; (try simp only [Act.put, List.setIfInBounds_toArray, List.set_cons_zero, List.set_cons_succ])))
  have rk' : w2.drew.cell? ⟨g2, k, none⟩ = some (.string old) := rk
  have rf' : w2.drew.frozen? ⟨g2, k, none⟩ = false := rf
  refine wp_region_held_drew (S := fun w' => w'.cell? ⟨w.heap.size, 2, none⟩ = some (.int .i64 t)) (by kernel_rfl) e2 ?_
  intro hHeld
  (refine takeH (i := 0) (v := ?_) rfl (by kernel_rfl) (by kernel_rfl) (by kernel_rfl) (fun _ _ _ h => h) (Or.inl ⟨by rfl, ?_⟩) (by assumption) ?_; rotate_left; (focus ((intro wS hSw); (try dsimp only at hSw); go_simp; (try with_reducible rfl); done)); (try simp only [Act.put, List.setIfInBounds_toArray, List.set_cons_zero, List.set_cons_succ]))
  (refine takeH (i := 1) (v := ?_) rfl (by kernel_rfl) (by kernel_rfl) (by kernel_rfl) (fun _ _ _ h => h) (Or.inl ⟨by rfl, ?_⟩) (by assumption) ?_; rotate_left; (focus ((intro wS hSw); (try dsimp only at hSw); go_simp; (try with_reducible rfl); done)); (try simp only [Act.put, List.setIfInBounds_toArray, List.set_cons_zero, List.set_cons_succ]))
  (refine takeH (i := 2) (v := ?_) rfl (by kernel_rfl) (by kernel_rfl) (by kernel_rfl) (fun _ _ _ h => h) (Or.inl ⟨by rfl, ?_⟩) (by assumption) ?_; rotate_left; (focus ((intro wS hSw); (try dsimp only at hSw); go_simp; (try with_reducible rfl); done)); (try simp only [Act.put, List.setIfInBounds_toArray, List.set_cons_zero, List.set_cons_succ]))
  (refine takeH (i := 3) (v := ?_) rfl (by kernel_rfl) (by kernel_rfl) (by kernel_rfl) (fun _ _ _ h => h) (Or.inl ⟨by rfl, ?_⟩) (by assumption) ?_; rotate_left; (focus ((intro wS hSw); (try dsimp only at hSw); go_simp; (try with_reducible rfl); done)); (try simp only [Act.put, List.setIfInBounds_toArray, List.set_cons_zero, List.set_cons_succ]))
  (refine takeH (i := 4) (v := ?_) rfl (by kernel_rfl) (by kernel_rfl) (by kernel_rfl) (fun _ _ _ h => h) (Or.inl ⟨by rfl, ?_⟩) (by assumption) ?_; rotate_left; (focus ((intro wS hSw); (try dsimp only at hSw); go_simp; (try with_reducible rfl); done)); (try simp only [Act.put, List.setIfInBounds_toArray, List.set_cons_zero, List.set_cons_succ]))
  (refine takeH (i := 5) (v := ?_) rfl (by kernel_rfl) (by kernel_rfl) (by kernel_rfl) (fun _ _ _ h => h) (Or.inl ⟨by rfl, ?_⟩) (by assumption) ?_; rotate_left; (focus ((intro wS hSw); (try dsimp only at hSw); go_simp; (try with_reducible rfl); done)); (try simp only [Act.put, List.setIfInBounds_toArray, List.set_cons_zero, List.set_cons_succ]))
  (refine takeH (i := 6) (v := ?_) rfl (by kernel_rfl) (by kernel_rfl) (by kernel_rfl) (fun _ _ _ h => h) (Or.inl ⟨by rfl, ?_⟩) (by assumption) ?_; rotate_left; (focus ((intro wS hSw); (try dsimp only at hSw); go_simp; (try with_reducible rfl); done)); (try simp only [Act.put, List.setIfInBounds_toArray, List.set_cons_zero, List.set_cons_succ]))
  (refine takeH (i := 7) (v := ?_) rfl (by kernel_rfl) (by kernel_rfl) (by kernel_rfl) (fun _ _ _ h => h) (Or.inl ⟨by rfl, ?_⟩) (by assumption) ?_; rotate_left; (focus ((intro wS hSw); (try dsimp only at hSw); go_simp; (try with_reducible rfl); done)); (try simp only [Act.put, List.setIfInBounds_toArray, List.set_cons_zero, List.set_cons_succ]))
  (refine takeH (i := 8) (v := ?_) rfl (by kernel_rfl) (by kernel_rfl) (by kernel_rfl) (fun _ _ _ h => h) (Or.inl ⟨by rfl, ?_⟩) (by assumption) ?_; rotate_left; (focus ((intro wS hSw); (try dsimp only at hSw); go_simp; (try with_reducible rfl); done)); (try simp only [Act.put, List.setIfInBounds_toArray, List.set_cons_zero, List.set_cons_succ]))
  (refine takeH (i := 10) (v := ?_) rfl (by kernel_rfl) (by kernel_rfl) (by kernel_rfl) (fun _ _ _ h => h) (Or.inl ⟨by rfl, ?_⟩) (by assumption) ?_; rotate_left; (focus ((intro wS hSw); (try dsimp only at hSw); go_simp; (try with_reducible rfl); done)); (try simp only [Act.put, List.setIfInBounds_toArray, List.set_cons_zero, List.set_cons_succ]))
  (refine takeH (i := 11) (v := ?_) rfl (by kernel_rfl) (by kernel_rfl) (by kernel_rfl) (fun _ _ _ h => h) (Or.inl ⟨by rfl, ?_⟩) (by assumption) ?_; rotate_left; (focus ((intro wS hSw); (try dsimp only at hSw); go_simp; (try with_reducible rfl); done)); (try simp only [Act.put, List.setIfInBounds_toArray, List.set_cons_zero, List.set_cons_succ]))
  (refine aloneH (i := 9) rfl (by kernel_rfl) (fun K hK => ?_); rw [if_pos (by rfl)]; go_simp; refine hK.out _ _ hHeld (fun hNew => ?_); clear hK K hHeld; (have hHeld := hNew); clear hNew; (try simp only [Act.put, List.setIfInBounds_toArray, List.set_cons_zero, List.set_cons_succ]))
  have hsum : ¬ (9223372036854775807 < min t 64 + (64 - t)) := by omega
  have hx1 : s.extract 0 t = ByteArray.mk (T.take t).toArray := by
    rw [HST.out, ByteArray.extract_mk]
    congr 1 <;> simp
  have hx2 : old.extract t 64 = ByteArray.mk ((d.S k).drop t).toArray := by
    rw [HOLD.out, ByteArray.extract_mk]
    congr 1
    simp
    exact List.take_of_length_le (by rw [List.length_drop]; omega)
  (refine takeH (i := 12) (v := ?_) rfl (by kernel_rfl) (by kernel_rfl) (by kernel_rfl) (fun _ _ _ h => h) (Or.inl ⟨by rfl, ?_⟩) (by assumption) ?_; rotate_left; (focus ((intro wS hSw); (try dsimp only at hSw); go_simp; (try with_reducible rfl); done)); (try simp only [Act.put, List.setIfInBounds_toArray, List.set_cons_zero, List.set_cons_succ]))
  (refine takeH (i := 13) (v := ?_) rfl (by kernel_rfl) (by kernel_rfl) (by kernel_rfl) (fun _ _ _ h => h) (Or.inl ⟨by rfl, ?_⟩) (by assumption) ?_; rotate_left; (focus ((intro wS hSw); (try dsimp only at hSw); go_simp; (try with_reducible rfl); done)); (try simp only [Act.put, List.setIfInBounds_toArray, List.set_cons_zero, List.set_cons_succ]))
  rw [ByteArray.mk_append_mk]
  clear hx1 hx2
  (refine takeH (i := 14) (v := ?_) rfl (by kernel_rfl) (by kernel_rfl) (by kernel_rfl) (fun _ _ _ h => h) (Or.inl ⟨by rfl, ?_⟩) (by assumption) ?_; rotate_left; (focus ((intro wS hSw); (try dsimp only at hSw); go_simp; (try with_reducible rfl); done)); (try simp only [Act.put, List.setIfInBounds_toArray, List.set_cons_zero, List.set_cons_succ]))
  obtain ⟨N, hN⟩ : ∃ N : Text, N = T.take t ++ (d.S k).drop t := ⟨_, rfl⟩
  have HNN := Lib.hid hN
  rw [← hN]
  clear hN
  have hX3 : (w2.setCell ⟨g2, k, none⟩ (.string ⟨N.toArray⟩)).drew.heap[w.heap.size]? = w2.heap[w.heap.size]? := heap_setCell_other _ _ _ _ n3'
  have hX6 : (w2.setCell ⟨g2, k, none⟩ (.string ⟨N.toArray⟩)).drew.heap[w.heap.size + 1]? = w2.heap[w.heap.size + 1]? := heap_setCell_other _ _ _ _ n6'
  have hXg : (w2.setCell ⟨g2, k, none⟩ (.string ⟨N.toArray⟩)).drew.heap[g2]? = some (.cells (cur.setIfInBounds k (.string ⟨N.toArray⟩)) 9 (0, 0)) := heap_setCell_same w2 g2 k _ _ _ HH2.out
  have hXb : Below w.heap.size w (w2.setCell ⟨g2, k, none⟩ (.string ⟨N.toArray⟩)).drew := ((HB1.out.trans (HB2.out.mono HB1.out.size)).setCell (p := ⟨g2, k, none⟩) (by have := HC2.out.2.2.2; have := HB1.out.size; simp; omega) _).drew
  (refine aloneH (i := 15) rfl (by kernel_rfl) (fun K hK => ?_); rw [if_pos (by rfl)]; go_simp; refine hK.out _ _ ((World.cell?_of_block hX3).trans e2) (fun hNew => ?_); clear hK K hHeld hNew; (try simp only [Act.put]))
  have x3 := hX3.trans HY3.out
  have x6 := hX6.trans HY6.out
  clear hX3 hX6 rk' rf' rk rf e0 e1 e2 e3 e4 k0 k1 k2 k3 k4 m0 m1 m2 m3 m4 z0 z1 z4
  generalize (w2.setCell ⟨g2, k, none⟩ (.string ⟨N.toArray⟩)).drew = W3 at *
  have e0 := cell_of_row W3 _ 0 _ _ _ x3
  have e1 := cell_of_row W3 _ 1 _ _ _ x3
  have e2 := cell_of_row W3 _ 2 _ _ _ x3
  have e3 := cell_of_row W3 _ 3 _ _ _ x3
  have e4 := cell_of_row W3 _ 4 _ _ _ x3
  simp only [refC, List.getElem?_toArray, List.getElem?_cons_zero, List.getElem?_cons_succ] at e0 e1 e2 e3 e4
  have k0 := cell_of_row W3 _ 0 _ _ _ x6
  have k1 := cell_of_row W3 _ 1 _ _ _ x6
  have k2 := cell_of_row W3 _ 2 _ _ _ x6
  have k3 := cell_of_row W3 _ 3 _ _ _ x6
  have k4 := cell_of_row W3 _ 4 _ _ _ x6
  simp only [List.getElem?_toArray, List.getElem?_cons_zero, List.getElem?_cons_succ] at k0 k1 k2 k3 k4
  have m0 := frozen_of_row W3 _ 0 _ _ x6
  have m1 := frozen_of_row W3 _ 1 _ _ x6
  have m2 := frozen_of_row W3 _ 2 _ _ x6
  have m3 := frozen_of_row W3 _ 3 _ _ x6
  have m4 := frozen_of_row W3 _ 4 _ _ x6
  have HXG := Lib.hid hXg
  have HX66 := Lib.hid x6
  have HXB := Lib.hid hXb
  clear hXg x6 x3 hXb
  refine wpAnyH_done (by kernel_rfl) ?_ _
  go_wp2
  obtain ⟨q1, q2, q3⟩ := wrote_post (d := d) (d' := writeD d k T) (T := N) (tr := 0) HXB.out (b := w.heap.size + 1) (by omega) HX66.out HXG.out n6 HC2.out.1 hkm (by rw [HWD.out]; rfl) (fun i => by
      rw [HWD.out, HNN.out]
      show (if i = k then overP (d.S k) (T.take t) else d.S i) = _
      by_cases e : i = k
      · rw [if_pos e, if_pos e]
        unfold overP
        have hl : (T.take t).length = t := by rw [List.length_take]; omega
        rw [List.take_of_length_le (by omega), hl]
      · rw [if_neg e, if_neg e]) HC2.out.2.1 HC2.out.2.2.1 (by rw [HWD.out]; intro hx; cases hx)
    (.slice (some ⟨g2, 0, none⟩) d.many c2) (.int .i64 (-1)) (.int .i64 0) (.bool true) (.int .i64 d.writes) (by rw [HWD.out]; simp [refC, aftR, DiskV.lay])
  exact bodyPost_ret (results_cell_of2 rfl _ _ (w.heap.size + 1) _ _ rfl rfl (load_ref _ _ _ rfl _ _ q1)) rfl ⟨g2, c2, 0, rfl, q2, q3⟩
end Go.Proofs.Ytmgonokhgijgoaa
