/- All keys in a row. -/
import Derived.Test.YtgljajoknmgoeaaGreatPrY
import Derived.Test.YtgljajoknmgoeaaGreatVatMem2
namespace Go.Proofs.YtgljajoknmgoeaaGreat
open Go.RowKit
set_option maxRecDepth 100000
attribute [local go_sem] Oper.semAt_some

theorem strFact : (Tryz.prog.info? 9).map (fun i => (i.zero, i.size, i.bytes)) = some (some (.string ⟨#[]⟩), 1, 16) := by kernel_rfl
/-- a row of texts of the call's own -/
def OwnS (w : World) (base : Nat) (v : Value) (L : List ByteArray) : Prop := w.ownsRow base 9 1 v L.length (L.map .string)
theorem OwnS.tn {w W : World} {b B : Nat} {v : Value} {L : List ByteArray} (h : OwnS w B v L) (k : Tn b w W) : OwnS W B v L := by
  refine ⟨h.1, ?_⟩
  rcases h.2 with h | ⟨g, c, cur, e, hB, hh, hr⟩
  · exact .inl h
  · exact .inr ⟨g, c, cur, e, hB, k.cells hh, hr⟩
theorem OwnS.others {w W : World} {B l : Nat} {r : Obj} {v : Value} {L : List ByteArray} (h : OwnS w B v L) (hl : w.heap[l]? = some r) (hrc : r.isCells = false) (k : ∀ i, i ≠ l → W.heap[i]? = w.heap[i]?) : OwnS W B v L := by
  refine ⟨h.1, ?_⟩
  rcases h.2 with h | ⟨g, c, cur, e, hB, hh, hr⟩
  · exact .inl h
  · refine .inr ⟨g, c, cur, e, hB, (k g (fun e => ?_)).trans hh, hr⟩
    have hr0 := hrc
    rw [e, hl] at hh
    injection hh with hh
    rw [hh] at hr0
    cases hr0
theorem OwnS.setCell {w : World} {B b o : Nat} {v u : Value} {L : List ByteArray} (h : OwnS w B v L) (hb : b < B) : OwnS (w.setCell ⟨b, o, none⟩ u) B v L := by
  refine ⟨h.1, ?_⟩
  rcases h.2 with h | ⟨g, c, cur, e, hB, hh, hr⟩
  · exact .inl h
  · exact .inr ⟨g, c, cur, e, hB, (heap_setCell_other _ _ _ _ (by simp; omega)).trans hh, hr⟩
theorem OwnS.on {w W : World} {B : Nat} {v : Value} {L : List ByteArray} (h : OwnS w B v L) (hb : Below w.heap.size w W) : OwnS W B v L := h.tn (Tn.of_below (b := 0) hb)
theorem OwnS.form {w : World} {B : Nat} {v : Value} {L : List ByteArray} (h : OwnS w B v L) : ∃ A c, v = .slice A L.length c := by
  rcases h.2 with ⟨rfl, h0⟩ | ⟨g, c, cur, rfl, _⟩
  · exact ⟨none, 0, by rw [h0]⟩
  · exact ⟨_, c, rfl⟩
def keyF (g : Nat) : Value := .func (.func 42) #[] #[.pointer (some ⟨g, 0, none⟩)]
/-- the collected so far -/
def ApI (w : World) (F : Lns) (pre : Ks) (W : World) : Prop :=
  (∃ v, W.heap[w.heap.size]? = some (.cells #[v] 40 (0, 0)) ∧ OwnS W (w.heap.size + 1) v pre) ∧ Below w.heap.size w W ∧ w.heap.size + 1 ≤ W.heap.size ∧ KsOk F pre
theorem ApI.tn {w W V : World} {b : Nat} {F : Lns} {pre : Ks} (h : ApI w F pre W) (k : Tn b W V) (hb : w.heap.size ≤ b) : ApI w F pre V := by
  obtain ⟨⟨v, h1, h2⟩, h3, h4, h5⟩ := h
  refine ⟨⟨v, k.cells h1, h2.tn k⟩, ⟨k.os.trans h3.os, k.tape.trans h3.tape, k.output.trans h3.output, Nat.le_trans h3.size k.size, fun i hi => (k.low i (by omega) (by omega)).trans (h3.block i hi)⟩, Nat.le_trans h4 k.size, h5⟩
theorem ApI.put {w W V : World} {l : Nat} {r : Loop} {F : Lns} {pre : Ks} (h : ApI w F pre W) (hl : W.heap[l]? = some (.loop r)) (hw : w.heap.size < l) (ho : V.os = W.os) (ht : V.tape = W.tape) (hu : V.output = W.output) (hs : W.heap.size ≤ V.heap.size) (k : ∀ i, i ≠ l → V.heap[i]? = W.heap[i]?) : ApI w F pre V := by
  obtain ⟨⟨v, h1, h2⟩, h3, h4, h5⟩ := h
  exact ⟨⟨v, (k _ (by omega)).trans h1, h2.others hl rfl k⟩, ⟨ho.trans h3.os, ht.trans h3.tape, hu.trans h3.output, Nat.le_trans h3.size hs, fun i hi => (k i (by omega)).trans (h3.block i hi)⟩, Nat.le_trans h4 hs, h5⟩
set_option maxHeartbeats 2000000 in
theorem code_appendSeq {w : World} {g base bm n : Nat} {F : Lns} (hg : w.heap[g]? = some (.cells #[.map (some bm)] 56 (0, 0))) (h : PmAt w base bm n F) (hbd : ∀ T, KsOk F T → T.length ≤ 1000) :
    Calls Tryz.prog 59 #[.slice none 0 0, keyF g] w fun e w' => ∃ v T, e = .returned v ∧ AllK F T ∧ OwnS w' (w.heap.size + 1) v T ∧ Below w.heap.size w w' := by
  have hb := below_alloc w (.cells #[.slice none 0 0] 40)
  have HA := Lib.hid (told_keys (w.alloc (.cells #[.slice none 0 0] 40)) g base bm n F (heap_on hb hg) (h.on hb))
  have HI : Hid (ApI w F [] (w.alloc (.cells #[.slice none 0 0] 40))) := Lib.hid ⟨⟨_, heap_alloc_new _ _, World.ownsRow_nil _ _ _ _⟩, hb, by simp, List.nodup_nil, fun t ht => absurd ht (by simp)⟩
  have HBd := Lib.hid hbd
  have hsz : (w.alloc (.cells #[.slice none 0 0] 40)).heap.size = w.heap.size + 1 := by simp
  clear hg h hb hbd
  refine callsIn_wide.1 (callsIn_of_wp_marks (n := 0) (F := Fence.wide) Tryz.func59 rfl trivial (wpIn_wide.2 ?_) rfl)
  simp only [Tryz.ntmps59, List.size_toArray, List.length_cons, List.length_nil, Nat.reduceAdd, Nat.reduceSub, Array.replicate_succ, Array.replicate_zero, List.push_toArray, List.append_toArray, List.nil_append, List.cons_append]
  unfold keyF
  go_wp2
  refine wp_rangeTold3 (gf := 42) (lb := #[.pointer (some ⟨g, 0, none⟩)]) rfl (enters_of Tryz.func42 (by kernel_rfl) rfl) HA.out (fun h k => h.trans k) (fun A B h => Km.of_below h) (fun A l r o h => Km.of_put h) (fun _ => rfl)
    (fun pre W => ApI w F pre W) (fun _ _ _ => False) (fun pre A B h k => h.tn k (by rw [hsz]; omega)) (fun _ _ _ _ h _ => h) (fun pre A l r o hl h hr => h.put hr (by rw [hsz] at hl; omega) rfl rfl rfl (by simp) (fun i hi => World.putObj_heap_other hi)) (fun _ _ _ _ _ _ _ h _ => h) HI.out ?round ?done ?stop
  case stop =>
    rintro D cc pre W _ _ h _
    exact h.elim
  case done =>
    intro D xs W hD hxs hI hK
    rw [hsz] at hD
    obtain ⟨⟨v, h1, h2⟩, h3, h4, h5⟩ := hI
    have c0 := (one_cell h1).1
    have HI2 := Lib.hid (And.intro h2 h3)
    have HK := Lib.hid hK
    have HX := Lib.hid hxs
    clear h1 h2 h3 h5 hK hxs HI HA
    go_wp2
    refine ⟨by simp, .inl ⟨_, _, rfl, run_takeDeferred HK.out, ?_⟩⟩
    refine ⟨_, results_tmp rfl _ _ _, v, xs, rfl, HX.out, HI2.out.1.others HK.out rfl (fun i hi => World.putObj_heap_other hi), HI2.out.2.trans (put_below W _ (by omega))⟩
  case round =>
    intro l r pre s W hl hr hI hx
    rw [hsz] at hl
    have HX := Lib.hid hx
    have HI1 := Lib.hid hI
    have HL := Lib.hid hr
    clear hI hr hx HI
    dsimp only [encK]
    gi_wp2
    refine ⟨Below.refl _ _, fun Wb hB => ?_⟩
    have hIb := HI1.out.put HL.out (by omega) hB.os hB.tape hB.output (Nat.le_of_eq hB.size.symm) hB.block
    obtain ⟨⟨v, h1, h2⟩, h3, h4, h5⟩ := hIb
    have c0 := one_cell h1
    obtain ⟨q0, z0⟩ := c0
    have hk5 : KsOk F (pre ++ [s]) := ⟨by
      rw [List.nodup_append]
      exact ⟨h5.1, by simp, fun x hx y hy e => HX.out.1 (by simp at hy; rw [← hy, ← e]; exact hx)⟩, fun t ht => by
      rcases List.mem_append.1 ht with ht | ht
      · exact h5.2 t ht
      · simp at ht
        subst ht
        exact HX.out.2⟩
    have hlen := HBd.out _ hk5
    rw [List.length_append, List.length_singleton] at hlen
    have hnew := heap_alloc_new Wb (.cells #[.string s] 9)
    have h2a : OwnS (Wb.alloc (.cells #[.string s] 9)) (w.heap.size + 1) v pre := h2.on (below_alloc _ _)
    obtain ⟨i0, hi, hz0, hz1, hz2⟩ := info_parts strFact
    have hown : ∀ k, v.ownBlock = some k → w.heap.size + 1 ≤ k := fun k hk => (World.ownsRow.lt h2a k hk).1
    have hc1 : ∀ j u, ([Value.string s] : List Value)[j]? = some u → (Wb.alloc (.cells #[.string s] 9)).cell? ((⟨Wb.heap.size, 0, none⟩ : Addr).add j) = some u := fun j u hu => by
      match j with
      | 0 => simp at hu; subst hu; exact (one_cell hnew).1
      | j + 1 => simp at hu
    obtain ⟨A0, c0, rfl⟩ := h2a.form
    have HQ : Hid (∀ v2 W3, W3.ownsRow (w.heap.size + 1) 9 1 v2 (pre.length + 1) (pre.map .string ++ [.string s]) → (Wb.alloc (.cells #[.string s] 9)).grownBy W3 (Value.slice A0 pre.length c0).ownBlock →
        (∃ A3 c3, v2 = .slice A3 (pre.length + 1) c3) ∧ W3.heap[w.heap.size]? = some (.cells #[.slice A0 pre.length c0] 40 (0, 0)) ∧ roundP Km (fun pre W => ApI w F pre W) (fun _ _ _ => False) (pre ++ [s]) Wb .normal { tmps := #[], defers := [] } (W3.setCell ⟨w.heap.size, 0, none⟩ v2)) := Lib.hid (fun v2 W3 r1 r2 => by
    have hbx : W3.heap[w.heap.size]? = some (.cells #[.slice A0 pre.length c0] 40 (0, 0)) := (r2.block _ (by simp; omega) (fun e => by have := hown _ e.symm; omega)).trans (heap_on (below_alloc _ _) h1)
    have r1' : OwnS W3 (w.heap.size + 1) v2 (pre ++ [s]) := by
      unfold OwnS
      rw [List.length_append, List.map_append]
      exact r1
    refine ⟨?_, hbx, ?_⟩
    · obtain ⟨A3, c3, e⟩ := r1'.form
      exact ⟨A3, c3, by rw [e, List.length_append]; rfl⟩
    · have ho : KeepsOthers Wb (W3.setCell ⟨w.heap.size, 0, none⟩ v2) := ((KeepsOthers.alloc Wb _).trans (KeepsOthers.of_grownBy r2 (fun j o hj ho => by
        obtain ⟨g', c', cur, e, hB', hh, _⟩ := h2a.2.resolve_left (fun h0 => by rw [h0.1] at hj; simp [Value.ownBlock] at hj)
        rw [e] at hj
        simp [Value.ownBlock] at hj
        rw [← hj, hh] at ho
        injection ho with ho
        subst ho
        rfl))).trans (KeepsOthers.setCell _ _ _)
      have hbb : Below w.heap.size w W3 := (h3.trans ((below_alloc Wb _).mono (by omega))).trans ⟨r2.os, r2.tape, r2.output, r2.size, fun k hk => r2.block k (by simp; omega) (fun e => by have := hown _ e.symm; omega)⟩
      refine roundP_normal ⟨ho, Km.of_others ho, ⟨v2, heap_setCell_same W3 w.heap.size 0 _ _ v2 hbx, ?_⟩, hbb.setCell (p := ⟨w.heap.size, 0, none⟩) (by simp) _, ?_, hk5⟩
      · exact OwnS.setCell r1' (by omega)
      · have := r2.size
        simp at this ⊢
        omega)
    have h2b := Lib.hid h2a
    have HL3 : Hid (pre.length + 1 ≤ 1000 ∧ w.heap.size + 1 ≤ (Wb.alloc (.cells #[.string s] 9)).heap.size) := Lib.hid ⟨hlen, by simp; omega⟩
    have hc2 := Lib.hid hc1
    clear hnew h2a hown h1 h2 h3 h4 h5 hk5 HI1 hc1 hlen
    gi_wp2_with (gi_at_builtin; refine wpListIn_append_own _ rfl _ _ 40 rfl (w.heap.size + 1) 9 i0 _ 1 16 Tryz.underlying40 hi hz0 hz1 hz2 rfl (by decide) _ pre.length (pre.map .string) rfl h2b.out ⟨Wb.heap.size, 0, none⟩ 1 1 [.string s] rfl rfl hc2.out (by intro u hu; simp at hu; subst hu; rfl) (by have := HL3.out.1; unfold maxLen; omega) (by have := HL3.out.1; omega) HL3.out.2 ?_; intro v2 W3 r1 r2 _; obtain ⟨⟨A3, c3, hv3⟩, hbx, hF⟩ := HQ.out v2 W3 r1 r2; subst hv3; obtain ⟨q3, z3⟩ := one_cell hbx; have HF := Lib.hid hF; clear hF hbx r1 r2; refine Stop.out ?_)
    unfold Stop
    gi_wp2
    exact HF.out
end Go.Proofs.YtgljajoknmgoeaaGreat
