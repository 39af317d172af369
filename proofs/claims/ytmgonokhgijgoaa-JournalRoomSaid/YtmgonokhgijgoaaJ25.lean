/- A sector laid over. A sector written, and read; the fuse; power. -/
import Derived.Test.YtmgonokhgijgoaaJ24
namespace Go.Proofs.Ytmgonokhgijgoaa
open Go.RowKit
set_option maxRecDepth 100000

theorem wp_put_page {o : Oper} {a : Act} {w : World} {K : Act → World → Prop} {Q : Exit → Act → World → Prop} (m x v : Operand) (ho : o.op = .mapUpdate 56 m x v)
    {bm n : Nat} {d : DiskV} (h : PagesD w bm n d) (i : Nat) (hi : i < d.many) (hm : d.many ≤ 4096) (t : Text) (hn : n < maxLen) (hmv : a.eval m = .map (some bm)) (hx : a.eval x = .int .i64 i) (hv : a.eval v = pageV (overP (d.S i) t))
    (hK : ∀ w', PagesD w' bm (n + 1) (d.lay i t) → w.mapTurned w' bm → K (a.put o.dst undef) w') : o.wp Try.prog a w K Q := by
  obtain ⟨w', hr, h1, h2⟩ := put_pages h i hi hm t hn
  unfold Oper.wp execOp
  simp only [ho, hmv, hx, hv, Sem.run_bind, hr, Result.andThen_ok, Sem.run_pure]
  exact hK w' h1 h2
theorem wpList_del_page {w : World} {ops : Array Oper} {rest : List Oper} {o : Oper} {a : Act} {Q : Exit → Act → World → Prop} (hgd : o.guard = none) (m x : Operand)
    (ho : o.op = .call { callee := .builtin .delete, args := #[m, x], argTypes := #[56, 3] })
    {bm n : Nat} {d : DiskV} (h : PagesD w bm n d) (i : Nat) (hi : i < d.many) (hm : d.many ≤ 4096) (t : Text) (hz : overP (d.S i) t = zeros) (hmv : a.eval m = .map (some bm)) (hx : a.eval x = .int .i64 i)
    (hK : ∀ w', PagesD w' bm (n + 1) (d.lay i t) → w.mapTurned w' bm → wpList Try.prog ops Q rest (a.put o.dst (.tuple #[])) w') : wpList Try.prog ops Q (o :: rest) a w := by
  refine wpList_plain hgd fun K hK' => ?_
  obtain ⟨w', hr, h1, h2⟩ := del_pages h i hi hm t hz o.type
  unfold Oper.wp
  simp [execOp, ho, resolve, invoke, builtin, hmv, hx, hr, Result.andThen]
  exact hK' _ _ (hK w' (h1.mono (by omega)) h2)

theorem lay_post {w w1 w2 : World} {B bm n : Nat} {d : DiskV} (h : Dsk w B bm n d) (hb : Below w.heap.size w w1) (i : Nat) (m : Text) (hp : PagesD w2 bm (n + 1) (d.lay i m)) (ht : w1.mapTurned w2 bm) :
    Dsk w2 B bm (n + 1) (d.lay i m) ∧ ChgD w w2 B bm := by
  have hc : ChgD w1 w2 B bm := turned_chg ht
  have hg := ht.grown
  refine ⟨⟨?_, hp, h.2.2.1, h.2.2.2.1, h.2.2.2.2⟩, (ChgD.of_below hb).trans hc⟩
  rw [hg.block B (Nat.lt_of_lt_of_le h.lt hb.size) (fun e => h.2.2.2.1 (by injection e with e; exact e.symm)), hb.block B h.lt]
  exact h.1

theorem copied_below {w w1 w2 : World} {B g : Nat} (hb : Below B w w1) (hg : B ≤ g) (hk : ∀ k, k ≠ g → w2.heap[k]? = w1.heap[k]?) (hs : w2.heap.size = w1.heap.size) (ho : w2.os = w1.os) (ht : w2.tape = w1.tape) (hu : w2.output = w1.output) : Below B w w2 :=
  hb.trans ⟨ho, ht, hu, by omega, fun k hk' => hk k (by omega)⟩


set_option maxHeartbeats 800000 in
theorem code_dput (w : World) (B bm n : Nat) (d : DiskV) (h : Dsk w B bm n d) (i : Nat) (hi : i < d.many) (hn : n < maxLen) (A : Option Addr) (c : Nat) (m : Text) (hT : Txt w A m) :
    Calls Try.prog 63 #[.pointer (some ⟨B, 0, none⟩), .int .i64 i, .slice A m.length c] w fun e w' => (∃ v, e = .returned v) ∧ Dsk w' B bm (n + 1) (d.lay i m) ∧ ChgD w w' B bm := by
  have HD := Lib.hid h
  have HT := Lib.hid hT
  obtain ⟨_, c1, _⟩ := h.cells
  have hm := h.2.2.1
  obtain ⟨l, hl⟩ : ∃ l, l = d.S i := ⟨_, rfl⟩
  have hlen : l.length = 64 := by obtain ⟨_, ⟨D, _, h2⟩, _⟩ := h; rw [hl]; exact (h2 i hi).2
  have HL := Lib.hid hl
  have HB1 : Hid (∀ x y, Below w.heap.size w ((w.alloc x).setRow w.heap.size y)) := Lib.hid (fun x y => below_setRow ((Below.refl _ w).alloc (Nat.le_refl _) x) (Nat.le_refl _) y)
  have HP : Hid (PagesD w bm n d) := Lib.hid h.2.1
  clear h hT hl
  by_cases hz : overP l m = zeros
  · have HZ : Hid (decide (overP l m = zeros) = true) := Lib.hid (decide_eq_true hz)
    have HZ2 : Hid (overP (d.S i) m = zeros) := Lib.hid (by rw [← HL.out]; exact hz)
    clear hz
    go_enter Try.func63, Try.ntmps63
    go_wp2_with (first
      | (at_lookup; refine wpList_look_page rfl _ _ rfl HP.out i hi hm rfl rfl ?_; rw [← HL.out]; (try simp only [Act.put, List.setIfInBounds_toArray, List.set_cons_zero, List.set_cons_succ]))
      | ((with_reducible refine wpList_alloc_page pageS (o := ⟨some 6, _, _, _, _, _⟩) ?a1 ?a2 ?_); (case a1 => rfl); (case a2 => rfl); (try simp only [Act.put, List.setIfInBounds_toArray, List.set_cons_zero, List.set_cons_succ]))
      | ((with_reducible refine wpList_store_page pageS (o := ⟨none, _, _, _, _, _⟩) ?a1 (.tmp 6) (.tmp 12) ?a2 w.heap.size ?a3 l hlen ?a4 _ ?a5 _ (heap_alloc_new w _) ?_); (case a1 => rfl); (case a2 => rfl); (case a3 => rfl); (case a4 => rfl); (case a5 => simp [zeros]); (try simp only [Act.put]))
      | ((with_reducible refine wpList_copy_page (o := ⟨some 15, _, _, _, _, _⟩) ?a1 (.tmp 13) (.tmp 14) ?a2 w.heap.size 64 ?a3 A c m ?a4 (HT.out.below (HB1.out _ _)) l hlen _ (setRow_heap _ _ _ _ _ _ (heap_alloc_new w _)) ?_); (case a1 => rfl); (case a2 => rfl); (case a3 => rfl); (case a4 => rfl); intro w1 hg1 hk1 hs1 ho1 ht1 hu1; have hb1 := copied_below (HB1.out _ _) (Nat.le_refl _) hk1 hs1 ho1 ht1 hu1; obtain ⟨_, c1', _⟩ := (HD.out.below hb1).cells; have HB2 := Lib.hid hb1; have HG1 := Lib.hid hg1; have HK := Lib.hid (heapLt hg1); clear hb1 hg1 hk1 hs1 ho1 ht1 hu1; (try simp only [Act.put, List.setIfInBounds_toArray, List.set_cons_zero, List.set_cons_succ]))
      | ((with_reducible refine wpList_load_page pageS (o := ⟨some 16, _, _, _, _, _⟩) ?a1 (.tmp 6) ?a2 w.heap.size ?a3 _ (overP_len hlen) _ _ HG1.out ?_); (case a1 => rfl); (case a2 => rfl); (case a3 => rfl); (try simp only [Act.put, List.setIfInBounds_toArray, List.set_cons_zero, List.set_cons_succ]))
      | ((with_reducible refine wpList_zero_page pageS (o := ⟨some 17, _, _, _, _, _⟩) ?a1 ?a2 ?_); (case a1 => rfl); (case a2 => rfl); (try simp only [Act.put, List.setIfInBounds_toArray, List.set_cons_zero, List.set_cons_succ]))
      | ((with_reducible refine wpList_eql_page pageS (o := ⟨some 18, _, _, _, _, _⟩) ?a1 (.tmp 16) (.tmp 17) 124 ?a2 _ _ ?a3 ?a4 (overP_len hlen) zeros_len true HZ.out ?_); (case a1 => rfl); (case a2 => rfl); (case a3 => rfl); (case a4 => rfl))
      | (at_delete; refine wpList_del_page rfl _ _ rfl (HP.out.kept (HB2.out.block bm HP.out.lt)) i hi hm m HZ2.out rfl rfl ?_; intro w2 hp2 ht2; have HF := Lib.hid (lay_post HD.out HB2.out i m hp2 ht2); clear hp2 ht2))
    refine bodyPost_ret (results_none rfl _ _ _) rfl ?_
    exact ⟨⟨_, rfl⟩, HF.out⟩
  · have HZ : Hid (decide (overP l m = zeros) = false) := Lib.hid (decide_eq_false hz)
    clear hz
    go_enter Try.func63, Try.ntmps63
    go_wp2_with (first
      | (at_lookup; refine wpList_look_page rfl _ _ rfl HP.out i hi hm rfl rfl ?_; rw [← HL.out]; (try simp only [Act.put, List.setIfInBounds_toArray, List.set_cons_zero, List.set_cons_succ]))
      | ((with_reducible refine wpList_alloc_page pageS (o := ⟨some 6, _, _, _, _, _⟩) ?a1 ?a2 ?_); (case a1 => rfl); (case a2 => rfl); (try simp only [Act.put, List.setIfInBounds_toArray, List.set_cons_zero, List.set_cons_succ]))
      | ((with_reducible refine wpList_store_page pageS (o := ⟨none, _, _, _, _, _⟩) ?a1 (.tmp 6) (.tmp 12) ?a2 w.heap.size ?a3 l hlen ?a4 _ ?a5 _ (heap_alloc_new w _) ?_); (case a1 => rfl); (case a2 => rfl); (case a3 => rfl); (case a4 => rfl); (case a5 => simp [zeros]); (try simp only [Act.put]))
      | ((with_reducible refine wpList_copy_page (o := ⟨some 15, _, _, _, _, _⟩) ?a1 (.tmp 13) (.tmp 14) ?a2 w.heap.size 64 ?a3 A c m ?a4 (HT.out.below (HB1.out _ _)) l hlen _ (setRow_heap _ _ _ _ _ _ (heap_alloc_new w _)) ?_); (case a1 => rfl); (case a2 => rfl); (case a3 => rfl); (case a4 => rfl); intro w1 hg1 hk1 hs1 ho1 ht1 hu1; have hb1 := copied_below (HB1.out _ _) (Nat.le_refl _) hk1 hs1 ho1 ht1 hu1; obtain ⟨_, c1', _⟩ := (HD.out.below hb1).cells; have HB2 := Lib.hid hb1; have HG1 := Lib.hid hg1; have HK := Lib.hid (heapLt hg1); clear hb1 hg1 hk1 hs1 ho1 ht1 hu1; (try simp only [Act.put, List.setIfInBounds_toArray, List.set_cons_zero, List.set_cons_succ]))
      | ((with_reducible refine wpList_load_page pageS (o := ⟨some 16, _, _, _, _, _⟩) ?a1 (.tmp 6) ?a2 w.heap.size ?a3 _ (overP_len hlen) _ _ HG1.out ?_); (case a1 => rfl); (case a2 => rfl); (case a3 => rfl); (try simp only [Act.put, List.setIfInBounds_toArray, List.set_cons_zero, List.set_cons_succ]))
      | ((with_reducible refine wpList_zero_page pageS (o := ⟨some 17, _, _, _, _, _⟩) ?a1 ?a2 ?_); (case a1 => rfl); (case a2 => rfl); (try simp only [Act.put, List.setIfInBounds_toArray, List.set_cons_zero, List.set_cons_succ]))
      | ((with_reducible refine wpList_eql_page pageS (o := ⟨some 18, _, _, _, _, _⟩) ?a1 (.tmp 16) (.tmp 17) 124 ?a2 _ _ ?a3 ?a4 (overP_len hlen) zeros_len false HZ.out ?_); (case a1 => rfl); (case a2 => rfl); (case a3 => rfl); (case a4 => rfl)))
    refine wp_region_held_drew (S := fun w' => w'.cell? ⟨B, 1, none⟩ = some (.map (some bm)) ∧ w'.heap[w.heap.size]? = some (.cells ((overP l m).map cellOf).toArray 124 (0, 0))) (by kernel_rfl) ⟨c1', HG1.out⟩ ?_
    intro hHeld
    (refine takeH (i := 0) (v := ?_) rfl (by kernel_rfl) (by kernel_rfl) (by kernel_rfl) (fun _ _ _ h => h) (Or.inl ⟨by rfl, ?_⟩) (by assumption) ?_; rotate_left; (focus ((intro wS hSw); obtain ⟨s1, s2⟩ := hSw; go_simp; (try with_reducible rfl); done)); (try simp only [Act.put, List.setIfInBounds_toArray, List.set_cons_zero, List.set_cons_succ]))
    (refine takeH (i := 1) (v := ?_) rfl (by kernel_rfl) (by kernel_rfl) (by kernel_rfl) (fun _ _ _ h => h) (Or.inl ⟨by rfl, ?_⟩) (by assumption) ?_; rotate_left; (focus ((intro wS hSw); obtain ⟨s1, s2⟩ := hSw; go_simp; (try with_reducible rfl); done)); (try simp only [Act.put, List.setIfInBounds_toArray, List.set_cons_zero, List.set_cons_succ]))
    (refine takeH (i := 2) (v := ?_) rfl (by kernel_rfl) (by kernel_rfl) (by kernel_rfl) (fun _ _ _ h => h) (Or.inl ⟨by rfl, ?_⟩) (by assumption) ?_; rotate_left; (focus ((intro wS hSw); obtain ⟨s1, s2⟩ := hSw; go_simp; (try with_reducible rfl); done)); (try simp only [Act.put, List.setIfInBounds_toArray, List.set_cons_zero, List.set_cons_succ]))
    (refine takeH (i := 3) (v := ?_) rfl (by kernel_rfl) (by kernel_rfl) (by kernel_rfl) (fun _ _ _ h => h) (Or.inl ⟨by rfl, ?_⟩) (by assumption) ?_; rotate_left; (focus ((intro wS hSw); obtain ⟨s1, s2⟩ := hSw; go_simp; (try with_reducible rfl); done)); (try simp only [Act.put, List.setIfInBounds_toArray, List.set_cons_zero, List.set_cons_succ]))
    (refine takeH (i := 4) (v := ?_) rfl (by kernel_rfl) (by kernel_rfl) (by kernel_rfl) (fun _ _ _ h => h) (Or.inl ⟨by rfl, ?_⟩) (by assumption) ?_; rotate_left; (focus ((intro wS hSw); obtain ⟨s1, s2⟩ := hSw; go_simp; (try with_reducible rfl); done)); (try simp only [Act.put, List.setIfInBounds_toArray, List.set_cons_zero, List.set_cons_succ]))
    (refine takeH (i := 5) (v := pageV (overP l m)) rfl (by kernel_rfl) (by kernel_rfl) (by kernel_rfl) (fun _ _ _ h => h) (yieldsIf_load_page pageS (by rfl) (.tmp 6) rfl w.heap.size rfl (overP l m) (overP_len hlen) _ _ (fun w h => h.2)) (by assumption) ?_; (try simp only [Act.put, List.setIfInBounds_toArray, List.set_cons_zero, List.set_cons_succ]))
    (refine aloneH (i := 6) rfl (by kernel_rfl) (fun K hK => ?_); rw [if_pos (by rfl)]; refine wp_put_page (.tmp 27) (.tmp 28) (.tmp 29) rfl (HP.out.kept (w' := w1.drew) (HB2.out.block bm HP.out.lt)) i hi hm m hn rfl rfl (by rw [← HL.out]; rfl) ?_; intro w2 hp2 ht2; have HF := Lib.hid (lay_post HD.out HB2.out.drew i m hp2 ht2); have hHeld2 := hHeld; refine hK.out _ _ ⟨?b1, ?b2⟩ (fun hNew => ?_); (case b1 => exact HF.out.1.cells.2.1); (case b2 => exact (ht2.grown.block _ HK.out (fun e => by have := HP.out.lt; injection e with e; omega)).trans hHeld2.2); clear hK K hHeld; (have hHeld := hNew); clear hNew; (try simp only [Act.put]))
    refine wpAnyH_done (by kernel_rfl) ?_ _
    go_end0
    exact ⟨⟨_, rfl⟩, HF.out⟩
end Go.Proofs.Ytmgonokhgijgoaa

namespace Go.Proofs.Ytmgonokhgijgoaa
open Go.RowKit
set_option maxRecDepth 100000

/-- what a write tells, and the disk behind it -/
def writeE (d : DiskV) (i : Int) (m : Text) : Int :=
  if reachV d i ≠ 0 then reachV d i else if m.length ≠ 64 then 2 else if d.set = true ∧ d.after = 0 then 32 else 0
def writeD (d : DiskV) (i : Int) (m : Text) : DiskV :=
  if reachV d i ≠ 0 then d else if m.length ≠ 64 then d else
    if d.set = true ∧ d.after = 0 then { d.lay i.toNat (m.take d.torn.toNat) with dead := true, set := false, after := 0, torn := 0 }
    else { d.lay i.toNat m with writes := d.writes + 1, after := if d.set = true then d.after - 1 else d.after }
/-- what the fuse and the counts may be -/
def OkD (d : DiskV) : Prop := 0 ≤ d.torn ∧ d.torn ≤ 64 ∧ 0 ≤ d.after ∧ d.after ≤ 9223372036854775807 ∧ 0 ≤ d.writes

theorem reach_ok {d : DiskV} {i : Int} (h : reachV d i = 0) : 0 ≤ i ∧ i < d.many ∧ d.dead = false := by
  unfold reachV at h
  by_cases h1 : d.dead = true
  · rw [if_pos h1] at h; omega
  · rw [if_neg h1] at h
    by_cases h2 : i < 0 ∨ (d.many : Int) ≤ i
    · rw [if_pos h2] at h; omega
    · exact ⟨by omega, by omega, by simpa using h1⟩

theorem Dsk.set {w : World} {B bm n : Nat} {d d' : DiskV} (h : Dsk w B bm n d) (j : Nat) (v : Value) (hc : (cellsD bm d).setIfInBounds j v = cellsD bm d') (hm : d'.many = d.many) (hS : d'.S = d.S) :
    Dsk (w.setCell ⟨B, j, none⟩ v) B bm n d' ∧ ChgD w (w.setCell ⟨B, j, none⟩ v) B bm := by
  obtain ⟨h1, ⟨D, h2, h3⟩, h4, h5, h6⟩ := h
  refine ⟨⟨?_, ⟨D, h2.setCell h5 v, fun i hi => by rw [hS]; exact h3 i (by rw [← hm]; exact hi)⟩, by rw [hm]; exact h4, h5, by rw [hm]; exact h6⟩, ⟨rfl, rfl, rfl, by simp, fun k hk h1 h2 => heap_setCell_other _ _ _ _ h1⟩⟩
  rw [heap_setCell_same w B j _ _ v h1, hc]

theorem code_fuse (w : World) (B bm n : Nat) (d : DiskV) (after torn : Int) (h : Dsk w B bm n d) (hok : 0 ≤ after ∧ 0 ≤ torn ∧ torn ≤ 64) :
    Calls Try.prog 20 #[.pointer (some ⟨B, 0, none⟩), .int .i64 after, .int .i64 torn] w fun e w' => e = .returned (.int .i64 0) ∧ Dsk w' B bm n { d with set := true, after := after, torn := torn } ∧ ChgD w w' B bm := by
  have HM := Lib.hid (code_dmade w B bm n d h)
  have H1 := h.set (d' := { d with set := true }) 3 (.bool true) rfl rfl rfl
  have H2 := H1.1.set (d' := { d with set := true, after := after }) 4 (.int .i64 after) rfl rfl rfl
  have H3 := H2.1.set (d' := { d with set := true, after := after, torn := torn }) 5 (.int .i64 torn) rfl rfl rfl
  have HF := Lib.hid (And.intro H3.1 ((H1.2.trans H2.2).trans H3.2))
  obtain ⟨_, _, _, c3, c4, c5, _⟩ := h.cells
  have f3 := h.frozen 3
  have f4 := h.frozen 4
  have f5 := h.frozen 5
  obtain ⟨o1, o2, o3⟩ := hok
  clear h H1 H2 H3
  go_enter Try.func20, Try.ntmps20
  go_wp2_with (go_at_call 54; refine HM.out.mono ?_; rintro e w1 ⟨rfl, rfl⟩)
  go_ret
  exact ⟨rfl, HF.out⟩
theorem code_fuse_bad (w : World) (B bm n : Nat) (d : DiskV) (after torn : Int) (h : Dsk w B bm n d) (hok : after < 0 ∨ torn < 0 ∨ 64 < torn) :
    Calls Try.prog 20 #[.pointer (some ⟨B, 0, none⟩), .int .i64 after, .int .i64 torn] w fun e w' => e = .returned (.int .i64 2) ∧ w = w' := by
  have HM := Lib.hid (code_dmade w B bm n d h)
  clear h
  by_cases h1 : after < 0
  · go_enter Try.func20, Try.ntmps20
    go_wp2_with (go_at_call 54; refine HM.out.mono ?_; rintro e w1 ⟨rfl, rfl⟩)
    go_ret
    exact ⟨rfl, rfl⟩
  · have h1' : 0 ≤ after := by omega
    by_cases h2 : torn < 0
    · go_enter Try.func20, Try.ntmps20
      go_wp2_with (go_at_call 54; refine HM.out.mono ?_; rintro e w1 ⟨rfl, rfl⟩)
      go_ret
      exact ⟨rfl, rfl⟩
    · have h2' : 0 ≤ torn := by omega
      have h3' : 64 < torn := by omega
      go_enter Try.func20, Try.ntmps20
      go_wp2_with (go_at_call 54; refine HM.out.mono ?_; rintro e w1 ⟨rfl, rfl⟩)
      go_ret
      exact ⟨rfl, rfl⟩
theorem code_power (w : World) (B bm n : Nat) (d : DiskV) (h : Dsk w B bm n d) :
    Calls Try.prog 28 #[.pointer (some ⟨B, 0, none⟩)] w fun e w' => e = .returned (.int .i64 0) ∧ Dsk w' B bm n { d with dead := false, set := false, after := 0, torn := 0 } ∧ ChgD w w' B bm := by
  have HM := Lib.hid (code_dmade w B bm n d h)
  have H0 := h.set (d' := { d with dead := false }) 2 (.bool false) rfl rfl rfl
  have H1 := H0.1.set (d' := { d with dead := false, set := false }) 3 (.bool false) rfl rfl rfl
  have H2 := H1.1.set (d' := { d with dead := false, set := false, after := 0 }) 4 (.int .i64 0) rfl rfl rfl
  have H3 := H2.1.set (d' := { d with dead := false, set := false, after := 0, torn := 0 }) 5 (.int .i64 0) rfl rfl rfl
  have HF := Lib.hid (And.intro H3.1 (((H0.2.trans H1.2).trans H2.2).trans H3.2))
  obtain ⟨_, _, c2, c3, c4, c5, _⟩ := h.cells
  have f2 := h.frozen 2
  have f3 := h.frozen 3
  have f4 := h.frozen 4
  have f5 := h.frozen 5
  clear h H0 H1 H2 H3
  go_enter Try.func28, Try.ntmps28
  go_wp2_with (go_at_call 54; refine HM.out.mono ?_; rintro e w1 ⟨rfl, rfl⟩)
  go_ret
  exact ⟨rfl, HF.out⟩

/-- a sector's bytes told in a block of their own -/
def ReadP (w : World) (d : DiskV) (i : Int) (e : Ending) (w' : World) : Prop :=
  (reachV d i ≠ 0 ∧ e = .returned (.tuple #[.slice none 0 0, .int .i64 (reachV d i)]) ∧ w = w') ∨
  (reachV d i = 0 ∧ e = .returned (.tuple #[.slice (some ⟨w.heap.size, 0, none⟩) 64 64, .int .i64 0]) ∧ Txt w' (some ⟨w.heap.size, 0, none⟩) (d.S i.toNat) ∧ Below w.heap.size w w')
set_option maxHeartbeats 800000 in
theorem code_read (w : World) (B bm n : Nat) (d : DiskV) (i : Int) (h : Dsk w B bm n d) :
    Calls Try.prog 47 #[.pointer (some ⟨B, 0, none⟩), .int .i64 i] w (ReadP w d i) := by
  have HR := Lib.hid (code_reach w B bm n d i h)
  by_cases hr : reachV d i = 0
  · obtain ⟨h1, h2, _⟩ := reach_ok hr
    obtain ⟨k, rfl⟩ : ∃ k : Nat, i = (k : Int) := ⟨i.toNat, by omega⟩
    have hk : k < d.many := by omega
    have hm := h.2.2.1
    obtain ⟨_, c1, _⟩ := h.cells
    obtain ⟨l, hl⟩ : ∃ l, l = d.S k := ⟨_, rfl⟩
    have hlen : l.length = 64 := by obtain ⟨_, ⟨D, _, h2⟩, _⟩ := h; rw [hl]; exact (h2 k hk).2
    have HL := Lib.hid hl
    have HP : Hid (PagesD w bm n d) := Lib.hid h.2.1
    have HZ := Lib.hid hr
    rw [hr] at HR
    clear h hr h1 h2 hl
    go_enter Try.func47, Try.ntmps47
    go_wp2_with (first
      | (go_at_call 62; refine HR.out.mono ?_; rintro e w1 ⟨rfl, rfl⟩)
      | (at_lookup; refine wpList_look_page rfl _ _ rfl HP.out k hk hm rfl rfl ?_; rw [← HL.out]; (try simp only [Act.put, List.setIfInBounds_toArray, List.set_cons_zero, List.set_cons_succ]))
      | ((with_reducible refine wpList_alloc_page pageS (o := ⟨some 7, _, _, _, _, _⟩) ?a1 ?a2 ?_); (case a1 => rfl); (case a2 => rfl); (try simp only [Act.put, List.setIfInBounds_toArray, List.set_cons_zero, List.set_cons_succ]))
      | ((with_reducible refine wpList_store_page pageS (o := ⟨none, _, _, _, _, _⟩) ?a1 (.tmp 7) (.tmp 19) ?a2 w.heap.size ?a3 l hlen ?a4 _ ?a5 _ (heap_alloc_new w _) ?_); (case a1 => rfl); (case a2 => rfl); (case a3 => rfl); (case a4 => rfl); (case a5 => simp [zeros]); (try simp only [Act.put])))
    go_ret2
    refine .inr ⟨HZ.out, rfl, ?_, below_setRow ((Below.refl _ w).alloc (Nat.le_refl _) _) (Nat.le_refl _) _⟩
    rw [Int.toNat_natCast, ← HL.out]
    exact txt_page (setRow_heap _ _ _ _ _ _ (heap_alloc_new w _))
  · have HZ := Lib.hid hr
    have hb : (reachV d i == 0) = false := by simpa using hr
    clear h hr
    generalize hv : reachV d i = v at *
    go_enter Try.func47, Try.ntmps47
    go_wp2_with (go_at_call 62; refine HR.out.mono ?_; rintro e w1 ⟨rfl, rfl⟩)
    go_ret2
    exact .inl ⟨by rw [hv]; exact HZ.out, by rw [hv]; rfl, rfl⟩

theorem write_post {w w' : World} {B bm n : Nat} {d : DiskV} {i : Nat} {m : Text} (h : Dsk w' B bm n (d.lay i m) ∧ ChgD w w' B bm) (j : Nat) (x : Value) (d' : DiskV) (hc : (cellsD bm (d.lay i m)).setIfInBounds j x = cellsD bm d')
    (hm : d'.many = d.many) (hS : d'.S = (d.lay i m).S) : Dsk (w'.setCell ⟨B, j, none⟩ x) B bm n d' ∧ ChgD w (w'.setCell ⟨B, j, none⟩ x) B bm := by
  have := h.1.set j x hc hm hS
  exact ⟨this.1, h.2.trans this.2⟩
set_option maxHeartbeats 1600000 in
theorem code_write (w : World) (B bm n : Nat) (d : DiskV) (i : Int) (h : Dsk w B bm n d) (hn : n < maxLen) (ho : OkD d) (A : Option Addr) (c : Nat) (m : Text) (hc : m.length ≤ c) (hT : Txt w A m) (hw63 : d.writes < 9223372036854775807) :
    Calls Try.prog 27 #[.pointer (some ⟨B, 0, none⟩), .int .i64 i, .slice A m.length c] w fun e w' => e = .returned (.int .i64 (writeE d i m)) ∧ Dsk w' B bm (n + 1) (writeD d i m) ∧ ChgD w w' B bm := by
  have HR := Lib.hid (code_reach w B bm n d i h)
  by_cases hr : reachV d i = 0
  · obtain ⟨h1, h2, hdead⟩ := reach_ok hr
    obtain ⟨k, rfl⟩ : ∃ k : Nat, i = (k : Int) := ⟨i.toNat, by omega⟩
    have hk : k < d.many := by omega
    by_cases hl : m.length = 64
    · have hl' : (m.length : Int) = 64 := by omega
      have HZ := Lib.hid hr
      have HE : Hid (writeE d k m = if d.set = true ∧ d.after = 0 then 32 else 0) := Lib.hid (by unfold writeE; rw [if_neg (by omega), if_neg (by omega)])
      have HW : Hid (writeD d k m = if d.set = true ∧ d.after = 0 then { d.lay k (m.take d.torn.toNat) with dead := true, set := false, after := 0, torn := 0 } else { d.lay k m with writes := d.writes + 1, after := if d.set = true then d.after - 1 else d.after }) :=
        Lib.hid (by unfold writeD; rw [if_neg (by omega), if_neg (by omega), Int.toNat_natCast])
      obtain ⟨o1, o2, o3, o4, o5⟩ := ho
      obtain ⟨t, htt⟩ : ∃ t : Nat, d.torn = (t : Int) := ⟨d.torn.toNat, by omega⟩
      have htl : t ≤ m.length := by omega
      obtain ⟨_, c1, c2, c3, c4, c5, c6⟩ := h.cells
      obtain ⟨a, rfl, _⟩ := hT.at_ (k := 0) (by omega)
      have HR0 : Hid (Calls Try.prog 62 #[.pointer (some ⟨B, 0, none⟩), .int .i64 k] w fun e w' => e = .returned (.int .i64 0) ∧ w = w') := by rw [hr] at HR; exact HR
      clear HR
      by_cases hs : d.set = true ∧ d.after = 0
      · obtain ⟨hs1, hs2⟩ := hs
        rw [if_pos ⟨hs1, hs2⟩] at HE HW
        have HP : Hid (Calls Try.prog 63 #[.pointer (some ⟨B, 0, none⟩), .int .i64 k, .slice (some a) t c] w fun e w' => (∃ v, e = .returned v) ∧ (Dsk w' B bm (n + 1) (d.lay k (m.take t)) ∧ ChgD w w' B bm) ∧
            (w'.cell? ⟨B, 2, none⟩ = some (.bool d.dead) ∧ w'.cell? ⟨B, 3, none⟩ = some (.bool d.set) ∧ w'.cell? ⟨B, 4, none⟩ = some (.int .i64 d.after) ∧ w'.cell? ⟨B, 5, none⟩ = some (.int .i64 d.torn)) ∧
            (w'.frozen? ⟨B, 2, none⟩ = false ∧ w'.frozen? ⟨B, 3, none⟩ = false ∧ w'.frozen? ⟨B, 4, none⟩ = false ∧ w'.frozen? ⟨B, 5, none⟩ = false)) := Lib.hid (by
          have hlt : (m.take t).length = t := by rw [List.length_take]; omega
          have := code_dput w B bm n d h k hk hn (some a) c (m.take t) (hT.take t)
          rw [hlt] at this
          refine this.mono fun e w' ⟨h1, h2, h3⟩ => ⟨h1, ⟨h2, h3⟩, ?_, ?_⟩
          · obtain ⟨_, _, x2, x3, x4, x5, _⟩ := h2.cells
            exact ⟨x2, x3, x4, x5⟩
          · exact ⟨h2.frozen 2, h2.frozen 3, h2.frozen 4, h2.frozen 5⟩)
        have htc : (t : Int) ≤ (c : Int) := by omega
        rw [htt] at c5
        rw [hs1] at c3
        rw [hs2] at c4
        clear hr h hT h1 h2 hs1 hs2
        go_enter Try.func27, Try.ntmps27
        go_wp2_with (first
          | (go_at_call 62; refine HR0.out.mono ?_; rintro e w1 ⟨rfl, rfl⟩)
          | (go_at_call 63; refine HP.out.mono ?_; rintro e w1 ⟨⟨v, rfl⟩, hq, ⟨y2, y3, y4, y5⟩, ⟨g2, g3, g4, g5⟩⟩; have HQ := Lib.hid hq; clear hq))
        go_ret
        have H2 := HQ.out.1.set (d' := { d.lay k (m.take t) with dead := true }) 2 (.bool true) rfl rfl rfl
        have H3 := H2.1.set (d' := { d.lay k (m.take t) with dead := true, set := false }) 3 (.bool false) rfl rfl rfl
        have H4 := H3.1.set (d' := { d.lay k (m.take t) with dead := true, set := false, after := 0 }) 4 (.int .i64 0) rfl rfl rfl
        have H5 := H4.1.set (d' := { d.lay k (m.take t) with dead := true, set := false, after := 0, torn := 0 }) 5 (.int .i64 0) rfl rfl rfl
        have e : d.torn.toNat = t := by omega
        refine ⟨ret_int HE.out.symm, ?_, (((HQ.out.2.trans H2.2).trans H3.2).trans H4.2).trans H5.2⟩
        rw [HW.out, e]
        exact H5.1
      · rw [if_neg hs] at HE HW
        rcases Bool.eq_false_or_eq_true d.set with hs1 | hs1
        · have ha : d.after ≠ 0 := fun h0 => hs ⟨hs1, h0⟩
          rw [if_pos hs1] at HW
          have HP : Hid (Calls Try.prog 63 #[.pointer (some ⟨B, 0, none⟩), .int .i64 k, .slice (some a) 64 c] w fun e w' => (∃ v, e = .returned v) ∧ (Dsk w' B bm (n + 1) (d.lay k m) ∧ ChgD w w' B bm) ∧
              (w'.cell? ⟨B, 3, none⟩ = some (.bool true) ∧ w'.cell? ⟨B, 4, none⟩ = some (.int .i64 d.after) ∧ w'.cell? ⟨B, 6, none⟩ = some (.int .i64 d.writes)) ∧
              (w'.frozen? ⟨B, 4, none⟩ = false ∧ w'.frozen? ⟨B, 6, none⟩ = false)) := Lib.hid (by
            have := code_dput w B bm n d h k hk hn (some a) c m hT
            rw [hl] at this
            refine this.mono fun e w' ⟨h1, h2, h3⟩ => ⟨h1, ⟨h2, h3⟩, ?_, ?_⟩
            · obtain ⟨_, _, x2, x3, x4, x5, x6⟩ := h2.cells
              have x3' : w'.cell? ⟨B, 3, none⟩ = some (.bool d.set) := x3
              rw [hs1] at x3'
              exact ⟨x3', x4, x6⟩
            · exact ⟨h2.frozen 4, h2.frozen 6⟩)
          rw [hs1] at c3
          have hb0 : (d.after == 0) = false := by simpa using ha
          have ha1 : 0 < d.after := by omega
          clear hr h hT h1 h2 hs hs1 ha
          go_enter Try.func27, Try.ntmps27
          go_wp2_with (first
            | (go_at_call 62; refine HR0.out.mono ?_; rintro e w1 ⟨rfl, rfl⟩)
            | (go_at_call 63; refine HP.out.mono ?_; rintro e w1 ⟨⟨v, rfl⟩, hq, ⟨y3, y4, y6⟩, ⟨g4, g6⟩⟩; have HQ := Lib.hid hq; clear hq))
          go_ret
          have H6 := HQ.out.1.set (d' := { d.lay k m with writes := d.writes + 1 }) 6 (.int .i64 (d.writes + 1)) rfl rfl rfl
          have H4 := H6.1.set (d' := { d.lay k m with writes := d.writes + 1, after := d.after - 1 }) 4 (.int .i64 (d.after - 1)) rfl rfl rfl
          refine ⟨ret_int HE.out.symm, ?_, (HQ.out.2.trans H6.2).trans H4.2⟩
          rw [HW.out]
          exact H4.1
        · rw [if_neg (by simp [hs1])] at HW
          have HP : Hid (Calls Try.prog 63 #[.pointer (some ⟨B, 0, none⟩), .int .i64 k, .slice (some a) 64 c] w fun e w' => (∃ v, e = .returned v) ∧ (Dsk w' B bm (n + 1) (d.lay k m) ∧ ChgD w w' B bm) ∧
              (w'.cell? ⟨B, 3, none⟩ = some (.bool false) ∧ w'.cell? ⟨B, 4, none⟩ = some (.int .i64 d.after) ∧ w'.cell? ⟨B, 6, none⟩ = some (.int .i64 d.writes)) ∧
              (w'.frozen? ⟨B, 4, none⟩ = false ∧ w'.frozen? ⟨B, 6, none⟩ = false)) := Lib.hid (by
            have := code_dput w B bm n d h k hk hn (some a) c m hT
            rw [hl] at this
            refine this.mono fun e w' ⟨h1, h2, h3⟩ => ⟨h1, ⟨h2, h3⟩, ?_, ?_⟩
            · obtain ⟨_, _, x2, x3, x4, x5, x6⟩ := h2.cells
              have x3' : w'.cell? ⟨B, 3, none⟩ = some (.bool d.set) := x3
              rw [hs1] at x3'
              exact ⟨x3', x4, x6⟩
            · exact ⟨h2.frozen 4, h2.frozen 6⟩)
          rw [hs1] at c3
          clear hr h hT h1 h2 hs hs1
          go_enter Try.func27, Try.ntmps27
          go_wp2_with (first
            | (go_at_call 62; refine HR0.out.mono ?_; rintro e w1 ⟨rfl, rfl⟩)
            | (go_at_call 63; refine HP.out.mono ?_; rintro e w1 ⟨⟨v, rfl⟩, hq, ⟨y3, y4, y6⟩, ⟨g4, g6⟩⟩; have HQ := Lib.hid hq; clear hq))
          go_ret
          have H6 := HQ.out.1.set (d' := { d.lay k m with writes := d.writes + 1 }) 6 (.int .i64 (d.writes + 1)) rfl rfl rfl
          refine ⟨ret_int HE.out.symm, ?_, HQ.out.2.trans H6.2⟩
          rw [HW.out]
          exact H6.1
    · have hl' : (m.length : Int) ≠ 64 := by omega
      have HE : Hid (writeE d k m = 2) := Lib.hid (by unfold writeE; rw [if_neg (by omega), if_pos hl])
      have HW : Hid (writeD d k m = d) := Lib.hid (by unfold writeD; rw [if_neg (by omega), if_pos hl])
      have hb : ((m.length : Int) == 64) = false := by simpa using hl'
      have HD := Lib.hid (And.intro h (ChgD.refl w B bm))
      rw [hr] at HR
      clear hr h hT h1 h2
      go_enter Try.func27, Try.ntmps27
      go_wp2_with (go_at_call 62; refine HR.out.mono ?_; rintro e w1 ⟨rfl, rfl⟩)
      go_ret
      exact ⟨ret_int HE.out.symm, by rw [HW.out]; exact ⟨HD.out.1.1, HD.out.1.2.1.mono (by omega), HD.out.1.2.2⟩, HD.out.2⟩
  · have HE : Hid (writeE d i m = reachV d i) := Lib.hid (by unfold writeE; rw [if_pos hr])
    have HW : Hid (writeD d i m = d) := Lib.hid (by unfold writeD; rw [if_pos hr])
    have hb : (reachV d i == 0) = false := by simpa using hr
    have HD := Lib.hid (And.intro h (ChgD.refl w B bm))
    clear h hr hT
    generalize reachV d i = v at *
    go_enter Try.func27, Try.ntmps27
    go_wp2_with (go_at_call 62; refine HR.out.mono ?_; rintro e w1 ⟨rfl, rfl⟩)
    go_ret
    exact ⟨ret_int HE.out.symm, by rw [HW.out]; exact ⟨HD.out.1.1, HD.out.1.2.1.mono (by omega), HD.out.1.2.2⟩, HD.out.2⟩
end Go.Proofs.Ytmgonokhgijgoaa
