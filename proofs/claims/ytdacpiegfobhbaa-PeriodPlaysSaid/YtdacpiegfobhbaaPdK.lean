/- The document's clock: closed, filed. -/
import Derived.Test.YtdacpiegfobhbaaPdJ
namespace Go.Proofs.Ytdacpiegfobhbaa
open Go.RowKit
set_option maxRecDepth 100000
set_option linter.unusedSimpArgs false
set_option linter.unusedVariables false

theorem put5_row {w : World} {g : Nat} {t : TypeId} {a b c d e : Value} (a' b' c' d' e' : Value) (h : w.heap[g]? = some (.cells #[a, b, c, d, e] t (0, 0))) : (((((w.setCell ⟨g, 0, none⟩ a').setCell ⟨g, 1, none⟩ b').setCell ⟨g, 2, none⟩ c').setCell ⟨g, 3, none⟩ d').setCell ⟨g, 4, none⟩ e').heap[g]? = some (.cells #[a', b', c', d', e'] t (0, 0)) := by
  have h1 : (w.setCell ⟨g, 0, none⟩ a').heap[g]? = some (.cells #[a', b, c, d, e] t (0, 0)) := heap_setCell_same w g 0 _ t a' h
  have h2 : ((w.setCell ⟨g, 0, none⟩ a').setCell ⟨g, 1, none⟩ b').heap[g]? = some (.cells #[a', b', c, d, e] t (0, 0)) := heap_setCell_same _ g 1 _ t b' h1
  have h3 : (((w.setCell ⟨g, 0, none⟩ a').setCell ⟨g, 1, none⟩ b').setCell ⟨g, 2, none⟩ c').heap[g]? = some (.cells #[a', b', c', d, e] t (0, 0)) := heap_setCell_same _ g 2 _ t c' h2
  have h4 : ((((w.setCell ⟨g, 0, none⟩ a').setCell ⟨g, 1, none⟩ b').setCell ⟨g, 2, none⟩ c').setCell ⟨g, 3, none⟩ d').heap[g]? = some (.cells #[a', b', c', d', e] t (0, 0)) := heap_setCell_same _ g 3 _ t d' h3
  exact heap_setCell_same _ g 4 _ t e' h4
theorem below_put5 {B : Nat} {w W : World} {g : Nat} {a b c d e : Value} (h : Below B w W) (hB : B ≤ g) : Below B w (((((W.setCell ⟨g, 0, none⟩ a).setCell ⟨g, 1, none⟩ b).setCell ⟨g, 2, none⟩ c).setCell ⟨g, 3, none⟩ d).setCell ⟨g, 4, none⟩ e) := ((((h.setCell (p := ⟨g, 0, none⟩) hB a).setCell (p := ⟨g, 1, none⟩) hB b).setCell (p := ⟨g, 2, none⟩) hB c).setCell (p := ⟨g, 3, none⟩) hB d).setCell (p := ⟨g, 4, none⟩) hB e
theorem frozen5_row {w : World} {g : Nat} {a b c d e : Value} {t : TypeId} (q : w.heap[g]? = some (.cells #[a, b, c, d, e] t (0, 0))) : w.frozen? ⟨g, 0, none⟩ = false ∧ w.frozen? ⟨g, 1, none⟩ = false ∧ w.frozen? ⟨g, 2, none⟩ = false ∧ w.frozen? ⟨g, 3, none⟩ = false ∧ w.frozen? ⟨g, 4, none⟩ = false := ⟨frozen_of_row _ _ 0 _ _ q, frozen_of_row _ _ 1 _ _ q, frozen_of_row _ _ 2 _ _ q, frozen_of_row _ _ 3 _ _ q, frozen_of_row _ _ 4 _ _ q⟩
theorem load_clk (w : World) (g : Nat) (a b c d e : Value) (t : TypeId) (h : w.heap[g]? = some (.cells #[a, b, c, d, e] t (0, 0))) : (loadVar 31 ⟨g, 0, none⟩).run Try.prog w = .ok (.agg #[a, b, c, d, e]) w :=
  run_loadVar_row w g t 31 #[a, b, c, d, e] (0, 0) _ h Try.underlying31 rfl (by kernel_rfl)
theorem results_cell_of2 {fn : Func} {p u : Tmp} {ty : TypeId} (h : fn.results = #[.cell p ty, .tmp u]) (tmps : Array Value) (W : World) (g : Nat) (v x : Value) (hp : tmps.getD p undef = .pointer (some ⟨g, 0, none⟩)) (hx : tmps.getD u undef = x) (hr : (loadVar ty ⟨g, 0, none⟩).run Try.prog W = .ok v W) :
    (results fn tmps).run Try.prog W = .ok (.tuple #[v, x]) W := by
  have hp' : tmps[p]?.getD undef = .pointer (some ⟨g, 0, none⟩) := by simpa [Array.getD_eq_getD_getElem?] using hp
  have hy' : tmps[u]?.getD undef = x := by simpa [Array.getD_eq_getD_getElem?] using hx
  have ha : (asAddr (tmps[p]?.getD undef)).run Try.prog W = .ok ⟨g, 0, none⟩ W := by rw [hp']; rfl
  simp [results, h, Sem.run_bind, ha, hr, hy']
theorem far_cell {w : World} {g k j : Nat} {v : Value} {o : Obj} (h : w.heap[k]? = some o) (hk : k ≠ g) : (w.setCell ⟨g, j, none⟩ v).heap[k]? = some o := (heap_setCell_other _ ⟨g, j, none⟩ k v hk).trans h
theorem cl_noK {c : Ck} {k y i : Int} (h : ¬ c.clE k y i = 0) : c.cl k y i = c := by unfold Ck.cl; rw [if_neg h]
theorem fi_noK {c : Ck} {k y i : Int} (h : ¬ c.fiE k y i = 0) : c.fi k y i = c := by unfold Ck.fi; rw [if_neg h]
set_option maxHeartbeats 2000000 in
theorem refcl_0 (w : World) (c0 c1 c2 a b k y i n : Int) 
    (hs : ∀ W, Calls Try.prog 20 #[.agg #[.int .i64 c0, .int .i64 c1, .int .i64 c2, .int .i64 a, .int .i64 b], .agg #[.int .i64 k, .int .i64 y, .int .i64 i]] W fun e w' => e = .returned (.int .i64 0) ∧ Below W.heap.size W w')
    (hp : ∀ W, Calls Try.prog 35 #[.agg #[.int .i64 c0, .int .i64 c1, .int .i64 c2, .int .i64 a, .int .i64 b], .agg #[.int .i64 k, .int .i64 y, .int .i64 i]] W fun e w' => e = .returned (.int .i64 n) ∧ Below W.heap.size W w') :
    Calls Try.prog 13 #[.agg #[.int .i64 c0, .int .i64 c1, .int .i64 c2, .int .i64 a, .int .i64 b], .agg #[.int .i64 k, .int .i64 y, .int .i64 i]] w fun e w' => e = .returned (.tuple #[.agg #[.int .i64 c0, .int .i64 c1, .int .i64 c2, .int .i64 a, .int .i64 b], .int .i64 2]) ∧ Below w.heap.size w w' := by
  have HSt := Lib.hid hs
  have HPl := Lib.hid hp
  obtain ⟨W0, hW0⟩ : ∃ W0, W0 = ((w.alloc (.cells #[.int .i64 c0, .int .i64 c1, .int .i64 c2, .int .i64 a, .int .i64 b] 31)).alloc (.cells #[.int .i64 k, .int .i64 y, .int .i64 i] 24)).alloc (.cells #[.int .i64 0, .int .i64 0, .int .i64 0, .int .i64 0, .int .i64 0] 31) := ⟨_, rfl⟩
  have b1 := below_alloc (w.alloc (.cells #[.int .i64 c0, .int .i64 c1, .int .i64 c2, .int .i64 a, .int .i64 b] 31)) (.cells #[.int .i64 k, .int .i64 y, .int .i64 i] 24)
  have b2 := below_alloc ((w.alloc (.cells #[.int .i64 c0, .int .i64 c1, .int .i64 c2, .int .i64 a, .int .i64 b] 31)).alloc (.cells #[.int .i64 k, .int .i64 y, .int .i64 i] 24)) (.cells #[.int .i64 0, .int .i64 0, .int .i64 0, .int .i64 0, .int .i64 0] 31)
  have HR2 : Hid (W0.heap[w.heap.size]? = some (.cells #[.int .i64 c0, .int .i64 c1, .int .i64 c2, .int .i64 a, .int .i64 b] 31 (0, 0))) := Lib.hid (by rw [hW0]; exact heap_on b2 (heap_on b1 (heap_alloc_new w (.cells #[.int .i64 c0, .int .i64 c1, .int .i64 c2, .int .i64 a, .int .i64 b] 31))))
  have HR3 : Hid (W0.heap[w.heap.size + 1]? = some (.cells #[.int .i64 k, .int .i64 y, .int .i64 i] 24 (0, 0))) := Lib.hid (by rw [hW0]; exact heap_on b2 (heap_alloc_new2 w (.cells #[.int .i64 c0, .int .i64 c1, .int .i64 c2, .int .i64 a, .int .i64 b] 31) (.cells #[.int .i64 k, .int .i64 y, .int .i64 i] 24)))
  have HR4 : Hid (W0.heap[w.heap.size + 1 + 1]? = some (.cells #[.int .i64 0, .int .i64 0, .int .i64 0, .int .i64 0, .int .i64 0] 31 (0, 0))) := Lib.hid (by
    rw [hW0]
    have := heap_alloc_new ((w.alloc (.cells #[.int .i64 c0, .int .i64 c1, .int .i64 c2, .int .i64 a, .int .i64 b] 31)).alloc (.cells #[.int .i64 k, .int .i64 y, .int .i64 i] 24)) (.cells #[.int .i64 0, .int .i64 0, .int .i64 0, .int .i64 0, .int .i64 0] 31)
    simpa using this)
  have HB0 : Hid (Below w.heap.size w W0) := Lib.hid (by rw [hW0]; exact below_then (below_then (below_alloc _ _) b1) b2)
  clear hs hp b1 b2 
  go_enter Try.func13, Try.ntmps13
  go_wp2_with (go_at_call 20; rw [← hW0]; refine (HSt.out _).mono ?_; rintro e w1 ⟨rfl, hb⟩; have HB1 := Lib.hid (below_then HB0.out hb); have HR2a := Lib.hid (heap_on hb HR2.out); have HR3a := Lib.hid (heap_on hb HR3.out); have HR4a := Lib.hid (heap_on hb HR4.out); clear hb hW0; refine Stop.out ?_)
  unfold Stop
  clear HR2 HR3 HR4 HB0
  obtain ⟨x0, x1, x2, x3, x4⟩ := cells5_row HR2a.out
  obtain ⟨y0, y1, y2⟩ := cells3_row HR3a.out
  obtain ⟨z0, z1, z2, z3, z4⟩ := frozen5_row HR4a.out
  obtain ⟨r0, r1, r2, r3, r4⟩ := cells5_row HR4a.out
  go_wp2
  exact bodyPost_ret (results_cell_of2 rfl _ _ (w.heap.size + 1 + 1) _ _ rfl rfl (load_clk _ _ _ _ _ _ _ _ (put5_row (.int .i64 c0) (.int .i64 c1) (.int .i64 c2) (.int .i64 a) (.int .i64 b) HR4a.out))) rfl ⟨rfl, below_put5 HB1.out (by omega)⟩
set_option maxHeartbeats 2000000 in
theorem refcl_2 (w : World) (c0 c1 c2 a b k y i n : Int) 
    (hs : ∀ W, Calls Try.prog 20 #[.agg #[.int .i64 c0, .int .i64 c1, .int .i64 c2, .int .i64 a, .int .i64 b], .agg #[.int .i64 k, .int .i64 y, .int .i64 i]] W fun e w' => e = .returned (.int .i64 2) ∧ Below W.heap.size W w')
    (hp : ∀ W, Calls Try.prog 35 #[.agg #[.int .i64 c0, .int .i64 c1, .int .i64 c2, .int .i64 a, .int .i64 b], .agg #[.int .i64 k, .int .i64 y, .int .i64 i]] W fun e w' => e = .returned (.int .i64 n) ∧ Below W.heap.size W w') :
    Calls Try.prog 13 #[.agg #[.int .i64 c0, .int .i64 c1, .int .i64 c2, .int .i64 a, .int .i64 b], .agg #[.int .i64 k, .int .i64 y, .int .i64 i]] w fun e w' => e = .returned (.tuple #[.agg #[.int .i64 c0, .int .i64 c1, .int .i64 c2, .int .i64 a, .int .i64 b], .int .i64 70]) ∧ Below w.heap.size w w' := by
  have HSt := Lib.hid hs
  have HPl := Lib.hid hp
  obtain ⟨W0, hW0⟩ : ∃ W0, W0 = ((w.alloc (.cells #[.int .i64 c0, .int .i64 c1, .int .i64 c2, .int .i64 a, .int .i64 b] 31)).alloc (.cells #[.int .i64 k, .int .i64 y, .int .i64 i] 24)).alloc (.cells #[.int .i64 0, .int .i64 0, .int .i64 0, .int .i64 0, .int .i64 0] 31) := ⟨_, rfl⟩
  have b1 := below_alloc (w.alloc (.cells #[.int .i64 c0, .int .i64 c1, .int .i64 c2, .int .i64 a, .int .i64 b] 31)) (.cells #[.int .i64 k, .int .i64 y, .int .i64 i] 24)
  have b2 := below_alloc ((w.alloc (.cells #[.int .i64 c0, .int .i64 c1, .int .i64 c2, .int .i64 a, .int .i64 b] 31)).alloc (.cells #[.int .i64 k, .int .i64 y, .int .i64 i] 24)) (.cells #[.int .i64 0, .int .i64 0, .int .i64 0, .int .i64 0, .int .i64 0] 31)
  have HR2 : Hid (W0.heap[w.heap.size]? = some (.cells #[.int .i64 c0, .int .i64 c1, .int .i64 c2, .int .i64 a, .int .i64 b] 31 (0, 0))) := Lib.hid (by rw [hW0]; exact heap_on b2 (heap_on b1 (heap_alloc_new w (.cells #[.int .i64 c0, .int .i64 c1, .int .i64 c2, .int .i64 a, .int .i64 b] 31))))
  have HR3 : Hid (W0.heap[w.heap.size + 1]? = some (.cells #[.int .i64 k, .int .i64 y, .int .i64 i] 24 (0, 0))) := Lib.hid (by rw [hW0]; exact heap_on b2 (heap_alloc_new2 w (.cells #[.int .i64 c0, .int .i64 c1, .int .i64 c2, .int .i64 a, .int .i64 b] 31) (.cells #[.int .i64 k, .int .i64 y, .int .i64 i] 24)))
  have HR4 : Hid (W0.heap[w.heap.size + 1 + 1]? = some (.cells #[.int .i64 0, .int .i64 0, .int .i64 0, .int .i64 0, .int .i64 0] 31 (0, 0))) := Lib.hid (by
    rw [hW0]
    have := heap_alloc_new ((w.alloc (.cells #[.int .i64 c0, .int .i64 c1, .int .i64 c2, .int .i64 a, .int .i64 b] 31)).alloc (.cells #[.int .i64 k, .int .i64 y, .int .i64 i] 24)) (.cells #[.int .i64 0, .int .i64 0, .int .i64 0, .int .i64 0, .int .i64 0] 31)
    simpa using this)
  have HB0 : Hid (Below w.heap.size w W0) := Lib.hid (by rw [hW0]; exact below_then (below_then (below_alloc _ _) b1) b2)
  clear hs hp b1 b2 
  go_enter Try.func13, Try.ntmps13
  go_wp2_with (go_at_call 20; rw [← hW0]; refine (HSt.out _).mono ?_; rintro e w1 ⟨rfl, hb⟩; have HB1 := Lib.hid (below_then HB0.out hb); have HR2a := Lib.hid (heap_on hb HR2.out); have HR3a := Lib.hid (heap_on hb HR3.out); have HR4a := Lib.hid (heap_on hb HR4.out); clear hb hW0; refine Stop.out ?_)
  unfold Stop
  clear HR2 HR3 HR4 HB0
  obtain ⟨x0, x1, x2, x3, x4⟩ := cells5_row HR2a.out
  obtain ⟨y0, y1, y2⟩ := cells3_row HR3a.out
  obtain ⟨z0, z1, z2, z3, z4⟩ := frozen5_row HR4a.out
  obtain ⟨r0, r1, r2, r3, r4⟩ := cells5_row HR4a.out
  go_wp2
  exact bodyPost_ret (results_cell_of2 rfl _ _ (w.heap.size + 1 + 1) _ _ rfl rfl (load_clk _ _ _ _ _ _ _ _ (put5_row (.int .i64 c0) (.int .i64 c1) (.int .i64 c2) (.int .i64 a) (.int .i64 b) HR4a.out))) rfl ⟨rfl, below_put5 HB1.out (by omega)⟩
set_option maxHeartbeats 2000000 in
theorem refcl_3 (w : World) (c0 c1 c2 a b k y i n : Int) 
    (hs : ∀ W, Calls Try.prog 20 #[.agg #[.int .i64 c0, .int .i64 c1, .int .i64 c2, .int .i64 a, .int .i64 b], .agg #[.int .i64 k, .int .i64 y, .int .i64 i]] W fun e w' => e = .returned (.int .i64 3) ∧ Below W.heap.size W w')
    (hp : ∀ W, Calls Try.prog 35 #[.agg #[.int .i64 c0, .int .i64 c1, .int .i64 c2, .int .i64 a, .int .i64 b], .agg #[.int .i64 k, .int .i64 y, .int .i64 i]] W fun e w' => e = .returned (.int .i64 n) ∧ Below W.heap.size W w') :
    Calls Try.prog 13 #[.agg #[.int .i64 c0, .int .i64 c1, .int .i64 c2, .int .i64 a, .int .i64 b], .agg #[.int .i64 k, .int .i64 y, .int .i64 i]] w fun e w' => e = .returned (.tuple #[.agg #[.int .i64 c0, .int .i64 c1, .int .i64 c2, .int .i64 a, .int .i64 b], .int .i64 70]) ∧ Below w.heap.size w w' := by
  have HSt := Lib.hid hs
  have HPl := Lib.hid hp
  obtain ⟨W0, hW0⟩ : ∃ W0, W0 = ((w.alloc (.cells #[.int .i64 c0, .int .i64 c1, .int .i64 c2, .int .i64 a, .int .i64 b] 31)).alloc (.cells #[.int .i64 k, .int .i64 y, .int .i64 i] 24)).alloc (.cells #[.int .i64 0, .int .i64 0, .int .i64 0, .int .i64 0, .int .i64 0] 31) := ⟨_, rfl⟩
  have b1 := below_alloc (w.alloc (.cells #[.int .i64 c0, .int .i64 c1, .int .i64 c2, .int .i64 a, .int .i64 b] 31)) (.cells #[.int .i64 k, .int .i64 y, .int .i64 i] 24)
  have b2 := below_alloc ((w.alloc (.cells #[.int .i64 c0, .int .i64 c1, .int .i64 c2, .int .i64 a, .int .i64 b] 31)).alloc (.cells #[.int .i64 k, .int .i64 y, .int .i64 i] 24)) (.cells #[.int .i64 0, .int .i64 0, .int .i64 0, .int .i64 0, .int .i64 0] 31)
  have HR2 : Hid (W0.heap[w.heap.size]? = some (.cells #[.int .i64 c0, .int .i64 c1, .int .i64 c2, .int .i64 a, .int .i64 b] 31 (0, 0))) := Lib.hid (by rw [hW0]; exact heap_on b2 (heap_on b1 (heap_alloc_new w (.cells #[.int .i64 c0, .int .i64 c1, .int .i64 c2, .int .i64 a, .int .i64 b] 31))))
  have HR3 : Hid (W0.heap[w.heap.size + 1]? = some (.cells #[.int .i64 k, .int .i64 y, .int .i64 i] 24 (0, 0))) := Lib.hid (by rw [hW0]; exact heap_on b2 (heap_alloc_new2 w (.cells #[.int .i64 c0, .int .i64 c1, .int .i64 c2, .int .i64 a, .int .i64 b] 31) (.cells #[.int .i64 k, .int .i64 y, .int .i64 i] 24)))
  have HR4 : Hid (W0.heap[w.heap.size + 1 + 1]? = some (.cells #[.int .i64 0, .int .i64 0, .int .i64 0, .int .i64 0, .int .i64 0] 31 (0, 0))) := Lib.hid (by
    rw [hW0]
    have := heap_alloc_new ((w.alloc (.cells #[.int .i64 c0, .int .i64 c1, .int .i64 c2, .int .i64 a, .int .i64 b] 31)).alloc (.cells #[.int .i64 k, .int .i64 y, .int .i64 i] 24)) (.cells #[.int .i64 0, .int .i64 0, .int .i64 0, .int .i64 0, .int .i64 0] 31)
    simpa using this)
  have HB0 : Hid (Below w.heap.size w W0) := Lib.hid (by rw [hW0]; exact below_then (below_then (below_alloc _ _) b1) b2)
  clear hs hp b1 b2 
  go_enter Try.func13, Try.ntmps13
  go_wp2_with (go_at_call 20; rw [← hW0]; refine (HSt.out _).mono ?_; rintro e w1 ⟨rfl, hb⟩; have HB1 := Lib.hid (below_then HB0.out hb); have HR2a := Lib.hid (heap_on hb HR2.out); have HR3a := Lib.hid (heap_on hb HR3.out); have HR4a := Lib.hid (heap_on hb HR4.out); clear hb hW0; refine Stop.out ?_)
  unfold Stop
  clear HR2 HR3 HR4 HB0
  obtain ⟨x0, x1, x2, x3, x4⟩ := cells5_row HR2a.out
  obtain ⟨y0, y1, y2⟩ := cells3_row HR3a.out
  obtain ⟨z0, z1, z2, z3, z4⟩ := frozen5_row HR4a.out
  obtain ⟨r0, r1, r2, r3, r4⟩ := cells5_row HR4a.out
  go_wp2
  exact bodyPost_ret (results_cell_of2 rfl _ _ (w.heap.size + 1 + 1) _ _ rfl rfl (load_clk _ _ _ _ _ _ _ _ (put5_row (.int .i64 c0) (.int .i64 c1) (.int .i64 c2) (.int .i64 a) (.int .i64 b) HR4a.out))) rfl ⟨rfl, below_put5 HB1.out (by omega)⟩
set_option maxHeartbeats 2000000 in
theorem refcl_far (w : World) (c0 c1 c2 a b k y i n : Int) (hf : a < n)
    (hs : ∀ W, Calls Try.prog 20 #[.agg #[.int .i64 c0, .int .i64 c1, .int .i64 c2, .int .i64 a, .int .i64 b], .agg #[.int .i64 k, .int .i64 y, .int .i64 i]] W fun e w' => e = .returned (.int .i64 1) ∧ Below W.heap.size W w')
    (hp : ∀ W, Calls Try.prog 35 #[.agg #[.int .i64 c0, .int .i64 c1, .int .i64 c2, .int .i64 a, .int .i64 b], .agg #[.int .i64 k, .int .i64 y, .int .i64 i]] W fun e w' => e = .returned (.int .i64 n) ∧ Below W.heap.size W w') :
    Calls Try.prog 13 #[.agg #[.int .i64 c0, .int .i64 c1, .int .i64 c2, .int .i64 a, .int .i64 b], .agg #[.int .i64 k, .int .i64 y, .int .i64 i]] w fun e w' => e = .returned (.tuple #[.agg #[.int .i64 c0, .int .i64 c1, .int .i64 c2, .int .i64 a, .int .i64 b], .int .i64 71]) ∧ Below w.heap.size w w' := by
  have HSt := Lib.hid hs
  have HPl := Lib.hid hp
  obtain ⟨W0, hW0⟩ : ∃ W0, W0 = ((w.alloc (.cells #[.int .i64 c0, .int .i64 c1, .int .i64 c2, .int .i64 a, .int .i64 b] 31)).alloc (.cells #[.int .i64 k, .int .i64 y, .int .i64 i] 24)).alloc (.cells #[.int .i64 0, .int .i64 0, .int .i64 0, .int .i64 0, .int .i64 0] 31) := ⟨_, rfl⟩
  have b1 := below_alloc (w.alloc (.cells #[.int .i64 c0, .int .i64 c1, .int .i64 c2, .int .i64 a, .int .i64 b] 31)) (.cells #[.int .i64 k, .int .i64 y, .int .i64 i] 24)
  have b2 := below_alloc ((w.alloc (.cells #[.int .i64 c0, .int .i64 c1, .int .i64 c2, .int .i64 a, .int .i64 b] 31)).alloc (.cells #[.int .i64 k, .int .i64 y, .int .i64 i] 24)) (.cells #[.int .i64 0, .int .i64 0, .int .i64 0, .int .i64 0, .int .i64 0] 31)
  have HR2 : Hid (W0.heap[w.heap.size]? = some (.cells #[.int .i64 c0, .int .i64 c1, .int .i64 c2, .int .i64 a, .int .i64 b] 31 (0, 0))) := Lib.hid (by rw [hW0]; exact heap_on b2 (heap_on b1 (heap_alloc_new w (.cells #[.int .i64 c0, .int .i64 c1, .int .i64 c2, .int .i64 a, .int .i64 b] 31))))
  have HR3 : Hid (W0.heap[w.heap.size + 1]? = some (.cells #[.int .i64 k, .int .i64 y, .int .i64 i] 24 (0, 0))) := Lib.hid (by rw [hW0]; exact heap_on b2 (heap_alloc_new2 w (.cells #[.int .i64 c0, .int .i64 c1, .int .i64 c2, .int .i64 a, .int .i64 b] 31) (.cells #[.int .i64 k, .int .i64 y, .int .i64 i] 24)))
  have HR4 : Hid (W0.heap[w.heap.size + 1 + 1]? = some (.cells #[.int .i64 0, .int .i64 0, .int .i64 0, .int .i64 0, .int .i64 0] 31 (0, 0))) := Lib.hid (by
    rw [hW0]
    have := heap_alloc_new ((w.alloc (.cells #[.int .i64 c0, .int .i64 c1, .int .i64 c2, .int .i64 a, .int .i64 b] 31)).alloc (.cells #[.int .i64 k, .int .i64 y, .int .i64 i] 24)) (.cells #[.int .i64 0, .int .i64 0, .int .i64 0, .int .i64 0, .int .i64 0] 31)
    simpa using this)
  have HB0 : Hid (Below w.heap.size w W0) := Lib.hid (by rw [hW0]; exact below_then (below_then (below_alloc _ _) b1) b2)
  clear hs hp b1 b2 
  go_enter Try.func13, Try.ntmps13
  go_wp2_with (go_at_call 20; rw [← hW0]; refine (HSt.out _).mono ?_; rintro e w1 ⟨rfl, hb⟩; have HB1 := Lib.hid (below_then HB0.out hb); have HR2a := Lib.hid (heap_on hb HR2.out); have HR3a := Lib.hid (heap_on hb HR3.out); have HR4a := Lib.hid (heap_on hb HR4.out); clear hb hW0; refine Stop.out ?_)
  unfold Stop
  clear HR2 HR3 HR4 HB0
  obtain ⟨x0, x1, x2, x3, x4⟩ := cells5_row HR2a.out
  obtain ⟨y0, y1, y2⟩ := cells3_row HR3a.out
  obtain ⟨z0, z1, z2, z3, z4⟩ := frozen5_row HR4a.out
  obtain ⟨r0, r1, r2, r3, r4⟩ := cells5_row HR4a.out
  go_wp2_with fail
  refine wp_region_held_drew (S := fun W => W.cell? ⟨w.heap.size, 0, none⟩ = some (.int .i64 c0) ∧ W.cell? ⟨w.heap.size, 1, none⟩ = some (.int .i64 c1) ∧ W.cell? ⟨w.heap.size, 2, none⟩ = some (.int .i64 c2) ∧ W.cell? ⟨w.heap.size, 3, none⟩ = some (.int .i64 a) ∧ W.cell? ⟨w.heap.size, 4, none⟩ = some (.int .i64 b) ∧ W.cell? ⟨(w.heap.size + 1), 0, none⟩ = some (.int .i64 k) ∧ W.cell? ⟨(w.heap.size + 1), 1, none⟩ = some (.int .i64 y) ∧ W.cell? ⟨(w.heap.size + 1), 2, none⟩ = some (.int .i64 i)) (by kernel_rfl) ⟨x0, x1, x2, x3, x4, y0, y1, y2⟩ ?_
  intro hHeld
  have HBd := Lib.hid HB1.out.drew
  have HR2d : Hid (w1.drew.heap[w.heap.size]? = _) := Lib.hid HR2a.out
  have HR4d : Hid (w1.drew.heap[w.heap.size + 1 + 1]? = _) := Lib.hid HR4a.out
  clear x0 x1 x2 x3 x4 y0 y1 y2 z0 z1 z2 z3 z4 r0 r1 r2 r3 r4 HR2a HR3a HR4a HB1
  generalize w1.drew = wd at HBd HR2d HR4d hHeld ⊢
  (refine takeH (i := 0) (v := ?_) rfl (by kernel_rfl) (by kernel_rfl) (by kernel_rfl) (fun _ _ _ h => h) (Or.inl ⟨by rfl, ?_⟩) (by assumption) ?_; rotate_left; (focus ((intro wS hSw); (try dsimp only at hSw); obtain ⟨s0, s1, s2, s3, s4, s5, s6, s7⟩ := hSw; go_simp; (try with_reducible rfl); done)); (try simp only [Act.put, List.setIfInBounds_toArray, List.set_cons_zero, List.set_cons_succ]))
  (refine takeH (i := 1) (v := ?_) rfl (by kernel_rfl) (by kernel_rfl) (by kernel_rfl) (fun _ _ _ h => h) (Or.inl ⟨by rfl, ?_⟩) (by assumption) ?_; rotate_left; (focus ((intro wS hSw); (try dsimp only at hSw); obtain ⟨s0, s1, s2, s3, s4, s5, s6, s7⟩ := hSw; go_simp; (try with_reducible rfl); done)); (try simp only [Act.put, List.setIfInBounds_toArray, List.set_cons_zero, List.set_cons_succ]))
  (refine takeH (i := 3) (v := ?_) rfl (by kernel_rfl) (by kernel_rfl) (by kernel_rfl) (fun _ _ _ h => h) (Or.inl ⟨by rfl, ?_⟩) (by assumption) ?_; rotate_left; (focus ((intro wS hSw); (try dsimp only at hSw); obtain ⟨s0, s1, s2, s3, s4, s5, s6, s7⟩ := hSw; go_simp; (try with_reducible rfl); done)); (try simp only [Act.put, List.setIfInBounds_toArray, List.set_cons_zero, List.set_cons_succ]))
  (refine takeH (i := 4) (v := ?_) rfl (by kernel_rfl) (by kernel_rfl) (by kernel_rfl) (fun _ _ _ h => h) (Or.inl ⟨by rfl, ?_⟩) (by assumption) ?_; rotate_left; (focus ((intro wS hSw); (try dsimp only at hSw); obtain ⟨s0, s1, s2, s3, s4, s5, s6, s7⟩ := hSw; go_simp; (try with_reducible rfl); done)); (try simp only [Act.put, List.setIfInBounds_toArray, List.set_cons_zero, List.set_cons_succ]))
  refine aloneH (i := 2) rfl (by kernel_rfl) (fun K hK => ?_)
  rw [if_pos (by rfl)]
  go_simp; ((refine (HPl.out _).mono ?_); (rintro e w1 ⟨rfl, hb⟩); have HB1 := Lib.hid hb; clear hb; (try go_simp))
  refine hK.out _ _ (⟨cell_on HB1.out hHeld.1, cell_on HB1.out hHeld.2.1, cell_on HB1.out hHeld.2.2.1, cell_on HB1.out hHeld.2.2.2.1, cell_on HB1.out hHeld.2.2.2.2.1, cell_on HB1.out hHeld.2.2.2.2.2.1, cell_on HB1.out hHeld.2.2.2.2.2.2.1, cell_on HB1.out hHeld.2.2.2.2.2.2.2⟩) (fun hNew => ?_)
  clear hK K hHeld; (have hHeld := hNew); clear hNew; (try simp only [Act.put, List.setIfInBounds_toArray, List.set_cons_zero, List.set_cons_succ])
  (refine takeH (i := 5) (v := ?_) rfl (by kernel_rfl) (by kernel_rfl) (by kernel_rfl) (fun _ _ _ h => h) (Or.inl ⟨by rfl, ?_⟩) (by assumption) ?_; rotate_left; (focus ((intro wS hSw); (try dsimp only at hSw); obtain ⟨s0, s1, s2, s3, s4, s5, s6, s7⟩ := hSw; go_simp; (try with_reducible rfl); done)); (try simp only [Act.put, List.setIfInBounds_toArray, List.set_cons_zero, List.set_cons_succ]))
  refine wpAnyH_done (by kernel_rfl) ?_ _
  have HBz := Lib.hid (below_any HBd.out (Nat.le_refl _) HB1.out)
  have HR2z := Lib.hid (heap_on HB1.out HR2d.out)
  have HR4z := Lib.hid (heap_on HB1.out HR4d.out)
  clear hHeld HBd HR2d HR4d
  obtain ⟨x0, x1, x2, x3, x4⟩ := cells5_row HR2z.out
  obtain ⟨z0, z1, z2, z3, z4⟩ := frozen5_row HR4z.out
  obtain ⟨r0, r1, r2, r3, r4⟩ := cells5_row HR4z.out
  go_wp2
  exact bodyPost_ret (results_cell_of2 rfl _ _ (w.heap.size + 1 + 1) _ _ rfl rfl (load_clk _ _ _ _ _ _ _ _ (put5_row (.int .i64 c0) (.int .i64 c1) (.int .i64 c2) (.int .i64 a) (.int .i64 b) HR4z.out))) rfl ⟨rfl, below_put5 HBz.out (by omega)⟩
set_option maxHeartbeats 2000000 in
theorem refcl_ok (w : World) (c0 c1 c2 a b k y i n : Int) (hf : ¬ a < n) (hw : wrap64 (a + 1) = a + 1)
    (hs : ∀ W, Calls Try.prog 20 #[.agg #[.int .i64 c0, .int .i64 c1, .int .i64 c2, .int .i64 a, .int .i64 b], .agg #[.int .i64 k, .int .i64 y, .int .i64 i]] W fun e w' => e = .returned (.int .i64 1) ∧ Below W.heap.size W w')
    (hp : ∀ W, Calls Try.prog 35 #[.agg #[.int .i64 c0, .int .i64 c1, .int .i64 c2, .int .i64 a, .int .i64 b], .agg #[.int .i64 k, .int .i64 y, .int .i64 i]] W fun e w' => e = .returned (.int .i64 n) ∧ Below W.heap.size W w') :
    Calls Try.prog 13 #[.agg #[.int .i64 c0, .int .i64 c1, .int .i64 c2, .int .i64 a, .int .i64 b], .agg #[.int .i64 k, .int .i64 y, .int .i64 i]] w fun e w' => e = .returned (.tuple #[.agg #[.int .i64 c0, .int .i64 c1, .int .i64 c2, .int .i64 (a + 1), .int .i64 b], .int .i64 0]) ∧ Below w.heap.size w w' := by
  have HSt := Lib.hid hs
  have HPl := Lib.hid hp
  obtain ⟨W0, hW0⟩ : ∃ W0, W0 = ((w.alloc (.cells #[.int .i64 c0, .int .i64 c1, .int .i64 c2, .int .i64 a, .int .i64 b] 31)).alloc (.cells #[.int .i64 k, .int .i64 y, .int .i64 i] 24)).alloc (.cells #[.int .i64 0, .int .i64 0, .int .i64 0, .int .i64 0, .int .i64 0] 31) := ⟨_, rfl⟩
  have b1 := below_alloc (w.alloc (.cells #[.int .i64 c0, .int .i64 c1, .int .i64 c2, .int .i64 a, .int .i64 b] 31)) (.cells #[.int .i64 k, .int .i64 y, .int .i64 i] 24)
  have b2 := below_alloc ((w.alloc (.cells #[.int .i64 c0, .int .i64 c1, .int .i64 c2, .int .i64 a, .int .i64 b] 31)).alloc (.cells #[.int .i64 k, .int .i64 y, .int .i64 i] 24)) (.cells #[.int .i64 0, .int .i64 0, .int .i64 0, .int .i64 0, .int .i64 0] 31)
  have HR2 : Hid (W0.heap[w.heap.size]? = some (.cells #[.int .i64 c0, .int .i64 c1, .int .i64 c2, .int .i64 a, .int .i64 b] 31 (0, 0))) := Lib.hid (by rw [hW0]; exact heap_on b2 (heap_on b1 (heap_alloc_new w (.cells #[.int .i64 c0, .int .i64 c1, .int .i64 c2, .int .i64 a, .int .i64 b] 31))))
  have HR3 : Hid (W0.heap[w.heap.size + 1]? = some (.cells #[.int .i64 k, .int .i64 y, .int .i64 i] 24 (0, 0))) := Lib.hid (by rw [hW0]; exact heap_on b2 (heap_alloc_new2 w (.cells #[.int .i64 c0, .int .i64 c1, .int .i64 c2, .int .i64 a, .int .i64 b] 31) (.cells #[.int .i64 k, .int .i64 y, .int .i64 i] 24)))
  have HR4 : Hid (W0.heap[w.heap.size + 1 + 1]? = some (.cells #[.int .i64 0, .int .i64 0, .int .i64 0, .int .i64 0, .int .i64 0] 31 (0, 0))) := Lib.hid (by
    rw [hW0]
    have := heap_alloc_new ((w.alloc (.cells #[.int .i64 c0, .int .i64 c1, .int .i64 c2, .int .i64 a, .int .i64 b] 31)).alloc (.cells #[.int .i64 k, .int .i64 y, .int .i64 i] 24)) (.cells #[.int .i64 0, .int .i64 0, .int .i64 0, .int .i64 0, .int .i64 0] 31)
    simpa using this)
  have HB0 : Hid (Below w.heap.size w W0) := Lib.hid (by rw [hW0]; exact below_then (below_then (below_alloc _ _) b1) b2)
  clear hs hp b1 b2 
  go_enter Try.func13, Try.ntmps13
  go_wp2_with (go_at_call 20; rw [← hW0]; refine (HSt.out _).mono ?_; rintro e w1 ⟨rfl, hb⟩; have HB1 := Lib.hid (below_then HB0.out hb); have HR2a := Lib.hid (heap_on hb HR2.out); have HR3a := Lib.hid (heap_on hb HR3.out); have HR4a := Lib.hid (heap_on hb HR4.out); clear hb hW0; refine Stop.out ?_)
  unfold Stop
  clear HR2 HR3 HR4 HB0
  obtain ⟨x0, x1, x2, x3, x4⟩ := cells5_row HR2a.out
  obtain ⟨y0, y1, y2⟩ := cells3_row HR3a.out
  obtain ⟨z0, z1, z2, z3, z4⟩ := frozen5_row HR4a.out
  obtain ⟨r0, r1, r2, r3, r4⟩ := cells5_row HR4a.out
  go_wp2_with fail
  refine wp_region_held_drew (S := fun W => W.cell? ⟨w.heap.size, 0, none⟩ = some (.int .i64 c0) ∧ W.cell? ⟨w.heap.size, 1, none⟩ = some (.int .i64 c1) ∧ W.cell? ⟨w.heap.size, 2, none⟩ = some (.int .i64 c2) ∧ W.cell? ⟨w.heap.size, 3, none⟩ = some (.int .i64 a) ∧ W.cell? ⟨w.heap.size, 4, none⟩ = some (.int .i64 b) ∧ W.cell? ⟨(w.heap.size + 1), 0, none⟩ = some (.int .i64 k) ∧ W.cell? ⟨(w.heap.size + 1), 1, none⟩ = some (.int .i64 y) ∧ W.cell? ⟨(w.heap.size + 1), 2, none⟩ = some (.int .i64 i)) (by kernel_rfl) ⟨x0, x1, x2, x3, x4, y0, y1, y2⟩ ?_
  intro hHeld
  have HBd := Lib.hid HB1.out.drew
  have HR2d : Hid (w1.drew.heap[w.heap.size]? = _) := Lib.hid HR2a.out
  have HR4d : Hid (w1.drew.heap[w.heap.size + 1 + 1]? = _) := Lib.hid HR4a.out
  clear x0 x1 x2 x3 x4 y0 y1 y2 z0 z1 z2 z3 z4 r0 r1 r2 r3 r4 HR2a HR3a HR4a HB1
  generalize w1.drew = wd at HBd HR2d HR4d hHeld ⊢
  (refine takeH (i := 0) (v := ?_) rfl (by kernel_rfl) (by kernel_rfl) (by kernel_rfl) (fun _ _ _ h => h) (Or.inl ⟨by rfl, ?_⟩) (by assumption) ?_; rotate_left; (focus ((intro wS hSw); (try dsimp only at hSw); obtain ⟨s0, s1, s2, s3, s4, s5, s6, s7⟩ := hSw; go_simp; (try with_reducible rfl); done)); (try simp only [Act.put, List.setIfInBounds_toArray, List.set_cons_zero, List.set_cons_succ]))
  (refine takeH (i := 1) (v := ?_) rfl (by kernel_rfl) (by kernel_rfl) (by kernel_rfl) (fun _ _ _ h => h) (Or.inl ⟨by rfl, ?_⟩) (by assumption) ?_; rotate_left; (focus ((intro wS hSw); (try dsimp only at hSw); obtain ⟨s0, s1, s2, s3, s4, s5, s6, s7⟩ := hSw; go_simp; (try with_reducible rfl); done)); (try simp only [Act.put, List.setIfInBounds_toArray, List.set_cons_zero, List.set_cons_succ]))
  (refine takeH (i := 3) (v := ?_) rfl (by kernel_rfl) (by kernel_rfl) (by kernel_rfl) (fun _ _ _ h => h) (Or.inl ⟨by rfl, ?_⟩) (by assumption) ?_; rotate_left; (focus ((intro wS hSw); (try dsimp only at hSw); obtain ⟨s0, s1, s2, s3, s4, s5, s6, s7⟩ := hSw; go_simp; (try with_reducible rfl); done)); (try simp only [Act.put, List.setIfInBounds_toArray, List.set_cons_zero, List.set_cons_succ]))
  (refine takeH (i := 4) (v := ?_) rfl (by kernel_rfl) (by kernel_rfl) (by kernel_rfl) (fun _ _ _ h => h) (Or.inl ⟨by rfl, ?_⟩) (by assumption) ?_; rotate_left; (focus ((intro wS hSw); (try dsimp only at hSw); obtain ⟨s0, s1, s2, s3, s4, s5, s6, s7⟩ := hSw; go_simp; (try with_reducible rfl); done)); (try simp only [Act.put, List.setIfInBounds_toArray, List.set_cons_zero, List.set_cons_succ]))
  refine aloneH (i := 2) rfl (by kernel_rfl) (fun K hK => ?_)
  rw [if_pos (by rfl)]
  go_simp; ((refine (HPl.out _).mono ?_); (rintro e w1 ⟨rfl, hb⟩); have HB1 := Lib.hid hb; clear hb; (try go_simp))
  refine hK.out _ _ (⟨cell_on HB1.out hHeld.1, cell_on HB1.out hHeld.2.1, cell_on HB1.out hHeld.2.2.1, cell_on HB1.out hHeld.2.2.2.1, cell_on HB1.out hHeld.2.2.2.2.1, cell_on HB1.out hHeld.2.2.2.2.2.1, cell_on HB1.out hHeld.2.2.2.2.2.2.1, cell_on HB1.out hHeld.2.2.2.2.2.2.2⟩) (fun hNew => ?_)
  clear hK K hHeld; (have hHeld := hNew); clear hNew; (try simp only [Act.put, List.setIfInBounds_toArray, List.set_cons_zero, List.set_cons_succ])
  (refine takeH (i := 5) (v := ?_) rfl (by kernel_rfl) (by kernel_rfl) (by kernel_rfl) (fun _ _ _ h => h) (Or.inl ⟨by rfl, ?_⟩) (by assumption) ?_; rotate_left; (focus ((intro wS hSw); (try dsimp only at hSw); obtain ⟨s0, s1, s2, s3, s4, s5, s6, s7⟩ := hSw; go_simp; (try with_reducible rfl); done)); (try simp only [Act.put, List.setIfInBounds_toArray, List.set_cons_zero, List.set_cons_succ]))
  refine wpAnyH_done (by kernel_rfl) ?_ _
  have HBz := Lib.hid (below_any HBd.out (Nat.le_refl _) HB1.out)
  have HR2z := Lib.hid (heap_on HB1.out HR2d.out)
  have HR4z := Lib.hid (heap_on HB1.out HR4d.out)
  clear hHeld HBd HR2d HR4d
  obtain ⟨x0, x1, x2, x3, x4⟩ := cells5_row HR2z.out
  obtain ⟨z0, z1, z2, z3, z4⟩ := frozen5_row HR4z.out
  obtain ⟨r0, r1, r2, r3, r4⟩ := cells5_row HR4z.out
  obtain ⟨q0, q1, q2, q3, q4⟩ := frozen5_row HR2z.out
  go_wp2
  have h4 := far_cell (v := .int .i64 (a + 1)) (j := 3) HR4z.out (show w.heap.size + 1 + 1 ≠ w.heap.size by omega)
  exact bodyPost_ret (results_cell_of2 rfl _ _ (w.heap.size + 1 + 1) _ _ rfl rfl (load_clk _ _ _ _ _ _ _ _ (put5_row (.int .i64 c0) (.int .i64 c1) (.int .i64 c2) (.int .i64 (a + 1)) (.int .i64 b) h4))) rfl ⟨rfl, below_put5 (HBz.out.setCell (p := ⟨w.heap.size, 3, none⟩) (Nat.le_refl _) _) (by omega)⟩
set_option maxHeartbeats 2000000 in
theorem reffi_0 (w : World) (c0 c1 c2 a b k y i n : Int) 
    (hs : ∀ W, Calls Try.prog 20 #[.agg #[.int .i64 c0, .int .i64 c1, .int .i64 c2, .int .i64 a, .int .i64 b], .agg #[.int .i64 k, .int .i64 y, .int .i64 i]] W fun e w' => e = .returned (.int .i64 0) ∧ Below W.heap.size W w')
    (hp : ∀ W, Calls Try.prog 35 #[.agg #[.int .i64 c0, .int .i64 c1, .int .i64 c2, .int .i64 a, .int .i64 b], .agg #[.int .i64 k, .int .i64 y, .int .i64 i]] W fun e w' => e = .returned (.int .i64 n) ∧ Below W.heap.size W w') :
    Calls Try.prog 15 #[.agg #[.int .i64 c0, .int .i64 c1, .int .i64 c2, .int .i64 a, .int .i64 b], .agg #[.int .i64 k, .int .i64 y, .int .i64 i]] w fun e w' => e = .returned (.tuple #[.agg #[.int .i64 c0, .int .i64 c1, .int .i64 c2, .int .i64 a, .int .i64 b], .int .i64 2]) ∧ Below w.heap.size w w' := by
  have HSt := Lib.hid hs
  have HPl := Lib.hid hp
  obtain ⟨W0, hW0⟩ : ∃ W0, W0 = ((w.alloc (.cells #[.int .i64 c0, .int .i64 c1, .int .i64 c2, .int .i64 a, .int .i64 b] 31)).alloc (.cells #[.int .i64 k, .int .i64 y, .int .i64 i] 24)).alloc (.cells #[.int .i64 0, .int .i64 0, .int .i64 0, .int .i64 0, .int .i64 0] 31) := ⟨_, rfl⟩
  have b1 := below_alloc (w.alloc (.cells #[.int .i64 c0, .int .i64 c1, .int .i64 c2, .int .i64 a, .int .i64 b] 31)) (.cells #[.int .i64 k, .int .i64 y, .int .i64 i] 24)
  have b2 := below_alloc ((w.alloc (.cells #[.int .i64 c0, .int .i64 c1, .int .i64 c2, .int .i64 a, .int .i64 b] 31)).alloc (.cells #[.int .i64 k, .int .i64 y, .int .i64 i] 24)) (.cells #[.int .i64 0, .int .i64 0, .int .i64 0, .int .i64 0, .int .i64 0] 31)
  have HR2 : Hid (W0.heap[w.heap.size]? = some (.cells #[.int .i64 c0, .int .i64 c1, .int .i64 c2, .int .i64 a, .int .i64 b] 31 (0, 0))) := Lib.hid (by rw [hW0]; exact heap_on b2 (heap_on b1 (heap_alloc_new w (.cells #[.int .i64 c0, .int .i64 c1, .int .i64 c2, .int .i64 a, .int .i64 b] 31))))
  have HR3 : Hid (W0.heap[w.heap.size + 1]? = some (.cells #[.int .i64 k, .int .i64 y, .int .i64 i] 24 (0, 0))) := Lib.hid (by rw [hW0]; exact heap_on b2 (heap_alloc_new2 w (.cells #[.int .i64 c0, .int .i64 c1, .int .i64 c2, .int .i64 a, .int .i64 b] 31) (.cells #[.int .i64 k, .int .i64 y, .int .i64 i] 24)))
  have HR4 : Hid (W0.heap[w.heap.size + 1 + 1]? = some (.cells #[.int .i64 0, .int .i64 0, .int .i64 0, .int .i64 0, .int .i64 0] 31 (0, 0))) := Lib.hid (by
    rw [hW0]
    have := heap_alloc_new ((w.alloc (.cells #[.int .i64 c0, .int .i64 c1, .int .i64 c2, .int .i64 a, .int .i64 b] 31)).alloc (.cells #[.int .i64 k, .int .i64 y, .int .i64 i] 24)) (.cells #[.int .i64 0, .int .i64 0, .int .i64 0, .int .i64 0, .int .i64 0] 31)
    simpa using this)
  have HB0 : Hid (Below w.heap.size w W0) := Lib.hid (by rw [hW0]; exact below_then (below_then (below_alloc _ _) b1) b2)
  clear hs hp b1 b2 
  go_enter Try.func15, Try.ntmps15
  go_wp2_with (go_at_call 20; rw [← hW0]; refine (HSt.out _).mono ?_; rintro e w1 ⟨rfl, hb⟩; have HB1 := Lib.hid (below_then HB0.out hb); have HR2a := Lib.hid (heap_on hb HR2.out); have HR3a := Lib.hid (heap_on hb HR3.out); have HR4a := Lib.hid (heap_on hb HR4.out); clear hb hW0; refine Stop.out ?_)
  unfold Stop
  clear HR2 HR3 HR4 HB0
  obtain ⟨x0, x1, x2, x3, x4⟩ := cells5_row HR2a.out
  obtain ⟨y0, y1, y2⟩ := cells3_row HR3a.out
  obtain ⟨z0, z1, z2, z3, z4⟩ := frozen5_row HR4a.out
  obtain ⟨r0, r1, r2, r3, r4⟩ := cells5_row HR4a.out
  go_wp2
  exact bodyPost_ret (results_cell_of2 rfl _ _ (w.heap.size + 1 + 1) _ _ rfl rfl (load_clk _ _ _ _ _ _ _ _ (put5_row (.int .i64 c0) (.int .i64 c1) (.int .i64 c2) (.int .i64 a) (.int .i64 b) HR4a.out))) rfl ⟨rfl, below_put5 HB1.out (by omega)⟩
set_option maxHeartbeats 2000000 in
theorem reffi_1 (w : World) (c0 c1 c2 a b k y i n : Int) 
    (hs : ∀ W, Calls Try.prog 20 #[.agg #[.int .i64 c0, .int .i64 c1, .int .i64 c2, .int .i64 a, .int .i64 b], .agg #[.int .i64 k, .int .i64 y, .int .i64 i]] W fun e w' => e = .returned (.int .i64 1) ∧ Below W.heap.size W w')
    (hp : ∀ W, Calls Try.prog 35 #[.agg #[.int .i64 c0, .int .i64 c1, .int .i64 c2, .int .i64 a, .int .i64 b], .agg #[.int .i64 k, .int .i64 y, .int .i64 i]] W fun e w' => e = .returned (.int .i64 n) ∧ Below W.heap.size W w') :
    Calls Try.prog 15 #[.agg #[.int .i64 c0, .int .i64 c1, .int .i64 c2, .int .i64 a, .int .i64 b], .agg #[.int .i64 k, .int .i64 y, .int .i64 i]] w fun e w' => e = .returned (.tuple #[.agg #[.int .i64 c0, .int .i64 c1, .int .i64 c2, .int .i64 a, .int .i64 b], .int .i64 71]) ∧ Below w.heap.size w w' := by
  have HSt := Lib.hid hs
  have HPl := Lib.hid hp
  obtain ⟨W0, hW0⟩ : ∃ W0, W0 = ((w.alloc (.cells #[.int .i64 c0, .int .i64 c1, .int .i64 c2, .int .i64 a, .int .i64 b] 31)).alloc (.cells #[.int .i64 k, .int .i64 y, .int .i64 i] 24)).alloc (.cells #[.int .i64 0, .int .i64 0, .int .i64 0, .int .i64 0, .int .i64 0] 31) := ⟨_, rfl⟩
  have b1 := below_alloc (w.alloc (.cells #[.int .i64 c0, .int .i64 c1, .int .i64 c2, .int .i64 a, .int .i64 b] 31)) (.cells #[.int .i64 k, .int .i64 y, .int .i64 i] 24)
  have b2 := below_alloc ((w.alloc (.cells #[.int .i64 c0, .int .i64 c1, .int .i64 c2, .int .i64 a, .int .i64 b] 31)).alloc (.cells #[.int .i64 k, .int .i64 y, .int .i64 i] 24)) (.cells #[.int .i64 0, .int .i64 0, .int .i64 0, .int .i64 0, .int .i64 0] 31)
  have HR2 : Hid (W0.heap[w.heap.size]? = some (.cells #[.int .i64 c0, .int .i64 c1, .int .i64 c2, .int .i64 a, .int .i64 b] 31 (0, 0))) := Lib.hid (by rw [hW0]; exact heap_on b2 (heap_on b1 (heap_alloc_new w (.cells #[.int .i64 c0, .int .i64 c1, .int .i64 c2, .int .i64 a, .int .i64 b] 31))))
  have HR3 : Hid (W0.heap[w.heap.size + 1]? = some (.cells #[.int .i64 k, .int .i64 y, .int .i64 i] 24 (0, 0))) := Lib.hid (by rw [hW0]; exact heap_on b2 (heap_alloc_new2 w (.cells #[.int .i64 c0, .int .i64 c1, .int .i64 c2, .int .i64 a, .int .i64 b] 31) (.cells #[.int .i64 k, .int .i64 y, .int .i64 i] 24)))
  have HR4 : Hid (W0.heap[w.heap.size + 1 + 1]? = some (.cells #[.int .i64 0, .int .i64 0, .int .i64 0, .int .i64 0, .int .i64 0] 31 (0, 0))) := Lib.hid (by
    rw [hW0]
    have := heap_alloc_new ((w.alloc (.cells #[.int .i64 c0, .int .i64 c1, .int .i64 c2, .int .i64 a, .int .i64 b] 31)).alloc (.cells #[.int .i64 k, .int .i64 y, .int .i64 i] 24)) (.cells #[.int .i64 0, .int .i64 0, .int .i64 0, .int .i64 0, .int .i64 0] 31)
    simpa using this)
  have HB0 : Hid (Below w.heap.size w W0) := Lib.hid (by rw [hW0]; exact below_then (below_then (below_alloc _ _) b1) b2)
  clear hs hp b1 b2 
  go_enter Try.func15, Try.ntmps15
  go_wp2_with (go_at_call 20; rw [← hW0]; refine (HSt.out _).mono ?_; rintro e w1 ⟨rfl, hb⟩; have HB1 := Lib.hid (below_then HB0.out hb); have HR2a := Lib.hid (heap_on hb HR2.out); have HR3a := Lib.hid (heap_on hb HR3.out); have HR4a := Lib.hid (heap_on hb HR4.out); clear hb hW0; refine Stop.out ?_)
  unfold Stop
  clear HR2 HR3 HR4 HB0
  obtain ⟨x0, x1, x2, x3, x4⟩ := cells5_row HR2a.out
  obtain ⟨y0, y1, y2⟩ := cells3_row HR3a.out
  obtain ⟨z0, z1, z2, z3, z4⟩ := frozen5_row HR4a.out
  obtain ⟨r0, r1, r2, r3, r4⟩ := cells5_row HR4a.out
  go_wp2_with fail
  refine wp_region_held_drew (S := fun W => W.cell? ⟨w.heap.size, 0, none⟩ = some (.int .i64 c0) ∧ W.cell? ⟨w.heap.size, 1, none⟩ = some (.int .i64 c1) ∧ W.cell? ⟨w.heap.size, 2, none⟩ = some (.int .i64 c2) ∧ W.cell? ⟨w.heap.size, 3, none⟩ = some (.int .i64 a) ∧ W.cell? ⟨w.heap.size, 4, none⟩ = some (.int .i64 b) ∧ W.cell? ⟨(w.heap.size + 1), 0, none⟩ = some (.int .i64 k) ∧ W.cell? ⟨(w.heap.size + 1), 1, none⟩ = some (.int .i64 y) ∧ W.cell? ⟨(w.heap.size + 1), 2, none⟩ = some (.int .i64 i)) (by kernel_rfl) ⟨x0, x1, x2, x3, x4, y0, y1, y2⟩ ?_
  intro hHeld
  have HBd := Lib.hid HB1.out.drew
  have HR2d : Hid (w1.drew.heap[w.heap.size]? = _) := Lib.hid HR2a.out
  have HR4d : Hid (w1.drew.heap[w.heap.size + 1 + 1]? = _) := Lib.hid HR4a.out
  clear x0 x1 x2 x3 x4 y0 y1 y2 z0 z1 z2 z3 z4 r0 r1 r2 r3 r4 HR2a HR3a HR4a HB1
  generalize w1.drew = wd at HBd HR2d HR4d hHeld ⊢
  (refine takeH (i := 0) (v := ?_) rfl (by kernel_rfl) (by kernel_rfl) (by kernel_rfl) (fun _ _ _ h => h) (Or.inl ⟨by rfl, ?_⟩) (by assumption) ?_; rotate_left; (focus ((intro wS hSw); (try dsimp only at hSw); obtain ⟨s0, s1, s2, s3, s4, s5, s6, s7⟩ := hSw; go_simp; (try with_reducible rfl); done)); (try simp only [Act.put, List.setIfInBounds_toArray, List.set_cons_zero, List.set_cons_succ]))
  (refine takeH (i := 1) (v := ?_) rfl (by kernel_rfl) (by kernel_rfl) (by kernel_rfl) (fun _ _ _ h => h) (Or.inl ⟨by rfl, ?_⟩) (by assumption) ?_; rotate_left; (focus ((intro wS hSw); (try dsimp only at hSw); obtain ⟨s0, s1, s2, s3, s4, s5, s6, s7⟩ := hSw; go_simp; (try with_reducible rfl); done)); (try simp only [Act.put, List.setIfInBounds_toArray, List.set_cons_zero, List.set_cons_succ]))
  refine aloneH (i := 2) rfl (by kernel_rfl) (fun K hK => ?_)
  rw [if_pos (by rfl)]
  go_simp; ((refine (HSt.out _).mono ?_); (rintro e w1 ⟨rfl, hb⟩); have HB1 := Lib.hid hb; clear hb; (try go_simp))
  refine hK.out _ _ (⟨cell_on HB1.out hHeld.1, cell_on HB1.out hHeld.2.1, cell_on HB1.out hHeld.2.2.1, cell_on HB1.out hHeld.2.2.2.1, cell_on HB1.out hHeld.2.2.2.2.1, cell_on HB1.out hHeld.2.2.2.2.2.1, cell_on HB1.out hHeld.2.2.2.2.2.2.1, cell_on HB1.out hHeld.2.2.2.2.2.2.2⟩) (fun hNew => ?_)
  clear hK K hHeld; (have hHeld := hNew); clear hNew; (try simp only [Act.put, List.setIfInBounds_toArray, List.set_cons_zero, List.set_cons_succ])
  (refine takeH (i := 3) (v := ?_) rfl (by kernel_rfl) (by kernel_rfl) (by kernel_rfl) (fun _ _ _ h => h) (Or.inl ⟨by rfl, ?_⟩) (by assumption) ?_; rotate_left; (focus ((intro wS hSw); (try dsimp only at hSw); obtain ⟨s0, s1, s2, s3, s4, s5, s6, s7⟩ := hSw; go_simp; (try with_reducible rfl); done)); (try simp only [Act.put, List.setIfInBounds_toArray, List.set_cons_zero, List.set_cons_succ]))
  (refine takeH (i := 4) (v := ?_) rfl (by kernel_rfl) (by kernel_rfl) (by kernel_rfl) (fun _ _ _ h => h) (Or.inl ⟨by rfl, ?_⟩) (by assumption) ?_; rotate_left; (focus ((intro wS hSw); (try dsimp only at hSw); obtain ⟨s0, s1, s2, s3, s4, s5, s6, s7⟩ := hSw; go_simp; (try with_reducible rfl); done)); (try simp only [Act.put, List.setIfInBounds_toArray, List.set_cons_zero, List.set_cons_succ]))
  (refine takeH (i := 5) (v := undef) rfl (by kernel_rfl) (by kernel_rfl) (by kernel_rfl) (fun _ _ _ h => h) (Or.inr ⟨by rfl, rfl⟩) (by assumption) ?_; (try simp only [Act.put, List.setIfInBounds_toArray, List.set_cons_zero, List.set_cons_succ]))
  (refine takeH (i := 6) (v := undef) rfl (by kernel_rfl) (by kernel_rfl) (by kernel_rfl) (fun _ _ _ h => h) (Or.inr ⟨by rfl, rfl⟩) (by assumption) ?_; (try simp only [Act.put, List.setIfInBounds_toArray, List.set_cons_zero, List.set_cons_succ]))
  (refine takeH (i := 7) (v := undef) rfl (by kernel_rfl) (by kernel_rfl) (by kernel_rfl) (fun _ _ _ h => h) (Or.inr ⟨by rfl, rfl⟩) (by assumption) ?_; (try simp only [Act.put, List.setIfInBounds_toArray, List.set_cons_zero, List.set_cons_succ]))
  (refine takeH (i := 8) (v := undef) rfl (by kernel_rfl) (by kernel_rfl) (by kernel_rfl) (fun _ _ _ h => h) (Or.inr ⟨by rfl, rfl⟩) (by assumption) ?_; (try simp only [Act.put, List.setIfInBounds_toArray, List.set_cons_zero, List.set_cons_succ]))
  (refine takeH (i := 9) (v := undef) rfl (by kernel_rfl) (by kernel_rfl) (by kernel_rfl) (fun _ _ _ h => h) (Or.inr ⟨by rfl, rfl⟩) (by assumption) ?_; (try simp only [Act.put, List.setIfInBounds_toArray, List.set_cons_zero, List.set_cons_succ]))
  (refine takeH (i := 10) (v := undef) rfl (by kernel_rfl) (by kernel_rfl) (by kernel_rfl) (fun _ _ _ h => h) (Or.inr ⟨by rfl, rfl⟩) (by assumption) ?_; (try simp only [Act.put, List.setIfInBounds_toArray, List.set_cons_zero, List.set_cons_succ]))
  (refine takeH (i := 11) (v := ?_) rfl (by kernel_rfl) (by kernel_rfl) (by kernel_rfl) (fun _ _ _ h => h) (Or.inl ⟨by rfl, ?_⟩) (by assumption) ?_; rotate_left; (focus ((intro wS hSw); (try dsimp only at hSw); obtain ⟨s0, s1, s2, s3, s4, s5, s6, s7⟩ := hSw; go_simp; (try with_reducible rfl); done)); (try simp only [Act.put, List.setIfInBounds_toArray, List.set_cons_zero, List.set_cons_succ]))
  refine wpAnyH_done (by kernel_rfl) ?_ _
  have HBz := Lib.hid (below_any HBd.out (Nat.le_refl _) HB1.out)
  have HR2z := Lib.hid (heap_on HB1.out HR2d.out)
  have HR4z := Lib.hid (heap_on HB1.out HR4d.out)
  clear hHeld HBd HR2d HR4d
  obtain ⟨x0, x1, x2, x3, x4⟩ := cells5_row HR2z.out
  obtain ⟨z0, z1, z2, z3, z4⟩ := frozen5_row HR4z.out
  obtain ⟨r0, r1, r2, r3, r4⟩ := cells5_row HR4z.out
  go_wp2
  exact bodyPost_ret (results_cell_of2 rfl _ _ (w.heap.size + 1 + 1) _ _ rfl rfl (load_clk _ _ _ _ _ _ _ _ (put5_row (.int .i64 c0) (.int .i64 c1) (.int .i64 c2) (.int .i64 a) (.int .i64 b) HR4z.out))) rfl ⟨rfl, below_put5 HBz.out (by omega)⟩
set_option maxHeartbeats 2000000 in
theorem reffi_3 (w : World) (c0 c1 c2 a b k y i n : Int) 
    (hs : ∀ W, Calls Try.prog 20 #[.agg #[.int .i64 c0, .int .i64 c1, .int .i64 c2, .int .i64 a, .int .i64 b], .agg #[.int .i64 k, .int .i64 y, .int .i64 i]] W fun e w' => e = .returned (.int .i64 3) ∧ Below W.heap.size W w')
    (hp : ∀ W, Calls Try.prog 35 #[.agg #[.int .i64 c0, .int .i64 c1, .int .i64 c2, .int .i64 a, .int .i64 b], .agg #[.int .i64 k, .int .i64 y, .int .i64 i]] W fun e w' => e = .returned (.int .i64 n) ∧ Below W.heap.size W w') :
    Calls Try.prog 15 #[.agg #[.int .i64 c0, .int .i64 c1, .int .i64 c2, .int .i64 a, .int .i64 b], .agg #[.int .i64 k, .int .i64 y, .int .i64 i]] w fun e w' => e = .returned (.tuple #[.agg #[.int .i64 c0, .int .i64 c1, .int .i64 c2, .int .i64 a, .int .i64 b], .int .i64 71]) ∧ Below w.heap.size w w' := by
  have HSt := Lib.hid hs
  have HPl := Lib.hid hp
  obtain ⟨W0, hW0⟩ : ∃ W0, W0 = ((w.alloc (.cells #[.int .i64 c0, .int .i64 c1, .int .i64 c2, .int .i64 a, .int .i64 b] 31)).alloc (.cells #[.int .i64 k, .int .i64 y, .int .i64 i] 24)).alloc (.cells #[.int .i64 0, .int .i64 0, .int .i64 0, .int .i64 0, .int .i64 0] 31) := ⟨_, rfl⟩
  have b1 := below_alloc (w.alloc (.cells #[.int .i64 c0, .int .i64 c1, .int .i64 c2, .int .i64 a, .int .i64 b] 31)) (.cells #[.int .i64 k, .int .i64 y, .int .i64 i] 24)
  have b2 := below_alloc ((w.alloc (.cells #[.int .i64 c0, .int .i64 c1, .int .i64 c2, .int .i64 a, .int .i64 b] 31)).alloc (.cells #[.int .i64 k, .int .i64 y, .int .i64 i] 24)) (.cells #[.int .i64 0, .int .i64 0, .int .i64 0, .int .i64 0, .int .i64 0] 31)
  have HR2 : Hid (W0.heap[w.heap.size]? = some (.cells #[.int .i64 c0, .int .i64 c1, .int .i64 c2, .int .i64 a, .int .i64 b] 31 (0, 0))) := Lib.hid (by rw [hW0]; exact heap_on b2 (heap_on b1 (heap_alloc_new w (.cells #[.int .i64 c0, .int .i64 c1, .int .i64 c2, .int .i64 a, .int .i64 b] 31))))
  have HR3 : Hid (W0.heap[w.heap.size + 1]? = some (.cells #[.int .i64 k, .int .i64 y, .int .i64 i] 24 (0, 0))) := Lib.hid (by rw [hW0]; exact heap_on b2 (heap_alloc_new2 w (.cells #[.int .i64 c0, .int .i64 c1, .int .i64 c2, .int .i64 a, .int .i64 b] 31) (.cells #[.int .i64 k, .int .i64 y, .int .i64 i] 24)))
  have HR4 : Hid (W0.heap[w.heap.size + 1 + 1]? = some (.cells #[.int .i64 0, .int .i64 0, .int .i64 0, .int .i64 0, .int .i64 0] 31 (0, 0))) := Lib.hid (by
    rw [hW0]
    have := heap_alloc_new ((w.alloc (.cells #[.int .i64 c0, .int .i64 c1, .int .i64 c2, .int .i64 a, .int .i64 b] 31)).alloc (.cells #[.int .i64 k, .int .i64 y, .int .i64 i] 24)) (.cells #[.int .i64 0, .int .i64 0, .int .i64 0, .int .i64 0, .int .i64 0] 31)
    simpa using this)
  have HB0 : Hid (Below w.heap.size w W0) := Lib.hid (by rw [hW0]; exact below_then (below_then (below_alloc _ _) b1) b2)
  clear hs hp b1 b2 
  go_enter Try.func15, Try.ntmps15
  go_wp2_with (go_at_call 20; rw [← hW0]; refine (HSt.out _).mono ?_; rintro e w1 ⟨rfl, hb⟩; have HB1 := Lib.hid (below_then HB0.out hb); have HR2a := Lib.hid (heap_on hb HR2.out); have HR3a := Lib.hid (heap_on hb HR3.out); have HR4a := Lib.hid (heap_on hb HR4.out); clear hb hW0; refine Stop.out ?_)
  unfold Stop
  clear HR2 HR3 HR4 HB0
  obtain ⟨x0, x1, x2, x3, x4⟩ := cells5_row HR2a.out
  obtain ⟨y0, y1, y2⟩ := cells3_row HR3a.out
  obtain ⟨z0, z1, z2, z3, z4⟩ := frozen5_row HR4a.out
  obtain ⟨r0, r1, r2, r3, r4⟩ := cells5_row HR4a.out
  go_wp2_with fail
  refine wp_region_held_drew (S := fun W => W.cell? ⟨w.heap.size, 0, none⟩ = some (.int .i64 c0) ∧ W.cell? ⟨w.heap.size, 1, none⟩ = some (.int .i64 c1) ∧ W.cell? ⟨w.heap.size, 2, none⟩ = some (.int .i64 c2) ∧ W.cell? ⟨w.heap.size, 3, none⟩ = some (.int .i64 a) ∧ W.cell? ⟨w.heap.size, 4, none⟩ = some (.int .i64 b) ∧ W.cell? ⟨(w.heap.size + 1), 0, none⟩ = some (.int .i64 k) ∧ W.cell? ⟨(w.heap.size + 1), 1, none⟩ = some (.int .i64 y) ∧ W.cell? ⟨(w.heap.size + 1), 2, none⟩ = some (.int .i64 i)) (by kernel_rfl) ⟨x0, x1, x2, x3, x4, y0, y1, y2⟩ ?_
  intro hHeld
  have HBd := Lib.hid HB1.out.drew
  have HR2d : Hid (w1.drew.heap[w.heap.size]? = _) := Lib.hid HR2a.out
  have HR4d : Hid (w1.drew.heap[w.heap.size + 1 + 1]? = _) := Lib.hid HR4a.out
  clear x0 x1 x2 x3 x4 y0 y1 y2 z0 z1 z2 z3 z4 r0 r1 r2 r3 r4 HR2a HR3a HR4a HB1
  generalize w1.drew = wd at HBd HR2d HR4d hHeld ⊢
  (refine takeH (i := 0) (v := ?_) rfl (by kernel_rfl) (by kernel_rfl) (by kernel_rfl) (fun _ _ _ h => h) (Or.inl ⟨by rfl, ?_⟩) (by assumption) ?_; rotate_left; (focus ((intro wS hSw); (try dsimp only at hSw); obtain ⟨s0, s1, s2, s3, s4, s5, s6, s7⟩ := hSw; go_simp; (try with_reducible rfl); done)); (try simp only [Act.put, List.setIfInBounds_toArray, List.set_cons_zero, List.set_cons_succ]))
  (refine takeH (i := 1) (v := ?_) rfl (by kernel_rfl) (by kernel_rfl) (by kernel_rfl) (fun _ _ _ h => h) (Or.inl ⟨by rfl, ?_⟩) (by assumption) ?_; rotate_left; (focus ((intro wS hSw); (try dsimp only at hSw); obtain ⟨s0, s1, s2, s3, s4, s5, s6, s7⟩ := hSw; go_simp; (try with_reducible rfl); done)); (try simp only [Act.put, List.setIfInBounds_toArray, List.set_cons_zero, List.set_cons_succ]))
  refine aloneH (i := 2) rfl (by kernel_rfl) (fun K hK => ?_)
  rw [if_pos (by rfl)]
  go_simp; ((refine (HSt.out _).mono ?_); (rintro e w1 ⟨rfl, hb⟩); have HB1 := Lib.hid hb; clear hb; (try go_simp))
  refine hK.out _ _ (⟨cell_on HB1.out hHeld.1, cell_on HB1.out hHeld.2.1, cell_on HB1.out hHeld.2.2.1, cell_on HB1.out hHeld.2.2.2.1, cell_on HB1.out hHeld.2.2.2.2.1, cell_on HB1.out hHeld.2.2.2.2.2.1, cell_on HB1.out hHeld.2.2.2.2.2.2.1, cell_on HB1.out hHeld.2.2.2.2.2.2.2⟩) (fun hNew => ?_)
  clear hK K hHeld; (have hHeld := hNew); clear hNew; (try simp only [Act.put, List.setIfInBounds_toArray, List.set_cons_zero, List.set_cons_succ])
  (refine takeH (i := 3) (v := ?_) rfl (by kernel_rfl) (by kernel_rfl) (by kernel_rfl) (fun _ _ _ h => h) (Or.inl ⟨by rfl, ?_⟩) (by assumption) ?_; rotate_left; (focus ((intro wS hSw); (try dsimp only at hSw); obtain ⟨s0, s1, s2, s3, s4, s5, s6, s7⟩ := hSw; go_simp; (try with_reducible rfl); done)); (try simp only [Act.put, List.setIfInBounds_toArray, List.set_cons_zero, List.set_cons_succ]))
  (refine takeH (i := 4) (v := ?_) rfl (by kernel_rfl) (by kernel_rfl) (by kernel_rfl) (fun _ _ _ h => h) (Or.inl ⟨by rfl, ?_⟩) (by assumption) ?_; rotate_left; (focus ((intro wS hSw); (try dsimp only at hSw); obtain ⟨s0, s1, s2, s3, s4, s5, s6, s7⟩ := hSw; go_simp; (try with_reducible rfl); done)); (try simp only [Act.put, List.setIfInBounds_toArray, List.set_cons_zero, List.set_cons_succ]))
  (refine takeH (i := 5) (v := undef) rfl (by kernel_rfl) (by kernel_rfl) (by kernel_rfl) (fun _ _ _ h => h) (Or.inr ⟨by rfl, rfl⟩) (by assumption) ?_; (try simp only [Act.put, List.setIfInBounds_toArray, List.set_cons_zero, List.set_cons_succ]))
  (refine takeH (i := 6) (v := undef) rfl (by kernel_rfl) (by kernel_rfl) (by kernel_rfl) (fun _ _ _ h => h) (Or.inr ⟨by rfl, rfl⟩) (by assumption) ?_; (try simp only [Act.put, List.setIfInBounds_toArray, List.set_cons_zero, List.set_cons_succ]))
  (refine takeH (i := 7) (v := undef) rfl (by kernel_rfl) (by kernel_rfl) (by kernel_rfl) (fun _ _ _ h => h) (Or.inr ⟨by rfl, rfl⟩) (by assumption) ?_; (try simp only [Act.put, List.setIfInBounds_toArray, List.set_cons_zero, List.set_cons_succ]))
  (refine takeH (i := 8) (v := undef) rfl (by kernel_rfl) (by kernel_rfl) (by kernel_rfl) (fun _ _ _ h => h) (Or.inr ⟨by rfl, rfl⟩) (by assumption) ?_; (try simp only [Act.put, List.setIfInBounds_toArray, List.set_cons_zero, List.set_cons_succ]))
  (refine takeH (i := 9) (v := undef) rfl (by kernel_rfl) (by kernel_rfl) (by kernel_rfl) (fun _ _ _ h => h) (Or.inr ⟨by rfl, rfl⟩) (by assumption) ?_; (try simp only [Act.put, List.setIfInBounds_toArray, List.set_cons_zero, List.set_cons_succ]))
  (refine takeH (i := 10) (v := undef) rfl (by kernel_rfl) (by kernel_rfl) (by kernel_rfl) (fun _ _ _ h => h) (Or.inr ⟨by rfl, rfl⟩) (by assumption) ?_; (try simp only [Act.put, List.setIfInBounds_toArray, List.set_cons_zero, List.set_cons_succ]))
  (refine takeH (i := 11) (v := ?_) rfl (by kernel_rfl) (by kernel_rfl) (by kernel_rfl) (fun _ _ _ h => h) (Or.inl ⟨by rfl, ?_⟩) (by assumption) ?_; rotate_left; (focus ((intro wS hSw); (try dsimp only at hSw); obtain ⟨s0, s1, s2, s3, s4, s5, s6, s7⟩ := hSw; go_simp; (try with_reducible rfl); done)); (try simp only [Act.put, List.setIfInBounds_toArray, List.set_cons_zero, List.set_cons_succ]))
  refine wpAnyH_done (by kernel_rfl) ?_ _
  have HBz := Lib.hid (below_any HBd.out (Nat.le_refl _) HB1.out)
  have HR2z := Lib.hid (heap_on HB1.out HR2d.out)
  have HR4z := Lib.hid (heap_on HB1.out HR4d.out)
  clear hHeld HBd HR2d HR4d
  obtain ⟨x0, x1, x2, x3, x4⟩ := cells5_row HR2z.out
  obtain ⟨z0, z1, z2, z3, z4⟩ := frozen5_row HR4z.out
  obtain ⟨r0, r1, r2, r3, r4⟩ := cells5_row HR4z.out
  go_wp2
  exact bodyPost_ret (results_cell_of2 rfl _ _ (w.heap.size + 1 + 1) _ _ rfl rfl (load_clk _ _ _ _ _ _ _ _ (put5_row (.int .i64 c0) (.int .i64 c1) (.int .i64 c2) (.int .i64 a) (.int .i64 b) HR4z.out))) rfl ⟨rfl, below_put5 HBz.out (by omega)⟩
set_option maxHeartbeats 2000000 in
theorem reffi_far (w : World) (c0 c1 c2 a b k y i n : Int) (hf : ¬ n = b)
    (hs : ∀ W, Calls Try.prog 20 #[.agg #[.int .i64 c0, .int .i64 c1, .int .i64 c2, .int .i64 a, .int .i64 b], .agg #[.int .i64 k, .int .i64 y, .int .i64 i]] W fun e w' => e = .returned (.int .i64 2) ∧ Below W.heap.size W w')
    (hp : ∀ W, Calls Try.prog 35 #[.agg #[.int .i64 c0, .int .i64 c1, .int .i64 c2, .int .i64 a, .int .i64 b], .agg #[.int .i64 k, .int .i64 y, .int .i64 i]] W fun e w' => e = .returned (.int .i64 n) ∧ Below W.heap.size W w') :
    Calls Try.prog 15 #[.agg #[.int .i64 c0, .int .i64 c1, .int .i64 c2, .int .i64 a, .int .i64 b], .agg #[.int .i64 k, .int .i64 y, .int .i64 i]] w fun e w' => e = .returned (.tuple #[.agg #[.int .i64 c0, .int .i64 c1, .int .i64 c2, .int .i64 a, .int .i64 b], .int .i64 71]) ∧ Below w.heap.size w w' := by
  have HSt := Lib.hid hs
  have HPl := Lib.hid hp
  obtain ⟨W0, hW0⟩ : ∃ W0, W0 = ((w.alloc (.cells #[.int .i64 c0, .int .i64 c1, .int .i64 c2, .int .i64 a, .int .i64 b] 31)).alloc (.cells #[.int .i64 k, .int .i64 y, .int .i64 i] 24)).alloc (.cells #[.int .i64 0, .int .i64 0, .int .i64 0, .int .i64 0, .int .i64 0] 31) := ⟨_, rfl⟩
  have b1 := below_alloc (w.alloc (.cells #[.int .i64 c0, .int .i64 c1, .int .i64 c2, .int .i64 a, .int .i64 b] 31)) (.cells #[.int .i64 k, .int .i64 y, .int .i64 i] 24)
  have b2 := below_alloc ((w.alloc (.cells #[.int .i64 c0, .int .i64 c1, .int .i64 c2, .int .i64 a, .int .i64 b] 31)).alloc (.cells #[.int .i64 k, .int .i64 y, .int .i64 i] 24)) (.cells #[.int .i64 0, .int .i64 0, .int .i64 0, .int .i64 0, .int .i64 0] 31)
  have HR2 : Hid (W0.heap[w.heap.size]? = some (.cells #[.int .i64 c0, .int .i64 c1, .int .i64 c2, .int .i64 a, .int .i64 b] 31 (0, 0))) := Lib.hid (by rw [hW0]; exact heap_on b2 (heap_on b1 (heap_alloc_new w (.cells #[.int .i64 c0, .int .i64 c1, .int .i64 c2, .int .i64 a, .int .i64 b] 31))))
  have HR3 : Hid (W0.heap[w.heap.size + 1]? = some (.cells #[.int .i64 k, .int .i64 y, .int .i64 i] 24 (0, 0))) := Lib.hid (by rw [hW0]; exact heap_on b2 (heap_alloc_new2 w (.cells #[.int .i64 c0, .int .i64 c1, .int .i64 c2, .int .i64 a, .int .i64 b] 31) (.cells #[.int .i64 k, .int .i64 y, .int .i64 i] 24)))
  have HR4 : Hid (W0.heap[w.heap.size + 1 + 1]? = some (.cells #[.int .i64 0, .int .i64 0, .int .i64 0, .int .i64 0, .int .i64 0] 31 (0, 0))) := Lib.hid (by
    rw [hW0]
    have := heap_alloc_new ((w.alloc (.cells #[.int .i64 c0, .int .i64 c1, .int .i64 c2, .int .i64 a, .int .i64 b] 31)).alloc (.cells #[.int .i64 k, .int .i64 y, .int .i64 i] 24)) (.cells #[.int .i64 0, .int .i64 0, .int .i64 0, .int .i64 0, .int .i64 0] 31)
    simpa using this)
  have HB0 : Hid (Below w.heap.size w W0) := Lib.hid (by rw [hW0]; exact below_then (below_then (below_alloc _ _) b1) b2)
  clear hs hp b1 b2 
  go_enter Try.func15, Try.ntmps15
  go_wp2_with (go_at_call 20; rw [← hW0]; refine (HSt.out _).mono ?_; rintro e w1 ⟨rfl, hb⟩; have HB1 := Lib.hid (below_then HB0.out hb); have HR2a := Lib.hid (heap_on hb HR2.out); have HR3a := Lib.hid (heap_on hb HR3.out); have HR4a := Lib.hid (heap_on hb HR4.out); clear hb hW0; refine Stop.out ?_)
  unfold Stop
  clear HR2 HR3 HR4 HB0
  obtain ⟨x0, x1, x2, x3, x4⟩ := cells5_row HR2a.out
  obtain ⟨y0, y1, y2⟩ := cells3_row HR3a.out
  obtain ⟨z0, z1, z2, z3, z4⟩ := frozen5_row HR4a.out
  obtain ⟨r0, r1, r2, r3, r4⟩ := cells5_row HR4a.out
  go_wp2_with fail
  refine wp_region_held_drew (S := fun W => W.cell? ⟨w.heap.size, 0, none⟩ = some (.int .i64 c0) ∧ W.cell? ⟨w.heap.size, 1, none⟩ = some (.int .i64 c1) ∧ W.cell? ⟨w.heap.size, 2, none⟩ = some (.int .i64 c2) ∧ W.cell? ⟨w.heap.size, 3, none⟩ = some (.int .i64 a) ∧ W.cell? ⟨w.heap.size, 4, none⟩ = some (.int .i64 b) ∧ W.cell? ⟨(w.heap.size + 1), 0, none⟩ = some (.int .i64 k) ∧ W.cell? ⟨(w.heap.size + 1), 1, none⟩ = some (.int .i64 y) ∧ W.cell? ⟨(w.heap.size + 1), 2, none⟩ = some (.int .i64 i)) (by kernel_rfl) ⟨x0, x1, x2, x3, x4, y0, y1, y2⟩ ?_
  intro hHeld
  have HBd := Lib.hid HB1.out.drew
  have HR2d : Hid (w1.drew.heap[w.heap.size]? = _) := Lib.hid HR2a.out
  have HR4d : Hid (w1.drew.heap[w.heap.size + 1 + 1]? = _) := Lib.hid HR4a.out
  clear x0 x1 x2 x3 x4 y0 y1 y2 z0 z1 z2 z3 z4 r0 r1 r2 r3 r4 HR2a HR3a HR4a HB1
  generalize w1.drew = wd at HBd HR2d HR4d hHeld ⊢
  (refine takeH (i := 0) (v := ?_) rfl (by kernel_rfl) (by kernel_rfl) (by kernel_rfl) (fun _ _ _ h => h) (Or.inl ⟨by rfl, ?_⟩) (by assumption) ?_; rotate_left; (focus ((intro wS hSw); (try dsimp only at hSw); obtain ⟨s0, s1, s2, s3, s4, s5, s6, s7⟩ := hSw; go_simp; (try with_reducible rfl); done)); (try simp only [Act.put, List.setIfInBounds_toArray, List.set_cons_zero, List.set_cons_succ]))
  (refine takeH (i := 1) (v := ?_) rfl (by kernel_rfl) (by kernel_rfl) (by kernel_rfl) (fun _ _ _ h => h) (Or.inl ⟨by rfl, ?_⟩) (by assumption) ?_; rotate_left; (focus ((intro wS hSw); (try dsimp only at hSw); obtain ⟨s0, s1, s2, s3, s4, s5, s6, s7⟩ := hSw; go_simp; (try with_reducible rfl); done)); (try simp only [Act.put, List.setIfInBounds_toArray, List.set_cons_zero, List.set_cons_succ]))
  refine aloneH (i := 2) rfl (by kernel_rfl) (fun K hK => ?_)
  rw [if_pos (by rfl)]
  go_simp; ((refine (HSt.out _).mono ?_); (rintro e w1 ⟨rfl, hb⟩); have HB1 := Lib.hid hb; clear hb; (try go_simp))
  refine hK.out _ _ (⟨cell_on HB1.out hHeld.1, cell_on HB1.out hHeld.2.1, cell_on HB1.out hHeld.2.2.1, cell_on HB1.out hHeld.2.2.2.1, cell_on HB1.out hHeld.2.2.2.2.1, cell_on HB1.out hHeld.2.2.2.2.2.1, cell_on HB1.out hHeld.2.2.2.2.2.2.1, cell_on HB1.out hHeld.2.2.2.2.2.2.2⟩) (fun hNew => ?_)
  clear hK K hHeld; (have hHeld := hNew); clear hNew; (try simp only [Act.put, List.setIfInBounds_toArray, List.set_cons_zero, List.set_cons_succ])
  (refine takeH (i := 3) (v := ?_) rfl (by kernel_rfl) (by kernel_rfl) (by kernel_rfl) (fun _ _ _ h => h) (Or.inl ⟨by rfl, ?_⟩) (by assumption) ?_; rotate_left; (focus ((intro wS hSw); (try dsimp only at hSw); obtain ⟨s0, s1, s2, s3, s4, s5, s6, s7⟩ := hSw; go_simp; (try with_reducible rfl); done)); (try simp only [Act.put, List.setIfInBounds_toArray, List.set_cons_zero, List.set_cons_succ]))
  (refine takeH (i := 4) (v := ?_) rfl (by kernel_rfl) (by kernel_rfl) (by kernel_rfl) (fun _ _ _ h => h) (Or.inl ⟨by rfl, ?_⟩) (by assumption) ?_; rotate_left; (focus ((intro wS hSw); (try dsimp only at hSw); obtain ⟨s0, s1, s2, s3, s4, s5, s6, s7⟩ := hSw; go_simp; (try with_reducible rfl); done)); (try simp only [Act.put, List.setIfInBounds_toArray, List.set_cons_zero, List.set_cons_succ]))
  (refine takeH (i := 5) (v := ?_) rfl (by kernel_rfl) (by kernel_rfl) (by kernel_rfl) (fun _ _ _ h => h) (Or.inl ⟨by rfl, ?_⟩) (by assumption) ?_; rotate_left; (focus ((intro wS hSw); (try dsimp only at hSw); obtain ⟨s0, s1, s2, s3, s4, s5, s6, s7⟩ := hSw; go_simp; (try with_reducible rfl); done)); (try simp only [Act.put, List.setIfInBounds_toArray, List.set_cons_zero, List.set_cons_succ]))
  (refine takeH (i := 6) (v := ?_) rfl (by kernel_rfl) (by kernel_rfl) (by kernel_rfl) (fun _ _ _ h => h) (Or.inl ⟨by rfl, ?_⟩) (by assumption) ?_; rotate_left; (focus ((intro wS hSw); (try dsimp only at hSw); obtain ⟨s0, s1, s2, s3, s4, s5, s6, s7⟩ := hSw; go_simp; (try with_reducible rfl); done)); (try simp only [Act.put, List.setIfInBounds_toArray, List.set_cons_zero, List.set_cons_succ]))
  (refine takeH (i := 8) (v := ?_) rfl (by kernel_rfl) (by kernel_rfl) (by kernel_rfl) (fun _ _ _ h => h) (Or.inl ⟨by rfl, ?_⟩) (by assumption) ?_; rotate_left; (focus ((intro wS hSw); (try dsimp only at hSw); obtain ⟨s0, s1, s2, s3, s4, s5, s6, s7⟩ := hSw; go_simp; (try with_reducible rfl); done)); (try simp only [Act.put, List.setIfInBounds_toArray, List.set_cons_zero, List.set_cons_succ]))
  (refine takeH (i := 9) (v := ?_) rfl (by kernel_rfl) (by kernel_rfl) (by kernel_rfl) (fun _ _ _ h => h) (Or.inl ⟨by rfl, ?_⟩) (by assumption) ?_; rotate_left; (focus ((intro wS hSw); (try dsimp only at hSw); obtain ⟨s0, s1, s2, s3, s4, s5, s6, s7⟩ := hSw; go_simp; (try with_reducible rfl); done)); (try simp only [Act.put, List.setIfInBounds_toArray, List.set_cons_zero, List.set_cons_succ]))
  refine aloneH (i := 7) rfl (by kernel_rfl) (fun K hK => ?_)
  rw [if_pos (by rfl)]
  go_simp; ((refine (HPl.out _).mono ?_); (rintro e w2 ⟨rfl, hb⟩); have HB2 := Lib.hid hb; clear hb; (try go_simp))
  refine hK.out _ _ (⟨cell_on HB2.out hHeld.1, cell_on HB2.out hHeld.2.1, cell_on HB2.out hHeld.2.2.1, cell_on HB2.out hHeld.2.2.2.1, cell_on HB2.out hHeld.2.2.2.2.1, cell_on HB2.out hHeld.2.2.2.2.2.1, cell_on HB2.out hHeld.2.2.2.2.2.2.1, cell_on HB2.out hHeld.2.2.2.2.2.2.2⟩) (fun hNew => ?_)
  clear hK K hHeld; (have hHeld := hNew); clear hNew; (try simp only [Act.put, List.setIfInBounds_toArray, List.set_cons_zero, List.set_cons_succ])
  (refine takeH (i := 10) (v := (.bool true)) rfl (by kernel_rfl) (by kernel_rfl) (by kernel_rfl) (fun _ _ _ h => h) (Or.inl ⟨by rfl, by (intro wS hSw); (try dsimp only at hSw); (obtain ⟨s0, s1, s2, s3, s4, s5, s6, s7⟩ := hSw); go_simp; (first | done | (simp; done) | (simp; exact hf) | exact hf)⟩) (by assumption) ?_; (try simp only [Act.put, List.setIfInBounds_toArray, List.set_cons_zero, List.set_cons_succ]))
  (refine takeH (i := 11) (v := ?_) rfl (by kernel_rfl) (by kernel_rfl) (by kernel_rfl) (fun _ _ _ h => h) (Or.inl ⟨by rfl, ?_⟩) (by assumption) ?_; rotate_left; (focus ((intro wS hSw); (try dsimp only at hSw); obtain ⟨s0, s1, s2, s3, s4, s5, s6, s7⟩ := hSw; go_simp; (try with_reducible rfl); done)); (try simp only [Act.put, List.setIfInBounds_toArray, List.set_cons_zero, List.set_cons_succ]))
  refine wpAnyH_done (by kernel_rfl) ?_ _
  have HBz := Lib.hid (below_any HBd.out (Nat.le_refl _) (below_then HB1.out HB2.out))
  have HR2z := Lib.hid (heap_on (below_then HB1.out HB2.out) HR2d.out)
  have HR4z := Lib.hid (heap_on (below_then HB1.out HB2.out) HR4d.out)
  clear hHeld HBd HR2d HR4d
  obtain ⟨x0, x1, x2, x3, x4⟩ := cells5_row HR2z.out
  obtain ⟨z0, z1, z2, z3, z4⟩ := frozen5_row HR4z.out
  obtain ⟨r0, r1, r2, r3, r4⟩ := cells5_row HR4z.out
  go_wp2
  exact bodyPost_ret (results_cell_of2 rfl _ _ (w.heap.size + 1 + 1) _ _ rfl rfl (load_clk _ _ _ _ _ _ _ _ (put5_row (.int .i64 c0) (.int .i64 c1) (.int .i64 c2) (.int .i64 a) (.int .i64 b) HR4z.out))) rfl ⟨rfl, below_put5 HBz.out (by omega)⟩
set_option maxHeartbeats 2000000 in
theorem reffi_ok (w : World) (c0 c1 c2 a b k y i : Int) (hw : wrap64 (b + 1) = b + 1)
    (hs : ∀ W, Calls Try.prog 20 #[.agg #[.int .i64 c0, .int .i64 c1, .int .i64 c2, .int .i64 a, .int .i64 b], .agg #[.int .i64 k, .int .i64 y, .int .i64 i]] W fun e w' => e = .returned (.int .i64 2) ∧ Below W.heap.size W w')
    (hp : ∀ W, Calls Try.prog 35 #[.agg #[.int .i64 c0, .int .i64 c1, .int .i64 c2, .int .i64 a, .int .i64 b], .agg #[.int .i64 k, .int .i64 y, .int .i64 i]] W fun e w' => e = .returned (.int .i64 b) ∧ Below W.heap.size W w') :
    Calls Try.prog 15 #[.agg #[.int .i64 c0, .int .i64 c1, .int .i64 c2, .int .i64 a, .int .i64 b], .agg #[.int .i64 k, .int .i64 y, .int .i64 i]] w fun e w' => e = .returned (.tuple #[.agg #[.int .i64 c0, .int .i64 c1, .int .i64 c2, .int .i64 a, .int .i64 (b + 1)], .int .i64 0]) ∧ Below w.heap.size w w' := by
  have HSt := Lib.hid hs
  have HPl := Lib.hid hp
  obtain ⟨W0, hW0⟩ : ∃ W0, W0 = ((w.alloc (.cells #[.int .i64 c0, .int .i64 c1, .int .i64 c2, .int .i64 a, .int .i64 b] 31)).alloc (.cells #[.int .i64 k, .int .i64 y, .int .i64 i] 24)).alloc (.cells #[.int .i64 0, .int .i64 0, .int .i64 0, .int .i64 0, .int .i64 0] 31) := ⟨_, rfl⟩
  have b1 := below_alloc (w.alloc (.cells #[.int .i64 c0, .int .i64 c1, .int .i64 c2, .int .i64 a, .int .i64 b] 31)) (.cells #[.int .i64 k, .int .i64 y, .int .i64 i] 24)
  have b2 := below_alloc ((w.alloc (.cells #[.int .i64 c0, .int .i64 c1, .int .i64 c2, .int .i64 a, .int .i64 b] 31)).alloc (.cells #[.int .i64 k, .int .i64 y, .int .i64 i] 24)) (.cells #[.int .i64 0, .int .i64 0, .int .i64 0, .int .i64 0, .int .i64 0] 31)
  have HR2 : Hid (W0.heap[w.heap.size]? = some (.cells #[.int .i64 c0, .int .i64 c1, .int .i64 c2, .int .i64 a, .int .i64 b] 31 (0, 0))) := Lib.hid (by rw [hW0]; exact heap_on b2 (heap_on b1 (heap_alloc_new w (.cells #[.int .i64 c0, .int .i64 c1, .int .i64 c2, .int .i64 a, .int .i64 b] 31))))
  have HR3 : Hid (W0.heap[w.heap.size + 1]? = some (.cells #[.int .i64 k, .int .i64 y, .int .i64 i] 24 (0, 0))) := Lib.hid (by rw [hW0]; exact heap_on b2 (heap_alloc_new2 w (.cells #[.int .i64 c0, .int .i64 c1, .int .i64 c2, .int .i64 a, .int .i64 b] 31) (.cells #[.int .i64 k, .int .i64 y, .int .i64 i] 24)))
  have HR4 : Hid (W0.heap[w.heap.size + 1 + 1]? = some (.cells #[.int .i64 0, .int .i64 0, .int .i64 0, .int .i64 0, .int .i64 0] 31 (0, 0))) := Lib.hid (by
    rw [hW0]
    have := heap_alloc_new ((w.alloc (.cells #[.int .i64 c0, .int .i64 c1, .int .i64 c2, .int .i64 a, .int .i64 b] 31)).alloc (.cells #[.int .i64 k, .int .i64 y, .int .i64 i] 24)) (.cells #[.int .i64 0, .int .i64 0, .int .i64 0, .int .i64 0, .int .i64 0] 31)
    simpa using this)
  have HB0 : Hid (Below w.heap.size w W0) := Lib.hid (by rw [hW0]; exact below_then (below_then (below_alloc _ _) b1) b2)
  clear hs hp b1 b2 
  go_enter Try.func15, Try.ntmps15
  go_wp2_with (go_at_call 20; rw [← hW0]; refine (HSt.out _).mono ?_; rintro e w1 ⟨rfl, hb⟩; have HB1 := Lib.hid (below_then HB0.out hb); have HR2a := Lib.hid (heap_on hb HR2.out); have HR3a := Lib.hid (heap_on hb HR3.out); have HR4a := Lib.hid (heap_on hb HR4.out); clear hb hW0; refine Stop.out ?_)
  unfold Stop
  clear HR2 HR3 HR4 HB0
  obtain ⟨x0, x1, x2, x3, x4⟩ := cells5_row HR2a.out
  obtain ⟨y0, y1, y2⟩ := cells3_row HR3a.out
  obtain ⟨z0, z1, z2, z3, z4⟩ := frozen5_row HR4a.out
  obtain ⟨r0, r1, r2, r3, r4⟩ := cells5_row HR4a.out
  go_wp2_with fail
  refine wp_region_held_drew (S := fun W => W.cell? ⟨w.heap.size, 0, none⟩ = some (.int .i64 c0) ∧ W.cell? ⟨w.heap.size, 1, none⟩ = some (.int .i64 c1) ∧ W.cell? ⟨w.heap.size, 2, none⟩ = some (.int .i64 c2) ∧ W.cell? ⟨w.heap.size, 3, none⟩ = some (.int .i64 a) ∧ W.cell? ⟨w.heap.size, 4, none⟩ = some (.int .i64 b) ∧ W.cell? ⟨(w.heap.size + 1), 0, none⟩ = some (.int .i64 k) ∧ W.cell? ⟨(w.heap.size + 1), 1, none⟩ = some (.int .i64 y) ∧ W.cell? ⟨(w.heap.size + 1), 2, none⟩ = some (.int .i64 i)) (by kernel_rfl) ⟨x0, x1, x2, x3, x4, y0, y1, y2⟩ ?_
  intro hHeld
  have HBd := Lib.hid HB1.out.drew
  have HR2d : Hid (w1.drew.heap[w.heap.size]? = _) := Lib.hid HR2a.out
  have HR4d : Hid (w1.drew.heap[w.heap.size + 1 + 1]? = _) := Lib.hid HR4a.out
  clear x0 x1 x2 x3 x4 y0 y1 y2 z0 z1 z2 z3 z4 r0 r1 r2 r3 r4 HR2a HR3a HR4a HB1
  generalize w1.drew = wd at HBd HR2d HR4d hHeld ⊢
  (refine takeH (i := 0) (v := ?_) rfl (by kernel_rfl) (by kernel_rfl) (by kernel_rfl) (fun _ _ _ h => h) (Or.inl ⟨by rfl, ?_⟩) (by assumption) ?_; rotate_left; (focus ((intro wS hSw); (try dsimp only at hSw); obtain ⟨s0, s1, s2, s3, s4, s5, s6, s7⟩ := hSw; go_simp; (try with_reducible rfl); done)); (try simp only [Act.put, List.setIfInBounds_toArray, List.set_cons_zero, List.set_cons_succ]))
  (refine takeH (i := 1) (v := ?_) rfl (by kernel_rfl) (by kernel_rfl) (by kernel_rfl) (fun _ _ _ h => h) (Or.inl ⟨by rfl, ?_⟩) (by assumption) ?_; rotate_left; (focus ((intro wS hSw); (try dsimp only at hSw); obtain ⟨s0, s1, s2, s3, s4, s5, s6, s7⟩ := hSw; go_simp; (try with_reducible rfl); done)); (try simp only [Act.put, List.setIfInBounds_toArray, List.set_cons_zero, List.set_cons_succ]))
  refine aloneH (i := 2) rfl (by kernel_rfl) (fun K hK => ?_)
  rw [if_pos (by rfl)]
  go_simp; ((refine (HSt.out _).mono ?_); (rintro e w1 ⟨rfl, hb⟩); have HB1 := Lib.hid hb; clear hb; (try go_simp))
  refine hK.out _ _ (⟨cell_on HB1.out hHeld.1, cell_on HB1.out hHeld.2.1, cell_on HB1.out hHeld.2.2.1, cell_on HB1.out hHeld.2.2.2.1, cell_on HB1.out hHeld.2.2.2.2.1, cell_on HB1.out hHeld.2.2.2.2.2.1, cell_on HB1.out hHeld.2.2.2.2.2.2.1, cell_on HB1.out hHeld.2.2.2.2.2.2.2⟩) (fun hNew => ?_)
  clear hK K hHeld; (have hHeld := hNew); clear hNew; (try simp only [Act.put, List.setIfInBounds_toArray, List.set_cons_zero, List.set_cons_succ])
  (refine takeH (i := 3) (v := ?_) rfl (by kernel_rfl) (by kernel_rfl) (by kernel_rfl) (fun _ _ _ h => h) (Or.inl ⟨by rfl, ?_⟩) (by assumption) ?_; rotate_left; (focus ((intro wS hSw); (try dsimp only at hSw); obtain ⟨s0, s1, s2, s3, s4, s5, s6, s7⟩ := hSw; go_simp; (try with_reducible rfl); done)); (try simp only [Act.put, List.setIfInBounds_toArray, List.set_cons_zero, List.set_cons_succ]))
  (refine takeH (i := 4) (v := ?_) rfl (by kernel_rfl) (by kernel_rfl) (by kernel_rfl) (fun _ _ _ h => h) (Or.inl ⟨by rfl, ?_⟩) (by assumption) ?_; rotate_left; (focus ((intro wS hSw); (try dsimp only at hSw); obtain ⟨s0, s1, s2, s3, s4, s5, s6, s7⟩ := hSw; go_simp; (try with_reducible rfl); done)); (try simp only [Act.put, List.setIfInBounds_toArray, List.set_cons_zero, List.set_cons_succ]))
  (refine takeH (i := 5) (v := ?_) rfl (by kernel_rfl) (by kernel_rfl) (by kernel_rfl) (fun _ _ _ h => h) (Or.inl ⟨by rfl, ?_⟩) (by assumption) ?_; rotate_left; (focus ((intro wS hSw); (try dsimp only at hSw); obtain ⟨s0, s1, s2, s3, s4, s5, s6, s7⟩ := hSw; go_simp; (try with_reducible rfl); done)); (try simp only [Act.put, List.setIfInBounds_toArray, List.set_cons_zero, List.set_cons_succ]))
  (refine takeH (i := 6) (v := ?_) rfl (by kernel_rfl) (by kernel_rfl) (by kernel_rfl) (fun _ _ _ h => h) (Or.inl ⟨by rfl, ?_⟩) (by assumption) ?_; rotate_left; (focus ((intro wS hSw); (try dsimp only at hSw); obtain ⟨s0, s1, s2, s3, s4, s5, s6, s7⟩ := hSw; go_simp; (try with_reducible rfl); done)); (try simp only [Act.put, List.setIfInBounds_toArray, List.set_cons_zero, List.set_cons_succ]))
  (refine takeH (i := 8) (v := ?_) rfl (by kernel_rfl) (by kernel_rfl) (by kernel_rfl) (fun _ _ _ h => h) (Or.inl ⟨by rfl, ?_⟩) (by assumption) ?_; rotate_left; (focus ((intro wS hSw); (try dsimp only at hSw); obtain ⟨s0, s1, s2, s3, s4, s5, s6, s7⟩ := hSw; go_simp; (try with_reducible rfl); done)); (try simp only [Act.put, List.setIfInBounds_toArray, List.set_cons_zero, List.set_cons_succ]))
  (refine takeH (i := 9) (v := ?_) rfl (by kernel_rfl) (by kernel_rfl) (by kernel_rfl) (fun _ _ _ h => h) (Or.inl ⟨by rfl, ?_⟩) (by assumption) ?_; rotate_left; (focus ((intro wS hSw); (try dsimp only at hSw); obtain ⟨s0, s1, s2, s3, s4, s5, s6, s7⟩ := hSw; go_simp; (try with_reducible rfl); done)); (try simp only [Act.put, List.setIfInBounds_toArray, List.set_cons_zero, List.set_cons_succ]))
  refine aloneH (i := 7) rfl (by kernel_rfl) (fun K hK => ?_)
  rw [if_pos (by rfl)]
  go_simp; ((refine (HPl.out _).mono ?_); (rintro e w2 ⟨rfl, hb⟩); have HB2 := Lib.hid hb; clear hb; (try go_simp))
  refine hK.out _ _ (⟨cell_on HB2.out hHeld.1, cell_on HB2.out hHeld.2.1, cell_on HB2.out hHeld.2.2.1, cell_on HB2.out hHeld.2.2.2.1, cell_on HB2.out hHeld.2.2.2.2.1, cell_on HB2.out hHeld.2.2.2.2.2.1, cell_on HB2.out hHeld.2.2.2.2.2.2.1, cell_on HB2.out hHeld.2.2.2.2.2.2.2⟩) (fun hNew => ?_)
  clear hK K hHeld; (have hHeld := hNew); clear hNew; (try simp only [Act.put, List.setIfInBounds_toArray, List.set_cons_zero, List.set_cons_succ])
  (refine takeH (i := 10) (v := ?_) rfl (by kernel_rfl) (by kernel_rfl) (by kernel_rfl) (fun _ _ _ h => h) (Or.inl ⟨by rfl, ?_⟩) (by assumption) ?_; rotate_left; (focus ((intro wS hSw); (try dsimp only at hSw); obtain ⟨s0, s1, s2, s3, s4, s5, s6, s7⟩ := hSw; go_simp; (try with_reducible rfl); done)); (try simp only [Act.put, List.setIfInBounds_toArray, List.set_cons_zero, List.set_cons_succ]))
  (refine takeH (i := 11) (v := ?_) rfl (by kernel_rfl) (by kernel_rfl) (by kernel_rfl) (fun _ _ _ h => h) (Or.inl ⟨by rfl, ?_⟩) (by assumption) ?_; rotate_left; (focus ((intro wS hSw); (try dsimp only at hSw); obtain ⟨s0, s1, s2, s3, s4, s5, s6, s7⟩ := hSw; go_simp; (try with_reducible rfl); done)); (try simp only [Act.put, List.setIfInBounds_toArray, List.set_cons_zero, List.set_cons_succ]))
  refine wpAnyH_done (by kernel_rfl) ?_ _
  have HBz := Lib.hid (below_any HBd.out (Nat.le_refl _) (below_then HB1.out HB2.out))
  have HR2z := Lib.hid (heap_on (below_then HB1.out HB2.out) HR2d.out)
  have HR4z := Lib.hid (heap_on (below_then HB1.out HB2.out) HR4d.out)
  clear hHeld HBd HR2d HR4d
  obtain ⟨x0, x1, x2, x3, x4⟩ := cells5_row HR2z.out
  obtain ⟨z0, z1, z2, z3, z4⟩ := frozen5_row HR4z.out
  obtain ⟨r0, r1, r2, r3, r4⟩ := cells5_row HR4z.out
  obtain ⟨q0, q1, q2, q3, q4⟩ := frozen5_row HR2z.out
  go_wp2
  have h4 := far_cell (v := .int .i64 (b + 1)) (j := 4) HR4z.out (show w.heap.size + 1 + 1 ≠ w.heap.size by omega)
  exact bodyPost_ret (results_cell_of2 rfl _ _ (w.heap.size + 1 + 1) _ _ rfl rfl (load_clk _ _ _ _ _ _ _ _ (put5_row (.int .i64 c0) (.int .i64 c1) (.int .i64 c2) (.int .i64 a) (.int .i64 (b + 1)) h4))) rfl ⟨rfl, below_put5 (HBz.out.setCell (p := ⟨w.heap.size, 4, none⟩) (Nat.le_refl _) _) (by omega)⟩
theorem ref_close (w : World) (c : Ck) (ok : c.Ok) (k y i : Int) :
    Calls Try.prog 13 #[.agg (cRow c), .agg #[.int .i64 k, .int .i64 y, .int .i64 i]] w fun e w' => e = .returned (.tuple #[.agg (cRow (c.cl k y i)), .int .i64 (c.clE k y i)]) ∧ Below w.heap.size w w' := by
  have hs := fun W => ref_state W c ok k y i
  have hp := fun W => ref_place W c ok k y i
  have hb := ok.ba
  have hm := ok.kind.many
  have h0 := ok.f0
  have ha := ok.aa
  by_cases h : c.Has k y i
  · obtain ⟨e, hn⟩ := Ck.plN_has h
    by_cases h1 : Civ.place k y i < c.A
    · have eE : c.clE k y i = 70 := by unfold Ck.clE; rw [if_pos h, if_pos h1]
      have eC : c.cl k y i = c := cl_noK (by rw [eE]; decide)
      rw [eE, eC]
      by_cases h2 : Civ.place k y i < c.B
      · have es : c.st k y i = 3 := by unfold Ck.st; rw [if_pos h, if_pos h2]
        rw [es] at hs
        exact refcl_3 w _ _ _ _ _ k y i _ hs hp
      · have es : c.st k y i = 2 := by unfold Ck.st; rw [if_pos h, if_neg h2, if_pos h1]
        rw [es] at hs
        exact refcl_2 w _ _ _ _ _ k y i _ hs hp
    · have es : c.st k y i = 1 := by unfold Ck.st; rw [if_pos h, if_neg (by omega), if_neg h1]
      rw [es] at hs
      by_cases h3 : Civ.place k y i = c.A
      · have eE : c.clE k y i = 0 := by unfold Ck.clE; rw [if_pos h, if_neg h1, if_pos h3]
        have eC : cRow (c.cl k y i) = #[.int .i64 c.k, .int .i64 (Civ.perY c.k c.F), .int .i64 (Civ.perI c.k c.F), .int .i64 (c.A - c.F + 1), .int .i64 (c.B - c.F)] := by
          have : c.cl k y i = { c with A := c.A + 1 } := by unfold Ck.cl; rw [if_pos eE]; rfl
          rw [this]
          unfold cRow
          rw [show ({ c with A := c.A + 1 } : Ck).A - ({ c with A := c.A + 1 } : Ck).F = c.A - c.F + 1 by show c.A + 1 - c.F = _; omega]
        rw [eE, eC]
        exact refcl_ok w _ _ _ _ _ k y i _ (by rw [e]; omega) (wrapI _ (by omega) (by omega)) hs hp
      · have eE : c.clE k y i = 71 := by unfold Ck.clE; rw [if_pos h, if_neg h1, if_neg h3]
        have eC : c.cl k y i = c := cl_noK (by rw [eE]; decide)
        rw [eE, eC]
        exact refcl_far w _ _ _ _ _ k y i _ (by rw [e]; omega) hs hp
  · have es : c.st k y i = 0 := by unfold Ck.st; rw [if_neg h]
    have eE : c.clE k y i = 2 := by unfold Ck.clE; rw [if_neg h]
    have eC : c.cl k y i = c := cl_noK (by rw [eE]; decide)
    rw [es] at hs
    rw [eE, eC]
    exact refcl_0 w _ _ _ _ _ k y i _ hs hp
theorem ref_file (w : World) (c : Ck) (ok : c.Ok) (k y i : Int) :
    Calls Try.prog 15 #[.agg (cRow c), .agg #[.int .i64 k, .int .i64 y, .int .i64 i]] w fun e w' => e = .returned (.tuple #[.agg (cRow (c.fi k y i)), .int .i64 (c.fiE k y i)]) ∧ Below w.heap.size w w' := by
  have hs := fun W => ref_state W c ok k y i
  have hp := fun W => ref_place W c ok k y i
  have hb := ok.ba
  have hm := ok.kind.many
  have h0 := ok.f0
  have ha := ok.aa
  by_cases h : c.Has k y i
  · obtain ⟨e, hn⟩ := Ck.plN_has h
    have bad : ¬ (Civ.place k y i = c.B ∧ Civ.place k y i < c.A) → c.fiE k y i = 71 ∧ c.fi k y i = c := fun q => by
      have eE : c.fiE k y i = 71 := by unfold Ck.fiE; rw [if_pos h, if_neg q]
      exact ⟨eE, fi_noK (by rw [eE]; decide)⟩
    by_cases h2 : Civ.place k y i < c.B
    · obtain ⟨eE, eC⟩ := bad (fun x => by omega)
      have es : c.st k y i = 3 := by unfold Ck.st; rw [if_pos h, if_pos h2]
      rw [es] at hs
      rw [eE, eC]
      exact reffi_3 w _ _ _ _ _ k y i _ hs hp
    · by_cases h1 : Civ.place k y i < c.A
      · have es : c.st k y i = 2 := by unfold Ck.st; rw [if_pos h, if_neg h2, if_pos h1]
        rw [es] at hs
        by_cases h3 : Civ.place k y i = c.B
        · have eE : c.fiE k y i = 0 := by unfold Ck.fiE; rw [if_pos h, if_pos ⟨h3, h1⟩]
          have eC : cRow (c.fi k y i) = #[.int .i64 c.k, .int .i64 (Civ.perY c.k c.F), .int .i64 (Civ.perI c.k c.F), .int .i64 (c.A - c.F), .int .i64 (c.B - c.F + 1)] := by
            have : c.fi k y i = { c with B := c.B + 1 } := by unfold Ck.fi; rw [if_pos eE]; rfl
            rw [this]
            unfold cRow
            rw [show ({ c with B := c.B + 1 } : Ck).B - ({ c with B := c.B + 1 } : Ck).F = c.B - c.F + 1 by show c.B + 1 - c.F = _; omega]
          rw [eE, eC]
          rw [show c.plN k y i = c.B - c.F by rw [e]; omega] at hp
          exact reffi_ok w _ _ _ _ _ k y i (wrapI _ (by have := ok.fb; omega) (by omega)) hs hp
        · obtain ⟨eE, eC⟩ := bad (fun x => h3 x.1)
          rw [eE, eC]
          exact reffi_far w _ _ _ _ _ k y i _ (by rw [e]; omega) hs hp
      · obtain ⟨eE, eC⟩ := bad (fun x => h1 x.2)
        have es : c.st k y i = 1 := by unfold Ck.st; rw [if_pos h, if_neg h2, if_neg h1]
        rw [es] at hs
        rw [eE, eC]
        exact reffi_1 w _ _ _ _ _ k y i _ hs hp
  · have es : c.st k y i = 0 := by unfold Ck.st; rw [if_neg h]
    have eE : c.fiE k y i = 2 := by unfold Ck.fiE; rw [if_neg h]
    have eC : c.fi k y i = c := fi_noK (by rw [eE]; decide)
    rw [es] at hs
    rw [eE, eC]
    exact reffi_0 w _ _ _ _ _ k y i _ hs hp
end Go.Proofs.Ytdacpiegfobhbaa
