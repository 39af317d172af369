/- The document's clock: where a day's things count: one way of it. -/
import Derived.Test.YtdacpiegfobhbaaPdK
namespace Go.Proofs.Ytdacpiegfobhbaa
open Go.RowKit
set_option maxRecDepth 100000
set_option linter.unusedSimpArgs false
set_option linter.unusedVariables false

set_option maxHeartbeats 400000 in
theorem refrt_first (w : World) (c0 c1 c2 a b n k y i st d m q : Int) (hst : ¬ st = 0) (hst1 : ¬ st = 1) (hd : ¬ d = 0)
    (ho : ∀ W, Calls Try.prog 29 #[.int .i64 n, .int .i64 c0] W fun e w' => e = .returned (.tuple #[.agg #[.int .i64 k, .int .i64 y, .int .i64 i], .int .i64 0]) ∧ Below W.heap.size W w')
    (hs : ∀ W, Calls Try.prog 20 #[.agg #[.int .i64 c0, .int .i64 c1, .int .i64 c2, .int .i64 a, .int .i64 b], .agg #[.int .i64 k, .int .i64 y, .int .i64 i]] W fun e w' => e = .returned (.int .i64 st) ∧ Below W.heap.size W w')
    (hf : ∀ W, Calls Try.prog 10 #[.agg #[.int .i64 c0, .int .i64 c1, .int .i64 c2, .int .i64 a, .int .i64 b]] W fun e w' => e = .returned (.agg #[.int .i64 d, .int .i64 m, .int .i64 q]) ∧ Below W.heap.size W w') :
    Calls Try.prog 18 #[.agg #[.int .i64 c0, .int .i64 c1, .int .i64 c2, .int .i64 a, .int .i64 b], .int .i64 n] w fun e w' => e = .returned (.tuple #[.agg #[.int .i64 d, .int .i64 m, .int .i64 q], .agg #[.int .i64 k, .int .i64 y, .int .i64 i], .int .i64 0]) ∧ Below w.heap.size w w' := by
  have HO := Lib.hid ho
  have hd0 : (d == 0) = false := by simp [hd]
  have hst0 : (st == 0) = false := by simp [hst]
  have hst2 : (st == 1) = false := by simp [hst1]
  have HS := Lib.hid hs
  have HF := Lib.hid hf
  have b1 := below_alloc (w.alloc (.cells #[.int .i64 c0, .int .i64 c1, .int .i64 c2, .int .i64 a, .int .i64 b] 31)) (.cells #[.int .i64 0, .int .i64 0, .int .i64 0] 24)
  have b2 := below_alloc ((w.alloc (.cells #[.int .i64 c0, .int .i64 c1, .int .i64 c2, .int .i64 a, .int .i64 b] 31)).alloc (.cells #[.int .i64 0, .int .i64 0, .int .i64 0] 24)) (.cells #[.int .i64 0, .int .i64 0, .int .i64 0] 24)
  have HR2 := Lib.hid (heap_on b2 (heap_on b1 (heap_alloc_new w (.cells #[.int .i64 c0, .int .i64 c1, .int .i64 c2, .int .i64 a, .int .i64 b] 31))))
  have HR4 := Lib.hid (heap_on b2 (heap_alloc_new2 w (.cells #[.int .i64 c0, .int .i64 c1, .int .i64 c2, .int .i64 a, .int .i64 b] 31) (.cells #[.int .i64 0, .int .i64 0, .int .i64 0] 24)))
  have HR5 : Hid ((((w.alloc (.cells #[.int .i64 c0, .int .i64 c1, .int .i64 c2, .int .i64 a, .int .i64 b] 31)).alloc (.cells #[.int .i64 0, .int .i64 0, .int .i64 0] 24)).alloc (.cells #[.int .i64 0, .int .i64 0, .int .i64 0] 24)).heap[w.heap.size + 1 + 1]? = some (.cells #[.int .i64 0, .int .i64 0, .int .i64 0] 24 (0, 0))) := Lib.hid (by
    have := heap_alloc_new ((w.alloc (.cells #[.int .i64 c0, .int .i64 c1, .int .i64 c2, .int .i64 a, .int .i64 b] 31)).alloc (.cells #[.int .i64 0, .int .i64 0, .int .i64 0] 24)) (.cells #[.int .i64 0, .int .i64 0, .int .i64 0] 24)
    simpa using this)
  have HB0 := Lib.hid (below_then (below_then (below_alloc _ _) b1) b2)
  clear b1 b2 ho hs hf hd hst hst1
  go_enter Try.func18, Try.ntmps18
  go_wp2_with (go_at_call 29; refine (HO.out _).mono ?_; rintro e w1 ⟨rfl, hb⟩; have HB1 := Lib.hid (below_then HB0.out hb); have hz1 : w.heap.size + 1 + 1 < w1.heap.size := (by have := hb.size; simp at this; omega); have HR2a := Lib.hid (heap_on hb HR2.out); have HR4a := Lib.hid (heap_on hb HR4.out); have HR5a := Lib.hid (heap_on hb HR5.out); clear hb; refine Stop.out ?_)
  unfold Stop
  clear HR2 HR4 HR5 HB0
  have hz1a : w.heap.size < w1.heap.size := by omega
  have hz1b : w.heap.size + 1 < w1.heap.size := by omega
  have b7 := below_alloc w1 (.cells #[.int .i64 k, .int .i64 y, .int .i64 i] 24)
  have HBp := Lib.hid (below_any HB1.out (Nat.le_refl _) b7)
  have HR2p := Lib.hid (heap_on b7 HR2a.out)
  have HR4p := Lib.hid (heap_on b7 HR4a.out)
  have HR5p := Lib.hid (heap_on b7 HR5a.out)
  have HR7p := Lib.hid (heap_alloc_new w1 (.cells #[.int .i64 k, .int .i64 y, .int .i64 i] 24))
  clear b7
  obtain ⟨x0, x1, x2, x3, x4⟩ := cells5_row HR2a.out
  go_wp2_with (go_at_call 20; refine (HS.out _).mono ?_; rintro e w2 ⟨rfl, hb⟩; have HB2 := Lib.hid (below_any HBp.out (Nat.le_refl _) hb); have HR22 := Lib.hid (heap_on hb HR2p.out); have HR42 := Lib.hid (heap_on hb HR4p.out); have HR52 := Lib.hid (heap_on hb HR5p.out); have HR72 := Lib.hid (heap_on hb HR7p.out); have hz2 := hb.size; (try simp at hz2); clear hb; refine Stop.out ?_)
  unfold Stop
  clear x0 x1 x2 x3 x4
  obtain ⟨x0, x1, x2, x3, x4⟩ := cells5_row HR22.out
  obtain ⟨u0, u1, u2⟩ := cells3_row HR72.out
  go_wp2_with (go_at_call 10; refine (HF.out _).mono ?_; rintro e w3 ⟨rfl, hb⟩; have HB3 := Lib.hid (below_any HB2.out (Nat.le_refl _) hb); have HR23 := Lib.hid (heap_on hb HR22.out); have HR43 := Lib.hid (heap_on hb HR42.out); have HR53 := Lib.hid (heap_on hb HR52.out); have HR73 := Lib.hid (heap_on hb HR72.out); have hz3 := hb.size; (try simp at hz3); clear hb; refine Stop.out ?_)
  unfold Stop
  clear x0 x1 x2 x3 x4 u0 u1 u2
  have h3a : w.heap.size < w3.heap.size := by omega
  have h3b : w.heap.size + 1 < w3.heap.size := by omega
  have h3c : w.heap.size + 1 + 1 < w3.heap.size := by omega
  have h3d : w1.heap.size < w3.heap.size := by omega
  have b9 := below_alloc w3 (.cells #[.int .i64 d, .int .i64 m, .int .i64 q] 24)
  have HBq := Lib.hid (below_any HB3.out (Nat.le_refl _) b9)
  have HR2q := Lib.hid (heap_on b9 HR23.out)
  have HR4q := Lib.hid (heap_on b9 HR43.out)
  have HR5q := Lib.hid (heap_on b9 HR53.out)
  have HR7q := Lib.hid (heap_on b9 HR73.out)
  have HR9q := Lib.hid (heap_alloc_new w3 (.cells #[.int .i64 d, .int .i64 m, .int .i64 q] 24))
  clear b9
  obtain ⟨x0, x1, x2, x3, x4⟩ := cells5_row HR2q.out
  obtain ⟨u0, u1, u2⟩ := cells3_row HR7q.out
  obtain ⟨v0, v1, v2⟩ := cells3_row HR9q.out
  go_wp2_with (go_at_call 20; refine (HS.out _).mono ?_; rintro e w4 ⟨rfl, hb⟩; have HB4 := Lib.hid (below_any HBq.out (Nat.le_refl _) hb); have HR24 := Lib.hid (heap_on hb HR2q.out); have HR44 := Lib.hid (heap_on hb HR4q.out); have HR54 := Lib.hid (heap_on hb HR5q.out); have HR74 := Lib.hid (heap_on hb HR7q.out); have HR94 := Lib.hid (heap_on hb HR9q.out); have hz4 := hb.size; (try simp at hz4); clear hb; refine Stop.out ?_)
  unfold Stop
  clear x0 x1 x2 x3 x4 u0 u1 u2 v0 v1 v2
  go_wp2_with fail
  have HBd : Hid (Below w.heap.size w w4.drew) := Lib.hid HB4.out.drew
  have HR4d : Hid (w4.drew.heap[w.heap.size + 1]? = _) := Lib.hid HR44.out
  have HR5d : Hid (w4.drew.heap[w.heap.size + 1 + 1]? = _) := Lib.hid HR54.out
  refine wp_region_held_drew (S := fun W => W.heap[w1.heap.size]? = some (.cells #[.int .i64 k, .int .i64 y, .int .i64 i] 24 (0, 0)) ∧ W.heap[w3.heap.size]? = some (.cells #[.int .i64 d, .int .i64 m, .int .i64 q] 24 (0, 0))) (by kernel_rfl) ⟨HR74.out, HR94.out⟩ ?_
  intro hHeld
  generalize w4.drew = wd at HBd HR4d HR5d hHeld ⊢
  (refine takeH (i := 0) (v := (.agg #[.int .i64 d, .int .i64 m, .int .i64 q])) rfl (by kernel_rfl) (by kernel_rfl) (by kernel_rfl) (fun _ _ _ h => h) (yieldsIf_load_rowE (by rfl) 24 (.tmp 9) rfl w3.heap.size rfl 24 #[.int .i64 d, .int .i64 m, .int .i64 q] (0, 0) _ (fun W h => h.2) Try.underlying24 rfl (by kernel_rfl)) (by assumption) ?_; (try simp only [Act.put, List.setIfInBounds_toArray, List.set_cons_zero, List.set_cons_succ]))
  (refine takeH (i := 1) (v := (.agg #[.int .i64 k, .int .i64 y, .int .i64 i])) rfl (by kernel_rfl) (by kernel_rfl) (by kernel_rfl) (fun _ _ _ h => h) (yieldsIf_load_rowE (by rfl) 24 (.tmp 7) rfl w1.heap.size rfl 24 #[.int .i64 k, .int .i64 y, .int .i64 i] (0, 0) _ (fun W h => h.1) Try.underlying24 rfl (by kernel_rfl)) (by assumption) ?_; (try simp only [Act.put, List.setIfInBounds_toArray, List.set_cons_zero, List.set_cons_succ]))
  refine aloneH (i := 2) rfl (by kernel_rfl) (fun K hK => ?_)
  rw [if_pos (by rfl)]
  refine wp_store_mid 24 (.tmp 4) (.tmp 41) rfl (w.heap.size + 1) 0 #[.int .i64 d, .int .i64 m, .int .i64 q] rfl rfl (there3 HR4d.out) (by kernel_rfl) (by simp [Value.oneCell']) ?_
  refine hK.out _ _ (⟨(far_setCells3 (by omega)).trans hHeld.1, (far_setCells3 (by omega)).trans hHeld.2⟩) (fun hNew => ?_)
  clear hK K hHeld; (have hHeld := hNew); clear hNew; (try simp only [Act.put])
  refine aloneH (i := 3) rfl (by kernel_rfl) (fun K hK => ?_)
  rw [if_pos (by rfl)]
  refine wp_store_mid 24 (.tmp 5) (.tmp 42) rfl (w.heap.size + 1 + 1) 0 #[.int .i64 k, .int .i64 y, .int .i64 i] rfl rfl (there3 ((far_setCells3 (by omega)).trans HR5d.out)) (by kernel_rfl) (by simp [Value.oneCell']) ?_
  refine hK.out _ _ (⟨(far_setCells3 (by omega)).trans hHeld.1, (far_setCells3 (by omega)).trans hHeld.2⟩) (fun hNew => ?_)
  clear hK K hHeld; (have hHeld := hNew); clear hNew; (try simp only [Act.put])
  (refine takeH (i := 4) (v := ?_) rfl (by kernel_rfl) (by kernel_rfl) (by kernel_rfl) (fun _ _ _ h => h) (Or.inl ⟨by rfl, ?_⟩) (by assumption) ?_; rotate_left; (focus ((intro wS hSw); (try dsimp only at hSw); obtain ⟨s0, s1⟩ := hSw; go_simp; (try with_reducible rfl); done)); (try simp only [Act.put, List.setIfInBounds_toArray, List.set_cons_zero, List.set_cons_succ]))
  refine wpAnyH_done (by kernel_rfl) ?_ _
  have h4 := (far_setCells3 (a' := .int .i64 k) (b' := .int .i64 y) (c' := .int .i64 i) (g := w.heap.size + 1 + 1) (k := w.heap.size + 1) (by omega)).trans (row_setCells3 (.int .i64 d) (.int .i64 m) (.int .i64 q) HR4d.out)
  have h5 := row_setCells3 (.int .i64 k) (.int .i64 y) (.int .i64 i) ((far_setCells3 (a' := .int .i64 d) (b' := .int .i64 m) (c' := .int .i64 q) (g := w.heap.size + 1) (k := w.heap.size + 1 + 1) (by omega)).trans HR5d.out)
  have HBq := Lib.hid (below_setCells3 (a' := .int .i64 k) (b' := .int .i64 y) (c' := .int .i64 i) (g := w.heap.size + 1 + 1) (below_setCells3 (a' := .int .i64 d) (b' := .int .i64 m) (c' := .int .i64 q) (g := w.heap.size + 1) HBd.out (by omega)) (by omega))
  have H4 := Lib.hid h4
  have H5 := Lib.hid h5
  clear h4 h5 hHeld
  generalize ((wd.setCells (w.heap.size + 1) 0 [.int .i64 d, .int .i64 m, .int .i64 q]).setCells (w.heap.size + 1 + 1) 0 [.int .i64 k, .int .i64 y, .int .i64 i]) = wz at H4 H5 HBq ⊢
  go_wp2
  exact bodyPost_ret (results_cells3 rfl _ _ (w.heap.size + 1) (w.heap.size + 1 + 1) _ _ _ rfl rfl rfl (load_per _ _ _ _ _ _ H4.out) (load_per _ _ _ _ _ _ H5.out)) rfl ⟨rfl, HBq.out⟩
end Go.Proofs.Ytdacpiegfobhbaa
