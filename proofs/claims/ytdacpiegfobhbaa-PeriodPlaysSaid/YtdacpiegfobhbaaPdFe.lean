/- Where a day's things count: one way of it. -/
import Derived.Test.YtdacpiegfobhbaaPdF
namespace Go.Proofs.Ytdacpiegfobhbaa
open Go.RowKit
set_option maxRecDepth 100000
set_option linter.unusedSimpArgs false
set_option linter.unusedVariables false

set_option maxHeartbeats 400000 in
theorem route_first (w : World) (P : Nat) (n k y i : Int) (q st a b c : Int) (hst : ¬ st = 1) (ha : ¬ a = 0) (n0 : P < w.heap.size) (c0 : w.cell? ⟨P, 0, none⟩ = some (.int .i64 q))
    (hm : ∀ W, Below w.heap.size w W → Calls Try.prog 37 #[.pointer (some ⟨P, 0, none⟩)] W fun e w' => e = .returned (.bool true) ∧ W = w')
    (ho : ∀ W, Calls Try.prog 28 #[.int .i64 n, .int .i64 q] W fun e w' => e = .returned (.tuple #[.agg #[.int .i64 k, .int .i64 y, .int .i64 i], .int .i64 0]) ∧ Below W.heap.size W w')
    (hh : ∀ W, Below w.heap.size w W → Calls Try.prog 38 #[.pointer (some ⟨P, 0, none⟩), .agg #[.int .i64 k, .int .i64 y, .int .i64 i]] W fun e w' => e = .returned (.bool true) ∧ Below W.heap.size W w')
    (hs : ∀ W, Below w.heap.size w W → Calls Try.prog 19 #[.pointer (some ⟨P, 0, none⟩), .agg #[.int .i64 k, .int .i64 y, .int .i64 i]] W fun e w' => e = .returned (.int .i64 st) ∧ Below W.heap.size W w')
    (hf : ∀ W, Below w.heap.size w W → Calls Try.prog 21 #[.pointer (some ⟨P, 0, none⟩)] W fun e w' => e = .returned (.agg #[.int .i64 a, .int .i64 b, .int .i64 c]) ∧ Below W.heap.size W w') :
    Calls Try.prog 17 #[.pointer (some ⟨P, 0, none⟩), .int .i64 n] w fun e w' => e = .returned (.tuple #[.agg #[.int .i64 a, .int .i64 b, .int .i64 c], .agg #[.int .i64 k, .int .i64 y, .int .i64 i], .int .i64 0]) ∧ Below w.heap.size w w' := by
  have HM := Lib.hid hm
  have HO := Lib.hid ho
  have HH := Lib.hid hh
  have HS := Lib.hid hs
  have HF := Lib.hid hf
  have b1 := below_alloc (w.alloc (.cells #[.int .i64 0, .int .i64 0, .int .i64 0] 24)) (.cells #[.int .i64 0, .int .i64 0, .int .i64 0] 24)
  have HB0 := Lib.hid (below_then (below_alloc w (.cells #[.int .i64 0, .int .i64 0, .int .i64 0] 24)) b1)
  have HR4 := Lib.hid (heap_on b1 (heap_alloc_new w (.cells #[.int .i64 0, .int .i64 0, .int .i64 0] 24)))
  have HR5 := Lib.hid (heap_alloc_new2 w (.cells #[.int .i64 0, .int .i64 0, .int .i64 0] 24) (.cells #[.int .i64 0, .int .i64 0, .int .i64 0] 24))
  clear b1 hm ho hh hs hf
  go_enter Try.func17, Try.ntmps17
  go_wp2_with (first
    | (go_at_call 37; refine (HM.out _ HB0.out).mono ?_; rintro e w1 ⟨rfl, rfl⟩)
    | (go_at_call 28; refine (HO.out _).mono ?_; rintro e w1 ⟨rfl, hb⟩; have HB1 := Lib.hid (below_then HB0.out hb); have HR4a := Lib.hid (heap_on hb HR4.out); have HR5a := Lib.hid (heap_on hb HR5.out); clear hb; refine Stop.out ?_))
  unfold Stop
  clear HR4 HR5 c0 n0
  obtain ⟨u0, u1, u2⟩ := cells3_row HR5a.out
  obtain ⟨f0, f1, f2⟩ := frozen3_row HR5a.out
  have HBp := Lib.hid (below_put3 (a' := .int .i64 k) (b' := .int .i64 y) (c' := .int .i64 i) (g := w.heap.size + 1) HB1.out (by omega))
  have HR5p := Lib.hid (put3_row (.int .i64 k) (.int .i64 y) (.int .i64 i) HR5a.out)
  have HR4p := Lib.hid ((far_put3 (a' := .int .i64 k) (b' := .int .i64 y) (c' := .int .i64 i) (g := w.heap.size + 1) (k := w.heap.size) (by omega)).trans HR4a.out)
  go_wp2_with (go_at_call 38; refine (HH.out _ HBp.out).mono ?_; rintro e w2 ⟨rfl, hb⟩; have HB2 := Lib.hid (below_then HBp.out hb); have HR42 := Lib.hid (heap_on hb HR4p.out); have HR52 := Lib.hid (heap_on hb HR5p.out); clear hb; refine Stop.out ?_)
  unfold Stop
  obtain ⟨u0, u1, u2⟩ := cells3_row HR52.out
  obtain ⟨f0, f1, f2⟩ := frozen3_row HR52.out
  obtain ⟨x0, x1, x2⟩ := cells3_row HR42.out
  obtain ⟨e0, e1, e2⟩ := frozen3_row HR42.out
  go_wp2_with (go_at_call 19; refine (HS.out _ HB2.out).mono ?_; rintro e w3 ⟨rfl, hb⟩; have HB3 := Lib.hid (below_then HB2.out hb); have HR43 := Lib.hid (heap_on hb HR42.out); have HR53 := Lib.hid (heap_on hb HR52.out); clear hb; refine Stop.out ?_)
  unfold Stop
  obtain ⟨u0, u1, u2⟩ := cells3_row HR53.out
  obtain ⟨f0, f1, f2⟩ := frozen3_row HR53.out
  obtain ⟨x0, x1, x2⟩ := cells3_row HR43.out
  obtain ⟨e0, e1, e2⟩ := frozen3_row HR43.out
  go_wp2_with (go_at_call 21; refine (HF.out _ HB3.out).mono ?_; rintro e w4 ⟨rfl, hb⟩; have HB4 := Lib.hid (below_then HB3.out hb); have HR44 := Lib.hid (heap_on hb HR43.out); have HR54 := Lib.hid (heap_on hb HR53.out); clear hb; refine Stop.out ?_)
  unfold Stop
  obtain ⟨u0, u1, u2⟩ := cells3_row HR54.out
  obtain ⟨f0, f1, f2⟩ := frozen3_row HR54.out
  obtain ⟨x0, x1, x2⟩ := cells3_row HR44.out
  obtain ⟨e0, e1, e2⟩ := frozen3_row HR44.out
  go_wp2_with fail
  clear u0 u1 u2 f0 f1 f2 x0 x1 x2 e0 e1 e2
  have HBd : Hid (Below w.heap.size w w4.drew) := Lib.hid HB4.out.drew
  have HR4d : Hid (w4.drew.heap[w.heap.size]? = _) := Lib.hid HR44.out
  refine wp_region_held_drew (S := fun W => W.heap[w.heap.size + 1]? = some (.cells #[.int .i64 k, .int .i64 y, .int .i64 i] 24 (0, 0))) (by kernel_rfl) HR54.out ?_
  intro hHeld
  generalize w4.drew = wd at HBd HR4d hHeld ⊢
  (refine takeH (i := 0) (v := ?_) rfl (by kernel_rfl) (by kernel_rfl) (by kernel_rfl) (fun _ _ _ h => h) (Or.inl ⟨by rfl, ?_⟩) (by assumption) ?_; rotate_left; (focus ((intro wS hSw); (try dsimp only at hSw); have s0 := hSw; go_simp; (try with_reducible rfl); done)); (try simp only [Act.put, List.setIfInBounds_toArray, List.set_cons_zero, List.set_cons_succ]))
  (refine takeH (i := 2) (v := (.agg #[.int .i64 k, .int .i64 y, .int .i64 i])) rfl (by kernel_rfl) (by kernel_rfl) (by kernel_rfl) (fun _ _ _ h => h) (yieldsIf_load_rowE (by rfl) 24 (.tmp 5) rfl (w.heap.size + 1) rfl 24 #[.int .i64 k, .int .i64 y, .int .i64 i] (0, 0) _ (fun W h => h) Try.underlying24 rfl (by kernel_rfl)) (by assumption) ?_; (try simp only [Act.put, List.setIfInBounds_toArray, List.set_cons_zero, List.set_cons_succ]))
  refine aloneH (i := 1) rfl (by kernel_rfl) (fun K hK => ?_)
  rw [if_pos (by rfl)]
  go_simp; ((refine (HF.out wd HBd.out).mono ?_); (rintro e w1 ⟨rfl, hb⟩); have HBf := Lib.hid (below_then HBd.out hb); have HR4f := Lib.hid (heap_on hb HR4d.out); have HB1 := Lib.hid hb; clear hb; (try go_simp))
  refine hK.out _ _ (heap_on HB1.out hHeld) (fun hNew => ?_)
  clear hK K hHeld; (have hHeld := hNew); clear hNew; (try simp only [Act.put, List.setIfInBounds_toArray, List.set_cons_zero, List.set_cons_succ])
  refine aloneH (i := 3) rfl (by kernel_rfl) (fun K hK => ?_)
  rw [if_pos (by rfl)]
  refine wp_store_mid 24 (.tmp 4) (.tmp 46) rfl w.heap.size 0 #[.int .i64 a, .int .i64 b, .int .i64 c] rfl rfl (there3 (HR4f.out)) (by kernel_rfl) (by simp [Value.oneCell']) ?_
  refine hK.out _ _ ((far_setCells3 (by omega)).trans hHeld) (fun hNew => ?_)
  clear hK K hHeld; (have hHeld := hNew); clear hNew; (try simp only [Act.put])
  refine aloneH (i := 4) rfl (by kernel_rfl) (fun K hK => ?_)
  rw [if_pos (by rfl)]
  refine wp_store_mid 24 (.tmp 5) (.tmp 47) rfl (w.heap.size + 1) 0 #[.int .i64 k, .int .i64 y, .int .i64 i] rfl rfl (there3 hHeld) (by kernel_rfl) (by simp [Value.oneCell']) ?_
  refine hK.out _ _ (row_setCells3 _ _ _ hHeld) (fun hNew => ?_)
  clear hK K hHeld; (have hHeld := hNew); clear hNew; (try simp only [Act.put])
  (refine takeH (i := 5) (v := ?_) rfl (by kernel_rfl) (by kernel_rfl) (by kernel_rfl) (fun _ _ _ h => h) (Or.inl ⟨by rfl, ?_⟩) (by assumption) ?_; rotate_left; (focus ((intro wS hSw); (try dsimp only at hSw); have s0 := hSw; go_simp; (try with_reducible rfl); done)); (try simp only [Act.put, List.setIfInBounds_toArray, List.set_cons_zero, List.set_cons_succ]))
  refine wpAnyH_done (by kernel_rfl) ?_ _
  have h4 := (far_setCells3 (a' := .int .i64 k) (b' := .int .i64 y) (c' := .int .i64 i) (g := w.heap.size + 1) (k := w.heap.size) (by omega)).trans (row_setCells3 (.int .i64 a) (.int .i64 b) (.int .i64 c) HR4f.out)
  have HBq := Lib.hid (below_setCells3 (a' := .int .i64 k) (b' := .int .i64 y) (c' := .int .i64 i) (g := w.heap.size + 1) (below_setCells3 (a' := .int .i64 a) (b' := .int .i64 b) (c' := .int .i64 c) (g := w.heap.size) HBf.out (Nat.le_refl _)) (by omega))
  have H4 := Lib.hid h4
  have H5 := Lib.hid hHeld
  clear h4 hHeld
  generalize ((w1.setCells w.heap.size 0 [.int .i64 a, .int .i64 b, .int .i64 c]).setCells (w.heap.size + 1) 0 [.int .i64 k, .int .i64 y, .int .i64 i]) = wz at H4 H5 HBq ⊢
  go_wp2
  exact bodyPost_ret (results_cells3 rfl _ _ w.heap.size (w.heap.size + 1) _ _ _ rfl rfl rfl (load_per _ _ _ _ _ _ H4.out) (load_per _ _ _ _ _ _ H5.out)) rfl ⟨rfl, HBq.out⟩
end Go.Proofs.Ytdacpiegfobhbaa
