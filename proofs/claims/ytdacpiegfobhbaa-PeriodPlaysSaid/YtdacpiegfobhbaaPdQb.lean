/- The document's clock: where a day's things count: one way of it. -/
import Derived.Test.YtdacpiegfobhbaaPdK
namespace Go.Proofs.Ytdacpiegfobhbaa
open Go.RowKit
set_option maxRecDepth 100000
set_option linter.unusedSimpArgs false
set_option linter.unusedVariables false

set_option maxHeartbeats 400000 in
theorem refrt_ahead (w : World) (c0 c1 c2 a b n k y i st : Int) (hst : st = 0)
    (ho : ∀ W, Calls Try.prog 29 #[.int .i64 n, .int .i64 c0] W fun e w' => e = .returned (.tuple #[.agg #[.int .i64 k, .int .i64 y, .int .i64 i], .int .i64 0]) ∧ Below W.heap.size W w')
    (hs : ∀ W, Calls Try.prog 20 #[.agg #[.int .i64 c0, .int .i64 c1, .int .i64 c2, .int .i64 a, .int .i64 b], .agg #[.int .i64 k, .int .i64 y, .int .i64 i]] W fun e w' => e = .returned (.int .i64 st) ∧ Below W.heap.size W w') :
    Calls Try.prog 18 #[.agg #[.int .i64 c0, .int .i64 c1, .int .i64 c2, .int .i64 a, .int .i64 b], .int .i64 n] w fun e w' => e = .returned (.tuple #[.agg #[.int .i64 0, .int .i64 0, .int .i64 0], .agg #[.int .i64 0, .int .i64 0, .int .i64 0], .int .i64 30]) ∧ Below w.heap.size w w' := by
  have HO := Lib.hid ho
  subst hst
  have HS := Lib.hid hs
  have b1 := below_alloc (w.alloc (.cells #[.int .i64 c0, .int .i64 c1, .int .i64 c2, .int .i64 a, .int .i64 b] 31)) (.cells #[.int .i64 0, .int .i64 0, .int .i64 0] 24)
  have b2 := below_alloc ((w.alloc (.cells #[.int .i64 c0, .int .i64 c1, .int .i64 c2, .int .i64 a, .int .i64 b] 31)).alloc (.cells #[.int .i64 0, .int .i64 0, .int .i64 0] 24)) (.cells #[.int .i64 0, .int .i64 0, .int .i64 0] 24)
  have HR2 := Lib.hid (heap_on b2 (heap_on b1 (heap_alloc_new w (.cells #[.int .i64 c0, .int .i64 c1, .int .i64 c2, .int .i64 a, .int .i64 b] 31))))
  have HR4 := Lib.hid (heap_on b2 (heap_alloc_new2 w (.cells #[.int .i64 c0, .int .i64 c1, .int .i64 c2, .int .i64 a, .int .i64 b] 31) (.cells #[.int .i64 0, .int .i64 0, .int .i64 0] 24)))
  have HR5 : Hid ((((w.alloc (.cells #[.int .i64 c0, .int .i64 c1, .int .i64 c2, .int .i64 a, .int .i64 b] 31)).alloc (.cells #[.int .i64 0, .int .i64 0, .int .i64 0] 24)).alloc (.cells #[.int .i64 0, .int .i64 0, .int .i64 0] 24)).heap[w.heap.size + 1 + 1]? = some (.cells #[.int .i64 0, .int .i64 0, .int .i64 0] 24 (0, 0))) := Lib.hid (by
    have := heap_alloc_new ((w.alloc (.cells #[.int .i64 c0, .int .i64 c1, .int .i64 c2, .int .i64 a, .int .i64 b] 31)).alloc (.cells #[.int .i64 0, .int .i64 0, .int .i64 0] 24)) (.cells #[.int .i64 0, .int .i64 0, .int .i64 0] 24)
    simpa using this)
  have HB0 := Lib.hid (below_then (below_then (below_alloc _ _) b1) b2)
  clear b1 b2 ho hs
  go_enter Try.func18, Try.ntmps18
  go_wp2_with (go_at_call 29; refine (HO.out _).mono ?_; rintro e w1 ⟨rfl, hb⟩; have HB1 := Lib.hid (below_then HB0.out hb); have hz1 : w.heap.size + 1 + 1 < w1.heap.size := (by have := hb.size; simp at this; omega); have HR2a := Lib.hid (heap_on hb HR2.out); have HR4a := Lib.hid (heap_on hb HR4.out); have HR5a := Lib.hid (heap_on hb HR5.out); clear hb; refine Stop.out ?_)
  unfold Stop
  clear HR2 HR4 HR5 HB0
  have hz1a : w.heap.size < w1.heap.size := by omega
  have hz1b : w.heap.size + 1 < w1.heap.size := by omega
  have b7 := below_alloc w1 (.cells #[.int .i64 k, .int .i64 y, .int .i64 i] 24)
  have HBp := Lib.hid (below_any HB1.out (Nat.le_refl _) b7)
  have HR2p := Lib.hid (heap_on b7 HR2a.out)
  have HR4p := Lib.hid (heap_on b7 HR4a.out)
  have HR5p := Lib.hid (heap_on b7 HR5a.out)
  have HR7p := Lib.hid (heap_alloc_new w1 (.cells #[.int .i64 k, .int .i64 y, .int .i64 i] 24))
  clear b7
  obtain ⟨x0, x1, x2, x3, x4⟩ := cells5_row HR2a.out
  go_wp2_with (go_at_call 20; refine (HS.out _).mono ?_; rintro e w2 ⟨rfl, hb⟩; have HB2 := Lib.hid (below_any HBp.out (Nat.le_refl _) hb); have HR22 := Lib.hid (heap_on hb HR2p.out); have HR42 := Lib.hid (heap_on hb HR4p.out); have HR52 := Lib.hid (heap_on hb HR5p.out); have HR72 := Lib.hid (heap_on hb HR7p.out); have hz2 := hb.size; (try simp at hz2); clear hb; refine Stop.out ?_)
  unfold Stop
  clear x0 x1 x2 x3 x4
  obtain ⟨x0, x1, x2, x3, x4⟩ := cells5_row HR22.out
  obtain ⟨z40, z41, z42⟩ := frozen3_row HR42.out
  obtain ⟨r40, r41, r42⟩ := cells3_row HR42.out
  obtain ⟨z50, z51, z52⟩ := frozen3_row HR52.out
  obtain ⟨r50, r51, r52⟩ := cells3_row HR52.out
  obtain ⟨u0, u1, u2⟩ := cells3_row HR72.out
  go_wp2
  have h4 := (far_put3 (a' := .int .i64 0) (b' := .int .i64 0) (c' := .int .i64 0) (g := w.heap.size + 1 + 1) (k := w.heap.size + 1) (by omega)).trans (put3_row (.int .i64 0) (.int .i64 0) (.int .i64 0) HR42.out)
  have h5 := put3_row (.int .i64 0) (.int .i64 0) (.int .i64 0) ((far_put3 (a' := .int .i64 0) (b' := .int .i64 0) (c' := .int .i64 0) (g := w.heap.size + 1) (k := w.heap.size + 1 + 1) (by omega)).trans HR52.out)
  exact bodyPost_ret (results_cells3 rfl _ _ (w.heap.size + 1) (w.heap.size + 1 + 1) _ _ _ rfl rfl rfl (load_per _ _ _ _ _ _ h4) (load_per _ _ _ _ _ _ h5)) rfl ⟨rfl, below_put3 (below_put3 HB2.out (by omega)) (by omega)⟩
end Go.Proofs.Ytdacpiegfobhbaa
