/- The statement on what two spans have in common, walked. -/
import Derived.Test.YtlnpflfkkjcopaaTlN
namespace Go.Proofs.Ytlnpflfkkjcopaa
open Go.RowKit
set_option maxRecDepth 100000

set_option maxHeartbeats 1000000 in
theorem timelineMeets_any (f u g v : Int) (w : World) : Calls Try.prog 4 #[.agg #[.int .i64 f, .int .i64 u], .agg #[.int .i64 g, .int .i64 v]] w fun e w' => e = .returned (.bool true) ∧ Below w.heap.size w w' := by
  have h1 := fun W => code_meet f u g v W
  have h2 := fun W => code_meet g v f u W
  have h3 := fun W => ref_meet f u 0 g v 0 W
  rw [meetF_comm g, meetU_comm g, meetB_comm g] at h2
  generalize meetF f u g v = F at h1 h2 h3
  generalize meetU f u g v = U at h1 h2 h3
  generalize meetB f u g v = q at h1 h2 h3
  have H1 := Lib.hid h1
  have H2 := Lib.hid h2
  have H3 := Lib.hid h3
  have HX0 : Hid ((w.alloc (.cells #[.int .i64 f, .int .i64 u] 24)).alloc (.cells #[.int .i64 g, .int .i64 v] 24) = (w.alloc (.cells #[.int .i64 f, .int .i64 u] 24)).alloc (.cells #[.int .i64 g, .int .i64 v] 24)) := Lib.hid rfl
  have e1 := heap_alloc_new w (.cells #[.int .i64 f, .int .i64 u] 24)
  have e2 := heap_alloc_new (w.alloc (.cells #[.int .i64 f, .int .i64 u] 24)) (.cells #[.int .i64 g, .int .i64 v] 24)
  simp only [World.size_alloc] at e2
  have HB0 := Lib.hid (And.intro (heap_on (below_alloc (w.alloc (.cells #[.int .i64 f, .int .i64 u] 24)) (.cells #[.int .i64 g, .int .i64 v] 24)) e1) (And.intro e2 (below_then (below_alloc w (.cells #[.int .i64 f, .int .i64 u] 24)) (below_alloc _ (.cells #[.int .i64 g, .int .i64 v] 24)))))
  clear h1 h2 h3 e1 e2 HX0
  go_enter Try.func4, Try.ntmps4
  go_wp2_with (go_at_call 17; refine (H1.out _).mono ?_; rintro e w1 ⟨rfl, hb⟩; have HB1 := Lib.hid (And.intro (heap_on hb HB0.out.1) (And.intro (heap_on hb HB0.out.2.1) (below_then HB0.out.2.2 hb))); obtain ⟨a0, a1, _, _⟩ := row2 HB1.out.1; obtain ⟨b0, b1, _, _⟩ := row2 HB1.out.2.1; have hz0 : w.heap.size < w1.heap.size := heapLt HB1.out.1; have hz1 : w.heap.size + 1 < w1.heap.size := heapLt HB1.out.2.1; have HM1 := Lib.hid (heap_alloc_new w1 (.cells #[.int .i64 F, .int .i64 U] 24)); clear hb; refine Stop.out ?_)
  unfold Stop
  go_wp2_with (go_at_call 17; refine (H2.out _).mono ?_; rintro e w2 ⟨rfl, hb⟩; have HB2 := Lib.hid (And.intro (heap_on (below_then (below_alloc _ _) hb) HB1.out.1) (And.intro (heap_on (below_then (below_alloc _ _) hb) HB1.out.2.1) (below_then HB1.out.2.2 (below_then (below_alloc _ _) hb)))); have HM2 := Lib.hid (heap_on hb HM1.out); clear a0 a1 b0 b1; obtain ⟨a0, a1, _, _⟩ := row2 HB2.out.1; obtain ⟨b0, b1, _, _⟩ := row2 HB2.out.2.1; obtain ⟨m0, m1, _, _⟩ := row2 HM2.out; have hz2 : w.heap.size < w2.heap.size := heapLt HB2.out.1; have hz3 : w.heap.size + 1 < w2.heap.size := heapLt HB2.out.2.1; have hz4 : w1.heap.size < w2.heap.size := heapLt HM2.out; have HN2 := Lib.hid (heap_alloc_new w2 (.cells #[.int .i64 F, .int .i64 U] 24)); clear hb; refine Stop.out ?_)
  unfold Stop
  go_wp2_with (go_at_call 18; refine (H3.out _).mono ?_; rintro e w3 ⟨rfl, hb⟩; have HB3 := Lib.hid (below_then HB2.out.2.2 (below_then (below_alloc _ _) hb)); have HM3 := Lib.hid (heap_on (below_then (below_alloc _ _) hb) HM2.out); have HN3 := Lib.hid (heap_on hb HN2.out); clear a0 a1 b0 b1 m0 m1; obtain ⟨m0, m1, _, _⟩ := row2 HM3.out; obtain ⟨n0, n1, _, _⟩ := row2 HN3.out; have hz5 : w1.heap.size < w3.heap.size := heapLt HM3.out; have hz6 : w2.heap.size < w3.heap.size := heapLt HN3.out; clear hb; refine Stop.out ?_)
  unfold Stop
  go_wp2_with (go_at_call 9; refine (tl_lives _).mono ?_; rintro e w4 ⟨rfl, hb⟩; have HB4 := Lib.hid (below_then HB3.out (below_then (below_alloc _ _) hb)); clear hb; refine Stop.out ?_)
  unfold Stop
  go_wp2
  go_ret
  exact ⟨rfl, HB4.out⟩
end Go.Proofs.Ytlnpflfkkjcopaa
