/- Where a line is supplied: the chapter's example. -/
import Derived.Test.YtdpafndejobbjaaPlK
import Derived.Test.YtdpafndejobbjaaDrawB
import Derived.Laws.Tables
import Derived.Laws.CopyOwn
namespace Go.Proofs.Ytdpafndejobbjaa
open Go.RowKit
set_option maxRecDepth 100000
set_option linter.unusedSimpArgs false
set_option linter.unusedVariables false

def bookL : LineV := (1, 2, ⟨#[68, 69]⟩, ⟨#[70, 82]⟩, ⟨#[]⟩, 1000, false, 0, false)
def bookD (A : Option Addr) : DocV := ⟨⟨#[98]⟩, true, false, ⟨#[]⟩, 19000, ⟨#[70, 82]⟩, ⟨#[]⟩, ⟨#[]⟩, A, [bookL], 1⟩
def BookP (w : World) (e : Ending) (w1 : World) : Prop := ∃ A : Addr, e = .returned (.tuple #[.agg #[.string ⟨#[98]⟩, .bool true, .bool false, .string ⟨#[]⟩, .int .i64 19000, .string ⟨#[70, 82]⟩, .string ⟨#[]⟩, .string ⟨#[]⟩, .slice (some A) 1 1], .agg #[.int .i64 1, .int .i64 2, .string ⟨#[68, 69]⟩, .string ⟨#[70, 82]⟩, .string ⟨#[]⟩, .int .i64 1000, .bool false, .int .i64 0, .bool false]]) ∧ Below w.heap.size w w1
set_option maxHeartbeats 1000000 in
theorem code_book  (w : World) : Calls Try.prog 25 #[] w fun e w1 => BookP w e w1 := by
  go_enter Try.func25, Try.ntmps25
  go_wp2
  have h0 := heap_alloc_new w (.cells #[.string ⟨#[]⟩, .bool false, .bool false, .string ⟨#[]⟩, .int .i64 0, .string ⟨#[]⟩, .string ⟨#[]⟩, .string ⟨#[]⟩, .slice none 0 0] 26)
  have h1 := heap_alloc_new (w.alloc (.cells #[.string ⟨#[]⟩, .bool false, .bool false, .string ⟨#[]⟩, .int .i64 0, .string ⟨#[]⟩, .string ⟨#[]⟩, .string ⟨#[]⟩, .slice none 0 0] 26)) (.cells #[.int .i64 0, .int .i64 0, .string ⟨#[]⟩, .string ⟨#[]⟩, .string ⟨#[]⟩, .int .i64 0, .bool false, .int .i64 0, .bool false] 34)
  have h2 := heap_alloc_new ((w.alloc (.cells #[.string ⟨#[]⟩, .bool false, .bool false, .string ⟨#[]⟩, .int .i64 0, .string ⟨#[]⟩, .string ⟨#[]⟩, .string ⟨#[]⟩, .slice none 0 0] 26)).alloc (.cells #[.int .i64 0, .int .i64 0, .string ⟨#[]⟩, .string ⟨#[]⟩, .string ⟨#[]⟩, .int .i64 0, .bool false, .int .i64 0, .bool false] 34)) (.cells #[.int .i64 1, .int .i64 2, .string ⟨#[68, 69]⟩, .string ⟨#[70, 82]⟩, .string ⟨#[]⟩, .int .i64 1000, .bool false, .int .i64 0, .bool false] 34)
  simp only [World.size_alloc] at h1 h2
  have HA0 := Lib.hid (heap_on (show Below _ _ (((w.alloc (.cells #[.string ⟨#[]⟩, .bool false, .bool false, .string ⟨#[]⟩, .int .i64 0, .string ⟨#[]⟩, .string ⟨#[]⟩, .string ⟨#[]⟩, .slice none 0 0] 26)).alloc (.cells #[.int .i64 0, .int .i64 0, .string ⟨#[]⟩, .string ⟨#[]⟩, .string ⟨#[]⟩, .int .i64 0, .bool false, .int .i64 0, .bool false] 34)).alloc (.cells #[.int .i64 1, .int .i64 2, .string ⟨#[68, 69]⟩, .string ⟨#[70, 82]⟩, .string ⟨#[]⟩, .int .i64 1000, .bool false, .int .i64 0, .bool false] 34)) by repeat (first | exact below_alloc _ _ | exact below_same _ | assumption | refine below_more ?_)) h0)
  have h1b := heap_on (below_alloc ((w.alloc (.cells #[.string ⟨#[]⟩, .bool false, .bool false, .string ⟨#[]⟩, .int .i64 0, .string ⟨#[]⟩, .string ⟨#[]⟩, .string ⟨#[]⟩, .slice none 0 0] 26)).alloc (.cells #[.int .i64 0, .int .i64 0, .string ⟨#[]⟩, .string ⟨#[]⟩, .string ⟨#[]⟩, .int .i64 0, .bool false, .int .i64 0, .bool false] 34)) (.cells #[.int .i64 1, .int .i64 2, .string ⟨#[68, 69]⟩, .string ⟨#[70, 82]⟩, .string ⟨#[]⟩, .int .i64 1000, .bool false, .int .i64 0, .bool false] 34)) (by simpa only [World.size_alloc] using h1)
  have HA1 := Lib.hid h1b
  have HA2 := Lib.hid h2
  have HW := Lib.hid (show Below w.heap.size w (((w.alloc (.cells #[.string ⟨#[]⟩, .bool false, .bool false, .string ⟨#[]⟩, .int .i64 0, .string ⟨#[]⟩, .string ⟨#[]⟩, .string ⟨#[]⟩, .slice none 0 0] 26)).alloc (.cells #[.int .i64 0, .int .i64 0, .string ⟨#[]⟩, .string ⟨#[]⟩, .string ⟨#[]⟩, .int .i64 0, .bool false, .int .i64 0, .bool false] 34)).alloc (.cells #[.int .i64 1, .int .i64 2, .string ⟨#[68, 69]⟩, .string ⟨#[70, 82]⟩, .string ⟨#[]⟩, .int .i64 1000, .bool false, .int .i64 0, .bool false] 34)) by repeat (first | exact below_alloc _ _ | exact below_same _ | assumption | refine below_more ?_))
  clear h0 h1 h1b h2
  generalize hx : World.alloc (World.alloc (World.alloc w _) _) _ = wa at HA0 HA1 HA2 HW ⊢
  clear hx
  have HAd0 := Lib.hid (heap_on (below_drew wa) HA0.out)
  have HAd1 := Lib.hid (heap_on (below_drew wa) HA1.out)
  have HAd2 := Lib.hid (heap_on (below_drew wa) HA2.out)
  have HWd := Lib.hid (below_then HW.out (below_drew wa))
  clear HA0 HA1 HA2 HW
  refine wp_region_held_drew (S := fun V => V.heap[w.heap.size + 1 + 1]? = some (.cells #[.int .i64 1, .int .i64 2, .string ⟨#[68, 69]⟩, .string ⟨#[70, 82]⟩, .string ⟨#[]⟩, .int .i64 1000, .bool false, .int .i64 0, .bool false] 34 (0, 0))) (by kernel_rfl) HAd2.out ?_
  intro hHeld
  generalize World.drew _ = wd at HAd0 HAd1 HAd2 HWd hHeld ⊢
  (refine takeH (i := 0) (v := ?_) rfl (by kernel_rfl) (by kernel_rfl) (by kernel_rfl) (fun _ _ _ h => h) (Or.inl ⟨by rfl, ?_⟩) (by assumption) ?_; rotate_left; (focus ((intro wS hSw); (try dsimp only at hSw); obtain ⟨s0, s1, s2, s3, s4, s5, s6, s7, s8⟩ := cellsLineV hSw; go_simp; (try with_reducible rfl); done)); (try simp only [Act.put, List.setIfInBounds_toArray, List.set_cons_zero, List.set_cons_succ]))
  (refine takeH (i := 3) (v := ?_) rfl (by kernel_rfl) (by kernel_rfl) (by kernel_rfl) (fun _ _ _ h => h) (Or.inl ⟨by rfl, ?_⟩) (by assumption) ?_; rotate_left; (focus ((intro wS hSw); (try dsimp only at hSw); obtain ⟨s0, s1, s2, s3, s4, s5, s6, s7, s8⟩ := cellsLineV hSw; go_simp; (try with_reducible rfl); done)); (try simp only [Act.put, List.setIfInBounds_toArray, List.set_cons_zero, List.set_cons_succ]))
  refine aloneH (i := 1) rfl (by kernel_rfl) (fun K hK => ?_)
  rw [if_pos (by rfl)]
  go_simp
  have hb := below_alloc wd (.cells #[.int .i64 1, .int .i64 2, .string ⟨#[68, 69]⟩, .string ⟨#[70, 82]⟩, .string ⟨#[]⟩, .int .i64 1000, .bool false, .int .i64 0, .bool false] 34)
  have HA10 := Lib.hid (heap_on hb HAd0.out)
  have HA11 := Lib.hid (heap_on hb HAd1.out)
  have HA12 := Lib.hid (heap_on hb HAd2.out)
  have HW1 := Lib.hid (below_then HWd.out hb)
  clear hb
  generalize hx : World.alloc wd (.cells #[.int .i64 1, .int .i64 2, .string ⟨#[68, 69]⟩, .string ⟨#[70, 82]⟩, .string ⟨#[]⟩, .int .i64 1000, .bool false, .int .i64 0, .bool false] 34) = w1 at HA10 HA11 HA12 HW1 ⊢
  clear hx
  obtain ⟨g, hg⟩ : ∃ g, g = wd.heap.size := ⟨_, rfl⟩
  rw [← hg]
  clear hg
  refine hK.out _ _ (HA12.out) (fun hNew => ?_)
  clear hK K hHeld; (have hHeld := hNew); clear hNew; (try simp only [Act.put, List.setIfInBounds_toArray, List.set_cons_zero, List.set_cons_succ])
  (refine takeH (i := 2) (v := ?_) rfl (by kernel_rfl) (by kernel_rfl) (by kernel_rfl) (fun _ _ _ h => h) (Or.inl ⟨by rfl, ?_⟩) (by assumption) ?_; rotate_left; (focus ((intro wS hSw); (try dsimp only at hSw); obtain ⟨s0, s1, s2, s3, s4, s5, s6, s7, s8⟩ := cellsLineV hSw; go_simp; (try with_reducible rfl); done)); (try simp only [Act.put, List.setIfInBounds_toArray, List.set_cons_zero, List.set_cons_succ]))
  refine aloneH (i := 4) rfl (by kernel_rfl) (fun K hK => ?_)
  rw [if_pos (by rfl)]
  refine wp_store_row 26 (.tmp 0) (.tmp 6) (by rfl) w.heap.size #[.string ⟨#[98]⟩, .bool true, .bool false, .string ⟨#[]⟩, .int .i64 19000, .string ⟨#[70, 82]⟩, .string ⟨#[]⟩, .string ⟨#[]⟩, .slice (some ⟨g, 0, none⟩) 1 1] (by rfl) (by rfl) 26 #[.string ⟨#[]⟩, .bool false, .bool false, .string ⟨#[]⟩, .int .i64 0, .string ⟨#[]⟩, .string ⟨#[]⟩, .string ⟨#[]⟩, .slice none 0 0] HA10.out (by kernel_rfl) (by rfl) (by simp [Value.oneCell']) ?_
  have HA20 := Lib.hid (setRow_heap w1 w.heap.size _ #[.string ⟨#[98]⟩, .bool true, .bool false, .string ⟨#[]⟩, .int .i64 19000, .string ⟨#[70, 82]⟩, .string ⟨#[]⟩, .string ⟨#[]⟩, .slice (some ⟨g, 0, none⟩) 1 1] _ _ HA10.out)
  have HA21 := Lib.hid ((setRow_other w1 w.heap.size _ #[.string ⟨#[98]⟩, .bool true, .bool false, .string ⟨#[]⟩, .int .i64 19000, .string ⟨#[70, 82]⟩, .string ⟨#[]⟩, .string ⟨#[]⟩, .slice (some ⟨g, 0, none⟩) 1 1] (by omega)).trans HA11.out)
  have HA22 := Lib.hid ((setRow_other w1 w.heap.size (w.heap.size + 1 + 1) #[.string ⟨#[98]⟩, .bool true, .bool false, .string ⟨#[]⟩, .int .i64 19000, .string ⟨#[70, 82]⟩, .string ⟨#[]⟩, .string ⟨#[]⟩, .slice (some ⟨g, 0, none⟩) 1 1] (by omega)).trans HA12.out)
  have HW2 := Lib.hid (below_setRow HW1.out (g := w.heap.size) (by omega) #[.string ⟨#[98]⟩, .bool true, .bool false, .string ⟨#[]⟩, .int .i64 19000, .string ⟨#[70, 82]⟩, .string ⟨#[]⟩, .string ⟨#[]⟩, .slice (some ⟨g, 0, none⟩) 1 1])
  generalize hx : World.setRow w1 w.heap.size _ = w2 at HA20 HA21 HA22 HW2 ⊢
  clear hx
  refine hK.out _ _ (HA22.out) (fun hNew => ?_)
  clear hK K hHeld; (have hHeld := hNew); clear hNew; (try simp only [Act.put])
  refine aloneH (i := 5) rfl (by kernel_rfl) (fun K hK => ?_)
  rw [if_pos (by rfl)]
  refine wp_store_row 34 (.tmp 1) (.tmp 7) (by rfl) (w.heap.size + 1) #[.int .i64 1, .int .i64 2, .string ⟨#[68, 69]⟩, .string ⟨#[70, 82]⟩, .string ⟨#[]⟩, .int .i64 1000, .bool false, .int .i64 0, .bool false] (by rfl) (by rfl) 34 #[.int .i64 0, .int .i64 0, .string ⟨#[]⟩, .string ⟨#[]⟩, .string ⟨#[]⟩, .int .i64 0, .bool false, .int .i64 0, .bool false] HA21.out (by kernel_rfl) (by rfl) (by simp [Value.oneCell']) ?_
  have HA31 := Lib.hid (setRow_heap w2 (w.heap.size + 1) _ #[.int .i64 1, .int .i64 2, .string ⟨#[68, 69]⟩, .string ⟨#[70, 82]⟩, .string ⟨#[]⟩, .int .i64 1000, .bool false, .int .i64 0, .bool false] _ _ HA21.out)
  have HA30 := Lib.hid ((setRow_other w2 (w.heap.size + 1) _ #[.int .i64 1, .int .i64 2, .string ⟨#[68, 69]⟩, .string ⟨#[70, 82]⟩, .string ⟨#[]⟩, .int .i64 1000, .bool false, .int .i64 0, .bool false] (by omega)).trans HA20.out)
  have HA32 := Lib.hid ((setRow_other w2 (w.heap.size + 1) (w.heap.size + 1 + 1) #[.int .i64 1, .int .i64 2, .string ⟨#[68, 69]⟩, .string ⟨#[70, 82]⟩, .string ⟨#[]⟩, .int .i64 1000, .bool false, .int .i64 0, .bool false] (by omega)).trans HA22.out)
  have HW3 := Lib.hid (below_setRow HW2.out (g := (w.heap.size + 1)) (by omega) #[.int .i64 1, .int .i64 2, .string ⟨#[68, 69]⟩, .string ⟨#[70, 82]⟩, .string ⟨#[]⟩, .int .i64 1000, .bool false, .int .i64 0, .bool false])
  generalize hx : World.setRow w2 (w.heap.size + 1) _ = w3 at HA31 HA30 HA32 HW3 ⊢
  clear hx
  refine hK.out _ _ (HA32.out) (fun hNew => ?_)
  clear hK K hHeld; (have hHeld := hNew); clear hNew; (try simp only [Act.put])
  refine wpAnyH_done (by kernel_rfl) ?_ _
  clear hHeld
  obtain ⟨a0, a1, a2, a3, a4, a5, a6, a7, a8⟩ := cellsLineV HA30.out
  obtain ⟨b0, b1, b2, b3, b4, b5, b6, b7, b8⟩ := cellsLineV HA31.out
  go_wp2
  exact bodyPost_ret (v := .tuple #[.agg #[.string ⟨#[98]⟩, .bool true, .bool false, .string ⟨#[]⟩, .int .i64 19000, .string ⟨#[70, 82]⟩, .string ⟨#[]⟩, .string ⟨#[]⟩, .slice (some ⟨g, 0, none⟩) 1 1], .agg #[.int .i64 1, .int .i64 2, .string ⟨#[68, 69]⟩, .string ⟨#[70, 82]⟩, .string ⟨#[]⟩, .int .i64 1000, .bool false, .int .i64 0, .bool false]]) (by simp [results, Try.results25, go_sem, a0, a1, a2, a3, a4, a5, a6, a7, a8, b0, b1, b2, b3, b4, b5, b6, b7, b8]) rfl ⟨⟨g, 0, none⟩, rfl, HW3.out⟩
end Go.Proofs.Ytdpafndejobbjaa
