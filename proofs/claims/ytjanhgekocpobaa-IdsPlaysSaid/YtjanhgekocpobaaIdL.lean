/- Documents that are there: the chapter's example, walked. -/
import Derived.Test.YtjanhgekocpobaaIdK
namespace Go.Proofs.Ytjanhgekocpobaa
open Go.RowKit
set_option maxRecDepth 100000
set_option linter.unusedSimpArgs false
set_option linter.unusedVariables false
attribute [local go_sem] Oper.semAt_some

/-- what the example's walk keeps -/
structure ExW (w0 : World) (P bm cm : Nat) (A : Addr) (cs : Array Value) (w : World) : Prop where
  set : SetAt w w0.heap.size P bm cm 0 0 noV noF noC
  row : RowLineV w (some A) [simpleL]
  line : w.heap[A.block]? = some (Obj.cells cs 60 (0, 0))
  low : Below w0.heap.size w0 w
theorem ExW.on {w0 w w' : World} {P bm cm : Nat} {A : Addr} {cs : Array Value} (h : ExW w0 P bm cm A cs w) (hb : Below w.heap.size w w') : ExW w0 P bm cm A cs w' :=
  ⟨h.set.on hb, h.row.on hb, heap_on hb h.line, below_then h.low hb⟩
/-- a box was laid and filled -/
theorem box_filled (w : World) (old new : Array Value) (hs : old.size = new.size) : Below w.heap.size w ((w.alloc (.cells old 29)).setRow w.heap.size new) ∧ ((w.alloc (.cells old 29)).setRow w.heap.size new).heap[w.heap.size]? = some (.cells new 29 (0, 0)) :=
  ⟨below_setRow (below_alloc w _) (Nat.le_refl _) _, setRow_heap _ _ _ _ _ _ (heap_alloc_new w _)⟩
theorem field_doc (A : Addr) (W : World) : Sem.run Try.prog (Instr.field 54 (.agg #[.int .i64 8, .string ⟨#[]⟩, .string ⟨#[]⟩, .int .i64 0, .int .i64 0, .int .i64 0, .int .i64 0, .int .i64 0, .int .i64 0, .int .i64 0, .int .i64 0, .int .i64 0, .int .i64 0, .string ⟨#[97]⟩, .bool true, .bool false, .string ⟨#[]⟩, .int .i64 19000, .string ⟨#[68, 69]⟩, .string ⟨#[]⟩, .string ⟨#[]⟩, .slice (some A) 1 1]) 11) W = .ok (.agg #[.string ⟨#[97]⟩, .bool true, .bool false, .string ⟨#[]⟩, .int .i64 19000, .string ⟨#[68, 69]⟩, .string ⟨#[]⟩, .string ⟨#[]⟩, .slice (some A) 1 1]) W := by
  first | rfl | kernel_rfl
set_option maxHeartbeats 4000000 in
theorem ids_lives (w : World) (hM : MaxL w) : Calls Try.prog 7 #[] w fun e w' => e = .returned (.bool true) ∧ Below w.heap.size w w' := by
  have HM := Lib.hid hM
  clear hM
  go_enter Try.func7, Try.ntmps7
  go_wp2_with (go_at_call 8; refine (code_new _).mono ?_; rintro e w1 ⟨P, bm, cm, rfl, hset, hb⟩; have H1 := Lib.hid (And.intro hset hb); clear hset hb; refine Stop.out ?_)
  unfold Stop
  go_wp2_with (go_at_call 21; refine (code_simple _).mono ?_; rintro e w2 ⟨A, rfl, hb, hr, hlt, cs, hcs⟩; have HE2 : Hid (ExW w P bm cm A cs w2) := Lib.hid ⟨H1.out.1.on hb, hr, hcs, below_then H1.out.2 hb⟩; clear hb hr hlt hcs; refine Stop.out ?_)
  unfold Stop
  have hfd := field_doc A w2
  have HN0 := Lib.hid (heap_alloc_new w2 (.cells #[.string ⟨#[]⟩, .bool false, .bool false, .string ⟨#[]⟩, .int .i64 0, .string ⟨#[]⟩, .string ⟨#[]⟩, .string ⟨#[]⟩, .slice none 0 0] 29))
  go_wp2_with ((with_reducible refine wpList_store_row (o := ⟨none, _, _, _, _, _⟩) ?b1 29 (.tmp 2) (.tmp 7) ?b2 w2.heap.size #[.string ⟨#[97]⟩, .bool true, .bool false, .string ⟨#[]⟩, .int .i64 19000, .string ⟨#[68, 69]⟩, .string ⟨#[]⟩, .string ⟨#[]⟩, .slice (some A) 1 1] ?b3 ?b4 29 #[.string ⟨#[]⟩, .bool false, .bool false, .string ⟨#[]⟩, .int .i64 0, .string ⟨#[]⟩, .string ⟨#[]⟩, .string ⟨#[]⟩, .slice none 0 0] ?b7 ?b6 ?b5 ?b8 ?_); (case b1 => rfl); (case b2 => rfl); (case b3 => rfl); (case b4 => rfl); (case b7 => exact HN0.out); (case b6 => exact doc_info); (case b5 => rfl); (case b8 => simp [Value.oneCell']); (try simp only [Act.put]); refine Stop.out ?_)
  unfold Stop
  clear hfd
  have HBF := Lib.hid (box_filled w2 #[.string ⟨#[]⟩, .bool false, .bool false, .string ⟨#[]⟩, .int .i64 0, .string ⟨#[]⟩, .string ⟨#[]⟩, .string ⟨#[]⟩, .slice none 0 0] #[.string ⟨#[97]⟩, .bool true, .bool false, .string ⟨#[]⟩, .int .i64 19000, .string ⟨#[68, 69]⟩, .string ⟨#[]⟩, .string ⟨#[]⟩, .slice (some A) 1 1] rfl)
  generalize (w2.alloc (.cells #[.string ⟨#[]⟩, .bool false, .bool false, .string ⟨#[]⟩, .int .i64 0, .string ⟨#[]⟩, .string ⟨#[]⟩, .string ⟨#[]⟩, .slice none 0 0] 29)).setRow w2.heap.size #[.string ⟨#[97]⟩, .bool true, .bool false, .string ⟨#[]⟩, .int .i64 19000, .string ⟨#[68, 69]⟩, .string ⟨#[]⟩, .string ⟨#[]⟩, .slice (some A) 1 1] = w3 at HBF ⊢
  have HE3 : Hid (ExW w P bm cm A cs w3) := Lib.hid (HE2.out.on HBF.out.1)
  obtain ⟨ga, hga⟩ : ∃ ga, ga = w2.heap.size := ⟨_, rfl⟩
  have HA3 : Hid (w3.heap[ga]? = some (.cells #[.string ⟨#[97]⟩, .bool true, .bool false, .string ⟨#[]⟩, .int .i64 19000, .string ⟨#[68, 69]⟩, .string ⟨#[]⟩, .string ⟨#[]⟩, .slice (some A) 1 1] 29 (0, 0))) := Lib.hid (by rw [hga]; exact HBF.out.2)
  rw [← hga]
  clear hga HBF HN0 HE2
  obtain ⟨u0, u1, u2, u3, u4, u5, u6, u7, u8⟩ := cellsLineV HA3.out
  have HN0 := Lib.hid (heap_alloc_new w3 (.cells #[.string ⟨#[]⟩, .bool false, .bool false, .string ⟨#[]⟩, .int .i64 0, .string ⟨#[]⟩, .string ⟨#[]⟩, .string ⟨#[]⟩, .slice none 0 0] 29))
  go_wp2_with ((with_reducible refine wpList_store_row (o := ⟨none, _, _, _, _, _⟩) ?b1 29 (.tmp 3) (.tmp 8) ?b2 w3.heap.size #[.string ⟨#[97]⟩, .bool true, .bool false, .string ⟨#[]⟩, .int .i64 19000, .string ⟨#[68, 69]⟩, .string ⟨#[]⟩, .string ⟨#[]⟩, .slice (some A) 1 1] ?b3 ?b4 29 #[.string ⟨#[]⟩, .bool false, .bool false, .string ⟨#[]⟩, .int .i64 0, .string ⟨#[]⟩, .string ⟨#[]⟩, .string ⟨#[]⟩, .slice none 0 0] ?b7 ?b6 ?b5 ?b8 ?_); (case b1 => rfl); (case b2 => rfl); (case b3 => rfl); (case b4 => rfl); (case b7 => exact HN0.out); (case b6 => exact doc_info); (case b5 => rfl); (case b8 => simp [Value.oneCell']); (try simp only [Act.put]); refine Stop.out ?_)
  unfold Stop
  clear u0 u1 u2 u3 u4 u5 u6 u7 u8
  have HBF := Lib.hid (box_filled w3 #[.string ⟨#[]⟩, .bool false, .bool false, .string ⟨#[]⟩, .int .i64 0, .string ⟨#[]⟩, .string ⟨#[]⟩, .string ⟨#[]⟩, .slice none 0 0] #[.string ⟨#[97]⟩, .bool true, .bool false, .string ⟨#[]⟩, .int .i64 19000, .string ⟨#[68, 69]⟩, .string ⟨#[]⟩, .string ⟨#[]⟩, .slice (some A) 1 1] rfl)
  generalize (w3.alloc (.cells #[.string ⟨#[]⟩, .bool false, .bool false, .string ⟨#[]⟩, .int .i64 0, .string ⟨#[]⟩, .string ⟨#[]⟩, .string ⟨#[]⟩, .slice none 0 0] 29)).setRow w3.heap.size #[.string ⟨#[97]⟩, .bool true, .bool false, .string ⟨#[]⟩, .int .i64 19000, .string ⟨#[68, 69]⟩, .string ⟨#[]⟩, .string ⟨#[]⟩, .slice (some A) 1 1] = w4 at HBF ⊢
  obtain ⟨gb, hgb⟩ : ∃ gb, gb = w3.heap.size := ⟨_, rfl⟩
  have HB4 : Hid (w4.heap[gb]? = some (.cells #[.string ⟨#[97]⟩, .bool true, .bool false, .string ⟨#[]⟩, .int .i64 19000, .string ⟨#[68, 69]⟩, .string ⟨#[]⟩, .string ⟨#[]⟩, .slice (some A) 1 1] 29 (0, 0))) := Lib.hid (by rw [hgb]; exact HBF.out.2)
  have HL6 : Hid (Below w3.heap.size w3 (((w4.setCell ⟨gb, 0, none⟩ (.string ⟨#[98]⟩)).setCell ⟨gb, 2, none⟩ (.bool true)).setCell ⟨gb, 3, none⟩ (.string ⟨#[97]⟩))) := Lib.hid (((HBF.out.1.setCell (p := ⟨gb, 0, none⟩) (by show w3.heap.size ≤ gb; omega) _).setCell (p := ⟨gb, 2, none⟩) (by show w3.heap.size ≤ gb; omega) _).setCell (p := ⟨gb, 3, none⟩) (by show w3.heap.size ≤ gb; omega) _)
  have HW6 : Hid ((((w4.setCell ⟨gb, 0, none⟩ (.string ⟨#[98]⟩)).setCell ⟨gb, 2, none⟩ (.bool true)).setCell ⟨gb, 3, none⟩ (.string ⟨#[97]⟩)).heap[gb]? = some (.cells #[.string ⟨#[98]⟩, .bool true, .bool true, .string ⟨#[97]⟩, .int .i64 19000, .string ⟨#[68, 69]⟩, .string ⟨#[]⟩, .string ⟨#[]⟩, .slice (some A) 1 1] 29 (0, 0))) := Lib.hid (heap_setCell_same _ gb 3 _ _ _ (heap_setCell_same _ gb 2 _ _ _ (heap_setCell_same w4 gb 0 _ _ _ HB4.out)))
  have hz6 : (((w4.setCell ⟨gb, 0, none⟩ (.string ⟨#[98]⟩)).setCell ⟨gb, 2, none⟩ (.bool true)).setCell ⟨gb, 3, none⟩ (.string ⟨#[97]⟩)).heap.size = w4.heap.size := by simp
  have HL7 : Hid (Below w3.heap.size w3 ((((w4.setCell ⟨gb, 0, none⟩ (.string ⟨#[98]⟩)).setCell ⟨gb, 2, none⟩ (.bool true)).setCell ⟨gb, 3, none⟩ (.string ⟨#[97]⟩)).alloc (.cells #[.string ⟨#[99]⟩, .bool true, .bool true, .string ⟨#[120]⟩, .int .i64 19000, .string ⟨#[68, 69]⟩, .string ⟨#[]⟩, .string ⟨#[]⟩, .slice (some A) 1 1] 29))) := Lib.hid (HL6.out.alloc HL6.out.size _)
  have HX7 : Hid (((((w4.setCell ⟨gb, 0, none⟩ (.string ⟨#[98]⟩)).setCell ⟨gb, 2, none⟩ (.bool true)).setCell ⟨gb, 3, none⟩ (.string ⟨#[97]⟩)).alloc (.cells #[.string ⟨#[99]⟩, .bool true, .bool true, .string ⟨#[120]⟩, .int .i64 19000, .string ⟨#[68, 69]⟩, .string ⟨#[]⟩, .string ⟨#[]⟩, .slice (some A) 1 1] 29)).heap[ga]? = some (.cells #[.string ⟨#[97]⟩, .bool true, .bool false, .string ⟨#[]⟩, .int .i64 19000, .string ⟨#[68, 69]⟩, .string ⟨#[]⟩, .string ⟨#[]⟩, .slice (some A) 1 1] 29 (0, 0)) ∧ ((((w4.setCell ⟨gb, 0, none⟩ (.string ⟨#[98]⟩)).setCell ⟨gb, 2, none⟩ (.bool true)).setCell ⟨gb, 3, none⟩ (.string ⟨#[97]⟩)).alloc (.cells #[.string ⟨#[99]⟩, .bool true, .bool true, .string ⟨#[120]⟩, .int .i64 19000, .string ⟨#[68, 69]⟩, .string ⟨#[]⟩, .string ⟨#[]⟩, .slice (some A) 1 1] 29)).heap[gb]? = some (.cells #[.string ⟨#[98]⟩, .bool true, .bool true, .string ⟨#[97]⟩, .int .i64 19000, .string ⟨#[68, 69]⟩, .string ⟨#[]⟩, .string ⟨#[]⟩, .slice (some A) 1 1] 29 (0, 0)) ∧ ((((w4.setCell ⟨gb, 0, none⟩ (.string ⟨#[98]⟩)).setCell ⟨gb, 2, none⟩ (.bool true)).setCell ⟨gb, 3, none⟩ (.string ⟨#[97]⟩)).alloc (.cells #[.string ⟨#[99]⟩, .bool true, .bool true, .string ⟨#[120]⟩, .int .i64 19000, .string ⟨#[68, 69]⟩, .string ⟨#[]⟩, .string ⟨#[]⟩, .slice (some A) 1 1] 29)).heap[w4.heap.size]? = some (.cells #[.string ⟨#[99]⟩, .bool true, .bool true, .string ⟨#[120]⟩, .int .i64 19000, .string ⟨#[68, 69]⟩, .string ⟨#[]⟩, .string ⟨#[]⟩, .slice (some A) 1 1] 29 (0, 0))) := Lib.hid ⟨heap_on HL7.out HA3.out, heap_on (below_alloc _ _) HW6.out, by have := heap_alloc_new (((w4.setCell ⟨gb, 0, none⟩ (.string ⟨#[98]⟩)).setCell ⟨gb, 2, none⟩ (.bool true)).setCell ⟨gb, 3, none⟩ (.string ⟨#[97]⟩)) (.cells #[.string ⟨#[99]⟩, .bool true, .bool true, .string ⟨#[120]⟩, .int .i64 19000, .string ⟨#[68, 69]⟩, .string ⟨#[]⟩, .string ⟨#[]⟩, .slice (some A) 1 1] 29); rw [hz6] at this; exact this⟩
  rw [← hgb]
  clear hgb HBF HN0 hz6
  obtain ⟨v0, v1, v2, v3, v4, v5, v6, v7, v8⟩ := cellsLineV HB4.out
  have z0 := frozen_of_row w4 gb 0 _ _ HB4.out
  have z2 := frozen_of_row w4 gb 2 _ _ HB4.out
  have z3 := frozen_of_row w4 gb 3 _ _ HB4.out
  obtain ⟨t0, t1, t2, t3, t4, t5, t6, t7, t8⟩ := cellsLineV HW6.out
  go_wp2_with ((with_reducible show wpList _ _ _ (({ dst := some 19, op := Op.load _ _, .. } : Oper) :: _) _ _); refine Stop.out ?_)
  unfold Stop
  clear v0 v1 v2 v3 v4 v5 v6 v7 v8 z0 z2 z3 t0 t1 t2 t3 t4 t5 t6 t7 t8 HW6 HL6 HB4
  generalize ((((w4.setCell ⟨gb, 0, none⟩ (.string ⟨#[98]⟩)).setCell ⟨gb, 2, none⟩ (.bool true)).setCell ⟨gb, 3, none⟩ (.string ⟨#[97]⟩)).alloc (.cells #[.string ⟨#[99]⟩, .bool true, .bool true, .string ⟨#[120]⟩, .int .i64 19000, .string ⟨#[68, 69]⟩, .string ⟨#[]⟩, .string ⟨#[]⟩, .slice (some A) 1 1] 29)) = w7 at HL7 HX7 ⊢
  generalize w4.heap.size = gc at HX7 ⊢
  have HE7 : Hid (ExW w P bm cm A cs w7) := Lib.hid (HE3.out.on HL7.out)
  clear HL7 HE3 HA3
  have HM7 : Hid (MaxL w7) := Lib.hid (HM.out.below HE7.out.low)
  have HP := Lib.hid (ex_puts HE7.out.set A HE7.out.row HM7.out HE7.out.line HM.out.1)
  obtain ⟨u0, u1, u2, u3, u4, u5, u6, u7, u8⟩ := cellsLineV HX7.out.1
  go_wp2_with (go_at_call 11; refine HP.out.mono ?_; rintro e x1 ⟨rfl, hb, hs, hp⟩; have HX1 : Hid (x1.heap[ga]? = some (.cells #[.string ⟨#[97]⟩, .bool true, .bool false, .string ⟨#[]⟩, .int .i64 19000, .string ⟨#[68, 69]⟩, .string ⟨#[]⟩, .string ⟨#[]⟩, .slice (some A) 1 1] 29 (0, 0)) ∧ x1.heap[gb]? = some (.cells #[.string ⟨#[98]⟩, .bool true, .bool true, .string ⟨#[97]⟩, .int .i64 19000, .string ⟨#[68, 69]⟩, .string ⟨#[]⟩, .string ⟨#[]⟩, .slice (some A) 1 1] 29 (0, 0)) ∧ x1.heap[gc]? = some (.cells #[.string ⟨#[99]⟩, .bool true, .bool true, .string ⟨#[120]⟩, .int .i64 19000, .string ⟨#[68, 69]⟩, .string ⟨#[]⟩, .string ⟨#[]⟩, .slice (some A) 1 1] 29 (0, 0))) := Lib.hid ⟨hs _ _ _ HX7.out.1 (by decide), hs _ _ _ HX7.out.2.1 (by decide), hs _ _ _ HX7.out.2.2 (by decide)⟩; have HB1 := Lib.hid (HE7.out.low.trans hb); have HP1 := Lib.hid hp; clear hb hs hp; refine Stop.out ?_)
  unfold Stop
  clear u0 u1 u2 u3 u4 u5 u6 u7 u8 HX7 HP
  obtain ⟨u0, u1, u2, u3, u4, u5, u6, u7, u8⟩ := cellsLineV HX1.out.2.1
  go_wp2_with (go_at_call 11; refine HP1.out.mono ?_; rintro e x2 ⟨rfl, hb, hs, hp⟩; have HX2 : Hid (x2.heap[ga]? = some (.cells #[.string ⟨#[97]⟩, .bool true, .bool false, .string ⟨#[]⟩, .int .i64 19000, .string ⟨#[68, 69]⟩, .string ⟨#[]⟩, .string ⟨#[]⟩, .slice (some A) 1 1] 29 (0, 0)) ∧ x2.heap[gc]? = some (.cells #[.string ⟨#[99]⟩, .bool true, .bool true, .string ⟨#[120]⟩, .int .i64 19000, .string ⟨#[68, 69]⟩, .string ⟨#[]⟩, .string ⟨#[]⟩, .slice (some A) 1 1] 29 (0, 0))) := Lib.hid ⟨hs _ _ _ HX1.out.1 (by decide), hs _ _ _ HX1.out.2.2 (by decide)⟩; have HB2 := Lib.hid (HB1.out.trans hb); have HP2 := Lib.hid hp; clear hb hs hp; refine Stop.out ?_)
  unfold Stop
  clear u0 u1 u2 u3 u4 u5 u6 u7 u8 HX1 HP1
  obtain ⟨u0, u1, u2, u3, u4, u5, u6, u7, u8⟩ := cellsLineV HX2.out.2
  go_wp2_with (go_at_call 11; refine HP2.out.mono ?_; rintro e x3 ⟨rfl, hb, hs, hp⟩; have HX3 : Hid (x3.heap[ga]? = some (.cells #[.string ⟨#[97]⟩, .bool true, .bool false, .string ⟨#[]⟩, .int .i64 19000, .string ⟨#[68, 69]⟩, .string ⟨#[]⟩, .string ⟨#[]⟩, .slice (some A) 1 1] 29 (0, 0))) := Lib.hid (hs _ _ _ HX2.out.1 (by decide)); have HB3 := Lib.hid (HB2.out.trans hb); have HP3 := Lib.hid hp; clear hb hs hp; refine Stop.out ?_)
  unfold Stop
  clear u0 u1 u2 u3 u4 u5 u6 u7 u8 HX2 HP2
  obtain ⟨u0, u1, u2, u3, u4, u5, u6, u7, u8⟩ := cellsLineV HX3.out
  go_wp2_with (go_at_call 11; refine HP3.out.mono ?_; rintro e x4 ⟨rfl, hb, hs, hp⟩; have HB4 := Lib.hid (HB3.out.trans hb); have HP4 := Lib.hid hp; clear hb hs hp; refine Stop.out ?_)
  unfold Stop
  clear u0 u1 u2 u3 u4 u5 u6 u7 u8 HX3 HP3
  go_wp2_with (go_at_call 18; refine HP4.out.mono ?_; rintro e x5 ⟨rfl, rfl⟩)
  go_ret
  exact ⟨rfl, HB4.out⟩
end Go.Proofs.Ytjanhgekocpobaa
