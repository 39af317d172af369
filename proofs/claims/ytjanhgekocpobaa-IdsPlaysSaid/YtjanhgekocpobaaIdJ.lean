/- Documents that are there: a new set; the chapter's document. -/
import Derived.Test.YtjanhgekocpobaaIdI
import Derived.Test.YtjanhgekocpobaaRcD
import Derived.WalkMore
namespace Go.Proofs.Ytjanhgekocpobaa
open Go.RowKit
set_option maxRecDepth 100000
set_option linter.unusedSimpArgs false
set_option linter.unusedVariables false

def simpleL : LineV := (2, 1, ⟨#[]⟩, ⟨#[]⟩, ⟨#[]⟩, 1000, false, 0, false)
theorem cells_info : (Try.prog.info? 54).map (·.size) = some 22 := by kernel_rfl
def SimpleP (w : World) (e : Ending) (w1 : World) : Prop := ∃ A : Addr, e = .returned (.agg #[.int .i64 8, .string ⟨#[]⟩, .string ⟨#[]⟩, .int .i64 0, .int .i64 0, .int .i64 0, .int .i64 0, .int .i64 0, .int .i64 0, .int .i64 0, .int .i64 0, .int .i64 0, .int .i64 0, .string ⟨#[97]⟩, .bool true, .bool false, .string ⟨#[]⟩, .int .i64 19000, .string ⟨#[68, 69]⟩, .string ⟨#[]⟩, .string ⟨#[]⟩, .slice (some A) 1 1]) ∧ Below w.heap.size w w1 ∧ RowLineV w1 (some A) [simpleL] ∧ A.block < w1.heap.size ∧ ∃ cs, w1.heap[A.block]? = some (Obj.cells cs 60 (0, 0))
set_option maxHeartbeats 2000000 in
theorem code_simple  (w : World) : Calls Try.prog 21 #[] w fun e w1 => SimpleP w e w1 := by
  have h0 := heap_on (below_alloc (w.alloc (.cells zeroCmd 54)) (.cells #[.int .i64 2, .int .i64 1, .string ⟨#[]⟩, .string ⟨#[]⟩, .string ⟨#[]⟩, .int .i64 1000, .bool false, .int .i64 0, .bool false] 60)) (heap_alloc_new w (.cells zeroCmd 54))
  have h1 := heap_alloc_new (w.alloc (.cells zeroCmd 54)) (.cells #[.int .i64 2, .int .i64 1, .string ⟨#[]⟩, .string ⟨#[]⟩, .string ⟨#[]⟩, .int .i64 1000, .bool false, .int .i64 0, .bool false] 60)
  simp only [World.size_alloc] at h1
  have H0 := Lib.hid h0
  have H1 := Lib.hid h1
  have HW := Lib.hid (show Below w.heap.size w ((w.alloc (.cells zeroCmd 54)).alloc (.cells #[.int .i64 2, .int .i64 1, .string ⟨#[]⟩, .string ⟨#[]⟩, .string ⟨#[]⟩, .int .i64 1000, .bool false, .int .i64 0, .bool false] 60)) from below_more (below_alloc _ _))
  have HO := Lib.hid (show (#[.int .i64 8, .string ⟨#[]⟩, .string ⟨#[]⟩, .int .i64 0, .int .i64 0, .int .i64 0, .int .i64 0, .int .i64 0, .int .i64 0, .int .i64 0, .int .i64 0, .int .i64 0, .int .i64 0, .string ⟨#[97]⟩, .bool true, .bool false, .string ⟨#[]⟩, .int .i64 19000, .string ⟨#[68, 69]⟩, .string ⟨#[]⟩, .string ⟨#[]⟩, .slice (some ⟨w.heap.size + 1, 0, none⟩) 1 1] : Array Value).all (·.oneCell') = true by simp [Value.oneCell'])
  clear h0 h1
  go_enter Try.func21, Try.ntmps21
  go_wp2_with ((with_reducible refine wpList_store_row (o := ⟨none, _, _, _, _, _⟩) ?b1 54 (.tmp 0) (.tmp 4) ?b2 w.heap.size #[.int .i64 8, .string ⟨#[]⟩, .string ⟨#[]⟩, .int .i64 0, .int .i64 0, .int .i64 0, .int .i64 0, .int .i64 0, .int .i64 0, .int .i64 0, .int .i64 0, .int .i64 0, .int .i64 0, .string ⟨#[97]⟩, .bool true, .bool false, .string ⟨#[]⟩, .int .i64 19000, .string ⟨#[68, 69]⟩, .string ⟨#[]⟩, .string ⟨#[]⟩, .slice (some ⟨w.heap.size + 1, 0, none⟩) 1 1] ?b3 ?b4 54 zeroCmd ?b7 ?b6 ?b5 ?b8 ?_); (case b1 => rfl); (case b2 => rfl); (case b3 => rfl); (case b4 => rfl); (case b7 => exact H0.out); (case b6 => exact cells_info); (case b5 => rfl); (case b8 => exact HO.out); have HP9 := Lib.hid (setRow_heap ((w.alloc (.cells zeroCmd 54)).alloc (.cells #[.int .i64 2, .int .i64 1, .string ⟨#[]⟩, .string ⟨#[]⟩, .string ⟨#[]⟩, .int .i64 1000, .bool false, .int .i64 0, .bool false] 60)) w.heap.size _ #[.int .i64 8, .string ⟨#[]⟩, .string ⟨#[]⟩, .int .i64 0, .int .i64 0, .int .i64 0, .int .i64 0, .int .i64 0, .int .i64 0, .int .i64 0, .int .i64 0, .int .i64 0, .int .i64 0, .string ⟨#[97]⟩, .bool true, .bool false, .string ⟨#[]⟩, .int .i64 19000, .string ⟨#[68, 69]⟩, .string ⟨#[]⟩, .string ⟨#[]⟩, .slice (some ⟨w.heap.size + 1, 0, none⟩) 1 1] _ _ H0.out); have HL9 := Lib.hid ((setRow_other ((w.alloc (.cells zeroCmd 54)).alloc (.cells #[.int .i64 2, .int .i64 1, .string ⟨#[]⟩, .string ⟨#[]⟩, .string ⟨#[]⟩, .int .i64 1000, .bool false, .int .i64 0, .bool false] 60)) w.heap.size (w.heap.size + 1) #[.int .i64 8, .string ⟨#[]⟩, .string ⟨#[]⟩, .int .i64 0, .int .i64 0, .int .i64 0, .int .i64 0, .int .i64 0, .int .i64 0, .int .i64 0, .int .i64 0, .int .i64 0, .int .i64 0, .string ⟨#[97]⟩, .bool true, .bool false, .string ⟨#[]⟩, .int .i64 19000, .string ⟨#[68, 69]⟩, .string ⟨#[]⟩, .string ⟨#[]⟩, .slice (some ⟨w.heap.size + 1, 0, none⟩) 1 1] (by omega)).trans H1.out); have HB9 := Lib.hid (below_setRow HW.out (g := w.heap.size) (by omega) #[.int .i64 8, .string ⟨#[]⟩, .string ⟨#[]⟩, .int .i64 0, .int .i64 0, .int .i64 0, .int .i64 0, .int .i64 0, .int .i64 0, .int .i64 0, .int .i64 0, .int .i64 0, .int .i64 0, .string ⟨#[97]⟩, .bool true, .bool false, .string ⟨#[]⟩, .int .i64 19000, .string ⟨#[68, 69]⟩, .string ⟨#[]⟩, .string ⟨#[]⟩, .slice (some ⟨w.heap.size + 1, 0, none⟩) 1 1]); refine Stop.out ?_)
  unfold Stop
  generalize hx : World.setRow ((w.alloc (.cells zeroCmd 54)).alloc (.cells #[.int .i64 2, .int .i64 1, .string ⟨#[]⟩, .string ⟨#[]⟩, .string ⟨#[]⟩, .int .i64 1000, .bool false, .int .i64 0, .bool false] 60)) w.heap.size _ = w9 at HP9 HL9 HB9 ⊢
  clear hx H0 H1 HW
  go_wp2
  exact bodyPost_ret (v := .agg #[.int .i64 8, .string ⟨#[]⟩, .string ⟨#[]⟩, .int .i64 0, .int .i64 0, .int .i64 0, .int .i64 0, .int .i64 0, .int .i64 0, .int .i64 0, .int .i64 0, .int .i64 0, .int .i64 0, .string ⟨#[97]⟩, .bool true, .bool false, .string ⟨#[]⟩, .int .i64 19000, .string ⟨#[68, 69]⟩, .string ⟨#[]⟩, .string ⟨#[]⟩, .slice (some ⟨w.heap.size + 1, 0, none⟩) 1 1]) (results_cell_row Try.results21 _ _ w.heap.size 54 #[.int .i64 8, .string ⟨#[]⟩, .string ⟨#[]⟩, .int .i64 0, .int .i64 0, .int .i64 0, .int .i64 0, .int .i64 0, .int .i64 0, .int .i64 0, .int .i64 0, .int .i64 0, .int .i64 0, .string ⟨#[97]⟩, .bool true, .bool false, .string ⟨#[]⟩, .int .i64 19000, .string ⟨#[68, 69]⟩, .string ⟨#[]⟩, .string ⟨#[]⟩, .slice (some ⟨w.heap.size + 1, 0, none⟩) 1 1] (0, 0) _ rfl HP9.out Try.underlying54 rfl cells_info) rfl ⟨⟨w.heap.size + 1, 0, none⟩, rfl, HB9.out, boxLineV (p := simpleL) HL9.out, heapLt HL9.out, _, HL9.out⟩

section
attribute [local go_sem] Oper.semAt_some
abbrev noV : CrsV := fun _ => .slice none 0 0
abbrev noF : Docs := fun _ => none
abbrev noC : Crs := fun _ => []
theorem set_made (w : World) : SetAt (((w.alloc (.map #[] 0)).alloc (.map #[] 0)).alloc (.cells #[.map (some w.heap.size), .map (some (w.heap.size + 1))] 48)) w.heap.size (w.heap.size + 2) w.heap.size (w.heap.size + 1) 0 0 noV noF noC := by
  have h1 : (w.alloc (.map #[] 0)).ownsMap (H := Unit) Try.prog 9 docR w.heap.size 0 (.map []) := World.ownsMap_made w _ _ _
  have h2 : ((w.alloc (.map #[] 0)).alloc (.map #[] 0)).ownsMap (H := Unit) Try.prog 9 crR (w.heap.size + 1) 0 (.map []) := by
    have := World.ownsMap_made (H := Unit) (w.alloc (.map #[] 0)) Try.prog 9 crR
    simpa only [World.size_alloc] using this
  have hb : ((w.alloc (.map #[] 0)).alloc (.map #[] 0)).heap.size = w.heap.size + 2 := by simp
  refine ⟨?_, ⟨⟨.map [], (h1.alloc _).alloc _, fun s _ => ⟨rfl, rfl⟩, rfl⟩, fun s d h => (by cases h), Nat.le_refl _, by simp; omega⟩, ⟨⟨.map [], h2.alloc _, fun s _ => rfl⟩, fun s => ⟨rfl, .inl ⟨rfl, rfl⟩⟩, fun s s' k h => (by cases h), by omega, by simp; omega⟩, by omega, by omega⟩
  rw [← hb]
  exact heap_alloc_new _ _
theorem code_new (w : World) : Calls Try.prog 8 #[] w fun e w' => ∃ P bm cm, e = .returned (.pointer (some ⟨P, 0, none⟩)) ∧ SetAt w' w.heap.size P bm cm 0 0 noV noF noC ∧ Below w.heap.size w w' := by
  have hmm := @run_makeMap Try.prog
  have HS := Lib.hid (set_made w)
  have HB := Lib.hid (below_then (below_alloc w (.map #[] 0)) (below_then (below_alloc _ (.map #[] 0)) (below_alloc _ (.cells #[.map (some w.heap.size), .map (some (w.heap.size + 1))] 48))))
  go_enter Try.func8, Try.ntmps8
  go_wp2
  go_ret
  exact ⟨w.heap.size + 2, w.heap.size, w.heap.size + 1, rfl, HS.out, HB.out⟩
theorem put_not {p : Value} {w : World} (d : DocV) (h : NotMade p w) : Calls Try.prog 11 #[p, docVal d] w fun e w' => e = .returned (.int .i64 1) ∧ Below w.heap.size w w' := by
  have HCk : Hid (∀ W, Below w.heap.size w W → Calls Try.prog 9 #[p, .agg #[.string d.id, .bool d.sale, .bool d.credit, .string d.refers, .int .i64 d.day, .string d.country, .string d.number, .string d.currency, .slice d.linesA d.lines.length d.linesC]] W fun e w' => e = .returned (.int .i64 1) ∧ Below W.heap.size W w') := Lib.hid (fun W hW => check_not d (h.on hW))
  have HX1 := Lib.hid (heap_alloc_new w (.cells #[.string d.id, .bool d.sale, .bool d.credit, .string d.refers, .int .i64 d.day, .string d.country, .string d.number, .string d.currency, .slice d.linesA d.lines.length d.linesC] 29))
  have HB1 := Lib.hid (below_alloc w (.cells #[.string d.id, .bool d.sale, .bool d.credit, .string d.refers, .int .i64 d.day, .string d.country, .string d.number, .string d.currency, .slice d.linesA d.lines.length d.linesC] 29))
  unfold docVal docC
  clear h
  go_enter Try.func11, Try.ntmps11
  go_wp2_with ((with_reducible show wpList _ _ _ (({ dst := some 7, op := Op.load _ _, .. } : Oper) :: _) _ _); refine Stop.out ?_)
  unfold Stop
  generalize w.alloc (.cells #[.string d.id, .bool d.sale, .bool d.credit, .string d.refers, .int .i64 d.day, .string d.country, .string d.number, .string d.currency, .slice d.linesA d.lines.length d.linesC] 29) = w1 at HX1 HB1 ⊢
  obtain ⟨g, hgg⟩ : ∃ g, g = w.heap.size := ⟨_, rfl⟩
  rw [← hgg] at HX1 ⊢
  clear hgg
  obtain ⟨u0, u1, u2, u3, u4, u5, u6, u7, u8⟩ := cellsLineV HX1.out
  go_wp2_with (go_at_call 9; refine (HCk.out _ HB1.out).mono ?_; rintro e w2 ⟨rfl, hb⟩; have HB2 := Lib.hid (below_then HB1.out hb); clear hb)
  go_ret
  exact ⟨rfl, HB2.out⟩
theorem code_slen {w : World} {base P bm cm n m : Nat} {V : CrsV} {F : Docs} {C : Crs} (H : SetAt w base P bm cm n m V F C) : Calls Try.prog 18 #[.pointer (some ⟨P, 0, none⟩)] w fun e w' => e = .returned (.int .i64 (n : Nat)) ∧ w = w' := by
  have HM := Lib.hid (code_made w P bm (cells2 H.box).1)
  have hl := H.docs.len
  obtain ⟨c0, c1⟩ := cells2 H.box
  clear H
  go_enter Try.func18, Try.ntmps18
  go_wp2_with (go_at_call 22; refine HM.out.mono ?_; rintro e w1 ⟨rfl, rfl⟩)
  go_ret
  exact ⟨rfl, rfl⟩
end
end Go.Proofs.Ytjanhgekocpobaa
