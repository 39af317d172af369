/- Something set on a line. -/
import Derived.Test.YtgljajoknmgoeaaGreatUlJ
namespace Go.Proofs.YtgljajoknmgoeaaGreat
open Go.RowKit
set_option maxRecDepth 100000
attribute [local go_sem] Oper.semAt_some

set_option maxHeartbeats 1000000 in
theorem set_no1 (w : World) (B most c : Nat) (A : Option Addr) (L : List Sp) (f u : Int) (h : LinAt w B most A c L) (hs : decide (isSp f u) = false) : Calls Tryz.prog 43 #[.pointer (some ⟨B, 0, none⟩), .agg #[.int .i64 f, .int .i64 u], .agg #[]] w fun e w' => e = .returned (.int .i64 30) ∧ Below w.heap.size w w' := by
  have HM := Lib.hid (fun W V => code_isMade ((w.alloc W).alloc V) B most L ⟨A, c, h.on (below_then (below_alloc _ _) (below_alloc _ _))⟩)
  have HI := Lib.hid (fun W => is_at hs W)
  have hx1 := heap_alloc_new w (.cells #[.int .i64 f, .int .i64 u] 39)
  have HX1 := Lib.hid (And.intro (heap_on (below_alloc _ (.cells #[] 74)) hx1) (below_then (below_alloc w (.cells #[.int .i64 f, .int .i64 u] 39)) (below_alloc _ (.cells #[] 74))))
  clear hx1
  clear h hs
  go_enter Tryz.func43, Tryz.ntmps43
  go_wp2_with (go_at_call 57; refine (HM.out _ _).mono ?_; rintro e w1 ⟨rfl, rfl⟩; refine Stop.out ?_)
  unfold Stop
  go_wp2_with (go_at_call 62; refine (HI.out _).mono ?_; rintro e w2 ⟨rfl, hb⟩; have HX2 := Lib.hid (And.intro (heap_on hb HX1.out.1) (below_then HX1.out.2 hb)); obtain ⟨x0, x1, _, _⟩ := row2 HX2.out.1; clear hb; refine Stop.out ?_)
  unfold Stop
  go_wp2
  go_ret
  exact ⟨rfl, HX2.out.2⟩
set_option maxHeartbeats 1000000 in
theorem set_no2 (w : World) (B most c : Nat) (A : Option Addr) (L : List Sp) (f u : Int) (h : LinAt w B most A c L) (hs : decide (isSp f u) = true) (hgap : gapL f u L < u - f + 1) : Calls Tryz.prog 43 #[.pointer (some ⟨B, 0, none⟩), .agg #[.int .i64 f, .int .i64 u], .agg #[]] w fun e w' => e = .returned (.int .i64 50) ∧ Below w.heap.size w w' := by
  have HM := Lib.hid (fun W V => code_isMade ((w.alloc W).alloc V) B most L ⟨A, c, h.on (below_then (below_alloc _ _) (below_alloc _ _))⟩)
  have HI := Lib.hid (fun W => is_at hs W)
  have hx1 := heap_alloc_new w (.cells #[.int .i64 f, .int .i64 u] 39)
  have HX1 := Lib.hid (And.intro (heap_on (below_alloc _ (.cells #[] 74)) hx1) (below_then (below_alloc w (.cells #[.int .i64 f, .int .i64 u] 39)) (below_alloc _ (.cells #[] 74))))
  clear hx1
  have HG0 : ∀ W, Below w.heap.size w W → Calls Tryz.prog 63 #[.pointer (some ⟨B, 0, none⟩), .agg #[.int .i64 f, .int .i64 u]] W fun e w' => e = .returned (.int .i64 (gapL f u L)) ∧ Below W.heap.size W w' := fun W hW => code_gap_yes W B most c A L f u (h.on hW) hs
  have HD0 : ∀ W, Calls Tryz.prog 64 #[.agg #[.int .i64 f, .int .i64 u]] W fun e w' => e = .returned (.int .i64 (u - f + 1)) ∧ Below W.heap.size W w' := fun W => code_days f u W (of_decide_eq_true hs)
  have HL := Lib.hid h
  obtain ⟨g1, hg1⟩ : ∃ g1, g1 = gapL f u L := ⟨_, rfl⟩
  obtain ⟨d1, hd1⟩ : ∃ d1, d1 = u - f + 1 := ⟨_, rfl⟩
  rw [← hg1] at HG0 hgap
  rw [← hd1] at HD0 hgap
  have HG := Lib.hid HG0
  have HD := Lib.hid HD0
  clear HG0 HD0 hg1 hd1 h hs
  go_enter Tryz.func43, Tryz.ntmps43
  go_wp2_with (go_at_call 57; refine (HM.out _ _).mono ?_; rintro e w1 ⟨rfl, rfl⟩; refine Stop.out ?_)
  unfold Stop
  go_wp2_with (go_at_call 62; refine (HI.out _).mono ?_; rintro e w2 ⟨rfl, hb⟩; have HX2 := Lib.hid (And.intro (heap_on hb HX1.out.1) (below_then HX1.out.2 hb)); obtain ⟨x0, x1, _, _⟩ := row2 HX2.out.1; clear hb; refine Stop.out ?_)
  unfold Stop
  go_wp2
  refine (wp_region_held_drew (S := fun W => W.cell? ⟨w.heap.size, 0, none⟩ = some (.int .i64 f) ∧ W.cell? ⟨w.heap.size, 1, none⟩ = some (.int .i64 u)) (by kernel_rfl) ⟨cell_on (below_drew _) x0, cell_on (below_drew _) x1⟩ ?_)
  intro hHeld
  have HB0 := Lib.hid (below_then HX2.out.2 (below_drew w2))
  have HX0 := Lib.hid (heap_on (below_drew w2) HX2.out.1)
  clear x0 x1
  generalize w2.drew = w0 at HB0 HX0 hHeld ⊢
  (refine takeH (i := 0) (v := ?_) rfl (by kernel_rfl) (by kernel_rfl) (by kernel_rfl) (fun _ _ _ h => h) (Or.inl ⟨by rfl, ?_⟩) (by assumption) ?_; rotate_left; (focus ((intro wS hSw); (try dsimp only at hSw); obtain ⟨s0, s1⟩ := hSw; go_simp; (try with_reducible rfl); done)); (try simp only [Act.put, List.setIfInBounds_toArray, List.set_cons_zero, List.set_cons_succ]))
  (refine takeH (i := 1) (v := ?_) rfl (by kernel_rfl) (by kernel_rfl) (by kernel_rfl) (fun _ _ _ h => h) (Or.inl ⟨by rfl, ?_⟩) (by assumption) ?_; rotate_left; (focus ((intro wS hSw); (try dsimp only at hSw); obtain ⟨s0, s1⟩ := hSw; go_simp; (try with_reducible rfl); done)); (try simp only [Act.put, List.setIfInBounds_toArray, List.set_cons_zero, List.set_cons_succ]))
  (refine takeH (i := 3) (v := ?_) rfl (by kernel_rfl) (by kernel_rfl) (by kernel_rfl) (fun _ _ _ h => h) (Or.inl ⟨by rfl, ?_⟩) (by assumption) ?_; rotate_left; (focus ((intro wS hSw); (try dsimp only at hSw); obtain ⟨s0, s1⟩ := hSw; go_simp; (try with_reducible rfl); done)); (try simp only [Act.put, List.setIfInBounds_toArray, List.set_cons_zero, List.set_cons_succ]))
  refine aloneH (i := 2) rfl (by kernel_rfl) (fun K hK => ?_)
  rw [if_pos (by rfl)]
  go_simp; ((refine (HG.out w0 (below_then HB0.out (below_same w0))).mono ?_); (rintro e w1 ⟨rfl, hb⟩); have HB1 := Lib.hid hb; clear hb; (try go_simp))
  refine hK.out _ _ (⟨cell_on HB1.out hHeld.1, cell_on HB1.out hHeld.2⟩) (fun hNew => ?_)
  clear hK K hHeld; (have hHeld := hNew); clear hNew; (try simp only [Act.put, List.setIfInBounds_toArray, List.set_cons_zero, List.set_cons_succ])
  refine aloneH (i := 4) rfl (by kernel_rfl) (fun K hK => ?_)
  rw [if_pos (by rfl)]
  go_simp; ((refine (HD.out _).mono ?_); (rintro e w2 ⟨rfl, hb⟩); have HB2 := Lib.hid hb; clear hb; (try go_simp))
  refine hK.out _ _ (⟨cell_on HB2.out hHeld.1, cell_on HB2.out hHeld.2⟩) (fun hNew => ?_)
  clear hK K hHeld; (have hHeld := hNew); clear hNew; (try simp only [Act.put, List.setIfInBounds_toArray, List.set_cons_zero, List.set_cons_succ])
  (refine takeH (i := 5) (v := (.bool true)) rfl (by kernel_rfl) (by kernel_rfl) (by kernel_rfl) (fun _ _ _ h => h) (Or.inl ⟨by rfl, by (intro wS hSw); (try dsimp only at hSw); (obtain ⟨s0, s1⟩ := hSw); go_simp⟩) (by assumption) ?_; (try simp only [Act.put, List.setIfInBounds_toArray, List.set_cons_zero, List.set_cons_succ]))
  (refine takeH (i := 6) (v := ?_) rfl (by kernel_rfl) (by kernel_rfl) (by kernel_rfl) (fun _ _ _ h => h) (Or.inl ⟨by rfl, ?_⟩) (by assumption) ?_; rotate_left; (focus ((intro wS hSw); (try dsimp only at hSw); obtain ⟨s0, s1⟩ := hSw; go_simp; (try with_reducible rfl); done)); (try simp only [Act.put, List.setIfInBounds_toArray, List.set_cons_zero, List.set_cons_succ]))
  refine wpAnyH_done (by kernel_rfl) ?_ _
  clear hHeld
  have HBF := Lib.hid (below_then HB0.out (below_then HB1.out HB2.out))
  go_wp2
  go_ret
  exact ⟨rfl, HBF.out⟩
set_option maxHeartbeats 1000000 in
theorem set_no3 (w : World) (B most c : Nat) (A : Option Addr) (L : List Sp) (f u : Int) (h : LinAt w B most A c L) (hs : decide (isSp f u) = true) (hgap : ¬ gapL f u L < u - f + 1) (hfull : most ≤ L.length) : Calls Tryz.prog 43 #[.pointer (some ⟨B, 0, none⟩), .agg #[.int .i64 f, .int .i64 u], .agg #[]] w fun e w' => e = .returned (.int .i64 31) ∧ Below w.heap.size w w' := by
  have HM := Lib.hid (fun W V => code_isMade ((w.alloc W).alloc V) B most L ⟨A, c, h.on (below_then (below_alloc _ _) (below_alloc _ _))⟩)
  have HI := Lib.hid (fun W => is_at hs W)
  have hx1 := heap_alloc_new w (.cells #[.int .i64 f, .int .i64 u] 39)
  have HX1 := Lib.hid (And.intro (heap_on (below_alloc _ (.cells #[] 74)) hx1) (below_then (below_alloc w (.cells #[.int .i64 f, .int .i64 u] 39)) (below_alloc _ (.cells #[] 74))))
  clear hx1
  have HG0 : ∀ W, Below w.heap.size w W → Calls Tryz.prog 63 #[.pointer (some ⟨B, 0, none⟩), .agg #[.int .i64 f, .int .i64 u]] W fun e w' => e = .returned (.int .i64 (gapL f u L)) ∧ Below W.heap.size W w' := fun W hW => code_gap_yes W B most c A L f u (h.on hW) hs
  have HD0 : ∀ W, Calls Tryz.prog 64 #[.agg #[.int .i64 f, .int .i64 u]] W fun e w' => e = .returned (.int .i64 (u - f + 1)) ∧ Below W.heap.size W w' := fun W => code_days f u W (of_decide_eq_true hs)
  have HL := Lib.hid h
  obtain ⟨g1, hg1⟩ : ∃ g1, g1 = gapL f u L := ⟨_, rfl⟩
  obtain ⟨d1, hd1⟩ : ∃ d1, d1 = u - f + 1 := ⟨_, rfl⟩
  rw [← hg1] at HG0 hgap
  rw [← hd1] at HD0 hgap
  have HG := Lib.hid HG0
  have HD := Lib.hid HD0
  clear HG0 HD0 hg1 hd1 h hs
  have hfl : (most : Int) ≤ (L.length : Int) := by omega
  go_enter Tryz.func43, Tryz.ntmps43
  go_wp2_with (go_at_call 57; refine (HM.out _ _).mono ?_; rintro e w1 ⟨rfl, rfl⟩; refine Stop.out ?_)
  unfold Stop
  go_wp2_with (go_at_call 62; refine (HI.out _).mono ?_; rintro e w2 ⟨rfl, hb⟩; have HX2 := Lib.hid (And.intro (heap_on hb HX1.out.1) (below_then HX1.out.2 hb)); obtain ⟨x0, x1, _, _⟩ := row2 HX2.out.1; clear hb; refine Stop.out ?_)
  unfold Stop
  go_wp2
  refine (wp_region_held_drew (S := fun W => W.cell? ⟨w.heap.size, 0, none⟩ = some (.int .i64 f) ∧ W.cell? ⟨w.heap.size, 1, none⟩ = some (.int .i64 u)) (by kernel_rfl) ⟨cell_on (below_drew _) x0, cell_on (below_drew _) x1⟩ ?_)
  intro hHeld
  have HB0 := Lib.hid (below_then HX2.out.2 (below_drew w2))
  have HX0 := Lib.hid (heap_on (below_drew w2) HX2.out.1)
  clear x0 x1
  generalize w2.drew = w0 at HB0 HX0 hHeld ⊢
  (refine takeH (i := 0) (v := ?_) rfl (by kernel_rfl) (by kernel_rfl) (by kernel_rfl) (fun _ _ _ h => h) (Or.inl ⟨by rfl, ?_⟩) (by assumption) ?_; rotate_left; (focus ((intro wS hSw); (try dsimp only at hSw); obtain ⟨s0, s1⟩ := hSw; go_simp; (try with_reducible rfl); done)); (try simp only [Act.put, List.setIfInBounds_toArray, List.set_cons_zero, List.set_cons_succ]))
  (refine takeH (i := 1) (v := ?_) rfl (by kernel_rfl) (by kernel_rfl) (by kernel_rfl) (fun _ _ _ h => h) (Or.inl ⟨by rfl, ?_⟩) (by assumption) ?_; rotate_left; (focus ((intro wS hSw); (try dsimp only at hSw); obtain ⟨s0, s1⟩ := hSw; go_simp; (try with_reducible rfl); done)); (try simp only [Act.put, List.setIfInBounds_toArray, List.set_cons_zero, List.set_cons_succ]))
  (refine takeH (i := 3) (v := ?_) rfl (by kernel_rfl) (by kernel_rfl) (by kernel_rfl) (fun _ _ _ h => h) (Or.inl ⟨by rfl, ?_⟩) (by assumption) ?_; rotate_left; (focus ((intro wS hSw); (try dsimp only at hSw); obtain ⟨s0, s1⟩ := hSw; go_simp; (try with_reducible rfl); done)); (try simp only [Act.put, List.setIfInBounds_toArray, List.set_cons_zero, List.set_cons_succ]))
  refine aloneH (i := 2) rfl (by kernel_rfl) (fun K hK => ?_)
  rw [if_pos (by rfl)]
  go_simp; ((refine (HG.out w0 (below_then HB0.out (below_same w0))).mono ?_); (rintro e w1 ⟨rfl, hb⟩); have HB1 := Lib.hid hb; clear hb; (try go_simp))
  refine hK.out _ _ (⟨cell_on HB1.out hHeld.1, cell_on HB1.out hHeld.2⟩) (fun hNew => ?_)
  clear hK K hHeld; (have hHeld := hNew); clear hNew; (try simp only [Act.put, List.setIfInBounds_toArray, List.set_cons_zero, List.set_cons_succ])
  refine aloneH (i := 4) rfl (by kernel_rfl) (fun K hK => ?_)
  rw [if_pos (by rfl)]
  go_simp; ((refine (HD.out _).mono ?_); (rintro e w2 ⟨rfl, hb⟩); have HB2 := Lib.hid hb; clear hb; (try go_simp))
  refine hK.out _ _ (⟨cell_on HB2.out hHeld.1, cell_on HB2.out hHeld.2⟩) (fun hNew => ?_)
  clear hK K hHeld; (have hHeld := hNew); clear hNew; (try simp only [Act.put, List.setIfInBounds_toArray, List.set_cons_zero, List.set_cons_succ])
  (refine takeH (i := 5) (v := (.bool false)) rfl (by kernel_rfl) (by kernel_rfl) (by kernel_rfl) (fun _ _ _ h => h) (Or.inl ⟨by rfl, by (intro wS hSw); (try dsimp only at hSw); (obtain ⟨s0, s1⟩ := hSw); go_simp⟩) (by assumption) ?_; (try simp only [Act.put, List.setIfInBounds_toArray, List.set_cons_zero, List.set_cons_succ]))
  (refine takeH (i := 6) (v := ?_) rfl (by kernel_rfl) (by kernel_rfl) (by kernel_rfl) (fun _ _ _ h => h) (Or.inl ⟨by rfl, ?_⟩) (by assumption) ?_; rotate_left; (focus ((intro wS hSw); (try dsimp only at hSw); obtain ⟨s0, s1⟩ := hSw; go_simp; (try with_reducible rfl); done)); (try simp only [Act.put, List.setIfInBounds_toArray, List.set_cons_zero, List.set_cons_succ]))
  refine wpAnyH_done (by kernel_rfl) ?_ _
  clear hHeld
  have HBF := Lib.hid (below_then HB0.out (below_then HB1.out HB2.out))
  go_wp2
  obtain ⟨l0, _⟩ := HL.out.on HBF.out
  have c0 := cell_of_row _ B 0 _ _ _ l0
  have c1 := cell_of_row _ B 1 _ _ _ l0
  simp only [List.getElem?_toArray, List.getElem?_cons_succ, List.getElem?_cons_zero] at c0 c1
  refine (wp_region_held_drew (S := fun W => W.cell? ⟨B, 0, none⟩ = some (.int .i64 most) ∧ W.cell? ⟨B, 1, none⟩ = some (.slice A L.length c)) (by kernel_rfl) ⟨cell_on (below_drew _) c0, cell_on (below_drew _) c1⟩ ?_)
  intro hHeld
  have HB7 := Lib.hid (below_drew w2)
  clear c0 c1 l0
  generalize w2.drew = w7 at HB7 hHeld ⊢
  (refine takeH (i := 0) (v := ?_) rfl (by kernel_rfl) (by kernel_rfl) (by kernel_rfl) (fun _ _ _ h => h) (Or.inl ⟨by rfl, ?_⟩) (by assumption) ?_; rotate_left; (focus ((intro wS hSw); (try dsimp only at hSw); obtain ⟨s0, s1⟩ := hSw; go_simp; (try with_reducible rfl); done)); (try simp only [Act.put, List.setIfInBounds_toArray, List.set_cons_zero, List.set_cons_succ]))
  (refine takeH (i := 1) (v := ?_) rfl (by kernel_rfl) (by kernel_rfl) (by kernel_rfl) (fun _ _ _ h => h) (Or.inl ⟨by rfl, ?_⟩) (by assumption) ?_; rotate_left; (focus ((intro wS hSw); (try dsimp only at hSw); obtain ⟨s0, s1⟩ := hSw; go_simp; (try with_reducible rfl); done)); (try simp only [Act.put, List.setIfInBounds_toArray, List.set_cons_zero, List.set_cons_succ]))
  (refine takeH (i := 2) (v := ?_) rfl (by kernel_rfl) (by kernel_rfl) (by kernel_rfl) (fun _ _ _ h => h) (Or.inl ⟨by rfl, ?_⟩) (by assumption) ?_; rotate_left; (focus ((intro wS hSw); (try dsimp only at hSw); obtain ⟨s0, s1⟩ := hSw; go_simp; (try with_reducible rfl); done)); (try simp only [Act.put, List.setIfInBounds_toArray, List.set_cons_zero, List.set_cons_succ]))
  (refine takeH (i := 3) (v := ?_) rfl (by kernel_rfl) (by kernel_rfl) (by kernel_rfl) (fun _ _ _ h => h) (Or.inl ⟨by rfl, ?_⟩) (by assumption) ?_; rotate_left; (focus ((intro wS hSw); (try dsimp only at hSw); obtain ⟨s0, s1⟩ := hSw; go_simp; (try with_reducible rfl); done)); (try simp only [Act.put, List.setIfInBounds_toArray, List.set_cons_zero, List.set_cons_succ]))
  (refine takeH (i := 4) (v := ?_) rfl (by kernel_rfl) (by kernel_rfl) (by kernel_rfl) (fun _ _ _ h => h) (Or.inl ⟨by rfl, ?_⟩) (by assumption) ?_; rotate_left; (focus ((intro wS hSw); (try dsimp only at hSw); obtain ⟨s0, s1⟩ := hSw; go_simp; (try with_reducible rfl); done)); (try simp only [Act.put, List.setIfInBounds_toArray, List.set_cons_zero, List.set_cons_succ]))
  (refine takeH (i := 5) (v := ?_) rfl (by kernel_rfl) (by kernel_rfl) (by kernel_rfl) (fun _ _ _ h => h) (Or.inl ⟨by rfl, ?_⟩) (by assumption) ?_; rotate_left; (focus ((intro wS hSw); (try dsimp only at hSw); obtain ⟨s0, s1⟩ := hSw; go_simp; (try with_reducible rfl); done)); (try simp only [Act.put, List.setIfInBounds_toArray, List.set_cons_zero, List.set_cons_succ]))
  (refine takeH (i := 6) (v := ?_) rfl (by kernel_rfl) (by kernel_rfl) (by kernel_rfl) (fun _ _ _ h => h) (Or.inl ⟨by rfl, ?_⟩) (by assumption) ?_; rotate_left; (focus ((intro wS hSw); (try dsimp only at hSw); obtain ⟨s0, s1⟩ := hSw; go_simp; (try with_reducible rfl); done)); (try simp only [Act.put, List.setIfInBounds_toArray, List.set_cons_zero, List.set_cons_succ]))
  (refine takeH (i := 7) (v := ?_) rfl (by kernel_rfl) (by kernel_rfl) (by kernel_rfl) (fun _ _ _ h => h) (Or.inl ⟨by rfl, ?_⟩) (by assumption) ?_; rotate_left; (focus ((intro wS hSw); (try dsimp only at hSw); obtain ⟨s0, s1⟩ := hSw; go_simp; (try with_reducible rfl); done)); (try simp only [Act.put, List.setIfInBounds_toArray, List.set_cons_zero, List.set_cons_succ]))
  (refine takeH (i := 8) (v := ?_) rfl (by kernel_rfl) (by kernel_rfl) (by kernel_rfl) (fun _ _ _ h => h) (Or.inl ⟨by rfl, ?_⟩) (by assumption) ?_; rotate_left; (focus ((intro wS hSw); (try dsimp only at hSw); obtain ⟨s0, s1⟩ := hSw; go_simp; (try with_reducible rfl); done)); (try simp only [Act.put, List.setIfInBounds_toArray, List.set_cons_zero, List.set_cons_succ]))
  (refine takeH (i := 9) (v := (.bool true)) rfl (by kernel_rfl) (by kernel_rfl) (by kernel_rfl) (fun _ _ _ h => h) (Or.inl ⟨by rfl, by (intro wS hSw); (try dsimp only at hSw); (obtain ⟨s0, s1⟩ := hSw); go_simp⟩) (by assumption) ?_; (try simp only [Act.put, List.setIfInBounds_toArray, List.set_cons_zero, List.set_cons_succ]))
  (refine takeH (i := 10) (v := ?_) rfl (by kernel_rfl) (by kernel_rfl) (by kernel_rfl) (fun _ _ _ h => h) (Or.inl ⟨by rfl, ?_⟩) (by assumption) ?_; rotate_left; (focus ((intro wS hSw); (try dsimp only at hSw); obtain ⟨s0, s1⟩ := hSw; go_simp; (try with_reducible rfl); done)); (try simp only [Act.put, List.setIfInBounds_toArray, List.set_cons_zero, List.set_cons_succ]))
  refine wpAnyH_done (by kernel_rfl) ?_ _
  clear hHeld
  go_wp2
  go_ret
  exact ⟨rfl, below_then HBF.out HB7.out⟩
end Go.Proofs.YtgljajoknmgoeaaGreat
