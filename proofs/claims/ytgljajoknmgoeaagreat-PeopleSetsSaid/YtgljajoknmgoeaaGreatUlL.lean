/- Something set on a line, where it may be. -/
import Derived.Test.YtgljajoknmgoeaaGreatUlK
namespace Go.Proofs.YtgljajoknmgoeaaGreat
open Go.RowKit
set_option maxRecDepth 100000
attribute [local go_sem] Oper.semAt_some

/-- how many begin ahead of a day -/
def pos (f : Int) (L : List Sp) : Nat := (L.filter (fun p => decide (p.1 < f))).length
theorem pos_le (f : Int) (L : List Sp) : pos f L ≤ L.length := List.length_filter_le _ _
theorem pos_yes {f : Int} {L : List Sp} {x : Sp} (h : x.1 < f) : pos f (L ++ [x]) = pos f L + 1 := by
  unfold pos
  simp [List.filter_append, h]
theorem pos_no {f : Int} {L : List Sp} {x : Sp} (h : ¬ x.1 < f) : pos f (L ++ [x]) = pos f L := by
  unfold pos
  simp [List.filter_append, h]
/-- nothing but the line was turned -/
structure Chg (w w' : World) (B : Nat) : Prop where
  os : w'.os = w.os
  tape : w'.tape = w.tape
  output : w'.output = w.output
  size : w.heap.size ≤ w'.heap.size
  block : ∀ k, k < w.heap.size → k ≠ B → w'.heap[k]? = w.heap[k]?
theorem OwnR.putObj {w : World} {B b : Nat} {v : Value} {o : Obj} {L : List Sp} (h : OwnR w B v L) (hb : b < B) : OwnR (w.putObj b o) B v L := by
  refine World.ownsRow.kept (row := some b) h ⟨rfl, rfl, rfl, by simp, fun k hk hne => World.putObj_heap_other (fun e => hne (by rw [e]))⟩ ?_
  rcases h.2 with ⟨rfl, _⟩ | ⟨g, c, cur, rfl, h2, _⟩
  · exact .inl rfl
  · refine .inr ?_
    simp only [Value.ownBlock, ne_eq, Option.some.injEq]
    omega
/-- the line behind it -/
theorem set_line {w wd w3 : World} {B most c c6 D : Nat} {A A6 : Option Addr} {L L' : List Sp} {o : Obj} (hL : LinAt w B most A c L) (hBd : Below w.heap.size w wd) (hT : Below wd.heap.size wd w3) (hLd : wd.heap[B]? = some (.cells #[.int .i64 most, .slice A L.length c] 89 (0, 0)))
    (hB : B < wd.heap.size) (hD : D ≠ B ∧ w.heap.size ≤ D) (hDw : D < wd.heap.size) (hO : OwnR w3 wd.heap.size (.slice A6 L'.length c6) L') (hl : L'.length ≤ most) :
    Lin ((w3.setCell ⟨B, 1, none⟩ (.slice A6 L'.length c6)).putObj D o) B most L' ∧ Chg w ((w3.setCell ⟨B, 1, none⟩ (.slice A6 L'.length c6)).putObj D o) B := by
  have hO2 := (hO.set (o := 1) (u := .slice A6 L'.length c6) hB).putObj (o := o) hDw
  obtain ⟨A7, c7, e, hr, hc, hm, hn⟩ := hO2.form
  injection e with e1 e2 e3
  subst e1 e3
  obtain ⟨_, _, _, _, h1, h2, _, _⟩ := hL
  refine ⟨⟨A6, c6, ?_, hr, hc, hm, h1, h2, hl, hn⟩, ?_⟩
  · exact (World.putObj_heap_other hD.1.symm).trans (heap_setCell_same w3 B 1 _ _ (.slice A6 L'.length c6) ((hT.block B hB).trans hLd))
  · refine ⟨hT.os.trans hBd.os, hT.tape.trans hBd.tape, hT.output.trans hBd.output, by have := hT.size; have := hBd.size; simp; omega, fun k hk hne => ?_⟩
    rw [World.putObj_heap_other (by omega), heap_setCell_other _ _ _ _ (by simpa using hne), hT.block k (Nat.lt_of_lt_of_le hk hBd.size), hBd.block k hk]
set_option maxHeartbeats 1000000 in
theorem set_yes (w : World) (B most c : Nat) (A : Option Addr) (L : List Sp) (f u x : Int) (h : LinAt w B most A c L) (hs : decide (isSp f u) = true) (hgap : ¬ gapL f u L < u - f + 1) (hfull : ¬ most ≤ L.length) : Calls Tryz.prog 43 #[.pointer (some ⟨B, 0, none⟩), .agg #[.int .i64 f, .int .i64 u], .agg #[]] w fun e w' => e = .returned (.int .i64 0) ∧ Lin w' B most (insL L (pos f L) (f, u, x)) ∧ Chg w w' B := by
  have HM := Lib.hid (fun W V => code_isMade ((w.alloc W).alloc V) B most L ⟨A, c, h.on (below_then (below_alloc _ _) (below_alloc _ _))⟩)
  have HI := Lib.hid (fun W => is_at hs W)
  have hx1 := heap_alloc_new w (.cells #[.int .i64 f, .int .i64 u] 39)
  have HX1 := Lib.hid (And.intro (heap_on (below_alloc _ (.cells #[] 74)) hx1) (below_then (below_alloc w (.cells #[.int .i64 f, .int .i64 u] 39)) (below_alloc _ (.cells #[] 74))))
  clear hx1
  have HG0 : ∀ W, Below w.heap.size w W → Calls Tryz.prog 63 #[.pointer (some ⟨B, 0, none⟩), .agg #[.int .i64 f, .int .i64 u]] W fun e w' => e = .returned (.int .i64 (gapL f u L)) ∧ Below W.heap.size W w' := fun W hW => code_gap_yes W B most c A L f u (h.on hW) hs
  have HD0 : ∀ W, Calls Tryz.prog 64 #[.agg #[.int .i64 f, .int .i64 u]] W fun e w' => e = .returned (.int .i64 (u - f + 1)) ∧ Below W.heap.size W w' := fun W => code_days f u W (of_decide_eq_true hs)
  have HL := Lib.hid h
  obtain ⟨g1, hg1⟩ : ∃ g1, g1 = gapL f u L := ⟨_, rfl⟩
  obtain ⟨d1, hd1⟩ : ∃ d1, d1 = u - f + 1 := ⟨_, rfl⟩
  rw [← hg1] at HG0 hgap
  rw [← hd1] at HD0 hgap
  have HG := Lib.hid HG0
  have HD := Lib.hid HD0
  clear HG0 HD0 hg1 hd1 h hs
  have hfl : ¬ ((most : Int) ≤ (L.length : Int)) := by omega
  refine callsIn_wide.1 (callsIn_of_wp_marks (n := 0) (F := Fence.wide) Tryz.func43 rfl trivial (wpIn_wide.2 ?_) rfl)
  simp only [Tryz.ntmps43, List.size_toArray, List.length_cons, List.length_nil, Nat.reduceAdd, Nat.reduceSub, Array.replicate_succ, Array.replicate_zero, List.push_toArray, List.append_toArray, List.nil_append, List.cons_append]
  go_wp2_with (go_at_call 57; refine (HM.out _ _).mono ?_; rintro e w1 ⟨rfl, rfl⟩; refine Stop.out ?_)
  unfold Stop
  go_wp2_with (go_at_call 62; refine (HI.out _).mono ?_; rintro e w2 ⟨rfl, hb⟩; have HX2 := Lib.hid (And.intro (heap_on hb HX1.out.1) (below_then HX1.out.2 hb)); obtain ⟨x0, x1, _, _⟩ := row2 HX2.out.1; clear hb; refine Stop.out ?_)
  unfold Stop
  go_wp2
  refine wp_region_noPanic (wp_region_held_drew (S := fun W => W.cell? ⟨w.heap.size, 0, none⟩ = some (.int .i64 f) ∧ W.cell? ⟨w.heap.size, 1, none⟩ = some (.int .i64 u)) (by kernel_rfl) ⟨cell_on (below_drew _) x0, cell_on (below_drew _) x1⟩ ?_)
  intro hHeld
  have HB0 := Lib.hid (below_then HX2.out.2 (below_drew w2))
  have HX0 := Lib.hid (heap_on (below_drew w2) HX2.out.1)
  clear x0 x1
  generalize w2.drew = w0 at HB0 HX0 hHeld ⊢
  (refine takeH (i := 0) (v := ?_) rfl (by kernel_rfl) (by kernel_rfl) (by kernel_rfl) (fun _ _ _ h => h) (Or.inl ⟨by rfl, ?_⟩) (by assumption) ?_; rotate_left; (focus ((intro wS hSw); (try dsimp only at hSw); obtain ⟨s0, s1⟩ := hSw; go_simp; (try with_reducible rfl); done)); (try simp only [Act.put, List.setIfInBounds_toArray, List.set_cons_zero, List.set_cons_succ]))
  (refine takeH (i := 1) (v := ?_) rfl (by kernel_rfl) (by kernel_rfl) (by kernel_rfl) (fun _ _ _ h => h) (Or.inl ⟨by rfl, ?_⟩) (by assumption) ?_; rotate_left; (focus ((intro wS hSw); (try dsimp only at hSw); obtain ⟨s0, s1⟩ := hSw; go_simp; (try with_reducible rfl); done)); (try simp only [Act.put, List.setIfInBounds_toArray, List.set_cons_zero, List.set_cons_succ]))
  (refine takeH (i := 3) (v := ?_) rfl (by kernel_rfl) (by kernel_rfl) (by kernel_rfl) (fun _ _ _ h => h) (Or.inl ⟨by rfl, ?_⟩) (by assumption) ?_; rotate_left; (focus ((intro wS hSw); (try dsimp only at hSw); obtain ⟨s0, s1⟩ := hSw; go_simp; (try with_reducible rfl); done)); (try simp only [Act.put, List.setIfInBounds_toArray, List.set_cons_zero, List.set_cons_succ]))
  refine aloneH (i := 2) rfl (by kernel_rfl) (fun K hK => ?_)
  rw [if_pos (by rfl)]
  go_simp; ((refine (HG.out w0 (below_then HB0.out (below_same w0))).mono ?_); (rintro e w1 ⟨rfl, hb⟩); have HB1 := Lib.hid hb; clear hb; (try go_simp))
  refine hK.out _ _ (⟨cell_on HB1.out hHeld.1, cell_on HB1.out hHeld.2⟩) (fun hNew => ?_)
  clear hK K hHeld; (have hHeld := hNew); clear hNew; (try simp only [Act.put, List.setIfInBounds_toArray, List.set_cons_zero, List.set_cons_succ])
  refine aloneH (i := 4) rfl (by kernel_rfl) (fun K hK => ?_)
  rw [if_pos (by rfl)]
  go_simp; ((refine (HD.out _).mono ?_); (rintro e w2 ⟨rfl, hb⟩); have HB2 := Lib.hid hb; clear hb; (try go_simp))
  refine hK.out _ _ (⟨cell_on HB2.out hHeld.1, cell_on HB2.out hHeld.2⟩) (fun hNew => ?_)
  clear hK K hHeld; (have hHeld := hNew); clear hNew; (try simp only [Act.put, List.setIfInBounds_toArray, List.set_cons_zero, List.set_cons_succ])
  (refine takeH (i := 5) (v := (.bool false)) rfl (by kernel_rfl) (by kernel_rfl) (by kernel_rfl) (fun _ _ _ h => h) (Or.inl ⟨by rfl, by (intro wS hSw); (try dsimp only at hSw); (obtain ⟨s0, s1⟩ := hSw); go_simp⟩) (by assumption) ?_; (try simp only [Act.put, List.setIfInBounds_toArray, List.set_cons_zero, List.set_cons_succ]))
  (refine takeH (i := 6) (v := ?_) rfl (by kernel_rfl) (by kernel_rfl) (by kernel_rfl) (fun _ _ _ h => h) (Or.inl ⟨by rfl, ?_⟩) (by assumption) ?_; rotate_left; (focus ((intro wS hSw); (try dsimp only at hSw); obtain ⟨s0, s1⟩ := hSw; go_simp; (try with_reducible rfl); done)); (try simp only [Act.put, List.setIfInBounds_toArray, List.set_cons_zero, List.set_cons_succ]))
  refine wpAnyH_done (by kernel_rfl) ?_ _
  clear hHeld
  have HBF := Lib.hid (below_then HB0.out (below_then HB1.out HB2.out))
  have HXF := Lib.hid (heap_on (below_then HB1.out HB2.out) HX0.out)
  refine NoPanic.normal ?_
  go_wp2
  obtain ⟨l0, _⟩ := HL.out.on HBF.out
  have c0 := cell_of_row _ B 0 _ _ _ l0
  have c1 := cell_of_row _ B 1 _ _ _ l0
  simp only [List.getElem?_toArray, List.getElem?_cons_succ, List.getElem?_cons_zero] at c0 c1
  refine wp_region_noPanic (wp_region_held_drew (S := fun W => W.cell? ⟨B, 0, none⟩ = some (.int .i64 most) ∧ W.cell? ⟨B, 1, none⟩ = some (.slice A L.length c)) (by kernel_rfl) ⟨cell_on (below_drew _) c0, cell_on (below_drew _) c1⟩ ?_)
  intro hHeld
  have HB7 := Lib.hid (below_drew w2)
  have HX7 := Lib.hid (heap_on (below_drew w2) HXF.out)
  clear c0 c1 l0
  generalize w2.drew = w7 at HB7 HX7 hHeld ⊢
  (refine takeH (i := 0) (v := ?_) rfl (by kernel_rfl) (by kernel_rfl) (by kernel_rfl) (fun _ _ _ h => h) (Or.inl ⟨by rfl, ?_⟩) (by assumption) ?_; rotate_left; (focus ((intro wS hSw); (try dsimp only at hSw); obtain ⟨s0, s1⟩ := hSw; go_simp; (try with_reducible rfl); done)); (try simp only [Act.put, List.setIfInBounds_toArray, List.set_cons_zero, List.set_cons_succ]))
  (refine takeH (i := 1) (v := ?_) rfl (by kernel_rfl) (by kernel_rfl) (by kernel_rfl) (fun _ _ _ h => h) (Or.inl ⟨by rfl, ?_⟩) (by assumption) ?_; rotate_left; (focus ((intro wS hSw); (try dsimp only at hSw); obtain ⟨s0, s1⟩ := hSw; go_simp; (try with_reducible rfl); done)); (try simp only [Act.put, List.setIfInBounds_toArray, List.set_cons_zero, List.set_cons_succ]))
  (refine takeH (i := 2) (v := ?_) rfl (by kernel_rfl) (by kernel_rfl) (by kernel_rfl) (fun _ _ _ h => h) (Or.inl ⟨by rfl, ?_⟩) (by assumption) ?_; rotate_left; (focus ((intro wS hSw); (try dsimp only at hSw); obtain ⟨s0, s1⟩ := hSw; go_simp; (try with_reducible rfl); done)); (try simp only [Act.put, List.setIfInBounds_toArray, List.set_cons_zero, List.set_cons_succ]))
  (refine takeH (i := 3) (v := ?_) rfl (by kernel_rfl) (by kernel_rfl) (by kernel_rfl) (fun _ _ _ h => h) (Or.inl ⟨by rfl, ?_⟩) (by assumption) ?_; rotate_left; (focus ((intro wS hSw); (try dsimp only at hSw); obtain ⟨s0, s1⟩ := hSw; go_simp; (try with_reducible rfl); done)); (try simp only [Act.put, List.setIfInBounds_toArray, List.set_cons_zero, List.set_cons_succ]))
  (refine takeH (i := 4) (v := ?_) rfl (by kernel_rfl) (by kernel_rfl) (by kernel_rfl) (fun _ _ _ h => h) (Or.inl ⟨by rfl, ?_⟩) (by assumption) ?_; rotate_left; (focus ((intro wS hSw); (try dsimp only at hSw); obtain ⟨s0, s1⟩ := hSw; go_simp; (try with_reducible rfl); done)); (try simp only [Act.put, List.setIfInBounds_toArray, List.set_cons_zero, List.set_cons_succ]))
  (refine takeH (i := 5) (v := ?_) rfl (by kernel_rfl) (by kernel_rfl) (by kernel_rfl) (fun _ _ _ h => h) (Or.inl ⟨by rfl, ?_⟩) (by assumption) ?_; rotate_left; (focus ((intro wS hSw); (try dsimp only at hSw); obtain ⟨s0, s1⟩ := hSw; go_simp; (try with_reducible rfl); done)); (try simp only [Act.put, List.setIfInBounds_toArray, List.set_cons_zero, List.set_cons_succ]))
  (refine takeH (i := 6) (v := ?_) rfl (by kernel_rfl) (by kernel_rfl) (by kernel_rfl) (fun _ _ _ h => h) (Or.inl ⟨by rfl, ?_⟩) (by assumption) ?_; rotate_left; (focus ((intro wS hSw); (try dsimp only at hSw); obtain ⟨s0, s1⟩ := hSw; go_simp; (try with_reducible rfl); done)); (try simp only [Act.put, List.setIfInBounds_toArray, List.set_cons_zero, List.set_cons_succ]))
  (refine takeH (i := 7) (v := ?_) rfl (by kernel_rfl) (by kernel_rfl) (by kernel_rfl) (fun _ _ _ h => h) (Or.inl ⟨by rfl, ?_⟩) (by assumption) ?_; rotate_left; (focus ((intro wS hSw); (try dsimp only at hSw); obtain ⟨s0, s1⟩ := hSw; go_simp; (try with_reducible rfl); done)); (try simp only [Act.put, List.setIfInBounds_toArray, List.set_cons_zero, List.set_cons_succ]))
  (refine takeH (i := 8) (v := ?_) rfl (by kernel_rfl) (by kernel_rfl) (by kernel_rfl) (fun _ _ _ h => h) (Or.inl ⟨by rfl, ?_⟩) (by assumption) ?_; rotate_left; (focus ((intro wS hSw); (try dsimp only at hSw); obtain ⟨s0, s1⟩ := hSw; go_simp; (try with_reducible rfl); done)); (try simp only [Act.put, List.setIfInBounds_toArray, List.set_cons_zero, List.set_cons_succ]))
  (refine takeH (i := 9) (v := (.bool false)) rfl (by kernel_rfl) (by kernel_rfl) (by kernel_rfl) (fun _ _ _ h => h) (Or.inl ⟨by rfl, by (intro wS hSw); (try dsimp only at hSw); (obtain ⟨s0, s1⟩ := hSw); go_simp⟩) (by assumption) ?_; (try simp only [Act.put, List.setIfInBounds_toArray, List.set_cons_zero, List.set_cons_succ]))
  (refine takeH (i := 10) (v := ?_) rfl (by kernel_rfl) (by kernel_rfl) (by kernel_rfl) (fun _ _ _ h => h) (Or.inl ⟨by rfl, ?_⟩) (by assumption) ?_; rotate_left; (focus ((intro wS hSw); (try dsimp only at hSw); obtain ⟨s0, s1⟩ := hSw; go_simp; (try with_reducible rfl); done)); (try simp only [Act.put, List.setIfInBounds_toArray, List.set_cons_zero, List.set_cons_succ]))
  refine wpAnyH_done (by kernel_rfl) ?_ _
  clear hHeld
  refine NoPanic.normal ?_
  have HW7 := Lib.hid (below_then HBF.out HB7.out)
  go_wp2_with (go_at_call 65; refine (code_lall _ B most c A L (HL.out.on (below_then HW7.out (below_alloc _ _)))).mono ?_; rintro e W9 ⟨rfl, hg, hb⟩; refine Stop.out ?_)
  unfold Stop
  unfold allF
  obtain ⟨b7, hb7⟩ : ∃ b7, b7 = w7.heap.size := ⟨_, rfl⟩
  have hz8 : (w7.alloc (.cells #[.int .i64 0] 3)).heap.size = b7 + 1 := by rw [hb7]; simp
  have hI8 : GapI w b7 f u 0 (w7.alloc (.cells #[.int .i64 0] 3)) := ⟨heap_on (below_alloc _ _) HX7.out, by rw [hb7]; exact heap_alloc_new w7 _, below_then HW7.out (below_alloc _ _)⟩
  have hzw : w.heap.size < b7 := by rw [hb7]; exact heapLt HX7.out
  rw [hz8] at hg
  have hI9 : GapI w b7 f u 0 W9 := hI8.below hb (by omega) (by omega)
  have hr9 : Row2 W9 A L := HL.out.2.1.on hI9.2.2
  have hz9 : b7 + 2 ≤ W9.heap.size := heapLt hg
  obtain ⟨b, hbw, hAb⟩ := HL.out.row
  have HA := Lib.hid (told W9 (b7 + 1) b A c L hg hr9 hAb (by have := HL.out.short; omega))
  rw [← hb7]
  clear hg hb hr9 hAb hz8 hI8 hb7 HX7 HXF HX0
  go_wp2
  refine wp_rangeTold (gf := 89) (lb := #[.pointer (some ⟨b7 + 1, 0, none⟩)]) rfl (enters_of Tryz.func89 (by kernel_rfl) rfl) HA.out (fun h k => h.trans k) (fun A B h => ⟨fun _ => h.block _ (by omega), h.size⟩) (fun _ => rfl)
    (fun pre W => GapI w b7 f u (pos f pre : Nat) W ∧ b7 + 2 ≤ W.heap.size) (fun _ _ _ => False) (fun _ A B h hb => ⟨h.1.below hb (by omega) (by omega), Nat.le_trans h.2 hb.size⟩) (fun _ _ _ _ h _ => h) ⟨hI9, hz9⟩ ?round ?done ?stop
  case stop =>
    rintro D cc pre W _ _ h _
    exact h.elim
  case round =>
    intro l r pre p W hl hr hI hx
    obtain ⟨post, hpost⟩ := hx
    have hpl : pre.length < 256 := by
      have := congrArg List.length hpost
      have h2 := HL.out.short
      simp at this
      omega
    have hpp := pos_le f pre
    obtain ⟨hI, hz⟩ := hI
    have hlW : l < W.heap.size := heapLt hr
    have HI2 := Lib.hid hI
    clear hI hr hpost
    dsimp only [encS]
    gi_wp2
    refine ⟨below_alloc _ _, fun Wb hB => ?_⟩
    have hIa := HI2.out.below (below_alloc W (.cells #[.int .i64 p.1, .int .i64 p.2.1] 39)) (by omega) (by omega)
    have hIb := hIa.below (hB.below (b := W9.heap.size) (by omega)) (by omega) (by omega)
    have hx6 := (hB.block W.heap.size (by omega)).trans (heap_alloc_new W (.cells #[.int .i64 p.1, .int .i64 p.2.1] 39))
    have HZb : Hid (b7 + 2 ≤ Wb.heap.size) := Lib.hid (by have := hB.size; rw [World.size_alloc] at this; omega)
    obtain ⟨q0, q1, _, _⟩ := row2 hIb.1
    obtain ⟨x0, x1, _, _⟩ := row2 hx6
    obtain ⟨y0, z0⟩ := one_cell hIb.2.1
    have HIb := Lib.hid hIb
    have hwn : IntKind.i64.wrap ((pos f pre : Nat) + 1 : Int) = (pos f pre : Nat) + 1 := by rw [IntKind.wrap_i64]; omega
    clear hIa hIb hx6 hB HI2
    by_cases h1 : p.1 < f
    · have HP := Lib.hid (pos_yes (L := pre) h1)
      gi_wp2
      refine roundP_normal ?_
      rw [HP.out]
      have := gap_round (n2 := (pos f pre : Nat) + 1) HIb.out (Below.refl _ Wb) hbw hzw HZb.out
      exact this
    · have HP := Lib.hid (pos_no (L := pre) h1)
      gi_wp2
      refine roundP_normal ?_
      rw [HP.out]
      exact ⟨KeepsOthers.refl _, ⟨fun _ => rfl, Nat.le_refl _⟩, HIb.out, HZb.out⟩
  case done =>
    intro D xs W hD hxs hI hK
    obtain ⟨hI, hz⟩ := hI
    rw [hxs] at hI
    have hpl := pos_le f L
    obtain ⟨i, hi⟩ : ∃ i, i = pos f L := ⟨_, rfl⟩
    rw [← hi] at hI hpl
    have HIp := Lib.hid hi
    have HI := Lib.hid hI
    have HK := Lib.hid hK
    clear hi hI hK hxs
    go_wp2
    have HLW : Hid (LinAt W B most A c L) := Lib.hid (HL.out.on HI.out.2.2)
    obtain ⟨y0, _⟩ := one_cell HI.out.2.1
    obtain ⟨x0, x1, _, _⟩ := row2 HI.out.1
    have hBw := HL.out.lt
    refine wp_region_noPanic (wp_region_held_drew (S := fun V => V.cell? ⟨b7, 0, none⟩ = some (.int .i64 i) ∧ V.cell? ⟨w.heap.size, 0, none⟩ = some (.int .i64 f) ∧ V.cell? ⟨w.heap.size, 1, none⟩ = some (.int .i64 u)) (by kernel_rfl) ⟨cell_on (below_drew _) y0, cell_on (below_drew _) x0, cell_on (below_drew _) x1⟩ ?_)
    intro hHeld
    have HBd := Lib.hid (below_then HI.out.2.2 (below_drew W))
    have HLd := Lib.hid (heap_on (below_drew W) HLW.out.1)
    have HKd := Lib.hid (heap_on (below_drew W) HK.out)
    have HLt : Hid (B < W.drew.heap.size ∧ b7 < W.drew.heap.size ∧ w.heap.size < W.drew.heap.size) := Lib.hid ⟨by simp; omega, by simp; omega, by simp; omega⟩
    have HCl : Hid (∀ V, Below W.drew.heap.size W.drew V → Calls Tryz.prog 58 #[.slice A L.length c] V fun e w' => ∃ v, e = .returned v ∧ OwnR w' V.heap.size v L ∧ Below V.heap.size V w') := Lib.hid (fun V hV => code_clone A c L V ((HLW.out.2.1.on (below_drew W)).on hV) HLW.out.2.2.2.2.2.2.2 HLW.out.short)
    have HSh := Lib.hid HL.out.short
    have hBb : B ≠ b7 := by omega
    have hBs : B ≠ w.heap.size := by omega
    have hDB : D ≠ B ∧ w.heap.size ≤ D := by omega
    clear y0 x0 x1 HLW HI
    generalize W.drew = wd at HBd HLd HKd HLt HCl hHeld ⊢
    (refine takeH (i := 0) (v := ?_) rfl (by kernel_rfl) (by kernel_rfl) (by kernel_rfl) (fun _ _ _ h => h) (Or.inl ⟨by rfl, ?_⟩) (by assumption) ?_; rotate_left; (focus ((intro wS hSw); (try dsimp only at hSw); obtain ⟨s0, s1, s2⟩ := hSw; go_simp; (try with_reducible rfl); done)); (try simp only [Act.put, List.setIfInBounds_toArray, List.set_cons_zero, List.set_cons_succ]))
    (refine takeH (i := 1) (v := ?_) rfl (by kernel_rfl) (by kernel_rfl) (by kernel_rfl) (fun _ _ _ h => h) (Or.inl ⟨by rfl, ?_⟩) (by assumption) ?_; rotate_left; (focus ((intro wS hSw); (try dsimp only at hSw); obtain ⟨s0, s1, s2⟩ := hSw; go_simp; (try with_reducible rfl); done)); (try simp only [Act.put, List.setIfInBounds_toArray, List.set_cons_zero, List.set_cons_succ]))
    (refine takeH (i := 2) (v := ?_) rfl (by kernel_rfl) (by kernel_rfl) (by kernel_rfl) (fun _ _ _ h => h) (Or.inl ⟨by rfl, ?_⟩) (by assumption) ?_; rotate_left; (focus ((intro wS hSw); (try dsimp only at hSw); obtain ⟨s0, s1, s2⟩ := hSw; go_simp; (try with_reducible rfl); done)); (try simp only [Act.put, List.setIfInBounds_toArray, List.set_cons_zero, List.set_cons_succ]))
    (refine takeH (i := 3) (v := ?_) rfl (by kernel_rfl) (by kernel_rfl) (by kernel_rfl) (fun _ _ _ h => h) (Or.inl ⟨by rfl, ?_⟩) (by assumption) ?_; rotate_left; (focus ((intro wS hSw); (try dsimp only at hSw); obtain ⟨s0, s1, s2⟩ := hSw; go_simp; (try with_reducible rfl); done)); (try simp only [Act.put, List.setIfInBounds_toArray, List.set_cons_zero, List.set_cons_succ]))
    (refine takeH (i := 6) (v := ?_) rfl (by kernel_rfl) (by kernel_rfl) (by kernel_rfl) (fun _ _ _ h => h) (Or.inl ⟨by rfl, ?_⟩) (by assumption) ?_; rotate_left; (focus ((intro wS hSw); (try dsimp only at hSw); obtain ⟨s0, s1, s2⟩ := hSw; go_simp; (try with_reducible rfl); done)); (try simp only [Act.put, List.setIfInBounds_toArray, List.set_cons_zero, List.set_cons_succ]))
    (refine takeH (i := 7) (v := ?_) rfl (by kernel_rfl) (by kernel_rfl) (by kernel_rfl) (fun _ _ _ h => h) (Or.inl ⟨by rfl, ?_⟩) (by assumption) ?_; rotate_left; (focus ((intro wS hSw); (try dsimp only at hSw); obtain ⟨s0, s1, s2⟩ := hSw; go_simp; (try with_reducible rfl); done)); (try simp only [Act.put, List.setIfInBounds_toArray, List.set_cons_zero, List.set_cons_succ]))
    (refine takeH (i := 8) (v := ?_) rfl (by kernel_rfl) (by kernel_rfl) (by kernel_rfl) (fun _ _ _ h => h) (Or.inl ⟨by rfl, ?_⟩) (by assumption) ?_; rotate_left; (focus ((intro wS hSw); (try dsimp only at hSw); obtain ⟨s0, s1, s2⟩ := hSw; go_simp; (try with_reducible rfl); done)); (try simp only [Act.put, List.setIfInBounds_toArray, List.set_cons_zero, List.set_cons_succ]))
    (refine takeH (i := 9) (v := (.agg #[.int .i64 f, .int .i64 u])) rfl (by kernel_rfl) (by kernel_rfl) (by kernel_rfl) (fun _ _ _ h => h) (Or.inl ⟨by rfl, by (intro wS hSw); (try dsimp only at hSw); (obtain ⟨s0, s1, s2⟩ := hSw); go_simp; (first | done | rfl | simp)⟩) (by assumption) ?_; (try simp only [Act.put, List.setIfInBounds_toArray, List.set_cons_zero, List.set_cons_succ]))
    refine twoH (i := 4) (i2 := 10) rfl rfl (by kernel_rfl) (fun K hK => ?_) (fun K hK => ?_)
    · rw [if_pos (by rfl)]
      obtain ⟨_, q1, _, _⟩ := row2 (heap_on (below_same wd) HLd.out)
      go_simp
      have HB1 : Hid (Below wd.heap.size wd wd) := Lib.hid (Below.refl _ _)
      refine hK.out _ _ (hHeld) (fun hNew => ?_)
      clear hK K hHeld; (have hHeld := hNew); clear hNew; (try simp only [Act.put, List.setIfInBounds_toArray, List.set_cons_zero, List.set_cons_succ])
      refine twoH (i := 5) (i2 := 10) rfl rfl (by kernel_rfl) (fun K hK => ?_) (fun K hK => ?_)
      · rw [if_pos (by rfl)]
        go_simp; ((refine (HCl.out wd HB1.out).mono ?_); (rintro e w2 ⟨v5, rfl, hown, hb⟩); have HB2 := Lib.hid hb; have HO2 := Lib.hid hown; clear hb hown; (try go_simp))
        refine hK.out _ _ (⟨cell_on HB2.out hHeld.1, cell_on HB2.out hHeld.2.1, cell_on HB2.out hHeld.2.2⟩) (fun hNew => ?_)
        clear hK K hHeld; (have hHeld := hNew); clear hNew; (try simp only [Act.put, List.setIfInBounds_toArray, List.set_cons_zero, List.set_cons_succ])
        refine aloneH (i := 10) rfl (by kernel_rfl) (fun K hK => ?_)
        rw [if_pos (by rfl)]
        go_simp
        have HX3 := Lib.hid (heap_alloc_new w2 (.cells #[.int .i64 f, .int .i64 u] 92))
        have HB3 := Lib.hid (below_alloc w2 (.cells #[.int .i64 f, .int .i64 u] 92))
        generalize hx : World.alloc w2 (.cells #[.int .i64 f, .int .i64 u] 92) = w3 at HX3 HB3 ⊢
        clear hx
        refine hK.out _ _ (⟨cell_on HB3.out hHeld.1, cell_on HB3.out hHeld.2.1, cell_on HB3.out hHeld.2.2⟩) (fun hNew => ?_)
        clear hK K hHeld; (have hHeld := hNew); clear hNew; (try simp only [Act.put, List.setIfInBounds_toArray, List.set_cons_zero, List.set_cons_succ])
        refine aloneH (i := 11) rfl (by kernel_rfl) (fun K hK => ?_)
        rw [if_pos (by rfl)]
        go_simp
        refine (code_ins w3 wd.heap.size v5 L i (f, u, x) w2.heap.size ((HO2.out.on HB3.out).less (HB1.out).size) hpl (heap_on (below_same w3) HX3.out) (fun e => by have h1 := (World.ownsRow.lt HO2.out _ e).2; have h2 := ((below_same w2)).size; omega) HSh.out ((below_then (below_then HB1.out HB2.out) HB3.out)).size).mono ?_
        rintro e w4 ⟨v6, rfl, hown, hb⟩
        obtain ⟨A6, c6, rfl, hr6, hc6, hm6, hn6⟩ := hown.form
        have HB4 := Lib.hid hb
        have HO6 := Lib.hid hown
        have HT : Hid (Below wd.heap.size wd w4) := Lib.hid (((below_then (below_then HB1.out HB2.out) HB3.out)).trans hb)
        clear hb hown hr6 hc6 hm6 hn6
        (try go_simp)
        refine hK.out _ _ (⟨(HB4.out.cell HLt.out.2.1).trans hHeld.1, (HB4.out.cell HLt.out.2.2).trans hHeld.2.1, (HB4.out.cell HLt.out.2.2).trans hHeld.2.2⟩) (fun hNew => ?_)
        clear hK K hHeld; (have hHeld := hNew); clear hNew; (try simp only [Act.put, List.setIfInBounds_toArray, List.set_cons_zero, List.set_cons_succ])
        (refine takeH (i := 12) (v := ?_) rfl (by kernel_rfl) (by kernel_rfl) (by kernel_rfl) (fun _ _ _ h => h) (Or.inl ⟨by rfl, ?_⟩) (by assumption) ?_; rotate_left; (focus ((intro wS hSw); (try dsimp only at hSw); obtain ⟨s0, s1, s2⟩ := hSw; go_simp; (try with_reducible rfl); done)); (try simp only [Act.put, List.setIfInBounds_toArray, List.set_cons_zero, List.set_cons_succ]))
        (refine takeH (i := 13) (v := ?_) rfl (by kernel_rfl) (by kernel_rfl) (by kernel_rfl) (fun _ _ _ h => h) (Or.inl ⟨by rfl, ?_⟩) (by assumption) ?_; rotate_left; (focus ((intro wS hSw); (try dsimp only at hSw); obtain ⟨s0, s1, s2⟩ := hSw; go_simp; (try with_reducible rfl); done)); (try simp only [Act.put, List.setIfInBounds_toArray, List.set_cons_zero, List.set_cons_succ]))
        refine aloneH (i := 14) rfl (by kernel_rfl) (fun K hK => ?_)
        rw [if_pos (by rfl)]
        obtain ⟨_, q5, _, z5⟩ := row2 ((HT.out.block B HLt.out.1).trans HLd.out)
        go_simp
        refine hK.out _ _ (⟨(World.cell?_of_block (heap_setCell_other _ _ _ _ (by simp <;> omega))).trans hHeld.1, (World.cell?_of_block (heap_setCell_other _ _ _ _ (by simp <;> omega))).trans hHeld.2.1, (World.cell?_of_block (heap_setCell_other _ _ _ _ (by simp <;> omega))).trans hHeld.2.2⟩) (fun hNew => ?_)
        clear hK K hHeld; (have hHeld := hNew); clear hNew; (try simp only [Act.put])
        refine wpAnyH_done (by kernel_rfl) ?_ _
        clear hHeld
        refine NoPanic.normal ?_
        go_wp2
        have hk : (w4.setCell ⟨B, 1, none⟩ (.slice A6 (insL L i (f, u, x)).length c6)).heap[D]? = some (.deferred (some [])) := (heap_setCell_other _ _ _ _ hDB.1).trans ((HT.out.block D (heapLt HKd.out)).trans HKd.out)
        refine ⟨by simp, .inl ⟨_, _, rfl, run_takeDeferred hk, ?_⟩⟩
        have hfin := set_line (o := .deferred none) HL.out HBd.out HT.out HLd.out HLt.out.1 hDB (heapLt HKd.out) HO6.out (by rw [insL_len]; omega)
        rw [HIp.out] at hfin
        rw [HIp.out]
        exact ⟨_, results_tmp rfl _ _ _, rfl, hfin⟩
      · rw [if_pos (by rfl)]
        go_simp
        have HX2 := Lib.hid (heap_alloc_new wd (.cells #[.int .i64 f, .int .i64 u] 92))
        have HB2 := Lib.hid (below_alloc wd (.cells #[.int .i64 f, .int .i64 u] 92))
        generalize hx : World.alloc wd (.cells #[.int .i64 f, .int .i64 u] 92) = w2 at HX2 HB2 ⊢
        clear hx
        refine hK.out _ _ (⟨cell_on HB2.out hHeld.1, cell_on HB2.out hHeld.2.1, cell_on HB2.out hHeld.2.2⟩) (fun hNew => ?_)
        clear hK K hHeld; (have hHeld := hNew); clear hNew; (try simp only [Act.put, List.setIfInBounds_toArray, List.set_cons_zero, List.set_cons_succ])
        refine aloneH (i := 5) rfl (by kernel_rfl) (fun K hK => ?_)
        rw [if_pos (by rfl)]
        go_simp; ((refine (HCl.out w2 (below_then HB1.out HB2.out)).mono ?_); (rintro e w3 ⟨v5, rfl, hown, hb⟩); have HB3 := Lib.hid hb; have HO3 := Lib.hid hown; clear hb hown; (try go_simp))
        refine hK.out _ _ (⟨cell_on HB3.out hHeld.1, cell_on HB3.out hHeld.2.1, cell_on HB3.out hHeld.2.2⟩) (fun hNew => ?_)
        clear hK K hHeld; (have hHeld := hNew); clear hNew; (try simp only [Act.put, List.setIfInBounds_toArray, List.set_cons_zero, List.set_cons_succ])
        refine aloneH (i := 11) rfl (by kernel_rfl) (fun K hK => ?_)
        rw [if_pos (by rfl)]
        go_simp
        refine (code_ins w3 wd.heap.size v5 L i (f, u, x) wd.heap.size ((HO3.out.on (below_same w3)).less ((below_then HB1.out HB2.out)).size) hpl (heap_on HB3.out HX2.out) (fun e => by have h1 := (World.ownsRow.lt HO3.out _ e).1; have h2 := heapLt HX2.out; have h3 := ((below_same w2)).size; omega) HSh.out ((below_then (below_then HB1.out HB2.out) HB3.out)).size).mono ?_
        rintro e w4 ⟨v6, rfl, hown, hb⟩
        obtain ⟨A6, c6, rfl, hr6, hc6, hm6, hn6⟩ := hown.form
        have HB4 := Lib.hid hb
        have HO6 := Lib.hid hown
        have HT : Hid (Below wd.heap.size wd w4) := Lib.hid (((below_then (below_then HB1.out HB2.out) HB3.out)).trans hb)
        clear hb hown hr6 hc6 hm6 hn6
        (try go_simp)
        refine hK.out _ _ (⟨(HB4.out.cell HLt.out.2.1).trans hHeld.1, (HB4.out.cell HLt.out.2.2).trans hHeld.2.1, (HB4.out.cell HLt.out.2.2).trans hHeld.2.2⟩) (fun hNew => ?_)
        clear hK K hHeld; (have hHeld := hNew); clear hNew; (try simp only [Act.put, List.setIfInBounds_toArray, List.set_cons_zero, List.set_cons_succ])
        (refine takeH (i := 12) (v := ?_) rfl (by kernel_rfl) (by kernel_rfl) (by kernel_rfl) (fun _ _ _ h => h) (Or.inl ⟨by rfl, ?_⟩) (by assumption) ?_; rotate_left; (focus ((intro wS hSw); (try dsimp only at hSw); obtain ⟨s0, s1, s2⟩ := hSw; go_simp; (try with_reducible rfl); done)); (try simp only [Act.put, List.setIfInBounds_toArray, List.set_cons_zero, List.set_cons_succ]))
        (refine takeH (i := 13) (v := ?_) rfl (by kernel_rfl) (by kernel_rfl) (by kernel_rfl) (fun _ _ _ h => h) (Or.inl ⟨by rfl, ?_⟩) (by assumption) ?_; rotate_left; (focus ((intro wS hSw); (try dsimp only at hSw); obtain ⟨s0, s1, s2⟩ := hSw; go_simp; (try with_reducible rfl); done)); (try simp only [Act.put, List.setIfInBounds_toArray, List.set_cons_zero, List.set_cons_succ]))
        refine aloneH (i := 14) rfl (by kernel_rfl) (fun K hK => ?_)
        rw [if_pos (by rfl)]
        obtain ⟨_, q5, _, z5⟩ := row2 ((HT.out.block B HLt.out.1).trans HLd.out)
        go_simp
        refine hK.out _ _ (⟨(World.cell?_of_block (heap_setCell_other _ _ _ _ (by simp <;> omega))).trans hHeld.1, (World.cell?_of_block (heap_setCell_other _ _ _ _ (by simp <;> omega))).trans hHeld.2.1, (World.cell?_of_block (heap_setCell_other _ _ _ _ (by simp <;> omega))).trans hHeld.2.2⟩) (fun hNew => ?_)
        clear hK K hHeld; (have hHeld := hNew); clear hNew; (try simp only [Act.put])
        refine wpAnyH_done (by kernel_rfl) ?_ _
        clear hHeld
        refine NoPanic.normal ?_
        go_wp2
        have hk : (w4.setCell ⟨B, 1, none⟩ (.slice A6 (insL L i (f, u, x)).length c6)).heap[D]? = some (.deferred (some [])) := (heap_setCell_other _ _ _ _ hDB.1).trans ((HT.out.block D (heapLt HKd.out)).trans HKd.out)
        refine ⟨by simp, .inl ⟨_, _, rfl, run_takeDeferred hk, ?_⟩⟩
        have hfin := set_line (o := .deferred none) HL.out HBd.out HT.out HLd.out HLt.out.1 hDB (heapLt HKd.out) HO6.out (by rw [insL_len]; omega)
        rw [HIp.out] at hfin
        rw [HIp.out]
        exact ⟨_, results_tmp rfl _ _ _, rfl, hfin⟩
    · rw [if_pos (by rfl)]
      go_simp
      have HX1 := Lib.hid (heap_alloc_new wd (.cells #[.int .i64 f, .int .i64 u] 92))
      have HB1 := Lib.hid (below_alloc wd (.cells #[.int .i64 f, .int .i64 u] 92))
      generalize hx : World.alloc wd (.cells #[.int .i64 f, .int .i64 u] 92) = w1 at HX1 HB1 ⊢
      clear hx
      refine hK.out _ _ (⟨cell_on HB1.out hHeld.1, cell_on HB1.out hHeld.2.1, cell_on HB1.out hHeld.2.2⟩) (fun hNew => ?_)
      clear hK K hHeld; (have hHeld := hNew); clear hNew; (try simp only [Act.put, List.setIfInBounds_toArray, List.set_cons_zero, List.set_cons_succ])
      refine aloneH (i := 4) rfl (by kernel_rfl) (fun K hK => ?_)
      rw [if_pos (by rfl)]
      obtain ⟨_, q2, _, _⟩ := row2 (heap_on HB1.out HLd.out)
      go_simp
      have HB2 : Hid (Below w1.heap.size w1 w1) := Lib.hid (Below.refl _ _)
      refine hK.out _ _ (hHeld) (fun hNew => ?_)
      clear hK K hHeld; (have hHeld := hNew); clear hNew; (try simp only [Act.put, List.setIfInBounds_toArray, List.set_cons_zero, List.set_cons_succ])
      refine aloneH (i := 5) rfl (by kernel_rfl) (fun K hK => ?_)
      rw [if_pos (by rfl)]
      go_simp; ((refine (HCl.out w1 (below_then HB1.out HB2.out)).mono ?_); (rintro e w3 ⟨v5, rfl, hown, hb⟩); have HB3 := Lib.hid hb; have HO3 := Lib.hid hown; clear hb hown; (try go_simp))
      refine hK.out _ _ (⟨cell_on HB3.out hHeld.1, cell_on HB3.out hHeld.2.1, cell_on HB3.out hHeld.2.2⟩) (fun hNew => ?_)
      clear hK K hHeld; (have hHeld := hNew); clear hNew; (try simp only [Act.put, List.setIfInBounds_toArray, List.set_cons_zero, List.set_cons_succ])
      refine aloneH (i := 11) rfl (by kernel_rfl) (fun K hK => ?_)
      rw [if_pos (by rfl)]
      go_simp
      refine (code_ins w3 wd.heap.size v5 L i (f, u, x) wd.heap.size ((HO3.out.on (below_same w3)).less ((below_then HB1.out HB2.out)).size) hpl (heap_on (below_then HB2.out HB3.out) HX1.out) (fun e => by have h1 := (World.ownsRow.lt HO3.out _ e).1; have h2 := heapLt HX1.out; have h3 := (HB2.out).size; omega) HSh.out ((below_then (below_then HB1.out HB2.out) HB3.out)).size).mono ?_
      rintro e w4 ⟨v6, rfl, hown, hb⟩
      obtain ⟨A6, c6, rfl, hr6, hc6, hm6, hn6⟩ := hown.form
      have HB4 := Lib.hid hb
      have HO6 := Lib.hid hown
      have HT : Hid (Below wd.heap.size wd w4) := Lib.hid (((below_then (below_then HB1.out HB2.out) HB3.out)).trans hb)
      clear hb hown hr6 hc6 hm6 hn6
      (try go_simp)
      refine hK.out _ _ (⟨(HB4.out.cell HLt.out.2.1).trans hHeld.1, (HB4.out.cell HLt.out.2.2).trans hHeld.2.1, (HB4.out.cell HLt.out.2.2).trans hHeld.2.2⟩) (fun hNew => ?_)
      clear hK K hHeld; (have hHeld := hNew); clear hNew; (try simp only [Act.put, List.setIfInBounds_toArray, List.set_cons_zero, List.set_cons_succ])
      (refine takeH (i := 12) (v := ?_) rfl (by kernel_rfl) (by kernel_rfl) (by kernel_rfl) (fun _ _ _ h => h) (Or.inl ⟨by rfl, ?_⟩) (by assumption) ?_; rotate_left; (focus ((intro wS hSw); (try dsimp only at hSw); obtain ⟨s0, s1, s2⟩ := hSw; go_simp; (try with_reducible rfl); done)); (try simp only [Act.put, List.setIfInBounds_toArray, List.set_cons_zero, List.set_cons_succ]))
      (refine takeH (i := 13) (v := ?_) rfl (by kernel_rfl) (by kernel_rfl) (by kernel_rfl) (fun _ _ _ h => h) (Or.inl ⟨by rfl, ?_⟩) (by assumption) ?_; rotate_left; (focus ((intro wS hSw); (try dsimp only at hSw); obtain ⟨s0, s1, s2⟩ := hSw; go_simp; (try with_reducible rfl); done)); (try simp only [Act.put, List.setIfInBounds_toArray, List.set_cons_zero, List.set_cons_succ]))
      refine aloneH (i := 14) rfl (by kernel_rfl) (fun K hK => ?_)
      rw [if_pos (by rfl)]
      obtain ⟨_, q5, _, z5⟩ := row2 ((HT.out.block B HLt.out.1).trans HLd.out)
      go_simp
      refine hK.out _ _ (⟨(World.cell?_of_block (heap_setCell_other _ _ _ _ (by simp <;> omega))).trans hHeld.1, (World.cell?_of_block (heap_setCell_other _ _ _ _ (by simp <;> omega))).trans hHeld.2.1, (World.cell?_of_block (heap_setCell_other _ _ _ _ (by simp <;> omega))).trans hHeld.2.2⟩) (fun hNew => ?_)
      clear hK K hHeld; (have hHeld := hNew); clear hNew; (try simp only [Act.put])
      refine wpAnyH_done (by kernel_rfl) ?_ _
      clear hHeld
      refine NoPanic.normal ?_
      go_wp2
      have hk : (w4.setCell ⟨B, 1, none⟩ (.slice A6 (insL L i (f, u, x)).length c6)).heap[D]? = some (.deferred (some [])) := (heap_setCell_other _ _ _ _ hDB.1).trans ((HT.out.block D (heapLt HKd.out)).trans HKd.out)
      refine ⟨by simp, .inl ⟨_, _, rfl, run_takeDeferred hk, ?_⟩⟩
      have hfin := set_line (o := .deferred none) HL.out HBd.out HT.out HLd.out HLt.out.1 hDB (heapLt HKd.out) HO6.out (by rw [insL_len]; omega)
      rw [HIp.out] at hfin
      rw [HIp.out]
      exact ⟨_, results_tmp rfl _ _ _, rfl, hfin⟩
end Go.Proofs.YtgljajoknmgoeaaGreat
