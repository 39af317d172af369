/- On how many days nothing holds. -/
import Derived.Test.YtgljajoknmgoeaaGreatUlD
import Derived.Test.YtgljajoknmgoeaaGreatDrawB
namespace Go.Proofs.YtgljajoknmgoeaaGreat
open Go.RowKit
set_option maxRecDepth 100000
attribute [local go_sem] Oper.semAt_some

/-- how many days of a span another one takes -/
def cutN (f u : Int) (p : Sp) : Int := if meetB f u p.1 p.2.1 = true then meetU f u p.1 p.2.1 - meetF f u p.1 p.2.1 + 1 else 0
def gapL (f u : Int) (L : List Sp) : Int := u - f + 1 - (L.map (cutN f u)).sum
theorem cut_bd (f u : Int) (p : Sp) : 0 ≤ cutN f u p ∧ cutN f u p ≤ 2932897 := by
  unfold cutN meetU meetF
  by_cases h : meetB f u p.1 p.2.1 = true
  · rw [if_pos h, if_pos h, if_pos h]
    have := of_decide_eq_true h
    obtain ⟨_, _, h1, h2, h3⟩ := (meet_iff _ _ _ _).1 this
    omega
  · rw [if_neg h]; omega
theorem cuts_bd (f u : Int) (L : List Sp) : 0 ≤ (L.map (cutN f u)).sum ∧ (L.map (cutN f u)).sum ≤ 2932897 * L.length := by
  induction L with
  | nil => simp
  | cons p L ih =>
    have := cut_bd f u p
    simp only [List.map_cons, List.sum_cons, List.length_cons]
    omega
theorem gapL_next (f u : Int) (L : List Sp) (x : Sp) : gapL f u (L ++ [x]) = gapL f u L - cutN f u x := by
  unfold gapL
  simp only [List.map_append, List.sum_append, List.map_cons, List.map_nil, List.sum_cons, List.sum_nil]
  omega
theorem meet_sp {f u g v : Int} (h : meetB f u g v = true) : isSp (meetF f u g v) (meetU f u g v) := by
  unfold meetF meetU
  rw [if_pos h, if_pos h]
  exact ((meet_iff _ _ _ _).1 (of_decide_eq_true h)).2.2

/-- the call's own boxes: at b3 the span, at b5 what is left -/
def GapI (w : World) (b5 : Nat) (f u n : Int) (W : World) : Prop :=
  W.heap[w.heap.size]? = some (.cells #[.int .i64 f, .int .i64 u] 39 (0, 0)) ∧ W.heap[b5]? = some (.cells #[.int .i64 n] 3 (0, 0)) ∧ Below w.heap.size w W
theorem GapI.below {w W V : World} {b5 b : Nat} {f u n : Int} (h : GapI w b5 f u n W) (hb : Below b W V) (h0 : w.heap.size < b) (h1 : b5 < b) : GapI w b5 f u n V :=
  ⟨(hb.block _ h0).trans h.1, (hb.block _ h1).trans h.2.1, h.2.2.trans (hb.mono (by omega))⟩

theorem others_below {A C : World} (h : Below A.heap.size A C) : KeepsOthers A C := ⟨h.size, fun k _ hk _ => (h.block k (heapLt hk)).trans hk⟩
/-- what a round leaves that set what is left -/
theorem gap_round {w Wb wy : World} {b5 b : Nat} {f u n n2 : Int} (hI : GapI w b5 f u n Wb) (hF : Below Wb.heap.size Wb wy) (hbw : b < w.heap.size) (hz : w.heap.size < b5) (hs : b5 + 2 ≤ Wb.heap.size) :
    KeepsOthers Wb (wy.setCell ⟨b5, 0, none⟩ (.int .i64 n2)) ∧ KpS b Wb (wy.setCell ⟨b5, 0, none⟩ (.int .i64 n2)) ∧ GapI w b5 f u n2 (wy.setCell ⟨b5, 0, none⟩ (.int .i64 n2)) ∧ b5 + 2 ≤ (wy.setCell ⟨b5, 0, none⟩ (.int .i64 n2)).heap.size := by
  have hy := hI.below hF (by omega) (by omega)
  refine ⟨(others_below hF).trans (KeepsOthers.setCell _ _ _), ⟨fun h => (heap_setCell_other _ _ _ _ (by simp <;> omega)).trans (hF.block _ h), by simpa using hF.size⟩, ⟨(heap_setCell_other _ _ _ _ (by simp <;> omega)).trans hy.1, ?_, hy.2.2.setCell (p := ⟨b5, 0, none⟩) (by simp <;> omega) _⟩, by have := hF.size; simp; omega⟩
  exact heap_setCell_same wy b5 0 _ _ (.int .i64 n2) hy.2.1
set_option maxHeartbeats 1000000 in
theorem code_gap_no (w : World) (B most : Nat) (L : List Sp) (f u : Int) (h : Lin w B most L) (hs : decide (isSp f u) = false) : Calls Tryz.prog 63 #[.pointer (some ⟨B, 0, none⟩), .agg #[.int .i64 f, .int .i64 u]] w fun e w' => e = .returned (.int .i64 0) ∧ Below w.heap.size w w' := by
  have HM := Lib.hid (fun W => code_isMade (w.alloc W) B most L (h.on (below_alloc _ _)))
  have HI := Lib.hid (fun W => is_at hs W)
  clear h hs
  go_enter Tryz.func63, Tryz.ntmps63
  go_wp2_with (go_at_call 57; refine (HM.out _).mono ?_; rintro e w1 ⟨rfl, rfl⟩; refine Stop.out ?_)
  unfold Stop
  go_wp2_with (go_at_call 62; refine (HI.out _).mono ?_; rintro e w2 ⟨rfl, hb⟩; have HB := Lib.hid (below_then (below_alloc _ _) hb); clear hb)
  go_ret
  exact ⟨rfl, HB.out⟩
set_option maxHeartbeats 1000000 in
theorem code_gap_yes (w : World) (B most c : Nat) (A : Option Addr) (L : List Sp) (f u : Int) (h : LinAt w B most A c L) (hs : decide (isSp f u) = true) : Calls Tryz.prog 63 #[.pointer (some ⟨B, 0, none⟩), .agg #[.int .i64 f, .int .i64 u]] w fun e w' => e = .returned (.int .i64 (gapL f u L)) ∧ Below w.heap.size w w' := by
  have HM := Lib.hid (fun W => code_isMade (w.alloc W) B most L ⟨A, c, h.on (below_alloc _ _)⟩)
  have HI := Lib.hid (fun W => is_at hs W)
  have HD := Lib.hid (fun W => code_days f u W (of_decide_eq_true hs))
  have HL := Lib.hid h
  have hx1 := heap_alloc_new w (.cells #[.int .i64 f, .int .i64 u] 39)
  have HX1 := Lib.hid (And.intro hx1 (below_alloc w (.cells #[.int .i64 f, .int .i64 u] 39)))
  obtain ⟨f0, hf0⟩ : ∃ f0, f0 = u - f + 1 := ⟨_, rfl⟩
  have HF0 : Hid (f0 = gapL f u []) := Lib.hid (by rw [hf0]; simp [gapL])
  rw [← hf0] at HD
  have HSp := Lib.hid hs
  clear h hs hx1 hf0
  refine callsIn_wide.1 (callsIn_of_wp_marks (n := 0) (F := Fence.wide) Tryz.func63 rfl trivial (wpIn_wide.2 ?_) rfl)
  simp only [Tryz.ntmps63, List.size_toArray, List.length_cons, List.length_nil, Nat.reduceAdd, Nat.reduceSub, Array.replicate_succ, Array.replicate_zero, List.push_toArray, List.append_toArray, List.nil_append, List.cons_append]
  go_wp2_with (go_at_call 57; refine (HM.out _).mono ?_; rintro e w1 ⟨rfl, rfl⟩; refine Stop.out ?_)
  unfold Stop
  go_wp2_with (go_at_call 62; refine (HI.out _).mono ?_; rintro e w2 ⟨rfl, hb⟩; have HX2 := Lib.hid (And.intro (heap_on hb HX1.out.1) (below_then HX1.out.2 hb)); obtain ⟨x0, x1, _, _⟩ := row2 HX2.out.1; clear hb; refine Stop.out ?_)
  unfold Stop
  go_wp2_with (go_at_call 64; refine (HD.out _).mono ?_; rintro e w3 ⟨rfl, hb⟩; have HX3 := Lib.hid (And.intro (heap_on hb HX2.out.1) (below_then HX2.out.2 hb)); clear hb; refine Stop.out ?_)
  unfold Stop
  obtain ⟨b5, hb5⟩ : ∃ b5, b5 = w3.heap.size := ⟨_, rfl⟩
  obtain ⟨W4, hW4⟩ : ∃ W4, W4 = w3.alloc (.cells #[.int .i64 f0] 3) := ⟨_, rfl⟩
  have HI4 : Hid (GapI w b5 f u (gapL f u []) W4) := Lib.hid (by
    refine ⟨?_, ?_, ?_⟩
    · rw [hW4]; exact heap_on (below_alloc _ _) HX3.out.1
    · rw [hb5, ← HF0.out, hW4]; exact heap_alloc_new w3 _
    · rw [hW4]; exact below_then HX3.out.2 (below_alloc _ _))
  have hz4 : W4.heap.size = b5 + 1 := by rw [hW4, hb5]; simp
  have hzw : w.heap.size < b5 := by rw [hb5]; exact heapLt HX3.out.1
  go_wp2_with (go_at_call 65; refine (code_lall _ B most c A L (HL.out.on (below_then HX3.out.2 (below_alloc _ _)))).mono ?_; rintro e W9 ⟨rfl, hg, hb⟩; refine Stop.out ?_)
  unfold Stop
  unfold allF
  rw [← hW4] at hg hb
  rw [← hb5]
  have hI9 : GapI w b5 f u (gapL f u []) W9 := HI4.out.below hb (by omega) (by omega)
  have hr9 : Row2 W9 A L := HL.out.2.1.on hI9.2.2
  have hz9 : b5 + 2 ≤ W9.heap.size := by have := heapLt hg; omega
  obtain ⟨b, hbw, hAb⟩ := HL.out.row
  have HA := Lib.hid (told W9 W4.heap.size b A c L hg hr9 hAb (by have := HL.out.short; omega))
  have hlen := HL.out.short
  rw [hz4] at HA
  clear hg hb hr9 hW4 hAb HM HI HD HX1 HX2 HX3 HI4 x0 x1 hb5 hz4
  go_wp2
  refine wp_rangeTold (gf := 89) (lb := #[.pointer (some ⟨b5 + 1, 0, none⟩)]) rfl (enters_of Tryz.func89 (by kernel_rfl) rfl) HA.out (fun h k => h.trans k) (fun A B h => ⟨fun _ => h.block _ (by omega), h.size⟩) (fun _ => rfl)
    (fun pre W => GapI w b5 f u (gapL f u pre) W ∧ b5 + 2 ≤ W.heap.size) (fun _ _ _ => False) (fun _ A B h hb => ⟨h.1.below hb (by omega) (by omega), Nat.le_trans h.2 hb.size⟩) (fun _ _ _ _ h _ => h) ⟨hI9, hz9⟩ ?round ?done ?stop
  case stop =>
    rintro D cc pre W _ _ h _
    exact h.elim
  case done =>
    intro D xs W hD hxs hI hK
    obtain ⟨hI, hz⟩ := hI
    rw [hxs] at hI
    obtain ⟨q5, _⟩ := one_cell hI.2.1
    have HI := Lib.hid hI
    have HK := Lib.hid hK
    clear hI hK hxs
    go_wp2
    refine ⟨by simp, .inl ⟨_, _, rfl, run_takeDeferred HK.out, ?_⟩⟩
    refine ⟨_, results_tmp rfl _ _ _, rfl, ?_⟩
    exact HI.out.2.2.trans (put_below _ _ (by omega))
  case round =>
    intro l r pre x W hl hr hI hx
    obtain ⟨post, hpost⟩ := hx
    have hpl : pre.length < 256 := by
      have := congrArg List.length hpost
      simp at this
      omega
    obtain ⟨hI, hz⟩ := hI
    have hlW : l < W.heap.size := heapLt hr
    have HI := Lib.hid hI
    have HRr := Lib.hid hr
    have HX := Lib.hid (And.intro hpost hpl)
    clear hI hr hpost hpl
    dsimp only [encS]
    gi_wp2
    refine ⟨below_alloc _ _, fun Wb hB => ?_⟩
    have hIa := HI.out.below (below_alloc W (.cells #[.int .i64 x.1, .int .i64 x.2.1] 39)) (by omega) (by omega)
    have hIb := hIa.below (hB.below (b := W9.heap.size) (by omega)) (by omega) (by omega)
    have hx6 := (hB.block W.heap.size (by omega)).trans (heap_alloc_new W (.cells #[.int .i64 x.1, .int .i64 x.2.1] 39))
    have HZb : Hid (b5 + 2 ≤ Wb.heap.size) := Lib.hid (by have := hB.size; rw [World.size_alloc] at this; omega)
    obtain ⟨p0, p1, _, _⟩ := row2 hIb.1
    obtain ⟨x0, x1, _, _⟩ := row2 hx6
    have HIb := Lib.hid hIb
    have HMt := Lib.hid (fun V => code_meet f u x.1 x.2.1 V)
    have HNx : Hid (gapL f u (pre ++ [x]) = gapL f u pre - cutN f u x) := Lib.hid (gapL_next f u pre x)
    have HBd : Hid (0 ≤ cutN f u x ∧ cutN f u x ≤ 2932897 ∧ -2000000000 ≤ gapL f u pre ∧ gapL f u pre ≤ 2000000000) := Lib.hid (by
      have h1 := cut_bd f u x
      have h2 := cuts_bd f u pre
      have h3 := HX.out.2
      obtain ⟨h4, h5, h6⟩ := of_decide_eq_true HSp.out
      refine ⟨h1.1, h1.2, ?_, ?_⟩ <;> unfold gapL <;> omega)
    clear hIa hIb hx6 hB HI HRr HX
    by_cases hq : meetB f u x.1 x.2.1 = true
    · have HDm0 := fun V => code_days (meetF f u x.1 x.2.1) (meetU f u x.1 x.2.1) V (meet_sp hq)
      have HN2 : Hid (gapL f u (pre ++ [x]) = gapL f u pre - (meetU f u x.1 x.2.1 - meetF f u x.1 x.2.1 + 1)) := Lib.hid (by
        have := HNx.out
        unfold cutN at this
        rw [if_pos hq] at this
        exact this)
      have HBe : Hid (0 ≤ meetU f u x.1 x.2.1 - meetF f u x.1 x.2.1 + 1 ∧ meetU f u x.1 x.2.1 - meetF f u x.1 x.2.1 + 1 ≤ 2932897) := Lib.hid (by
        have := HBd.out
        unfold cutN at this
        rw [if_pos hq] at this
        exact ⟨this.1, this.2.1⟩)
      rw [hq] at HMt
      generalize meetF f u x.1 x.2.1 = M1 at HMt HDm0 HN2 HBe
      generalize meetU f u x.1 x.2.1 = M2 at HMt HDm0 HN2 HBe
      generalize hn1 : gapL f u pre = n1 at HIb HN2 HBd
      obtain ⟨d, hd⟩ : ∃ d, d = M2 - M1 + 1 := ⟨_, rfl⟩
      rw [← hd] at HDm0 HN2 HBe
      have HDm := Lib.hid HDm0
      obtain ⟨n2, hn2⟩ : ∃ n2, n2 = n1 - d := ⟨_, rfl⟩
      rw [← hn2] at HN2
      have hw2 : IntKind.i64.wrap (n1 - d) = n2 := by rw [IntKind.wrap_i64]; have := HBe.out; have := HBd.out; omega
      clear hq HDm0 HNx hn1 hd hn2 HBd HBe
      gi_wp2_with (refine ⟨trivial, ?_⟩; gi_at_call 88; refine (CallsIn.inRound l (callsIn_wide.2 (HMt.out _))).mono ?_; rintro e w7 ⟨rfl, hb⟩; have HB6 := Lib.hid hb; clear hb; refine Stop.out ?_)
      unfold Stop
      gi_wp2
      obtain ⟨m0, m1, hmb⟩ := box2 w7 (.int .i64 M1) (.int .i64 M2) 39
      refine region_in_round (S := fun V => V.cell? ⟨w7.heap.size, 0, none⟩ = some (.int .i64 M1) ∧ V.cell? ⟨w7.heap.size, 1, none⟩ = some (.int .i64 M2)) (by kernel_rfl) (by kernel_rfl) ⟨cell_on (below_drew _) m0, cell_on (below_drew _) m1⟩ ?_
      intro hHeld
      have HB7 := Lib.hid (below_then HB6.out (below_then hmb (below_drew _)))
      have hb57 : b5 ≠ w7.heap.size := by have := HB6.out.size; have := HZb.out; omega
      clear m0 m1 hmb p0 p1 x0 x1
      generalize (w7.alloc _).drew = w0 at HB7 hHeld ⊢
      have HIw : Hid (GapI w b5 f u n1 w0) := Lib.hid (HIb.out.below HB7.out (by have := HZb.out; omega) (by have := HZb.out; omega))
      (refine takeH (i := 1) (v := ?_) rfl (by kernel_rfl) (by kernel_rfl) (by kernel_rfl) (fun _ _ _ h => h) (Or.inl ⟨by rfl, ?_⟩) (by assumption) ?_; rotate_left; (focus ((intro wS hSw); (try dsimp only at hSw); obtain ⟨s0, s1⟩ := hSw; go_simp; (try with_reducible rfl); done)); (try simp only [Act.put, List.setIfInBounds_toArray, List.set_cons_zero, List.set_cons_succ]))
      refine twoH (i := 0) (i2 := 2) rfl rfl (by kernel_rfl) (fun K hK => ?_) (fun K hK => ?_)
      · rw [if_pos (by rfl)]
        obtain ⟨q1, z1⟩ := one_cell (heap_on (below_same w0) HIw.out.2.1)
        go_simp
        have HB1 : Hid (Below w0.heap.size w0 w0) := Lib.hid (Below.refl _ _)
        refine hK.out _ _ (hHeld) (fun hNew => ?_)
        clear hK K hHeld; (have hHeld := hNew); clear hNew; (try simp only [Act.put, List.setIfInBounds_toArray, List.set_cons_zero, List.set_cons_succ])
        refine aloneH (i := 2) rfl (by kernel_rfl) (fun K hK => ?_)
        rw [if_pos (by rfl)]
        go_simp; ((refine (HDm.out _).mono ?_); (rintro e w2 ⟨rfl, hb⟩); have HB2 := Lib.hid hb; clear hb; (try go_simp))
        refine hK.out _ _ (⟨cell_on HB2.out hHeld.1, cell_on HB2.out hHeld.2⟩) (fun hNew => ?_)
        clear hK K hHeld; (have hHeld := hNew); clear hNew; (try simp only [Act.put, List.setIfInBounds_toArray, List.set_cons_zero, List.set_cons_succ])
        (refine takeH (i := 3) (v := (.int .i64 n2)) rfl (by kernel_rfl) (by kernel_rfl) (by kernel_rfl) (fun _ _ _ h => h) (Or.inl ⟨by rfl, by (intro wS hSw); (try dsimp only at hSw); (obtain ⟨s0, s1⟩ := hSw); go_simp⟩) (by assumption) ?_; (try simp only [Act.put, List.setIfInBounds_toArray, List.set_cons_zero, List.set_cons_succ]))
        refine aloneH (i := 4) rfl (by kernel_rfl) (fun K hK => ?_)
        rw [if_pos (by rfl)]
        obtain ⟨q3, z3⟩ := one_cell (heap_on (below_then HB1.out HB2.out) HIw.out.2.1)
        go_simp
        refine hK.out _ _ (⟨(World.cell?_of_block (heap_setCell_other _ _ _ _ (by simp <;> omega))).trans hHeld.1, (World.cell?_of_block (heap_setCell_other _ _ _ _ (by simp <;> omega))).trans hHeld.2⟩) (fun hNew => ?_)
        clear hK K hHeld; (have hHeld := hNew); clear hNew; (try simp only [Act.put])
        refine wpAnyH_done (by kernel_rfl) ?_ _
        refine only_normal ?_
        clear hHeld
        have HFb : Hid (Below Wb.heap.size Wb w2) := Lib.hid (below_then HB7.out (below_then HB1.out HB2.out))
        gi_wp2
        refine roundP_normal ?_
        rw [HN2.out]
        exact gap_round HIb.out HFb.out hbw hzw HZb.out
      · rw [if_pos (by rfl)]
        go_simp; ((refine (HDm.out _).mono ?_); (rintro e w1 ⟨rfl, hb⟩); have HB1 := Lib.hid hb; clear hb; (try go_simp))
        refine hK.out _ _ (⟨cell_on HB1.out hHeld.1, cell_on HB1.out hHeld.2⟩) (fun hNew => ?_)
        clear hK K hHeld; (have hHeld := hNew); clear hNew; (try simp only [Act.put, List.setIfInBounds_toArray, List.set_cons_zero, List.set_cons_succ])
        refine aloneH (i := 0) rfl (by kernel_rfl) (fun K hK => ?_)
        rw [if_pos (by rfl)]
        obtain ⟨q2, z2⟩ := one_cell (heap_on HB1.out HIw.out.2.1)
        go_simp
        have HB2 : Hid (Below w1.heap.size w1 w1) := Lib.hid (Below.refl _ _)
        refine hK.out _ _ (hHeld) (fun hNew => ?_)
        clear hK K hHeld; (have hHeld := hNew); clear hNew; (try simp only [Act.put, List.setIfInBounds_toArray, List.set_cons_zero, List.set_cons_succ])
        (refine takeH (i := 3) (v := (.int .i64 n2)) rfl (by kernel_rfl) (by kernel_rfl) (by kernel_rfl) (fun _ _ _ h => h) (Or.inl ⟨by rfl, by (intro wS hSw); (try dsimp only at hSw); (obtain ⟨s0, s1⟩ := hSw); go_simp⟩) (by assumption) ?_; (try simp only [Act.put, List.setIfInBounds_toArray, List.set_cons_zero, List.set_cons_succ]))
        refine aloneH (i := 4) rfl (by kernel_rfl) (fun K hK => ?_)
        rw [if_pos (by rfl)]
        obtain ⟨q3, z3⟩ := one_cell (heap_on (below_then HB1.out HB2.out) HIw.out.2.1)
        go_simp
        refine hK.out _ _ (⟨(World.cell?_of_block (heap_setCell_other _ _ _ _ (by simp <;> omega))).trans hHeld.1, (World.cell?_of_block (heap_setCell_other _ _ _ _ (by simp <;> omega))).trans hHeld.2⟩) (fun hNew => ?_)
        clear hK K hHeld; (have hHeld := hNew); clear hNew; (try simp only [Act.put])
        refine wpAnyH_done (by kernel_rfl) ?_ _
        refine only_normal ?_
        clear hHeld
        have HFb : Hid (Below Wb.heap.size Wb w1) := Lib.hid (below_then HB7.out (below_then HB1.out HB2.out))
        gi_wp2
        refine roundP_normal ?_
        rw [HN2.out]
        exact gap_round HIb.out HFb.out hbw hzw HZb.out
    · obtain hq : meetB f u x.1 x.2.1 = false := by simpa using hq
      have HN2 : Hid (gapL f u (pre ++ [x]) = gapL f u pre) := Lib.hid (by
        have := HNx.out
        unfold cutN at this
        rw [hq] at this
        simpa using this)
      rw [hq] at HMt
      generalize meetF f u x.1 x.2.1 = M1 at HMt
      generalize meetU f u x.1 x.2.1 = M2 at HMt
      clear hq HNx HBd
      gi_wp2_with (refine ⟨trivial, ?_⟩; gi_at_call 88; refine (CallsIn.inRound l (callsIn_wide.2 (HMt.out _))).mono ?_; rintro e w7 ⟨rfl, hb⟩; have HB6 := Lib.hid hb; clear hb; refine Stop.out ?_)
      unfold Stop
      gi_wp2
      have hF := below_then HB6.out (below_alloc w7 (.cells #[.int .i64 M1, .int .i64 M2] 39))
      have hs := HZb.out
      refine roundP_normal ?_
      rw [HN2.out]
      exact ⟨others_below hF, ⟨fun h => hF.block _ h, hF.size⟩, HIb.out.below hF (by omega) (by omega), Nat.le_trans hs hF.size⟩
end Go.Proofs.YtgljajoknmgoeaaGreat
