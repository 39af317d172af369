/- The statement on a torn end, walked. -/
import Derived.Test.YthgpdfdijcabeaaTapeP
import Derived.Test.YthgpdfdijcabeaaZeros
namespace Go.Proofs.Ythgpdfdijcabeaa
open Go.RowKit
set_option maxRecDepth 100000

/-- a sector's bytes, torn -/
def tornX (E : Text) (T : Nat) : Text := E.take T ++ List.replicate (64 - T) 0
set_option maxHeartbeats 1000000 in
theorem torn_lives (s t : Int) (l : Text) (A : Option Addr) (c : Nat) (w : World) (h : 2000 < l.length ∨ (l.length ≤ 2000 ∧ t < 0) ∨ (l.length ≤ 2000 ∧ 0 ≤ t ∧ 64 < t)) :
    Calls Try.prog 6 #[.int .i64 s, .slice A l.length c, .int .i64 t] w fun e w' => e = .returned (.bool true) ∧ Below w.heap.size w w' := by
  have HL := Lib.hid (tape_lives w)
  rcases h with h1 | ⟨h1, h2⟩ | ⟨h1, h2, h3⟩
  · have i1 : (2000 : Int) < (l.length : Int) := by omega
    go_enter Try.func6, Try.ntmps6
    go_wp2_with (go_at_call 15; refine HL.out.mono ?_; rintro e w1 ⟨rfl, hb1⟩)
    go_ret
    exact ⟨rfl, hb1⟩
  · have i1 : (l.length : Int) ≤ 2000 := by omega
    go_enter Try.func6, Try.ntmps6
    go_wp2_with (go_at_call 15; refine HL.out.mono ?_; rintro e w1 ⟨rfl, hb1⟩)
    go_ret
    exact ⟨rfl, hb1⟩
  · have i1 : (l.length : Int) ≤ 2000 := by omega
    go_enter Try.func6, Try.ntmps6
    go_wp2_with (go_at_call 15; refine HL.out.mono ?_; rintro e w1 ⟨rfl, hb1⟩)
    go_ret
    exact ⟨rfl, hb1⟩
set_option maxHeartbeats 1000000 in
theorem torn_none (s : Int) (T : Nat) (l : Text) (A : Option Addr) (c : Nat) (w : World) (h1 : l.length ≤ 2000) (h2 : T ≤ 64) (hh : headOk s l.length = false) :
    Calls Try.prog 6 #[.int .i64 s, .slice A l.length c, .int .i64 T] w fun e w' => e = .returned (.bool true) ∧ Below w.heap.size w w' := by
  have HP := Lib.hid (code_pages_no s l A c w hh)
  have i1 : (l.length : Int) ≤ 2000 := by omega
  have i2 : (T : Int) ≤ 64 := by omega
  go_enter Try.func6, Try.ntmps6
  go_wp2_with (first
    | (go_at_call 16; refine HP.out.mono ?_; rintro e w1 ⟨rfl, hb1⟩; have HB1 := Lib.hid hb1; clear hb1)
    | (go_at_call 15; refine (tape_lives w1).mono ?_; rintro e w2 ⟨rfl, hb2⟩; have HB2 := Lib.hid hb2; clear hb2))
  go_ret
  exact ⟨rfl, below_then HB1.out HB2.out⟩
/-- the walk stops here -/
def Stop (p : Prop) : Prop := p
theorem Stop.out {p : Prop} (h : Stop p) : p := h
set_option maxHeartbeats 1000000 in
theorem torn_yes (s T : Nat) (l : Text) (A : Option Addr) (c : Nat) (w : World) (h1 : 1 ≤ s) (h2 : s ≤ 4611686018427387904) (h3 : 1 ≤ l.length) (h4 : l.length ≤ 2000) (h5 : T ≤ 64) (hc : l.length ≤ c) (hT : Txt w A l) :
    Calls Try.prog 6 #[.int .i64 s, .slice A l.length c, .int .i64 T] w fun e w' => e = .returned (.bool true) ∧ Below w.heap.size w w' := by
  obtain ⟨u, hu⟩ : ∃ u, u = sumN l := ⟨_, rfl⟩
  have hub : u < 4294967296 := by rw [hu]; exact (Crc.sumT l).isLt
  obtain ⟨j, hj⟩ : ∃ j, j = manyC l + 1 := ⟨_, rfl⟩
  have hj2 : 2 ≤ j ∧ j ≤ 34 := by rw [hj]; unfold manyC; omega
  obtain ⟨k, hk⟩ : ∃ k, k = 64 - T := ⟨_, rfl⟩
  obtain ⟨X, hX⟩ : ∃ X, X = tornX (endP s u) T := ⟨_, rfl⟩
  have hXe : X = (endP s u).take T ++ List.replicate k 0 := by rw [hX, hk]; rfl
  obtain ⟨E, hE0⟩ : ∃ E, E = (endP s u).take T := ⟨_, rfl⟩
  have hEl : E.length = T := by rw [hE0, List.length_take, endP_len]; omega
  rw [← hE0] at hXe
  have hXl : X.length = 64 := by rw [hXe, List.length_append, List.length_replicate, hEl]; omega
  obtain ⟨q, hq⟩ : ∃ q, decide (X = endP s u) = q := ⟨_, rfl⟩
  have hPl : (pagesT s l).length = j + 1 := by rw [pagesT_len, hj]
  have hP0 : (pagesT s l)[0]'(by omega) = headP s l.length u := by rw [hu]; rfl
  have hPj : (pagesT s l)[j]'(by omega) = endP s u := by
    rw [hu]
    unfold pagesT
    rw [List.getElem_cons, dif_neg (by omega), List.getElem_append_right (by simp [cutP, cutsT_len]; omega)]
    simp
  have HP : Hid (Calls Try.prog 16 #[.int .i64 s, .slice A l.length c] w fun e w' => ∃ g c1, e = .returned (.tuple #[.slice (some ⟨g, 0, none⟩) (j + 1) c1, .int .i64 0]) ∧ (∃ b0 c0, w'.cell? ⟨g, 0, none⟩ = some (.slice (some ⟨b0, 0, none⟩) 64 c0) ∧ 64 ≤ c0 ∧ w'.rangeAt b0 0 ((headP s l.length u).map cellOf)) ∧
      (∃ b2 c2, w'.cell? ⟨g, j, none⟩ = some (.slice (some ⟨b2, 0, none⟩) 64 c2) ∧ 64 ≤ c2 ∧ w'.rangeAt b2 0 ((endP s u).map cellOf)) ∧ Below w.heap.size w w') := Lib.hid (by
    refine (code_pagesR s l A c w h1 h2 h3 (by omega) hc hT).mono ?_
    rintro e w' ⟨g, c1, rfl, ho, _, hb⟩
    rw [show manyC l + 2 = j + 1 by omega] at ho ⊢
    obtain ⟨b0, c0, x1, x2, _, x4, _⟩ := ho.at_ rfl 0 (by omega)
    obtain ⟨b2, c2, y1, y2, _, y4, _⟩ := ho.at_ rfl j (by omega)
    rw [hP0] at x1 x2 x4
    rw [hPj] at y1 y2 y4
    rw [headP_len] at x1 x2
    rw [endP_len] at y1 y2
    exact ⟨g, c1, rfl, ⟨b0, c0, x1, x2, x4⟩, ⟨b2, c2, y1, y2, y4⟩, hb⟩)
  have HBg : Hid (∀ W b c, 64 ≤ c → W.rangeAt b 0 ((headP s l.length u).map cellOf) → Calls Try.prog 21 #[.slice (some ⟨b, 0, none⟩) 64 c] W fun e w' => e = .returned (.tuple #[headV s l.length u, .bool true]) ∧ Below W.heap.size W w') := Lib.hid (fun W b c hc hr => by
    have := code_begin (headP s l.length u) (some ⟨b, 0, none⟩) c W (mid_txt hr) (by rw [headP_len]; exact hc)
    rw [headP_len, begin_headP s l.length u h1 h2 h3 (by omega) hub] at this
    exact this)
  have HEn : Hid (∀ W b c, Txt W (some ⟨b, 0, none⟩) X → Calls Try.prog 23 #[.slice (some ⟨b, 0, none⟩) 64 c, headV s l.length u] W fun e w' => e = .returned (.bool q) ∧ Below W.heap.size W w') := Lib.hid (fun W b c hr => by
    have := code_end X (some ⟨b, 0, none⟩) c s l.length u W hr ⟨by omega, by omega⟩
    rw [hXl] at this
    have hE : endOk X s u = q := by
      unfold endOk
      rw [hXl, (seqOk_iff s).2 ⟨by omega, by omega⟩, Int.toNat_natCast, Int.toNat_natCast]
      simpa using hq
    rw [hE] at this
    exact this)
  have HX := Lib.hid (And.intro hXe (And.intro hXl (And.intro hq (hE0 : E = (endP s u).take T))))
  have HT5 : Hid (T ≤ 64 ∧ k ≤ 64) := Lib.hid ⟨h5, by omega⟩
  have i1 : (l.length : Int) ≤ 2000 := by omega
  have i2 : (T : Int) ≤ 64 := by omega
  have i3 : (2 : Int) ≤ (j : Int) := by omega
  have i4 : (j : Int) ≤ 34 := by omega
  have I5 : Hid ((64 : Int) - (T : Int) = (k : Int)) := Lib.hid (by omega)
  unfold headV at HBg HEn
  clear h1 h2 h3 h4 h5 hc hT hu hub hj hX hXe hXl hq hPl hP0 hPj hk hE0
  subst hEl
  go_enter Try.func6, Try.ntmps6
  go_wp2_with (first
    | (go_at_call 16; refine HP.out.mono ?_; rintro e w2 ⟨g, c1, rfl, ⟨b0, c0, hx0, hy0, hr0⟩, ⟨b2, c2, hx2, hy2, hr2⟩, hb2⟩; have HR0 := Lib.hid (And.intro hy0 hr0); have HR2 := Lib.hid (And.intro hy2 hr2); have hcb : (E.length : Int) ≤ (c2 : Int) := (by have := HT5.out.1; omega); have HB2 := Lib.hid hb2; have HX2 := Lib.hid hx2; clear hy0 hr0 hr2 hy2 hb2)
    | (go_at_call 21; refine (HBg.out _ _ _ HR0.out.1 HR0.out.2).mono ?_; rintro e w3 ⟨rfl, hb3⟩; have hx3 := cell_on (below_then hb3 (below_alloc w3 (headO s l.length u))) HX2.out; unfold headO at hx3; have HB3 := Lib.hid hb3; clear hb3; have HO3 : Hid (((w3.alloc (headO s l.length u)).alloc (.cells #[] 5)).ownsRow (w3.heap.size + 1) 5 1 (.slice (some ⟨w3.heap.size + 1, 0, none⟩) 0 0) ([] : Text).length (([] : Text).map cellOf)) := (Lib.hid (by have := World.ownsRow_lit (base := w3.heap.size + 1) (e := 5) (size := 1) (w3.alloc (headO s l.length u)) #[] 0 (by rw [World.size_alloc]; exact Nat.le_refl _) (by unfold maxLen; omega) rfl; rw [World.size_alloc] at this; exact this)))
    | (at_builtin; refine wpList_append_own_text (o := ⟨some 64, _, _, _, _, _⟩) rfl _ _ rfl rfl (w3.heap.size + 1) (w3.alloc (headO s l.length u)) _ [] E E rfl HO3.out (some ⟨b2, 0, none⟩) c2 rfl ?d2 ?d3 ?d4 ?d5 ?d6 ?d7 ?_; (case d2 => rw [HX.out.2.2.2]; exact ((mid_txt (range_on (below_then (below_then HB3.out (below_alloc w3 _)) (below_alloc _ _)) HR2.out.2)).take _)); (case d3 => intro e; cases e); (case d4 => have := HT5.out.1; simp; omega); (case d5 => exact (below_alloc _ _).mono (by rw [World.size_alloc]; exact Nat.le_refl _)); (case d6 => simp); (case d7 => rfl); intro v4 w4 hown4 hb4 hv4; have HO4 := Lib.hid hown4; have HB4 := Lib.hid hb4; clear hown4 hb4 hv4; refine Stop.out ?_))
  clear HP HBg HR0 HO3
  unfold Stop
  refine wpList_step fun K hK => ?_
  rw [if_pos (by rfl)]
  go_simp
  refine hK _ _ ?_
  clear hK K
  refine wpList_step fun K hK => ?_
  rw [if_pos (by rfl)]
  go_simp
  refine hK _ _ ?_
  clear hK K
  refine wpList_append_zeros (o := ⟨some 67, _, _, _, _, _⟩) rfl (.tmp 64) (.tmp 66) rfl rfl (w3.heap.size + 1) (w3.alloc (headO s l.length u)) v4 E rfl HO4.out k _ rfl ?e3 ?e1 HB4.out ?e2 ?_
  case e3 =>
    have h1 := I5.out
    have h2 := HT5.out
    first | omega | (simp only [IntKind.wrap_i64]; omega) | (unfold wrap64; omega)
  case e1 => have := HT5.out; omega
  case e2 => have := HB4.out.size; rw [World.size_alloc] at this; exact this
  intro v5 w5 hown5 hb5
  rw [← HX.out.1] at hown5
  obtain ⟨gx, cx, hv5, _, _, htx, _⟩ := own_more hown5 (by rw [HX.out.2.1]; decide)
  rw [HX.out.2.1] at hv5
  subst hv5
  have HTX := Lib.hid htx; have HB5 := Lib.hid hb5; clear hown5 hb5 htx
  go_wp2
  have hb35 : Below w3.heap.size w3 w5 := below_then (below_alloc w3 (headO s l.length u)) (HB5.out.mono (by rw [World.size_alloc]; exact Nat.le_refl _))
  have HBW : Hid (Below w.heap.size w w5) := Lib.hid (below_then HB2.out (below_then HB3.out hb35))
  have HE2 : Hid (Txt w5 (some ⟨b2, 0, none⟩) (endP s u)) := Lib.hid (mid_txt (range_on (below_then HB3.out hb35) HR2.out.2))
  have hh5 : w5.heap[w3.heap.size]? = some (headO s l.length u) := (HB5.out.block _ (Nat.lt_succ_self _)).trans (heap_alloc_new w3 _)
  refine wp_region_held_drew (S := fun W => W.cell? ⟨w3.heap.size, 0, none⟩ = some (.int .i64 s) ∧ W.cell? ⟨w3.heap.size, 1, none⟩ = some (.int .i64 l.length) ∧ W.cell? ⟨w3.heap.size, 2, none⟩ = some (.int .u32 u) ∧ Txt W (some ⟨gx, 0, none⟩) X ∧ Txt W (some ⟨b2, 0, none⟩) (endP s u)) (by kernel_rfl) ⟨(head_cells hh5).1, (head_cells hh5).2.1, (head_cells hh5).2.2, HTX.out.below (below_drew w5), HE2.out.below (below_drew w5)⟩ ?_
  intro hHeld
  have HBD := Lib.hid HBW.out.drew
  have hqx : (X == endP s u) = q := by
    have := HX.out.2.2.1
    rw [← this]
    by_cases h : X = endP s u
    · rw [h]; simp
    · simp [h]
  clear hb35 hh5 HTX HE2 HB5 HB4 HO4 HB3 HR2 HX2 HBW
  generalize w5.drew = w0 at HBD hHeld ⊢
  (refine takeH (i := 0) (v := ?_) rfl (by kernel_rfl) (by kernel_rfl) (by kernel_rfl) (fun _ _ _ h => h) (Or.inl ⟨by rfl, ?_⟩) (by assumption) ?_; rotate_left; (focus ((intro wS hSw); (try dsimp only at hSw); obtain ⟨s0, s1, s2, s3, s4⟩ := hSw; go_simp; (try with_reducible rfl); done)); (try simp only [Act.put, List.setIfInBounds_toArray, List.set_cons_zero, List.set_cons_succ]))
  (refine takeH (i := 1) (v := ?_) rfl (by kernel_rfl) (by kernel_rfl) (by kernel_rfl) (fun _ _ _ h => h) (Or.inl ⟨by rfl, ?_⟩) (by assumption) ?_; rotate_left; (focus ((intro wS hSw); (try dsimp only at hSw); obtain ⟨s0, s1, s2, s3, s4⟩ := hSw; go_simp; (try with_reducible rfl); done)); (try simp only [Act.put, List.setIfInBounds_toArray, List.set_cons_zero, List.set_cons_succ]))
  (refine takeH (i := 3) (v := ?_) rfl (by kernel_rfl) (by kernel_rfl) (by kernel_rfl) (fun _ _ _ h => h) (Or.inl ⟨by rfl, ?_⟩) (by assumption) ?_; rotate_left; (focus ((intro wS hSw); (try dsimp only at hSw); obtain ⟨s0, s1, s2, s3, s4⟩ := hSw; go_simp; (try with_reducible rfl); done)); (try simp only [Act.put, List.setIfInBounds_toArray, List.set_cons_zero, List.set_cons_succ]))
  (refine takeH (i := 4) (v := (.string ⟨X.toArray⟩)) rfl (by kernel_rfl) (by kernel_rfl) (by kernel_rfl) (fun _ _ _ h => h) (yieldsIf_text (by rfl) (.tmp 71) rfl (some ⟨gx, 0, none⟩) cx 64 X HX.out.2.1 rfl (fun _ h => h.2.2.2.1) (fun e => by cases e)) (by assumption) ?_; (try simp only [Act.put, List.setIfInBounds_toArray, List.set_cons_zero, List.set_cons_succ]))
  (refine takeH (i := 5) (v := ?_) rfl (by kernel_rfl) (by kernel_rfl) (by kernel_rfl) (fun _ _ _ h => h) (Or.inl ⟨by rfl, ?_⟩) (by assumption) ?_; rotate_left; (focus ((intro wS hSw); (try dsimp only at hSw); obtain ⟨s0, s1, s2, s3, s4⟩ := hSw; go_simp; (try with_reducible rfl); done)); (try simp only [Act.put, List.setIfInBounds_toArray, List.set_cons_zero, List.set_cons_succ]))
  (refine takeH (i := 6) (v := (.string ⟨(endP s u).toArray⟩)) rfl (by kernel_rfl) (by kernel_rfl) (by kernel_rfl) (fun _ _ _ h => h) (yieldsIf_text (by rfl) (.tmp 73) rfl (some ⟨b2, 0, none⟩) c2 64 (endP s u) (endP_len _ _) rfl (fun _ h => h.2.2.2.2) (fun e => by cases e)) (by assumption) ?_; (try simp only [Act.put, List.setIfInBounds_toArray, List.set_cons_zero, List.set_cons_succ]))
  (refine takeH (i := 7) (v := ?_) rfl (by kernel_rfl) (by kernel_rfl) (by kernel_rfl) (fun _ _ _ h => h) (Or.inl ⟨by rfl, ?_⟩) (by assumption) ?_; rotate_left; (focus ((intro wS hSw); (try dsimp only at hSw); obtain ⟨s0, s1, s2, s3, s4⟩ := hSw; go_simp; (try with_reducible rfl); done)); (try simp only [Act.put, List.setIfInBounds_toArray, List.set_cons_zero, List.set_cons_succ]))
  refine aloneH (i := 2) rfl (by kernel_rfl) (fun K hK => ?_)
  rw [if_pos (by rfl)]
  go_simp; ((refine (HEn.out w0 gx cx hHeld.2.2.2.1).mono ?_); (rintro e w1 ⟨rfl, hb⟩); have HB1 := Lib.hid hb; clear hb; (try go_simp))
  refine hK.out _ _ (⟨cell_on HB1.out hHeld.1, cell_on HB1.out hHeld.2.1, cell_on HB1.out hHeld.2.2.1, (hHeld.2.2.2.1).below HB1.out, (hHeld.2.2.2.2).below HB1.out⟩) (fun hNew => ?_)
  clear hK K hHeld; (have hHeld := hNew); clear hNew; (try simp only [Act.put, List.setIfInBounds_toArray, List.set_cons_zero, List.set_cons_succ])
  (refine takeH (i := 8) (v := ?_) rfl (by kernel_rfl) (by kernel_rfl) (by kernel_rfl) (fun _ _ _ h => h) (Or.inl ⟨by rfl, ?_⟩) (by assumption) ?_; rotate_left; (focus ((intro wS hSw); (try dsimp only at hSw); obtain ⟨s0, s1, s2, s3, s4⟩ := hSw; go_simp; (try with_reducible rfl); done)); (try simp only [Act.put, List.setIfInBounds_toArray, List.set_cons_zero, List.set_cons_succ]))
  (refine takeH (i := 9) (v := ?_) rfl (by kernel_rfl) (by kernel_rfl) (by kernel_rfl) (fun _ _ _ h => h) (Or.inl ⟨by rfl, ?_⟩) (by assumption) ?_; rotate_left; (focus ((intro wS hSw); (try dsimp only at hSw); obtain ⟨s0, s1, s2, s3, s4⟩ := hSw; go_simp; (try with_reducible rfl); done)); (try simp only [Act.put, List.setIfInBounds_toArray, List.set_cons_zero, List.set_cons_succ]))
  refine aloneH (i := 10) rfl (by kernel_rfl) (fun K hK => ?_)
  rw [if_pos (by rfl)]
  go_simp; ((refine (tape_lives w1).mono ?_); (rintro e w2 ⟨rfl, hb⟩); have HB2 := Lib.hid hb; clear hb; (try go_simp))
  refine hK.out _ _ (⟨cell_on HB2.out hHeld.1, cell_on HB2.out hHeld.2.1, cell_on HB2.out hHeld.2.2.1, (hHeld.2.2.2.1).below HB2.out, (hHeld.2.2.2.2).below HB2.out⟩) (fun hNew => ?_)
  clear hK K hHeld; (have hHeld := hNew); clear hNew; (try simp only [Act.put, List.setIfInBounds_toArray, List.set_cons_zero, List.set_cons_succ])
  (refine takeH (i := 11) (v := ?_) rfl (by kernel_rfl) (by kernel_rfl) (by kernel_rfl) (fun _ _ _ h => h) (Or.inl ⟨by rfl, ?_⟩) (by assumption) ?_; rotate_left; (focus ((intro wS hSw); (try dsimp only at hSw); obtain ⟨s0, s1, s2, s3, s4⟩ := hSw; go_simp; (try with_reducible rfl); done)); (try simp only [Act.put, List.setIfInBounds_toArray, List.set_cons_zero, List.set_cons_succ]))
  (refine takeH (i := 12) (v := ?_) rfl (by kernel_rfl) (by kernel_rfl) (by kernel_rfl) (fun _ _ _ h => h) (Or.inl ⟨by rfl, ?_⟩) (by assumption) ?_; rotate_left; (focus ((intro wS hSw); (try dsimp only at hSw); obtain ⟨s0, s1, s2, s3, s4⟩ := hSw; go_simp; (try with_reducible rfl); done)); (try simp only [Act.put, List.setIfInBounds_toArray, List.set_cons_zero, List.set_cons_succ]))
  refine wpAnyH_done (by kernel_rfl) ?_ _
  go_wp2
  go_ret
  exact ⟨rfl, below_then HBD.out (below_then HB1.out HB2.out)⟩
theorem tapeTorn_any (s t : Int) (l : Text) (A : Option Addr) (c : Nat) (w : World) (hl : l.length ≤ c) (hT : Txt w A l) :
    Calls Try.prog 6 #[.int .i64 s, .slice A l.length c, .int .i64 t] w fun e w' => e = .returned (.bool true) ∧ Below w.heap.size w w' := by
  by_cases h1 : 2000 < l.length
  · exact torn_lives s t l A c w (.inl h1)
  · by_cases h2 : t < 0
    · exact torn_lives s t l A c w (.inr (.inl ⟨by omega, h2⟩))
    · by_cases h3 : 64 < t
      · exact torn_lives s t l A c w (.inr (.inr ⟨by omega, by omega, h3⟩))
      · obtain ⟨T, rfl⟩ : ∃ T : Nat, t = T := ⟨t.toNat, by omega⟩
        rcases Bool.eq_false_or_eq_true (headOk s l.length) with hh | hh
        · have hx : seqOk s = true ∧ 0 < needV l.length := by unfold headOk at hh; simpa using hh
          obtain ⟨s1, s2⟩ := (seqOk_iff s).1 hx.1
          have hn : 1 ≤ l.length := by
            have := hx.2
            unfold needV at this
            by_cases hc2 : (l.length : Int) < 1 ∨ 131072 < (l.length : Int)
            · rw [if_pos hc2] at this; omega
            · omega
          obtain ⟨S, rfl⟩ : ∃ S : Nat, s = S := ⟨s.toNat, by omega⟩
          exact torn_yes S T l A c w (by omega) (by omega) hn (by omega) (by omega) hl hT
        · exact torn_none s T l A c w (by omega) (by omega) hh
end Go.Proofs.Ythgpdfdijcabeaa
