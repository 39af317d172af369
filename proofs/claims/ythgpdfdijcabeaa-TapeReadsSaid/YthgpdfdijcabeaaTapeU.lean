/- The statement on a batch's way back, walked. -/
import Derived.Test.YthgpdfdijcabeaaTapeP
import Derived.Test.YthgpdfdijcabeaaTapeH
namespace Go.Proofs.Ythgpdfdijcabeaa
open Go.RowKit
set_option maxRecDepth 100000

/-- a text with nought behind it -/
def padT (l : Text) (M : Nat) : Text := l ++ List.replicate M 0
theorem cut_pad (l : Text) (i M : Nat) (hM : 64 ≤ M) (hi : 64 * i ≤ l.length) : cutT l i = ((padT l M).drop (64 * i)).take 64 := by
  unfold cutT padT overP zeros
  rw [List.drop_append_of_le_length hi, List.drop_replicate]
  generalize l.drop (64 * i) = x
  rw [List.take_append, List.take_replicate]
  congr 2
  rw [List.length_take]
  omega
theorem cutP_flat (l : Text) (M : Nat) (hM : 64 ≤ M) : ∀ k, 64 * k ≤ l.length + 63 → (cutP l k).flatten = (padT l M).take (64 * k) := by
  intro k
  induction k with
  | zero => intro _; simp [cutP, cutsT]
  | succ k ih =>
    intro hk
    have e : cutP l (k + 1) = cutP l k ++ [cutT l k] := by unfold cutP; rw [cutsT_next, List.map_append]; rfl
    rw [e, List.flatten_append, ih (by omega), List.flatten_singleton, cut_pad l k M hM (by omega), Nat.mul_succ, List.take_add]
theorem back_text (l : Text) : joinT (cutP l (manyC l)) l.length = l := by
  unfold joinT
  rw [cutP_flat l 64 (Nat.le_refl _) (manyC l) (by unfold manyC; omega), List.take_take, Nat.min_eq_left (by unfold manyC; omega)]
  unfold padT
  rw [List.take_append_of_le_length (Nat.le_refl _), List.take_of_length_le (Nat.le_refl _)]
theorem cutP_len (l : Text) (k : Nat) : (cutP l k).length = k := by simp [cutP, cutsT_len]
theorem cutP_at (l : Text) (k i : Nat) (hi : i < (cutP l k).length) : (cutP l k)[i] = cutT l i := by simp [cutP, cutsT]
theorem back_joins (l : Text) : joinB (cutP l (manyC l)) l.length (sumN l) = true := by
  unfold joinB
  rw [back_text l]
  simp only [Bool.and_eq_true, decide_eq_true_eq]
  exact ⟨fun i hi => by rw [List.getElem?_eq_getElem hi, cutP_at], rfl⟩
theorem headP_blank (s n u : Nat) : decide (headP s n u = zeros) = false := by
  refine decide_eq_false fun e => ?_
  have h : (headP s n u)[4]? = some 72 := by
    rw [headP_eq]
    unfold wrapT headB Crc.four
    rfl
  rw [e] at h
  exact absurd h (by decide)
set_option maxHeartbeats 1000000 in
theorem back_lives (s : Int) (l : Text) (A : Option Addr) (c : Nat) (w : World) (h : 5000 < l.length) :
    Calls Try.prog 5 #[.int .i64 s, .slice A l.length c] w fun e w' => e = .returned (.bool true) ∧ Below w.heap.size w w' := by
  have HL := Lib.hid (tape_lives w)
  have i1 : (5000 : Int) < (l.length : Int) := by omega
  go_enter Try.func5, Try.ntmps5
  go_wp2_with (go_at_call 15; refine HL.out.mono ?_; rintro e w1 ⟨rfl, hb1⟩)
  go_ret
  exact ⟨rfl, hb1⟩
set_option maxHeartbeats 1000000 in
theorem back_none (s : Int) (l : Text) (A : Option Addr) (c : Nat) (w : World) (h1 : l.length ≤ 5000) (hh : headOk s l.length = false) :
    Calls Try.prog 5 #[.int .i64 s, .slice A l.length c] w fun e w' => e = .returned (.bool true) ∧ Below w.heap.size w w' := by
  have HP := Lib.hid (code_pages_no s l A c w hh)
  have i1 : (l.length : Int) ≤ 5000 := by omega
  go_enter Try.func5, Try.ntmps5
  go_wp2_with (first
    | (go_at_call 16; refine HP.out.mono ?_; rintro e w1 ⟨rfl, hb1⟩; have HB1 := Lib.hid hb1; clear hb1)
    | (go_at_call 15; refine (tape_lives w1).mono ?_; rintro e w2 ⟨rfl, hb2⟩; have HBP := Lib.hid hb2; clear hb2))
  go_ret
  exact ⟨rfl, below_then HB1.out HBP.out⟩
set_option maxHeartbeats 2000000 in
theorem back_yes (s : Nat) (l : Text) (A : Option Addr) (c : Nat) (w : World) (h1 : 1 ≤ s) (h2 : s ≤ 4611686018427387904) (h3 : 1 ≤ l.length) (h4 : l.length ≤ 5000) (hc : l.length ≤ c) (hT : Txt w A l) (hA : A = none → l = []) :
    Calls Try.prog 5 #[.int .i64 s, .slice A l.length c] w fun e w' => e = .returned (.bool true) ∧ Below w.heap.size w w' := by
  obtain ⟨u, hu⟩ : ∃ u, u = sumN l := ⟨_, rfl⟩
  have hub : u < 4294967296 := by rw [hu]; exact (Crc.sumT l).isLt
  obtain ⟨j, hj⟩ : ∃ j, j = manyC l + 1 := ⟨_, rfl⟩
  have hj2 : 2 ≤ j ∧ j ≤ 80 := by rw [hj]; unfold manyC; omega
  have hPl : (pagesT s l).length = j + 1 := by rw [pagesT_len, hj]
  have hP0 : (pagesT s l)[0]'(by omega) = headP s l.length u := by rw [hu]; rfl
  have hPj : (pagesT s l)[j]'(by omega) = endP s u := by
    rw [hu]
    unfold pagesT
    rw [List.getElem_cons, dif_neg (by omega), List.getElem_append_right (by rw [cutP_len]; omega)]
    simp
  have hPm : ((pagesT s l).drop 1).take (j - 1) = cutP l (manyC l) := by
    unfold pagesT
    rw [List.drop_succ_cons, List.drop_zero, List.take_append_of_le_length (by rw [cutP_len]; omega), List.take_of_length_le (by rw [cutP_len]; omega)]
  have HP : Hid (Calls Try.prog 16 #[.int .i64 s, .slice A l.length c] w fun e w' => ∃ g c1, e = .returned (.tuple #[.slice (some ⟨g, 0, none⟩) (j + 1) c1, .int .i64 0]) ∧ (∃ b0 c0, w'.cell? ⟨g, 0, none⟩ = some (.slice (some ⟨b0, 0, none⟩) 64 c0) ∧ 64 ≤ c0 ∧ w'.rangeAt b0 0 ((headP s l.length u).map cellOf)) ∧
      (∃ b2 c2, w'.cell? ⟨g, j, none⟩ = some (.slice (some ⟨b2, 0, none⟩) 64 c2) ∧ 64 ≤ c2 ∧ w'.rangeAt b2 0 ((endP s u).map cellOf)) ∧ TextRows w' (some ⟨g, 1, none⟩) (cutP l (manyC l)) ∧ j + 1 ≤ c1 ∧ Below w.heap.size w w') := Lib.hid (by
    refine (code_pagesR s l A c w h1 h2 h3 (by omega) hc hT).mono ?_
    rintro e w' ⟨g, c1, rfl, ho, hcc, hb⟩
    rw [show manyC l + 2 = j + 1 by omega] at ho hcc ⊢
    obtain ⟨b0, c0, x1, x2, _, x4, _⟩ := ho.at_ rfl 0 (by omega)
    obtain ⟨b2, c2, y1, y2, _, y4, _⟩ := ho.at_ rfl j (by omega)
    rw [hP0] at x1 x2 x4
    rw [hPj] at y1 y2 y4
    rw [headP_len] at x1 x2
    rw [endP_len] at y1 y2
    have hr := rows_sub (ho.rows rfl) 1 (j - 1)
    rw [hPm] at hr
    exact ⟨g, c1, rfl, ⟨b0, c0, x1, x2, x4⟩, ⟨b2, c2, y1, y2, y4⟩, hr, hcc, hb⟩)
  have HBg : Hid (∀ W b c, 64 ≤ c → W.rangeAt b 0 ((headP s l.length u).map cellOf) → Calls Try.prog 21 #[.slice (some ⟨b, 0, none⟩) 64 c] W fun e w' => e = .returned (.tuple #[headV s l.length u, .bool true]) ∧ Below W.heap.size W w') := Lib.hid (fun W b c hc hr => by
    have := code_begin (headP s l.length u) (some ⟨b, 0, none⟩) c W (mid_txt hr) (by rw [headP_len]; exact hc)
    rw [headP_len, begin_headP s l.length u h1 h2 h3 (by omega) hub] at this
    exact this)
  have HBl : Hid (∀ W b c, W.rangeAt b 0 ((headP s l.length u).map cellOf) → Calls Try.prog 25 #[.slice (some ⟨b, 0, none⟩) 64 c] W fun e w' => e = .returned (.bool false) ∧ W = w') := Lib.hid (fun W b c hr => by
    have := code_blank (headP s l.length u) (some ⟨b, 0, none⟩) c W (mid_txt hr)
    rw [headP_len, headP_blank] at this
    exact this)
  have HEn : Hid (∀ W b c, W.rangeAt b 0 ((endP s u).map cellOf) → Calls Try.prog 23 #[.slice (some ⟨b, 0, none⟩) 64 c, headV s l.length u] W fun e w' => e = .returned (.bool true) ∧ Below W.heap.size W w') := Lib.hid (fun W b c hr => by
    have := code_end (endP s u) (some ⟨b, 0, none⟩) c s l.length u W (mid_txt hr) ⟨by omega, by omega⟩
    rw [endP_len] at this
    have hE : endOk (endP s u) s u = true := by
      unfold endOk
      rw [endP_len, (seqOk_iff s).2 ⟨by omega, by omega⟩, Int.toNat_natCast, Int.toNat_natCast]
      simp
    rw [hE] at this
    exact this)
  have HJn : Hid (∀ W g c, TextRows W (some ⟨g, 1, none⟩) (cutP l (manyC l)) → Calls Try.prog 27 #[.slice (some ⟨g, 1, none⟩) (j - 1) c, headV s l.length u] W fun e w' => ∃ B c, e = .returned (.tuple #[.slice B l.length c, .bool true]) ∧ Txt w' B l ∧ (B = none → l = []) ∧ Below W.heap.size W w') := Lib.hid (fun W g c hr => by
    have hh : headOk s l.length = true := by
      unfold headOk seqOk needV
      rw [if_neg (by omega)]
      simp
      omega
    have := code_join_c (cutP l (manyC l)) (some ⟨g, 1, none⟩) c s l.length u W hh (by rw [cutP_len]; rfl) (fun i hi => by rw [cutP_at]; exact cutT_len l i) hub hr
    rw [cutP_len, show manyC l = j - 1 by omega] at this
    refine this.mono ?_
    rintro e w' ⟨B, c, T', rfl, hT', _, _, ht, hn, hb⟩
    rw [show j - 1 = manyC l by omega, hu, back_joins l] at hT' ⊢
    rw [if_pos rfl, back_text l] at hT'
    subst hT'
    exact ⟨B, c, rfl, ht, hn, hb⟩)
  have HTA := Lib.hid (And.intro hT hA)
  have i1 : (l.length : Int) ≤ 5000 := by omega
  have i3 : (2 : Int) ≤ (j : Int) := by omega
  have i4 : (j : Int) ≤ 80 := by omega
  have i5 : (1 : Int) ≤ (j : Int) := by omega
  have i6 : (j : Int) < (j : Int) + 1 := by omega
  have w1 : IntKind.i64.wrap (j : Int) = (j : Int) := by rw [IntKind.wrap_i64]; omega
  unfold headV at HBg HEn HJn
  clear h1 h2 h3 h4 hc hT hA hu hub hj hPl hP0 hPj hPm
  go_enter Try.func5, Try.ntmps5
  go_wp2_with (first
    | (go_at_call 16; refine HP.out.mono ?_; rintro e w2 ⟨g, c1, rfl, ⟨b0, c0, hx0, hy0, hr0⟩, ⟨b2, c2, hx2, hy2, hr2⟩, hrm, hcc, hb2⟩; have HR0 := Lib.hid (And.intro hy0 (And.intro hr0 hx0)); have HR2 := Lib.hid (And.intro hx2 hr2); have HRM := Lib.hid hrm; have hcb : (j : Int) ≤ (c1 : Int) := (by omega); have hnc : ¬ c1 = 1 := (by omega); have HBP := Lib.hid hb2; clear hr0 hr2 hy2 hb2 hrm hcc hx2)
    | (go_at_call 21; refine (HBg.out _ _ _ HR0.out.1 HR0.out.2.1).mono ?_; rintro e w3 ⟨rfl, hb3⟩; have HB3 := Lib.hid hb3; clear hb3))
  have HH3 : Hid ((w3.alloc (headO s l.length u)).heap[w3.heap.size]? = some (headO s l.length u)) := Lib.hid (heap_alloc_new w3 _)
  have HBW : Hid (Below w2.heap.size w2 (w3.alloc (headO s l.length u))) := Lib.hid (below_then HB3.out (below_alloc w3 _))
  clear HP HBg HB3 hx0 hy0
  unfold headO at HH3 HBW
  obtain ⟨gh, hgh⟩ : ∃ gh, gh = w3.heap.size := ⟨_, rfl⟩
  rw [← hgh] at HH3 ⊢
  generalize w3.alloc (.cells #[.int .i64 s, .int .i64 l.length, .int .u32 u] 35) = wb at HH3 HBW ⊢
  refine wp_region_held_drew (S := fun W => W.cell? ⟨gh, 0, none⟩ = some (.int .i64 s) ∧ W.cell? ⟨gh, 1, none⟩ = some (.int .i64 l.length) ∧ W.cell? ⟨gh, 2, none⟩ = some (.int .u32 u)) (by kernel_rfl) (head_cells (w := wb) HH3.out) ?_
  intro hHeld
  have HH4 : Hid (wb.drew.heap[gh]? = some (headO s l.length u)) := Lib.hid HH3.out
  have HBv := Lib.hid HBW.out.drew
  clear HH3 HBW hgh
  generalize wb.drew = w0 at HBv HH4 hHeld ⊢
  (refine takeH (i := 0) (v := ?_) rfl (by kernel_rfl) (by kernel_rfl) (by kernel_rfl) (fun _ _ _ h => h) (Or.inl ⟨by rfl, ?_⟩) (by assumption) ?_; rotate_left; (focus ((intro wS hSw); (try dsimp only at hSw); obtain ⟨s0, s1, s2⟩ := hSw; go_simp; (try with_reducible rfl); done)); (try simp only [Act.put, List.setIfInBounds_toArray, List.set_cons_zero, List.set_cons_succ]))
  (refine takeH (i := 1) (v := ?_) rfl (by kernel_rfl) (by kernel_rfl) (by kernel_rfl) (fun _ _ _ h => h) (Or.inl ⟨by rfl, ?_⟩) (by assumption) ?_; rotate_left; (focus ((intro wS hSw); (try dsimp only at hSw); obtain ⟨s0, s1, s2⟩ := hSw; go_simp; (try with_reducible rfl); done)); (try simp only [Act.put, List.setIfInBounds_toArray, List.set_cons_zero, List.set_cons_succ]))
  (refine takeH (i := 2) (v := ?_) rfl (by kernel_rfl) (by kernel_rfl) (by kernel_rfl) (fun _ _ _ h => h) (Or.inl ⟨by rfl, ?_⟩) (by assumption) ?_; rotate_left; (focus ((intro wS hSw); (try dsimp only at hSw); obtain ⟨s0, s1, s2⟩ := hSw; go_simp; (try with_reducible rfl); done)); (try simp only [Act.put, List.setIfInBounds_toArray, List.set_cons_zero, List.set_cons_succ]))
  (refine takeH (i := 3) (v := ?_) rfl (by kernel_rfl) (by kernel_rfl) (by kernel_rfl) (fun _ _ _ h => h) (Or.inl ⟨by rfl, ?_⟩) (by assumption) ?_; rotate_left; (focus ((intro wS hSw); (try dsimp only at hSw); obtain ⟨s0, s1, s2⟩ := hSw; go_simp; (try with_reducible rfl); done)); (try simp only [Act.put, List.setIfInBounds_toArray, List.set_cons_zero, List.set_cons_succ]))
  (refine takeH (i := 4) (v := ?_) rfl (by kernel_rfl) (by kernel_rfl) (by kernel_rfl) (fun _ _ _ h => h) (Or.inl ⟨by rfl, ?_⟩) (by assumption) ?_; rotate_left; (focus ((intro wS hSw); (try dsimp only at hSw); obtain ⟨s0, s1, s2⟩ := hSw; go_simp; (try with_reducible rfl); done)); (try simp only [Act.put, List.setIfInBounds_toArray, List.set_cons_zero, List.set_cons_succ]))
  (refine takeH (i := 5) (v := ?_) rfl (by kernel_rfl) (by kernel_rfl) (by kernel_rfl) (fun _ _ _ h => h) (Or.inl ⟨by rfl, ?_⟩) (by assumption) ?_; rotate_left; (focus ((intro wS hSw); (try dsimp only at hSw); obtain ⟨s0, s1, s2⟩ := hSw; go_simp; (try with_reducible rfl); done)); (try simp only [Act.put, List.setIfInBounds_toArray, List.set_cons_zero, List.set_cons_succ]))
  refine aloneH (i := 6) rfl (by kernel_rfl) (fun K hK => ?_)
  rw [if_pos (by rfl)]
  go_simp; ((refine (HJn.out w0 g (c1 - 1) (HRM.out.below (below_then HBv.out (below_same w0)))).mono ?_); (rintro e w21 ⟨B, cb, rfl, htb, hnb, hb⟩); have HTB := Lib.hid (And.intro htb hnb); have HB1 := Lib.hid hb; clear htb hnb hb; (try go_simp))
  refine hK.out _ _ (⟨cell_on HB1.out hHeld.1, cell_on HB1.out hHeld.2.1, cell_on HB1.out hHeld.2.2⟩) (fun hNew => ?_)
  clear hK K hHeld; (have hHeld := hNew); clear hNew; (try simp only [Act.put, List.setIfInBounds_toArray, List.set_cons_zero, List.set_cons_succ])
  (refine takeH (i := 7) (v := ?_) rfl (by kernel_rfl) (by kernel_rfl) (by kernel_rfl) (fun _ _ _ h => h) (Or.inl ⟨by rfl, ?_⟩) (by assumption) ?_; rotate_left; (focus ((intro wS hSw); (try dsimp only at hSw); obtain ⟨s0, s1, s2⟩ := hSw; go_simp; (try with_reducible rfl); done)); (try simp only [Act.put, List.setIfInBounds_toArray, List.set_cons_zero, List.set_cons_succ]))
  (refine takeH (i := 8) (v := ?_) rfl (by kernel_rfl) (by kernel_rfl) (by kernel_rfl) (fun _ _ _ h => h) (Or.inl ⟨by rfl, ?_⟩) (by assumption) ?_; rotate_left; (focus ((intro wS hSw); (try dsimp only at hSw); obtain ⟨s0, s1, s2⟩ := hSw; go_simp; (try with_reducible rfl); done)); (try simp only [Act.put, List.setIfInBounds_toArray, List.set_cons_zero, List.set_cons_succ]))
  (refine takeH (i := 9) (v := ?_) rfl (by kernel_rfl) (by kernel_rfl) (by kernel_rfl) (fun _ _ _ h => h) (Or.inl ⟨by rfl, ?_⟩) (by assumption) ?_; rotate_left; (focus ((intro wS hSw); (try dsimp only at hSw); obtain ⟨s0, s1, s2⟩ := hSw; go_simp; (try with_reducible rfl); done)); (try simp only [Act.put, List.setIfInBounds_toArray, List.set_cons_zero, List.set_cons_succ]))
  (refine takeH (i := 10) (v := ?_) rfl (by kernel_rfl) (by kernel_rfl) (by kernel_rfl) (fun _ _ _ h => h) (Or.inl ⟨by rfl, ?_⟩) (by assumption) ?_; rotate_left; (focus ((intro wS hSw); (try dsimp only at hSw); obtain ⟨s0, s1, s2⟩ := hSw; go_simp; (try with_reducible rfl); done)); (try simp only [Act.put, List.setIfInBounds_toArray, List.set_cons_zero, List.set_cons_succ]))
  (refine takeH (i := 11) (v := ?_) rfl (by kernel_rfl) (by kernel_rfl) (by kernel_rfl) (fun _ _ _ h => h) (Or.inl ⟨by rfl, ?_⟩) (by assumption) ?_; rotate_left; (focus ((intro wS hSw); (try dsimp only at hSw); obtain ⟨s0, s1, s2⟩ := hSw; go_simp; (try with_reducible rfl); done)); (try simp only [Act.put, List.setIfInBounds_toArray, List.set_cons_zero, List.set_cons_succ]))
  refine wpAnyH_done (by kernel_rfl) ?_ _
  clear hHeld
  have HBX : Hid (Below w2.heap.size w2 w21) := Lib.hid (below_then HBv.out HB1.out)
  have HHX : Hid (w21.heap[gh]? = some (headO s l.length u)) := Lib.hid (heap_on HB1.out HH4.out)
  clear HBv HH4 HB1 HJn HRM
  obtain ⟨y0, y1, y2⟩ := head_cells HHX.out
  go_wp2
  refine wp_region_held_drew (S := fun W => W.cell? ⟨gh, 0, none⟩ = some (.int .i64 s) ∧ W.cell? ⟨gh, 1, none⟩ = some (.int .i64 l.length) ∧ W.cell? ⟨gh, 2, none⟩ = some (.int .u32 u) ∧ W.cell? ⟨g, j, none⟩ = some (.slice (some ⟨b2, 0, none⟩) 64 c2) ∧ W.cell? ⟨g, 0, none⟩ = some (.slice (some ⟨b0, 0, none⟩) 64 c0) ∧ Txt W B l ∧ Txt W A l) (by kernel_rfl) ⟨y0, y1, y2, cell_on HBX.out.drew HR2.out.1, cell_on HBX.out.drew HR0.out.2.2, HTB.out.1, HTA.out.1.below (HBP.out.trans (HBX.out.drew.mono HBP.out.size))⟩ ?_
  intro hHeld
  have HBZ := Lib.hid HBX.out.drew
  have HEr := Lib.hid (range_on HBX.out.drew HR2.out.2)
  have HHr := Lib.hid (range_on HBX.out.drew HR0.out.2.1)
  clear y0 y1 y2 HBX HHX HR0 HR2
  generalize World.drew w21 = w9 at HBZ HEr HHr hHeld ⊢
  (refine takeH (i := 0) (v := ?_) rfl (by kernel_rfl) (by kernel_rfl) (by kernel_rfl) (fun _ _ _ h => h) (Or.inl ⟨by rfl, ?_⟩) (by assumption) ?_; rotate_left; (focus ((intro wS hSw); (try dsimp only at hSw); obtain ⟨s0, s1, s2, s3, s4, s5, s6⟩ := hSw; go_simp; (try with_reducible rfl); done)); (try simp only [Act.put, List.setIfInBounds_toArray, List.set_cons_zero, List.set_cons_succ]))
  (refine takeH (i := 1) (v := ?_) rfl (by kernel_rfl) (by kernel_rfl) (by kernel_rfl) (fun _ _ _ h => h) (Or.inl ⟨by rfl, ?_⟩) (by assumption) ?_; rotate_left; (focus ((intro wS hSw); (try dsimp only at hSw); obtain ⟨s0, s1, s2, s3, s4, s5, s6⟩ := hSw; go_simp; (try with_reducible rfl); done)); (try simp only [Act.put, List.setIfInBounds_toArray, List.set_cons_zero, List.set_cons_succ]))
  (refine takeH (i := 2) (v := ?_) rfl (by kernel_rfl) (by kernel_rfl) (by kernel_rfl) (fun _ _ _ h => h) (Or.inl ⟨by rfl, ?_⟩) (by assumption) ?_; rotate_left; (focus ((intro wS hSw); (try dsimp only at hSw); obtain ⟨s0, s1, s2, s3, s4, s5, s6⟩ := hSw; go_simp; (try with_reducible rfl); done)); (try simp only [Act.put, List.setIfInBounds_toArray, List.set_cons_zero, List.set_cons_succ]))
  (refine takeH (i := 3) (v := ?_) rfl (by kernel_rfl) (by kernel_rfl) (by kernel_rfl) (fun _ _ _ h => h) (Or.inl ⟨by rfl, ?_⟩) (by assumption) ?_; rotate_left; (focus ((intro wS hSw); (try dsimp only at hSw); obtain ⟨s0, s1, s2, s3, s4, s5, s6⟩ := hSw; go_simp; (try with_reducible rfl); done)); (try simp only [Act.put, List.setIfInBounds_toArray, List.set_cons_zero, List.set_cons_succ]))
  (refine takeH (i := 4) (v := ?_) rfl (by kernel_rfl) (by kernel_rfl) (by kernel_rfl) (fun _ _ _ h => h) (Or.inl ⟨by rfl, ?_⟩) (by assumption) ?_; rotate_left; (focus ((intro wS hSw); (try dsimp only at hSw); obtain ⟨s0, s1, s2, s3, s4, s5, s6⟩ := hSw; go_simp; (try with_reducible rfl); done)); (try simp only [Act.put, List.setIfInBounds_toArray, List.set_cons_zero, List.set_cons_succ]))
  (refine takeH (i := 5) (v := ?_) rfl (by kernel_rfl) (by kernel_rfl) (by kernel_rfl) (fun _ _ _ h => h) (Or.inl ⟨by rfl, ?_⟩) (by assumption) ?_; rotate_left; (focus ((intro wS hSw); (try dsimp only at hSw); obtain ⟨s0, s1, s2, s3, s4, s5, s6⟩ := hSw; go_simp; (try with_reducible rfl); done)); (try simp only [Act.put, List.setIfInBounds_toArray, List.set_cons_zero, List.set_cons_succ]))
  (refine takeH (i := 6) (v := ?_) rfl (by kernel_rfl) (by kernel_rfl) (by kernel_rfl) (fun _ _ _ h => h) (Or.inl ⟨by rfl, ?_⟩) (by assumption) ?_; rotate_left; (focus ((intro wS hSw); (try dsimp only at hSw); obtain ⟨s0, s1, s2, s3, s4, s5, s6⟩ := hSw; go_simp; (try with_reducible rfl); done)); (try simp only [Act.put, List.setIfInBounds_toArray, List.set_cons_zero, List.set_cons_succ]))
  (refine takeH (i := 7) (v := ?_) rfl (by kernel_rfl) (by kernel_rfl) (by kernel_rfl) (fun _ _ _ h => h) (Or.inl ⟨by rfl, ?_⟩) (by assumption) ?_; rotate_left; (focus ((intro wS hSw); (try dsimp only at hSw); obtain ⟨s0, s1, s2, s3, s4, s5, s6⟩ := hSw; go_simp; (try with_reducible rfl); done)); (try simp only [Act.put, List.setIfInBounds_toArray, List.set_cons_zero, List.set_cons_succ]))
  (refine takeH (i := 8) (v := ?_) rfl (by kernel_rfl) (by kernel_rfl) (by kernel_rfl) (fun _ _ _ h => h) (Or.inl ⟨by rfl, ?_⟩) (by assumption) ?_; rotate_left; (focus ((intro wS hSw); (try dsimp only at hSw); obtain ⟨s0, s1, s2, s3, s4, s5, s6⟩ := hSw; go_simp; (try with_reducible rfl); done)); (try simp only [Act.put, List.setIfInBounds_toArray, List.set_cons_zero, List.set_cons_succ]))
  (refine takeH (i := 9) (v := ?_) rfl (by kernel_rfl) (by kernel_rfl) (by kernel_rfl) (fun _ _ _ h => h) (Or.inl ⟨by rfl, ?_⟩) (by assumption) ?_; rotate_left; (focus ((intro wS hSw); (try dsimp only at hSw); obtain ⟨s0, s1, s2, s3, s4, s5, s6⟩ := hSw; go_simp; (try with_reducible rfl); done)); (try simp only [Act.put, List.setIfInBounds_toArray, List.set_cons_zero, List.set_cons_succ]))
  (refine takeH (i := 10) (v := ?_) rfl (by kernel_rfl) (by kernel_rfl) (by kernel_rfl) (fun _ _ _ h => h) (Or.inl ⟨by rfl, ?_⟩) (by assumption) ?_; rotate_left; (focus ((intro wS hSw); (try dsimp only at hSw); obtain ⟨s0, s1, s2, s3, s4, s5, s6⟩ := hSw; go_simp; (try with_reducible rfl); done)); (try simp only [Act.put, List.setIfInBounds_toArray, List.set_cons_zero, List.set_cons_succ]))
  (refine takeH (i := 11) (v := ?_) rfl (by kernel_rfl) (by kernel_rfl) (by kernel_rfl) (fun _ _ _ h => h) (Or.inl ⟨by rfl, ?_⟩) (by assumption) ?_; rotate_left; (focus ((intro wS hSw); (try dsimp only at hSw); obtain ⟨s0, s1, s2, s3, s4, s5, s6⟩ := hSw; go_simp; (try with_reducible rfl); done)); (try simp only [Act.put, List.setIfInBounds_toArray, List.set_cons_zero, List.set_cons_succ]))
  (refine takeH (i := 12) (v := ?_) rfl (by kernel_rfl) (by kernel_rfl) (by kernel_rfl) (fun _ _ _ h => h) (Or.inl ⟨by rfl, ?_⟩) (by assumption) ?_; rotate_left; (focus ((intro wS hSw); (try dsimp only at hSw); obtain ⟨s0, s1, s2, s3, s4, s5, s6⟩ := hSw; go_simp; (try with_reducible rfl); done)); (try simp only [Act.put, List.setIfInBounds_toArray, List.set_cons_zero, List.set_cons_succ]))
  (refine takeH (i := 13) (v := ?_) rfl (by kernel_rfl) (by kernel_rfl) (by kernel_rfl) (fun _ _ _ h => h) (Or.inl ⟨by rfl, ?_⟩) (by assumption) ?_; rotate_left; (focus ((intro wS hSw); (try dsimp only at hSw); obtain ⟨s0, s1, s2, s3, s4, s5, s6⟩ := hSw; go_simp; (try with_reducible rfl); done)); (try simp only [Act.put, List.setIfInBounds_toArray, List.set_cons_zero, List.set_cons_succ]))
  (refine takeH (i := 14) (v := ?_) rfl (by kernel_rfl) (by kernel_rfl) (by kernel_rfl) (fun _ _ _ h => h) (Or.inl ⟨by rfl, ?_⟩) (by assumption) ?_; rotate_left; (focus ((intro wS hSw); (try dsimp only at hSw); obtain ⟨s0, s1, s2, s3, s4, s5, s6⟩ := hSw; go_simp; (try with_reducible rfl); done)); (try simp only [Act.put, List.setIfInBounds_toArray, List.set_cons_zero, List.set_cons_succ]))
  (refine takeH (i := 15) (v := ?_) rfl (by kernel_rfl) (by kernel_rfl) (by kernel_rfl) (fun _ _ _ h => h) (Or.inl ⟨by rfl, ?_⟩) (by assumption) ?_; rotate_left; (focus ((intro wS hSw); (try dsimp only at hSw); obtain ⟨s0, s1, s2, s3, s4, s5, s6⟩ := hSw; go_simp; (try with_reducible rfl); done)); (try simp only [Act.put, List.setIfInBounds_toArray, List.set_cons_zero, List.set_cons_succ]))
  (refine takeH (i := 16) (v := ?_) rfl (by kernel_rfl) (by kernel_rfl) (by kernel_rfl) (fun _ _ _ h => h) (Or.inl ⟨by rfl, ?_⟩) (by assumption) ?_; rotate_left; (focus ((intro wS hSw); (try dsimp only at hSw); obtain ⟨s0, s1, s2, s3, s4, s5, s6⟩ := hSw; go_simp; (try with_reducible rfl); done)); (try simp only [Act.put, List.setIfInBounds_toArray, List.set_cons_zero, List.set_cons_succ]))
  (refine takeH (i := 17) (v := ?_) rfl (by kernel_rfl) (by kernel_rfl) (by kernel_rfl) (fun _ _ _ h => h) (Or.inl ⟨by rfl, ?_⟩) (by assumption) ?_; rotate_left; (focus ((intro wS hSw); (try dsimp only at hSw); obtain ⟨s0, s1, s2, s3, s4, s5, s6⟩ := hSw; go_simp; (try with_reducible rfl); done)); (try simp only [Act.put, List.setIfInBounds_toArray, List.set_cons_zero, List.set_cons_succ]))
  (refine takeH (i := 18) (v := ?_) rfl (by kernel_rfl) (by kernel_rfl) (by kernel_rfl) (fun _ _ _ h => h) (Or.inl ⟨by rfl, ?_⟩) (by assumption) ?_; rotate_left; (focus ((intro wS hSw); (try dsimp only at hSw); obtain ⟨s0, s1, s2, s3, s4, s5, s6⟩ := hSw; go_simp; (try with_reducible rfl); done)); (try simp only [Act.put, List.setIfInBounds_toArray, List.set_cons_zero, List.set_cons_succ]))
  (refine takeH (i := 19) (v := (.string ⟨l.toArray⟩)) rfl (by kernel_rfl) (by kernel_rfl) (by kernel_rfl) (fun _ _ _ h => h) (yieldsIf_text (by rfl) (.tmp 67) rfl B cb l.length l rfl rfl (fun _ h => h.2.2.2.2.2.1) HTB.out.2) (by assumption) ?_; (try simp only [Act.put, List.setIfInBounds_toArray, List.set_cons_zero, List.set_cons_succ]))
  (refine takeH (i := 20) (v := ?_) rfl (by kernel_rfl) (by kernel_rfl) (by kernel_rfl) (fun _ _ _ h => h) (Or.inl ⟨by rfl, ?_⟩) (by assumption) ?_; rotate_left; (focus ((intro wS hSw); (try dsimp only at hSw); obtain ⟨s0, s1, s2, s3, s4, s5, s6⟩ := hSw; go_simp; (try with_reducible rfl); done)); (try simp only [Act.put, List.setIfInBounds_toArray, List.set_cons_zero, List.set_cons_succ]))
  (refine takeH (i := 21) (v := (.string ⟨l.toArray⟩)) rfl (by kernel_rfl) (by kernel_rfl) (by kernel_rfl) (fun _ _ _ h => h) (yieldsIf_text (by rfl) (.tmp 69) rfl A c l.length l rfl rfl (fun _ h => h.2.2.2.2.2.2) HTA.out.2) (by assumption) ?_; (try simp only [Act.put, List.setIfInBounds_toArray, List.set_cons_zero, List.set_cons_succ]))
  (refine takeH (i := 22) (v := ?_) rfl (by kernel_rfl) (by kernel_rfl) (by kernel_rfl) (fun _ _ _ h => h) (Or.inl ⟨by rfl, ?_⟩) (by assumption) ?_; rotate_left; (focus ((intro wS hSw); (try dsimp only at hSw); obtain ⟨s0, s1, s2, s3, s4, s5, s6⟩ := hSw; go_simp; (try with_reducible rfl); done)); (try simp only [Act.put, List.setIfInBounds_toArray, List.set_cons_zero, List.set_cons_succ]))
  (refine takeH (i := 23) (v := ?_) rfl (by kernel_rfl) (by kernel_rfl) (by kernel_rfl) (fun _ _ _ h => h) (Or.inl ⟨by rfl, ?_⟩) (by assumption) ?_; rotate_left; (focus ((intro wS hSw); (try dsimp only at hSw); obtain ⟨s0, s1, s2, s3, s4, s5, s6⟩ := hSw; go_simp; (try with_reducible rfl); done)); (try simp only [Act.put, List.setIfInBounds_toArray, List.set_cons_zero, List.set_cons_succ]))
  (refine takeH (i := 24) (v := ?_) rfl (by kernel_rfl) (by kernel_rfl) (by kernel_rfl) (fun _ _ _ h => h) (Or.inl ⟨by rfl, ?_⟩) (by assumption) ?_; rotate_left; (focus ((intro wS hSw); (try dsimp only at hSw); obtain ⟨s0, s1, s2, s3, s4, s5, s6⟩ := hSw; go_simp; (try with_reducible rfl); done)); (try simp only [Act.put, List.setIfInBounds_toArray, List.set_cons_zero, List.set_cons_succ]))
  (refine takeH (i := 25) (v := ?_) rfl (by kernel_rfl) (by kernel_rfl) (by kernel_rfl) (fun _ _ _ h => h) (Or.inl ⟨by rfl, ?_⟩) (by assumption) ?_; rotate_left; (focus ((intro wS hSw); (try dsimp only at hSw); obtain ⟨s0, s1, s2, s3, s4, s5, s6⟩ := hSw; go_simp; (try with_reducible rfl); done)); (try simp only [Act.put, List.setIfInBounds_toArray, List.set_cons_zero, List.set_cons_succ]))
  (refine takeH (i := 26) (v := ?_) rfl (by kernel_rfl) (by kernel_rfl) (by kernel_rfl) (fun _ _ _ h => h) (Or.inl ⟨by rfl, ?_⟩) (by assumption) ?_; rotate_left; (focus ((intro wS hSw); (try dsimp only at hSw); obtain ⟨s0, s1, s2, s3, s4, s5, s6⟩ := hSw; go_simp; (try with_reducible rfl); done)); (try simp only [Act.put, List.setIfInBounds_toArray, List.set_cons_zero, List.set_cons_succ]))
  (refine takeH (i := 27) (v := ?_) rfl (by kernel_rfl) (by kernel_rfl) (by kernel_rfl) (fun _ _ _ h => h) (Or.inl ⟨by rfl, ?_⟩) (by assumption) ?_; rotate_left; (focus ((intro wS hSw); (try dsimp only at hSw); obtain ⟨s0, s1, s2, s3, s4, s5, s6⟩ := hSw; go_simp; (try with_reducible rfl); done)); (try simp only [Act.put, List.setIfInBounds_toArray, List.set_cons_zero, List.set_cons_succ]))
  (refine takeH (i := 28) (v := ?_) rfl (by kernel_rfl) (by kernel_rfl) (by kernel_rfl) (fun _ _ _ h => h) (Or.inl ⟨by rfl, ?_⟩) (by assumption) ?_; rotate_left; (focus ((intro wS hSw); (try dsimp only at hSw); obtain ⟨s0, s1, s2, s3, s4, s5, s6⟩ := hSw; go_simp; (try with_reducible rfl); done)); (try simp only [Act.put, List.setIfInBounds_toArray, List.set_cons_zero, List.set_cons_succ]))
  (refine takeH (i := 29) (v := ?_) rfl (by kernel_rfl) (by kernel_rfl) (by kernel_rfl) (fun _ _ _ h => h) (Or.inl ⟨by rfl, ?_⟩) (by assumption) ?_; rotate_left; (focus ((intro wS hSw); (try dsimp only at hSw); obtain ⟨s0, s1, s2, s3, s4, s5, s6⟩ := hSw; go_simp; (try with_reducible rfl); done)); (try simp only [Act.put, List.setIfInBounds_toArray, List.set_cons_zero, List.set_cons_succ]))
  (refine takeH (i := 30) (v := ?_) rfl (by kernel_rfl) (by kernel_rfl) (by kernel_rfl) (fun _ _ _ h => h) (Or.inl ⟨by rfl, ?_⟩) (by assumption) ?_; rotate_left; (focus ((intro wS hSw); (try dsimp only at hSw); obtain ⟨s0, s1, s2, s3, s4, s5, s6⟩ := hSw; go_simp; (try with_reducible rfl); done)); (try simp only [Act.put, List.setIfInBounds_toArray, List.set_cons_zero, List.set_cons_succ]))
  (refine takeH (i := 31) (v := ?_) rfl (by kernel_rfl) (by kernel_rfl) (by kernel_rfl) (fun _ _ _ h => h) (Or.inl ⟨by rfl, ?_⟩) (by assumption) ?_; rotate_left; (focus ((intro wS hSw); (try dsimp only at hSw); obtain ⟨s0, s1, s2, s3, s4, s5, s6⟩ := hSw; go_simp; (try with_reducible rfl); done)); (try simp only [Act.put, List.setIfInBounds_toArray, List.set_cons_zero, List.set_cons_succ]))
  refine aloneH (i := 32) rfl (by kernel_rfl) (fun K hK => ?_)
  rw [if_pos (by rfl)]
  go_simp; ((refine (HEn.out w9 b2 c2 (range_on (below_same w9) HEr.out)).mono ?_); (rintro e w1 ⟨rfl, hb⟩); have HB1 := Lib.hid hb; clear hb; (try go_simp))
  refine hK.out _ _ (⟨cell_on HB1.out hHeld.1, cell_on HB1.out hHeld.2.1, cell_on HB1.out hHeld.2.2.1, cell_on HB1.out hHeld.2.2.2.1, cell_on HB1.out hHeld.2.2.2.2.1, (hHeld.2.2.2.2.2.1).below HB1.out, (hHeld.2.2.2.2.2.2).below HB1.out⟩) (fun hNew => ?_)
  clear hK K hHeld; (have hHeld := hNew); clear hNew; (try simp only [Act.put, List.setIfInBounds_toArray, List.set_cons_zero, List.set_cons_succ])
  (refine takeH (i := 33) (v := ?_) rfl (by kernel_rfl) (by kernel_rfl) (by kernel_rfl) (fun _ _ _ h => h) (Or.inl ⟨by rfl, ?_⟩) (by assumption) ?_; rotate_left; (focus ((intro wS hSw); (try dsimp only at hSw); obtain ⟨s0, s1, s2, s3, s4, s5, s6⟩ := hSw; go_simp; (try with_reducible rfl); done)); (try simp only [Act.put, List.setIfInBounds_toArray, List.set_cons_zero, List.set_cons_succ]))
  (refine takeH (i := 34) (v := ?_) rfl (by kernel_rfl) (by kernel_rfl) (by kernel_rfl) (fun _ _ _ h => h) (Or.inl ⟨by rfl, ?_⟩) (by assumption) ?_; rotate_left; (focus ((intro wS hSw); (try dsimp only at hSw); obtain ⟨s0, s1, s2, s3, s4, s5, s6⟩ := hSw; go_simp; (try with_reducible rfl); done)); (try simp only [Act.put, List.setIfInBounds_toArray, List.set_cons_zero, List.set_cons_succ]))
  (refine takeH (i := 35) (v := ?_) rfl (by kernel_rfl) (by kernel_rfl) (by kernel_rfl) (fun _ _ _ h => h) (Or.inl ⟨by rfl, ?_⟩) (by assumption) ?_; rotate_left; (focus ((intro wS hSw); (try dsimp only at hSw); obtain ⟨s0, s1, s2, s3, s4, s5, s6⟩ := hSw; go_simp; (try with_reducible rfl); done)); (try simp only [Act.put, List.setIfInBounds_toArray, List.set_cons_zero, List.set_cons_succ]))
  (refine takeH (i := 36) (v := ?_) rfl (by kernel_rfl) (by kernel_rfl) (by kernel_rfl) (fun _ _ _ h => h) (Or.inl ⟨by rfl, ?_⟩) (by assumption) ?_; rotate_left; (focus ((intro wS hSw); (try dsimp only at hSw); obtain ⟨s0, s1, s2, s3, s4, s5, s6⟩ := hSw; go_simp; (try with_reducible rfl); done)); (try simp only [Act.put, List.setIfInBounds_toArray, List.set_cons_zero, List.set_cons_succ]))
  (refine takeH (i := 37) (v := ?_) rfl (by kernel_rfl) (by kernel_rfl) (by kernel_rfl) (fun _ _ _ h => h) (Or.inl ⟨by rfl, ?_⟩) (by assumption) ?_; rotate_left; (focus ((intro wS hSw); (try dsimp only at hSw); obtain ⟨s0, s1, s2, s3, s4, s5, s6⟩ := hSw; go_simp; (try with_reducible rfl); done)); (try simp only [Act.put, List.setIfInBounds_toArray, List.set_cons_zero, List.set_cons_succ]))
  refine aloneH (i := 38) rfl (by kernel_rfl) (fun K hK => ?_)
  rw [if_pos (by rfl)]
  go_simp; ((refine (HBl.out w1 b0 c0 (range_on HB1.out HHr.out)).mono ?_); (rintro e w2 ⟨rfl, rfl⟩); (try go_simp))
  have HB2 : Hid (Below w1.heap.size w1 w1) := Lib.hid (Below.refl _ _)
  refine hK.out _ _ (hHeld) (fun hNew => ?_)
  clear hK K hHeld; (have hHeld := hNew); clear hNew; (try simp only [Act.put, List.setIfInBounds_toArray, List.set_cons_zero, List.set_cons_succ])
  (refine takeH (i := 39) (v := ?_) rfl (by kernel_rfl) (by kernel_rfl) (by kernel_rfl) (fun _ _ _ h => h) (Or.inl ⟨by rfl, ?_⟩) (by assumption) ?_; rotate_left; (focus ((intro wS hSw); (try dsimp only at hSw); obtain ⟨s0, s1, s2, s3, s4, s5, s6⟩ := hSw; go_simp; (try with_reducible rfl); done)); (try simp only [Act.put, List.setIfInBounds_toArray, List.set_cons_zero, List.set_cons_succ]))
  (refine takeH (i := 40) (v := ?_) rfl (by kernel_rfl) (by kernel_rfl) (by kernel_rfl) (fun _ _ _ h => h) (Or.inl ⟨by rfl, ?_⟩) (by assumption) ?_; rotate_left; (focus ((intro wS hSw); (try dsimp only at hSw); obtain ⟨s0, s1, s2, s3, s4, s5, s6⟩ := hSw; go_simp; (try with_reducible rfl); done)); (try simp only [Act.put, List.setIfInBounds_toArray, List.set_cons_zero, List.set_cons_succ]))
  (refine takeH (i := 41) (v := ?_) rfl (by kernel_rfl) (by kernel_rfl) (by kernel_rfl) (fun _ _ _ h => h) (Or.inl ⟨by rfl, ?_⟩) (by assumption) ?_; rotate_left; (focus ((intro wS hSw); (try dsimp only at hSw); obtain ⟨s0, s1, s2, s3, s4, s5, s6⟩ := hSw; go_simp; (try with_reducible rfl); done)); (try simp only [Act.put, List.setIfInBounds_toArray, List.set_cons_zero, List.set_cons_succ]))
  refine aloneH (i := 42) rfl (by kernel_rfl) (fun K hK => ?_)
  rw [if_pos (by rfl)]
  go_simp; ((refine (tape_lives w1).mono ?_); (rintro e w3 ⟨rfl, hb⟩); have HB3 := Lib.hid hb; clear hb; (try go_simp))
  refine hK.out _ _ (⟨cell_on HB3.out hHeld.1, cell_on HB3.out hHeld.2.1, cell_on HB3.out hHeld.2.2.1, cell_on HB3.out hHeld.2.2.2.1, cell_on HB3.out hHeld.2.2.2.2.1, (hHeld.2.2.2.2.2.1).below HB3.out, (hHeld.2.2.2.2.2.2).below HB3.out⟩) (fun hNew => ?_)
  clear hK K hHeld; (have hHeld := hNew); clear hNew; (try simp only [Act.put, List.setIfInBounds_toArray, List.set_cons_zero, List.set_cons_succ])
  (refine takeH (i := 43) (v := ?_) rfl (by kernel_rfl) (by kernel_rfl) (by kernel_rfl) (fun _ _ _ h => h) (Or.inl ⟨by rfl, ?_⟩) (by assumption) ?_; rotate_left; (focus ((intro wS hSw); (try dsimp only at hSw); obtain ⟨s0, s1, s2, s3, s4, s5, s6⟩ := hSw; go_simp; (try with_reducible rfl); done)); (try simp only [Act.put, List.setIfInBounds_toArray, List.set_cons_zero, List.set_cons_succ]))
  (refine takeH (i := 44) (v := ?_) rfl (by kernel_rfl) (by kernel_rfl) (by kernel_rfl) (fun _ _ _ h => h) (Or.inl ⟨by rfl, ?_⟩) (by assumption) ?_; rotate_left; (focus ((intro wS hSw); (try dsimp only at hSw); obtain ⟨s0, s1, s2, s3, s4, s5, s6⟩ := hSw; go_simp; (try with_reducible rfl); done)); (try simp only [Act.put, List.setIfInBounds_toArray, List.set_cons_zero, List.set_cons_succ]))
  refine wpAnyH_done (by kernel_rfl) ?_ _
  go_wp2
  go_ret
  exact ⟨rfl, HBP.out.trans ((below_then HBZ.out (below_then (below_then HB1.out HB2.out) HB3.out)).mono HBP.out.size)⟩
theorem tapeBack_any (s : Int) (l : Text) (A : Option Addr) (c : Nat) (w : World) (hl : l.length ≤ c) (hT : Txt w A l) (hA : A = none → l = []) :
    Calls Try.prog 5 #[.int .i64 s, .slice A l.length c] w fun e w' => e = .returned (.bool true) ∧ Below w.heap.size w w' := by
  by_cases h1 : 5000 < l.length
  · exact back_lives s l A c w h1
  · rcases Bool.eq_false_or_eq_true (headOk s l.length) with hh | hh
    · have hx : seqOk s = true ∧ 0 < needV l.length := by unfold headOk at hh; simpa using hh
      obtain ⟨s1, s2⟩ := (seqOk_iff s).1 hx.1
      have hn : 1 ≤ l.length := by
        have := hx.2
        unfold needV at this
        by_cases hc2 : (l.length : Int) < 1 ∨ 131072 < (l.length : Int)
        · rw [if_pos hc2] at this; omega
        · omega
      obtain ⟨S, rfl⟩ : ∃ S : Nat, s = S := ⟨s.toNat, by omega⟩
      exact back_yes S l A c w (by omega) (by omega) hn (by omega) hl hT hA
    · exact back_none s l A c w (by omega) hh
end Go.Proofs.Ythgpdfdijcabeaa
