/- Where a day's things count is open: walked. -/
import Derived.Test.YtdacpiegfobhbaaPdM
namespace Go.Proofs.Ytdacpiegfobhbaa
open Go.RowKit
set_option maxRecDepth 100000
set_option linter.unusedSimpArgs false
set_option linter.unusedVariables false

/-- what the rounds keep: the clock, and all that was there before the call -/
def RtI (w : World) (P : Nat) (k : Int) (W : World) : Prop := ∃ c : Ck, CkAt W P c ∧ c.Ok ∧ c.k = k ∧ Below w.heap.size w W
set_option maxHeartbeats 4000000 in
theorem routes_walk (w : World) (k n when_ : Int) (A : Option Addr) (L : List StepV) (cp : Nat) (hr : RowStepV w A L) (hl : L.length ≤ 60) (hk : Civ.isKind k) (h1 : 0 ≤ n) (h2 : n ≤ 2932896) :
    Calls Try.prog 5 #[.int .i64 k, .int .i64 n, .slice A L.length cp, .int .i64 when_] w fun e w' => e = .returned (.bool true) ∧ Below w.heap.size w w' := by
  obtain ⟨F, f0, f1, _, ho, _⟩ := of_both n k hk h1 h2
  have HN := Lib.hid (fun w => new_ok k n F w hk f0 f1 ho)
  have HO := Lib.hid (Ck.new_ok hk f0 f1)
  have HR := Lib.hid hr
  have HLv := Lib.hid lives27_any
  have hl' : ¬ (60 : Int) < (L.length : Int) := by omega
  have HL := Lib.hid hl
  clear hr hk h1 h2 f0 f1 ho hl
  go_enter Try.func5, Try.ntmps5
  go_wp2_with (go_at_call 8; refine (HN.out _).mono ?_; rintro e w1 ⟨P, rfl, hP, hc, hb⟩; have HC1 := Lib.hid hc; have HB1 := Lib.hid hb; have HP := Lib.hid hP; clear hP hc hb; refine Stop.out ?_)
  unfold Stop
  clear hl'
  go_wp2_with fail
  go_loopw [27] (fun i wr => ∃ j : Nat, j ≤ L.length ∧ i = .int .i64 (j : Nat) ∧ Hid (RtI w P k wr)) (fun i _ => roundsLeft L.length i)
  case atStart => exact ⟨0, Nat.zero_le _, rfl, Lib.hid ⟨_, HC1.out, HO.out, rfl, HB1.out⟩⟩
  case round =>
    clear HC1 HB1 HO HN
    obtain ⟨j, hj, rfl, HI⟩ := hrel
    obtain ⟨c, hc, ok, hk, hb⟩ := HI.out
    by_cases hlt : j < L.length
    · have hlt' : (j : Int) < (L.length : Int) := by omega
      have hw : wrap64 ((j : Int) + 1) = (j : Int) + 1 := wrapI _ (by omega) (by have := HL.out; omega)
      obtain ⟨b, o, rfl, hbl, y0, y1, y2, y3⟩ := (HR.out.on hb).at_ j hlt
      generalize hs0 : L[j].1 = s0 at y0
      generalize L[j].2.1 = pk at y1
      generalize L[j].2.2.1 = py at y2
      generalize L[j].2.2.2 = pi at y3
      have HC0 := Lib.hid hc
      have HOk := Lib.hid ok
      have HBr := Lib.hid hb
      have HPr := Lib.hid (heapLt hc)
      have HKk := Lib.hid hk
      have HX0 := Lib.hid (heap_alloc_new wr (.cells #[.int .i64 s0, .int .i64 pk, .int .i64 py, .int .i64 pi] 26))
      have HPg : Hid (wr.heap.size ≠ P) := Lib.hid (Nat.ne_of_gt (heapLt hc))
      clear hs0 HI hc ok hb hk hbl
      by_cases h2 : s0 = 2
      · subst h2
        go_wp2_with (go_at_call 21; refine (code_first_ _ P c (HC0.out.on (below_alloc _ _)) HOk.out).mono ?_; rintro e w2 ⟨rfl, hb2⟩; have HC2 := Lib.hid ((HC0.out.on (below_alloc _ _)).on hb2); have HX2 := Lib.hid (heap_on hb2 HX0.out); have HB2 := Lib.hid (below_any HBr.out (Nat.le_refl _) (below_then (below_alloc _ _) hb2)); have hz2 : wr.heap.size < w2.heap.size := (by have := hb2.size; simp at this; omega); clear hb2; refine Stop.out ?_)
        unfold Stop
        obtain ⟨x0, x1, x2, x3⟩ := cells4_row HX2.out
        obtain ⟨z1, z2, z3⟩ := frozen4_row HX2.out
        clear y0 y1 y2 y3
        generalize hpk : Civ.perK c.k c.A = qk at *
        generalize hpy : Civ.perY c.k c.A = qy at *
        generalize hpi : Civ.perI c.k c.A = qi at *
        clear hpk hpy hpi
        have HX3 := Lib.hid (row_put1 (.int .i64 qk) (.int .i64 qy) (.int .i64 qi) HX2.out)
        have HC3 := Lib.hid (((chg_put1 w2 wr.heap.size (.int .i64 qk) (.int .i64 qy) (.int .i64 qi)).block P (heapLt HC2.out) HPg.out.symm).trans HC2.out)
        have HB3 := Lib.hid (HB2.out.trans ((chg_put1 w2 wr.heap.size (.int .i64 qk) (.int .i64 qy) (.int .i64 qi)).below (base := w.heap.size) HB2.out.size HBr.out.size))
        go_wp2_with (go_at_call 12; refine (code_close _ P c qk qy qi HC3.out HOk.out).mono ?_; rintro e w4 hs; have HX4 := Lib.hid (hs.on HX3.out HPg.out); have HC4 := Lib.hid hs.2.1; have HB4 := Lib.hid (HB3.out.trans (hs.2.2.below (base := w.heap.size) HB3.out.size HP.out)); obtain rfl := hs.1; clear hs; refine Stop.out ?_)
        unfold Stop
        clear x0 x1 x2 x3 z1 z2 z3
        obtain ⟨x0, x1, x2, x3⟩ := cells4_row HX4.out
        have HO4 := Lib.hid (Ck.cl_ok HOk.out qk qy qi)
        go_wp2_with (go_at_call 14; refine (code_file _ P _ qk qy qi HC4.out HO4.out.1).mono ?_; rintro e w5 hs; have HC5 := Lib.hid hs.2.1; have HB5 := Lib.hid (HB4.out.trans (hs.2.2.below (base := w.heap.size) HB4.out.size HP.out)); obtain rfl := hs.1; clear hs)
        go_roundw
        case rel =>
          have h5 := Ck.fi_ok HO4.out.1 qk qy qi
          exact ⟨j + 1, by omega, by go_num, Lib.hid ⟨_, HC5.out, h5.1, h5.2.1.trans (HO4.out.2.1.trans HKk.out), HB5.out⟩⟩
        case measure => rw [hw]; exact roundsLeft_next _ _ hlt
      · have h2' : (s0 == 2) = false := by simp [h2]
        have HX3 := HX0
        go_wp2_with (go_at_call 12; refine (code_close _ P c pk py pi (HC0.out.on (below_alloc _ _)) HOk.out).mono ?_; rintro e w4 hs; have HX4 := Lib.hid (hs.on HX3.out HPg.out); have HC4 := Lib.hid hs.2.1; have HB4 := Lib.hid ((below_any HBr.out (Nat.le_refl _) (below_alloc _ _)).trans (hs.2.2.below (base := w.heap.size) (Nat.le_trans HBr.out.size (by simp)) HP.out)); obtain rfl := hs.1; clear hs; refine Stop.out ?_)
        unfold Stop
        clear y0 y1 y2 y3
        obtain ⟨x0, x1, x2, x3⟩ := cells4_row HX4.out
        have HO4 := Lib.hid (Ck.cl_ok HOk.out pk py pi)
        go_wp2_with (go_at_call 14; refine (code_file _ P _ pk py pi HC4.out HO4.out.1).mono ?_; rintro e w5 hs; have HC5 := Lib.hid hs.2.1; have HB5 := Lib.hid (HB4.out.trans (hs.2.2.below (base := w.heap.size) HB4.out.size HP.out)); obtain rfl := hs.1; clear hs)
        go_roundw
        case rel =>
          have h5 := Ck.fi_ok HO4.out.1 pk py pi
          exact ⟨j + 1, by omega, by go_num, Lib.hid ⟨_, HC5.out, h5.1, h5.2.1.trans (HO4.out.2.1.trans HKk.out), HB5.out⟩⟩
        case measure => rw [hw]; exact roundsLeft_next _ _ hlt
    · have hge : ¬ (j : Int) < (L.length : Int) := by omega
      have HC0 := Lib.hid hc
      have HOk := Lib.hid ok
      have HBr := Lib.hid hb
      obtain rfl := hk
      clear HI hc ok hb HR hj hlt
      by_cases hd : 0 ≤ when_ ∧ when_ ≤ 2932896
      · obtain ⟨pl, p0, p1, pw, po, _⟩ := of_both when_ c.k HOk.out.kind hd.1 hd.2
        have HRt := Lib.hid (code_route_in wr P c when_ pl HC0.out HOk.out p0 p1 po)
        clear po hd
        by_cases he : c.rtE pl = 0
        · have hF : ¬ pl < c.F := fun q => by unfold Ck.rtE at he; rw [if_pos q] at he; cases he
          obtain ⟨g1, g2, g3⟩ := Civ.per_good HOk.out.kind p0 p1
          have hst := per_st c HOk.out pl p0 p1
          rw [if_pos (show c.F ≤ pl by omega), g3] at hst
          have hba := HOk.out.ba
          have hfb := HOk.out.fb
          have hf0 := HOk.out.f0
          have HWi : Hid (∀ W, Calls Try.prog 26 #[.agg #[.int .i64 c.k, .int .i64 (Civ.perY c.k pl), .int .i64 (Civ.perI c.k pl)], .int .i64 when_] W fun e w' => e = .returned (.bool true) ∧ Below W.heap.size W w') := Lib.hid (fun W => by have := ref_within c.k (Civ.perY c.k pl) (Civ.perI c.k pl) when_ W; rw [pw] at this; exact this)
          by_cases hA : c.A ≤ pl
          · have e1 : c.rtP pl = perV c.k pl := by unfold Ck.rtP; rw [if_pos he, if_pos hA]
            have e2 : c.rtO pl = perV c.k pl := if_pos he
            rw [e1, e2, he] at HRt
            unfold perV at HRt
            rw [g3] at HRt
            rw [if_neg (by omega), if_neg (by omega)] at hst
            have HSp : Hid (∀ W, CkAt W P c → Calls Try.prog 19 #[.pointer (some ⟨P, 0, none⟩), .agg #[.int .i64 c.k, .int .i64 (Civ.perY c.k pl), .int .i64 (Civ.perI c.k pl)]] W fun e w' => e = .returned (.int .i64 1) ∧ Below W.heap.size W w') := Lib.hid (fun W hW => by have := code_state W P c c.k (Civ.perY c.k pl) (Civ.perI c.k pl) hW HOk.out; rw [hst] at this; exact this)
            have HCm : Hid (∀ W, Calls Try.prog 27 #[.agg #[.int .i64 c.k, .int .i64 (Civ.perY c.k pl), .int .i64 (Civ.perI c.k pl)], .agg #[.int .i64 c.k, .int .i64 (Civ.perY c.k pl), .int .i64 (Civ.perI c.k pl)]] W fun e w' => e = .returned (.int .i64 0) ∧ Below W.heap.size W w') := Lib.hid (fun W => by have := ref_cmp c.k (Civ.perY c.k pl) (Civ.perI c.k pl) c.k (Civ.perY c.k pl) (Civ.perI c.k pl) W; rw [Civ.cmp_self] at this; exact this)
            clear e1 e2 he hst hF g1 g2 g3 hA hba hfb hf0 p0 p1 pw
            generalize Civ.perY c.k pl = oy at *
            generalize Civ.perI c.k pl = oi at *
            go_wp2_with (go_at_call 17; refine HRt.out.mono ?_; rintro e wz ⟨rfl, hb2⟩; have HB2 := Lib.hid (below_any HBr.out (Nat.le_refl _) hb2); have HC2 := Lib.hid (HC0.out.on hb2); clear hb2; refine Stop.out ?_)
            unfold Stop
            have b1 := below_alloc (wz.alloc (.cells #[.int .i64 c.k, .int .i64 oy, .int .i64 oi] 24)) (.cells #[.int .i64 c.k, .int .i64 oy, .int .i64 oi] 24)
            have HBd := Lib.hid (below_any HB2.out (Nat.le_refl _) (below_then (below_alloc wz (.cells #[.int .i64 c.k, .int .i64 oy, .int .i64 oi] 24)) b1)).drew
            have HCd : Hid (CkAt (((wz.alloc (.cells #[.int .i64 c.k, .int .i64 oy, .int .i64 oi] 24)).alloc (.cells #[.int .i64 c.k, .int .i64 oy, .int .i64 oi] 24)).drew) P c) := Lib.hid ((HC2.out.on (below_alloc _ _)).on b1.drew)
            have r4 := heap_on b1 (heap_alloc_new wz (.cells #[.int .i64 c.k, .int .i64 oy, .int .i64 oi] 24))
            have r5 := heap_alloc_new2 wz (.cells #[.int .i64 c.k, .int .i64 oy, .int .i64 oi] 24) (.cells #[.int .i64 c.k, .int .i64 oy, .int .i64 oi] 24)
            have HS := Lib.hid (And.intro (cell_of_row _ _ 0 _ _ _ r4) (And.intro (cell_of_row _ _ 1 _ _ _ r4) (And.intro (cell_of_row _ _ 2 _ _ _ r4) (And.intro (cell_of_row _ _ 0 _ _ _ r5) (And.intro (cell_of_row _ _ 1 _ _ _ r5) (cell_of_row _ _ 2 _ _ _ r5))))))
            clear b1 r4 r5
            go_wp2_with fail
            refine wp_region_held_drew (S := fun W => W.cell? ⟨wz.heap.size, 0, none⟩ = some (.int .i64 c.k) ∧ W.cell? ⟨wz.heap.size, 1, none⟩ = some (.int .i64 oy) ∧ W.cell? ⟨wz.heap.size, 2, none⟩ = some (.int .i64 oi) ∧ W.cell? ⟨(wz.heap.size + 1), 0, none⟩ = some (.int .i64 c.k) ∧ W.cell? ⟨(wz.heap.size + 1), 1, none⟩ = some (.int .i64 oy) ∧ W.cell? ⟨(wz.heap.size + 1), 2, none⟩ = some (.int .i64 oi)) (by kernel_rfl) HS.out ?_
            intro hHeld
            clear HS
            generalize ((wz.alloc (.cells #[.int .i64 c.k, .int .i64 oy, .int .i64 oi] 24)).alloc (.cells #[.int .i64 c.k, .int .i64 oy, .int .i64 oi] 24)).drew = wd at HBd HCd hHeld ⊢
            (refine takeH (i := 0) (v := ?_) rfl (by kernel_rfl) (by kernel_rfl) (by kernel_rfl) (fun _ _ _ h => h) (Or.inl ⟨by rfl, ?_⟩) (by assumption) ?_; rotate_left; (focus ((intro wS hSw); (try dsimp only at hSw); obtain ⟨s0, s1, s2, s3, s4, s5⟩ := hSw; go_simp; (try with_reducible rfl); done)); (try simp only [Act.put, List.setIfInBounds_toArray, List.set_cons_zero, List.set_cons_succ]))
            (refine takeH (i := 1) (v := ?_) rfl (by kernel_rfl) (by kernel_rfl) (by kernel_rfl) (fun _ _ _ h => h) (Or.inl ⟨by rfl, ?_⟩) (by assumption) ?_; rotate_left; (focus ((intro wS hSw); (try dsimp only at hSw); obtain ⟨s0, s1, s2, s3, s4, s5⟩ := hSw; go_simp; (try with_reducible rfl); done)); (try simp only [Act.put, List.setIfInBounds_toArray, List.set_cons_zero, List.set_cons_succ]))
            refine aloneH (i := 2) rfl (by kernel_rfl) (fun K hK => ?_)
            rw [if_pos (by rfl)]
            go_simp; ((refine (HWi.out _).mono ?_); (rintro e w1 ⟨rfl, hb⟩); have HB1 := Lib.hid hb; clear hb; (try go_simp))
            refine hK.out _ _ (⟨cell_on HB1.out hHeld.1, cell_on HB1.out hHeld.2.1, cell_on HB1.out hHeld.2.2.1, cell_on HB1.out hHeld.2.2.2.1, cell_on HB1.out hHeld.2.2.2.2.1, cell_on HB1.out hHeld.2.2.2.2.2⟩) (fun hNew => ?_)
            clear hK K hHeld; (have hHeld := hNew); clear hNew; (try simp only [Act.put, List.setIfInBounds_toArray, List.set_cons_zero, List.set_cons_succ])
            (refine takeH (i := 3) (v := ?_) rfl (by kernel_rfl) (by kernel_rfl) (by kernel_rfl) (fun _ _ _ h => h) (Or.inl ⟨by rfl, ?_⟩) (by assumption) ?_; rotate_left; (focus ((intro wS hSw); (try dsimp only at hSw); obtain ⟨s0, s1, s2, s3, s4, s5⟩ := hSw; go_simp; (try with_reducible rfl); done)); (try simp only [Act.put, List.setIfInBounds_toArray, List.set_cons_zero, List.set_cons_succ]))
            (refine takeH (i := 4) (v := ?_) rfl (by kernel_rfl) (by kernel_rfl) (by kernel_rfl) (fun _ _ _ h => h) (Or.inl ⟨by rfl, ?_⟩) (by assumption) ?_; rotate_left; (focus ((intro wS hSw); (try dsimp only at hSw); obtain ⟨s0, s1, s2, s3, s4, s5⟩ := hSw; go_simp; (try with_reducible rfl); done)); (try simp only [Act.put, List.setIfInBounds_toArray, List.set_cons_zero, List.set_cons_succ]))
            (refine takeH (i := 5) (v := ?_) rfl (by kernel_rfl) (by kernel_rfl) (by kernel_rfl) (fun _ _ _ h => h) (Or.inl ⟨by rfl, ?_⟩) (by assumption) ?_; rotate_left; (focus ((intro wS hSw); (try dsimp only at hSw); obtain ⟨s0, s1, s2, s3, s4, s5⟩ := hSw; go_simp; (try with_reducible rfl); done)); (try simp only [Act.put, List.setIfInBounds_toArray, List.set_cons_zero, List.set_cons_succ]))
            refine aloneH (i := 6) rfl (by kernel_rfl) (fun K hK => ?_)
            rw [if_pos (by rfl)]
            go_simp; ((refine (HSp.out _ (HCd.out.on HB1.out)).mono ?_); (rintro e w2 ⟨rfl, hb⟩); have HB2 := Lib.hid hb; clear hb; (try go_simp))
            refine hK.out _ _ (⟨cell_on HB2.out hHeld.1, cell_on HB2.out hHeld.2.1, cell_on HB2.out hHeld.2.2.1, cell_on HB2.out hHeld.2.2.2.1, cell_on HB2.out hHeld.2.2.2.2.1, cell_on HB2.out hHeld.2.2.2.2.2⟩) (fun hNew => ?_)
            clear hK K hHeld; (have hHeld := hNew); clear hNew; (try simp only [Act.put, List.setIfInBounds_toArray, List.set_cons_zero, List.set_cons_succ])
            (refine takeH (i := 7) (v := ?_) rfl (by kernel_rfl) (by kernel_rfl) (by kernel_rfl) (fun _ _ _ h => h) (Or.inl ⟨by rfl, ?_⟩) (by assumption) ?_; rotate_left; (focus ((intro wS hSw); (try dsimp only at hSw); obtain ⟨s0, s1, s2, s3, s4, s5⟩ := hSw; go_simp; (try with_reducible rfl); done)); (try simp only [Act.put, List.setIfInBounds_toArray, List.set_cons_zero, List.set_cons_succ]))
            (refine takeH (i := 8) (v := ?_) rfl (by kernel_rfl) (by kernel_rfl) (by kernel_rfl) (fun _ _ _ h => h) (Or.inl ⟨by rfl, ?_⟩) (by assumption) ?_; rotate_left; (focus ((intro wS hSw); (try dsimp only at hSw); obtain ⟨s0, s1, s2, s3, s4, s5⟩ := hSw; go_simp; (try with_reducible rfl); done)); (try simp only [Act.put, List.setIfInBounds_toArray, List.set_cons_zero, List.set_cons_succ]))
            (refine takeH (i := 9) (v := ?_) rfl (by kernel_rfl) (by kernel_rfl) (by kernel_rfl) (fun _ _ _ h => h) (Or.inl ⟨by rfl, ?_⟩) (by assumption) ?_; rotate_left; (focus ((intro wS hSw); (try dsimp only at hSw); obtain ⟨s0, s1, s2, s3, s4, s5⟩ := hSw; go_simp; (try with_reducible rfl); done)); (try simp only [Act.put, List.setIfInBounds_toArray, List.set_cons_zero, List.set_cons_succ]))
            (refine takeH (i := 10) (v := ?_) rfl (by kernel_rfl) (by kernel_rfl) (by kernel_rfl) (fun _ _ _ h => h) (Or.inl ⟨by rfl, ?_⟩) (by assumption) ?_; rotate_left; (focus ((intro wS hSw); (try dsimp only at hSw); obtain ⟨s0, s1, s2, s3, s4, s5⟩ := hSw; go_simp; (try with_reducible rfl); done)); (try simp only [Act.put, List.setIfInBounds_toArray, List.set_cons_zero, List.set_cons_succ]))
            (refine takeH (i := 11) (v := ?_) rfl (by kernel_rfl) (by kernel_rfl) (by kernel_rfl) (fun _ _ _ h => h) (Or.inl ⟨by rfl, ?_⟩) (by assumption) ?_; rotate_left; (focus ((intro wS hSw); (try dsimp only at hSw); obtain ⟨s0, s1, s2, s3, s4, s5⟩ := hSw; go_simp; (try with_reducible rfl); done)); (try simp only [Act.put, List.setIfInBounds_toArray, List.set_cons_zero, List.set_cons_succ]))
            refine aloneH (i := 12) rfl (by kernel_rfl) (fun K hK => ?_)
            rw [if_pos (by rfl)]
            go_simp; ((refine (HCm.out _).mono ?_); (rintro e w3 ⟨rfl, hb⟩); have HB3 := Lib.hid hb; clear hb; (try go_simp))
            refine hK.out _ _ (⟨cell_on HB3.out hHeld.1, cell_on HB3.out hHeld.2.1, cell_on HB3.out hHeld.2.2.1, cell_on HB3.out hHeld.2.2.2.1, cell_on HB3.out hHeld.2.2.2.2.1, cell_on HB3.out hHeld.2.2.2.2.2⟩) (fun hNew => ?_)
            clear hK K hHeld; (have hHeld := hNew); clear hNew; (try simp only [Act.put, List.setIfInBounds_toArray, List.set_cons_zero, List.set_cons_succ])
            (refine takeH (i := 13) (v := ?_) rfl (by kernel_rfl) (by kernel_rfl) (by kernel_rfl) (fun _ _ _ h => h) (Or.inl ⟨by rfl, ?_⟩) (by assumption) ?_; rotate_left; (focus ((intro wS hSw); (try dsimp only at hSw); obtain ⟨s0, s1, s2, s3, s4, s5⟩ := hSw; go_simp; (try with_reducible rfl); done)); (try simp only [Act.put, List.setIfInBounds_toArray, List.set_cons_zero, List.set_cons_succ]))
            (refine takeH (i := 14) (v := ?_) rfl (by kernel_rfl) (by kernel_rfl) (by kernel_rfl) (fun _ _ _ h => h) (Or.inl ⟨by rfl, ?_⟩) (by assumption) ?_; rotate_left; (focus ((intro wS hSw); (try dsimp only at hSw); obtain ⟨s0, s1, s2, s3, s4, s5⟩ := hSw; go_simp; (try with_reducible rfl); done)); (try simp only [Act.put, List.setIfInBounds_toArray, List.set_cons_zero, List.set_cons_succ]))
            (refine takeH (i := 15) (v := ?_) rfl (by kernel_rfl) (by kernel_rfl) (by kernel_rfl) (fun _ _ _ h => h) (Or.inl ⟨by rfl, ?_⟩) (by assumption) ?_; rotate_left; (focus ((intro wS hSw); (try dsimp only at hSw); obtain ⟨s0, s1, s2, s3, s4, s5⟩ := hSw; go_simp; (try with_reducible rfl); done)); (try simp only [Act.put, List.setIfInBounds_toArray, List.set_cons_zero, List.set_cons_succ]))
            (refine takeH (i := 16) (v := ?_) rfl (by kernel_rfl) (by kernel_rfl) (by kernel_rfl) (fun _ _ _ h => h) (Or.inl ⟨by rfl, ?_⟩) (by assumption) ?_; rotate_left; (focus ((intro wS hSw); (try dsimp only at hSw); obtain ⟨s0, s1, s2, s3, s4, s5⟩ := hSw; go_simp; (try with_reducible rfl); done)); (try simp only [Act.put, List.setIfInBounds_toArray, List.set_cons_zero, List.set_cons_succ]))
            (refine takeH (i := 17) (v := ?_) rfl (by kernel_rfl) (by kernel_rfl) (by kernel_rfl) (fun _ _ _ h => h) (Or.inl ⟨by rfl, ?_⟩) (by assumption) ?_; rotate_left; (focus ((intro wS hSw); (try dsimp only at hSw); obtain ⟨s0, s1, s2, s3, s4, s5⟩ := hSw; go_simp; (try with_reducible rfl); done)); (try simp only [Act.put, List.setIfInBounds_toArray, List.set_cons_zero, List.set_cons_succ]))
            (refine takeH (i := 18) (v := ?_) rfl (by kernel_rfl) (by kernel_rfl) (by kernel_rfl) (fun _ _ _ h => h) (Or.inl ⟨by rfl, ?_⟩) (by assumption) ?_; rotate_left; (focus ((intro wS hSw); (try dsimp only at hSw); obtain ⟨s0, s1, s2, s3, s4, s5⟩ := hSw; go_simp; (try with_reducible rfl); done)); (try simp only [Act.put, List.setIfInBounds_toArray, List.set_cons_zero, List.set_cons_succ]))
            (refine takeH (i := 19) (v := ?_) rfl (by kernel_rfl) (by kernel_rfl) (by kernel_rfl) (fun _ _ _ h => h) (Or.inl ⟨by rfl, ?_⟩) (by assumption) ?_; rotate_left; (focus ((intro wS hSw); (try dsimp only at hSw); obtain ⟨s0, s1, s2, s3, s4, s5⟩ := hSw; go_simp; (try with_reducible rfl); done)); (try simp only [Act.put, List.setIfInBounds_toArray, List.set_cons_zero, List.set_cons_succ]))
            (refine takeH (i := 20) (v := undef) rfl (by kernel_rfl) (by kernel_rfl) (by kernel_rfl) (fun _ _ _ h => h) (Or.inr ⟨by rfl, rfl⟩) (by assumption) ?_; (try simp only [Act.put, List.setIfInBounds_toArray, List.set_cons_zero, List.set_cons_succ]))
            (refine takeH (i := 21) (v := undef) rfl (by kernel_rfl) (by kernel_rfl) (by kernel_rfl) (fun _ _ _ h => h) (Or.inr ⟨by rfl, rfl⟩) (by assumption) ?_; (try simp only [Act.put, List.setIfInBounds_toArray, List.set_cons_zero, List.set_cons_succ]))
            (refine takeH (i := 22) (v := undef) rfl (by kernel_rfl) (by kernel_rfl) (by kernel_rfl) (fun _ _ _ h => h) (Or.inr ⟨by rfl, rfl⟩) (by assumption) ?_; (try simp only [Act.put, List.setIfInBounds_toArray, List.set_cons_zero, List.set_cons_succ]))
            (refine takeH (i := 23) (v := undef) rfl (by kernel_rfl) (by kernel_rfl) (by kernel_rfl) (fun _ _ _ h => h) (Or.inr ⟨by rfl, rfl⟩) (by assumption) ?_; (try simp only [Act.put, List.setIfInBounds_toArray, List.set_cons_zero, List.set_cons_succ]))
            (refine takeH (i := 24) (v := undef) rfl (by kernel_rfl) (by kernel_rfl) (by kernel_rfl) (fun _ _ _ h => h) (Or.inr ⟨by rfl, rfl⟩) (by assumption) ?_; (try simp only [Act.put, List.setIfInBounds_toArray, List.set_cons_zero, List.set_cons_succ]))
            (refine takeH (i := 25) (v := undef) rfl (by kernel_rfl) (by kernel_rfl) (by kernel_rfl) (fun _ _ _ h => h) (Or.inr ⟨by rfl, rfl⟩) (by assumption) ?_; (try simp only [Act.put, List.setIfInBounds_toArray, List.set_cons_zero, List.set_cons_succ]))
            (refine takeH (i := 26) (v := undef) rfl (by kernel_rfl) (by kernel_rfl) (by kernel_rfl) (fun _ _ _ h => h) (Or.inr ⟨by rfl, rfl⟩) (by assumption) ?_; (try simp only [Act.put, List.setIfInBounds_toArray, List.set_cons_zero, List.set_cons_succ]))
            (refine takeH (i := 27) (v := undef) rfl (by kernel_rfl) (by kernel_rfl) (by kernel_rfl) (fun _ _ _ h => h) (Or.inr ⟨by rfl, rfl⟩) (by assumption) ?_; (try simp only [Act.put, List.setIfInBounds_toArray, List.set_cons_zero, List.set_cons_succ]))
            (refine takeH (i := 28) (v := undef) rfl (by kernel_rfl) (by kernel_rfl) (by kernel_rfl) (fun _ _ _ h => h) (Or.inr ⟨by rfl, rfl⟩) (by assumption) ?_; (try simp only [Act.put, List.setIfInBounds_toArray, List.set_cons_zero, List.set_cons_succ]))
            (refine takeH (i := 29) (v := undef) rfl (by kernel_rfl) (by kernel_rfl) (by kernel_rfl) (fun _ _ _ h => h) (Or.inr ⟨by rfl, rfl⟩) (by assumption) ?_; (try simp only [Act.put, List.setIfInBounds_toArray, List.set_cons_zero, List.set_cons_succ]))
            (refine takeH (i := 30) (v := ?_) rfl (by kernel_rfl) (by kernel_rfl) (by kernel_rfl) (fun _ _ _ h => h) (Or.inl ⟨by rfl, ?_⟩) (by assumption) ?_; rotate_left; (focus ((intro wS hSw); (try dsimp only at hSw); obtain ⟨s0, s1, s2, s3, s4, s5⟩ := hSw; go_simp; (try with_reducible rfl); done)); (try simp only [Act.put, List.setIfInBounds_toArray, List.set_cons_zero, List.set_cons_succ]))
            (refine takeH (i := 31) (v := ?_) rfl (by kernel_rfl) (by kernel_rfl) (by kernel_rfl) (fun _ _ _ h => h) (Or.inl ⟨by rfl, ?_⟩) (by assumption) ?_; rotate_left; (focus ((intro wS hSw); (try dsimp only at hSw); obtain ⟨s0, s1, s2, s3, s4, s5⟩ := hSw; go_simp; (try with_reducible rfl); done)); (try simp only [Act.put, List.setIfInBounds_toArray, List.set_cons_zero, List.set_cons_succ]))
            (refine takeH (i := 32) (v := ?_) rfl (by kernel_rfl) (by kernel_rfl) (by kernel_rfl) (fun _ _ _ h => h) (Or.inl ⟨by rfl, ?_⟩) (by assumption) ?_; rotate_left; (focus ((intro wS hSw); (try dsimp only at hSw); obtain ⟨s0, s1, s2, s3, s4, s5⟩ := hSw; go_simp; (try with_reducible rfl); done)); (try simp only [Act.put, List.setIfInBounds_toArray, List.set_cons_zero, List.set_cons_succ]))
            refine aloneH (i := 33) rfl (by kernel_rfl) (fun K hK => ?_)
            rw [if_pos (by rfl)]
            go_simp; ((refine (HLv.out _).mono ?_); (rintro e w4 ⟨rfl, hb⟩); have HB4 := Lib.hid hb; clear hb; (try go_simp))
            refine hK.out _ _ (⟨cell_on HB4.out hHeld.1, cell_on HB4.out hHeld.2.1, cell_on HB4.out hHeld.2.2.1, cell_on HB4.out hHeld.2.2.2.1, cell_on HB4.out hHeld.2.2.2.2.1, cell_on HB4.out hHeld.2.2.2.2.2⟩) (fun hNew => ?_)
            clear hK K hHeld; (have hHeld := hNew); clear hNew; (try simp only [Act.put, List.setIfInBounds_toArray, List.set_cons_zero, List.set_cons_succ])
            (refine takeH (i := 34) (v := ?_) rfl (by kernel_rfl) (by kernel_rfl) (by kernel_rfl) (fun _ _ _ h => h) (Or.inl ⟨by rfl, ?_⟩) (by assumption) ?_; rotate_left; (focus ((intro wS hSw); (try dsimp only at hSw); obtain ⟨s0, s1, s2, s3, s4, s5⟩ := hSw; go_simp; (try with_reducible rfl); done)); (try simp only [Act.put, List.setIfInBounds_toArray, List.set_cons_zero, List.set_cons_succ]))
            (refine takeH (i := 35) (v := ?_) rfl (by kernel_rfl) (by kernel_rfl) (by kernel_rfl) (fun _ _ _ h => h) (Or.inl ⟨by rfl, ?_⟩) (by assumption) ?_; rotate_left; (focus ((intro wS hSw); (try dsimp only at hSw); obtain ⟨s0, s1, s2, s3, s4, s5⟩ := hSw; go_simp; (try with_reducible rfl); done)); (try simp only [Act.put, List.setIfInBounds_toArray, List.set_cons_zero, List.set_cons_succ]))
            refine wpAnyH_done (by kernel_rfl) ?_ _
            have HB9 := Lib.hid (below_any HBd.out (Nat.le_refl _) (below_then (below_then (below_then HB1.out HB2.out) HB3.out) HB4.out))
            clear hHeld HBd
            go_wp2
            go_ret
            exact ⟨rfl, HB9.out⟩
          · have hall : c.A < 8030 * Civ.many c.k := Classical.byContradiction fun q => by unfold Ck.rtE at he; rw [if_neg hF, if_neg hA, if_neg q] at he; cases he
            have e1 : c.rtP pl = perV c.k c.A := by unfold Ck.rtP; rw [if_pos he, if_neg hA]
            have e2 : c.rtO pl = perV c.k pl := if_pos he
            obtain ⟨a1, a2, a3⟩ := Civ.per_good HOk.out.kind (n := c.A) (by omega) hall
            have hsa := per_st c HOk.out c.A (by omega) hall
            rw [if_pos (by omega), if_neg (by omega), if_neg (by omega), a3] at hsa
            rw [e1, e2, he] at HRt
            unfold perV at HRt
            rw [g3, a3] at HRt
            have hne : Civ.perY c.k pl = Civ.perY c.k c.A → ¬ Civ.perI c.k pl = Civ.perI c.k c.A := fun q1 q2 => by rw [q1, q2, a2] at g2; omega
            obtain ⟨st, hst'⟩ : ∃ st, st = c.st c.k (Civ.perY c.k pl) (Civ.perI c.k pl) := ⟨_, rfl⟩
            have hso : ¬ st = 1 := by
              rw [hst', hst]
              by_cases q : pl < c.B
              · rw [if_pos q]; decide
              · rw [if_neg q, if_pos (by omega)]; decide
            have HSp : Hid (∀ W, CkAt W P c → Calls Try.prog 19 #[.pointer (some ⟨P, 0, none⟩), .agg #[.int .i64 c.k, .int .i64 (Civ.perY c.k c.A), .int .i64 (Civ.perI c.k c.A)]] W fun e w' => e = .returned (.int .i64 1) ∧ Below W.heap.size W w') := Lib.hid (fun W hW => by have := code_state W P c c.k (Civ.perY c.k c.A) (Civ.perI c.k c.A) hW HOk.out; rw [hsa] at this; exact this)
            have HSo : Hid (∀ W, CkAt W P c → Calls Try.prog 19 #[.pointer (some ⟨P, 0, none⟩), .agg #[.int .i64 c.k, .int .i64 (Civ.perY c.k pl), .int .i64 (Civ.perI c.k pl)]] W fun e w' => e = .returned (.int .i64 st) ∧ Below W.heap.size W w') := Lib.hid (fun W hW => by rw [hst']; exact code_state W P c c.k (Civ.perY c.k pl) (Civ.perI c.k pl) hW HOk.out)
            have HCm : Hid (∀ W, Calls Try.prog 27 #[.agg #[.int .i64 c.k, .int .i64 (Civ.perY c.k pl), .int .i64 (Civ.perI c.k pl)], .agg #[.int .i64 c.k, .int .i64 (Civ.perY c.k c.A), .int .i64 (Civ.perI c.k c.A)]] W fun e w' => e = .returned (.int .i64 (-1)) ∧ Below W.heap.size W w') := Lib.hid (fun W => by have := ref_cmp c.k (Civ.perY c.k pl) (Civ.perI c.k pl) c.k (Civ.perY c.k c.A) (Civ.perI c.k c.A) W; rw [Civ.cmp_lt g1 a1 (by rw [g2, a2]; omega)] at this; exact this)
            have HFi : Hid (∀ W, CkAt W P c → Calls Try.prog 21 #[.pointer (some ⟨P, 0, none⟩)] W fun e w' => e = .returned (.agg #[.int .i64 c.k, .int .i64 (Civ.perY c.k c.A), .int .i64 (Civ.perI c.k c.A)]) ∧ Below W.heap.size W w') := Lib.hid (fun W hW => by have := code_first_ W P c hW HOk.out; rw [a3] at this; exact this)
            clear e1 e2 he hst hst' hF g1 g2 g3 a1 a2 a3 hsa hA hall hba hfb hf0 p0 p1 pw
            generalize Civ.perY c.k pl = oy at *
            generalize Civ.perI c.k pl = oi at *
            generalize Civ.perY c.k c.A = py at *
            generalize Civ.perI c.k c.A = pi at *
            go_wp2_with (go_at_call 17; refine HRt.out.mono ?_; rintro e wz ⟨rfl, hb2⟩; have HB2 := Lib.hid (below_any HBr.out (Nat.le_refl _) hb2); have HC2 := Lib.hid (HC0.out.on hb2); clear hb2; refine Stop.out ?_)
            unfold Stop
            have b1 := below_alloc (wz.alloc (.cells #[.int .i64 c.k, .int .i64 py, .int .i64 pi] 24)) (.cells #[.int .i64 c.k, .int .i64 oy, .int .i64 oi] 24)
            have HBd := Lib.hid (below_any HB2.out (Nat.le_refl _) (below_then (below_alloc wz (.cells #[.int .i64 c.k, .int .i64 py, .int .i64 pi] 24)) b1)).drew
            have HCd : Hid (CkAt (((wz.alloc (.cells #[.int .i64 c.k, .int .i64 py, .int .i64 pi] 24)).alloc (.cells #[.int .i64 c.k, .int .i64 oy, .int .i64 oi] 24)).drew) P c) := Lib.hid ((HC2.out.on (below_alloc _ _)).on b1.drew)
            have r4 := heap_on b1 (heap_alloc_new wz (.cells #[.int .i64 c.k, .int .i64 py, .int .i64 pi] 24))
            have r5 := heap_alloc_new2 wz (.cells #[.int .i64 c.k, .int .i64 py, .int .i64 pi] 24) (.cells #[.int .i64 c.k, .int .i64 oy, .int .i64 oi] 24)
            have HS := Lib.hid (And.intro (cell_of_row _ _ 0 _ _ _ r4) (And.intro (cell_of_row _ _ 1 _ _ _ r4) (And.intro (cell_of_row _ _ 2 _ _ _ r4) (And.intro (cell_of_row _ _ 0 _ _ _ r5) (And.intro (cell_of_row _ _ 1 _ _ _ r5) (cell_of_row _ _ 2 _ _ _ r5))))))
            clear b1 r4 r5
            go_wp2_with fail
            refine wp_region_held_drew (S := fun W => W.cell? ⟨wz.heap.size, 0, none⟩ = some (.int .i64 c.k) ∧ W.cell? ⟨wz.heap.size, 1, none⟩ = some (.int .i64 py) ∧ W.cell? ⟨wz.heap.size, 2, none⟩ = some (.int .i64 pi) ∧ W.cell? ⟨(wz.heap.size + 1), 0, none⟩ = some (.int .i64 c.k) ∧ W.cell? ⟨(wz.heap.size + 1), 1, none⟩ = some (.int .i64 oy) ∧ W.cell? ⟨(wz.heap.size + 1), 2, none⟩ = some (.int .i64 oi)) (by kernel_rfl) HS.out ?_
            intro hHeld
            clear HS
            generalize ((wz.alloc (.cells #[.int .i64 c.k, .int .i64 py, .int .i64 pi] 24)).alloc (.cells #[.int .i64 c.k, .int .i64 oy, .int .i64 oi] 24)).drew = wd at HBd HCd hHeld ⊢
            (refine takeH (i := 0) (v := ?_) rfl (by kernel_rfl) (by kernel_rfl) (by kernel_rfl) (fun _ _ _ h => h) (Or.inl ⟨by rfl, ?_⟩) (by assumption) ?_; rotate_left; (focus ((intro wS hSw); (try dsimp only at hSw); obtain ⟨s0, s1, s2, s3, s4, s5⟩ := hSw; go_simp; (try with_reducible rfl); done)); (try simp only [Act.put, List.setIfInBounds_toArray, List.set_cons_zero, List.set_cons_succ]))
            (refine takeH (i := 1) (v := ?_) rfl (by kernel_rfl) (by kernel_rfl) (by kernel_rfl) (fun _ _ _ h => h) (Or.inl ⟨by rfl, ?_⟩) (by assumption) ?_; rotate_left; (focus ((intro wS hSw); (try dsimp only at hSw); obtain ⟨s0, s1, s2, s3, s4, s5⟩ := hSw; go_simp; (try with_reducible rfl); done)); (try simp only [Act.put, List.setIfInBounds_toArray, List.set_cons_zero, List.set_cons_succ]))
            refine aloneH (i := 2) rfl (by kernel_rfl) (fun K hK => ?_)
            rw [if_pos (by rfl)]
            go_simp; ((refine (HWi.out _).mono ?_); (rintro e w1 ⟨rfl, hb⟩); have HB1 := Lib.hid hb; clear hb; (try go_simp))
            refine hK.out _ _ (⟨cell_on HB1.out hHeld.1, cell_on HB1.out hHeld.2.1, cell_on HB1.out hHeld.2.2.1, cell_on HB1.out hHeld.2.2.2.1, cell_on HB1.out hHeld.2.2.2.2.1, cell_on HB1.out hHeld.2.2.2.2.2⟩) (fun hNew => ?_)
            clear hK K hHeld; (have hHeld := hNew); clear hNew; (try simp only [Act.put, List.setIfInBounds_toArray, List.set_cons_zero, List.set_cons_succ])
            (refine takeH (i := 3) (v := ?_) rfl (by kernel_rfl) (by kernel_rfl) (by kernel_rfl) (fun _ _ _ h => h) (Or.inl ⟨by rfl, ?_⟩) (by assumption) ?_; rotate_left; (focus ((intro wS hSw); (try dsimp only at hSw); obtain ⟨s0, s1, s2, s3, s4, s5⟩ := hSw; go_simp; (try with_reducible rfl); done)); (try simp only [Act.put, List.setIfInBounds_toArray, List.set_cons_zero, List.set_cons_succ]))
            (refine takeH (i := 4) (v := ?_) rfl (by kernel_rfl) (by kernel_rfl) (by kernel_rfl) (fun _ _ _ h => h) (Or.inl ⟨by rfl, ?_⟩) (by assumption) ?_; rotate_left; (focus ((intro wS hSw); (try dsimp only at hSw); obtain ⟨s0, s1, s2, s3, s4, s5⟩ := hSw; go_simp; (try with_reducible rfl); done)); (try simp only [Act.put, List.setIfInBounds_toArray, List.set_cons_zero, List.set_cons_succ]))
            (refine takeH (i := 5) (v := ?_) rfl (by kernel_rfl) (by kernel_rfl) (by kernel_rfl) (fun _ _ _ h => h) (Or.inl ⟨by rfl, ?_⟩) (by assumption) ?_; rotate_left; (focus ((intro wS hSw); (try dsimp only at hSw); obtain ⟨s0, s1, s2, s3, s4, s5⟩ := hSw; go_simp; (try with_reducible rfl); done)); (try simp only [Act.put, List.setIfInBounds_toArray, List.set_cons_zero, List.set_cons_succ]))
            refine aloneH (i := 6) rfl (by kernel_rfl) (fun K hK => ?_)
            rw [if_pos (by rfl)]
            go_simp; ((refine (HSp.out _ (HCd.out.on HB1.out)).mono ?_); (rintro e w2 ⟨rfl, hb⟩); have HB2 := Lib.hid hb; clear hb; (try go_simp))
            refine hK.out _ _ (⟨cell_on HB2.out hHeld.1, cell_on HB2.out hHeld.2.1, cell_on HB2.out hHeld.2.2.1, cell_on HB2.out hHeld.2.2.2.1, cell_on HB2.out hHeld.2.2.2.2.1, cell_on HB2.out hHeld.2.2.2.2.2⟩) (fun hNew => ?_)
            clear hK K hHeld; (have hHeld := hNew); clear hNew; (try simp only [Act.put, List.setIfInBounds_toArray, List.set_cons_zero, List.set_cons_succ])
            (refine takeH (i := 7) (v := ?_) rfl (by kernel_rfl) (by kernel_rfl) (by kernel_rfl) (fun _ _ _ h => h) (Or.inl ⟨by rfl, ?_⟩) (by assumption) ?_; rotate_left; (focus ((intro wS hSw); (try dsimp only at hSw); obtain ⟨s0, s1, s2, s3, s4, s5⟩ := hSw; go_simp; (try with_reducible rfl); done)); (try simp only [Act.put, List.setIfInBounds_toArray, List.set_cons_zero, List.set_cons_succ]))
            (refine takeH (i := 8) (v := ?_) rfl (by kernel_rfl) (by kernel_rfl) (by kernel_rfl) (fun _ _ _ h => h) (Or.inl ⟨by rfl, ?_⟩) (by assumption) ?_; rotate_left; (focus ((intro wS hSw); (try dsimp only at hSw); obtain ⟨s0, s1, s2, s3, s4, s5⟩ := hSw; go_simp; (try with_reducible rfl); done)); (try simp only [Act.put, List.setIfInBounds_toArray, List.set_cons_zero, List.set_cons_succ]))
            (refine takeH (i := 9) (v := ?_) rfl (by kernel_rfl) (by kernel_rfl) (by kernel_rfl) (fun _ _ _ h => h) (Or.inl ⟨by rfl, ?_⟩) (by assumption) ?_; rotate_left; (focus ((intro wS hSw); (try dsimp only at hSw); obtain ⟨s0, s1, s2, s3, s4, s5⟩ := hSw; go_simp; (try with_reducible rfl); done)); (try simp only [Act.put, List.setIfInBounds_toArray, List.set_cons_zero, List.set_cons_succ]))
            (refine takeH (i := 10) (v := ?_) rfl (by kernel_rfl) (by kernel_rfl) (by kernel_rfl) (fun _ _ _ h => h) (Or.inl ⟨by rfl, ?_⟩) (by assumption) ?_; rotate_left; (focus ((intro wS hSw); (try dsimp only at hSw); obtain ⟨s0, s1, s2, s3, s4, s5⟩ := hSw; go_simp; (try with_reducible rfl); done)); (try simp only [Act.put, List.setIfInBounds_toArray, List.set_cons_zero, List.set_cons_succ]))
            (refine takeH (i := 11) (v := ?_) rfl (by kernel_rfl) (by kernel_rfl) (by kernel_rfl) (fun _ _ _ h => h) (Or.inl ⟨by rfl, ?_⟩) (by assumption) ?_; rotate_left; (focus ((intro wS hSw); (try dsimp only at hSw); obtain ⟨s0, s1, s2, s3, s4, s5⟩ := hSw; go_simp; (try with_reducible rfl); done)); (try simp only [Act.put, List.setIfInBounds_toArray, List.set_cons_zero, List.set_cons_succ]))
            refine aloneH (i := 12) rfl (by kernel_rfl) (fun K hK => ?_)
            rw [if_pos (by rfl)]
            go_simp; ((refine (HCm.out _).mono ?_); (rintro e w3 ⟨rfl, hb⟩); have HB3 := Lib.hid hb; clear hb; (try go_simp))
            refine hK.out _ _ (⟨cell_on HB3.out hHeld.1, cell_on HB3.out hHeld.2.1, cell_on HB3.out hHeld.2.2.1, cell_on HB3.out hHeld.2.2.2.1, cell_on HB3.out hHeld.2.2.2.2.1, cell_on HB3.out hHeld.2.2.2.2.2⟩) (fun hNew => ?_)
            clear hK K hHeld; (have hHeld := hNew); clear hNew; (try simp only [Act.put, List.setIfInBounds_toArray, List.set_cons_zero, List.set_cons_succ])
            (refine takeH (i := 13) (v := ?_) rfl (by kernel_rfl) (by kernel_rfl) (by kernel_rfl) (fun _ _ _ h => h) (Or.inl ⟨by rfl, ?_⟩) (by assumption) ?_; rotate_left; (focus ((intro wS hSw); (try dsimp only at hSw); obtain ⟨s0, s1, s2, s3, s4, s5⟩ := hSw; go_simp; (try with_reducible rfl); done)); (try simp only [Act.put, List.setIfInBounds_toArray, List.set_cons_zero, List.set_cons_succ]))
            (refine takeH (i := 14) (v := ?_) rfl (by kernel_rfl) (by kernel_rfl) (by kernel_rfl) (fun _ _ _ h => h) (Or.inl ⟨by rfl, ?_⟩) (by assumption) ?_; rotate_left; (focus ((intro wS hSw); (try dsimp only at hSw); obtain ⟨s0, s1, s2, s3, s4, s5⟩ := hSw; go_simp; (try with_reducible rfl); done)); (try simp only [Act.put, List.setIfInBounds_toArray, List.set_cons_zero, List.set_cons_succ]))
            (refine takeH (i := 15) (v := ?_) rfl (by kernel_rfl) (by kernel_rfl) (by kernel_rfl) (fun _ _ _ h => h) (Or.inl ⟨by rfl, ?_⟩) (by assumption) ?_; rotate_left; (focus ((intro wS hSw); (try dsimp only at hSw); obtain ⟨s0, s1, s2, s3, s4, s5⟩ := hSw; go_simp; (try with_reducible rfl); done)); (try simp only [Act.put, List.setIfInBounds_toArray, List.set_cons_zero, List.set_cons_succ]))
            (refine takeH (i := 16) (v := ?_) rfl (by kernel_rfl) (by kernel_rfl) (by kernel_rfl) (fun _ _ _ h => h) (Or.inl ⟨by rfl, ?_⟩) (by assumption) ?_; rotate_left; (focus ((intro wS hSw); (try dsimp only at hSw); obtain ⟨s0, s1, s2, s3, s4, s5⟩ := hSw; go_simp; (try with_reducible rfl); done)); (try simp only [Act.put, List.setIfInBounds_toArray, List.set_cons_zero, List.set_cons_succ]))
            (refine takeH (i := 17) (v := ?_) rfl (by kernel_rfl) (by kernel_rfl) (by kernel_rfl) (fun _ _ _ h => h) (Or.inl ⟨by rfl, ?_⟩) (by assumption) ?_; rotate_left; (focus ((intro wS hSw); (try dsimp only at hSw); obtain ⟨s0, s1, s2, s3, s4, s5⟩ := hSw; go_simp; (try with_reducible rfl); done)); (try simp only [Act.put, List.setIfInBounds_toArray, List.set_cons_zero, List.set_cons_succ]))
            (refine takeH (i := 18) (v := (.bool false)) rfl (by kernel_rfl) (by kernel_rfl) (by kernel_rfl) (fun _ _ _ h => h) (Or.inl ⟨by rfl, by (intro wS hSw); (try dsimp only at hSw); (obtain ⟨s0, s1, s2, s3, s4, s5⟩ := hSw); go_simp; (first | done | (simp; done) | (simp; exact hne) | exact hne)⟩) (by assumption) ?_; (try simp only [Act.put, List.setIfInBounds_toArray, List.set_cons_zero, List.set_cons_succ]))
            (refine takeH (i := 19) (v := ?_) rfl (by kernel_rfl) (by kernel_rfl) (by kernel_rfl) (fun _ _ _ h => h) (Or.inl ⟨by rfl, ?_⟩) (by assumption) ?_; rotate_left; (focus ((intro wS hSw); (try dsimp only at hSw); obtain ⟨s0, s1, s2, s3, s4, s5⟩ := hSw; go_simp; (try with_reducible rfl); done)); (try simp only [Act.put, List.setIfInBounds_toArray, List.set_cons_zero, List.set_cons_succ]))
            (refine takeH (i := 20) (v := ?_) rfl (by kernel_rfl) (by kernel_rfl) (by kernel_rfl) (fun _ _ _ h => h) (Or.inl ⟨by rfl, ?_⟩) (by assumption) ?_; rotate_left; (focus ((intro wS hSw); (try dsimp only at hSw); obtain ⟨s0, s1, s2, s3, s4, s5⟩ := hSw; go_simp; (try with_reducible rfl); done)); (try simp only [Act.put, List.setIfInBounds_toArray, List.set_cons_zero, List.set_cons_succ]))
            (refine takeH (i := 21) (v := ?_) rfl (by kernel_rfl) (by kernel_rfl) (by kernel_rfl) (fun _ _ _ h => h) (Or.inl ⟨by rfl, ?_⟩) (by assumption) ?_; rotate_left; (focus ((intro wS hSw); (try dsimp only at hSw); obtain ⟨s0, s1, s2, s3, s4, s5⟩ := hSw; go_simp; (try with_reducible rfl); done)); (try simp only [Act.put, List.setIfInBounds_toArray, List.set_cons_zero, List.set_cons_succ]))
            refine aloneH (i := 22) rfl (by kernel_rfl) (fun K hK => ?_)
            rw [if_pos (by rfl)]
            go_simp; ((refine (HSo.out _ (HCd.out.on (below_then (below_then HB1.out HB2.out) HB3.out))).mono ?_); (rintro e w4 ⟨rfl, hb⟩); have HB4 := Lib.hid hb; clear hb; (try go_simp))
            refine hK.out _ _ (⟨cell_on HB4.out hHeld.1, cell_on HB4.out hHeld.2.1, cell_on HB4.out hHeld.2.2.1, cell_on HB4.out hHeld.2.2.2.1, cell_on HB4.out hHeld.2.2.2.2.1, cell_on HB4.out hHeld.2.2.2.2.2⟩) (fun hNew => ?_)
            clear hK K hHeld; (have hHeld := hNew); clear hNew; (try simp only [Act.put, List.setIfInBounds_toArray, List.set_cons_zero, List.set_cons_succ])
            (refine takeH (i := 23) (v := (.bool true)) rfl (by kernel_rfl) (by kernel_rfl) (by kernel_rfl) (fun _ _ _ h => h) (Or.inl ⟨by rfl, by (intro wS hSw); (try dsimp only at hSw); (obtain ⟨s0, s1, s2, s3, s4, s5⟩ := hSw); go_simp; (first | done | (simp; done) | (simp; exact hso) | exact hso)⟩) (by assumption) ?_; (try simp only [Act.put, List.setIfInBounds_toArray, List.set_cons_zero, List.set_cons_succ]))
            (refine takeH (i := 24) (v := ?_) rfl (by kernel_rfl) (by kernel_rfl) (by kernel_rfl) (fun _ _ _ h => h) (Or.inl ⟨by rfl, ?_⟩) (by assumption) ?_; rotate_left; (focus ((intro wS hSw); (try dsimp only at hSw); obtain ⟨s0, s1, s2, s3, s4, s5⟩ := hSw; go_simp; (try with_reducible rfl); done)); (try simp only [Act.put, List.setIfInBounds_toArray, List.set_cons_zero, List.set_cons_succ]))
            (refine takeH (i := 25) (v := ?_) rfl (by kernel_rfl) (by kernel_rfl) (by kernel_rfl) (fun _ _ _ h => h) (Or.inl ⟨by rfl, ?_⟩) (by assumption) ?_; rotate_left; (focus ((intro wS hSw); (try dsimp only at hSw); obtain ⟨s0, s1, s2, s3, s4, s5⟩ := hSw; go_simp; (try with_reducible rfl); done)); (try simp only [Act.put, List.setIfInBounds_toArray, List.set_cons_zero, List.set_cons_succ]))
            (refine takeH (i := 26) (v := ?_) rfl (by kernel_rfl) (by kernel_rfl) (by kernel_rfl) (fun _ _ _ h => h) (Or.inl ⟨by rfl, ?_⟩) (by assumption) ?_; rotate_left; (focus ((intro wS hSw); (try dsimp only at hSw); obtain ⟨s0, s1, s2, s3, s4, s5⟩ := hSw; go_simp; (try with_reducible rfl); done)); (try simp only [Act.put, List.setIfInBounds_toArray, List.set_cons_zero, List.set_cons_succ]))
            refine aloneH (i := 27) rfl (by kernel_rfl) (fun K hK => ?_)
            rw [if_pos (by rfl)]
            go_simp; ((refine (HFi.out _ (HCd.out.on (below_then (below_then (below_then HB1.out HB2.out) HB3.out) HB4.out))).mono ?_); (rintro e w5 ⟨rfl, hb⟩); have HB5 := Lib.hid hb; clear hb; (try go_simp))
            refine hK.out _ _ (⟨cell_on HB5.out hHeld.1, cell_on HB5.out hHeld.2.1, cell_on HB5.out hHeld.2.2.1, cell_on HB5.out hHeld.2.2.2.1, cell_on HB5.out hHeld.2.2.2.2.1, cell_on HB5.out hHeld.2.2.2.2.2⟩) (fun hNew => ?_)
            clear hK K hHeld; (have hHeld := hNew); clear hNew; (try simp only [Act.put, List.setIfInBounds_toArray, List.set_cons_zero, List.set_cons_succ])
            (refine takeH (i := 28) (v := ?_) rfl (by kernel_rfl) (by kernel_rfl) (by kernel_rfl) (fun _ _ _ h => h) (Or.inl ⟨by rfl, ?_⟩) (by assumption) ?_; rotate_left; (focus ((intro wS hSw); (try dsimp only at hSw); obtain ⟨s0, s1, s2, s3, s4, s5⟩ := hSw; go_simp; (try with_reducible rfl); done)); (try simp only [Act.put, List.setIfInBounds_toArray, List.set_cons_zero, List.set_cons_succ]))
            (refine takeH (i := 29) (v := ?_) rfl (by kernel_rfl) (by kernel_rfl) (by kernel_rfl) (fun _ _ _ h => h) (Or.inl ⟨by rfl, ?_⟩) (by assumption) ?_; rotate_left; (focus ((intro wS hSw); (try dsimp only at hSw); obtain ⟨s0, s1, s2, s3, s4, s5⟩ := hSw; go_simp; (try with_reducible rfl); done)); (try simp only [Act.put, List.setIfInBounds_toArray, List.set_cons_zero, List.set_cons_succ]))
            (refine takeH (i := 30) (v := ?_) rfl (by kernel_rfl) (by kernel_rfl) (by kernel_rfl) (fun _ _ _ h => h) (Or.inl ⟨by rfl, ?_⟩) (by assumption) ?_; rotate_left; (focus ((intro wS hSw); (try dsimp only at hSw); obtain ⟨s0, s1, s2, s3, s4, s5⟩ := hSw; go_simp; (try with_reducible rfl); done)); (try simp only [Act.put, List.setIfInBounds_toArray, List.set_cons_zero, List.set_cons_succ]))
            (refine takeH (i := 31) (v := ?_) rfl (by kernel_rfl) (by kernel_rfl) (by kernel_rfl) (fun _ _ _ h => h) (Or.inl ⟨by rfl, ?_⟩) (by assumption) ?_; rotate_left; (focus ((intro wS hSw); (try dsimp only at hSw); obtain ⟨s0, s1, s2, s3, s4, s5⟩ := hSw; go_simp; (try with_reducible rfl); done)); (try simp only [Act.put, List.setIfInBounds_toArray, List.set_cons_zero, List.set_cons_succ]))
            (refine takeH (i := 32) (v := ?_) rfl (by kernel_rfl) (by kernel_rfl) (by kernel_rfl) (fun _ _ _ h => h) (Or.inl ⟨by rfl, ?_⟩) (by assumption) ?_; rotate_left; (focus ((intro wS hSw); (try dsimp only at hSw); obtain ⟨s0, s1, s2, s3, s4, s5⟩ := hSw; go_simp; (try with_reducible rfl); done)); (try simp only [Act.put, List.setIfInBounds_toArray, List.set_cons_zero, List.set_cons_succ]))
            refine aloneH (i := 33) rfl (by kernel_rfl) (fun K hK => ?_)
            rw [if_pos (by rfl)]
            go_simp; ((refine (HLv.out _).mono ?_); (rintro e w6 ⟨rfl, hb⟩); have HB6 := Lib.hid hb; clear hb; (try go_simp))
            refine hK.out _ _ (⟨cell_on HB6.out hHeld.1, cell_on HB6.out hHeld.2.1, cell_on HB6.out hHeld.2.2.1, cell_on HB6.out hHeld.2.2.2.1, cell_on HB6.out hHeld.2.2.2.2.1, cell_on HB6.out hHeld.2.2.2.2.2⟩) (fun hNew => ?_)
            clear hK K hHeld; (have hHeld := hNew); clear hNew; (try simp only [Act.put, List.setIfInBounds_toArray, List.set_cons_zero, List.set_cons_succ])
            (refine takeH (i := 34) (v := ?_) rfl (by kernel_rfl) (by kernel_rfl) (by kernel_rfl) (fun _ _ _ h => h) (Or.inl ⟨by rfl, ?_⟩) (by assumption) ?_; rotate_left; (focus ((intro wS hSw); (try dsimp only at hSw); obtain ⟨s0, s1, s2, s3, s4, s5⟩ := hSw; go_simp; (try with_reducible rfl); done)); (try simp only [Act.put, List.setIfInBounds_toArray, List.set_cons_zero, List.set_cons_succ]))
            (refine takeH (i := 35) (v := ?_) rfl (by kernel_rfl) (by kernel_rfl) (by kernel_rfl) (fun _ _ _ h => h) (Or.inl ⟨by rfl, ?_⟩) (by assumption) ?_; rotate_left; (focus ((intro wS hSw); (try dsimp only at hSw); obtain ⟨s0, s1, s2, s3, s4, s5⟩ := hSw; go_simp; (try with_reducible rfl); done)); (try simp only [Act.put, List.setIfInBounds_toArray, List.set_cons_zero, List.set_cons_succ]))
            refine wpAnyH_done (by kernel_rfl) ?_ _
            have HB9 := Lib.hid (below_any HBd.out (Nat.le_refl _) (below_then (below_then (below_then (below_then (below_then HB1.out HB2.out) HB3.out) HB4.out) HB5.out) HB6.out))
            clear hHeld HBd
            go_wp2
            go_ret
            exact ⟨rfl, HB9.out⟩
        · have e1 : c.rtP pl = zeroP := if_neg he
          have e2 : c.rtO pl = zeroP := if_neg he
          rw [e1, e2] at HRt
          unfold zeroP at HRt
          have he' : (c.rtE pl != 0) = true := bne_t he
          generalize c.rtE pl = er at *
          clear e1 e2 he p0 p1 pw
          go_wp2_with (first
            | (go_at_call 17; refine HRt.out.mono ?_; rintro e w2 ⟨rfl, hb2⟩; have HB2 := Lib.hid (below_any HBr.out (Nat.le_refl _) hb2); clear hb2)
            | (go_at_call 7; refine (HLv.out _).mono ?_; rintro e w3 ⟨rfl, hb3⟩; have HB3 := Lib.hid (below_any HB2.out (Nat.le_refl _) (below_then (below_alloc _ _) (below_then (below_alloc _ _) hb3))); clear hb3))
          go_ret
          exact ⟨rfl, HB3.out⟩
      · have HRt := Lib.hid (code_route_out wr P c when_ HC0.out HOk.out (by omega))
        unfold zeroP at HRt
        clear hd
        go_wp2_with (first
          | (go_at_call 17; refine HRt.out.mono ?_; rintro e w2 ⟨rfl, hb2⟩; have HB2 := Lib.hid (below_any HBr.out (Nat.le_refl _) hb2); clear hb2)
          | (go_at_call 7; refine (HLv.out _).mono ?_; rintro e w3 ⟨rfl, hb3⟩; have HB3 := Lib.hid (below_any HB2.out (Nat.le_refl _) (below_then (below_alloc _ _) (below_then (below_alloc _ _) hb3))); clear hb3))
        go_ret
        exact ⟨rfl, HB3.out⟩
theorem periodRoutes_any (w : World) (k n when_ : Int) (A : Option Addr) (L : List StepV) (cp : Nat) (hr : RowStepV w A L) (hlb : L.length ≤ 4000000000000000000) :
    Calls Try.prog 5 #[.int .i64 k, .int .i64 n, .slice A L.length cp, .int .i64 when_] w fun e w' => e = .returned (.bool true) ∧ Below w.heap.size w w' := by
  by_cases hl : L.length ≤ 60
  · by_cases hk : Civ.isKind k
    · by_cases h1 : 0 ≤ n ∧ n ≤ 2932896
      · exact routes_walk w k n when_ A L cp hr hl hk h1.1 h1.2
      · have HN := Lib.hid (fun w => new_day k n w hk (by omega))
        have HLv := Lib.hid lives27_any
        have hl' : ¬ (60 : Int) < (L.length : Int) := by omega
        clear h1 hk hl hlb hr
        go_enter Try.func5, Try.ntmps5
        go_wp2_with (first
          | (go_at_call 8; refine (HN.out _).mono ?_; rintro e w1 ⟨rfl, hb⟩; have HB1 := Lib.hid hb; clear hb)
          | (go_at_call 7; refine (HLv.out _).mono ?_; rintro e w3 ⟨rfl, hb3⟩; have HB3 := Lib.hid (below_any HB1.out (Nat.le_refl _) hb3); clear hb3))
        go_ret
        exact ⟨rfl, HB3.out⟩
    · have HN := Lib.hid (fun w => new_kind k n w hk)
      have HLv := Lib.hid lives27_any
      have hl' : ¬ (60 : Int) < (L.length : Int) := by omega
      clear hk hl hlb hr
      go_enter Try.func5, Try.ntmps5
      go_wp2_with (first
        | (go_at_call 8; refine (HN.out _).mono ?_; rintro e w1 ⟨rfl, hb⟩; have HB1 := Lib.hid hb; clear hb)
        | (go_at_call 7; refine (HLv.out _).mono ?_; rintro e w3 ⟨rfl, hb3⟩; have HB3 := Lib.hid (below_any HB1.out (Nat.le_refl _) hb3); clear hb3))
      go_ret
      exact ⟨rfl, HB3.out⟩
  · have HLv := Lib.hid lives27_any
    have hl' : (60 : Int) < (L.length : Int) := by omega
    clear hl hlb hr
    go_enter Try.func5, Try.ntmps5
    go_wp2_with (go_at_call 7; refine (HLv.out _).mono ?_; rintro e w3 ⟨rfl, hb3⟩; have HB3 := Lib.hid hb3; clear hb3)
    go_ret
    exact ⟨rfl, HB3.out⟩
end Go.Proofs.Ytdacpiegfobhbaa
