/- A period's state never goes back: walked. -/
import Derived.Test.YtdacpiegfobhbaaPdM
namespace Go.Proofs.Ytdacpiegfobhbaa
open Go.RowKit
set_option maxRecDepth 100000
set_option linter.unusedSimpArgs false
set_option linter.unusedVariables false

/-- what a step does to a period's state -/
theorem Ck.cl_st {c : Ck} (ok : c.Ok) {k y i : Int} (h : c.clE k y i = 0) : c.st k y i = 1 ∧ (c.cl k y i).st k y i = 2 ∧ ∀ k' y' i', ¬ (k' = k ∧ y' = y ∧ i' = i) → (c.cl k y i).st k' y' i' = c.st k' y' i' := by
  have e : c.cl k y i = { c with A := c.A + 1 } := by unfold Ck.cl; rw [if_pos h]; rfl
  unfold Ck.clE at h
  by_cases h1 : c.Has k y i
  · rw [if_pos h1] at h
    by_cases h2 : Civ.place k y i < c.A
    · rw [if_pos h2] at h; omega
    · rw [if_neg h2] at h
      by_cases h3 : Civ.place k y i = c.A
      · have hb := ok.ba
        rw [e]
        refine ⟨?_, ?_, fun k' y' i' hne => ?_⟩
        · unfold Ck.st; rw [if_pos h1, if_neg (by omega), if_neg h2]
        · unfold Ck.st
          rw [if_pos (show Ck.Has { c with A := c.A + 1 } k y i from h1), if_neg (show ¬ Civ.place k y i < c.B by omega), if_pos (show Civ.place k y i < c.A + 1 by omega)]
        · by_cases h4 : c.Has k' y' i'
          · have hn : ¬ Civ.place k' y' i' = c.A := fun q => by
              obtain ⟨g1, rfl, _⟩ := h1
              obtain ⟨g2, rfl, _⟩ := h4
              obtain ⟨rfl, rfl⟩ := Civ.place_inj g2 g1 (q.trans h3.symm)
              exact hne ⟨rfl, rfl, rfl⟩
            unfold Ck.st
            rw [if_pos h4, if_pos (show Ck.Has { c with A := c.A + 1 } k' y' i' from h4)]
            show (if Civ.place k' y' i' < c.B then (3 : Int) else if Civ.place k' y' i' < c.A + 1 then 2 else 1) = _
            by_cases q : Civ.place k' y' i' < c.A
            · rw [if_pos q, if_pos (show Civ.place k' y' i' < c.A + 1 by omega)]
            · rw [if_neg q, if_neg (show ¬ Civ.place k' y' i' < c.A + 1 by omega)]
          · unfold Ck.st
            rw [if_neg h4, if_neg (show ¬ Ck.Has { c with A := c.A + 1 } k' y' i' from h4)]
      · rw [if_neg h3] at h; omega
  · rw [if_neg h1] at h; omega
theorem Ck.fi_st {c : Ck} (ok : c.Ok) {k y i : Int} (h : c.fiE k y i = 0) : c.st k y i = 2 ∧ (c.fi k y i).st k y i = 3 ∧ ∀ k' y' i', ¬ (k' = k ∧ y' = y ∧ i' = i) → (c.fi k y i).st k' y' i' = c.st k' y' i' := by
  have e : c.fi k y i = { c with B := c.B + 1 } := by unfold Ck.fi; rw [if_pos h]; rfl
  unfold Ck.fiE at h
  by_cases h1 : c.Has k y i
  · rw [if_pos h1] at h
    by_cases h2 : Civ.place k y i = c.B ∧ Civ.place k y i < c.A
    · obtain ⟨h3, h5⟩ := h2
      rw [e]
      refine ⟨?_, ?_, fun k' y' i' hne => ?_⟩
      · unfold Ck.st; rw [if_pos h1, if_neg (by omega), if_pos h5]
      · unfold Ck.st
        rw [if_pos (show Ck.Has { c with B := c.B + 1 } k y i from h1), if_pos (show Civ.place k y i < c.B + 1 by omega)]
      · by_cases h4 : c.Has k' y' i'
        · have hn : ¬ Civ.place k' y' i' = c.B := fun q => by
            obtain ⟨g1, rfl, _⟩ := h1
            obtain ⟨g2, rfl, _⟩ := h4
            obtain ⟨rfl, rfl⟩ := Civ.place_inj g2 g1 (q.trans h3.symm)
            exact hne ⟨rfl, rfl, rfl⟩
          unfold Ck.st
          rw [if_pos h4, if_pos (show Ck.Has { c with B := c.B + 1 } k' y' i' from h4)]
          show (if Civ.place k' y' i' < c.B + 1 then (3 : Int) else _) = _
          by_cases q : Civ.place k' y' i' < c.B
          · rw [if_pos q, if_pos (show Civ.place k' y' i' < c.B + 1 by omega)]
          · rw [if_neg q, if_neg (show ¬ Civ.place k' y' i' < c.B + 1 by omega)]
        · unfold Ck.st
          rw [if_neg h4, if_neg (show ¬ Ck.Has { c with B := c.B + 1 } k' y' i' from h4)]
    · rw [if_neg h2] at h; omega
  · rw [if_neg h1] at h; omega
theorem Ck.cl_no {c : Ck} {k y i : Int} (h : ¬ c.clE k y i = 0) : c.cl k y i = c := by unfold Ck.cl; rw [if_neg h]
theorem Ck.fi_no {c : Ck} {k y i : Int} (h : ¬ c.fiE k y i = 0) : c.fi k y i = c := by unfold Ck.fi; rw [if_neg h]
/-- what the rounds keep -/
def OnI (w : World) (P : Nat) (k ak ay ai la : Int) (W : World) : Prop := ∃ c : Ck, CkAt W P c ∧ c.Ok ∧ c.k = k ∧ la = c.st ak ay ai ∧ W.heap[w.heap.size]? = some (.cells #[.int .i64 ak, .int .i64 ay, .int .i64 ai] 24 (0, 0)) ∧ Below w.heap.size w W
set_option maxHeartbeats 8000000 in
theorem once_walk (w : World) (k n ak ay ai : Int) (A : Option Addr) (L : List StepV) (cp : Nat) (hr : RowStepV w A L) (hl : L.length ≤ 60) (hk : Civ.isKind k) (h1 : 0 ≤ n) (h2 : n ≤ 2932896) :
    Calls Try.prog 4 #[.int .i64 k, .int .i64 n, .slice A L.length cp, .agg #[.int .i64 ak, .int .i64 ay, .int .i64 ai]] w fun e w' => e = .returned (.bool true) ∧ Below w.heap.size w w' := by
  obtain ⟨F, f0, f1, _, ho, _⟩ := of_both n k hk h1 h2
  have HN := Lib.hid (fun w => new_ok k n F w hk f0 f1 ho)
  have HO := Lib.hid (Ck.new_ok hk f0 f1)
  have HR := Lib.hid hr
  have HLv := Lib.hid lives27_any
  have hl' : ¬ (60 : Int) < (L.length : Int) := by omega
  have HL := Lib.hid hl
  have HA0 := Lib.hid (heap_alloc_new w (.cells #[.int .i64 ak, .int .i64 ay, .int .i64 ai] 24))
  have HBA := Lib.hid (below_alloc w (.cells #[.int .i64 ak, .int .i64 ay, .int .i64 ai] 24))
  clear hr hk h1 h2 f0 f1 ho hl
  go_enter Try.func4, Try.ntmps4
  go_wp2_with (go_at_call 8; refine (HN.out _).mono ?_; rintro e w1 ⟨P, rfl, hP, hc, hb⟩; have HC1 := Lib.hid hc; have HB1 := Lib.hid (below_then HBA.out hb); have HA1 := Lib.hid (heap_on hb HA0.out); have HPa : Hid (w.heap.size < P) := Lib.hid (by simp at hP; omega); clear hP hc hb; refine Stop.out ?_)
  unfold Stop
  clear hl'
  obtain ⟨x0, x1, x2⟩ := cells3_row HA1.out
  go_wp2_with (go_at_call 19; refine (code_state _ P _ ak ay ai HC1.out HO.out).mono ?_; rintro e w2 ⟨rfl, hb⟩; have HC2 := Lib.hid (HC1.out.on hb); have HB2 := Lib.hid (below_then HB1.out hb); have HA2 := Lib.hid (heap_on hb HA1.out); clear hb; refine Stop.out ?_)
  unfold Stop
  clear x0 x1 x2
  obtain ⟨la0, hla0⟩ : ∃ la0, la0 = (Ck.new k F).st ak ay ai := ⟨_, rfl⟩
  rw [← hla0]
  have HI2 : Hid (OnI w P k ak ay ai la0 w2) := Lib.hid ⟨_, HC2.out, HO.out, rfl, hla0, HA2.out, HB2.out⟩
  clear hla0 HC1 HB1 HA1 HA0 HBA HC2 HB2 HA2 HO HN
  go_wp2_with fail
  go_loopw [10, 32] (fun l i wr => ∃ (j : Nat) (la : Int), j ≤ L.length ∧ i = .int .i64 (j : Nat) ∧ l = .int .i64 la ∧ Hid (OnI w P k ak ay ai la wr)) (fun _ i _ => roundsLeft L.length i)
  case atStart => exact ⟨0, la0, Nat.zero_le _, rfl, rfl, HI2⟩
  case round =>
    clear HI2
    obtain ⟨j, la, hj, rfl, rfl, HI⟩ := hrel
    obtain ⟨c, hc, ok, hk, hla, hA, hb⟩ := HI.out
    by_cases hlt : j < L.length
    · have hlt' : (j : Int) < (L.length : Int) := by omega
      have hw : wrap64 ((j : Int) + 1) = (j : Int) + 1 := wrapI _ (by omega) (by have := HL.out; omega)
      obtain ⟨b, o, rfl, hbl, y0, y1, y2, y3⟩ := (HR.out.on hb).at_ j hlt
      generalize hs0 : L[j].1 = s0 at y0
      generalize L[j].2.1 = pk at y1
      generalize L[j].2.2.1 = py at y2
      generalize L[j].2.2.2 = pi at y3
      have HC0 := Lib.hid hc
      have HOk := Lib.hid ok
      have HBr := Lib.hid hb
      have HAr := Lib.hid hA
      have HKk := Lib.hid hk
      have HLa := Lib.hid hla
      have HX0 := Lib.hid (heap_alloc_new wr (.cells #[.int .i64 s0, .int .i64 pk, .int .i64 py, .int .i64 pi] 26))
      have HPg : Hid (wr.heap.size ≠ P) := Lib.hid (Nat.ne_of_gt (heapLt hc))
      have HPn : Hid (w.heap.size ≠ P) := Lib.hid (Nat.ne_of_lt HPa.out)
      have HAg : Hid (w.heap.size ≠ wr.heap.size) := Lib.hid (Nat.ne_of_lt (heapLt hA))
      have HJ := Lib.hid (And.intro hj hlt)
      clear hs0 HI hc ok hb hk hbl hla hA hj hlt
      by_cases h2 : s0 = 2
      · subst h2
        go_wp2_with (go_at_call 21; refine (code_first_ _ P c (HC0.out.on (below_alloc _ _)) HOk.out).mono ?_; rintro e w2 ⟨rfl, hb2⟩; have HC2 := Lib.hid ((HC0.out.on (below_alloc _ _)).on hb2); have HX2 := Lib.hid (heap_on hb2 HX0.out); have HA2 := Lib.hid (heap_on hb2 (heap_on (below_alloc _ _) HAr.out)); have HB2 := Lib.hid (below_any HBr.out (Nat.le_refl _) (below_then (below_alloc _ _) hb2)); have hz2 : wr.heap.size < w2.heap.size := (by have := hb2.size; simp at this; omega); clear hb2; refine Stop.out ?_)
        unfold Stop
        clear y0 y1 y2 y3
        obtain ⟨z1, z2, z3⟩ := frozen4_row HX2.out
        obtain ⟨x0, x1, x2, x3⟩ := cells4_row HX2.out
        generalize Civ.perK c.k c.A = pk' at *
        generalize Civ.perY c.k c.A = py' at *
        generalize Civ.perI c.k c.A = pi' at *
        have HX3 := Lib.hid (row_put1 (.int .i64 pk') (.int .i64 py') (.int .i64 pi') HX2.out)
        have hcg := chg_put1 w2 wr.heap.size (.int .i64 pk') (.int .i64 py') (.int .i64 pi')
        have HC3 : Hid (CkAt _ P c) := Lib.hid ((hcg.block P (heapLt HC2.out) HPg.out.symm).trans HC2.out)
        have HA3 := Lib.hid ((hcg.block _ (heapLt HA2.out) HAg.out).trans HA2.out)
        have HB3 := Lib.hid (HB2.out.trans (hcg.below (base := w.heap.size) HB2.out.size HBr.out.size))
        clear hcg HX2 HC2 HA2 HB2
        by_cases he : c.clE pk' py' pi' = 0
        · by_cases hq : ak = pk' ∧ ay = py' ∧ ai = pi'
          · have hst := Ck.cl_st HOk.out he
            obtain ⟨rfl, rfl, rfl⟩ := hq
            have hlo : la = 1 := HLa.out.trans hst.1
            subst hlo
            have HSt : Hid (∀ W, CkAt W P c → Calls Try.prog 19 #[.pointer (some ⟨P, 0, none⟩), .agg #[.int .i64 ak, .int .i64 ay, .int .i64 ai]] W fun e w' => e = .returned (.int .i64 1) ∧ Below W.heap.size W w') := Lib.hid (fun W hW => by have := code_state W P c ak ay ai hW HOk.out; rw [hst.1] at this; exact this)
            have hk5 := Ck.cl_ok HOk.out ak ay ai
            have HSs : Hid (∀ W, CkAt W P (c.cl ak ay ai) → Calls Try.prog 19 #[.pointer (some ⟨P, 0, none⟩), .agg #[.int .i64 ak, .int .i64 ay, .int .i64 ai]] W fun e w' => e = .returned (.int .i64 2) ∧ Below W.heap.size W w') := Lib.hid (fun W hW => by have := code_state W P _ ak ay ai hW hk5.1; rw [hst.2.1] at this; exact this)
            have HSa := HSs
            have HNw : Hid (2 = (c.cl ak ay ai).st ak ay ai) := Lib.hid hst.2.1.symm
            have HSp : Hid (∀ W, CkAt W P c → Calls Try.prog 12 #[.pointer (some ⟨P, 0, none⟩), .agg #[.int .i64 ak, .int .i64 ay, .int .i64 ai]] W (StepP W P (c.cl ak ay ai) 0)) := Lib.hid (fun W hW => by have := code_close W P c ak ay ai hW HOk.out; rw [he] at this; exact this)
            clear he hst hk5
            go_wp2_with (go_at_call 19; refine (HSt.out _ HC3.out).mono ?_; rintro e w4 ⟨rfl, hb⟩; have HX4 := Lib.hid (heap_on hb HX3.out); have HA4 := Lib.hid (heap_on hb HA3.out); have HC4 := Lib.hid (HC3.out.on hb); have HB4 := Lib.hid (below_any HB3.out (Nat.le_refl _) hb); clear hb; refine Stop.out ?_)
            unfold Stop
            clear x0 x1 x2 x3 z1 z2 z3
            obtain ⟨x0, x1, x2, x3⟩ := cells4_row HX4.out
            go_wp2_with (go_at_call 12; refine (HSp.out _ HC4.out).mono ?_; rintro e w5 hs; have HX5 := Lib.hid (hs.on HX4.out HPg.out); have HA5 := Lib.hid (hs.on HA4.out HPn.out); have HC5 := Lib.hid hs.2.1; have HB5 := Lib.hid (HB4.out.trans (hs.2.2.below (base := w.heap.size) HB4.out.size (Nat.le_of_lt HPa.out))); obtain rfl := hs.1; clear hs; refine Stop.out ?_)
            unfold Stop
            clear x0 x1 x2 x3
            go_wp2_with fail
            have HXd : Hid (w5.drew.heap[wr.heap.size]? = _) := Lib.hid HX5.out
            have HAd : Hid (w5.drew.heap[w.heap.size]? = _) := Lib.hid HA5.out
            have HCd : Hid (CkAt w5.drew P (c.cl ak ay ai)) := Lib.hid HC5.out
            have HBd := Lib.hid HB5.out.drew
            refine wp_region_held_drew (S := fun W => W.cell? ⟨wr.heap.size, 1, none⟩ = some (.int .i64 ak) ∧ W.cell? ⟨wr.heap.size, 2, none⟩ = some (.int .i64 ay) ∧ W.cell? ⟨wr.heap.size, 3, none⟩ = some (.int .i64 ai) ∧ W.cell? ⟨w.heap.size, 0, none⟩ = some (.int .i64 ak) ∧ W.cell? ⟨w.heap.size, 1, none⟩ = some (.int .i64 ay) ∧ W.cell? ⟨w.heap.size, 2, none⟩ = some (.int .i64 ai)) (by kernel_rfl) ⟨(cells4_row HX5.out).2.1, (cells4_row HX5.out).2.2.1, (cells4_row HX5.out).2.2.2, (cells3_row HA5.out).1, (cells3_row HA5.out).2.1, (cells3_row HA5.out).2.2⟩ ?_
            intro hHeld
            clear HX5 HA5 HC5 HB5
            generalize w5.drew = wd at HXd HAd HCd HBd hHeld ⊢
            (refine takeH (i := 0) (v := ?_) rfl (by kernel_rfl) (by kernel_rfl) (by kernel_rfl) (fun _ _ _ h => h) (Or.inl ⟨by rfl, ?_⟩) (by assumption) ?_; rotate_left; (focus ((intro wS hSw); (try dsimp only at hSw); obtain ⟨s0, s1, s2, s3, s4, s5⟩ := hSw; go_simp; (try with_reducible rfl); done)); (try simp only [Act.put, List.setIfInBounds_toArray, List.set_cons_zero, List.set_cons_succ]))
            (refine takeH (i := 1) (v := ?_) rfl (by kernel_rfl) (by kernel_rfl) (by kernel_rfl) (fun _ _ _ h => h) (Or.inl ⟨by rfl, ?_⟩) (by assumption) ?_; rotate_left; (focus ((intro wS hSw); (try dsimp only at hSw); obtain ⟨s0, s1, s2, s3, s4, s5⟩ := hSw; go_simp; (try with_reducible rfl); done)); (try simp only [Act.put, List.setIfInBounds_toArray, List.set_cons_zero, List.set_cons_succ]))
            (refine takeH (i := 2) (v := ?_) rfl (by kernel_rfl) (by kernel_rfl) (by kernel_rfl) (fun _ _ _ h => h) (Or.inl ⟨by rfl, ?_⟩) (by assumption) ?_; rotate_left; (focus ((intro wS hSw); (try dsimp only at hSw); obtain ⟨s0, s1, s2, s3, s4, s5⟩ := hSw; go_simp; (try with_reducible rfl); done)); (try simp only [Act.put, List.setIfInBounds_toArray, List.set_cons_zero, List.set_cons_succ]))
            (refine takeH (i := 4) (v := ?_) rfl (by kernel_rfl) (by kernel_rfl) (by kernel_rfl) (fun _ _ _ h => h) (Or.inl ⟨by rfl, ?_⟩) (by assumption) ?_; rotate_left; (focus ((intro wS hSw); (try dsimp only at hSw); obtain ⟨s0, s1, s2, s3, s4, s5⟩ := hSw; go_simp; (try with_reducible rfl); done)); (try simp only [Act.put, List.setIfInBounds_toArray, List.set_cons_zero, List.set_cons_succ]))
            (refine takeH (i := 5) (v := ?_) rfl (by kernel_rfl) (by kernel_rfl) (by kernel_rfl) (fun _ _ _ h => h) (Or.inl ⟨by rfl, ?_⟩) (by assumption) ?_; rotate_left; (focus ((intro wS hSw); (try dsimp only at hSw); obtain ⟨s0, s1, s2, s3, s4, s5⟩ := hSw; go_simp; (try with_reducible rfl); done)); (try simp only [Act.put, List.setIfInBounds_toArray, List.set_cons_zero, List.set_cons_succ]))
            refine aloneH (i := 3) rfl (by kernel_rfl) (fun K hK => ?_)
            rw [if_pos (by rfl)]
            go_simp; ((refine (HSs.out _ (HCd.out.on (Below.refl _ wd))).mono ?_); (rintro e w1 ⟨rfl, hb⟩); have HB1 := Lib.hid hb; clear hb; (try go_simp))
            refine hK.out _ _ (⟨cell_on HB1.out hHeld.1, cell_on HB1.out hHeld.2.1, cell_on HB1.out hHeld.2.2.1, cell_on HB1.out hHeld.2.2.2.1, cell_on HB1.out hHeld.2.2.2.2.1, cell_on HB1.out hHeld.2.2.2.2.2⟩) (fun hNew => ?_)
            clear hK K hHeld; (have hHeld := hNew); clear hNew; (try simp only [Act.put, List.setIfInBounds_toArray, List.set_cons_zero, List.set_cons_succ])
            refine aloneH (i := 6) rfl (by kernel_rfl) (fun K hK => ?_)
            rw [if_pos (by rfl)]
            go_simp; ((refine (HSa.out _ (HCd.out.on HB1.out)).mono ?_); (rintro e w2 ⟨rfl, hb⟩); have HB2 := Lib.hid hb; clear hb; (try go_simp))
            refine hK.out _ _ (⟨cell_on HB2.out hHeld.1, cell_on HB2.out hHeld.2.1, cell_on HB2.out hHeld.2.2.1, cell_on HB2.out hHeld.2.2.2.1, cell_on HB2.out hHeld.2.2.2.2.1, cell_on HB2.out hHeld.2.2.2.2.2⟩) (fun hNew => ?_)
            clear hK K hHeld; (have hHeld := hNew); clear hNew; (try simp only [Act.put, List.setIfInBounds_toArray, List.set_cons_zero, List.set_cons_succ])
            (refine takeH (i := 7) (v := ?_) rfl (by kernel_rfl) (by kernel_rfl) (by kernel_rfl) (fun _ _ _ h => h) (Or.inl ⟨by rfl, ?_⟩) (by assumption) ?_; rotate_left; (focus ((intro wS hSw); (try dsimp only at hSw); obtain ⟨s0, s1, s2, s3, s4, s5⟩ := hSw; go_simp; (try with_reducible rfl); done)); (try simp only [Act.put, List.setIfInBounds_toArray, List.set_cons_zero, List.set_cons_succ]))
            (refine takeH (i := 8) (v := ?_) rfl (by kernel_rfl) (by kernel_rfl) (by kernel_rfl) (fun _ _ _ h => h) (Or.inl ⟨by rfl, ?_⟩) (by assumption) ?_; rotate_left; (focus ((intro wS hSw); (try dsimp only at hSw); obtain ⟨s0, s1, s2, s3, s4, s5⟩ := hSw; go_simp; (try with_reducible rfl); done)); (try simp only [Act.put, List.setIfInBounds_toArray, List.set_cons_zero, List.set_cons_succ]))
            refine wpAnyH_done (by kernel_rfl) ?_ _
            have HB9 := Lib.hid (below_any HBd.out (Nat.le_refl _) (below_then HB1.out HB2.out))
            have HC9 := Lib.hid (HCd.out.on (below_then HB1.out HB2.out))
            have HA9 := Lib.hid (heap_on (below_then HB1.out HB2.out) HAd.out)
            have HX9 := Lib.hid (heap_on (below_then HB1.out HB2.out) HXd.out)
            clear hHeld HBd HCd HAd HXd
            obtain ⟨x0, x1, x2, x3⟩ := cells4_row HX9.out
            obtain ⟨a0, a1, a2⟩ := cells3_row HA9.out
            go_wp2
            go_roundw
            case rel =>
              have h5 := Ck.cl_ok HOk.out ak ay ai
              exact ⟨j + 1, _, HJ.out.2, by go_num, rfl, Lib.hid ⟨_, HC9.out, h5.1, h5.2.1.trans HKk.out, HNw.out, HA9.out, HB9.out⟩⟩
            case measure => rw [hw]; exact roundsLeft_next _ _ HJ.out.2
          · have hst := Ck.cl_st HOk.out he
            have HSt : Hid (∀ W, CkAt W P c → Calls Try.prog 19 #[.pointer (some ⟨P, 0, none⟩), .agg #[.int .i64 pk', .int .i64 py', .int .i64 pi']] W fun e w' => e = .returned (.int .i64 1) ∧ Below W.heap.size W w') := Lib.hid (fun W hW => by have := code_state W P c pk' py' pi' hW HOk.out; rw [hst.1] at this; exact this)
            have hk5 := Ck.cl_ok HOk.out pk' py' pi'
            have HSs : Hid (∀ W, CkAt W P (c.cl pk' py' pi') → Calls Try.prog 19 #[.pointer (some ⟨P, 0, none⟩), .agg #[.int .i64 pk', .int .i64 py', .int .i64 pi']] W fun e w' => e = .returned (.int .i64 2) ∧ Below W.heap.size W w') := Lib.hid (fun W hW => by have := code_state W P _ pk' py' pi' hW hk5.1; rw [hst.2.1] at this; exact this)
            have hot := (hst.2.2 ak ay ai hq).trans HLa.out.symm
            have HSa : Hid (∀ W, CkAt W P (c.cl pk' py' pi') → Calls Try.prog 19 #[.pointer (some ⟨P, 0, none⟩), .agg #[.int .i64 ak, .int .i64 ay, .int .i64 ai]] W fun e w' => e = .returned (.int .i64 la) ∧ Below W.heap.size W w') := Lib.hid (fun W hW => by have := code_state W P _ ak ay ai hW hk5.1; rw [hot] at this; exact this)
            have HNw : Hid (la = (c.cl pk' py' pi').st ak ay ai) := Lib.hid hot.symm
            have HSp : Hid (∀ W, CkAt W P c → Calls Try.prog 12 #[.pointer (some ⟨P, 0, none⟩), .agg #[.int .i64 pk', .int .i64 py', .int .i64 pi']] W (StepP W P (c.cl pk' py' pi') 0)) := Lib.hid (fun W hW => by have := code_close W P c pk' py' pi' hW HOk.out; rw [he] at this; exact this)
            clear he hst hk5 hq hot
            go_wp2_with (go_at_call 19; refine (HSt.out _ HC3.out).mono ?_; rintro e w4 ⟨rfl, hb⟩; have HX4 := Lib.hid (heap_on hb HX3.out); have HA4 := Lib.hid (heap_on hb HA3.out); have HC4 := Lib.hid (HC3.out.on hb); have HB4 := Lib.hid (below_any HB3.out (Nat.le_refl _) hb); clear hb; refine Stop.out ?_)
            unfold Stop
            clear x0 x1 x2 x3 z1 z2 z3
            obtain ⟨x0, x1, x2, x3⟩ := cells4_row HX4.out
            go_wp2_with (go_at_call 12; refine (HSp.out _ HC4.out).mono ?_; rintro e w5 hs; have HX5 := Lib.hid (hs.on HX4.out HPg.out); have HA5 := Lib.hid (hs.on HA4.out HPn.out); have HC5 := Lib.hid hs.2.1; have HB5 := Lib.hid (HB4.out.trans (hs.2.2.below (base := w.heap.size) HB4.out.size (Nat.le_of_lt HPa.out))); obtain rfl := hs.1; clear hs; refine Stop.out ?_)
            unfold Stop
            clear x0 x1 x2 x3
            go_wp2_with fail
            have HXd : Hid (w5.drew.heap[wr.heap.size]? = _) := Lib.hid HX5.out
            have HAd : Hid (w5.drew.heap[w.heap.size]? = _) := Lib.hid HA5.out
            have HCd : Hid (CkAt w5.drew P (c.cl pk' py' pi')) := Lib.hid HC5.out
            have HBd := Lib.hid HB5.out.drew
            refine wp_region_held_drew (S := fun W => W.cell? ⟨wr.heap.size, 1, none⟩ = some (.int .i64 pk') ∧ W.cell? ⟨wr.heap.size, 2, none⟩ = some (.int .i64 py') ∧ W.cell? ⟨wr.heap.size, 3, none⟩ = some (.int .i64 pi') ∧ W.cell? ⟨w.heap.size, 0, none⟩ = some (.int .i64 ak) ∧ W.cell? ⟨w.heap.size, 1, none⟩ = some (.int .i64 ay) ∧ W.cell? ⟨w.heap.size, 2, none⟩ = some (.int .i64 ai)) (by kernel_rfl) ⟨(cells4_row HX5.out).2.1, (cells4_row HX5.out).2.2.1, (cells4_row HX5.out).2.2.2, (cells3_row HA5.out).1, (cells3_row HA5.out).2.1, (cells3_row HA5.out).2.2⟩ ?_
            intro hHeld
            clear HX5 HA5 HC5 HB5
            generalize w5.drew = wd at HXd HAd HCd HBd hHeld ⊢
            (refine takeH (i := 0) (v := ?_) rfl (by kernel_rfl) (by kernel_rfl) (by kernel_rfl) (fun _ _ _ h => h) (Or.inl ⟨by rfl, ?_⟩) (by assumption) ?_; rotate_left; (focus ((intro wS hSw); (try dsimp only at hSw); obtain ⟨s0, s1, s2, s3, s4, s5⟩ := hSw; go_simp; (try with_reducible rfl); done)); (try simp only [Act.put, List.setIfInBounds_toArray, List.set_cons_zero, List.set_cons_succ]))
            (refine takeH (i := 1) (v := ?_) rfl (by kernel_rfl) (by kernel_rfl) (by kernel_rfl) (fun _ _ _ h => h) (Or.inl ⟨by rfl, ?_⟩) (by assumption) ?_; rotate_left; (focus ((intro wS hSw); (try dsimp only at hSw); obtain ⟨s0, s1, s2, s3, s4, s5⟩ := hSw; go_simp; (try with_reducible rfl); done)); (try simp only [Act.put, List.setIfInBounds_toArray, List.set_cons_zero, List.set_cons_succ]))
            (refine takeH (i := 2) (v := ?_) rfl (by kernel_rfl) (by kernel_rfl) (by kernel_rfl) (fun _ _ _ h => h) (Or.inl ⟨by rfl, ?_⟩) (by assumption) ?_; rotate_left; (focus ((intro wS hSw); (try dsimp only at hSw); obtain ⟨s0, s1, s2, s3, s4, s5⟩ := hSw; go_simp; (try with_reducible rfl); done)); (try simp only [Act.put, List.setIfInBounds_toArray, List.set_cons_zero, List.set_cons_succ]))
            (refine takeH (i := 4) (v := ?_) rfl (by kernel_rfl) (by kernel_rfl) (by kernel_rfl) (fun _ _ _ h => h) (Or.inl ⟨by rfl, ?_⟩) (by assumption) ?_; rotate_left; (focus ((intro wS hSw); (try dsimp only at hSw); obtain ⟨s0, s1, s2, s3, s4, s5⟩ := hSw; go_simp; (try with_reducible rfl); done)); (try simp only [Act.put, List.setIfInBounds_toArray, List.set_cons_zero, List.set_cons_succ]))
            (refine takeH (i := 5) (v := ?_) rfl (by kernel_rfl) (by kernel_rfl) (by kernel_rfl) (fun _ _ _ h => h) (Or.inl ⟨by rfl, ?_⟩) (by assumption) ?_; rotate_left; (focus ((intro wS hSw); (try dsimp only at hSw); obtain ⟨s0, s1, s2, s3, s4, s5⟩ := hSw; go_simp; (try with_reducible rfl); done)); (try simp only [Act.put, List.setIfInBounds_toArray, List.set_cons_zero, List.set_cons_succ]))
            refine aloneH (i := 3) rfl (by kernel_rfl) (fun K hK => ?_)
            rw [if_pos (by rfl)]
            go_simp; ((refine (HSs.out _ (HCd.out.on (Below.refl _ wd))).mono ?_); (rintro e w1 ⟨rfl, hb⟩); have HB1 := Lib.hid hb; clear hb; (try go_simp))
            refine hK.out _ _ (⟨cell_on HB1.out hHeld.1, cell_on HB1.out hHeld.2.1, cell_on HB1.out hHeld.2.2.1, cell_on HB1.out hHeld.2.2.2.1, cell_on HB1.out hHeld.2.2.2.2.1, cell_on HB1.out hHeld.2.2.2.2.2⟩) (fun hNew => ?_)
            clear hK K hHeld; (have hHeld := hNew); clear hNew; (try simp only [Act.put, List.setIfInBounds_toArray, List.set_cons_zero, List.set_cons_succ])
            refine aloneH (i := 6) rfl (by kernel_rfl) (fun K hK => ?_)
            rw [if_pos (by rfl)]
            go_simp; ((refine (HSa.out _ (HCd.out.on HB1.out)).mono ?_); (rintro e w2 ⟨rfl, hb⟩); have HB2 := Lib.hid hb; clear hb; (try go_simp))
            refine hK.out _ _ (⟨cell_on HB2.out hHeld.1, cell_on HB2.out hHeld.2.1, cell_on HB2.out hHeld.2.2.1, cell_on HB2.out hHeld.2.2.2.1, cell_on HB2.out hHeld.2.2.2.2.1, cell_on HB2.out hHeld.2.2.2.2.2⟩) (fun hNew => ?_)
            clear hK K hHeld; (have hHeld := hNew); clear hNew; (try simp only [Act.put, List.setIfInBounds_toArray, List.set_cons_zero, List.set_cons_succ])
            (refine takeH (i := 7) (v := ?_) rfl (by kernel_rfl) (by kernel_rfl) (by kernel_rfl) (fun _ _ _ h => h) (Or.inl ⟨by rfl, ?_⟩) (by assumption) ?_; rotate_left; (focus ((intro wS hSw); (try dsimp only at hSw); obtain ⟨s0, s1, s2, s3, s4, s5⟩ := hSw; go_simp; (try with_reducible rfl); done)); (try simp only [Act.put, List.setIfInBounds_toArray, List.set_cons_zero, List.set_cons_succ]))
            (refine takeH (i := 8) (v := ?_) rfl (by kernel_rfl) (by kernel_rfl) (by kernel_rfl) (fun _ _ _ h => h) (Or.inl ⟨by rfl, ?_⟩) (by assumption) ?_; rotate_left; (focus ((intro wS hSw); (try dsimp only at hSw); obtain ⟨s0, s1, s2, s3, s4, s5⟩ := hSw; go_simp; (try with_reducible rfl); done)); (try simp only [Act.put, List.setIfInBounds_toArray, List.set_cons_zero, List.set_cons_succ]))
            refine wpAnyH_done (by kernel_rfl) ?_ _
            have HB9 := Lib.hid (below_any HBd.out (Nat.le_refl _) (below_then HB1.out HB2.out))
            have HC9 := Lib.hid (HCd.out.on (below_then HB1.out HB2.out))
            have HA9 := Lib.hid (heap_on (below_then HB1.out HB2.out) HAd.out)
            have HX9 := Lib.hid (heap_on (below_then HB1.out HB2.out) HXd.out)
            clear hHeld HBd HCd HAd HXd
            obtain ⟨x0, x1, x2, x3⟩ := cells4_row HX9.out
            obtain ⟨a0, a1, a2⟩ := cells3_row HA9.out
            go_wp2
            go_roundw
            case rel =>
              have h5 := Ck.cl_ok HOk.out pk' py' pi'
              exact ⟨j + 1, _, HJ.out.2, by go_num, rfl, Lib.hid ⟨_, HC9.out, h5.1, h5.2.1.trans HKk.out, HNw.out, HA9.out, HB9.out⟩⟩
            case measure => rw [hw]; exact roundsLeft_next _ _ HJ.out.2
        · have er0 : (c.clE pk' py' pi' != 0) = true := bne_t he
          have er1 : (c.clE pk' py' pi' == 0) = false := by simp [he]
          have hcl := Ck.cl_no he
          obtain ⟨ow, how⟩ : ∃ ow, ow = c.st pk' py' pi' := ⟨_, rfl⟩
          have HSt : Hid (∀ W, CkAt W P c → Calls Try.prog 19 #[.pointer (some ⟨P, 0, none⟩), .agg #[.int .i64 pk', .int .i64 py', .int .i64 pi']] W fun e w' => e = .returned (.int .i64 ow) ∧ Below W.heap.size W w') := Lib.hid (fun W hW => by rw [how]; exact code_state W P c _ _ _ hW HOk.out)
          have HSs : Hid (∀ W, CkAt W P c → Calls Try.prog 19 #[.pointer (some ⟨P, 0, none⟩), .agg #[.int .i64 pk', .int .i64 py', .int .i64 pi']] W fun e w' => e = .returned (.int .i64 ow) ∧ Below W.heap.size W w') := Lib.hid (fun W hW => by rw [how]; exact code_state W P c _ _ _ hW HOk.out)
          have HSa : Hid (∀ W, CkAt W P c → Calls Try.prog 19 #[.pointer (some ⟨P, 0, none⟩), .agg #[.int .i64 ak, .int .i64 ay, .int .i64 ai]] W fun e w' => e = .returned (.int .i64 la) ∧ Below W.heap.size W w') := Lib.hid (fun W hW => by rw [HLa.out]; exact code_state W P c _ _ _ hW HOk.out)
          have HSp : Hid (∀ W, CkAt W P c → Calls Try.prog 12 #[.pointer (some ⟨P, 0, none⟩), .agg #[.int .i64 pk', .int .i64 py', .int .i64 pi']] W (StepP W P c (c.clE pk' py' pi'))) := Lib.hid (fun W hW => by have := code_close W P c pk' py' pi' hW HOk.out; rw [hcl] at this; exact this)
          have HNw : Hid (la = c.st ak ay ai) := HLa
          clear he hcl how
          generalize c.clE pk' py' pi' = er at *
          go_wp2_with (go_at_call 19; refine (HSt.out _ HC3.out).mono ?_; rintro e w4 ⟨rfl, hb⟩; have HX4 := Lib.hid (heap_on hb HX3.out); have HA4 := Lib.hid (heap_on hb HA3.out); have HC4 := Lib.hid (HC3.out.on hb); have HB4 := Lib.hid (below_any HB3.out (Nat.le_refl _) hb); clear hb; refine Stop.out ?_)
          unfold Stop
          clear x0 x1 x2 x3 z1 z2 z3
          obtain ⟨x0, x1, x2, x3⟩ := cells4_row HX4.out
          go_wp2_with (go_at_call 12; refine (HSp.out _ HC4.out).mono ?_; rintro e w5 hs; have HX5 := Lib.hid (hs.on HX4.out HPg.out); have HA5 := Lib.hid (hs.on HA4.out HPn.out); have HC5 := Lib.hid hs.2.1; have HB5 := Lib.hid (HB4.out.trans (hs.2.2.below (base := w.heap.size) HB4.out.size (Nat.le_of_lt HPa.out))); obtain rfl := hs.1; clear hs; refine Stop.out ?_)
          unfold Stop
          clear x0 x1 x2 x3
          go_wp2_with fail
          have HXd : Hid (w5.drew.heap[wr.heap.size]? = _) := Lib.hid HX5.out
          have HAd : Hid (w5.drew.heap[w.heap.size]? = _) := Lib.hid HA5.out
          have HCd : Hid (CkAt w5.drew P c) := Lib.hid HC5.out
          have HBd := Lib.hid HB5.out.drew
          refine wp_region_held_drew (S := fun W => W.cell? ⟨wr.heap.size, 1, none⟩ = some (.int .i64 pk') ∧ W.cell? ⟨wr.heap.size, 2, none⟩ = some (.int .i64 py') ∧ W.cell? ⟨wr.heap.size, 3, none⟩ = some (.int .i64 pi') ∧ W.cell? ⟨w.heap.size, 0, none⟩ = some (.int .i64 ak) ∧ W.cell? ⟨w.heap.size, 1, none⟩ = some (.int .i64 ay) ∧ W.cell? ⟨w.heap.size, 2, none⟩ = some (.int .i64 ai)) (by kernel_rfl) ⟨(cells4_row HX5.out).2.1, (cells4_row HX5.out).2.2.1, (cells4_row HX5.out).2.2.2, (cells3_row HA5.out).1, (cells3_row HA5.out).2.1, (cells3_row HA5.out).2.2⟩ ?_
          intro hHeld
          clear HX5 HA5 HC5 HB5
          generalize w5.drew = wd at HXd HAd HCd HBd hHeld ⊢
          (refine takeH (i := 0) (v := ?_) rfl (by kernel_rfl) (by kernel_rfl) (by kernel_rfl) (fun _ _ _ h => h) (Or.inl ⟨by rfl, ?_⟩) (by assumption) ?_; rotate_left; (focus ((intro wS hSw); (try dsimp only at hSw); obtain ⟨s0, s1, s2, s3, s4, s5⟩ := hSw; go_simp; (try with_reducible rfl); done)); (try simp only [Act.put, List.setIfInBounds_toArray, List.set_cons_zero, List.set_cons_succ]))
          (refine takeH (i := 1) (v := ?_) rfl (by kernel_rfl) (by kernel_rfl) (by kernel_rfl) (fun _ _ _ h => h) (Or.inl ⟨by rfl, ?_⟩) (by assumption) ?_; rotate_left; (focus ((intro wS hSw); (try dsimp only at hSw); obtain ⟨s0, s1, s2, s3, s4, s5⟩ := hSw; go_simp; (try with_reducible rfl); done)); (try simp only [Act.put, List.setIfInBounds_toArray, List.set_cons_zero, List.set_cons_succ]))
          (refine takeH (i := 2) (v := ?_) rfl (by kernel_rfl) (by kernel_rfl) (by kernel_rfl) (fun _ _ _ h => h) (Or.inl ⟨by rfl, ?_⟩) (by assumption) ?_; rotate_left; (focus ((intro wS hSw); (try dsimp only at hSw); obtain ⟨s0, s1, s2, s3, s4, s5⟩ := hSw; go_simp; (try with_reducible rfl); done)); (try simp only [Act.put, List.setIfInBounds_toArray, List.set_cons_zero, List.set_cons_succ]))
          (refine takeH (i := 4) (v := ?_) rfl (by kernel_rfl) (by kernel_rfl) (by kernel_rfl) (fun _ _ _ h => h) (Or.inl ⟨by rfl, ?_⟩) (by assumption) ?_; rotate_left; (focus ((intro wS hSw); (try dsimp only at hSw); obtain ⟨s0, s1, s2, s3, s4, s5⟩ := hSw; go_simp; (try with_reducible rfl); done)); (try simp only [Act.put, List.setIfInBounds_toArray, List.set_cons_zero, List.set_cons_succ]))
          (refine takeH (i := 5) (v := ?_) rfl (by kernel_rfl) (by kernel_rfl) (by kernel_rfl) (fun _ _ _ h => h) (Or.inl ⟨by rfl, ?_⟩) (by assumption) ?_; rotate_left; (focus ((intro wS hSw); (try dsimp only at hSw); obtain ⟨s0, s1, s2, s3, s4, s5⟩ := hSw; go_simp; (try with_reducible rfl); done)); (try simp only [Act.put, List.setIfInBounds_toArray, List.set_cons_zero, List.set_cons_succ]))
          refine aloneH (i := 3) rfl (by kernel_rfl) (fun K hK => ?_)
          rw [if_pos (by rfl)]
          go_simp; ((refine (HSs.out _ (HCd.out.on (Below.refl _ wd))).mono ?_); (rintro e w1 ⟨rfl, hb⟩); have HB1 := Lib.hid hb; clear hb; (try go_simp))
          refine hK.out _ _ (⟨cell_on HB1.out hHeld.1, cell_on HB1.out hHeld.2.1, cell_on HB1.out hHeld.2.2.1, cell_on HB1.out hHeld.2.2.2.1, cell_on HB1.out hHeld.2.2.2.2.1, cell_on HB1.out hHeld.2.2.2.2.2⟩) (fun hNew => ?_)
          clear hK K hHeld; (have hHeld := hNew); clear hNew; (try simp only [Act.put, List.setIfInBounds_toArray, List.set_cons_zero, List.set_cons_succ])
          refine aloneH (i := 6) rfl (by kernel_rfl) (fun K hK => ?_)
          rw [if_pos (by rfl)]
          go_simp; ((refine (HSa.out _ (HCd.out.on HB1.out)).mono ?_); (rintro e w2 ⟨rfl, hb⟩); have HB2 := Lib.hid hb; clear hb; (try go_simp))
          refine hK.out _ _ (⟨cell_on HB2.out hHeld.1, cell_on HB2.out hHeld.2.1, cell_on HB2.out hHeld.2.2.1, cell_on HB2.out hHeld.2.2.2.1, cell_on HB2.out hHeld.2.2.2.2.1, cell_on HB2.out hHeld.2.2.2.2.2⟩) (fun hNew => ?_)
          clear hK K hHeld; (have hHeld := hNew); clear hNew; (try simp only [Act.put, List.setIfInBounds_toArray, List.set_cons_zero, List.set_cons_succ])
          (refine takeH (i := 7) (v := ?_) rfl (by kernel_rfl) (by kernel_rfl) (by kernel_rfl) (fun _ _ _ h => h) (Or.inl ⟨by rfl, ?_⟩) (by assumption) ?_; rotate_left; (focus ((intro wS hSw); (try dsimp only at hSw); obtain ⟨s0, s1, s2, s3, s4, s5⟩ := hSw; go_simp; (try with_reducible rfl); done)); (try simp only [Act.put, List.setIfInBounds_toArray, List.set_cons_zero, List.set_cons_succ]))
          (refine takeH (i := 8) (v := ?_) rfl (by kernel_rfl) (by kernel_rfl) (by kernel_rfl) (fun _ _ _ h => h) (Or.inl ⟨by rfl, ?_⟩) (by assumption) ?_; rotate_left; (focus ((intro wS hSw); (try dsimp only at hSw); obtain ⟨s0, s1, s2, s3, s4, s5⟩ := hSw; go_simp; (try with_reducible rfl); done)); (try simp only [Act.put, List.setIfInBounds_toArray, List.set_cons_zero, List.set_cons_succ]))
          refine wpAnyH_done (by kernel_rfl) ?_ _
          have HB9 := Lib.hid (below_any HBd.out (Nat.le_refl _) (below_then HB1.out HB2.out))
          have HC9 := Lib.hid (HCd.out.on (below_then HB1.out HB2.out))
          have HA9 := Lib.hid (heap_on (below_then HB1.out HB2.out) HAd.out)
          have HX9 := Lib.hid (heap_on (below_then HB1.out HB2.out) HXd.out)
          clear hHeld HBd HCd HAd HXd
          obtain ⟨x0, x1, x2, x3⟩ := cells4_row HX9.out
          obtain ⟨a0, a1, a2⟩ := cells3_row HA9.out
          go_wp2
          go_roundw
          case rel =>
            have h5 := Ck.cl_ok HOk.out pk' py' pi'
            exact ⟨j + 1, _, HJ.out.2, by go_num, rfl, Lib.hid ⟨_, HC9.out, HOk.out, HKk.out, HNw.out, HA9.out, HB9.out⟩⟩
          case measure => rw [hw]; exact roundsLeft_next _ _ HJ.out.2
      · have h2' : (s0 == 2) = false := by simp [h2]
        have HX3 := HX0
        have HC3 := Lib.hid (HC0.out.on (below_alloc wr (.cells #[.int .i64 s0, .int .i64 pk, .int .i64 py, .int .i64 pi] 26)))
        have HA3 := Lib.hid (heap_on (below_alloc wr (.cells #[.int .i64 s0, .int .i64 pk, .int .i64 py, .int .i64 pi] 26)) HAr.out)
        have HB3 := Lib.hid (below_any HBr.out (Nat.le_refl _) (below_alloc wr (.cells #[.int .i64 s0, .int .i64 pk, .int .i64 py, .int .i64 pi] 26)))
        cases hp : (s0.tmod 2 == 0) with
        | true =>
          by_cases he : c.clE pk py pi = 0
          · by_cases hq : ak = pk ∧ ay = py ∧ ai = pi
            · have hst := Ck.cl_st HOk.out he
              obtain ⟨rfl, rfl, rfl⟩ := hq
              have hlo : la = 1 := HLa.out.trans hst.1
              subst hlo
              have HSt : Hid (∀ W, CkAt W P c → Calls Try.prog 19 #[.pointer (some ⟨P, 0, none⟩), .agg #[.int .i64 ak, .int .i64 ay, .int .i64 ai]] W fun e w' => e = .returned (.int .i64 1) ∧ Below W.heap.size W w') := Lib.hid (fun W hW => by have := code_state W P c ak ay ai hW HOk.out; rw [hst.1] at this; exact this)
              have hk5 := Ck.cl_ok HOk.out ak ay ai
              have HSs : Hid (∀ W, CkAt W P (c.cl ak ay ai) → Calls Try.prog 19 #[.pointer (some ⟨P, 0, none⟩), .agg #[.int .i64 ak, .int .i64 ay, .int .i64 ai]] W fun e w' => e = .returned (.int .i64 2) ∧ Below W.heap.size W w') := Lib.hid (fun W hW => by have := code_state W P _ ak ay ai hW hk5.1; rw [hst.2.1] at this; exact this)
              have HSa := HSs
              have HNw : Hid (2 = (c.cl ak ay ai).st ak ay ai) := Lib.hid hst.2.1.symm
              have HSp : Hid (∀ W, CkAt W P c → Calls Try.prog 12 #[.pointer (some ⟨P, 0, none⟩), .agg #[.int .i64 ak, .int .i64 ay, .int .i64 ai]] W (StepP W P (c.cl ak ay ai) 0)) := Lib.hid (fun W hW => by have := code_close W P c ak ay ai hW HOk.out; rw [he] at this; exact this)
              clear he hst hk5
              go_wp2_with (go_at_call 19; refine (HSt.out _ HC3.out).mono ?_; rintro e w4 ⟨rfl, hb⟩; have HX4 := Lib.hid (heap_on hb HX3.out); have HA4 := Lib.hid (heap_on hb HA3.out); have HC4 := Lib.hid (HC3.out.on hb); have HB4 := Lib.hid (below_any HB3.out (Nat.le_refl _) hb); clear hb; refine Stop.out ?_)
              unfold Stop
              clear y0 y1 y2 y3
              obtain ⟨x0, x1, x2, x3⟩ := cells4_row HX4.out
              go_wp2_with (go_at_call 12; refine (HSp.out _ HC4.out).mono ?_; rintro e w5 hs; have HX5 := Lib.hid (hs.on HX4.out HPg.out); have HA5 := Lib.hid (hs.on HA4.out HPn.out); have HC5 := Lib.hid hs.2.1; have HB5 := Lib.hid (HB4.out.trans (hs.2.2.below (base := w.heap.size) HB4.out.size (Nat.le_of_lt HPa.out))); obtain rfl := hs.1; clear hs; refine Stop.out ?_)
              unfold Stop
              clear x0 x1 x2 x3
              go_wp2_with fail
              have HXd : Hid (w5.drew.heap[wr.heap.size]? = _) := Lib.hid HX5.out
              have HAd : Hid (w5.drew.heap[w.heap.size]? = _) := Lib.hid HA5.out
              have HCd : Hid (CkAt w5.drew P (c.cl ak ay ai)) := Lib.hid HC5.out
              have HBd := Lib.hid HB5.out.drew
              refine wp_region_held_drew (S := fun W => W.cell? ⟨wr.heap.size, 1, none⟩ = some (.int .i64 ak) ∧ W.cell? ⟨wr.heap.size, 2, none⟩ = some (.int .i64 ay) ∧ W.cell? ⟨wr.heap.size, 3, none⟩ = some (.int .i64 ai) ∧ W.cell? ⟨w.heap.size, 0, none⟩ = some (.int .i64 ak) ∧ W.cell? ⟨w.heap.size, 1, none⟩ = some (.int .i64 ay) ∧ W.cell? ⟨w.heap.size, 2, none⟩ = some (.int .i64 ai)) (by kernel_rfl) ⟨(cells4_row HX5.out).2.1, (cells4_row HX5.out).2.2.1, (cells4_row HX5.out).2.2.2, (cells3_row HA5.out).1, (cells3_row HA5.out).2.1, (cells3_row HA5.out).2.2⟩ ?_
              intro hHeld
              clear HX5 HA5 HC5 HB5
              generalize w5.drew = wd at HXd HAd HCd HBd hHeld ⊢
              (refine takeH (i := 0) (v := ?_) rfl (by kernel_rfl) (by kernel_rfl) (by kernel_rfl) (fun _ _ _ h => h) (Or.inl ⟨by rfl, ?_⟩) (by assumption) ?_; rotate_left; (focus ((intro wS hSw); (try dsimp only at hSw); obtain ⟨s0, s1, s2, s3, s4, s5⟩ := hSw; go_simp; (try with_reducible rfl); done)); (try simp only [Act.put, List.setIfInBounds_toArray, List.set_cons_zero, List.set_cons_succ]))
              (refine takeH (i := 1) (v := ?_) rfl (by kernel_rfl) (by kernel_rfl) (by kernel_rfl) (fun _ _ _ h => h) (Or.inl ⟨by rfl, ?_⟩) (by assumption) ?_; rotate_left; (focus ((intro wS hSw); (try dsimp only at hSw); obtain ⟨s0, s1, s2, s3, s4, s5⟩ := hSw; go_simp; (try with_reducible rfl); done)); (try simp only [Act.put, List.setIfInBounds_toArray, List.set_cons_zero, List.set_cons_succ]))
              (refine takeH (i := 2) (v := ?_) rfl (by kernel_rfl) (by kernel_rfl) (by kernel_rfl) (fun _ _ _ h => h) (Or.inl ⟨by rfl, ?_⟩) (by assumption) ?_; rotate_left; (focus ((intro wS hSw); (try dsimp only at hSw); obtain ⟨s0, s1, s2, s3, s4, s5⟩ := hSw; go_simp; (try with_reducible rfl); done)); (try simp only [Act.put, List.setIfInBounds_toArray, List.set_cons_zero, List.set_cons_succ]))
              (refine takeH (i := 4) (v := ?_) rfl (by kernel_rfl) (by kernel_rfl) (by kernel_rfl) (fun _ _ _ h => h) (Or.inl ⟨by rfl, ?_⟩) (by assumption) ?_; rotate_left; (focus ((intro wS hSw); (try dsimp only at hSw); obtain ⟨s0, s1, s2, s3, s4, s5⟩ := hSw; go_simp; (try with_reducible rfl); done)); (try simp only [Act.put, List.setIfInBounds_toArray, List.set_cons_zero, List.set_cons_succ]))
              (refine takeH (i := 5) (v := ?_) rfl (by kernel_rfl) (by kernel_rfl) (by kernel_rfl) (fun _ _ _ h => h) (Or.inl ⟨by rfl, ?_⟩) (by assumption) ?_; rotate_left; (focus ((intro wS hSw); (try dsimp only at hSw); obtain ⟨s0, s1, s2, s3, s4, s5⟩ := hSw; go_simp; (try with_reducible rfl); done)); (try simp only [Act.put, List.setIfInBounds_toArray, List.set_cons_zero, List.set_cons_succ]))
              refine aloneH (i := 3) rfl (by kernel_rfl) (fun K hK => ?_)
              rw [if_pos (by rfl)]
              go_simp; ((refine (HSs.out _ (HCd.out.on (Below.refl _ wd))).mono ?_); (rintro e w1 ⟨rfl, hb⟩); have HB1 := Lib.hid hb; clear hb; (try go_simp))
              refine hK.out _ _ (⟨cell_on HB1.out hHeld.1, cell_on HB1.out hHeld.2.1, cell_on HB1.out hHeld.2.2.1, cell_on HB1.out hHeld.2.2.2.1, cell_on HB1.out hHeld.2.2.2.2.1, cell_on HB1.out hHeld.2.2.2.2.2⟩) (fun hNew => ?_)
              clear hK K hHeld; (have hHeld := hNew); clear hNew; (try simp only [Act.put, List.setIfInBounds_toArray, List.set_cons_zero, List.set_cons_succ])
              refine aloneH (i := 6) rfl (by kernel_rfl) (fun K hK => ?_)
              rw [if_pos (by rfl)]
              go_simp; ((refine (HSa.out _ (HCd.out.on HB1.out)).mono ?_); (rintro e w2 ⟨rfl, hb⟩); have HB2 := Lib.hid hb; clear hb; (try go_simp))
              refine hK.out _ _ (⟨cell_on HB2.out hHeld.1, cell_on HB2.out hHeld.2.1, cell_on HB2.out hHeld.2.2.1, cell_on HB2.out hHeld.2.2.2.1, cell_on HB2.out hHeld.2.2.2.2.1, cell_on HB2.out hHeld.2.2.2.2.2⟩) (fun hNew => ?_)
              clear hK K hHeld; (have hHeld := hNew); clear hNew; (try simp only [Act.put, List.setIfInBounds_toArray, List.set_cons_zero, List.set_cons_succ])
              (refine takeH (i := 7) (v := ?_) rfl (by kernel_rfl) (by kernel_rfl) (by kernel_rfl) (fun _ _ _ h => h) (Or.inl ⟨by rfl, ?_⟩) (by assumption) ?_; rotate_left; (focus ((intro wS hSw); (try dsimp only at hSw); obtain ⟨s0, s1, s2, s3, s4, s5⟩ := hSw; go_simp; (try with_reducible rfl); done)); (try simp only [Act.put, List.setIfInBounds_toArray, List.set_cons_zero, List.set_cons_succ]))
              (refine takeH (i := 8) (v := ?_) rfl (by kernel_rfl) (by kernel_rfl) (by kernel_rfl) (fun _ _ _ h => h) (Or.inl ⟨by rfl, ?_⟩) (by assumption) ?_; rotate_left; (focus ((intro wS hSw); (try dsimp only at hSw); obtain ⟨s0, s1, s2, s3, s4, s5⟩ := hSw; go_simp; (try with_reducible rfl); done)); (try simp only [Act.put, List.setIfInBounds_toArray, List.set_cons_zero, List.set_cons_succ]))
              refine wpAnyH_done (by kernel_rfl) ?_ _
              have HB9 := Lib.hid (below_any HBd.out (Nat.le_refl _) (below_then HB1.out HB2.out))
              have HC9 := Lib.hid (HCd.out.on (below_then HB1.out HB2.out))
              have HA9 := Lib.hid (heap_on (below_then HB1.out HB2.out) HAd.out)
              have HX9 := Lib.hid (heap_on (below_then HB1.out HB2.out) HXd.out)
              clear hHeld HBd HCd HAd HXd
              obtain ⟨x0, x1, x2, x3⟩ := cells4_row HX9.out
              obtain ⟨a0, a1, a2⟩ := cells3_row HA9.out
              go_wp2
              go_roundw
              case rel =>
                have h5 := Ck.cl_ok HOk.out ak ay ai
                exact ⟨j + 1, _, HJ.out.2, by go_num, rfl, Lib.hid ⟨_, HC9.out, h5.1, h5.2.1.trans HKk.out, HNw.out, HA9.out, HB9.out⟩⟩
              case measure => rw [hw]; exact roundsLeft_next _ _ HJ.out.2
            · have hst := Ck.cl_st HOk.out he
              have HSt : Hid (∀ W, CkAt W P c → Calls Try.prog 19 #[.pointer (some ⟨P, 0, none⟩), .agg #[.int .i64 pk, .int .i64 py, .int .i64 pi]] W fun e w' => e = .returned (.int .i64 1) ∧ Below W.heap.size W w') := Lib.hid (fun W hW => by have := code_state W P c pk py pi hW HOk.out; rw [hst.1] at this; exact this)
              have hk5 := Ck.cl_ok HOk.out pk py pi
              have HSs : Hid (∀ W, CkAt W P (c.cl pk py pi) → Calls Try.prog 19 #[.pointer (some ⟨P, 0, none⟩), .agg #[.int .i64 pk, .int .i64 py, .int .i64 pi]] W fun e w' => e = .returned (.int .i64 2) ∧ Below W.heap.size W w') := Lib.hid (fun W hW => by have := code_state W P _ pk py pi hW hk5.1; rw [hst.2.1] at this; exact this)
              have hot := (hst.2.2 ak ay ai hq).trans HLa.out.symm
              have HSa : Hid (∀ W, CkAt W P (c.cl pk py pi) → Calls Try.prog 19 #[.pointer (some ⟨P, 0, none⟩), .agg #[.int .i64 ak, .int .i64 ay, .int .i64 ai]] W fun e w' => e = .returned (.int .i64 la) ∧ Below W.heap.size W w') := Lib.hid (fun W hW => by have := code_state W P _ ak ay ai hW hk5.1; rw [hot] at this; exact this)
              have HNw : Hid (la = (c.cl pk py pi).st ak ay ai) := Lib.hid hot.symm
              have HSp : Hid (∀ W, CkAt W P c → Calls Try.prog 12 #[.pointer (some ⟨P, 0, none⟩), .agg #[.int .i64 pk, .int .i64 py, .int .i64 pi]] W (StepP W P (c.cl pk py pi) 0)) := Lib.hid (fun W hW => by have := code_close W P c pk py pi hW HOk.out; rw [he] at this; exact this)
              clear he hst hk5 hq hot
              go_wp2_with (go_at_call 19; refine (HSt.out _ HC3.out).mono ?_; rintro e w4 ⟨rfl, hb⟩; have HX4 := Lib.hid (heap_on hb HX3.out); have HA4 := Lib.hid (heap_on hb HA3.out); have HC4 := Lib.hid (HC3.out.on hb); have HB4 := Lib.hid (below_any HB3.out (Nat.le_refl _) hb); clear hb; refine Stop.out ?_)
              unfold Stop
              clear y0 y1 y2 y3
              obtain ⟨x0, x1, x2, x3⟩ := cells4_row HX4.out
              go_wp2_with (go_at_call 12; refine (HSp.out _ HC4.out).mono ?_; rintro e w5 hs; have HX5 := Lib.hid (hs.on HX4.out HPg.out); have HA5 := Lib.hid (hs.on HA4.out HPn.out); have HC5 := Lib.hid hs.2.1; have HB5 := Lib.hid (HB4.out.trans (hs.2.2.below (base := w.heap.size) HB4.out.size (Nat.le_of_lt HPa.out))); obtain rfl := hs.1; clear hs; refine Stop.out ?_)
              unfold Stop
              clear x0 x1 x2 x3
              go_wp2_with fail
              have HXd : Hid (w5.drew.heap[wr.heap.size]? = _) := Lib.hid HX5.out
              have HAd : Hid (w5.drew.heap[w.heap.size]? = _) := Lib.hid HA5.out
              have HCd : Hid (CkAt w5.drew P (c.cl pk py pi)) := Lib.hid HC5.out
              have HBd := Lib.hid HB5.out.drew
              refine wp_region_held_drew (S := fun W => W.cell? ⟨wr.heap.size, 1, none⟩ = some (.int .i64 pk) ∧ W.cell? ⟨wr.heap.size, 2, none⟩ = some (.int .i64 py) ∧ W.cell? ⟨wr.heap.size, 3, none⟩ = some (.int .i64 pi) ∧ W.cell? ⟨w.heap.size, 0, none⟩ = some (.int .i64 ak) ∧ W.cell? ⟨w.heap.size, 1, none⟩ = some (.int .i64 ay) ∧ W.cell? ⟨w.heap.size, 2, none⟩ = some (.int .i64 ai)) (by kernel_rfl) ⟨(cells4_row HX5.out).2.1, (cells4_row HX5.out).2.2.1, (cells4_row HX5.out).2.2.2, (cells3_row HA5.out).1, (cells3_row HA5.out).2.1, (cells3_row HA5.out).2.2⟩ ?_
              intro hHeld
              clear HX5 HA5 HC5 HB5
              generalize w5.drew = wd at HXd HAd HCd HBd hHeld ⊢
              (refine takeH (i := 0) (v := ?_) rfl (by kernel_rfl) (by kernel_rfl) (by kernel_rfl) (fun _ _ _ h => h) (Or.inl ⟨by rfl, ?_⟩) (by assumption) ?_; rotate_left; (focus ((intro wS hSw); (try dsimp only at hSw); obtain ⟨s0, s1, s2, s3, s4, s5⟩ := hSw; go_simp; (try with_reducible rfl); done)); (try simp only [Act.put, List.setIfInBounds_toArray, List.set_cons_zero, List.set_cons_succ]))
              (refine takeH (i := 1) (v := ?_) rfl (by kernel_rfl) (by kernel_rfl) (by kernel_rfl) (fun _ _ _ h => h) (Or.inl ⟨by rfl, ?_⟩) (by assumption) ?_; rotate_left; (focus ((intro wS hSw); (try dsimp only at hSw); obtain ⟨s0, s1, s2, s3, s4, s5⟩ := hSw; go_simp; (try with_reducible rfl); done)); (try simp only [Act.put, List.setIfInBounds_toArray, List.set_cons_zero, List.set_cons_succ]))
              (refine takeH (i := 2) (v := ?_) rfl (by kernel_rfl) (by kernel_rfl) (by kernel_rfl) (fun _ _ _ h => h) (Or.inl ⟨by rfl, ?_⟩) (by assumption) ?_; rotate_left; (focus ((intro wS hSw); (try dsimp only at hSw); obtain ⟨s0, s1, s2, s3, s4, s5⟩ := hSw; go_simp; (try with_reducible rfl); done)); (try simp only [Act.put, List.setIfInBounds_toArray, List.set_cons_zero, List.set_cons_succ]))
              (refine takeH (i := 4) (v := ?_) rfl (by kernel_rfl) (by kernel_rfl) (by kernel_rfl) (fun _ _ _ h => h) (Or.inl ⟨by rfl, ?_⟩) (by assumption) ?_; rotate_left; (focus ((intro wS hSw); (try dsimp only at hSw); obtain ⟨s0, s1, s2, s3, s4, s5⟩ := hSw; go_simp; (try with_reducible rfl); done)); (try simp only [Act.put, List.setIfInBounds_toArray, List.set_cons_zero, List.set_cons_succ]))
              (refine takeH (i := 5) (v := ?_) rfl (by kernel_rfl) (by kernel_rfl) (by kernel_rfl) (fun _ _ _ h => h) (Or.inl ⟨by rfl, ?_⟩) (by assumption) ?_; rotate_left; (focus ((intro wS hSw); (try dsimp only at hSw); obtain ⟨s0, s1, s2, s3, s4, s5⟩ := hSw; go_simp; (try with_reducible rfl); done)); (try simp only [Act.put, List.setIfInBounds_toArray, List.set_cons_zero, List.set_cons_succ]))
              refine aloneH (i := 3) rfl (by kernel_rfl) (fun K hK => ?_)
              rw [if_pos (by rfl)]
              go_simp; ((refine (HSs.out _ (HCd.out.on (Below.refl _ wd))).mono ?_); (rintro e w1 ⟨rfl, hb⟩); have HB1 := Lib.hid hb; clear hb; (try go_simp))
              refine hK.out _ _ (⟨cell_on HB1.out hHeld.1, cell_on HB1.out hHeld.2.1, cell_on HB1.out hHeld.2.2.1, cell_on HB1.out hHeld.2.2.2.1, cell_on HB1.out hHeld.2.2.2.2.1, cell_on HB1.out hHeld.2.2.2.2.2⟩) (fun hNew => ?_)
              clear hK K hHeld; (have hHeld := hNew); clear hNew; (try simp only [Act.put, List.setIfInBounds_toArray, List.set_cons_zero, List.set_cons_succ])
              refine aloneH (i := 6) rfl (by kernel_rfl) (fun K hK => ?_)
              rw [if_pos (by rfl)]
              go_simp; ((refine (HSa.out _ (HCd.out.on HB1.out)).mono ?_); (rintro e w2 ⟨rfl, hb⟩); have HB2 := Lib.hid hb; clear hb; (try go_simp))
              refine hK.out _ _ (⟨cell_on HB2.out hHeld.1, cell_on HB2.out hHeld.2.1, cell_on HB2.out hHeld.2.2.1, cell_on HB2.out hHeld.2.2.2.1, cell_on HB2.out hHeld.2.2.2.2.1, cell_on HB2.out hHeld.2.2.2.2.2⟩) (fun hNew => ?_)
              clear hK K hHeld; (have hHeld := hNew); clear hNew; (try simp only [Act.put, List.setIfInBounds_toArray, List.set_cons_zero, List.set_cons_succ])
              (refine takeH (i := 7) (v := ?_) rfl (by kernel_rfl) (by kernel_rfl) (by kernel_rfl) (fun _ _ _ h => h) (Or.inl ⟨by rfl, ?_⟩) (by assumption) ?_; rotate_left; (focus ((intro wS hSw); (try dsimp only at hSw); obtain ⟨s0, s1, s2, s3, s4, s5⟩ := hSw; go_simp; (try with_reducible rfl); done)); (try simp only [Act.put, List.setIfInBounds_toArray, List.set_cons_zero, List.set_cons_succ]))
              (refine takeH (i := 8) (v := ?_) rfl (by kernel_rfl) (by kernel_rfl) (by kernel_rfl) (fun _ _ _ h => h) (Or.inl ⟨by rfl, ?_⟩) (by assumption) ?_; rotate_left; (focus ((intro wS hSw); (try dsimp only at hSw); obtain ⟨s0, s1, s2, s3, s4, s5⟩ := hSw; go_simp; (try with_reducible rfl); done)); (try simp only [Act.put, List.setIfInBounds_toArray, List.set_cons_zero, List.set_cons_succ]))
              refine wpAnyH_done (by kernel_rfl) ?_ _
              have HB9 := Lib.hid (below_any HBd.out (Nat.le_refl _) (below_then HB1.out HB2.out))
              have HC9 := Lib.hid (HCd.out.on (below_then HB1.out HB2.out))
              have HA9 := Lib.hid (heap_on (below_then HB1.out HB2.out) HAd.out)
              have HX9 := Lib.hid (heap_on (below_then HB1.out HB2.out) HXd.out)
              clear hHeld HBd HCd HAd HXd
              obtain ⟨x0, x1, x2, x3⟩ := cells4_row HX9.out
              obtain ⟨a0, a1, a2⟩ := cells3_row HA9.out
              go_wp2
              go_roundw
              case rel =>
                have h5 := Ck.cl_ok HOk.out pk py pi
                exact ⟨j + 1, _, HJ.out.2, by go_num, rfl, Lib.hid ⟨_, HC9.out, h5.1, h5.2.1.trans HKk.out, HNw.out, HA9.out, HB9.out⟩⟩
              case measure => rw [hw]; exact roundsLeft_next _ _ HJ.out.2
          · have er0 : (c.clE pk py pi != 0) = true := bne_t he
            have er1 : (c.clE pk py pi == 0) = false := by simp [he]
            have hcl := Ck.cl_no he
            obtain ⟨ow, how⟩ : ∃ ow, ow = c.st pk py pi := ⟨_, rfl⟩
            have HSt : Hid (∀ W, CkAt W P c → Calls Try.prog 19 #[.pointer (some ⟨P, 0, none⟩), .agg #[.int .i64 pk, .int .i64 py, .int .i64 pi]] W fun e w' => e = .returned (.int .i64 ow) ∧ Below W.heap.size W w') := Lib.hid (fun W hW => by rw [how]; exact code_state W P c _ _ _ hW HOk.out)
            have HSs : Hid (∀ W, CkAt W P c → Calls Try.prog 19 #[.pointer (some ⟨P, 0, none⟩), .agg #[.int .i64 pk, .int .i64 py, .int .i64 pi]] W fun e w' => e = .returned (.int .i64 ow) ∧ Below W.heap.size W w') := Lib.hid (fun W hW => by rw [how]; exact code_state W P c _ _ _ hW HOk.out)
            have HSa : Hid (∀ W, CkAt W P c → Calls Try.prog 19 #[.pointer (some ⟨P, 0, none⟩), .agg #[.int .i64 ak, .int .i64 ay, .int .i64 ai]] W fun e w' => e = .returned (.int .i64 la) ∧ Below W.heap.size W w') := Lib.hid (fun W hW => by rw [HLa.out]; exact code_state W P c _ _ _ hW HOk.out)
            have HSp : Hid (∀ W, CkAt W P c → Calls Try.prog 12 #[.pointer (some ⟨P, 0, none⟩), .agg #[.int .i64 pk, .int .i64 py, .int .i64 pi]] W (StepP W P c (c.clE pk py pi))) := Lib.hid (fun W hW => by have := code_close W P c pk py pi hW HOk.out; rw [hcl] at this; exact this)
            have HNw : Hid (la = c.st ak ay ai) := HLa
            clear he hcl how
            generalize c.clE pk py pi = er at *
            go_wp2_with (go_at_call 19; refine (HSt.out _ HC3.out).mono ?_; rintro e w4 ⟨rfl, hb⟩; have HX4 := Lib.hid (heap_on hb HX3.out); have HA4 := Lib.hid (heap_on hb HA3.out); have HC4 := Lib.hid (HC3.out.on hb); have HB4 := Lib.hid (below_any HB3.out (Nat.le_refl _) hb); clear hb; refine Stop.out ?_)
            unfold Stop
            clear y0 y1 y2 y3
            obtain ⟨x0, x1, x2, x3⟩ := cells4_row HX4.out
            go_wp2_with (go_at_call 12; refine (HSp.out _ HC4.out).mono ?_; rintro e w5 hs; have HX5 := Lib.hid (hs.on HX4.out HPg.out); have HA5 := Lib.hid (hs.on HA4.out HPn.out); have HC5 := Lib.hid hs.2.1; have HB5 := Lib.hid (HB4.out.trans (hs.2.2.below (base := w.heap.size) HB4.out.size (Nat.le_of_lt HPa.out))); obtain rfl := hs.1; clear hs; refine Stop.out ?_)
            unfold Stop
            clear x0 x1 x2 x3
            go_wp2_with fail
            have HXd : Hid (w5.drew.heap[wr.heap.size]? = _) := Lib.hid HX5.out
            have HAd : Hid (w5.drew.heap[w.heap.size]? = _) := Lib.hid HA5.out
            have HCd : Hid (CkAt w5.drew P c) := Lib.hid HC5.out
            have HBd := Lib.hid HB5.out.drew
            refine wp_region_held_drew (S := fun W => W.cell? ⟨wr.heap.size, 1, none⟩ = some (.int .i64 pk) ∧ W.cell? ⟨wr.heap.size, 2, none⟩ = some (.int .i64 py) ∧ W.cell? ⟨wr.heap.size, 3, none⟩ = some (.int .i64 pi) ∧ W.cell? ⟨w.heap.size, 0, none⟩ = some (.int .i64 ak) ∧ W.cell? ⟨w.heap.size, 1, none⟩ = some (.int .i64 ay) ∧ W.cell? ⟨w.heap.size, 2, none⟩ = some (.int .i64 ai)) (by kernel_rfl) ⟨(cells4_row HX5.out).2.1, (cells4_row HX5.out).2.2.1, (cells4_row HX5.out).2.2.2, (cells3_row HA5.out).1, (cells3_row HA5.out).2.1, (cells3_row HA5.out).2.2⟩ ?_
            intro hHeld
            clear HX5 HA5 HC5 HB5
            generalize w5.drew = wd at HXd HAd HCd HBd hHeld ⊢
            (refine takeH (i := 0) (v := ?_) rfl (by kernel_rfl) (by kernel_rfl) (by kernel_rfl) (fun _ _ _ h => h) (Or.inl ⟨by rfl, ?_⟩) (by assumption) ?_; rotate_left; (focus ((intro wS hSw); (try dsimp only at hSw); obtain ⟨s0, s1, s2, s3, s4, s5⟩ := hSw; go_simp; (try with_reducible rfl); done)); (try simp only [Act.put, List.setIfInBounds_toArray, List.set_cons_zero, List.set_cons_succ]))
            (refine takeH (i := 1) (v := ?_) rfl (by kernel_rfl) (by kernel_rfl) (by kernel_rfl) (fun _ _ _ h => h) (Or.inl ⟨by rfl, ?_⟩) (by assumption) ?_; rotate_left; (focus ((intro wS hSw); (try dsimp only at hSw); obtain ⟨s0, s1, s2, s3, s4, s5⟩ := hSw; go_simp; (try with_reducible rfl); done)); (try simp only [Act.put, List.setIfInBounds_toArray, List.set_cons_zero, List.set_cons_succ]))
            (refine takeH (i := 2) (v := ?_) rfl (by kernel_rfl) (by kernel_rfl) (by kernel_rfl) (fun _ _ _ h => h) (Or.inl ⟨by rfl, ?_⟩) (by assumption) ?_; rotate_left; (focus ((intro wS hSw); (try dsimp only at hSw); obtain ⟨s0, s1, s2, s3, s4, s5⟩ := hSw; go_simp; (try with_reducible rfl); done)); (try simp only [Act.put, List.setIfInBounds_toArray, List.set_cons_zero, List.set_cons_succ]))
            (refine takeH (i := 4) (v := ?_) rfl (by kernel_rfl) (by kernel_rfl) (by kernel_rfl) (fun _ _ _ h => h) (Or.inl ⟨by rfl, ?_⟩) (by assumption) ?_; rotate_left; (focus ((intro wS hSw); (try dsimp only at hSw); obtain ⟨s0, s1, s2, s3, s4, s5⟩ := hSw; go_simp; (try with_reducible rfl); done)); (try simp only [Act.put, List.setIfInBounds_toArray, List.set_cons_zero, List.set_cons_succ]))
            (refine takeH (i := 5) (v := ?_) rfl (by kernel_rfl) (by kernel_rfl) (by kernel_rfl) (fun _ _ _ h => h) (Or.inl ⟨by rfl, ?_⟩) (by assumption) ?_; rotate_left; (focus ((intro wS hSw); (try dsimp only at hSw); obtain ⟨s0, s1, s2, s3, s4, s5⟩ := hSw; go_simp; (try with_reducible rfl); done)); (try simp only [Act.put, List.setIfInBounds_toArray, List.set_cons_zero, List.set_cons_succ]))
            refine aloneH (i := 3) rfl (by kernel_rfl) (fun K hK => ?_)
            rw [if_pos (by rfl)]
            go_simp; ((refine (HSs.out _ (HCd.out.on (Below.refl _ wd))).mono ?_); (rintro e w1 ⟨rfl, hb⟩); have HB1 := Lib.hid hb; clear hb; (try go_simp))
            refine hK.out _ _ (⟨cell_on HB1.out hHeld.1, cell_on HB1.out hHeld.2.1, cell_on HB1.out hHeld.2.2.1, cell_on HB1.out hHeld.2.2.2.1, cell_on HB1.out hHeld.2.2.2.2.1, cell_on HB1.out hHeld.2.2.2.2.2⟩) (fun hNew => ?_)
            clear hK K hHeld; (have hHeld := hNew); clear hNew; (try simp only [Act.put, List.setIfInBounds_toArray, List.set_cons_zero, List.set_cons_succ])
            refine aloneH (i := 6) rfl (by kernel_rfl) (fun K hK => ?_)
            rw [if_pos (by rfl)]
            go_simp; ((refine (HSa.out _ (HCd.out.on HB1.out)).mono ?_); (rintro e w2 ⟨rfl, hb⟩); have HB2 := Lib.hid hb; clear hb; (try go_simp))
            refine hK.out _ _ (⟨cell_on HB2.out hHeld.1, cell_on HB2.out hHeld.2.1, cell_on HB2.out hHeld.2.2.1, cell_on HB2.out hHeld.2.2.2.1, cell_on HB2.out hHeld.2.2.2.2.1, cell_on HB2.out hHeld.2.2.2.2.2⟩) (fun hNew => ?_)
            clear hK K hHeld; (have hHeld := hNew); clear hNew; (try simp only [Act.put, List.setIfInBounds_toArray, List.set_cons_zero, List.set_cons_succ])
            (refine takeH (i := 7) (v := ?_) rfl (by kernel_rfl) (by kernel_rfl) (by kernel_rfl) (fun _ _ _ h => h) (Or.inl ⟨by rfl, ?_⟩) (by assumption) ?_; rotate_left; (focus ((intro wS hSw); (try dsimp only at hSw); obtain ⟨s0, s1, s2, s3, s4, s5⟩ := hSw; go_simp; (try with_reducible rfl); done)); (try simp only [Act.put, List.setIfInBounds_toArray, List.set_cons_zero, List.set_cons_succ]))
            (refine takeH (i := 8) (v := ?_) rfl (by kernel_rfl) (by kernel_rfl) (by kernel_rfl) (fun _ _ _ h => h) (Or.inl ⟨by rfl, ?_⟩) (by assumption) ?_; rotate_left; (focus ((intro wS hSw); (try dsimp only at hSw); obtain ⟨s0, s1, s2, s3, s4, s5⟩ := hSw; go_simp; (try with_reducible rfl); done)); (try simp only [Act.put, List.setIfInBounds_toArray, List.set_cons_zero, List.set_cons_succ]))
            refine wpAnyH_done (by kernel_rfl) ?_ _
            have HB9 := Lib.hid (below_any HBd.out (Nat.le_refl _) (below_then HB1.out HB2.out))
            have HC9 := Lib.hid (HCd.out.on (below_then HB1.out HB2.out))
            have HA9 := Lib.hid (heap_on (below_then HB1.out HB2.out) HAd.out)
            have HX9 := Lib.hid (heap_on (below_then HB1.out HB2.out) HXd.out)
            clear hHeld HBd HCd HAd HXd
            obtain ⟨x0, x1, x2, x3⟩ := cells4_row HX9.out
            obtain ⟨a0, a1, a2⟩ := cells3_row HA9.out
            go_wp2
            go_roundw
            case rel =>
              have h5 := Ck.cl_ok HOk.out pk py pi
              exact ⟨j + 1, _, HJ.out.2, by go_num, rfl, Lib.hid ⟨_, HC9.out, HOk.out, HKk.out, HNw.out, HA9.out, HB9.out⟩⟩
            case measure => rw [hw]; exact roundsLeft_next _ _ HJ.out.2
        | false =>
          by_cases he : c.fiE pk py pi = 0
          · by_cases hq : ak = pk ∧ ay = py ∧ ai = pi
            · have hst := Ck.fi_st HOk.out he
              obtain ⟨rfl, rfl, rfl⟩ := hq
              have hlo : la = 2 := HLa.out.trans hst.1
              subst hlo
              have HSt : Hid (∀ W, CkAt W P c → Calls Try.prog 19 #[.pointer (some ⟨P, 0, none⟩), .agg #[.int .i64 ak, .int .i64 ay, .int .i64 ai]] W fun e w' => e = .returned (.int .i64 2) ∧ Below W.heap.size W w') := Lib.hid (fun W hW => by have := code_state W P c ak ay ai hW HOk.out; rw [hst.1] at this; exact this)
              have hk5 := Ck.fi_ok HOk.out ak ay ai
              have HSs : Hid (∀ W, CkAt W P (c.fi ak ay ai) → Calls Try.prog 19 #[.pointer (some ⟨P, 0, none⟩), .agg #[.int .i64 ak, .int .i64 ay, .int .i64 ai]] W fun e w' => e = .returned (.int .i64 3) ∧ Below W.heap.size W w') := Lib.hid (fun W hW => by have := code_state W P _ ak ay ai hW hk5.1; rw [hst.2.1] at this; exact this)
              have HSa := HSs
              have HNw : Hid (3 = (c.fi ak ay ai).st ak ay ai) := Lib.hid hst.2.1.symm
              have HSp : Hid (∀ W, CkAt W P c → Calls Try.prog 14 #[.pointer (some ⟨P, 0, none⟩), .agg #[.int .i64 ak, .int .i64 ay, .int .i64 ai]] W (StepP W P (c.fi ak ay ai) 0)) := Lib.hid (fun W hW => by have := code_file W P c ak ay ai hW HOk.out; rw [he] at this; exact this)
              clear he hst hk5
              go_wp2_with (go_at_call 19; refine (HSt.out _ HC3.out).mono ?_; rintro e w4 ⟨rfl, hb⟩; have HX4 := Lib.hid (heap_on hb HX3.out); have HA4 := Lib.hid (heap_on hb HA3.out); have HC4 := Lib.hid (HC3.out.on hb); have HB4 := Lib.hid (below_any HB3.out (Nat.le_refl _) hb); clear hb; refine Stop.out ?_)
              unfold Stop
              clear y0 y1 y2 y3
              obtain ⟨x0, x1, x2, x3⟩ := cells4_row HX4.out
              go_wp2_with (go_at_call 14; refine (HSp.out _ HC4.out).mono ?_; rintro e w5 hs; have HX5 := Lib.hid (hs.on HX4.out HPg.out); have HA5 := Lib.hid (hs.on HA4.out HPn.out); have HC5 := Lib.hid hs.2.1; have HB5 := Lib.hid (HB4.out.trans (hs.2.2.below (base := w.heap.size) HB4.out.size (Nat.le_of_lt HPa.out))); obtain rfl := hs.1; clear hs; refine Stop.out ?_)
              unfold Stop
              clear x0 x1 x2 x3
              go_wp2_with fail
              have HXd : Hid (w5.drew.heap[wr.heap.size]? = _) := Lib.hid HX5.out
              have HAd : Hid (w5.drew.heap[w.heap.size]? = _) := Lib.hid HA5.out
              have HCd : Hid (CkAt w5.drew P (c.fi ak ay ai)) := Lib.hid HC5.out
              have HBd := Lib.hid HB5.out.drew
              refine wp_region_held_drew (S := fun W => W.cell? ⟨wr.heap.size, 1, none⟩ = some (.int .i64 ak) ∧ W.cell? ⟨wr.heap.size, 2, none⟩ = some (.int .i64 ay) ∧ W.cell? ⟨wr.heap.size, 3, none⟩ = some (.int .i64 ai) ∧ W.cell? ⟨w.heap.size, 0, none⟩ = some (.int .i64 ak) ∧ W.cell? ⟨w.heap.size, 1, none⟩ = some (.int .i64 ay) ∧ W.cell? ⟨w.heap.size, 2, none⟩ = some (.int .i64 ai)) (by kernel_rfl) ⟨(cells4_row HX5.out).2.1, (cells4_row HX5.out).2.2.1, (cells4_row HX5.out).2.2.2, (cells3_row HA5.out).1, (cells3_row HA5.out).2.1, (cells3_row HA5.out).2.2⟩ ?_
              intro hHeld
              clear HX5 HA5 HC5 HB5
              generalize w5.drew = wd at HXd HAd HCd HBd hHeld ⊢
              (refine takeH (i := 0) (v := ?_) rfl (by kernel_rfl) (by kernel_rfl) (by kernel_rfl) (fun _ _ _ h => h) (Or.inl ⟨by rfl, ?_⟩) (by assumption) ?_; rotate_left; (focus ((intro wS hSw); (try dsimp only at hSw); obtain ⟨s0, s1, s2, s3, s4, s5⟩ := hSw; go_simp; (try with_reducible rfl); done)); (try simp only [Act.put, List.setIfInBounds_toArray, List.set_cons_zero, List.set_cons_succ]))
              (refine takeH (i := 1) (v := ?_) rfl (by kernel_rfl) (by kernel_rfl) (by kernel_rfl) (fun _ _ _ h => h) (Or.inl ⟨by rfl, ?_⟩) (by assumption) ?_; rotate_left; (focus ((intro wS hSw); (try dsimp only at hSw); obtain ⟨s0, s1, s2, s3, s4, s5⟩ := hSw; go_simp; (try with_reducible rfl); done)); (try simp only [Act.put, List.setIfInBounds_toArray, List.set_cons_zero, List.set_cons_succ]))
              (refine takeH (i := 2) (v := ?_) rfl (by kernel_rfl) (by kernel_rfl) (by kernel_rfl) (fun _ _ _ h => h) (Or.inl ⟨by rfl, ?_⟩) (by assumption) ?_; rotate_left; (focus ((intro wS hSw); (try dsimp only at hSw); obtain ⟨s0, s1, s2, s3, s4, s5⟩ := hSw; go_simp; (try with_reducible rfl); done)); (try simp only [Act.put, List.setIfInBounds_toArray, List.set_cons_zero, List.set_cons_succ]))
              (refine takeH (i := 4) (v := ?_) rfl (by kernel_rfl) (by kernel_rfl) (by kernel_rfl) (fun _ _ _ h => h) (Or.inl ⟨by rfl, ?_⟩) (by assumption) ?_; rotate_left; (focus ((intro wS hSw); (try dsimp only at hSw); obtain ⟨s0, s1, s2, s3, s4, s5⟩ := hSw; go_simp; (try with_reducible rfl); done)); (try simp only [Act.put, List.setIfInBounds_toArray, List.set_cons_zero, List.set_cons_succ]))
              (refine takeH (i := 5) (v := ?_) rfl (by kernel_rfl) (by kernel_rfl) (by kernel_rfl) (fun _ _ _ h => h) (Or.inl ⟨by rfl, ?_⟩) (by assumption) ?_; rotate_left; (focus ((intro wS hSw); (try dsimp only at hSw); obtain ⟨s0, s1, s2, s3, s4, s5⟩ := hSw; go_simp; (try with_reducible rfl); done)); (try simp only [Act.put, List.setIfInBounds_toArray, List.set_cons_zero, List.set_cons_succ]))
              refine aloneH (i := 3) rfl (by kernel_rfl) (fun K hK => ?_)
              rw [if_pos (by rfl)]
              go_simp; ((refine (HSs.out _ (HCd.out.on (Below.refl _ wd))).mono ?_); (rintro e w1 ⟨rfl, hb⟩); have HB1 := Lib.hid hb; clear hb; (try go_simp))
              refine hK.out _ _ (⟨cell_on HB1.out hHeld.1, cell_on HB1.out hHeld.2.1, cell_on HB1.out hHeld.2.2.1, cell_on HB1.out hHeld.2.2.2.1, cell_on HB1.out hHeld.2.2.2.2.1, cell_on HB1.out hHeld.2.2.2.2.2⟩) (fun hNew => ?_)
              clear hK K hHeld; (have hHeld := hNew); clear hNew; (try simp only [Act.put, List.setIfInBounds_toArray, List.set_cons_zero, List.set_cons_succ])
              refine aloneH (i := 6) rfl (by kernel_rfl) (fun K hK => ?_)
              rw [if_pos (by rfl)]
              go_simp; ((refine (HSa.out _ (HCd.out.on HB1.out)).mono ?_); (rintro e w2 ⟨rfl, hb⟩); have HB2 := Lib.hid hb; clear hb; (try go_simp))
              refine hK.out _ _ (⟨cell_on HB2.out hHeld.1, cell_on HB2.out hHeld.2.1, cell_on HB2.out hHeld.2.2.1, cell_on HB2.out hHeld.2.2.2.1, cell_on HB2.out hHeld.2.2.2.2.1, cell_on HB2.out hHeld.2.2.2.2.2⟩) (fun hNew => ?_)
              clear hK K hHeld; (have hHeld := hNew); clear hNew; (try simp only [Act.put, List.setIfInBounds_toArray, List.set_cons_zero, List.set_cons_succ])
              (refine takeH (i := 7) (v := ?_) rfl (by kernel_rfl) (by kernel_rfl) (by kernel_rfl) (fun _ _ _ h => h) (Or.inl ⟨by rfl, ?_⟩) (by assumption) ?_; rotate_left; (focus ((intro wS hSw); (try dsimp only at hSw); obtain ⟨s0, s1, s2, s3, s4, s5⟩ := hSw; go_simp; (try with_reducible rfl); done)); (try simp only [Act.put, List.setIfInBounds_toArray, List.set_cons_zero, List.set_cons_succ]))
              (refine takeH (i := 8) (v := ?_) rfl (by kernel_rfl) (by kernel_rfl) (by kernel_rfl) (fun _ _ _ h => h) (Or.inl ⟨by rfl, ?_⟩) (by assumption) ?_; rotate_left; (focus ((intro wS hSw); (try dsimp only at hSw); obtain ⟨s0, s1, s2, s3, s4, s5⟩ := hSw; go_simp; (try with_reducible rfl); done)); (try simp only [Act.put, List.setIfInBounds_toArray, List.set_cons_zero, List.set_cons_succ]))
              refine wpAnyH_done (by kernel_rfl) ?_ _
              have HB9 := Lib.hid (below_any HBd.out (Nat.le_refl _) (below_then HB1.out HB2.out))
              have HC9 := Lib.hid (HCd.out.on (below_then HB1.out HB2.out))
              have HA9 := Lib.hid (heap_on (below_then HB1.out HB2.out) HAd.out)
              have HX9 := Lib.hid (heap_on (below_then HB1.out HB2.out) HXd.out)
              clear hHeld HBd HCd HAd HXd
              obtain ⟨x0, x1, x2, x3⟩ := cells4_row HX9.out
              obtain ⟨a0, a1, a2⟩ := cells3_row HA9.out
              go_wp2
              go_roundw
              case rel =>
                have h5 := Ck.fi_ok HOk.out ak ay ai
                exact ⟨j + 1, _, HJ.out.2, by go_num, rfl, Lib.hid ⟨_, HC9.out, h5.1, h5.2.1.trans HKk.out, HNw.out, HA9.out, HB9.out⟩⟩
              case measure => rw [hw]; exact roundsLeft_next _ _ HJ.out.2
            · have hst := Ck.fi_st HOk.out he
              have HSt : Hid (∀ W, CkAt W P c → Calls Try.prog 19 #[.pointer (some ⟨P, 0, none⟩), .agg #[.int .i64 pk, .int .i64 py, .int .i64 pi]] W fun e w' => e = .returned (.int .i64 2) ∧ Below W.heap.size W w') := Lib.hid (fun W hW => by have := code_state W P c pk py pi hW HOk.out; rw [hst.1] at this; exact this)
              have hk5 := Ck.fi_ok HOk.out pk py pi
              have HSs : Hid (∀ W, CkAt W P (c.fi pk py pi) → Calls Try.prog 19 #[.pointer (some ⟨P, 0, none⟩), .agg #[.int .i64 pk, .int .i64 py, .int .i64 pi]] W fun e w' => e = .returned (.int .i64 3) ∧ Below W.heap.size W w') := Lib.hid (fun W hW => by have := code_state W P _ pk py pi hW hk5.1; rw [hst.2.1] at this; exact this)
              have hot := (hst.2.2 ak ay ai hq).trans HLa.out.symm
              have HSa : Hid (∀ W, CkAt W P (c.fi pk py pi) → Calls Try.prog 19 #[.pointer (some ⟨P, 0, none⟩), .agg #[.int .i64 ak, .int .i64 ay, .int .i64 ai]] W fun e w' => e = .returned (.int .i64 la) ∧ Below W.heap.size W w') := Lib.hid (fun W hW => by have := code_state W P _ ak ay ai hW hk5.1; rw [hot] at this; exact this)
              have HNw : Hid (la = (c.fi pk py pi).st ak ay ai) := Lib.hid hot.symm
              have HSp : Hid (∀ W, CkAt W P c → Calls Try.prog 14 #[.pointer (some ⟨P, 0, none⟩), .agg #[.int .i64 pk, .int .i64 py, .int .i64 pi]] W (StepP W P (c.fi pk py pi) 0)) := Lib.hid (fun W hW => by have := code_file W P c pk py pi hW HOk.out; rw [he] at this; exact this)
              clear he hst hk5 hq hot
              go_wp2_with (go_at_call 19; refine (HSt.out _ HC3.out).mono ?_; rintro e w4 ⟨rfl, hb⟩; have HX4 := Lib.hid (heap_on hb HX3.out); have HA4 := Lib.hid (heap_on hb HA3.out); have HC4 := Lib.hid (HC3.out.on hb); have HB4 := Lib.hid (below_any HB3.out (Nat.le_refl _) hb); clear hb; refine Stop.out ?_)
              unfold Stop
              clear y0 y1 y2 y3
              obtain ⟨x0, x1, x2, x3⟩ := cells4_row HX4.out
              go_wp2_with (go_at_call 14; refine (HSp.out _ HC4.out).mono ?_; rintro e w5 hs; have HX5 := Lib.hid (hs.on HX4.out HPg.out); have HA5 := Lib.hid (hs.on HA4.out HPn.out); have HC5 := Lib.hid hs.2.1; have HB5 := Lib.hid (HB4.out.trans (hs.2.2.below (base := w.heap.size) HB4.out.size (Nat.le_of_lt HPa.out))); obtain rfl := hs.1; clear hs; refine Stop.out ?_)
              unfold Stop
              clear x0 x1 x2 x3
              go_wp2_with fail
              have HXd : Hid (w5.drew.heap[wr.heap.size]? = _) := Lib.hid HX5.out
              have HAd : Hid (w5.drew.heap[w.heap.size]? = _) := Lib.hid HA5.out
              have HCd : Hid (CkAt w5.drew P (c.fi pk py pi)) := Lib.hid HC5.out
              have HBd := Lib.hid HB5.out.drew
              refine wp_region_held_drew (S := fun W => W.cell? ⟨wr.heap.size, 1, none⟩ = some (.int .i64 pk) ∧ W.cell? ⟨wr.heap.size, 2, none⟩ = some (.int .i64 py) ∧ W.cell? ⟨wr.heap.size, 3, none⟩ = some (.int .i64 pi) ∧ W.cell? ⟨w.heap.size, 0, none⟩ = some (.int .i64 ak) ∧ W.cell? ⟨w.heap.size, 1, none⟩ = some (.int .i64 ay) ∧ W.cell? ⟨w.heap.size, 2, none⟩ = some (.int .i64 ai)) (by kernel_rfl) ⟨(cells4_row HX5.out).2.1, (cells4_row HX5.out).2.2.1, (cells4_row HX5.out).2.2.2, (cells3_row HA5.out).1, (cells3_row HA5.out).2.1, (cells3_row HA5.out).2.2⟩ ?_
              intro hHeld
              clear HX5 HA5 HC5 HB5
              generalize w5.drew = wd at HXd HAd HCd HBd hHeld ⊢
              (refine takeH (i := 0) (v := ?_) rfl (by kernel_rfl) (by kernel_rfl) (by kernel_rfl) (fun _ _ _ h => h) (Or.inl ⟨by rfl, ?_⟩) (by assumption) ?_; rotate_left; (focus ((intro wS hSw); (try dsimp only at hSw); obtain ⟨s0, s1, s2, s3, s4, s5⟩ := hSw; go_simp; (try with_reducible rfl); done)); (try simp only [Act.put, List.setIfInBounds_toArray, List.set_cons_zero, List.set_cons_succ]))
              (refine takeH (i := 1) (v := ?_) rfl (by kernel_rfl) (by kernel_rfl) (by kernel_rfl) (fun _ _ _ h => h) (Or.inl ⟨by rfl, ?_⟩) (by assumption) ?_; rotate_left; (focus ((intro wS hSw); (try dsimp only at hSw); obtain ⟨s0, s1, s2, s3, s4, s5⟩ := hSw; go_simp; (try with_reducible rfl); done)); (try simp only [Act.put, List.setIfInBounds_toArray, List.set_cons_zero, List.set_cons_succ]))
              (refine takeH (i := 2) (v := ?_) rfl (by kernel_rfl) (by kernel_rfl) (by kernel_rfl) (fun _ _ _ h => h) (Or.inl ⟨by rfl, ?_⟩) (by assumption) ?_; rotate_left; (focus ((intro wS hSw); (try dsimp only at hSw); obtain ⟨s0, s1, s2, s3, s4, s5⟩ := hSw; go_simp; (try with_reducible rfl); done)); (try simp only [Act.put, List.setIfInBounds_toArray, List.set_cons_zero, List.set_cons_succ]))
              (refine takeH (i := 4) (v := ?_) rfl (by kernel_rfl) (by kernel_rfl) (by kernel_rfl) (fun _ _ _ h => h) (Or.inl ⟨by rfl, ?_⟩) (by assumption) ?_; rotate_left; (focus ((intro wS hSw); (try dsimp only at hSw); obtain ⟨s0, s1, s2, s3, s4, s5⟩ := hSw; go_simp; (try with_reducible rfl); done)); (try simp only [Act.put, List.setIfInBounds_toArray, List.set_cons_zero, List.set_cons_succ]))
              (refine takeH (i := 5) (v := ?_) rfl (by kernel_rfl) (by kernel_rfl) (by kernel_rfl) (fun _ _ _ h => h) (Or.inl ⟨by rfl, ?_⟩) (by assumption) ?_; rotate_left; (focus ((intro wS hSw); (try dsimp only at hSw); obtain ⟨s0, s1, s2, s3, s4, s5⟩ := hSw; go_simp; (try with_reducible rfl); done)); (try simp only [Act.put, List.setIfInBounds_toArray, List.set_cons_zero, List.set_cons_succ]))
              refine aloneH (i := 3) rfl (by kernel_rfl) (fun K hK => ?_)
              rw [if_pos (by rfl)]
              go_simp; ((refine (HSs.out _ (HCd.out.on (Below.refl _ wd))).mono ?_); (rintro e w1 ⟨rfl, hb⟩); have HB1 := Lib.hid hb; clear hb; (try go_simp))
              refine hK.out _ _ (⟨cell_on HB1.out hHeld.1, cell_on HB1.out hHeld.2.1, cell_on HB1.out hHeld.2.2.1, cell_on HB1.out hHeld.2.2.2.1, cell_on HB1.out hHeld.2.2.2.2.1, cell_on HB1.out hHeld.2.2.2.2.2⟩) (fun hNew => ?_)
              clear hK K hHeld; (have hHeld := hNew); clear hNew; (try simp only [Act.put, List.setIfInBounds_toArray, List.set_cons_zero, List.set_cons_succ])
              refine aloneH (i := 6) rfl (by kernel_rfl) (fun K hK => ?_)
              rw [if_pos (by rfl)]
              go_simp; ((refine (HSa.out _ (HCd.out.on HB1.out)).mono ?_); (rintro e w2 ⟨rfl, hb⟩); have HB2 := Lib.hid hb; clear hb; (try go_simp))
              refine hK.out _ _ (⟨cell_on HB2.out hHeld.1, cell_on HB2.out hHeld.2.1, cell_on HB2.out hHeld.2.2.1, cell_on HB2.out hHeld.2.2.2.1, cell_on HB2.out hHeld.2.2.2.2.1, cell_on HB2.out hHeld.2.2.2.2.2⟩) (fun hNew => ?_)
              clear hK K hHeld; (have hHeld := hNew); clear hNew; (try simp only [Act.put, List.setIfInBounds_toArray, List.set_cons_zero, List.set_cons_succ])
              (refine takeH (i := 7) (v := ?_) rfl (by kernel_rfl) (by kernel_rfl) (by kernel_rfl) (fun _ _ _ h => h) (Or.inl ⟨by rfl, ?_⟩) (by assumption) ?_; rotate_left; (focus ((intro wS hSw); (try dsimp only at hSw); obtain ⟨s0, s1, s2, s3, s4, s5⟩ := hSw; go_simp; (try with_reducible rfl); done)); (try simp only [Act.put, List.setIfInBounds_toArray, List.set_cons_zero, List.set_cons_succ]))
              (refine takeH (i := 8) (v := ?_) rfl (by kernel_rfl) (by kernel_rfl) (by kernel_rfl) (fun _ _ _ h => h) (Or.inl ⟨by rfl, ?_⟩) (by assumption) ?_; rotate_left; (focus ((intro wS hSw); (try dsimp only at hSw); obtain ⟨s0, s1, s2, s3, s4, s5⟩ := hSw; go_simp; (try with_reducible rfl); done)); (try simp only [Act.put, List.setIfInBounds_toArray, List.set_cons_zero, List.set_cons_succ]))
              refine wpAnyH_done (by kernel_rfl) ?_ _
              have HB9 := Lib.hid (below_any HBd.out (Nat.le_refl _) (below_then HB1.out HB2.out))
              have HC9 := Lib.hid (HCd.out.on (below_then HB1.out HB2.out))
              have HA9 := Lib.hid (heap_on (below_then HB1.out HB2.out) HAd.out)
              have HX9 := Lib.hid (heap_on (below_then HB1.out HB2.out) HXd.out)
              clear hHeld HBd HCd HAd HXd
              obtain ⟨x0, x1, x2, x3⟩ := cells4_row HX9.out
              obtain ⟨a0, a1, a2⟩ := cells3_row HA9.out
              go_wp2
              go_roundw
              case rel =>
                have h5 := Ck.fi_ok HOk.out pk py pi
                exact ⟨j + 1, _, HJ.out.2, by go_num, rfl, Lib.hid ⟨_, HC9.out, h5.1, h5.2.1.trans HKk.out, HNw.out, HA9.out, HB9.out⟩⟩
              case measure => rw [hw]; exact roundsLeft_next _ _ HJ.out.2
          · have er0 : (c.fiE pk py pi != 0) = true := bne_t he
            have er1 : (c.fiE pk py pi == 0) = false := by simp [he]
            have hcl := Ck.fi_no he
            obtain ⟨ow, how⟩ : ∃ ow, ow = c.st pk py pi := ⟨_, rfl⟩
            have HSt : Hid (∀ W, CkAt W P c → Calls Try.prog 19 #[.pointer (some ⟨P, 0, none⟩), .agg #[.int .i64 pk, .int .i64 py, .int .i64 pi]] W fun e w' => e = .returned (.int .i64 ow) ∧ Below W.heap.size W w') := Lib.hid (fun W hW => by rw [how]; exact code_state W P c _ _ _ hW HOk.out)
            have HSs : Hid (∀ W, CkAt W P c → Calls Try.prog 19 #[.pointer (some ⟨P, 0, none⟩), .agg #[.int .i64 pk, .int .i64 py, .int .i64 pi]] W fun e w' => e = .returned (.int .i64 ow) ∧ Below W.heap.size W w') := Lib.hid (fun W hW => by rw [how]; exact code_state W P c _ _ _ hW HOk.out)
            have HSa : Hid (∀ W, CkAt W P c → Calls Try.prog 19 #[.pointer (some ⟨P, 0, none⟩), .agg #[.int .i64 ak, .int .i64 ay, .int .i64 ai]] W fun e w' => e = .returned (.int .i64 la) ∧ Below W.heap.size W w') := Lib.hid (fun W hW => by rw [HLa.out]; exact code_state W P c _ _ _ hW HOk.out)
            have HSp : Hid (∀ W, CkAt W P c → Calls Try.prog 14 #[.pointer (some ⟨P, 0, none⟩), .agg #[.int .i64 pk, .int .i64 py, .int .i64 pi]] W (StepP W P c (c.fiE pk py pi))) := Lib.hid (fun W hW => by have := code_file W P c pk py pi hW HOk.out; rw [hcl] at this; exact this)
            have HNw : Hid (la = c.st ak ay ai) := HLa
            clear he hcl how
            generalize c.fiE pk py pi = er at *
            go_wp2_with (go_at_call 19; refine (HSt.out _ HC3.out).mono ?_; rintro e w4 ⟨rfl, hb⟩; have HX4 := Lib.hid (heap_on hb HX3.out); have HA4 := Lib.hid (heap_on hb HA3.out); have HC4 := Lib.hid (HC3.out.on hb); have HB4 := Lib.hid (below_any HB3.out (Nat.le_refl _) hb); clear hb; refine Stop.out ?_)
            unfold Stop
            clear y0 y1 y2 y3
            obtain ⟨x0, x1, x2, x3⟩ := cells4_row HX4.out
            go_wp2_with (go_at_call 14; refine (HSp.out _ HC4.out).mono ?_; rintro e w5 hs; have HX5 := Lib.hid (hs.on HX4.out HPg.out); have HA5 := Lib.hid (hs.on HA4.out HPn.out); have HC5 := Lib.hid hs.2.1; have HB5 := Lib.hid (HB4.out.trans (hs.2.2.below (base := w.heap.size) HB4.out.size (Nat.le_of_lt HPa.out))); obtain rfl := hs.1; clear hs; refine Stop.out ?_)
            unfold Stop
            clear x0 x1 x2 x3
            go_wp2_with fail
            have HXd : Hid (w5.drew.heap[wr.heap.size]? = _) := Lib.hid HX5.out
            have HAd : Hid (w5.drew.heap[w.heap.size]? = _) := Lib.hid HA5.out
            have HCd : Hid (CkAt w5.drew P c) := Lib.hid HC5.out
            have HBd := Lib.hid HB5.out.drew
            refine wp_region_held_drew (S := fun W => W.cell? ⟨wr.heap.size, 1, none⟩ = some (.int .i64 pk) ∧ W.cell? ⟨wr.heap.size, 2, none⟩ = some (.int .i64 py) ∧ W.cell? ⟨wr.heap.size, 3, none⟩ = some (.int .i64 pi) ∧ W.cell? ⟨w.heap.size, 0, none⟩ = some (.int .i64 ak) ∧ W.cell? ⟨w.heap.size, 1, none⟩ = some (.int .i64 ay) ∧ W.cell? ⟨w.heap.size, 2, none⟩ = some (.int .i64 ai)) (by kernel_rfl) ⟨(cells4_row HX5.out).2.1, (cells4_row HX5.out).2.2.1, (cells4_row HX5.out).2.2.2, (cells3_row HA5.out).1, (cells3_row HA5.out).2.1, (cells3_row HA5.out).2.2⟩ ?_
            intro hHeld
            clear HX5 HA5 HC5 HB5
            generalize w5.drew = wd at HXd HAd HCd HBd hHeld ⊢
            (refine takeH (i := 0) (v := ?_) rfl (by kernel_rfl) (by kernel_rfl) (by kernel_rfl) (fun _ _ _ h => h) (Or.inl ⟨by rfl, ?_⟩) (by assumption) ?_; rotate_left; (focus ((intro wS hSw); (try dsimp only at hSw); obtain ⟨s0, s1, s2, s3, s4, s5⟩ := hSw; go_simp; (try with_reducible rfl); done)); (try simp only [Act.put, List.setIfInBounds_toArray, List.set_cons_zero, List.set_cons_succ]))
            (refine takeH (i := 1) (v := ?_) rfl (by kernel_rfl) (by kernel_rfl) (by kernel_rfl) (fun _ _ _ h => h) (Or.inl ⟨by rfl, ?_⟩) (by assumption) ?_; rotate_left; (focus ((intro wS hSw); (try dsimp only at hSw); obtain ⟨s0, s1, s2, s3, s4, s5⟩ := hSw; go_simp; (try with_reducible rfl); done)); (try simp only [Act.put, List.setIfInBounds_toArray, List.set_cons_zero, List.set_cons_succ]))
            (refine takeH (i := 2) (v := ?_) rfl (by kernel_rfl) (by kernel_rfl) (by kernel_rfl) (fun _ _ _ h => h) (Or.inl ⟨by rfl, ?_⟩) (by assumption) ?_; rotate_left; (focus ((intro wS hSw); (try dsimp only at hSw); obtain ⟨s0, s1, s2, s3, s4, s5⟩ := hSw; go_simp; (try with_reducible rfl); done)); (try simp only [Act.put, List.setIfInBounds_toArray, List.set_cons_zero, List.set_cons_succ]))
            (refine takeH (i := 4) (v := ?_) rfl (by kernel_rfl) (by kernel_rfl) (by kernel_rfl) (fun _ _ _ h => h) (Or.inl ⟨by rfl, ?_⟩) (by assumption) ?_; rotate_left; (focus ((intro wS hSw); (try dsimp only at hSw); obtain ⟨s0, s1, s2, s3, s4, s5⟩ := hSw; go_simp; (try with_reducible rfl); done)); (try simp only [Act.put, List.setIfInBounds_toArray, List.set_cons_zero, List.set_cons_succ]))
            (refine takeH (i := 5) (v := ?_) rfl (by kernel_rfl) (by kernel_rfl) (by kernel_rfl) (fun _ _ _ h => h) (Or.inl ⟨by rfl, ?_⟩) (by assumption) ?_; rotate_left; (focus ((intro wS hSw); (try dsimp only at hSw); obtain ⟨s0, s1, s2, s3, s4, s5⟩ := hSw; go_simp; (try with_reducible rfl); done)); (try simp only [Act.put, List.setIfInBounds_toArray, List.set_cons_zero, List.set_cons_succ]))
            refine aloneH (i := 3) rfl (by kernel_rfl) (fun K hK => ?_)
            rw [if_pos (by rfl)]
            go_simp; ((refine (HSs.out _ (HCd.out.on (Below.refl _ wd))).mono ?_); (rintro e w1 ⟨rfl, hb⟩); have HB1 := Lib.hid hb; clear hb; (try go_simp))
            refine hK.out _ _ (⟨cell_on HB1.out hHeld.1, cell_on HB1.out hHeld.2.1, cell_on HB1.out hHeld.2.2.1, cell_on HB1.out hHeld.2.2.2.1, cell_on HB1.out hHeld.2.2.2.2.1, cell_on HB1.out hHeld.2.2.2.2.2⟩) (fun hNew => ?_)
            clear hK K hHeld; (have hHeld := hNew); clear hNew; (try simp only [Act.put, List.setIfInBounds_toArray, List.set_cons_zero, List.set_cons_succ])
            refine aloneH (i := 6) rfl (by kernel_rfl) (fun K hK => ?_)
            rw [if_pos (by rfl)]
            go_simp; ((refine (HSa.out _ (HCd.out.on HB1.out)).mono ?_); (rintro e w2 ⟨rfl, hb⟩); have HB2 := Lib.hid hb; clear hb; (try go_simp))
            refine hK.out _ _ (⟨cell_on HB2.out hHeld.1, cell_on HB2.out hHeld.2.1, cell_on HB2.out hHeld.2.2.1, cell_on HB2.out hHeld.2.2.2.1, cell_on HB2.out hHeld.2.2.2.2.1, cell_on HB2.out hHeld.2.2.2.2.2⟩) (fun hNew => ?_)
            clear hK K hHeld; (have hHeld := hNew); clear hNew; (try simp only [Act.put, List.setIfInBounds_toArray, List.set_cons_zero, List.set_cons_succ])
            (refine takeH (i := 7) (v := ?_) rfl (by kernel_rfl) (by kernel_rfl) (by kernel_rfl) (fun _ _ _ h => h) (Or.inl ⟨by rfl, ?_⟩) (by assumption) ?_; rotate_left; (focus ((intro wS hSw); (try dsimp only at hSw); obtain ⟨s0, s1, s2, s3, s4, s5⟩ := hSw; go_simp; (try with_reducible rfl); done)); (try simp only [Act.put, List.setIfInBounds_toArray, List.set_cons_zero, List.set_cons_succ]))
            (refine takeH (i := 8) (v := ?_) rfl (by kernel_rfl) (by kernel_rfl) (by kernel_rfl) (fun _ _ _ h => h) (Or.inl ⟨by rfl, ?_⟩) (by assumption) ?_; rotate_left; (focus ((intro wS hSw); (try dsimp only at hSw); obtain ⟨s0, s1, s2, s3, s4, s5⟩ := hSw; go_simp; (try with_reducible rfl); done)); (try simp only [Act.put, List.setIfInBounds_toArray, List.set_cons_zero, List.set_cons_succ]))
            refine wpAnyH_done (by kernel_rfl) ?_ _
            have HB9 := Lib.hid (below_any HBd.out (Nat.le_refl _) (below_then HB1.out HB2.out))
            have HC9 := Lib.hid (HCd.out.on (below_then HB1.out HB2.out))
            have HA9 := Lib.hid (heap_on (below_then HB1.out HB2.out) HAd.out)
            have HX9 := Lib.hid (heap_on (below_then HB1.out HB2.out) HXd.out)
            clear hHeld HBd HCd HAd HXd
            obtain ⟨x0, x1, x2, x3⟩ := cells4_row HX9.out
            obtain ⟨a0, a1, a2⟩ := cells3_row HA9.out
            go_wp2
            go_roundw
            case rel =>
              have h5 := Ck.fi_ok HOk.out pk py pi
              exact ⟨j + 1, _, HJ.out.2, by go_num, rfl, Lib.hid ⟨_, HC9.out, HOk.out, HKk.out, HNw.out, HA9.out, HB9.out⟩⟩
            case measure => rw [hw]; exact roundsLeft_next _ _ HJ.out.2
    · have hge : ¬ (j : Int) < (L.length : Int) := by omega
      have HBr := Lib.hid hb
      clear HI hc ok hb HR hj hlt hk hla hA
      go_wp2_with (go_at_call 7; refine (HLv.out _).mono ?_; rintro e w3 ⟨rfl, hb3⟩; have HB3 := Lib.hid (below_any HBr.out (Nat.le_refl _) hb3); clear hb3)
      go_ret
      exact ⟨rfl, HB3.out⟩
theorem periodOnce_any (w : World) (k n : Int) (A : Option Addr) (L : List StepV) (cp : Nat) (hr : RowStepV w A L) (x : PerV) (hlb : L.length ≤ 4000000000000000000) :
    Calls Try.prog 4 #[.int .i64 k, .int .i64 n, .slice A L.length cp, .agg #[.int .i64 x.1, .int .i64 x.2.1, .int .i64 x.2.2]] w fun e w' => e = .returned (.bool true) ∧ Below w.heap.size w w' := by
  obtain ⟨ak, ay, ai⟩ := x
  have HBA := Lib.hid (below_alloc w (.cells #[.int .i64 ak, .int .i64 ay, .int .i64 ai] 24))
  have HLv := Lib.hid lives27_any
  by_cases hl : L.length ≤ 60
  · by_cases hk : Civ.isKind k
    · by_cases h1 : 0 ≤ n ∧ n ≤ 2932896
      · exact once_walk w k n ak ay ai A L cp hr hl hk h1.1 h1.2
      · have HN := Lib.hid (fun w => new_day k n w hk (by omega))
        have hl' : ¬ (60 : Int) < (L.length : Int) := by omega
        clear h1 hk hl hlb hr
        go_enter Try.func4, Try.ntmps4
        go_wp2_with (first
          | (go_at_call 8; refine (HN.out _).mono ?_; rintro e w1 ⟨rfl, hb⟩; have HB1 := Lib.hid (below_then HBA.out hb); clear hb)
          | (go_at_call 7; refine (HLv.out _).mono ?_; rintro e w3 ⟨rfl, hb3⟩; have HB3 := Lib.hid (below_any HB1.out (Nat.le_refl _) hb3); clear hb3))
        go_ret
        exact ⟨rfl, HB3.out⟩
    · have HN := Lib.hid (fun w => new_kind k n w hk)
      have hl' : ¬ (60 : Int) < (L.length : Int) := by omega
      clear hk hl hlb hr
      go_enter Try.func4, Try.ntmps4
      go_wp2_with (first
        | (go_at_call 8; refine (HN.out _).mono ?_; rintro e w1 ⟨rfl, hb⟩; have HB1 := Lib.hid (below_then HBA.out hb); clear hb)
        | (go_at_call 7; refine (HLv.out _).mono ?_; rintro e w3 ⟨rfl, hb3⟩; have HB3 := Lib.hid (below_any HB1.out (Nat.le_refl _) hb3); clear hb3))
      go_ret
      exact ⟨rfl, HB3.out⟩
  · have hl' : (60 : Int) < (L.length : Int) := by omega
    clear hl hlb hr
    go_enter Try.func4, Try.ntmps4
    go_wp2_with (go_at_call 7; refine (HLv.out _).mono ?_; rintro e w3 ⟨rfl, hb3⟩; have HB3 := Lib.hid (below_then HBA.out hb3); clear hb3)
    go_ret
    exact ⟨rfl, HB3.out⟩
end Go.Proofs.Ytdacpiegfobhbaa
