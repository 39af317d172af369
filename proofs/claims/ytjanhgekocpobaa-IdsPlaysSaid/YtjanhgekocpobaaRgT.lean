/- Documents: what may be: the document's, any document. -/
import Derived.Test.YtjanhgekocpobaaRcC
import Derived.Test.YtjanhgekocpobaaDocF
import Derived.Test.YtjanhgekocpobaaDocO
import Derived.Test.YtjanhgekocpobaaVatRightR
import Derived.Test.YtjanhgekocpobaaRcE
import Derived.WalkMore
namespace Go.Proofs.Ytjanhgekocpobaa
open Go.RowKit
set_option maxRecDepth 100000
set_option linter.unusedSimpArgs false
set_option linter.unusedVariables false

attribute [local go_sem] Oper.semAt_some
set_option maxHeartbeats 8000000 in
theorem refDoc_val (d : DocV) (V : Bool) (w : World) (hd : DocVOk w d) (hln : d.lines.length ≤ 140737488351232) (hV : docGood d (rightP d.country d.number) (currB d.currency) = V) : Calls Try.prog 19 #[.agg #[.string d.id, .bool d.sale, .bool d.credit, .string d.refers, .int .i64 d.day, .string d.country, .string d.number, .string d.currency, .slice d.linesA d.lines.length d.linesC]] w fun e w1 => e = .returned (.bool V) ∧ Below w.heap.size w w1 := by
  unfold docGood at hV
  generalize d.credit = cr at hV ⊢
  obtain ⟨hd1, hd2, hd3, hd4, hd5, hr, hA, hlc, hcm, hg⟩ := hd
  have HCo : Hid (∀ W : World, Calls Try.prog 30 #[.string d.country] W fun e w' => e = .returned (.bool (placeB d.country)) ∧ W = w') := Lib.hid (fun W => ref_country d.country W (by omega))
  have HRt : Hid (∀ W, Calls Try.prog 31 #[.string d.country, .string d.number] W fun e w' => e = .returned (.bool (rightP d.country d.number)) ∧ Below W.heap.size W w') := Lib.hid (fun W => ref_right d.country d.number W hd3 (by omega))
  have HCu : Hid (∀ W, Calls Try.prog 32 #[.string d.currency] W fun e w' => e = .returned (.bool (currB d.currency)) ∧ W = w') := Lib.hid (fun W => ref_currency d.currency W (by omega))
  cases e3 : ((!d.refers.toList.isEmpty) == cr) with
  | false =>
    obtain rfl : cr = d.refers.toList.isEmpty := by revert e3; cases cr <;> cases d.refers.toList.isEmpty <;> simp
    simp only [e3, Bool.false_and, Bool.and_false] at hV
    subst hV
    clear e3
    have HX := Lib.hid (heap_alloc_new w (.cells #[.string d.id, .bool d.sale, .bool d.refers.toList.isEmpty, .string d.refers, .int .i64 d.day, .string d.country, .string d.number, .string d.currency, .slice d.linesA d.lines.length d.linesC] 29))
    have HBA := Lib.hid (below_alloc w (.cells #[.string d.id, .bool d.sale, .bool d.refers.toList.isEmpty, .string d.refers, .int .i64 d.day, .string d.country, .string d.number, .string d.currency, .slice d.linesA d.lines.length d.linesC] 29))
    have i1 : (d.id.size : Int) ≤ 140737488351232 := by omega
    have i2 : (d.refers.size : Int) ≤ 140737488351232 := by omega
    have i3 : (d.lines.length : Int) ≤ 140737488351232 := by omega
    have HR := Lib.hid hr
    have HG := Lib.hid hg
    have HLC := Lib.hid hlc
    generalize placeB d.country = pB at HCo
    clear hd1 hd2 hd3 hd4 hd5 hr hA hlc hcm hg hln
    go_enter Try.func19, Try.ntmps19
    go_wp2_with (first | (go_at_call 29; refine (ref_in _ _ _ _).mono ?_; rintro e w2 ⟨rfl, rfl⟩) | (go_at_call 30; refine (HCo.out _).mono ?_; rintro e w2 ⟨rfl, rfl⟩) | (go_at_call 32; refine (HCu.out _).mono ?_; rintro e w2 ⟨rfl, rfl⟩))
    all_goals
      go_ret
      exact ⟨rfl, HBA.out⟩
  | true =>
    obtain rfl : cr = !d.refers.toList.isEmpty := by revert e3; cases cr <;> cases d.refers.toList.isEmpty <;> simp
    simp only [e3, Bool.and_true] at hV
    clear e3
    have HX := Lib.hid (heap_alloc_new w (.cells #[.string d.id, .bool d.sale, .bool (!d.refers.toList.isEmpty), .string d.refers, .int .i64 d.day, .string d.country, .string d.number, .string d.currency, .slice d.linesA d.lines.length d.linesC] 29))
    have HBA := Lib.hid (below_alloc w (.cells #[.string d.id, .bool d.sale, .bool (!d.refers.toList.isEmpty), .string d.refers, .int .i64 d.day, .string d.country, .string d.number, .string d.currency, .slice d.linesA d.lines.length d.linesC] 29))
    have i1 : (d.id.size : Int) ≤ 140737488351232 := by omega
    have i2 : (d.refers.size : Int) ≤ 140737488351232 := by omega
    have i3 : (d.lines.length : Int) ≤ 140737488351232 := by omega
    have HR := Lib.hid hr
    have HG := Lib.hid hg
    have HLC := Lib.hid hlc
    generalize placeB d.country = pB at HCo hV
    clear hd1 hd2 hd3 hd4 hd5 hr hA hlc hcm hg hln
    cases e1 : inB d.id.size 1 64 with
    | false =>
      simp only [e1, Bool.false_and, Bool.and_false, Bool.true_and] at hV
      subst hV
      go_enter Try.func19, Try.ntmps19
      go_wp2_with (first | (go_at_call 29; refine (ref_in _ _ _ _).mono ?_; rintro e w2 ⟨rfl, rfl⟩) | (go_at_call 30; refine (HCo.out _).mono ?_; rintro e w2 ⟨rfl, rfl⟩) | (go_at_call 32; refine (HCu.out _).mono ?_; rintro e w2 ⟨rfl, rfl⟩))
      go_ret
      exact ⟨rfl, HBA.out⟩
    | true =>
      skip
      cases e2 : decide (d.refers.size ≤ 64) with
      | false =>
        simp only [e2, Bool.false_and, Bool.and_false, Bool.true_and] at hV
        subst hV
        have f2 : ¬ (d.refers.size : Int) ≤ 64 := by simp at e2; omega
        have f2b : (64 : Int) < (d.refers.size : Int) := by omega
        go_enter Try.func19, Try.ntmps19
        go_wp2_with (first | (go_at_call 29; refine (ref_in _ _ _ _).mono ?_; rintro e w2 ⟨rfl, rfl⟩) | (go_at_call 30; refine (HCo.out _).mono ?_; rintro e w2 ⟨rfl, rfl⟩) | (go_at_call 32; refine (HCu.out _).mono ?_; rintro e w2 ⟨rfl, rfl⟩))
        go_ret
        exact ⟨rfl, HBA.out⟩
      | true =>
        have f2 : (d.refers.size : Int) ≤ 64 := by simp at e2; omega
        cases e4 : inB d.day 0 2932896 with
        | false =>
          simp only [e4, Bool.false_and, Bool.and_false, Bool.true_and] at hV
          subst hV
          go_enter Try.func19, Try.ntmps19
          go_wp2_with (first | (go_at_call 29; refine (ref_in _ _ _ _).mono ?_; rintro e w2 ⟨rfl, rfl⟩) | (go_at_call 30; refine (HCo.out _).mono ?_; rintro e w2 ⟨rfl, rfl⟩) | (go_at_call 32; refine (HCu.out _).mono ?_; rintro e w2 ⟨rfl, rfl⟩))
          go_ret
          exact ⟨rfl, HBA.out⟩
        | true =>
          skip
          cases e5 : pB with
          | false =>
            simp only [e5, Bool.false_and, Bool.and_false, Bool.true_and] at hV
            subst hV
            go_enter Try.func19, Try.ntmps19
            go_wp2_with (first | (go_at_call 29; refine (ref_in _ _ _ _).mono ?_; rintro e w2 ⟨rfl, rfl⟩) | (go_at_call 30; refine (HCo.out _).mono ?_; rintro e w2 ⟨rfl, rfl⟩) | (go_at_call 32; refine (HCu.out _).mono ?_; rintro e w2 ⟨rfl, rfl⟩))
            go_ret
            exact ⟨rfl, HBA.out⟩
          | true =>
            skip
            cases e6 : inB d.lines.length 1 64 with
            | false =>
              simp only [e6, Bool.false_and, Bool.and_false, Bool.true_and] at hV
              subst hV
              go_enter Try.func19, Try.ntmps19
              go_wp2_with (first | (go_at_call 29; refine (ref_in _ _ _ _).mono ?_; rintro e w2 ⟨rfl, rfl⟩) | (go_at_call 30; refine (HCo.out _).mono ?_; rintro e w2 ⟨rfl, rfl⟩) | (go_at_call 32; refine (HCu.out _).mono ?_; rintro e w2 ⟨rfl, rfl⟩))
              go_ret
              exact ⟨rfl, HBA.out⟩
            | true =>
              skip
              simp only [e1, e2, e4, e5, e6, Bool.true_and, Bool.and_true] at hV
              cases hn : d.number.toList.isEmpty with
              | true =>
                cases hc : d.currency.toList.isEmpty with
                | true =>
                  simp only [hn, hc, Bool.true_or, Bool.or_true, Bool.true_and, Bool.and_true, Bool.false_or] at hV
                  have HV := Lib.hid hV
                  clear hV
                  go_enter Try.func19, Try.ntmps19
                  go_wp2_with (first | (go_at_call 29; refine (ref_in _ _ _ _).mono ?_; rintro e w2 ⟨rfl, rfl⟩) | (go_at_call 30; refine (HCo.out _).mono ?_; rintro e w2 ⟨rfl, rfl⟩) | (go_at_call 32; refine (HCu.out _).mono ?_; rintro e w2 ⟨rfl, rfl⟩))
                  have HX2 := HX
                  have HBW := HBA
                  clear HX HBA
                  generalize World.alloc w _ = w2 at HX2 HBW ⊢
                  generalize d.linesA = A1 at HR HX2 ⊢
                  go_loopw [3] (fun i wr => ∃ (k : Nat), k ≤ d.lines.length ∧ i = .int .i64 k ∧ Hid (badAny (d.lines.take k) d.sale = false) ∧ Hid (Below w2.heap.size w2 wr)) (fun i _ => d.lines.length - (intOf i).toNat)
                  case atStart => exact ⟨0, Nat.zero_le _, rfl, Lib.hid rfl, Lib.hid (Below.refl _ _)⟩
                  case round =>
                    obtain ⟨k, hk, rfl, HS, HB⟩ := hrel
                    have cx : wr.cell? ⟨w.heap.size, 8, none⟩ = some (.slice A1 d.lines.length d.linesC) := by rw [cell_of_row wr _ 8 _ _ _ (heap_on HB.out HX2.out)]; rfl
                    have cs : wr.cell? ⟨w.heap.size, 1, none⟩ = some (.bool d.sale) := by rw [cell_of_row wr _ 1 _ _ _ (heap_on HB.out HX2.out)]; rfl
                    by_cases hlt : k < d.lines.length
                    · have hlt' : (k : Int) < (d.lines.length : Int) := by omega
                      have hlc' : (k : Int) < (d.linesC : Int) := by have := HLC.out; omega
                      obtain ⟨b1, o1, rfl, hb1, y0, y1, y2, y3, y4, y5, y6, y7, y8⟩ := (HR.out.on (below_then HBW.out HB.out)).at_ k hlt
                      have HGl : Hid (∀ W, Calls Try.prog 33 #[.agg #[.int .i64 d.lines[k].1, .int .i64 d.lines[k].2.1, .string d.lines[k].2.2.1, .string d.lines[k].2.2.2.1, .string d.lines[k].2.2.2.2.1, .int .i64 d.lines[k].2.2.2.2.2.1, .bool d.lines[k].2.2.2.2.2.2.1, .int .i64 d.lines[k].2.2.2.2.2.2.2.1, .bool d.lines[k].2.2.2.2.2.2.2.2], .bool d.sale] W fun e w1 => e = .returned (.bool (lineGood d.lines[k] d.sale)) ∧ Below W.heap.size W w1) := Lib.hid (fun W => ref_goodLine _ _ _ _ _ _ _ _ _ d.sale W (HG.out _ (List.getElem_mem hlt)).1 (HG.out _ (List.getElem_mem hlt)).2.1 (HG.out _ (List.getElem_mem hlt)).2.2 _ rfl)
                      obtain ⟨p, hp⟩ : ∃ p, p = d.lines[k] := ⟨_, rfl⟩
                      rw [← hp] at y0 y1 y2 y3 y4 y5 y6 y7 y8 HGl
                      have HP := Lib.hid hp
                      clear hp
                      cases hlk : lineGood p d.sale with
                      | false =>
                        have HN := Lib.hid (bad_found hlt (by rw [← HP.out]; exact hlk))
                        rw [hlk] at HGl
                        go_wp2
                        have HBD := Lib.hid (below_then HB.out (below_drawn _))
                        refine wp_region_held_drew (S := fun V => V.cell? ⟨w.heap.size, 8, none⟩ = some (.slice (some ⟨b1, o1, none⟩) d.lines.length d.linesC) ∧ V.cell? ⟨w.heap.size, 1, none⟩ = some (.bool d.sale) ∧ V.cell? ⟨b1, o1 + k * 9, none⟩ = some (.int .i64 p.1) ∧ V.cell? ⟨b1, o1 + k * 9 + 1, none⟩ = some (.int .i64 p.2.1) ∧ V.cell? ⟨b1, o1 + k * 9 + 2, none⟩ = some (.string p.2.2.1) ∧ V.cell? ⟨b1, o1 + k * 9 + 3, none⟩ = some (.string p.2.2.2.1) ∧ V.cell? ⟨b1, o1 + k * 9 + 4, none⟩ = some (.string p.2.2.2.2.1) ∧ V.cell? ⟨b1, o1 + k * 9 + 5, none⟩ = some (.int .i64 p.2.2.2.2.2.1) ∧ V.cell? ⟨b1, o1 + k * 9 + 6, none⟩ = some (.bool p.2.2.2.2.2.2.1) ∧ V.cell? ⟨b1, o1 + k * 9 + 7, none⟩ = some (.int .i64 p.2.2.2.2.2.2.2.1) ∧ V.cell? ⟨b1, o1 + k * 9 + 8, none⟩ = some (.bool p.2.2.2.2.2.2.2.2)) (by kernel_rfl) ⟨cx, cs, y0, y1, y2, y3, y4, y5, y6, y7, y8⟩ ?_
                        intro hHeld
                        clear cx cs y0 y1 y2 y3 y4 y5 y6 y7 y8
                        generalize World.drew _ = wd at HBD hHeld ⊢
                        (refine takeH (i := 0) (v := ?_) rfl (by kernel_rfl) (by kernel_rfl) (by kernel_rfl) (fun _ _ _ h => h) (Or.inl ⟨by rfl, ?_⟩) (by assumption) ?_; rotate_left; (focus ((intro wS hSw); (try dsimp only at hSw); obtain ⟨s0, s1, s2, s3, s4, s5, s6, s7, s8, s9, s10⟩ := hSw; go_simp; (try with_reducible rfl); done)); (try simp only [Act.put, List.setIfInBounds_toArray, List.set_cons_zero, List.set_cons_succ]))
                        (refine takeH (i := 1) (v := ?_) rfl (by kernel_rfl) (by kernel_rfl) (by kernel_rfl) (fun _ _ _ h => h) (Or.inl ⟨by rfl, ?_⟩) (by assumption) ?_; rotate_left; (focus ((intro wS hSw); (try dsimp only at hSw); obtain ⟨s0, s1, s2, s3, s4, s5, s6, s7, s8, s9, s10⟩ := hSw; go_simp; (try with_reducible rfl); done)); (try simp only [Act.put, List.setIfInBounds_toArray, List.set_cons_zero, List.set_cons_succ]))
                        (refine takeH (i := 2) (v := ?_) rfl (by kernel_rfl) (by kernel_rfl) (by kernel_rfl) (fun _ _ _ h => h) (Or.inl ⟨by rfl, ?_⟩) (by assumption) ?_; rotate_left; (focus ((intro wS hSw); (try dsimp only at hSw); obtain ⟨s0, s1, s2, s3, s4, s5, s6, s7, s8, s9, s10⟩ := hSw; go_simp; (try with_reducible rfl); done)); (try simp only [Act.put, List.setIfInBounds_toArray, List.set_cons_zero, List.set_cons_succ]))
                        (refine takeH (i := 3) (v := ?_) rfl (by kernel_rfl) (by kernel_rfl) (by kernel_rfl) (fun _ _ _ h => h) (Or.inl ⟨by rfl, ?_⟩) (by assumption) ?_; rotate_left; (focus ((intro wS hSw); (try dsimp only at hSw); obtain ⟨s0, s1, s2, s3, s4, s5, s6, s7, s8, s9, s10⟩ := hSw; go_simp; (try with_reducible rfl); done)); (try simp only [Act.put, List.setIfInBounds_toArray, List.set_cons_zero, List.set_cons_succ]))
                        (refine takeH (i := 4) (v := ?_) rfl (by kernel_rfl) (by kernel_rfl) (by kernel_rfl) (fun _ _ _ h => h) (Or.inl ⟨by rfl, ?_⟩) (by assumption) ?_; rotate_left; (focus ((intro wS hSw); (try dsimp only at hSw); obtain ⟨s0, s1, s2, s3, s4, s5, s6, s7, s8, s9, s10⟩ := hSw; go_simp; (try with_reducible rfl); done)); (try simp only [Act.put, List.setIfInBounds_toArray, List.set_cons_zero, List.set_cons_succ]))
                        (refine takeH (i := 5) (v := ?_) rfl (by kernel_rfl) (by kernel_rfl) (by kernel_rfl) (fun _ _ _ h => h) (Or.inl ⟨by rfl, ?_⟩) (by assumption) ?_; rotate_left; (focus ((intro wS hSw); (try dsimp only at hSw); obtain ⟨s0, s1, s2, s3, s4, s5, s6, s7, s8, s9, s10⟩ := hSw; go_simp; (try with_reducible rfl); done)); (try simp only [Act.put, List.setIfInBounds_toArray, List.set_cons_zero, List.set_cons_succ]))
                        (refine takeH (i := 6) (v := ?_) rfl (by kernel_rfl) (by kernel_rfl) (by kernel_rfl) (fun _ _ _ h => h) (Or.inl ⟨by rfl, ?_⟩) (by assumption) ?_; rotate_left; (focus ((intro wS hSw); (try dsimp only at hSw); obtain ⟨s0, s1, s2, s3, s4, s5, s6, s7, s8, s9, s10⟩ := hSw; go_simp; (try with_reducible rfl); done)); (try simp only [Act.put, List.setIfInBounds_toArray, List.set_cons_zero, List.set_cons_succ]))
                        refine aloneH (i := 7) rfl (by kernel_rfl) (fun K hK => ?_)
                        rw [if_pos (by rfl)]
                        go_simp; ((refine (HGl.out _).mono ?_); (rintro e w1 ⟨rfl, hb⟩); have HB1 := Lib.hid hb; clear hb; (try go_simp))
                        refine hK.out _ _ (⟨cell_on HB1.out hHeld.1, cell_on HB1.out hHeld.2.1, cell_on HB1.out hHeld.2.2.1, cell_on HB1.out hHeld.2.2.2.1, cell_on HB1.out hHeld.2.2.2.2.1, cell_on HB1.out hHeld.2.2.2.2.2.1, cell_on HB1.out hHeld.2.2.2.2.2.2.1, cell_on HB1.out hHeld.2.2.2.2.2.2.2.1, cell_on HB1.out hHeld.2.2.2.2.2.2.2.2.1, cell_on HB1.out hHeld.2.2.2.2.2.2.2.2.2.1, cell_on HB1.out hHeld.2.2.2.2.2.2.2.2.2.2⟩) (fun hNew => ?_)
                        clear hK K hHeld; (have hHeld := hNew); clear hNew; (try simp only [Act.put, List.setIfInBounds_toArray, List.set_cons_zero, List.set_cons_succ])
                        (refine takeH (i := 8) (v := ?_) rfl (by kernel_rfl) (by kernel_rfl) (by kernel_rfl) (fun _ _ _ h => h) (Or.inl ⟨by rfl, ?_⟩) (by assumption) ?_; rotate_left; (focus ((intro wS hSw); (try dsimp only at hSw); obtain ⟨s0, s1, s2, s3, s4, s5, s6, s7, s8, s9, s10⟩ := hSw; go_simp; (try with_reducible rfl); done)); (try simp only [Act.put, List.setIfInBounds_toArray, List.set_cons_zero, List.set_cons_succ]))
                        refine wpAnyH_done (by kernel_rfl) ?_ _
                        clear hHeld
                        go_wp2
                        go_ret
                        exact ⟨ret_bool (by rw [← HV.out, HN.out]; rfl), below_then HBW.out (below_then HBD.out HB1.out)⟩
                      | true =>
                        have HN := Lib.hid (bad_next hlt HS.out (by rw [← HP.out]; exact hlk))
                        rw [hlk] at HGl
                        go_wp2
                        have HBD := Lib.hid (below_then HB.out (below_drawn _))
                        refine wp_region_held_drew (S := fun V => V.cell? ⟨w.heap.size, 8, none⟩ = some (.slice (some ⟨b1, o1, none⟩) d.lines.length d.linesC) ∧ V.cell? ⟨w.heap.size, 1, none⟩ = some (.bool d.sale) ∧ V.cell? ⟨b1, o1 + k * 9, none⟩ = some (.int .i64 p.1) ∧ V.cell? ⟨b1, o1 + k * 9 + 1, none⟩ = some (.int .i64 p.2.1) ∧ V.cell? ⟨b1, o1 + k * 9 + 2, none⟩ = some (.string p.2.2.1) ∧ V.cell? ⟨b1, o1 + k * 9 + 3, none⟩ = some (.string p.2.2.2.1) ∧ V.cell? ⟨b1, o1 + k * 9 + 4, none⟩ = some (.string p.2.2.2.2.1) ∧ V.cell? ⟨b1, o1 + k * 9 + 5, none⟩ = some (.int .i64 p.2.2.2.2.2.1) ∧ V.cell? ⟨b1, o1 + k * 9 + 6, none⟩ = some (.bool p.2.2.2.2.2.2.1) ∧ V.cell? ⟨b1, o1 + k * 9 + 7, none⟩ = some (.int .i64 p.2.2.2.2.2.2.2.1) ∧ V.cell? ⟨b1, o1 + k * 9 + 8, none⟩ = some (.bool p.2.2.2.2.2.2.2.2)) (by kernel_rfl) ⟨cx, cs, y0, y1, y2, y3, y4, y5, y6, y7, y8⟩ ?_
                        intro hHeld
                        clear cx cs y0 y1 y2 y3 y4 y5 y6 y7 y8
                        generalize World.drew _ = wd at HBD hHeld ⊢
                        (refine takeH (i := 0) (v := ?_) rfl (by kernel_rfl) (by kernel_rfl) (by kernel_rfl) (fun _ _ _ h => h) (Or.inl ⟨by rfl, ?_⟩) (by assumption) ?_; rotate_left; (focus ((intro wS hSw); (try dsimp only at hSw); obtain ⟨s0, s1, s2, s3, s4, s5, s6, s7, s8, s9, s10⟩ := hSw; go_simp; (try with_reducible rfl); done)); (try simp only [Act.put, List.setIfInBounds_toArray, List.set_cons_zero, List.set_cons_succ]))
                        (refine takeH (i := 1) (v := ?_) rfl (by kernel_rfl) (by kernel_rfl) (by kernel_rfl) (fun _ _ _ h => h) (Or.inl ⟨by rfl, ?_⟩) (by assumption) ?_; rotate_left; (focus ((intro wS hSw); (try dsimp only at hSw); obtain ⟨s0, s1, s2, s3, s4, s5, s6, s7, s8, s9, s10⟩ := hSw; go_simp; (try with_reducible rfl); done)); (try simp only [Act.put, List.setIfInBounds_toArray, List.set_cons_zero, List.set_cons_succ]))
                        (refine takeH (i := 2) (v := ?_) rfl (by kernel_rfl) (by kernel_rfl) (by kernel_rfl) (fun _ _ _ h => h) (Or.inl ⟨by rfl, ?_⟩) (by assumption) ?_; rotate_left; (focus ((intro wS hSw); (try dsimp only at hSw); obtain ⟨s0, s1, s2, s3, s4, s5, s6, s7, s8, s9, s10⟩ := hSw; go_simp; (try with_reducible rfl); done)); (try simp only [Act.put, List.setIfInBounds_toArray, List.set_cons_zero, List.set_cons_succ]))
                        (refine takeH (i := 3) (v := ?_) rfl (by kernel_rfl) (by kernel_rfl) (by kernel_rfl) (fun _ _ _ h => h) (Or.inl ⟨by rfl, ?_⟩) (by assumption) ?_; rotate_left; (focus ((intro wS hSw); (try dsimp only at hSw); obtain ⟨s0, s1, s2, s3, s4, s5, s6, s7, s8, s9, s10⟩ := hSw; go_simp; (try with_reducible rfl); done)); (try simp only [Act.put, List.setIfInBounds_toArray, List.set_cons_zero, List.set_cons_succ]))
                        (refine takeH (i := 4) (v := ?_) rfl (by kernel_rfl) (by kernel_rfl) (by kernel_rfl) (fun _ _ _ h => h) (Or.inl ⟨by rfl, ?_⟩) (by assumption) ?_; rotate_left; (focus ((intro wS hSw); (try dsimp only at hSw); obtain ⟨s0, s1, s2, s3, s4, s5, s6, s7, s8, s9, s10⟩ := hSw; go_simp; (try with_reducible rfl); done)); (try simp only [Act.put, List.setIfInBounds_toArray, List.set_cons_zero, List.set_cons_succ]))
                        (refine takeH (i := 5) (v := ?_) rfl (by kernel_rfl) (by kernel_rfl) (by kernel_rfl) (fun _ _ _ h => h) (Or.inl ⟨by rfl, ?_⟩) (by assumption) ?_; rotate_left; (focus ((intro wS hSw); (try dsimp only at hSw); obtain ⟨s0, s1, s2, s3, s4, s5, s6, s7, s8, s9, s10⟩ := hSw; go_simp; (try with_reducible rfl); done)); (try simp only [Act.put, List.setIfInBounds_toArray, List.set_cons_zero, List.set_cons_succ]))
                        (refine takeH (i := 6) (v := ?_) rfl (by kernel_rfl) (by kernel_rfl) (by kernel_rfl) (fun _ _ _ h => h) (Or.inl ⟨by rfl, ?_⟩) (by assumption) ?_; rotate_left; (focus ((intro wS hSw); (try dsimp only at hSw); obtain ⟨s0, s1, s2, s3, s4, s5, s6, s7, s8, s9, s10⟩ := hSw; go_simp; (try with_reducible rfl); done)); (try simp only [Act.put, List.setIfInBounds_toArray, List.set_cons_zero, List.set_cons_succ]))
                        refine aloneH (i := 7) rfl (by kernel_rfl) (fun K hK => ?_)
                        rw [if_pos (by rfl)]
                        go_simp; ((refine (HGl.out _).mono ?_); (rintro e w1 ⟨rfl, hb⟩); have HB1 := Lib.hid hb; clear hb; (try go_simp))
                        refine hK.out _ _ (⟨cell_on HB1.out hHeld.1, cell_on HB1.out hHeld.2.1, cell_on HB1.out hHeld.2.2.1, cell_on HB1.out hHeld.2.2.2.1, cell_on HB1.out hHeld.2.2.2.2.1, cell_on HB1.out hHeld.2.2.2.2.2.1, cell_on HB1.out hHeld.2.2.2.2.2.2.1, cell_on HB1.out hHeld.2.2.2.2.2.2.2.1, cell_on HB1.out hHeld.2.2.2.2.2.2.2.2.1, cell_on HB1.out hHeld.2.2.2.2.2.2.2.2.2.1, cell_on HB1.out hHeld.2.2.2.2.2.2.2.2.2.2⟩) (fun hNew => ?_)
                        clear hK K hHeld; (have hHeld := hNew); clear hNew; (try simp only [Act.put, List.setIfInBounds_toArray, List.set_cons_zero, List.set_cons_succ])
                        (refine takeH (i := 8) (v := ?_) rfl (by kernel_rfl) (by kernel_rfl) (by kernel_rfl) (fun _ _ _ h => h) (Or.inl ⟨by rfl, ?_⟩) (by assumption) ?_; rotate_left; (focus ((intro wS hSw); (try dsimp only at hSw); obtain ⟨s0, s1, s2, s3, s4, s5, s6, s7, s8, s9, s10⟩ := hSw; go_simp; (try with_reducible rfl); done)); (try simp only [Act.put, List.setIfInBounds_toArray, List.set_cons_zero, List.set_cons_succ]))
                        refine wpAnyH_done (by kernel_rfl) ?_ _
                        clear hHeld
                        go_wp2
                        go_roundw
                        case rel => exact ⟨k + 1, by omega, by go_num, HN, Lib.hid (below_then HBD.out HB1.out)⟩
                        case measure => simp [intOf]; omega
                    · obtain rfl : k = d.lines.length := by omega
                      have HE : Hid (badAny d.lines d.sale = false) := Lib.hid (by have := HS.out; rwa [List.take_length] at this)
                      clear HS cs
                      go_wp2
                      go_ret
                      exact ⟨ret_bool (by rw [← HV.out, HE.out]; rfl), below_then HBW.out HB.out⟩
                | false =>
                  cases hcu : currB d.currency with
                  | true =>
                    simp only [hn, hc, hcu, Bool.true_or, Bool.or_true, Bool.true_and, Bool.and_true, Bool.false_or] at hV
                    have HV := Lib.hid hV
                    clear hV
                    rw [hcu] at HCu
                    clear hcu
                    go_enter Try.func19, Try.ntmps19
                    go_wp2_with (first | (go_at_call 29; refine (ref_in _ _ _ _).mono ?_; rintro e w2 ⟨rfl, rfl⟩) | (go_at_call 30; refine (HCo.out _).mono ?_; rintro e w2 ⟨rfl, rfl⟩) | (go_at_call 32; refine (HCu.out _).mono ?_; rintro e w2 ⟨rfl, rfl⟩))
                    have HX2 := HX
                    have HBW := HBA
                    clear HX HBA
                    generalize World.alloc w _ = w2 at HX2 HBW ⊢
                    generalize d.linesA = A1 at HR HX2 ⊢
                    go_loopw [3] (fun i wr => ∃ (k : Nat), k ≤ d.lines.length ∧ i = .int .i64 k ∧ Hid (badAny (d.lines.take k) d.sale = false) ∧ Hid (Below w2.heap.size w2 wr)) (fun i _ => d.lines.length - (intOf i).toNat)
                    case atStart => exact ⟨0, Nat.zero_le _, rfl, Lib.hid rfl, Lib.hid (Below.refl _ _)⟩
                    case round =>
                      obtain ⟨k, hk, rfl, HS, HB⟩ := hrel
                      have cx : wr.cell? ⟨w.heap.size, 8, none⟩ = some (.slice A1 d.lines.length d.linesC) := by rw [cell_of_row wr _ 8 _ _ _ (heap_on HB.out HX2.out)]; rfl
                      have cs : wr.cell? ⟨w.heap.size, 1, none⟩ = some (.bool d.sale) := by rw [cell_of_row wr _ 1 _ _ _ (heap_on HB.out HX2.out)]; rfl
                      by_cases hlt : k < d.lines.length
                      · have hlt' : (k : Int) < (d.lines.length : Int) := by omega
                        have hlc' : (k : Int) < (d.linesC : Int) := by have := HLC.out; omega
                        obtain ⟨b1, o1, rfl, hb1, y0, y1, y2, y3, y4, y5, y6, y7, y8⟩ := (HR.out.on (below_then HBW.out HB.out)).at_ k hlt
                        have HGl : Hid (∀ W, Calls Try.prog 33 #[.agg #[.int .i64 d.lines[k].1, .int .i64 d.lines[k].2.1, .string d.lines[k].2.2.1, .string d.lines[k].2.2.2.1, .string d.lines[k].2.2.2.2.1, .int .i64 d.lines[k].2.2.2.2.2.1, .bool d.lines[k].2.2.2.2.2.2.1, .int .i64 d.lines[k].2.2.2.2.2.2.2.1, .bool d.lines[k].2.2.2.2.2.2.2.2], .bool d.sale] W fun e w1 => e = .returned (.bool (lineGood d.lines[k] d.sale)) ∧ Below W.heap.size W w1) := Lib.hid (fun W => ref_goodLine _ _ _ _ _ _ _ _ _ d.sale W (HG.out _ (List.getElem_mem hlt)).1 (HG.out _ (List.getElem_mem hlt)).2.1 (HG.out _ (List.getElem_mem hlt)).2.2 _ rfl)
                        obtain ⟨p, hp⟩ : ∃ p, p = d.lines[k] := ⟨_, rfl⟩
                        rw [← hp] at y0 y1 y2 y3 y4 y5 y6 y7 y8 HGl
                        have HP := Lib.hid hp
                        clear hp
                        cases hlk : lineGood p d.sale with
                        | false =>
                          have HN := Lib.hid (bad_found hlt (by rw [← HP.out]; exact hlk))
                          rw [hlk] at HGl
                          go_wp2
                          have HBD := Lib.hid (below_then HB.out (below_drawn _))
                          refine wp_region_held_drew (S := fun V => V.cell? ⟨w.heap.size, 8, none⟩ = some (.slice (some ⟨b1, o1, none⟩) d.lines.length d.linesC) ∧ V.cell? ⟨w.heap.size, 1, none⟩ = some (.bool d.sale) ∧ V.cell? ⟨b1, o1 + k * 9, none⟩ = some (.int .i64 p.1) ∧ V.cell? ⟨b1, o1 + k * 9 + 1, none⟩ = some (.int .i64 p.2.1) ∧ V.cell? ⟨b1, o1 + k * 9 + 2, none⟩ = some (.string p.2.2.1) ∧ V.cell? ⟨b1, o1 + k * 9 + 3, none⟩ = some (.string p.2.2.2.1) ∧ V.cell? ⟨b1, o1 + k * 9 + 4, none⟩ = some (.string p.2.2.2.2.1) ∧ V.cell? ⟨b1, o1 + k * 9 + 5, none⟩ = some (.int .i64 p.2.2.2.2.2.1) ∧ V.cell? ⟨b1, o1 + k * 9 + 6, none⟩ = some (.bool p.2.2.2.2.2.2.1) ∧ V.cell? ⟨b1, o1 + k * 9 + 7, none⟩ = some (.int .i64 p.2.2.2.2.2.2.2.1) ∧ V.cell? ⟨b1, o1 + k * 9 + 8, none⟩ = some (.bool p.2.2.2.2.2.2.2.2)) (by kernel_rfl) ⟨cx, cs, y0, y1, y2, y3, y4, y5, y6, y7, y8⟩ ?_
                          intro hHeld
                          clear cx cs y0 y1 y2 y3 y4 y5 y6 y7 y8
                          generalize World.drew _ = wd at HBD hHeld ⊢
                          (refine takeH (i := 0) (v := ?_) rfl (by kernel_rfl) (by kernel_rfl) (by kernel_rfl) (fun _ _ _ h => h) (Or.inl ⟨by rfl, ?_⟩) (by assumption) ?_; rotate_left; (focus ((intro wS hSw); (try dsimp only at hSw); obtain ⟨s0, s1, s2, s3, s4, s5, s6, s7, s8, s9, s10⟩ := hSw; go_simp; (try with_reducible rfl); done)); (try simp only [Act.put, List.setIfInBounds_toArray, List.set_cons_zero, List.set_cons_succ]))
                          (refine takeH (i := 1) (v := ?_) rfl (by kernel_rfl) (by kernel_rfl) (by kernel_rfl) (fun _ _ _ h => h) (Or.inl ⟨by rfl, ?_⟩) (by assumption) ?_; rotate_left; (focus ((intro wS hSw); (try dsimp only at hSw); obtain ⟨s0, s1, s2, s3, s4, s5, s6, s7, s8, s9, s10⟩ := hSw; go_simp; (try with_reducible rfl); done)); (try simp only [Act.put, List.setIfInBounds_toArray, List.set_cons_zero, List.set_cons_succ]))
                          (refine takeH (i := 2) (v := ?_) rfl (by kernel_rfl) (by kernel_rfl) (by kernel_rfl) (fun _ _ _ h => h) (Or.inl ⟨by rfl, ?_⟩) (by assumption) ?_; rotate_left; (focus ((intro wS hSw); (try dsimp only at hSw); obtain ⟨s0, s1, s2, s3, s4, s5, s6, s7, s8, s9, s10⟩ := hSw; go_simp; (try with_reducible rfl); done)); (try simp only [Act.put, List.setIfInBounds_toArray, List.set_cons_zero, List.set_cons_succ]))
                          (refine takeH (i := 3) (v := ?_) rfl (by kernel_rfl) (by kernel_rfl) (by kernel_rfl) (fun _ _ _ h => h) (Or.inl ⟨by rfl, ?_⟩) (by assumption) ?_; rotate_left; (focus ((intro wS hSw); (try dsimp only at hSw); obtain ⟨s0, s1, s2, s3, s4, s5, s6, s7, s8, s9, s10⟩ := hSw; go_simp; (try with_reducible rfl); done)); (try simp only [Act.put, List.setIfInBounds_toArray, List.set_cons_zero, List.set_cons_succ]))
                          (refine takeH (i := 4) (v := ?_) rfl (by kernel_rfl) (by kernel_rfl) (by kernel_rfl) (fun _ _ _ h => h) (Or.inl ⟨by rfl, ?_⟩) (by assumption) ?_; rotate_left; (focus ((intro wS hSw); (try dsimp only at hSw); obtain ⟨s0, s1, s2, s3, s4, s5, s6, s7, s8, s9, s10⟩ := hSw; go_simp; (try with_reducible rfl); done)); (try simp only [Act.put, List.setIfInBounds_toArray, List.set_cons_zero, List.set_cons_succ]))
                          (refine takeH (i := 5) (v := ?_) rfl (by kernel_rfl) (by kernel_rfl) (by kernel_rfl) (fun _ _ _ h => h) (Or.inl ⟨by rfl, ?_⟩) (by assumption) ?_; rotate_left; (focus ((intro wS hSw); (try dsimp only at hSw); obtain ⟨s0, s1, s2, s3, s4, s5, s6, s7, s8, s9, s10⟩ := hSw; go_simp; (try with_reducible rfl); done)); (try simp only [Act.put, List.setIfInBounds_toArray, List.set_cons_zero, List.set_cons_succ]))
                          (refine takeH (i := 6) (v := ?_) rfl (by kernel_rfl) (by kernel_rfl) (by kernel_rfl) (fun _ _ _ h => h) (Or.inl ⟨by rfl, ?_⟩) (by assumption) ?_; rotate_left; (focus ((intro wS hSw); (try dsimp only at hSw); obtain ⟨s0, s1, s2, s3, s4, s5, s6, s7, s8, s9, s10⟩ := hSw; go_simp; (try with_reducible rfl); done)); (try simp only [Act.put, List.setIfInBounds_toArray, List.set_cons_zero, List.set_cons_succ]))
                          refine aloneH (i := 7) rfl (by kernel_rfl) (fun K hK => ?_)
                          rw [if_pos (by rfl)]
                          go_simp; ((refine (HGl.out _).mono ?_); (rintro e w1 ⟨rfl, hb⟩); have HB1 := Lib.hid hb; clear hb; (try go_simp))
                          refine hK.out _ _ (⟨cell_on HB1.out hHeld.1, cell_on HB1.out hHeld.2.1, cell_on HB1.out hHeld.2.2.1, cell_on HB1.out hHeld.2.2.2.1, cell_on HB1.out hHeld.2.2.2.2.1, cell_on HB1.out hHeld.2.2.2.2.2.1, cell_on HB1.out hHeld.2.2.2.2.2.2.1, cell_on HB1.out hHeld.2.2.2.2.2.2.2.1, cell_on HB1.out hHeld.2.2.2.2.2.2.2.2.1, cell_on HB1.out hHeld.2.2.2.2.2.2.2.2.2.1, cell_on HB1.out hHeld.2.2.2.2.2.2.2.2.2.2⟩) (fun hNew => ?_)
                          clear hK K hHeld; (have hHeld := hNew); clear hNew; (try simp only [Act.put, List.setIfInBounds_toArray, List.set_cons_zero, List.set_cons_succ])
                          (refine takeH (i := 8) (v := ?_) rfl (by kernel_rfl) (by kernel_rfl) (by kernel_rfl) (fun _ _ _ h => h) (Or.inl ⟨by rfl, ?_⟩) (by assumption) ?_; rotate_left; (focus ((intro wS hSw); (try dsimp only at hSw); obtain ⟨s0, s1, s2, s3, s4, s5, s6, s7, s8, s9, s10⟩ := hSw; go_simp; (try with_reducible rfl); done)); (try simp only [Act.put, List.setIfInBounds_toArray, List.set_cons_zero, List.set_cons_succ]))
                          refine wpAnyH_done (by kernel_rfl) ?_ _
                          clear hHeld
                          go_wp2
                          go_ret
                          exact ⟨ret_bool (by rw [← HV.out, HN.out]; rfl), below_then HBW.out (below_then HBD.out HB1.out)⟩
                        | true =>
                          have HN := Lib.hid (bad_next hlt HS.out (by rw [← HP.out]; exact hlk))
                          rw [hlk] at HGl
                          go_wp2
                          have HBD := Lib.hid (below_then HB.out (below_drawn _))
                          refine wp_region_held_drew (S := fun V => V.cell? ⟨w.heap.size, 8, none⟩ = some (.slice (some ⟨b1, o1, none⟩) d.lines.length d.linesC) ∧ V.cell? ⟨w.heap.size, 1, none⟩ = some (.bool d.sale) ∧ V.cell? ⟨b1, o1 + k * 9, none⟩ = some (.int .i64 p.1) ∧ V.cell? ⟨b1, o1 + k * 9 + 1, none⟩ = some (.int .i64 p.2.1) ∧ V.cell? ⟨b1, o1 + k * 9 + 2, none⟩ = some (.string p.2.2.1) ∧ V.cell? ⟨b1, o1 + k * 9 + 3, none⟩ = some (.string p.2.2.2.1) ∧ V.cell? ⟨b1, o1 + k * 9 + 4, none⟩ = some (.string p.2.2.2.2.1) ∧ V.cell? ⟨b1, o1 + k * 9 + 5, none⟩ = some (.int .i64 p.2.2.2.2.2.1) ∧ V.cell? ⟨b1, o1 + k * 9 + 6, none⟩ = some (.bool p.2.2.2.2.2.2.1) ∧ V.cell? ⟨b1, o1 + k * 9 + 7, none⟩ = some (.int .i64 p.2.2.2.2.2.2.2.1) ∧ V.cell? ⟨b1, o1 + k * 9 + 8, none⟩ = some (.bool p.2.2.2.2.2.2.2.2)) (by kernel_rfl) ⟨cx, cs, y0, y1, y2, y3, y4, y5, y6, y7, y8⟩ ?_
                          intro hHeld
                          clear cx cs y0 y1 y2 y3 y4 y5 y6 y7 y8
                          generalize World.drew _ = wd at HBD hHeld ⊢
                          (refine takeH (i := 0) (v := ?_) rfl (by kernel_rfl) (by kernel_rfl) (by kernel_rfl) (fun _ _ _ h => h) (Or.inl ⟨by rfl, ?_⟩) (by assumption) ?_; rotate_left; (focus ((intro wS hSw); (try dsimp only at hSw); obtain ⟨s0, s1, s2, s3, s4, s5, s6, s7, s8, s9, s10⟩ := hSw; go_simp; (try with_reducible rfl); done)); (try simp only [Act.put, List.setIfInBounds_toArray, List.set_cons_zero, List.set_cons_succ]))
                          (refine takeH (i := 1) (v := ?_) rfl (by kernel_rfl) (by kernel_rfl) (by kernel_rfl) (fun _ _ _ h => h) (Or.inl ⟨by rfl, ?_⟩) (by assumption) ?_; rotate_left; (focus ((intro wS hSw); (try dsimp only at hSw); obtain ⟨s0, s1, s2, s3, s4, s5, s6, s7, s8, s9, s10⟩ := hSw; go_simp; (try with_reducible rfl); done)); (try simp only [Act.put, List.setIfInBounds_toArray, List.set_cons_zero, List.set_cons_succ]))
                          (refine takeH (i := 2) (v := ?_) rfl (by kernel_rfl) (by kernel_rfl) (by kernel_rfl) (fun _ _ _ h => h) (Or.inl ⟨by rfl, ?_⟩) (by assumption) ?_; rotate_left; (focus ((intro wS hSw); (try dsimp only at hSw); obtain ⟨s0, s1, s2, s3, s4, s5, s6, s7, s8, s9, s10⟩ := hSw; go_simp; (try with_reducible rfl); done)); (try simp only [Act.put, List.setIfInBounds_toArray, List.set_cons_zero, List.set_cons_succ]))
                          (refine takeH (i := 3) (v := ?_) rfl (by kernel_rfl) (by kernel_rfl) (by kernel_rfl) (fun _ _ _ h => h) (Or.inl ⟨by rfl, ?_⟩) (by assumption) ?_; rotate_left; (focus ((intro wS hSw); (try dsimp only at hSw); obtain ⟨s0, s1, s2, s3, s4, s5, s6, s7, s8, s9, s10⟩ := hSw; go_simp; (try with_reducible rfl); done)); (try simp only [Act.put, List.setIfInBounds_toArray, List.set_cons_zero, List.set_cons_succ]))
                          (refine takeH (i := 4) (v := ?_) rfl (by kernel_rfl) (by kernel_rfl) (by kernel_rfl) (fun _ _ _ h => h) (Or.inl ⟨by rfl, ?_⟩) (by assumption) ?_; rotate_left; (focus ((intro wS hSw); (try dsimp only at hSw); obtain ⟨s0, s1, s2, s3, s4, s5, s6, s7, s8, s9, s10⟩ := hSw; go_simp; (try with_reducible rfl); done)); (try simp only [Act.put, List.setIfInBounds_toArray, List.set_cons_zero, List.set_cons_succ]))
                          (refine takeH (i := 5) (v := ?_) rfl (by kernel_rfl) (by kernel_rfl) (by kernel_rfl) (fun _ _ _ h => h) (Or.inl ⟨by rfl, ?_⟩) (by assumption) ?_; rotate_left; (focus ((intro wS hSw); (try dsimp only at hSw); obtain ⟨s0, s1, s2, s3, s4, s5, s6, s7, s8, s9, s10⟩ := hSw; go_simp; (try with_reducible rfl); done)); (try simp only [Act.put, List.setIfInBounds_toArray, List.set_cons_zero, List.set_cons_succ]))
                          (refine takeH (i := 6) (v := ?_) rfl (by kernel_rfl) (by kernel_rfl) (by kernel_rfl) (fun _ _ _ h => h) (Or.inl ⟨by rfl, ?_⟩) (by assumption) ?_; rotate_left; (focus ((intro wS hSw); (try dsimp only at hSw); obtain ⟨s0, s1, s2, s3, s4, s5, s6, s7, s8, s9, s10⟩ := hSw; go_simp; (try with_reducible rfl); done)); (try simp only [Act.put, List.setIfInBounds_toArray, List.set_cons_zero, List.set_cons_succ]))
                          refine aloneH (i := 7) rfl (by kernel_rfl) (fun K hK => ?_)
                          rw [if_pos (by rfl)]
                          go_simp; ((refine (HGl.out _).mono ?_); (rintro e w1 ⟨rfl, hb⟩); have HB1 := Lib.hid hb; clear hb; (try go_simp))
                          refine hK.out _ _ (⟨cell_on HB1.out hHeld.1, cell_on HB1.out hHeld.2.1, cell_on HB1.out hHeld.2.2.1, cell_on HB1.out hHeld.2.2.2.1, cell_on HB1.out hHeld.2.2.2.2.1, cell_on HB1.out hHeld.2.2.2.2.2.1, cell_on HB1.out hHeld.2.2.2.2.2.2.1, cell_on HB1.out hHeld.2.2.2.2.2.2.2.1, cell_on HB1.out hHeld.2.2.2.2.2.2.2.2.1, cell_on HB1.out hHeld.2.2.2.2.2.2.2.2.2.1, cell_on HB1.out hHeld.2.2.2.2.2.2.2.2.2.2⟩) (fun hNew => ?_)
                          clear hK K hHeld; (have hHeld := hNew); clear hNew; (try simp only [Act.put, List.setIfInBounds_toArray, List.set_cons_zero, List.set_cons_succ])
                          (refine takeH (i := 8) (v := ?_) rfl (by kernel_rfl) (by kernel_rfl) (by kernel_rfl) (fun _ _ _ h => h) (Or.inl ⟨by rfl, ?_⟩) (by assumption) ?_; rotate_left; (focus ((intro wS hSw); (try dsimp only at hSw); obtain ⟨s0, s1, s2, s3, s4, s5, s6, s7, s8, s9, s10⟩ := hSw; go_simp; (try with_reducible rfl); done)); (try simp only [Act.put, List.setIfInBounds_toArray, List.set_cons_zero, List.set_cons_succ]))
                          refine wpAnyH_done (by kernel_rfl) ?_ _
                          clear hHeld
                          go_wp2
                          go_roundw
                          case rel => exact ⟨k + 1, by omega, by go_num, HN, Lib.hid (below_then HBD.out HB1.out)⟩
                          case measure => simp [intOf]; omega
                      · obtain rfl : k = d.lines.length := by omega
                        have HE : Hid (badAny d.lines d.sale = false) := Lib.hid (by have := HS.out; rwa [List.take_length] at this)
                        clear HS cs
                        go_wp2
                        go_ret
                        exact ⟨ret_bool (by rw [← HV.out, HE.out]; rfl), below_then HBW.out HB.out⟩
                  | false =>
                    simp only [hn, hc, hcu, Bool.true_or, Bool.or_true, Bool.true_and, Bool.and_true, Bool.false_or, Bool.false_and, Bool.and_false] at hV
                    subst hV
                    rw [hcu] at HCu
                    clear hcu
                    go_enter Try.func19, Try.ntmps19
                    go_wp2_with (first | (go_at_call 29; refine (ref_in _ _ _ _).mono ?_; rintro e w2 ⟨rfl, rfl⟩) | (go_at_call 30; refine (HCo.out _).mono ?_; rintro e w2 ⟨rfl, rfl⟩) | (go_at_call 32; refine (HCu.out _).mono ?_; rintro e w2 ⟨rfl, rfl⟩))
                    go_ret
                    exact ⟨rfl, HBA.out⟩
              | false =>
                cases hr : rightP d.country d.number with
                | true =>
                  cases hc : d.currency.toList.isEmpty with
                  | true =>
                    simp only [hn, hr, hc, Bool.true_or, Bool.or_true, Bool.true_and, Bool.and_true, Bool.false_or] at hV
                    have HV := Lib.hid hV
                    clear hV
                    rw [hr] at HRt
                    clear hr
                    go_enter Try.func19, Try.ntmps19
                    go_wp2_with (first | (go_at_call 29; refine (ref_in _ _ _ _).mono ?_; rintro e w2 ⟨rfl, rfl⟩) | (go_at_call 30; refine (HCo.out _).mono ?_; rintro e w2 ⟨rfl, rfl⟩) | (go_at_call 32; refine (HCu.out _).mono ?_; rintro e w2 ⟨rfl, rfl⟩) | (go_at_call 31; refine (HRt.out _).mono ?_; rintro e w2 ⟨rfl, hb⟩; have HX2 := Lib.hid (heap_on hb HX.out); have HBW := Lib.hid (below_then HBA.out hb); clear hb; have hx := HX2.out; obtain ⟨u0, u1, u2, u3, u4, u5, u6, u7, u8⟩ := cellsLineV hx; clear hx; refine Stop.out ?_))
                    unfold Stop
                    go_wp2_with (first | (go_at_call 29; refine (ref_in _ _ _ _).mono ?_; rintro e w2 ⟨rfl, rfl⟩) | (go_at_call 30; refine (HCo.out _).mono ?_; rintro e w2 ⟨rfl, rfl⟩) | (go_at_call 32; refine (HCu.out _).mono ?_; rintro e w2 ⟨rfl, rfl⟩))
                    clear HX HBA u0 u1 u2 u3 u4 u5 u6 u7 u8
                    generalize d.linesA = A1 at HR HX2 ⊢
                    go_loopw [3] (fun i wr => ∃ (k : Nat), k ≤ d.lines.length ∧ i = .int .i64 k ∧ Hid (badAny (d.lines.take k) d.sale = false) ∧ Hid (Below w2.heap.size w2 wr)) (fun i _ => d.lines.length - (intOf i).toNat)
                    case atStart => exact ⟨0, Nat.zero_le _, rfl, Lib.hid rfl, Lib.hid (Below.refl _ _)⟩
                    case round =>
                      obtain ⟨k, hk, rfl, HS, HB⟩ := hrel
                      have cx : wr.cell? ⟨w.heap.size, 8, none⟩ = some (.slice A1 d.lines.length d.linesC) := by rw [cell_of_row wr _ 8 _ _ _ (heap_on HB.out HX2.out)]; rfl
                      have cs : wr.cell? ⟨w.heap.size, 1, none⟩ = some (.bool d.sale) := by rw [cell_of_row wr _ 1 _ _ _ (heap_on HB.out HX2.out)]; rfl
                      by_cases hlt : k < d.lines.length
                      · have hlt' : (k : Int) < (d.lines.length : Int) := by omega
                        have hlc' : (k : Int) < (d.linesC : Int) := by have := HLC.out; omega
                        obtain ⟨b1, o1, rfl, hb1, y0, y1, y2, y3, y4, y5, y6, y7, y8⟩ := (HR.out.on (below_then HBW.out HB.out)).at_ k hlt
                        have HGl : Hid (∀ W, Calls Try.prog 33 #[.agg #[.int .i64 d.lines[k].1, .int .i64 d.lines[k].2.1, .string d.lines[k].2.2.1, .string d.lines[k].2.2.2.1, .string d.lines[k].2.2.2.2.1, .int .i64 d.lines[k].2.2.2.2.2.1, .bool d.lines[k].2.2.2.2.2.2.1, .int .i64 d.lines[k].2.2.2.2.2.2.2.1, .bool d.lines[k].2.2.2.2.2.2.2.2], .bool d.sale] W fun e w1 => e = .returned (.bool (lineGood d.lines[k] d.sale)) ∧ Below W.heap.size W w1) := Lib.hid (fun W => ref_goodLine _ _ _ _ _ _ _ _ _ d.sale W (HG.out _ (List.getElem_mem hlt)).1 (HG.out _ (List.getElem_mem hlt)).2.1 (HG.out _ (List.getElem_mem hlt)).2.2 _ rfl)
                        obtain ⟨p, hp⟩ : ∃ p, p = d.lines[k] := ⟨_, rfl⟩
                        rw [← hp] at y0 y1 y2 y3 y4 y5 y6 y7 y8 HGl
                        have HP := Lib.hid hp
                        clear hp
                        cases hlk : lineGood p d.sale with
                        | false =>
                          have HN := Lib.hid (bad_found hlt (by rw [← HP.out]; exact hlk))
                          rw [hlk] at HGl
                          go_wp2
                          have HBD := Lib.hid (below_then HB.out (below_drawn _))
                          refine wp_region_held_drew (S := fun V => V.cell? ⟨w.heap.size, 8, none⟩ = some (.slice (some ⟨b1, o1, none⟩) d.lines.length d.linesC) ∧ V.cell? ⟨w.heap.size, 1, none⟩ = some (.bool d.sale) ∧ V.cell? ⟨b1, o1 + k * 9, none⟩ = some (.int .i64 p.1) ∧ V.cell? ⟨b1, o1 + k * 9 + 1, none⟩ = some (.int .i64 p.2.1) ∧ V.cell? ⟨b1, o1 + k * 9 + 2, none⟩ = some (.string p.2.2.1) ∧ V.cell? ⟨b1, o1 + k * 9 + 3, none⟩ = some (.string p.2.2.2.1) ∧ V.cell? ⟨b1, o1 + k * 9 + 4, none⟩ = some (.string p.2.2.2.2.1) ∧ V.cell? ⟨b1, o1 + k * 9 + 5, none⟩ = some (.int .i64 p.2.2.2.2.2.1) ∧ V.cell? ⟨b1, o1 + k * 9 + 6, none⟩ = some (.bool p.2.2.2.2.2.2.1) ∧ V.cell? ⟨b1, o1 + k * 9 + 7, none⟩ = some (.int .i64 p.2.2.2.2.2.2.2.1) ∧ V.cell? ⟨b1, o1 + k * 9 + 8, none⟩ = some (.bool p.2.2.2.2.2.2.2.2)) (by kernel_rfl) ⟨cx, cs, y0, y1, y2, y3, y4, y5, y6, y7, y8⟩ ?_
                          intro hHeld
                          clear cx cs y0 y1 y2 y3 y4 y5 y6 y7 y8
                          generalize World.drew _ = wd at HBD hHeld ⊢
                          (refine takeH (i := 0) (v := ?_) rfl (by kernel_rfl) (by kernel_rfl) (by kernel_rfl) (fun _ _ _ h => h) (Or.inl ⟨by rfl, ?_⟩) (by assumption) ?_; rotate_left; (focus ((intro wS hSw); (try dsimp only at hSw); obtain ⟨s0, s1, s2, s3, s4, s5, s6, s7, s8, s9, s10⟩ := hSw; go_simp; (try with_reducible rfl); done)); (try simp only [Act.put, List.setIfInBounds_toArray, List.set_cons_zero, List.set_cons_succ]))
                          (refine takeH (i := 1) (v := ?_) rfl (by kernel_rfl) (by kernel_rfl) (by kernel_rfl) (fun _ _ _ h => h) (Or.inl ⟨by rfl, ?_⟩) (by assumption) ?_; rotate_left; (focus ((intro wS hSw); (try dsimp only at hSw); obtain ⟨s0, s1, s2, s3, s4, s5, s6, s7, s8, s9, s10⟩ := hSw; go_simp; (try with_reducible rfl); done)); (try simp only [Act.put, List.setIfInBounds_toArray, List.set_cons_zero, List.set_cons_succ]))
                          (refine takeH (i := 2) (v := ?_) rfl (by kernel_rfl) (by kernel_rfl) (by kernel_rfl) (fun _ _ _ h => h) (Or.inl ⟨by rfl, ?_⟩) (by assumption) ?_; rotate_left; (focus ((intro wS hSw); (try dsimp only at hSw); obtain ⟨s0, s1, s2, s3, s4, s5, s6, s7, s8, s9, s10⟩ := hSw; go_simp; (try with_reducible rfl); done)); (try simp only [Act.put, List.setIfInBounds_toArray, List.set_cons_zero, List.set_cons_succ]))
                          (refine takeH (i := 3) (v := ?_) rfl (by kernel_rfl) (by kernel_rfl) (by kernel_rfl) (fun _ _ _ h => h) (Or.inl ⟨by rfl, ?_⟩) (by assumption) ?_; rotate_left; (focus ((intro wS hSw); (try dsimp only at hSw); obtain ⟨s0, s1, s2, s3, s4, s5, s6, s7, s8, s9, s10⟩ := hSw; go_simp; (try with_reducible rfl); done)); (try simp only [Act.put, List.setIfInBounds_toArray, List.set_cons_zero, List.set_cons_succ]))
                          (refine takeH (i := 4) (v := ?_) rfl (by kernel_rfl) (by kernel_rfl) (by kernel_rfl) (fun _ _ _ h => h) (Or.inl ⟨by rfl, ?_⟩) (by assumption) ?_; rotate_left; (focus ((intro wS hSw); (try dsimp only at hSw); obtain ⟨s0, s1, s2, s3, s4, s5, s6, s7, s8, s9, s10⟩ := hSw; go_simp; (try with_reducible rfl); done)); (try simp only [Act.put, List.setIfInBounds_toArray, List.set_cons_zero, List.set_cons_succ]))
                          (refine takeH (i := 5) (v := ?_) rfl (by kernel_rfl) (by kernel_rfl) (by kernel_rfl) (fun _ _ _ h => h) (Or.inl ⟨by rfl, ?_⟩) (by assumption) ?_; rotate_left; (focus ((intro wS hSw); (try dsimp only at hSw); obtain ⟨s0, s1, s2, s3, s4, s5, s6, s7, s8, s9, s10⟩ := hSw; go_simp; (try with_reducible rfl); done)); (try simp only [Act.put, List.setIfInBounds_toArray, List.set_cons_zero, List.set_cons_succ]))
                          (refine takeH (i := 6) (v := ?_) rfl (by kernel_rfl) (by kernel_rfl) (by kernel_rfl) (fun _ _ _ h => h) (Or.inl ⟨by rfl, ?_⟩) (by assumption) ?_; rotate_left; (focus ((intro wS hSw); (try dsimp only at hSw); obtain ⟨s0, s1, s2, s3, s4, s5, s6, s7, s8, s9, s10⟩ := hSw; go_simp; (try with_reducible rfl); done)); (try simp only [Act.put, List.setIfInBounds_toArray, List.set_cons_zero, List.set_cons_succ]))
                          refine aloneH (i := 7) rfl (by kernel_rfl) (fun K hK => ?_)
                          rw [if_pos (by rfl)]
                          go_simp; ((refine (HGl.out _).mono ?_); (rintro e w1 ⟨rfl, hb⟩); have HB1 := Lib.hid hb; clear hb; (try go_simp))
                          refine hK.out _ _ (⟨cell_on HB1.out hHeld.1, cell_on HB1.out hHeld.2.1, cell_on HB1.out hHeld.2.2.1, cell_on HB1.out hHeld.2.2.2.1, cell_on HB1.out hHeld.2.2.2.2.1, cell_on HB1.out hHeld.2.2.2.2.2.1, cell_on HB1.out hHeld.2.2.2.2.2.2.1, cell_on HB1.out hHeld.2.2.2.2.2.2.2.1, cell_on HB1.out hHeld.2.2.2.2.2.2.2.2.1, cell_on HB1.out hHeld.2.2.2.2.2.2.2.2.2.1, cell_on HB1.out hHeld.2.2.2.2.2.2.2.2.2.2⟩) (fun hNew => ?_)
                          clear hK K hHeld; (have hHeld := hNew); clear hNew; (try simp only [Act.put, List.setIfInBounds_toArray, List.set_cons_zero, List.set_cons_succ])
                          (refine takeH (i := 8) (v := ?_) rfl (by kernel_rfl) (by kernel_rfl) (by kernel_rfl) (fun _ _ _ h => h) (Or.inl ⟨by rfl, ?_⟩) (by assumption) ?_; rotate_left; (focus ((intro wS hSw); (try dsimp only at hSw); obtain ⟨s0, s1, s2, s3, s4, s5, s6, s7, s8, s9, s10⟩ := hSw; go_simp; (try with_reducible rfl); done)); (try simp only [Act.put, List.setIfInBounds_toArray, List.set_cons_zero, List.set_cons_succ]))
                          refine wpAnyH_done (by kernel_rfl) ?_ _
                          clear hHeld
                          go_wp2
                          go_ret
                          exact ⟨ret_bool (by rw [← HV.out, HN.out]; rfl), below_then HBW.out (below_then HBD.out HB1.out)⟩
                        | true =>
                          have HN := Lib.hid (bad_next hlt HS.out (by rw [← HP.out]; exact hlk))
                          rw [hlk] at HGl
                          go_wp2
                          have HBD := Lib.hid (below_then HB.out (below_drawn _))
                          refine wp_region_held_drew (S := fun V => V.cell? ⟨w.heap.size, 8, none⟩ = some (.slice (some ⟨b1, o1, none⟩) d.lines.length d.linesC) ∧ V.cell? ⟨w.heap.size, 1, none⟩ = some (.bool d.sale) ∧ V.cell? ⟨b1, o1 + k * 9, none⟩ = some (.int .i64 p.1) ∧ V.cell? ⟨b1, o1 + k * 9 + 1, none⟩ = some (.int .i64 p.2.1) ∧ V.cell? ⟨b1, o1 + k * 9 + 2, none⟩ = some (.string p.2.2.1) ∧ V.cell? ⟨b1, o1 + k * 9 + 3, none⟩ = some (.string p.2.2.2.1) ∧ V.cell? ⟨b1, o1 + k * 9 + 4, none⟩ = some (.string p.2.2.2.2.1) ∧ V.cell? ⟨b1, o1 + k * 9 + 5, none⟩ = some (.int .i64 p.2.2.2.2.2.1) ∧ V.cell? ⟨b1, o1 + k * 9 + 6, none⟩ = some (.bool p.2.2.2.2.2.2.1) ∧ V.cell? ⟨b1, o1 + k * 9 + 7, none⟩ = some (.int .i64 p.2.2.2.2.2.2.2.1) ∧ V.cell? ⟨b1, o1 + k * 9 + 8, none⟩ = some (.bool p.2.2.2.2.2.2.2.2)) (by kernel_rfl) ⟨cx, cs, y0, y1, y2, y3, y4, y5, y6, y7, y8⟩ ?_
                          intro hHeld
                          clear cx cs y0 y1 y2 y3 y4 y5 y6 y7 y8
                          generalize World.drew _ = wd at HBD hHeld ⊢
                          (refine takeH (i := 0) (v := ?_) rfl (by kernel_rfl) (by kernel_rfl) (by kernel_rfl) (fun _ _ _ h => h) (Or.inl ⟨by rfl, ?_⟩) (by assumption) ?_; rotate_left; (focus ((intro wS hSw); (try dsimp only at hSw); obtain ⟨s0, s1, s2, s3, s4, s5, s6, s7, s8, s9, s10⟩ := hSw; go_simp; (try with_reducible rfl); done)); (try simp only [Act.put, List.setIfInBounds_toArray, List.set_cons_zero, List.set_cons_succ]))
                          (refine takeH (i := 1) (v := ?_) rfl (by kernel_rfl) (by kernel_rfl) (by kernel_rfl) (fun _ _ _ h => h) (Or.inl ⟨by rfl, ?_⟩) (by assumption) ?_; rotate_left; (focus ((intro wS hSw); (try dsimp only at hSw); obtain ⟨s0, s1, s2, s3, s4, s5, s6, s7, s8, s9, s10⟩ := hSw; go_simp; (try with_reducible rfl); done)); (try simp only [Act.put, List.setIfInBounds_toArray, List.set_cons_zero, List.set_cons_succ]))
                          (refine takeH (i := 2) (v := ?_) rfl (by kernel_rfl) (by kernel_rfl) (by kernel_rfl) (fun _ _ _ h => h) (Or.inl ⟨by rfl, ?_⟩) (by assumption) ?_; rotate_left; (focus ((intro wS hSw); (try dsimp only at hSw); obtain ⟨s0, s1, s2, s3, s4, s5, s6, s7, s8, s9, s10⟩ := hSw; go_simp; (try with_reducible rfl); done)); (try simp only [Act.put, List.setIfInBounds_toArray, List.set_cons_zero, List.set_cons_succ]))
                          (refine takeH (i := 3) (v := ?_) rfl (by kernel_rfl) (by kernel_rfl) (by kernel_rfl) (fun _ _ _ h => h) (Or.inl ⟨by rfl, ?_⟩) (by assumption) ?_; rotate_left; (focus ((intro wS hSw); (try dsimp only at hSw); obtain ⟨s0, s1, s2, s3, s4, s5, s6, s7, s8, s9, s10⟩ := hSw; go_simp; (try with_reducible rfl); done)); (try simp only [Act.put, List.setIfInBounds_toArray, List.set_cons_zero, List.set_cons_succ]))
                          (refine takeH (i := 4) (v := ?_) rfl (by kernel_rfl) (by kernel_rfl) (by kernel_rfl) (fun _ _ _ h => h) (Or.inl ⟨by rfl, ?_⟩) (by assumption) ?_; rotate_left; (focus ((intro wS hSw); (try dsimp only at hSw); obtain ⟨s0, s1, s2, s3, s4, s5, s6, s7, s8, s9, s10⟩ := hSw; go_simp; (try with_reducible rfl); done)); (try simp only [Act.put, List.setIfInBounds_toArray, List.set_cons_zero, List.set_cons_succ]))
                          (refine takeH (i := 5) (v := ?_) rfl (by kernel_rfl) (by kernel_rfl) (by kernel_rfl) (fun _ _ _ h => h) (Or.inl ⟨by rfl, ?_⟩) (by assumption) ?_; rotate_left; (focus ((intro wS hSw); (try dsimp only at hSw); obtain ⟨s0, s1, s2, s3, s4, s5, s6, s7, s8, s9, s10⟩ := hSw; go_simp; (try with_reducible rfl); done)); (try simp only [Act.put, List.setIfInBounds_toArray, List.set_cons_zero, List.set_cons_succ]))
                          (refine takeH (i := 6) (v := ?_) rfl (by kernel_rfl) (by kernel_rfl) (by kernel_rfl) (fun _ _ _ h => h) (Or.inl ⟨by rfl, ?_⟩) (by assumption) ?_; rotate_left; (focus ((intro wS hSw); (try dsimp only at hSw); obtain ⟨s0, s1, s2, s3, s4, s5, s6, s7, s8, s9, s10⟩ := hSw; go_simp; (try with_reducible rfl); done)); (try simp only [Act.put, List.setIfInBounds_toArray, List.set_cons_zero, List.set_cons_succ]))
                          refine aloneH (i := 7) rfl (by kernel_rfl) (fun K hK => ?_)
                          rw [if_pos (by rfl)]
                          go_simp; ((refine (HGl.out _).mono ?_); (rintro e w1 ⟨rfl, hb⟩); have HB1 := Lib.hid hb; clear hb; (try go_simp))
                          refine hK.out _ _ (⟨cell_on HB1.out hHeld.1, cell_on HB1.out hHeld.2.1, cell_on HB1.out hHeld.2.2.1, cell_on HB1.out hHeld.2.2.2.1, cell_on HB1.out hHeld.2.2.2.2.1, cell_on HB1.out hHeld.2.2.2.2.2.1, cell_on HB1.out hHeld.2.2.2.2.2.2.1, cell_on HB1.out hHeld.2.2.2.2.2.2.2.1, cell_on HB1.out hHeld.2.2.2.2.2.2.2.2.1, cell_on HB1.out hHeld.2.2.2.2.2.2.2.2.2.1, cell_on HB1.out hHeld.2.2.2.2.2.2.2.2.2.2⟩) (fun hNew => ?_)
                          clear hK K hHeld; (have hHeld := hNew); clear hNew; (try simp only [Act.put, List.setIfInBounds_toArray, List.set_cons_zero, List.set_cons_succ])
                          (refine takeH (i := 8) (v := ?_) rfl (by kernel_rfl) (by kernel_rfl) (by kernel_rfl) (fun _ _ _ h => h) (Or.inl ⟨by rfl, ?_⟩) (by assumption) ?_; rotate_left; (focus ((intro wS hSw); (try dsimp only at hSw); obtain ⟨s0, s1, s2, s3, s4, s5, s6, s7, s8, s9, s10⟩ := hSw; go_simp; (try with_reducible rfl); done)); (try simp only [Act.put, List.setIfInBounds_toArray, List.set_cons_zero, List.set_cons_succ]))
                          refine wpAnyH_done (by kernel_rfl) ?_ _
                          clear hHeld
                          go_wp2
                          go_roundw
                          case rel => exact ⟨k + 1, by omega, by go_num, HN, Lib.hid (below_then HBD.out HB1.out)⟩
                          case measure => simp [intOf]; omega
                      · obtain rfl : k = d.lines.length := by omega
                        have HE : Hid (badAny d.lines d.sale = false) := Lib.hid (by have := HS.out; rwa [List.take_length] at this)
                        clear HS cs
                        go_wp2
                        go_ret
                        exact ⟨ret_bool (by rw [← HV.out, HE.out]; rfl), below_then HBW.out HB.out⟩
                  | false =>
                    cases hcu : currB d.currency with
                    | true =>
                      simp only [hn, hr, hc, hcu, Bool.true_or, Bool.or_true, Bool.true_and, Bool.and_true, Bool.false_or] at hV
                      have HV := Lib.hid hV
                      clear hV
                      rw [hr] at HRt
                      clear hr
                      rw [hcu] at HCu
                      clear hcu
                      go_enter Try.func19, Try.ntmps19
                      go_wp2_with (first | (go_at_call 29; refine (ref_in _ _ _ _).mono ?_; rintro e w2 ⟨rfl, rfl⟩) | (go_at_call 30; refine (HCo.out _).mono ?_; rintro e w2 ⟨rfl, rfl⟩) | (go_at_call 32; refine (HCu.out _).mono ?_; rintro e w2 ⟨rfl, rfl⟩) | (go_at_call 31; refine (HRt.out _).mono ?_; rintro e w2 ⟨rfl, hb⟩; have HX2 := Lib.hid (heap_on hb HX.out); have HBW := Lib.hid (below_then HBA.out hb); clear hb; have hx := HX2.out; obtain ⟨u0, u1, u2, u3, u4, u5, u6, u7, u8⟩ := cellsLineV hx; clear hx; refine Stop.out ?_))
                      unfold Stop
                      go_wp2_with (first | (go_at_call 29; refine (ref_in _ _ _ _).mono ?_; rintro e w2 ⟨rfl, rfl⟩) | (go_at_call 30; refine (HCo.out _).mono ?_; rintro e w2 ⟨rfl, rfl⟩) | (go_at_call 32; refine (HCu.out _).mono ?_; rintro e w2 ⟨rfl, rfl⟩))
                      clear HX HBA u0 u1 u2 u3 u4 u5 u6 u7 u8
                      generalize d.linesA = A1 at HR HX2 ⊢
                      go_loopw [3] (fun i wr => ∃ (k : Nat), k ≤ d.lines.length ∧ i = .int .i64 k ∧ Hid (badAny (d.lines.take k) d.sale = false) ∧ Hid (Below w2.heap.size w2 wr)) (fun i _ => d.lines.length - (intOf i).toNat)
                      case atStart => exact ⟨0, Nat.zero_le _, rfl, Lib.hid rfl, Lib.hid (Below.refl _ _)⟩
                      case round =>
                        obtain ⟨k, hk, rfl, HS, HB⟩ := hrel
                        have cx : wr.cell? ⟨w.heap.size, 8, none⟩ = some (.slice A1 d.lines.length d.linesC) := by rw [cell_of_row wr _ 8 _ _ _ (heap_on HB.out HX2.out)]; rfl
                        have cs : wr.cell? ⟨w.heap.size, 1, none⟩ = some (.bool d.sale) := by rw [cell_of_row wr _ 1 _ _ _ (heap_on HB.out HX2.out)]; rfl
                        by_cases hlt : k < d.lines.length
                        · have hlt' : (k : Int) < (d.lines.length : Int) := by omega
                          have hlc' : (k : Int) < (d.linesC : Int) := by have := HLC.out; omega
                          obtain ⟨b1, o1, rfl, hb1, y0, y1, y2, y3, y4, y5, y6, y7, y8⟩ := (HR.out.on (below_then HBW.out HB.out)).at_ k hlt
                          have HGl : Hid (∀ W, Calls Try.prog 33 #[.agg #[.int .i64 d.lines[k].1, .int .i64 d.lines[k].2.1, .string d.lines[k].2.2.1, .string d.lines[k].2.2.2.1, .string d.lines[k].2.2.2.2.1, .int .i64 d.lines[k].2.2.2.2.2.1, .bool d.lines[k].2.2.2.2.2.2.1, .int .i64 d.lines[k].2.2.2.2.2.2.2.1, .bool d.lines[k].2.2.2.2.2.2.2.2], .bool d.sale] W fun e w1 => e = .returned (.bool (lineGood d.lines[k] d.sale)) ∧ Below W.heap.size W w1) := Lib.hid (fun W => ref_goodLine _ _ _ _ _ _ _ _ _ d.sale W (HG.out _ (List.getElem_mem hlt)).1 (HG.out _ (List.getElem_mem hlt)).2.1 (HG.out _ (List.getElem_mem hlt)).2.2 _ rfl)
                          obtain ⟨p, hp⟩ : ∃ p, p = d.lines[k] := ⟨_, rfl⟩
                          rw [← hp] at y0 y1 y2 y3 y4 y5 y6 y7 y8 HGl
                          have HP := Lib.hid hp
                          clear hp
                          cases hlk : lineGood p d.sale with
                          | false =>
                            have HN := Lib.hid (bad_found hlt (by rw [← HP.out]; exact hlk))
                            rw [hlk] at HGl
                            go_wp2
                            have HBD := Lib.hid (below_then HB.out (below_drawn _))
                            refine wp_region_held_drew (S := fun V => V.cell? ⟨w.heap.size, 8, none⟩ = some (.slice (some ⟨b1, o1, none⟩) d.lines.length d.linesC) ∧ V.cell? ⟨w.heap.size, 1, none⟩ = some (.bool d.sale) ∧ V.cell? ⟨b1, o1 + k * 9, none⟩ = some (.int .i64 p.1) ∧ V.cell? ⟨b1, o1 + k * 9 + 1, none⟩ = some (.int .i64 p.2.1) ∧ V.cell? ⟨b1, o1 + k * 9 + 2, none⟩ = some (.string p.2.2.1) ∧ V.cell? ⟨b1, o1 + k * 9 + 3, none⟩ = some (.string p.2.2.2.1) ∧ V.cell? ⟨b1, o1 + k * 9 + 4, none⟩ = some (.string p.2.2.2.2.1) ∧ V.cell? ⟨b1, o1 + k * 9 + 5, none⟩ = some (.int .i64 p.2.2.2.2.2.1) ∧ V.cell? ⟨b1, o1 + k * 9 + 6, none⟩ = some (.bool p.2.2.2.2.2.2.1) ∧ V.cell? ⟨b1, o1 + k * 9 + 7, none⟩ = some (.int .i64 p.2.2.2.2.2.2.2.1) ∧ V.cell? ⟨b1, o1 + k * 9 + 8, none⟩ = some (.bool p.2.2.2.2.2.2.2.2)) (by kernel_rfl) ⟨cx, cs, y0, y1, y2, y3, y4, y5, y6, y7, y8⟩ ?_
                            intro hHeld
                            clear cx cs y0 y1 y2 y3 y4 y5 y6 y7 y8
                            generalize World.drew _ = wd at HBD hHeld ⊢
                            (refine takeH (i := 0) (v := ?_) rfl (by kernel_rfl) (by kernel_rfl) (by kernel_rfl) (fun _ _ _ h => h) (Or.inl ⟨by rfl, ?_⟩) (by assumption) ?_; rotate_left; (focus ((intro wS hSw); (try dsimp only at hSw); obtain ⟨s0, s1, s2, s3, s4, s5, s6, s7, s8, s9, s10⟩ := hSw; go_simp; (try with_reducible rfl); done)); (try simp only [Act.put, List.setIfInBounds_toArray, List.set_cons_zero, List.set_cons_succ]))
                            (refine takeH (i := 1) (v := ?_) rfl (by kernel_rfl) (by kernel_rfl) (by kernel_rfl) (fun _ _ _ h => h) (Or.inl ⟨by rfl, ?_⟩) (by assumption) ?_; rotate_left; (focus ((intro wS hSw); (try dsimp only at hSw); obtain ⟨s0, s1, s2, s3, s4, s5, s6, s7, s8, s9, s10⟩ := hSw; go_simp; (try with_reducible rfl); done)); (try simp only [Act.put, List.setIfInBounds_toArray, List.set_cons_zero, List.set_cons_succ]))
                            (refine takeH (i := 2) (v := ?_) rfl (by kernel_rfl) (by kernel_rfl) (by kernel_rfl) (fun _ _ _ h => h) (Or.inl ⟨by rfl, ?_⟩) (by assumption) ?_; rotate_left; (focus ((intro wS hSw); (try dsimp only at hSw); obtain ⟨s0, s1, s2, s3, s4, s5, s6, s7, s8, s9, s10⟩ := hSw; go_simp; (try with_reducible rfl); done)); (try simp only [Act.put, List.setIfInBounds_toArray, List.set_cons_zero, List.set_cons_succ]))
                            (refine takeH (i := 3) (v := ?_) rfl (by kernel_rfl) (by kernel_rfl) (by kernel_rfl) (fun _ _ _ h => h) (Or.inl ⟨by rfl, ?_⟩) (by assumption) ?_; rotate_left; (focus ((intro wS hSw); (try dsimp only at hSw); obtain ⟨s0, s1, s2, s3, s4, s5, s6, s7, s8, s9, s10⟩ := hSw; go_simp; (try with_reducible rfl); done)); (try simp only [Act.put, List.setIfInBounds_toArray, List.set_cons_zero, List.set_cons_succ]))
                            (refine takeH (i := 4) (v := ?_) rfl (by kernel_rfl) (by kernel_rfl) (by kernel_rfl) (fun _ _ _ h => h) (Or.inl ⟨by rfl, ?_⟩) (by assumption) ?_; rotate_left; (focus ((intro wS hSw); (try dsimp only at hSw); obtain ⟨s0, s1, s2, s3, s4, s5, s6, s7, s8, s9, s10⟩ := hSw; go_simp; (try with_reducible rfl); done)); (try simp only [Act.put, List.setIfInBounds_toArray, List.set_cons_zero, List.set_cons_succ]))
                            (refine takeH (i := 5) (v := ?_) rfl (by kernel_rfl) (by kernel_rfl) (by kernel_rfl) (fun _ _ _ h => h) (Or.inl ⟨by rfl, ?_⟩) (by assumption) ?_; rotate_left; (focus ((intro wS hSw); (try dsimp only at hSw); obtain ⟨s0, s1, s2, s3, s4, s5, s6, s7, s8, s9, s10⟩ := hSw; go_simp; (try with_reducible rfl); done)); (try simp only [Act.put, List.setIfInBounds_toArray, List.set_cons_zero, List.set_cons_succ]))
                            (refine takeH (i := 6) (v := ?_) rfl (by kernel_rfl) (by kernel_rfl) (by kernel_rfl) (fun _ _ _ h => h) (Or.inl ⟨by rfl, ?_⟩) (by assumption) ?_; rotate_left; (focus ((intro wS hSw); (try dsimp only at hSw); obtain ⟨s0, s1, s2, s3, s4, s5, s6, s7, s8, s9, s10⟩ := hSw; go_simp; (try with_reducible rfl); done)); (try simp only [Act.put, List.setIfInBounds_toArray, List.set_cons_zero, List.set_cons_succ]))
                            refine aloneH (i := 7) rfl (by kernel_rfl) (fun K hK => ?_)
                            rw [if_pos (by rfl)]
                            go_simp; ((refine (HGl.out _).mono ?_); (rintro e w1 ⟨rfl, hb⟩); have HB1 := Lib.hid hb; clear hb; (try go_simp))
                            refine hK.out _ _ (⟨cell_on HB1.out hHeld.1, cell_on HB1.out hHeld.2.1, cell_on HB1.out hHeld.2.2.1, cell_on HB1.out hHeld.2.2.2.1, cell_on HB1.out hHeld.2.2.2.2.1, cell_on HB1.out hHeld.2.2.2.2.2.1, cell_on HB1.out hHeld.2.2.2.2.2.2.1, cell_on HB1.out hHeld.2.2.2.2.2.2.2.1, cell_on HB1.out hHeld.2.2.2.2.2.2.2.2.1, cell_on HB1.out hHeld.2.2.2.2.2.2.2.2.2.1, cell_on HB1.out hHeld.2.2.2.2.2.2.2.2.2.2⟩) (fun hNew => ?_)
                            clear hK K hHeld; (have hHeld := hNew); clear hNew; (try simp only [Act.put, List.setIfInBounds_toArray, List.set_cons_zero, List.set_cons_succ])
                            (refine takeH (i := 8) (v := ?_) rfl (by kernel_rfl) (by kernel_rfl) (by kernel_rfl) (fun _ _ _ h => h) (Or.inl ⟨by rfl, ?_⟩) (by assumption) ?_; rotate_left; (focus ((intro wS hSw); (try dsimp only at hSw); obtain ⟨s0, s1, s2, s3, s4, s5, s6, s7, s8, s9, s10⟩ := hSw; go_simp; (try with_reducible rfl); done)); (try simp only [Act.put, List.setIfInBounds_toArray, List.set_cons_zero, List.set_cons_succ]))
                            refine wpAnyH_done (by kernel_rfl) ?_ _
                            clear hHeld
                            go_wp2
                            go_ret
                            exact ⟨ret_bool (by rw [← HV.out, HN.out]; rfl), below_then HBW.out (below_then HBD.out HB1.out)⟩
                          | true =>
                            have HN := Lib.hid (bad_next hlt HS.out (by rw [← HP.out]; exact hlk))
                            rw [hlk] at HGl
                            go_wp2
                            have HBD := Lib.hid (below_then HB.out (below_drawn _))
                            refine wp_region_held_drew (S := fun V => V.cell? ⟨w.heap.size, 8, none⟩ = some (.slice (some ⟨b1, o1, none⟩) d.lines.length d.linesC) ∧ V.cell? ⟨w.heap.size, 1, none⟩ = some (.bool d.sale) ∧ V.cell? ⟨b1, o1 + k * 9, none⟩ = some (.int .i64 p.1) ∧ V.cell? ⟨b1, o1 + k * 9 + 1, none⟩ = some (.int .i64 p.2.1) ∧ V.cell? ⟨b1, o1 + k * 9 + 2, none⟩ = some (.string p.2.2.1) ∧ V.cell? ⟨b1, o1 + k * 9 + 3, none⟩ = some (.string p.2.2.2.1) ∧ V.cell? ⟨b1, o1 + k * 9 + 4, none⟩ = some (.string p.2.2.2.2.1) ∧ V.cell? ⟨b1, o1 + k * 9 + 5, none⟩ = some (.int .i64 p.2.2.2.2.2.1) ∧ V.cell? ⟨b1, o1 + k * 9 + 6, none⟩ = some (.bool p.2.2.2.2.2.2.1) ∧ V.cell? ⟨b1, o1 + k * 9 + 7, none⟩ = some (.int .i64 p.2.2.2.2.2.2.2.1) ∧ V.cell? ⟨b1, o1 + k * 9 + 8, none⟩ = some (.bool p.2.2.2.2.2.2.2.2)) (by kernel_rfl) ⟨cx, cs, y0, y1, y2, y3, y4, y5, y6, y7, y8⟩ ?_
                            intro hHeld
                            clear cx cs y0 y1 y2 y3 y4 y5 y6 y7 y8
                            generalize World.drew _ = wd at HBD hHeld ⊢
                            (refine takeH (i := 0) (v := ?_) rfl (by kernel_rfl) (by kernel_rfl) (by kernel_rfl) (fun _ _ _ h => h) (Or.inl ⟨by rfl, ?_⟩) (by assumption) ?_; rotate_left; (focus ((intro wS hSw); (try dsimp only at hSw); obtain ⟨s0, s1, s2, s3, s4, s5, s6, s7, s8, s9, s10⟩ := hSw; go_simp; (try with_reducible rfl); done)); (try simp only [Act.put, List.setIfInBounds_toArray, List.set_cons_zero, List.set_cons_succ]))
                            (refine takeH (i := 1) (v := ?_) rfl (by kernel_rfl) (by kernel_rfl) (by kernel_rfl) (fun _ _ _ h => h) (Or.inl ⟨by rfl, ?_⟩) (by assumption) ?_; rotate_left; (focus ((intro wS hSw); (try dsimp only at hSw); obtain ⟨s0, s1, s2, s3, s4, s5, s6, s7, s8, s9, s10⟩ := hSw; go_simp; (try with_reducible rfl); done)); (try simp only [Act.put, List.setIfInBounds_toArray, List.set_cons_zero, List.set_cons_succ]))
                            (refine takeH (i := 2) (v := ?_) rfl (by kernel_rfl) (by kernel_rfl) (by kernel_rfl) (fun _ _ _ h => h) (Or.inl ⟨by rfl, ?_⟩) (by assumption) ?_; rotate_left; (focus ((intro wS hSw); (try dsimp only at hSw); obtain ⟨s0, s1, s2, s3, s4, s5, s6, s7, s8, s9, s10⟩ := hSw; go_simp; (try with_reducible rfl); done)); (try simp only [Act.put, List.setIfInBounds_toArray, List.set_cons_zero, List.set_cons_succ]))
                            (refine takeH (i := 3) (v := ?_) rfl (by kernel_rfl) (by kernel_rfl) (by kernel_rfl) (fun _ _ _ h => h) (Or.inl ⟨by rfl, ?_⟩) (by assumption) ?_; rotate_left; (focus ((intro wS hSw); (try dsimp only at hSw); obtain ⟨s0, s1, s2, s3, s4, s5, s6, s7, s8, s9, s10⟩ := hSw; go_simp; (try with_reducible rfl); done)); (try simp only [Act.put, List.setIfInBounds_toArray, List.set_cons_zero, List.set_cons_succ]))
                            (refine takeH (i := 4) (v := ?_) rfl (by kernel_rfl) (by kernel_rfl) (by kernel_rfl) (fun _ _ _ h => h) (Or.inl ⟨by rfl, ?_⟩) (by assumption) ?_; rotate_left; (focus ((intro wS hSw); (try dsimp only at hSw); obtain ⟨s0, s1, s2, s3, s4, s5, s6, s7, s8, s9, s10⟩ := hSw; go_simp; (try with_reducible rfl); done)); (try simp only [Act.put, List.setIfInBounds_toArray, List.set_cons_zero, List.set_cons_succ]))
                            (refine takeH (i := 5) (v := ?_) rfl (by kernel_rfl) (by kernel_rfl) (by kernel_rfl) (fun _ _ _ h => h) (Or.inl ⟨by rfl, ?_⟩) (by assumption) ?_; rotate_left; (focus ((intro wS hSw); (try dsimp only at hSw); obtain ⟨s0, s1, s2, s3, s4, s5, s6, s7, s8, s9, s10⟩ := hSw; go_simp; (try with_reducible rfl); done)); (try simp only [Act.put, List.setIfInBounds_toArray, List.set_cons_zero, List.set_cons_succ]))
                            (refine takeH (i := 6) (v := ?_) rfl (by kernel_rfl) (by kernel_rfl) (by kernel_rfl) (fun _ _ _ h => h) (Or.inl ⟨by rfl, ?_⟩) (by assumption) ?_; rotate_left; (focus ((intro wS hSw); (try dsimp only at hSw); obtain ⟨s0, s1, s2, s3, s4, s5, s6, s7, s8, s9, s10⟩ := hSw; go_simp; (try with_reducible rfl); done)); (try simp only [Act.put, List.setIfInBounds_toArray, List.set_cons_zero, List.set_cons_succ]))
                            refine aloneH (i := 7) rfl (by kernel_rfl) (fun K hK => ?_)
                            rw [if_pos (by rfl)]
                            go_simp; ((refine (HGl.out _).mono ?_); (rintro e w1 ⟨rfl, hb⟩); have HB1 := Lib.hid hb; clear hb; (try go_simp))
                            refine hK.out _ _ (⟨cell_on HB1.out hHeld.1, cell_on HB1.out hHeld.2.1, cell_on HB1.out hHeld.2.2.1, cell_on HB1.out hHeld.2.2.2.1, cell_on HB1.out hHeld.2.2.2.2.1, cell_on HB1.out hHeld.2.2.2.2.2.1, cell_on HB1.out hHeld.2.2.2.2.2.2.1, cell_on HB1.out hHeld.2.2.2.2.2.2.2.1, cell_on HB1.out hHeld.2.2.2.2.2.2.2.2.1, cell_on HB1.out hHeld.2.2.2.2.2.2.2.2.2.1, cell_on HB1.out hHeld.2.2.2.2.2.2.2.2.2.2⟩) (fun hNew => ?_)
                            clear hK K hHeld; (have hHeld := hNew); clear hNew; (try simp only [Act.put, List.setIfInBounds_toArray, List.set_cons_zero, List.set_cons_succ])
                            (refine takeH (i := 8) (v := ?_) rfl (by kernel_rfl) (by kernel_rfl) (by kernel_rfl) (fun _ _ _ h => h) (Or.inl ⟨by rfl, ?_⟩) (by assumption) ?_; rotate_left; (focus ((intro wS hSw); (try dsimp only at hSw); obtain ⟨s0, s1, s2, s3, s4, s5, s6, s7, s8, s9, s10⟩ := hSw; go_simp; (try with_reducible rfl); done)); (try simp only [Act.put, List.setIfInBounds_toArray, List.set_cons_zero, List.set_cons_succ]))
                            refine wpAnyH_done (by kernel_rfl) ?_ _
                            clear hHeld
                            go_wp2
                            go_roundw
                            case rel => exact ⟨k + 1, by omega, by go_num, HN, Lib.hid (below_then HBD.out HB1.out)⟩
                            case measure => simp [intOf]; omega
                        · obtain rfl : k = d.lines.length := by omega
                          have HE : Hid (badAny d.lines d.sale = false) := Lib.hid (by have := HS.out; rwa [List.take_length] at this)
                          clear HS cs
                          go_wp2
                          go_ret
                          exact ⟨ret_bool (by rw [← HV.out, HE.out]; rfl), below_then HBW.out HB.out⟩
                    | false =>
                      simp only [hn, hr, hc, hcu, Bool.true_or, Bool.or_true, Bool.true_and, Bool.and_true, Bool.false_or, Bool.false_and, Bool.and_false] at hV
                      subst hV
                      rw [hr] at HRt
                      clear hr
                      rw [hcu] at HCu
                      clear hcu
                      go_enter Try.func19, Try.ntmps19
                      go_wp2_with (first | (go_at_call 29; refine (ref_in _ _ _ _).mono ?_; rintro e w2 ⟨rfl, rfl⟩) | (go_at_call 30; refine (HCo.out _).mono ?_; rintro e w2 ⟨rfl, rfl⟩) | (go_at_call 32; refine (HCu.out _).mono ?_; rintro e w2 ⟨rfl, rfl⟩) | (go_at_call 31; refine (HRt.out _).mono ?_; rintro e w2 ⟨rfl, hb⟩; have HX2 := Lib.hid (heap_on hb HX.out); have HBW := Lib.hid (below_then HBA.out hb); clear hb; have hx := HX2.out; obtain ⟨u0, u1, u2, u3, u4, u5, u6, u7, u8⟩ := cellsLineV hx; clear hx; refine Stop.out ?_))
                      unfold Stop
                      go_wp2_with (first | (go_at_call 29; refine (ref_in _ _ _ _).mono ?_; rintro e w2 ⟨rfl, rfl⟩) | (go_at_call 30; refine (HCo.out _).mono ?_; rintro e w2 ⟨rfl, rfl⟩) | (go_at_call 32; refine (HCu.out _).mono ?_; rintro e w2 ⟨rfl, rfl⟩))
                      go_ret
                      exact ⟨rfl, HBW.out⟩
                | false =>
                  simp only [hn, hr, Bool.true_or, Bool.or_true, Bool.true_and, Bool.and_true, Bool.false_or, Bool.false_and, Bool.and_false] at hV
                  subst hV
                  rw [hr] at HRt
                  clear hr
                  go_enter Try.func19, Try.ntmps19
                  go_wp2_with (first | (go_at_call 29; refine (ref_in _ _ _ _).mono ?_; rintro e w2 ⟨rfl, rfl⟩) | (go_at_call 30; refine (HCo.out _).mono ?_; rintro e w2 ⟨rfl, rfl⟩) | (go_at_call 32; refine (HCu.out _).mono ?_; rintro e w2 ⟨rfl, rfl⟩) | (go_at_call 31; refine (HRt.out _).mono ?_; rintro e w2 ⟨rfl, hb⟩; have HBW := Lib.hid (below_then HBA.out hb); clear hb))
                  go_ret
                  exact ⟨rfl, HBW.out⟩
end Go.Proofs.Ytjanhgekocpobaa
