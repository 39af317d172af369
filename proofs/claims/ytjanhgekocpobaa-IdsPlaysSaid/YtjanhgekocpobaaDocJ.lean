/- Documents: are they the same? The document's. -/
import Derived.Test.YtjanhgekocpobaaDocM
namespace Go.Proofs.Ytjanhgekocpobaa
open Go.RowKit
set_option maxRecDepth 100000
set_option linter.unusedSimpArgs false
attribute [local go_sem] Oper.semAt_some

set_option maxHeartbeats 8000000 in
theorem ref_sameDoc (x y : DocV) (w : World) (hx : DocVOk w x) (hy : DocVOk w y) (hn : x.lines.length ≤ 140737488351232) (V : Bool) (hV : sameD x y = V) :
    Calls Try.prog 14 #[.agg #[.string x.id, .bool x.sale, .bool x.credit, .string x.refers, .int .i64 x.day, .string x.country, .string x.number, .string x.currency, .slice x.linesA x.lines.length x.linesC], .agg #[.string y.id, .bool y.sale, .bool y.credit, .string y.refers, .int .i64 y.day, .string y.country, .string y.number, .string y.currency, .slice y.linesA y.lines.length y.linesC]] w fun e w' => e = .returned (.bool V) ∧ Below w.heap.size w w' := by
  obtain ⟨_, _, _, _, _, rx, _⟩ := hx
  obtain ⟨_, _, _, _, _, ry, _⟩ := hy
  have HBB := Lib.hid (fun o1 o2 => below_then (below_alloc w o1) (below_alloc (w.alloc o1) o2))
  have hli : (x.lines.length : Int) ≤ 140737488351232 := by omega
  unfold sameD at hV
  cases e0 : (x.id.toList == y.id.toList) with
  | false =>
    rw [e0] at hV
    simp only [Bool.false_and] at hV
    subst hV
    clear rx ry
    go_enter Try.func14, Try.ntmps14
    go_wp2
    go_ret
    exact ⟨rfl, HBB.out _ _⟩
  | true =>
    rw [e0] at hV
    simp only [Bool.true_and] at hV
    cases e1 : (x.sale == y.sale) with
    | false =>
      rw [e1] at hV
      simp only [Bool.false_and] at hV
      subst hV
      have n1 : (x.sale != y.sale) = true := by simp [bne, e1]
      clear rx ry
      go_enter Try.func14, Try.ntmps14
      go_wp2
      go_ret
      exact ⟨rfl, HBB.out _ _⟩
    | true =>
      rw [e1] at hV
      simp only [Bool.true_and] at hV
      have n1 : (x.sale != y.sale) = false := by simp [bne, e1]
      cases e2 : (x.credit == y.credit) with
      | false =>
        rw [e2] at hV
        simp only [Bool.false_and] at hV
        subst hV
        have n2 : (x.credit != y.credit) = true := by simp [bne, e2]
        clear rx ry
        go_enter Try.func14, Try.ntmps14
        go_wp2
        go_ret
        exact ⟨rfl, HBB.out _ _⟩
      | true =>
        rw [e2] at hV
        simp only [Bool.true_and] at hV
        have n2 : (x.credit != y.credit) = false := by simp [bne, e2]
        cases e3 : (x.refers.toList == y.refers.toList) with
        | false =>
          rw [e3] at hV
          simp only [Bool.false_and] at hV
          subst hV
          clear rx ry
          go_enter Try.func14, Try.ntmps14
          go_wp2
          go_ret
          exact ⟨rfl, HBB.out _ _⟩
        | true =>
          rw [e3] at hV
          simp only [Bool.true_and] at hV
          cases e4 : (x.day == y.day) with
          | false =>
            rw [e4] at hV
            simp only [Bool.false_and] at hV
            subst hV
            have n4 : (x.day != y.day) = true := by simp [bne, e4]
            clear rx ry
            go_enter Try.func14, Try.ntmps14
            go_wp2
            go_ret
            exact ⟨rfl, HBB.out _ _⟩
          | true =>
            rw [e4] at hV
            simp only [Bool.true_and] at hV
            have n4 : (x.day != y.day) = false := by simp [bne, e4]
            cases e5 : (x.country.toList == y.country.toList) with
            | false =>
              rw [e5] at hV
              simp only [Bool.false_and] at hV
              subst hV
              clear rx ry
              go_enter Try.func14, Try.ntmps14
              go_wp2
              go_ret
              exact ⟨rfl, HBB.out _ _⟩
            | true =>
              rw [e5] at hV
              simp only [Bool.true_and] at hV
              cases e6 : (x.number.toList == y.number.toList) with
              | false =>
                rw [e6] at hV
                simp only [Bool.false_and] at hV
                subst hV
                clear rx ry
                go_enter Try.func14, Try.ntmps14
                go_wp2
                go_ret
                exact ⟨rfl, HBB.out _ _⟩
              | true =>
                rw [e6] at hV
                simp only [Bool.true_and] at hV
                cases e7 : (x.currency.toList == y.currency.toList) with
                | false =>
                  rw [e7] at hV
                  simp only [Bool.false_and] at hV
                  subst hV
                  clear rx ry
                  go_enter Try.func14, Try.ntmps14
                  go_wp2
                  go_ret
                  exact ⟨rfl, HBB.out _ _⟩
                | true =>
                  rw [e7] at hV
                  simp only [Bool.true_and] at hV
                  by_cases hlen : x.lines.length = y.lines.length
                  · have hlm2 : ((x.lines.length : Int) != (y.lines.length : Int)) = false := by simp [hlen]
                    have HL := Lib.hid hlen
                    have HR1 := Lib.hid rx
                    have HR2 := Lib.hid ry
                    have HV := Lib.hid hV
                    clear hlen rx ry hV
                    have HX := Lib.hid (fun o1 o2 => And.intro (heap_on (below_alloc (w.alloc o1) o2) (heap_alloc_new w o1)) (heap_alloc_new (w.alloc o1) o2))
                    generalize x.linesA = A1 at HR1 ⊢
                    generalize y.linesA = A2 at HR2 ⊢
                    go_enter Try.func14, Try.ntmps14
                    go_wp2
                    have HX1 := Lib.hid (HX.out (.cells #[.string x.id, .bool x.sale, .bool x.credit, .string x.refers, .int .i64 x.day, .string x.country, .string x.number, .string x.currency, .slice A1 x.lines.length x.linesC] 29) (.cells #[.string y.id, .bool y.sale, .bool y.credit, .string y.refers, .int .i64 y.day, .string y.country, .string y.number, .string y.currency, .slice A2 y.lines.length y.linesC] 29)).1
                    have HX2 := Lib.hid (HX.out (.cells #[.string x.id, .bool x.sale, .bool x.credit, .string x.refers, .int .i64 x.day, .string x.country, .string x.number, .string x.currency, .slice A1 x.lines.length x.linesC] 29) (.cells #[.string y.id, .bool y.sale, .bool y.credit, .string y.refers, .int .i64 y.day, .string y.country, .string y.number, .string y.currency, .slice A2 y.lines.length y.linesC] 29)).2
                    have HBW := Lib.hid (HBB.out (.cells #[.string x.id, .bool x.sale, .bool x.credit, .string x.refers, .int .i64 x.day, .string x.country, .string x.number, .string x.currency, .slice A1 x.lines.length x.linesC] 29) (.cells #[.string y.id, .bool y.sale, .bool y.credit, .string y.refers, .int .i64 y.day, .string y.country, .string y.number, .string y.currency, .slice A2 y.lines.length y.linesC] 29))
                    clear HX HBB
                    simp only [World.size_alloc] at HX2
                    generalize World.alloc (World.alloc w _) _ = w2 at HX1 HX2 HBW ⊢
                    go_loopw [5] (fun i wr => ∃ (k : Nat), k ≤ x.lines.length ∧ i = .int .i64 k ∧ Hid (((x.lines.zip y.lines).take k).all (fun x => likeL x.1 x.2) = true) ∧ Hid (Below w2.heap.size w2 wr)) (fun i _ => x.lines.length - (intOf i).toNat)
                    case atStart => exact ⟨0, Nat.zero_le _, rfl, Lib.hid rfl, Lib.hid (Below.refl _ _)⟩
                    case round =>
                      obtain ⟨k, hk, rfl, HS, HB⟩ := hrel
                      have cx : wr.cell? ⟨w.heap.size, 8, none⟩ = some (.slice A1 x.lines.length x.linesC) := by rw [cell_of_row wr _ 8 _ _ _ (heap_on HB.out HX1.out)]; rfl
                      have cy : wr.cell? ⟨w.heap.size + 1, 8, none⟩ = some (.slice A2 y.lines.length y.linesC) := by rw [cell_of_row wr _ 8 _ _ _ (heap_on HB.out HX2.out)]; rfl
                      by_cases hlt : k < x.lines.length
                      · have hlt' : (k : Int) < (x.lines.length : Int) := by omega
                        have hltm : k < y.lines.length := by have := HL.out; omega
                        have hltm' : (k : Int) < (y.lines.length : Int) := by omega
                        obtain ⟨b1, o1, rfl, hb1, y0, y1, y2, y3, y4, y5, y6, y7, y8⟩ := (HR1.out.on (below_then HBW.out HB.out)).at_ k hlt
                        obtain ⟨b2, o2, rfl, hb2, z0, z1, z2, z3, z4, z5, z6, z7, z8⟩ := (HR2.out.on (below_then HBW.out HB.out)).at_ k hltm
                        obtain ⟨p, hp⟩ : ∃ p, p = x.lines[k] := ⟨_, rfl⟩
                        obtain ⟨q, hq⟩ : ∃ q, q = y.lines[k] := ⟨_, rfl⟩
                        rw [← hp] at y0 y1 y2 y3 y4 y5 y6 y7 y8
                        rw [← hq] at z0 z1 z2 z3 z4 z5 z6 z7 z8
                        have HP := Lib.hid (And.intro hp hq)
                        clear hp hq
                        go_wp2
                        have HBD := Lib.hid (below_then HB.out (below_drawn _))
                        refine wp_region_held_drew (S := fun V => V.cell? ⟨w.heap.size, 8, none⟩ = some (.slice (some ⟨b1, o1, none⟩) x.lines.length x.linesC) ∧ V.cell? ⟨w.heap.size + 1, 8, none⟩ = some (.slice (some ⟨b2, o2, none⟩) y.lines.length y.linesC) ∧ V.cell? ⟨b1, o1 + k * 9, none⟩ = some (.int .i64 p.1) ∧ V.cell? ⟨b1, o1 + k * 9 + 1, none⟩ = some (.int .i64 p.2.1) ∧ V.cell? ⟨b1, o1 + k * 9 + 2, none⟩ = some (.string p.2.2.1) ∧ V.cell? ⟨b1, o1 + k * 9 + 3, none⟩ = some (.string p.2.2.2.1) ∧ V.cell? ⟨b1, o1 + k * 9 + 4, none⟩ = some (.string p.2.2.2.2.1) ∧ V.cell? ⟨b1, o1 + k * 9 + 5, none⟩ = some (.int .i64 p.2.2.2.2.2.1) ∧ V.cell? ⟨b1, o1 + k * 9 + 6, none⟩ = some (.bool p.2.2.2.2.2.2.1) ∧ V.cell? ⟨b1, o1 + k * 9 + 7, none⟩ = some (.int .i64 p.2.2.2.2.2.2.2.1) ∧ V.cell? ⟨b1, o1 + k * 9 + 8, none⟩ = some (.bool p.2.2.2.2.2.2.2.2) ∧ V.cell? ⟨b2, o2 + k * 9, none⟩ = some (.int .i64 q.1) ∧ V.cell? ⟨b2, o2 + k * 9 + 1, none⟩ = some (.int .i64 q.2.1) ∧ V.cell? ⟨b2, o2 + k * 9 + 2, none⟩ = some (.string q.2.2.1) ∧ V.cell? ⟨b2, o2 + k * 9 + 3, none⟩ = some (.string q.2.2.2.1) ∧ V.cell? ⟨b2, o2 + k * 9 + 4, none⟩ = some (.string q.2.2.2.2.1) ∧ V.cell? ⟨b2, o2 + k * 9 + 5, none⟩ = some (.int .i64 q.2.2.2.2.2.1) ∧ V.cell? ⟨b2, o2 + k * 9 + 6, none⟩ = some (.bool q.2.2.2.2.2.2.1) ∧ V.cell? ⟨b2, o2 + k * 9 + 7, none⟩ = some (.int .i64 q.2.2.2.2.2.2.2.1) ∧ V.cell? ⟨b2, o2 + k * 9 + 8, none⟩ = some (.bool q.2.2.2.2.2.2.2.2)) (by kernel_rfl) ⟨cx, cy, y0, y1, y2, y3, y4, y5, y6, y7, y8, z0, z1, z2, z3, z4, z5, z6, z7, z8⟩ ?_
                        intro hHeld
                        clear cx cy y0 y1 y2 y3 y4 y5 y6 y7 y8 z0 z1 z2 z3 z4 z5 z6 z7 z8
                        generalize World.drew _ = wd at HBD hHeld ⊢
                        (refine takeH (i := 0) (v := ?_) rfl (by kernel_rfl) (by kernel_rfl) (by kernel_rfl) (fun _ _ _ h => h) (Or.inl ⟨by rfl, ?_⟩) (by assumption) ?_; rotate_left; (focus ((intro wS hSw); (try dsimp only at hSw); obtain ⟨s0, s1, s2, s3, s4, s5, s6, s7, s8, s9, s10, s11, s12, s13, s14, s15, s16, s17, s18, s19⟩ := hSw; go_simp; (try with_reducible rfl); done)); (try simp only [Act.put, List.setIfInBounds_toArray, List.set_cons_zero, List.set_cons_succ]))
                        (refine takeH (i := 1) (v := ?_) rfl (by kernel_rfl) (by kernel_rfl) (by kernel_rfl) (fun _ _ _ h => h) (Or.inl ⟨by rfl, ?_⟩) (by assumption) ?_; rotate_left; (focus ((intro wS hSw); (try dsimp only at hSw); obtain ⟨s0, s1, s2, s3, s4, s5, s6, s7, s8, s9, s10, s11, s12, s13, s14, s15, s16, s17, s18, s19⟩ := hSw; go_simp; (try with_reducible rfl); done)); (try simp only [Act.put, List.setIfInBounds_toArray, List.set_cons_zero, List.set_cons_succ]))
                        (refine takeH (i := 2) (v := ?_) rfl (by kernel_rfl) (by kernel_rfl) (by kernel_rfl) (fun _ _ _ h => h) (Or.inl ⟨by rfl, ?_⟩) (by assumption) ?_; rotate_left; (focus ((intro wS hSw); (try dsimp only at hSw); obtain ⟨s0, s1, s2, s3, s4, s5, s6, s7, s8, s9, s10, s11, s12, s13, s14, s15, s16, s17, s18, s19⟩ := hSw; go_simp; (try with_reducible rfl); done)); (try simp only [Act.put, List.setIfInBounds_toArray, List.set_cons_zero, List.set_cons_succ]))
                        (refine takeH (i := 3) (v := ?_) rfl (by kernel_rfl) (by kernel_rfl) (by kernel_rfl) (fun _ _ _ h => h) (Or.inl ⟨by rfl, ?_⟩) (by assumption) ?_; rotate_left; (focus ((intro wS hSw); (try dsimp only at hSw); obtain ⟨s0, s1, s2, s3, s4, s5, s6, s7, s8, s9, s10, s11, s12, s13, s14, s15, s16, s17, s18, s19⟩ := hSw; go_simp; (try with_reducible rfl); done)); (try simp only [Act.put, List.setIfInBounds_toArray, List.set_cons_zero, List.set_cons_succ]))
                        (refine takeH (i := 4) (v := ?_) rfl (by kernel_rfl) (by kernel_rfl) (by kernel_rfl) (fun _ _ _ h => h) (Or.inl ⟨by rfl, ?_⟩) (by assumption) ?_; rotate_left; (focus ((intro wS hSw); (try dsimp only at hSw); obtain ⟨s0, s1, s2, s3, s4, s5, s6, s7, s8, s9, s10, s11, s12, s13, s14, s15, s16, s17, s18, s19⟩ := hSw; go_simp; (try with_reducible rfl); done)); (try simp only [Act.put, List.setIfInBounds_toArray, List.set_cons_zero, List.set_cons_succ]))
                        (refine takeH (i := 5) (v := ?_) rfl (by kernel_rfl) (by kernel_rfl) (by kernel_rfl) (fun _ _ _ h => h) (Or.inl ⟨by rfl, ?_⟩) (by assumption) ?_; rotate_left; (focus ((intro wS hSw); (try dsimp only at hSw); obtain ⟨s0, s1, s2, s3, s4, s5, s6, s7, s8, s9, s10, s11, s12, s13, s14, s15, s16, s17, s18, s19⟩ := hSw; go_simp; (try with_reducible rfl); done)); (try simp only [Act.put, List.setIfInBounds_toArray, List.set_cons_zero, List.set_cons_succ]))
                        (refine takeH (i := 6) (v := ?_) rfl (by kernel_rfl) (by kernel_rfl) (by kernel_rfl) (fun _ _ _ h => h) (Or.inl ⟨by rfl, ?_⟩) (by assumption) ?_; rotate_left; (focus ((intro wS hSw); (try dsimp only at hSw); obtain ⟨s0, s1, s2, s3, s4, s5, s6, s7, s8, s9, s10, s11, s12, s13, s14, s15, s16, s17, s18, s19⟩ := hSw; go_simp; (try with_reducible rfl); done)); (try simp only [Act.put, List.setIfInBounds_toArray, List.set_cons_zero, List.set_cons_succ]))
                        (refine takeH (i := 7) (v := ?_) rfl (by kernel_rfl) (by kernel_rfl) (by kernel_rfl) (fun _ _ _ h => h) (Or.inl ⟨by rfl, ?_⟩) (by assumption) ?_; rotate_left; (focus ((intro wS hSw); (try dsimp only at hSw); obtain ⟨s0, s1, s2, s3, s4, s5, s6, s7, s8, s9, s10, s11, s12, s13, s14, s15, s16, s17, s18, s19⟩ := hSw; go_simp; (try with_reducible rfl); done)); (try simp only [Act.put, List.setIfInBounds_toArray, List.set_cons_zero, List.set_cons_succ]))
                        (refine takeH (i := 8) (v := ?_) rfl (by kernel_rfl) (by kernel_rfl) (by kernel_rfl) (fun _ _ _ h => h) (Or.inl ⟨by rfl, ?_⟩) (by assumption) ?_; rotate_left; (focus ((intro wS hSw); (try dsimp only at hSw); obtain ⟨s0, s1, s2, s3, s4, s5, s6, s7, s8, s9, s10, s11, s12, s13, s14, s15, s16, s17, s18, s19⟩ := hSw; go_simp; (try with_reducible rfl); done)); (try simp only [Act.put, List.setIfInBounds_toArray, List.set_cons_zero, List.set_cons_succ]))
                        (refine takeH (i := 9) (v := ?_) rfl (by kernel_rfl) (by kernel_rfl) (by kernel_rfl) (fun _ _ _ h => h) (Or.inl ⟨by rfl, ?_⟩) (by assumption) ?_; rotate_left; (focus ((intro wS hSw); (try dsimp only at hSw); obtain ⟨s0, s1, s2, s3, s4, s5, s6, s7, s8, s9, s10, s11, s12, s13, s14, s15, s16, s17, s18, s19⟩ := hSw; go_simp; (try with_reducible rfl); done)); (try simp only [Act.put, List.setIfInBounds_toArray, List.set_cons_zero, List.set_cons_succ]))
                        (refine takeH (i := 10) (v := (.bool (!likeL p q))) rfl (by kernel_rfl) (by kernel_rfl) (by kernel_rfl) (fun _ _ _ h => h) (Or.inl ⟨by rfl, by (intro wS hSw); (try dsimp only at hSw); (obtain ⟨s0, s1, s2, s3, s4, s5, s6, s7, s8, s9, s10, s11, s12, s13, s14, s15, s16, s17, s18, s19⟩ := hSw); go_simp; clear s0 s1 s2 s3 s4 s5 s6 s7 s8 s9 s10 s11 s12 s13 s14 s15 s16 s17 s18 s19 HP HR1 HR2 HB HBD hHeld HS HL HV HX1 HX2; unfold likeL; (repeat' split) <;> simp_all⟩) (by assumption) ?_; (try simp only [Act.put, List.setIfInBounds_toArray, List.set_cons_zero, List.set_cons_succ]))
                        refine wpAnyH_done (by kernel_rfl) ?_ _
                        clear hHeld
                        cases hlk : likeL p q with
                        | false =>
                          have HN := Lib.hid (likes_not hlt hltm (by rw [← HP.out.1, ← HP.out.2]; exact hlk))
                          go_wp2
                          go_ret
                          exact ⟨by rw [← HV.out, HN.out]; rfl, below_then HBW.out HBD.out⟩
                        | true =>
                          have HN := Lib.hid (likes_next hlt hltm HS.out (by rw [← HP.out.1, ← HP.out.2]; exact hlk))
                          go_wp2
                          go_roundw
                          case rel => exact ⟨k + 1, by omega, by go_num, HN, HBD⟩
                          case measure => simp [intOf]; omega
                      · obtain rfl : k = x.lines.length := by omega
                        have HN : Hid (likes x.lines y.lines = true) := Lib.hid (by
                          unfold likes
                          have h := HS.out
                          rw [List.take_of_length_le (by rw [List.length_zip]; omega)] at h
                          rw [h, HL.out]
                          simp)
                        go_wp2
                        go_ret
                        exact ⟨by rw [← HV.out, HN.out]; rfl, below_then HBW.out HB.out⟩
                  · have hlm2 : ((x.lines.length : Int) != (y.lines.length : Int)) = true := bne_iff_ne.2 (by omega)
                    have HN : Hid (likes x.lines y.lines = false) := Lib.hid (by
                      unfold likes
                      rw [beq_false_of_ne hlen, Bool.false_and])
                    rw [HN.out] at hV
                    subst hV
                    clear hlen rx ry
                    go_enter Try.func14, Try.ntmps14
                    go_wp2
                    go_ret
                    exact ⟨rfl, HBB.out _ _⟩
end Go.Proofs.Ytjanhgekocpobaa
