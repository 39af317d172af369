/- The document's clock: made; all that are filed; lists held against each other. -/
import Derived.Test.YtdacpiegfobhbaaPdQ
namespace Go.Proofs.Ytdacpiegfobhbaa
open Go.RowKit
set_option maxRecDepth 100000
set_option linter.unusedSimpArgs false
set_option linter.unusedVariables false

set_option maxHeartbeats 2000000 in
theorem refnew_yes (w : World) (k n : Int) (f1 f2 : Int) (hk : ¬ k = 3) (ho : ∀ W, Calls Try.prog 29 #[.int .i64 n, .int .i64 k] W fun e w' => e = .returned (.tuple #[.agg #[.int .i64 k, .int .i64 f1, .int .i64 f2], .int .i64 0]) ∧ Below W.heap.size W w') :
    Calls Try.prog 9 #[.int .i64 k, .int .i64 n] w fun e w' => e = .returned (.tuple #[.agg #[.int .i64 k, .int .i64 f1, .int .i64 f2, .int .i64 0, .int .i64 0], .bool true]) ∧ Below w.heap.size w w' := by
  have HO := Lib.hid ho
  have hk3 : (k == 3) = false := by simp [hk]
  clear ho hk
  have HR4 := Lib.hid (heap_alloc_new w (.cells #[.int .i64 0, .int .i64 0, .int .i64 0, .int .i64 0, .int .i64 0] 31))
  have HB0 := Lib.hid (below_alloc w (.cells #[.int .i64 0, .int .i64 0, .int .i64 0, .int .i64 0, .int .i64 0] 31))
  go_enter Try.func9, Try.ntmps9
  go_wp2_with (go_at_call 29; refine (HO.out _).mono ?_; rintro e w1 ⟨rfl, hb⟩; have HB1 := Lib.hid (below_then HB0.out hb); have HR4a := Lib.hid (heap_on hb HR4.out); clear hb; refine Stop.out ?_)
  unfold Stop
  have b7 := below_alloc w1 (.cells #[.int .i64 k, .int .i64 f1, .int .i64 f2] 24)
  have HBp := Lib.hid (below_any HB1.out (Nat.le_refl _) b7)
  have HR4p := Lib.hid (heap_on b7 HR4a.out)
  clear b7 HR4 HB0
  go_wp2_with ((with_reducible show wpList _ _ _ (({ dst := none, op := Op.store _ (.tmp 4) _, type := _, pos := _, after := _, guard := _ } : Oper) :: _) _ _); refine Stop.out ?_)
  unfold Stop
  generalize w1.alloc (.cells #[.int .i64 k, .int .i64 f1, .int .i64 f2] 24) = wp at HBp HR4p ⊢
  obtain ⟨z0, z1, z2, z3, z4⟩ := frozen5_row HR4p.out
  obtain ⟨r0, r1, r2, r3, r4⟩ := cells5_row HR4p.out
  go_wp2
  exact bodyPost_ret (results_cell_of2 rfl _ _ w.heap.size _ _ rfl rfl (load_clk _ _ _ _ _ _ _ _ (put5_row (.int .i64 k) (.int .i64 f1) (.int .i64 f2) (.int .i64 0) (.int .i64 0) HR4p.out))) rfl ⟨rfl, below_put5 HBp.out (Nat.le_refl _)⟩
set_option maxHeartbeats 2000000 in
theorem refnew_err (w : World) (k n : Int) (a b c er : Int) (he : ¬ er = 0) (ho : ∀ W, Calls Try.prog 29 #[.int .i64 n, .int .i64 k] W fun e w' => e = .returned (.tuple #[.agg #[.int .i64 a, .int .i64 b, .int .i64 c], .int .i64 er]) ∧ Below W.heap.size W w') :
    Calls Try.prog 9 #[.int .i64 k, .int .i64 n] w fun e w' => e = .returned (.tuple #[.agg #[.int .i64 0, .int .i64 0, .int .i64 0, .int .i64 0, .int .i64 0], .bool false]) ∧ Below w.heap.size w w' := by
  have HO := Lib.hid ho
  have he0 : (er != 0) = true := bne_t he
  clear ho he
  have HR4 := Lib.hid (heap_alloc_new w (.cells #[.int .i64 0, .int .i64 0, .int .i64 0, .int .i64 0, .int .i64 0] 31))
  have HB0 := Lib.hid (below_alloc w (.cells #[.int .i64 0, .int .i64 0, .int .i64 0, .int .i64 0, .int .i64 0] 31))
  go_enter Try.func9, Try.ntmps9
  go_wp2_with (go_at_call 29; refine (HO.out _).mono ?_; rintro e w1 ⟨rfl, hb⟩; have HB1 := Lib.hid (below_then HB0.out hb); have HR4a := Lib.hid (heap_on hb HR4.out); clear hb; refine Stop.out ?_)
  unfold Stop
  have b7 := below_alloc w1 (.cells #[.int .i64 a, .int .i64 b, .int .i64 c] 24)
  have HBp := Lib.hid (below_any HB1.out (Nat.le_refl _) b7)
  have HR4p := Lib.hid (heap_on b7 HR4a.out)
  clear b7 HR4 HB0
  go_wp2_with ((with_reducible show wpList _ _ _ (({ dst := none, op := Op.store _ (.tmp 4) _, type := _, pos := _, after := _, guard := _ } : Oper) :: _) _ _); refine Stop.out ?_)
  unfold Stop
  generalize w1.alloc (.cells #[.int .i64 a, .int .i64 b, .int .i64 c] 24) = wp at HBp HR4p ⊢
  obtain ⟨z0, z1, z2, z3, z4⟩ := frozen5_row HR4p.out
  obtain ⟨r0, r1, r2, r3, r4⟩ := cells5_row HR4p.out
  go_wp2
  exact bodyPost_ret (results_cell_of2 rfl _ _ w.heap.size _ _ rfl rfl (load_clk _ _ _ _ _ _ _ _ (put5_row (.int .i64 0) (.int .i64 0) (.int .i64 0) (.int .i64 0) (.int .i64 0) HR4p.out))) rfl ⟨rfl, below_put5 HBp.out (Nat.le_refl _)⟩
set_option maxHeartbeats 2000000 in
theorem refnew_year (w : World) (k n : Int) (hk : k = 3) (ho : ∀ W, Calls Try.prog 29 #[.int .i64 n, .int .i64 3] W fun e w' => (∃ a b c : Int, e = .returned (.tuple #[.agg #[.int .i64 a, .int .i64 b, .int .i64 c], .int .i64 0])) ∧ Below W.heap.size W w') :
    Calls Try.prog 9 #[.int .i64 k, .int .i64 n] w fun e w' => e = .returned (.tuple #[.agg #[.int .i64 0, .int .i64 0, .int .i64 0, .int .i64 0, .int .i64 0], .bool false]) ∧ Below w.heap.size w w' := by
  subst hk
  have HO := Lib.hid ho
  clear ho
  have HR4 := Lib.hid (heap_alloc_new w (.cells #[.int .i64 0, .int .i64 0, .int .i64 0, .int .i64 0, .int .i64 0] 31))
  have HB0 := Lib.hid (below_alloc w (.cells #[.int .i64 0, .int .i64 0, .int .i64 0, .int .i64 0, .int .i64 0] 31))
  go_enter Try.func9, Try.ntmps9
  go_wp2_with (go_at_call 29; refine (HO.out _).mono ?_; rintro e w1 ⟨⟨a, b, c, rfl⟩, hb⟩; have HB1 := Lib.hid (below_then HB0.out hb); have HR4a := Lib.hid (heap_on hb HR4.out); clear hb; refine Stop.out ?_)
  unfold Stop
  have b7 := below_alloc w1 (.cells #[.int .i64 a, .int .i64 b, .int .i64 c] 24)
  have HBp := Lib.hid (below_any HB1.out (Nat.le_refl _) b7)
  have HR4p := Lib.hid (heap_on b7 HR4a.out)
  clear b7 HR4 HB0
  go_wp2_with ((with_reducible show wpList _ _ _ (({ dst := none, op := Op.store _ (.tmp 4) _, type := _, pos := _, after := _, guard := _ } : Oper) :: _) _ _); refine Stop.out ?_)
  unfold Stop
  generalize w1.alloc (.cells #[.int .i64 a, .int .i64 b, .int .i64 c] 24) = wp at HBp HR4p ⊢
  obtain ⟨z0, z1, z2, z3, z4⟩ := frozen5_row HR4p.out
  obtain ⟨r0, r1, r2, r3, r4⟩ := cells5_row HR4p.out
  go_wp2
  exact bodyPost_ret (results_cell_of2 rfl _ _ w.heap.size _ _ rfl rfl (load_clk _ _ _ _ _ _ _ _ (put5_row (.int .i64 0) (.int .i64 0) (.int .i64 0) (.int .i64 0) (.int .i64 0) HR4p.out))) rfl ⟨rfl, below_put5 HBp.out (Nat.le_refl _)⟩
theorem ref_new_ok (w : World) (k n F : Int) (hk : Civ.isKind k) (ho : ∀ w, Calls Try.prog 29 #[.int .i64 n, .int .i64 k] w fun e w' => e = .returned (.tuple #[.agg #[.int .i64 k, .int .i64 (Civ.perY k F), .int .i64 (Civ.perI k F)], .int .i64 0]) ∧ Below w.heap.size w w') :
    Calls Try.prog 9 #[.int .i64 k, .int .i64 n] w fun e w' => e = .returned (.tuple #[.agg (cRow (Ck.new k F)), .bool true]) ∧ Below w.heap.size w w' := by
  have e : cRow (Ck.new k F) = #[.int .i64 k, .int .i64 (Civ.perY k F), .int .i64 (Civ.perI k F), .int .i64 0, .int .i64 0] := by
    unfold cRow Ck.new
    simp
  rw [e]
  exact refnew_yes w k n _ _ (by rcases hk with h | h <;> omega) ho
theorem ref_new_no (w : World) (k n : Int) (h : ¬ (Civ.isKind k ∧ 0 ≤ n ∧ n ≤ 2932896)) :
    Calls Try.prog 9 #[.int .i64 k, .int .i64 n] w fun e w' => e = .returned (.tuple #[.agg #[.int .i64 0, .int .i64 0, .int .i64 0, .int .i64 0, .int .i64 0], .bool false]) ∧ Below w.heap.size w w' := by
  by_cases hn : 0 ≤ n ∧ n ≤ 2932896
  · have hk : ¬ Civ.isKind k := fun x => h ⟨x, hn⟩
    by_cases h3 : k = 3
    · refine refnew_year w k n h3 (fun W => (ref_of_ok n 3 W hn.1 hn.2 (by decide)).mono ?_)
      rintro e w' ⟨⟨y, m, d, _, rfl⟩, hb⟩
      exact ⟨⟨_, _, _, rfl⟩, hb⟩
    · have hm : Civ.many k = 0 := by
        unfold Civ.many
        rw [if_neg (fun e => hk (.inl e)), if_neg (fun e => hk (.inr e)), if_neg h3]
      exact refnew_err w k n 0 0 0 2 (by decide) (fun W => ref_of_kind n k W hn.1 hn.2 hm)
  · exact refnew_err w k n 0 0 0 30 (by decide) (fun W => ref_of_no n k W (by omega))
set_option maxHeartbeats 4000000 in
theorem ref_all (w : World) (c : Ck) (ok : c.Ok) (m : Nat) (hm : c.F + m = c.B) (hm9 : m ≤ 900) :
    Calls Try.prog 25 #[.agg (cRow c)] w fun e w' => ∃ v, e = .returned v ∧ OwnPerV w' w.heap.size v (persL c.k c.F m) ∧ Below w.heap.size w w' := by
  have HN := Lib.hid (fun (j : Nat) W => by
    have := ref_next_at c ok (c.F + j) (by omega) W
    rw [show c.F + (j : Int) - c.F = (j : Int) by omega] at this
    exact this)
  have hb5 : c.B - c.F = (m : Int) := by omega
  have HMm := Lib.hid hm9
  unfold cRow
  rw [hb5]
  clear ok hm hm9 hb5
  have hR := heap_alloc_new w (.cells #[.int .i64 c.k, .int .i64 (Civ.perY c.k c.F), .int .i64 (Civ.perI c.k c.F), .int .i64 (c.A - c.F), .int .i64 m] 31)
  have HB0 := Lib.hid (below_alloc w (.cells #[.int .i64 c.k, .int .i64 (Civ.perY c.k c.F), .int .i64 (Civ.perI c.k c.F), .int .i64 (c.A - c.F), .int .i64 m] 31))
  have HR := Lib.hid hR
  clear hR
  generalize Civ.perY c.k c.F = f1 at *
  generalize Civ.perI c.k c.F = f2 at *
  generalize c.A - c.F = a at *
  go_enter Try.func25, Try.ntmps25
  go_wp2
  go_loopw [3, 4] (fun l i wr => ∃ j : Nat, j ≤ m ∧ i = .int .i64 (j : Nat) ∧ Hid (OwnPerV wr (w.heap.size + 1) l (persL c.k c.F j)) ∧ Hid (wr.heap[w.heap.size]? = some (.cells #[.int .i64 c.k, .int .i64 f1, .int .i64 f2, .int .i64 a, .int .i64 m] 31 (0, 0))) ∧ Hid (w.heap.size + 1 ≤ wr.heap.size) ∧ Hid (Below w.heap.size w wr)) (fun _ i _ => roundsLeft m i)
  case atStart => exact ⟨0, Nat.zero_le _, rfl, Lib.hid (World.ownsRow_nil _ _ _ 3), HR, Lib.hid (by simp), HB0⟩
  case round =>
    clear HR HB0
    obtain ⟨j, hj, rfl, HOl, HRr, HZr, HBr⟩ := hrel
    obtain ⟨x0, x1, x2, x3, x4⟩ := cells5_row HRr.out
    have hlow : w.heap.size < wr.heap.size := HZr.out
    by_cases hlt : j < m
    · have hlt' : (j : Int) < (m : Int) := by omega
      have hw : wrap64 ((j : Int) + 1) = (j : Int) + 1 := wrapI _ (by omega) (by have := HMm.out; omega)
      have HLn : Hid ((persL c.k c.F j).length + 1 ≤ 1000) := Lib.hid (by rw [persL_len]; have := HMm.out; omega)
      have HJ := Lib.hid (And.intro hj hlt)
      obtain ⟨k', hk'⟩ : ∃ k', k' = Civ.perK c.k (c.F + (j : Int)) := ⟨_, rfl⟩
      obtain ⟨y', hy'⟩ : ∃ y', y' = Civ.perY c.k (c.F + (j : Int)) := ⟨_, rfl⟩
      obtain ⟨i', hi'⟩ : ∃ i', i' = Civ.perI c.k (c.F + (j : Int)) := ⟨_, rfl⟩
      have HNj := HN.out j
      rw [← hk', ← hy', ← hi'] at HNj
      have HNj := Lib.hid HNj
      have HK := Lib.hid (And.intro hk' (And.intro hy' hi'))
      clear hj hlt hk' hy' hi'
      go_wp2_with (go_at_call 11; refine (HNj.out _).mono ?_; rintro e w2 ⟨er, rfl, hb⟩; have HOa := Lib.hid ((HOl.out.on hb).on (below_alloc w2 (.cells #[.int .i64 k', .int .i64 y', .int .i64 i'] 24))); have HRa := Lib.hid (heap_on (below_alloc w2 (.cells #[.int .i64 k', .int .i64 y', .int .i64 i'] 24)) (heap_on hb HRr.out)); have HZa : Hid (w.heap.size + 1 ≤ (w2.alloc (.cells #[.int .i64 k', .int .i64 y', .int .i64 i'] 24)).heap.size) := Lib.hid (by have := hb.size; have := HZr.out; simp; omega); have HBa := Lib.hid (below_any HBr.out (Nat.le_refl _) (below_then hb (below_alloc w2 (.cells #[.int .i64 k', .int .i64 y', .int .i64 i'] 24)))); have HXa := Lib.hid (heap_alloc_new w2 (.cells #[.int .i64 k', .int .i64 y', .int .i64 i'] 24)); clear hb; refine Stop.out ?_)
      unfold Stop
      clear x0 x1 x2 x3 x4
      go_wp2_with (refine wpList_append_per (o := ⟨some 23, _, _, _, _, _⟩) rfl (.tmp 20) (.tmp 22) rfl rfl (w.heap.size + 1) u3 (persL c.k c.F j) rfl (HOa.out.on (below_alloc _ _)) (some ⟨w2.heap.size + 1, 0, none⟩) 1 1 [(k', y', i')] rfl rfl (boxPerV (heap_alloc_new2 w2 _ _)) (by simp) HLn.out (by have := HZa.out; simp at this ⊢; omega) ?_; intro v' wa hv hg; refine Stop.out ?_)
      unfold Stop
      have HBw := Lib.hid (((below_any HBa.out (Nat.le_refl _) (below_alloc _ (.cells #[.int .i64 k', .int .i64 y', .int .i64 i'] 24)))).grown hg (by have := HBa.out.size; simp at this ⊢; omega) (fun k hk => by have := (own_lt HOl.out k hk).1; omega))
      have HRw := Lib.hid ((hg.block w.heap.size (by have := HZa.out; simp at this ⊢; omega) (fun q => by have := (own_lt HOl.out _ q.symm).1; omega)).trans (heap_on (below_alloc _ _) HRa.out))
      have HZw : Hid (w.heap.size + 1 ≤ wa.heap.size) := Lib.hid (by have := hg.size; have := HZa.out; simp at *; omega)
      have HVw := Lib.hid hv
      clear hv hg
      go_wp2
      go_roundw
      case rel =>
        have e := persL_succ c.k c.F j
        rw [← HK.out.1, ← HK.out.2.1, ← HK.out.2.2] at e
        exact ⟨j + 1, HJ.out.2, by go_num, Lib.hid (by rw [e]; exact HVw.out), HRw, HZw, HBw⟩
      case measure => rw [hw]; exact roundsLeft_next _ _ HJ.out.2
    · have hlt' : ¬ (j : Int) < (m : Int) := by omega
      obtain rfl : j = m := by omega
      go_wp2
      go_ret
      exact ⟨_, rfl, HOl.out.less (Nat.le_succ _), HBr.out⟩
set_option maxHeartbeats 2000000 in
theorem same_yes (w : World) (A1 A2 : Option Addr) (cp1 cp2 : Nat) (L : List PerV) (h1 : RowPerV w A1 L) (h2 : RowPerV w A2 L) (hl : L.length ≤ 1000) :
    Calls Try.prog 23 #[.slice A1 L.length cp1, .slice A2 L.length cp2] w fun e w' => e = .returned (.bool true) ∧ Below w.heap.size w w' := by
  have HR1 := Lib.hid h1
  have HR2 := Lib.hid h2
  have HL := Lib.hid hl
  clear h1 h2 hl
  go_enter Try.func23, Try.ntmps23
  go_wp2
  go_loopw [13] (fun i wr => ∃ j : Nat, j ≤ L.length ∧ i = .int .i64 (j : Nat) ∧ Hid (Below w.heap.size w wr)) (fun i _ => roundsLeft L.length i)
  case atStart => exact ⟨0, Nat.zero_le _, rfl, Lib.hid (Below.refl _ _)⟩
  case round =>
    obtain ⟨j, hj, rfl, HBr⟩ := hrel
    by_cases hlt : j < L.length
    · have hlt' : (j : Int) < (L.length : Int) := by omega
      have hw : wrap64 ((j : Int) + 1) = (j : Int) + 1 := wrapI _ (by omega) (by have := HL.out; omega)
      obtain ⟨b1, o1, rfl, hb1, x0, x1, x2⟩ := (HR1.out.on HBr.out).at_ j hlt
      obtain ⟨b2, o2, rfl, hb2, y0, y1, y2⟩ := (HR2.out.on HBr.out).at_ j hlt
      generalize L[j].1 = k at x0 y0
      generalize L[j].2.1 = y at x1 y1
      generalize L[j].2.2 = i at x2 y2
      have HJ := Lib.hid (And.intro hj hlt)
      have hj0 : 0 ≤ (j : Int) := by omega
      clear hj hlt hb1 hb2
      go_wp2_with fail
      refine wp_region_held_drew (S := fun W => W.cell? ⟨b1, (o1 + j * 3), none⟩ = some (.int .i64 k) ∧ W.cell? ⟨b1, (o1 + j * 3 + 1), none⟩ = some (.int .i64 y) ∧ W.cell? ⟨b1, (o1 + j * 3 + 2), none⟩ = some (.int .i64 i) ∧ W.cell? ⟨b2, (o2 + j * 3), none⟩ = some (.int .i64 k) ∧ W.cell? ⟨b2, (o2 + j * 3 + 1), none⟩ = some (.int .i64 y) ∧ W.cell? ⟨b2, (o2 + j * 3 + 2), none⟩ = some (.int .i64 i)) (by kernel_rfl) ⟨x0, x1, x2, y0, y1, y2⟩ ?_
      intro hHeld
      have HBd := Lib.hid HBr.out.drew
      clear x0 x1 x2 y0 y1 y2 HBr
      generalize wr.drew = wd at HBd hHeld ⊢
      (refine takeH (i := 0) (v := ?_) rfl (by kernel_rfl) (by kernel_rfl) (by kernel_rfl) (fun _ _ _ h => h) (Or.inl ⟨by rfl, ?_⟩) (by assumption) ?_; rotate_left; (focus ((intro wS hSw); (try dsimp only at hSw); obtain ⟨s0, s1, s2, s3, s4, s5⟩ := hSw; go_simp; (try with_reducible rfl); done)); (try simp only [Act.put, List.setIfInBounds_toArray, List.set_cons_zero, List.set_cons_succ]))
      (refine takeH (i := 1) (v := ?_) rfl (by kernel_rfl) (by kernel_rfl) (by kernel_rfl) (fun _ _ _ h => h) (Or.inl ⟨by rfl, ?_⟩) (by assumption) ?_; rotate_left; (focus ((intro wS hSw); (try dsimp only at hSw); obtain ⟨s0, s1, s2, s3, s4, s5⟩ := hSw; go_simp; (try with_reducible rfl); done)); (try simp only [Act.put, List.setIfInBounds_toArray, List.set_cons_zero, List.set_cons_succ]))
      (refine takeH (i := 2) (v := ?_) rfl (by kernel_rfl) (by kernel_rfl) (by kernel_rfl) (fun _ _ _ h => h) (Or.inl ⟨by rfl, ?_⟩) (by assumption) ?_; rotate_left; (focus ((intro wS hSw); (try dsimp only at hSw); obtain ⟨s0, s1, s2, s3, s4, s5⟩ := hSw; go_simp; (try with_reducible rfl); done)); (try simp only [Act.put, List.setIfInBounds_toArray, List.set_cons_zero, List.set_cons_succ]))
      (refine takeH (i := 3) (v := ?_) rfl (by kernel_rfl) (by kernel_rfl) (by kernel_rfl) (fun _ _ _ h => h) (Or.inl ⟨by rfl, ?_⟩) (by assumption) ?_; rotate_left; (focus ((intro wS hSw); (try dsimp only at hSw); obtain ⟨s0, s1, s2, s3, s4, s5⟩ := hSw; go_simp; (try with_reducible rfl); done)); (try simp only [Act.put, List.setIfInBounds_toArray, List.set_cons_zero, List.set_cons_succ]))
      (refine takeH (i := 4) (v := ?_) rfl (by kernel_rfl) (by kernel_rfl) (by kernel_rfl) (fun _ _ _ h => h) (Or.inl ⟨by rfl, ?_⟩) (by assumption) ?_; rotate_left; (focus ((intro wS hSw); (try dsimp only at hSw); obtain ⟨s0, s1, s2, s3, s4, s5⟩ := hSw; go_simp; (try with_reducible rfl); done)); (try simp only [Act.put, List.setIfInBounds_toArray, List.set_cons_zero, List.set_cons_succ]))
      (refine takeH (i := 5) (v := ?_) rfl (by kernel_rfl) (by kernel_rfl) (by kernel_rfl) (fun _ _ _ h => h) (Or.inl ⟨by rfl, ?_⟩) (by assumption) ?_; rotate_left; (focus ((intro wS hSw); (try dsimp only at hSw); obtain ⟨s0, s1, s2, s3, s4, s5⟩ := hSw; go_simp; (try with_reducible rfl); done)); (try simp only [Act.put, List.setIfInBounds_toArray, List.set_cons_zero, List.set_cons_succ]))
      (refine takeH (i := 6) (v := ?_) rfl (by kernel_rfl) (by kernel_rfl) (by kernel_rfl) (fun _ _ _ h => h) (Or.inl ⟨by rfl, ?_⟩) (by assumption) ?_; rotate_left; (focus ((intro wS hSw); (try dsimp only at hSw); obtain ⟨s0, s1, s2, s3, s4, s5⟩ := hSw; go_simp; (try with_reducible rfl); done)); (try simp only [Act.put, List.setIfInBounds_toArray, List.set_cons_zero, List.set_cons_succ]))
      (refine takeH (i := 7) (v := ?_) rfl (by kernel_rfl) (by kernel_rfl) (by kernel_rfl) (fun _ _ _ h => h) (Or.inl ⟨by rfl, ?_⟩) (by assumption) ?_; rotate_left; (focus ((intro wS hSw); (try dsimp only at hSw); obtain ⟨s0, s1, s2, s3, s4, s5⟩ := hSw; go_simp; (try with_reducible rfl); done)); (try simp only [Act.put, List.setIfInBounds_toArray, List.set_cons_zero, List.set_cons_succ]))
      (refine takeH (i := 8) (v := ?_) rfl (by kernel_rfl) (by kernel_rfl) (by kernel_rfl) (fun _ _ _ h => h) (Or.inl ⟨by rfl, ?_⟩) (by assumption) ?_; rotate_left; (focus ((intro wS hSw); (try dsimp only at hSw); obtain ⟨s0, s1, s2, s3, s4, s5⟩ := hSw; go_simp; (try with_reducible rfl); done)); (try simp only [Act.put, List.setIfInBounds_toArray, List.set_cons_zero, List.set_cons_succ]))
      refine wpAnyH_done (by kernel_rfl) ?_ _
      clear hHeld
      go_wp2
      go_roundw
      case rel => exact ⟨j + 1, HJ.out.2, by go_num, HBd⟩
      case measure => rw [hw]; exact roundsLeft_next _ _ HJ.out.2
    · have hge : ¬ (j : Int) < (L.length : Int) := by omega
      go_wp2
      go_ret
      exact ⟨rfl, HBr.out⟩
end Go.Proofs.Ytdacpiegfobhbaa
