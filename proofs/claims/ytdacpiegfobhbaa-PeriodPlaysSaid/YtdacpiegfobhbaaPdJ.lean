/- The document's clock: a period's state, the first one that is open. -/
import Derived.Test.YtdacpiegfobhbaaPdM
namespace Go.Proofs.Ytdacpiegfobhbaa
open Go.RowKit
set_option maxRecDepth 100000
set_option linter.unusedSimpArgs false
set_option linter.unusedVariables false

/-- the document's clock, as a value -/
def cRow (c : Ck) : Array Value := #[.int .i64 c.k, .int .i64 (Civ.perY c.k c.F), .int .i64 (Civ.perI c.k c.F), .int .i64 (c.A - c.F), .int .i64 (c.B - c.F)]
/-- a period's place from the first one on -/
def Ck.plN (c : Ck) (k y i : Int) : Int := if Civ.good k y i = true ∧ k = c.k then Civ.place k y i - c.F else -1
theorem cells5_row {w : World} {g : Nat} {a b c d e : Value} {t : TypeId} (q : w.heap[g]? = some (.cells #[a, b, c, d, e] t (0, 0))) : w.cell? ⟨g, 0, none⟩ = some a ∧ w.cell? ⟨g, 1, none⟩ = some b ∧ w.cell? ⟨g, 2, none⟩ = some c ∧ w.cell? ⟨g, 3, none⟩ = some d ∧ w.cell? ⟨g, 4, none⟩ = some e := ⟨cell_of_row _ _ 0 _ _ _ q, cell_of_row _ _ 1 _ _ _ q, cell_of_row _ _ 2 _ _ _ q, cell_of_row _ _ 3 _ _ _ q, cell_of_row _ _ 4 _ _ _ q⟩
theorem place_bad (w : World) (c0 c1 c2 c3 c4 k y i : Int) (hg : Civ.good k y i = false) :
    Calls Try.prog 35 #[.agg #[.int .i64 c0, .int .i64 c1, .int .i64 c2, .int .i64 c3, .int .i64 c4], .agg #[.int .i64 k, .int .i64 y, .int .i64 i]] w fun e w' => e = .returned (.int .i64 (-1)) ∧ Below w.heap.size w w' := by
  have HG := Lib.hid (fun W => ref_good_at hg W)
  clear hg
  go_enter Try.func35, Try.ntmps35
  go_wp2_with (go_at_call 30; refine (HG.out _).mono ?_; rintro e w1 ⟨rfl, hb⟩; have HB1 := Lib.hid (below_then (below_alloc _ _) (below_then (below_alloc _ _) hb)); clear hb)
  go_ret
  exact ⟨rfl, HB1.out⟩
theorem place_kind (w : World) (c0 c1 c2 c3 c4 k y i : Int) (hg : Civ.good k y i = true) (hne : ¬ k = c0) :
    Calls Try.prog 35 #[.agg #[.int .i64 c0, .int .i64 c1, .int .i64 c2, .int .i64 c3, .int .i64 c4], .agg #[.int .i64 k, .int .i64 y, .int .i64 i]] w fun e w' => e = .returned (.int .i64 (-1)) ∧ Below w.heap.size w w' := by
  have HG := Lib.hid (fun W => ref_good_at hg W)
  have hk : (k != c0) = true := bne_t hne
  have b1 := below_alloc (w.alloc (.cells #[.int .i64 c0, .int .i64 c1, .int .i64 c2, .int .i64 c3, .int .i64 c4] 31)) (.cells #[.int .i64 k, .int .i64 y, .int .i64 i] 24)
  have HR2 := Lib.hid (heap_on b1 (heap_alloc_new w (.cells #[.int .i64 c0, .int .i64 c1, .int .i64 c2, .int .i64 c3, .int .i64 c4] 31)))
  have HR3 := Lib.hid (heap_alloc_new2 w (.cells #[.int .i64 c0, .int .i64 c1, .int .i64 c2, .int .i64 c3, .int .i64 c4] 31) (.cells #[.int .i64 k, .int .i64 y, .int .i64 i] 24))
  have HB0 := Lib.hid (below_then (below_alloc _ _) b1)
  clear hg hne b1
  go_enter Try.func35, Try.ntmps35
  go_wp2_with (go_at_call 30; refine (HG.out _).mono ?_; rintro e w1 ⟨rfl, hb⟩; have HB1 := Lib.hid (below_then HB0.out hb); have HR2a := Lib.hid (heap_on hb HR2.out); have HR3a := Lib.hid (heap_on hb HR3.out); clear hb; refine Stop.out ?_)
  unfold Stop
  obtain ⟨x0, x1, x2, x3, x4⟩ := cells5_row HR2a.out
  obtain ⟨y0, y1, y2⟩ := cells3_row HR3a.out
  go_wp2
  go_ret
  exact ⟨rfl, HB1.out⟩
set_option maxHeartbeats 2000000 in
theorem place_yes (w : World) (k c1 c2 c3 c4 y i n1 n2 : Int) (hg : Civ.good k y i = true) (hg2 : Civ.good k c1 c2 = true) (hn1 : Civ.place k y i = n1) (hn2 : Civ.place k c1 c2 = n2) (hw : IntKind.i64.wrap (n1 - n2) = n1 - n2) :
    Calls Try.prog 35 #[.agg #[.int .i64 k, .int .i64 c1, .int .i64 c2, .int .i64 c3, .int .i64 c4], .agg #[.int .i64 k, .int .i64 y, .int .i64 i]] w fun e w' => e = .returned (.int .i64 (n1 - n2)) ∧ Below w.heap.size w w' := by
  have HG := Lib.hid (fun W => ref_good_at hg W)
  have HN1 : Hid (∀ W, Calls Try.prog 32 #[.agg #[.int .i64 k, .int .i64 y, .int .i64 i]] W fun e w' => e = .returned (.int .i64 n1) ∧ Below W.heap.size W w') := Lib.hid (fun W => by rw [← hn1]; exact ref_number k y i W hg)
  have HN2 : Hid (∀ W, Calls Try.prog 32 #[.agg #[.int .i64 k, .int .i64 c1, .int .i64 c2]] W fun e w' => e = .returned (.int .i64 n2) ∧ Below W.heap.size W w') := Lib.hid (fun W => by rw [← hn2]; exact ref_number k c1 c2 W hg2)
  have b1 := below_alloc (w.alloc (.cells #[.int .i64 k, .int .i64 c1, .int .i64 c2, .int .i64 c3, .int .i64 c4] 31)) (.cells #[.int .i64 k, .int .i64 y, .int .i64 i] 24)
  have HR2 := Lib.hid (heap_on b1 (heap_alloc_new w (.cells #[.int .i64 k, .int .i64 c1, .int .i64 c2, .int .i64 c3, .int .i64 c4] 31)))
  have HR3 := Lib.hid (heap_alloc_new2 w (.cells #[.int .i64 k, .int .i64 c1, .int .i64 c2, .int .i64 c3, .int .i64 c4] 31) (.cells #[.int .i64 k, .int .i64 y, .int .i64 i] 24))
  have HB0 := Lib.hid (below_then (below_alloc _ _) b1)
  have HW := Lib.hid hw
  clear hg hg2 hn1 hn2 b1 hw
  go_enter Try.func35, Try.ntmps35
  go_wp2_with (go_at_call 30; refine (HG.out _).mono ?_; rintro e w1 ⟨rfl, hb⟩; have HB1 := Lib.hid (below_then HB0.out hb); have HR2a := Lib.hid (heap_on hb HR2.out); have HR3a := Lib.hid (heap_on hb HR3.out); clear hb; refine Stop.out ?_)
  unfold Stop
  obtain ⟨x0, x1, x2, x3, x4⟩ := cells5_row HR2a.out
  obtain ⟨y0, y1, y2⟩ := cells3_row HR3a.out
  go_wp2_with fail
  refine wp_region_held_drew (S := fun W => W.cell? ⟨w.heap.size, 0, none⟩ = some (.int .i64 k) ∧ W.cell? ⟨w.heap.size, 1, none⟩ = some (.int .i64 c1) ∧ W.cell? ⟨w.heap.size, 2, none⟩ = some (.int .i64 c2) ∧ W.cell? ⟨(w.heap.size + 1), 0, none⟩ = some (.int .i64 k) ∧ W.cell? ⟨(w.heap.size + 1), 1, none⟩ = some (.int .i64 y) ∧ W.cell? ⟨(w.heap.size + 1), 2, none⟩ = some (.int .i64 i)) (by kernel_rfl) ⟨x0, x1, x2, y0, y1, y2⟩ ?_
  intro hHeld
  have HBd := Lib.hid HB1.out.drew
  clear x0 x1 x2 x3 x4 y0 y1 y2 HR2 HR3 HR2a HR3a HB1
  generalize w1.drew = wd at HBd hHeld ⊢
  (refine takeH (i := 0) (v := ?_) rfl (by kernel_rfl) (by kernel_rfl) (by kernel_rfl) (fun _ _ _ h => h) (Or.inl ⟨by rfl, ?_⟩) (by assumption) ?_; rotate_left; (focus ((intro wS hSw); (try dsimp only at hSw); obtain ⟨s0, s1, s2, s3, s4, s5⟩ := hSw; go_simp; (try with_reducible rfl); done)); (try simp only [Act.put, List.setIfInBounds_toArray, List.set_cons_zero, List.set_cons_succ]))
  (refine takeH (i := 2) (v := ?_) rfl (by kernel_rfl) (by kernel_rfl) (by kernel_rfl) (fun _ _ _ h => h) (Or.inl ⟨by rfl, ?_⟩) (by assumption) ?_; rotate_left; (focus ((intro wS hSw); (try dsimp only at hSw); obtain ⟨s0, s1, s2, s3, s4, s5⟩ := hSw; go_simp; (try with_reducible rfl); done)); (try simp only [Act.put, List.setIfInBounds_toArray, List.set_cons_zero, List.set_cons_succ]))
  (refine takeH (i := 3) (v := ?_) rfl (by kernel_rfl) (by kernel_rfl) (by kernel_rfl) (fun _ _ _ h => h) (Or.inl ⟨by rfl, ?_⟩) (by assumption) ?_; rotate_left; (focus ((intro wS hSw); (try dsimp only at hSw); obtain ⟨s0, s1, s2, s3, s4, s5⟩ := hSw; go_simp; (try with_reducible rfl); done)); (try simp only [Act.put, List.setIfInBounds_toArray, List.set_cons_zero, List.set_cons_succ]))
  refine aloneH (i := 1) rfl (by kernel_rfl) (fun K hK => ?_)
  rw [if_pos (by rfl)]
  go_simp; ((refine (HN1.out _).mono ?_); (rintro e w1 ⟨rfl, hb⟩); have HB1 := Lib.hid hb; clear hb; (try go_simp))
  refine hK.out _ _ (⟨cell_on HB1.out hHeld.1, cell_on HB1.out hHeld.2.1, cell_on HB1.out hHeld.2.2.1, cell_on HB1.out hHeld.2.2.2.1, cell_on HB1.out hHeld.2.2.2.2.1, cell_on HB1.out hHeld.2.2.2.2.2⟩) (fun hNew => ?_)
  clear hK K hHeld; (have hHeld := hNew); clear hNew; (try simp only [Act.put, List.setIfInBounds_toArray, List.set_cons_zero, List.set_cons_succ])
  refine aloneH (i := 4) rfl (by kernel_rfl) (fun K hK => ?_)
  rw [if_pos (by rfl)]
  go_simp; ((refine (HN2.out _).mono ?_); (rintro e w2 ⟨rfl, hb⟩); have HB2 := Lib.hid hb; clear hb; (try go_simp))
  refine hK.out _ _ (⟨cell_on HB2.out hHeld.1, cell_on HB2.out hHeld.2.1, cell_on HB2.out hHeld.2.2.1, cell_on HB2.out hHeld.2.2.2.1, cell_on HB2.out hHeld.2.2.2.2.1, cell_on HB2.out hHeld.2.2.2.2.2⟩) (fun hNew => ?_)
  clear hK K hHeld; (have hHeld := hNew); clear hNew; (try simp only [Act.put, List.setIfInBounds_toArray, List.set_cons_zero, List.set_cons_succ])
  (refine takeH (i := 5) (v := ?_) rfl (by kernel_rfl) (by kernel_rfl) (by kernel_rfl) (fun _ _ _ h => h) (Or.inl ⟨by rfl, ?_⟩) (by assumption) ?_; rotate_left; (focus ((intro wS hSw); (try dsimp only at hSw); obtain ⟨s0, s1, s2, s3, s4, s5⟩ := hSw; go_simp; (try with_reducible rfl); done)); (try simp only [Act.put, List.setIfInBounds_toArray, List.set_cons_zero, List.set_cons_succ]))
  (refine takeH (i := 6) (v := ?_) rfl (by kernel_rfl) (by kernel_rfl) (by kernel_rfl) (fun _ _ _ h => h) (Or.inl ⟨by rfl, ?_⟩) (by assumption) ?_; rotate_left; (focus ((intro wS hSw); (try dsimp only at hSw); obtain ⟨s0, s1, s2, s3, s4, s5⟩ := hSw; go_simp; (try with_reducible rfl); done)); (try simp only [Act.put, List.setIfInBounds_toArray, List.set_cons_zero, List.set_cons_succ]))
  refine wpAnyH_done (by kernel_rfl) ?_ _
  have HB9 := Lib.hid (below_any HBd.out (Nat.le_refl _) (below_then HB1.out HB2.out))
  clear hHeld HBd
  go_wp2
  go_ret
  exact ⟨ret_int HW.out, HB9.out⟩
theorem ref_place (w : World) (c : Ck) (ok : c.Ok) (k y i : Int) :
    Calls Try.prog 35 #[.agg (cRow c), .agg #[.int .i64 k, .int .i64 y, .int .i64 i]] w fun e w' => e = .returned (.int .i64 (c.plN k y i)) ∧ Below w.heap.size w w' := by
  unfold Ck.plN
  cases hg : Civ.good k y i with
  | false =>
    rw [if_neg (fun x => by cases x.1)]
    exact place_bad w _ _ _ _ _ k y i hg
  | true =>
    by_cases hk : k = c.k
    · subst hk
      rw [if_pos ⟨rfl, rfl⟩]
      have hp := Civ.per_place hg
      have hm := ok.kind.many
      have := ok.f0
      have := ok.fa
      exact place_yes w c.k _ _ _ _ y i _ _ hg ok.first.1 rfl ok.first.2 (IntWalk.i64_in _ (by omega))
    · rw [if_neg (fun x => hk x.2)]
      exact place_kind w _ _ _ _ _ k y i hg hk
theorem Ck.plN_has {c : Ck} {k y i : Int} (h : c.Has k y i) : c.plN k y i = Civ.place k y i - c.F ∧ 0 ≤ c.plN k y i := by
  obtain ⟨hg, rfl, hF⟩ := h
  unfold Ck.plN
  rw [if_pos ⟨hg, rfl⟩]
  omega
theorem Ck.plN_no {c : Ck} {k y i : Int} (h : ¬ c.Has k y i) : c.plN k y i < 0 := by
  unfold Ck.plN
  by_cases q : Civ.good k y i = true ∧ k = c.k
  · rw [if_pos q]
    have : ¬ c.F ≤ Civ.place k y i := fun x => h ⟨q.1, q.2, x⟩
    omega
  · rw [if_neg q]; omega
/-- what State tells of a place -/
def stOf (n a b : Int) : Int := if n < 0 then 0 else if n < b then 3 else if n < a then 2 else 1
theorem Ck.st_of (c : Ck) (k y i : Int) : c.st k y i = stOf (c.plN k y i) (c.A - c.F) (c.B - c.F) := by
  unfold Ck.st stOf
  by_cases h : c.Has k y i
  · obtain ⟨e, h0⟩ := Ck.plN_has h
    rw [if_pos h, if_neg (show ¬ c.plN k y i < 0 by omega), e]
    by_cases q : Civ.place k y i < c.B
    · rw [if_pos q, if_pos (show Civ.place k y i - c.F < c.B - c.F by omega)]
    · rw [if_neg q, if_neg (show ¬ Civ.place k y i - c.F < c.B - c.F by omega)]
      by_cases q2 : Civ.place k y i < c.A
      · rw [if_pos q2, if_pos (show Civ.place k y i - c.F < c.A - c.F by omega)]
      · rw [if_neg q2, if_neg (show ¬ Civ.place k y i - c.F < c.A - c.F by omega)]
  · rw [if_neg h, if_pos (Ck.plN_no h)]
theorem state_of (w : World) (c0 c1 c2 a b k y i n : Int) (hp : ∀ W, Calls Try.prog 35 #[.agg #[.int .i64 c0, .int .i64 c1, .int .i64 c2, .int .i64 a, .int .i64 b], .agg #[.int .i64 k, .int .i64 y, .int .i64 i]] W fun e w' => e = .returned (.int .i64 n) ∧ Below W.heap.size W w') :
    Calls Try.prog 20 #[.agg #[.int .i64 c0, .int .i64 c1, .int .i64 c2, .int .i64 a, .int .i64 b], .agg #[.int .i64 k, .int .i64 y, .int .i64 i]] w fun e w' => e = .returned (.int .i64 (stOf n a b)) ∧ Below w.heap.size w w' := by
  have HP := Lib.hid hp
  have b1 := below_alloc (w.alloc (.cells #[.int .i64 c0, .int .i64 c1, .int .i64 c2, .int .i64 a, .int .i64 b] 31)) (.cells #[.int .i64 k, .int .i64 y, .int .i64 i] 24)
  have HR2 := Lib.hid (heap_on b1 (heap_alloc_new w (.cells #[.int .i64 c0, .int .i64 c1, .int .i64 c2, .int .i64 a, .int .i64 b] 31)))
  have HB0 := Lib.hid (below_then (below_alloc _ _) b1)
  clear hp b1
  obtain ⟨v, hv⟩ : ∃ v, v = stOf n a b := ⟨_, rfl⟩
  rw [← hv]
  have HV := Lib.hid hv
  clear hv
  go_enter Try.func20, Try.ntmps20
  go_wp2_with (go_at_call 35; refine (HP.out _).mono ?_; rintro e w1 ⟨rfl, hb⟩; have HB1 := Lib.hid (below_then HB0.out hb); have HR2a := Lib.hid (heap_on hb HR2.out); clear hb; refine Stop.out ?_)
  unfold Stop
  obtain ⟨x0, x1, x2, x3, x4⟩ := cells5_row HR2a.out
  by_cases h0 : n < 0
  · go_wp2
    go_ret
    exact ⟨ret_int (by rw [HV.out]; unfold stOf; rw [if_pos (show n < 0 by omega)]), HB1.out⟩
  · by_cases h1 : n < b
    · go_wp2
      go_ret
      exact ⟨ret_int (by rw [HV.out]; unfold stOf; rw [if_neg (show ¬ n < 0 by omega), if_pos (show n < b by omega)]), HB1.out⟩
    · by_cases h2 : n < a
      · go_wp2
        go_ret
        exact ⟨ret_int (by rw [HV.out]; unfold stOf; rw [if_neg (show ¬ n < 0 by omega), if_neg (show ¬ n < b by omega), if_pos (show n < a by omega)]), HB1.out⟩
      · go_wp2
        go_ret
        exact ⟨ret_int (by rw [HV.out]; unfold stOf; rw [if_neg (show ¬ n < 0 by omega), if_neg (show ¬ n < b by omega), if_neg (show ¬ n < a by omega)]), HB1.out⟩
theorem ref_state (w : World) (c : Ck) (ok : c.Ok) (k y i : Int) :
    Calls Try.prog 20 #[.agg (cRow c), .agg #[.int .i64 k, .int .i64 y, .int .i64 i]] w fun e w' => e = .returned (.int .i64 (c.st k y i)) ∧ Below w.heap.size w w' := by
  rw [Ck.st_of]
  exact state_of w _ _ _ _ _ k y i _ (fun W => ref_place W c ok k y i)
theorem next_at {k F n : Int} (hk : Civ.isKind k) (h0 : 0 ≤ F) (h : F < 8030 * Civ.many k) (hn : F ≤ n) : nextK k (Civ.perY k F) (Civ.perI k F) (n - F) = Civ.perK k n ∧ nextY k (Civ.perY k F) (Civ.perI k F) (n - F) = Civ.perY k n ∧ nextI k (Civ.perY k F) (Civ.perI k F) (n - F) = Civ.perI k n := by
  obtain ⟨g1, g2, g3⟩ := Civ.per_good hk h0 h
  unfold nextK nextY nextI
  rw [g2]
  by_cases q : n < 8030 * Civ.many k
  · have h2 : Civ.good k (Civ.perY k F) (Civ.perI k F) = true ∧ - F ≤ n - F ∧ n - F < 8030 * Civ.many k - F := ⟨g1, by omega, by omega⟩
    rw [if_pos h2, if_pos h2, if_pos h2, show F + (n - F) = n by omega]
    unfold Civ.perK Civ.perY Civ.perI
    rw [if_pos q, if_pos q, if_pos q]
    exact ⟨rfl, rfl, rfl⟩
  · have h2 : ¬ (Civ.good k (Civ.perY k F) (Civ.perI k F) = true ∧ - F ≤ n - F ∧ n - F < 8030 * Civ.many k - F) := fun x => by omega
    rw [if_neg h2, if_neg h2, if_neg h2]
    unfold Civ.perK Civ.perY Civ.perI
    rw [if_neg q, if_neg q, if_neg q]
    exact ⟨rfl, rfl, rfl⟩
theorem ref_next_at (c : Ck) (ok : c.Ok) (n : Int) (hn : c.F ≤ n) (w : World) :
    Calls Try.prog 11 #[.agg #[.int .i64 c.k, .int .i64 (Civ.perY c.k c.F), .int .i64 (Civ.perI c.k c.F)], .int .i64 (n - c.F)] w fun e w' => ∃ er, e = .returned (.tuple #[.agg #[.int .i64 (Civ.perK c.k n), .int .i64 (Civ.perY c.k n), .int .i64 (Civ.perI c.k n)], .int .i64 er]) ∧ Below w.heap.size w w' := by
  have := ref_next c.k (Civ.perY c.k c.F) (Civ.perI c.k c.F) (n - c.F) w
  obtain ⟨e1, e2, e3⟩ := next_at ok.kind ok.f0 ok.fa hn
  rw [e1, e2, e3] at this
  exact this.mono fun e w' h => ⟨_, h⟩
theorem ref_first27 (w : World) (c : Ck) (ok : c.Ok) :
    Calls Try.prog 10 #[.agg (cRow c)] w fun e w' => e = .returned (.agg #[.int .i64 (Civ.perK c.k c.A), .int .i64 (Civ.perY c.k c.A), .int .i64 (Civ.perI c.k c.A)]) ∧ Below w.heap.size w w' := by
  have HN := Lib.hid (fun W => ref_next_at c ok c.A (Int.le_trans ok.fb ok.ba) W)
  unfold cRow
  clear ok
  generalize Civ.perK c.k c.A = k' at *
  generalize Civ.perY c.k c.A = y' at *
  generalize Civ.perI c.k c.A = i' at *
  generalize Civ.perY c.k c.F = f1 at *
  generalize Civ.perI c.k c.F = f2 at *
  generalize c.A - c.F = a at *
  generalize c.B - c.F = b at *
  generalize c.k = k at *
  have b1 := below_alloc (w.alloc (.cells #[.int .i64 k, .int .i64 f1, .int .i64 f2, .int .i64 a, .int .i64 b] 31)) (.cells #[.int .i64 0, .int .i64 0, .int .i64 0] 24)
  have HR2 := Lib.hid (heap_alloc_new2 w (.cells #[.int .i64 k, .int .i64 f1, .int .i64 f2, .int .i64 a, .int .i64 b] 31) (.cells #[.int .i64 0, .int .i64 0, .int .i64 0] 24))
  have HB0 := Lib.hid (below_then (below_alloc _ _) b1)
  clear b1
  go_enter Try.func10, Try.ntmps10
  go_wp2_with (go_at_call 11; refine (HN.out _).mono ?_; rintro e w1 ⟨er, rfl, hb⟩; have HB1 := Lib.hid (below_then HB0.out hb); have HR2a := Lib.hid (heap_on hb HR2.out); have hz : w.heap.size + 1 < w1.heap.size := (by have := hb.size; (try simp at this); omega); clear hb; refine Stop.out ?_)
  unfold Stop
  obtain ⟨x0, x1, x2⟩ := cells3_row HR2a.out
  obtain ⟨z0, z1, z2⟩ := frozen3_row HR2a.out
  go_wp2
  have h4 := heap_on (below_alloc _ (Obj.cells #[Value.int IntKind.i64 k', Value.int IntKind.i64 y', Value.int IntKind.i64 i'] 24)) (put3_row (.int .i64 k') (.int .i64 y') (.int .i64 i') HR2a.out)
  exact bodyPost_ret (results_cell_of rfl _ _ (w.heap.size + 1) _ rfl (load_per _ _ _ _ _ _ h4)) rfl ⟨rfl, below_any ((((HB1.out.setCell (by simp) _).setCell (by simp) _).setCell (by simp) _)) (by simp) (below_alloc _ _)⟩
end Go.Proofs.Ytdacpiegfobhbaa
