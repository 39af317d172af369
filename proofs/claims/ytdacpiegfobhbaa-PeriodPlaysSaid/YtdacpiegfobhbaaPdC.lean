/- A clock of the program's: a step is taken. -/
import Derived.Test.YtdacpiegfobhbaaPdB
import Derived.Deep.MidRow
namespace Go.Proofs.Ytdacpiegfobhbaa
open Go.RowKit
set_option maxRecDepth 100000
set_option linter.unusedSimpArgs false
set_option linter.unusedVariables false

/-- nothing but that block was turned, and what is new -/
structure ChgP (w w' : World) (P : Nat) : Prop where
  os : w'.os = w.os
  tape : w'.tape = w.tape
  output : w'.output = w.output
  size : w.heap.size ≤ w'.heap.size
  block : ∀ k, k < w.heap.size → k ≠ P → w'.heap[k]? = w.heap[k]?
theorem ChgP.refl (w : World) (P : Nat) : ChgP w w P := ⟨rfl, rfl, rfl, Nat.le_refl _, fun _ _ _ => rfl⟩
theorem ChgP.trans {w w' w'' : World} {P : Nat} (h : ChgP w w' P) (k : ChgP w' w'' P) : ChgP w w'' P :=
  ⟨k.os.trans h.os, k.tape.trans h.tape, k.output.trans h.output, Nat.le_trans h.size k.size, fun i hi h1 => (k.block i (Nat.lt_of_lt_of_le hi h.size) h1).trans (h.block i hi h1)⟩
theorem ChgP.of_below {w w' : World} {P : Nat} (h : Below w.heap.size w w') : ChgP w w' P := ⟨h.os, h.tape, h.output, h.size, fun k hk _ => h.block k hk⟩
theorem ChgP.below {w w' : World} {P : Nat} (h : ChgP w w' P) {base : Nat} (h0 : base ≤ w.heap.size) (h1 : base ≤ P) : Below base w w' :=
  ⟨h.os, h.tape, h.output, h.size, fun k hk => h.block k (by omega) (by omega)⟩
theorem heap_setCells3 (w : World) (g o : Nat) (cs : Array Value) (t : TypeId) (a b c : Value) (h : w.heap[g]? = some (.cells cs t (0, 0))) :
    (w.setCells g o [a, b, c]).heap[g]? = some (.cells (((cs.setIfInBounds o a).setIfInBounds (o + 1) b).setIfInBounds (o + 2) c) t (0, 0)) := by
  have h1 := heap_setCell_same w g o cs t a h
  have h2 := heap_setCell_same _ g (o + 1) _ t b h1
  exact heap_setCell_same _ g (o + 2) _ t c h2
theorem chg_setCells3 (w : World) (g o : Nat) (a b c : Value) : ChgP w (w.setCells g o [a, b, c]) g := by
  have one : ∀ (W : World) (p : Addr) (v : Value), p.block = g → ChgP W (W.setCell p v) g := fun W p v hp =>
    ⟨rfl, rfl, rfl, by simp, fun k _ hk => heap_setCell_other W p k v (by rw [hp]; exact hk)⟩
  exact ((one w ⟨g, o, none⟩ a rfl).trans (one _ ⟨g, o + 1, none⟩ b rfl)).trans (one _ ⟨g, o + 2, none⟩ c rfl)
theorem cell_setCells_far {w : World} {b o g q : Nat} {v : Value} {vs : List Value} (h : w.cell? ⟨b, o, none⟩ = some v) (hne : b ≠ g) : (w.setCells g q vs).cell? ⟨b, o, none⟩ = some v := by
  rw [World.cell?_setCells_out g vs q w ⟨b, o, none⟩ (fun hb _ => absurd hb hne)]
  exact h
theorem CkAt.there {w : World} {P : Nat} {c : Ck} (h : CkAt w P c) (o : Nat) (ho : o + 3 ≤ 9) : w.there P o 3 := fun j hj => by
  refine ⟨?_, frozen_of_row _ _ _ _ _ h⟩
  rw [cell_of_row _ _ _ _ _ _ h, Array.getElem?_eq_getElem (show o + j < (ckRow c).size by show o + j < 9; omega)]
  rfl
theorem load_per (w : World) (g : Nat) (a b c : Value) (t : TypeId) (h : w.heap[g]? = some (.cells #[a, b, c] t (0, 0))) : (loadVar 24 ⟨g, 0, none⟩).run Try.prog w = .ok (.agg #[a, b, c]) w :=
  run_loadVar_row w g t 24 #[a, b, c] (0, 0) _ h Try.underlying24 rfl (by kernel_rfl)
theorem results_cell_of {fn : Func} {p : Tmp} {ty : TypeId} (h : fn.results = #[.cell p ty]) (tmps : Array Value) (W : World) (g : Nat) (v : Value) (hp : tmps.getD p undef = .pointer (some ⟨g, 0, none⟩)) (hr : (loadVar ty ⟨g, 0, none⟩).run Try.prog W = .ok v W) :
    (results fn tmps).run Try.prog W = .ok v W := by
  have hp' : tmps[p]?.getD undef = .pointer (some ⟨g, 0, none⟩) := by simpa [Array.getD_eq_getD_getElem?] using hp
  have ha : (asAddr (.pointer (some ⟨g, 0, none⟩))).run Try.prog W = .ok ⟨g, 0, none⟩ W := by simp [asAddr, go_sem]
  simp only [results, h]
  simp [Sem.run_bind, Result.andThen, hp', ha, hr]
theorem results_cells3 {fn : Func} {p u q : Tmp} {ty ty2 : TypeId} (h : fn.results = #[.cell p ty, .cell q ty2, .tmp u]) (tmps : Array Value) (W : World) (g g2 : Nat) (x y z : Value) (hp : tmps.getD p undef = .pointer (some ⟨g, 0, none⟩)) (hq : tmps.getD q undef = .pointer (some ⟨g2, 0, none⟩)) (hy : tmps.getD u undef = z) (hr : (loadVar ty ⟨g, 0, none⟩).run Try.prog W = .ok x W) (hr2 : (loadVar ty2 ⟨g2, 0, none⟩).run Try.prog W = .ok y W) :
    (results fn tmps).run Try.prog W = .ok (.tuple #[x, y, z]) W := by
  have hp' : tmps[p]?.getD undef = .pointer (some ⟨g, 0, none⟩) := by simpa [Array.getD_eq_getD_getElem?] using hp
  have hy' : tmps[u]?.getD undef = z := by simpa [Array.getD_eq_getD_getElem?] using hy
  have hq' : tmps[q]?.getD undef = .pointer (some ⟨g2, 0, none⟩) := by simpa [Array.getD_eq_getD_getElem?] using hq
  have ha : (asAddr (tmps[p]?.getD undef)).run Try.prog W = .ok ⟨g, 0, none⟩ W := by rw [hp']; rfl
  have hb : (asAddr (tmps[q]?.getD undef)).run Try.prog W = .ok ⟨g2, 0, none⟩ W := by rw [hq']; rfl
  simp [results, h, Sem.run_bind, ha, hb, hr, hr2, hy']
theorem put3_row {w : World} {g : Nat} {t : TypeId} {a b c : Value} (a' b' c' : Value) (h : w.heap[g]? = some (.cells #[a, b, c] t (0, 0))) : (((w.setCell ⟨g, 0, none⟩ a').setCell ⟨g, 1, none⟩ b').setCell ⟨g, 2, none⟩ c').heap[g]? = some (.cells #[a', b', c'] t (0, 0)) :=
  heap_setCells3 w g 0 _ t a' b' c' h
/-- the step is taken -/
def Ck.step (c : Ck) (s : Nat) : Ck := if s = 0 then { c with A := c.A + 1 } else { c with B := c.B + 1 }
theorem next_per {k y i : Int} (hg : Civ.good k y i = true) : nextK k y i 1 = Civ.perK k (Civ.place k y i + 1) ∧ nextY k y i 1 = Civ.perY k (Civ.place k y i + 1) ∧ nextI k y i 1 = Civ.perI k (Civ.place k y i + 1) := by
  have hp := Civ.per_place hg
  unfold nextK nextY nextI Civ.perK Civ.perY Civ.perI
  by_cases h : Civ.place k y i + 1 < 8030 * Civ.many k
  · have h2 : Civ.good k y i = true ∧ - Civ.place k y i ≤ 1 ∧ 1 < 8030 * Civ.many k - Civ.place k y i := ⟨hg, by omega, by omega⟩
    rw [if_pos h2, if_pos h2, if_pos h2, if_pos h, if_pos h, if_pos h]
    exact ⟨rfl, rfl, rfl⟩
  · have h2 : ¬ (Civ.good k y i = true ∧ - Civ.place k y i ≤ 1 ∧ 1 < 8030 * Civ.many k - Civ.place k y i) := fun x => by omega
    rw [if_neg h2, if_neg h2, if_neg h2, if_neg h, if_neg h, if_neg h]
    exact ⟨rfl, rfl, rfl⟩
theorem heap_alloc_new2 (w : World) (o o' : Obj) : ((w.alloc o).alloc o').heap[w.heap.size + 1]? = some o' := by
  have := heap_alloc_new (w.alloc o) o'
  rwa [World.size_alloc] at this
theorem code_behind (k y i : Int) (w : World) (hg : Civ.good k y i = true) :
    Calls Try.prog 40 #[.agg #[.int .i64 k, .int .i64 y, .int .i64 i]] w fun e w' => e = .returned (.agg #[.int .i64 (Civ.perK k (Civ.place k y i + 1)), .int .i64 (Civ.perY k (Civ.place k y i + 1)), .int .i64 (Civ.perI k (Civ.place k y i + 1))]) ∧ Below w.heap.size w w' := by
  have HN : Hid (∀ W, Calls Try.prog 49 #[.agg #[.int .i64 k, .int .i64 y, .int .i64 i], .int .i64 1] W fun e w' => ∃ er, e = .returned (.tuple #[.agg #[.int .i64 (Civ.perK k (Civ.place k y i + 1)), .int .i64 (Civ.perY k (Civ.place k y i + 1)), .int .i64 (Civ.perI k (Civ.place k y i + 1))], .int .i64 er]) ∧ Below W.heap.size W w') := Lib.hid (fun W => by
    have := code_next k y i 1 W
    obtain ⟨e1, e2, e3⟩ := next_per hg
    rw [e1, e2, e3] at this
    exact this.mono fun e w' h => ⟨_, h⟩)
  clear hg
  generalize Civ.perK k (Civ.place k y i + 1) = k' at *
  generalize Civ.perY k (Civ.place k y i + 1) = y' at *
  generalize Civ.perI k (Civ.place k y i + 1) = i' at *
  go_enter Try.func40, Try.ntmps40
  go_wp2_with (go_at_call 49; refine (HN.out _).mono ?_; rintro e w1 ⟨er, rfl, hb⟩; have hz : w.heap.size + 1 < w1.heap.size := (by have := hb.size; (try simp at this); omega); have HR := Lib.hid (heap_on hb (heap_alloc_new2 w _ _)); have HB1 := Lib.hid (below_then (below_then (below_alloc _ _) (below_alloc _ _)) hb); obtain ⟨hc, hf⟩ := bcell hb; clear hb)
  have h4 := heap_on (below_alloc _ (Obj.cells #[Value.int IntKind.i64 k', Value.int IntKind.i64 y', Value.int IntKind.i64 i'] 24)) (put3_row (.int .i64 k') (.int .i64 y') (.int .i64 i') HR.out)
  exact bodyPost_ret (results_cell_of rfl _ _ (w.heap.size + 1) _ rfl (load_per _ _ _ _ _ _ h4)) rfl ⟨rfl, below_any ((((HB1.out.setCell (by simp) _).setCell (by simp) _).setCell (by simp) _)) (by simp) (below_alloc _ _)⟩
set_option maxHeartbeats 2000000 in
theorem take_no_0 (w : World) (P : Nat) (k y i nk ny ni : Int) (hn : w.cell? ⟨P, 3, none⟩ = some (.int .i64 nk) ∧ w.cell? ⟨P, 4, none⟩ = some (.int .i64 ny) ∧ w.cell? ⟨P, 5, none⟩ = some (.int .i64 ni)) (hne : k = nk → y = ny → ¬ i = ni) :
    Calls Try.prog 46 #[.pointer (some ⟨P, 0, none⟩), .agg #[.int .i64 k, .int .i64 y, .int .i64 i], .int .i64 0] w fun e w' => e = .returned (.int .i64 71) ∧ Below w.heap.size w w' := by
  have b0 := below_alloc w (.cells #[.int .i64 k, .int .i64 y, .int .i64 i] 24)
  have hq := cells3_alloc w (.int .i64 k) (.int .i64 y) (.int .i64 i) 24
  have HS := Lib.hid (And.intro hq.1 (And.intro hq.2.1 (And.intro hq.2.2 (And.intro (cell_on b0 hn.1) (And.intro (cell_on b0 hn.2.1) (cell_on b0 hn.2.2))))))
  have HBd := Lib.hid b0.drew
  clear hq b0 hn 
  go_enter Try.func46, Try.ntmps46
  go_wp2
  refine wp_region_held_drew (S := fun W => W.cell? ⟨w.heap.size, 0, none⟩ = some (.int .i64 k) ∧ W.cell? ⟨w.heap.size, 1, none⟩ = some (.int .i64 y) ∧ W.cell? ⟨w.heap.size, 2, none⟩ = some (.int .i64 i) ∧ W.cell? ⟨P, 3, none⟩ = some (.int .i64 nk) ∧ W.cell? ⟨P, 4, none⟩ = some (.int .i64 ny) ∧ W.cell? ⟨P, 5, none⟩ = some (.int .i64 ni)) (by kernel_rfl) HS.out ?_
  intro hHeld
  generalize (w.alloc (.cells #[.int .i64 k, .int .i64 y, .int .i64 i] 24)).drew = wd at HBd hHeld ⊢
  clear HS
  (refine takeH (i := 0) (v := ?_) rfl (by kernel_rfl) (by kernel_rfl) (by kernel_rfl) (fun _ _ _ h => h) (Or.inl ⟨by rfl, ?_⟩) (by assumption) ?_; rotate_left; (focus ((intro wS hSw); (try dsimp only at hSw); obtain ⟨s0, s1, s2, s3, s4, s5⟩ := hSw; go_simp; (try with_reducible rfl); done)); (try simp only [Act.put, List.setIfInBounds_toArray, List.set_cons_zero, List.set_cons_succ]))
  (refine takeH (i := 1) (v := ?_) rfl (by kernel_rfl) (by kernel_rfl) (by kernel_rfl) (fun _ _ _ h => h) (Or.inl ⟨by rfl, ?_⟩) (by assumption) ?_; rotate_left; (focus ((intro wS hSw); (try dsimp only at hSw); obtain ⟨s0, s1, s2, s3, s4, s5⟩ := hSw; go_simp; (try with_reducible rfl); done)); (try simp only [Act.put, List.setIfInBounds_toArray, List.set_cons_zero, List.set_cons_succ]))
  (refine takeH (i := 2) (v := ?_) rfl (by kernel_rfl) (by kernel_rfl) (by kernel_rfl) (fun _ _ _ h => h) (Or.inl ⟨by rfl, ?_⟩) (by assumption) ?_; rotate_left; (focus ((intro wS hSw); (try dsimp only at hSw); obtain ⟨s0, s1, s2, s3, s4, s5⟩ := hSw; go_simp; (try with_reducible rfl); done)); (try simp only [Act.put, List.setIfInBounds_toArray, List.set_cons_zero, List.set_cons_succ]))
  (refine takeH (i := 3) (v := ?_) rfl (by kernel_rfl) (by kernel_rfl) (by kernel_rfl) (fun _ _ _ h => h) (Or.inl ⟨by rfl, ?_⟩) (by assumption) ?_; rotate_left; (focus ((intro wS hSw); (try dsimp only at hSw); obtain ⟨s0, s1, s2, s3, s4, s5⟩ := hSw; go_simp; (try with_reducible rfl); done)); (try simp only [Act.put, List.setIfInBounds_toArray, List.set_cons_zero, List.set_cons_succ]))
  (refine takeH (i := 4) (v := ?_) rfl (by kernel_rfl) (by kernel_rfl) (by kernel_rfl) (fun _ _ _ h => h) (Or.inl ⟨by rfl, ?_⟩) (by assumption) ?_; rotate_left; (focus ((intro wS hSw); (try dsimp only at hSw); obtain ⟨s0, s1, s2, s3, s4, s5⟩ := hSw; go_simp; (try with_reducible rfl); done)); (try simp only [Act.put, List.setIfInBounds_toArray, List.set_cons_zero, List.set_cons_succ]))
  (refine takeH (i := 5) (v := ?_) rfl (by kernel_rfl) (by kernel_rfl) (by kernel_rfl) (fun _ _ _ h => h) (Or.inl ⟨by rfl, ?_⟩) (by assumption) ?_; rotate_left; (focus ((intro wS hSw); (try dsimp only at hSw); obtain ⟨s0, s1, s2, s3, s4, s5⟩ := hSw; go_simp; (try with_reducible rfl); done)); (try simp only [Act.put, List.setIfInBounds_toArray, List.set_cons_zero, List.set_cons_succ]))
  (refine takeH (i := 6) (v := ?_) rfl (by kernel_rfl) (by kernel_rfl) (by kernel_rfl) (fun _ _ _ h => h) (Or.inl ⟨by rfl, ?_⟩) (by assumption) ?_; rotate_left; (focus ((intro wS hSw); (try dsimp only at hSw); obtain ⟨s0, s1, s2, s3, s4, s5⟩ := hSw; go_simp; (try with_reducible rfl); done)); (try simp only [Act.put, List.setIfInBounds_toArray, List.set_cons_zero, List.set_cons_succ]))
  (refine takeH (i := 7) (v := (.bool true)) rfl (by kernel_rfl) (by kernel_rfl) (by kernel_rfl) (fun _ _ _ h => h) (Or.inl ⟨by rfl, by (intro wS hSw); (try dsimp only at hSw); (obtain ⟨s0, s1, s2, s3, s4, s5⟩ := hSw); go_simp; (first | done | (simp; done) | (simp; exact hne) | exact hne | (trace_state; done))⟩) (by assumption) ?_; (try simp only [Act.put, List.setIfInBounds_toArray, List.set_cons_zero, List.set_cons_succ]))
  refine wpAnyH_done (by kernel_rfl) ?_ _
  clear hHeld
  go_wp2
  go_ret
  exact ⟨rfl, HBd.out⟩
set_option maxHeartbeats 2000000 in
theorem take_yes_0 (w : World) (P : Nat) (c : Ck) (k y i : Int) (h : CkAt w P c) (hk : k = c.k) (hg : Civ.good k y i = true) (hX : Civ.place k y i = c.A) :
    Calls Try.prog 46 #[.pointer (some ⟨P, 0, none⟩), .agg #[.int .i64 k, .int .i64 y, .int .i64 i], .int .i64 0] w fun e w' => e = .returned (.int .i64 0) ∧ CkAt w' P (c.step 0) ∧ ChgP w w' P := by
  obtain ⟨q1, q2, q3, _, _⟩ := Civ.per_place hg
  have hn := h.n0
  rw [hX] at q1 q2 q3
  rw [← hk, q1, q2, q3] at hn
  obtain ⟨k', hk'⟩ : ∃ k', k' = Civ.perK c.k (c.A + 1) := ⟨_, rfl⟩
  obtain ⟨y', hy'⟩ : ∃ y', y' = Civ.perY c.k (c.A + 1) := ⟨_, rfl⟩
  obtain ⟨i', hi'⟩ : ∃ i', i' = Civ.perI c.k (c.A + 1) := ⟨_, rfl⟩
  have HN := Lib.hid (And.intro hk' (And.intro hy' hi'))
  have HBh : Hid (∀ W, Calls Try.prog 40 #[.agg #[.int .i64 k, .int .i64 y, .int .i64 i]] W fun e w' => e = .returned (.agg #[.int .i64 k', .int .i64 y', .int .i64 i']) ∧ Below W.heap.size W w') := Lib.hid (fun W => by
    have := code_behind k y i W hg
    rw [hX, hk, ← hk', ← hy', ← hi'] at this
    rw [hk]
    exact this)
  have HPn : Hid (w.heap.size ≠ P) := Lib.hid (Nat.ne_of_gt (heapLt h))
  have b0 := below_alloc w (.cells #[.int .i64 k, .int .i64 y, .int .i64 i] 24)
  have hq := cells3_alloc w (.int .i64 k) (.int .i64 y) (.int .i64 i) 24
  have HS := Lib.hid (And.intro hq.1 (And.intro hq.2.1 (And.intro hq.2.2 (And.intro (cell_on b0 hn.1) (And.intro (cell_on b0 hn.2.1) (cell_on b0 hn.2.2))))))
  have HBd := Lib.hid b0.drew
  have HCk0 : Hid (CkAt (w.alloc (.cells #[.int .i64 k, .int .i64 y, .int .i64 i] 24)).drew P c) := Lib.hid (h.on b0.drew)
  clear hq b0 hn hg hX q1 q2 q3 hk hk' hy' hi' h
  go_enter Try.func46, Try.ntmps46
  go_wp2
  refine wp_region_held_drew (S := fun W => W.cell? ⟨w.heap.size, 0, none⟩ = some (.int .i64 k) ∧ W.cell? ⟨w.heap.size, 1, none⟩ = some (.int .i64 y) ∧ W.cell? ⟨w.heap.size, 2, none⟩ = some (.int .i64 i) ∧ W.cell? ⟨P, 3, none⟩ = some (.int .i64 k) ∧ W.cell? ⟨P, 4, none⟩ = some (.int .i64 y) ∧ W.cell? ⟨P, 5, none⟩ = some (.int .i64 i)) (by kernel_rfl) HS.out ?_
  intro hHeld
  generalize (w.alloc (.cells #[.int .i64 k, .int .i64 y, .int .i64 i] 24)).drew = wd at HBd HCk0 hHeld ⊢
  clear HS
  have HHc := Lib.hid hHeld
  (refine takeH (i := 0) (v := ?_) rfl (by kernel_rfl) (by kernel_rfl) (by kernel_rfl) (fun _ _ _ h => h) (Or.inl ⟨by rfl, ?_⟩) (by assumption) ?_; rotate_left; (focus ((intro wS hSw); (try dsimp only at hSw); obtain ⟨s0, s1, s2, s3, s4, s5⟩ := hSw; go_simp; (try with_reducible rfl); done)); (try simp only [Act.put, List.setIfInBounds_toArray, List.set_cons_zero, List.set_cons_succ]))
  (refine takeH (i := 1) (v := ?_) rfl (by kernel_rfl) (by kernel_rfl) (by kernel_rfl) (fun _ _ _ h => h) (Or.inl ⟨by rfl, ?_⟩) (by assumption) ?_; rotate_left; (focus ((intro wS hSw); (try dsimp only at hSw); obtain ⟨s0, s1, s2, s3, s4, s5⟩ := hSw; go_simp; (try with_reducible rfl); done)); (try simp only [Act.put, List.setIfInBounds_toArray, List.set_cons_zero, List.set_cons_succ]))
  (refine takeH (i := 2) (v := ?_) rfl (by kernel_rfl) (by kernel_rfl) (by kernel_rfl) (fun _ _ _ h => h) (Or.inl ⟨by rfl, ?_⟩) (by assumption) ?_; rotate_left; (focus ((intro wS hSw); (try dsimp only at hSw); obtain ⟨s0, s1, s2, s3, s4, s5⟩ := hSw; go_simp; (try with_reducible rfl); done)); (try simp only [Act.put, List.setIfInBounds_toArray, List.set_cons_zero, List.set_cons_succ]))
  (refine takeH (i := 3) (v := ?_) rfl (by kernel_rfl) (by kernel_rfl) (by kernel_rfl) (fun _ _ _ h => h) (Or.inl ⟨by rfl, ?_⟩) (by assumption) ?_; rotate_left; (focus ((intro wS hSw); (try dsimp only at hSw); obtain ⟨s0, s1, s2, s3, s4, s5⟩ := hSw; go_simp; (try with_reducible rfl); done)); (try simp only [Act.put, List.setIfInBounds_toArray, List.set_cons_zero, List.set_cons_succ]))
  (refine takeH (i := 4) (v := ?_) rfl (by kernel_rfl) (by kernel_rfl) (by kernel_rfl) (fun _ _ _ h => h) (Or.inl ⟨by rfl, ?_⟩) (by assumption) ?_; rotate_left; (focus ((intro wS hSw); (try dsimp only at hSw); obtain ⟨s0, s1, s2, s3, s4, s5⟩ := hSw; go_simp; (try with_reducible rfl); done)); (try simp only [Act.put, List.setIfInBounds_toArray, List.set_cons_zero, List.set_cons_succ]))
  (refine takeH (i := 5) (v := ?_) rfl (by kernel_rfl) (by kernel_rfl) (by kernel_rfl) (fun _ _ _ h => h) (Or.inl ⟨by rfl, ?_⟩) (by assumption) ?_; rotate_left; (focus ((intro wS hSw); (try dsimp only at hSw); obtain ⟨s0, s1, s2, s3, s4, s5⟩ := hSw; go_simp; (try with_reducible rfl); done)); (try simp only [Act.put, List.setIfInBounds_toArray, List.set_cons_zero, List.set_cons_succ]))
  (refine takeH (i := 6) (v := ?_) rfl (by kernel_rfl) (by kernel_rfl) (by kernel_rfl) (fun _ _ _ h => h) (Or.inl ⟨by rfl, ?_⟩) (by assumption) ?_; rotate_left; (focus ((intro wS hSw); (try dsimp only at hSw); obtain ⟨s0, s1, s2, s3, s4, s5⟩ := hSw; go_simp; (try with_reducible rfl); done)); (try simp only [Act.put, List.setIfInBounds_toArray, List.set_cons_zero, List.set_cons_succ]))
  (refine takeH (i := 7) (v := ?_) rfl (by kernel_rfl) (by kernel_rfl) (by kernel_rfl) (fun _ _ _ h => h) (Or.inl ⟨by rfl, ?_⟩) (by assumption) ?_; rotate_left; (focus ((intro wS hSw); (try dsimp only at hSw); obtain ⟨s0, s1, s2, s3, s4, s5⟩ := hSw; go_simp; (try with_reducible rfl); done)); (try simp only [Act.put, List.setIfInBounds_toArray, List.set_cons_zero, List.set_cons_succ]))
  refine wpAnyH_done (by kernel_rfl) ?_ _
  clear hHeld
  go_wp2_with fail
  have HH3 : Hid (wd.cell? ⟨w.heap.size, 0, none⟩ = some (.int .i64 k) ∧ wd.cell? ⟨w.heap.size, 1, none⟩ = some (.int .i64 y) ∧ wd.cell? ⟨w.heap.size, 2, none⟩ = some (.int .i64 i)) := Lib.hid ⟨HHc.out.1, HHc.out.2.1, HHc.out.2.2.1⟩
  refine wp_region_held_drew (S := fun W => W.cell? ⟨w.heap.size, 0, none⟩ = some (.int .i64 k) ∧ W.cell? ⟨w.heap.size, 1, none⟩ = some (.int .i64 y) ∧ W.cell? ⟨w.heap.size, 2, none⟩ = some (.int .i64 i)) (by kernel_rfl) ⟨HH3.out.1, HH3.out.2.1, HH3.out.2.2⟩ ?_
  intro hHeld
  have HBe : Hid (Below wd.heap.size wd wd.drew) := Lib.hid (Below.refl _ _).drew
  have HCk : Hid (CkAt wd P c) := Lib.hid HCk0.out
  generalize wd.drew = we at HBe hHeld ⊢
  clear HH3
  (refine takeH (i := 0) (v := ?_) rfl (by kernel_rfl) (by kernel_rfl) (by kernel_rfl) (fun _ _ _ h => h) (Or.inl ⟨by rfl, ?_⟩) (by assumption) ?_; rotate_left; (focus ((intro wS hSw); (try dsimp only at hSw); obtain ⟨s0, s1, s2⟩ := hSw; go_simp; (try with_reducible rfl); done)); (try simp only [Act.put, List.setIfInBounds_toArray, List.set_cons_zero, List.set_cons_succ]))
  (refine takeH (i := 1) (v := ?_) rfl (by kernel_rfl) (by kernel_rfl) (by kernel_rfl) (fun _ _ _ h => h) (Or.inl ⟨by rfl, ?_⟩) (by assumption) ?_; rotate_left; (focus ((intro wS hSw); (try dsimp only at hSw); obtain ⟨s0, s1, s2⟩ := hSw; go_simp; (try with_reducible rfl); done)); (try simp only [Act.put, List.setIfInBounds_toArray, List.set_cons_zero, List.set_cons_succ]))
  (refine takeH (i := 2) (v := ?_) rfl (by kernel_rfl) (by kernel_rfl) (by kernel_rfl) (fun _ _ _ h => h) (Or.inl ⟨by rfl, ?_⟩) (by assumption) ?_; rotate_left; (focus ((intro wS hSw); (try dsimp only at hSw); obtain ⟨s0, s1, s2⟩ := hSw; go_simp; (try with_reducible rfl); done)); (try simp only [Act.put, List.setIfInBounds_toArray, List.set_cons_zero, List.set_cons_succ]))
  (refine takeH (i := 4) (v := ?_) rfl (by kernel_rfl) (by kernel_rfl) (by kernel_rfl) (fun _ _ _ h => h) (Or.inl ⟨by rfl, ?_⟩) (by assumption) ?_; rotate_left; (focus ((intro wS hSw); (try dsimp only at hSw); obtain ⟨s0, s1, s2⟩ := hSw; go_simp; (try with_reducible rfl); done)); (try simp only [Act.put, List.setIfInBounds_toArray, List.set_cons_zero, List.set_cons_succ]))
  (refine takeH (i := 5) (v := ?_) rfl (by kernel_rfl) (by kernel_rfl) (by kernel_rfl) (fun _ _ _ h => h) (Or.inl ⟨by rfl, ?_⟩) (by assumption) ?_; rotate_left; (focus ((intro wS hSw); (try dsimp only at hSw); obtain ⟨s0, s1, s2⟩ := hSw; go_simp; (try with_reducible rfl); done)); (try simp only [Act.put, List.setIfInBounds_toArray, List.set_cons_zero, List.set_cons_succ]))
  refine aloneH (i := 3) rfl (by kernel_rfl) (fun K hK => ?_)
  rw [if_pos (by rfl)]
  go_simp; ((refine (HBh.out we).mono ?_); (rintro e w1 ⟨rfl, hb⟩); have HB1 := Lib.hid hb; clear hb; (try go_simp))
  refine hK.out _ _ (⟨cell_on HB1.out hHeld.1, cell_on HB1.out hHeld.2.1, cell_on HB1.out hHeld.2.2⟩) (fun hNew => ?_)
  clear hK K hHeld; (have hHeld := hNew); clear hNew; (try simp only [Act.put, List.setIfInBounds_toArray, List.set_cons_zero, List.set_cons_succ])
  (refine takeH (i := 6) (v := ?_) rfl (by kernel_rfl) (by kernel_rfl) (by kernel_rfl) (fun _ _ _ h => h) (Or.inl ⟨by rfl, ?_⟩) (by assumption) ?_; rotate_left; (focus ((intro wS hSw); (try dsimp only at hSw); obtain ⟨s0, s1, s2⟩ := hSw; go_simp; (try with_reducible rfl); done)); (try simp only [Act.put, List.setIfInBounds_toArray, List.set_cons_zero, List.set_cons_succ]))
  refine aloneH (i := 7) rfl (by kernel_rfl) (fun K hK => ?_)
  rw [if_pos (by rfl)]
  refine wp_store_mid 24 (.tmp 21) (.tmp 18) rfl P 3 #[.int .i64 k', .int .i64 y', .int .i64 i'] rfl rfl ((HCk.out.on (below_then HBe.out HB1.out)).there 3 (by decide)) (by kernel_rfl) (by simp [Value.oneCell']) ?_
  refine hK.out _ _ (⟨cell_setCells_far hHeld.1 HPn.out, cell_setCells_far hHeld.2.1 HPn.out, cell_setCells_far hHeld.2.2 HPn.out⟩) (fun hNew => ?_)
  clear hK K hHeld; (have hHeld := hNew); clear hNew; (try simp only [Act.put])
  refine wpAnyH_done (by kernel_rfl) ?_ _
  clear hHeld
  go_wp2
  go_ret
  have HC2 := HCk.out.on (below_then HBe.out HB1.out)
  have h3 := heap_setCells3 _ P 3 _ _ (.int .i64 k') (.int .i64 y') (.int .i64 i') HC2
  refine ⟨rfl, ?_, (ChgP.of_below (below_then HBd.out (below_then HBe.out HB1.out))).trans (chg_setCells3 _ _ _ _ _ _)⟩
  obtain ⟨rfl, rfl, rfl⟩ := HN.out
  exact h3
set_option maxHeartbeats 2000000 in
theorem take_no_1 (w : World) (P : Nat) (k y i nk ny ni : Int) (hn : w.cell? ⟨P, 6, none⟩ = some (.int .i64 nk) ∧ w.cell? ⟨P, 7, none⟩ = some (.int .i64 ny) ∧ w.cell? ⟨P, 8, none⟩ = some (.int .i64 ni)) (hne : k = nk → y = ny → ¬ i = ni) :
    Calls Try.prog 46 #[.pointer (some ⟨P, 0, none⟩), .agg #[.int .i64 k, .int .i64 y, .int .i64 i], .int .i64 1] w fun e w' => e = .returned (.int .i64 71) ∧ Below w.heap.size w w' := by
  have b0 := below_alloc w (.cells #[.int .i64 k, .int .i64 y, .int .i64 i] 24)
  have hq := cells3_alloc w (.int .i64 k) (.int .i64 y) (.int .i64 i) 24
  have HS := Lib.hid (And.intro hq.1 (And.intro hq.2.1 (And.intro hq.2.2 (And.intro (cell_on b0 hn.1) (And.intro (cell_on b0 hn.2.1) (cell_on b0 hn.2.2))))))
  have HBd := Lib.hid b0.drew
  clear hq b0 hn 
  go_enter Try.func46, Try.ntmps46
  go_wp2
  refine wp_region_held_drew (S := fun W => W.cell? ⟨w.heap.size, 0, none⟩ = some (.int .i64 k) ∧ W.cell? ⟨w.heap.size, 1, none⟩ = some (.int .i64 y) ∧ W.cell? ⟨w.heap.size, 2, none⟩ = some (.int .i64 i) ∧ W.cell? ⟨P, 6, none⟩ = some (.int .i64 nk) ∧ W.cell? ⟨P, 7, none⟩ = some (.int .i64 ny) ∧ W.cell? ⟨P, 8, none⟩ = some (.int .i64 ni)) (by kernel_rfl) HS.out ?_
  intro hHeld
  generalize (w.alloc (.cells #[.int .i64 k, .int .i64 y, .int .i64 i] 24)).drew = wd at HBd hHeld ⊢
  clear HS
  (refine takeH (i := 0) (v := ?_) rfl (by kernel_rfl) (by kernel_rfl) (by kernel_rfl) (fun _ _ _ h => h) (Or.inl ⟨by rfl, ?_⟩) (by assumption) ?_; rotate_left; (focus ((intro wS hSw); (try dsimp only at hSw); obtain ⟨s0, s1, s2, s3, s4, s5⟩ := hSw; go_simp; (try with_reducible rfl); done)); (try simp only [Act.put, List.setIfInBounds_toArray, List.set_cons_zero, List.set_cons_succ]))
  (refine takeH (i := 1) (v := ?_) rfl (by kernel_rfl) (by kernel_rfl) (by kernel_rfl) (fun _ _ _ h => h) (Or.inl ⟨by rfl, ?_⟩) (by assumption) ?_; rotate_left; (focus ((intro wS hSw); (try dsimp only at hSw); obtain ⟨s0, s1, s2, s3, s4, s5⟩ := hSw; go_simp; (try with_reducible rfl); done)); (try simp only [Act.put, List.setIfInBounds_toArray, List.set_cons_zero, List.set_cons_succ]))
  (refine takeH (i := 2) (v := ?_) rfl (by kernel_rfl) (by kernel_rfl) (by kernel_rfl) (fun _ _ _ h => h) (Or.inl ⟨by rfl, ?_⟩) (by assumption) ?_; rotate_left; (focus ((intro wS hSw); (try dsimp only at hSw); obtain ⟨s0, s1, s2, s3, s4, s5⟩ := hSw; go_simp; (try with_reducible rfl); done)); (try simp only [Act.put, List.setIfInBounds_toArray, List.set_cons_zero, List.set_cons_succ]))
  (refine takeH (i := 3) (v := ?_) rfl (by kernel_rfl) (by kernel_rfl) (by kernel_rfl) (fun _ _ _ h => h) (Or.inl ⟨by rfl, ?_⟩) (by assumption) ?_; rotate_left; (focus ((intro wS hSw); (try dsimp only at hSw); obtain ⟨s0, s1, s2, s3, s4, s5⟩ := hSw; go_simp; (try with_reducible rfl); done)); (try simp only [Act.put, List.setIfInBounds_toArray, List.set_cons_zero, List.set_cons_succ]))
  (refine takeH (i := 4) (v := ?_) rfl (by kernel_rfl) (by kernel_rfl) (by kernel_rfl) (fun _ _ _ h => h) (Or.inl ⟨by rfl, ?_⟩) (by assumption) ?_; rotate_left; (focus ((intro wS hSw); (try dsimp only at hSw); obtain ⟨s0, s1, s2, s3, s4, s5⟩ := hSw; go_simp; (try with_reducible rfl); done)); (try simp only [Act.put, List.setIfInBounds_toArray, List.set_cons_zero, List.set_cons_succ]))
  (refine takeH (i := 5) (v := ?_) rfl (by kernel_rfl) (by kernel_rfl) (by kernel_rfl) (fun _ _ _ h => h) (Or.inl ⟨by rfl, ?_⟩) (by assumption) ?_; rotate_left; (focus ((intro wS hSw); (try dsimp only at hSw); obtain ⟨s0, s1, s2, s3, s4, s5⟩ := hSw; go_simp; (try with_reducible rfl); done)); (try simp only [Act.put, List.setIfInBounds_toArray, List.set_cons_zero, List.set_cons_succ]))
  (refine takeH (i := 6) (v := ?_) rfl (by kernel_rfl) (by kernel_rfl) (by kernel_rfl) (fun _ _ _ h => h) (Or.inl ⟨by rfl, ?_⟩) (by assumption) ?_; rotate_left; (focus ((intro wS hSw); (try dsimp only at hSw); obtain ⟨s0, s1, s2, s3, s4, s5⟩ := hSw; go_simp; (try with_reducible rfl); done)); (try simp only [Act.put, List.setIfInBounds_toArray, List.set_cons_zero, List.set_cons_succ]))
  (refine takeH (i := 7) (v := (.bool true)) rfl (by kernel_rfl) (by kernel_rfl) (by kernel_rfl) (fun _ _ _ h => h) (Or.inl ⟨by rfl, by (intro wS hSw); (try dsimp only at hSw); (obtain ⟨s0, s1, s2, s3, s4, s5⟩ := hSw); go_simp; (first | done | (simp; done) | (simp; exact hne) | exact hne | (trace_state; done))⟩) (by assumption) ?_; (try simp only [Act.put, List.setIfInBounds_toArray, List.set_cons_zero, List.set_cons_succ]))
  refine wpAnyH_done (by kernel_rfl) ?_ _
  clear hHeld
  go_wp2
  go_ret
  exact ⟨rfl, HBd.out⟩
set_option maxHeartbeats 2000000 in
theorem take_yes_1 (w : World) (P : Nat) (c : Ck) (k y i : Int) (h : CkAt w P c) (hk : k = c.k) (hg : Civ.good k y i = true) (hX : Civ.place k y i = c.B) :
    Calls Try.prog 46 #[.pointer (some ⟨P, 0, none⟩), .agg #[.int .i64 k, .int .i64 y, .int .i64 i], .int .i64 1] w fun e w' => e = .returned (.int .i64 0) ∧ CkAt w' P (c.step 1) ∧ ChgP w w' P := by
  obtain ⟨q1, q2, q3, _, _⟩ := Civ.per_place hg
  have hn := h.n1
  rw [hX] at q1 q2 q3
  rw [← hk, q1, q2, q3] at hn
  obtain ⟨k', hk'⟩ : ∃ k', k' = Civ.perK c.k (c.B + 1) := ⟨_, rfl⟩
  obtain ⟨y', hy'⟩ : ∃ y', y' = Civ.perY c.k (c.B + 1) := ⟨_, rfl⟩
  obtain ⟨i', hi'⟩ : ∃ i', i' = Civ.perI c.k (c.B + 1) := ⟨_, rfl⟩
  have HN := Lib.hid (And.intro hk' (And.intro hy' hi'))
  have HBh : Hid (∀ W, Calls Try.prog 40 #[.agg #[.int .i64 k, .int .i64 y, .int .i64 i]] W fun e w' => e = .returned (.agg #[.int .i64 k', .int .i64 y', .int .i64 i']) ∧ Below W.heap.size W w') := Lib.hid (fun W => by
    have := code_behind k y i W hg
    rw [hX, hk, ← hk', ← hy', ← hi'] at this
    rw [hk]
    exact this)
  have HPn : Hid (w.heap.size ≠ P) := Lib.hid (Nat.ne_of_gt (heapLt h))
  have b0 := below_alloc w (.cells #[.int .i64 k, .int .i64 y, .int .i64 i] 24)
  have hq := cells3_alloc w (.int .i64 k) (.int .i64 y) (.int .i64 i) 24
  have HS := Lib.hid (And.intro hq.1 (And.intro hq.2.1 (And.intro hq.2.2 (And.intro (cell_on b0 hn.1) (And.intro (cell_on b0 hn.2.1) (cell_on b0 hn.2.2))))))
  have HBd := Lib.hid b0.drew
  have HCk0 : Hid (CkAt (w.alloc (.cells #[.int .i64 k, .int .i64 y, .int .i64 i] 24)).drew P c) := Lib.hid (h.on b0.drew)
  clear hq b0 hn hg hX q1 q2 q3 hk hk' hy' hi' h
  go_enter Try.func46, Try.ntmps46
  go_wp2
  refine wp_region_held_drew (S := fun W => W.cell? ⟨w.heap.size, 0, none⟩ = some (.int .i64 k) ∧ W.cell? ⟨w.heap.size, 1, none⟩ = some (.int .i64 y) ∧ W.cell? ⟨w.heap.size, 2, none⟩ = some (.int .i64 i) ∧ W.cell? ⟨P, 6, none⟩ = some (.int .i64 k) ∧ W.cell? ⟨P, 7, none⟩ = some (.int .i64 y) ∧ W.cell? ⟨P, 8, none⟩ = some (.int .i64 i)) (by kernel_rfl) HS.out ?_
  intro hHeld
  generalize (w.alloc (.cells #[.int .i64 k, .int .i64 y, .int .i64 i] 24)).drew = wd at HBd HCk0 hHeld ⊢
  clear HS
  have HHc := Lib.hid hHeld
  (refine takeH (i := 0) (v := ?_) rfl (by kernel_rfl) (by kernel_rfl) (by kernel_rfl) (fun _ _ _ h => h) (Or.inl ⟨by rfl, ?_⟩) (by assumption) ?_; rotate_left; (focus ((intro wS hSw); (try dsimp only at hSw); obtain ⟨s0, s1, s2, s3, s4, s5⟩ := hSw; go_simp; (try with_reducible rfl); done)); (try simp only [Act.put, List.setIfInBounds_toArray, List.set_cons_zero, List.set_cons_succ]))
  (refine takeH (i := 1) (v := ?_) rfl (by kernel_rfl) (by kernel_rfl) (by kernel_rfl) (fun _ _ _ h => h) (Or.inl ⟨by rfl, ?_⟩) (by assumption) ?_; rotate_left; (focus ((intro wS hSw); (try dsimp only at hSw); obtain ⟨s0, s1, s2, s3, s4, s5⟩ := hSw; go_simp; (try with_reducible rfl); done)); (try simp only [Act.put, List.setIfInBounds_toArray, List.set_cons_zero, List.set_cons_succ]))
  (refine takeH (i := 2) (v := ?_) rfl (by kernel_rfl) (by kernel_rfl) (by kernel_rfl) (fun _ _ _ h => h) (Or.inl ⟨by rfl, ?_⟩) (by assumption) ?_; rotate_left; (focus ((intro wS hSw); (try dsimp only at hSw); obtain ⟨s0, s1, s2, s3, s4, s5⟩ := hSw; go_simp; (try with_reducible rfl); done)); (try simp only [Act.put, List.setIfInBounds_toArray, List.set_cons_zero, List.set_cons_succ]))
  (refine takeH (i := 3) (v := ?_) rfl (by kernel_rfl) (by kernel_rfl) (by kernel_rfl) (fun _ _ _ h => h) (Or.inl ⟨by rfl, ?_⟩) (by assumption) ?_; rotate_left; (focus ((intro wS hSw); (try dsimp only at hSw); obtain ⟨s0, s1, s2, s3, s4, s5⟩ := hSw; go_simp; (try with_reducible rfl); done)); (try simp only [Act.put, List.setIfInBounds_toArray, List.set_cons_zero, List.set_cons_succ]))
  (refine takeH (i := 4) (v := ?_) rfl (by kernel_rfl) (by kernel_rfl) (by kernel_rfl) (fun _ _ _ h => h) (Or.inl ⟨by rfl, ?_⟩) (by assumption) ?_; rotate_left; (focus ((intro wS hSw); (try dsimp only at hSw); obtain ⟨s0, s1, s2, s3, s4, s5⟩ := hSw; go_simp; (try with_reducible rfl); done)); (try simp only [Act.put, List.setIfInBounds_toArray, List.set_cons_zero, List.set_cons_succ]))
  (refine takeH (i := 5) (v := ?_) rfl (by kernel_rfl) (by kernel_rfl) (by kernel_rfl) (fun _ _ _ h => h) (Or.inl ⟨by rfl, ?_⟩) (by assumption) ?_; rotate_left; (focus ((intro wS hSw); (try dsimp only at hSw); obtain ⟨s0, s1, s2, s3, s4, s5⟩ := hSw; go_simp; (try with_reducible rfl); done)); (try simp only [Act.put, List.setIfInBounds_toArray, List.set_cons_zero, List.set_cons_succ]))
  (refine takeH (i := 6) (v := ?_) rfl (by kernel_rfl) (by kernel_rfl) (by kernel_rfl) (fun _ _ _ h => h) (Or.inl ⟨by rfl, ?_⟩) (by assumption) ?_; rotate_left; (focus ((intro wS hSw); (try dsimp only at hSw); obtain ⟨s0, s1, s2, s3, s4, s5⟩ := hSw; go_simp; (try with_reducible rfl); done)); (try simp only [Act.put, List.setIfInBounds_toArray, List.set_cons_zero, List.set_cons_succ]))
  (refine takeH (i := 7) (v := ?_) rfl (by kernel_rfl) (by kernel_rfl) (by kernel_rfl) (fun _ _ _ h => h) (Or.inl ⟨by rfl, ?_⟩) (by assumption) ?_; rotate_left; (focus ((intro wS hSw); (try dsimp only at hSw); obtain ⟨s0, s1, s2, s3, s4, s5⟩ := hSw; go_simp; (try with_reducible rfl); done)); (try simp only [Act.put, List.setIfInBounds_toArray, List.set_cons_zero, List.set_cons_succ]))
  refine wpAnyH_done (by kernel_rfl) ?_ _
  clear hHeld
  go_wp2_with fail
  have HH3 : Hid (wd.cell? ⟨w.heap.size, 0, none⟩ = some (.int .i64 k) ∧ wd.cell? ⟨w.heap.size, 1, none⟩ = some (.int .i64 y) ∧ wd.cell? ⟨w.heap.size, 2, none⟩ = some (.int .i64 i)) := Lib.hid ⟨HHc.out.1, HHc.out.2.1, HHc.out.2.2.1⟩
  refine wp_region_held_drew (S := fun W => W.cell? ⟨w.heap.size, 0, none⟩ = some (.int .i64 k) ∧ W.cell? ⟨w.heap.size, 1, none⟩ = some (.int .i64 y) ∧ W.cell? ⟨w.heap.size, 2, none⟩ = some (.int .i64 i)) (by kernel_rfl) ⟨HH3.out.1, HH3.out.2.1, HH3.out.2.2⟩ ?_
  intro hHeld
  have HBe : Hid (Below wd.heap.size wd wd.drew) := Lib.hid (Below.refl _ _).drew
  have HCk : Hid (CkAt wd P c) := Lib.hid HCk0.out
  generalize wd.drew = we at HBe hHeld ⊢
  clear HH3
  (refine takeH (i := 0) (v := ?_) rfl (by kernel_rfl) (by kernel_rfl) (by kernel_rfl) (fun _ _ _ h => h) (Or.inl ⟨by rfl, ?_⟩) (by assumption) ?_; rotate_left; (focus ((intro wS hSw); (try dsimp only at hSw); obtain ⟨s0, s1, s2⟩ := hSw; go_simp; (try with_reducible rfl); done)); (try simp only [Act.put, List.setIfInBounds_toArray, List.set_cons_zero, List.set_cons_succ]))
  (refine takeH (i := 1) (v := ?_) rfl (by kernel_rfl) (by kernel_rfl) (by kernel_rfl) (fun _ _ _ h => h) (Or.inl ⟨by rfl, ?_⟩) (by assumption) ?_; rotate_left; (focus ((intro wS hSw); (try dsimp only at hSw); obtain ⟨s0, s1, s2⟩ := hSw; go_simp; (try with_reducible rfl); done)); (try simp only [Act.put, List.setIfInBounds_toArray, List.set_cons_zero, List.set_cons_succ]))
  (refine takeH (i := 2) (v := ?_) rfl (by kernel_rfl) (by kernel_rfl) (by kernel_rfl) (fun _ _ _ h => h) (Or.inl ⟨by rfl, ?_⟩) (by assumption) ?_; rotate_left; (focus ((intro wS hSw); (try dsimp only at hSw); obtain ⟨s0, s1, s2⟩ := hSw; go_simp; (try with_reducible rfl); done)); (try simp only [Act.put, List.setIfInBounds_toArray, List.set_cons_zero, List.set_cons_succ]))
  (refine takeH (i := 4) (v := ?_) rfl (by kernel_rfl) (by kernel_rfl) (by kernel_rfl) (fun _ _ _ h => h) (Or.inl ⟨by rfl, ?_⟩) (by assumption) ?_; rotate_left; (focus ((intro wS hSw); (try dsimp only at hSw); obtain ⟨s0, s1, s2⟩ := hSw; go_simp; (try with_reducible rfl); done)); (try simp only [Act.put, List.setIfInBounds_toArray, List.set_cons_zero, List.set_cons_succ]))
  (refine takeH (i := 5) (v := ?_) rfl (by kernel_rfl) (by kernel_rfl) (by kernel_rfl) (fun _ _ _ h => h) (Or.inl ⟨by rfl, ?_⟩) (by assumption) ?_; rotate_left; (focus ((intro wS hSw); (try dsimp only at hSw); obtain ⟨s0, s1, s2⟩ := hSw; go_simp; (try with_reducible rfl); done)); (try simp only [Act.put, List.setIfInBounds_toArray, List.set_cons_zero, List.set_cons_succ]))
  refine aloneH (i := 3) rfl (by kernel_rfl) (fun K hK => ?_)
  rw [if_pos (by rfl)]
  go_simp; ((refine (HBh.out we).mono ?_); (rintro e w1 ⟨rfl, hb⟩); have HB1 := Lib.hid hb; clear hb; (try go_simp))
  refine hK.out _ _ (⟨cell_on HB1.out hHeld.1, cell_on HB1.out hHeld.2.1, cell_on HB1.out hHeld.2.2⟩) (fun hNew => ?_)
  clear hK K hHeld; (have hHeld := hNew); clear hNew; (try simp only [Act.put, List.setIfInBounds_toArray, List.set_cons_zero, List.set_cons_succ])
  (refine takeH (i := 6) (v := ?_) rfl (by kernel_rfl) (by kernel_rfl) (by kernel_rfl) (fun _ _ _ h => h) (Or.inl ⟨by rfl, ?_⟩) (by assumption) ?_; rotate_left; (focus ((intro wS hSw); (try dsimp only at hSw); obtain ⟨s0, s1, s2⟩ := hSw; go_simp; (try with_reducible rfl); done)); (try simp only [Act.put, List.setIfInBounds_toArray, List.set_cons_zero, List.set_cons_succ]))
  refine aloneH (i := 7) rfl (by kernel_rfl) (fun K hK => ?_)
  rw [if_pos (by rfl)]
  refine wp_store_mid 24 (.tmp 21) (.tmp 18) rfl P 6 #[.int .i64 k', .int .i64 y', .int .i64 i'] rfl rfl ((HCk.out.on (below_then HBe.out HB1.out)).there 6 (by decide)) (by kernel_rfl) (by simp [Value.oneCell']) ?_
  refine hK.out _ _ (⟨cell_setCells_far hHeld.1 HPn.out, cell_setCells_far hHeld.2.1 HPn.out, cell_setCells_far hHeld.2.2 HPn.out⟩) (fun hNew => ?_)
  clear hK K hHeld; (have hHeld := hNew); clear hNew; (try simp only [Act.put])
  refine wpAnyH_done (by kernel_rfl) ?_ _
  clear hHeld
  go_wp2
  go_ret
  have HC2 := HCk.out.on (below_then HBe.out HB1.out)
  have h3 := heap_setCells3 _ P 6 _ _ (.int .i64 k') (.int .i64 y') (.int .i64 i') HC2
  refine ⟨rfl, ?_, (ChgP.of_below (below_then HBd.out (below_then HBe.out HB1.out))).trans (chg_setCells3 _ _ _ _ _ _)⟩
  obtain ⟨rfl, rfl, rfl⟩ := HN.out
  exact h3
end Go.Proofs.Ytdacpiegfobhbaa
