/- The document's Set, walked. -/
import Derived.Test.YtgljajoknmgoeaaGreatPrT
namespace Go.Proofs.YtgljajoknmgoeaaGreat
open Go.RowKit
set_option maxRecDepth 100000

/-- none of the first ones clashes -/
theorem row3' {W : World} {g : Nat} {a b c : Value} {t : TypeId} (h : W.heap[g]? = some (.cells #[a, b, c] t (0, 0))) : W.cell? ⟨g, 0, none⟩ = some a ∧ W.cell? ⟨g, 1, none⟩ = some b ∧ W.cell? ⟨g, 2, none⟩ = some c := by
  have h0 := cell_of_row W g 0 _ _ _ h
  have h1 := cell_of_row W g 1 _ _ _ h
  have h2 := cell_of_row W g 2 _ _ _ h
  exact ⟨h0, h1, h2⟩
theorem hits_next {f u : Int} {L : List Sp} {k : Nat} (hk : k < L.length) (h : hits f u (L.take k) = false) (hx : ¬ (L[k].1 ≤ u ∧ f ≤ L[k].2.1)) : hits f u (L.take (k + 1)) = false := by
  rw [List.take_succ_eq_append_getElem hk]
  unfold hits at *
  rw [List.any_append, h]
  simp
  intro h1
  by_cases h2 : f ≤ L[k].2.1
  · exact absurd ⟨h1, h2⟩ hx
  · omega
theorem hits_yes {f u : Int} {L : List Sp} {k : Nat} (hk : k < L.length) (hx : L[k].1 ≤ u ∧ f ≤ L[k].2.1) : hits f u L = true := by
  unfold hits
  rw [List.any_eq_true]
  exact ⟨L[k], List.getElem_mem hk, by simp [hx]⟩
def SetQ (w : World) (most : Nat) (L : List Sp) (f u x : Int) (e : Ending) (w' : World) : Prop :=
  ∃ A' c', e = .returned (.tuple #[.slice A' (refL most L (f, u, x)).length c', .int .i64 (refE most L f u)]) ∧ Row w' A' (refL most L (f, u, x)) ∧ (A' = none → refL most L (f, u, x) = []) ∧ Below w.heap.size w w'
set_option maxHeartbeats 2000000 in
theorem ref_set_no (w : World) (A0 : Option Addr) (c most : Nat) (L : List Sp) (f u x : Int) (hr : Row w A0 L) (hA : A0 = none → L = []) (hs : ¬ isSp f u) : Calls Tryz.prog 29 #[.slice A0 L.length c, .int .i64 most, .agg #[.int .i64 f, .int .i64 u, .int .i64 x]] w (SetQ w most L f u x) := by
  have HI := Lib.hid (fun W => right_at (decide_eq_false hs) W)
  have HR := Lib.hid hr
  have HAn := Lib.hid hA
  have he : refE most L f u = 30 := by unfold refE; rw [if_neg hs]
  have HE : Hid (refE most L f u = 30 ∧ refL most L (f, u, x) = L) := Lib.hid ⟨he, by unfold refL; rw [if_neg (by rw [he]; decide)]⟩
  have HBF := Lib.hid (below_alloc w (.cells #[.int .i64 f, .int .i64 u, .int .i64 x] 24))
  clear hr hA hs he
  go_enter Tryz.func29, Tryz.ntmps29
  go_wp2_with (go_at_call 44; refine (HI.out _).mono ?_; rintro e w1 ⟨rfl, rfl⟩)
  go_ret2
  exact ⟨A0, c, by rw [HE.out.1, HE.out.2]; rfl, by rw [HE.out.2]; exact HR.out.on HBF.out, by rw [HE.out.2]; exact HAn.out, HBF.out⟩
set_option maxHeartbeats 2000000 in
theorem ref_set_yes (w : World) (A0 : Option Addr) (c most : Nat) (L : List Sp) (f u x : Int) (hr : Row w A0 L) (hA : A0 = none → L = []) (hs : isSp f u) (hl : L.length ≤ 100) : Calls Tryz.prog 29 #[.slice A0 L.length c, .int .i64 most, .agg #[.int .i64 f, .int .i64 u, .int .i64 x]] w (SetQ w most L f u x) := by
  have HI := Lib.hid (fun W => right_at (decide_eq_true hs) W)
  have HR := Lib.hid hr
  have HAn := Lib.hid hA
  have HSh := Lib.hid hl
  have HSp := Lib.hid hs
  have hx0 := heap_alloc_new w (.cells #[.int .i64 f, .int .i64 u, .int .i64 x] 24)
  have HX0 := Lib.hid (And.intro hx0 (below_alloc w (.cells #[.int .i64 f, .int .i64 u, .int .i64 x] 24)))
  have il : (L.length : Int) ≤ 100 := by omega
  clear hr hA hs hl hx0
  go_enter Tryz.func29, Tryz.ntmps29
  go_wp2_with (go_at_call 44; refine (HI.out _).mono ?_; rintro e w1 ⟨rfl, rfl⟩; refine Stop.out ?_)
  unfold Stop
  go_wp2
  clear HI
  go_loopw [8] (fun i wr => ∃ k : Nat, k ≤ L.length ∧ i = .int .i64 k ∧ Hid (hits f u (L.take k) = false) ∧ Hid (wr.heap[w.heap.size]? = some (.cells #[.int .i64 f, .int .i64 u, .int .i64 x] 24 (0, 0)) ∧ Below w.heap.size w wr)) (fun i _ => L.length - (intOf i).toNat)
  case atStart => exact ⟨0, Nat.zero_le _, rfl, Lib.hid rfl, HX0⟩
  case round =>
    obtain ⟨k, hk, rfl, HN0, HX⟩ := hrel
    by_cases hlt : k < L.length
    · have hlt' : (k : Int) < (L.length : Int) := by omega
      obtain ⟨b, o, rfl, hbl, y0, y1, y2⟩ := (HR.out.on HX.out.2).at_ k hlt
      obtain ⟨p, hp⟩ : ∃ p, p = L[k] := ⟨_, rfl⟩
      rw [← hp] at y0 y1 y2
      have HP := Lib.hid hp
      obtain ⟨x0, x1, x2⟩ := row3' HX.out.1
      clear hbl hp
      go_wp2
      refine wp_region_held_drew (S := fun W => W.cell? ⟨w.heap.size, 0, none⟩ = some (.int .i64 f) ∧ W.cell? ⟨w.heap.size, 1, none⟩ = some (.int .i64 u) ∧ W.cell? ⟨b, o + k * 3, none⟩ = some (.int .i64 p.1) ∧ W.cell? ⟨b, o + k * 3 + 1, none⟩ = some (.int .i64 p.2.1)) (by kernel_rfl) ⟨cell_on (below_drew _) x0, cell_on (below_drew _) x1, cell_on (below_drew _) y0, cell_on (below_drew _) y1⟩ ?_
      intro hHeld
      have HBD := Lib.hid (below_then HX.out.2 (below_drew wr))
      have HXD := Lib.hid (And.intro (heap_on (below_drew wr) HX.out.1) HBD.out)
      clear x0 x1 x2 y0 y1 y2 HX HX0
      generalize wr.drew = w0 at HBD HXD hHeld ⊢
      by_cases h1 : p.1 ≤ u
      · by_cases h2 : f ≤ p.2.1
        · have hh : hits f u L = true := hits_yes hlt (by rw [← HP.out]; exact ⟨h1, h2⟩)
          have he : refE most L f u = 50 := by unfold refE; rw [if_pos HSp.out, if_pos hh]
          have HE : Hid (refE most L f u = 50 ∧ refL most L (f, u, x) = L) := Lib.hid ⟨he, by unfold refL; rw [if_neg (by rw [he]; decide)]⟩
          clear hh he
          (refine takeH (i := 0) (v := ?_) rfl (by kernel_rfl) (by kernel_rfl) (by kernel_rfl) (fun _ _ _ h => h) (Or.inl ⟨by rfl, ?_⟩) (by assumption) ?_; rotate_left; (focus ((intro wS hSw); (try dsimp only at hSw); obtain ⟨s0, s1, s2, s3⟩ := hSw; go_simp; (try with_reducible rfl); done)); (try simp only [Act.put, List.setIfInBounds_toArray, List.set_cons_zero, List.set_cons_succ]))
          (refine takeH (i := 1) (v := ?_) rfl (by kernel_rfl) (by kernel_rfl) (by kernel_rfl) (fun _ _ _ h => h) (Or.inl ⟨by rfl, ?_⟩) (by assumption) ?_; rotate_left; (focus ((intro wS hSw); (try dsimp only at hSw); obtain ⟨s0, s1, s2, s3⟩ := hSw; go_simp; (try with_reducible rfl); done)); (try simp only [Act.put, List.setIfInBounds_toArray, List.set_cons_zero, List.set_cons_succ]))
          (refine takeH (i := 2) (v := ?_) rfl (by kernel_rfl) (by kernel_rfl) (by kernel_rfl) (fun _ _ _ h => h) (Or.inl ⟨by rfl, ?_⟩) (by assumption) ?_; rotate_left; (focus ((intro wS hSw); (try dsimp only at hSw); obtain ⟨s0, s1, s2, s3⟩ := hSw; go_simp; (try with_reducible rfl); done)); (try simp only [Act.put, List.setIfInBounds_toArray, List.set_cons_zero, List.set_cons_succ]))
          (refine takeH (i := 3) (v := ?_) rfl (by kernel_rfl) (by kernel_rfl) (by kernel_rfl) (fun _ _ _ h => h) (Or.inl ⟨by rfl, ?_⟩) (by assumption) ?_; rotate_left; (focus ((intro wS hSw); (try dsimp only at hSw); obtain ⟨s0, s1, s2, s3⟩ := hSw; go_simp; (try with_reducible rfl); done)); (try simp only [Act.put, List.setIfInBounds_toArray, List.set_cons_zero, List.set_cons_succ]))
          (refine takeH (i := 4) (v := ?_) rfl (by kernel_rfl) (by kernel_rfl) (by kernel_rfl) (fun _ _ _ h => h) (Or.inl ⟨by rfl, ?_⟩) (by assumption) ?_; rotate_left; (focus ((intro wS hSw); (try dsimp only at hSw); obtain ⟨s0, s1, s2, s3⟩ := hSw; go_simp; (try with_reducible rfl); done)); (try simp only [Act.put, List.setIfInBounds_toArray, List.set_cons_zero, List.set_cons_succ]))
          (refine takeH (i := 5) (v := ?_) rfl (by kernel_rfl) (by kernel_rfl) (by kernel_rfl) (fun _ _ _ h => h) (Or.inl ⟨by rfl, ?_⟩) (by assumption) ?_; rotate_left; (focus ((intro wS hSw); (try dsimp only at hSw); obtain ⟨s0, s1, s2, s3⟩ := hSw; go_simp; (try with_reducible rfl); done)); (try simp only [Act.put, List.setIfInBounds_toArray, List.set_cons_zero, List.set_cons_succ]))
          (refine takeH (i := 6) (v := ?_) rfl (by kernel_rfl) (by kernel_rfl) (by kernel_rfl) (fun _ _ _ h => h) (Or.inl ⟨by rfl, ?_⟩) (by assumption) ?_; rotate_left; (focus ((intro wS hSw); (try dsimp only at hSw); obtain ⟨s0, s1, s2, s3⟩ := hSw; go_simp; (try with_reducible rfl); done)); (try simp only [Act.put, List.setIfInBounds_toArray, List.set_cons_zero, List.set_cons_succ]))
          (refine takeH (i := 7) (v := (.bool true)) rfl (by kernel_rfl) (by kernel_rfl) (by kernel_rfl) (fun _ _ _ h => h) (Or.inl ⟨by rfl, by (intro wS hSw); (try dsimp only at hSw); (obtain ⟨s0, s1, s2, s3⟩ := hSw); go_simp; (first | done | omega | (simp; omega))⟩) (by assumption) ?_; (try simp only [Act.put, List.setIfInBounds_toArray, List.set_cons_zero, List.set_cons_succ]))
          (refine takeH (i := 8) (v := ?_) rfl (by kernel_rfl) (by kernel_rfl) (by kernel_rfl) (fun _ _ _ h => h) (Or.inl ⟨by rfl, ?_⟩) (by assumption) ?_; rotate_left; (focus ((intro wS hSw); (try dsimp only at hSw); obtain ⟨s0, s1, s2, s3⟩ := hSw; go_simp; (try with_reducible rfl); done)); (try simp only [Act.put, List.setIfInBounds_toArray, List.set_cons_zero, List.set_cons_succ]))
          (refine takeH (i := 9) (v := ?_) rfl (by kernel_rfl) (by kernel_rfl) (by kernel_rfl) (fun _ _ _ h => h) (Or.inl ⟨by rfl, ?_⟩) (by assumption) ?_; rotate_left; (focus ((intro wS hSw); (try dsimp only at hSw); obtain ⟨s0, s1, s2, s3⟩ := hSw; go_simp; (try with_reducible rfl); done)); (try simp only [Act.put, List.setIfInBounds_toArray, List.set_cons_zero, List.set_cons_succ]))
          (refine takeH (i := 10) (v := ?_) rfl (by kernel_rfl) (by kernel_rfl) (by kernel_rfl) (fun _ _ _ h => h) (Or.inl ⟨by rfl, ?_⟩) (by assumption) ?_; rotate_left; (focus ((intro wS hSw); (try dsimp only at hSw); obtain ⟨s0, s1, s2, s3⟩ := hSw; go_simp; (try with_reducible rfl); done)); (try simp only [Act.put, List.setIfInBounds_toArray, List.set_cons_zero, List.set_cons_succ]))
          (refine takeH (i := 11) (v := ?_) rfl (by kernel_rfl) (by kernel_rfl) (by kernel_rfl) (fun _ _ _ h => h) (Or.inl ⟨by rfl, ?_⟩) (by assumption) ?_; rotate_left; (focus ((intro wS hSw); (try dsimp only at hSw); obtain ⟨s0, s1, s2, s3⟩ := hSw; go_simp; (try with_reducible rfl); done)); (try simp only [Act.put, List.setIfInBounds_toArray, List.set_cons_zero, List.set_cons_succ]))
          (refine takeH (i := 12) (v := ?_) rfl (by kernel_rfl) (by kernel_rfl) (by kernel_rfl) (fun _ _ _ h => h) (Or.inl ⟨by rfl, ?_⟩) (by assumption) ?_; rotate_left; (focus ((intro wS hSw); (try dsimp only at hSw); obtain ⟨s0, s1, s2, s3⟩ := hSw; go_simp; (try with_reducible rfl); done)); (try simp only [Act.put, List.setIfInBounds_toArray, List.set_cons_zero, List.set_cons_succ]))
          (refine takeH (i := 13) (v := ?_) rfl (by kernel_rfl) (by kernel_rfl) (by kernel_rfl) (fun _ _ _ h => h) (Or.inl ⟨by rfl, ?_⟩) (by assumption) ?_; rotate_left; (focus ((intro wS hSw); (try dsimp only at hSw); obtain ⟨s0, s1, s2, s3⟩ := hSw; go_simp; (try with_reducible rfl); done)); (try simp only [Act.put, List.setIfInBounds_toArray, List.set_cons_zero, List.set_cons_succ]))
          (refine takeH (i := 14) (v := ?_) rfl (by kernel_rfl) (by kernel_rfl) (by kernel_rfl) (fun _ _ _ h => h) (Or.inl ⟨by rfl, ?_⟩) (by assumption) ?_; rotate_left; (focus ((intro wS hSw); (try dsimp only at hSw); obtain ⟨s0, s1, s2, s3⟩ := hSw; go_simp; (try with_reducible rfl); done)); (try simp only [Act.put, List.setIfInBounds_toArray, List.set_cons_zero, List.set_cons_succ]))
          (refine takeH (i := 15) (v := ?_) rfl (by kernel_rfl) (by kernel_rfl) (by kernel_rfl) (fun _ _ _ h => h) (Or.inl ⟨by rfl, ?_⟩) (by assumption) ?_; rotate_left; (focus ((intro wS hSw); (try dsimp only at hSw); obtain ⟨s0, s1, s2, s3⟩ := hSw; go_simp; (try with_reducible rfl); done)); (try simp only [Act.put, List.setIfInBounds_toArray, List.set_cons_zero, List.set_cons_succ]))
          (refine takeH (i := 16) (v := (.bool true)) rfl (by kernel_rfl) (by kernel_rfl) (by kernel_rfl) (fun _ _ _ h => h) (Or.inl ⟨by rfl, by (intro wS hSw); (try dsimp only at hSw); (obtain ⟨s0, s1, s2, s3⟩ := hSw); go_simp; (first | done | omega | (simp; omega))⟩) (by assumption) ?_; (try simp only [Act.put, List.setIfInBounds_toArray, List.set_cons_zero, List.set_cons_succ]))
          (refine takeH (i := 17) (v := ?_) rfl (by kernel_rfl) (by kernel_rfl) (by kernel_rfl) (fun _ _ _ h => h) (Or.inl ⟨by rfl, ?_⟩) (by assumption) ?_; rotate_left; (focus ((intro wS hSw); (try dsimp only at hSw); obtain ⟨s0, s1, s2, s3⟩ := hSw; go_simp; (try with_reducible rfl); done)); (try simp only [Act.put, List.setIfInBounds_toArray, List.set_cons_zero, List.set_cons_succ]))
          refine wpAnyH_done (by kernel_rfl) ?_ _
          clear hHeld
          have HBF := Lib.hid HBD.out
          go_wp2
          go_ret2
          exact ⟨_, c, by rw [HE.out.1, HE.out.2]; rfl, by rw [HE.out.2]; exact HR.out.on HBF.out, by rw [HE.out.2]; exact HAn.out, HBF.out⟩
        · have HN := Lib.hid (hits_next hlt HN0.out (by rw [← HP.out]; exact fun h => h2 h.2))
          (refine takeH (i := 0) (v := ?_) rfl (by kernel_rfl) (by kernel_rfl) (by kernel_rfl) (fun _ _ _ h => h) (Or.inl ⟨by rfl, ?_⟩) (by assumption) ?_; rotate_left; (focus ((intro wS hSw); (try dsimp only at hSw); obtain ⟨s0, s1, s2, s3⟩ := hSw; go_simp; (try with_reducible rfl); done)); (try simp only [Act.put, List.setIfInBounds_toArray, List.set_cons_zero, List.set_cons_succ]))
          (refine takeH (i := 1) (v := ?_) rfl (by kernel_rfl) (by kernel_rfl) (by kernel_rfl) (fun _ _ _ h => h) (Or.inl ⟨by rfl, ?_⟩) (by assumption) ?_; rotate_left; (focus ((intro wS hSw); (try dsimp only at hSw); obtain ⟨s0, s1, s2, s3⟩ := hSw; go_simp; (try with_reducible rfl); done)); (try simp only [Act.put, List.setIfInBounds_toArray, List.set_cons_zero, List.set_cons_succ]))
          (refine takeH (i := 2) (v := ?_) rfl (by kernel_rfl) (by kernel_rfl) (by kernel_rfl) (fun _ _ _ h => h) (Or.inl ⟨by rfl, ?_⟩) (by assumption) ?_; rotate_left; (focus ((intro wS hSw); (try dsimp only at hSw); obtain ⟨s0, s1, s2, s3⟩ := hSw; go_simp; (try with_reducible rfl); done)); (try simp only [Act.put, List.setIfInBounds_toArray, List.set_cons_zero, List.set_cons_succ]))
          (refine takeH (i := 3) (v := ?_) rfl (by kernel_rfl) (by kernel_rfl) (by kernel_rfl) (fun _ _ _ h => h) (Or.inl ⟨by rfl, ?_⟩) (by assumption) ?_; rotate_left; (focus ((intro wS hSw); (try dsimp only at hSw); obtain ⟨s0, s1, s2, s3⟩ := hSw; go_simp; (try with_reducible rfl); done)); (try simp only [Act.put, List.setIfInBounds_toArray, List.set_cons_zero, List.set_cons_succ]))
          (refine takeH (i := 4) (v := ?_) rfl (by kernel_rfl) (by kernel_rfl) (by kernel_rfl) (fun _ _ _ h => h) (Or.inl ⟨by rfl, ?_⟩) (by assumption) ?_; rotate_left; (focus ((intro wS hSw); (try dsimp only at hSw); obtain ⟨s0, s1, s2, s3⟩ := hSw; go_simp; (try with_reducible rfl); done)); (try simp only [Act.put, List.setIfInBounds_toArray, List.set_cons_zero, List.set_cons_succ]))
          (refine takeH (i := 5) (v := ?_) rfl (by kernel_rfl) (by kernel_rfl) (by kernel_rfl) (fun _ _ _ h => h) (Or.inl ⟨by rfl, ?_⟩) (by assumption) ?_; rotate_left; (focus ((intro wS hSw); (try dsimp only at hSw); obtain ⟨s0, s1, s2, s3⟩ := hSw; go_simp; (try with_reducible rfl); done)); (try simp only [Act.put, List.setIfInBounds_toArray, List.set_cons_zero, List.set_cons_succ]))
          (refine takeH (i := 6) (v := ?_) rfl (by kernel_rfl) (by kernel_rfl) (by kernel_rfl) (fun _ _ _ h => h) (Or.inl ⟨by rfl, ?_⟩) (by assumption) ?_; rotate_left; (focus ((intro wS hSw); (try dsimp only at hSw); obtain ⟨s0, s1, s2, s3⟩ := hSw; go_simp; (try with_reducible rfl); done)); (try simp only [Act.put, List.setIfInBounds_toArray, List.set_cons_zero, List.set_cons_succ]))
          (refine takeH (i := 7) (v := (.bool true)) rfl (by kernel_rfl) (by kernel_rfl) (by kernel_rfl) (fun _ _ _ h => h) (Or.inl ⟨by rfl, by (intro wS hSw); (try dsimp only at hSw); (obtain ⟨s0, s1, s2, s3⟩ := hSw); go_simp; (first | done | omega | (simp; omega))⟩) (by assumption) ?_; (try simp only [Act.put, List.setIfInBounds_toArray, List.set_cons_zero, List.set_cons_succ]))
          (refine takeH (i := 8) (v := ?_) rfl (by kernel_rfl) (by kernel_rfl) (by kernel_rfl) (fun _ _ _ h => h) (Or.inl ⟨by rfl, ?_⟩) (by assumption) ?_; rotate_left; (focus ((intro wS hSw); (try dsimp only at hSw); obtain ⟨s0, s1, s2, s3⟩ := hSw; go_simp; (try with_reducible rfl); done)); (try simp only [Act.put, List.setIfInBounds_toArray, List.set_cons_zero, List.set_cons_succ]))
          (refine takeH (i := 9) (v := ?_) rfl (by kernel_rfl) (by kernel_rfl) (by kernel_rfl) (fun _ _ _ h => h) (Or.inl ⟨by rfl, ?_⟩) (by assumption) ?_; rotate_left; (focus ((intro wS hSw); (try dsimp only at hSw); obtain ⟨s0, s1, s2, s3⟩ := hSw; go_simp; (try with_reducible rfl); done)); (try simp only [Act.put, List.setIfInBounds_toArray, List.set_cons_zero, List.set_cons_succ]))
          (refine takeH (i := 10) (v := ?_) rfl (by kernel_rfl) (by kernel_rfl) (by kernel_rfl) (fun _ _ _ h => h) (Or.inl ⟨by rfl, ?_⟩) (by assumption) ?_; rotate_left; (focus ((intro wS hSw); (try dsimp only at hSw); obtain ⟨s0, s1, s2, s3⟩ := hSw; go_simp; (try with_reducible rfl); done)); (try simp only [Act.put, List.setIfInBounds_toArray, List.set_cons_zero, List.set_cons_succ]))
          (refine takeH (i := 11) (v := ?_) rfl (by kernel_rfl) (by kernel_rfl) (by kernel_rfl) (fun _ _ _ h => h) (Or.inl ⟨by rfl, ?_⟩) (by assumption) ?_; rotate_left; (focus ((intro wS hSw); (try dsimp only at hSw); obtain ⟨s0, s1, s2, s3⟩ := hSw; go_simp; (try with_reducible rfl); done)); (try simp only [Act.put, List.setIfInBounds_toArray, List.set_cons_zero, List.set_cons_succ]))
          (refine takeH (i := 12) (v := ?_) rfl (by kernel_rfl) (by kernel_rfl) (by kernel_rfl) (fun _ _ _ h => h) (Or.inl ⟨by rfl, ?_⟩) (by assumption) ?_; rotate_left; (focus ((intro wS hSw); (try dsimp only at hSw); obtain ⟨s0, s1, s2, s3⟩ := hSw; go_simp; (try with_reducible rfl); done)); (try simp only [Act.put, List.setIfInBounds_toArray, List.set_cons_zero, List.set_cons_succ]))
          (refine takeH (i := 13) (v := ?_) rfl (by kernel_rfl) (by kernel_rfl) (by kernel_rfl) (fun _ _ _ h => h) (Or.inl ⟨by rfl, ?_⟩) (by assumption) ?_; rotate_left; (focus ((intro wS hSw); (try dsimp only at hSw); obtain ⟨s0, s1, s2, s3⟩ := hSw; go_simp; (try with_reducible rfl); done)); (try simp only [Act.put, List.setIfInBounds_toArray, List.set_cons_zero, List.set_cons_succ]))
          (refine takeH (i := 14) (v := ?_) rfl (by kernel_rfl) (by kernel_rfl) (by kernel_rfl) (fun _ _ _ h => h) (Or.inl ⟨by rfl, ?_⟩) (by assumption) ?_; rotate_left; (focus ((intro wS hSw); (try dsimp only at hSw); obtain ⟨s0, s1, s2, s3⟩ := hSw; go_simp; (try with_reducible rfl); done)); (try simp only [Act.put, List.setIfInBounds_toArray, List.set_cons_zero, List.set_cons_succ]))
          (refine takeH (i := 15) (v := ?_) rfl (by kernel_rfl) (by kernel_rfl) (by kernel_rfl) (fun _ _ _ h => h) (Or.inl ⟨by rfl, ?_⟩) (by assumption) ?_; rotate_left; (focus ((intro wS hSw); (try dsimp only at hSw); obtain ⟨s0, s1, s2, s3⟩ := hSw; go_simp; (try with_reducible rfl); done)); (try simp only [Act.put, List.setIfInBounds_toArray, List.set_cons_zero, List.set_cons_succ]))
          (refine takeH (i := 16) (v := (.bool false)) rfl (by kernel_rfl) (by kernel_rfl) (by kernel_rfl) (fun _ _ _ h => h) (Or.inl ⟨by rfl, by (intro wS hSw); (try dsimp only at hSw); (obtain ⟨s0, s1, s2, s3⟩ := hSw); go_simp; (first | done | omega | (simp; omega))⟩) (by assumption) ?_; (try simp only [Act.put, List.setIfInBounds_toArray, List.set_cons_zero, List.set_cons_succ]))
          (refine takeH (i := 17) (v := ?_) rfl (by kernel_rfl) (by kernel_rfl) (by kernel_rfl) (fun _ _ _ h => h) (Or.inl ⟨by rfl, ?_⟩) (by assumption) ?_; rotate_left; (focus ((intro wS hSw); (try dsimp only at hSw); obtain ⟨s0, s1, s2, s3⟩ := hSw; go_simp; (try with_reducible rfl); done)); (try simp only [Act.put, List.setIfInBounds_toArray, List.set_cons_zero, List.set_cons_succ]))
          refine wpAnyH_done (by kernel_rfl) ?_ _
          clear hHeld
          have HBF := Lib.hid HBD.out
          go_wp2
          go_roundw
          case rel => exact ⟨k + 1, by omega, by go_num, HN, HXD⟩
          case measure => simp [intOf]; omega
      · have HN := Lib.hid (hits_next hlt HN0.out (by rw [← HP.out]; exact fun h => h1 h.1))
        (refine takeH (i := 0) (v := ?_) rfl (by kernel_rfl) (by kernel_rfl) (by kernel_rfl) (fun _ _ _ h => h) (Or.inl ⟨by rfl, ?_⟩) (by assumption) ?_; rotate_left; (focus ((intro wS hSw); (try dsimp only at hSw); obtain ⟨s0, s1, s2, s3⟩ := hSw; go_simp; (try with_reducible rfl); done)); (try simp only [Act.put, List.setIfInBounds_toArray, List.set_cons_zero, List.set_cons_succ]))
        (refine takeH (i := 1) (v := ?_) rfl (by kernel_rfl) (by kernel_rfl) (by kernel_rfl) (fun _ _ _ h => h) (Or.inl ⟨by rfl, ?_⟩) (by assumption) ?_; rotate_left; (focus ((intro wS hSw); (try dsimp only at hSw); obtain ⟨s0, s1, s2, s3⟩ := hSw; go_simp; (try with_reducible rfl); done)); (try simp only [Act.put, List.setIfInBounds_toArray, List.set_cons_zero, List.set_cons_succ]))
        (refine takeH (i := 2) (v := ?_) rfl (by kernel_rfl) (by kernel_rfl) (by kernel_rfl) (fun _ _ _ h => h) (Or.inl ⟨by rfl, ?_⟩) (by assumption) ?_; rotate_left; (focus ((intro wS hSw); (try dsimp only at hSw); obtain ⟨s0, s1, s2, s3⟩ := hSw; go_simp; (try with_reducible rfl); done)); (try simp only [Act.put, List.setIfInBounds_toArray, List.set_cons_zero, List.set_cons_succ]))
        (refine takeH (i := 3) (v := ?_) rfl (by kernel_rfl) (by kernel_rfl) (by kernel_rfl) (fun _ _ _ h => h) (Or.inl ⟨by rfl, ?_⟩) (by assumption) ?_; rotate_left; (focus ((intro wS hSw); (try dsimp only at hSw); obtain ⟨s0, s1, s2, s3⟩ := hSw; go_simp; (try with_reducible rfl); done)); (try simp only [Act.put, List.setIfInBounds_toArray, List.set_cons_zero, List.set_cons_succ]))
        (refine takeH (i := 4) (v := ?_) rfl (by kernel_rfl) (by kernel_rfl) (by kernel_rfl) (fun _ _ _ h => h) (Or.inl ⟨by rfl, ?_⟩) (by assumption) ?_; rotate_left; (focus ((intro wS hSw); (try dsimp only at hSw); obtain ⟨s0, s1, s2, s3⟩ := hSw; go_simp; (try with_reducible rfl); done)); (try simp only [Act.put, List.setIfInBounds_toArray, List.set_cons_zero, List.set_cons_succ]))
        (refine takeH (i := 5) (v := ?_) rfl (by kernel_rfl) (by kernel_rfl) (by kernel_rfl) (fun _ _ _ h => h) (Or.inl ⟨by rfl, ?_⟩) (by assumption) ?_; rotate_left; (focus ((intro wS hSw); (try dsimp only at hSw); obtain ⟨s0, s1, s2, s3⟩ := hSw; go_simp; (try with_reducible rfl); done)); (try simp only [Act.put, List.setIfInBounds_toArray, List.set_cons_zero, List.set_cons_succ]))
        (refine takeH (i := 6) (v := ?_) rfl (by kernel_rfl) (by kernel_rfl) (by kernel_rfl) (fun _ _ _ h => h) (Or.inl ⟨by rfl, ?_⟩) (by assumption) ?_; rotate_left; (focus ((intro wS hSw); (try dsimp only at hSw); obtain ⟨s0, s1, s2, s3⟩ := hSw; go_simp; (try with_reducible rfl); done)); (try simp only [Act.put, List.setIfInBounds_toArray, List.set_cons_zero, List.set_cons_succ]))
        (refine takeH (i := 7) (v := (.bool false)) rfl (by kernel_rfl) (by kernel_rfl) (by kernel_rfl) (fun _ _ _ h => h) (Or.inl ⟨by rfl, by (intro wS hSw); (try dsimp only at hSw); (obtain ⟨s0, s1, s2, s3⟩ := hSw); go_simp; (first | done | omega | (simp; omega))⟩) (by assumption) ?_; (try simp only [Act.put, List.setIfInBounds_toArray, List.set_cons_zero, List.set_cons_succ]))
        (refine takeH (i := 8) (v := ?_) rfl (by kernel_rfl) (by kernel_rfl) (by kernel_rfl) (fun _ _ _ h => h) (Or.inl ⟨by rfl, ?_⟩) (by assumption) ?_; rotate_left; (focus ((intro wS hSw); (try dsimp only at hSw); obtain ⟨s0, s1, s2, s3⟩ := hSw; go_simp; (try with_reducible rfl); done)); (try simp only [Act.put, List.setIfInBounds_toArray, List.set_cons_zero, List.set_cons_succ]))
        (refine takeH (i := 9) (v := undef) rfl (by kernel_rfl) (by kernel_rfl) (by kernel_rfl) (fun _ _ _ h => h) (Or.inr ⟨by rfl, rfl⟩) (by assumption) ?_; (try simp only [Act.put, List.setIfInBounds_toArray, List.set_cons_zero, List.set_cons_succ]))
        (refine takeH (i := 10) (v := undef) rfl (by kernel_rfl) (by kernel_rfl) (by kernel_rfl) (fun _ _ _ h => h) (Or.inr ⟨by rfl, rfl⟩) (by assumption) ?_; (try simp only [Act.put, List.setIfInBounds_toArray, List.set_cons_zero, List.set_cons_succ]))
        (refine takeH (i := 11) (v := undef) rfl (by kernel_rfl) (by kernel_rfl) (by kernel_rfl) (fun _ _ _ h => h) (Or.inr ⟨by rfl, rfl⟩) (by assumption) ?_; (try simp only [Act.put, List.setIfInBounds_toArray, List.set_cons_zero, List.set_cons_succ]))
        (refine takeH (i := 12) (v := undef) rfl (by kernel_rfl) (by kernel_rfl) (by kernel_rfl) (fun _ _ _ h => h) (Or.inr ⟨by rfl, rfl⟩) (by assumption) ?_; (try simp only [Act.put, List.setIfInBounds_toArray, List.set_cons_zero, List.set_cons_succ]))
        (refine takeH (i := 13) (v := undef) rfl (by kernel_rfl) (by kernel_rfl) (by kernel_rfl) (fun _ _ _ h => h) (Or.inr ⟨by rfl, rfl⟩) (by assumption) ?_; (try simp only [Act.put, List.setIfInBounds_toArray, List.set_cons_zero, List.set_cons_succ]))
        (refine takeH (i := 14) (v := undef) rfl (by kernel_rfl) (by kernel_rfl) (by kernel_rfl) (fun _ _ _ h => h) (Or.inr ⟨by rfl, rfl⟩) (by assumption) ?_; (try simp only [Act.put, List.setIfInBounds_toArray, List.set_cons_zero, List.set_cons_succ]))
        (refine takeH (i := 15) (v := undef) rfl (by kernel_rfl) (by kernel_rfl) (by kernel_rfl) (fun _ _ _ h => h) (Or.inr ⟨by rfl, rfl⟩) (by assumption) ?_; (try simp only [Act.put, List.setIfInBounds_toArray, List.set_cons_zero, List.set_cons_succ]))
        (refine takeH (i := 16) (v := undef) rfl (by kernel_rfl) (by kernel_rfl) (by kernel_rfl) (fun _ _ _ h => h) (Or.inr ⟨by rfl, rfl⟩) (by assumption) ?_; (try simp only [Act.put, List.setIfInBounds_toArray, List.set_cons_zero, List.set_cons_succ]))
        (refine takeH (i := 17) (v := ?_) rfl (by kernel_rfl) (by kernel_rfl) (by kernel_rfl) (fun _ _ _ h => h) (Or.inl ⟨by rfl, ?_⟩) (by assumption) ?_; rotate_left; (focus ((intro wS hSw); (try dsimp only at hSw); obtain ⟨s0, s1, s2, s3⟩ := hSw; go_simp; (try with_reducible rfl); done)); (try simp only [Act.put, List.setIfInBounds_toArray, List.set_cons_zero, List.set_cons_succ]))
        refine wpAnyH_done (by kernel_rfl) ?_ _
        clear hHeld
        have HBF := Lib.hid HBD.out
        go_wp2
        go_roundw
        case rel => exact ⟨k + 1, by omega, by go_num, HN, HXD⟩
        case measure => simp [intOf]; omega
    · obtain rfl : k = L.length := by omega
      have hh : hits f u L = false := by have := HN0.out; rwa [List.take_length] at this
      by_cases hf : most ≤ L.length
      · have he : refE most L f u = 31 := by unfold refE; rw [if_pos HSp.out, hh, if_neg (by decide), if_pos hf]
        have HE : Hid (refE most L f u = 31 ∧ refL most L (f, u, x) = L) := Lib.hid ⟨he, by unfold refL; rw [if_neg (by rw [he]; decide)]⟩
        have hf' : (most : Int) ≤ (L.length : Int) := by omega
        clear hh he
        go_wp2
        go_ret2
        exact ⟨A0, c, by rw [HE.out.1, HE.out.2]; rfl, by rw [HE.out.2]; exact HR.out.on HX.out.2, by rw [HE.out.2]; exact HAn.out, HX.out.2⟩
      · have he : refE most L f u = 0 := by unfold refE; rw [if_pos HSp.out, hh, if_neg (by decide), if_neg hf]
        have HE : Hid (refE most L f u = 0 ∧ refL most L (f, u, x) = L ++ [(f, u, x)]) := Lib.hid ⟨he, by unfold refL; rw [if_pos he]⟩
        have hf' : ¬ (most : Int) ≤ (L.length : Int) := by omega
        obtain ⟨x0, x1, x2⟩ := row3' HX.out.1
        clear hh he
        go_wp2
        refine wp_region_held_drew (S := fun W => W.cell? ⟨w.heap.size, 0, none⟩ = some (.int .i64 f) ∧ W.cell? ⟨w.heap.size, 1, none⟩ = some (.int .i64 u) ∧ W.cell? ⟨w.heap.size, 2, none⟩ = some (.int .i64 x)) (by kernel_rfl) ⟨cell_on (below_drew _) x0, cell_on (below_drew _) x1, cell_on (below_drew _) x2⟩ ?_
        intro hHeld
        have HBD := Lib.hid (below_then HX.out.2 (below_drew wr))
        have HLt : Hid (w.heap.size < wr.drew.heap.size) := Lib.hid (heapLt (heap_on (below_drew wr) HX.out.1))
        clear x0 x1 x2 HX HX0
        generalize wr.drew = wd at HBD HLt hHeld ⊢
        (refine takeH (i := 1) (v := ?_) rfl (by kernel_rfl) (by kernel_rfl) (by kernel_rfl) (fun _ _ _ h => h) (Or.inl ⟨by rfl, ?_⟩) (by assumption) ?_; rotate_left; (focus ((intro wS hSw); (try dsimp only at hSw); obtain ⟨s0, s1, s2⟩ := hSw; go_simp; (try with_reducible rfl); done)); (try simp only [Act.put, List.setIfInBounds_toArray, List.set_cons_zero, List.set_cons_succ]))
        (refine takeH (i := 3) (v := ?_) rfl (by kernel_rfl) (by kernel_rfl) (by kernel_rfl) (fun _ _ _ h => h) (Or.inl ⟨by rfl, ?_⟩) (by assumption) ?_; rotate_left; (focus ((intro wS hSw); (try dsimp only at hSw); obtain ⟨s0, s1, s2⟩ := hSw; go_simp; (try with_reducible rfl); done)); (try simp only [Act.put, List.setIfInBounds_toArray, List.set_cons_zero, List.set_cons_succ]))
        refine twoH (i := 0) (i2 := 4) rfl rfl (by kernel_rfl) (fun K hK => ?_) (fun K hK => ?_)
        · rw [if_pos (by rfl)]
          go_simp
          have HO1 := Lib.hid (ownQ_nil wd)
          have HB1 := Lib.hid (below_alloc wd (.cells #[] 24))
          generalize hx : World.alloc wd (.cells #[] 24) = w1 at HO1 HB1 ⊢
          clear hx
          refine hK.out _ _ (⟨cell_on HB1.out hHeld.1, cell_on HB1.out hHeld.2.1, cell_on HB1.out hHeld.2.2⟩) (fun hNew => ?_)
          clear hK K hHeld; (have hHeld := hNew); clear hNew; (try simp only [Act.put, List.setIfInBounds_toArray, List.set_cons_zero, List.set_cons_succ])
          refine twoH (i := 2) (i2 := 4) rfl rfl (by kernel_rfl) (fun K hK => ?_) (fun K hK => ?_)
          · rw [if_pos (by rfl)]
            refine wp_append_q w1 (.tmp 46) (.tmp 47) rfl rfl wd.heap.size (.slice (some ⟨wd.heap.size, 0, none⟩) 0 0) [] rfl (HO1.out.less (below_same wd).size) A0 L.length c L rfl rfl (HR.out.on (HBD.out.trans (((below_same wd).trans (HB1.out.mono (below_same wd).size)).mono HBD.out.size))) HAn.out (by have := HSh.out; simp; omega) ((below_same wd).trans (HB1.out.mono (below_same wd).size)).size ?_
            intro v2 wv hown hg
            have HB2 : Hid (Below wd.heap.size w1 wv) := Lib.hid ((Below.refl _ _).grown hg ((below_same wd).trans (HB1.out.mono (below_same wd).size)).size (fun k hk => by simp [Value.ownBlock] at hk; have := (below_same wd).size; omega))
            have HO2 : Hid (OwnQ wv wd.heap.size v2 L) := Lib.hid hown
            clear hown hg
            generalize wv = w2 at HO2 HB2 ⊢
            refine hK.out _ _ (⟨(HB2.out.cell HLt.out).trans hHeld.1, (HB2.out.cell HLt.out).trans hHeld.2.1, (HB2.out.cell HLt.out).trans hHeld.2.2⟩) (fun hNew => ?_)
            clear hK K hHeld; (have hHeld := hNew); clear hNew; (try simp only [Act.put, List.setIfInBounds_toArray, List.set_cons_zero, List.set_cons_succ])
            refine aloneH (i := 4) rfl (by kernel_rfl) (fun K hK => ?_)
            rw [if_pos (by rfl)]
            go_simp
            have HX3 := Lib.hid (heap_alloc_new w2 (.cells #[.int .i64 f, .int .i64 u, .int .i64 x] 24))
            have HB3 := Lib.hid (below_alloc w2 (.cells #[.int .i64 f, .int .i64 u, .int .i64 x] 24))
            generalize hx : World.alloc w2 (.cells #[.int .i64 f, .int .i64 u, .int .i64 x] 24) = w3 at HX3 HB3 ⊢
            clear hx
            refine hK.out _ _ (⟨cell_on HB3.out hHeld.1, cell_on HB3.out hHeld.2.1, cell_on HB3.out hHeld.2.2⟩) (fun hNew => ?_)
            clear hK K hHeld; (have hHeld := hNew); clear hNew; (try simp only [Act.put, List.setIfInBounds_toArray, List.set_cons_zero, List.set_cons_succ])
            refine aloneH (i := 5) rfl (by kernel_rfl) (fun K hK => ?_)
            rw [if_pos (by rfl)]
            refine wp_append_q w3 (.tmp 48) (.tmp 50) rfl rfl wd.heap.size v2 L rfl (HO2.out.on HB3.out) (some ⟨w2.heap.size, 0, none⟩) 1 1 [(f, u, x)] rfl rfl (box_row HX3.out) (by simp) (by have := HSh.out; simp; omega) ((((below_same wd).trans (HB1.out.mono (below_same wd).size)).trans HB2.out).trans (HB3.out.mono (((below_same wd).trans (HB1.out.mono (below_same wd).size)).trans HB2.out).size)).size ?_
            intro v3 wv hown hg
            have HB4 : Hid (Below wd.heap.size w3 wv) := Lib.hid ((Below.refl _ _).grown hg ((((below_same wd).trans (HB1.out.mono (below_same wd).size)).trans HB2.out).trans (HB3.out.mono (((below_same wd).trans (HB1.out.mono (below_same wd).size)).trans HB2.out).size)).size (fun k hk => (World.ownsRow.lt (HO2.out.on HB3.out) k hk).1))
            have HO4 : Hid (OwnQ wv wd.heap.size v3 (L ++ [(f, u, x)])) := Lib.hid hown
            clear hown hg
            generalize wv = w4 at HO4 HB4 ⊢
            refine hK.out _ _ (⟨(HB4.out.cell HLt.out).trans hHeld.1, (HB4.out.cell HLt.out).trans hHeld.2.1, (HB4.out.cell HLt.out).trans hHeld.2.2⟩) (fun hNew => ?_)
            clear hK K hHeld; (have hHeld := hNew); clear hNew; (try simp only [Act.put, List.setIfInBounds_toArray, List.set_cons_zero, List.set_cons_succ])
            (refine takeH (i := 6) (v := ?_) rfl (by kernel_rfl) (by kernel_rfl) (by kernel_rfl) (fun _ _ _ h => h) (Or.inl ⟨by rfl, ?_⟩) (by assumption) ?_; rotate_left; (focus ((intro wS hSw); (try dsimp only at hSw); obtain ⟨s0, s1, s2⟩ := hSw; go_simp; (try with_reducible rfl); done)); (try simp only [Act.put, List.setIfInBounds_toArray, List.set_cons_zero, List.set_cons_succ]))
            (refine takeH (i := 7) (v := ?_) rfl (by kernel_rfl) (by kernel_rfl) (by kernel_rfl) (fun _ _ _ h => h) (Or.inl ⟨by rfl, ?_⟩) (by assumption) ?_; rotate_left; (focus ((intro wS hSw); (try dsimp only at hSw); obtain ⟨s0, s1, s2⟩ := hSw; go_simp; (try with_reducible rfl); done)); (try simp only [Act.put, List.setIfInBounds_toArray, List.set_cons_zero, List.set_cons_succ]))
            refine wpAnyH_done (by kernel_rfl) ?_ _
            clear hHeld
            have HBF : Hid (Below w.heap.size w w4) := Lib.hid (HBD.out.trans ((((((below_same wd).trans (HB1.out.mono (below_same wd).size)).trans HB2.out).trans (HB3.out.mono (((below_same wd).trans (HB1.out.mono (below_same wd).size)).trans HB2.out).size)).trans HB4.out).mono HBD.out.size))
            obtain ⟨A3, c3, rfl, hr3, hn3⟩ := HO4.out.form
            have HF := Lib.hid (And.intro hr3 hn3)
            clear hr3 hn3
            go_wp2
            go_ret2
            exact ⟨A3, c3, by rw [HE.out.1, HE.out.2]; rfl, by rw [HE.out.2]; exact HF.out.1, by rw [HE.out.2]; exact HF.out.2, HBF.out⟩
          · rw [if_pos (by rfl)]
            go_simp
            have HX2 := Lib.hid (heap_alloc_new w1 (.cells #[.int .i64 f, .int .i64 u, .int .i64 x] 24))
            have HB2 := Lib.hid (below_alloc w1 (.cells #[.int .i64 f, .int .i64 u, .int .i64 x] 24))
            generalize hx : World.alloc w1 (.cells #[.int .i64 f, .int .i64 u, .int .i64 x] 24) = w2 at HX2 HB2 ⊢
            clear hx
            refine hK.out _ _ (⟨cell_on HB2.out hHeld.1, cell_on HB2.out hHeld.2.1, cell_on HB2.out hHeld.2.2⟩) (fun hNew => ?_)
            clear hK K hHeld; (have hHeld := hNew); clear hNew; (try simp only [Act.put, List.setIfInBounds_toArray, List.set_cons_zero, List.set_cons_succ])
            refine aloneH (i := 2) rfl (by kernel_rfl) (fun K hK => ?_)
            rw [if_pos (by rfl)]
            refine wp_append_q w2 (.tmp 46) (.tmp 47) rfl rfl wd.heap.size (.slice (some ⟨wd.heap.size, 0, none⟩) 0 0) [] rfl ((HO1.out.on HB2.out).less (below_same wd).size) A0 L.length c L rfl rfl (HR.out.on (HBD.out.trans ((((below_same wd).trans (HB1.out.mono (below_same wd).size)).trans (HB2.out.mono ((below_same wd).trans (HB1.out.mono (below_same wd).size)).size)).mono HBD.out.size))) HAn.out (by have := HSh.out; simp; omega) (((below_same wd).trans (HB1.out.mono (below_same wd).size)).trans (HB2.out.mono ((below_same wd).trans (HB1.out.mono (below_same wd).size)).size)).size ?_
            intro v2 wv hown hg
            have HB3 : Hid (Below wd.heap.size w2 wv) := Lib.hid ((Below.refl _ _).grown hg (((below_same wd).trans (HB1.out.mono (below_same wd).size)).trans (HB2.out.mono ((below_same wd).trans (HB1.out.mono (below_same wd).size)).size)).size (fun k hk => by simp [Value.ownBlock] at hk; have := (below_same wd).size; omega))
            have HO3 : Hid (OwnQ wv wd.heap.size v2 L) := Lib.hid hown
            have HX3 : Hid (wv.heap[w1.heap.size]? = some (.cells #[.int .i64 f, .int .i64 u, .int .i64 x] 24 (0, 0))) := Lib.hid ((hg.block _ (heapLt HX2.out) (fun e => by have e2 : w1.heap.size = wd.heap.size := Option.some.inj e; have h1 : wd.heap.size < w1.heap.size := (World.ownsRow.lt HO1.out _ rfl).2; have h2 := (below_same w1).size; omega)).trans HX2.out)
            clear hown hg
            generalize wv = w3 at HO3 HB3 HX3 ⊢
            refine hK.out _ _ (⟨(HB3.out.cell HLt.out).trans hHeld.1, (HB3.out.cell HLt.out).trans hHeld.2.1, (HB3.out.cell HLt.out).trans hHeld.2.2⟩) (fun hNew => ?_)
            clear hK K hHeld; (have hHeld := hNew); clear hNew; (try simp only [Act.put, List.setIfInBounds_toArray, List.set_cons_zero, List.set_cons_succ])
            refine aloneH (i := 5) rfl (by kernel_rfl) (fun K hK => ?_)
            rw [if_pos (by rfl)]
            refine wp_append_q w3 (.tmp 48) (.tmp 50) rfl rfl wd.heap.size v2 L rfl HO3.out (some ⟨w1.heap.size, 0, none⟩) 1 1 [(f, u, x)] rfl rfl (box_row HX3.out) (by simp) (by have := HSh.out; simp; omega) ((((below_same wd).trans (HB1.out.mono (below_same wd).size)).trans (HB2.out.mono ((below_same wd).trans (HB1.out.mono (below_same wd).size)).size)).trans HB3.out).size ?_
            intro v3 wv hown hg
            have HB4 : Hid (Below wd.heap.size w3 wv) := Lib.hid ((Below.refl _ _).grown hg ((((below_same wd).trans (HB1.out.mono (below_same wd).size)).trans (HB2.out.mono ((below_same wd).trans (HB1.out.mono (below_same wd).size)).size)).trans HB3.out).size (fun k hk => (World.ownsRow.lt HO3.out k hk).1))
            have HO4 : Hid (OwnQ wv wd.heap.size v3 (L ++ [(f, u, x)])) := Lib.hid hown
            clear hown hg
            generalize wv = w4 at HO4 HB4 ⊢
            refine hK.out _ _ (⟨(HB4.out.cell HLt.out).trans hHeld.1, (HB4.out.cell HLt.out).trans hHeld.2.1, (HB4.out.cell HLt.out).trans hHeld.2.2⟩) (fun hNew => ?_)
            clear hK K hHeld; (have hHeld := hNew); clear hNew; (try simp only [Act.put, List.setIfInBounds_toArray, List.set_cons_zero, List.set_cons_succ])
            (refine takeH (i := 6) (v := ?_) rfl (by kernel_rfl) (by kernel_rfl) (by kernel_rfl) (fun _ _ _ h => h) (Or.inl ⟨by rfl, ?_⟩) (by assumption) ?_; rotate_left; (focus ((intro wS hSw); (try dsimp only at hSw); obtain ⟨s0, s1, s2⟩ := hSw; go_simp; (try with_reducible rfl); done)); (try simp only [Act.put, List.setIfInBounds_toArray, List.set_cons_zero, List.set_cons_succ]))
            (refine takeH (i := 7) (v := ?_) rfl (by kernel_rfl) (by kernel_rfl) (by kernel_rfl) (fun _ _ _ h => h) (Or.inl ⟨by rfl, ?_⟩) (by assumption) ?_; rotate_left; (focus ((intro wS hSw); (try dsimp only at hSw); obtain ⟨s0, s1, s2⟩ := hSw; go_simp; (try with_reducible rfl); done)); (try simp only [Act.put, List.setIfInBounds_toArray, List.set_cons_zero, List.set_cons_succ]))
            refine wpAnyH_done (by kernel_rfl) ?_ _
            clear hHeld
            have HBF : Hid (Below w.heap.size w w4) := Lib.hid (HBD.out.trans ((((((below_same wd).trans (HB1.out.mono (below_same wd).size)).trans (HB2.out.mono ((below_same wd).trans (HB1.out.mono (below_same wd).size)).size)).trans HB3.out).trans HB4.out).mono HBD.out.size))
            obtain ⟨A3, c3, rfl, hr3, hn3⟩ := HO4.out.form
            have HF := Lib.hid (And.intro hr3 hn3)
            clear hr3 hn3
            go_wp2
            go_ret2
            exact ⟨A3, c3, by rw [HE.out.1, HE.out.2]; rfl, by rw [HE.out.2]; exact HF.out.1, by rw [HE.out.2]; exact HF.out.2, HBF.out⟩
        · rw [if_pos (by rfl)]
          go_simp
          have HX1 := Lib.hid (heap_alloc_new wd (.cells #[.int .i64 f, .int .i64 u, .int .i64 x] 24))
          have HB1 := Lib.hid (below_alloc wd (.cells #[.int .i64 f, .int .i64 u, .int .i64 x] 24))
          generalize hx : World.alloc wd (.cells #[.int .i64 f, .int .i64 u, .int .i64 x] 24) = w1 at HX1 HB1 ⊢
          clear hx
          refine hK.out _ _ (⟨cell_on HB1.out hHeld.1, cell_on HB1.out hHeld.2.1, cell_on HB1.out hHeld.2.2⟩) (fun hNew => ?_)
          clear hK K hHeld; (have hHeld := hNew); clear hNew; (try simp only [Act.put, List.setIfInBounds_toArray, List.set_cons_zero, List.set_cons_succ])
          refine aloneH (i := 0) rfl (by kernel_rfl) (fun K hK => ?_)
          rw [if_pos (by rfl)]
          go_simp
          have HO2 := Lib.hid (ownQ_nil w1)
          have HB2 := Lib.hid (below_alloc w1 (.cells #[] 24))
          generalize hx : World.alloc w1 (.cells #[] 24) = w2 at HO2 HB2 ⊢
          clear hx
          refine hK.out _ _ (⟨cell_on HB2.out hHeld.1, cell_on HB2.out hHeld.2.1, cell_on HB2.out hHeld.2.2⟩) (fun hNew => ?_)
          clear hK K hHeld; (have hHeld := hNew); clear hNew; (try simp only [Act.put, List.setIfInBounds_toArray, List.set_cons_zero, List.set_cons_succ])
          refine aloneH (i := 2) rfl (by kernel_rfl) (fun K hK => ?_)
          rw [if_pos (by rfl)]
          refine wp_append_q w2 (.tmp 46) (.tmp 47) rfl rfl wd.heap.size (.slice (some ⟨w1.heap.size, 0, none⟩) 0 0) [] rfl (HO2.out.less ((below_same wd).trans (HB1.out.mono (below_same wd).size)).size) A0 L.length c L rfl rfl (HR.out.on (HBD.out.trans ((((below_same wd).trans (HB1.out.mono (below_same wd).size)).trans (HB2.out.mono ((below_same wd).trans (HB1.out.mono (below_same wd).size)).size)).mono HBD.out.size))) HAn.out (by have := HSh.out; simp; omega) (((below_same wd).trans (HB1.out.mono (below_same wd).size)).trans (HB2.out.mono ((below_same wd).trans (HB1.out.mono (below_same wd).size)).size)).size ?_
          intro v2 wv hown hg
          have HB3 : Hid (Below wd.heap.size w2 wv) := Lib.hid ((Below.refl _ _).grown hg (((below_same wd).trans (HB1.out.mono (below_same wd).size)).trans (HB2.out.mono ((below_same wd).trans (HB1.out.mono (below_same wd).size)).size)).size (fun k hk => by simp [Value.ownBlock] at hk; have := ((below_same wd).trans (HB1.out.mono (below_same wd).size)).size; omega))
          have HO3 : Hid (OwnQ wv wd.heap.size v2 L) := Lib.hid hown
          have HX3 : Hid (wv.heap[wd.heap.size]? = some (.cells #[.int .i64 f, .int .i64 u, .int .i64 x] 24 (0, 0))) := Lib.hid ((hg.block _ (heapLt (heap_on HB2.out HX1.out)) (fun e => by have e2 : wd.heap.size = w1.heap.size := Option.some.inj e; have h1 := heapLt HX1.out; have h2 := (below_same w1).size; omega)).trans (heap_on HB2.out HX1.out))
          clear hown hg
          generalize wv = w3 at HO3 HB3 HX3 ⊢
          refine hK.out _ _ (⟨(HB3.out.cell HLt.out).trans hHeld.1, (HB3.out.cell HLt.out).trans hHeld.2.1, (HB3.out.cell HLt.out).trans hHeld.2.2⟩) (fun hNew => ?_)
          clear hK K hHeld; (have hHeld := hNew); clear hNew; (try simp only [Act.put, List.setIfInBounds_toArray, List.set_cons_zero, List.set_cons_succ])
          refine aloneH (i := 5) rfl (by kernel_rfl) (fun K hK => ?_)
          rw [if_pos (by rfl)]
          refine wp_append_q w3 (.tmp 48) (.tmp 50) rfl rfl wd.heap.size v2 L rfl HO3.out (some ⟨wd.heap.size, 0, none⟩) 1 1 [(f, u, x)] rfl rfl (box_row HX3.out) (by simp) (by have := HSh.out; simp; omega) ((((below_same wd).trans (HB1.out.mono (below_same wd).size)).trans (HB2.out.mono ((below_same wd).trans (HB1.out.mono (below_same wd).size)).size)).trans HB3.out).size ?_
          intro v3 wv hown hg
          have HB4 : Hid (Below wd.heap.size w3 wv) := Lib.hid ((Below.refl _ _).grown hg ((((below_same wd).trans (HB1.out.mono (below_same wd).size)).trans (HB2.out.mono ((below_same wd).trans (HB1.out.mono (below_same wd).size)).size)).trans HB3.out).size (fun k hk => (World.ownsRow.lt HO3.out k hk).1))
          have HO4 : Hid (OwnQ wv wd.heap.size v3 (L ++ [(f, u, x)])) := Lib.hid hown
          clear hown hg
          generalize wv = w4 at HO4 HB4 ⊢
          refine hK.out _ _ (⟨(HB4.out.cell HLt.out).trans hHeld.1, (HB4.out.cell HLt.out).trans hHeld.2.1, (HB4.out.cell HLt.out).trans hHeld.2.2⟩) (fun hNew => ?_)
          clear hK K hHeld; (have hHeld := hNew); clear hNew; (try simp only [Act.put, List.setIfInBounds_toArray, List.set_cons_zero, List.set_cons_succ])
          (refine takeH (i := 6) (v := ?_) rfl (by kernel_rfl) (by kernel_rfl) (by kernel_rfl) (fun _ _ _ h => h) (Or.inl ⟨by rfl, ?_⟩) (by assumption) ?_; rotate_left; (focus ((intro wS hSw); (try dsimp only at hSw); obtain ⟨s0, s1, s2⟩ := hSw; go_simp; (try with_reducible rfl); done)); (try simp only [Act.put, List.setIfInBounds_toArray, List.set_cons_zero, List.set_cons_succ]))
          (refine takeH (i := 7) (v := ?_) rfl (by kernel_rfl) (by kernel_rfl) (by kernel_rfl) (fun _ _ _ h => h) (Or.inl ⟨by rfl, ?_⟩) (by assumption) ?_; rotate_left; (focus ((intro wS hSw); (try dsimp only at hSw); obtain ⟨s0, s1, s2⟩ := hSw; go_simp; (try with_reducible rfl); done)); (try simp only [Act.put, List.setIfInBounds_toArray, List.set_cons_zero, List.set_cons_succ]))
          refine wpAnyH_done (by kernel_rfl) ?_ _
          clear hHeld
          have HBF : Hid (Below w.heap.size w w4) := Lib.hid (HBD.out.trans ((((((below_same wd).trans (HB1.out.mono (below_same wd).size)).trans (HB2.out.mono ((below_same wd).trans (HB1.out.mono (below_same wd).size)).size)).trans HB3.out).trans HB4.out).mono HBD.out.size))
          obtain ⟨A3, c3, rfl, hr3, hn3⟩ := HO4.out.form
          have HF := Lib.hid (And.intro hr3 hn3)
          clear hr3 hn3
          go_wp2
          go_ret2
          exact ⟨A3, c3, by rw [HE.out.1, HE.out.2]; rfl, by rw [HE.out.2]; exact HF.out.1, by rw [HE.out.2]; exact HF.out.2, HBF.out⟩
theorem ref_set (w : World) (A0 : Option Addr) (c most : Nat) (L : List Sp) (f u x : Int) (hr : Row w A0 L) (hA : A0 = none → L = []) (hl : L.length ≤ 100) : Calls Tryz.prog 29 #[.slice A0 L.length c, .int .i64 most, .agg #[.int .i64 f, .int .i64 u, .int .i64 x]] w (SetQ w most L f u x) := by
  by_cases hs : isSp f u
  · exact ref_set_yes w A0 c most L f u x hr hA hs hl
  · exact ref_set_no w A0 c most L f u x hr hA hs
end Go.Proofs.YtgljajoknmgoeaaGreat
