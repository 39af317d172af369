/- People: not more than are looked at. -/
import Derived.Test.YtgljajoknmgoeaaGreatPpK
namespace Go.Proofs.YtgljajoknmgoeaaGreat
open Go.RowKit
set_option maxRecDepth 100000
attribute [local go_sem] Oper.semAt_some

def shortB (r : OpP) : Bool := decide (r.2.1.size ≤ 100) && decide (r.2.2.1.size ≤ 100)
def shortsB (L : List OpP) : Bool := L.all shortB
def lightB (L : List OpP) (x : OpP) : Bool := shortsB (L ++ [x]) && decide (L.length ≤ 40)
theorem short_next {L : List OpP} {k : Nat} (hk : k < L.length) (h : shortsB (L.take k) = true) (hs : shortB L[k] = true) : shortsB (L.take (k + 1)) = true := by
  rw [List.take_succ_eq_append_getElem hk]
  unfold shortsB at *
  rw [List.all_append, h]
  simp [hs]
theorem short_not {L : List OpP} {k : Nat} (hk : k < L.length) (hs : shortB L[k] = false) : shortsB L = false := by
  unfold shortsB
  rw [List.all_eq_false]
  exact ⟨L[k], List.getElem_mem hk, by simp [hs]⟩
set_option maxHeartbeats 1000000 in
theorem code_light (A : Option Addr) (c : Nat) (L : List OpP) (x : OpP) (w : World) (hr : RowOpP w A L) (hA : A = none → L = []) (hlc : L.length ≤ c) (hln : L.length * 64 ≤ 140737488351232) (V : Bool) (hV : lightB L x = V) :
    Calls Tryz.prog 4 #[.slice A L.length c, .agg #[.int .i64 x.1, .string x.2.1, .string x.2.2.1, .int .i64 x.2.2.2.1, .int .i64 x.2.2.2.2.1, .int .i64 x.2.2.2.2.2]] w fun e w' => e = .returned (.bool V) ∧ Below w.heap.size w w' := by
  have hlc' : (L.length : Int) ≤ (c : Int) := by omega
  have HR := Lib.hid hr
  have HAn := Lib.hid hA
  have HLn := Lib.hid hln
  have hl40 : (L.length : Int) ≤ 4000000000000000000 := by omega
  have HI := Lib.hid (And.intro (heap_alloc_new w (.cells #[.int .i64 x.1, .string x.2.1, .string x.2.2.1, .int .i64 x.2.2.2.1, .int .i64 x.2.2.2.2.1, .int .i64 x.2.2.2.2.2] 26)) (below_alloc w (.cells #[.int .i64 x.1, .string x.2.1, .string x.2.2.1, .int .i64 x.2.2.2.1, .int .i64 x.2.2.2.2.1, .int .i64 x.2.2.2.2.2] 26)))
  have HV := Lib.hid hV
  clear hr hA hln hV
  go_enter Tryz.func4, Tryz.ntmps4
  go_wp2
  have HBD := Lib.hid (below_then HI.out.2 (below_drew _))
  obtain ⟨x0, x1, x2, x3, x4, x5⟩ := cellsOpP (heap_on (below_drew _) HI.out.1)
  refine wp_region_held_drew (S := fun V => V.cell? ⟨w.heap.size, 0, none⟩ = some (.int .i64 x.1) ∧ V.cell? ⟨w.heap.size, 1, none⟩ = some (.string x.2.1) ∧ V.cell? ⟨w.heap.size, 2, none⟩ = some (.string x.2.2.1) ∧ V.cell? ⟨w.heap.size, 3, none⟩ = some (.int .i64 x.2.2.2.1) ∧ V.cell? ⟨w.heap.size, 4, none⟩ = some (.int .i64 x.2.2.2.2.1) ∧ V.cell? ⟨w.heap.size, 5, none⟩ = some (.int .i64 x.2.2.2.2.2)) (by kernel_rfl) ⟨x0, x1, x2, x3, x4, x5⟩ ?_
  intro hHeld
  clear x0 x1 x2 x3 x4 x5 HI
  generalize World.drew _ = wd at HBD hHeld ⊢
  (refine takeH (i := 0) (v := ?_) rfl (by kernel_rfl) (by kernel_rfl) (by kernel_rfl) (fun _ _ _ h => h) (Or.inl ⟨by rfl, ?_⟩) (by assumption) ?_; rotate_left; (focus ((intro wS hSw); (try dsimp only at hSw); obtain ⟨s0, s1, s2, s3, s4, s5⟩ := hSw; go_simp; (try with_reducible rfl); done)); (try simp only [Act.put, List.setIfInBounds_toArray, List.set_cons_zero, List.set_cons_succ]))
  (refine takeH (i := 1) (v := ?_) rfl (by kernel_rfl) (by kernel_rfl) (by kernel_rfl) (fun _ _ _ h => h) (Or.inl ⟨by rfl, ?_⟩) (by assumption) ?_; rotate_left; (focus ((intro wS hSw); (try dsimp only at hSw); obtain ⟨s0, s1, s2, s3, s4, s5⟩ := hSw; go_simp; (try with_reducible rfl); done)); (try simp only [Act.put, List.setIfInBounds_toArray, List.set_cons_zero, List.set_cons_succ]))
  (refine takeH (i := 2) (v := ?_) rfl (by kernel_rfl) (by kernel_rfl) (by kernel_rfl) (fun _ _ _ h => h) (Or.inl ⟨by rfl, ?_⟩) (by assumption) ?_; rotate_left; (focus ((intro wS hSw); (try dsimp only at hSw); obtain ⟨s0, s1, s2, s3, s4, s5⟩ := hSw; go_simp; (try with_reducible rfl); done)); (try simp only [Act.put, List.setIfInBounds_toArray, List.set_cons_zero, List.set_cons_succ]))
  (refine takeH (i := 3) (v := ?_) rfl (by kernel_rfl) (by kernel_rfl) (by kernel_rfl) (fun _ _ _ h => h) (Or.inl ⟨by rfl, ?_⟩) (by assumption) ?_; rotate_left; (focus ((intro wS hSw); (try dsimp only at hSw); obtain ⟨s0, s1, s2, s3, s4, s5⟩ := hSw; go_simp; (try with_reducible rfl); done)); (try simp only [Act.put, List.setIfInBounds_toArray, List.set_cons_zero, List.set_cons_succ]))
  (refine takeH (i := 4) (v := ?_) rfl (by kernel_rfl) (by kernel_rfl) (by kernel_rfl) (fun _ _ _ h => h) (Or.inl ⟨by rfl, ?_⟩) (by assumption) ?_; rotate_left; (focus ((intro wS hSw); (try dsimp only at hSw); obtain ⟨s0, s1, s2, s3, s4, s5⟩ := hSw; go_simp; (try with_reducible rfl); done)); (try simp only [Act.put, List.setIfInBounds_toArray, List.set_cons_zero, List.set_cons_succ]))
  (refine takeH (i := 5) (v := (.slice A L.length L.length)) rfl (by kernel_rfl) (by kernel_rfl) (by kernel_rfl) (fun _ _ _ h => h) (Or.inl ⟨by rfl, by (intro wS hSw); clear hSw; clear hHeld; (cases A with | none => (obtain rfl := HAn.out rfl; go_simp; done) | some y => (go_simp; done))⟩) (by assumption) ?_; (try simp only [Act.put, List.setIfInBounds_toArray, List.set_cons_zero, List.set_cons_succ]))
  (refine takeH (i := 6) (v := ?_) rfl (by kernel_rfl) (by kernel_rfl) (by kernel_rfl) (fun _ _ _ h => h) (Or.inl ⟨by rfl, ?_⟩) (by assumption) ?_; rotate_left; (focus ((intro wS hSw); (try dsimp only at hSw); obtain ⟨s0, s1, s2, s3, s4, s5⟩ := hSw; go_simp; (try with_reducible rfl); done)); (try simp only [Act.put, List.setIfInBounds_toArray, List.set_cons_zero, List.set_cons_succ]))
  (refine takeH (i := 10) (v := ?_) rfl (by kernel_rfl) (by kernel_rfl) (by kernel_rfl) (fun _ _ _ h => h) (Or.inl ⟨by rfl, ?_⟩) (by assumption) ?_; rotate_left; (focus ((intro wS hSw); (try dsimp only at hSw); obtain ⟨s0, s1, s2, s3, s4, s5⟩ := hSw; go_simp; (try with_reducible rfl); done)); (try simp only [Act.put, List.setIfInBounds_toArray, List.set_cons_zero, List.set_cons_succ]))
  refine aloneH (i := 7) rfl (by kernel_rfl) (fun K hK => ?_)
  rw [if_pos (by rfl)]
  go_simp
  have HX1 := Lib.hid (heap_alloc_new wd (.cells #[.int .i64 x.1, .string x.2.1, .string x.2.2.1, .int .i64 x.2.2.2.1, .int .i64 x.2.2.2.2.1, .int .i64 x.2.2.2.2.2] 26))
  have HB1 := Lib.hid (below_alloc wd (.cells #[.int .i64 x.1, .string x.2.1, .string x.2.2.1, .int .i64 x.2.2.2.1, .int .i64 x.2.2.2.2.1, .int .i64 x.2.2.2.2.2] 26))
  generalize hx : World.alloc wd (.cells #[.int .i64 x.1, .string x.2.1, .string x.2.2.1, .int .i64 x.2.2.2.1, .int .i64 x.2.2.2.2.1, .int .i64 x.2.2.2.2.2] 26) = w1 at HX1 HB1 ⊢
  clear hx
  refine hK.out _ _ (⟨cell_on HB1.out hHeld.1, cell_on HB1.out hHeld.2.1, cell_on HB1.out hHeld.2.2.1, cell_on HB1.out hHeld.2.2.2.1, cell_on HB1.out hHeld.2.2.2.2.1, cell_on HB1.out hHeld.2.2.2.2.2⟩) (fun hNew => ?_)
  clear hK K hHeld; (have hHeld := hNew); clear hNew; (try simp only [Act.put, List.setIfInBounds_toArray, List.set_cons_zero, List.set_cons_succ])
  refine aloneH (i := 8) rfl (by kernel_rfl) (fun K hK => ?_)
  rw [if_pos (by rfl)]
  refine wp_appendOpP_full w1 (.tmp 12) (.tmp 14) rfl rfl A L rfl (HR.out.on (below_then HBD.out HB1.out)) HAn.out ⟨wd.heap.size, 0, none⟩ 1 1 [x] rfl rfl (boxOpP HX1.out) (by simp) (by have := HLn.out; simp; omega) ?_
  intro A2 c2 w2 hrow hb
  have HR2 := Lib.hid hrow
  have HB2 := Lib.hid hb
  clear hrow hb
  refine hK.out _ _ (⟨cell_on HB2.out hHeld.1, cell_on HB2.out hHeld.2.1, cell_on HB2.out hHeld.2.2.1, cell_on HB2.out hHeld.2.2.2.1, cell_on HB2.out hHeld.2.2.2.2.1, cell_on HB2.out hHeld.2.2.2.2.2⟩) (fun hNew => ?_)
  clear hK K hHeld; (have hHeld := hNew); clear hNew; (try simp only [Act.put, List.setIfInBounds_toArray, List.set_cons_zero, List.set_cons_succ])
  (refine takeH (i := 9) (v := ?_) rfl (by kernel_rfl) (by kernel_rfl) (by kernel_rfl) (fun _ _ _ h => h) (Or.inl ⟨by rfl, ?_⟩) (by assumption) ?_; rotate_left; (focus ((intro wS hSw); (try dsimp only at hSw); obtain ⟨s0, s1, s2, s3, s4, s5⟩ := hSw; go_simp; (try with_reducible rfl); done)); (try simp only [Act.put, List.setIfInBounds_toArray, List.set_cons_zero, List.set_cons_succ]))
  refine wpAnyH_done (by kernel_rfl) ?_ _
  clear hHeld
  have HBF := Lib.hid (below_then HBD.out (below_then HB1.out HB2.out))
  have HRF := Lib.hid HR2.out
  clear HR2
  go_wp2
  obtain ⟨M, hM⟩ : ∃ M, M = L ++ [x] := ⟨_, rfl⟩
  have hml : M.length = L.length + 1 := by rw [hM]; simp
  rw [← hM] at HRF
  have hml2 : (M.length : Int) = (L.length : Int) + 1 := by omega
  have HMe := Lib.hid hM
  have HMl := Lib.hid hml
  clear hM hml
  go_loopw [17] (fun i wr => ∃ (k : Nat), k ≤ M.length ∧ i = .int .i64 k ∧ Hid (shortsB (M.take k) = true) ∧ Hid (Below w2.heap.size w2 wr)) (fun i _ => M.length - (intOf i).toNat)
  case atStart => exact ⟨0, Nat.zero_le _, rfl, Lib.hid rfl, Lib.hid (Below.refl _ _)⟩
  case round =>
    obtain ⟨k, hk, rfl, HS, HB⟩ := hrel
    by_cases hlt : k < M.length
    · have hlt' : (k : Int) < (L.length : Int) + 1 := by omega
      obtain ⟨b, o, rfl, hbl, y0, y1, y2, y3, y4, y5⟩ := (HRF.out.on HB.out).at_ k hlt
      have HB1 := Lib.hid (fun o => below_alloc wr o)
      have hD : shortB M[k] = (decide (M[k].2.1.size ≤ 100) && decide (M[k].2.2.1.size ≤ 100)) := rfl
      by_cases h1 : M[k].2.1.size ≤ 100
      · have i1 : (M[k].2.1.size : Int) ≤ 100 := by omega
        by_cases h2 : M[k].2.2.1.size ≤ 100
        · have i2 : (M[k].2.2.1.size : Int) ≤ 100 := by omega
          rw [decide_eq_true h1, decide_eq_true h2] at hD
          have HN := Lib.hid (short_next hlt HS.out hD)
          clear h1 h2 hbl hD
          go_wp2
          go_roundw
          case rel => exact ⟨k + 1, by omega, by go_num, HN, Lib.hid (below_then HB.out (HB1.out _))⟩
          case measure => simp [intOf]; omega
        · have i2 : (100 : Int) < (M[k].2.2.1.size : Int) := by omega
          rw [decide_eq_true h1, decide_eq_false h2] at hD
          have HN : Hid (lightB L x = false) := Lib.hid (by unfold lightB; rw [← HMe.out, short_not hlt hD]; rfl)
          clear h1 h2 hbl hD
          go_wp2
          go_ret
          exact ⟨by rw [← HV.out, HN.out]; rfl, below_then HBF.out (below_then HB.out (HB1.out _))⟩
      · have i1 : (100 : Int) < (M[k].2.1.size : Int) := by omega
        rw [decide_eq_false h1, Bool.false_and] at hD
        have HN : Hid (lightB L x = false) := Lib.hid (by unfold lightB; rw [← HMe.out, short_not hlt hD]; rfl)
        clear h1 hbl hD
        go_wp2
        go_ret
        exact ⟨by rw [← HV.out, HN.out]; rfl, below_then HBF.out (below_then HB.out (HB1.out _))⟩
    · obtain rfl : k = M.length := by omega
      have hS : shortsB M = true := by have := HS.out; rwa [List.take_length] at this
      have e : lightB L x = decide (L.length ≤ 40) := by unfold lightB; rw [← HMe.out, hS]; rfl
      rw [HV.out] at e
      clear HS hS HV
      by_cases h60 : L.length ≤ 40
      · have i60 : (L.length : Int) ≤ 40 := by omega
        rw [decide_eq_true h60] at e
        subst e
        clear h60
        go_wp2
        go_ret
        exact ⟨ret_bool (by simp), below_then HBF.out HB.out⟩
      · have i60 : ¬ (L.length : Int) ≤ 40 := by omega
        rw [decide_eq_false h60] at e
        subst e
        clear h60
        go_wp2
        go_ret
        exact ⟨ret_bool (by simp), below_then HBF.out HB.out⟩
end Go.Proofs.YtgljajoknmgoeaaGreat
