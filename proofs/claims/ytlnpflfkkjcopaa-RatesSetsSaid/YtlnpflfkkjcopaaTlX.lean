/- The statement on what is set on a line, walked. -/
import Derived.Test.YtlnpflfkkjcopaaTlW
namespace Go.Proofs.Ytlnpflfkkjcopaa
open Go.RowKit
set_option maxRecDepth 100000

theorem refL_len {most : Nat} {w : List Sp} {p : Sp} : (refL most w p).length ≤ w.length + 1 := by
  unfold refL
  split
  · simp
  · omega
set_option maxHeartbeats 1000000 in
theorem sets_long (most : Int) (A : Option Addr) (c : Nat) (S : List Sp) (f u : Int) (w : World) (hl : 60 < S.length) :
    Calls Try.prog 3 #[.int .i64 most, .slice A S.length c, .agg #[.int .i64 f, .int .i64 u]] w fun e w' => e = .returned (.bool true) ∧ Below w.heap.size w w' := by
  have hl' : (60 : Int) < (S.length : Int) := by omega
  go_enter Try.func3, Try.ntmps3
  go_wp2_with (go_at_call 9; refine (tl_lives _).mono ?_; rintro e w9 ⟨rfl, hb⟩; have HZ := Lib.hid (below_then (below_alloc w (.cells #[.int .i64 f, .int .i64 u] 24)) hb); clear hb; refine Stop.out ?_)
  unfold Stop
  go_wp2
  go_ret
  exact ⟨rfl, HZ.out⟩
set_option maxHeartbeats 1000000 in
theorem sets_out (most : Int) (A : Option Addr) (c : Nat) (S : List Sp) (f u : Int) (w : World) (hl : S.length ≤ 60) (hm : most < 1 ∨ (1 ≤ most ∧ 256 < most)) :
    Calls Try.prog 3 #[.int .i64 most, .slice A S.length c, .agg #[.int .i64 f, .int .i64 u]] w fun e w' => e = .returned (.bool true) ∧ Below w.heap.size w w' := by
  have hl' : (S.length : Int) ≤ 60 := by omega
  have HN := Lib.hid (fun W => code_lnew_no W most (by omega))
  rcases hm with h1 | ⟨h1, h2⟩
  all_goals
    go_enter Try.func3, Try.ntmps3
    go_wp2_with (go_at_call 10; refine (HN.out _).mono ?_; rintro e w1 ⟨rfl, rfl⟩; refine Stop.out ?_)
    unfold Stop
    go_wp2_with (go_at_call 9; refine (tl_lives _).mono ?_; rintro e w9 ⟨rfl, hb⟩; have HZ := Lib.hid (below_then (below_alloc w (.cells #[.int .i64 f, .int .i64 u] 24)) hb); clear hb; refine Stop.out ?_)
    unfold Stop
    go_wp2
    go_ret
    exact ⟨rfl, HZ.out⟩
set_option maxHeartbeats 2000000 in
theorem sets_in (most : Nat) (A : Option Addr) (c : Nat) (S : List Sp) (f u : Int) (w : World) (hl : S.length ≤ 60) (h1 : 1 ≤ most) (h2 : most ≤ 256) (hS : Row w A S) :
    Calls Try.prog 3 #[.int .i64 most, .slice A S.length c, .agg #[.int .i64 f, .int .i64 u]] w fun e w' => e = .returned (.bool true) ∧ Below w.heap.size w w' := by
  have hl' : (S.length : Int) ≤ 60 := by omega
  have i1 : (1 : Int) ≤ (most : Int) := by omega
  have i2 : (most : Int) ≤ 256 := by omega
  have HN := Lib.hid (fun W => code_lnew W most i1 i2)
  have HS := Lib.hid hS
  have hx0 := heap_alloc_new w (.cells #[.int .i64 f, .int .i64 u] 24)
  have HX0 := Lib.hid (And.intro hx0 (below_alloc w (.cells #[.int .i64 f, .int .i64 u] 24)))
  have HM : Hid (((most : Int)).toNat = most) := Lib.hid (by omega)
  clear hS hx0 h1 h2
  go_enter Try.func3, Try.ntmps3
  go_wp2_with (go_at_call 10; refine (HN.out _).mono ?_; rintro e w1 ⟨B, rfl, h1, hb, hB⟩; have HL1 : Hid (Lin w1 B most [] ∧ w.heap.size < B) := (Lib.hid ⟨by rw [HM.out] at h1; exact h1, by simp at hB; omega⟩); have HX1 := Lib.hid (And.intro (heap_on hb HX0.out.1) (below_then HX0.out.2 hb)); clear h1 hb hB; refine Stop.out ?_)
  unfold Stop
  go_wp2
  clear HN HX0 HM
  have HBw : Hid (w.heap.size < B) := Lib.hid HL1.out.2
  go_loopw [8, 35] (fun wv i wr => ∃ (k : Nat) (A' : Option Addr) (c' : Nat) (L M : List Sp), k ≤ S.length ∧ i = .int .i64 k ∧ wv = .slice A' M.length c' ∧ Hid (Lin wr B most L) ∧ Hid (Row wr A' M ∧ (A' = none → M = [])) ∧ Hid (Inv L M ∧ M.length ≤ k) ∧ Hid (wr.heap[w.heap.size]? = some (.cells #[.int .i64 f, .int .i64 u] 24 (0, 0)) ∧ Below w.heap.size w wr)) (fun _ i _ => S.length - (intOf i).toNat)
  case atStart => exact ⟨0, none, 0, [], [], Nat.zero_le _, rfl, rfl, Lib.hid HL1.out.1, Lib.hid ⟨Row.nil, fun _ => rfl⟩, Lib.hid ⟨Inv.nil, Nat.le_refl _⟩, HX1⟩
  case round =>
    clear HL1 HX1
    obtain ⟨k, A', c', L, M, hk, rfl, rfl, HL, HR, HI, HX⟩ := hrel
    by_cases hlt : k < S.length
    · have hlt' : (k : Int) < (S.length : Int) := by omega
      obtain ⟨b, o, rfl, hbl, y0, y1, y2⟩ := (HS.out.on HX.out.2).at_ k hlt
      obtain ⟨s, hs⟩ : ∃ s, s = S[k] := ⟨_, rfl⟩
      rw [← hs] at y0 y1 y2
      have HKs : Hid (M.length ≤ 60 ∧ k < 60) := Lib.hid ⟨by have := HI.out.2; omega, by omega⟩
      have HB1 := Lib.hid (below_alloc wr (.cells #[.int .i64 s.1, .int .i64 s.2.1, .int .i64 s.2.2] 29))
      have HT1 := Lib.hid (heap_alloc_new wr (.cells #[.int .i64 s.1, .int .i64 s.2.1, .int .i64 s.2.2] 29))
      have HBr : Hid (B < wr.heap.size ∧ w.heap.size < wr.heap.size) := Lib.hid ⟨HL.out.lt, heapLt HX.out.1⟩
      clear hbl hs
      go_wp2_with (go_at_call 11; refine (code_lclone _ B most L (HL.out.on HB1.out)).mono ?_; rintro e w2 ⟨Bc, rfl, h1, h2, hb⟩; have HC2 : Hid (Lin w2 Bc most L ∧ Bc ≠ B) := (Lib.hid ⟨h1, by have := HBr.out.1; simp at h2; omega⟩); have HB2 := Lib.hid (below_then HB1.out hb); have HT2 := Lib.hid (heap_on hb HT1.out); obtain ⟨t0, t1, t2⟩ := row3' HT2.out; clear h1 h2 hb; refine Stop.out ?_)
      unfold Stop
      go_wp2_with (go_at_call 12; refine (code_set _ B most L s.1 s.2.1 s.2.2 (HL.out.on HB2.out)).mono ?_; rintro e w3 ⟨rfl, h1, hc⟩; have HL3 := Lib.hid h1; have HC3 := Lib.hid hc; have HT3 := Lib.hid (hc.heap HT2.out (by have := HBr.out.1; omega)); have HR3 : Hid (Row w3 A' M) := (Lib.hid ((HR.out.1.on HB2.out).chg (HL.out.on HB2.out) hc)); have HCl3 : Hid (Lin w3 Bc most L) := (Lib.hid (HC2.out.1.chg (HL.out.on HB2.out) hc HC2.out.2)); have HX3 : Hid (w3.heap[w.heap.size]? = some (.cells #[.int .i64 f, .int .i64 u] 24 (0, 0)) ∧ Below w.heap.size w w3) := (Lib.hid ⟨hc.heap (heap_on HB2.out HX.out.1) (by have := HBw.out; omega), (HX.out.2.trans (HB2.out.mono HX.out.2.size)).trans (hc.below (Nat.le_trans HX.out.2.size HB2.out.size) (by have := HBw.out; omega))⟩); clear h1 hc t0 t1 t2; obtain ⟨t0, t1, t2⟩ := row3' HT3.out; refine Stop.out ?_)
      unfold Stop
      go_wp2_with (go_at_call 13; refine (code_like _ Bc most A' c' L M s.1 HCl3.out HR3.out HI.out.1 (by have := HKs.out.1; omega)).mono ?_; rintro e w4 ⟨rfl, hb⟩; have HB4 := Lib.hid hb; have HT4 := Lib.hid (heap_on hb HT3.out); clear hb t0 t1 t2; obtain ⟨t0, t1, t2⟩ := row3' HT4.out; refine Stop.out ?_)
      unfold Stop
      go_wp2_with (go_at_call 14; refine (ref_set _ A' c' most M s.1 s.2.1 s.2.2 (HR3.out.on HB4.out) HR.out.2 (by have := HKs.out.1; omega)).mono ?_; rintro e w5 ⟨A2, c2, rfl, hr2, hn2, hb⟩; have HR5 := Lib.hid (And.intro hr2 hn2); have HB5 := Lib.hid (below_then HB4.out hb); have HT5 := Lib.hid (heap_on hb HT4.out); clear hb hr2 hn2 t0 t1 t2; refine Stop.out ?_)
      unfold Stop
      have hE := setE_ref (f := s.1) (u := s.2.1) (most := most) HI.out.1
      have hI2 : Inv (setL most L (s.1, s.2.1, s.2.2)) (refL most M (s.1, s.2.1, s.2.2)) := Inv.set HI.out.1
      have hM2 : (refL most M (s.1, s.2.1, s.2.2)).length ≤ M.length + 1 := refL_len
      rw [hE]
      generalize refE most M s.1 s.2.1 = E0
      generalize setL most L (s.1, s.2.1, s.2.2) = L2 at HL3 hI2
      generalize refL most M (s.1, s.2.1, s.2.2) = M2 at HR5 hI2 hM2 ⊢
      have HF2 : Hid (Inv L2 M2 ∧ M2.length ≤ k + 1) := Lib.hid ⟨hI2, by have := HI.out.2; omega⟩
      clear hE hI2 hM2
      have HF : Hid (Lin w5.drew B most L2 ∧ (Row w5.drew A2 M2 ∧ (A2 = none → M2 = [])) ∧ w5.drew.heap[w.heap.size]? = some (.cells #[.int .i64 f, .int .i64 u] 24 (0, 0)) ∧ Below w.heap.size w w5.drew) := Lib.hid (by
        have hb := below_then HB5.out (below_drew w5)
        exact ⟨HL3.out.on hb, ⟨HR5.out.1.on (below_drew w5), HR5.out.2⟩, heap_on hb HX3.out.1, HX3.out.2.trans (hb.mono HX3.out.2.size)⟩)
      have HTd := Lib.hid (heap_on (below_drew w5) HT5.out)
      obtain ⟨x0, x1, _, _⟩ := row2 HF.out.2.2.1
      obtain ⟨t0, t1, t2⟩ := row3' HTd.out
      have HLk : Hid (∀ V day, Below w5.drew.heap.size w5.drew V → Calls Try.prog 13 #[.pointer (some ⟨B, 0, none⟩), .slice A2 M2.length c2, .int .i64 day] V fun e w' => e = .returned (.bool true) ∧ Below V.heap.size V w') := Lib.hid (fun V day hb => code_like V B most A2 c2 L2 M2 day (HF.out.1.on hb) (HF.out.2.1.1.on hb) HF2.out.1 (by have := HF2.out.2; have := HKs.out.2; omega))
      have HGp0 : ∀ V, Below w5.drew.heap.size w5.drew V → Calls Try.prog 15 #[.pointer (some ⟨B, 0, none⟩), .agg #[.int .i64 f, .int .i64 u]] V fun e w' => e = .returned (.int .i64 (gapV f u L2)) ∧ Below V.heap.size V w' := fun V hb => code_gap V B most L2 f u (HF.out.1.on hb)
      have HGr0 : ∀ V, Below w5.drew.heap.size w5.drew V → Calls Try.prog 16 #[.slice A2 M2.length c2, .int .i64 f, .int .i64 u] V fun e w' => e = .returned (.int .i64 (gapV f u M2)) ∧ Below V.heap.size V w' := fun V hb => ref_gap V A2 c2 M2 f u (HF.out.2.1.1.on hb) (by have := HF2.out.2; have := HKs.out.2; omega)
      rw [HF2.out.1.gap f u] at HGp0
      generalize gapV f u M2 = G at HGp0 HGr0
      have HGp := Lib.hid HGp0
      have HGr := Lib.hid HGr0
      clear HGp0 HGr0
      go_wp2
      refine wp_region_held_drew (S := fun V => V.cell? ⟨w.heap.size, 0, none⟩ = some (.int .i64 f) ∧ V.cell? ⟨w.heap.size, 1, none⟩ = some (.int .i64 u) ∧ V.cell? ⟨wr.heap.size, 1, none⟩ = some (.int .i64 s.2.1)) (by kernel_rfl) ⟨x0, x1, t1⟩ ?_
      intro hHeld
      clear x0 x1 t0 t1 t2 HT1 HT2 HT3 HT4 HT5 HTd HB1 HB2 HB4 HB5 HC2 HC3 HL3 HR3 HCl3 HX3 HR5 y0 y1 y2
      generalize w5.drew = wd at HF HLk HGp HGr hHeld ⊢
      (refine takeH (i := 0) (v := ?_) rfl (by kernel_rfl) (by kernel_rfl) (by kernel_rfl) (fun _ _ _ h => h) (Or.inl ⟨by rfl, ?_⟩) (by assumption) ?_; rotate_left; (focus ((intro wS hSw); (try dsimp only at hSw); obtain ⟨s0, s1, s2⟩ := hSw; go_simp; (try with_reducible rfl); done)); (try simp only [Act.put, List.setIfInBounds_toArray, List.set_cons_zero, List.set_cons_succ]))
      (refine takeH (i := 1) (v := ?_) rfl (by kernel_rfl) (by kernel_rfl) (by kernel_rfl) (fun _ _ _ h => h) (Or.inl ⟨by rfl, ?_⟩) (by assumption) ?_; rotate_left; (focus ((intro wS hSw); (try dsimp only at hSw); obtain ⟨s0, s1, s2⟩ := hSw; go_simp; (try with_reducible rfl); done)); (try simp only [Act.put, List.setIfInBounds_toArray, List.set_cons_zero, List.set_cons_succ]))
      (refine takeH (i := 2) (v := (.bool false)) rfl (by kernel_rfl) (by kernel_rfl) (by kernel_rfl) (fun _ _ _ h => h) (Or.inl ⟨by rfl, by (intro wS hSw); (try dsimp only at hSw); (obtain ⟨s0, s1, s2⟩ := hSw); go_simp; (first | done | omega | (simp; omega) | simp)⟩) (by assumption) ?_; (try simp only [Act.put, List.setIfInBounds_toArray, List.set_cons_zero, List.set_cons_succ]))
      (refine takeH (i := 3) (v := ?_) rfl (by kernel_rfl) (by kernel_rfl) (by kernel_rfl) (fun _ _ _ h => h) (Or.inl ⟨by rfl, ?_⟩) (by assumption) ?_; rotate_left; (focus ((intro wS hSw); (try dsimp only at hSw); obtain ⟨s0, s1, s2⟩ := hSw; go_simp; (try with_reducible rfl); done)); (try simp only [Act.put, List.setIfInBounds_toArray, List.set_cons_zero, List.set_cons_succ]))
      (refine takeH (i := 4) (v := ?_) rfl (by kernel_rfl) (by kernel_rfl) (by kernel_rfl) (fun _ _ _ h => h) (Or.inl ⟨by rfl, ?_⟩) (by assumption) ?_; rotate_left; (focus ((intro wS hSw); (try dsimp only at hSw); obtain ⟨s0, s1, s2⟩ := hSw; go_simp; (try with_reducible rfl); done)); (try simp only [Act.put, List.setIfInBounds_toArray, List.set_cons_zero, List.set_cons_succ]))
      (refine takeH (i := 5) (v := ?_) rfl (by kernel_rfl) (by kernel_rfl) (by kernel_rfl) (fun _ _ _ h => h) (Or.inl ⟨by rfl, ?_⟩) (by assumption) ?_; rotate_left; (focus ((intro wS hSw); (try dsimp only at hSw); obtain ⟨s0, s1, s2⟩ := hSw; go_simp; (try with_reducible rfl); done)); (try simp only [Act.put, List.setIfInBounds_toArray, List.set_cons_zero, List.set_cons_succ]))
      (refine takeH (i := 6) (v := ?_) rfl (by kernel_rfl) (by kernel_rfl) (by kernel_rfl) (fun _ _ _ h => h) (Or.inl ⟨by rfl, ?_⟩) (by assumption) ?_; rotate_left; (focus ((intro wS hSw); (try dsimp only at hSw); obtain ⟨s0, s1, s2⟩ := hSw; go_simp; (try with_reducible rfl); done)); (try simp only [Act.put, List.setIfInBounds_toArray, List.set_cons_zero, List.set_cons_succ]))
      (refine takeH (i := 7) (v := ?_) rfl (by kernel_rfl) (by kernel_rfl) (by kernel_rfl) (fun _ _ _ h => h) (Or.inl ⟨by rfl, ?_⟩) (by assumption) ?_; rotate_left; (focus ((intro wS hSw); (try dsimp only at hSw); obtain ⟨s0, s1, s2⟩ := hSw; go_simp; (try with_reducible rfl); done)); (try simp only [Act.put, List.setIfInBounds_toArray, List.set_cons_zero, List.set_cons_succ]))
      refine aloneH (i := 8) rfl (by kernel_rfl) (fun K hK => ?_)
      rw [if_pos (by rfl)]
      go_simp; ((refine (HLk.out wd f (below_same wd)).mono ?_); (rintro e w1 ⟨rfl, hb⟩); have HB1 := Lib.hid hb; clear hb; (try go_simp))
      refine hK.out _ _ (⟨cell_on HB1.out hHeld.1, cell_on HB1.out hHeld.2.1, cell_on HB1.out hHeld.2.2⟩) (fun hNew => ?_)
      clear hK K hHeld; (have hHeld := hNew); clear hNew; (try simp only [Act.put, List.setIfInBounds_toArray, List.set_cons_zero, List.set_cons_succ])
      (refine takeH (i := 9) (v := ?_) rfl (by kernel_rfl) (by kernel_rfl) (by kernel_rfl) (fun _ _ _ h => h) (Or.inl ⟨by rfl, ?_⟩) (by assumption) ?_; rotate_left; (focus ((intro wS hSw); (try dsimp only at hSw); obtain ⟨s0, s1, s2⟩ := hSw; go_simp; (try with_reducible rfl); done)); (try simp only [Act.put, List.setIfInBounds_toArray, List.set_cons_zero, List.set_cons_succ]))
      (refine takeH (i := 10) (v := ?_) rfl (by kernel_rfl) (by kernel_rfl) (by kernel_rfl) (fun _ _ _ h => h) (Or.inl ⟨by rfl, ?_⟩) (by assumption) ?_; rotate_left; (focus ((intro wS hSw); (try dsimp only at hSw); obtain ⟨s0, s1, s2⟩ := hSw; go_simp; (try with_reducible rfl); done)); (try simp only [Act.put, List.setIfInBounds_toArray, List.set_cons_zero, List.set_cons_succ]))
      (refine takeH (i := 11) (v := ?_) rfl (by kernel_rfl) (by kernel_rfl) (by kernel_rfl) (fun _ _ _ h => h) (Or.inl ⟨by rfl, ?_⟩) (by assumption) ?_; rotate_left; (focus ((intro wS hSw); (try dsimp only at hSw); obtain ⟨s0, s1, s2⟩ := hSw; go_simp; (try with_reducible rfl); done)); (try simp only [Act.put, List.setIfInBounds_toArray, List.set_cons_zero, List.set_cons_succ]))
      (refine takeH (i := 12) (v := ?_) rfl (by kernel_rfl) (by kernel_rfl) (by kernel_rfl) (fun _ _ _ h => h) (Or.inl ⟨by rfl, ?_⟩) (by assumption) ?_; rotate_left; (focus ((intro wS hSw); (try dsimp only at hSw); obtain ⟨s0, s1, s2⟩ := hSw; go_simp; (try with_reducible rfl); done)); (try simp only [Act.put, List.setIfInBounds_toArray, List.set_cons_zero, List.set_cons_succ]))
      (refine takeH (i := 13) (v := ?_) rfl (by kernel_rfl) (by kernel_rfl) (by kernel_rfl) (fun _ _ _ h => h) (Or.inl ⟨by rfl, ?_⟩) (by assumption) ?_; rotate_left; (focus ((intro wS hSw); (try dsimp only at hSw); obtain ⟨s0, s1, s2⟩ := hSw; go_simp; (try with_reducible rfl); done)); (try simp only [Act.put, List.setIfInBounds_toArray, List.set_cons_zero, List.set_cons_succ]))
      (refine takeH (i := 14) (v := ?_) rfl (by kernel_rfl) (by kernel_rfl) (by kernel_rfl) (fun _ _ _ h => h) (Or.inl ⟨by rfl, ?_⟩) (by assumption) ?_; rotate_left; (focus ((intro wS hSw); (try dsimp only at hSw); obtain ⟨s0, s1, s2⟩ := hSw; go_simp; (try with_reducible rfl); done)); (try simp only [Act.put, List.setIfInBounds_toArray, List.set_cons_zero, List.set_cons_succ]))
      (refine takeH (i := 15) (v := ?_) rfl (by kernel_rfl) (by kernel_rfl) (by kernel_rfl) (fun _ _ _ h => h) (Or.inl ⟨by rfl, ?_⟩) (by assumption) ?_; rotate_left; (focus ((intro wS hSw); (try dsimp only at hSw); obtain ⟨s0, s1, s2⟩ := hSw; go_simp; (try with_reducible rfl); done)); (try simp only [Act.put, List.setIfInBounds_toArray, List.set_cons_zero, List.set_cons_succ]))
      refine aloneH (i := 16) rfl (by kernel_rfl) (fun K hK => ?_)
      rw [if_pos (by rfl)]
      go_simp; ((refine (HLk.out w1 s.2.1 HB1.out).mono ?_); (rintro e w2 ⟨rfl, hb⟩); have HB2 := Lib.hid hb; clear hb; (try go_simp))
      refine hK.out _ _ (⟨cell_on HB2.out hHeld.1, cell_on HB2.out hHeld.2.1, cell_on HB2.out hHeld.2.2⟩) (fun hNew => ?_)
      clear hK K hHeld; (have hHeld := hNew); clear hNew; (try simp only [Act.put, List.setIfInBounds_toArray, List.set_cons_zero, List.set_cons_succ])
      (refine takeH (i := 17) (v := ?_) rfl (by kernel_rfl) (by kernel_rfl) (by kernel_rfl) (fun _ _ _ h => h) (Or.inl ⟨by rfl, ?_⟩) (by assumption) ?_; rotate_left; (focus ((intro wS hSw); (try dsimp only at hSw); obtain ⟨s0, s1, s2⟩ := hSw; go_simp; (try with_reducible rfl); done)); (try simp only [Act.put, List.setIfInBounds_toArray, List.set_cons_zero, List.set_cons_succ]))
      (refine takeH (i := 18) (v := ?_) rfl (by kernel_rfl) (by kernel_rfl) (by kernel_rfl) (fun _ _ _ h => h) (Or.inl ⟨by rfl, ?_⟩) (by assumption) ?_; rotate_left; (focus ((intro wS hSw); (try dsimp only at hSw); obtain ⟨s0, s1, s2⟩ := hSw; go_simp; (try with_reducible rfl); done)); (try simp only [Act.put, List.setIfInBounds_toArray, List.set_cons_zero, List.set_cons_succ]))
      (refine takeH (i := 19) (v := ?_) rfl (by kernel_rfl) (by kernel_rfl) (by kernel_rfl) (fun _ _ _ h => h) (Or.inl ⟨by rfl, ?_⟩) (by assumption) ?_; rotate_left; (focus ((intro wS hSw); (try dsimp only at hSw); obtain ⟨s0, s1, s2⟩ := hSw; go_simp; (try with_reducible rfl); done)); (try simp only [Act.put, List.setIfInBounds_toArray, List.set_cons_zero, List.set_cons_succ]))
      (refine takeH (i := 20) (v := ?_) rfl (by kernel_rfl) (by kernel_rfl) (by kernel_rfl) (fun _ _ _ h => h) (Or.inl ⟨by rfl, ?_⟩) (by assumption) ?_; rotate_left; (focus ((intro wS hSw); (try dsimp only at hSw); obtain ⟨s0, s1, s2⟩ := hSw; go_simp; (try with_reducible rfl); done)); (try simp only [Act.put, List.setIfInBounds_toArray, List.set_cons_zero, List.set_cons_succ]))
      (refine takeH (i := 21) (v := ?_) rfl (by kernel_rfl) (by kernel_rfl) (by kernel_rfl) (fun _ _ _ h => h) (Or.inl ⟨by rfl, ?_⟩) (by assumption) ?_; rotate_left; (focus ((intro wS hSw); (try dsimp only at hSw); obtain ⟨s0, s1, s2⟩ := hSw; go_simp; (try with_reducible rfl); done)); (try simp only [Act.put, List.setIfInBounds_toArray, List.set_cons_zero, List.set_cons_succ]))
      (refine takeH (i := 23) (v := ?_) rfl (by kernel_rfl) (by kernel_rfl) (by kernel_rfl) (fun _ _ _ h => h) (Or.inl ⟨by rfl, ?_⟩) (by assumption) ?_; rotate_left; (focus ((intro wS hSw); (try dsimp only at hSw); obtain ⟨s0, s1, s2⟩ := hSw; go_simp; (try with_reducible rfl); done)); (try simp only [Act.put, List.setIfInBounds_toArray, List.set_cons_zero, List.set_cons_succ]))
      (refine takeH (i := 24) (v := ?_) rfl (by kernel_rfl) (by kernel_rfl) (by kernel_rfl) (fun _ _ _ h => h) (Or.inl ⟨by rfl, ?_⟩) (by assumption) ?_; rotate_left; (focus ((intro wS hSw); (try dsimp only at hSw); obtain ⟨s0, s1, s2⟩ := hSw; go_simp; (try with_reducible rfl); done)); (try simp only [Act.put, List.setIfInBounds_toArray, List.set_cons_zero, List.set_cons_succ]))
      (refine takeH (i := 25) (v := ?_) rfl (by kernel_rfl) (by kernel_rfl) (by kernel_rfl) (fun _ _ _ h => h) (Or.inl ⟨by rfl, ?_⟩) (by assumption) ?_; rotate_left; (focus ((intro wS hSw); (try dsimp only at hSw); obtain ⟨s0, s1, s2⟩ := hSw; go_simp; (try with_reducible rfl); done)); (try simp only [Act.put, List.setIfInBounds_toArray, List.set_cons_zero, List.set_cons_succ]))
      (refine takeH (i := 26) (v := ?_) rfl (by kernel_rfl) (by kernel_rfl) (by kernel_rfl) (fun _ _ _ h => h) (Or.inl ⟨by rfl, ?_⟩) (by assumption) ?_; rotate_left; (focus ((intro wS hSw); (try dsimp only at hSw); obtain ⟨s0, s1, s2⟩ := hSw; go_simp; (try with_reducible rfl); done)); (try simp only [Act.put, List.setIfInBounds_toArray, List.set_cons_zero, List.set_cons_succ]))
      (refine takeH (i := 27) (v := ?_) rfl (by kernel_rfl) (by kernel_rfl) (by kernel_rfl) (fun _ _ _ h => h) (Or.inl ⟨by rfl, ?_⟩) (by assumption) ?_; rotate_left; (focus ((intro wS hSw); (try dsimp only at hSw); obtain ⟨s0, s1, s2⟩ := hSw; go_simp; (try with_reducible rfl); done)); (try simp only [Act.put, List.setIfInBounds_toArray, List.set_cons_zero, List.set_cons_succ]))
      refine aloneH (i := 22) rfl (by kernel_rfl) (fun K hK => ?_)
      rw [if_pos (by rfl)]
      go_simp; ((refine (HGp.out w2 (below_then HB1.out HB2.out)).mono ?_); (rintro e w3 ⟨rfl, hb⟩); have HB3 := Lib.hid hb; clear hb; (try go_simp))
      refine hK.out _ _ (⟨cell_on HB3.out hHeld.1, cell_on HB3.out hHeld.2.1, cell_on HB3.out hHeld.2.2⟩) (fun hNew => ?_)
      clear hK K hHeld; (have hHeld := hNew); clear hNew; (try simp only [Act.put, List.setIfInBounds_toArray, List.set_cons_zero, List.set_cons_succ])
      refine aloneH (i := 28) rfl (by kernel_rfl) (fun K hK => ?_)
      rw [if_pos (by rfl)]
      go_simp; ((refine (HGr.out w3 (below_then (below_then HB1.out HB2.out) HB3.out)).mono ?_); (rintro e w4 ⟨rfl, hb⟩); have HB4 := Lib.hid hb; clear hb; (try go_simp))
      refine hK.out _ _ (⟨cell_on HB4.out hHeld.1, cell_on HB4.out hHeld.2.1, cell_on HB4.out hHeld.2.2⟩) (fun hNew => ?_)
      clear hK K hHeld; (have hHeld := hNew); clear hNew; (try simp only [Act.put, List.setIfInBounds_toArray, List.set_cons_zero, List.set_cons_succ])
      (refine takeH (i := 29) (v := (.bool false)) rfl (by kernel_rfl) (by kernel_rfl) (by kernel_rfl) (fun _ _ _ h => h) (Or.inl ⟨by rfl, by (intro wS hSw); (try dsimp only at hSw); (obtain ⟨s0, s1, s2⟩ := hSw); go_simp; (first | done | omega | (simp; omega) | simp)⟩) (by assumption) ?_; (try simp only [Act.put, List.setIfInBounds_toArray, List.set_cons_zero, List.set_cons_succ]))
      (refine takeH (i := 30) (v := ?_) rfl (by kernel_rfl) (by kernel_rfl) (by kernel_rfl) (fun _ _ _ h => h) (Or.inl ⟨by rfl, ?_⟩) (by assumption) ?_; rotate_left; (focus ((intro wS hSw); (try dsimp only at hSw); obtain ⟨s0, s1, s2⟩ := hSw; go_simp; (try with_reducible rfl); done)); (try simp only [Act.put, List.setIfInBounds_toArray, List.set_cons_zero, List.set_cons_succ]))
      refine wpAnyH_done (by kernel_rfl) ?_ _
      clear hHeld
      have HBF := Lib.hid ((below_then (below_then (below_then HB1.out HB2.out) HB3.out) HB4.out))
      go_wp2
      go_roundw
      case rel => exact ⟨k + 1, A2, c2, L2, M2, by omega, by go_num, rfl, Lib.hid (HF.out.1.on HBF.out), Lib.hid ⟨HF.out.2.1.1.on HBF.out, HF.out.2.1.2⟩, HF2, Lib.hid ⟨heap_on HBF.out HF.out.2.2.1, HF.out.2.2.2.trans (HBF.out.mono HF.out.2.2.2.size)⟩⟩
      case measure => simp [intOf]; omega
    · obtain rfl : k = S.length := by omega
      go_wp2_with (go_at_call 9; refine (tl_lives _).mono ?_; rintro e w9 ⟨rfl, hb⟩; have HZ := Lib.hid (HX.out.2.trans (hb.mono HX.out.2.size)); clear hb; refine Stop.out ?_)
      unfold Stop
      go_wp2
      go_ret
      exact ⟨rfl, HZ.out⟩
theorem timelineSets_any (most : Int) (A : Option Addr) (c : Nat) (S : List Sp) (f u : Int) (w : World) (hS : Row w A S) :
    Calls Try.prog 3 #[.int .i64 most, .slice A S.length c, .agg #[.int .i64 f, .int .i64 u]] w fun e w' => e = .returned (.bool true) ∧ Below w.heap.size w w' := by
  by_cases hl : S.length ≤ 60
  · by_cases hm : 1 ≤ most ∧ most ≤ 256
    · obtain ⟨m, rfl⟩ : ∃ m : Nat, most = (m : Int) := ⟨most.toNat, by omega⟩
      exact sets_in m A c S f u w hl (by omega) (by omega) hS
    · exact sets_out most A c S f u w hl (by omega)
  · exact sets_long most A c S f u w (by omega)
end Go.Proofs.Ytlnpflfkkjcopaa
