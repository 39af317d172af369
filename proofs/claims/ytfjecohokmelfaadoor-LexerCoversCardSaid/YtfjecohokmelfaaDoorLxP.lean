/- What is shown reads again as the tokens: walked. -/
import Derived.Test.YtfjecohokmelfaaDoorLxO
import Derived.Test.YtfjecohokmelfaaDoorDrawB
namespace Go.Proofs.YtfjecohokmelfaaDoor
open Go.RowKit
set_option maxRecDepth 100000
set_option linter.unusedSimpArgs false
set_option linter.unusedVariables false

theorem again_bad {s : ByteArray} (h : s.size ≤ 6000) (he : (lexI s 0 []).1 = [] ∧ (lexI s 0 []).2.2 = 80) : ∃ a0, ∀ W, Calls Tryd.prog 7 #[.string s] W fun e w' => ∃ A c, e = .returned (.tuple #[.slice A 0 c, .int .i64 a0, .int .i64 80]) ∧ Below W.heap.size W w' := by
  have hc := fun W => code_lexF s W (by omega)
  generalize lexI s 0 [] = R at hc he
  obtain ⟨L, a0, e0⟩ := R
  dsimp only at hc he
  obtain ⟨rfl, rfl⟩ := he
  exact ⟨_, fun W => (hc W).mono fun e w' ⟨A, c, h1, h2, h3⟩ => ⟨A, c, h1, h3⟩⟩
theorem lex_good {s : ByteArray} (h : s.size ≤ 6000) (he : (lexI s 0 []).2.2 = 0) : ∃ a0, ∀ W, Calls Tryd.prog 7 #[.string s] W fun e w' => ∃ A c, e = .returned (.tuple #[.slice A (lexI s 0 []).1.length c, .int .i64 a0, .int .i64 0]) ∧ RowTokV w' A (lexI s 0 []).1 ∧ Below W.heap.size W w' := by
  have hc := fun W => code_lexF s W (by omega)
  rw [he] at hc
  exact ⟨_, hc⟩
theorem again_good {s : ByteArray} (h : s.size ≤ 6000) : ∃ (T : ByteArray) (L : List TokV), (∀ W A c, RowTokV W A (lexI s 0 []).1 → Calls Tryd.prog 10 #[.slice A (lexI s 0 []).1.length c] W fun e w' => e = .returned (.string T) ∧ Below W.heap.size W w') ∧
    (∀ W, Calls Tryd.prog 7 #[.string T] W fun e w' => ∃ A c, e = .returned (.tuple #[.slice A (lexI s 0 []).1.length c, .int .i64 0, .int .i64 0]) ∧ RowTokV w' A L ∧ Below W.heap.size W w') ∧ L.length = (lexI s 0 []).1.length ∧ ∀ j (h1 : j < (lexI s 0 []).1.length) (h2 : j < L.length), sameK (lexI s 0 []).1[j] L[j] := by
  have hf := lex_few (s := s) (by omega)
  have hb := lex_bound (s := s) 0 [] (Nat.zero_le _) (Nat.le_refl _) (Nat.le_refl _)
  have hsl := showL_len (lexI s 0 []).1
  obtain ⟨L, h1, h2, h3⟩ := lex_again (s := s)
  have hz : (⟨(showL (lexI s 0 []).1).toArray⟩ : ByteArray).size = (showL (lexI s 0 []).1).length := by
    show (showL (lexI s 0 []).1).toArray.size = _
    simp
  refine ⟨⟨(showL (lexI s 0 []).1).toArray⟩, L, fun W A c hr => code_show _ A c W (by omega) (by omega) hr, fun W => ?_, h2, h3⟩
  refine (code_lexF _ W (by rw [hz]; omega)).mono fun e w' ⟨A, c, g1, g2, g3⟩ => ⟨A, c, ?_, ?_, g3⟩
  · rw [g1, h1, ← h2]
    rfl
  · rw [h1] at g2
    exact g2
set_option maxHeartbeats 1000000 in
theorem again_long (s : ByteArray) (w : World) (h1 : (6000 : Int) < (s.size : Int)) : Calls Tryd.prog 4 #[.string s] w fun e w' => e = .returned (.bool true) ∧ Below w.heap.size w w' := by
  have HLv := Lib.hid code_lives
  go_enter Tryd.func4, Tryd.ntmps4
  go_wp2_with (go_at_call 6; refine (HLv.out _).mono ?_; rintro e w1 ⟨rfl, hb⟩; have HB1 := Lib.hid hb; clear hb)
  go_ret
  exact ⟨rfl, HB1.out⟩
set_option maxHeartbeats 1000000 in
theorem again_err (s : ByteArray) (w : World) (h1 : (s.size : Int) ≤ 6000) (he : (lexI s 0 []).1 = [] ∧ (lexI s 0 []).2.2 = 80) : Calls Tryd.prog 4 #[.string s] w fun e w' => e = .returned (.bool true) ∧ Below w.heap.size w w' := by
  have HLv := Lib.hid code_lives
  obtain ⟨a0, hc⟩ := again_bad (s := s) (by omega) he
  have HC := Lib.hid hc
  clear hc he
  go_enter Tryd.func4, Tryd.ntmps4
  go_wp2_with (go_at_call 7; refine (HC.out _).mono ?_; rintro e w0 ⟨A, c, rfl, hb⟩; have HB0 := Lib.hid hb; clear hb; refine Stop.out ?_)
  unfold Stop
  go_wp2_with (go_at_call 6; refine (HLv.out _).mono ?_; rintro e w1 ⟨rfl, hb⟩; have HB1 := Lib.hid (below_then HB0.out hb); clear hb)
  go_ret
  exact ⟨rfl, HB1.out⟩
set_option maxHeartbeats 4000000 in
theorem again_yes (s : ByteArray) (w : World) (h1 : (s.size : Int) ≤ 6000) (he : (lexI s 0 []).2.2 = 0) : Calls Tryd.prog 4 #[.string s] w fun e w' => e = .returned (.bool true) ∧ Below w.heap.size w w' := by
  have HLv := Lib.hid code_lives
  obtain ⟨a0, hc1⟩ := lex_good (s := s) (by omega) he
  obtain ⟨T, M, hc2, hc3, hl, hs⟩ := again_good (s := s) (by omega)
  have hfew := (lex_few (s := s) (by omega)).1
  generalize (lexI s 0 []).1 = L at hc1 hc2 hc3 hl hs hfew
  have HC1 := Lib.hid hc1
  have HC2 := Lib.hid hc2
  have HC3 := Lib.hid hc3
  have HLn := Lib.hid hl
  have HSm := Lib.hid hs
  have HFw := Lib.hid hfew
  clear hc1 hc2 hc3 hl hs he hfew
  have hnl : ((L.length : Int) != (L.length : Int)) = false := by simp
  go_enter Tryd.func4, Tryd.ntmps4
  go_wp2_with (go_at_call 7; refine (HC1.out _).mono ?_; rintro e w1 ⟨A, c, rfl, hr, hb⟩; have HR1 := Lib.hid hr; have HB1 := Lib.hid hb; clear hr hb; refine Stop.out ?_)
  unfold Stop
  go_wp2_with (go_at_call 10; refine (HC2.out _ _ _ HR1.out).mono ?_; rintro e w2 ⟨rfl, hb⟩; have HR2 := Lib.hid (HR1.out.on hb); have HB2 := Lib.hid (below_then HB1.out hb); clear hb; refine Stop.out ?_)
  unfold Stop
  go_wp2_with (go_at_call 7; refine (HC3.out _).mono ?_; rintro e w3 ⟨A', c', rfl, hr, hb⟩; have HR3 := Lib.hid hr; have HA3 := Lib.hid (HR2.out.on hb); have HB3 := Lib.hid (below_then HB2.out hb); clear hr hb; refine Stop.out ?_)
  unfold Stop
  clear HR1 HR2 HB1 HB2 HC1 HC2 HC3
  go_wp2
  clear hnl
  go_loopw [9, 46] (fun v9 v46 wr => ∃ k : Nat, v46 = .int .i64 (k : Nat) ∧ Hid (k ≤ L.length) ∧ Hid (Below w3.heap.size w3 wr)) (fun _ v46 _ => leftI L.length v46)
  case atStart => exact ⟨0, rfl, Lib.hid (Nat.zero_le _), Lib.hid (Below.refl _ _)⟩
  case round =>
    obtain ⟨k, rfl, HK, HB⟩ := hrel
    by_cases hlt : k < L.length
    · have hlt' : (k : Int) < (L.length : Int) := by omega
      have HLt := Lib.hid hlt
      have HWk : Hid (wrap64 ((k : Int) + 1) = ((k + 1 : Nat) : Int)) := Lib.hid (wrap1 (by have := HFw.out; omega))
      obtain ⟨b, o, rfl, p1, q0, q1, q2, q3⟩ := HA3.out.at_ k hlt
      obtain ⟨b', o', rfl, p1', q0', q1', q2', q3'⟩ := HR3.out.at_ k (by rw [HLn.out]; exact hlt)
      obtain ⟨k0, k2, k3⟩ := HSm.out k hlt (by rw [HLn.out]; exact hlt)
      rw [k0] at q0'
      rw [k2] at q2'
      rw [k3] at q3'
      clear k0 k2 k3 q1 q1'
      generalize L[k] = x at q0 q2 q3 q0' q2' q3'
      have HS0 : Hid ((fun V : World => (V.cell? ⟨b, o + k * 4, none⟩ = some (.int .i64 x.1) ∧ V.cell? ⟨b, o + k * 4 + 2, none⟩ = some (.string x.2.2.1) ∧ V.cell? ⟨b, o + k * 4 + 3, none⟩ = some (.int .i64 x.2.2.2)) ∧ (V.cell? ⟨b', o' + k * 4, none⟩ = some (.int .i64 x.1) ∧ V.cell? ⟨b', o' + k * 4 + 2, none⟩ = some (.string x.2.2.1) ∧ V.cell? ⟨b', o' + k * 4 + 3, none⟩ = some (.int .i64 x.2.2.2))) wr.drew) := Lib.hid (by
        have hb := HB.out.drew
        exact ⟨⟨(hb.cell (p := ⟨b, _, none⟩) p1).trans q0, (hb.cell (p := ⟨b, _, none⟩) p1).trans q2, (hb.cell (p := ⟨b, _, none⟩) p1).trans q3⟩, (hb.cell (p := ⟨b', _, none⟩) p1').trans q0', (hb.cell (p := ⟨b', _, none⟩) p1').trans q2', (hb.cell (p := ⟨b', _, none⟩) p1').trans q3'⟩)
      have HBd : Hid (Below w3.heap.size w3 wr.drew) := Lib.hid HB.out.drew
      clear q0 q2 q3 q0' q2' q3' p1 p1' hlt
      go_wp2
      refine wp_region_held_drew (S := fun V : World => (V.cell? ⟨b, o + k * 4, none⟩ = some (.int .i64 x.1) ∧ V.cell? ⟨b, o + k * 4 + 2, none⟩ = some (.string x.2.2.1) ∧ V.cell? ⟨b, o + k * 4 + 3, none⟩ = some (.int .i64 x.2.2.2)) ∧ (V.cell? ⟨b', o' + k * 4, none⟩ = some (.int .i64 x.1) ∧ V.cell? ⟨b', o' + k * 4 + 2, none⟩ = some (.string x.2.2.1) ∧ V.cell? ⟨b', o' + k * 4 + 3, none⟩ = some (.int .i64 x.2.2.2))) (by kernel_rfl) HS0.out ?_
      intro hHeld
      clear HS0
      generalize wr.drew = wd at HBd hHeld ⊢
      (refine takeH (i := 0) (v := ?_) rfl (by kernel_rfl) (by kernel_rfl) (by kernel_rfl) (fun _ _ _ h => h) (Or.inl ⟨by rfl, ?_⟩) (by assumption) ?_; rotate_left; (focus ((intro wS hSw); (try dsimp only at hSw); obtain ⟨⟨s0, s2, s3⟩, t0, t2, t3⟩ := hSw; go_simp; (try with_reducible rfl); done)); (try simp only [Act.put, List.setIfInBounds_toArray, List.set_cons_zero, List.set_cons_succ]))
      (refine takeH (i := 1) (v := ?_) rfl (by kernel_rfl) (by kernel_rfl) (by kernel_rfl) (fun _ _ _ h => h) (Or.inl ⟨by rfl, ?_⟩) (by assumption) ?_; rotate_left; (focus ((intro wS hSw); (try dsimp only at hSw); obtain ⟨⟨s0, s2, s3⟩, t0, t2, t3⟩ := hSw; go_simp; (try with_reducible rfl); done)); (try simp only [Act.put, List.setIfInBounds_toArray, List.set_cons_zero, List.set_cons_succ]))
      (refine takeH (i := 2) (v := ?_) rfl (by kernel_rfl) (by kernel_rfl) (by kernel_rfl) (fun _ _ _ h => h) (Or.inl ⟨by rfl, ?_⟩) (by assumption) ?_; rotate_left; (focus ((intro wS hSw); (try dsimp only at hSw); obtain ⟨⟨s0, s2, s3⟩, t0, t2, t3⟩ := hSw; go_simp; (try with_reducible rfl); done)); (try simp only [Act.put, List.setIfInBounds_toArray, List.set_cons_zero, List.set_cons_succ]))
      (refine takeH (i := 3) (v := ?_) rfl (by kernel_rfl) (by kernel_rfl) (by kernel_rfl) (fun _ _ _ h => h) (Or.inl ⟨by rfl, ?_⟩) (by assumption) ?_; rotate_left; (focus ((intro wS hSw); (try dsimp only at hSw); obtain ⟨⟨s0, s2, s3⟩, t0, t2, t3⟩ := hSw; go_simp; (try with_reducible rfl); done)); (try simp only [Act.put, List.setIfInBounds_toArray, List.set_cons_zero, List.set_cons_succ]))
      (refine takeH (i := 4) (v := ?_) rfl (by kernel_rfl) (by kernel_rfl) (by kernel_rfl) (fun _ _ _ h => h) (Or.inl ⟨by rfl, ?_⟩) (by assumption) ?_; rotate_left; (focus ((intro wS hSw); (try dsimp only at hSw); obtain ⟨⟨s0, s2, s3⟩, t0, t2, t3⟩ := hSw; go_simp; (try with_reducible rfl); done)); (try simp only [Act.put, List.setIfInBounds_toArray, List.set_cons_zero, List.set_cons_succ]))
      (refine takeH (i := 5) (v := ?_) rfl (by kernel_rfl) (by kernel_rfl) (by kernel_rfl) (fun _ _ _ h => h) (Or.inl ⟨by rfl, ?_⟩) (by assumption) ?_; rotate_left; (focus ((intro wS hSw); (try dsimp only at hSw); obtain ⟨⟨s0, s2, s3⟩, t0, t2, t3⟩ := hSw; go_simp; (try with_reducible rfl); done)); (try simp only [Act.put, List.setIfInBounds_toArray, List.set_cons_zero, List.set_cons_succ]))
      (refine takeH (i := 6) (v := ?_) rfl (by kernel_rfl) (by kernel_rfl) (by kernel_rfl) (fun _ _ _ h => h) (Or.inl ⟨by rfl, ?_⟩) (by assumption) ?_; rotate_left; (focus ((intro wS hSw); (try dsimp only at hSw); obtain ⟨⟨s0, s2, s3⟩, t0, t2, t3⟩ := hSw; go_simp; (try with_reducible rfl); done)); (try simp only [Act.put, List.setIfInBounds_toArray, List.set_cons_zero, List.set_cons_succ]))
      (refine takeH (i := 7) (v := ?_) rfl (by kernel_rfl) (by kernel_rfl) (by kernel_rfl) (fun _ _ _ h => h) (Or.inl ⟨by rfl, ?_⟩) (by assumption) ?_; rotate_left; (focus ((intro wS hSw); (try dsimp only at hSw); obtain ⟨⟨s0, s2, s3⟩, t0, t2, t3⟩ := hSw; go_simp; (try with_reducible rfl); done)); (try simp only [Act.put, List.setIfInBounds_toArray, List.set_cons_zero, List.set_cons_succ]))
      (refine takeH (i := 8) (v := ?_) rfl (by kernel_rfl) (by kernel_rfl) (by kernel_rfl) (fun _ _ _ h => h) (Or.inl ⟨by rfl, ?_⟩) (by assumption) ?_; rotate_left; (focus ((intro wS hSw); (try dsimp only at hSw); obtain ⟨⟨s0, s2, s3⟩, t0, t2, t3⟩ := hSw; go_simp; (try with_reducible rfl); done)); (try simp only [Act.put, List.setIfInBounds_toArray, List.set_cons_zero, List.set_cons_succ]))
      (refine takeH (i := 9) (v := ?_) rfl (by kernel_rfl) (by kernel_rfl) (by kernel_rfl) (fun _ _ _ h => h) (Or.inl ⟨by rfl, ?_⟩) (by assumption) ?_; rotate_left; (focus ((intro wS hSw); (try dsimp only at hSw); obtain ⟨⟨s0, s2, s3⟩, t0, t2, t3⟩ := hSw; go_simp; (try with_reducible rfl); done)); (try simp only [Act.put, List.setIfInBounds_toArray, List.set_cons_zero, List.set_cons_succ]))
      (refine takeH (i := 10) (v := ?_) rfl (by kernel_rfl) (by kernel_rfl) (by kernel_rfl) (fun _ _ _ h => h) (Or.inl ⟨by rfl, ?_⟩) (by assumption) ?_; rotate_left; (focus ((intro wS hSw); (try dsimp only at hSw); obtain ⟨⟨s0, s2, s3⟩, t0, t2, t3⟩ := hSw; go_simp; (try with_reducible rfl); done)); (try simp only [Act.put, List.setIfInBounds_toArray, List.set_cons_zero, List.set_cons_succ]))
      (refine takeH (i := 11) (v := ?_) rfl (by kernel_rfl) (by kernel_rfl) (by kernel_rfl) (fun _ _ _ h => h) (Or.inl ⟨by rfl, ?_⟩) (by assumption) ?_; rotate_left; (focus ((intro wS hSw); (try dsimp only at hSw); obtain ⟨⟨s0, s2, s3⟩, t0, t2, t3⟩ := hSw; go_simp; (try with_reducible rfl); done)); (try simp only [Act.put, List.setIfInBounds_toArray, List.set_cons_zero, List.set_cons_succ]))
      (refine takeH (i := 12) (v := ?_) rfl (by kernel_rfl) (by kernel_rfl) (by kernel_rfl) (fun _ _ _ h => h) (Or.inl ⟨by rfl, ?_⟩) (by assumption) ?_; rotate_left; (focus ((intro wS hSw); (try dsimp only at hSw); obtain ⟨⟨s0, s2, s3⟩, t0, t2, t3⟩ := hSw; go_simp; (try with_reducible rfl); done)); (try simp only [Act.put, List.setIfInBounds_toArray, List.set_cons_zero, List.set_cons_succ]))
      (refine takeH (i := 13) (v := ?_) rfl (by kernel_rfl) (by kernel_rfl) (by kernel_rfl) (fun _ _ _ h => h) (Or.inl ⟨by rfl, ?_⟩) (by assumption) ?_; rotate_left; (focus ((intro wS hSw); (try dsimp only at hSw); obtain ⟨⟨s0, s2, s3⟩, t0, t2, t3⟩ := hSw; go_simp; (try with_reducible rfl); done)); (try simp only [Act.put, List.setIfInBounds_toArray, List.set_cons_zero, List.set_cons_succ]))
      (refine takeH (i := 14) (v := ?_) rfl (by kernel_rfl) (by kernel_rfl) (by kernel_rfl) (fun _ _ _ h => h) (Or.inl ⟨by rfl, ?_⟩) (by assumption) ?_; rotate_left; (focus ((intro wS hSw); (try dsimp only at hSw); obtain ⟨⟨s0, s2, s3⟩, t0, t2, t3⟩ := hSw; go_simp; (try with_reducible rfl); done)); (try simp only [Act.put, List.setIfInBounds_toArray, List.set_cons_zero, List.set_cons_succ]))
      (refine takeH (i := 15) (v := ?_) rfl (by kernel_rfl) (by kernel_rfl) (by kernel_rfl) (fun _ _ _ h => h) (Or.inl ⟨by rfl, ?_⟩) (by assumption) ?_; rotate_left; (focus ((intro wS hSw); (try dsimp only at hSw); obtain ⟨⟨s0, s2, s3⟩, t0, t2, t3⟩ := hSw; go_simp; (try with_reducible rfl); done)); (try simp only [Act.put, List.setIfInBounds_toArray, List.set_cons_zero, List.set_cons_succ]))
      (refine takeH (i := 16) (v := ?_) rfl (by kernel_rfl) (by kernel_rfl) (by kernel_rfl) (fun _ _ _ h => h) (Or.inl ⟨by rfl, ?_⟩) (by assumption) ?_; rotate_left; (focus ((intro wS hSw); (try dsimp only at hSw); obtain ⟨⟨s0, s2, s3⟩, t0, t2, t3⟩ := hSw; go_simp; (try with_reducible rfl); done)); (try simp only [Act.put, List.setIfInBounds_toArray, List.set_cons_zero, List.set_cons_succ]))
      (refine takeH (i := 17) (v := ?_) rfl (by kernel_rfl) (by kernel_rfl) (by kernel_rfl) (fun _ _ _ h => h) (Or.inl ⟨by rfl, ?_⟩) (by assumption) ?_; rotate_left; (focus ((intro wS hSw); (try dsimp only at hSw); obtain ⟨⟨s0, s2, s3⟩, t0, t2, t3⟩ := hSw; go_simp; (try with_reducible rfl); done)); (try simp only [Act.put, List.setIfInBounds_toArray, List.set_cons_zero, List.set_cons_succ]))
      (refine takeH (i := 18) (v := ?_) rfl (by kernel_rfl) (by kernel_rfl) (by kernel_rfl) (fun _ _ _ h => h) (Or.inl ⟨by rfl, ?_⟩) (by assumption) ?_; rotate_left; (focus ((intro wS hSw); (try dsimp only at hSw); obtain ⟨⟨s0, s2, s3⟩, t0, t2, t3⟩ := hSw; go_simp; (try with_reducible rfl); done)); (try simp only [Act.put, List.setIfInBounds_toArray, List.set_cons_zero, List.set_cons_succ]))
      (refine takeH (i := 19) (v := ?_) rfl (by kernel_rfl) (by kernel_rfl) (by kernel_rfl) (fun _ _ _ h => h) (Or.inl ⟨by rfl, ?_⟩) (by assumption) ?_; rotate_left; (focus ((intro wS hSw); (try dsimp only at hSw); obtain ⟨⟨s0, s2, s3⟩, t0, t2, t3⟩ := hSw; go_simp; (try with_reducible rfl); done)); (try simp only [Act.put, List.setIfInBounds_toArray, List.set_cons_zero, List.set_cons_succ]))
      (refine takeH (i := 20) (v := ?_) rfl (by kernel_rfl) (by kernel_rfl) (by kernel_rfl) (fun _ _ _ h => h) (Or.inl ⟨by rfl, ?_⟩) (by assumption) ?_; rotate_left; (focus ((intro wS hSw); (try dsimp only at hSw); obtain ⟨⟨s0, s2, s3⟩, t0, t2, t3⟩ := hSw; go_simp; (try with_reducible rfl); done)); (try simp only [Act.put, List.setIfInBounds_toArray, List.set_cons_zero, List.set_cons_succ]))
      (refine takeH (i := 21) (v := ?_) rfl (by kernel_rfl) (by kernel_rfl) (by kernel_rfl) (fun _ _ _ h => h) (Or.inl ⟨by rfl, ?_⟩) (by assumption) ?_; rotate_left; (focus ((intro wS hSw); (try dsimp only at hSw); obtain ⟨⟨s0, s2, s3⟩, t0, t2, t3⟩ := hSw; go_simp; (try with_reducible rfl); done)); (try simp only [Act.put, List.setIfInBounds_toArray, List.set_cons_zero, List.set_cons_succ]))
      (refine takeH (i := 22) (v := ?_) rfl (by kernel_rfl) (by kernel_rfl) (by kernel_rfl) (fun _ _ _ h => h) (Or.inl ⟨by rfl, ?_⟩) (by assumption) ?_; rotate_left; (focus ((intro wS hSw); (try dsimp only at hSw); obtain ⟨⟨s0, s2, s3⟩, t0, t2, t3⟩ := hSw; go_simp; (try with_reducible rfl); done)); (try simp only [Act.put, List.setIfInBounds_toArray, List.set_cons_zero, List.set_cons_succ]))
      (refine takeH (i := 23) (v := ?_) rfl (by kernel_rfl) (by kernel_rfl) (by kernel_rfl) (fun _ _ _ h => h) (Or.inl ⟨by rfl, ?_⟩) (by assumption) ?_; rotate_left; (focus ((intro wS hSw); (try dsimp only at hSw); obtain ⟨⟨s0, s2, s3⟩, t0, t2, t3⟩ := hSw; go_simp; (try with_reducible rfl); done)); (try simp only [Act.put, List.setIfInBounds_toArray, List.set_cons_zero, List.set_cons_succ]))
      (refine takeH (i := 24) (v := ?_) rfl (by kernel_rfl) (by kernel_rfl) (by kernel_rfl) (fun _ _ _ h => h) (Or.inl ⟨by rfl, ?_⟩) (by assumption) ?_; rotate_left; (focus ((intro wS hSw); (try dsimp only at hSw); obtain ⟨⟨s0, s2, s3⟩, t0, t2, t3⟩ := hSw; go_simp; (try with_reducible rfl); done)); (try simp only [Act.put, List.setIfInBounds_toArray, List.set_cons_zero, List.set_cons_succ]))
      (refine takeH (i := 25) (v := ?_) rfl (by kernel_rfl) (by kernel_rfl) (by kernel_rfl) (fun _ _ _ h => h) (Or.inl ⟨by rfl, ?_⟩) (by assumption) ?_; rotate_left; (focus ((intro wS hSw); (try dsimp only at hSw); obtain ⟨⟨s0, s2, s3⟩, t0, t2, t3⟩ := hSw; go_simp; (try with_reducible rfl); done)); (try simp only [Act.put, List.setIfInBounds_toArray, List.set_cons_zero, List.set_cons_succ]))
      (refine takeH (i := 26) (v := ?_) rfl (by kernel_rfl) (by kernel_rfl) (by kernel_rfl) (fun _ _ _ h => h) (Or.inl ⟨by rfl, ?_⟩) (by assumption) ?_; rotate_left; (focus ((intro wS hSw); (try dsimp only at hSw); obtain ⟨⟨s0, s2, s3⟩, t0, t2, t3⟩ := hSw; go_simp; (try with_reducible rfl); done)); (try simp only [Act.put, List.setIfInBounds_toArray, List.set_cons_zero, List.set_cons_succ]))
      (refine takeH (i := 27) (v := ?_) rfl (by kernel_rfl) (by kernel_rfl) (by kernel_rfl) (fun _ _ _ h => h) (Or.inl ⟨by rfl, ?_⟩) (by assumption) ?_; rotate_left; (focus ((intro wS hSw); (try dsimp only at hSw); obtain ⟨⟨s0, s2, s3⟩, t0, t2, t3⟩ := hSw; go_simp; (try with_reducible rfl); done)); (try simp only [Act.put, List.setIfInBounds_toArray, List.set_cons_zero, List.set_cons_succ]))
      (refine takeH (i := 28) (v := ?_) rfl (by kernel_rfl) (by kernel_rfl) (by kernel_rfl) (fun _ _ _ h => h) (Or.inl ⟨by rfl, ?_⟩) (by assumption) ?_; rotate_left; (focus ((intro wS hSw); (try dsimp only at hSw); obtain ⟨⟨s0, s2, s3⟩, t0, t2, t3⟩ := hSw; go_simp; (try with_reducible rfl); done)); (try simp only [Act.put, List.setIfInBounds_toArray, List.set_cons_zero, List.set_cons_succ]))
      (refine takeH (i := 29) (v := ?_) rfl (by kernel_rfl) (by kernel_rfl) (by kernel_rfl) (fun _ _ _ h => h) (Or.inl ⟨by rfl, ?_⟩) (by assumption) ?_; rotate_left; (focus ((intro wS hSw); (try dsimp only at hSw); obtain ⟨⟨s0, s2, s3⟩, t0, t2, t3⟩ := hSw; go_simp; (try with_reducible rfl); done)); (try simp only [Act.put, List.setIfInBounds_toArray, List.set_cons_zero, List.set_cons_succ]))
      (refine takeH (i := 30) (v := ?_) rfl (by kernel_rfl) (by kernel_rfl) (by kernel_rfl) (fun _ _ _ h => h) (Or.inl ⟨by rfl, ?_⟩) (by assumption) ?_; rotate_left; (focus ((intro wS hSw); (try dsimp only at hSw); obtain ⟨⟨s0, s2, s3⟩, t0, t2, t3⟩ := hSw; go_simp; (try with_reducible rfl); done)); (try simp only [Act.put, List.setIfInBounds_toArray, List.set_cons_zero, List.set_cons_succ]))
      (refine takeH (i := 31) (v := ?_) rfl (by kernel_rfl) (by kernel_rfl) (by kernel_rfl) (fun _ _ _ h => h) (Or.inl ⟨by rfl, ?_⟩) (by assumption) ?_; rotate_left; (focus ((intro wS hSw); (try dsimp only at hSw); obtain ⟨⟨s0, s2, s3⟩, t0, t2, t3⟩ := hSw; go_simp; (try with_reducible rfl); done)); (try simp only [Act.put, List.setIfInBounds_toArray, List.set_cons_zero, List.set_cons_succ]))
      (refine takeH (i := 32) (v := ?_) rfl (by kernel_rfl) (by kernel_rfl) (by kernel_rfl) (fun _ _ _ h => h) (Or.inl ⟨by rfl, ?_⟩) (by assumption) ?_; rotate_left; (focus ((intro wS hSw); (try dsimp only at hSw); obtain ⟨⟨s0, s2, s3⟩, t0, t2, t3⟩ := hSw; go_simp; (try with_reducible rfl); done)); (try simp only [Act.put, List.setIfInBounds_toArray, List.set_cons_zero, List.set_cons_succ]))
      (refine takeH (i := 33) (v := ?_) rfl (by kernel_rfl) (by kernel_rfl) (by kernel_rfl) (fun _ _ _ h => h) (Or.inl ⟨by rfl, ?_⟩) (by assumption) ?_; rotate_left; (focus ((intro wS hSw); (try dsimp only at hSw); obtain ⟨⟨s0, s2, s3⟩, t0, t2, t3⟩ := hSw; go_simp; (try with_reducible rfl); done)); (try simp only [Act.put, List.setIfInBounds_toArray, List.set_cons_zero, List.set_cons_succ]))
      (refine takeH (i := 34) (v := ?_) rfl (by kernel_rfl) (by kernel_rfl) (by kernel_rfl) (fun _ _ _ h => h) (Or.inl ⟨by rfl, ?_⟩) (by assumption) ?_; rotate_left; (focus ((intro wS hSw); (try dsimp only at hSw); obtain ⟨⟨s0, s2, s3⟩, t0, t2, t3⟩ := hSw; go_simp; (try with_reducible rfl); done)); (try simp only [Act.put, List.setIfInBounds_toArray, List.set_cons_zero, List.set_cons_succ]))
      (refine takeH (i := 35) (v := ?_) rfl (by kernel_rfl) (by kernel_rfl) (by kernel_rfl) (fun _ _ _ h => h) (Or.inl ⟨by rfl, ?_⟩) (by assumption) ?_; rotate_left; (focus ((intro wS hSw); (try dsimp only at hSw); obtain ⟨⟨s0, s2, s3⟩, t0, t2, t3⟩ := hSw; go_simp; (try with_reducible rfl); done)); (try simp only [Act.put, List.setIfInBounds_toArray, List.set_cons_zero, List.set_cons_succ]))
      (refine takeH (i := 36) (v := ?_) rfl (by kernel_rfl) (by kernel_rfl) (by kernel_rfl) (fun _ _ _ h => h) (Or.inl ⟨by rfl, ?_⟩) (by assumption) ?_; rotate_left; (focus ((intro wS hSw); (try dsimp only at hSw); obtain ⟨⟨s0, s2, s3⟩, t0, t2, t3⟩ := hSw; go_simp; (try with_reducible rfl); done)); (try simp only [Act.put, List.setIfInBounds_toArray, List.set_cons_zero, List.set_cons_succ]))
      refine wpAnyH_done (by kernel_rfl) ?_ _
      clear hHeld
      have hwk := HWk.out
      go_wp2
      go_roundw
      case rel => exact ⟨k + 1, by first | rfl | rw [hwk], Lib.hid HLt.out, HBd⟩
      case measure => first | exact leftI_lt (Nat.lt_succ_self k) HLt.out | (rw [hwk]; exact leftI_lt (Nat.lt_succ_self k) HLt.out)
    · have hge : (L.length : Int) ≤ (k : Int) := by omega
      go_wp2_with (go_at_call 6; refine (HLv.out _).mono ?_; rintro e w1 ⟨rfl, hb⟩; have HB9 := Lib.hid (below_then (below_then HB3.out HB.out) hb); clear hb)
      go_ret
      exact ⟨rfl, HB9.out⟩
theorem lexerAgain_any (s : ByteArray) (w : World) : Calls Tryd.prog 4 #[.string s] w fun e w' => e = .returned (.bool true) ∧ Below w.heap.size w w' := by
  by_cases h1 : (6000 : Int) < (s.size : Int)
  · exact again_long s w h1
  · rcases lex_bare (s := s) 0 [] with he | he
    · exact again_yes s w (by omega) he
    · exact again_err s w (by omega) he
end Go.Proofs.YtfjecohokmelfaaDoor
