/- The tokens cover the text: walked. -/
import Derived.Test.YtfjecohokmelfaaDoorLxP
namespace Go.Proofs.YtfjecohokmelfaaDoor
open Go.RowKit
set_option maxRecDepth 100000
set_option linter.unusedSimpArgs false
set_option linter.unusedVariables false

theorem ref_none {u : ByteArray} (W : World) (hz : u.size ≤ 65536) (h : lexI u 0 [] = ([], 0, 0)) : Calls Tryd.prog 8 #[.string u] W fun e w' => ∃ A c, e = .returned (.tuple #[.slice A 0 c, .int .i64 0, .int .i64 0]) ∧ Below W.heap.size W w' := by
  have hc := ref_lexF u W hz
  rw [h] at hc
  exact hc.mono fun e w' ⟨A, c, h1, h2, h3⟩ => ⟨A, c, h1, h3⟩
theorem not_empty {t : ByteArray} (h : 1 ≤ t.size) : ¬ t.toList = [] ∧ decide (t = (⟨#[]⟩ : ByteArray)) = false := by
  have h1 : t ≠ ⟨#[]⟩ := fun e => by rw [e] at h; exact absurd h (by decide)
  have h2 : t.toList ≠ [] := fun e => by
    rw [ByteArray.toList_eq] at e
    have h4 : t.data.toList.length = 0 := by rw [e]; rfl
    rw [Array.length_toList] at h4
    have h5 : t.size = t.data.size := rfl
    omega
  exact ⟨h2, decide_eq_false h1⟩
set_option maxHeartbeats 1000000 in
theorem covers_long (s : ByteArray) (w : World) (h1 : (6000 : Int) < (s.size : Int)) : Calls Tryd.prog 5 #[.string s] w fun e w' => e = .returned (.bool true) ∧ Below w.heap.size w w' := by
  have HLv := Lib.hid code_lives
  go_enter Tryd.func5, Tryd.ntmps5
  go_wp2_with (go_at_call 6; refine (HLv.out _).mono ?_; rintro e w1 ⟨rfl, hb⟩; have HB1 := Lib.hid hb; clear hb)
  go_ret
  exact ⟨rfl, HB1.out⟩
set_option maxHeartbeats 1000000 in
theorem covers_err (s : ByteArray) (w : World) (h1 : (s.size : Int) ≤ 6000) (he : (lexI s 0 []).1 = [] ∧ (lexI s 0 []).2.2 = 80) : Calls Tryd.prog 5 #[.string s] w fun e w' => e = .returned (.bool true) ∧ Below w.heap.size w w' := by
  have HLv := Lib.hid code_lives
  obtain ⟨a0, hc⟩ := again_bad (s := s) (by omega) he
  have HC := Lib.hid hc
  clear hc he
  go_enter Tryd.func5, Tryd.ntmps5
  go_wp2_with (go_at_call 7; refine (HC.out _).mono ?_; rintro e w0 ⟨A, c, rfl, hb⟩; have HB0 := Lib.hid hb; clear hb; refine Stop.out ?_)
  unfold Stop
  go_wp2_with (go_at_call 6; refine (HLv.out _).mono ?_; rintro e w1 ⟨rfl, hb⟩; have HB1 := Lib.hid (below_then HB0.out hb); clear hb)
  go_ret
  exact ⟨rfl, HB1.out⟩
set_option maxHeartbeats 4000000 in
theorem covers_yes (s : ByteArray) (w : World) (h1 : (s.size : Int) ≤ 6000) (he : (lexI s 0 []).2.2 = 0) : Calls Tryd.prog 5 #[.string s] w fun e w' => e = .returned (.bool true) ∧ Below w.heap.size w w' := by
  have HLv := Lib.hid code_lives
  have HSz : Hid (s.size ≤ 6000) := Lib.hid (by omega)
  obtain ⟨a0, hc1⟩ := lex_good (s := s) (by omega) he
  have hch := lex_covers he
  have hfew := (lex_few (s := s) (by omega)).1
  generalize (lexI s 0 []).1 = L at hc1 hch hfew
  have HC1 := Lib.hid hc1
  have HCh := Lib.hid hch
  have HFw := Lib.hid hfew
  clear hc1 hch he hfew
  go_enter Tryd.func5, Tryd.ntmps5
  go_wp2_with (go_at_call 7; refine (HC1.out _).mono ?_; rintro e w1 ⟨A, c, rfl, hr, hb⟩; have HR1 := Lib.hid hr; have HB1 := Lib.hid hb; clear hr hb; refine Stop.out ?_)
  unfold Stop
  clear HC1
  go_wp2
  go_loopw [6, 8, 9, 10, 11, 30] (fun v6 v8 v9 v10 v11 v30 wr => ∃ k a : Nat, v30 = .int .i64 (k : Nat) ∧ v6 = .int .i64 (a : Nat) ∧ Hid (k ≤ L.length ∧ a ≤ s.size ∧ Chain s a (L.drop k)) ∧ Hid (Below w1.heap.size w1 wr)) (fun _ _ _ _ _ v30 _ => leftI L.length v30)
  case atStart => exact ⟨0, 0, rfl, rfl, Lib.hid ⟨Nat.zero_le _, Nat.zero_le _, HCh.out⟩, Lib.hid (Below.refl _ _)⟩
  case round =>
    obtain ⟨k, a, rfl, rfl, HK, HB⟩ := hrel
    by_cases hlt : k < L.length
    · have hlt' : (k : Int) < (L.length : Int) := by omega
      have HLt := Lib.hid hlt
      have HWk : Hid (wrap64 ((k : Int) + 1) = ((k + 1 : Nat) : Int)) := Lib.hid (wrap1 (by have := HFw.out; omega))
      obtain ⟨bb, o, rfl, p1, q0, q1, q2, q3⟩ := HR1.out.at_ k hlt
      have hK := HK.out.2.2
      rw [List.drop_eq_getElem_cons hlt] at hK
      generalize L[k] = x at q0 q1 q2 q3 hK
      obtain ⟨kd, at0, t, nn⟩ := x
      obtain ⟨b, hb0, hab, hn1, hbn, htx, hgap, hnext⟩ := hK
      dsimp only at hb0 hn1 hbn htx hgap hnext q0 q1 q2 q3
      subst hb0
      obtain ⟨n, hn⟩ : ∃ n, n = t.size := ⟨_, rfl⟩
      have HNe := Lib.hid (not_empty hn1)
      rw [← hn] at hn1 hbn htx hnext
      obtain ⟨e1, he1⟩ : ∃ e1, e1 = b + n := ⟨_, rfl⟩
      rw [← he1] at hbn htx hnext
      obtain ⟨d, hd⟩ : ∃ d, d = s.size - b := ⟨_, rfl⟩
      have HTx := Lib.hid htx
      have HNx := Lib.hid (And.intro hbn hnext)
      have HSub : Hid (IntKind.i64.wrap ((s.size : Int) - (b : Int)) = (d : Int)) := Lib.hid ((IntWalk.i64_left _).trans (by have := HSz.out; unfold wrap64; omega))
      have HAdd : Hid (IntKind.i64.wrap ((b : Int) + (n : Int)) = (e1 : Int)) := Lib.hid ((IntWalk.i64_left _).trans (by have := HSz.out; unfold wrap64; omega))
      have HAdd2 : Hid (wrap64 ((b : Int) + (n : Int)) = (e1 : Int)) := Lib.hid (by have := HSz.out; unfold wrap64; omega)
      have HG : Hid (∀ W, Calls Tryd.prog 8 #[.string (s.extract a b)] W fun e w' => ∃ A c, e = .returned (.tuple #[.slice A 0 c, .int .i64 0, .int .i64 0]) ∧ Below W.heap.size W w') := Lib.hid fun W => ref_none W (by have := HSz.out; rw [ext_size hab (by omega)]; omega) hgap
      have hab' : (a : Int) ≤ (b : Int) := by omega
      have hnd : (n : Int) ≤ (d : Int) := by omega
      have hbe : (b : Int) ≤ (e1 : Int) := by omega
      have hes : (e1 : Int) ≤ (s.size : Int) := by omega
      have hbs : (b : Int) ≤ (s.size : Int) := by omega
      have hnt : t.size = n := hn.symm
      have r0 : wr.cell? ⟨bb, o + k * 4, none⟩ = some (.int .i64 kd) := (HB.out.cell (p := ⟨bb, _, none⟩) p1).trans q0
      have r1 : wr.cell? ⟨bb, o + k * 4 + 1, none⟩ = some (.int .i64 (b : Nat)) := (HB.out.cell (p := ⟨bb, _, none⟩) p1).trans q1
      have r2 : wr.cell? ⟨bb, o + k * 4 + 2, none⟩ = some (.string t) := (HB.out.cell (p := ⟨bb, _, none⟩) p1).trans q2
      have r3 : wr.cell? ⟨bb, o + k * 4 + 3, none⟩ = some (.int .i64 nn) := (HB.out.cell (p := ⟨bb, _, none⟩) p1).trans q3
      have HGs : Hid (w1.heap.size ≤ wr.heap.size) := Lib.hid HB.out.size
      have HN0 : Hid ((wr.alloc (.cells #[.int .i64 0, .int .i64 0, .string ⟨#[]⟩, .int .i64 0] 36)).heap[wr.heap.size]? = some (.cells #[.int .i64 0, .int .i64 0, .string ⟨#[]⟩, .int .i64 0] 36 (0, 0))) := Lib.hid (heap_alloc_new wr _)
      have HB2 : Hid (Below w1.heap.size w1 (wr.alloc (.cells #[.int .i64 0, .int .i64 0, .string ⟨#[]⟩, .int .i64 0] 36))) := Lib.hid (below_then HB.out (below_alloc _ _))
      clear q0 q1 q2 q3 p1 hlt hn1 hbn htx hnext hgap hn he1 hd hab
      go_wp2_with (first
        | ((with_reducible refine wpList_store_row 36 (o := ⟨none, _, _, _, _, _⟩) ?a1 (.tmp 8) (.tmp 33) ?a2 wr.heap.size ?a3 [.int .i64 kd, .int .i64 (b : Nat), .string t, .int .i64 nn] ?a4 ?a5 ?a6 #[.int .i64 0, .int .i64 0, .string ⟨#[]⟩, .int .i64 0] ?a7 36 ?a8 ?_); (case a1 => rfl); (case a2 => rfl); (case a3 => rfl); (case a4 => kernel_rfl); (case a5 => exact oneTok _ _ _ _); (case a6 => rfl); (case a7 => rfl); (case a8 => exact HN0.out); (try simp only [Act.put]); refine Stop.out ?_))
      unfold Stop
      have HX : Hid (((wr.alloc (.cells #[.int .i64 0, .int .i64 0, .string ⟨#[]⟩, .int .i64 0] 36)).setRow wr.heap.size [.int .i64 kd, .int .i64 (b : Nat), .string t, .int .i64 nn].toArray).heap[wr.heap.size]? = some (.cells #[.int .i64 kd, .int .i64 (b : Nat), .string t, .int .i64 nn] 36 (0, 0))) := Lib.hid (setRow_heap _ _ _ _ _ _ HN0.out)
      have HB3 : Hid (Below w1.heap.size w1 ((wr.alloc (.cells #[.int .i64 0, .int .i64 0, .string ⟨#[]⟩, .int .i64 0] 36)).setRow wr.heap.size [.int .i64 kd, .int .i64 (b : Nat), .string t, .int .i64 nn].toArray)) := Lib.hid (below_setRow HB2.out HGs.out _)
      clear r0 r1 r2 r3 HN0 HB2
      generalize ((wr.alloc (.cells #[.int .i64 0, .int .i64 0, .string ⟨#[]⟩, .int .i64 0] 36)).setRow wr.heap.size [.int .i64 kd, .int .i64 (b : Nat), .string t, .int .i64 nn].toArray) = w3 at HX HB3 ⊢
      generalize wr.heap.size = g at HX HGs ⊢
      go_wp2
      have HXd : Hid (w3.drew.heap[g]? = some (.cells #[.int .i64 kd, .int .i64 (b : Nat), .string t, .int .i64 nn] 36 (0, 0))) := Lib.hid (heap_on (Below.refl _ _).drew HX.out)
      have HBd : Hid (Below w1.heap.size w1 w3.drew) := Lib.hid HB3.out.drew
      have HS0 : Hid ((fun V : World => V.cell? ⟨g, 1, none⟩ = some (.int .i64 (b : Nat)) ∧ V.cell? ⟨g, 2, none⟩ = some (.string t)) w3.drew) := Lib.hid (by
        obtain ⟨y0, y1, y2, y3⟩ := cellsTokV HXd.out
        exact ⟨y1, y2⟩)
      refine wp_region_held_drew (S := fun V : World => V.cell? ⟨g, 1, none⟩ = some (.int .i64 (b : Nat)) ∧ V.cell? ⟨g, 2, none⟩ = some (.string t)) (by kernel_rfl) HS0.out ?_
      intro hHeld
      clear HS0 HX HB3
      generalize w3.drew = wd at HXd HBd hHeld ⊢
      (refine takeH (i := 0) (v := ?_) rfl (by kernel_rfl) (by kernel_rfl) (by kernel_rfl) (fun _ _ _ h => h) (Or.inl ⟨by rfl, ?_⟩) (by assumption) ?_; rotate_left; (focus ((intro wS hSw); (try dsimp only at hSw); obtain ⟨s1, s2⟩ := hSw; go_simp; (try with_reducible rfl); done)); (try simp only [Act.put, List.setIfInBounds_toArray, List.set_cons_zero, List.set_cons_succ]))
      (refine takeH (i := 1) (v := ?_) rfl (by kernel_rfl) (by kernel_rfl) (by kernel_rfl) (fun _ _ _ h => h) (Or.inl ⟨by rfl, ?_⟩) (by assumption) ?_; rotate_left; (focus ((intro wS hSw); (try dsimp only at hSw); obtain ⟨s1, s2⟩ := hSw; go_simp; (try with_reducible rfl); done)); (try simp only [Act.put, List.setIfInBounds_toArray, List.set_cons_zero, List.set_cons_succ]))
      (refine takeH (i := 2) (v := ?_) rfl (by kernel_rfl) (by kernel_rfl) (by kernel_rfl) (fun _ _ _ h => h) (Or.inl ⟨by rfl, ?_⟩) (by assumption) ?_; rotate_left; (focus ((intro wS hSw); (try dsimp only at hSw); obtain ⟨s1, s2⟩ := hSw; go_simp; (try with_reducible rfl); done)); (try simp only [Act.put, List.setIfInBounds_toArray, List.set_cons_zero, List.set_cons_succ]))
      (refine takeH (i := 3) (v := (.bool false)) rfl (by kernel_rfl) (by kernel_rfl) (by kernel_rfl) (fun _ _ _ h => h) (Or.inl ⟨by rfl, by (intro wS hSw); obtain ⟨s1, s2⟩ := hSw; go_simp; (first | done | exact Int.ofNat_le.1 hab' | (trace_state; fail))⟩) (by assumption) ?_; (try simp only [Act.put, List.setIfInBounds_toArray, List.set_cons_zero, List.set_cons_succ]))
      (refine takeH (i := 4) (v := ?_) rfl (by kernel_rfl) (by kernel_rfl) (by kernel_rfl) (fun _ _ _ h => h) (Or.inl ⟨by rfl, ?_⟩) (by assumption) ?_; rotate_left; (focus ((intro wS hSw); (try dsimp only at hSw); obtain ⟨s1, s2⟩ := hSw; go_simp; (try with_reducible rfl); done)); (try simp only [Act.put, List.setIfInBounds_toArray, List.set_cons_zero, List.set_cons_succ]))
      (refine takeH (i := 5) (v := ?_) rfl (by kernel_rfl) (by kernel_rfl) (by kernel_rfl) (fun _ _ _ h => h) (Or.inl ⟨by rfl, ?_⟩) (by assumption) ?_; rotate_left; (focus ((intro wS hSw); (try dsimp only at hSw); obtain ⟨s1, s2⟩ := hSw; go_simp; (try with_reducible rfl); done)); (try simp only [Act.put, List.setIfInBounds_toArray, List.set_cons_zero, List.set_cons_succ]))
      (refine takeH (i := 6) (v := ?_) rfl (by kernel_rfl) (by kernel_rfl) (by kernel_rfl) (fun _ _ _ h => h) (Or.inl ⟨by rfl, ?_⟩) (by assumption) ?_; rotate_left; (focus ((intro wS hSw); (try dsimp only at hSw); obtain ⟨s1, s2⟩ := hSw; go_simp; (try with_reducible rfl); done)); (try simp only [Act.put, List.setIfInBounds_toArray, List.set_cons_zero, List.set_cons_succ]))
      (refine takeH (i := 7) (v := (.bool false)) rfl (by kernel_rfl) (by kernel_rfl) (by kernel_rfl) (fun _ _ _ h => h) (Or.inl ⟨by rfl, by (intro wS hSw); obtain ⟨s1, s2⟩ := hSw; go_simp; (first | done | exact HNe.out.1 | (trace_state; fail))⟩) (by assumption) ?_; (try simp only [Act.put, List.setIfInBounds_toArray, List.set_cons_zero, List.set_cons_succ]))
      (refine takeH (i := 8) (v := ?_) rfl (by kernel_rfl) (by kernel_rfl) (by kernel_rfl) (fun _ _ _ h => h) (Or.inl ⟨by rfl, ?_⟩) (by assumption) ?_; rotate_left; (focus ((intro wS hSw); (try dsimp only at hSw); obtain ⟨s1, s2⟩ := hSw; go_simp; (try with_reducible rfl); done)); (try simp only [Act.put, List.setIfInBounds_toArray, List.set_cons_zero, List.set_cons_succ]))
      (refine takeH (i := 9) (v := ?_) rfl (by kernel_rfl) (by kernel_rfl) (by kernel_rfl) (fun _ _ _ h => h) (Or.inl ⟨by rfl, ?_⟩) (by assumption) ?_; rotate_left; (focus ((intro wS hSw); (try dsimp only at hSw); obtain ⟨s1, s2⟩ := hSw; go_simp; (try with_reducible rfl); done)); (try simp only [Act.put, List.setIfInBounds_toArray, List.set_cons_zero, List.set_cons_succ]))
      (refine takeH (i := 10) (v := ?_) rfl (by kernel_rfl) (by kernel_rfl) (by kernel_rfl) (fun _ _ _ h => h) (Or.inl ⟨by rfl, ?_⟩) (by assumption) ?_; rotate_left; (focus ((intro wS hSw); (try dsimp only at hSw); obtain ⟨s1, s2⟩ := hSw; go_simp; (try with_reducible rfl); done)); (try simp only [Act.put, List.setIfInBounds_toArray, List.set_cons_zero, List.set_cons_succ]))
      (refine takeH (i := 11) (v := ?_) rfl (by kernel_rfl) (by kernel_rfl) (by kernel_rfl) (fun _ _ _ h => h) (Or.inl ⟨by rfl, ?_⟩) (by assumption) ?_; rotate_left; (focus ((intro wS hSw); (try dsimp only at hSw); obtain ⟨s1, s2⟩ := hSw; go_simp; (try with_reducible rfl); done)); (try simp only [Act.put, List.setIfInBounds_toArray, List.set_cons_zero, List.set_cons_succ]))
      (refine takeH (i := 12) (v := ?_) rfl (by kernel_rfl) (by kernel_rfl) (by kernel_rfl) (fun _ _ _ h => h) (Or.inl ⟨by rfl, ?_⟩) (by assumption) ?_; rotate_left; (focus ((intro wS hSw); (try dsimp only at hSw); obtain ⟨s1, s2⟩ := hSw; go_simp; (try with_reducible rfl); done)); (try simp only [Act.put, List.setIfInBounds_toArray, List.set_cons_zero, List.set_cons_succ]))
      (refine takeH (i := 13) (v := ?_) rfl (by kernel_rfl) (by kernel_rfl) (by kernel_rfl) (fun _ _ _ h => h) (Or.inl ⟨by rfl, ?_⟩) (by assumption) ?_; rotate_left; (focus ((intro wS hSw); (try dsimp only at hSw); obtain ⟨s1, s2⟩ := hSw; go_simp; (try with_reducible rfl); done)); (try simp only [Act.put, List.setIfInBounds_toArray, List.set_cons_zero, List.set_cons_succ]))
      (refine takeH (i := 14) (v := ?_) rfl (by kernel_rfl) (by kernel_rfl) (by kernel_rfl) (fun _ _ _ h => h) (Or.inl ⟨by rfl, ?_⟩) (by assumption) ?_; rotate_left; (focus ((intro wS hSw); (try dsimp only at hSw); obtain ⟨s1, s2⟩ := hSw; go_simp; (try with_reducible rfl); done)); (try simp only [Act.put, List.setIfInBounds_toArray, List.set_cons_zero, List.set_cons_succ]))
      (refine takeH (i := 15) (v := ?_) rfl (by kernel_rfl) (by kernel_rfl) (by kernel_rfl) (fun _ _ _ h => h) (Or.inl ⟨by rfl, ?_⟩) (by assumption) ?_; rotate_left; (focus ((intro wS hSw); (try dsimp only at hSw); obtain ⟨s1, s2⟩ := hSw; go_simp; (try with_reducible rfl); done)); (try simp only [Act.put, List.setIfInBounds_toArray, List.set_cons_zero, List.set_cons_succ]))
      (refine takeH (i := 16) (v := ?_) rfl (by kernel_rfl) (by kernel_rfl) (by kernel_rfl) (fun _ _ _ h => h) (Or.inl ⟨by rfl, ?_⟩) (by assumption) ?_; rotate_left; (focus ((intro wS hSw); (try dsimp only at hSw); obtain ⟨s1, s2⟩ := hSw; go_simp; (try with_reducible rfl); done)); (try simp only [Act.put, List.setIfInBounds_toArray, List.set_cons_zero, List.set_cons_succ]))
      (refine takeH (i := 17) (v := (.int .i64 (d : Nat))) rfl (by kernel_rfl) (by kernel_rfl) (by kernel_rfl) (fun _ _ _ h => h) (Or.inl ⟨by rfl, by (intro wS hSw); obtain ⟨s1, s2⟩ := hSw; go_simp; (first | done | rw [HSub.out] | (trace_state; fail))⟩) (by assumption) ?_; (try simp only [Act.put, List.setIfInBounds_toArray, List.set_cons_zero, List.set_cons_succ]))
      (refine takeH (i := 18) (v := (.bool false)) rfl (by kernel_rfl) (by kernel_rfl) (by kernel_rfl) (fun _ _ _ h => h) (Or.inl ⟨by rfl, by (intro wS hSw); obtain ⟨s1, s2⟩ := hSw; go_simp; (first | done | exact Int.ofNat_le.1 hnd | (trace_state; fail))⟩) (by assumption) ?_; (try simp only [Act.put, List.setIfInBounds_toArray, List.set_cons_zero, List.set_cons_succ]))
      (refine takeH (i := 19) (v := ?_) rfl (by kernel_rfl) (by kernel_rfl) (by kernel_rfl) (fun _ _ _ h => h) (Or.inl ⟨by rfl, ?_⟩) (by assumption) ?_; rotate_left; (focus ((intro wS hSw); (try dsimp only at hSw); obtain ⟨s1, s2⟩ := hSw; go_simp; (try with_reducible rfl); done)); (try simp only [Act.put, List.setIfInBounds_toArray, List.set_cons_zero, List.set_cons_succ]))
      (refine takeH (i := 20) (v := ?_) rfl (by kernel_rfl) (by kernel_rfl) (by kernel_rfl) (fun _ _ _ h => h) (Or.inl ⟨by rfl, ?_⟩) (by assumption) ?_; rotate_left; (focus ((intro wS hSw); (try dsimp only at hSw); obtain ⟨s1, s2⟩ := hSw; go_simp; (try with_reducible rfl); done)); (try simp only [Act.put, List.setIfInBounds_toArray, List.set_cons_zero, List.set_cons_succ]))
      (refine takeH (i := 21) (v := ?_) rfl (by kernel_rfl) (by kernel_rfl) (by kernel_rfl) (fun _ _ _ h => h) (Or.inl ⟨by rfl, ?_⟩) (by assumption) ?_; rotate_left; (focus ((intro wS hSw); (try dsimp only at hSw); obtain ⟨s1, s2⟩ := hSw; go_simp; (try with_reducible rfl); done)); (try simp only [Act.put, List.setIfInBounds_toArray, List.set_cons_zero, List.set_cons_succ]))
      (refine takeH (i := 22) (v := ?_) rfl (by kernel_rfl) (by kernel_rfl) (by kernel_rfl) (fun _ _ _ h => h) (Or.inl ⟨by rfl, ?_⟩) (by assumption) ?_; rotate_left; (focus ((intro wS hSw); (try dsimp only at hSw); obtain ⟨s1, s2⟩ := hSw; go_simp; (try with_reducible rfl); done)); (try simp only [Act.put, List.setIfInBounds_toArray, List.set_cons_zero, List.set_cons_succ]))
      (refine takeH (i := 23) (v := ?_) rfl (by kernel_rfl) (by kernel_rfl) (by kernel_rfl) (fun _ _ _ h => h) (Or.inl ⟨by rfl, ?_⟩) (by assumption) ?_; rotate_left; (focus ((intro wS hSw); (try dsimp only at hSw); obtain ⟨s1, s2⟩ := hSw; go_simp; (try with_reducible rfl); done)); (try simp only [Act.put, List.setIfInBounds_toArray, List.set_cons_zero, List.set_cons_succ]))
      (refine takeH (i := 24) (v := ?_) rfl (by kernel_rfl) (by kernel_rfl) (by kernel_rfl) (fun _ _ _ h => h) (Or.inl ⟨by rfl, ?_⟩) (by assumption) ?_; rotate_left; (focus ((intro wS hSw); (try dsimp only at hSw); obtain ⟨s1, s2⟩ := hSw; go_simp; (try with_reducible rfl); done)); (try simp only [Act.put, List.setIfInBounds_toArray, List.set_cons_zero, List.set_cons_succ]))
      (refine takeH (i := 25) (v := ?_) rfl (by kernel_rfl) (by kernel_rfl) (by kernel_rfl) (fun _ _ _ h => h) (Or.inl ⟨by rfl, ?_⟩) (by assumption) ?_; rotate_left; (focus ((intro wS hSw); (try dsimp only at hSw); obtain ⟨s1, s2⟩ := hSw; go_simp; (try with_reducible rfl); done)); (try simp only [Act.put, List.setIfInBounds_toArray, List.set_cons_zero, List.set_cons_succ]))
      (refine takeH (i := 26) (v := ?_) rfl (by kernel_rfl) (by kernel_rfl) (by kernel_rfl) (fun _ _ _ h => h) (Or.inl ⟨by rfl, ?_⟩) (by assumption) ?_; rotate_left; (focus ((intro wS hSw); (try dsimp only at hSw); obtain ⟨s1, s2⟩ := hSw; go_simp; (try with_reducible rfl); done)); (try simp only [Act.put, List.setIfInBounds_toArray, List.set_cons_zero, List.set_cons_succ]))
      (refine takeH (i := 27) (v := ?_) rfl (by kernel_rfl) (by kernel_rfl) (by kernel_rfl) (fun _ _ _ h => h) (Or.inl ⟨by rfl, ?_⟩) (by assumption) ?_; rotate_left; (focus ((intro wS hSw); (try dsimp only at hSw); obtain ⟨s1, s2⟩ := hSw; go_simp; (try with_reducible rfl); done)); (try simp only [Act.put, List.setIfInBounds_toArray, List.set_cons_zero, List.set_cons_succ]))
      (refine takeH (i := 28) (v := ?_) rfl (by kernel_rfl) (by kernel_rfl) (by kernel_rfl) (fun _ _ _ h => h) (Or.inl ⟨by rfl, ?_⟩) (by assumption) ?_; rotate_left; (focus ((intro wS hSw); (try dsimp only at hSw); obtain ⟨s1, s2⟩ := hSw; go_simp; (try with_reducible rfl); done)); (try simp only [Act.put, List.setIfInBounds_toArray, List.set_cons_zero, List.set_cons_succ]))
      (refine takeH (i := 29) (v := (.int .i64 (e1 : Nat))) rfl (by kernel_rfl) (by kernel_rfl) (by kernel_rfl) (fun _ _ _ h => h) (Or.inl ⟨by rfl, by (intro wS hSw); obtain ⟨s1, s2⟩ := hSw; go_simp; (first | done | rw [HAdd.out] | (trace_state; fail))⟩) (by assumption) ?_; (try simp only [Act.put, List.setIfInBounds_toArray, List.set_cons_zero, List.set_cons_succ]))
      (refine takeH (i := 30) (v := (.string t)) rfl (by kernel_rfl) (by kernel_rfl) (by kernel_rfl) (fun _ _ _ h => h) (Or.inl ⟨by rfl, by (intro wS hSw); obtain ⟨s1, s2⟩ := hSw; go_simp; (first | done | rw [HTx.out] | (trace_state; fail))⟩) (by assumption) ?_; (try simp only [Act.put, List.setIfInBounds_toArray, List.set_cons_zero, List.set_cons_succ]))
      (refine takeH (i := 31) (v := ?_) rfl (by kernel_rfl) (by kernel_rfl) (by kernel_rfl) (fun _ _ _ h => h) (Or.inl ⟨by rfl, ?_⟩) (by assumption) ?_; rotate_left; (focus ((intro wS hSw); (try dsimp only at hSw); obtain ⟨s1, s2⟩ := hSw; go_simp; (try with_reducible rfl); done)); (try simp only [Act.put, List.setIfInBounds_toArray, List.set_cons_zero, List.set_cons_succ]))
      (refine takeH (i := 32) (v := ?_) rfl (by kernel_rfl) (by kernel_rfl) (by kernel_rfl) (fun _ _ _ h => h) (Or.inl ⟨by rfl, ?_⟩) (by assumption) ?_; rotate_left; (focus ((intro wS hSw); (try dsimp only at hSw); obtain ⟨s1, s2⟩ := hSw; go_simp; (try with_reducible rfl); done)); (try simp only [Act.put, List.setIfInBounds_toArray, List.set_cons_zero, List.set_cons_succ]))
      (refine takeH (i := 33) (v := ?_) rfl (by kernel_rfl) (by kernel_rfl) (by kernel_rfl) (fun _ _ _ h => h) (Or.inl ⟨by rfl, ?_⟩) (by assumption) ?_; rotate_left; (focus ((intro wS hSw); (try dsimp only at hSw); obtain ⟨s1, s2⟩ := hSw; go_simp; (try with_reducible rfl); done)); (try simp only [Act.put, List.setIfInBounds_toArray, List.set_cons_zero, List.set_cons_succ]))
      (refine takeH (i := 34) (v := ?_) rfl (by kernel_rfl) (by kernel_rfl) (by kernel_rfl) (fun _ _ _ h => h) (Or.inl ⟨by rfl, ?_⟩) (by assumption) ?_; rotate_left; (focus ((intro wS hSw); (try dsimp only at hSw); obtain ⟨s1, s2⟩ := hSw; go_simp; (try with_reducible rfl); done)); (try simp only [Act.put, List.setIfInBounds_toArray, List.set_cons_zero, List.set_cons_succ]))
      refine wpAnyH_done (by kernel_rfl) ?_ _
      clear hHeld
      have HGb := Lib.hid HXd.out
      obtain ⟨y0, y1, y2, y3⟩ := cellsTokV HXd.out
      go_wp2_with (go_at_call 8; refine (HG.out _).mono ?_; rintro e w5 ⟨A5, c5, rfl, hb⟩; have HX5 := Lib.hid (heap_on hb HXd.out); have HB5 := Lib.hid (below_then HBd.out hb); clear hb; refine Stop.out ?_)
      unfold Stop
      clear y0 y1 y2 y3
      obtain ⟨y0, y1, y2, y3⟩ := cellsTokV HX5.out
      have hwk := HWk.out
      have hadd := HAdd2.out
      go_wp2
      go_roundw
      case rel => exact ⟨k + 1, e1, by first | rfl | rw [hwk], by first | rfl | rw [hadd], Lib.hid ⟨HLt.out, HNx.out.1, HNx.out.2⟩, HB5⟩
      case measure => first | exact leftI_lt (Nat.lt_succ_self k) HLt.out | (rw [hwk]; exact leftI_lt (Nat.lt_succ_self k) HLt.out)
    · have hge : (L.length : Int) ≤ (k : Int) := by omega
      have hK := HK.out.2.2
      rw [List.drop_eq_nil_of_le (by omega)] at hK
      have has : (a : Int) ≤ (s.size : Int) := by have := HK.out.2.1; omega
      have HG : Hid (∀ W, Calls Tryd.prog 8 #[.string (s.extract a s.size)] W fun e w' => ∃ A c, e = .returned (.tuple #[.slice A 0 c, .int .i64 0, .int .i64 0]) ∧ Below W.heap.size W w') := Lib.hid fun W => ref_none W (by have := HSz.out; rw [ext_size hK.1 (Nat.le_refl _)]; omega) hK.2
      clear hK
      go_wp2_with (go_at_call 8; refine (HG.out _).mono ?_; rintro e w7 ⟨A7, c7, rfl, hb⟩; have HB7 := Lib.hid (below_then HB.out hb); clear hb; refine Stop.out ?_)
      unfold Stop
      go_wp2_with (go_at_call 6; refine (HLv.out _).mono ?_; rintro e w8 ⟨rfl, hb⟩; have HB8 := Lib.hid (below_then HB1.out (below_then HB7.out hb)); clear hb)
      go_ret
      exact ⟨rfl, HB8.out⟩
theorem lexerCovers_any (s : ByteArray) (w : World) : Calls Tryd.prog 5 #[.string s] w fun e w' => e = .returned (.bool true) ∧ Below w.heap.size w w' := by
  by_cases h1 : (6000 : Int) < (s.size : Int)
  · exact covers_long s w h1
  · rcases lex_bare (s := s) 0 [] with he | he
    · exact covers_yes s w (by omega) he
    · exact covers_err s w (by omega) he
end Go.Proofs.YtfjecohokmelfaaDoor
