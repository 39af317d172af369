/- The chapter's examples. -/
import Derived.Test.YtbplhjoompgemaaCkX
namespace Go.Proofs.Ytbplhjoompgemaa
open Go.RowKit
set_option maxRecDepth 100000
set_option linter.unusedSimpArgs false
set_option linter.unusedVariables false
attribute [local go_sem] Oper.semAt_some

set_option maxHeartbeats 1000000 in
theorem code_Clone (B0 : Nat) (v : Value) (L : List Int) (w : World) (h : OwnI w B0 v L) (hl : L.length ≤ 1000) : Calls Try.prog 22 #[v] w fun e w' => ∃ v', e = .returned v' ∧ OwnI w' w.heap.size v' L ∧ Below w.heap.size w w' := by
  obtain ⟨i0, hi, hz0, hz1, hz2⟩ := info_parts factI
  have hq : ∀ (w : World) (a : Option Addr) (n c n' c' : Nat), (binOp .eql 30 (.slice a n c) (.slice none n' c')).run Try.prog w = .ok (.bool a.isNone) w := fun w a n c n' c' => Lib.run_eql_slice_nil w _ _ a n c n' c' Try.underlying30
  rcases h.form with ⟨rfl, rfl⟩ | ⟨g, c, rfl, h2, h3, h4, h5, h6, h7⟩
  · clear h hl
    go_enter Try.func22, Try.ntmps22
    go_wp2
    go_ret
    exact ⟨_, rfl, OwnI.nil _ _, Below.refl _ _⟩
  · have hnews : ∀ j u, (L.map (Value.int .i64))[j]? = some u → w.cell? ((⟨g, 0, none⟩ : Addr).add j) = some u := fun j u hu => by
      have hj := (List.getElem?_eq_some_iff.1 hu).1
      rw [List.length_map] at hj
      have : (⟨g, 0, none⟩ : Addr).add j = ⟨g, j, none⟩ := by unfold Addr.add; by_cases e : j = 0 <;> simp [e]
      rw [this, h6 j hj, ← hu]
      simp [hj]
    have HN : Hid (∀ X, ∀ j u, (L.map (Value.int .i64))[j]? = some u → (w.alloc X).cell? ((⟨g, 0, none⟩ : Addr).add j) = some u) := Lib.hid (fun X j u hu => cell_on (below_alloc _ _) (hnews j u hu))
    have HO := Lib.hid (World.ownsRow_lit w (e := 3) (base := w.heap.size) (size := 1) #[] 0 (Nat.le_refl _) (by unfold maxLen; omega) rfl)
    have HL := Lib.hid (And.intro hl (And.intro (show (L.map (Value.int .i64)).length = L.length from List.length_map _) (ints_oneCell .i64 L)))
    clear h hnews hl h2 h3 h4 h5 h6 h7
    go_enter Try.func22, Try.ntmps22
    go_wp2_with (at_builtin; refine wpList_append_own _ rfl _ _ 30 rfl w.heap.size 3 i0 _ 1 8 Try.underlying30 hi hz0 hz1 hz2 rfl (by decide) _ 0 [] rfl ?own ⟨g, 0, none⟩ L.length c (L.map (Value.int .i64)) rfl (by rw [HL.out.2.1]; omega) (HN.out _) HL.out.2.2 (by have := HL.out.1; unfold maxLen; omega) (by have := HL.out.1; omega) (by simp) ?_; (case own => exact HO.out); intro v' w' hown hg hv; have HV : Hid (OwnI w' w.heap.size v' L ∧ Below w.heap.size w w') := (Lib.hid ⟨by simpa [OwnI] using hown, (below_alloc w _).grown hg (by simp) (fun k hk => (HO.out.lt k hk).1)⟩); clear hown hg hv)
    go_ret
    exact ⟨_, rfl, HV.out.1, HV.out.2⟩
set_option maxHeartbeats 2000000 in
theorem code_Same_yes (A A' : Option Addr) (c c' : Nat) (L : List Int) (w : World) (hl : L.length ≤ 1000) (h1 : ∀ j (hj : j < L.length), ∃ g, A = some ⟨g, 0, none⟩ ∧ w.cell? ⟨g, j, none⟩ = some (.int .i64 L[j])) (h2 : ∀ j (hj : j < L.length), ∃ g, A' = some ⟨g, 0, none⟩ ∧ w.cell? ⟨g, j, none⟩ = some (.int .i64 L[j])) :
    Calls Try.prog 15 #[.slice A L.length c, .slice A' L.length c'] w fun e w' => e = .returned (.bool true) ∧ Below w.heap.size w w' := by
  have H1 := Lib.hid h1
  have H2 := Lib.hid h2
  have hln : (L.length : Int) ≤ 1000 := by omega
  obtain ⟨n, hn⟩ : ∃ n, n = L.length := ⟨_, rfl⟩
  have HNe := Lib.hid hn
  rw [← hn] at hln ⊢
  have hnn : ((n : Int) != (n : Int)) = false := by simp
  clear h1 h2 hl hn
  go_enter Try.func15, Try.ntmps15
  go_wp2
  go_loopw [5] (fun v5 wr => ∃ k : Nat, k ≤ n ∧ v5 = .int .i64 (k : Nat) ∧ Hid (Below w.heap.size w wr)) (fun v5 _ => n - (intOf v5).toNat)
  case atStart => exact ⟨0, Nat.zero_le _, rfl, Lib.hid (Below.refl _ _)⟩
  case round =>
    obtain ⟨k, hk, rfl, HR⟩ := hrel
    by_cases hlt : k < n
    · have hkn : k < L.length := by rw [← HNe.out]; exact hlt
      obtain ⟨g, hA, hc⟩ := H1.out k hkn
      obtain ⟨g', hA', hc'⟩ := H2.out k hkn
      subst hA hA'
      obtain ⟨x, hx⟩ : ∃ x, x = L[k] := ⟨_, rfl⟩
      rw [← hx] at hc hc'
      have hxx : (x != x) = false := by simp
      have hkz : (k : Int) < n := by omega
      have HS : Hid (wr.cell? ⟨g, k, none⟩ = some (.int .i64 x) ∧ wr.cell? ⟨g', k, none⟩ = some (.int .i64 x)) := Lib.hid ⟨cell_on HR.out hc, cell_on HR.out hc'⟩
      clear hx hc hc' hkn
      go_wp2
      refine wp_region_held_drew (S := fun V : World => V.cell? ⟨g, k, none⟩ = some (.int .i64 x) ∧ V.cell? ⟨g', k, none⟩ = some (.int .i64 x)) (by kernel_rfl) HS.out ?_
      intro hHeld
      have HD := Lib.hid (below_then HR.out (below_drew wr))
      clear HS
      generalize wr.drew = wd at hHeld HD ⊢
      (refine takeH (i := 0) (v := ?_) rfl (by kernel_rfl) (by kernel_rfl) (by kernel_rfl) (fun _ _ _ h => h) (Or.inl ⟨by rfl, ?_⟩) (by assumption) ?_; rotate_left; (focus ((intro wS hSw); (try dsimp only at hSw); obtain ⟨s0, s1⟩ := hSw; go_simp; (try with_reducible rfl); done)); (try simp only [Act.put, List.setIfInBounds_toArray, List.set_cons_zero, List.set_cons_succ]))
      (refine takeH (i := 1) (v := ?_) rfl (by kernel_rfl) (by kernel_rfl) (by kernel_rfl) (fun _ _ _ h => h) (Or.inl ⟨by rfl, ?_⟩) (by assumption) ?_; rotate_left; (focus ((intro wS hSw); (try dsimp only at hSw); obtain ⟨s0, s1⟩ := hSw; go_simp; (try with_reducible rfl); done)); (try simp only [Act.put, List.setIfInBounds_toArray, List.set_cons_zero, List.set_cons_succ]))
      (refine takeH (i := 2) (v := ?_) rfl (by kernel_rfl) (by kernel_rfl) (by kernel_rfl) (fun _ _ _ h => h) (Or.inl ⟨by rfl, ?_⟩) (by assumption) ?_; rotate_left; (focus ((intro wS hSw); (try dsimp only at hSw); obtain ⟨s0, s1⟩ := hSw; go_simp; (try with_reducible rfl); done)); (try simp only [Act.put, List.setIfInBounds_toArray, List.set_cons_zero, List.set_cons_succ]))
      (refine takeH (i := 3) (v := ?_) rfl (by kernel_rfl) (by kernel_rfl) (by kernel_rfl) (fun _ _ _ h => h) (Or.inl ⟨by rfl, ?_⟩) (by assumption) ?_; rotate_left; (focus ((intro wS hSw); (try dsimp only at hSw); obtain ⟨s0, s1⟩ := hSw; go_simp; (try with_reducible rfl); done)); (try simp only [Act.put, List.setIfInBounds_toArray, List.set_cons_zero, List.set_cons_succ]))
      (refine takeH (i := 4) (v := ?_) rfl (by kernel_rfl) (by kernel_rfl) (by kernel_rfl) (fun _ _ _ h => h) (Or.inl ⟨by rfl, ?_⟩) (by assumption) ?_; rotate_left; (focus ((intro wS hSw); (try dsimp only at hSw); obtain ⟨s0, s1⟩ := hSw; go_simp; (try with_reducible rfl); done)); (try simp only [Act.put, List.setIfInBounds_toArray, List.set_cons_zero, List.set_cons_succ]))
      (refine takeH (i := 5) (v := ?_) rfl (by kernel_rfl) (by kernel_rfl) (by kernel_rfl) (fun _ _ _ h => h) (Or.inl ⟨by rfl, ?_⟩) (by assumption) ?_; rotate_left; (focus ((intro wS hSw); (try dsimp only at hSw); obtain ⟨s0, s1⟩ := hSw; go_simp; (try with_reducible rfl); done)); (try simp only [Act.put, List.setIfInBounds_toArray, List.set_cons_zero, List.set_cons_succ]))
      (refine takeH (i := 6) (v := ?_) rfl (by kernel_rfl) (by kernel_rfl) (by kernel_rfl) (fun _ _ _ h => h) (Or.inl ⟨by rfl, ?_⟩) (by assumption) ?_; rotate_left; (focus ((intro wS hSw); (try dsimp only at hSw); obtain ⟨s0, s1⟩ := hSw; go_simp; (try with_reducible rfl); done)); (try simp only [Act.put, List.setIfInBounds_toArray, List.set_cons_zero, List.set_cons_succ]))
      (refine takeH (i := 7) (v := ?_) rfl (by kernel_rfl) (by kernel_rfl) (by kernel_rfl) (fun _ _ _ h => h) (Or.inl ⟨by rfl, ?_⟩) (by assumption) ?_; rotate_left; (focus ((intro wS hSw); (try dsimp only at hSw); obtain ⟨s0, s1⟩ := hSw; go_simp; (try with_reducible rfl); done)); (try simp only [Act.put, List.setIfInBounds_toArray, List.set_cons_zero, List.set_cons_succ]))
      (refine takeH (i := 8) (v := ?_) rfl (by kernel_rfl) (by kernel_rfl) (by kernel_rfl) (fun _ _ _ h => h) (Or.inl ⟨by rfl, ?_⟩) (by assumption) ?_; rotate_left; (focus ((intro wS hSw); (try dsimp only at hSw); obtain ⟨s0, s1⟩ := hSw; go_simp; (try with_reducible rfl); done)); (try simp only [Act.put, List.setIfInBounds_toArray, List.set_cons_zero, List.set_cons_succ]))
      refine wpAnyH_done (by kernel_rfl) ?_ _
      clear hHeld
      go_wp2
      exact ⟨⟨k + 1, by omega, by simp, HD⟩, by simp [intOf]; omega⟩
    · obtain rfl : k = n := by omega
      go_wp2
      go_ret
      exact ⟨rfl, HR.out⟩
theorem code_Order (P : Nat) (x y z v : Value) (B0 : Nat) (L : List Int) (w : World) (hP : w.heap[P]? = some (.cells #[x, y, z, v] 36 (0, 0))) (h : OwnI w B0 v L) (hl : L.length ≤ 1000) : Calls Try.prog 8 #[.pointer (some ⟨P, 0, none⟩)] w fun e w' => ∃ v', e = .returned v' ∧ OwnI w' w.heap.size v' L ∧ Below w.heap.size w w' := by
  have HC := Lib.hid (code_Clone B0 v L w h hl)
  obtain ⟨r0, r1, r2, r3⟩ := row4c hP
  clear hP h hl
  go_enter Try.func8, Try.ntmps8
  go_wp2_with (go_at_call 22; refine HC.out.mono ?_; rintro e w2 ⟨v2, rfl, ho, hb⟩; refine Stop.out ?_)
  unfold Stop
  have HF := Lib.hid (And.intro ho hb)
  clear ho hb
  go_wp2
  go_ret
  exact ⟨_, rfl, HF.out.1, HF.out.2⟩
theorem code_box (n : Int) (w : World) : Calls Try.prog 14 #[.int .i64 n] w fun e w' => e = .returned (lfV 2 n) ∧ Below w.heap.size w w' := by
  have hb0 : ∀ w, (Instr.build 41 #[(0, .int .i64 2), (1, .int .i64 n)]).run Try.prog w = .ok (.agg #[.int .i64 2, .int .i64 n, .string ⟨#[]⟩, .slice none 0 0, .slice none 0 0]) w := fun w => run_build w 41 _ _ (by kernel_rfl)
  have H0 := Lib.hid (heap_alloc_new w (.cells #[.int .i64 0, .int .i64 0, .string ⟨#[]⟩, .slice none 0 0, .slice none 0 0] 41))
  have HBF := Lib.hid (box_row w #[.int .i64 0, .int .i64 0, .string ⟨#[]⟩, .slice none 0 0, .slice none 0 0] #[.int .i64 2, .int .i64 n, .string ⟨#[]⟩, .slice none 0 0, .slice none 0 0] 41 rfl)
  go_enter Try.func14, Try.ntmps14
  go_wp2_with ((with_reducible refine wpList_store_row (o := ⟨none, _, _, _, _, _⟩) 41 ?b0 (.tmp 2) (.tmp 4) ?b1 w.heap.size ?b2 [.int .i64 2, .int .i64 n, .string ⟨#[]⟩, .slice none 0 0, .slice none 0 0] ?b3 ?b4 ?b5 #[.int .i64 0, .int .i64 0, .string ⟨#[]⟩, .slice none 0 0, .slice none 0 0] ?b6 41 ?b7 ?_); (case b0 => rfl); (case b1 => rfl); (case b2 => rfl); (case b3 => exact expr_info); (case b4 => simp [Value.oneCell']); (case b5 => rfl); (case b6 => rfl); (case b7 => exact H0.out); (try simp only [Act.put]); refine Stop.out ?_)
  unfold Stop
  generalize World.setRow _ _ _ = w9 at HBF ⊢
  obtain ⟨g, hg⟩ : ∃ g, g = w.heap.size := ⟨_, rfl⟩
  rw [← hg] at HBF ⊢
  go_wp2
  exact bodyPost_ret (results_cell_row Try.results14 _ _ g 41 #[.int .i64 2, .int .i64 n, .string ⟨#[]⟩, .slice none 0 0, .slice none 0 0] (0, 0) _ rfl HBF.out.2 Try.underlying41 rfl expr_info) rfl ⟨rfl, hg ▸ HBF.out.1⟩
end Go.Proofs.Ytbplhjoompgemaa
