/- The chapter's examples, told. -/
import Derived.Test.YtbplhjoompgemaaCkY
namespace Go.Proofs.Ytbplhjoompgemaa
open Go.RowKit
set_option maxRecDepth 100000
set_option linter.unusedSimpArgs false
set_option linter.unusedVariables false
attribute [local go_sem] Oper.semAt_some

theorem ok1 : PlanOk [(1, 2, 2), (2, 1, 5)] [[1], []] where
  few := by decide
  some_ := by decide
  ok := by
    intro x hx
    simp only [List.mem_cons, List.not_mem_nil, or_false] at hx
    rcases hx with rfl | rfl
    · exact ⟨by decide, .inr (by decide)⟩
    · exact ⟨by decide, .inl (by decide)⟩
  once := by decide
  len := rfl
  refs := by
    intro k h h2
    match k, h, h2 with
    | 0, _, _ => exact ⟨rfl, fun j h3 h4 => by
        match j, h3, h4 with
        | 0, _, _ => rfl⟩
    | 1, _, _ => exact ⟨rfl, fun j h3 h4 => absurd h4 (Nat.not_lt_zero _)⟩
  low := by
    intro N hN
    simp only [List.mem_cons, List.not_mem_nil, or_false] at hN
    rcases hN with rfl | rfl
    · exact ⟨by decide, fun x hx => by
        simp only [List.mem_cons, List.not_mem_nil, or_false] at hx
        exact ⟨1, hx, by decide⟩⟩
    · exact ⟨by decide, fun x hx => by cases hx⟩
theorem ok2 : PlanOk [(1, 2, 1)] [[0]] where
  few := by decide
  some_ := by decide
  ok := by
    intro x hx
    simp only [List.mem_cons, List.not_mem_nil, or_false] at hx
    subst hx
    exact ⟨by decide, .inr (by decide)⟩
  once := by decide
  len := rfl
  refs := by
    intro k h h2
    match k, h, h2 with
    | 0, _, _ => exact ⟨rfl, fun j h3 h4 => by
        match j, h3, h4 with
        | 0, _, _ => rfl⟩
  low := by
    intro N hN
    simp only [List.mem_cons, List.not_mem_nil, or_false] at hN
    subst hN
    exact ⟨by decide, fun x hx => by
        simp only [List.mem_cons, List.not_mem_nil, or_false] at hx
        exact ⟨0, hx, by decide⟩⟩
theorem code_Check1 (b : Nat) (w : World) (hb : w.heap[b]? = some (.cells #[.int .i64 1, .int .i64 2, .int .i64 2, .string ⟨#[]⟩, .slice none 0 0, .slice none 0 0, .int .i64 2, .int .i64 1, .int .i64 5, .string ⟨#[]⟩, .slice none 0 0, .slice none 0 0] 43 (0, 0))) : Calls Try.prog 7 #[.slice (some ⟨b, 0, none⟩) 2 2] w fun e w' => Below w.heap.size w w' ∧ ∃ P A c x y z, e = .returned (.tuple #[.pointer (some ⟨P, 0, none⟩), .int .i64 0]) ∧ w'.heap[P]? = some (.cells #[x, y, z, .slice A 2 c] 36 (0, 0)) ∧ OwnI w' w.heap.size (.slice A 2 c) [1, 0] := by
  refine (code_Check b 2 [(1, 2, 2), (2, 1, 5)] [[1], []] w ⟨_, hb, fun j v hv => by simpa [lbCs, lbC] using hv⟩ ok1).mono ?_
  rintro e w' ⟨h1, k, hk, h2, h3, h4⟩
  refine ⟨h1, ?_⟩
  rcases h4 with ⟨hlt, _⟩ | ⟨hke, P, A, c, x, y, z, he, hp, ho⟩
  · exfalso
    have hlt2 : k < 2 := hlt
    match k, hlt2 with
    | 0, _ => exact absurd (h2 (by decide)) (by decide)
    | 1, _ => exact absurd (h2 (by decide)) (by decide)
  · obtain rfl : k = 2 := hke
    exact ⟨P, A, c, x, y, z, he, hp, ho⟩
theorem code_Check2 (b : Nat) (w : World) (hb : w.heap[b]? = some (.cells #[.int .i64 1, .int .i64 2, .int .i64 1, .string ⟨#[]⟩, .slice none 0 0, .slice none 0 0] 43 (0, 0))) : Calls Try.prog 7 #[.slice (some ⟨b, 0, none⟩) 1 1] w fun e w' => e = .returned (.tuple #[.pointer none, .int .i64 84]) ∧ Below w.heap.size w w' := by
  refine (code_Check b 1 [(1, 2, 1)] [[0]] w ⟨_, hb, fun j v hv => by simpa [lbCs, lbC] using hv⟩ ok2).mono ?_
  rintro e w' ⟨h1, k, hk, h2, h3, h4⟩
  rcases h4 with ⟨hlt, he⟩ | ⟨hke, _⟩
  · exact ⟨he, h1⟩
  · obtain rfl : k = 1 := hke
    exact absurd h3 (by decide)
set_option maxHeartbeats 4000000 in
theorem code_lives (w : World) : Calls Try.prog 6 #[] w fun e w' => e = .returned (.bool true) ∧ Below w.heap.size w w' := by
  have hb1 : ∀ w, (Instr.build 43 #[(0, .int .i64 1), (1, .agg #[.int .i64 2, .int .i64 2, .string ⟨#[]⟩, .slice none 0 0, .slice none 0 0])]).run Try.prog w = .ok (.agg #[.int .i64 1, .int .i64 2, .int .i64 2, .string ⟨#[]⟩, .slice none 0 0, .slice none 0 0]) w := fun w => run_build w 43 _ _ (by kernel_rfl)
  have hb2 : ∀ w, (Instr.build 41 #[(0, .int .i64 1), (1, .int .i64 5)]).run Try.prog w = .ok (.agg #[.int .i64 1, .int .i64 5, .string ⟨#[]⟩, .slice none 0 0, .slice none 0 0]) w := fun w => run_build w 41 _ _ (by kernel_rfl)
  have hb3 : ∀ w, (Instr.build 43 #[(0, .int .i64 2), (1, .agg #[.int .i64 1, .int .i64 5, .string ⟨#[]⟩, .slice none 0 0, .slice none 0 0])]).run Try.prog w = .ok (.agg #[.int .i64 2, .int .i64 1, .int .i64 5, .string ⟨#[]⟩, .slice none 0 0, .slice none 0 0]) w := fun w => run_build w 43 _ _ (by kernel_rfl)
  have hb4 : ∀ w, (Instr.build 43 #[(0, .int .i64 1), (1, .agg #[.int .i64 2, .int .i64 1, .string ⟨#[]⟩, .slice none 0 0, .slice none 0 0])]).run Try.prog w = .ok (.agg #[.int .i64 1, .int .i64 2, .int .i64 1, .string ⟨#[]⟩, .slice none 0 0, .slice none 0 0]) w := fun w => run_build w 43 _ _ (by kernel_rfl)
  have HX := Lib.hid (code_box)
  unfold lfV at HX
  go_enter Try.func6, Try.ntmps6
  go_wp2_with (go_at_call 14; refine (HX.out 2 _).mono ?_; rintro e w2 ⟨rfl, hb⟩; refine Stop.out ?_)
  unfold Stop
  have HB2 := Lib.hid hb
  have hba := heap_alloc_new w2 (.cells #[.int .i64 1, .int .i64 2, .int .i64 2, .string ⟨#[]⟩, .slice none 0 0, .slice none 0 0, .int .i64 2, .int .i64 1, .int .i64 5, .string ⟨#[]⟩, .slice none 0 0, .slice none 0 0] 43)
  have HBa := Lib.hid (below_alloc w2 (.cells #[.int .i64 1, .int .i64 2, .int .i64 2, .string ⟨#[]⟩, .slice none 0 0, .slice none 0 0, .int .i64 2, .int .i64 1, .int .i64 5, .string ⟨#[]⟩, .slice none 0 0, .slice none 0 0] 43))
  have HC1 := Lib.hid (code_Check1 w2.heap.size _ hba)
  clear hb hba
  go_wp2_with (go_at_call 7; refine HC1.out.mono ?_; rintro e w3 ⟨hb, P, A, c, x, y, z, rfl, hp, ho⟩; refine Stop.out ?_)
  unfold Stop
  have HB3 := Lib.hid (below_then HB2.out (below_then HBa.out hb))
  have HP3 := Lib.hid hp
  have HO3 := Lib.hid ho
  clear hb hp ho HC1 HBa HB2
  go_wp2_with (go_at_call 14; refine (HX.out 1 _).mono ?_; rintro e w4 ⟨rfl, hb⟩; refine Stop.out ?_)
  unfold Stop
  have HB4 := Lib.hid hb
  have hba := heap_alloc_new w4 (.cells #[.int .i64 1, .int .i64 2, .int .i64 1, .string ⟨#[]⟩, .slice none 0 0, .slice none 0 0] 43)
  have HBa := Lib.hid (below_alloc w4 (.cells #[.int .i64 1, .int .i64 2, .int .i64 1, .string ⟨#[]⟩, .slice none 0 0, .slice none 0 0] 43))
  have HC2 := Lib.hid (code_Check2 w4.heap.size _ hba)
  clear hb hba
  go_wp2_with (go_at_call 7; refine HC2.out.mono ?_; rintro e w5 ⟨rfl, hb⟩; refine Stop.out ?_)
  unfold Stop
  have HB35 := Lib.hid (below_then HB4.out (below_then HBa.out hb))
  have HB5 := Lib.hid (below_then HB3.out HB35.out)
  have HP5 := Lib.hid (heap_on HB35.out HP3.out)
  have HOr := Lib.hid (code_Order P x y z (.slice A 2 c) _ [1, 0] w5 HP5.out (HO3.out.on HB35.out) (by decide))
  clear hb HC2 HBa HB4 HP3
  go_wp2_with (go_at_call 8; refine HOr.out.mono ?_; rintro e w6 ⟨v6, rfl, ho, hb⟩; refine Stop.out ?_)
  unfold Stop
  have HB6 := Lib.hid (below_then HB5.out hb)
  obtain ⟨A6, c6, hv6, hc6⟩ := ho.slice
  have HC6 := Lib.hid hc6
  simp only [List.length_cons, List.length_nil, Nat.zero_add] at hv6
  subst hv6
  clear ho hb hc6 HOr HP5 HO3
  have hba := heap_alloc_new w6 (.cells #[.int .i64 1, .int .i64 0] 3)
  have HBa := Lib.hid (below_alloc w6 (.cells #[.int .i64 1, .int .i64 0] 3))
  have HSm := Lib.hid (code_Same_yes A6 (some ⟨w6.heap.size, 0, none⟩) c6 2 [1, 0] (w6.alloc (.cells #[.int .i64 1, .int .i64 0] 3)) (by decide)
    (fun j hj => by
      obtain ⟨g, h1, h2⟩ := HC6.out j hj
      exact ⟨g, h1, cell_on HBa.out h2⟩)
    (fun j hj => by
      refine ⟨_, rfl, ?_⟩
      rw [cell_of_row _ w6.heap.size j _ _ _ hba]
      match j, hj with
      | 0, _ => rfl
      | 1, _ => rfl))
  clear hba
  go_wp2_with (go_at_call 15; refine HSm.out.mono ?_; rintro e w7 ⟨rfl, hb⟩; refine Stop.out ?_)
  unfold Stop
  have HB7 := Lib.hid (below_then HB6.out (below_then HBa.out hb))
  clear hb HSm HBa HC6
  go_wp2
  go_ret
  exact ⟨rfl, HB7.out⟩
end Go.Proofs.Ytbplhjoompgemaa
