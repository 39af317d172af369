/- A plan that no call made. -/
import Derived.Test.YtbplhjoompgemaaCkZ
namespace Go.Proofs.Ytbplhjoompgemaa
open Go.RowKit
set_option maxRecDepth 100000
set_option linter.unusedSimpArgs false
set_option linter.unusedVariables false
attribute [local go_sem] Oper.semAt_some

/-- a plan that no call made -/
def NonePlan (w : World) (p : Value) : Prop := p = .pointer none ∨ ∃ P, p = .pointer (some ⟨P, 0, none⟩) ∧ w.heap[P]? = some (.cells #[.slice none 0 0, .map none, .slice none 0 0, .slice none 0 0] 36 (0, 0))
theorem NonePlan.on {w w' : World} {p : Value} (h : NonePlan w p) (hb : Below w.heap.size w w') : NonePlan w' p := by
  rcases h with h | ⟨P, h1, h2⟩
  · exact .inl h
  · exact .inr ⟨P, h1, heap_on hb h2⟩
theorem none_Len (p : Value) (w : World) (h : NonePlan w p) : Calls Try.prog 12 #[p] w fun e w' => e = .returned (.int .i64 0) ∧ w = w' := by
  rcases h with rfl | ⟨P, rfl, hp⟩
  · go_enter Try.func12, Try.ntmps12
    go_wp2
    go_ret
    exact ⟨rfl, rfl⟩
  · obtain ⟨r0, r1, r2, r3⟩ := row4c hp
    clear hp
    go_enter Try.func12, Try.ntmps12
    go_wp2
    go_ret
    exact ⟨rfl, rfl⟩
theorem none_has (p : Value) (i : Int) (w : World) (h : NonePlan w p) : Calls Try.prog 23 #[p, .int .i64 i] w fun e w' => e = .returned (.bool false) ∧ w = w' := by
  have HL := Lib.hid (none_Len p w h)
  clear h
  by_cases hi : 0 ≤ i
  · have hi2 : ¬ i < 0 := by omega
    go_enter Try.func23, Try.ntmps23
    go_wp2_with (go_at_call 12; refine HL.out.mono ?_; rintro e w2 ⟨rfl, rfl⟩; refine Stop.out ?_)
    unfold Stop
    go_wp2
    go_ret
    exact ⟨by first | rfl | exact ret_bool (by simp; omega), rfl⟩
  · go_enter Try.func23, Try.ntmps23
    go_wp2
    go_ret
    exact ⟨by first | rfl | exact ret_bool (by simp; omega), rfl⟩
theorem none_Needs (p : Value) (i : Int) (w : World) (h : NonePlan w p) : Calls Try.prog 9 #[p, .int .i64 i] w fun e w' => e = .returned (.slice none 0 0) ∧ w = w' := by
  have HL := Lib.hid (none_has p i w h)
  have hnot : ∀ (x : Bool) (w : World), (Op.unary .not (.bool x)).run Try.prog w = .ok (.bool (!x)) w := fun _ _ => rfl
  clear h
  go_enter Try.func9, Try.ntmps9
  go_wp2_with (go_at_call 23; refine HL.out.mono ?_; rintro e w2 ⟨rfl, rfl⟩; refine Stop.out ?_)
  unfold Stop
  go_wp2
  go_ret
  exact ⟨rfl, rfl⟩
theorem none_Order (p : Value) (w : World) (h : NonePlan w p) : Calls Try.prog 8 #[p] w fun e w' => (∃ A c, e = .returned (.slice A 0 c)) ∧ Below w.heap.size w w' := by
  rcases h with rfl | ⟨P, rfl, hp⟩
  · go_enter Try.func8, Try.ntmps8
    go_wp2
    go_ret
    exact ⟨⟨_, _, rfl⟩, Below.refl _ _⟩
  · refine (code_Order P _ _ _ _ w.heap.size [] w hp (OwnI.nil _ _) (by decide)).mono ?_
    rintro e w' ⟨v, rfl, ho, hb⟩
    obtain ⟨A, c, hv, _⟩ := ho.slice
    exact ⟨⟨A, c, by rw [hv]; rfl⟩, hb⟩
theorem none_Find (p : Value) (i : Int) (w : World) (h : NonePlan w p) : Calls Try.prog 11 #[p, .int .i64 i] w fun e w' => e = .returned (.tuple #[.int .i64 0, .bool false]) ∧ w = w' := by
  rcases h with rfl | ⟨P, rfl, hp⟩
  · go_enter Try.func11, Try.ntmps11
    go_wp2
    go_ret2
    exact ⟨rfl, rfl⟩
  · obtain ⟨r0, r1, r2, r3⟩ := row4c hp
    have hlk := run_lookI_nil w i
    clear hp
    go_enter Try.func11, Try.ntmps11
    go_wp2
    go_ret2
    exact ⟨rfl, rfl⟩
theorem results_box {fn : Func} {p q : Tmp} (h : fn.results = #[.cell p 43, .tmp q]) (tmps : Array Value) (w : World) (g : Nat) (cs : Array Value) (b : Value) (hp : tmps.getD p undef = .pointer (some ⟨g, 0, none⟩)) (hq : tmps.getD q undef = b) (hg : w.heap[g]? = some (.cells cs 43 (0, 0))) (hs : (Try.prog.info? 43).map (·.size) = some cs.size) : (results fn tmps).run Try.prog w = .ok (.tuple #[.agg cs, b]) w := by
  have hr := run_loadVar_row (P := Try.prog) w g 43 43 cs (0, 0) _ hg Try.underlying43 rfl hs
  have hp' : tmps[p]?.getD undef = .pointer (some ⟨g, 0, none⟩) := by simpa [Array.getD_eq_getD_getElem?] using hp
  have hq' : tmps[q]?.getD undef = b := by simpa [Array.getD_eq_getD_getElem?] using hq
  have ha : (asAddr (tmps[p]?.getD undef)).run Try.prog w = .ok ⟨g, 0, none⟩ w := by rw [hp']; rfl
  simp [results, h, Sem.run_bind, ha, hr, hq']
set_option maxHeartbeats 1000000 in
theorem none_Box (p : Value) (i : Int) (w : World) (h : NonePlan w p) : Calls Try.prog 10 #[p, .int .i64 i] w fun e w' => e = .returned (.tuple #[.agg #[.int .i64 0, .int .i64 0, .int .i64 0, .string ⟨#[]⟩, .slice none 0 0, .slice none 0 0], .bool false]) ∧ Below w.heap.size w w' := by
  have H0 := Lib.hid (heap_alloc_new w (.cells #[.int .i64 0, .int .i64 0, .int .i64 0, .string ⟨#[]⟩, .slice none 0 0, .slice none 0 0] 43))
  have HB0 := Lib.hid (below_alloc w (.cells #[.int .i64 0, .int .i64 0, .int .i64 0, .string ⟨#[]⟩, .slice none 0 0, .slice none 0 0] 43))
  have HL := Lib.hid (none_has p i _ (h.on HB0.out))
  have hnot : ∀ (x : Bool) (w : World), (Op.unary .not (.bool x)).run Try.prog w = .ok (.bool (!x)) w := fun _ _ => rfl
  have hbz : ∀ w, (Instr.build 43 #[]).run Try.prog w = .ok (.agg #[.int .i64 0, .int .i64 0, .int .i64 0, .string ⟨#[]⟩, .slice none 0 0, .slice none 0 0]) w := fun w => run_build w 43 _ _ (by kernel_rfl)
  clear h
  go_enter Try.func10, Try.ntmps10
  go_wp2_with (go_at_call 23; refine HL.out.mono ?_; rintro e w2 ⟨rfl, rfl⟩; refine Stop.out ?_)
  unfold Stop
  go_wp2_with ((with_reducible refine wpList_store_row (o := ⟨none, _, _, _, _, _⟩) 43 ?b0 (.tmp 4) (.tmp 10) ?b1 w.heap.size ?b2 [.int .i64 0, .int .i64 0, .int .i64 0, .string ⟨#[]⟩, .slice none 0 0, .slice none 0 0] ?b3 ?b4 ?b5 #[.int .i64 0, .int .i64 0, .int .i64 0, .string ⟨#[]⟩, .slice none 0 0, .slice none 0 0] ?b6 43 ?b7 ?_); (case b0 => rfl); (case b1 => rfl); (case b2 => rfl); (case b3 => exact box_info); (case b4 => simp [Value.oneCell']); (case b5 => rfl); (case b6 => rfl); (case b7 => exact H0.out); (try simp only [Act.put]); refine Stop.out ?_)
  unfold Stop
  have HBF := Lib.hid (box_row w #[.int .i64 0, .int .i64 0, .int .i64 0, .string ⟨#[]⟩, .slice none 0 0, .slice none 0 0] #[.int .i64 0, .int .i64 0, .int .i64 0, .string ⟨#[]⟩, .slice none 0 0, .slice none 0 0] 43 rfl)
  generalize World.setRow _ _ _ = w9 at HBF ⊢
  obtain ⟨g, hg⟩ : ∃ g, g = w.heap.size := ⟨_, rfl⟩
  have HBw := Lib.hid HBF.out.1
  rw [← hg] at HBF ⊢
  go_wp2
  exact bodyPost_ret (results_box Try.results10 _ _ g #[.int .i64 0, .int .i64 0, .int .i64 0, .string ⟨#[]⟩, .slice none 0 0, .slice none 0 0] _ rfl rfl HBF.out.2 box_info) rfl ⟨rfl, HBw.out⟩
set_option maxHeartbeats 4000000 in
theorem nobody_any (w : World) (i : Int) : Calls Try.prog 4 #[.int .i64 i] w fun e w' => e = .returned (.bool true) ∧ Below w.heap.size w w' := by
  have hbz : ∀ w, (Instr.build 36 #[]).run Try.prog w = .ok (.agg #[.slice none 0 0, .map none, .slice none 0 0, .slice none 0 0]) w := fun w => run_build w 36 _ _ (by kernel_rfl)
  go_enter Try.func4, Try.ntmps4
  go_wp2
  have hB1 := below_alloc w (.cells #[.slice none 0 0, .map none, .slice none 0 0, .slice none 0 0] 36)
  have hs1 : (w.alloc (.cells #[.slice none 0 0, .map none, .slice none 0 0, .slice none 0 0] 36)).heap.size = w.heap.size + 1 := World.size_alloc _ _
  have hB2 := below_alloc (w.alloc (.cells #[.slice none 0 0, .map none, .slice none 0 0, .slice none 0 0] 36)) (.cells #[.pointer none, .pointer (some ⟨w.heap.size, 0, none⟩)] 25)
  have hr := heap_alloc_new (w.alloc (.cells #[.slice none 0 0, .map none, .slice none 0 0, .slice none 0 0] 36)) (.cells #[.pointer none, .pointer (some ⟨w.heap.size, 0, none⟩)] 25)
  rw [hs1] at hr
  have HB1 := Lib.hid (below_then hB1 hB2)
  have HP1 := Lib.hid (heap_on hB2 (heap_alloc_new w (.cells #[.slice none 0 0, .map none, .slice none 0 0, .slice none 0 0] 36)))
  have HR1 := Lib.hid hr
  clear hB1 hs1 hB2 hr
  generalize World.alloc _ _ = w1 at HB1 HP1 HR1 ⊢
  obtain ⟨P, hP⟩ : ∃ P, P = w.heap.size := ⟨_, rfl⟩
  obtain ⟨S, hS⟩ : ∃ S, S = P + 1 := ⟨_, rfl⟩
  rw [← hP] at HP1 HR1 ⊢
  rw [← hS] at HR1 ⊢
  clear hP hS
  go_loopw [15] (fun v15 wr => ∃ k : Nat, k ≤ 2 ∧ v15 = .int .i64 (k : Nat) ∧ Hid (Below w1.heap.size w1 wr)) (fun v15 _ => 2 - (intOf v15).toNat)
  case atStart => exact ⟨0, Nat.zero_le _, rfl, Lib.hid (Below.refl _ _)⟩
  case round =>
    obtain ⟨k, hk, rfl, HR⟩ := hrel
    by_cases hlt : k < 2
    · obtain ⟨p, hc, hp⟩ : ∃ p, wr.cell? ⟨S, k, none⟩ = some p ∧ NonePlan wr p := by
        have h1 := heap_on HR.out HR1.out
        match k, hlt with
        | 0, _ => exact ⟨_, cell_of_row wr S 0 _ _ _ h1, .inl rfl⟩
        | 1, _ => exact ⟨_, cell_of_row wr S 1 _ _ _ h1, .inr ⟨P, rfl, heap_on HR.out HP1.out⟩⟩
      have HNp := Lib.hid hp
      have hkz : (k : Int) < 2 := by omega
      clear hp
      go_wp2_with (go_at_call 10; refine (none_Box p i _ HNp.out).mono ?_; rintro e w2 ⟨rfl, hb⟩; refine Stop.out ?_)
      unfold Stop
      have HB2 := Lib.hid hb
      have HZ := Lib.hid (heap_alloc_new w2 (.cells #[.int .i64 0, .int .i64 0, .int .i64 0, .string ⟨#[]⟩, .slice none 0 0, .slice none 0 0] 43))
      have HBF := Lib.hid (box_row w2 #[.int .i64 0, .int .i64 0, .int .i64 0, .string ⟨#[]⟩, .slice none 0 0, .slice none 0 0] #[.int .i64 0, .int .i64 0, .int .i64 0, .string ⟨#[]⟩, .slice none 0 0, .slice none 0 0] 43 rfl)
      clear hb hc
      go_wp2_with ((with_reducible refine wpList_store_row (o := ⟨none, _, _, _, _, _⟩) 43 ?b0 (.tmp 6) (.tmp 23) ?b1 w2.heap.size ?b2 [.int .i64 0, .int .i64 0, .int .i64 0, .string ⟨#[]⟩, .slice none 0 0, .slice none 0 0] ?b3 ?b4 ?b5 #[.int .i64 0, .int .i64 0, .int .i64 0, .string ⟨#[]⟩, .slice none 0 0, .slice none 0 0] ?b6 43 ?b7 ?_); (case b0 => rfl); (case b1 => rfl); (case b2 => rfl); (case b3 => exact box_info); (case b4 => simp [Value.oneCell']); (case b5 => rfl); (case b6 => rfl); (case b7 => exact HZ.out); (try simp only [Act.put]); refine Stop.out ?_)
      unfold Stop
      clear HZ
      generalize World.setRow _ _ _ = w3 at HBF ⊢
      obtain ⟨g, hg⟩ : ∃ g, g = w2.heap.size := ⟨_, rfl⟩
      have HB3 : Hid (Below wr.heap.size wr w3) := Lib.hid (below_then HB2.out HBF.out.1)
      rw [← hg] at HBF ⊢
      have HG3 := Lib.hid HBF.out.2
      clear hg HBF HB2
      have HN3 := Lib.hid (HNp.out.on HB3.out)
      go_wp2_with (go_at_call 11; refine (none_Find p i _ HN3.out).mono ?_; rintro e w4 ⟨rfl, rfl⟩; refine Stop.out ?_)
      unfold Stop
      obtain ⟨y0, y1, y2, y3, y4, y5⟩ := row6c HG3.out
      go_wp2_with (go_at_call 12; refine (none_Len p _ HN3.out).mono ?_; rintro e w5 ⟨rfl, rfl⟩; refine Stop.out ?_)
      unfold Stop
      go_wp2_with (go_at_call 8; refine (none_Order p _ HN3.out).mono ?_; rintro e w6 ⟨⟨A6, c6, rfl⟩, hb⟩; refine Stop.out ?_)
      unfold Stop
      have HB6 := Lib.hid (below_then HB3.out hb)
      have HN6 := Lib.hid (HN3.out.on hb)
      clear hb y0 y1 y2 y3 y4 y5
      go_wp2_with (go_at_call 9; refine (none_Needs p i _ HN6.out).mono ?_; rintro e w7 ⟨rfl, rfl⟩; refine Stop.out ?_)
      unfold Stop
      have HBf := Lib.hid (below_then HR.out HB6.out)
      go_wp2
      exact ⟨⟨k + 1, by omega, by simp, HBf⟩, by simp [intOf]; omega⟩
    · obtain rfl : k = 2 := by omega
      go_wp2_with (go_at_call 6; refine (code_lives _).mono ?_; rintro e w2 ⟨rfl, hb⟩; refine Stop.out ?_)
      unfold Stop
      have HBf := Lib.hid (below_then HB1.out (below_then HR.out hb))
      clear hb
      go_wp2
      go_ret
      exact ⟨rfl, HBf.out⟩
end Go.Proofs.Ytbplhjoompgemaa
