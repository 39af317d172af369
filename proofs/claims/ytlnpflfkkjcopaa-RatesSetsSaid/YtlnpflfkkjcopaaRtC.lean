/- Rates: what holds on a day on a line that is not there. -/
import Derived.Test.YtlnpflfkkjcopaaTlF
namespace Go.Proofs.Ytlnpflfkkjcopaa
open Go.RowKit
set_option maxRecDepth 100000
attribute [local go_sem] Oper.semAt_some

theorem code_isMade_nil (w : World) : Calls Try.prog 34 #[.pointer none] w fun e w' => e = .returned (.bool false) ∧ w = w' := by
  go_enter Try.func34, Try.ntmps34
  go_wp2
  go_ret
  exact ⟨rfl, rfl⟩
theorem code_lall_nil (w : World) : Calls Try.prog 38 #[.pointer none] w fun e w' =>
    e = .returned (allF w.heap.size) ∧ w'.heap[w.heap.size]? = some (.cells #[.slice none 0 0] 74 (0, 0)) ∧ Below w.heap.size w w' := by
  have hmf : ∀ (fn : Fn) (first cap : Array Value) (w : World), (Instr.makeFunc fn first cap).run Try.prog w = .ok (.func fn first cap) w := fun _ _ _ _ => rfl
  have HM := Lib.hid (fun W => code_isMade_nil W)
  go_enter Try.func38, Try.ntmps38
  go_wp2_with (go_at_call 34; refine (HM.out _).mono ?_; rintro e w1 ⟨rfl, rfl⟩)
  go_ret
  exact ⟨rfl, heap_alloc_new _ _, below_alloc _ _⟩
set_option maxHeartbeats 1000000 in
theorem code_at_any (p : Value) (w : World) (c : Nat) (A : Option Addr) (L : List Sp) (day : Int) (hall : ∀ W, Below w.heap.size w W → Calls Try.prog 38 #[p] W fun e w' =>
    e = .returned (allF W.heap.size) ∧ w'.heap[W.heap.size]? = some (.cells #[.slice A L.length c] 74 (0, 0)) ∧ Below W.heap.size W w') (hrw : Row w A L) (hrow : ∃ b, b < w.heap.size ∧ (L ≠ [] → ∀ a, A = some a → a.block = b)) (hsh : L.length ≤ 256) : Calls Try.prog 20 #[p, .int .i64 day] w fun e w' => e = .returned (.tuple #[.int .i64 (atX L day), .bool (atB L day)]) ∧ Below w.heap.size w w' := by
  have HAll := Lib.hid hall
  have HR := Lib.hid hrw
  have HRow := Lib.hid hrow
  have HSh := Lib.hid hsh
  have HI4 := Lib.hid (atI w day)
  clear hall hrw hrow hsh
  refine callsIn_wide.1 (callsIn_of_wp_marks (n := 0) (F := Fence.wide) Try.func20 rfl trivial (wpIn_wide.2 ?_) rfl)
  simp only [Try.ntmps20, List.size_toArray, List.length_cons, List.length_nil, Nat.reduceAdd, Nat.reduceSub, Array.replicate_succ, Array.replicate_zero, List.push_toArray, List.append_toArray, List.nil_append, List.cons_append]
  go_wp2_with (go_at_call 38; refine (HAll.out _ HI4.out.2.2.2).mono ?_; rintro e W9 ⟨rfl, hg, hb⟩; refine Stop.out ?_)
  unfold Stop
  unfold allF
  have hz4 : ((((w.alloc (.cells #[.int .i64 day] 3)).alloc (.cells #[.int .i64 0] 3)).alloc (.cells #[.bool false] 4))).heap.size = w.heap.size + 3 := by simp
  rw [hz4] at hg
  have hI9 : AtI w day 0 false W9 := HI4.out.below hb (by rw [hz4]; omega)
  have hr9 : Row W9 A L := HR.out.on hI9.2.2.2
  have hz9 : w.heap.size + 4 ≤ W9.heap.size := heapLt hg
  obtain ⟨b, hbw, hAb⟩ := HRow.out
  have HA := Lib.hid (told W9 (w.heap.size + 3) b A c L hg hr9 hAb (by have := HSh.out; omega))
  clear hg hb hr9 hAb hz4 HI4
  go_wp2
  refine wp_rangeTold (gf := 55) (lb := #[.pointer (some ⟨w.heap.size + 3, 0, none⟩)]) rfl (enters_of Try.func55 (by kernel_rfl) rfl) HA.out (fun h k => h.trans k) (fun A B h => ⟨fun _ => h.block _ (by omega), h.size⟩) (fun _ => rfl)
    (fun pre W => (AtI w day 0 false W ∧ w.heap.size + 4 ≤ W.heap.size) ∧ NoOn day pre) (fun cc _ W => cc = .ret ∧ AtI w day (atX L day) true W ∧ atB L day = true) (fun _ A B h hb => ⟨⟨h.1.1.below hb (by omega), Nat.le_trans h.1.2 hb.size⟩, h.2⟩) (fun _ _ _ _ h hb => ⟨h.1, h.2.1.below hb (by omega), h.2.2⟩) ⟨⟨hI9, hz9⟩, rfl⟩ ?round ?done ?stop
  case stop =>
    rintro D cc pre W hD _ ⟨rfl, hI, hB⟩ hK
    have HBq := Lib.hid hB
    clear hB
    have HI := Lib.hid hI
    have HK := Lib.hid hK
    clear hI hK
    go_wp2
    refine ⟨by simp, .inl ⟨_, _, rfl, run_takeDeferred HK.out, ?_⟩⟩
    have hp := (HI.out.below (V := W.putObj D (.deferred none)) (put_below (b := D) W _ (Nat.le_refl _)) (by omega))
    exact ⟨_, results_at rfl _ _ (w.heap.size + 1) (w.heap.size + 1 + 1) (atX L day) true rfl rfl hp.2.1 hp.2.2.1, by rw [HBq.out], hp.2.2.2⟩
  case done =>
    intro D xs W hD hxs hI hK
    obtain ⟨⟨hI, hz⟩, hf⟩ := hI
    rw [hxs] at hf
    unfold NoOn at hf
    have e1 : atX L day = 0 := by unfold atX; rw [hf]
    have e2 : atB L day = false := by unfold atB; rw [hf]; rfl
    have HE := Lib.hid (And.intro e1 e2)
    obtain ⟨q4, z4⟩ := one_cell hI.2.1
    obtain ⟨q5, z5⟩ := one_cell hI.2.2.1
    have HI := Lib.hid hI
    have HK := Lib.hid hK
    clear hI hK hxs hf e1 e2
    go_wp2
    have hs := HI.out.set (y := 0) (c := false)
    have hk : ((W.setCell ⟨w.heap.size + 1, 0, none⟩ (.int .i64 0)).setCell ⟨w.heap.size + 1 + 1, 0, none⟩ (.bool false)).heap[D]? = some (.deferred (some [])) := by
      rw [heap_setCell_other _ _ _ _ (by simp; omega), heap_setCell_other _ _ _ _ (by simp; omega)]
      exact HK.out
    refine ⟨by simp, .inl ⟨_, _, rfl, run_takeDeferred hk, ?_⟩⟩
    have hp := hs.below (V := World.putObj _ D (.deferred none)) (put_below (b := D) _ _ (Nat.le_refl _)) (by omega)
    exact ⟨_, results_at rfl _ _ (w.heap.size + 1) (w.heap.size + 1 + 1) 0 false rfl rfl hp.2.1 hp.2.2.1, by rw [HE.out.1, HE.out.2], hp.2.2.2⟩
  case round =>
    intro l r pre x W hl hr hI hx
    obtain ⟨post, hpost⟩ := hx
    obtain ⟨⟨hI, hz⟩, hf⟩ := hI
    have hlW : l < W.heap.size := heapLt hr
    have HI := Lib.hid hI
    have HX := Lib.hid (And.intro hpost hf)
    clear hI hr hpost hf
    dsimp only [encS]
    gi_wp2
    refine ⟨below_alloc _ _, fun Wb hB => ?_⟩
    have hIa := HI.out.below (below_alloc W (.cells #[.int .i64 x.1, .int .i64 x.2.1] 24)) (by omega)
    have hIb := hIa.below (hB.below (b := W9.heap.size) (by omega)) (by omega)
    have hx6 := (hB.block W.heap.size (by omega)).trans (heap_alloc_new W (.cells #[.int .i64 x.1, .int .i64 x.2.1] 24))
    have HZb : Hid (w.heap.size + 4 ≤ Wb.heap.size) := Lib.hid (by have := hB.size; rw [World.size_alloc] at this; omega)
    obtain ⟨x0, x1, _, _⟩ := row2 hx6
    obtain ⟨q3, _⟩ := one_cell hIb.1
    obtain ⟨q4, z4⟩ := one_cell hIb.2.1
    obtain ⟨q5, z5⟩ := one_cell hIb.2.2.1
    have HIb := Lib.hid hIb
    clear hIa hIb hx6 hB HI
    by_cases h1 : x.1 ≤ day
    · by_cases h2 : day ≤ x.2.1
      · have HF := Lib.hid (find_next HX.out.1 HX.out.2 (decide_eq_true ⟨h1, h2⟩))
        have HE : Hid (atX L day = x.2.2 ∧ atB L day = true) := Lib.hid ⟨by unfold atX; rw [HF.out], by unfold atB; rw [HF.out]; rfl⟩
        gi_wp2
        refine roundP_ret ⟨(KeepsOthers.setCell _ _ _).trans (KeepsOthers.setCell _ _ _), rfl, ?_, HE.out.2⟩
        rw [HE.out.1]
        exact HIb.out.set
      · have HF := Lib.hid (find_none HX.out.2 (decide_eq_false (show ¬ (x.1 ≤ day ∧ day ≤ x.2.1) from fun h => h2 h.2)))
        gi_wp2
        exact roundP_normal ⟨KeepsOthers.refl _, ⟨fun _ => rfl, Nat.le_refl _⟩, ⟨HIb.out, HZb.out⟩, HF.out⟩
    · have HF := Lib.hid (find_none HX.out.2 (decide_eq_false (show ¬ (x.1 ≤ day ∧ day ≤ x.2.1) from fun h => h1 h.1)))
      gi_wp2
      exact roundP_normal ⟨KeepsOthers.refl _, ⟨fun _ => rfl, Nat.le_refl _⟩, ⟨HIb.out, HZb.out⟩, HF.out⟩
theorem code_at_nil (w : World) (day : Int) (hw : 0 < w.heap.size) : Calls Try.prog 20 #[.pointer none, .int .i64 day] w fun e w' => e = .returned (.tuple #[.int .i64 0, .bool false]) ∧ Below w.heap.size w w' :=
  code_at_any (.pointer none) w 0 none [] day (fun W _ => code_lall_nil W) Row.nil ⟨0, hw, fun h => absurd rfl h⟩ (by simp)
end Go.Proofs.Ytlnpflfkkjcopaa
