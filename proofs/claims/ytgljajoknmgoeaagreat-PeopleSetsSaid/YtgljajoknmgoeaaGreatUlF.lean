/- What holds on a day. -/
import Derived.Test.YtgljajoknmgoeaaGreatUlE
namespace Go.Proofs.YtgljajoknmgoeaaGreat
open Go.RowKit
set_option maxRecDepth 100000
attribute [local go_sem] Oper.semAt_some

/-- the span that holds on a day -/
def onP (day : Int) (p : Sp) : Bool := decide (p.1 ≤ day ∧ day ≤ p.2.1)
def atB (L : List Sp) (day : Int) : Bool := (L.find? (onP day)).isSome

/-- the call's own boxes -/
def AtI (w : World) (day : Int) (b : Bool) (W : World) : Prop :=
  W.heap[w.heap.size]? = some (.cells #[.int .i64 day] 3 (0, 0)) ∧ W.heap[w.heap.size + 1]? = some (.cells #[] 74 (0, 0)) ∧ W.heap[w.heap.size + 1 + 1]? = some (.cells #[.bool b] 4 (0, 0)) ∧ Below w.heap.size w W
theorem AtI.below {w W V : World} {b : Nat} {day : Int} {q : Bool} (h : AtI w day q W) (hb : Below b W V) (h0 : w.heap.size + 2 < b) : AtI w day q V :=
  ⟨(hb.block _ (by omega)).trans h.1, (hb.block _ (by omega)).trans h.2.1, (hb.block _ (by omega)).trans h.2.2.1, h.2.2.2.trans (hb.mono (by omega))⟩
theorem atI (w : World) (day : Int) : AtI w day false (((w.alloc (.cells #[.int .i64 day] 3)).alloc (.cells #[] 74)).alloc (.cells #[.bool false] 4)) := by
  have e1 := heap_alloc_new w (.cells #[.int .i64 day] 3)
  have e2 := heap_alloc_new (w.alloc (.cells #[.int .i64 day] 3)) (.cells #[] 74)
  have e3 := heap_alloc_new ((w.alloc (.cells #[.int .i64 day] 3)).alloc (.cells #[] 74)) (.cells #[.bool false] 4)
  simp only [World.size_alloc] at e2 e3
  exact ⟨heap_on (below_alloc _ _) (heap_on (below_alloc _ _) e1), heap_on (below_alloc _ _) e2, e3, below_then (below_alloc _ _) (below_then (below_alloc _ _) (below_alloc _ _))⟩
/-- it is written -/
theorem AtI.set {w W : World} {day : Int} {b c : Bool} (h : AtI w day b W) : AtI w day c (W.setCell ⟨w.heap.size + 1 + 1, 0, none⟩ (.bool c)) := by
  refine ⟨?_, ?_, ?_, h.2.2.2.setCell (p := ⟨w.heap.size + 1 + 1, 0, none⟩) (by simp; omega) _⟩
  · exact (heap_setCell_other _ _ _ _ (by simp <;> omega)).trans h.1
  · exact (heap_setCell_other _ _ _ _ (by simp <;> omega)).trans h.2.1
  · exact heap_setCell_same _ (w.heap.size + 1 + 1) 0 _ _ (.bool c) h.2.2.1
theorem results_at {fn : Func} {p q : Tmp} (h : fn.results = #[.cell p 74, .cell q 4]) (tmps : Array Value) (W : World) (g k : Nat) (b : Bool) (hp : tmps.getD p undef = .pointer (some ⟨g, 0, none⟩)) (hq : tmps.getD q undef = .pointer (some ⟨k, 0, none⟩))
    (_ : W.heap[g]? = some (.cells #[] 74 (0, 0))) (hk : W.heap[k]? = some (.cells #[.bool b] 4 (0, 0))) :
    (results fn tmps).run Tryz.prog W = .ok (.tuple #[.agg #[], .bool b]) W := by
  obtain ⟨c1, _⟩ := one_cell hk
  have hp' : tmps[p]?.getD undef = .pointer (some ⟨g, 0, none⟩) := by simpa [Array.getD_eq_getD_getElem?] using hp
  have hq' : tmps[q]?.getD undef = .pointer (some ⟨k, 0, none⟩) := by simpa [Array.getD_eq_getD_getElem?] using hq
  simp [results, h, hp', hq', go_sem, c1]
/-- none of them holds -/
def NoOn (day : Int) (L : List Sp) : Prop := L.find? (onP day) = none
theorem find_next {L pre post : List Sp} {day : Int} {x : Sp} (h : L = pre ++ x :: post) (hp : NoOn day pre) (hx : onP day x = true) : L.find? (onP day) = some x := by
  unfold NoOn at hp
  rw [h, List.find?_append, hp]
  simp [hx]
theorem find_none {pre : List Sp} {day : Int} {x : Sp} (hp : NoOn day pre) (hx : onP day x = false) : NoOn day (pre ++ [x]) := by
  unfold NoOn at *
  rw [List.find?_append, hp]
  simp [hx]

theorem code_isMade_nil (w : World) : Calls Tryz.prog 57 #[.pointer none] w fun e w' => e = .returned (.bool false) ∧ w = w' := by
  go_enter Tryz.func57, Tryz.ntmps57
  go_wp2
  go_ret
  exact ⟨rfl, rfl⟩
theorem code_lall_nil (w : World) : Calls Tryz.prog 65 #[.pointer none] w fun e w' =>
    e = .returned (allF w.heap.size) ∧ w'.heap[w.heap.size]? = some (.cells #[.slice none 0 0] 87 (0, 0)) ∧ Below w.heap.size w w' := by
  have hmf : ∀ (fn : Fn) (first cap : Array Value) (w : World), (Instr.makeFunc fn first cap).run Tryz.prog w = .ok (.func fn first cap) w := fun _ _ _ _ => rfl
  have HM := Lib.hid (fun W => code_isMade_nil W)
  go_enter Tryz.func65, Tryz.ntmps65
  go_wp2_with (go_at_call 57; refine (HM.out _).mono ?_; rintro e w1 ⟨rfl, rfl⟩)
  go_ret
  exact ⟨rfl, heap_alloc_new _ _, below_alloc _ _⟩
set_option maxHeartbeats 1000000 in
theorem code_at_any (p : Value) (w : World) (c : Nat) (A : Option Addr) (L : List Sp) (day : Int) (hall : ∀ W, Below w.heap.size w W → Calls Tryz.prog 65 #[p] W fun e w' =>
    e = .returned (allF W.heap.size) ∧ w'.heap[W.heap.size]? = some (.cells #[.slice A L.length c] 87 (0, 0)) ∧ Below W.heap.size W w') (hrw : Row2 w A L) (hrow : ∃ b, b < w.heap.size ∧ (L ≠ [] → ∀ a, A = some a → a.block = b)) (hsh : L.length ≤ 256) : Calls Tryz.prog 53 #[p, .int .i64 day] w fun e w' => e = .returned (.tuple #[.agg #[], .bool (atB L day)]) ∧ Below w.heap.size w w' := by
  have HAll := Lib.hid hall
  have HR := Lib.hid hrw
  have HRow := Lib.hid hrow
  have HSh := Lib.hid hsh
  have HI4 := Lib.hid (atI w day)
  clear hall hrw hrow hsh
  refine callsIn_wide.1 (callsIn_of_wp_marks (n := 0) (F := Fence.wide) Tryz.func53 rfl trivial (wpIn_wide.2 ?_) rfl)
  simp only [Tryz.ntmps53, List.size_toArray, List.length_cons, List.length_nil, Nat.reduceAdd, Nat.reduceSub, Array.replicate_succ, Array.replicate_zero, List.push_toArray, List.append_toArray, List.nil_append, List.cons_append]
  go_wp2_with (go_at_call 65; refine (HAll.out _ HI4.out.2.2.2).mono ?_; rintro e W9 ⟨rfl, hg, hb⟩; refine Stop.out ?_)
  unfold Stop
  unfold allF
  have hz4 : ((((w.alloc (.cells #[.int .i64 day] 3)).alloc (.cells #[] 74)).alloc (.cells #[.bool false] 4))).heap.size = w.heap.size + 3 := by simp
  rw [hz4] at hg
  have hI9 : AtI w day false W9 := HI4.out.below hb (by rw [hz4]; omega)
  have hr9 : Row2 W9 A L := HR.out.on hI9.2.2.2
  have hz9 : w.heap.size + 4 ≤ W9.heap.size := heapLt hg
  obtain ⟨b, hbw, hAb⟩ := HRow.out
  have HA := Lib.hid (told W9 (w.heap.size + 3) b A c L hg hr9 hAb (by have := HSh.out; omega))
  clear hg hb hr9 hAb hz4 HI4
  go_wp2
  refine wp_rangeTold (gf := 89) (lb := #[.pointer (some ⟨w.heap.size + 3, 0, none⟩)]) rfl (enters_of Tryz.func89 (by kernel_rfl) rfl) HA.out (fun h k => h.trans k) (fun A B h => ⟨fun _ => h.block _ (by omega), h.size⟩) (fun _ => rfl)
    (fun pre W => (AtI w day false W ∧ w.heap.size + 4 ≤ W.heap.size) ∧ NoOn day pre) (fun cc _ W => cc = .ret ∧ AtI w day true W ∧ atB L day = true) (fun _ A B h hb => ⟨⟨h.1.1.below hb (by omega), Nat.le_trans h.1.2 hb.size⟩, h.2⟩) (fun _ _ _ _ h hb => ⟨h.1, h.2.1.below hb (by omega), h.2.2⟩) ⟨⟨hI9, hz9⟩, rfl⟩ ?round ?done ?stop
  case stop =>
    rintro D cc pre W hD _ ⟨rfl, hI, hB⟩ hK
    have HBq := Lib.hid hB
    clear hB
    have HI := Lib.hid hI
    have HK := Lib.hid hK
    clear hI hK
    go_wp2
    refine ⟨by simp, .inl ⟨_, _, rfl, run_takeDeferred HK.out, ?_⟩⟩
    have hp := (HI.out.below (V := W.putObj D (.deferred none)) (put_below (b := D) W _ (Nat.le_refl _)) (by omega))
    exact ⟨_, results_at rfl _ _ (w.heap.size + 1) (w.heap.size + 1 + 1) true rfl rfl hp.2.1 hp.2.2.1, by rw [HBq.out], hp.2.2.2⟩
  case done =>
    intro D xs W hD hxs hI hK
    obtain ⟨⟨hI, hz⟩, hf⟩ := hI
    rw [hxs] at hf
    unfold NoOn at hf
    have e2 : atB L day = false := by unfold atB; rw [hf]; rfl
    have HE := Lib.hid e2
    obtain ⟨q5, z5⟩ := one_cell hI.2.2.1
    have HI := Lib.hid hI
    have HK := Lib.hid hK
    clear hI hK hxs hf e2
    go_wp2
    have hs := HI.out.set (c := false)
    have hk : (W.setCell ⟨w.heap.size + 1 + 1, 0, none⟩ (.bool false)).heap[D]? = some (.deferred (some [])) := by
      rw [heap_setCell_other _ _ _ _ (by simp; omega)]
      exact HK.out
    refine ⟨by simp, .inl ⟨_, _, rfl, run_takeDeferred hk, ?_⟩⟩
    have hp := hs.below (V := World.putObj _ D (.deferred none)) (put_below (b := D) _ _ (Nat.le_refl _)) (by omega)
    exact ⟨_, results_at rfl _ _ (w.heap.size + 1) (w.heap.size + 1 + 1) false rfl rfl hp.2.1 hp.2.2.1, by rw [HE.out], hp.2.2.2⟩
  case round =>
    intro l r pre x W hl hr hI hx
    obtain ⟨post, hpost⟩ := hx
    obtain ⟨⟨hI, hz⟩, hf⟩ := hI
    have hlW : l < W.heap.size := heapLt hr
    have HI := Lib.hid hI
    have HX := Lib.hid (And.intro hpost hf)
    clear hI hr hpost hf
    dsimp only [encS]
    gi_wp2
    refine ⟨below_then (below_alloc _ _) (below_alloc _ _), fun Wb hB => ?_⟩
    have hIa := HI.out.below (below_then (below_alloc W (.cells #[.int .i64 x.1, .int .i64 x.2.1] 39)) (below_alloc _ (.cells #[] 74))) (by omega)
    have hIb := hIa.below (hB.below (b := W9.heap.size) (by omega)) (by omega)
    have hx6 := (hB.block W.heap.size (by omega)).trans (heap_on (below_alloc _ (.cells #[] 74)) (heap_alloc_new W (.cells #[.int .i64 x.1, .int .i64 x.2.1] 39)))
    have HZb : Hid (w.heap.size + 4 ≤ Wb.heap.size) := Lib.hid (by have := hB.size; rw [World.size_alloc, World.size_alloc] at this; omega)
    obtain ⟨x0, x1, _, _⟩ := row2 hx6
    obtain ⟨q3, _⟩ := one_cell hIb.1
    obtain ⟨q5, z5⟩ := one_cell hIb.2.2.1
    have HIb := Lib.hid hIb
    clear hIa hIb hx6 hB HI
    by_cases h1 : x.1 ≤ day
    · by_cases h2 : day ≤ x.2.1
      · have HF := Lib.hid (find_next HX.out.1 HX.out.2 (decide_eq_true ⟨h1, h2⟩))
        have HE : Hid (atB L day = true) := Lib.hid (by unfold atB; rw [HF.out]; rfl)
        gi_wp2
        exact roundP_ret ⟨KeepsOthers.setCell _ _ _, rfl, HIb.out.set, HE.out⟩
      · have HF := Lib.hid (find_none HX.out.2 (decide_eq_false (show ¬ (x.1 ≤ day ∧ day ≤ x.2.1) from fun h => h2 h.2)))
        gi_wp2
        exact roundP_normal ⟨KeepsOthers.refl _, ⟨fun _ => rfl, Nat.le_refl _⟩, ⟨HIb.out, HZb.out⟩, HF.out⟩
    · have HF := Lib.hid (find_none HX.out.2 (decide_eq_false (show ¬ (x.1 ≤ day ∧ day ≤ x.2.1) from fun h => h1 h.1)))
      gi_wp2
      exact roundP_normal ⟨KeepsOthers.refl _, ⟨fun _ => rfl, Nat.le_refl _⟩, ⟨HIb.out, HZb.out⟩, HF.out⟩
theorem code_at_nil (w : World) (day : Int) (hw : 0 < w.heap.size) : Calls Tryz.prog 53 #[.pointer none, .int .i64 day] w fun e w' => e = .returned (.tuple #[.agg #[], .bool false]) ∧ Below w.heap.size w w' :=
  code_at_any (.pointer none) w 0 none [] day (fun W _ => code_lall_nil W) Row2.nil ⟨0, hw, fun h => absurd rfl h⟩ (by simp)
theorem code_at' (w : World) (B most : Nat) (L : List Sp) (day : Int) (h : Lin w B most L) : Calls Tryz.prog 53 #[.pointer (some ⟨B, 0, none⟩), .int .i64 day] w fun e w' => e = .returned (.tuple #[.agg #[], .bool (atB L day)]) ∧ Below w.heap.size w w' := by
  obtain ⟨A, c, h0⟩ := h
  exact code_at_any _ w c A L day (fun W hW => code_lall W B most c A L (h0.on hW)) h0.2.1 h0.row h0.short
end Go.Proofs.YtgljajoknmgoeaaGreat
