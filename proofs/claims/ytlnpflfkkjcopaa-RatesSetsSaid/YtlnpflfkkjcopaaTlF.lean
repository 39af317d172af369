/- What holds on a day. -/
import Derived.Test.YtlnpflfkkjcopaaTlE
namespace Go.Proofs.Ytlnpflfkkjcopaa
open Go.RowKit
set_option maxRecDepth 100000
attribute [local go_sem] Oper.semAt_some

/-- the span that holds on a day -/
def onP (day : Int) (p : Sp) : Bool := decide (p.1 ≤ day ∧ day ≤ p.2.1)
def atX (L : List Sp) (day : Int) : Int := match L.find? (onP day) with | some p => p.2.2 | none => 0
def atB (L : List Sp) (day : Int) : Bool := (L.find? (onP day)).isSome

/-- the call's own boxes -/
def AtI (w : World) (day x : Int) (b : Bool) (W : World) : Prop :=
  W.heap[w.heap.size]? = some (.cells #[.int .i64 day] 3 (0, 0)) ∧ W.heap[w.heap.size + 1]? = some (.cells #[.int .i64 x] 3 (0, 0)) ∧ W.heap[w.heap.size + 1 + 1]? = some (.cells #[.bool b] 4 (0, 0)) ∧ Below w.heap.size w W
theorem AtI.below {w W V : World} {b : Nat} {day x : Int} {q : Bool} (h : AtI w day x q W) (hb : Below b W V) (h0 : w.heap.size + 2 < b) : AtI w day x q V :=
  ⟨(hb.block _ (by omega)).trans h.1, (hb.block _ (by omega)).trans h.2.1, (hb.block _ (by omega)).trans h.2.2.1, h.2.2.2.trans (hb.mono (by omega))⟩
theorem atI (w : World) (day : Int) : AtI w day 0 false (((w.alloc (.cells #[.int .i64 day] 3)).alloc (.cells #[.int .i64 0] 3)).alloc (.cells #[.bool false] 4)) := by
  have e1 := heap_alloc_new w (.cells #[.int .i64 day] 3)
  have e2 := heap_alloc_new (w.alloc (.cells #[.int .i64 day] 3)) (.cells #[.int .i64 0] 3)
  have e3 := heap_alloc_new ((w.alloc (.cells #[.int .i64 day] 3)).alloc (.cells #[.int .i64 0] 3)) (.cells #[.bool false] 4)
  simp only [World.size_alloc] at e2 e3
  exact ⟨heap_on (below_alloc _ _) (heap_on (below_alloc _ _) e1), heap_on (below_alloc _ _) e2, e3, below_then (below_alloc _ _) (below_then (below_alloc _ _) (below_alloc _ _))⟩
/-- both written -/
theorem AtI.set {w W : World} {day x y : Int} {b c : Bool} (h : AtI w day x b W) : AtI w day y c ((W.setCell ⟨w.heap.size + 1, 0, none⟩ (.int .i64 y)).setCell ⟨w.heap.size + 1 + 1, 0, none⟩ (.bool c)) := by
  refine ⟨?_, ?_, ?_, (h.2.2.2.setCell (p := ⟨w.heap.size + 1, 0, none⟩) (by simp) _).setCell (p := ⟨w.heap.size + 1 + 1, 0, none⟩) (by simp; omega) _⟩
  · exact (heap_setCell_other _ _ _ _ (by simp <;> omega)).trans ((heap_setCell_other _ _ _ _ (by simp <;> omega)).trans h.1)
  · exact (heap_setCell_other _ _ _ _ (by simp <;> omega)).trans (heap_setCell_same W (w.heap.size + 1) 0 _ _ (.int .i64 y) h.2.1)
  · exact heap_setCell_same _ (w.heap.size + 1 + 1) 0 _ _ (.bool c) ((heap_setCell_other _ _ _ _ (by simp <;> omega)).trans h.2.2.1)
theorem results_at {fn : Func} {p q : Tmp} (h : fn.results = #[.cell p 3, .cell q 4]) (tmps : Array Value) (W : World) (g k : Nat) (x : Int) (b : Bool) (hp : tmps.getD p undef = .pointer (some ⟨g, 0, none⟩)) (hq : tmps.getD q undef = .pointer (some ⟨k, 0, none⟩))
    (hg : W.heap[g]? = some (.cells #[.int .i64 x] 3 (0, 0))) (hk : W.heap[k]? = some (.cells #[.bool b] 4 (0, 0))) :
    (results fn tmps).run Try.prog W = .ok (.tuple #[.int .i64 x, .bool b]) W := by
  obtain ⟨c0, _⟩ := one_cell hg
  obtain ⟨c1, _⟩ := one_cell hk
  have hp' : tmps[p]?.getD undef = .pointer (some ⟨g, 0, none⟩) := by simpa [Array.getD_eq_getD_getElem?] using hp
  have hq' : tmps[q]?.getD undef = .pointer (some ⟨k, 0, none⟩) := by simpa [Array.getD_eq_getD_getElem?] using hq
  simp [results, h, hp', hq', go_sem, c0, c1]
/-- none of them holds -/
def NoOn (day : Int) (L : List Sp) : Prop := L.find? (onP day) = none
theorem find_next {L pre post : List Sp} {day : Int} {x : Sp} (h : L = pre ++ x :: post) (hp : NoOn day pre) (hx : onP day x = true) : L.find? (onP day) = some x := by
  unfold NoOn at hp
  rw [h, List.find?_append, hp]
  simp [hx]
theorem find_none {pre : List Sp} {day : Int} {x : Sp} (hp : NoOn day pre) (hx : onP day x = false) : NoOn day (pre ++ [x]) := by
  unfold NoOn at *
  rw [List.find?_append, hp]
  simp [hx]

set_option maxHeartbeats 1000000 in
theorem code_at (w : World) (B most c : Nat) (A : Option Addr) (L : List Sp) (day : Int) (h : LinAt w B most A c L) : Calls Try.prog 20 #[.pointer (some ⟨B, 0, none⟩), .int .i64 day] w fun e w' => e = .returned (.tuple #[.int .i64 (atX L day), .bool (atB L day)]) ∧ Below w.heap.size w w' := by
  have HL := Lib.hid h
  have HI4 := Lib.hid (atI w day)
  clear h
  refine callsIn_wide.1 (callsIn_of_wp_marks (n := 0) (F := Fence.wide) Try.func20 rfl trivial (wpIn_wide.2 ?_) rfl)
  simp only [Try.ntmps20, List.size_toArray, List.length_cons, List.length_nil, Nat.reduceAdd, Nat.reduceSub, Array.replicate_succ, Array.replicate_zero, List.push_toArray, List.append_toArray, List.nil_append, List.cons_append]
  go_wp2_with (go_at_call 38; refine (code_lall _ B most c A L (HL.out.on HI4.out.2.2.2)).mono ?_; rintro e W9 ⟨rfl, hg, hb⟩; refine Stop.out ?_)
  unfold Stop
  unfold allF
  have hz4 : ((((w.alloc (.cells #[.int .i64 day] 3)).alloc (.cells #[.int .i64 0] 3)).alloc (.cells #[.bool false] 4))).heap.size = w.heap.size + 3 := by simp
  rw [hz4] at hg
  have hI9 : AtI w day 0 false W9 := HI4.out.below hb (by rw [hz4]; omega)
  have hr9 : Row W9 A L := HL.out.2.1.on hI9.2.2.2
  have hz9 : w.heap.size + 4 ≤ W9.heap.size := heapLt hg
  obtain ⟨b, hbw, hAb⟩ := HL.out.row
  have HA := Lib.hid (told W9 (w.heap.size + 3) b A c L hg hr9 hAb (by have := HL.out.short; omega))
  clear hg hb hr9 hAb hz4 HI4
  go_wp2
  refine wp_rangeTold (gf := 55) (lb := #[.pointer (some ⟨w.heap.size + 3, 0, none⟩)]) rfl (enters_of Try.func55 (by kernel_rfl) rfl) HA.out (fun h k => h.trans k) (fun A B h => ⟨fun _ => h.block _ (by omega), h.size⟩) (fun _ => rfl)
    (fun pre W => (AtI w day 0 false W ∧ w.heap.size + 4 ≤ W.heap.size) ∧ NoOn day pre) (fun cc _ W => cc = .ret ∧ AtI w day (atX L day) true W ∧ atB L day = true) (fun _ A B h hb => ⟨⟨h.1.1.below hb (by omega), Nat.le_trans h.1.2 hb.size⟩, h.2⟩) (fun _ _ _ _ h hb => ⟨h.1, h.2.1.below hb (by omega), h.2.2⟩) ⟨⟨hI9, hz9⟩, rfl⟩ ?round ?done ?stop
  case stop =>
    rintro D cc pre W hD _ ⟨rfl, hI, hB⟩ hK
    have HBq := Lib.hid hB
    clear hB
    have HI := Lib.hid hI
    have HK := Lib.hid hK
    clear hI hK
    go_wp2
    refine ⟨by simp, .inl ⟨_, _, rfl, run_takeDeferred HK.out, ?_⟩⟩
    have hp := (HI.out.below (V := W.putObj D (.deferred none)) (put_below (b := D) W _ (Nat.le_refl _)) (by omega))
    exact ⟨_, results_at rfl _ _ (w.heap.size + 1) (w.heap.size + 1 + 1) (atX L day) true rfl rfl hp.2.1 hp.2.2.1, by rw [HBq.out], hp.2.2.2⟩
  case done =>
    intro D xs W hD hxs hI hK
    obtain ⟨⟨hI, hz⟩, hf⟩ := hI
    rw [hxs] at hf
    unfold NoOn at hf
    have e1 : atX L day = 0 := by unfold atX; rw [hf]
    have e2 : atB L day = false := by unfold atB; rw [hf]; rfl
    have HE := Lib.hid (And.intro e1 e2)
    obtain ⟨q4, z4⟩ := one_cell hI.2.1
    obtain ⟨q5, z5⟩ := one_cell hI.2.2.1
    have HI := Lib.hid hI
    have HK := Lib.hid hK
    clear hI hK hxs hf e1 e2
    go_wp2
    have hs := HI.out.set (y := 0) (c := false)
    have hk : ((W.setCell ⟨w.heap.size + 1, 0, none⟩ (.int .i64 0)).setCell ⟨w.heap.size + 1 + 1, 0, none⟩ (.bool false)).heap[D]? = some (.deferred (some [])) := by
      rw [heap_setCell_other _ _ _ _ (by simp; omega), heap_setCell_other _ _ _ _ (by simp; omega)]
      exact HK.out
    refine ⟨by simp, .inl ⟨_, _, rfl, run_takeDeferred hk, ?_⟩⟩
    have hp := hs.below (V := World.putObj _ D (.deferred none)) (put_below (b := D) _ _ (Nat.le_refl _)) (by omega)
    exact ⟨_, results_at rfl _ _ (w.heap.size + 1) (w.heap.size + 1 + 1) 0 false rfl rfl hp.2.1 hp.2.2.1, by rw [HE.out.1, HE.out.2], hp.2.2.2⟩
  case round =>
    intro l r pre x W hl hr hI hx
    obtain ⟨post, hpost⟩ := hx
    obtain ⟨⟨hI, hz⟩, hf⟩ := hI
    have hlW : l < W.heap.size := heapLt hr
    have HI := Lib.hid hI
    have HX := Lib.hid (And.intro hpost hf)
    clear hI hr hpost hf
    dsimp only [encS]
    gi_wp2
    refine ⟨below_alloc _ _, fun Wb hB => ?_⟩
    have hIa := HI.out.below (below_alloc W (.cells #[.int .i64 x.1, .int .i64 x.2.1] 24)) (by omega)
    have hIb := hIa.below (hB.below (b := W9.heap.size) (by omega)) (by omega)
    have hx6 := (hB.block W.heap.size (by omega)).trans (heap_alloc_new W (.cells #[.int .i64 x.1, .int .i64 x.2.1] 24))
    have HZb : Hid (w.heap.size + 4 ≤ Wb.heap.size) := Lib.hid (by have := hB.size; rw [World.size_alloc] at this; omega)
    obtain ⟨x0, x1, _, _⟩ := row2 hx6
    obtain ⟨q3, _⟩ := one_cell hIb.1
    obtain ⟨q4, z4⟩ := one_cell hIb.2.1
    obtain ⟨q5, z5⟩ := one_cell hIb.2.2.1
    have HIb := Lib.hid hIb
    clear hIa hIb hx6 hB HI
    by_cases h1 : x.1 ≤ day
    · by_cases h2 : day ≤ x.2.1
      · have HF := Lib.hid (find_next HX.out.1 HX.out.2 (decide_eq_true ⟨h1, h2⟩))
        have HE : Hid (atX L day = x.2.2 ∧ atB L day = true) := Lib.hid ⟨by unfold atX; rw [HF.out], by unfold atB; rw [HF.out]; rfl⟩
        gi_wp2
        refine roundP_ret ⟨(KeepsOthers.setCell _ _ _).trans (KeepsOthers.setCell _ _ _), rfl, ?_, HE.out.2⟩
        rw [HE.out.1]
        exact HIb.out.set
      · have HF := Lib.hid (find_none HX.out.2 (decide_eq_false (show ¬ (x.1 ≤ day ∧ day ≤ x.2.1) from fun h => h2 h.2)))
        gi_wp2
        exact roundP_normal ⟨KeepsOthers.refl _, ⟨fun _ => rfl, Nat.le_refl _⟩, ⟨HIb.out, HZb.out⟩, HF.out⟩
    · have HF := Lib.hid (find_none HX.out.2 (decide_eq_false (show ¬ (x.1 ≤ day ∧ day ≤ x.2.1) from fun h => h1 h.1)))
      gi_wp2
      exact roundP_normal ⟨KeepsOthers.refl _, ⟨fun _ => rfl, Nat.le_refl _⟩, ⟨HIb.out, HZb.out⟩, HF.out⟩
end Go.Proofs.Ytlnpflfkkjcopaa
