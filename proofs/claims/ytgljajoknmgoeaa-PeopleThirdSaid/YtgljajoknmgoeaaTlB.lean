/- The days that two spans have in common. -/
import Derived.Test.YtgljajoknmgoeaaTlA
namespace Go.Proofs.Ytgljajoknmgoeaa
open Go.RowKit
set_option maxRecDepth 100000

/-- three boxes for spans, one behind the other, and what is known of them later -/
def boxes3 (w : World) (f u g v : Int) : World := ((w.alloc (.cells #[.int .i64 f, .int .i64 u] 35)).alloc (.cells #[.int .i64 g, .int .i64 v] 35)).alloc (.cells #[.int .i64 0, .int .i64 0] 35)
def Box3 (w : World) (f u g v : Int) (W : World) : Prop :=
  W.heap[w.heap.size]? = some (.cells #[.int .i64 f, .int .i64 u] 35 (0, 0)) ∧ W.heap[w.heap.size + 1]? = some (.cells #[.int .i64 g, .int .i64 v] 35 (0, 0)) ∧
  W.heap[w.heap.size + 1 + 1]? = some (.cells #[.int .i64 0, .int .i64 0] 35 (0, 0)) ∧ Below w.heap.size w W
theorem Box3.on {w W V : World} {f u g v : Int} (h : Box3 w f u g v W) (hb : Below W.heap.size W V) : Box3 w f u g v V := ⟨heap_on hb h.1, heap_on hb h.2.1, heap_on hb h.2.2.1, below_then h.2.2.2 hb⟩
theorem box3 (w : World) (f u g v : Int) : Box3 w f u g v (boxes3 w f u g v) := by
  have e1 := heap_alloc_new w (.cells #[.int .i64 f, .int .i64 u] 35)
  have e2 := heap_alloc_new (w.alloc (.cells #[.int .i64 f, .int .i64 u] 35)) (.cells #[.int .i64 g, .int .i64 v] 35)
  have e3 := heap_alloc_new ((w.alloc (.cells #[.int .i64 f, .int .i64 u] 35)).alloc (.cells #[.int .i64 g, .int .i64 v] 35)) (.cells #[.int .i64 0, .int .i64 0] 35)
  simp only [World.size_alloc] at e2 e3
  exact ⟨heap_on (below_alloc _ _) (heap_on (below_alloc _ _) e1), heap_on (below_alloc _ _) e2, e3, below_then (below_alloc _ _) (below_then (below_alloc _ _) (below_alloc _ _))⟩
/-- two cells written, one behind the other -/
theorem cell_ne {W : World} {p q : Addr} {v : Value} (h : q ≠ p) : (W.setCell p v).cell? q = W.cell? q := World.cell?_setCell_other W p q v h.symm
theorem set2 {W : World} {g : Nat} {a b a' b' : Value} {t : TypeId} (h : W.heap[g]? = some (.cells #[a', b'] t (0, 0))) : ((W.setCell ⟨g, 0, none⟩ a).setCell ⟨g, 1, none⟩ b).rangeAt g 0 [a, b] := by
  obtain ⟨c0, c1, _, _⟩ := row2 h
  intro j v hv
  match j with
  | 0 =>
    simp at hv; subst hv
    exact (cell_ne (by simp)).trans (World.cell?_setCell_same' _ _ _ (by rw [c0]; rfl))
  | 1 =>
    simp at hv; subst hv
    refine World.cell?_setCell_same' _ _ _ ?_
    rw [(cell_ne (by simp)).trans c1]; rfl
  | j + 2 => simp at hv
theorem set2_below {w W : World} {g : Nat} {a b : Value} (hb : Below w.heap.size w W) (hg : w.heap.size ≤ g) : Below w.heap.size w ((W.setCell ⟨g, 0, none⟩ a).setCell ⟨g, 1, none⟩ b) := (hb.setCell (p := ⟨g, 0, none⟩) hg _).setCell (p := ⟨g, 1, none⟩) hg _

set_option maxHeartbeats 400000 in
theorem meet_not1 (f u g v : Int) (w : World) (hA : decide (isSp f u) = false) : Calls Try.prog 74 #[.agg #[.int .i64 f, .int .i64 u], .agg #[.int .i64 g, .int .i64 v]] w fun e w' => e = .returned (.tuple #[.agg #[.int .i64 0, .int .i64 0], .bool false]) ∧ Below w.heap.size w w' := by
  have HA := Lib.hid (fun W => is_at hA W)
  clear hA
  have HC := Lib.hid (fun W => code_common f u g v W)
  have HB := Lib.hid (box3 w f u g v)
  unfold boxes3 at HB
  go_enter Try.func74, Try.ntmps74
  go_wp2_with (go_at_call 73; refine (HC.out _).mono ?_; rintro e w1 ⟨rfl, hb⟩; have HB1 := Lib.hid (HB.out.on hb); obtain ⟨a0, a1, _, _⟩ := row2 HB1.out.1; obtain ⟨b0, b1, _, _⟩ := row2 HB1.out.2.1; have hz0 : w.heap.size < w1.heap.size := heapLt HB1.out.1; have hz1 : w.heap.size + 1 < w1.heap.size := heapLt HB1.out.2.1; have HM1 := Lib.hid (heap_alloc_new w1 (.cells #[.int .i64 (hiN f g), .int .i64 (loN u v)] 35)); clear hb; refine Stop.out ?_)
  unfold Stop
  go_wp2_with (go_at_call 57; refine (HA.out _).mono ?_; rintro e w2 ⟨rfl, hb⟩; have HB2 := Lib.hid ((HB1.out.on (below_alloc _ _)).on hb); have HM2 := Lib.hid (heap_on hb HM1.out); obtain ⟨a20, a21, _, _⟩ := row2 HB2.out.1; obtain ⟨b20, b21, _, _⟩ := row2 HB2.out.2.1; obtain ⟨c20, c21, f20, f21⟩ := row2 HB2.out.2.2.1; obtain ⟨m20, m21, _, _⟩ := row2 HM2.out; clear hb; refine Stop.out ?_)
  unfold Stop
  go_wp2
  exact bodyPost_ret (results_span2 rfl _ _ _ _ _ _ rfl rfl (set2 HB2.out.2.2.1)) rfl ⟨rfl, set2_below HB2.out.2.2.2 (by omega)⟩
set_option maxHeartbeats 400000 in
theorem meet_not2 (f u g v : Int) (w : World) (hA : decide (isSp f u) = true) (hB : decide (isSp g v) = false) : Calls Try.prog 74 #[.agg #[.int .i64 f, .int .i64 u], .agg #[.int .i64 g, .int .i64 v]] w fun e w' => e = .returned (.tuple #[.agg #[.int .i64 0, .int .i64 0], .bool false]) ∧ Below w.heap.size w w' := by
  have HA := Lib.hid (fun W => is_at hA W)
  have HBB := Lib.hid (fun W => is_at hB W)
  clear hA hB
  have HC := Lib.hid (fun W => code_common f u g v W)
  have HB := Lib.hid (box3 w f u g v)
  unfold boxes3 at HB
  go_enter Try.func74, Try.ntmps74
  go_wp2_with (go_at_call 73; refine (HC.out _).mono ?_; rintro e w1 ⟨rfl, hb⟩; have HB1 := Lib.hid (HB.out.on hb); obtain ⟨a0, a1, _, _⟩ := row2 HB1.out.1; obtain ⟨b0, b1, _, _⟩ := row2 HB1.out.2.1; have hz0 : w.heap.size < w1.heap.size := heapLt HB1.out.1; have hz1 : w.heap.size + 1 < w1.heap.size := heapLt HB1.out.2.1; have HM1 := Lib.hid (heap_alloc_new w1 (.cells #[.int .i64 (hiN f g), .int .i64 (loN u v)] 35)); clear hb; refine Stop.out ?_)
  unfold Stop
  go_wp2_with (go_at_call 57; refine (HA.out _).mono ?_; rintro e w2 ⟨rfl, hb⟩; have HB2 := Lib.hid ((HB1.out.on (below_alloc _ _)).on hb); have HM2 := Lib.hid (heap_on hb HM1.out); obtain ⟨a20, a21, _, _⟩ := row2 HB2.out.1; obtain ⟨b20, b21, _, _⟩ := row2 HB2.out.2.1; obtain ⟨c20, c21, f20, f21⟩ := row2 HB2.out.2.2.1; obtain ⟨m20, m21, _, _⟩ := row2 HM2.out; clear hb; refine Stop.out ?_)
  unfold Stop
  go_wp2_with (go_at_call 57; refine (HBB.out _).mono ?_; rintro e w3 ⟨rfl, hb⟩; have HB3 := Lib.hid (HB2.out.on hb); have HM3 := Lib.hid (heap_on hb HM2.out); obtain ⟨a30, a31, _, _⟩ := row2 HB3.out.1; obtain ⟨b30, b31, _, _⟩ := row2 HB3.out.2.1; obtain ⟨c30, c31, f30, f31⟩ := row2 HB3.out.2.2.1; obtain ⟨m30, m31, _, _⟩ := row2 HM3.out; clear hb; refine Stop.out ?_)
  unfold Stop
  go_wp2
  exact bodyPost_ret (results_span2 rfl _ _ _ _ _ _ rfl rfl (set2 HB3.out.2.2.1)) rfl ⟨rfl, set2_below HB3.out.2.2.2 (by omega)⟩
set_option maxHeartbeats 400000 in
theorem meet_not3 (f u g v : Int) (w : World) (hA : decide (isSp f u) = true) (hB : decide (isSp g v) = true) (hM : decide (isSp (hiN f g) (loN u v)) = false) : Calls Try.prog 74 #[.agg #[.int .i64 f, .int .i64 u], .agg #[.int .i64 g, .int .i64 v]] w fun e w' => e = .returned (.tuple #[.agg #[.int .i64 0, .int .i64 0], .bool false]) ∧ Below w.heap.size w w' := by
  have HA := Lib.hid (fun W => is_at hA W)
  have HBB := Lib.hid (fun W => is_at hB W)
  have HM := Lib.hid (fun W => is_at hM W)
  clear hA hB hM
  have HC := Lib.hid (fun W => code_common f u g v W)
  have HB := Lib.hid (box3 w f u g v)
  unfold boxes3 at HB
  go_enter Try.func74, Try.ntmps74
  go_wp2_with (go_at_call 73; refine (HC.out _).mono ?_; rintro e w1 ⟨rfl, hb⟩; have HB1 := Lib.hid (HB.out.on hb); obtain ⟨a0, a1, _, _⟩ := row2 HB1.out.1; obtain ⟨b0, b1, _, _⟩ := row2 HB1.out.2.1; have hz0 : w.heap.size < w1.heap.size := heapLt HB1.out.1; have hz1 : w.heap.size + 1 < w1.heap.size := heapLt HB1.out.2.1; have HM1 := Lib.hid (heap_alloc_new w1 (.cells #[.int .i64 (hiN f g), .int .i64 (loN u v)] 35)); clear hb; refine Stop.out ?_)
  unfold Stop
  go_wp2_with (go_at_call 57; refine (HA.out _).mono ?_; rintro e w2 ⟨rfl, hb⟩; have HB2 := Lib.hid ((HB1.out.on (below_alloc _ _)).on hb); have HM2 := Lib.hid (heap_on hb HM1.out); obtain ⟨a20, a21, _, _⟩ := row2 HB2.out.1; obtain ⟨b20, b21, _, _⟩ := row2 HB2.out.2.1; obtain ⟨c20, c21, f20, f21⟩ := row2 HB2.out.2.2.1; obtain ⟨m20, m21, _, _⟩ := row2 HM2.out; clear hb; refine Stop.out ?_)
  unfold Stop
  go_wp2_with (go_at_call 57; refine (HBB.out _).mono ?_; rintro e w3 ⟨rfl, hb⟩; have HB3 := Lib.hid (HB2.out.on hb); have HM3 := Lib.hid (heap_on hb HM2.out); obtain ⟨a30, a31, _, _⟩ := row2 HB3.out.1; obtain ⟨b30, b31, _, _⟩ := row2 HB3.out.2.1; obtain ⟨c30, c31, f30, f31⟩ := row2 HB3.out.2.2.1; obtain ⟨m30, m31, _, _⟩ := row2 HM3.out; clear hb; refine Stop.out ?_)
  unfold Stop
  go_wp2_with (go_at_call 57; refine (HM.out _).mono ?_; rintro e w4 ⟨rfl, hb⟩; have HB4 := Lib.hid (HB3.out.on hb); have HM4 := Lib.hid (heap_on hb HM3.out); obtain ⟨a40, a41, _, _⟩ := row2 HB4.out.1; obtain ⟨b40, b41, _, _⟩ := row2 HB4.out.2.1; obtain ⟨c40, c41, f40, f41⟩ := row2 HB4.out.2.2.1; obtain ⟨m40, m41, _, _⟩ := row2 HM4.out; clear hb; refine Stop.out ?_)
  unfold Stop
  go_wp2
  exact bodyPost_ret (results_span2 rfl _ _ _ _ _ _ rfl rfl (set2 HB4.out.2.2.1)) rfl ⟨rfl, set2_below HB4.out.2.2.2 (by omega)⟩
set_option maxHeartbeats 400000 in
theorem meet_yes (f u g v : Int) (w : World) (hA : decide (isSp f u) = true) (hB : decide (isSp g v) = true) (hM : decide (isSp (hiN f g) (loN u v)) = true) : Calls Try.prog 74 #[.agg #[.int .i64 f, .int .i64 u], .agg #[.int .i64 g, .int .i64 v]] w fun e w' => e = .returned (.tuple #[.agg #[.int .i64 (hiN f g), .int .i64 (loN u v)], .bool true]) ∧ Below w.heap.size w w' := by
  have HA := Lib.hid (fun W => is_at hA W)
  have HBB := Lib.hid (fun W => is_at hB W)
  have HM := Lib.hid (fun W => is_at hM W)
  clear hA hB hM
  have HC := Lib.hid (fun W => code_common f u g v W)
  have HB := Lib.hid (box3 w f u g v)
  unfold boxes3 at HB
  go_enter Try.func74, Try.ntmps74
  go_wp2_with (go_at_call 73; refine (HC.out _).mono ?_; rintro e w1 ⟨rfl, hb⟩; have HB1 := Lib.hid (HB.out.on hb); obtain ⟨a0, a1, _, _⟩ := row2 HB1.out.1; obtain ⟨b0, b1, _, _⟩ := row2 HB1.out.2.1; have hz0 : w.heap.size < w1.heap.size := heapLt HB1.out.1; have hz1 : w.heap.size + 1 < w1.heap.size := heapLt HB1.out.2.1; have HM1 := Lib.hid (heap_alloc_new w1 (.cells #[.int .i64 (hiN f g), .int .i64 (loN u v)] 35)); clear hb; refine Stop.out ?_)
  unfold Stop
  go_wp2_with (go_at_call 57; refine (HA.out _).mono ?_; rintro e w2 ⟨rfl, hb⟩; have HB2 := Lib.hid ((HB1.out.on (below_alloc _ _)).on hb); have HM2 := Lib.hid (heap_on hb HM1.out); obtain ⟨a20, a21, _, _⟩ := row2 HB2.out.1; obtain ⟨b20, b21, _, _⟩ := row2 HB2.out.2.1; obtain ⟨c20, c21, f20, f21⟩ := row2 HB2.out.2.2.1; obtain ⟨m20, m21, _, _⟩ := row2 HM2.out; clear hb; refine Stop.out ?_)
  unfold Stop
  go_wp2_with (go_at_call 57; refine (HBB.out _).mono ?_; rintro e w3 ⟨rfl, hb⟩; have HB3 := Lib.hid (HB2.out.on hb); have HM3 := Lib.hid (heap_on hb HM2.out); obtain ⟨a30, a31, _, _⟩ := row2 HB3.out.1; obtain ⟨b30, b31, _, _⟩ := row2 HB3.out.2.1; obtain ⟨c30, c31, f30, f31⟩ := row2 HB3.out.2.2.1; obtain ⟨m30, m31, _, _⟩ := row2 HM3.out; clear hb; refine Stop.out ?_)
  unfold Stop
  go_wp2_with (go_at_call 57; refine (HM.out _).mono ?_; rintro e w4 ⟨rfl, hb⟩; have HB4 := Lib.hid (HB3.out.on hb); have HM4 := Lib.hid (heap_on hb HM3.out); obtain ⟨a40, a41, _, _⟩ := row2 HB4.out.1; obtain ⟨b40, b41, _, _⟩ := row2 HB4.out.2.1; obtain ⟨c40, c41, f40, f41⟩ := row2 HB4.out.2.2.1; obtain ⟨m40, m41, _, _⟩ := row2 HM4.out; clear hb; refine Stop.out ?_)
  unfold Stop
  go_wp2
  exact bodyPost_ret (results_span2 rfl _ _ _ _ _ _ rfl rfl (set2 HB4.out.2.2.1)) rfl ⟨rfl, set2_below HB4.out.2.2.2 (by omega)⟩
/-- what 'Meet' answers -/
def meetB (f u g v : Int) : Bool := decide (meets f u g v)
def meetF (f u g v : Int) : Int := if meetB f u g v = true then hiN f g else 0
def meetU (f u g v : Int) : Int := if meetB f u g v = true then loN u v else 0
theorem meet_iff (f u g v : Int) : meets f u g v ↔ (isSp f u ∧ isSp g v ∧ isSp (hiN f g) (loN u v)) := by
  unfold meets isSp hiN loN
  split <;> split <;> constructor <;> intro h <;> omega
theorem code_meet (f u g v : Int) (w : World) : Calls Try.prog 74 #[.agg #[.int .i64 f, .int .i64 u], .agg #[.int .i64 g, .int .i64 v]] w fun e w' => e = .returned (.tuple #[.agg #[.int .i64 (meetF f u g v), .int .i64 (meetU f u g v)], .bool (meetB f u g v)]) ∧ Below w.heap.size w w' := by
  have hi := meet_iff f u g v
  have no : meetB f u g v = false → meetF f u g v = 0 ∧ meetU f u g v = 0 := fun h => by unfold meetF meetU; rw [h]; exact ⟨rfl, rfl⟩
  by_cases h1 : isSp f u
  · by_cases h2 : isSp g v
    · by_cases h3 : isSp (hiN f g) (loN u v)
      · have hb : meetB f u g v = true := decide_eq_true (hi.2 ⟨h1, h2, h3⟩)
        have e1 : meetF f u g v = hiN f g := by unfold meetF; rw [hb]; rfl
        have e2 : meetU f u g v = loN u v := by unfold meetU; rw [hb]; rfl
        rw [hb, e1, e2]
        exact meet_yes f u g v w (decide_eq_true h1) (decide_eq_true h2) (decide_eq_true h3)
      · have hb : meetB f u g v = false := decide_eq_false (fun h => h3 (hi.1 h).2.2)
        rw [(no hb).1, (no hb).2, hb]
        exact meet_not3 f u g v w (decide_eq_true h1) (decide_eq_true h2) (decide_eq_false h3)
    · have hb : meetB f u g v = false := decide_eq_false (fun h => h2 (hi.1 h).2.1)
      rw [(no hb).1, (no hb).2, hb]
      exact meet_not2 f u g v w (decide_eq_true h1) (decide_eq_false h2)
  · have hb : meetB f u g v = false := decide_eq_false (fun h => h1 (hi.1 h).1)
    rw [(no hb).1, (no hb).2, hb]
    exact meet_not1 f u g v w (decide_eq_false h1)
end Go.Proofs.Ytgljajoknmgoeaa
