/- The days that two spans have in common, as the document says it. -/
import Derived.Test.YtlnpflfkkjcopaaTlM
namespace Go.Proofs.Ytlnpflfkkjcopaa
open Go.RowKit
set_option maxRecDepth 100000

theorem results_span3 {fn : Func} {p q : Tmp} (h : fn.results = #[.cell p 29, .tmp q]) (tmps : Array Value) (W : World) (g : Nat) (a b c : Int) (v : Value) (hp : tmps.getD p undef = .pointer (some ⟨g, 0, none⟩)) (hq : tmps.getD q undef = v) (hc : W.rangeAt g 0 [.int .i64 a, .int .i64 b, .int .i64 c]) :
    (results fn tmps).run Try.prog W = .ok (.tuple #[.agg #[.int .i64 a, .int .i64 b, .int .i64 c], v]) W := by
  have c0 : W.cell? ⟨g, 0, none⟩ = some (.int .i64 a) := hc 0 _ rfl
  have c1 : W.cell? ⟨g, 1, none⟩ = some (.int .i64 b) := by simpa using hc 1 _ rfl
  have c2 : W.cell? ⟨g, 2, none⟩ = some (.int .i64 c) := by simpa using hc 2 _ rfl
  have hp' : tmps[p]?.getD undef = .pointer (some ⟨g, 0, none⟩) := by simpa [Array.getD_eq_getD_getElem?] using hp
  have hq' : tmps[q]?.getD undef = v := by simpa [Array.getD_eq_getD_getElem?] using hq
  simp [results, h, hp', hq', go_sem, c0, c1, c2]
theorem range3 {W : World} {g : Nat} {a b c : Value} {t : TypeId} (h : W.heap[g]? = some (.cells #[a, b, c] t (0, 0))) : W.rangeAt g 0 [a, b, c] := fun j v hv => by
  match j with
  | 0 => simp at hv; subst hv; rw [cell_of_row W g 0 _ _ _ h]; rfl
  | 1 => simp at hv; subst hv; rw [cell_of_row W g 1 _ _ _ h]; rfl
  | 2 => simp at hv; subst hv; rw [cell_of_row W g 2 _ _ _ h]; rfl
  | j + 3 => simp at hv
theorem new3 (w : World) (a b o : Obj) : (((w.alloc a).alloc b).alloc o).heap[w.heap.size + 1 + 1]? = some o := by
  have := heap_alloc_new ((w.alloc a).alloc b) o
  simp only [World.size_alloc] at this
  exact this
def boxes33 (w : World) (f u x g v y : Int) : World := (w.alloc (.cells #[.int .i64 f, .int .i64 u, .int .i64 x] 29)).alloc (.cells #[.int .i64 g, .int .i64 v, .int .i64 y] 29)
theorem box33 (w : World) (f u x g v y : Int) : ∀ o, Below w.heap.size w ((boxes33 w f u x g v y).alloc o) := fun _ => below_then (below_then (below_alloc _ _) (below_alloc _ _)) (below_alloc _ _)

set_option maxHeartbeats 1000000 in
theorem rmeet_not1 (f u x g v y : Int) (w : World) (hA : decide (isSp f u) = false) : Calls Try.prog 18 #[.agg #[.int .i64 f, .int .i64 u, .int .i64 x], .agg #[.int .i64 g, .int .i64 v, .int .i64 y]] w fun e w' => e = .returned (.tuple #[.agg #[.int .i64 0, .int .i64 0, .int .i64 0], .bool false]) ∧ Below w.heap.size w w' := by
  have HA := Lib.hid (fun W => right_at hA W)
  clear hA
  have HB := Lib.hid (box33 w f u x g v y)
  unfold boxes33 at HB
  go_enter Try.func18, Try.ntmps18
  go_wp2_with (go_at_call 42; refine (HA.out _).mono ?_; rintro e w1 ⟨rfl, rfl⟩; refine Stop.out ?_)
  unfold Stop
  go_wp2
  refine bodyPost_ret (results_span3 rfl _ _ _ _ _ _ _ rfl rfl ?_) rfl ⟨rfl, ?_⟩
  · exact range3 (new3 _ _ _ _)
  · exact HB.out _
set_option maxHeartbeats 1000000 in
theorem rmeet_not2 (f u x g v y : Int) (w : World) (hA : decide (isSp f u) = true) (hB : decide (isSp g v) = false) : Calls Try.prog 18 #[.agg #[.int .i64 f, .int .i64 u, .int .i64 x], .agg #[.int .i64 g, .int .i64 v, .int .i64 y]] w fun e w' => e = .returned (.tuple #[.agg #[.int .i64 0, .int .i64 0, .int .i64 0], .bool false]) ∧ Below w.heap.size w w' := by
  have HA := Lib.hid (fun W => right_at hA W)
  have HBB := Lib.hid (fun W => right_at hB W)
  clear hA hB
  have HB := Lib.hid (box33 w f u x g v y)
  unfold boxes33 at HB
  go_enter Try.func18, Try.ntmps18
  go_wp2_with (go_at_call 42; refine (HA.out _).mono ?_; rintro e w1 ⟨rfl, rfl⟩; refine Stop.out ?_)
  unfold Stop
  go_wp2_with (go_at_call 42; refine (HBB.out _).mono ?_; rintro e w1 ⟨rfl, rfl⟩; refine Stop.out ?_)
  unfold Stop
  go_wp2
  refine bodyPost_ret (results_span3 rfl _ _ _ _ _ _ _ rfl rfl ?_) rfl ⟨rfl, ?_⟩
  · exact range3 (new3 _ _ _ _)
  · exact HB.out _
set_option maxHeartbeats 1000000 in
theorem rmeet_not3 (f u x g v y : Int) (w : World) (hA : decide (isSp f u) = true) (hB : decide (isSp g v) = true) (h : v < f) : Calls Try.prog 18 #[.agg #[.int .i64 f, .int .i64 u, .int .i64 x], .agg #[.int .i64 g, .int .i64 v, .int .i64 y]] w fun e w' => e = .returned (.tuple #[.agg #[.int .i64 0, .int .i64 0, .int .i64 0], .bool false]) ∧ Below w.heap.size w w' := by
  have HA := Lib.hid (fun W => right_at hA W)
  have HBB := Lib.hid (fun W => right_at hB W)
  clear hA hB
  have HB := Lib.hid (box33 w f u x g v y)
  unfold boxes33 at HB
  go_enter Try.func18, Try.ntmps18
  go_wp2_with (go_at_call 42; refine (HA.out _).mono ?_; rintro e w1 ⟨rfl, rfl⟩; refine Stop.out ?_)
  unfold Stop
  go_wp2_with (go_at_call 42; refine (HBB.out _).mono ?_; rintro e w1 ⟨rfl, rfl⟩; refine Stop.out ?_)
  unfold Stop
  go_wp2
  refine bodyPost_ret (results_span3 rfl _ _ _ _ _ _ _ rfl rfl ?_) rfl ⟨rfl, ?_⟩
  · exact range3 (new3 _ _ _ _)
  · exact HB.out _
set_option maxHeartbeats 1000000 in
theorem rmeet_not4 (f u x g v y : Int) (w : World) (hA : decide (isSp f u) = true) (hB : decide (isSp g v) = true) (h : ¬ v < f) (h' : u < g) : Calls Try.prog 18 #[.agg #[.int .i64 f, .int .i64 u, .int .i64 x], .agg #[.int .i64 g, .int .i64 v, .int .i64 y]] w fun e w' => e = .returned (.tuple #[.agg #[.int .i64 0, .int .i64 0, .int .i64 0], .bool false]) ∧ Below w.heap.size w w' := by
  have HA := Lib.hid (fun W => right_at hA W)
  have HBB := Lib.hid (fun W => right_at hB W)
  clear hA hB
  have HB := Lib.hid (box33 w f u x g v y)
  unfold boxes33 at HB
  go_enter Try.func18, Try.ntmps18
  go_wp2_with (go_at_call 42; refine (HA.out _).mono ?_; rintro e w1 ⟨rfl, rfl⟩; refine Stop.out ?_)
  unfold Stop
  go_wp2_with (go_at_call 42; refine (HBB.out _).mono ?_; rintro e w1 ⟨rfl, rfl⟩; refine Stop.out ?_)
  unfold Stop
  go_wp2
  refine bodyPost_ret (results_span3 rfl _ _ _ _ _ _ _ rfl rfl ?_) rfl ⟨rfl, ?_⟩
  · exact range3 (new3 _ _ _ _)
  · exact HB.out _
set_option maxHeartbeats 1000000 in
theorem rmeet_yes (f u x g v y : Int) (w : World) (hA : decide (isSp f u) = true) (hB : decide (isSp g v) = true) (h : ¬ v < f) (h' : ¬ u < g) : Calls Try.prog 18 #[.agg #[.int .i64 f, .int .i64 u, .int .i64 x], .agg #[.int .i64 g, .int .i64 v, .int .i64 y]] w fun e w' => e = .returned (.tuple #[.agg #[.int .i64 (max f g), .int .i64 (min u v), .int .i64 0], .bool true]) ∧ Below w.heap.size w w' := by
  have HA := Lib.hid (fun W => right_at hA W)
  have HBB := Lib.hid (fun W => right_at hB W)
  clear hA hB
  have HB := Lib.hid (box33 w f u x g v y)
  unfold boxes33 at HB
  go_enter Try.func18, Try.ntmps18
  go_wp2_with (go_at_call 42; refine (HA.out _).mono ?_; rintro e w1 ⟨rfl, rfl⟩; refine Stop.out ?_)
  unfold Stop
  go_wp2_with (go_at_call 42; refine (HBB.out _).mono ?_; rintro e w1 ⟨rfl, rfl⟩; refine Stop.out ?_)
  unfold Stop
  go_wp2
  refine bodyPost_ret (results_span3 rfl _ _ _ _ _ _ _ rfl rfl ?_) rfl ⟨rfl, ?_⟩
  · exact range3 (new3 _ _ _ _)
  · exact HB.out _
theorem ref_meet (f u x g v y : Int) (w : World) : Calls Try.prog 18 #[.agg #[.int .i64 f, .int .i64 u, .int .i64 x], .agg #[.int .i64 g, .int .i64 v, .int .i64 y]] w fun e w' => e = .returned (.tuple #[.agg #[.int .i64 (meetF f u g v), .int .i64 (meetU f u g v), .int .i64 0], .bool (meetB f u g v)]) ∧ Below w.heap.size w w' := by
  have no : meetB f u g v = false → meetF f u g v = 0 ∧ meetU f u g v = 0 := fun h => by unfold meetF meetU; rw [h]; exact ⟨rfl, rfl⟩
  by_cases h1 : isSp f u
  · by_cases h2 : isSp g v
    · by_cases h3 : v < f
      · have hb : meetB f u g v = false := decide_eq_false (fun h => by have := h.2.2.2; omega)
        rw [(no hb).1, (no hb).2, hb]
        exact rmeet_not3 f u x g v y w (decide_eq_true h1) (decide_eq_true h2) h3
      · by_cases h4 : u < g
        · have hb : meetB f u g v = false := decide_eq_false (fun h => by have := h.2.2.1; omega)
          rw [(no hb).1, (no hb).2, hb]
          exact rmeet_not4 f u x g v y w (decide_eq_true h1) (decide_eq_true h2) h3 h4
        · have hb : meetB f u g v = true := decide_eq_true ⟨h1, h2, by omega, by omega⟩
          have e1 : meetF f u g v = hiN f g := by unfold meetF; rw [hb]; rfl
          have e2 : meetU f u g v = loN u v := by unfold meetU; rw [hb]; rfl
          rw [hb, e1, e2, show hiN f g = max f g by unfold hiN; split <;> omega, show loN u v = min u v by unfold loN; split <;> omega]
          exact rmeet_yes f u x g v y w (decide_eq_true h1) (decide_eq_true h2) h3 h4
    · have hb : meetB f u g v = false := decide_eq_false (fun h => h2 h.2.1)
      rw [(no hb).1, (no hb).2, hb]
      exact rmeet_not2 f u x g v y w (decide_eq_true h1) (decide_eq_false h2)
  · have hb : meetB f u g v = false := decide_eq_false (fun h => h1 h.1)
    rw [(no hb).1, (no hb).2, hb]
    exact rmeet_not1 f u x g v y w (decide_eq_false h1)
/-- either way round -/
theorem hiN_comm (f g : Int) : hiN f g = hiN g f := by unfold hiN; split <;> split <;> omega
theorem loN_comm (f g : Int) : loN f g = loN g f := by unfold loN; split <;> split <;> omega
theorem meetB_comm (f u g v : Int) : meetB f u g v = meetB g v f u := by
  unfold meetB
  rw [decide_eq_decide]
  unfold meets
  constructor <;> intro h <;> exact ⟨h.2.1, h.1, h.2.2.2, h.2.2.1⟩
theorem meetF_comm (f u g v : Int) : meetF f u g v = meetF g v f u := by unfold meetF; rw [meetB_comm f u, hiN_comm f]
theorem meetU_comm (f u g v : Int) : meetU f u g v = meetU g v f u := by unfold meetU; rw [meetB_comm f u, loN_comm u]
end Go.Proofs.Ytlnpflfkkjcopaa
