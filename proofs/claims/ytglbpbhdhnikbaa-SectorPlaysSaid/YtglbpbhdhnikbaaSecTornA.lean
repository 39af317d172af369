/- The statement on a torn write, where it looks at nothing. -/
import Derived.Test.YtglbpbhdhnikbaaSecLives
import Derived.Test.YtglbpbhdhnikbaaSecAll
namespace Go.Proofs.Ytglbpbhdhnikbaa
open Go.RowKit
set_option maxRecDepth 100000

/-- the statement's own variables, laid -/
def boxes5 (w : World) (i torn X Y : Int) : World :=
  ((((w.alloc (.cells #[.int .i64 i] 3)).alloc (.cells #[.int .i64 torn] 3)).alloc (.cells #[.int .u8 X] 5)).alloc (.cells #[.int .u8 Y] 5)).alloc (.cells #[.bool false] 4)
theorem boxes5_below (w : World) (i torn X Y : Int) : Below w.heap.size w (boxes5 w i torn X Y) :=
  (((((Below.refl _ w).alloc (Nat.le_refl _) _).alloc (by simp) _).alloc (by simp <;> omega) _).alloc (by simp <;> omega) _).alloc (by simp <;> omega) _
theorem boxes5_size (w : World) (i torn X Y : Int) : (boxes5 w i torn X Y).heap.size = w.heap.size + 5 := by simp [boxes5]
theorem one_cell {W : World} {g : Nat} {v : Value} {t : TypeId} (h : W.heap[g]? = some (.cells #[v] t (0, 0))) : W.cell? ⟨g, 0, none⟩ = some v ∧ W.frozen? ⟨g, 0, none⟩ = false :=
  ⟨cell_of_row W g 0 _ _ _ h, frozen_of_row W g 0 _ _ h⟩
theorem box5 {w W : World} {i torn X Y : Int} (h : Below (w.heap.size + 5) (boxes5 w i torn X Y) W) :
    W.heap[w.heap.size]? = some (.cells #[.int .i64 i] 3 (0, 0)) ∧ W.heap[w.heap.size + 1]? = some (.cells #[.int .i64 torn] 3 (0, 0)) ∧ W.heap[w.heap.size + 1 + 1]? = some (.cells #[.int .u8 X] 5 (0, 0)) ∧
    W.heap[w.heap.size + 1 + 1 + 1]? = some (.cells #[.int .u8 Y] 5 (0, 0)) ∧ W.heap[w.heap.size + 1 + 1 + 1 + 1]? = some (.cells #[.bool false] 4 (0, 0)) := by
  have e1 := heap_alloc_new w (.cells #[.int .i64 i] 3)
  have e2 := heap_alloc_new (w.alloc (.cells #[.int .i64 i] 3)) (.cells #[.int .i64 torn] 3)
  have e3 := heap_alloc_new ((w.alloc (.cells #[.int .i64 i] 3)).alloc (.cells #[.int .i64 torn] 3)) (.cells #[.int .u8 X] 5)
  have e4 := heap_alloc_new (((w.alloc (.cells #[.int .i64 i] 3)).alloc (.cells #[.int .i64 torn] 3)).alloc (.cells #[.int .u8 X] 5)) (.cells #[.int .u8 Y] 5)
  have e5 := heap_alloc_new ((((w.alloc (.cells #[.int .i64 i] 3)).alloc (.cells #[.int .i64 torn] 3)).alloc (.cells #[.int .u8 X] 5)).alloc (.cells #[.int .u8 Y] 5)) (.cells #[.bool false] 4)
  simp only [World.size_alloc] at e1 e2 e3 e4 e5
  refine ⟨(h.block _ (by omega)).trans ?_, (h.block _ (by omega)).trans ?_, (h.block _ (by omega)).trans ?_, (h.block _ (by omega)).trans ?_, (h.block _ (by omega)).trans ?_⟩ <;> unfold boxes5
  · rw [Below.heap_alloc _ _ _ (by simp <;> omega), Below.heap_alloc _ _ _ (by simp <;> omega), Below.heap_alloc _ _ _ (by simp <;> omega), Below.heap_alloc _ _ _ (by simp)]; exact e1
  · rw [Below.heap_alloc _ _ _ (by simp <;> omega), Below.heap_alloc _ _ _ (by simp <;> omega), Below.heap_alloc _ _ _ (by simp)]; exact e2
  · rw [Below.heap_alloc _ _ _ (by simp <;> omega), Below.heap_alloc _ _ _ (by simp)]; exact e3
  · rw [Below.heap_alloc _ _ _ (by simp)]; exact e4
  · exact e5

theorem results_one_cell {fn : Func} {p : Tmp} {ty : TypeId} (h : fn.results = #[.cell p ty]) (tmps : Array Value) (W : World) (g : Nat) (v : Bool) (hp : tmps.getD p undef = .pointer (some ⟨g, 0, none⟩)) (hu : Try.prog.underlying ty = some .bool) (hc : W.cell? ⟨g, 0, none⟩ = some (.bool v)) :
    (results fn tmps).run Try.prog W = .ok (.bool v) W := by
  have hz : (isAgg ty).run Try.prog W = .ok false W := by
    unfold isAgg
    rw [Sem.run_bind, run_underlying hu W]
    rfl
  have hp' : tmps[p]?.getD undef = .pointer (some ⟨g, 0, none⟩) := by simpa [Array.getD_eq_getD_getElem?] using hp
  simp [results, h, hp', go_sem, loadVar, hz, hc]

set_option maxHeartbeats 2000000 in
theorem torn_out (many i after torn : Int) (a b : UInt8) (w : World) (h : (many < 1) ∨ (1 ≤ many ∧ 40 < many) ∨ (1 ≤ many ∧ many ≤ 40 ∧ i < 0) ∨ (1 ≤ many ∧ many ≤ 40 ∧ 0 ≤ i ∧ many ≤ i) ∨ (1 ≤ many ∧ many ≤ 40 ∧ 0 ≤ i ∧ i < many ∧ after < 0) ∨ (1 ≤ many ∧ many ≤ 40 ∧ 0 ≤ i ∧ i < many ∧ 0 ≤ after ∧ 40 < after) ∨ (1 ≤ many ∧ many ≤ 40 ∧ 0 ≤ i ∧ i < many ∧ 0 ≤ after ∧ after ≤ 40 ∧ torn < 0) ∨ (1 ≤ many ∧ many ≤ 40 ∧ 0 ≤ i ∧ i < many ∧ 0 ≤ after ∧ after ≤ 40 ∧ 0 ≤ torn ∧ 64 < torn)) :
    Calls Try.prog 5 #[.int .i64 many, .int .i64 i, .int .i64 after, .int .i64 torn, .int .u8 a.toNat, .int .u8 b.toNat] w fun e w' => e = .returned (.bool true) ∧ Below w.heap.size w w' := by
  generalize (a.toNat : Int) = X
  generalize (b.toNat : Int) = Y
  have HL : Hid (Calls Try.prog 16 #[] (boxes5 w i torn X Y) fun e w' => e = .returned (.bool true) ∧ Below (w.heap.size + 5) (boxes5 w i torn X Y) w') := Lib.hid (by
    have := sec_lives (boxes5 w i torn X Y)
    rw [boxes5_size] at this
    exact this)
  rcases h with h1 | ⟨h1, h2⟩ | ⟨h1, h2, h3⟩ | ⟨h1, h2, h3, h4⟩ | ⟨h1, h2, h3, h4, h5⟩ | ⟨h1, h2, h3, h4, h5, h6⟩ | ⟨h1, h2, h3, h4, h5, h6, h7⟩ | ⟨h1, h2, h3, h4, h5, h6, h7, h8⟩
  all_goals
    go_enter Try.func5, Try.ntmps5
    go_wp2_with (go_at_call 16; refine HL.out.mono ?_; rintro e w6 ⟨rfl, hb6⟩; obtain ⟨_, _, _, _, x4⟩ := box5 hb6; obtain ⟨y4, z4⟩ := one_cell x4; have HB := Lib.hid hb6; have HX := Lib.hid x4; clear hb6 x4)
    refine bodyPost_ret (results_one_cell rfl _ _ _ true rfl (by kernel_rfl) (World.cell?_setCell_same' _ _ _ (by rw [y4]; rfl))) rfl ⟨rfl, ?_⟩
    exact ((boxes5_below w i torn X Y).trans (HB.out.mono (by omega))).setCell (p := ⟨w.heap.size + 1 + 1 + 1 + 1, 0, none⟩) (by simp <;> omega) _
end Go.Proofs.Ytglbpbhdhnikbaa
