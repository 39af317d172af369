/- The statement on rates that no call made, walked. -/
import Derived.Test.YtlnpflfkkjcopaaRtI
namespace Go.Proofs.Ytlnpflfkkjcopaa
open Go.RowKit
set_option maxRecDepth 100000

theorem rclone_not (p : Value) (w : World) (hmade : Calls Try.prog 44 #[p] w fun e w' => e = .returned (.bool false) ∧ w = w') : Calls Try.prog 25 #[p] w fun e w' => e = .returned (.pointer none) ∧ w = w' := by
  have HMade := Lib.hid hmade
  clear hmade
  go_enter Try.func25, Try.ntmps25
  go_wp2_with (go_at_call 44; refine HMade.out.mono ?_; rintro e w1 ⟨rfl, rfl⟩)
  go_ret
  exact ⟨rfl, rfl⟩
theorem rlen_not (p : Value) (w : World) (hmade : Calls Try.prog 44 #[p] w fun e w' => e = .returned (.bool false) ∧ w = w') : Calls Try.prog 27 #[p] w fun e w' => e = .returned (.int .i64 0) ∧ w = w' := by
  have HMade := Lib.hid hmade
  clear hmade
  go_enter Try.func27, Try.ntmps27
  go_wp2_with (go_at_call 44; refine HMade.out.mono ?_; rintro e w1 ⟨rfl, rfl⟩)
  go_ret
  exact ⟨rfl, rfl⟩
theorem rstates_not (p : Value) (w : World) (hmade : Calls Try.prog 44 #[p] w fun e w' => e = .returned (.bool false) ∧ w = w') : Calls Try.prog 32 #[p] w fun e w' => e = .returned (.slice none 0 0) ∧ w = w' := by
  have HMade := Lib.hid hmade
  clear hmade
  go_enter Try.func32, Try.ntmps32
  go_wp2_with (go_at_call 44; refine HMade.out.mono ?_; rintro e w1 ⟨rfl, rfl⟩)
  go_ret
  exact ⟨rfl, rfl⟩
theorem nobody_long (s : ByteArray) (c d : Int) (w : World) (hM : MaxL w) (hl : 100 < s.size) : Calls Try.prog 8 #[.agg #[.string s, .int .i64 c, .int .i64 d]] w fun e w' => e = .returned (.bool true) ∧ Below w.heap.size w w' := by
  have hl' : (100 : Int) < (s.size : Int) := by omega
  have HB := Lib.hid (fun o => below_alloc w o)
  have HL := Lib.hid (fun o => rt_lives (w.alloc o) (hM.below (below_alloc w o) (Nat.le_refl _)))
  clear hM
  go_enter Try.func8, Try.ntmps8
  go_wp2_with (go_at_call 23; refine (HL.out _).mono ?_; rintro e w9 ⟨rfl, hb⟩; have HZ := Lib.hid (below_then (HB.out _) hb); clear hb)
  go_ret
  exact ⟨rfl, HZ.out⟩
/-- what the statement's own boxes hold -/
def NbI (w : World) (s : ByteArray) (c d : Int) (W : World) : Prop :=
  W.heap[w.heap.size]? = some (.cells #[.string s, .int .i64 c, .int .i64 d] 51 (0, 0)) ∧ W.heap[w.heap.size + 1]? = some (.cells #[.map none] 71 (0, 0)) ∧
  W.heap[w.heap.size + 1 + 1]? = some (.cells #[.pointer none, .pointer (some ⟨w.heap.size + 1, 0, none⟩)] 53 (0, 0)) ∧ Below w.heap.size w W
theorem NbI.on {w W V : World} {s : ByteArray} {c d : Int} (h : NbI w s c d W) (hb : Below W.heap.size W V) : NbI w s c d V := ⟨heap_on hb h.1, heap_on hb h.2.1, heap_on hb h.2.2.1, below_then h.2.2.2 hb⟩
theorem nbI (w : World) (s : ByteArray) (c d : Int) : NbI w s c d (((w.alloc (.cells #[.string s, .int .i64 c, .int .i64 d] 51)).alloc (.cells #[.map none] 71)).alloc (.cells #[.pointer none, .pointer (some ⟨w.heap.size + 1, 0, none⟩)] 53)) := by
  have e1 := heap_alloc_new w (.cells #[.string s, .int .i64 c, .int .i64 d] 51)
  have e2 := heap_alloc_new (w.alloc (.cells #[.string s, .int .i64 c, .int .i64 d] 51)) (.cells #[.map none] 71)
  have e3 := heap_alloc_new ((w.alloc (.cells #[.string s, .int .i64 c, .int .i64 d] 51)).alloc (.cells #[.map none] 71)) (.cells #[.pointer none, .pointer (some ⟨w.heap.size + 1, 0, none⟩)] 53)
  simp only [World.size_alloc] at e2 e3
  exact ⟨heap_on (below_alloc _ _) (heap_on (below_alloc _ _) e1), heap_on (below_alloc _ _) e2, e3, below_then (below_alloc _ _) (below_then (below_alloc _ _) (below_alloc _ _))⟩
/-- what the row's places hold is not made -/
theorem nb_at {w W : World} {s : ByteArray} {c d : Int} (h : NbI w s c d W) (k : Nat) (hk : k < 2) : ∃ p, W.cell? ⟨w.heap.size + 1 + 1, k, none⟩ = some p ∧ ∀ V, Below W.heap.size W V → Calls Try.prog 44 #[p] V fun e w' => e = .returned (.bool false) ∧ V = w' := by
  obtain ⟨c0, c1, _, _⟩ := row2 h.2.2.1
  match k, hk with
  | 0, _ => exact ⟨_, c0, fun V _ => code_rmade_nil V⟩
  | 1, _ => exact ⟨_, c1, fun V hV => code_rmade_bare V _ (one_cell (heap_on hV h.2.1)).1⟩
set_option maxHeartbeats 1000000 in
theorem nobody_in (s : ByteArray) (c d : Int) (w : World) (hM : MaxL w) (hl : s.size ≤ 100) : Calls Try.prog 8 #[.agg #[.string s, .int .i64 c, .int .i64 d]] w fun e w' => e = .returned (.bool true) ∧ Below w.heap.size w w' := by
  have hl' : (s.size : Int) ≤ 100 := by omega
  have HM := Lib.hid hM
  have HI := Lib.hid (nbI w s c d)
  have HCl := Lib.hid (fun W => rclone_not (.pointer none) W (code_rmade_nil W))
  clear hM
  go_enter Try.func8, Try.ntmps8
  go_wp2_with (go_at_call 25; refine (HCl.out _).mono ?_; rintro e w9 ⟨rfl, rfl⟩)
  clear HCl
  go_loopw [21] (fun i wr => ∃ (k : Nat), k ≤ 2 ∧ i = .int .i64 k ∧ Hid (NbI w s c d wr)) (fun i _ => 2 - (intOf i).toNat)
  case atStart => exact ⟨0, by omega, rfl, HI⟩
  case round =>
    clear HI
    obtain ⟨k, hk, rfl, HI⟩ := hrel
    by_cases hlt : k < 2
    · have hlt' : (k : Int) < 2 := by omega
      obtain ⟨p, hp, hmade⟩ := nb_at HI.out k hlt
      have HOf := Lib.hid (fun V hb => rof_not p s c d V (hmade V hb))
      have HSt := Lib.hid (fun V (hb : Below wr.heap.size wr V) => rset_not p s c 0 0 1 V (fun W hW => hmade W (below_then hb hW)))
      have HLe := Lib.hid (fun V hb => rlen_not p V (hmade V hb))
      have HSs := Lib.hid (fun V hb => rstates_not p V (hmade V hb))
      have hb0 : wr.cell? ⟨w.heap.size, 0, none⟩ = some (.string s) ∧ wr.cell? ⟨w.heap.size, 1, none⟩ = some (.int .i64 c) ∧ wr.cell? ⟨w.heap.size, 2, none⟩ = some (.int .i64 d) := by
        have c0 := cell_of_row wr w.heap.size 0 _ _ _ HI.out.1
        have c1 := cell_of_row wr w.heap.size 1 _ _ _ HI.out.1
        have c2 := cell_of_row wr w.heap.size 2 _ _ _ HI.out.1
        exact ⟨c0, c1, c2⟩
      obtain ⟨a0, a1, a2⟩ := hb0
      clear hmade
      go_wp2_with (go_at_call 29; refine (HOf.out _ (below_same _)).mono ?_; rintro e w2 ⟨rfl, rfl⟩; refine Stop.out ?_)
      unfold Stop
      go_wp2_with (go_at_call 26; refine (HSt.out _ (below_same _)).mono ?_; rintro e w3 ⟨rfl, hb3⟩; have HB3 := Lib.hid hb3; clear hb3; refine Stop.out ?_)
      unfold Stop
      go_wp2_with (first | (go_at_call 27; refine (HLe.out _ HB3.out).mono ?_; rintro e w4 ⟨rfl, rfl⟩) | (go_at_call 32; refine (HSs.out _ HB3.out).mono ?_; rintro e w4 ⟨rfl, rfl⟩))
      go_roundw
      case rel => exact ⟨k + 1, by omega, by go_num, Lib.hid (HI.out.on HB3.out)⟩
      case measure => simp [intOf]; omega
    · obtain rfl : k = 2 := by omega
      go_wp2_with (go_at_call 23; refine (rt_lives _ (HM.out.below HI.out.2.2.2 (Nat.le_refl _))).mono ?_; rintro e w9 ⟨rfl, hb⟩; have HZ := Lib.hid (below_then HI.out.2.2.2 hb); clear hb; refine Stop.out ?_)
      unfold Stop
      go_wp2
      go_ret
      exact ⟨rfl, HZ.out⟩
theorem ratesNobody_any (s : ByteArray) (c d : Int) (w : World) (hM : MaxL w) : Calls Try.prog 8 #[.agg #[.string s, .int .i64 c, .int .i64 d]] w fun e w' => e = .returned (.bool true) ∧ Below w.heap.size w w' := by
  by_cases hl : s.size ≤ 100
  · exact nobody_in s c d w hM hl
  · exact nobody_long s c d w hM (by omega)
end Go.Proofs.Ytlnpflfkkjcopaa
