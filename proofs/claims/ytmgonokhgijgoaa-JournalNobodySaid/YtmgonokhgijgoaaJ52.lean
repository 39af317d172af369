/- A journal that no call made keeps nothing; on no disk there is none: walked. -/
import Derived.Test.YtmgonokhgijgoaaJ51
namespace Go.Proofs.Ytmgonokhgijgoaa
open Go.RowKit
set_option maxRecDepth 100000
set_option linter.unusedSimpArgs false
set_option linter.unusedVariables false

set_option maxHeartbeats 1000000 in
theorem journalNobody_any (A : Option Addr) (n c : Nat) (w : World) : Calls Try.prog 10 #[.slice A n c] w fun e w' => e = .returned (.bool true) ∧ Below w.heap.size w w' := by
  have HLv := Lib.hid jn_lives
  by_cases hn : 1000 < n
  · have hn' : (1000 : Int) < (n : Int) := by omega
    go_enter Try.func10, Try.ntmps10
    go_wp2_with (first
      | (go_at_call 32; refine (HLv.out _).mono ?_; rintro e w1 ⟨rfl, hb1⟩; have HB1 := Lib.hid hb1; clear hb1))
    go_ret
    exact ⟨rfl, HB1.out⟩
  · have hn' : ¬ (1000 : Int) < (n : Int) := by omega
    clear hn
    obtain ⟨W0, hW0⟩ : ∃ W0, W0 = (w.alloc (.cells #[.pointer none, .int .i64 0, .bool false, .int .i64 0] 86)).alloc (.cells #[.pointer none, .pointer (some ⟨w.heap.size, 0, none⟩)] 66) := ⟨_, rfl⟩
    go_enter Try.func10, Try.ntmps10
    go_wp2
    rw [← hW0]
    have e1 := heap_alloc_new w (.cells #[.pointer none, .int .i64 0, .bool false, .int .i64 0] 86)
    have e2 := heap_alloc_new (w.alloc (.cells #[.pointer none, .int .i64 0, .bool false, .int .i64 0] 86)) (.cells #[.pointer none, .pointer (some ⟨w.heap.size, 0, none⟩)] 66)
    have b2 := below_alloc (w.alloc (.cells #[.pointer none, .int .i64 0, .bool false, .int .i64 0] 86)) (.cells #[.pointer none, .pointer (some ⟨w.heap.size, 0, none⟩)] 66)
    simp only [World.size_alloc] at e2
    have HB0 : Hid (Below w.heap.size w W0) := Lib.hid (by rw [hW0]; exact below_then (below_alloc _ _) b2)
    have HZ : Hid (W0.heap.size = w.heap.size + 2) := Lib.hid (by rw [hW0]; simp)
    have HC : Hid (W0.cell? ⟨w.heap.size, 0, none⟩ = some (.pointer none) ∧ W0.cell? ⟨w.heap.size + 1, 0, none⟩ = some (.pointer none) ∧ W0.cell? ⟨w.heap.size + 1, 1, none⟩ = some (.pointer (some ⟨w.heap.size, 0, none⟩))) := Lib.hid (by
      rw [hW0]
      exact ⟨cell_of_row _ _ 0 _ _ _ (heap_on b2 e1), cell_of_row _ _ 0 _ _ _ e2, cell_of_row _ _ 1 _ _ _ e2⟩)
    clear hW0 e1 e2 b2
    go_loopw [20] (fun i wr => ∃ k : Nat, k ≤ 2 ∧ i = .int .i64 (k : Nat) ∧ Hid (Below W0.heap.size W0 wr)) (fun i _ => roundsLeft 2 i)
    case atStart => exact ⟨0, by decide, rfl, Lib.hid (Below.refl _ _)⟩
    case round =>
      obtain ⟨k, hk, rfl, HBr⟩ := hrel
      have h0 := HC.out
      have c0 := cell_on HBr.out h0.1
      have s0 := cell_on HBr.out h0.2.1
      have s1 := cell_on HBr.out h0.2.2
      have hlt0 : w.heap.size < wr.heap.size := by have h1 := HBr.out.size; have h2 := HZ.out; omega
      clear h0
      rcases (show k = 0 ∨ k = 1 ∨ k = 2 by omega) with rfl | rfl | rfl
      · have HN : Hid (NoJ wr (.pointer none)) := Lib.hid (.inl rfl)
        go_wp2_with (first
          | (go_at_call 36; refine (nj_append _ _ A n c HN.out).mono ?_; rintro e w1 ⟨rfl, rfl⟩)
          | (go_at_call 38; refine (nj_len _ _ HN.out).mono ?_; rintro e w1 ⟨rfl, rfl⟩)
          | (go_at_call 39; refine (nj_tail _ _ HN.out).mono ?_; rintro e w1 ⟨rfl, rfl⟩)
          | (go_at_call 40; refine (nj_room _ _ HN.out).mono ?_; rintro e w1 ⟨rfl, rfl⟩)
          | (go_at_call 41; refine (nj_dead _ _ HN.out).mono ?_; rintro e w1 ⟨rfl, rfl⟩))
        go_roundw
        case rel => exact ⟨1, by decide, rfl, HBr⟩
        case measure => exact roundsLeft_next 2 0 (by decide)
      · have HN : Hid (NoJ wr (.pointer (some ⟨w.heap.size, 0, none⟩))) := Lib.hid (.inr ⟨_, rfl, hlt0, c0⟩)
        go_wp2_with (first
          | (go_at_call 36; refine (nj_append _ _ A n c HN.out).mono ?_; rintro e w1 ⟨rfl, rfl⟩)
          | (go_at_call 38; refine (nj_len _ _ HN.out).mono ?_; rintro e w1 ⟨rfl, rfl⟩)
          | (go_at_call 39; refine (nj_tail _ _ HN.out).mono ?_; rintro e w1 ⟨rfl, rfl⟩)
          | (go_at_call 40; refine (nj_room _ _ HN.out).mono ?_; rintro e w1 ⟨rfl, rfl⟩)
          | (go_at_call 41; refine (nj_dead _ _ HN.out).mono ?_; rintro e w1 ⟨rfl, rfl⟩))
        go_roundw
        case rel => exact ⟨2, by decide, rfl, HBr⟩
        case measure => exact roundsLeft_next 2 1 (by decide)
      · have HBw : Hid (Below w.heap.size w wr) := Lib.hid (HB0.out.trans (HBr.out.mono HB0.out.size))
        clear c0 s0 s1 hlt0
        go_wp2_with (first
          | (go_at_call 33; refine (jopen_none _).mono ?_; rintro e w1 ⟨rfl, rfl⟩)
          | (go_at_call 32; refine (HLv.out _).mono ?_; rintro e w6 ⟨rfl, hb6⟩; have HB6 := Lib.hid (HBw.out.trans (hb6.mono HBw.out.size)); clear hb6))
        go_ret
        exact ⟨rfl, HB6.out⟩
end Go.Proofs.Ytmgonokhgijgoaa
