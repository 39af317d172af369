/- The statement on people that no call made, walked. -/
import Derived.Test.YtgljajoknmgoeaaPpL
namespace Go.Proofs.Ytgljajoknmgoeaa
open Go.RowKit
set_option maxRecDepth 100000

/-- what the statement's own boxes hold -/
def NbI (w : World) (x : OpP) (W : World) : Prop :=
  W.heap[w.heap.size]? = some (.cells #[.int .i64 x.1, .string x.2.1, .string x.2.2.1, .int .i64 x.2.2.2.1, .int .i64 x.2.2.2.2.1, .int .i64 x.2.2.2.2.2] 26 (0, 0)) ∧ Below w.heap.size w W
theorem NbI.on {w W V : World} {x : OpP} (h : NbI w x W) (hb : Below W.heap.size W V) : NbI w x V := ⟨heap_on hb h.1, below_then h.2 hb⟩
/-- and behind it the row of the two that no call made -/
def NbR (p : Nat) (W : World) : Prop :=
  W.heap[p]? = some (.cells #[.pointer none, .string { data := #[] }, .map none] 45 (0, 0)) ∧ W.heap[p + 1]? = some (.cells #[.pointer none, .pointer (some ⟨p, 0, none⟩)] 30 (0, 0))
theorem NbR.on {p : Nat} {W V : World} (h : NbR p W) (hb : Below W.heap.size W V) : NbR p V := ⟨heap_on hb h.1, heap_on hb h.2⟩
theorem nbR (W : World) : NbR W.heap.size ((W.alloc (.cells #[.pointer none, .string { data := #[] }, .map none] 45)).alloc (.cells #[.pointer none, .pointer (some ⟨W.heap.size, 0, none⟩)] 30)) := by
  have e := heap_alloc_new (W.alloc (.cells #[.pointer none, .string { data := #[] }, .map none] 45)) (.cells #[.pointer none, .pointer (some ⟨W.heap.size, 0, none⟩)] 30)
  rw [World.size_alloc] at e
  exact ⟨heap_on (below_alloc _ _) (heap_alloc_new _ _), e⟩
/-- what the row's places hold is not made -/
theorem nb_at {p : Nat} {W : World} (h : NbR p W) (k : Nat) (hk : k < 2) : ∃ q, W.cell? ⟨p + 1, k, none⟩ = some q ∧ NotMade q W := by
  obtain ⟨c0, c1, _, _⟩ := row2 h.2
  match k, hk with
  | 0, _ => exact ⟨_, c0, fun V _ => code_pmade_nil V⟩
  | 1, _ => exact ⟨_, c1, fun V hV => code_pmade_bare V _ (row3a (heap_on hV h.1)).2.1⟩
set_option maxHeartbeats 1000000 in
theorem nobody_no (x : OpP) (w : World) (hM : MaxL w) (hV : lightB [] x = false) : Calls Try.prog 4 #[.agg #[.int .i64 x.1, .string x.2.1, .string x.2.2.1, .int .i64 x.2.2.2.1, .int .i64 x.2.2.2.2.1, .int .i64 x.2.2.2.2.2]] w fun e w' => e = .returned (.bool true) ∧ Below w.heap.size w w' := by
  have HI : Hid (∀ o, Below w.heap.size w (w.alloc o)) := Lib.hid (fun o => below_alloc w o)
  have HM := Lib.hid hM
  have HL : Hid (∀ W, Calls Try.prog 5 #[.slice none 0 0, .agg #[.int .i64 x.1, .string x.2.1, .string x.2.2.1, .int .i64 x.2.2.2.1, .int .i64 x.2.2.2.2.1, .int .i64 x.2.2.2.2.2]] W fun e w' => e = .returned (.bool false) ∧ Below W.heap.size W w') := Lib.hid (fun W => code_light none 0 [] x W RowOpP.nil (fun _ => rfl) (Nat.le_refl _) (by simp) false hV)
  clear hM hV
  go_enter Try.func4, Try.ntmps4
  go_wp2_with (first
    | (go_at_call 5; refine (HL.out _).mono ?_; rintro e w1 ⟨rfl, hb⟩; have HB := Lib.hid (below_then (HI.out _) hb); clear hb)
    | (go_at_call 7; refine (pp_lives _ (HM.out.below HB.out)).mono ?_; rintro e w2 ⟨rfl, hb⟩; have HZ := Lib.hid (below_then HB.out hb); clear hb))
  go_ret
  exact ⟨rfl, HZ.out⟩
set_option maxHeartbeats 2000000 in
theorem nobody_in (x : OpP) (w : World) (hM : MaxL w) (hV : lightB [] x = true) : Calls Try.prog 4 #[.agg #[.int .i64 x.1, .string x.2.1, .string x.2.2.1, .int .i64 x.2.2.2.1, .int .i64 x.2.2.2.2.1, .int .i64 x.2.2.2.2.2]] w fun e w' => e = .returned (.bool true) ∧ Below w.heap.size w w' := by
  have HM := Lib.hid hM
  have HL : Hid (∀ W, Calls Try.prog 5 #[.slice none 0 0, .agg #[.int .i64 x.1, .string x.2.1, .string x.2.2.1, .int .i64 x.2.2.2.1, .int .i64 x.2.2.2.2.1, .int .i64 x.2.2.2.2.2]] W fun e w' => e = .returned (.bool true) ∧ Below W.heap.size W w') := Lib.hid (fun W => code_light none 0 [] x W RowOpP.nil (fun _ => rfl) (Nat.le_refl _) (by simp) true hV)
  have HI : Hid (NbI w x (w.alloc (.cells #[.int .i64 x.1, .string x.2.1, .string x.2.2.1, .int .i64 x.2.2.2.1, .int .i64 x.2.2.2.2.1, .int .i64 x.2.2.2.2.2] 26))) := Lib.hid ⟨heap_alloc_new _ _, below_alloc _ _⟩
  have HCl := Lib.hid (fun W => pclone_not (p := .pointer none) (w := W) (fun V _ => code_pmade_nil V))
  clear hM hV
  go_enter Try.func4, Try.ntmps4
  go_wp2_with (go_at_call 5; refine (HL.out _).mono ?_; rintro e w1 ⟨rfl, hb⟩; have HI1 := Lib.hid (HI.out.on hb); clear hb; refine Stop.out ?_)
  unfold Stop
  have HR := Lib.hid (nbR w1)
  go_wp2_with (go_at_call 12; refine (HCl.out _).mono ?_; rintro e w9 ⟨rfl, rfl⟩)
  clear HCl HL HI
  have HI2 : Hid (NbI w x ((w1.alloc (.cells #[.pointer none, .string { data := #[] }, .map none] 45)).alloc (.cells #[.pointer none, .pointer (some ⟨w1.heap.size, 0, none⟩)] 30))) := Lib.hid ((HI1.out.on (below_alloc _ _)).on (below_alloc _ _))
  go_loopw [18] (fun i wr => ∃ (k : Nat), k ≤ 2 ∧ i = .int .i64 k ∧ Hid (NbI w x wr ∧ NbR w1.heap.size wr)) (fun i _ => 2 - (intOf i).toNat)
  case atStart => exact ⟨0, by omega, rfl, Lib.hid ⟨HI2.out, HR.out⟩⟩
  case round =>
    clear HI2 HR
    obtain ⟨k, hk, rfl, HI⟩ := hrel
    by_cases hlt : k < 2
    · have hlt' : (k : Int) < 2 := by omega
      obtain ⟨p, hp, hmade⟩ := nb_at HI.out.2 k hlt
      have HMd := Lib.hid hmade
      obtain ⟨a0, a1, a2, a3, a4, a5⟩ := cellsOpP HI.out.1.1
      clear hmade
      go_wp2_with (go_at_call 13; refine (home_not HMd.out).mono ?_; rintro e w2 ⟨rfl, rfl⟩; refine Stop.out ?_)
      unfold Stop
      go_wp2_with (go_at_call 14; refine (opt_not HMd.out 0 0).mono ?_; rintro e w3 ⟨rfl, hb3⟩; have HB3 := Lib.hid hb3; clear hb3; refine Stop.out ?_)
      unfold Stop
      go_wp2_with (go_at_call 15; refine (opted_not (HMd.out.on HB3.out) 0).mono ?_; rintro e w4 ⟨rfl, rfl⟩; obtain ⟨d0, d1, d2, d3, d4, d5⟩ := cellsOpP (HI.out.1.on HB3.out).1; refine Stop.out ?_)
      unfold Stop
      go_wp2_with (go_at_call 9; refine (status_not (HMd.out.on HB3.out) x.2.1 x.2.2.1 0 0).mono ?_; rintro e w5 ⟨rfl, hb5⟩; have HB5 := Lib.hid (below_then HB3.out hb5); clear hb5; obtain ⟨f0, f1, f2, f3, f4, f5⟩ := cellsOpP (HI.out.1.on HB5.out).1; refine Stop.out ?_)
      unfold Stop
      go_wp2_with (go_at_call 10; refine (business_not (HMd.out.on HB5.out) x.2.1 x.2.2.1 0).mono ?_; rintro e w6 ⟨rfl, rfl⟩; refine Stop.out ?_)
      unfold Stop
      go_wp2_with (go_at_call 16; refine (known_not (HMd.out.on HB5.out)).mono ?_; rintro e w7 ⟨rfl, rfl⟩; refine Stop.out ?_)
      unfold Stop
      go_wp2
      go_roundw
      case rel => exact ⟨k + 1, by omega, by go_num, Lib.hid ⟨HI.out.1.on HB5.out, HI.out.2.on HB5.out⟩⟩
      case measure => simp [intOf]; omega
    · obtain rfl : k = 2 := by omega
      go_wp2_with (go_at_call 7; refine (pp_lives _ (HM.out.below HI.out.1.2)).mono ?_; rintro e w9 ⟨rfl, hb⟩; have HZ := Lib.hid (below_then HI.out.1.2 hb); clear hb; refine Stop.out ?_)
      unfold Stop
      go_wp2
      go_ret
      exact ⟨rfl, HZ.out⟩
theorem peopleNobody_any (x : OpP) (w : World) (hM : MaxL w) : Calls Try.prog 4 #[.agg #[.int .i64 x.1, .string x.2.1, .string x.2.2.1, .int .i64 x.2.2.2.1, .int .i64 x.2.2.2.2.1, .int .i64 x.2.2.2.2.2]] w fun e w' => e = .returned (.bool true) ∧ Below w.heap.size w w' := by
  cases h : lightB [] x with
  | true => exact nobody_in x w hM h
  | false => exact nobody_no x w hM h
end Go.Proofs.Ytgljajoknmgoeaa
