/- What a Total must be. Whether a Total is good. -/
import Derived.Test.YtpapcnogbmjpjaaGreatDoorK24
namespace Go.Proofs.YtpapcnogbmjpjaaGreatDoor
open Go.RowKit
set_option maxRecDepth 100000
set_option linter.unusedSimpArgs false
set_option linter.unusedVariables false
attribute [local go_sem] Oper.semAt_some

theorem code_kidsOf3q (w : World) : Calls Tryz.prog 92 #[.int .i64 3] w fun e w' => e = .returned (.int .i64 0) ∧ w = w' := by
  go_enter Tryz.func92, Tryz.ntmps92
  go_wp2
  go_ret
  exact ⟨rfl, rfl⟩
def totB (fd : ByteArray) (fs : List FilV) : Bool := nameB fd && decide (fs.length ≤ 16) && fs.all goodF
theorem FilAt.len {w : World} {fA : Option Addr} {fn fc : Nat} {fs : List FilV} (h : FilAt w fA fn fc fs) : fn = fs.length := by
  rcases h with ⟨rfl, _, rfl, _⟩ | ⟨g, cs, _, h, _⟩
  · rfl
  · exact h
theorem FilAt.on {w w' : World} {fA : Option Addr} {fn fc : Nat} {fs : List FilV} (h : FilAt w fA fn fc fs) (hb : Below w.heap.size w w') : FilAt w' fA fn fc fs := by
  rcases h with h | ⟨g, cs, h1, h2, h3, h4, h5, h6⟩
  · exact .inl h
  · exact .inr ⟨g, cs, h1, h2, h3, h4, heap_on hb h5, h6⟩
theorem code_allFil (w : World) {fA : Option Addr} {fn fc : Nat} {fs : List FilV} (h : FilAt w fA fn fc fs) (hm : fs.length ≤ 1000) : Calls Tryz.prog 94 #[.slice fA fn fc, .func (.func 95) #[] #[]] w fun e w' => e = .returned (.bool (fs.all goodF)) ∧ Below w.heap.size w w' := by
  rcases h with ⟨rfl, rfl, rfl, rfl⟩ | ⟨g, cs, rfl, rfl, h3, h4, h5, h6⟩
  · exact code_allF_nil w
  · exact code_allF fs g fc cs w h5 h6 hm
set_option maxHeartbeats 4000000 in
theorem code_stands3 (fd : ByteArray) (fA : Option Addr) (fn fc : Nat) (fs : List FilV) (w : World) (hf : FilAt w fA fn fc fs) : Calls Tryz.prog 67 #[.agg #[.int .i64 3, .int .i64 0, .string fd, .slice fA fn fc, .slice none 0 0]] w fun e w' => e = .returned (.bool (totB fd fs)) ∧ Below w.heap.size w w' := by
  have HNm := Lib.hid (code_isName fd)
  have HF := Lib.hid hf
  have HLn := Lib.hid hf.len
  clear hf
  have H0 := Lib.hid (heap_alloc_new w (.cells #[.int .i64 3, .int .i64 0, .string fd, .slice fA fn fc, .slice none 0 0] 32))
  have HW0 := Lib.hid (below_alloc w (.cells #[.int .i64 3, .int .i64 0, .string fd, .slice fA fn fc, .slice none 0 0] 32))
  go_enter Tryz.func67, Tryz.ntmps67
  go_wp2
  generalize w.alloc (.cells #[.int .i64 3, .int .i64 0, .string fd, .slice fA fn fc, .slice none 0 0] 32) = w1 at H0 HW0 ⊢
  obtain ⟨g, hg⟩ : ∃ g, g = w.heap.size := ⟨_, rfl⟩
  have HGs := Lib.hid hg
  rw [← hg] at H0 ⊢
  clear hg
  refine wp_region_held_drew (S := fun V : World => V.heap[g]? = some (.cells #[.int .i64 3, .int .i64 0, .string fd, .slice fA fn fc, .slice none 0 0] 32 (0, 0))) (by kernel_rfl) (heap_on (below_drew w1) H0.out) ?_
  intro hHeld
  have HW := Lib.hid (below_then HW0.out (below_drew w1))
  clear H0 HW0
  generalize w1.drew = wd at hHeld HW ⊢
  (refine takeH (i := 0) (v := ?_) rfl (by kernel_rfl) (by kernel_rfl) (by kernel_rfl) (fun _ _ _ h => h) (Or.inl ⟨by rfl, ?_⟩) (by assumption) ?_; rotate_left; (focus ((intro wS hSw); (try dsimp only at hSw); obtain ⟨s0, s1, s2, s3, s4⟩ := row5c hSw; go_simp; (try with_reducible rfl); done)); (try simp only [Act.put, List.setIfInBounds_toArray, List.set_cons_zero, List.set_cons_succ]))
  (refine takeH (i := 1) (v := ?_) rfl (by kernel_rfl) (by kernel_rfl) (by kernel_rfl) (fun _ _ _ h => h) (Or.inl ⟨by rfl, ?_⟩) (by assumption) ?_; rotate_left; (focus ((intro wS hSw); (try dsimp only at hSw); obtain ⟨s0, s1, s2, s3, s4⟩ := row5c hSw; go_simp; (try with_reducible rfl); done)); (try simp only [Act.put, List.setIfInBounds_toArray, List.set_cons_zero, List.set_cons_succ]))
  (refine takeH (i := 2) (v := ?_) rfl (by kernel_rfl) (by kernel_rfl) (by kernel_rfl) (fun _ _ _ h => h) (Or.inl ⟨by rfl, ?_⟩) (by assumption) ?_; rotate_left; (focus ((intro wS hSw); (try dsimp only at hSw); obtain ⟨s0, s1, s2, s3, s4⟩ := row5c hSw; go_simp; (try with_reducible rfl); done)); (try simp only [Act.put, List.setIfInBounds_toArray, List.set_cons_zero, List.set_cons_succ]))
  (refine takeH (i := 3) (v := ?_) rfl (by kernel_rfl) (by kernel_rfl) (by kernel_rfl) (fun _ _ _ h => h) (Or.inl ⟨by rfl, ?_⟩) (by assumption) ?_; rotate_left; (focus ((intro wS hSw); (try dsimp only at hSw); obtain ⟨s0, s1, s2, s3, s4⟩ := row5c hSw; go_simp; (try with_reducible rfl); done)); (try simp only [Act.put, List.setIfInBounds_toArray, List.set_cons_zero, List.set_cons_succ]))
  (refine takeH (i := 4) (v := ?_) rfl (by kernel_rfl) (by kernel_rfl) (by kernel_rfl) (fun _ _ _ h => h) (Or.inl ⟨by rfl, ?_⟩) (by assumption) ?_; rotate_left; (focus ((intro wS hSw); (try dsimp only at hSw); obtain ⟨s0, s1, s2, s3, s4⟩ := row5c hSw; go_simp; (try with_reducible rfl); done)); (try simp only [Act.put, List.setIfInBounds_toArray, List.set_cons_zero, List.set_cons_succ]))
  refine aloneH (i := 5) rfl (by kernel_rfl) (fun K hK => ?_)
  rw [if_pos (by rfl)]
  go_simp; ((refine (code_kidsOf3q wd).mono ?_); (rintro e w1 ⟨rfl, rfl⟩); (try go_simp))
  have HB1 : Hid (Below wd.heap.size wd wd) := Lib.hid (Below.refl _ _)
  refine hK.out _ _ (hHeld) (fun hNew => ?_)
  clear hK K hHeld; (have hHeld := hNew); clear hNew; (try simp only [Act.put, List.setIfInBounds_toArray, List.set_cons_zero, List.set_cons_succ])
  (refine takeH (i := 6) (v := ?_) rfl (by kernel_rfl) (by kernel_rfl) (by kernel_rfl) (fun _ _ _ h => h) (Or.inl ⟨by rfl, ?_⟩) (by assumption) ?_; rotate_left; (focus ((intro wS hSw); (try dsimp only at hSw); obtain ⟨s0, s1, s2, s3, s4⟩ := row5c hSw; go_simp; (try with_reducible rfl); done)); (try simp only [Act.put, List.setIfInBounds_toArray, List.set_cons_zero, List.set_cons_succ]))
  (refine takeH (i := 7) (v := ?_) rfl (by kernel_rfl) (by kernel_rfl) (by kernel_rfl) (fun _ _ _ h => h) (Or.inl ⟨by rfl, ?_⟩) (by assumption) ?_; rotate_left; (focus ((intro wS hSw); (try dsimp only at hSw); obtain ⟨s0, s1, s2, s3, s4⟩ := row5c hSw; go_simp; (try with_reducible rfl); done)); (try simp only [Act.put, List.setIfInBounds_toArray, List.set_cons_zero, List.set_cons_succ]))
  refine wpAnyH_done (by kernel_rfl) ?_ _
  clear HB1
  obtain ⟨s0, s1, s2, s3, s4⟩ := row5c hHeld
  have HHd := Lib.hid hHeld
  clear hHeld
  cases hn : nameB fd with
  | false =>
    have HT : Hid (totB fd fs = false) := Lib.hid (by unfold totB; rw [hn]; rfl)
    rw [hn] at HNm
    clear hn
    go_wp2_with (go_at_call 93; refine (HNm.out _).mono ?_; rintro e w2 ⟨rfl, hb⟩; refine Stop.out ?_)
    unfold Stop
    have HW2 := Lib.hid (below_then HW.out hb)
    clear hb s0 s1 s2 s3 s4 HHd
    go_wp2
    go_ret
    exact ⟨ret_bool HT.out.symm, HW2.out⟩
  | true =>
    rw [hn] at HNm
    by_cases hm : fs.length ≤ 16
    · have HT : Hid (totB fd fs = fs.all goodF) := Lib.hid (by unfold totB; rw [hn, decide_eq_true hm]; rfl)
      have hfn : fn ≤ 16 := by have := HLn.out; omega
      have HMx := Lib.hid hm
      clear hn hm
      go_wp2_with (go_at_call 93; refine (HNm.out _).mono ?_; rintro e w2 ⟨rfl, hb⟩; refine Stop.out ?_)
      unfold Stop
      have HW2 := Lib.hid (below_then HW.out hb)
      obtain ⟨d0, d1, d2, d3, d4⟩ := row5c (heap_on hb HHd.out)
      have HAl := Lib.hid (code_allFil w2 (HF.out.on HW2.out) (by have := HMx.out; omega))
      clear hb s0 s1 s2 s3 s4 HHd
      go_wp2_with (go_at_call 94; refine HAl.out.mono ?_; rintro e w3 ⟨rfl, hb⟩; refine Stop.out ?_)
      unfold Stop
      have HW3 := Lib.hid (below_then HW2.out hb)
      clear hb d0 d1 d2 d3 d4 HAl
      go_wp2
      go_ret
      exact ⟨ret_bool HT.out.symm, HW3.out⟩
    · have HT : Hid (totB fd fs = false) := Lib.hid (by unfold totB; rw [decide_eq_false hm]; simp)
      have hfn : ¬ fn ≤ 16 := by have := HLn.out; omega
      clear hn hm
      go_wp2_with (go_at_call 93; refine (HNm.out _).mono ?_; rintro e w2 ⟨rfl, hb⟩; refine Stop.out ?_)
      unfold Stop
      have HW2 := Lib.hid (below_then HW.out hb)
      obtain ⟨d0, d1, d2, d3, d4⟩ := row5c (heap_on hb HHd.out)
      clear hb s0 s1 s2 s3 s4 HHd
      go_wp2
      go_ret
      exact ⟨ret_bool HT.out.symm, HW2.out⟩
end Go.Proofs.YtpapcnogbmjpjaaGreatDoor

namespace Go.Proofs.YtpapcnogbmjpjaaGreatDoor
open Go.RowKit
set_option maxRecDepth 100000
set_option linter.unusedSimpArgs false
set_option linter.unusedVariables false
attribute [local go_sem] Oper.semAt_some

set_option maxHeartbeats 2000000 in
theorem code_good_tot_b (fd : ByteArray) (fA : Option Addr) (fn fc : Nat) (q : Bool) (w : World) (h : ∀ W, Below w.heap.size w W → Calls Tryz.prog 66 #[.agg #[.int .i64 3, .int .i64 0, .string fd, .slice fA fn fc, .slice none 0 0], .func (.func 67) #[] #[]] W fun e w' => e = .returned (.bool q) ∧ Below W.heap.size W w') : Calls Tryz.prog 42 #[.agg #[.int .i64 3, .int .i64 0, .string fd, .slice fA fn fc, .slice none 0 0]] w fun e w' => e = .returned (.bool q) ∧ Below w.heap.size w w' := by
  have HE := Lib.hid h
  have HD : Hid (∀ W, Calls Tryz.prog 65 #[.agg #[.int .i64 3, .int .i64 0, .string fd, .slice fA fn fc, .slice none 0 0]] W fun e w' => e = .returned (.int .i64 1) ∧ Below W.heap.size W w') := Lib.hid (fun W => code_deep W (.mk 3 0 fd fA fn fc 0 0 []) (by unfold AtT AtL; exact ⟨trivial, fun h => absurd rfl h⟩) (by simp [bT, bK, bL]))
  clear h
  have H0 := Lib.hid (heap_alloc_new w (.cells #[.int .i64 3, .int .i64 0, .string fd, .slice fA fn fc, .slice none 0 0] 32))
  have HB0 := Lib.hid (below_alloc w (.cells #[.int .i64 3, .int .i64 0, .string fd, .slice fA fn fc, .slice none 0 0] 32))
  go_enter Tryz.func42, Tryz.ntmps42
  go_wp2_with (go_at_call 65; refine (HD.out _).mono ?_; rintro e w2 ⟨rfl, hb⟩; refine Stop.out ?_)
  unfold Stop
  have HB2 := Lib.hid (below_then HB0.out hb)
  obtain ⟨e0, e1, e2, e3, e4⟩ := row5c (heap_on hb H0.out)
  clear hb H0 HB0
  go_wp2_with (go_at_call 66; refine (HE.out _ HB2.out).mono ?_; rintro e w3 ⟨rfl, hb⟩; refine Stop.out ?_)
  unfold Stop
  have HB3 := Lib.hid (below_then HB2.out hb)
  clear hb e0 e1 e2 e3 e4
  go_wp2
  go_ret
  exact ⟨rfl, HB3.out⟩
theorem code_each_tot (fd : ByteArray) (fA : Option Addr) (fn fc : Nat) (fs : List FilV) (w : World) (hf : FilAt w fA fn fc fs) : Calls Tryz.prog 66 #[.agg #[.int .i64 3, .int .i64 0, .string fd, .slice fA fn fc, .slice none 0 0], .func (.func 67) #[] #[]] w fun e w' => e = .returned (.bool (totB fd fs)) ∧ Below w.heap.size w w' := by
  cases hq : totB fd fs with
  | false => exact each_no 3 0 fd fA fn fc w (fun W hW => by have := code_stands3 fd fA fn fc fs W (hf.on hW); rw [hq] at this; exact this)
  | true =>
    have hs := each_stands (w.heap.size + 100) 3 0 fd fA fn fc w (fun _ => True) (fun W hW => by have := code_stands3 fd fA fn fc fs W (hf.on hW); rw [hq] at this; exact this.mono fun _ _ h => ⟨h.1, Chg.of h.2, trivial⟩) (fun _ _ _ _ _ _ _ => trivial) (Or.inr (by omega))
    exact hs.mono fun _ _ h => ⟨h.1, h.2.1.low (by omega) (Nat.le_refl _)⟩
theorem code_good_tot (fd : ByteArray) (fA : Option Addr) (fn fc : Nat) (fs : List FilV) (w : World) (hf : FilAt w fA fn fc fs) : Calls Tryz.prog 42 #[.agg #[.int .i64 3, .int .i64 0, .string fd, .slice fA fn fc, .slice none 0 0]] w fun e w' => e = .returned (.bool (totB fd fs)) ∧ Below w.heap.size w w' := by
  cases hq : totB fd fs with
  | false => exact code_good_tot_b fd fA fn fc false w (fun W hW => by have := code_each_tot fd fA fn fc fs W (hf.on hW); rw [hq] at this; exact this)
  | true => exact code_good_tot_b fd fA fn fc true w (fun W hW => by have := code_each_tot fd fA fn fc fs W (hf.on hW); rw [hq] at this; exact this)
end Go.Proofs.YtpapcnogbmjpjaaGreatDoor
