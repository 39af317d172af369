/- What can be next. -/
import Derived.Test.YtbplhjoompgemaaCkR
namespace Go.Proofs.Ytbplhjoompgemaa
open Go.RowKit
set_option maxRecDepth 100000
set_option linter.unusedSimpArgs false
set_option linter.unusedVariables false
attribute [local go_sem] Oper.semAt_some

def getB (B : List Bool) (x : Int) : Bool := B.getD x.toNat false
/-- which places are there, as they lie -/
def BoolAt (w : World) (T tb : Nat) (B : List Bool) : Prop := w.heap[T]? = some (.cells #[.slice (some ⟨tb, 0, none⟩) B.length B.length] 29 (0, 0)) ∧ w.heap[tb]? = some (.cells (B.map .bool).toArray 4 (0, 0))
theorem BoolAt.cell {w : World} {T tb : Nat} {B : List Bool} (h : BoolAt w T tb B) (i : Nat) (hi : i < B.length) : w.cell? ⟨tb, i, none⟩ = some (.bool (getB B i)) := by
  rw [cell_of_row w tb i _ _ _ h.2]
  unfold getB
  simp [hi]
theorem code_lacks (T tb : Nat) (B : List Bool) (i : Nat) (w : World) (h : BoolAt w T tb B) (hi : i < B.length) (hl : B.length ≤ 20) : Calls Try.prog 34 #[.int .i64 (i : Nat), .pointer (some ⟨T, 0, none⟩)] w fun e w' => e = .returned (.bool (!getB B i)) ∧ w' = w := by
  have hc := h.cell i hi
  obtain ⟨t0, _⟩ := one_cell h.1
  have hiz : (i : Int) < B.length := by omega
  have hiz2 : (i : Int) < 20 := by omega
  have hnot : ∀ (x : Bool) (w : World), (Op.unary .not (.bool x)).run Try.prog w = .ok (.bool (!x)) w := fun _ _ => rfl
  clear h hi hl
  generalize getB B i = q at hc ⊢
  go_enter Try.func34, Try.ntmps34
  go_wp2
  go_ret
  exact ⟨rfl, rfl⟩
set_option maxHeartbeats 4000000 in
theorem code_index_lacks (T tb : Nat) (B : List Bool) (A : Option Addr) (c : Nat) (N : List Int) (w : World) (h : BoolAt w T tb B) (hl : B.length ≤ 20) (hN : N.length ≤ 1000) (hn : ∀ x ∈ N, ∃ i : Nat, x = (i : Nat) ∧ i < B.length)
    (hc : ∀ j (hj : j < N.length), ∃ g, A = some ⟨g, 0, none⟩ ∧ w.cell? ⟨g, j, none⟩ = some (.int .i64 N[j])) :
    Calls Try.prog 54 #[.slice A N.length c, .func (.func 34) #[] #[.pointer (some ⟨T, 0, none⟩)]] w fun e w' => (∃ r : Int, e = .returned (.int .i64 r) ∧ (decide (0 ≤ r) = N.any fun x => !getB B x)) ∧ w' = w := by
  have HBo := Lib.hid h
  have HBl := Lib.hid hl
  have HNn := Lib.hid hn
  have HC := Lib.hid hc
  have hln : (N.length : Int) ≤ 1000 := by omega
  obtain ⟨len, hlen⟩ : ∃ n, n = N.length := ⟨_, rfl⟩
  have HLe := Lib.hid hlen
  rw [← hlen] at hln ⊢
  clear h hl hn hc hlen hN
  go_enter Try.func54, Try.ntmps54
  go_wp2
  go_loopw [8] (fun v8 wr => ∃ k : Nat, k ≤ len ∧ v8 = .int .i64 (k : Nat) ∧ Hid (wr = w ∧ ∀ j (hj : j < N.length), j < k → getB B N[j] = true)) (fun v8 _ => len - (intOf v8).toNat)
  case atStart => exact ⟨0, Nat.zero_le _, rfl, Lib.hid ⟨rfl, fun j _ h => absurd h (Nat.not_lt_zero _)⟩⟩
  case round =>
    obtain ⟨k, hk, rfl, HR⟩ := hrel
    obtain rfl : wr = w := HR.out.1
    by_cases hlt : k < len
    · have hkN : k < N.length := by rw [← HLe.out]; exact hlt
      obtain ⟨g, hA, hcl⟩ := HC.out k hkN
      obtain ⟨i, hi1, hi2⟩ := HNn.out N[k] (List.getElem_mem _)
      rw [hi1] at hcl
      subst hA
      have HL := Lib.hid (code_lacks T tb B i wr HBo.out hi2 HBl.out)
      obtain ⟨q, hq⟩ : ∃ q, q = getB B i := ⟨_, rfl⟩
      rw [← hq] at HL
      have HQ : Hid (getB B N[k] = q) := Lib.hid (by rw [hi1, hq])
      clear hi1 hi2 hq
      cases q with
      | true =>
        go_wp2_with (go_at_call 34; refine HL.out.mono ?_; rintro e w2 ⟨rfl, rfl⟩; refine Stop.out ?_)
        unfold Stop
        go_wp2
        exact ⟨⟨k + 1, by omega, by simp, Lib.hid ⟨by first | rfl | trivial, fun j hj hjk => by
          by_cases e : j = k
          · subst e; exact HQ.out
          · exact HR.out.2 j hj (by omega)⟩⟩, by simp [intOf]; omega⟩
      | false =>
        go_wp2_with (go_at_call 34; refine HL.out.mono ?_; rintro e w2 ⟨rfl, rfl⟩; refine Stop.out ?_)
        unfold Stop
        go_wp2
        go_ret
        refine ⟨⟨_, rfl, ?_⟩, rfl⟩
        rw [decide_eq_true (by omega : (0 : Int) ≤ (k : Nat))]
        symm
        rw [List.any_eq_true]
        exact ⟨N[k], List.getElem_mem _, by rw [HQ.out]; rfl⟩
    · obtain rfl : k = len := by omega
      go_wp2
      go_ret
      refine ⟨⟨_, rfl, ?_⟩, rfl⟩
      rw [show decide ((0 : Int) ≤ -1) = false from rfl]
      symm
      rw [List.any_eq_false]
      intro x hx
      obtain ⟨j, hj, rfl⟩ := List.mem_iff_getElem.1 hx
      rw [HR.out.2 j hj (by rw [HLe.out]; exact hj)]
      simp
theorem code_any_lacks (T tb : Nat) (B : List Bool) (A : Option Addr) (c : Nat) (N : List Int) (w : World) (h : BoolAt w T tb B) (hl : B.length ≤ 20) (hN : N.length ≤ 1000) (hn : ∀ x ∈ N, ∃ i : Nat, x = (i : Nat) ∧ i < B.length)
    (hc : ∀ j (hj : j < N.length), ∃ g, A = some ⟨g, 0, none⟩ ∧ w.cell? ⟨g, j, none⟩ = some (.int .i64 N[j])) :
    Calls Try.prog 36 #[.slice A N.length c, .func (.func 34) #[] #[.pointer (some ⟨T, 0, none⟩)]] w fun e w' => e = .returned (.bool (N.any fun x => !getB B x)) ∧ w = w' := by
  have HI := Lib.hid (code_index_lacks T tb B A c N w h hl hN hn hc)
  clear h hl hN hn hc
  go_enter Try.func36, Try.ntmps36
  go_wp2_with (go_at_call 54; refine HI.out.mono ?_; rintro e wz ⟨⟨r, rfl, hr⟩, rfl⟩; refine Stop.out ?_)
  unfold Stop
  have HR := Lib.hid hr
  clear hr
  go_wp2
  go_ret
  exact ⟨ret_bool HR.out, rfl⟩
set_option maxHeartbeats 4000000 in
theorem can_no (T tb g1 P gn La : Nat) (B : List Bool) (nl nc : Nat) (i : Nat) (Ai : Option Addr) (ci : Nat) (N : List Int) (w : World) (h : BoolAt w T tb B) (hi : i < B.length) (hl : B.length ≤ 20) (hnl : i < nl)
    (hg1 : w.cell? ⟨g1, 0, none⟩ = some (.pointer (some ⟨P, 0, none⟩))) (hP : w.cell? ⟨P, 2, none⟩ = some (.slice (some ⟨gn, 0, none⟩) nl nc)) (hgn : w.cell? ⟨gn, i, none⟩ = some (.slice Ai N.length ci)) (hLa : w.cell? ⟨La, 0, none⟩ = some (.func (.func 34) #[] #[.pointer (some ⟨T, 0, none⟩)])) (hq : getB B i = true) :
    Calls Try.prog 35 #[.int .i64 (i : Nat), .pointer (some ⟨T, 0, none⟩), .pointer (some ⟨g1, 0, none⟩), .pointer (some ⟨La, 0, none⟩)] w fun e w' => e = .returned (.bool false) ∧ Below w.heap.size w w' := by
  have hiz : (i : Int) < B.length := by omega
  have hiz2 : (i : Int) < 20 := by omega
  have hnl2 : (i : Int) < nl := by omega
  have hnot : ∀ (x : Bool) (w : World), (Op.unary .not (.bool x)).run Try.prog w = .ok (.bool (!x)) w := fun _ _ => rfl
  have HS : Hid (w.heap[T]? = some (.cells #[.slice (some ⟨tb, 0, none⟩) B.length B.length] 29 (0, 0)) ∧ w.cell? ⟨tb, i, none⟩ = some (.bool true) ∧ w.cell? ⟨g1, 0, none⟩ = some (.pointer (some ⟨P, 0, none⟩)) ∧ w.cell? ⟨P, 2, none⟩ = some (.slice (some ⟨gn, 0, none⟩) nl nc) ∧ w.cell? ⟨gn, i, none⟩ = some (.slice Ai N.length ci) ∧ w.cell? ⟨La, 0, none⟩ = some (.func (.func 34) #[] #[.pointer (some ⟨T, 0, none⟩)])) := Lib.hid ⟨h.1, hq ▸ h.cell i hi, hg1, hP, hgn, hLa⟩
  have HNt := Lib.hid hq
  clear hq
  clear h hi hl hg1 hP hgn hLa
  go_enter Try.func35, Try.ntmps35
  go_wp2
  refine wp_region_held_drew (S := fun V : World => V.heap[T]? = some (.cells #[.slice (some ⟨tb, 0, none⟩) B.length B.length] 29 (0, 0)) ∧ V.cell? ⟨tb, i, none⟩ = some (.bool true) ∧ V.cell? ⟨g1, 0, none⟩ = some (.pointer (some ⟨P, 0, none⟩)) ∧ V.cell? ⟨P, 2, none⟩ = some (.slice (some ⟨gn, 0, none⟩) nl nc) ∧ V.cell? ⟨gn, i, none⟩ = some (.slice Ai N.length ci) ∧ V.cell? ⟨La, 0, none⟩ = some (.func (.func 34) #[] #[.pointer (some ⟨T, 0, none⟩)])) (by kernel_rfl) HS.out ?_
  intro hHeld
  have HDr := Lib.hid (below_drew w)
  clear HS
  generalize w.drew = wd at hHeld HDr ⊢
  (refine takeH (i := 0) (v := ?_) rfl (by kernel_rfl) (by kernel_rfl) (by kernel_rfl) (fun _ _ _ h => h) (Or.inl ⟨by rfl, ?_⟩) (by assumption) ?_; rotate_left; (focus ((intro wS hSw); (try dsimp only at hSw); obtain ⟨s0, s1, s2, s3, s4, s5⟩ := hSw; obtain ⟨s0, _⟩ := one_cell s0; go_simp; (try with_reducible rfl); done)); (try simp only [Act.put, List.setIfInBounds_toArray, List.set_cons_zero, List.set_cons_succ]))
  (refine takeH (i := 1) (v := ?_) rfl (by kernel_rfl) (by kernel_rfl) (by kernel_rfl) (fun _ _ _ h => h) (Or.inl ⟨by rfl, ?_⟩) (by assumption) ?_; rotate_left; (focus ((intro wS hSw); (try dsimp only at hSw); obtain ⟨s0, s1, s2, s3, s4, s5⟩ := hSw; obtain ⟨s0, _⟩ := one_cell s0; go_simp; (try with_reducible rfl); done)); (try simp only [Act.put, List.setIfInBounds_toArray, List.set_cons_zero, List.set_cons_succ]))
  (refine takeH (i := 2) (v := ?_) rfl (by kernel_rfl) (by kernel_rfl) (by kernel_rfl) (fun _ _ _ h => h) (Or.inl ⟨by rfl, ?_⟩) (by assumption) ?_; rotate_left; (focus ((intro wS hSw); (try dsimp only at hSw); obtain ⟨s0, s1, s2, s3, s4, s5⟩ := hSw; obtain ⟨s0, _⟩ := one_cell s0; go_simp; (try with_reducible rfl); done)); (try simp only [Act.put, List.setIfInBounds_toArray, List.set_cons_zero, List.set_cons_succ]))
  (refine takeH (i := 3) (v := ?_) rfl (by kernel_rfl) (by kernel_rfl) (by kernel_rfl) (fun _ _ _ h => h) (Or.inl ⟨by rfl, ?_⟩) (by assumption) ?_; rotate_left; (focus ((intro wS hSw); (try dsimp only at hSw); obtain ⟨s0, s1, s2, s3, s4, s5⟩ := hSw; obtain ⟨s0, _⟩ := one_cell s0; go_simp; (try with_reducible rfl); done)); (try simp only [Act.put, List.setIfInBounds_toArray, List.set_cons_zero, List.set_cons_succ]))
  (refine takeH (i := 4) (v := ?_) rfl (by kernel_rfl) (by kernel_rfl) (by kernel_rfl) (fun _ _ _ h => h) (Or.inl ⟨by rfl, ?_⟩) (by assumption) ?_; rotate_left; (focus ((intro wS hSw); (try dsimp only at hSw); obtain ⟨s0, s1, s2, s3, s4, s5⟩ := hSw; obtain ⟨s0, _⟩ := one_cell s0; go_simp; (try with_reducible rfl); done)); (try simp only [Act.put, List.setIfInBounds_toArray, List.set_cons_zero, List.set_cons_succ]))
  (refine takeH (i := 5) (v := ?_) rfl (by kernel_rfl) (by kernel_rfl) (by kernel_rfl) (fun _ _ _ h => h) (Or.inl ⟨by rfl, ?_⟩) (by assumption) ?_; rotate_left; (focus ((intro wS hSw); (try dsimp only at hSw); obtain ⟨s0, s1, s2, s3, s4, s5⟩ := hSw; obtain ⟨s0, _⟩ := one_cell s0; go_simp; (try with_reducible rfl); done)); (try simp only [Act.put, List.setIfInBounds_toArray, List.set_cons_zero, List.set_cons_succ]))
  (refine takeH (i := 6) (v := undef) rfl (by kernel_rfl) (by kernel_rfl) (by kernel_rfl) (fun _ _ _ h => h) (Or.inr ⟨by rfl, rfl⟩) (by assumption) ?_; (try simp only [Act.put, List.setIfInBounds_toArray, List.set_cons_zero, List.set_cons_succ]))
  (refine takeH (i := 7) (v := undef) rfl (by kernel_rfl) (by kernel_rfl) (by kernel_rfl) (fun _ _ _ h => h) (Or.inr ⟨by rfl, rfl⟩) (by assumption) ?_; (try simp only [Act.put, List.setIfInBounds_toArray, List.set_cons_zero, List.set_cons_succ]))
  (refine takeH (i := 8) (v := undef) rfl (by kernel_rfl) (by kernel_rfl) (by kernel_rfl) (fun _ _ _ h => h) (Or.inr ⟨by rfl, rfl⟩) (by assumption) ?_; (try simp only [Act.put, List.setIfInBounds_toArray, List.set_cons_zero, List.set_cons_succ]))
  (refine takeH (i := 9) (v := undef) rfl (by kernel_rfl) (by kernel_rfl) (by kernel_rfl) (fun _ _ _ h => h) (Or.inr ⟨by rfl, rfl⟩) (by assumption) ?_; (try simp only [Act.put, List.setIfInBounds_toArray, List.set_cons_zero, List.set_cons_succ]))
  (refine takeH (i := 10) (v := undef) rfl (by kernel_rfl) (by kernel_rfl) (by kernel_rfl) (fun _ _ _ h => h) (Or.inr ⟨by rfl, rfl⟩) (by assumption) ?_; (try simp only [Act.put, List.setIfInBounds_toArray, List.set_cons_zero, List.set_cons_succ]))
  (refine takeH (i := 11) (v := undef) rfl (by kernel_rfl) (by kernel_rfl) (by kernel_rfl) (fun _ _ _ h => h) (Or.inr ⟨by rfl, rfl⟩) (by assumption) ?_; (try simp only [Act.put, List.setIfInBounds_toArray, List.set_cons_zero, List.set_cons_succ]))
  (refine takeH (i := 12) (v := undef) rfl (by kernel_rfl) (by kernel_rfl) (by kernel_rfl) (fun _ _ _ h => h) (Or.inr ⟨by rfl, rfl⟩) (by assumption) ?_; (try simp only [Act.put, List.setIfInBounds_toArray, List.set_cons_zero, List.set_cons_succ]))
  (refine takeH (i := 13) (v := undef) rfl (by kernel_rfl) (by kernel_rfl) (by kernel_rfl) (fun _ _ _ h => h) (Or.inr ⟨by rfl, rfl⟩) (by assumption) ?_; (try simp only [Act.put, List.setIfInBounds_toArray, List.set_cons_zero, List.set_cons_succ]))
  (refine takeH (i := 14) (v := undef) rfl (by kernel_rfl) (by kernel_rfl) (by kernel_rfl) (fun _ _ _ h => h) (Or.inr ⟨by rfl, rfl⟩) (by assumption) ?_; (try simp only [Act.put, List.setIfInBounds_toArray, List.set_cons_zero, List.set_cons_succ]))
  (refine takeH (i := 15) (v := undef) rfl (by kernel_rfl) (by kernel_rfl) (by kernel_rfl) (fun _ _ _ h => h) (Or.inr ⟨by rfl, rfl⟩) (by assumption) ?_; (try simp only [Act.put, List.setIfInBounds_toArray, List.set_cons_zero, List.set_cons_succ]))
  (refine takeH (i := 16) (v := ?_) rfl (by kernel_rfl) (by kernel_rfl) (by kernel_rfl) (fun _ _ _ h => h) (Or.inl ⟨by rfl, ?_⟩) (by assumption) ?_; rotate_left; (focus ((intro wS hSw); (try dsimp only at hSw); obtain ⟨s0, s1, s2, s3, s4, s5⟩ := hSw; obtain ⟨s0, _⟩ := one_cell s0; go_simp; (try with_reducible rfl); done)); (try simp only [Act.put, List.setIfInBounds_toArray, List.set_cons_zero, List.set_cons_succ]))
  (refine takeH (i := 17) (v := ?_) rfl (by kernel_rfl) (by kernel_rfl) (by kernel_rfl) (fun _ _ _ h => h) (Or.inl ⟨by rfl, ?_⟩) (by assumption) ?_; rotate_left; (focus ((intro wS hSw); (try dsimp only at hSw); obtain ⟨s0, s1, s2, s3, s4, s5⟩ := hSw; obtain ⟨s0, _⟩ := one_cell s0; go_simp; (try with_reducible rfl); done)); (try simp only [Act.put, List.setIfInBounds_toArray, List.set_cons_zero, List.set_cons_succ]))
  refine wpAnyH_done (by kernel_rfl) ?_ _
  clear hHeld
  go_wp2
  go_ret
  exact ⟨rfl, HDr.out⟩
set_option maxHeartbeats 4000000 in
theorem can_yes (T tb g1 P gn La : Nat) (B : List Bool) (nl nc : Nat) (i : Nat) (Ai : Option Addr) (ci : Nat) (N : List Int) (w : World) (h : BoolAt w T tb B) (hi : i < B.length) (hl : B.length ≤ 20) (hnl : i < nl)
    (hg1 : w.cell? ⟨g1, 0, none⟩ = some (.pointer (some ⟨P, 0, none⟩))) (hP : w.cell? ⟨P, 2, none⟩ = some (.slice (some ⟨gn, 0, none⟩) nl nc)) (hgn : w.cell? ⟨gn, i, none⟩ = some (.slice Ai N.length ci)) (hLa : w.cell? ⟨La, 0, none⟩ = some (.func (.func 34) #[] #[.pointer (some ⟨T, 0, none⟩)])) (hq : getB B i = false) (hN : N.length ≤ 1000) (hn : ∀ x ∈ N, ∃ i : Nat, x = (i : Nat) ∧ i < B.length) (hc : ∀ j (hj : j < N.length), ∃ g, Ai = some ⟨g, 0, none⟩ ∧ w.cell? ⟨g, j, none⟩ = some (.int .i64 N[j])) :
    Calls Try.prog 35 #[.int .i64 (i : Nat), .pointer (some ⟨T, 0, none⟩), .pointer (some ⟨g1, 0, none⟩), .pointer (some ⟨La, 0, none⟩)] w fun e w' => e = .returned (.bool (!(N.any fun x => !getB B x))) ∧ Below w.heap.size w w' := by
  have hiz : (i : Int) < B.length := by omega
  have hiz2 : (i : Int) < 20 := by omega
  have hnl2 : (i : Int) < nl := by omega
  have hnot : ∀ (x : Bool) (w : World), (Op.unary .not (.bool x)).run Try.prog w = .ok (.bool (!x)) w := fun _ _ => rfl
  have HS : Hid (w.heap[T]? = some (.cells #[.slice (some ⟨tb, 0, none⟩) B.length B.length] 29 (0, 0)) ∧ w.cell? ⟨tb, i, none⟩ = some (.bool false) ∧ w.cell? ⟨g1, 0, none⟩ = some (.pointer (some ⟨P, 0, none⟩)) ∧ w.cell? ⟨P, 2, none⟩ = some (.slice (some ⟨gn, 0, none⟩) nl nc) ∧ w.cell? ⟨gn, i, none⟩ = some (.slice Ai N.length ci) ∧ w.cell? ⟨La, 0, none⟩ = some (.func (.func 34) #[] #[.pointer (some ⟨T, 0, none⟩)])) := Lib.hid ⟨h.1, hq ▸ h.cell i hi, hg1, hP, hgn, hLa⟩
  have HAny := Lib.hid (code_any_lacks T tb B Ai ci N w.drew ⟨h.1, h.2⟩ hl hN hn hc)
  clear hN hn hc
  clear h hi hl hg1 hP hgn hLa
  go_enter Try.func35, Try.ntmps35
  go_wp2
  refine wp_region_held_drew (S := fun V : World => V.heap[T]? = some (.cells #[.slice (some ⟨tb, 0, none⟩) B.length B.length] 29 (0, 0)) ∧ V.cell? ⟨tb, i, none⟩ = some (.bool false) ∧ V.cell? ⟨g1, 0, none⟩ = some (.pointer (some ⟨P, 0, none⟩)) ∧ V.cell? ⟨P, 2, none⟩ = some (.slice (some ⟨gn, 0, none⟩) nl nc) ∧ V.cell? ⟨gn, i, none⟩ = some (.slice Ai N.length ci) ∧ V.cell? ⟨La, 0, none⟩ = some (.func (.func 34) #[] #[.pointer (some ⟨T, 0, none⟩)])) (by kernel_rfl) HS.out ?_
  intro hHeld
  have HDr := Lib.hid (below_drew w)
  clear HS
  generalize w.drew = wd at hHeld HDr HAny ⊢
  (refine takeH (i := 0) (v := ?_) rfl (by kernel_rfl) (by kernel_rfl) (by kernel_rfl) (fun _ _ _ h => h) (Or.inl ⟨by rfl, ?_⟩) (by assumption) ?_; rotate_left; (focus ((intro wS hSw); (try dsimp only at hSw); obtain ⟨s0, s1, s2, s3, s4, s5⟩ := hSw; obtain ⟨s0, _⟩ := one_cell s0; go_simp; (try with_reducible rfl); done)); (try simp only [Act.put, List.setIfInBounds_toArray, List.set_cons_zero, List.set_cons_succ]))
  (refine takeH (i := 1) (v := ?_) rfl (by kernel_rfl) (by kernel_rfl) (by kernel_rfl) (fun _ _ _ h => h) (Or.inl ⟨by rfl, ?_⟩) (by assumption) ?_; rotate_left; (focus ((intro wS hSw); (try dsimp only at hSw); obtain ⟨s0, s1, s2, s3, s4, s5⟩ := hSw; obtain ⟨s0, _⟩ := one_cell s0; go_simp; (try with_reducible rfl); done)); (try simp only [Act.put, List.setIfInBounds_toArray, List.set_cons_zero, List.set_cons_succ]))
  (refine takeH (i := 2) (v := ?_) rfl (by kernel_rfl) (by kernel_rfl) (by kernel_rfl) (fun _ _ _ h => h) (Or.inl ⟨by rfl, ?_⟩) (by assumption) ?_; rotate_left; (focus ((intro wS hSw); (try dsimp only at hSw); obtain ⟨s0, s1, s2, s3, s4, s5⟩ := hSw; obtain ⟨s0, _⟩ := one_cell s0; go_simp; (try with_reducible rfl); done)); (try simp only [Act.put, List.setIfInBounds_toArray, List.set_cons_zero, List.set_cons_succ]))
  (refine takeH (i := 3) (v := ?_) rfl (by kernel_rfl) (by kernel_rfl) (by kernel_rfl) (fun _ _ _ h => h) (Or.inl ⟨by rfl, ?_⟩) (by assumption) ?_; rotate_left; (focus ((intro wS hSw); (try dsimp only at hSw); obtain ⟨s0, s1, s2, s3, s4, s5⟩ := hSw; obtain ⟨s0, _⟩ := one_cell s0; go_simp; (try with_reducible rfl); done)); (try simp only [Act.put, List.setIfInBounds_toArray, List.set_cons_zero, List.set_cons_succ]))
  (refine takeH (i := 4) (v := ?_) rfl (by kernel_rfl) (by kernel_rfl) (by kernel_rfl) (fun _ _ _ h => h) (Or.inl ⟨by rfl, ?_⟩) (by assumption) ?_; rotate_left; (focus ((intro wS hSw); (try dsimp only at hSw); obtain ⟨s0, s1, s2, s3, s4, s5⟩ := hSw; obtain ⟨s0, _⟩ := one_cell s0; go_simp; (try with_reducible rfl); done)); (try simp only [Act.put, List.setIfInBounds_toArray, List.set_cons_zero, List.set_cons_succ]))
  (refine takeH (i := 5) (v := ?_) rfl (by kernel_rfl) (by kernel_rfl) (by kernel_rfl) (fun _ _ _ h => h) (Or.inl ⟨by rfl, ?_⟩) (by assumption) ?_; rotate_left; (focus ((intro wS hSw); (try dsimp only at hSw); obtain ⟨s0, s1, s2, s3, s4, s5⟩ := hSw; obtain ⟨s0, _⟩ := one_cell s0; go_simp; (try with_reducible rfl); done)); (try simp only [Act.put, List.setIfInBounds_toArray, List.set_cons_zero, List.set_cons_succ]))
  (refine takeH (i := 6) (v := ?_) rfl (by kernel_rfl) (by kernel_rfl) (by kernel_rfl) (fun _ _ _ h => h) (Or.inl ⟨by rfl, ?_⟩) (by assumption) ?_; rotate_left; (focus ((intro wS hSw); (try dsimp only at hSw); obtain ⟨s0, s1, s2, s3, s4, s5⟩ := hSw; obtain ⟨s0, _⟩ := one_cell s0; go_simp; (try with_reducible rfl); done)); (try simp only [Act.put, List.setIfInBounds_toArray, List.set_cons_zero, List.set_cons_succ]))
  (refine takeH (i := 7) (v := ?_) rfl (by kernel_rfl) (by kernel_rfl) (by kernel_rfl) (fun _ _ _ h => h) (Or.inl ⟨by rfl, ?_⟩) (by assumption) ?_; rotate_left; (focus ((intro wS hSw); (try dsimp only at hSw); obtain ⟨s0, s1, s2, s3, s4, s5⟩ := hSw; obtain ⟨s0, _⟩ := one_cell s0; go_simp; (try with_reducible rfl); done)); (try simp only [Act.put, List.setIfInBounds_toArray, List.set_cons_zero, List.set_cons_succ]))
  (refine takeH (i := 8) (v := ?_) rfl (by kernel_rfl) (by kernel_rfl) (by kernel_rfl) (fun _ _ _ h => h) (Or.inl ⟨by rfl, ?_⟩) (by assumption) ?_; rotate_left; (focus ((intro wS hSw); (try dsimp only at hSw); obtain ⟨s0, s1, s2, s3, s4, s5⟩ := hSw; obtain ⟨s0, _⟩ := one_cell s0; go_simp; (try with_reducible rfl); done)); (try simp only [Act.put, List.setIfInBounds_toArray, List.set_cons_zero, List.set_cons_succ]))
  (refine takeH (i := 9) (v := ?_) rfl (by kernel_rfl) (by kernel_rfl) (by kernel_rfl) (fun _ _ _ h => h) (Or.inl ⟨by rfl, ?_⟩) (by assumption) ?_; rotate_left; (focus ((intro wS hSw); (try dsimp only at hSw); obtain ⟨s0, s1, s2, s3, s4, s5⟩ := hSw; obtain ⟨s0, _⟩ := one_cell s0; go_simp; (try with_reducible rfl); done)); (try simp only [Act.put, List.setIfInBounds_toArray, List.set_cons_zero, List.set_cons_succ]))
  (refine takeH (i := 10) (v := ?_) rfl (by kernel_rfl) (by kernel_rfl) (by kernel_rfl) (fun _ _ _ h => h) (Or.inl ⟨by rfl, ?_⟩) (by assumption) ?_; rotate_left; (focus ((intro wS hSw); (try dsimp only at hSw); obtain ⟨s0, s1, s2, s3, s4, s5⟩ := hSw; obtain ⟨s0, _⟩ := one_cell s0; go_simp; (try with_reducible rfl); done)); (try simp only [Act.put, List.setIfInBounds_toArray, List.set_cons_zero, List.set_cons_succ]))
  (refine takeH (i := 11) (v := ?_) rfl (by kernel_rfl) (by kernel_rfl) (by kernel_rfl) (fun _ _ _ h => h) (Or.inl ⟨by rfl, ?_⟩) (by assumption) ?_; rotate_left; (focus ((intro wS hSw); (try dsimp only at hSw); obtain ⟨s0, s1, s2, s3, s4, s5⟩ := hSw; obtain ⟨s0, _⟩ := one_cell s0; go_simp; (try with_reducible rfl); done)); (try simp only [Act.put, List.setIfInBounds_toArray, List.set_cons_zero, List.set_cons_succ]))
  (refine takeH (i := 12) (v := ?_) rfl (by kernel_rfl) (by kernel_rfl) (by kernel_rfl) (fun _ _ _ h => h) (Or.inl ⟨by rfl, ?_⟩) (by assumption) ?_; rotate_left; (focus ((intro wS hSw); (try dsimp only at hSw); obtain ⟨s0, s1, s2, s3, s4, s5⟩ := hSw; obtain ⟨s0, _⟩ := one_cell s0; go_simp; (try with_reducible rfl); done)); (try simp only [Act.put, List.setIfInBounds_toArray, List.set_cons_zero, List.set_cons_succ]))
  (refine takeH (i := 13) (v := ?_) rfl (by kernel_rfl) (by kernel_rfl) (by kernel_rfl) (fun _ _ _ h => h) (Or.inl ⟨by rfl, ?_⟩) (by assumption) ?_; rotate_left; (focus ((intro wS hSw); (try dsimp only at hSw); obtain ⟨s0, s1, s2, s3, s4, s5⟩ := hSw; obtain ⟨s0, _⟩ := one_cell s0; go_simp; (try with_reducible rfl); done)); (try simp only [Act.put, List.setIfInBounds_toArray, List.set_cons_zero, List.set_cons_succ]))
  refine aloneH (i := 14) rfl (by kernel_rfl) (fun K hK => ?_)
  rw [if_pos (by rfl)]
  go_simp; ((refine HAny.out.mono ?_); (rintro e w1 ⟨rfl, rfl⟩); (try go_simp))
  have HB1 : Hid (Below wd.heap.size wd wd) := Lib.hid (Below.refl _ _)
  refine hK.out _ _ (hHeld) (fun hNew => ?_)
  clear hK K hHeld; (have hHeld := hNew); clear hNew; (try simp only [Act.put, List.setIfInBounds_toArray, List.set_cons_zero, List.set_cons_succ])
  (refine takeH (i := 15) (v := ?_) rfl (by kernel_rfl) (by kernel_rfl) (by kernel_rfl) (fun _ _ _ h => h) (Or.inl ⟨by rfl, ?_⟩) (by assumption) ?_; rotate_left; (focus ((intro wS hSw); (try dsimp only at hSw); obtain ⟨s0, s1, s2, s3, s4, s5⟩ := hSw; obtain ⟨s0, _⟩ := one_cell s0; go_simp; (try with_reducible rfl); done)); (try simp only [Act.put, List.setIfInBounds_toArray, List.set_cons_zero, List.set_cons_succ]))
  (refine takeH (i := 16) (v := ?_) rfl (by kernel_rfl) (by kernel_rfl) (by kernel_rfl) (fun _ _ _ h => h) (Or.inl ⟨by rfl, ?_⟩) (by assumption) ?_; rotate_left; (focus ((intro wS hSw); (try dsimp only at hSw); obtain ⟨s0, s1, s2, s3, s4, s5⟩ := hSw; obtain ⟨s0, _⟩ := one_cell s0; go_simp; (try with_reducible rfl); done)); (try simp only [Act.put, List.setIfInBounds_toArray, List.set_cons_zero, List.set_cons_succ]))
  (refine takeH (i := 17) (v := ?_) rfl (by kernel_rfl) (by kernel_rfl) (by kernel_rfl) (fun _ _ _ h => h) (Or.inl ⟨by rfl, ?_⟩) (by assumption) ?_; rotate_left; (focus ((intro wS hSw); (try dsimp only at hSw); obtain ⟨s0, s1, s2, s3, s4, s5⟩ := hSw; obtain ⟨s0, _⟩ := one_cell s0; go_simp; (try with_reducible rfl); done)); (try simp only [Act.put, List.setIfInBounds_toArray, List.set_cons_zero, List.set_cons_succ]))
  refine wpAnyH_done (by kernel_rfl) ?_ _
  clear hHeld HAny
  go_wp2
  go_ret
  exact ⟨rfl, HDr.out⟩
end Go.Proofs.Ytbplhjoompgemaa
