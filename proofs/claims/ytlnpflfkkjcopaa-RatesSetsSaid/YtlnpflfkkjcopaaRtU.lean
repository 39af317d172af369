/- What the document tells on a day. The document's Set of rates. -/
import Derived.Test.YtlnpflfkkjcopaaRtS
namespace Go.Proofs.Ytlnpflfkkjcopaa
open Go.RowKit
set_option maxRecDepth 100000

def rofX (M : List Rt) (s : ByteArray) (c d : Int) : Int := if (isMem s && ratB c) = true then ratX (lineR M s c) d else 0
def rofE (M : List Rt) (s : ByteArray) (c d : Int) : Int := if isMem s = true then (if ratB c = true then ratE (lineR M s c) d else if c = 4 ∨ c = 5 then 0 else 2) else 40
theorem OwnQ.row' {w : World} {B : Nat} {v : Value} {L : List Sp} (h : OwnQ w B v L) : ∃ A c, v = .slice A L.length c ∧ Row w A L ∧ (A = none → L = []) := h.form
set_option maxHeartbeats 400000 in
theorem ref_of (A : Option Addr) (n : Nat) (M : List Rt) (s : ByteArray) (c d : Int) (w : World) (hr : RowR w A M) (hl : M.length ≤ 100) :
    Calls Try.prog 30 #[.slice A M.length n, .string s, .int .i64 c, .int .i64 d] w fun e w' => e = .returned (.tuple #[.int .i64 (rofX M s c d), .int .i64 (rofE M s c d)]) ∧ Below w.heap.size w w' := by
  have HMem := Lib.hid (ref_member s w)
  have HR := Lib.hid hr
  cases hm : isMem s with
  | false =>
    rw [hm] at HMem
    rw [show rofX M s c d = 0 by unfold rofX; rw [hm]; rfl, show rofE M s c d = 40 by unfold rofE; rw [hm]; rfl]
    clear hr
    go_enter Try.func30, Try.ntmps30
    go_wp2_with (go_at_call 49; refine HMem.out.mono ?_; rintro e w1 ⟨rfl, hb1⟩; have HB1 := Lib.hid hb1; clear hb1)
    go_ret2
    exact ⟨rfl, HB1.out⟩
  | true =>
    rw [hm] at HMem
    by_cases h1 : c < 1
    · have hr0 : ratB c = false := by cases h : ratB c with | false => rfl | true => (have := ratB_iff.1 h; omega)
      rw [show rofX M s c d = 0 by unfold rofX; rw [hm, hr0]; rfl, show rofE M s c d = 2 by unfold rofE; rw [hm, hr0, if_pos rfl, if_neg (by decide), if_neg (by omega)]]
      clear hr hm hr0
      go_enter Try.func30, Try.ntmps30
      go_wp2_with (go_at_call 49; refine HMem.out.mono ?_; rintro e w1 ⟨rfl, hb1⟩; have HB1 := Lib.hid hb1; clear hb1)
      go_ret2
      exact ⟨rfl, HB1.out⟩
    · by_cases h5 : 5 < c
      · have hr0 : ratB c = false := by cases h : ratB c with | false => rfl | true => (have := ratB_iff.1 h; omega)
        rw [show rofX M s c d = 0 by unfold rofX; rw [hm, hr0]; rfl, show rofE M s c d = 2 by unfold rofE; rw [hm, hr0, if_pos rfl, if_neg (by decide), if_neg (by omega)]]
        clear hr hm hr0
        go_enter Try.func30, Try.ntmps30
        go_wp2_with (go_at_call 49; refine HMem.out.mono ?_; rintro e w1 ⟨rfl, hb1⟩; have HB1 := Lib.hid hb1; clear hb1)
        go_ret2
        exact ⟨rfl, HB1.out⟩
      · by_cases h3 : 3 < c
        · have hr0 : ratB c = false := by cases h : ratB c with | false => rfl | true => (have := ratB_iff.1 h; omega)
          rw [show rofX M s c d = 0 by unfold rofX; rw [hm, hr0]; rfl, show rofE M s c d = 0 by unfold rofE; rw [hm, hr0, if_pos rfl, if_neg (by decide), if_pos (by omega)]]
          clear hr hm hr0
          go_enter Try.func30, Try.ntmps30
          go_wp2_with (go_at_call 49; refine HMem.out.mono ?_; rintro e w1 ⟨rfl, hb1⟩; have HB1 := Lib.hid hb1; clear hb1)
          go_ret2
          exact ⟨rfl, HB1.out⟩
        · have hr0 : ratB c = true := ratB_iff.2 ⟨by omega, by omega⟩
          rw [show rofX M s c d = ratX (lineR M s c) d by unfold rofX; rw [hm, hr0]; rfl, show rofE M s c d = ratE (lineR M s c) d by unfold rofE; rw [hm, hr0]; rfl]
          have HLn := Lib.hid (lineR_len M s c)
          clear hr hm hr0
          unfold ratX ratE
          have hAt0 : ∀ W A2 c2, Row W A2 (lineR M s c) → Calls Try.prog 41 #[.slice A2 (lineR M s c).length c2, .int .i64 d] W fun e w' => e = .returned (.tuple #[.int .i64 (atX (lineR M s c) d), .bool (atB (lineR M s c) d)]) ∧ W = w' := fun W A2 c2 h => ref_at W A2 c2 (lineR M s c) d h (by have := HLn.out; omega)
          generalize atX (lineR M s c) d = X at hAt0 ⊢
          generalize atB (lineR M s c) d = q at hAt0 ⊢
          have HAt0 := Lib.hid hAt0
          clear hAt0
          have HLi := Lib.hid (fun W hW => ref_line A n M s c W (HR.out.on hW) (by omega))
          go_enter Try.func30, Try.ntmps30
          go_wp2_with (first | (go_at_call 49; refine HMem.out.mono ?_; rintro e w1 ⟨rfl, hb1⟩; have HB1 := Lib.hid hb1; clear hb1) | (go_at_call 50; refine (HLi.out _ HB1.out).mono ?_; rintro e w2 ⟨v, rfl, ho, hb⟩; obtain ⟨A2, c2, rfl, hr2, _⟩ := ho.form; have HR2 := Lib.hid hr2; have HB2 := Lib.hid (below_then HB1.out hb); clear ho hr2 hb; refine Stop.out ?_))
          unfold Stop
          have HAt := Lib.hid (HAt0.out w2 A2 c2 HR2.out)
          clear HAt0
          cases q
          all_goals
            go_wp2_with (go_at_call 41; refine HAt.out.mono ?_; rintro e w3 ⟨rfl, rfl⟩)
            go_ret2
            exact ⟨rfl, HB2.out⟩
end Go.Proofs.Ytlnpflfkkjcopaa

namespace Go.Proofs.Ytlnpflfkkjcopaa
open Go.RowKit
set_option maxRecDepth 100000
attribute [local go_sem] Oper.semAt_some

theorem ownRt_nil (w : World) : OwnRt (w.alloc (.cells #[] 56)) w.heap.size (.slice (some ⟨w.heap.size, 0, none⟩) 0 0) [] :=
  World.ownsRow_lit w (e := 56) (base := w.heap.size) (size := 5) #[] 0 (Nat.le_refl _) (by unfold maxLen; omega) rfl
/-- what is appended to it, be the source nil or not -/
theorem append_rt (w : World) (base : Nat) (v : Value) (L M : List Rt) (hown : OwnRt w base v L) (A : Option Addr) (c : Nat) (hr : RowR w A M) (hA : A = none → M = []) (hl : L.length + M.length ≤ 1000) (hb : base ≤ w.heap.size) :
    ∃ v' w', (Builtin.append_ #[49, 49] 49 #[v, .slice A M.length c]).run Try.prog w = .ok v' w' ∧ OwnRt w' base v' (L ++ M) ∧ w.grownBy w' v.ownBlock := by
  obtain ⟨i0, hi, hz0, hz1, hz2⟩ := info_parts rateFact
  cases A with
  | none =>
    obtain rfl := hA rfl
    refine ⟨v, w, ?_, by simpa using hown, World.grownBy.refl w _⟩
    rcases hown.2 with ⟨rfl, h0⟩ | ⟨g, cap, cur, rfl, _, _, hnc, _⟩
    · simp [Builtin.append_, run_underlying Try.underlying49, sizeOf, typeInfo, hi, Builtin.lenOf, Builtin.firstCells]
    · simp [Builtin.append_, run_underlying Try.underlying49, sizeOf, typeInfo, hi, Builtin.lenOf, Builtin.firstCells, hnc, storeCells]
  | some a =>
    have hnews : ∀ j u, (flats M)[j]? = some u → w.cell? (a.add j) = some u := fun j u hu => by
      have hne : M ≠ [] := by
        intro e; subst e; simp [flats] at hu
      obtain ⟨b, o, e, _, hra⟩ := hr hne
      injection e with e
      subst e
      rw [Addr.add_mid]
      exact hra j u hu
    obtain ⟨v', w', h1, h2, h3, _⟩ := run_append_own (P := Try.prog) w base 49 49 56 i0 _ 5 48 Try.underlying49 hi hz0 hz1 hz2 rfl (by decide) v L.length (flats L) hown a M.length c (flats M) (by rw [flats_len]; omega) hnews (flats_one M) (by unfold maxLen; omega) (by omega) hb
    refine ⟨v', w', h1, ?_, h3⟩
    unfold OwnRt
    rw [flats_append, List.length_append]
    exact h2
theorem wp_append_rt (w : World) {o : Oper} {a : Act} {K : Act → World → Prop} {Q : Exit → Act → World → Prop} (s x : Operand)
    (ho : o.op = .call { callee := .builtin .append, args := #[s, x], argTypes := #[49, 49] }) (hty : o.type = 49) (base : Nat) (v : Value) (L : List Rt) (hs : a.eval s = v) (hown : OwnRt w base v L)
    (A : Option Addr) (n c : Nat) (M : List Rt) (hx : a.eval x = .slice A n c) (hn : M.length = n) (hr : RowR w A M) (hA : A = none → M = []) (hl : L.length + M.length ≤ 1000) (hb : base ≤ w.heap.size)
    (h : ∀ v' w', OwnRt w' base v' (L ++ M) → w.grownBy w' v.ownBlock → K (a.put o.dst v') w') : o.wp Try.prog a w K Q := by
  subst hn
  obtain ⟨v', w', hrun, h2, h3⟩ := append_rt w base v L M hown A c hr hA hl hb
  unfold Oper.wp execOp
  simp only [ho, hty, resolve, invoke, builtin, Sem.run_bind, Sem.run_pure, Result.andThen_ok, List.map_toArray, List.map_cons, List.map_nil, hs, hx, hrun]
  exact h v' w' h2 h3

def rsetE (M : List Rt) (x : Rt) : Int := if isMem x.1 = true then (if ratB x.2.1 = true ∧ 0 ≤ x.2.2.2.2 ∧ x.2.2.2.2 ≤ 10000 then refE 256 (lineR M x.1 x.2.1) x.2.2.1 x.2.2.2.1 else 2) else 40
def rsetL (M : List Rt) (x : Rt) : List Rt := if rsetE M x = 0 then M ++ [x] else M
def SetR (w : World) (M : List Rt) (x : Rt) (e : Ending) (w' : World) : Prop :=
  ∃ A' c', e = .returned (.tuple #[.slice A' (rsetL M x).length c', .int .i64 (rsetE M x)]) ∧ RowR w' A' (rsetL M x) ∧ (A' = none → rsetL M x = []) ∧ Below w.heap.size w w'
set_option maxHeartbeats 2000000 in
theorem ref_rset (A : Option Addr) (c : Nat) (M : List Rt) (x : Rt) (w : World) (hr : RowR w A M) (hA : A = none → M = []) (hl : M.length ≤ 90) :
    Calls Try.prog 28 #[.slice A M.length c, .agg #[.string x.1, .int .i64 x.2.1, .int .i64 x.2.2.1, .int .i64 x.2.2.2.1, .int .i64 x.2.2.2.2]] w (SetR w M x) := by
  have HMem := Lib.hid (fun o => ref_member x.1 (w.alloc o))
  have HR := Lib.hid hr
  have HAn := Lib.hid hA
  have HSh := Lib.hid hl
  have HI := Lib.hid (And.intro (heap_alloc_new w (.cells #[.string x.1, .int .i64 x.2.1, .int .i64 x.2.2.1, .int .i64 x.2.2.2.1, .int .i64 x.2.2.2.2] 56)) (below_alloc w (.cells #[.string x.1, .int .i64 x.2.1, .int .i64 x.2.2.1, .int .i64 x.2.2.2.1, .int .i64 x.2.2.2.2] 56)))
  have HLn := Lib.hid (lineR_len M x.1 x.2.1)
  have noL : ∀ E : Int, E ≠ 0 → rsetE M x = E → rsetL M x = M := fun E hE h => by unfold rsetL; rw [if_neg (by rw [h]; exact hE)]
  clear hr hA
  cases hm : isMem x.1 with
  | false =>
    rw [hm] at HMem
    have h1 : rsetE M x = 40 := by unfold rsetE; rw [hm]; rfl
    have HE := Lib.hid (And.intro h1 (noL 40 (by decide) h1))
    clear noL h1
    go_enter Try.func28, Try.ntmps28
    go_wp2_with (go_at_call 49; refine (HMem.out _).mono ?_; rintro e w1 ⟨rfl, hb1⟩; have HB1 := Lib.hid hb1; have HI1 := Lib.hid (heap_on hb1 HI.out.1); have HW1 := Lib.hid (below_then HI.out.2 hb1); obtain ⟨x0, x1, x2, x3, x4⟩ := row5 HI1.out; clear hb1; refine Stop.out ?_)
    unfold Stop
    go_wp2
    go_ret2
    exact ⟨A, c, by rw [HE.out.1, HE.out.2]; rfl, by rw [HE.out.2]; exact HR.out.on HW1.out, by rw [HE.out.2]; exact HAn.out, HW1.out⟩
  | true =>
    rw [hm] at HMem
    by_cases hok : ratB x.2.1 = true ∧ 0 ≤ x.2.2.2.2 ∧ x.2.2.2.2 ≤ 10000
    · have HEq : Hid (rsetE M x = refE 256 (lineR M x.1 x.2.1) x.2.2.1 x.2.2.2.1) := Lib.hid (by unfold rsetE; rw [hm, if_pos rfl, if_pos hok])
      obtain ⟨h1, h2, h3⟩ := hok
      obtain ⟨h4, h5⟩ := ratB_iff.1 h1
      clear noL hm h1
      go_enter Try.func28, Try.ntmps28
      go_wp2_with (go_at_call 49; refine (HMem.out _).mono ?_; rintro e w1 ⟨rfl, hb1⟩; have HB1 := Lib.hid hb1; have HI1 := Lib.hid (heap_on hb1 HI.out.1); have HW1 := Lib.hid (below_then HI.out.2 hb1); obtain ⟨x0, x1, x2, x3, x4⟩ := row5 HI1.out; clear hb1; refine Stop.out ?_)
      unfold Stop
      go_wp2
      have HBd := Lib.hid (below_then HW1.out (below_drew w1))
      have HId := Lib.hid (heap_on (below_drew w1) HI1.out)
      clear x0 x1 x2 x3 x4
      obtain ⟨x0, x1, x2, x3, x4⟩ := row5 HId.out
      refine wp_region_held_drew (S := fun V => V.cell? ⟨w.heap.size, 0, none⟩ = some (.string x.1) ∧ V.cell? ⟨w.heap.size, 1, none⟩ = some (.int .i64 x.2.1) ∧ V.cell? ⟨w.heap.size, 2, none⟩ = some (.int .i64 x.2.2.1) ∧ V.cell? ⟨w.heap.size, 3, none⟩ = some (.int .i64 x.2.2.2.1) ∧ V.cell? ⟨w.heap.size, 4, none⟩ = some (.int .i64 x.2.2.2.2)) (by kernel_rfl) ⟨x0, x1, x2, x3, x4⟩ ?_
      intro hHeld
      clear x0 x1 x2 x3 x4 HB1 HI1 HW1 HI
      generalize w1.drew = wd at HBd HId hHeld ⊢
      (refine takeH (i := 0) (v := ?_) rfl (by kernel_rfl) (by kernel_rfl) (by kernel_rfl) (fun _ _ _ h => h) (Or.inl ⟨by rfl, ?_⟩) (by assumption) ?_; rotate_left; (focus ((intro wS hSw); (try dsimp only at hSw); obtain ⟨s0, s1, s2, s3, s4⟩ := hSw; go_simp; (try with_reducible rfl); done)); (try simp only [Act.put, List.setIfInBounds_toArray, List.set_cons_zero, List.set_cons_succ]))
      (refine takeH (i := 1) (v := ?_) rfl (by kernel_rfl) (by kernel_rfl) (by kernel_rfl) (fun _ _ _ h => h) (Or.inl ⟨by rfl, ?_⟩) (by assumption) ?_; rotate_left; (focus ((intro wS hSw); (try dsimp only at hSw); obtain ⟨s0, s1, s2, s3, s4⟩ := hSw; go_simp; (try with_reducible rfl); done)); (try simp only [Act.put, List.setIfInBounds_toArray, List.set_cons_zero, List.set_cons_succ]))
      (refine takeH (i := 2) (v := ?_) rfl (by kernel_rfl) (by kernel_rfl) (by kernel_rfl) (fun _ _ _ h => h) (Or.inl ⟨by rfl, ?_⟩) (by assumption) ?_; rotate_left; (focus ((intro wS hSw); (try dsimp only at hSw); obtain ⟨s0, s1, s2, s3, s4⟩ := hSw; go_simp; (try with_reducible rfl); done)); (try simp only [Act.put, List.setIfInBounds_toArray, List.set_cons_zero, List.set_cons_succ]))
      (refine takeH (i := 3) (v := ?_) rfl (by kernel_rfl) (by kernel_rfl) (by kernel_rfl) (fun _ _ _ h => h) (Or.inl ⟨by rfl, ?_⟩) (by assumption) ?_; rotate_left; (focus ((intro wS hSw); (try dsimp only at hSw); obtain ⟨s0, s1, s2, s3, s4⟩ := hSw; go_simp; (try with_reducible rfl); done)); (try simp only [Act.put, List.setIfInBounds_toArray, List.set_cons_zero, List.set_cons_succ]))
      (refine takeH (i := 4) (v := ?_) rfl (by kernel_rfl) (by kernel_rfl) (by kernel_rfl) (fun _ _ _ h => h) (Or.inl ⟨by rfl, ?_⟩) (by assumption) ?_; rotate_left; (focus ((intro wS hSw); (try dsimp only at hSw); obtain ⟨s0, s1, s2, s3, s4⟩ := hSw; go_simp; (try with_reducible rfl); done)); (try simp only [Act.put, List.setIfInBounds_toArray, List.set_cons_zero, List.set_cons_succ]))
      (refine takeH (i := 6) (v := ?_) rfl (by kernel_rfl) (by kernel_rfl) (by kernel_rfl) (fun _ _ _ h => h) (Or.inl ⟨by rfl, ?_⟩) (by assumption) ?_; rotate_left; (focus ((intro wS hSw); (try dsimp only at hSw); obtain ⟨s0, s1, s2, s3, s4⟩ := hSw; go_simp; (try with_reducible rfl); done)); (try simp only [Act.put, List.setIfInBounds_toArray, List.set_cons_zero, List.set_cons_succ]))
      (refine takeH (i := 7) (v := ?_) rfl (by kernel_rfl) (by kernel_rfl) (by kernel_rfl) (fun _ _ _ h => h) (Or.inl ⟨by rfl, ?_⟩) (by assumption) ?_; rotate_left; (focus ((intro wS hSw); (try dsimp only at hSw); obtain ⟨s0, s1, s2, s3, s4⟩ := hSw; go_simp; (try with_reducible rfl); done)); (try simp only [Act.put, List.setIfInBounds_toArray, List.set_cons_zero, List.set_cons_succ]))
      refine aloneH (i := 5) rfl (by kernel_rfl) (fun K hK => ?_)
      rw [if_pos (by rfl)]
      go_simp; ((refine (ref_line A c M x.1 x.2.1 _ (HR.out.on (below_then HBd.out (below_same wd))) (by have := HSh.out; omega)).mono ?_); (rintro e w1 ⟨v, rfl, ho, hb⟩); obtain ⟨A2, c2, rfl, hr2, hn2⟩ := ho.form; have HR2 := Lib.hid (And.intro hr2 hn2); have HB1 := Lib.hid hb; clear hb ho hr2 hn2; (try go_simp))
      refine hK.out _ _ (⟨cell_on HB1.out hHeld.1, cell_on HB1.out hHeld.2.1, cell_on HB1.out hHeld.2.2.1, cell_on HB1.out hHeld.2.2.2.1, cell_on HB1.out hHeld.2.2.2.2⟩) (fun hNew => ?_)
      clear hK K hHeld; (have hHeld := hNew); clear hNew; (try simp only [Act.put, List.setIfInBounds_toArray, List.set_cons_zero, List.set_cons_succ])
      refine aloneH (i := 8) rfl (by kernel_rfl) (fun K hK => ?_)
      rw [if_pos (by rfl)]
      go_simp; ((refine (ref_set _ A2 c2 256 (lineR M x.1 x.2.1) x.2.2.1 x.2.2.2.1 x.2.2.2.2 HR2.out.1 HR2.out.2 (by have := HLn.out; have := HSh.out; omega)).mono ?_); (rintro e w2 ⟨A3, c3, rfl, _, _, hb⟩); have HB2 := Lib.hid hb; clear hb; (try go_simp))
      refine hK.out _ _ (⟨cell_on HB2.out hHeld.1, cell_on HB2.out hHeld.2.1, cell_on HB2.out hHeld.2.2.1, cell_on HB2.out hHeld.2.2.2.1, cell_on HB2.out hHeld.2.2.2.2⟩) (fun hNew => ?_)
      clear hK K hHeld; (have hHeld := hNew); clear hNew; (try simp only [Act.put, List.setIfInBounds_toArray, List.set_cons_zero, List.set_cons_succ])
      (refine takeH (i := 9) (v := ?_) rfl (by kernel_rfl) (by kernel_rfl) (by kernel_rfl) (fun _ _ _ h => h) (Or.inl ⟨by rfl, ?_⟩) (by assumption) ?_; rotate_left; (focus ((intro wS hSw); (try dsimp only at hSw); obtain ⟨s0, s1, s2, s3, s4⟩ := hSw; go_simp; (try with_reducible rfl); done)); (try simp only [Act.put, List.setIfInBounds_toArray, List.set_cons_zero, List.set_cons_succ]))
      (refine takeH (i := 10) (v := ?_) rfl (by kernel_rfl) (by kernel_rfl) (by kernel_rfl) (fun _ _ _ h => h) (Or.inl ⟨by rfl, ?_⟩) (by assumption) ?_; rotate_left; (focus ((intro wS hSw); (try dsimp only at hSw); obtain ⟨s0, s1, s2, s3, s4⟩ := hSw; go_simp; (try with_reducible rfl); done)); (try simp only [Act.put, List.setIfInBounds_toArray, List.set_cons_zero, List.set_cons_succ]))
      (refine takeH (i := 11) (v := ?_) rfl (by kernel_rfl) (by kernel_rfl) (by kernel_rfl) (fun _ _ _ h => h) (Or.inl ⟨by rfl, ?_⟩) (by assumption) ?_; rotate_left; (focus ((intro wS hSw); (try dsimp only at hSw); obtain ⟨s0, s1, s2, s3, s4⟩ := hSw; go_simp; (try with_reducible rfl); done)); (try simp only [Act.put, List.setIfInBounds_toArray, List.set_cons_zero, List.set_cons_succ]))
      (refine takeH (i := 12) (v := ?_) rfl (by kernel_rfl) (by kernel_rfl) (by kernel_rfl) (fun _ _ _ h => h) (Or.inl ⟨by rfl, ?_⟩) (by assumption) ?_; rotate_left; (focus ((intro wS hSw); (try dsimp only at hSw); obtain ⟨s0, s1, s2, s3, s4⟩ := hSw; go_simp; (try with_reducible rfl); done)); (try simp only [Act.put, List.setIfInBounds_toArray, List.set_cons_zero, List.set_cons_succ]))
      (refine takeH (i := 13) (v := ?_) rfl (by kernel_rfl) (by kernel_rfl) (by kernel_rfl) (fun _ _ _ h => h) (Or.inl ⟨by rfl, ?_⟩) (by assumption) ?_; rotate_left; (focus ((intro wS hSw); (try dsimp only at hSw); obtain ⟨s0, s1, s2, s3, s4⟩ := hSw; go_simp; (try with_reducible rfl); done)); (try simp only [Act.put, List.setIfInBounds_toArray, List.set_cons_zero, List.set_cons_succ]))
      refine wpAnyH_done (by kernel_rfl) ?_ _
      clear hHeld
      have HBe := Lib.hid (below_then HBd.out (below_then HB1.out HB2.out))
      have HI5 := Lib.hid (heap_on (below_then HB1.out HB2.out) HId.out)
      clear HB1 HB2 HR2 HBd HId
      generalize refE 256 (lineR M x.1 x.2.1) x.2.2.1 x.2.2.2.1 = E0 at *
      generalize hwx : w2 = w5 at HBe HI5 ⊢
      clear hwx
      by_cases hE : E0 = 0
      · subst hE
        go_wp2
        have HBD := Lib.hid (below_then HBe.out (below_drew w5))
        obtain ⟨x0, x1, x2, x3, x4⟩ := row5 (heap_on (below_drew w5) HI5.out)
        have HLt : Hid (w.heap.size < w5.drew.heap.size) := Lib.hid (Nat.lt_of_lt_of_le (heapLt HI5.out) (below_drew w5).size)
        have HE : Hid (rsetE M x = 0 ∧ rsetL M x = M ++ [x]) := Lib.hid (by
          have h1 := (HEq.out : rsetE M x = 0)
          exact ⟨h1, by unfold rsetL; rw [if_pos h1]⟩)
        refine wp_region_held_drew (S := fun V => V.cell? ⟨w.heap.size, 0, none⟩ = some (.string x.1) ∧ V.cell? ⟨w.heap.size, 1, none⟩ = some (.int .i64 x.2.1) ∧ V.cell? ⟨w.heap.size, 2, none⟩ = some (.int .i64 x.2.2.1) ∧ V.cell? ⟨w.heap.size, 3, none⟩ = some (.int .i64 x.2.2.2.1) ∧ V.cell? ⟨w.heap.size, 4, none⟩ = some (.int .i64 x.2.2.2.2)) (by kernel_rfl) ⟨x0, x1, x2, x3, x4⟩ ?_
        intro hHeld
        clear x0 x1 x2 x3 x4 HBe HI5 HEq
        generalize w5.drew = wd at HBD HLt hHeld ⊢
        (refine takeH (i := 1) (v := ?_) rfl (by kernel_rfl) (by kernel_rfl) (by kernel_rfl) (fun _ _ _ h => h) (Or.inl ⟨by rfl, ?_⟩) (by assumption) ?_; rotate_left; (focus ((intro wS hSw); (try dsimp only at hSw); obtain ⟨s0, s1, s2, s3, s4⟩ := hSw; go_simp; (try with_reducible rfl); done)); (try simp only [Act.put, List.setIfInBounds_toArray, List.set_cons_zero, List.set_cons_succ]))
        (refine takeH (i := 3) (v := ?_) rfl (by kernel_rfl) (by kernel_rfl) (by kernel_rfl) (fun _ _ _ h => h) (Or.inl ⟨by rfl, ?_⟩) (by assumption) ?_; rotate_left; (focus ((intro wS hSw); (try dsimp only at hSw); obtain ⟨s0, s1, s2, s3, s4⟩ := hSw; go_simp; (try with_reducible rfl); done)); (try simp only [Act.put, List.setIfInBounds_toArray, List.set_cons_zero, List.set_cons_succ]))
        refine twoH (i := 0) (i2 := 4) rfl rfl (by kernel_rfl) (fun K hK => ?_) (fun K hK => ?_)
        · rw [if_pos (by rfl)]
          go_simp
          have HO1 := Lib.hid (ownRt_nil wd)
          have HB1 := Lib.hid (below_alloc wd (.cells #[] 56))
          generalize hx : World.alloc wd (.cells #[] 56) = w1 at HO1 HB1 ⊢
          clear hx
          refine hK.out _ _ (⟨cell_on HB1.out hHeld.1, cell_on HB1.out hHeld.2.1, cell_on HB1.out hHeld.2.2.1, cell_on HB1.out hHeld.2.2.2.1, cell_on HB1.out hHeld.2.2.2.2⟩) (fun hNew => ?_)
          clear hK K hHeld; (have hHeld := hNew); clear hNew; (try simp only [Act.put, List.setIfInBounds_toArray, List.set_cons_zero, List.set_cons_succ])
          refine twoH (i := 2) (i2 := 4) rfl rfl (by kernel_rfl) (fun K hK => ?_) (fun K hK => ?_)
          · rw [if_pos (by rfl)]
            refine wp_append_rt w1 (.tmp 50) (.tmp 51) rfl rfl wd.heap.size (.slice (some ⟨wd.heap.size, 0, none⟩) 0 0) [] rfl (HO1.out.less (below_same wd).size) A M.length c M rfl rfl (HR.out.on (HBD.out.trans (((below_same wd).trans (HB1.out.mono (below_same wd).size)).mono HBD.out.size))) HAn.out (by have := HSh.out; simp; omega) ((below_same wd).trans (HB1.out.mono (below_same wd).size)).size ?_
            intro v2 wv hown hg
            have HB2 : Hid (Below wd.heap.size w1 wv) := Lib.hid ((Below.refl _ _).grown hg ((below_same wd).trans (HB1.out.mono (below_same wd).size)).size (fun k hk => by simp [Value.ownBlock] at hk; have := (below_same wd).size; omega))
            have HO2 : Hid (OwnRt wv wd.heap.size v2 M) := Lib.hid hown
            clear hown hg
            generalize wv = w2 at HO2 HB2 ⊢
            refine hK.out _ _ (⟨(HB2.out.cell HLt.out).trans hHeld.1, (HB2.out.cell HLt.out).trans hHeld.2.1, (HB2.out.cell HLt.out).trans hHeld.2.2.1, (HB2.out.cell HLt.out).trans hHeld.2.2.2.1, (HB2.out.cell HLt.out).trans hHeld.2.2.2.2⟩) (fun hNew => ?_)
            clear hK K hHeld; (have hHeld := hNew); clear hNew; (try simp only [Act.put, List.setIfInBounds_toArray, List.set_cons_zero, List.set_cons_succ])
            refine aloneH (i := 4) rfl (by kernel_rfl) (fun K hK => ?_)
            rw [if_pos (by rfl)]
            go_simp
            have HX3 := Lib.hid (heap_alloc_new w2 (.cells #[.string x.1, .int .i64 x.2.1, .int .i64 x.2.2.1, .int .i64 x.2.2.2.1, .int .i64 x.2.2.2.2] 56))
            have HB3 := Lib.hid (below_alloc w2 (.cells #[.string x.1, .int .i64 x.2.1, .int .i64 x.2.2.1, .int .i64 x.2.2.2.1, .int .i64 x.2.2.2.2] 56))
            generalize hx : World.alloc w2 (.cells #[.string x.1, .int .i64 x.2.1, .int .i64 x.2.2.1, .int .i64 x.2.2.2.1, .int .i64 x.2.2.2.2] 56) = w3 at HX3 HB3 ⊢
            clear hx
            refine hK.out _ _ (⟨cell_on HB3.out hHeld.1, cell_on HB3.out hHeld.2.1, cell_on HB3.out hHeld.2.2.1, cell_on HB3.out hHeld.2.2.2.1, cell_on HB3.out hHeld.2.2.2.2⟩) (fun hNew => ?_)
            clear hK K hHeld; (have hHeld := hNew); clear hNew; (try simp only [Act.put, List.setIfInBounds_toArray, List.set_cons_zero, List.set_cons_succ])
            refine aloneH (i := 5) rfl (by kernel_rfl) (fun K hK => ?_)
            rw [if_pos (by rfl)]
            refine wp_append_rt w3 (.tmp 52) (.tmp 54) rfl rfl wd.heap.size v2 M rfl (HO2.out.on HB3.out) (some ⟨w2.heap.size, 0, none⟩) 1 1 [x] rfl rfl (box_rt HX3.out) (by simp) (by have := HSh.out; simp; omega) ((((below_same wd).trans (HB1.out.mono (below_same wd).size)).trans HB2.out).trans (HB3.out.mono (((below_same wd).trans (HB1.out.mono (below_same wd).size)).trans HB2.out).size)).size ?_
            intro v3 wv hown hg
            have HB4 : Hid (Below wd.heap.size w3 wv) := Lib.hid ((Below.refl _ _).grown hg ((((below_same wd).trans (HB1.out.mono (below_same wd).size)).trans HB2.out).trans (HB3.out.mono (((below_same wd).trans (HB1.out.mono (below_same wd).size)).trans HB2.out).size)).size (fun k hk => (World.ownsRow.lt (HO2.out.on HB3.out) k hk).1))
            have HO4 : Hid (OwnRt wv wd.heap.size v3 (M ++ [x])) := Lib.hid hown
            clear hown hg
            generalize wv = w4 at HO4 HB4 ⊢
            refine hK.out _ _ (⟨(HB4.out.cell HLt.out).trans hHeld.1, (HB4.out.cell HLt.out).trans hHeld.2.1, (HB4.out.cell HLt.out).trans hHeld.2.2.1, (HB4.out.cell HLt.out).trans hHeld.2.2.2.1, (HB4.out.cell HLt.out).trans hHeld.2.2.2.2⟩) (fun hNew => ?_)
            clear hK K hHeld; (have hHeld := hNew); clear hNew; (try simp only [Act.put, List.setIfInBounds_toArray, List.set_cons_zero, List.set_cons_succ])
            (refine takeH (i := 6) (v := ?_) rfl (by kernel_rfl) (by kernel_rfl) (by kernel_rfl) (fun _ _ _ h => h) (Or.inl ⟨by rfl, ?_⟩) (by assumption) ?_; rotate_left; (focus ((intro wS hSw); (try dsimp only at hSw); obtain ⟨s0, s1, s2, s3, s4⟩ := hSw; go_simp; (try with_reducible rfl); done)); (try simp only [Act.put, List.setIfInBounds_toArray, List.set_cons_zero, List.set_cons_succ]))
            (refine takeH (i := 7) (v := ?_) rfl (by kernel_rfl) (by kernel_rfl) (by kernel_rfl) (fun _ _ _ h => h) (Or.inl ⟨by rfl, ?_⟩) (by assumption) ?_; rotate_left; (focus ((intro wS hSw); (try dsimp only at hSw); obtain ⟨s0, s1, s2, s3, s4⟩ := hSw; go_simp; (try with_reducible rfl); done)); (try simp only [Act.put, List.setIfInBounds_toArray, List.set_cons_zero, List.set_cons_succ]))
            refine wpAnyH_done (by kernel_rfl) ?_ _
            clear hHeld
            have HBF : Hid (Below w.heap.size w w4) := Lib.hid (HBD.out.trans ((((((below_same wd).trans (HB1.out.mono (below_same wd).size)).trans HB2.out).trans (HB3.out.mono (((below_same wd).trans (HB1.out.mono (below_same wd).size)).trans HB2.out).size)).trans HB4.out).mono HBD.out.size))
            obtain ⟨A3, c3, rfl, hr3, hn3⟩ := HO4.out.form
            have HF := Lib.hid (And.intro hr3 hn3)
            clear hr3 hn3
            go_wp2
            go_ret2
            exact ⟨A3, c3, by rw [HE.out.1, HE.out.2]; rfl, by rw [HE.out.2]; exact HF.out.1, by rw [HE.out.2]; exact HF.out.2, HBF.out⟩
          · rw [if_pos (by rfl)]
            go_simp
            have HX2 := Lib.hid (heap_alloc_new w1 (.cells #[.string x.1, .int .i64 x.2.1, .int .i64 x.2.2.1, .int .i64 x.2.2.2.1, .int .i64 x.2.2.2.2] 56))
            have HB2 := Lib.hid (below_alloc w1 (.cells #[.string x.1, .int .i64 x.2.1, .int .i64 x.2.2.1, .int .i64 x.2.2.2.1, .int .i64 x.2.2.2.2] 56))
            generalize hx : World.alloc w1 (.cells #[.string x.1, .int .i64 x.2.1, .int .i64 x.2.2.1, .int .i64 x.2.2.2.1, .int .i64 x.2.2.2.2] 56) = w2 at HX2 HB2 ⊢
            clear hx
            refine hK.out _ _ (⟨cell_on HB2.out hHeld.1, cell_on HB2.out hHeld.2.1, cell_on HB2.out hHeld.2.2.1, cell_on HB2.out hHeld.2.2.2.1, cell_on HB2.out hHeld.2.2.2.2⟩) (fun hNew => ?_)
            clear hK K hHeld; (have hHeld := hNew); clear hNew; (try simp only [Act.put, List.setIfInBounds_toArray, List.set_cons_zero, List.set_cons_succ])
            refine aloneH (i := 2) rfl (by kernel_rfl) (fun K hK => ?_)
            rw [if_pos (by rfl)]
            refine wp_append_rt w2 (.tmp 50) (.tmp 51) rfl rfl wd.heap.size (.slice (some ⟨wd.heap.size, 0, none⟩) 0 0) [] rfl ((HO1.out.on HB2.out).less (below_same wd).size) A M.length c M rfl rfl (HR.out.on (HBD.out.trans ((((below_same wd).trans (HB1.out.mono (below_same wd).size)).trans (HB2.out.mono ((below_same wd).trans (HB1.out.mono (below_same wd).size)).size)).mono HBD.out.size))) HAn.out (by have := HSh.out; simp; omega) (((below_same wd).trans (HB1.out.mono (below_same wd).size)).trans (HB2.out.mono ((below_same wd).trans (HB1.out.mono (below_same wd).size)).size)).size ?_
            intro v2 wv hown hg
            have HB3 : Hid (Below wd.heap.size w2 wv) := Lib.hid ((Below.refl _ _).grown hg (((below_same wd).trans (HB1.out.mono (below_same wd).size)).trans (HB2.out.mono ((below_same wd).trans (HB1.out.mono (below_same wd).size)).size)).size (fun k hk => by simp [Value.ownBlock] at hk; have := (below_same wd).size; omega))
            have HO3 : Hid (OwnRt wv wd.heap.size v2 M) := Lib.hid hown
            have HX3 : Hid (wv.heap[w1.heap.size]? = some (.cells #[.string x.1, .int .i64 x.2.1, .int .i64 x.2.2.1, .int .i64 x.2.2.2.1, .int .i64 x.2.2.2.2] 56 (0, 0))) := Lib.hid ((hg.block _ (heapLt HX2.out) (fun e => by have e2 : w1.heap.size = wd.heap.size := Option.some.inj e; have h1 : wd.heap.size < w1.heap.size := (World.ownsRow.lt HO1.out _ rfl).2; have h2 := (below_same w1).size; omega)).trans HX2.out)
            clear hown hg
            generalize wv = w3 at HO3 HB3 HX3 ⊢
            refine hK.out _ _ (⟨(HB3.out.cell HLt.out).trans hHeld.1, (HB3.out.cell HLt.out).trans hHeld.2.1, (HB3.out.cell HLt.out).trans hHeld.2.2.1, (HB3.out.cell HLt.out).trans hHeld.2.2.2.1, (HB3.out.cell HLt.out).trans hHeld.2.2.2.2⟩) (fun hNew => ?_)
            clear hK K hHeld; (have hHeld := hNew); clear hNew; (try simp only [Act.put, List.setIfInBounds_toArray, List.set_cons_zero, List.set_cons_succ])
            refine aloneH (i := 5) rfl (by kernel_rfl) (fun K hK => ?_)
            rw [if_pos (by rfl)]
            refine wp_append_rt w3 (.tmp 52) (.tmp 54) rfl rfl wd.heap.size v2 M rfl HO3.out (some ⟨w1.heap.size, 0, none⟩) 1 1 [x] rfl rfl (box_rt HX3.out) (by simp) (by have := HSh.out; simp; omega) ((((below_same wd).trans (HB1.out.mono (below_same wd).size)).trans (HB2.out.mono ((below_same wd).trans (HB1.out.mono (below_same wd).size)).size)).trans HB3.out).size ?_
            intro v3 wv hown hg
            have HB4 : Hid (Below wd.heap.size w3 wv) := Lib.hid ((Below.refl _ _).grown hg ((((below_same wd).trans (HB1.out.mono (below_same wd).size)).trans (HB2.out.mono ((below_same wd).trans (HB1.out.mono (below_same wd).size)).size)).trans HB3.out).size (fun k hk => (World.ownsRow.lt HO3.out k hk).1))
            have HO4 : Hid (OwnRt wv wd.heap.size v3 (M ++ [x])) := Lib.hid hown
            clear hown hg
            generalize wv = w4 at HO4 HB4 ⊢
            refine hK.out _ _ (⟨(HB4.out.cell HLt.out).trans hHeld.1, (HB4.out.cell HLt.out).trans hHeld.2.1, (HB4.out.cell HLt.out).trans hHeld.2.2.1, (HB4.out.cell HLt.out).trans hHeld.2.2.2.1, (HB4.out.cell HLt.out).trans hHeld.2.2.2.2⟩) (fun hNew => ?_)
            clear hK K hHeld; (have hHeld := hNew); clear hNew; (try simp only [Act.put, List.setIfInBounds_toArray, List.set_cons_zero, List.set_cons_succ])
            (refine takeH (i := 6) (v := ?_) rfl (by kernel_rfl) (by kernel_rfl) (by kernel_rfl) (fun _ _ _ h => h) (Or.inl ⟨by rfl, ?_⟩) (by assumption) ?_; rotate_left; (focus ((intro wS hSw); (try dsimp only at hSw); obtain ⟨s0, s1, s2, s3, s4⟩ := hSw; go_simp; (try with_reducible rfl); done)); (try simp only [Act.put, List.setIfInBounds_toArray, List.set_cons_zero, List.set_cons_succ]))
            (refine takeH (i := 7) (v := ?_) rfl (by kernel_rfl) (by kernel_rfl) (by kernel_rfl) (fun _ _ _ h => h) (Or.inl ⟨by rfl, ?_⟩) (by assumption) ?_; rotate_left; (focus ((intro wS hSw); (try dsimp only at hSw); obtain ⟨s0, s1, s2, s3, s4⟩ := hSw; go_simp; (try with_reducible rfl); done)); (try simp only [Act.put, List.setIfInBounds_toArray, List.set_cons_zero, List.set_cons_succ]))
            refine wpAnyH_done (by kernel_rfl) ?_ _
            clear hHeld
            have HBF : Hid (Below w.heap.size w w4) := Lib.hid (HBD.out.trans ((((((below_same wd).trans (HB1.out.mono (below_same wd).size)).trans (HB2.out.mono ((below_same wd).trans (HB1.out.mono (below_same wd).size)).size)).trans HB3.out).trans HB4.out).mono HBD.out.size))
            obtain ⟨A3, c3, rfl, hr3, hn3⟩ := HO4.out.form
            have HF := Lib.hid (And.intro hr3 hn3)
            clear hr3 hn3
            go_wp2
            go_ret2
            exact ⟨A3, c3, by rw [HE.out.1, HE.out.2]; rfl, by rw [HE.out.2]; exact HF.out.1, by rw [HE.out.2]; exact HF.out.2, HBF.out⟩
        · rw [if_pos (by rfl)]
          go_simp
          have HX1 := Lib.hid (heap_alloc_new wd (.cells #[.string x.1, .int .i64 x.2.1, .int .i64 x.2.2.1, .int .i64 x.2.2.2.1, .int .i64 x.2.2.2.2] 56))
          have HB1 := Lib.hid (below_alloc wd (.cells #[.string x.1, .int .i64 x.2.1, .int .i64 x.2.2.1, .int .i64 x.2.2.2.1, .int .i64 x.2.2.2.2] 56))
          generalize hx : World.alloc wd (.cells #[.string x.1, .int .i64 x.2.1, .int .i64 x.2.2.1, .int .i64 x.2.2.2.1, .int .i64 x.2.2.2.2] 56) = w1 at HX1 HB1 ⊢
          clear hx
          refine hK.out _ _ (⟨cell_on HB1.out hHeld.1, cell_on HB1.out hHeld.2.1, cell_on HB1.out hHeld.2.2.1, cell_on HB1.out hHeld.2.2.2.1, cell_on HB1.out hHeld.2.2.2.2⟩) (fun hNew => ?_)
          clear hK K hHeld; (have hHeld := hNew); clear hNew; (try simp only [Act.put, List.setIfInBounds_toArray, List.set_cons_zero, List.set_cons_succ])
          refine aloneH (i := 0) rfl (by kernel_rfl) (fun K hK => ?_)
          rw [if_pos (by rfl)]
          go_simp
          have HO2 := Lib.hid (ownRt_nil w1)
          have HB2 := Lib.hid (below_alloc w1 (.cells #[] 56))
          generalize hx : World.alloc w1 (.cells #[] 56) = w2 at HO2 HB2 ⊢
          clear hx
          refine hK.out _ _ (⟨cell_on HB2.out hHeld.1, cell_on HB2.out hHeld.2.1, cell_on HB2.out hHeld.2.2.1, cell_on HB2.out hHeld.2.2.2.1, cell_on HB2.out hHeld.2.2.2.2⟩) (fun hNew => ?_)
          clear hK K hHeld; (have hHeld := hNew); clear hNew; (try simp only [Act.put, List.setIfInBounds_toArray, List.set_cons_zero, List.set_cons_succ])
          refine aloneH (i := 2) rfl (by kernel_rfl) (fun K hK => ?_)
          rw [if_pos (by rfl)]
          refine wp_append_rt w2 (.tmp 50) (.tmp 51) rfl rfl wd.heap.size (.slice (some ⟨w1.heap.size, 0, none⟩) 0 0) [] rfl (HO2.out.less ((below_same wd).trans (HB1.out.mono (below_same wd).size)).size) A M.length c M rfl rfl (HR.out.on (HBD.out.trans ((((below_same wd).trans (HB1.out.mono (below_same wd).size)).trans (HB2.out.mono ((below_same wd).trans (HB1.out.mono (below_same wd).size)).size)).mono HBD.out.size))) HAn.out (by have := HSh.out; simp; omega) (((below_same wd).trans (HB1.out.mono (below_same wd).size)).trans (HB2.out.mono ((below_same wd).trans (HB1.out.mono (below_same wd).size)).size)).size ?_
          intro v2 wv hown hg
          have HB3 : Hid (Below wd.heap.size w2 wv) := Lib.hid ((Below.refl _ _).grown hg (((below_same wd).trans (HB1.out.mono (below_same wd).size)).trans (HB2.out.mono ((below_same wd).trans (HB1.out.mono (below_same wd).size)).size)).size (fun k hk => by simp [Value.ownBlock] at hk; have := ((below_same wd).trans (HB1.out.mono (below_same wd).size)).size; omega))
          have HO3 : Hid (OwnRt wv wd.heap.size v2 M) := Lib.hid hown
          have HX3 : Hid (wv.heap[wd.heap.size]? = some (.cells #[.string x.1, .int .i64 x.2.1, .int .i64 x.2.2.1, .int .i64 x.2.2.2.1, .int .i64 x.2.2.2.2] 56 (0, 0))) := Lib.hid ((hg.block _ (heapLt (heap_on HB2.out HX1.out)) (fun e => by have e2 : wd.heap.size = w1.heap.size := Option.some.inj e; have h1 := heapLt HX1.out; have h2 := (below_same w1).size; omega)).trans (heap_on HB2.out HX1.out))
          clear hown hg
          generalize wv = w3 at HO3 HB3 HX3 ⊢
          refine hK.out _ _ (⟨(HB3.out.cell HLt.out).trans hHeld.1, (HB3.out.cell HLt.out).trans hHeld.2.1, (HB3.out.cell HLt.out).trans hHeld.2.2.1, (HB3.out.cell HLt.out).trans hHeld.2.2.2.1, (HB3.out.cell HLt.out).trans hHeld.2.2.2.2⟩) (fun hNew => ?_)
          clear hK K hHeld; (have hHeld := hNew); clear hNew; (try simp only [Act.put, List.setIfInBounds_toArray, List.set_cons_zero, List.set_cons_succ])
          refine aloneH (i := 5) rfl (by kernel_rfl) (fun K hK => ?_)
          rw [if_pos (by rfl)]
          refine wp_append_rt w3 (.tmp 52) (.tmp 54) rfl rfl wd.heap.size v2 M rfl HO3.out (some ⟨wd.heap.size, 0, none⟩) 1 1 [x] rfl rfl (box_rt HX3.out) (by simp) (by have := HSh.out; simp; omega) ((((below_same wd).trans (HB1.out.mono (below_same wd).size)).trans (HB2.out.mono ((below_same wd).trans (HB1.out.mono (below_same wd).size)).size)).trans HB3.out).size ?_
          intro v3 wv hown hg
          have HB4 : Hid (Below wd.heap.size w3 wv) := Lib.hid ((Below.refl _ _).grown hg ((((below_same wd).trans (HB1.out.mono (below_same wd).size)).trans (HB2.out.mono ((below_same wd).trans (HB1.out.mono (below_same wd).size)).size)).trans HB3.out).size (fun k hk => (World.ownsRow.lt HO3.out k hk).1))
          have HO4 : Hid (OwnRt wv wd.heap.size v3 (M ++ [x])) := Lib.hid hown
          clear hown hg
          generalize wv = w4 at HO4 HB4 ⊢
          refine hK.out _ _ (⟨(HB4.out.cell HLt.out).trans hHeld.1, (HB4.out.cell HLt.out).trans hHeld.2.1, (HB4.out.cell HLt.out).trans hHeld.2.2.1, (HB4.out.cell HLt.out).trans hHeld.2.2.2.1, (HB4.out.cell HLt.out).trans hHeld.2.2.2.2⟩) (fun hNew => ?_)
          clear hK K hHeld; (have hHeld := hNew); clear hNew; (try simp only [Act.put, List.setIfInBounds_toArray, List.set_cons_zero, List.set_cons_succ])
          (refine takeH (i := 6) (v := ?_) rfl (by kernel_rfl) (by kernel_rfl) (by kernel_rfl) (fun _ _ _ h => h) (Or.inl ⟨by rfl, ?_⟩) (by assumption) ?_; rotate_left; (focus ((intro wS hSw); (try dsimp only at hSw); obtain ⟨s0, s1, s2, s3, s4⟩ := hSw; go_simp; (try with_reducible rfl); done)); (try simp only [Act.put, List.setIfInBounds_toArray, List.set_cons_zero, List.set_cons_succ]))
          (refine takeH (i := 7) (v := ?_) rfl (by kernel_rfl) (by kernel_rfl) (by kernel_rfl) (fun _ _ _ h => h) (Or.inl ⟨by rfl, ?_⟩) (by assumption) ?_; rotate_left; (focus ((intro wS hSw); (try dsimp only at hSw); obtain ⟨s0, s1, s2, s3, s4⟩ := hSw; go_simp; (try with_reducible rfl); done)); (try simp only [Act.put, List.setIfInBounds_toArray, List.set_cons_zero, List.set_cons_succ]))
          refine wpAnyH_done (by kernel_rfl) ?_ _
          clear hHeld
          have HBF : Hid (Below w.heap.size w w4) := Lib.hid (HBD.out.trans ((((((below_same wd).trans (HB1.out.mono (below_same wd).size)).trans (HB2.out.mono ((below_same wd).trans (HB1.out.mono (below_same wd).size)).size)).trans HB3.out).trans HB4.out).mono HBD.out.size))
          obtain ⟨A3, c3, rfl, hr3, hn3⟩ := HO4.out.form
          have HF := Lib.hid (And.intro hr3 hn3)
          clear hr3 hn3
          go_wp2
          go_ret2
          exact ⟨A3, c3, by rw [HE.out.1, HE.out.2]; rfl, by rw [HE.out.2]; exact HF.out.1, by rw [HE.out.2]; exact HF.out.2, HBF.out⟩
      · have bE := beq_no hE
        have HE : Hid (rsetE M x = E0 ∧ rsetL M x = M) := Lib.hid (by
          have h1 := (HEq.out : rsetE M x = E0)
          exact ⟨h1, by unfold rsetL; rw [if_neg (by rw [h1]; exact hE)]⟩)
        clear hE
        go_wp2
        go_ret2
        exact ⟨A, c, by rw [HE.out.1, HE.out.2]; rfl, by rw [HE.out.2]; exact HR.out.on HBe.out, by rw [HE.out.2]; exact HAn.out, HBe.out⟩
    · have h1 : rsetE M x = 2 := by unfold rsetE; rw [hm, if_pos rfl, if_neg hok]
      have HE := Lib.hid (And.intro h1 (noL 2 (by decide) h1))
      have hor : x.2.1 < 1 ∨ (1 ≤ x.2.1 ∧ 3 < x.2.1) ∨ (1 ≤ x.2.1 ∧ x.2.1 ≤ 3 ∧ x.2.2.2.2 < 0) ∨ (1 ≤ x.2.1 ∧ x.2.1 ≤ 3 ∧ 0 ≤ x.2.2.2.2 ∧ 10000 < x.2.2.2.2) := by
        by_cases k1 : 1 ≤ x.2.1 ∧ x.2.1 ≤ 3
        · have k2 : ¬ (0 ≤ x.2.2.2.2 ∧ x.2.2.2.2 ≤ 10000) := fun h => hok ⟨ratB_iff.2 k1, h⟩
          omega
        · omega
      clear noL h1 hm hok
      rcases hor with k1 | ⟨k1, k2⟩ | ⟨k1, k2, k3⟩ | ⟨k1, k2, k3, k4⟩
      all_goals
        go_enter Try.func28, Try.ntmps28
        go_wp2_with (go_at_call 49; refine (HMem.out _).mono ?_; rintro e w1 ⟨rfl, hb1⟩; have HB1 := Lib.hid hb1; have HI1 := Lib.hid (heap_on hb1 HI.out.1); have HW1 := Lib.hid (below_then HI.out.2 hb1); obtain ⟨x0, x1, x2, x3, x4⟩ := row5 HI1.out; clear hb1; refine Stop.out ?_)
        unfold Stop
        go_wp2
        go_ret2
        exact ⟨A, c, by rw [HE.out.1, HE.out.2]; rfl, by rw [HE.out.2]; exact HR.out.on HW1.out, by rw [HE.out.2]; exact HAn.out, HW1.out⟩
end Go.Proofs.Ytlnpflfkkjcopaa
