/- Rates: what is told on a day. Rates: what is told, and what is not. -/
import Derived.Test.YtlnpflfkkjcopaaRtE
import Derived.Test.YtlnpflfkkjcopaaRtM
namespace Go.Proofs.Ytlnpflfkkjcopaa
open Go.RowKit
set_option maxRecDepth 100000
attribute [local go_sem] Oper.semAt_some

theorem code_lineOf {w : World} {base R bm n : Nat} {F : Lns} {s : ByteArray} {c : Int} (h : RtAt w base R bm n F) (hk : okKey s c) :
    Calls Try.prog 47 #[.pointer (some ⟨R, 0, none⟩), .agg #[.string s, .int .i64 c], .func (.func 48) #[] #[]] w fun e w' =>
      ∃ B, e = .returned (.pointer (some ⟨B, 0, none⟩)) ∧ Below w.heap.size w w' ∧ Lin w' B 256 (Ln F s c) ∧ base ≤ B ∧ (F s c = some (B, Ln F s c) ∨ (F s c = none ∧ w.heap.size ≤ B)) := by
  refine (lineOf_walk h hk (lnV (F s c)) (F s c).isSome rfl rfl (fun v w' => ∃ B, v = .pointer (some ⟨B, 0, none⟩) ∧ Below w.heap.size w w' ∧ Lin w' B 256 (Ln F s c) ∧ base ≤ B ∧ (F s c = some (B, Ln F s c) ∨ (F s c = none ∧ w.heap.size ≤ B))) ?_ ?_).mono ?_
  · intro hs w' hb
    obtain ⟨⟨B, L⟩, hF⟩ := Option.isSome_iff_exists.1 hs
    have e : Ln F s c = L := by unfold Ln; rw [hF]
    rw [e, hF]
    obtain ⟨h1, h2, _⟩ := h.2.2.1 s c B L hF
    exact ⟨B, rfl, hb, h1.on hb, h2, .inl rfl⟩
  · intro hs w' B hb hl hB
    have hF : F s c = none := by simpa using hs
    have e : Ln F s c = [] := by unfold Ln; rw [hF]
    rw [e]
    exact ⟨B, rfl, hb, hl, Nat.le_trans h.2.2.2.2.2.2 hB, .inr ⟨hF, hB⟩⟩
  · rintro e w' ⟨v, rfl, B, rfl, h1⟩
    exact ⟨B, rfl, h1⟩

/-- what is told, and how -/
def ratX (L : List Sp) (d : Int) : Int := if atB L d = true then atX L d else 0
def ratE (L : List Sp) (d : Int) : Int := if atB L d = true then 0 else 60
set_option maxHeartbeats 1000000 in
theorem code_rat {w : World} {base R bm n : Nat} {F : Lns} {s : ByteArray} {c : Int} (h : RtAt w base R bm n F) (hk : okKey s c) (d : Int) :
    Calls Try.prog 51 #[.pointer (some ⟨R, 0, none⟩), .agg #[.string s, .int .i64 c], .int .i64 d] w fun e w' => e = .returned (.tuple #[.int .i64 (ratX (Ln F s c) d), .int .i64 (ratE (Ln F s c) d)]) ∧ Below w.heap.size w w' := by
  obtain ⟨lv, hlv⟩ : ∃ lv, lv = lnV (F s c) := ⟨_, rfl⟩
  have hb1 := below_alloc w (.cells #[.string s, .int .i64 c] 90)
  have h1 := h.on hb1
  have hLk : ∀ W, RtAt W base R bm n F → (Instr.lookup 69 (.map (some bm)) (.agg #[.string s, .int .i64 c]) false).run Try.prog W = .ok lv W := fun W hW => by
    obtain ⟨v, hr, hv⟩ := hW.look hk false
    rw [hlv]
    rw [hv] at hr
    exact hr
  have hAt : ∀ V, RtAt V base R bm n F → Calls Try.prog 20 #[lv, .int .i64 d] V fun e w' => e = .returned (.tuple #[.int .i64 (atX (Ln F s c) d), .bool (atB (Ln F s c) d)]) ∧ Below V.heap.size V w' := fun V hV => by
    rw [hlv]
    unfold Ln
    cases hF : F s c with
    | none => exact code_at_nil V d (Nat.lt_of_le_of_lt (Nat.zero_le _) hV.bmlt)
    | some y => exact code_at' V y.1 256 y.2 d (hV.2.2.1 s c y.1 y.2 hF).1
  unfold ratX ratE
  generalize atX (Ln F s c) d = X at hAt ⊢
  generalize atB (Ln F s c) d = q at hAt ⊢
  have HLk := Lib.hid hLk
  have HAt0 := Lib.hid hAt
  have HBx := Lib.hid hb1
  have HH1 := Lib.hid h1
  have c0 := h1.cell
  obtain ⟨k0, k1, _, _⟩ := row2 (key_box w s c)
  clear hb1 h1 hLk hAt h hlv hk
  go_enter Try.func51, Try.ntmps51
  go_wp2
  refine wp_region_held_drew (S := fun V => V.cell? ⟨R, 0, none⟩ = some (.map (some bm)) ∧ V.cell? ⟨w.heap.size, 0, none⟩ = some (.string s) ∧ V.cell? ⟨w.heap.size, 1, none⟩ = some (.int .i64 c) ∧ RtAt V base R bm n F) (by kernel_rfl) ⟨c0, k0, k1, HH1.out⟩ ?_
  intro hHeld
  generalize hw1 : w.alloc (.cells #[.string s, .int .i64 c] 90) = w1 at *
  have HBd := Lib.hid (below_then HBx.out (below_drew w1))
  have HAt : Hid (∀ V, Below w1.drew.heap.size w1.drew V → Calls Try.prog 20 #[lv, .int .i64 d] V fun e w' => e = .returned (.tuple #[.int .i64 X, .bool q]) ∧ Below V.heap.size V w') := Lib.hid (fun V hb => HAt0.out V ((HH1.out.on (below_drew w1)).on hb))
  generalize w1.drew = wd at HBd HAt hHeld ⊢
  (refine takeH (i := 0) (v := ?_) rfl (by kernel_rfl) (by kernel_rfl) (by kernel_rfl) (fun _ _ _ h => h) (Or.inl ⟨by rfl, ?_⟩) (by assumption) ?_; rotate_left; (focus ((intro wS hSw); (try dsimp only at hSw); obtain ⟨s0, s1, s2, s3⟩ := hSw; go_simp; (try with_reducible rfl); done)); (try simp only [Act.put, List.setIfInBounds_toArray, List.set_cons_zero, List.set_cons_succ]))
  (refine takeH (i := 1) (v := ?_) rfl (by kernel_rfl) (by kernel_rfl) (by kernel_rfl) (fun _ _ _ h => h) (Or.inl ⟨by rfl, ?_⟩) (by assumption) ?_; rotate_left; (focus ((intro wS hSw); (try dsimp only at hSw); obtain ⟨s0, s1, s2, s3⟩ := hSw; go_simp; (try with_reducible rfl); done)); (try simp only [Act.put, List.setIfInBounds_toArray, List.set_cons_zero, List.set_cons_succ]))
  (refine takeH (i := 2) (v := ?_) rfl (by kernel_rfl) (by kernel_rfl) (by kernel_rfl) (fun _ _ _ h => h) (Or.inl ⟨by rfl, ?_⟩) (by assumption) ?_; rotate_left; (focus ((intro wS hSw); (try dsimp only at hSw); obtain ⟨s0, s1, s2, s3⟩ := hSw; go_simp; (try with_reducible rfl); done)); (try simp only [Act.put, List.setIfInBounds_toArray, List.set_cons_zero, List.set_cons_succ]))
  (refine takeH (i := 3) (v := ?_) rfl (by kernel_rfl) (by kernel_rfl) (by kernel_rfl) (fun _ _ _ h => h) (Or.inl ⟨by rfl, ?_⟩) (by assumption) ?_; rotate_left; (focus ((intro wS hSw); (try dsimp only at hSw); obtain ⟨s0, s1, s2, s3⟩ := hSw; go_simp; (try with_reducible rfl); done)); (try simp only [Act.put, List.setIfInBounds_toArray, List.set_cons_zero, List.set_cons_succ]))
  (refine takeH (i := 4) (v := ?_) rfl (by kernel_rfl) (by kernel_rfl) (by kernel_rfl) (fun _ _ _ h => h) (Or.inl ⟨by rfl, ?_⟩) (by assumption) ?_; rotate_left; (focus ((intro wS hSw); (try dsimp only at hSw); obtain ⟨s0, s1, s2, s3⟩ := hSw; go_simp; (try with_reducible rfl); done)); (try simp only [Act.put, List.setIfInBounds_toArray, List.set_cons_zero, List.set_cons_succ]))
  (refine takeH (i := 5) (v := (lv)) rfl (by kernel_rfl) (by kernel_rfl) (by kernel_rfl) (fun _ _ _ h => h) (Or.inl ⟨by rfl, by (intro wS hSw); (try dsimp only at hSw); (obtain ⟨s0, s1, s2, s3⟩ := hSw); (try simp only [execOp]); go_simp; rw [HLk.out wS s3]; rfl⟩) (by assumption) ?_; (try simp only [Act.put, List.setIfInBounds_toArray, List.set_cons_zero, List.set_cons_succ]))
  (refine takeH (i := 6) (v := ?_) rfl (by kernel_rfl) (by kernel_rfl) (by kernel_rfl) (fun _ _ _ h => h) (Or.inl ⟨by rfl, ?_⟩) (by assumption) ?_; rotate_left; (focus ((intro wS hSw); (try dsimp only at hSw); obtain ⟨s0, s1, s2, s3⟩ := hSw; go_simp; (try with_reducible rfl); done)); (try simp only [Act.put, List.setIfInBounds_toArray, List.set_cons_zero, List.set_cons_succ]))
  refine aloneH (i := 7) rfl (by kernel_rfl) (fun K hK => ?_)
  rw [if_pos (by rfl)]
  go_simp; ((refine (HAt.out _ (below_same wd)).mono ?_); (rintro e w1 ⟨rfl, hb⟩); have HB1 := Lib.hid hb; clear hb; (try go_simp))
  refine hK.out _ _ (⟨cell_on HB1.out hHeld.1, cell_on HB1.out hHeld.2.1, cell_on HB1.out hHeld.2.2.1, (hHeld.2.2.2).below HB1.out⟩) (fun hNew => ?_)
  clear hK K hHeld; (have hHeld := hNew); clear hNew; (try simp only [Act.put, List.setIfInBounds_toArray, List.set_cons_zero, List.set_cons_succ])
  (refine takeH (i := 8) (v := ?_) rfl (by kernel_rfl) (by kernel_rfl) (by kernel_rfl) (fun _ _ _ h => h) (Or.inl ⟨by rfl, ?_⟩) (by assumption) ?_; rotate_left; (focus ((intro wS hSw); (try dsimp only at hSw); obtain ⟨s0, s1, s2, s3⟩ := hSw; go_simp; (try with_reducible rfl); done)); (try simp only [Act.put, List.setIfInBounds_toArray, List.set_cons_zero, List.set_cons_succ]))
  (refine takeH (i := 9) (v := ?_) rfl (by kernel_rfl) (by kernel_rfl) (by kernel_rfl) (fun _ _ _ h => h) (Or.inl ⟨by rfl, ?_⟩) (by assumption) ?_; rotate_left; (focus ((intro wS hSw); (try dsimp only at hSw); obtain ⟨s0, s1, s2, s3⟩ := hSw; go_simp; (try with_reducible rfl); done)); (try simp only [Act.put, List.setIfInBounds_toArray, List.set_cons_zero, List.set_cons_succ]))
  (refine takeH (i := 10) (v := ?_) rfl (by kernel_rfl) (by kernel_rfl) (by kernel_rfl) (fun _ _ _ h => h) (Or.inl ⟨by rfl, ?_⟩) (by assumption) ?_; rotate_left; (focus ((intro wS hSw); (try dsimp only at hSw); obtain ⟨s0, s1, s2, s3⟩ := hSw; go_simp; (try with_reducible rfl); done)); (try simp only [Act.put, List.setIfInBounds_toArray, List.set_cons_zero, List.set_cons_succ]))
  (refine takeH (i := 11) (v := ?_) rfl (by kernel_rfl) (by kernel_rfl) (by kernel_rfl) (fun _ _ _ h => h) (Or.inl ⟨by rfl, ?_⟩) (by assumption) ?_; rotate_left; (focus ((intro wS hSw); (try dsimp only at hSw); obtain ⟨s0, s1, s2, s3⟩ := hSw; go_simp; (try with_reducible rfl); done)); (try simp only [Act.put, List.setIfInBounds_toArray, List.set_cons_zero, List.set_cons_succ]))
  (refine takeH (i := 12) (v := ?_) rfl (by kernel_rfl) (by kernel_rfl) (by kernel_rfl) (fun _ _ _ h => h) (Or.inl ⟨by rfl, ?_⟩) (by assumption) ?_; rotate_left; (focus ((intro wS hSw); (try dsimp only at hSw); obtain ⟨s0, s1, s2, s3⟩ := hSw; go_simp; (try with_reducible rfl); done)); (try simp only [Act.put, List.setIfInBounds_toArray, List.set_cons_zero, List.set_cons_succ]))
  refine wpAnyH_done (by kernel_rfl) ?_ _
  clear hHeld
  have HZ := Lib.hid (below_then HBd.out HB1.out)
  clear HB1 HBd HAt
  cases q
  all_goals
    go_wp2
    exact bodyPost_ret (results_tmp2 rfl _ _ _) rfl ⟨rfl, HZ.out⟩
end Go.Proofs.Ytlnpflfkkjcopaa

namespace Go.Proofs.Ytlnpflfkkjcopaa
open Go.RowKit
set_option maxRecDepth 100000

theorem rof_not (p : Value) (s : ByteArray) (c d : Int) (w : World) (hmade : Calls Try.prog 44 #[p] w fun e w' => e = .returned (.bool false) ∧ w = w') :
    Calls Try.prog 29 #[p, .string s, .int .i64 c, .int .i64 d] w fun e w' => e = .returned (.tuple #[.int .i64 0, .int .i64 1]) ∧ w = w' := by
  have HMade := Lib.hid hmade
  clear hmade
  go_enter Try.func29, Try.ntmps29
  go_wp2_with (go_at_call 44; refine HMade.out.mono ?_; rintro e w1 ⟨rfl, rfl⟩)
  go_ret2
  exact ⟨rfl, rfl⟩
/-- what is told of a state and a category on a day -/
def ofX (F : Lns) (s : ByteArray) (c d : Int) : Int := if (isMem s && ratB c) = true then ratX (Ln F s c) d else 0
def ofE (F : Lns) (s : ByteArray) (c d : Int) : Int := if isMem s = true then (if ratB c = true then ratE (Ln F s c) d else if c = 4 ∨ c = 5 then 0 else 2) else 40
theorem ratB_iff {c : Int} : ratB c = true ↔ 1 ≤ c ∧ c ≤ 3 := by
  unfold ratB
  rw [Bool.and_eq_true, decide_eq_true_iff, decide_eq_true_iff]
theorem mem_ok {s : ByteArray} {c : Int} (h : isMem s = true) (hc : ratB c = true) : okKey s c := ⟨by rw [mem_two h]; omega, ratB_iff.1 hc⟩
theorem beq_no {a b : Int} (h : ¬ a = b) : (a == b) = false := beq_false_of_ne h
set_option maxHeartbeats 400000 in
theorem code_of {w : World} {base R bm n : Nat} {F : Lns} (h : RtAt w base R bm n F) (s : ByteArray) (c d : Int) (hs : s.size ≤ 9223372036854775807) (hM : MaxL w) :
    Calls Try.prog 29 #[.pointer (some ⟨R, 0, none⟩), .string s, .int .i64 c, .int .i64 d] w fun e w' => e = .returned (.tuple #[.int .i64 (ofX F s c d), .int .i64 (ofE F s c d)]) ∧ Below w.heap.size w w' := by
  have HMade := Lib.hid (code_rmade h)
  have HMem := Lib.hid (code_member s w hs hM)
  have HR := Lib.hid (code_isRated c w)
  cases hm : isMem s with
  | false =>
    rw [hm] at HMem
    rw [show ofX F s c d = 0 by unfold ofX; rw [hm]; rfl, show ofE F s c d = 40 by unfold ofE; rw [hm]; rfl]
    clear h hM
    go_enter Try.func29, Try.ntmps29
    go_wp2_with (first | (go_at_call 44; refine HMade.out.mono ?_; rintro e w1 ⟨rfl, rfl⟩) | (go_at_call 45; refine HMem.out.mono ?_; rintro e w1 ⟨rfl, rfl⟩))
    go_ret2
    exact ⟨rfl, Below.refl _ _⟩
  | true =>
    rw [hm] at HMem
    cases hr : ratB c with
    | true =>
      rw [hr] at HR
      rw [show ofX F s c d = ratX (Ln F s c) d by unfold ofX; rw [hm, hr]; rfl, show ofE F s c d = ratE (Ln F s c) d by unfold ofE; rw [hm, hr]; rfl]
      have HA := Lib.hid (code_rat h (mem_ok hm hr) d)
      clear h hM
      go_enter Try.func29, Try.ntmps29
      go_wp2_with (first | (go_at_call 44; refine HMade.out.mono ?_; rintro e w1 ⟨rfl, rfl⟩) | (go_at_call 45; refine HMem.out.mono ?_; rintro e w1 ⟨rfl, rfl⟩) | (go_at_call 46; refine HR.out.mono ?_; rintro e w1 ⟨rfl, rfl⟩) | (go_at_call 51; refine HA.out.mono ?_; rintro e w1 ⟨rfl, hb⟩))
      go_ret2
      exact ⟨rfl, hb⟩
    | false =>
      rw [hr] at HR
      have hx : ofX F s c d = 0 := by unfold ofX; rw [hm, hr]; rfl
      have he : ofE F s c d = if c = 4 ∨ c = 5 then 0 else 2 := by unfold ofE; rw [hm, hr]; rfl
      rw [hx, he]
      clear h hM hx he
      by_cases h4 : c = 4
      · rw [if_pos (.inl h4)]
        subst h4
        go_enter Try.func29, Try.ntmps29
        go_wp2_with (first | (go_at_call 44; refine HMade.out.mono ?_; rintro e w1 ⟨rfl, rfl⟩) | (go_at_call 45; refine HMem.out.mono ?_; rintro e w1 ⟨rfl, rfl⟩) | (go_at_call 46; refine HR.out.mono ?_; rintro e w1 ⟨rfl, rfl⟩))
        go_ret2
        exact ⟨rfl, Below.refl _ _⟩
      · by_cases h5 : c = 5
        · rw [if_pos (.inr h5)]
          subst h5
          go_enter Try.func29, Try.ntmps29
          go_wp2_with (first | (go_at_call 44; refine HMade.out.mono ?_; rintro e w1 ⟨rfl, rfl⟩) | (go_at_call 45; refine HMem.out.mono ?_; rintro e w1 ⟨rfl, rfl⟩) | (go_at_call 46; refine HR.out.mono ?_; rintro e w1 ⟨rfl, rfl⟩))
          go_ret2
          exact ⟨rfl, Below.refl _ _⟩
        · rw [if_neg (by omega)]
          have b4 := beq_no h4
          have b5 := beq_no h5
          clear h4 h5
          go_enter Try.func29, Try.ntmps29
          go_wp2_with (first | (go_at_call 44; refine HMade.out.mono ?_; rintro e w1 ⟨rfl, rfl⟩) | (go_at_call 45; refine HMem.out.mono ?_; rintro e w1 ⟨rfl, rfl⟩) | (go_at_call 46; refine HR.out.mono ?_; rintro e w1 ⟨rfl, rfl⟩))
          go_ret2
          exact ⟨rfl, Below.refl _ _⟩

/-! ### what can't be set -/
theorem rset_not (p : Value) (s : ByteArray) (c f u x : Int) (w : World) (hmade : ∀ W, Below w.heap.size w W → Calls Try.prog 44 #[p] W fun e w' => e = .returned (.bool false) ∧ W = w') :
    Calls Try.prog 26 #[p, .string s, .int .i64 c, .agg #[.int .i64 f, .int .i64 u], .int .i64 x] w fun e w' => e = .returned (.int .i64 1) ∧ Below w.heap.size w w' := by
  have HB := Lib.hid (fun o => below_alloc w o)
  have HMade : Hid (∀ o, Calls Try.prog 44 #[p] (w.alloc o) fun e w' => e = .returned (.bool false) ∧ w.alloc o = w') := Lib.hid (fun o => hmade _ (below_alloc w o))
  clear hmade
  go_enter Try.func26, Try.ntmps26
  go_wp2_with (go_at_call 44; refine (HMade.out _).mono ?_; rintro e w1 ⟨rfl, rfl⟩)
  go_ret
  exact ⟨rfl, HB.out _⟩
theorem rset_name {w : World} {base R bm n : Nat} {F : Lns} (h : RtAt w base R bm n F) (s : ByteArray) (c f u x : Int) (hs : s.size ≤ 9223372036854775807) (hM : MaxL w) (hm : isMem s = false) :
    Calls Try.prog 26 #[.pointer (some ⟨R, 0, none⟩), .string s, .int .i64 c, .agg #[.int .i64 f, .int .i64 u], .int .i64 x] w fun e w' => e = .returned (.int .i64 40) ∧ Below w.heap.size w w' := by
  have HB := Lib.hid (fun o => below_alloc w o)
  have HMade := Lib.hid (fun o => code_rmade (h.on (below_alloc w o)))
  have HMem := Lib.hid (fun o => code_member s (w.alloc o) hs (hM.below (below_alloc w o) (Nat.le_refl _)))
  rw [hm] at HMem
  clear h hM
  go_enter Try.func26, Try.ntmps26
  go_wp2_with (first | (go_at_call 44; refine (HMade.out _).mono ?_; rintro e w1 ⟨rfl, rfl⟩) | (go_at_call 45; refine (HMem.out _).mono ?_; rintro e w1 ⟨rfl, rfl⟩))
  go_ret
  exact ⟨rfl, HB.out _⟩
set_option maxHeartbeats 400000 in
theorem rset_arg {w : World} {base R bm n : Nat} {F : Lns} (h : RtAt w base R bm n F) (s : ByteArray) (c f u x : Int) (hs : s.size ≤ 9223372036854775807) (hM : MaxL w) (hm : isMem s = true) (hr : ratB c = false ∨ (ratB c = true ∧ (x < 0 ∨ (0 ≤ x ∧ 10000 < x)))) :
    Calls Try.prog 26 #[.pointer (some ⟨R, 0, none⟩), .string s, .int .i64 c, .agg #[.int .i64 f, .int .i64 u], .int .i64 x] w fun e w' => e = .returned (.int .i64 2) ∧ Below w.heap.size w w' := by
  have HB := Lib.hid (fun o => below_alloc w o)
  have HMade := Lib.hid (fun o => code_rmade (h.on (below_alloc w o)))
  have HMem := Lib.hid (fun o => code_member s (w.alloc o) hs (hM.below (below_alloc w o) (Nat.le_refl _)))
  have HR := Lib.hid (fun o => code_isRated c (w.alloc o))
  rw [hm] at HMem
  clear h hM
  rcases hr with hr | ⟨hr, hx | ⟨hx, hx2⟩⟩
  all_goals
    rw [hr] at HR
    go_enter Try.func26, Try.ntmps26
    go_wp2_with (first | (go_at_call 44; refine (HMade.out _).mono ?_; rintro e w1 ⟨rfl, rfl⟩) | (go_at_call 45; refine (HMem.out _).mono ?_; rintro e w1 ⟨rfl, rfl⟩) | (go_at_call 46; refine (HR.out _).mono ?_; rintro e w1 ⟨rfl, rfl⟩))
    go_ret
    exact ⟨rfl, HB.out _⟩
end Go.Proofs.Ytlnpflfkkjcopaa
