/- Rates: which line; what it tells on a day. -/
import Derived.Test.YtlnpflfkkjcopaaRtB
import Derived.Test.YtlnpflfkkjcopaaRtC
import Derived.Test.YtlnpflfkkjcopaaDrawB
namespace Go.Proofs.Ytlnpflfkkjcopaa
open Go.RowKit
set_option maxRecDepth 100000
attribute [local go_sem] Oper.semAt_some

theorem RtAt.below {w w' : World} {base R bm n : Nat} {F : Lns} (h : RtAt w base R bm n F) (hb : Below w.heap.size w w') : RtAt w' base R bm n F := h.on hb
theorem RtAt.cell {w : World} {base R bm n : Nat} {F : Lns} (h : RtAt w base R bm n F) : w.cell? ⟨R, 0, none⟩ = some (.map (some bm)) := (one_cell h.1).1
theorem neq_map (x : Nat) (W : World) : (binOp BinOp.neq 69 (.map (some x)) (.map none)).run Try.prog W = .ok (.bool true) W := by kernel_rfl
theorem neq_map0 (W : World) : (binOp BinOp.neq 69 (.map none) (.map none)).run Try.prog W = .ok (.bool false) W := by kernel_rfl
theorem code_rmade {w : World} {base R bm n : Nat} {F : Lns} (h : RtAt w base R bm n F) : Calls Try.prog 44 #[.pointer (some ⟨R, 0, none⟩)] w fun e w' => e = .returned (.bool true) ∧ w = w' := by
  have c0 := h.cell
  have hnm := neq_map
  clear h
  go_enter Try.func44, Try.ntmps44
  go_wp2
  go_ret
  exact ⟨rfl, rfl⟩
theorem code_rmade_nil (w : World) : Calls Try.prog 44 #[.pointer none] w fun e w' => e = .returned (.bool false) ∧ w = w' := by
  go_enter Try.func44, Try.ntmps44
  go_wp2
  go_ret
  exact ⟨rfl, rfl⟩
theorem code_rmade_bare (w : World) (R : Nat) (c0 : w.cell? ⟨R, 0, none⟩ = some (.map none)) : Calls Try.prog 44 #[.pointer (some ⟨R, 0, none⟩)] w fun e w' => e = .returned (.bool false) ∧ w = w' := by
  have hnm := neq_map0
  go_enter Try.func44, Try.ntmps44
  go_wp2
  go_ret
  exact ⟨rfl, rfl⟩
/-- the categories that have rates -/
def ratB (c : Int) : Bool := decide (1 ≤ c) && decide (c ≤ 3)
theorem code_isRated (c : Int) (w : World) : Calls Try.prog 46 #[.int .i64 c] w fun e w' => e = .returned (.bool (ratB c)) ∧ w = w' := by
  by_cases h1 : 1 ≤ c
  · by_cases h2 : c ≤ 3
    · rw [show ratB c = true by unfold ratB; rw [decide_eq_true h1, decide_eq_true h2]; rfl]
      go_enter Try.func46, Try.ntmps46
      go_wp2
      go_ret
      exact ⟨ret_bool (by simp [h2]), rfl⟩
    · rw [show ratB c = false by unfold ratB; rw [decide_eq_true h1, decide_eq_false h2]; rfl]
      go_enter Try.func46, Try.ntmps46
      go_wp2
      go_ret
      exact ⟨ret_bool (by simp [h2]), rfl⟩
  · rw [show ratB c = false by unfold ratB; rw [decide_eq_false h1]; rfl]
    go_enter Try.func46, Try.ntmps46
    go_wp2
    go_ret
    exact ⟨rfl, rfl⟩
theorem rt_made (w : World) (R : Nat) (hR : R = w.heap.size + 1) : RtAt ((w.alloc (.map #[] 0)).alloc (.cells #[.map (some w.heap.size)] 71)) w.heap.size R w.heap.size 0 (fun _ _ => none) := by
  subst hR
  have e := heap_alloc_new (w.alloc (.map #[] 0)) (.cells #[.map (some w.heap.size)] 71)
  rw [World.size_alloc] at e
  refine ⟨e, ⟨.map [], (World.ownsMap_made w _ _ _).alloc _, fun s c _ => ⟨rfl, rfl⟩, fun kl h => (by cases h)⟩, ?_, ?_, by omega, Nat.le_refl _, ?_⟩
  · intro s c B L h
    cases h
  · intro s c s' c' B L L' h
    cases h
  · simp
    omega
theorem code_rnew (w : World) : Calls Try.prog 24 #[] w fun e w' => e = .returned (.pointer (some ⟨w.heap.size + 1, 0, none⟩)) ∧ RtAt w' w.heap.size (w.heap.size + 1) w.heap.size 0 (fun _ _ => none) ∧ Below w.heap.size w w' := by
  have hmm := @run_makeMap Try.prog
  go_enter Try.func24, Try.ntmps24
  go_wp2
  go_ret
  refine ⟨rfl, rt_made w _ rfl, below_then (below_alloc _ _) (below_alloc _ _)⟩
/-- what a key's line is -/
def lnV (x : Option (Nat × List Sp)) : Value := match x with | none => .pointer none | some y => .pointer (some ⟨y.1, 0, none⟩)
def Ln (F : Lns) (s : ByteArray) (c : Int) : List Sp := match F s c with | none => [] | some y => y.2
theorem code_rline1 (w : World) : Calls Try.prog 48 #[] w fun e w' => ∃ B, e = .returned (.pointer (some ⟨B, 0, none⟩)) ∧ Lin w' B 256 [] ∧ Below w.heap.size w w' ∧ w.heap.size ≤ B := by
  have HN := Lib.hid (code_lnew w 256 (by decide) (by decide))
  go_enter Try.func48, Try.ntmps48
  go_wp2_with (go_at_call 10; refine HN.out.mono ?_; rintro e w1 ⟨B, rfl, h1, h2, h3⟩; have H1 := Lib.hid (And.intro h1 (And.intro h2 h3)); clear h1 h2 h3)
  go_ret
  exact ⟨B, rfl, H1.out.1, H1.out.2.1, H1.out.2.2⟩

/-- the key's own box -/
theorem key_box (w : World) (s : ByteArray) (c : Int) : (w.alloc (.cells #[.string s, .int .i64 c] 90)).heap[w.heap.size]? = some (.cells #[.string s, .int .i64 c] 90 (0, 0)) := heap_alloc_new _ _
set_option maxHeartbeats 1000000 in
theorem lineOf_walk {w : World} {base R bm n : Nat} {F : Lns} {s : ByteArray} {c : Int} (h : RtAt w base R bm n F) (hk : okKey s c) (lv : Value) (lb : Bool) (hlv : lv = lnV (F s c)) (hlb : lb = (F s c).isSome) (Q : Value → World → Prop)
    (hQ1 : lb = true → ∀ w', Below w.heap.size w w' → Q lv w') (hQ2 : lb = false → ∀ w' B, Below w.heap.size w w' → Lin w' B 256 [] → w.heap.size ≤ B → Q (.pointer (some ⟨B, 0, none⟩)) w') :
    Calls Try.prog 47 #[.pointer (some ⟨R, 0, none⟩), .agg #[.string s, .int .i64 c], .func (.func 48) #[] #[]] w fun e w' => ∃ v, e = .returned v ∧ Q v w' := by
  have hb1 := below_alloc w (.cells #[.string s, .int .i64 c] 90)
  have h1 := h.on hb1
  have hLk : ∀ W, RtAt W base R bm n F → (Instr.lookup 69 (.map (some bm)) (.agg #[.string s, .int .i64 c]) true).run Try.prog W = .ok (.tuple #[lv, .bool lb]) W := fun W hW => by
    obtain ⟨v, hr, hv⟩ := hW.look hk true
    rw [hlv, hlb]
    rw [hv] at hr
    exact hr
  have HLk := Lib.hid hLk
  have HQ1 := Lib.hid hQ1
  have HQ2 := Lib.hid hQ2
  have HB1 := Lib.hid hb1
  have HH1 := Lib.hid h1
  have c0 := h1.cell
  obtain ⟨k0, k1, _, _⟩ := row2 (key_box w s c)
  clear hb1 h1 hLk hQ1 hQ2 h hlv hlb hk
  go_enter Try.func47, Try.ntmps47
  go_wp2
  refine wp_region_held_drew (S := fun V => V.cell? ⟨R, 0, none⟩ = some (.map (some bm)) ∧ V.cell? ⟨w.heap.size, 0, none⟩ = some (.string s) ∧ V.cell? ⟨w.heap.size, 1, none⟩ = some (.int .i64 c) ∧ RtAt V base R bm n F) (by kernel_rfl) ⟨c0, k0, k1, HH1.out⟩ ?_
  intro hHeld
  generalize hw1 : w.alloc (.cells #[.string s, .int .i64 c] 90) = w1 at *
  (refine takeH (i := 0) (v := ?_) rfl (by kernel_rfl) (by kernel_rfl) (by kernel_rfl) (fun _ _ _ h => h) (Or.inl ⟨by rfl, ?_⟩) (by assumption) ?_; rotate_left; (focus ((intro wS hSw); (try dsimp only at hSw); obtain ⟨s0, s1, s2, s3⟩ := hSw; go_simp; (try with_reducible rfl); done)); (try simp only [Act.put, List.setIfInBounds_toArray, List.set_cons_zero, List.set_cons_succ]))
  (refine takeH (i := 1) (v := ?_) rfl (by kernel_rfl) (by kernel_rfl) (by kernel_rfl) (fun _ _ _ h => h) (Or.inl ⟨by rfl, ?_⟩) (by assumption) ?_; rotate_left; (focus ((intro wS hSw); (try dsimp only at hSw); obtain ⟨s0, s1, s2, s3⟩ := hSw; go_simp; (try with_reducible rfl); done)); (try simp only [Act.put, List.setIfInBounds_toArray, List.set_cons_zero, List.set_cons_succ]))
  (refine takeH (i := 2) (v := ?_) rfl (by kernel_rfl) (by kernel_rfl) (by kernel_rfl) (fun _ _ _ h => h) (Or.inl ⟨by rfl, ?_⟩) (by assumption) ?_; rotate_left; (focus ((intro wS hSw); (try dsimp only at hSw); obtain ⟨s0, s1, s2, s3⟩ := hSw; go_simp; (try with_reducible rfl); done)); (try simp only [Act.put, List.setIfInBounds_toArray, List.set_cons_zero, List.set_cons_succ]))
  (refine takeH (i := 3) (v := ?_) rfl (by kernel_rfl) (by kernel_rfl) (by kernel_rfl) (fun _ _ _ h => h) (Or.inl ⟨by rfl, ?_⟩) (by assumption) ?_; rotate_left; (focus ((intro wS hSw); (try dsimp only at hSw); obtain ⟨s0, s1, s2, s3⟩ := hSw; go_simp; (try with_reducible rfl); done)); (try simp only [Act.put, List.setIfInBounds_toArray, List.set_cons_zero, List.set_cons_succ]))
  (refine takeH (i := 4) (v := ?_) rfl (by kernel_rfl) (by kernel_rfl) (by kernel_rfl) (fun _ _ _ h => h) (Or.inl ⟨by rfl, ?_⟩) (by assumption) ?_; rotate_left; (focus ((intro wS hSw); (try dsimp only at hSw); obtain ⟨s0, s1, s2, s3⟩ := hSw; go_simp; (try with_reducible rfl); done)); (try simp only [Act.put, List.setIfInBounds_toArray, List.set_cons_zero, List.set_cons_succ]))
  (refine takeH (i := 5) (v := (.tuple #[lv, .bool lb])) rfl (by kernel_rfl) (by kernel_rfl) (by kernel_rfl) (fun _ _ _ h => h) (Or.inl ⟨by rfl, by (intro wS hSw); (try dsimp only at hSw); (obtain ⟨s0, s1, s2, s3⟩ := hSw); (try simp only [execOp]); go_simp; rw [HLk.out wS s3]; rfl⟩) (by assumption) ?_; (try simp only [Act.put, List.setIfInBounds_toArray, List.set_cons_zero, List.set_cons_succ]))
  (refine takeH (i := 6) (v := ?_) rfl (by kernel_rfl) (by kernel_rfl) (by kernel_rfl) (fun _ _ _ h => h) (Or.inl ⟨by rfl, ?_⟩) (by assumption) ?_; rotate_left; (focus ((intro wS hSw); (try dsimp only at hSw); obtain ⟨s0, s1, s2, s3⟩ := hSw; go_simp; (try with_reducible rfl); done)); (try simp only [Act.put, List.setIfInBounds_toArray, List.set_cons_zero, List.set_cons_succ]))
  (refine takeH (i := 7) (v := ?_) rfl (by kernel_rfl) (by kernel_rfl) (by kernel_rfl) (fun _ _ _ h => h) (Or.inl ⟨by rfl, ?_⟩) (by assumption) ?_; rotate_left; (focus ((intro wS hSw); (try dsimp only at hSw); obtain ⟨s0, s1, s2, s3⟩ := hSw; go_simp; (try with_reducible rfl); done)); (try simp only [Act.put, List.setIfInBounds_toArray, List.set_cons_zero, List.set_cons_succ]))
  (refine takeH (i := 8) (v := ?_) rfl (by kernel_rfl) (by kernel_rfl) (by kernel_rfl) (fun _ _ _ h => h) (Or.inl ⟨by rfl, ?_⟩) (by assumption) ?_; rotate_left; (focus ((intro wS hSw); (try dsimp only at hSw); obtain ⟨s0, s1, s2, s3⟩ := hSw; go_simp; (try with_reducible rfl); done)); (try simp only [Act.put, List.setIfInBounds_toArray, List.set_cons_zero, List.set_cons_succ]))
  (refine takeH (i := 9) (v := ?_) rfl (by kernel_rfl) (by kernel_rfl) (by kernel_rfl) (fun _ _ _ h => h) (Or.inl ⟨by rfl, ?_⟩) (by assumption) ?_; rotate_left; (focus ((intro wS hSw); (try dsimp only at hSw); obtain ⟨s0, s1, s2, s3⟩ := hSw; go_simp; (try with_reducible rfl); done)); (try simp only [Act.put, List.setIfInBounds_toArray, List.set_cons_zero, List.set_cons_succ]))
  (refine takeH (i := 10) (v := ?_) rfl (by kernel_rfl) (by kernel_rfl) (by kernel_rfl) (fun _ _ _ h => h) (Or.inl ⟨by rfl, ?_⟩) (by assumption) ?_; rotate_left; (focus ((intro wS hSw); (try dsimp only at hSw); obtain ⟨s0, s1, s2, s3⟩ := hSw; go_simp; (try with_reducible rfl); done)); (try simp only [Act.put, List.setIfInBounds_toArray, List.set_cons_zero, List.set_cons_succ]))
  refine wpAnyH_done (by kernel_rfl) ?_ _
  clear hHeld
  cases lb with
  | true =>
    go_wp2
    go_ret
    exact ⟨_, rfl, HQ1.out trivial _ (below_then HB1.out (below_drew w1))⟩
  | false =>
    have HN := Lib.hid (code_rline1 w1.drew)
    go_wp2_with (go_at_call 48; refine HN.out.mono ?_; rintro e w2 ⟨B, rfl, h1, h2, h3⟩; have H1 := Lib.hid (And.intro h1 (And.intro h2 h3)); clear h1 h2 h3)
    go_ret
    exact ⟨_, rfl, HQ2.out trivial _ B (below_then HB1.out (below_then (below_drew w1) H1.out.2.1)) H1.out.1 (Nat.le_trans (HB1.out.size) H1.out.2.2)⟩
end Go.Proofs.Ytlnpflfkkjcopaa
