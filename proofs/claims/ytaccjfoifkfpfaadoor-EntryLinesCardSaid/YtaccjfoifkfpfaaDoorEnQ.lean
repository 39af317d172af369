/- A row as a text: the document's side. -/
import Derived.Test.YtaccjfoifkfpfaaDoorEnG
import Derived.Test.YtaccjfoifkfpfaaDoorEnL
import Derived.Test.YtaccjfoifkfpfaaDoorEnR
import Derived.Deep.MidRow
namespace Go.Proofs.YtaccjfoifkfpfaaDoor
open Go.RowKit
set_option maxRecDepth 100000
set_option linter.unusedSimpArgs false
set_option linter.unusedVariables false

theorem ref_dec (n : Int) (h0 : -9223372036854775808 ≤ n) (h1 : n ≤ 9223372036854775807) (w : World) :
    Calls Tryd.prog 34 #[.int .i64 n] w fun e w' => e = .returned (.string (itoaS n)) ∧ Below w.heap.size w w' := by
  by_cases hz : n = 0
  · subst hz
    have e : itoaS 0 = ⟨#[48]⟩ := by unfold itoaS Lib.itoa; rw [if_neg (by decide), Lib.decDigits, dif_pos (by decide)]; rfl
    rw [e]
    go_enter Tryd.func34, Tryd.ntmps34
    go_wp2
    go_ret
    exact ⟨rfl, Below.refl _ _⟩
  · exact ref_decimal n h0 h1 hz w
open Go in
theorem yieldsIf_load_rowE {P : Program} {ops : Array Oper} {S : World → Prop} {op : Oper} {a : Act} (hw : Region.wanted op (yielded ops a.tmps) = true) (ty : TypeId) (x : Operand) (ho : op.op = .load ty x)
    (g : Nat) (hx : a.eval x = .pointer (some ⟨g, 0, none⟩)) (t : TypeId) (cs : Array Value) (fr : Nat × Nat) (d : TypeDesc) (hg : ∀ w, S w → w.heap[g]? = some (.cells cs t fr))
    (hu : P.underlying ty = some d) (hd : (match d with | .struct _ | .array _ _ => true | _ => false) = true) (hi : (P.info? ty).map (·.size) = some cs.size) : YieldsIf P ops S op (.agg cs) a :=
  .inl ⟨hw, fun w hw' => by
    unfold execOp
    simp only [ho, hx, Instr.loadAt, Instr.sureAddr, Sem.run_bind, Sem.run_pure, Result.andThen_ok, run_loadVar_row w g t ty cs fr d (hg w hw') hu hd hi]⟩
def lineL (lt : Bool) (sz d0 d1 d2 d3 d4 : ByteArray) : ByteArray :=
  if lt = true then sz ++ ⟨#[32]⟩ ++ d0 ++ ⟨#[32]⟩ ++ d1 ++ ⟨#[32]⟩ ++ d2 ++ ⟨#[32]⟩ ++ d3 ++ ⟨#[32]⟩ ++ d4 ++ ⟨#[32, 76]⟩ else sz ++ ⟨#[32]⟩ ++ d0 ++ ⟨#[32]⟩ ++ d1 ++ ⟨#[32]⟩ ++ d2 ++ ⟨#[32]⟩ ++ d3 ++ ⟨#[32]⟩ ++ d4
set_option maxHeartbeats 4000000 in
theorem ref_line_true (R : Array Value) (tr rt ba tx ow de : Int) (lt : Bool) (nm d0 d1 d2 d3 d4 : ByteArray) (w : World)
    (hIn : (Tryd.prog.info? 25).map (·.size) = some R.size)
    (e7 : R[7]? = some (.bool true)) (e9 : R[9]? = some (.int .i64 tr)) (e10 : R[10]? = some (.int .i64 rt)) (e13 : R[13]? = some (.int .i64 ba)) (e14 : R[14]? = some (.int .i64 tx)) (e15 : R[15]? = some (.int .i64 de))
    (hn : ∀ W, Calls Tryd.prog 33 #[.int .i64 tr] W fun e w1 => e = .returned (.string nm) ∧ W = w1)
    (hd0 : ∀ W, Calls Tryd.prog 34 #[.int .i64 rt] W fun e w1 => e = .returned (.string d0) ∧ Below W.heap.size W w1) (h0 : d0.size ≤ 1000)
    (hd1 : ∀ W, Calls Tryd.prog 34 #[.int .i64 ba] W fun e w1 => e = .returned (.string d1) ∧ Below W.heap.size W w1) (h1 : d1.size ≤ 1000)
    (hd2 : ∀ W, Calls Tryd.prog 34 #[.int .i64 tx] W fun e w1 => e = .returned (.string d2) ∧ Below W.heap.size W w1) (h2 : d2.size ≤ 1000)
    (hd3 : ∀ W, Calls Tryd.prog 34 #[.int .i64 ow] W fun e w1 => e = .returned (.string d3) ∧ Below W.heap.size W w1) (h3 : d3.size ≤ 1000)
    (hd4 : ∀ W, Calls Tryd.prog 34 #[.int .i64 de] W fun e w1 => e = .returned (.string d4) ∧ Below W.heap.size W w1) (h4 : d4.size ≤ 1000)
    (ho : ∀ W, Calls Tryd.prog 15 #[.agg R] W fun e w1 => e = .returned (.int .i64 ow) ∧ Below W.heap.size W w1)
    (hl : ∀ W, Calls Tryd.prog 13 #[.agg R] W fun e w1 => e = .returned (.bool lt) ∧ Below W.heap.size W w1) (hnm : nm.size ≤ 40) :
    Calls Tryd.prog 20 #[.agg R] w fun e w' => e = .returned (.string (lineL lt (nm ++ ⟨#[32, 83]⟩) d0 d1 d2 d3 d4)) ∧ Below w.heap.size w w' := by
  have HIn := Lib.hid hIn
  have HNm := Lib.hid hn
  have HLt := Lib.hid hl
  have HOw := Lib.hid ho
  have HD0 := Lib.hid hd0
  have HD1 := Lib.hid hd1
  have HD2 := Lib.hid hd2
  have HD3 := Lib.hid hd3
  have HD4 := Lib.hid hd4
  have HX0 : Hid ((w.alloc (.cells R 25)).heap[w.heap.size]? = some (.cells R 25 (0, 0))) := Lib.hid (heap_alloc_new w _)
  have HBd : Hid (Below w.heap.size w (w.alloc (.cells R 25)).drew) := Lib.hid (below_alloc _ _).drew
  have c7 := (cell_of_row _ _ 7 _ _ _ HX0.out).trans e7
  have c9 := (cell_of_row _ _ 9 _ _ _ HX0.out).trans e9
  have HS : Hid ((w.alloc (.cells R 25)).drew.cell? ⟨w.heap.size, 10, none⟩ = some (.int .i64 rt) ∧ (w.alloc (.cells R 25)).drew.cell? ⟨w.heap.size, 13, none⟩ = some (.int .i64 ba) ∧ (w.alloc (.cells R 25)).drew.cell? ⟨w.heap.size, 14, none⟩ = some (.int .i64 tx) ∧ (w.alloc (.cells R 25)).drew.cell? ⟨w.heap.size, 15, none⟩ = some (.int .i64 de) ∧ (w.alloc (.cells R 25)).drew.heap[w.heap.size]? = some (.cells R 25 (0, 0))) := Lib.hid (by
    have hx := heap_on (Below.refl _ _).drew HX0.out
    exact ⟨(cell_of_row _ _ 10 _ _ _ hx).trans e10, (cell_of_row _ _ 13 _ _ _ hx).trans e13, (cell_of_row _ _ 14 _ _ _ hx).trans e14, (cell_of_row _ _ 15 _ _ _ hx).trans e15, hx⟩)
  have k0 : ¬ 9223372036854775807 < nm.size + 2 := by omega
  have HSz : Hid ((nm ++ (⟨#[32, 83]⟩ : ByteArray)).size ≤ 42) := Lib.hid (by rw [ByteArray.size_append]; show nm.size + 2 ≤ 42; omega)
  have HH := Lib.hid (And.intro h0 (And.intro h1 (And.intro h2 (And.intro h3 h4))))
  clear hIn e7 e9 e10 e13 e14 e15 hn hl ho hnm HX0 h0 h1 h2 h3 h4 hd0 hd1 hd2 hd3 hd4
  obtain ⟨V, hV⟩ : ∃ V, V = lineL lt (nm ++ ⟨#[32, 83]⟩) d0 d1 d2 d3 d4 := ⟨_, rfl⟩
  rw [← hV]
  have HV := Lib.hid hV
  clear hV
  go_enter Tryd.func20, Tryd.ntmps20
  go_wp2_with (go_at_call 33; refine (HNm.out _).mono ?_; rintro e w1 ⟨rfl, rfl⟩)
  clear c7 c9 k0
  refine wp_region_held_drew (S := fun W => W.cell? ⟨w.heap.size, 10, none⟩ = some (.int .i64 rt) ∧ W.cell? ⟨w.heap.size, 13, none⟩ = some (.int .i64 ba) ∧ W.cell? ⟨w.heap.size, 14, none⟩ = some (.int .i64 tx) ∧ W.cell? ⟨w.heap.size, 15, none⟩ = some (.int .i64 de) ∧ W.heap[w.heap.size]? = some (.cells R 25 (0, 0))) (by kernel_rfl) HS.out ?_
  intro hHeld
  clear HS
  generalize (w.alloc (.cells R 25)).drew = wd at HBd hHeld ⊢
  obtain ⟨sz, hsz⟩ : ∃ sz, sz = nm ++ (⟨#[32, 83]⟩ : ByteArray) := ⟨_, rfl⟩
  have hszl : sz.size ≤ 42 := by rw [hsz]; exact HSz.out
  obtain ⟨h0, h1, h2, h3, h4⟩ := HH.out
  rw [← hsz] at HV ⊢
  have k1 : ¬ 9223372036854775807 < sz.size + 1 := by omega
  have k2 : ¬ 9223372036854775807 < sz.size + 1 + d0.size := by omega
  have k3 : ¬ 9223372036854775807 < sz.size + 1 + d0.size + 1 := by omega
  have k4 : ¬ 9223372036854775807 < sz.size + 1 + d0.size + 1 + d1.size := by omega
  have k5 : ¬ 9223372036854775807 < sz.size + 1 + d0.size + 1 + d1.size + 1 := by omega
  have k6 : ¬ 9223372036854775807 < sz.size + 1 + d0.size + 1 + d1.size + 1 + d2.size := by omega
  have k7 : ¬ 9223372036854775807 < sz.size + 1 + d0.size + 1 + d1.size + 1 + d2.size + 1 := by omega
  have k8 : ¬ 9223372036854775807 < sz.size + 1 + d0.size + 1 + d1.size + 1 + d2.size + 1 + d3.size := by omega
  have k9 : ¬ 9223372036854775807 < sz.size + 1 + d0.size + 1 + d1.size + 1 + d2.size + 1 + d3.size + 1 := by omega
  have k10 : ¬ 9223372036854775807 < sz.size + 1 + d0.size + 1 + d1.size + 1 + d2.size + 1 + d3.size + 1 + d4.size := by omega
  have k11 : ¬ 9223372036854775807 < sz.size + 1 + d0.size + 1 + d1.size + 1 + d2.size + 1 + d3.size + 1 + d4.size + 2 := by omega
  clear hsz hszl h0 h1 h2 h3 h4 HH HSz
  (refine takeH (i := 0) (v := ?_) rfl (by kernel_rfl) (by kernel_rfl) (by kernel_rfl) (fun _ _ _ h => h) (Or.inl ⟨by rfl, ?_⟩) (by assumption) ?_; rotate_left; (focus ((intro wS hSw); (try dsimp only at hSw); obtain ⟨s0, s1, s2, s3, s4⟩ := hSw; go_simp; (try with_reducible rfl); done)); (try simp only [Act.put, List.setIfInBounds_toArray, List.set_cons_zero, List.set_cons_succ]))
  (refine takeH (i := 1) (v := ?_) rfl (by kernel_rfl) (by kernel_rfl) (by kernel_rfl) (fun _ _ _ h => h) (Or.inl ⟨by rfl, ?_⟩) (by assumption) ?_; rotate_left; (focus ((intro wS hSw); (try dsimp only at hSw); obtain ⟨s0, s1, s2, s3, s4⟩ := hSw; go_simp; (try with_reducible rfl); done)); (try simp only [Act.put, List.setIfInBounds_toArray, List.set_cons_zero, List.set_cons_succ]))
  (refine takeH (i := 2) (v := ?_) rfl (by kernel_rfl) (by kernel_rfl) (by kernel_rfl) (fun _ _ _ h => h) (Or.inl ⟨by rfl, ?_⟩) (by assumption) ?_; rotate_left; (focus ((intro wS hSw); (try dsimp only at hSw); obtain ⟨s0, s1, s2, s3, s4⟩ := hSw; go_simp; (try with_reducible rfl); done)); (try simp only [Act.put, List.setIfInBounds_toArray, List.set_cons_zero, List.set_cons_succ]))
  (refine takeH (i := 3) (v := ?_) rfl (by kernel_rfl) (by kernel_rfl) (by kernel_rfl) (fun _ _ _ h => h) (Or.inl ⟨by rfl, ?_⟩) (by assumption) ?_; rotate_left; (focus ((intro wS hSw); (try dsimp only at hSw); obtain ⟨s0, s1, s2, s3, s4⟩ := hSw; go_simp; (try with_reducible rfl); done)); (try simp only [Act.put, List.setIfInBounds_toArray, List.set_cons_zero, List.set_cons_succ]))
  (refine takeH (i := 7) (v := ?_) rfl (by kernel_rfl) (by kernel_rfl) (by kernel_rfl) (fun _ _ _ h => h) (Or.inl ⟨by rfl, ?_⟩) (by assumption) ?_; rotate_left; (focus ((intro wS hSw); (try dsimp only at hSw); obtain ⟨s0, s1, s2, s3, s4⟩ := hSw; go_simp; (try with_reducible rfl); done)); (try simp only [Act.put, List.setIfInBounds_toArray, List.set_cons_zero, List.set_cons_succ]))
  (refine takeH (i := 8) (v := ?_) rfl (by kernel_rfl) (by kernel_rfl) (by kernel_rfl) (fun _ _ _ h => h) (Or.inl ⟨by rfl, ?_⟩) (by assumption) ?_; rotate_left; (focus ((intro wS hSw); (try dsimp only at hSw); obtain ⟨s0, s1, s2, s3, s4⟩ := hSw; go_simp; (try with_reducible rfl); done)); (try simp only [Act.put, List.setIfInBounds_toArray, List.set_cons_zero, List.set_cons_succ]))
  (refine takeH (i := 12) (v := ?_) rfl (by kernel_rfl) (by kernel_rfl) (by kernel_rfl) (fun _ _ _ h => h) (Or.inl ⟨by rfl, ?_⟩) (by assumption) ?_; rotate_left; (focus ((intro wS hSw); (try dsimp only at hSw); obtain ⟨s0, s1, s2, s3, s4⟩ := hSw; go_simp; (try with_reducible rfl); done)); (try simp only [Act.put, List.setIfInBounds_toArray, List.set_cons_zero, List.set_cons_succ]))
  (refine takeH (i := 13) (v := ?_) rfl (by kernel_rfl) (by kernel_rfl) (by kernel_rfl) (fun _ _ _ h => h) (Or.inl ⟨by rfl, ?_⟩) (by assumption) ?_; rotate_left; (focus ((intro wS hSw); (try dsimp only at hSw); obtain ⟨s0, s1, s2, s3, s4⟩ := hSw; go_simp; (try with_reducible rfl); done)); (try simp only [Act.put, List.setIfInBounds_toArray, List.set_cons_zero, List.set_cons_succ]))
  (refine takeH (i := 17) (v := (.agg R)) rfl (by kernel_rfl) (by kernel_rfl) (by kernel_rfl) (fun _ _ _ h => h) (yieldsIf_load_rowE (by rfl) 25 (.tmp 1) rfl w.heap.size rfl 25 R (0, 0) _ (fun W h => h.2.2.2.2) Tryd.underlying25 rfl HIn.out) (by assumption) ?_; (try simp only [Act.put, List.setIfInBounds_toArray, List.set_cons_zero, List.set_cons_succ]))
  (refine takeH (i := 22) (v := ?_) rfl (by kernel_rfl) (by kernel_rfl) (by kernel_rfl) (fun _ _ _ h => h) (Or.inl ⟨by rfl, ?_⟩) (by assumption) ?_; rotate_left; (focus ((intro wS hSw); (try dsimp only at hSw); obtain ⟨s0, s1, s2, s3, s4⟩ := hSw; go_simp; (try with_reducible rfl); done)); (try simp only [Act.put, List.setIfInBounds_toArray, List.set_cons_zero, List.set_cons_succ]))
  (refine takeH (i := 23) (v := ?_) rfl (by kernel_rfl) (by kernel_rfl) (by kernel_rfl) (fun _ _ _ h => h) (Or.inl ⟨by rfl, ?_⟩) (by assumption) ?_; rotate_left; (focus ((intro wS hSw); (try dsimp only at hSw); obtain ⟨s0, s1, s2, s3, s4⟩ := hSw; go_simp; (try with_reducible rfl); done)); (try simp only [Act.put, List.setIfInBounds_toArray, List.set_cons_zero, List.set_cons_succ]))
  refine aloneH (i := 4) rfl (by kernel_rfl) (fun K hK => ?_)
  rw [if_pos (by rfl)]
  go_simp; ((refine (HD0.out wd).mono ?_); (rintro e w1 ⟨rfl, hb⟩); have HB1 := Lib.hid hb; clear hb; (try go_simp))
  refine hK.out _ _ (⟨cell_on HB1.out hHeld.1, cell_on HB1.out hHeld.2.1, cell_on HB1.out hHeld.2.2.1, cell_on HB1.out hHeld.2.2.2.1, heap_on HB1.out hHeld.2.2.2.2⟩) (fun hNew => ?_)
  clear hK K hHeld; (have hHeld := hNew); clear hNew; (try simp only [Act.put, List.setIfInBounds_toArray, List.set_cons_zero, List.set_cons_succ])
  (refine takeH (i := 5) (v := ?_) rfl (by kernel_rfl) (by kernel_rfl) (by kernel_rfl) (fun _ _ _ h => h) (Or.inl ⟨by rfl, ?_⟩) (by assumption) ?_; rotate_left; (focus ((intro wS hSw); (try dsimp only at hSw); obtain ⟨s0, s1, s2, s3, s4⟩ := hSw; go_simp; (try with_reducible rfl); done)); (try simp only [Act.put, List.setIfInBounds_toArray, List.set_cons_zero, List.set_cons_succ]))
  (refine takeH (i := 6) (v := ?_) rfl (by kernel_rfl) (by kernel_rfl) (by kernel_rfl) (fun _ _ _ h => h) (Or.inl ⟨by rfl, ?_⟩) (by assumption) ?_; rotate_left; (focus ((intro wS hSw); (try dsimp only at hSw); obtain ⟨s0, s1, s2, s3, s4⟩ := hSw; go_simp; (try with_reducible rfl); done)); (try simp only [Act.put, List.setIfInBounds_toArray, List.set_cons_zero, List.set_cons_succ]))
  refine aloneH (i := 9) rfl (by kernel_rfl) (fun K hK => ?_)
  rw [if_pos (by rfl)]
  go_simp; ((refine (HD1.out w1).mono ?_); (rintro e w2 ⟨rfl, hb⟩); have HB2 := Lib.hid hb; clear hb; (try go_simp))
  refine hK.out _ _ (⟨cell_on HB2.out hHeld.1, cell_on HB2.out hHeld.2.1, cell_on HB2.out hHeld.2.2.1, cell_on HB2.out hHeld.2.2.2.1, heap_on HB2.out hHeld.2.2.2.2⟩) (fun hNew => ?_)
  clear hK K hHeld; (have hHeld := hNew); clear hNew; (try simp only [Act.put, List.setIfInBounds_toArray, List.set_cons_zero, List.set_cons_succ])
  (refine takeH (i := 10) (v := ?_) rfl (by kernel_rfl) (by kernel_rfl) (by kernel_rfl) (fun _ _ _ h => h) (Or.inl ⟨by rfl, ?_⟩) (by assumption) ?_; rotate_left; (focus ((intro wS hSw); (try dsimp only at hSw); obtain ⟨s0, s1, s2, s3, s4⟩ := hSw; go_simp; (try with_reducible rfl); done)); (try simp only [Act.put, List.setIfInBounds_toArray, List.set_cons_zero, List.set_cons_succ]))
  (refine takeH (i := 11) (v := ?_) rfl (by kernel_rfl) (by kernel_rfl) (by kernel_rfl) (fun _ _ _ h => h) (Or.inl ⟨by rfl, ?_⟩) (by assumption) ?_; rotate_left; (focus ((intro wS hSw); (try dsimp only at hSw); obtain ⟨s0, s1, s2, s3, s4⟩ := hSw; go_simp; (try with_reducible rfl); done)); (try simp only [Act.put, List.setIfInBounds_toArray, List.set_cons_zero, List.set_cons_succ]))
  refine aloneH (i := 14) rfl (by kernel_rfl) (fun K hK => ?_)
  rw [if_pos (by rfl)]
  go_simp; ((refine (HD2.out w2).mono ?_); (rintro e w3 ⟨rfl, hb⟩); have HB3 := Lib.hid hb; clear hb; (try go_simp))
  refine hK.out _ _ (⟨cell_on HB3.out hHeld.1, cell_on HB3.out hHeld.2.1, cell_on HB3.out hHeld.2.2.1, cell_on HB3.out hHeld.2.2.2.1, heap_on HB3.out hHeld.2.2.2.2⟩) (fun hNew => ?_)
  clear hK K hHeld; (have hHeld := hNew); clear hNew; (try simp only [Act.put, List.setIfInBounds_toArray, List.set_cons_zero, List.set_cons_succ])
  (refine takeH (i := 15) (v := ?_) rfl (by kernel_rfl) (by kernel_rfl) (by kernel_rfl) (fun _ _ _ h => h) (Or.inl ⟨by rfl, ?_⟩) (by assumption) ?_; rotate_left; (focus ((intro wS hSw); (try dsimp only at hSw); obtain ⟨s0, s1, s2, s3, s4⟩ := hSw; go_simp; (try with_reducible rfl); done)); (try simp only [Act.put, List.setIfInBounds_toArray, List.set_cons_zero, List.set_cons_succ]))
  (refine takeH (i := 16) (v := ?_) rfl (by kernel_rfl) (by kernel_rfl) (by kernel_rfl) (fun _ _ _ h => h) (Or.inl ⟨by rfl, ?_⟩) (by assumption) ?_; rotate_left; (focus ((intro wS hSw); (try dsimp only at hSw); obtain ⟨s0, s1, s2, s3, s4⟩ := hSw; go_simp; (try with_reducible rfl); done)); (try simp only [Act.put, List.setIfInBounds_toArray, List.set_cons_zero, List.set_cons_succ]))
  refine aloneH (i := 18) rfl (by kernel_rfl) (fun K hK => ?_)
  rw [if_pos (by rfl)]
  go_simp; ((refine (HOw.out w3).mono ?_); (rintro e w4 ⟨rfl, hb⟩); have HB4 := Lib.hid hb; clear hb; (try go_simp))
  refine hK.out _ _ (⟨cell_on HB4.out hHeld.1, cell_on HB4.out hHeld.2.1, cell_on HB4.out hHeld.2.2.1, cell_on HB4.out hHeld.2.2.2.1, heap_on HB4.out hHeld.2.2.2.2⟩) (fun hNew => ?_)
  clear hK K hHeld; (have hHeld := hNew); clear hNew; (try simp only [Act.put, List.setIfInBounds_toArray, List.set_cons_zero, List.set_cons_succ])
  refine aloneH (i := 19) rfl (by kernel_rfl) (fun K hK => ?_)
  rw [if_pos (by rfl)]
  go_simp; ((refine (HD3.out w4).mono ?_); (rintro e w5 ⟨rfl, hb⟩); have HB5 := Lib.hid hb; clear hb; (try go_simp))
  refine hK.out _ _ (⟨cell_on HB5.out hHeld.1, cell_on HB5.out hHeld.2.1, cell_on HB5.out hHeld.2.2.1, cell_on HB5.out hHeld.2.2.2.1, heap_on HB5.out hHeld.2.2.2.2⟩) (fun hNew => ?_)
  clear hK K hHeld; (have hHeld := hNew); clear hNew; (try simp only [Act.put, List.setIfInBounds_toArray, List.set_cons_zero, List.set_cons_succ])
  (refine takeH (i := 20) (v := ?_) rfl (by kernel_rfl) (by kernel_rfl) (by kernel_rfl) (fun _ _ _ h => h) (Or.inl ⟨by rfl, ?_⟩) (by assumption) ?_; rotate_left; (focus ((intro wS hSw); (try dsimp only at hSw); obtain ⟨s0, s1, s2, s3, s4⟩ := hSw; go_simp; (try with_reducible rfl); done)); (try simp only [Act.put, List.setIfInBounds_toArray, List.set_cons_zero, List.set_cons_succ]))
  (refine takeH (i := 21) (v := ?_) rfl (by kernel_rfl) (by kernel_rfl) (by kernel_rfl) (fun _ _ _ h => h) (Or.inl ⟨by rfl, ?_⟩) (by assumption) ?_; rotate_left; (focus ((intro wS hSw); (try dsimp only at hSw); obtain ⟨s0, s1, s2, s3, s4⟩ := hSw; go_simp; (try with_reducible rfl); done)); (try simp only [Act.put, List.setIfInBounds_toArray, List.set_cons_zero, List.set_cons_succ]))
  refine aloneH (i := 24) rfl (by kernel_rfl) (fun K hK => ?_)
  rw [if_pos (by rfl)]
  go_simp; ((refine (HD4.out w5).mono ?_); (rintro e w6 ⟨rfl, hb⟩); have HB6 := Lib.hid hb; clear hb; (try go_simp))
  refine hK.out _ _ (⟨cell_on HB6.out hHeld.1, cell_on HB6.out hHeld.2.1, cell_on HB6.out hHeld.2.2.1, cell_on HB6.out hHeld.2.2.2.1, heap_on HB6.out hHeld.2.2.2.2⟩) (fun hNew => ?_)
  clear hK K hHeld; (have hHeld := hNew); clear hNew; (try simp only [Act.put, List.setIfInBounds_toArray, List.set_cons_zero, List.set_cons_succ])
  (refine takeH (i := 25) (v := ?_) rfl (by kernel_rfl) (by kernel_rfl) (by kernel_rfl) (fun _ _ _ h => h) (Or.inl ⟨by rfl, ?_⟩) (by assumption) ?_; rotate_left; (focus ((intro wS hSw); (try dsimp only at hSw); obtain ⟨s0, s1, s2, s3, s4⟩ := hSw; go_simp; (try with_reducible rfl); done)); (try simp only [Act.put, List.setIfInBounds_toArray, List.set_cons_zero, List.set_cons_succ]))
  (refine takeH (i := 26) (v := ?_) rfl (by kernel_rfl) (by kernel_rfl) (by kernel_rfl) (fun _ _ _ h => h) (Or.inl ⟨by rfl, ?_⟩) (by assumption) ?_; rotate_left; (focus ((intro wS hSw); (try dsimp only at hSw); obtain ⟨s0, s1, s2, s3, s4⟩ := hSw; go_simp; (try with_reducible rfl); done)); (try simp only [Act.put, List.setIfInBounds_toArray, List.set_cons_zero, List.set_cons_succ]))
  refine wpAnyH_done (by kernel_rfl) ?_ _
  have HX9 := Lib.hid hHeld.2.2.2.2
  have HB9 : Hid (Below w.heap.size w w6) := Lib.hid (HBd.out.trans ((below_then (below_then (below_then (below_then (below_then HB1.out HB2.out) HB3.out) HB4.out) HB5.out) HB6.out).mono HBd.out.size))
  clear hHeld HBd
  go_wp2_with ((with_reducible refine wpList_load_row (o := ⟨some 39, _, _, _, _, _⟩) ?a1 25 (.tmp 1) ?a2 w.heap.size ?a3 25 R (0, 0) _ HX9.out Tryd.underlying25 ?a4 HIn.out ?_); (case a1 => rfl); (case a2 => rfl); (case a3 => rfl); (case a4 => rfl); refine Stop.out ?_)
  unfold Stop
  go_wp2_with (go_at_call 13; refine (HLt.out _).mono ?_; rintro e wl ⟨rfl, hb⟩; have HBl := Lib.hid (below_then HB9.out hb); clear hb; refine Stop.out ?_)
  unfold Stop
  cases lt
  · go_wp2
    go_ret
    exact ⟨by rw [HV.out]; rfl, HBl.out⟩
  · go_wp2
    go_ret
    exact ⟨by rw [HV.out]; rfl, HBl.out⟩
set_option maxHeartbeats 4000000 in
theorem ref_line_false (R : Array Value) (tr rt ba tx ow de : Int) (lt : Bool) (nm d0 d1 d2 d3 d4 : ByteArray) (w : World)
    (hIn : (Tryd.prog.info? 25).map (·.size) = some R.size)
    (e7 : R[7]? = some (.bool false)) (e9 : R[9]? = some (.int .i64 tr)) (e10 : R[10]? = some (.int .i64 rt)) (e13 : R[13]? = some (.int .i64 ba)) (e14 : R[14]? = some (.int .i64 tx)) (e15 : R[15]? = some (.int .i64 de))
    (hn : ∀ W, Calls Tryd.prog 33 #[.int .i64 tr] W fun e w1 => e = .returned (.string nm) ∧ W = w1)
    (hd0 : ∀ W, Calls Tryd.prog 34 #[.int .i64 rt] W fun e w1 => e = .returned (.string d0) ∧ Below W.heap.size W w1) (h0 : d0.size ≤ 1000)
    (hd1 : ∀ W, Calls Tryd.prog 34 #[.int .i64 ba] W fun e w1 => e = .returned (.string d1) ∧ Below W.heap.size W w1) (h1 : d1.size ≤ 1000)
    (hd2 : ∀ W, Calls Tryd.prog 34 #[.int .i64 tx] W fun e w1 => e = .returned (.string d2) ∧ Below W.heap.size W w1) (h2 : d2.size ≤ 1000)
    (hd3 : ∀ W, Calls Tryd.prog 34 #[.int .i64 ow] W fun e w1 => e = .returned (.string d3) ∧ Below W.heap.size W w1) (h3 : d3.size ≤ 1000)
    (hd4 : ∀ W, Calls Tryd.prog 34 #[.int .i64 de] W fun e w1 => e = .returned (.string d4) ∧ Below W.heap.size W w1) (h4 : d4.size ≤ 1000)
    (ho : ∀ W, Calls Tryd.prog 15 #[.agg R] W fun e w1 => e = .returned (.int .i64 ow) ∧ Below W.heap.size W w1)
    (hl : ∀ W, Calls Tryd.prog 13 #[.agg R] W fun e w1 => e = .returned (.bool lt) ∧ Below W.heap.size W w1) (hnm : nm.size ≤ 40) :
    Calls Tryd.prog 20 #[.agg R] w fun e w' => e = .returned (.string (lineL lt (nm ++ ⟨#[32, 80]⟩) d0 d1 d2 d3 d4)) ∧ Below w.heap.size w w' := by
  have HIn := Lib.hid hIn
  have HNm := Lib.hid hn
  have HLt := Lib.hid hl
  have HOw := Lib.hid ho
  have HD0 := Lib.hid hd0
  have HD1 := Lib.hid hd1
  have HD2 := Lib.hid hd2
  have HD3 := Lib.hid hd3
  have HD4 := Lib.hid hd4
  have HX0 : Hid ((w.alloc (.cells R 25)).heap[w.heap.size]? = some (.cells R 25 (0, 0))) := Lib.hid (heap_alloc_new w _)
  have HBd : Hid (Below w.heap.size w (w.alloc (.cells R 25)).drew) := Lib.hid (below_alloc _ _).drew
  have c7 := (cell_of_row _ _ 7 _ _ _ HX0.out).trans e7
  have c9 := (cell_of_row _ _ 9 _ _ _ HX0.out).trans e9
  have HS : Hid ((w.alloc (.cells R 25)).drew.cell? ⟨w.heap.size, 10, none⟩ = some (.int .i64 rt) ∧ (w.alloc (.cells R 25)).drew.cell? ⟨w.heap.size, 13, none⟩ = some (.int .i64 ba) ∧ (w.alloc (.cells R 25)).drew.cell? ⟨w.heap.size, 14, none⟩ = some (.int .i64 tx) ∧ (w.alloc (.cells R 25)).drew.cell? ⟨w.heap.size, 15, none⟩ = some (.int .i64 de) ∧ (w.alloc (.cells R 25)).drew.heap[w.heap.size]? = some (.cells R 25 (0, 0))) := Lib.hid (by
    have hx := heap_on (Below.refl _ _).drew HX0.out
    exact ⟨(cell_of_row _ _ 10 _ _ _ hx).trans e10, (cell_of_row _ _ 13 _ _ _ hx).trans e13, (cell_of_row _ _ 14 _ _ _ hx).trans e14, (cell_of_row _ _ 15 _ _ _ hx).trans e15, hx⟩)
  have k0 : ¬ 9223372036854775807 < nm.size + 2 := by omega
  have HSz : Hid ((nm ++ (⟨#[32, 80]⟩ : ByteArray)).size ≤ 42) := Lib.hid (by rw [ByteArray.size_append]; show nm.size + 2 ≤ 42; omega)
  have HH := Lib.hid (And.intro h0 (And.intro h1 (And.intro h2 (And.intro h3 h4))))
  clear hIn e7 e9 e10 e13 e14 e15 hn hl ho hnm HX0 h0 h1 h2 h3 h4 hd0 hd1 hd2 hd3 hd4
  obtain ⟨V, hV⟩ : ∃ V, V = lineL lt (nm ++ ⟨#[32, 80]⟩) d0 d1 d2 d3 d4 := ⟨_, rfl⟩
  rw [← hV]
  have HV := Lib.hid hV
  clear hV
  go_enter Tryd.func20, Tryd.ntmps20
  go_wp2_with (go_at_call 33; refine (HNm.out _).mono ?_; rintro e w1 ⟨rfl, rfl⟩)
  clear c7 c9 k0
  refine wp_region_held_drew (S := fun W => W.cell? ⟨w.heap.size, 10, none⟩ = some (.int .i64 rt) ∧ W.cell? ⟨w.heap.size, 13, none⟩ = some (.int .i64 ba) ∧ W.cell? ⟨w.heap.size, 14, none⟩ = some (.int .i64 tx) ∧ W.cell? ⟨w.heap.size, 15, none⟩ = some (.int .i64 de) ∧ W.heap[w.heap.size]? = some (.cells R 25 (0, 0))) (by kernel_rfl) HS.out ?_
  intro hHeld
  clear HS
  generalize (w.alloc (.cells R 25)).drew = wd at HBd hHeld ⊢
  obtain ⟨sz, hsz⟩ : ∃ sz, sz = nm ++ (⟨#[32, 80]⟩ : ByteArray) := ⟨_, rfl⟩
  have hszl : sz.size ≤ 42 := by rw [hsz]; exact HSz.out
  obtain ⟨h0, h1, h2, h3, h4⟩ := HH.out
  rw [← hsz] at HV ⊢
  have k1 : ¬ 9223372036854775807 < sz.size + 1 := by omega
  have k2 : ¬ 9223372036854775807 < sz.size + 1 + d0.size := by omega
  have k3 : ¬ 9223372036854775807 < sz.size + 1 + d0.size + 1 := by omega
  have k4 : ¬ 9223372036854775807 < sz.size + 1 + d0.size + 1 + d1.size := by omega
  have k5 : ¬ 9223372036854775807 < sz.size + 1 + d0.size + 1 + d1.size + 1 := by omega
  have k6 : ¬ 9223372036854775807 < sz.size + 1 + d0.size + 1 + d1.size + 1 + d2.size := by omega
  have k7 : ¬ 9223372036854775807 < sz.size + 1 + d0.size + 1 + d1.size + 1 + d2.size + 1 := by omega
  have k8 : ¬ 9223372036854775807 < sz.size + 1 + d0.size + 1 + d1.size + 1 + d2.size + 1 + d3.size := by omega
  have k9 : ¬ 9223372036854775807 < sz.size + 1 + d0.size + 1 + d1.size + 1 + d2.size + 1 + d3.size + 1 := by omega
  have k10 : ¬ 9223372036854775807 < sz.size + 1 + d0.size + 1 + d1.size + 1 + d2.size + 1 + d3.size + 1 + d4.size := by omega
  have k11 : ¬ 9223372036854775807 < sz.size + 1 + d0.size + 1 + d1.size + 1 + d2.size + 1 + d3.size + 1 + d4.size + 2 := by omega
  clear hsz hszl h0 h1 h2 h3 h4 HH HSz
  (refine takeH (i := 0) (v := ?_) rfl (by kernel_rfl) (by kernel_rfl) (by kernel_rfl) (fun _ _ _ h => h) (Or.inl ⟨by rfl, ?_⟩) (by assumption) ?_; rotate_left; (focus ((intro wS hSw); (try dsimp only at hSw); obtain ⟨s0, s1, s2, s3, s4⟩ := hSw; go_simp; (try with_reducible rfl); done)); (try simp only [Act.put, List.setIfInBounds_toArray, List.set_cons_zero, List.set_cons_succ]))
  (refine takeH (i := 1) (v := ?_) rfl (by kernel_rfl) (by kernel_rfl) (by kernel_rfl) (fun _ _ _ h => h) (Or.inl ⟨by rfl, ?_⟩) (by assumption) ?_; rotate_left; (focus ((intro wS hSw); (try dsimp only at hSw); obtain ⟨s0, s1, s2, s3, s4⟩ := hSw; go_simp; (try with_reducible rfl); done)); (try simp only [Act.put, List.setIfInBounds_toArray, List.set_cons_zero, List.set_cons_succ]))
  (refine takeH (i := 2) (v := ?_) rfl (by kernel_rfl) (by kernel_rfl) (by kernel_rfl) (fun _ _ _ h => h) (Or.inl ⟨by rfl, ?_⟩) (by assumption) ?_; rotate_left; (focus ((intro wS hSw); (try dsimp only at hSw); obtain ⟨s0, s1, s2, s3, s4⟩ := hSw; go_simp; (try with_reducible rfl); done)); (try simp only [Act.put, List.setIfInBounds_toArray, List.set_cons_zero, List.set_cons_succ]))
  (refine takeH (i := 3) (v := ?_) rfl (by kernel_rfl) (by kernel_rfl) (by kernel_rfl) (fun _ _ _ h => h) (Or.inl ⟨by rfl, ?_⟩) (by assumption) ?_; rotate_left; (focus ((intro wS hSw); (try dsimp only at hSw); obtain ⟨s0, s1, s2, s3, s4⟩ := hSw; go_simp; (try with_reducible rfl); done)); (try simp only [Act.put, List.setIfInBounds_toArray, List.set_cons_zero, List.set_cons_succ]))
  (refine takeH (i := 7) (v := ?_) rfl (by kernel_rfl) (by kernel_rfl) (by kernel_rfl) (fun _ _ _ h => h) (Or.inl ⟨by rfl, ?_⟩) (by assumption) ?_; rotate_left; (focus ((intro wS hSw); (try dsimp only at hSw); obtain ⟨s0, s1, s2, s3, s4⟩ := hSw; go_simp; (try with_reducible rfl); done)); (try simp only [Act.put, List.setIfInBounds_toArray, List.set_cons_zero, List.set_cons_succ]))
  (refine takeH (i := 8) (v := ?_) rfl (by kernel_rfl) (by kernel_rfl) (by kernel_rfl) (fun _ _ _ h => h) (Or.inl ⟨by rfl, ?_⟩) (by assumption) ?_; rotate_left; (focus ((intro wS hSw); (try dsimp only at hSw); obtain ⟨s0, s1, s2, s3, s4⟩ := hSw; go_simp; (try with_reducible rfl); done)); (try simp only [Act.put, List.setIfInBounds_toArray, List.set_cons_zero, List.set_cons_succ]))
  (refine takeH (i := 12) (v := ?_) rfl (by kernel_rfl) (by kernel_rfl) (by kernel_rfl) (fun _ _ _ h => h) (Or.inl ⟨by rfl, ?_⟩) (by assumption) ?_; rotate_left; (focus ((intro wS hSw); (try dsimp only at hSw); obtain ⟨s0, s1, s2, s3, s4⟩ := hSw; go_simp; (try with_reducible rfl); done)); (try simp only [Act.put, List.setIfInBounds_toArray, List.set_cons_zero, List.set_cons_succ]))
  (refine takeH (i := 13) (v := ?_) rfl (by kernel_rfl) (by kernel_rfl) (by kernel_rfl) (fun _ _ _ h => h) (Or.inl ⟨by rfl, ?_⟩) (by assumption) ?_; rotate_left; (focus ((intro wS hSw); (try dsimp only at hSw); obtain ⟨s0, s1, s2, s3, s4⟩ := hSw; go_simp; (try with_reducible rfl); done)); (try simp only [Act.put, List.setIfInBounds_toArray, List.set_cons_zero, List.set_cons_succ]))
  (refine takeH (i := 17) (v := (.agg R)) rfl (by kernel_rfl) (by kernel_rfl) (by kernel_rfl) (fun _ _ _ h => h) (yieldsIf_load_rowE (by rfl) 25 (.tmp 1) rfl w.heap.size rfl 25 R (0, 0) _ (fun W h => h.2.2.2.2) Tryd.underlying25 rfl HIn.out) (by assumption) ?_; (try simp only [Act.put, List.setIfInBounds_toArray, List.set_cons_zero, List.set_cons_succ]))
  (refine takeH (i := 22) (v := ?_) rfl (by kernel_rfl) (by kernel_rfl) (by kernel_rfl) (fun _ _ _ h => h) (Or.inl ⟨by rfl, ?_⟩) (by assumption) ?_; rotate_left; (focus ((intro wS hSw); (try dsimp only at hSw); obtain ⟨s0, s1, s2, s3, s4⟩ := hSw; go_simp; (try with_reducible rfl); done)); (try simp only [Act.put, List.setIfInBounds_toArray, List.set_cons_zero, List.set_cons_succ]))
  (refine takeH (i := 23) (v := ?_) rfl (by kernel_rfl) (by kernel_rfl) (by kernel_rfl) (fun _ _ _ h => h) (Or.inl ⟨by rfl, ?_⟩) (by assumption) ?_; rotate_left; (focus ((intro wS hSw); (try dsimp only at hSw); obtain ⟨s0, s1, s2, s3, s4⟩ := hSw; go_simp; (try with_reducible rfl); done)); (try simp only [Act.put, List.setIfInBounds_toArray, List.set_cons_zero, List.set_cons_succ]))
  refine aloneH (i := 4) rfl (by kernel_rfl) (fun K hK => ?_)
  rw [if_pos (by rfl)]
  go_simp; ((refine (HD0.out wd).mono ?_); (rintro e w1 ⟨rfl, hb⟩); have HB1 := Lib.hid hb; clear hb; (try go_simp))
  refine hK.out _ _ (⟨cell_on HB1.out hHeld.1, cell_on HB1.out hHeld.2.1, cell_on HB1.out hHeld.2.2.1, cell_on HB1.out hHeld.2.2.2.1, heap_on HB1.out hHeld.2.2.2.2⟩) (fun hNew => ?_)
  clear hK K hHeld; (have hHeld := hNew); clear hNew; (try simp only [Act.put, List.setIfInBounds_toArray, List.set_cons_zero, List.set_cons_succ])
  (refine takeH (i := 5) (v := ?_) rfl (by kernel_rfl) (by kernel_rfl) (by kernel_rfl) (fun _ _ _ h => h) (Or.inl ⟨by rfl, ?_⟩) (by assumption) ?_; rotate_left; (focus ((intro wS hSw); (try dsimp only at hSw); obtain ⟨s0, s1, s2, s3, s4⟩ := hSw; go_simp; (try with_reducible rfl); done)); (try simp only [Act.put, List.setIfInBounds_toArray, List.set_cons_zero, List.set_cons_succ]))
  (refine takeH (i := 6) (v := ?_) rfl (by kernel_rfl) (by kernel_rfl) (by kernel_rfl) (fun _ _ _ h => h) (Or.inl ⟨by rfl, ?_⟩) (by assumption) ?_; rotate_left; (focus ((intro wS hSw); (try dsimp only at hSw); obtain ⟨s0, s1, s2, s3, s4⟩ := hSw; go_simp; (try with_reducible rfl); done)); (try simp only [Act.put, List.setIfInBounds_toArray, List.set_cons_zero, List.set_cons_succ]))
  refine aloneH (i := 9) rfl (by kernel_rfl) (fun K hK => ?_)
  rw [if_pos (by rfl)]
  go_simp; ((refine (HD1.out w1).mono ?_); (rintro e w2 ⟨rfl, hb⟩); have HB2 := Lib.hid hb; clear hb; (try go_simp))
  refine hK.out _ _ (⟨cell_on HB2.out hHeld.1, cell_on HB2.out hHeld.2.1, cell_on HB2.out hHeld.2.2.1, cell_on HB2.out hHeld.2.2.2.1, heap_on HB2.out hHeld.2.2.2.2⟩) (fun hNew => ?_)
  clear hK K hHeld; (have hHeld := hNew); clear hNew; (try simp only [Act.put, List.setIfInBounds_toArray, List.set_cons_zero, List.set_cons_succ])
  (refine takeH (i := 10) (v := ?_) rfl (by kernel_rfl) (by kernel_rfl) (by kernel_rfl) (fun _ _ _ h => h) (Or.inl ⟨by rfl, ?_⟩) (by assumption) ?_; rotate_left; (focus ((intro wS hSw); (try dsimp only at hSw); obtain ⟨s0, s1, s2, s3, s4⟩ := hSw; go_simp; (try with_reducible rfl); done)); (try simp only [Act.put, List.setIfInBounds_toArray, List.set_cons_zero, List.set_cons_succ]))
  (refine takeH (i := 11) (v := ?_) rfl (by kernel_rfl) (by kernel_rfl) (by kernel_rfl) (fun _ _ _ h => h) (Or.inl ⟨by rfl, ?_⟩) (by assumption) ?_; rotate_left; (focus ((intro wS hSw); (try dsimp only at hSw); obtain ⟨s0, s1, s2, s3, s4⟩ := hSw; go_simp; (try with_reducible rfl); done)); (try simp only [Act.put, List.setIfInBounds_toArray, List.set_cons_zero, List.set_cons_succ]))
  refine aloneH (i := 14) rfl (by kernel_rfl) (fun K hK => ?_)
  rw [if_pos (by rfl)]
  go_simp; ((refine (HD2.out w2).mono ?_); (rintro e w3 ⟨rfl, hb⟩); have HB3 := Lib.hid hb; clear hb; (try go_simp))
  refine hK.out _ _ (⟨cell_on HB3.out hHeld.1, cell_on HB3.out hHeld.2.1, cell_on HB3.out hHeld.2.2.1, cell_on HB3.out hHeld.2.2.2.1, heap_on HB3.out hHeld.2.2.2.2⟩) (fun hNew => ?_)
  clear hK K hHeld; (have hHeld := hNew); clear hNew; (try simp only [Act.put, List.setIfInBounds_toArray, List.set_cons_zero, List.set_cons_succ])
  (refine takeH (i := 15) (v := ?_) rfl (by kernel_rfl) (by kernel_rfl) (by kernel_rfl) (fun _ _ _ h => h) (Or.inl ⟨by rfl, ?_⟩) (by assumption) ?_; rotate_left; (focus ((intro wS hSw); (try dsimp only at hSw); obtain ⟨s0, s1, s2, s3, s4⟩ := hSw; go_simp; (try with_reducible rfl); done)); (try simp only [Act.put, List.setIfInBounds_toArray, List.set_cons_zero, List.set_cons_succ]))
  (refine takeH (i := 16) (v := ?_) rfl (by kernel_rfl) (by kernel_rfl) (by kernel_rfl) (fun _ _ _ h => h) (Or.inl ⟨by rfl, ?_⟩) (by assumption) ?_; rotate_left; (focus ((intro wS hSw); (try dsimp only at hSw); obtain ⟨s0, s1, s2, s3, s4⟩ := hSw; go_simp; (try with_reducible rfl); done)); (try simp only [Act.put, List.setIfInBounds_toArray, List.set_cons_zero, List.set_cons_succ]))
  refine aloneH (i := 18) rfl (by kernel_rfl) (fun K hK => ?_)
  rw [if_pos (by rfl)]
  go_simp; ((refine (HOw.out w3).mono ?_); (rintro e w4 ⟨rfl, hb⟩); have HB4 := Lib.hid hb; clear hb; (try go_simp))
  refine hK.out _ _ (⟨cell_on HB4.out hHeld.1, cell_on HB4.out hHeld.2.1, cell_on HB4.out hHeld.2.2.1, cell_on HB4.out hHeld.2.2.2.1, heap_on HB4.out hHeld.2.2.2.2⟩) (fun hNew => ?_)
  clear hK K hHeld; (have hHeld := hNew); clear hNew; (try simp only [Act.put, List.setIfInBounds_toArray, List.set_cons_zero, List.set_cons_succ])
  refine aloneH (i := 19) rfl (by kernel_rfl) (fun K hK => ?_)
  rw [if_pos (by rfl)]
  go_simp; ((refine (HD3.out w4).mono ?_); (rintro e w5 ⟨rfl, hb⟩); have HB5 := Lib.hid hb; clear hb; (try go_simp))
  refine hK.out _ _ (⟨cell_on HB5.out hHeld.1, cell_on HB5.out hHeld.2.1, cell_on HB5.out hHeld.2.2.1, cell_on HB5.out hHeld.2.2.2.1, heap_on HB5.out hHeld.2.2.2.2⟩) (fun hNew => ?_)
  clear hK K hHeld; (have hHeld := hNew); clear hNew; (try simp only [Act.put, List.setIfInBounds_toArray, List.set_cons_zero, List.set_cons_succ])
  (refine takeH (i := 20) (v := ?_) rfl (by kernel_rfl) (by kernel_rfl) (by kernel_rfl) (fun _ _ _ h => h) (Or.inl ⟨by rfl, ?_⟩) (by assumption) ?_; rotate_left; (focus ((intro wS hSw); (try dsimp only at hSw); obtain ⟨s0, s1, s2, s3, s4⟩ := hSw; go_simp; (try with_reducible rfl); done)); (try simp only [Act.put, List.setIfInBounds_toArray, List.set_cons_zero, List.set_cons_succ]))
  (refine takeH (i := 21) (v := ?_) rfl (by kernel_rfl) (by kernel_rfl) (by kernel_rfl) (fun _ _ _ h => h) (Or.inl ⟨by rfl, ?_⟩) (by assumption) ?_; rotate_left; (focus ((intro wS hSw); (try dsimp only at hSw); obtain ⟨s0, s1, s2, s3, s4⟩ := hSw; go_simp; (try with_reducible rfl); done)); (try simp only [Act.put, List.setIfInBounds_toArray, List.set_cons_zero, List.set_cons_succ]))
  refine aloneH (i := 24) rfl (by kernel_rfl) (fun K hK => ?_)
  rw [if_pos (by rfl)]
  go_simp; ((refine (HD4.out w5).mono ?_); (rintro e w6 ⟨rfl, hb⟩); have HB6 := Lib.hid hb; clear hb; (try go_simp))
  refine hK.out _ _ (⟨cell_on HB6.out hHeld.1, cell_on HB6.out hHeld.2.1, cell_on HB6.out hHeld.2.2.1, cell_on HB6.out hHeld.2.2.2.1, heap_on HB6.out hHeld.2.2.2.2⟩) (fun hNew => ?_)
  clear hK K hHeld; (have hHeld := hNew); clear hNew; (try simp only [Act.put, List.setIfInBounds_toArray, List.set_cons_zero, List.set_cons_succ])
  (refine takeH (i := 25) (v := ?_) rfl (by kernel_rfl) (by kernel_rfl) (by kernel_rfl) (fun _ _ _ h => h) (Or.inl ⟨by rfl, ?_⟩) (by assumption) ?_; rotate_left; (focus ((intro wS hSw); (try dsimp only at hSw); obtain ⟨s0, s1, s2, s3, s4⟩ := hSw; go_simp; (try with_reducible rfl); done)); (try simp only [Act.put, List.setIfInBounds_toArray, List.set_cons_zero, List.set_cons_succ]))
  (refine takeH (i := 26) (v := ?_) rfl (by kernel_rfl) (by kernel_rfl) (by kernel_rfl) (fun _ _ _ h => h) (Or.inl ⟨by rfl, ?_⟩) (by assumption) ?_; rotate_left; (focus ((intro wS hSw); (try dsimp only at hSw); obtain ⟨s0, s1, s2, s3, s4⟩ := hSw; go_simp; (try with_reducible rfl); done)); (try simp only [Act.put, List.setIfInBounds_toArray, List.set_cons_zero, List.set_cons_succ]))
  refine wpAnyH_done (by kernel_rfl) ?_ _
  have HX9 := Lib.hid hHeld.2.2.2.2
  have HB9 : Hid (Below w.heap.size w w6) := Lib.hid (HBd.out.trans ((below_then (below_then (below_then (below_then (below_then HB1.out HB2.out) HB3.out) HB4.out) HB5.out) HB6.out).mono HBd.out.size))
  clear hHeld HBd
  go_wp2_with ((with_reducible refine wpList_load_row (o := ⟨some 39, _, _, _, _, _⟩) ?a1 25 (.tmp 1) ?a2 w.heap.size ?a3 25 R (0, 0) _ HX9.out Tryd.underlying25 ?a4 HIn.out ?_); (case a1 => rfl); (case a2 => rfl); (case a3 => rfl); (case a4 => rfl); refine Stop.out ?_)
  unfold Stop
  go_wp2_with (go_at_call 13; refine (HLt.out _).mono ?_; rintro e wl ⟨rfl, hb⟩; have HBl := Lib.hid (below_then HB9.out hb); clear hb; refine Stop.out ?_)
  unfold Stop
  cases lt
  · go_wp2
    go_ret
    exact ⟨by rw [HV.out]; rfl, HBl.out⟩
  · go_wp2
    go_ret
    exact ⟨by rw [HV.out]; rfl, HBl.out⟩
theorem line_eq (x : RowV) : lineL (lateB x) (nameV x.treat ++ (if x.sale = true then ⟨#[32, 83]⟩ else ⟨#[32, 80]⟩)) (itoaS (colV x 0)) (itoaS (colV x 1)) (itoaS (colV x 2)) (itoaS (colV x 3)) (itoaS (colV x 4)) = lineV x := by
  have e : (nameV x.treat ++ (if x.sale = true then (⟨#[32, 83]⟩ : ByteArray) else ⟨#[32, 80]⟩)) = accV x 0 := by
    show _ = cat _ _
    unfold cat sideS
    congr 1
    cases x.sale <;> rfl
  rw [e]
  have e2 : ∀ a : ByteArray, a ++ (⟨#[32, 76]⟩ : ByteArray) = cat a ⟨#[76]⟩ := fun a => by unfold cat; congr 1
  have e3 : ∀ a b : ByteArray, a ++ (⟨#[32]⟩ : ByteArray) ++ b = cat a b := fun a b => by unfold cat; rw [ByteArray.append_assoc]
  unfold lineL lineV
  rw [e2, e3, e3, e3, e3, e3]
  rfl
theorem ref_line (x : RowV) (w : World) (hB : RowB x) : Calls Tryd.prog 20 #[.agg (rowA x)] w fun e w' => e = .returned (.string (lineV x)) ∧ Below w.heap.size w w' := by
  rw [← line_eq x]
  have hd : ∀ k, ∀ W, Calls Tryd.prog 34 #[.int .i64 (colV x k)] W fun e w1 => e = .returned (.string (itoaS (colV x k))) ∧ Below W.heap.size W w1 := fun k W => ref_dec _ (hB k).1 (hB k).2 W
  cases hq : x.sale
  · exact ref_line_false (rowA x) x.treat x.rate x.base x.tax (owedV x) x.deduct (lateB x) (nameV x.treat) _ _ _ _ _ w (by kernel_rfl) (by rw [← hq]; rfl) rfl rfl rfl rfl rfl (ref_name x.treat) (hd 0) (itoa_1000 (hB 0)) (hd 1) (itoa_1000 (hB 1)) (hd 2) (itoa_1000 (hB 2)) (hd 3) (itoa_1000 (hB 3)) (hd 4) (itoa_1000 (hB 4)) (ref_owed x) (ref_late x) (name_size _)
  · exact ref_line_true (rowA x) x.treat x.rate x.base x.tax (owedV x) x.deduct (lateB x) (nameV x.treat) _ _ _ _ _ w (by kernel_rfl) (by rw [← hq]; rfl) rfl rfl rfl rfl rfl (ref_name x.treat) (hd 0) (itoa_1000 (hB 0)) (hd 1) (itoa_1000 (hB 1)) (hd 2) (itoa_1000 (hB 2)) (hd 3) (itoa_1000 (hB 3)) (hd 4) (itoa_1000 (hB 4)) (ref_owed x) (ref_late x) (name_size _)
end Go.Proofs.YtaccjfoifkfpfaaDoor
