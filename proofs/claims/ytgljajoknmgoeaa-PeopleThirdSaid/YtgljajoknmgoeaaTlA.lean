/- Spans of days: the small calls on them. -/
import Derived.Test.YtgljajoknmgoeaaBase
import Derived.Test.YtgljajoknmgoeaaProg
import Derived.Test.YtgljajoknmgoeaaRegion
import Derived.Deep.MidRow
import Derived.Shelf.RegionOpen
import Derived.Laws.StructEq
namespace Go.Proofs.Ytgljajoknmgoeaa
open Go.RowKit
set_option maxRecDepth 100000

/-- from, until, what holds -/
abbrev Sp := Int × Int × Int
/-- may a span be? -/
def isSp (f u : Int) : Prop := 0 ≤ f ∧ f ≤ u ∧ u ≤ 2932896
instance (f u : Int) : Decidable (isSp f u) := by unfold isSp; infer_instance
/-- the days that two spans have in common, if any -/
def meets (f u g v : Int) : Prop := isSp f u ∧ isSp g v ∧ g ≤ u ∧ f ≤ v
instance (f u g v : Int) : Decidable (meets f u g v) := by unfold meets; infer_instance
def hiN (f g : Int) : Int := if f < g then g else f
def loN (u v : Int) : Int := if v < u then v else u

theorem sizeSp : (Try.prog.info? 35).map (·.size) = some 2 := by kernel_rfl
theorem results_span {fn : Func} {p : Tmp} (h : fn.results = #[.cell p 35]) (tmps : Array Value) (W : World) (g : Nat) (a b : Int) (hp : tmps.getD p undef = .pointer (some ⟨g, 0, none⟩)) (hc : W.rangeAt g 0 [.int .i64 a, .int .i64 b]) :
    (results fn tmps).run Try.prog W = .ok (.agg #[.int .i64 a, .int .i64 b]) W := by
  have c0 : W.cell? ⟨g, 0, none⟩ = some (.int .i64 a) := hc 0 _ rfl
  have c1 : W.cell? ⟨g, 1, none⟩ = some (.int .i64 b) := by simpa using hc 1 _ rfl
  have hp' : tmps[p]?.getD undef = .pointer (some ⟨g, 0, none⟩) := by simpa [Array.getD_eq_getD_getElem?] using hp
  simp [results, h, hp', go_sem, c0, c1]
theorem results_span2 {fn : Func} {p q : Tmp} (h : fn.results = #[.cell p 35, .tmp q]) (tmps : Array Value) (W : World) (g : Nat) (a b : Int) (v : Value) (hp : tmps.getD p undef = .pointer (some ⟨g, 0, none⟩)) (hq : tmps.getD q undef = v) (hc : W.rangeAt g 0 [.int .i64 a, .int .i64 b]) :
    (results fn tmps).run Try.prog W = .ok (.tuple #[.agg #[.int .i64 a, .int .i64 b], v]) W := by
  have c0 : W.cell? ⟨g, 0, none⟩ = some (.int .i64 a) := hc 0 _ rfl
  have c1 : W.cell? ⟨g, 1, none⟩ = some (.int .i64 b) := by simpa using hc 1 _ rfl
  have hp' : tmps[p]?.getD undef = .pointer (some ⟨g, 0, none⟩) := by simpa [Array.getD_eq_getD_getElem?] using hp
  have hq' : tmps[q]?.getD undef = v := by simpa [Array.getD_eq_getD_getElem?] using hq
  simp [results, h, hp', hq', go_sem, c0, c1]
/-- two cells, one behind the other -/
theorem range2 {W : World} {g : Nat} {a b : Value} {t : TypeId} (h : W.heap[g]? = some (.cells #[a, b] t (0, 0))) : W.rangeAt g 0 [a, b] := fun j v hv => by
  match j with
  | 0 => simp at hv; subst hv; rw [cell_of_row W g 0 _ _ _ h]; rfl
  | 1 => simp at hv; subst hv; rw [cell_of_row W g 1 _ _ _ h]; rfl
  | j + 2 => simp at hv

set_option maxHeartbeats 1000000 in
theorem code_common (f u g v : Int) (w : World) : Calls Try.prog 73 #[.agg #[.int .i64 f, .int .i64 u], .agg #[.int .i64 g, .int .i64 v]] w fun e w' => e = .returned (.agg #[.int .i64 (hiN f g), .int .i64 (loN u v)]) ∧ Below w.heap.size w w' := by
  by_cases h1 : f < g <;> by_cases h2 : v < u
  all_goals
    have e1 : hiN f g = if f < g then g else f := rfl
    have e2 : loN u v = if v < u then v else u := rfl
    first | rw [if_pos h1] at e1 | rw [if_neg h1] at e1
    first | rw [if_pos h2] at e2 | rw [if_neg h2] at e2
    have HE := Lib.hid (And.intro e1 e2)
    clear e1 e2
    go_enter Try.func73, Try.ntmps73
    go_wp2
    refine bodyPost_ret (results_span rfl _ _ (w.heap.size + 1 + 1) _ _ (by simp) (range2 (by have := heap_alloc_new ((w.alloc (Obj.cells #[Value.int IntKind.i64 f, Value.int IntKind.i64 u] 35)).alloc (Obj.cells #[Value.int IntKind.i64 g, Value.int IntKind.i64 v] 35)); simp only [World.size_alloc] at this; exact this _))) rfl ⟨?_, below_then (below_alloc _ _) (below_then (below_alloc _ _) (below_alloc _ _))⟩
    rw [HE.out.1, HE.out.2]
theorem code_days (f u : Int) (w : World) (h : isSp f u) : Calls Try.prog 59 #[.agg #[.int .i64 f, .int .i64 u]] w fun e w' => e = .returned (.int .i64 (u - f + 1)) ∧ Below w.heap.size w w' := by
  obtain ⟨h1, h2, h3⟩ := h
  go_enter Try.func59, Try.ntmps59
  go_wp2
  go_ret
  exact ⟨rfl, below_alloc _ _⟩
section
variable {w W V : World} {p q r s : Addr} {a b c d : Value}
theorem keep1 (h : W.cell? p = some a ∧ Below w.heap.size w W) (hb : Below W.heap.size W V) : V.cell? p = some a ∧ Below w.heap.size w V := ⟨cell_on hb h.1, below_then h.2 hb⟩
theorem keep2 (h : W.cell? p = some a ∧ W.cell? q = some b ∧ Below w.heap.size w W) (hb : Below W.heap.size W V) : V.cell? p = some a ∧ V.cell? q = some b ∧ Below w.heap.size w V := ⟨cell_on hb h.1, cell_on hb h.2.1, below_then h.2.2 hb⟩
theorem keep3 (h : W.cell? p = some a ∧ W.cell? q = some b ∧ W.cell? r = some c ∧ Below w.heap.size w W) (hb : Below W.heap.size W V) : V.cell? p = some a ∧ V.cell? q = some b ∧ V.cell? r = some c ∧ Below w.heap.size w V := ⟨cell_on hb h.1, cell_on hb h.2.1, cell_on hb h.2.2.1, below_then h.2.2.2 hb⟩
theorem keep4 (h : W.cell? p = some a ∧ W.cell? q = some b ∧ W.cell? r = some c ∧ W.cell? s = some d ∧ Below w.heap.size w W) (hb : Below W.heap.size W V) : V.cell? p = some a ∧ V.cell? q = some b ∧ V.cell? r = some c ∧ V.cell? s = some d ∧ Below w.heap.size w V := ⟨cell_on hb h.1, cell_on hb h.2.1, cell_on hb h.2.2.1, cell_on hb h.2.2.2.1, below_then h.2.2.2.2 hb⟩
theorem below_drew (w : World) : Below w.heap.size w w.drew := (Below.refl _ w).drew
/-- a box of two cells, just laid -/
theorem box2 (w : World) (a b : Value) (t : TypeId) : (w.alloc (.cells #[a, b] t)).cell? ⟨w.heap.size, 0, none⟩ = some a ∧ (w.alloc (.cells #[a, b] t)).cell? ⟨w.heap.size, 1, none⟩ = some b ∧ Below w.heap.size w (w.alloc (.cells #[a, b] t)) :=
  ⟨by rw [cell_of_row _ _ 0 _ _ _ (heap_alloc_new w _)]; rfl, by rw [cell_of_row _ _ 1 _ _ _ (heap_alloc_new w _)]; rfl, below_alloc _ _⟩
end
/-! ### two spans held against each other -/
theorem guardSp : Try.prog.eqGuardType Try.prog.depth 35 = false := by kernel_rfl
theorem eqSp_in (w : World) (a b c d : Int) : (Op.equalIn 10000 35 (.agg #[.int .i64 a, .int .i64 b]) (.agg #[.int .i64 c, .int .i64 d])).run Try.prog w = .ok (decide (a = c ∧ b = d)) w := by
  have h : (Op.equalIn 10000 35 (.agg #[.int .i64 a, .int .i64 b]) (.agg #[.int .i64 c, .int .i64 d])).run Try.prog w = .ok ((a == c) && (b == d)) w := by
    go_simp
    by_cases h1 : a = c <;> by_cases h2 : b = d <;> simp [h1, h2]
  rw [h]
  congr 1
  rw [Bool.eq_iff_iff]
  simp
section
variable {w : World} {ops : Array Oper} {rest : List Oper} {o : Oper} {a : Act} {Q : Exit → Act → World → Prop} {S : World → Prop}
theorem eqSp_run (w : World) (x y : Operand) (a b c d : Int) :
    (do eqGuard .eql 35 x y (.agg #[.int .i64 a, .int .i64 b]) (.agg #[.int .i64 c, .int .i64 d]); binOp .eql 35 (.agg #[.int .i64 a, .int .i64 b]) (.agg #[.int .i64 c, .int .i64 d]) : Sem Value).run Try.prog w = .ok (.bool (decide (a = c ∧ b = d))) w := by
  rw [Sem.run_bind, run_eqGuard_agg w .eql _ x y _ _ guardSp, Result.andThen_ok, run_eql_struct w, eqSp_in]
  rfl
theorem neqSp_run (w : World) (x y : Operand) (a b c d : Int) :
    (do eqGuard .neq 35 x y (.agg #[.int .i64 a, .int .i64 b]) (.agg #[.int .i64 c, .int .i64 d]); binOp .neq 35 (.agg #[.int .i64 a, .int .i64 b]) (.agg #[.int .i64 c, .int .i64 d]) : Sem Value).run Try.prog w = .ok (.bool (!decide (a = c ∧ b = d))) w := by
  rw [Sem.run_bind, run_eqGuard_agg w .neq _ x y _ _ guardSp, Result.andThen_ok, run_neq_struct w, eqSp_in]
  rfl
theorem wpList_eqSp (hw : Region.wanted o (yielded ops a.tmps) = true) (x y : Operand) (t : TypeId) (ho : o.op = .binOp .eql 35 x y t) (f u g v : Int) (hx : a.eval x = .agg #[.int .i64 f, .int .i64 u]) (hy : a.eval y = .agg #[.int .i64 g, .int .i64 v]) (b : Bool) (hb : decide (f = g ∧ u = v) = b)
    (h : wpList Try.prog ops Q rest (a.put o.dst (.bool b)) w) : wpList Try.prog ops Q (o :: rest) a w := by
  subst hb
  refine wpList_step fun K hK => ?_
  rw [if_pos hw]
  have hr := eqSp_run w x y f u g v
  unfold Oper.wp execOp
  simp only [ho, hx, hy]
  rw [Sem.run_bind, hr]
  exact hK _ _ h
theorem yieldsIf_eqSp (hw : Region.wanted o (yielded ops a.tmps) = true) (x y : Operand) (t : TypeId) (ho : o.op = .binOp .eql 35 x y t) (f u g v : Int) (hx : a.eval x = .agg #[.int .i64 f, .int .i64 u]) (hy : a.eval y = .agg #[.int .i64 g, .int .i64 v]) (b : Bool) (hb : decide (f = g ∧ u = v) = b) :
    YieldsIf Try.prog ops S o (.bool b) a := .inl ⟨hw, fun w _ => by
  subst hb
  have hr := eqSp_run w x y f u g v
  unfold execOp
  simp only [ho, hx, hy]
  rw [Sem.run_bind, hr]
  rfl⟩
theorem yieldsIf_neqSp (hw : Region.wanted o (yielded ops a.tmps) = true) (x y : Operand) (t : TypeId) (ho : o.op = .binOp .neq 35 x y t) (f u g v : Int) (hx : a.eval x = .agg #[.int .i64 f, .int .i64 u]) (hy : a.eval y = .agg #[.int .i64 g, .int .i64 v]) (b : Bool) (hb : decide (f = g ∧ u = v) = !b) :
    YieldsIf Try.prog ops S o (.bool b) a := .inl ⟨hw, fun w _ => by
  obtain rfl : (!decide (f = g ∧ u = v)) = b := by rw [hb, Bool.not_not]
  have hr := neqSp_run w x y f u g v
  unfold execOp
  simp only [ho, hx, hy]
  rw [Sem.run_bind, hr]
  rfl⟩
end
/-! ### may a span be -/
theorem span_le {f u : Int} (h : f ≤ u) : decide (f = hiN f 0 ∧ u = loN u 2932896) = decide (isSp f u) := by
  rw [decide_eq_decide]
  unfold hiN loN isSp
  split <;> split <;> constructor <;> intro hh <;> omega
set_option maxHeartbeats 1000000 in
theorem code_isSpan (f u : Int) (w : World) : Calls Try.prog 57 #[.agg #[.int .i64 f, .int .i64 u]] w fun e w' => e = .returned (.bool (decide (isSp f u))) ∧ Below w.heap.size w w' := by
  have HC := Lib.hid (fun W => code_common f u 0 2932896 W)
  have hS := box2 w (.int .i64 f) (.int .i64 u) 35
  by_cases h1 : f ≤ u
  · obtain ⟨q, hq0⟩ : ∃ q, decide (isSp f u) = q := ⟨_, rfl⟩
    have hd := Lib.hid ((span_le h1).trans hq0)
    rw [hq0]
    clear hq0
    go_enter Try.func57, Try.ntmps57
    go_wp2
    refine wp_region_held_drew (S := fun W => W.cell? ⟨w.heap.size, 0, none⟩ = some (.int .i64 f) ∧ W.cell? ⟨w.heap.size, 1, none⟩ = some (.int .i64 u)) (by kernel_rfl) ⟨cell_on (below_drew _) hS.1, cell_on (below_drew _) hS.2.1⟩ ?_
    intro hHeld
    have HB0 := Lib.hid (below_then hS.2.2 (below_drew _))
    clear hS
    generalize (w.alloc _).drew = w0 at HB0 hHeld ⊢
    (refine takeH (i := 0) (v := ?_) rfl (by kernel_rfl) (by kernel_rfl) (by kernel_rfl) (fun _ _ _ h => h) (Or.inl ⟨by rfl, ?_⟩) (by assumption) ?_; rotate_left; (focus ((intro wS hSw); (try dsimp only at hSw); obtain ⟨s0, s1⟩ := hSw; go_simp; (try with_reducible rfl); done)); (try simp only [Act.put, List.setIfInBounds_toArray, List.set_cons_zero, List.set_cons_succ]))
    (refine takeH (i := 1) (v := ?_) rfl (by kernel_rfl) (by kernel_rfl) (by kernel_rfl) (fun _ _ _ h => h) (Or.inl ⟨by rfl, ?_⟩) (by assumption) ?_; rotate_left; (focus ((intro wS hSw); (try dsimp only at hSw); obtain ⟨s0, s1⟩ := hSw; go_simp; (try with_reducible rfl); done)); (try simp only [Act.put, List.setIfInBounds_toArray, List.set_cons_zero, List.set_cons_succ]))
    (refine takeH (i := 2) (v := ?_) rfl (by kernel_rfl) (by kernel_rfl) (by kernel_rfl) (fun _ _ _ h => h) (Or.inl ⟨by rfl, ?_⟩) (by assumption) ?_; rotate_left; (focus ((intro wS hSw); (try dsimp only at hSw); obtain ⟨s0, s1⟩ := hSw; go_simp; (try with_reducible rfl); done)); (try simp only [Act.put, List.setIfInBounds_toArray, List.set_cons_zero, List.set_cons_succ]))
    (refine takeH (i := 3) (v := ?_) rfl (by kernel_rfl) (by kernel_rfl) (by kernel_rfl) (fun _ _ _ h => h) (Or.inl ⟨by rfl, ?_⟩) (by assumption) ?_; rotate_left; (focus ((intro wS hSw); (try dsimp only at hSw); obtain ⟨s0, s1⟩ := hSw; go_simp; (try with_reducible rfl); done)); (try simp only [Act.put, List.setIfInBounds_toArray, List.set_cons_zero, List.set_cons_succ]))
    (refine takeH (i := 4) (v := (.bool true)) rfl (by kernel_rfl) (by kernel_rfl) (by kernel_rfl) (fun _ _ _ h => h) (Or.inl ⟨by rfl, by (intro wS hSw); (try dsimp only at hSw); (obtain ⟨s0, s1⟩ := hSw); go_simp; (first | done | omega | (simp; omega))⟩) (by assumption) ?_; (try simp only [Act.put, List.setIfInBounds_toArray, List.set_cons_zero, List.set_cons_succ]))
    (refine takeH (i := 5) (v := ?_) rfl (by kernel_rfl) (by kernel_rfl) (by kernel_rfl) (fun _ _ _ h => h) (Or.inl ⟨by rfl, ?_⟩) (by assumption) ?_; rotate_left; (focus ((intro wS hSw); (try dsimp only at hSw); obtain ⟨s0, s1⟩ := hSw; go_simp; (try with_reducible rfl); done)); (try simp only [Act.put, List.setIfInBounds_toArray, List.set_cons_zero, List.set_cons_succ]))
    (refine takeH (i := 6) (v := ?_) rfl (by kernel_rfl) (by kernel_rfl) (by kernel_rfl) (fun _ _ _ h => h) (Or.inl ⟨by rfl, ?_⟩) (by assumption) ?_; rotate_left; (focus ((intro wS hSw); (try dsimp only at hSw); obtain ⟨s0, s1⟩ := hSw; go_simp; (try with_reducible rfl); done)); (try simp only [Act.put, List.setIfInBounds_toArray, List.set_cons_zero, List.set_cons_succ]))
    (refine takeH (i := 7) (v := ?_) rfl (by kernel_rfl) (by kernel_rfl) (by kernel_rfl) (fun _ _ _ h => h) (Or.inl ⟨by rfl, ?_⟩) (by assumption) ?_; rotate_left; (focus ((intro wS hSw); (try dsimp only at hSw); obtain ⟨s0, s1⟩ := hSw; go_simp; (try with_reducible rfl); done)); (try simp only [Act.put, List.setIfInBounds_toArray, List.set_cons_zero, List.set_cons_succ]))
    (refine takeH (i := 8) (v := ?_) rfl (by kernel_rfl) (by kernel_rfl) (by kernel_rfl) (fun _ _ _ h => h) (Or.inl ⟨by rfl, ?_⟩) (by assumption) ?_; rotate_left; (focus ((intro wS hSw); (try dsimp only at hSw); obtain ⟨s0, s1⟩ := hSw; go_simp; (try with_reducible rfl); done)); (try simp only [Act.put, List.setIfInBounds_toArray, List.set_cons_zero, List.set_cons_succ]))
    refine aloneH (i := 9) rfl (by kernel_rfl) (fun K hK => ?_)
    rw [if_pos (by rfl)]
    go_simp; ((refine (HC.out _).mono ?_); (rintro e w1 ⟨rfl, hb⟩); have HB1 := Lib.hid hb; clear hb; (try go_simp))
    refine hK.out _ _ (⟨cell_on HB1.out hHeld.1, cell_on HB1.out hHeld.2⟩) (fun hNew => ?_)
    clear hK K hHeld; (have hHeld := hNew); clear hNew; (try simp only [Act.put, List.setIfInBounds_toArray, List.set_cons_zero, List.set_cons_succ])
    (refine takeH (i := 10) (v := (.bool q)) rfl (by kernel_rfl) (by kernel_rfl) (by kernel_rfl) (fun _ _ _ h => h) (yieldsIf_eqSp (by rfl) _ _ _ rfl f u (hiN f 0) (loN u 2932896) rfl rfl q hd.out) (by assumption) ?_; (try simp only [Act.put, List.setIfInBounds_toArray, List.set_cons_zero, List.set_cons_succ]))
    (refine takeH (i := 11) (v := ?_) rfl (by kernel_rfl) (by kernel_rfl) (by kernel_rfl) (fun _ _ _ h => h) (Or.inl ⟨by rfl, ?_⟩) (by assumption) ?_; rotate_left; (focus ((intro wS hSw); (try dsimp only at hSw); obtain ⟨s0, s1⟩ := hSw; go_simp; (try with_reducible rfl); done)); (try simp only [Act.put, List.setIfInBounds_toArray, List.set_cons_zero, List.set_cons_succ]))
    (refine takeH (i := 12) (v := ?_) rfl (by kernel_rfl) (by kernel_rfl) (by kernel_rfl) (fun _ _ _ h => h) (Or.inl ⟨by rfl, ?_⟩) (by assumption) ?_; rotate_left; (focus ((intro wS hSw); (try dsimp only at hSw); obtain ⟨s0, s1⟩ := hSw; go_simp; (try with_reducible rfl); done)); (try simp only [Act.put, List.setIfInBounds_toArray, List.set_cons_zero, List.set_cons_succ]))
    refine wpAnyH_done (by kernel_rfl) ?_ _
    clear hHeld
    go_wp2
    go_ret
    exact ⟨rfl, below_then HB0.out HB1.out⟩
  · rw [decide_eq_false (show ¬ isSp f u from fun h => h1 h.2.1)]
    go_enter Try.func57, Try.ntmps57
    go_wp2
    refine wp_region_held_drew (S := fun W => W.cell? ⟨w.heap.size, 0, none⟩ = some (.int .i64 f) ∧ W.cell? ⟨w.heap.size, 1, none⟩ = some (.int .i64 u)) (by kernel_rfl) ⟨cell_on (below_drew _) hS.1, cell_on (below_drew _) hS.2.1⟩ ?_
    intro hHeld
    have HB0 := Lib.hid (below_then hS.2.2 (below_drew _))
    clear hS
    generalize (w.alloc _).drew = w0 at HB0 hHeld ⊢
    (refine takeH (i := 0) (v := ?_) rfl (by kernel_rfl) (by kernel_rfl) (by kernel_rfl) (fun _ _ _ h => h) (Or.inl ⟨by rfl, ?_⟩) (by assumption) ?_; rotate_left; (focus ((intro wS hSw); (try dsimp only at hSw); obtain ⟨s0, s1⟩ := hSw; go_simp; (try with_reducible rfl); done)); (try simp only [Act.put, List.setIfInBounds_toArray, List.set_cons_zero, List.set_cons_succ]))
    (refine takeH (i := 1) (v := ?_) rfl (by kernel_rfl) (by kernel_rfl) (by kernel_rfl) (fun _ _ _ h => h) (Or.inl ⟨by rfl, ?_⟩) (by assumption) ?_; rotate_left; (focus ((intro wS hSw); (try dsimp only at hSw); obtain ⟨s0, s1⟩ := hSw; go_simp; (try with_reducible rfl); done)); (try simp only [Act.put, List.setIfInBounds_toArray, List.set_cons_zero, List.set_cons_succ]))
    (refine takeH (i := 2) (v := ?_) rfl (by kernel_rfl) (by kernel_rfl) (by kernel_rfl) (fun _ _ _ h => h) (Or.inl ⟨by rfl, ?_⟩) (by assumption) ?_; rotate_left; (focus ((intro wS hSw); (try dsimp only at hSw); obtain ⟨s0, s1⟩ := hSw; go_simp; (try with_reducible rfl); done)); (try simp only [Act.put, List.setIfInBounds_toArray, List.set_cons_zero, List.set_cons_succ]))
    (refine takeH (i := 3) (v := ?_) rfl (by kernel_rfl) (by kernel_rfl) (by kernel_rfl) (fun _ _ _ h => h) (Or.inl ⟨by rfl, ?_⟩) (by assumption) ?_; rotate_left; (focus ((intro wS hSw); (try dsimp only at hSw); obtain ⟨s0, s1⟩ := hSw; go_simp; (try with_reducible rfl); done)); (try simp only [Act.put, List.setIfInBounds_toArray, List.set_cons_zero, List.set_cons_succ]))
    (refine takeH (i := 4) (v := (.bool false)) rfl (by kernel_rfl) (by kernel_rfl) (by kernel_rfl) (fun _ _ _ h => h) (Or.inl ⟨by rfl, by (intro wS hSw); (try dsimp only at hSw); (obtain ⟨s0, s1⟩ := hSw); go_simp; (first | done | omega | (simp; omega))⟩) (by assumption) ?_; (try simp only [Act.put, List.setIfInBounds_toArray, List.set_cons_zero, List.set_cons_succ]))
    (refine takeH (i := 5) (v := ?_) rfl (by kernel_rfl) (by kernel_rfl) (by kernel_rfl) (fun _ _ _ h => h) (Or.inl ⟨by rfl, ?_⟩) (by assumption) ?_; rotate_left; (focus ((intro wS hSw); (try dsimp only at hSw); obtain ⟨s0, s1⟩ := hSw; go_simp; (try with_reducible rfl); done)); (try simp only [Act.put, List.setIfInBounds_toArray, List.set_cons_zero, List.set_cons_succ]))
    (refine takeH (i := 6) (v := undef) rfl (by kernel_rfl) (by kernel_rfl) (by kernel_rfl) (fun _ _ _ h => h) (Or.inr ⟨by rfl, rfl⟩) (by assumption) ?_; (try simp only [Act.put, List.setIfInBounds_toArray, List.set_cons_zero, List.set_cons_succ]))
    (refine takeH (i := 7) (v := undef) rfl (by kernel_rfl) (by kernel_rfl) (by kernel_rfl) (fun _ _ _ h => h) (Or.inr ⟨by rfl, rfl⟩) (by assumption) ?_; (try simp only [Act.put, List.setIfInBounds_toArray, List.set_cons_zero, List.set_cons_succ]))
    (refine takeH (i := 8) (v := undef) rfl (by kernel_rfl) (by kernel_rfl) (by kernel_rfl) (fun _ _ _ h => h) (Or.inr ⟨by rfl, rfl⟩) (by assumption) ?_; (try simp only [Act.put, List.setIfInBounds_toArray, List.set_cons_zero, List.set_cons_succ]))
    (refine takeH (i := 9) (v := undef) rfl (by kernel_rfl) (by kernel_rfl) (by kernel_rfl) (fun _ _ _ h => h) (Or.inr ⟨by rfl, rfl⟩) (by assumption) ?_; (try simp only [Act.put, List.setIfInBounds_toArray, List.set_cons_zero, List.set_cons_succ]))
    (refine takeH (i := 10) (v := undef) rfl (by kernel_rfl) (by kernel_rfl) (by kernel_rfl) (fun _ _ _ h => h) (Or.inr ⟨by rfl, rfl⟩) (by assumption) ?_; (try simp only [Act.put, List.setIfInBounds_toArray, List.set_cons_zero, List.set_cons_succ]))
    (refine takeH (i := 11) (v := ?_) rfl (by kernel_rfl) (by kernel_rfl) (by kernel_rfl) (fun _ _ _ h => h) (Or.inl ⟨by rfl, ?_⟩) (by assumption) ?_; rotate_left; (focus ((intro wS hSw); (try dsimp only at hSw); obtain ⟨s0, s1⟩ := hSw; go_simp; (try with_reducible rfl); done)); (try simp only [Act.put, List.setIfInBounds_toArray, List.set_cons_zero, List.set_cons_succ]))
    (refine takeH (i := 12) (v := ?_) rfl (by kernel_rfl) (by kernel_rfl) (by kernel_rfl) (fun _ _ _ h => h) (Or.inl ⟨by rfl, ?_⟩) (by assumption) ?_; rotate_left; (focus ((intro wS hSw); (try dsimp only at hSw); obtain ⟨s0, s1⟩ := hSw; go_simp; (try with_reducible rfl); done)); (try simp only [Act.put, List.setIfInBounds_toArray, List.set_cons_zero, List.set_cons_succ]))
    refine wpAnyH_done (by kernel_rfl) ?_ _
    clear hHeld
    go_wp2
    go_ret
    exact ⟨rfl, below_then HB0.out (below_same w0)⟩
theorem is_at {f u : Int} {q : Bool} (h : decide (isSp f u) = q) (w : World) : Calls Try.prog 57 #[.agg #[.int .i64 f, .int .i64 u]] w fun e w' => e = .returned (.bool q) ∧ Below w.heap.size w w' := by
  rw [← h]
  exact code_isSpan f u w
/-- a box of two cells, as it stands -/
theorem row2 {W : World} {g : Nat} {a b : Value} {t : TypeId} (h : W.heap[g]? = some (.cells #[a, b] t (0, 0))) : W.cell? ⟨g, 0, none⟩ = some a ∧ W.cell? ⟨g, 1, none⟩ = some b ∧ W.frozen? ⟨g, 0, none⟩ = false ∧ W.frozen? ⟨g, 1, none⟩ = false := by
  have h0 := cell_of_row W g 0 _ _ _ h
  have h1 := cell_of_row W g 1 _ _ _ h
  exact ⟨h0, h1, frozen_of_row W g 0 _ _ h, frozen_of_row W g 1 _ _ h⟩
end Go.Proofs.Ytgljajoknmgoeaa
