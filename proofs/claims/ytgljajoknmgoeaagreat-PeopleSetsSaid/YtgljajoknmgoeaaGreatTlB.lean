/- Spans of days: the small calls on them. The days that two spans have in common. -/
import Derived.Test.YtgljajoknmgoeaaGreatBase
import Derived.Test.YtgljajoknmgoeaaGreatProg
import Derived.Test.YtgljajoknmgoeaaGreatRegion
import Derived.Deep.MidRow
import Derived.Shelf.RegionOpen
import Derived.Laws.StructEq
namespace Go.Proofs.YtgljajoknmgoeaaGreat
open Go.RowKit
set_option maxRecDepth 100000

/-- from, until, what holds -/
abbrev Sp := Int × Int × Int
/-- may a span be? -/
def isSp (f u : Int) : Prop := 0 ≤ f ∧ f ≤ u ∧ u ≤ 2932896
instance (f u : Int) : Decidable (isSp f u) := by unfold isSp; infer_instance
/-- the days that two spans have in common, if any -/
def meets (f u g v : Int) : Prop := isSp f u ∧ isSp g v ∧ g ≤ u ∧ f ≤ v
instance (f u g v : Int) : Decidable (meets f u g v) := by unfold meets; infer_instance
def hiN (f g : Int) : Int := if f < g then g else f
def loN (u v : Int) : Int := if v < u then v else u

theorem sizeSp : (Tryz.prog.info? 39).map (·.size) = some 2 := by kernel_rfl
theorem results_span {fn : Func} {p : Tmp} (h : fn.results = #[.cell p 39]) (tmps : Array Value) (W : World) (g : Nat) (a b : Int) (hp : tmps.getD p undef = .pointer (some ⟨g, 0, none⟩)) (hc : W.rangeAt g 0 [.int .i64 a, .int .i64 b]) :
    (results fn tmps).run Tryz.prog W = .ok (.agg #[.int .i64 a, .int .i64 b]) W := by
  have c0 : W.cell? ⟨g, 0, none⟩ = some (.int .i64 a) := hc 0 _ rfl
  have c1 : W.cell? ⟨g, 1, none⟩ = some (.int .i64 b) := by simpa using hc 1 _ rfl
  have hp' : tmps[p]?.getD undef = .pointer (some ⟨g, 0, none⟩) := by simpa [Array.getD_eq_getD_getElem?] using hp
  simp [results, h, hp', go_sem, c0, c1]
theorem results_span2 {fn : Func} {p q : Tmp} (h : fn.results = #[.cell p 39, .tmp q]) (tmps : Array Value) (W : World) (g : Nat) (a b : Int) (v : Value) (hp : tmps.getD p undef = .pointer (some ⟨g, 0, none⟩)) (hq : tmps.getD q undef = v) (hc : W.rangeAt g 0 [.int .i64 a, .int .i64 b]) :
    (results fn tmps).run Tryz.prog W = .ok (.tuple #[.agg #[.int .i64 a, .int .i64 b], v]) W := by
  have c0 : W.cell? ⟨g, 0, none⟩ = some (.int .i64 a) := hc 0 _ rfl
  have c1 : W.cell? ⟨g, 1, none⟩ = some (.int .i64 b) := by simpa using hc 1 _ rfl
  have hp' : tmps[p]?.getD undef = .pointer (some ⟨g, 0, none⟩) := by simpa [Array.getD_eq_getD_getElem?] using hp
  have hq' : tmps[q]?.getD undef = v := by simpa [Array.getD_eq_getD_getElem?] using hq
  simp [results, h, hp', hq', go_sem, c0, c1]
/-- two cells, one behind the other -/
theorem range2 {W : World} {g : Nat} {a b : Value} {t : TypeId} (h : W.heap[g]? = some (.cells #[a, b] t (0, 0))) : W.rangeAt g 0 [a, b] := fun j v hv => by
  match j with
  | 0 => simp at hv; subst hv; rw [cell_of_row W g 0 _ _ _ h]; rfl
  | 1 => simp at hv; subst hv; rw [cell_of_row W g 1 _ _ _ h]; rfl
  | j + 2 => simp at hv

set_option maxHeartbeats 1000000 in
theorem code_common (f u g v : Int) (w : World) : Calls Tryz.prog 87 #[.agg #[.int .i64 f, .int .i64 u], .agg #[.int .i64 g, .int .i64 v]] w fun e w' => e = .returned (.agg #[.int .i64 (hiN f g), .int .i64 (loN u v)]) ∧ Below w.heap.size w w' := by
  by_cases h1 : f < g <;> by_cases h2 : v < u
  all_goals
    have e1 : hiN f g = if f < g then g else f := rfl
    have e2 : loN u v = if v < u then v else u := rfl
    first | rw [if_pos h1] at e1 | rw [if_neg h1] at e1
    first | rw [if_pos h2] at e2 | rw [if_neg h2] at e2
    have HE := Lib.hid (And.intro e1 e2)
    clear e1 e2
    go_enter Tryz.func87, Tryz.ntmps87
    go_wp2
    refine bodyPost_ret (results_span rfl _ _ (w.heap.size + 1 + 1) _ _ (by simp) (range2 (by have := heap_alloc_new ((w.alloc (Obj.cells #[Value.int IntKind.i64 f, Value.int IntKind.i64 u] 39)).alloc (Obj.cells #[Value.int IntKind.i64 g, Value.int IntKind.i64 v] 39)); simp only [World.size_alloc] at this; exact this _))) rfl ⟨?_, below_then (below_alloc _ _) (below_then (below_alloc _ _) (below_alloc _ _))⟩
    rw [HE.out.1, HE.out.2]
theorem code_days (f u : Int) (w : World) (h : isSp f u) : Calls Tryz.prog 64 #[.agg #[.int .i64 f, .int .i64 u]] w fun e w' => e = .returned (.int .i64 (u - f + 1)) ∧ Below w.heap.size w w' := by
  obtain ⟨h1, h2, h3⟩ := h
  go_enter Tryz.func64, Tryz.ntmps64
  go_wp2
  go_ret
  exact ⟨rfl, below_alloc _ _⟩
section
variable {w W V : World} {p q r s : Addr} {a b c d : Value}
theorem keep1 (h : W.cell? p = some a ∧ Below w.heap.size w W) (hb : Below W.heap.size W V) : V.cell? p = some a ∧ Below w.heap.size w V := ⟨cell_on hb h.1, below_then h.2 hb⟩
theorem keep2 (h : W.cell? p = some a ∧ W.cell? q = some b ∧ Below w.heap.size w W) (hb : Below W.heap.size W V) : V.cell? p = some a ∧ V.cell? q = some b ∧ Below w.heap.size w V := ⟨cell_on hb h.1, cell_on hb h.2.1, below_then h.2.2 hb⟩
theorem keep3 (h : W.cell? p = some a ∧ W.cell? q = some b ∧ W.cell? r = some c ∧ Below w.heap.size w W) (hb : Below W.heap.size W V) : V.cell? p = some a ∧ V.cell? q = some b ∧ V.cell? r = some c ∧ Below w.heap.size w V := ⟨cell_on hb h.1, cell_on hb h.2.1, cell_on hb h.2.2.1, below_then h.2.2.2 hb⟩
theorem keep4 (h : W.cell? p = some a ∧ W.cell? q = some b ∧ W.cell? r = some c ∧ W.cell? s = some d ∧ Below w.heap.size w W) (hb : Below W.heap.size W V) : V.cell? p = some a ∧ V.cell? q = some b ∧ V.cell? r = some c ∧ V.cell? s = some d ∧ Below w.heap.size w V := ⟨cell_on hb h.1, cell_on hb h.2.1, cell_on hb h.2.2.1, cell_on hb h.2.2.2.1, below_then h.2.2.2.2 hb⟩
theorem below_drew (w : World) : Below w.heap.size w w.drew := (Below.refl _ w).drew
/-- a box of two cells, just laid -/
theorem box2 (w : World) (a b : Value) (t : TypeId) : (w.alloc (.cells #[a, b] t)).cell? ⟨w.heap.size, 0, none⟩ = some a ∧ (w.alloc (.cells #[a, b] t)).cell? ⟨w.heap.size, 1, none⟩ = some b ∧ Below w.heap.size w (w.alloc (.cells #[a, b] t)) :=
  ⟨by rw [cell_of_row _ _ 0 _ _ _ (heap_alloc_new w _)]; rfl, by rw [cell_of_row _ _ 1 _ _ _ (heap_alloc_new w _)]; rfl, below_alloc _ _⟩
end
/-! ### two spans held against each other -/
theorem guardSp : Tryz.prog.eqGuardType Tryz.prog.depth 39 = false := by kernel_rfl
theorem eqSp_in (w : World) (a b c d : Int) : (Op.equalIn 10000 39 (.agg #[.int .i64 a, .int .i64 b]) (.agg #[.int .i64 c, .int .i64 d])).run Tryz.prog w = .ok (decide (a = c ∧ b = d)) w := by
  have h : (Op.equalIn 10000 39 (.agg #[.int .i64 a, .int .i64 b]) (.agg #[.int .i64 c, .int .i64 d])).run Tryz.prog w = .ok ((a == c) && (b == d)) w := by
    go_simp
    by_cases h1 : a = c <;> by_cases h2 : b = d <;> simp [h1, h2]
  rw [h]
  congr 1
  rw [Bool.eq_iff_iff]
  simp
section
variable {w : World} {ops : Array Oper} {rest : List Oper} {o : Oper} {a : Act} {Q : Exit → Act → World → Prop} {S : World → Prop}
theorem eqSp_run (w : World) (x y : Operand) (a b c d : Int) :
    (do eqGuard .eql 39 x y (.agg #[.int .i64 a, .int .i64 b]) (.agg #[.int .i64 c, .int .i64 d]); binOp .eql 39 (.agg #[.int .i64 a, .int .i64 b]) (.agg #[.int .i64 c, .int .i64 d]) : Sem Value).run Tryz.prog w = .ok (.bool (decide (a = c ∧ b = d))) w := by
  rw [Sem.run_bind, run_eqGuard_agg w .eql _ x y _ _ guardSp, Result.andThen_ok, run_eql_struct w, eqSp_in]
  rfl
theorem neqSp_run (w : World) (x y : Operand) (a b c d : Int) :
    (do eqGuard .neq 39 x y (.agg #[.int .i64 a, .int .i64 b]) (.agg #[.int .i64 c, .int .i64 d]); binOp .neq 39 (.agg #[.int .i64 a, .int .i64 b]) (.agg #[.int .i64 c, .int .i64 d]) : Sem Value).run Tryz.prog w = .ok (.bool (!decide (a = c ∧ b = d))) w := by
  rw [Sem.run_bind, run_eqGuard_agg w .neq _ x y _ _ guardSp, Result.andThen_ok, run_neq_struct w, eqSp_in]
  rfl
theorem wpList_eqSp (hw : Region.wanted o (yielded ops a.tmps) = true) (x y : Operand) (t : TypeId) (ho : o.op = .binOp .eql 39 x y t) (f u g v : Int) (hx : a.eval x = .agg #[.int .i64 f, .int .i64 u]) (hy : a.eval y = .agg #[.int .i64 g, .int .i64 v]) (b : Bool) (hb : decide (f = g ∧ u = v) = b)
    (h : wpList Tryz.prog ops Q rest (a.put o.dst (.bool b)) w) : wpList Tryz.prog ops Q (o :: rest) a w := by
  subst hb
  refine wpList_step fun K hK => ?_
  rw [if_pos hw]
  have hr := eqSp_run w x y f u g v
  unfold Oper.wp execOp
  simp only [ho, hx, hy]
  rw [Sem.run_bind, hr]
  exact hK _ _ h
theorem yieldsIf_eqSp (hw : Region.wanted o (yielded ops a.tmps) = true) (x y : Operand) (t : TypeId) (ho : o.op = .binOp .eql 39 x y t) (f u g v : Int) (hx : a.eval x = .agg #[.int .i64 f, .int .i64 u]) (hy : a.eval y = .agg #[.int .i64 g, .int .i64 v]) (b : Bool) (hb : decide (f = g ∧ u = v) = b) :
    YieldsIf Tryz.prog ops S o (.bool b) a := .inl ⟨hw, fun w _ => by
  subst hb
  have hr := eqSp_run w x y f u g v
  unfold execOp
  simp only [ho, hx, hy]
  rw [Sem.run_bind, hr]
  rfl⟩
theorem yieldsIf_neqSp (hw : Region.wanted o (yielded ops a.tmps) = true) (x y : Operand) (t : TypeId) (ho : o.op = .binOp .neq 39 x y t) (f u g v : Int) (hx : a.eval x = .agg #[.int .i64 f, .int .i64 u]) (hy : a.eval y = .agg #[.int .i64 g, .int .i64 v]) (b : Bool) (hb : decide (f = g ∧ u = v) = !b) :
    YieldsIf Tryz.prog ops S o (.bool b) a := .inl ⟨hw, fun w _ => by
  obtain rfl : (!decide (f = g ∧ u = v)) = b := by rw [hb, Bool.not_not]
  have hr := neqSp_run w x y f u g v
  unfold execOp
  simp only [ho, hx, hy]
  rw [Sem.run_bind, hr]
  rfl⟩
end
/-! ### may a span be -/
theorem span_le {f u : Int} (h : f ≤ u) : decide (f = hiN f 0 ∧ u = loN u 2932896) = decide (isSp f u) := by
  rw [decide_eq_decide]
  unfold hiN loN isSp
  split <;> split <;> constructor <;> intro hh <;> omega
set_option maxHeartbeats 1000000 in
theorem code_isSpan (f u : Int) (w : World) : Calls Tryz.prog 62 #[.agg #[.int .i64 f, .int .i64 u]] w fun e w' => e = .returned (.bool (decide (isSp f u))) ∧ Below w.heap.size w w' := by
  have HC := Lib.hid (fun W => code_common f u 0 2932896 W)
  have hS := box2 w (.int .i64 f) (.int .i64 u) 39
  by_cases h1 : f ≤ u
  · obtain ⟨q, hq0⟩ : ∃ q, decide (isSp f u) = q := ⟨_, rfl⟩
    have hd := Lib.hid ((span_le h1).trans hq0)
    rw [hq0]
    clear hq0
    go_enter Tryz.func62, Tryz.ntmps62
    go_wp2
    refine wp_region_held_drew (S := fun W => W.cell? ⟨w.heap.size, 0, none⟩ = some (.int .i64 f) ∧ W.cell? ⟨w.heap.size, 1, none⟩ = some (.int .i64 u)) (by kernel_rfl) ⟨cell_on (below_drew _) hS.1, cell_on (below_drew _) hS.2.1⟩ ?_
    intro hHeld
    have HB0 := Lib.hid (below_then hS.2.2 (below_drew _))
    clear hS
    generalize (w.alloc _).drew = w0 at HB0 hHeld ⊢
    (refine takeH (i := 0) (v := ?_) rfl (by kernel_rfl) (by kernel_rfl) (by kernel_rfl) (fun _ _ _ h => h) (Or.inl ⟨by rfl, ?_⟩) (by assumption) ?_; rotate_left; (focus ((intro wS hSw); (try dsimp only at hSw); obtain ⟨s0, s1⟩ := hSw; go_simp; (try with_reducible rfl); done)); (try simp only [Act.put, List.setIfInBounds_toArray, List.set_cons_zero, List.set_cons_succ]))
    (refine takeH (i := 1) (v := ?_) rfl (by kernel_rfl) (by kernel_rfl) (by kernel_rfl) (fun _ _ _ h => h) (Or.inl ⟨by rfl, ?_⟩) (by assumption) ?_; rotate_left; (focus ((intro wS hSw); (try dsimp only at hSw); obtain ⟨s0, s1⟩ := hSw; go_simp; (try with_reducible rfl); done)); (try simp only [Act.put, List.setIfInBounds_toArray, List.set_cons_zero, List.set_cons_succ]))
    (refine takeH (i := 2) (v := ?_) rfl (by kernel_rfl) (by kernel_rfl) (by kernel_rfl) (fun _ _ _ h => h) (Or.inl ⟨by rfl, ?_⟩) (by assumption) ?_; rotate_left; (focus ((intro wS hSw); (try dsimp only at hSw); obtain ⟨s0, s1⟩ := hSw; go_simp; (try with_reducible rfl); done)); (try simp only [Act.put, List.setIfInBounds_toArray, List.set_cons_zero, List.set_cons_succ]))
    (refine takeH (i := 3) (v := ?_) rfl (by kernel_rfl) (by kernel_rfl) (by kernel_rfl) (fun _ _ _ h => h) (Or.inl ⟨by rfl, ?_⟩) (by assumption) ?_; rotate_left; (focus ((intro wS hSw); (try dsimp only at hSw); obtain ⟨s0, s1⟩ := hSw; go_simp; (try with_reducible rfl); done)); (try simp only [Act.put, List.setIfInBounds_toArray, List.set_cons_zero, List.set_cons_succ]))
    (refine takeH (i := 4) (v := (.bool true)) rfl (by kernel_rfl) (by kernel_rfl) (by kernel_rfl) (fun _ _ _ h => h) (Or.inl ⟨by rfl, by (intro wS hSw); (try dsimp only at hSw); (obtain ⟨s0, s1⟩ := hSw); go_simp; (first | done | omega | (simp; omega))⟩) (by assumption) ?_; (try simp only [Act.put, List.setIfInBounds_toArray, List.set_cons_zero, List.set_cons_succ]))
    (refine takeH (i := 5) (v := ?_) rfl (by kernel_rfl) (by kernel_rfl) (by kernel_rfl) (fun _ _ _ h => h) (Or.inl ⟨by rfl, ?_⟩) (by assumption) ?_; rotate_left; (focus ((intro wS hSw); (try dsimp only at hSw); obtain ⟨s0, s1⟩ := hSw; go_simp; (try with_reducible rfl); done)); (try simp only [Act.put, List.setIfInBounds_toArray, List.set_cons_zero, List.set_cons_succ]))
    (refine takeH (i := 6) (v := ?_) rfl (by kernel_rfl) (by kernel_rfl) (by kernel_rfl) (fun _ _ _ h => h) (Or.inl ⟨by rfl, ?_⟩) (by assumption) ?_; rotate_left; (focus ((intro wS hSw); (try dsimp only at hSw); obtain ⟨s0, s1⟩ := hSw; go_simp; (try with_reducible rfl); done)); (try simp only [Act.put, List.setIfInBounds_toArray, List.set_cons_zero, List.set_cons_succ]))
    (refine takeH (i := 7) (v := ?_) rfl (by kernel_rfl) (by kernel_rfl) (by kernel_rfl) (fun _ _ _ h => h) (Or.inl ⟨by rfl, ?_⟩) (by assumption) ?_; rotate_left; (focus ((intro wS hSw); (try dsimp only at hSw); obtain ⟨s0, s1⟩ := hSw; go_simp; (try with_reducible rfl); done)); (try simp only [Act.put, List.setIfInBounds_toArray, List.set_cons_zero, List.set_cons_succ]))
    (refine takeH (i := 8) (v := ?_) rfl (by kernel_rfl) (by kernel_rfl) (by kernel_rfl) (fun _ _ _ h => h) (Or.inl ⟨by rfl, ?_⟩) (by assumption) ?_; rotate_left; (focus ((intro wS hSw); (try dsimp only at hSw); obtain ⟨s0, s1⟩ := hSw; go_simp; (try with_reducible rfl); done)); (try simp only [Act.put, List.setIfInBounds_toArray, List.set_cons_zero, List.set_cons_succ]))
    refine aloneH (i := 9) rfl (by kernel_rfl) (fun K hK => ?_)
    rw [if_pos (by rfl)]
    go_simp; ((refine (HC.out _).mono ?_); (rintro e w1 ⟨rfl, hb⟩); have HB1 := Lib.hid hb; clear hb; (try go_simp))
    refine hK.out _ _ (⟨cell_on HB1.out hHeld.1, cell_on HB1.out hHeld.2⟩) (fun hNew => ?_)
    clear hK K hHeld; (have hHeld := hNew); clear hNew; (try simp only [Act.put, List.setIfInBounds_toArray, List.set_cons_zero, List.set_cons_succ])
    (refine takeH (i := 10) (v := (.bool q)) rfl (by kernel_rfl) (by kernel_rfl) (by kernel_rfl) (fun _ _ _ h => h) (yieldsIf_eqSp (by rfl) _ _ _ rfl f u (hiN f 0) (loN u 2932896) rfl rfl q hd.out) (by assumption) ?_; (try simp only [Act.put, List.setIfInBounds_toArray, List.set_cons_zero, List.set_cons_succ]))
    (refine takeH (i := 11) (v := ?_) rfl (by kernel_rfl) (by kernel_rfl) (by kernel_rfl) (fun _ _ _ h => h) (Or.inl ⟨by rfl, ?_⟩) (by assumption) ?_; rotate_left; (focus ((intro wS hSw); (try dsimp only at hSw); obtain ⟨s0, s1⟩ := hSw; go_simp; (try with_reducible rfl); done)); (try simp only [Act.put, List.setIfInBounds_toArray, List.set_cons_zero, List.set_cons_succ]))
    (refine takeH (i := 12) (v := ?_) rfl (by kernel_rfl) (by kernel_rfl) (by kernel_rfl) (fun _ _ _ h => h) (Or.inl ⟨by rfl, ?_⟩) (by assumption) ?_; rotate_left; (focus ((intro wS hSw); (try dsimp only at hSw); obtain ⟨s0, s1⟩ := hSw; go_simp; (try with_reducible rfl); done)); (try simp only [Act.put, List.setIfInBounds_toArray, List.set_cons_zero, List.set_cons_succ]))
    refine wpAnyH_done (by kernel_rfl) ?_ _
    clear hHeld
    go_wp2
    go_ret
    exact ⟨rfl, below_then HB0.out HB1.out⟩
  · rw [decide_eq_false (show ¬ isSp f u from fun h => h1 h.2.1)]
    go_enter Tryz.func62, Tryz.ntmps62
    go_wp2
    refine wp_region_held_drew (S := fun W => W.cell? ⟨w.heap.size, 0, none⟩ = some (.int .i64 f) ∧ W.cell? ⟨w.heap.size, 1, none⟩ = some (.int .i64 u)) (by kernel_rfl) ⟨cell_on (below_drew _) hS.1, cell_on (below_drew _) hS.2.1⟩ ?_
    intro hHeld
    have HB0 := Lib.hid (below_then hS.2.2 (below_drew _))
    clear hS
    generalize (w.alloc _).drew = w0 at HB0 hHeld ⊢
    (refine takeH (i := 0) (v := ?_) rfl (by kernel_rfl) (by kernel_rfl) (by kernel_rfl) (fun _ _ _ h => h) (Or.inl ⟨by rfl, ?_⟩) (by assumption) ?_; rotate_left; (focus ((intro wS hSw); (try dsimp only at hSw); obtain ⟨s0, s1⟩ := hSw; go_simp; (try with_reducible rfl); done)); (try simp only [Act.put, List.setIfInBounds_toArray, List.set_cons_zero, List.set_cons_succ]))
    (refine takeH (i := 1) (v := ?_) rfl (by kernel_rfl) (by kernel_rfl) (by kernel_rfl) (fun _ _ _ h => h) (Or.inl ⟨by rfl, ?_⟩) (by assumption) ?_; rotate_left; (focus ((intro wS hSw); (try dsimp only at hSw); obtain ⟨s0, s1⟩ := hSw; go_simp; (try with_reducible rfl); done)); (try simp only [Act.put, List.setIfInBounds_toArray, List.set_cons_zero, List.set_cons_succ]))
    (refine takeH (i := 2) (v := ?_) rfl (by kernel_rfl) (by kernel_rfl) (by kernel_rfl) (fun _ _ _ h => h) (Or.inl ⟨by rfl, ?_⟩) (by assumption) ?_; rotate_left; (focus ((intro wS hSw); (try dsimp only at hSw); obtain ⟨s0, s1⟩ := hSw; go_simp; (try with_reducible rfl); done)); (try simp only [Act.put, List.setIfInBounds_toArray, List.set_cons_zero, List.set_cons_succ]))
    (refine takeH (i := 3) (v := ?_) rfl (by kernel_rfl) (by kernel_rfl) (by kernel_rfl) (fun _ _ _ h => h) (Or.inl ⟨by rfl, ?_⟩) (by assumption) ?_; rotate_left; (focus ((intro wS hSw); (try dsimp only at hSw); obtain ⟨s0, s1⟩ := hSw; go_simp; (try with_reducible rfl); done)); (try simp only [Act.put, List.setIfInBounds_toArray, List.set_cons_zero, List.set_cons_succ]))
    (refine takeH (i := 4) (v := (.bool false)) rfl (by kernel_rfl) (by kernel_rfl) (by kernel_rfl) (fun _ _ _ h => h) (Or.inl ⟨by rfl, by (intro wS hSw); (try dsimp only at hSw); (obtain ⟨s0, s1⟩ := hSw); go_simp; (first | done | omega | (simp; omega))⟩) (by assumption) ?_; (try simp only [Act.put, List.setIfInBounds_toArray, List.set_cons_zero, List.set_cons_succ]))
    (refine takeH (i := 5) (v := ?_) rfl (by kernel_rfl) (by kernel_rfl) (by kernel_rfl) (fun _ _ _ h => h) (Or.inl ⟨by rfl, ?_⟩) (by assumption) ?_; rotate_left; (focus ((intro wS hSw); (try dsimp only at hSw); obtain ⟨s0, s1⟩ := hSw; go_simp; (try with_reducible rfl); done)); (try simp only [Act.put, List.setIfInBounds_toArray, List.set_cons_zero, List.set_cons_succ]))
    (refine takeH (i := 6) (v := undef) rfl (by kernel_rfl) (by kernel_rfl) (by kernel_rfl) (fun _ _ _ h => h) (Or.inr ⟨by rfl, rfl⟩) (by assumption) ?_; (try simp only [Act.put, List.setIfInBounds_toArray, List.set_cons_zero, List.set_cons_succ]))
    (refine takeH (i := 7) (v := undef) rfl (by kernel_rfl) (by kernel_rfl) (by kernel_rfl) (fun _ _ _ h => h) (Or.inr ⟨by rfl, rfl⟩) (by assumption) ?_; (try simp only [Act.put, List.setIfInBounds_toArray, List.set_cons_zero, List.set_cons_succ]))
    (refine takeH (i := 8) (v := undef) rfl (by kernel_rfl) (by kernel_rfl) (by kernel_rfl) (fun _ _ _ h => h) (Or.inr ⟨by rfl, rfl⟩) (by assumption) ?_; (try simp only [Act.put, List.setIfInBounds_toArray, List.set_cons_zero, List.set_cons_succ]))
    (refine takeH (i := 9) (v := undef) rfl (by kernel_rfl) (by kernel_rfl) (by kernel_rfl) (fun _ _ _ h => h) (Or.inr ⟨by rfl, rfl⟩) (by assumption) ?_; (try simp only [Act.put, List.setIfInBounds_toArray, List.set_cons_zero, List.set_cons_succ]))
    (refine takeH (i := 10) (v := undef) rfl (by kernel_rfl) (by kernel_rfl) (by kernel_rfl) (fun _ _ _ h => h) (Or.inr ⟨by rfl, rfl⟩) (by assumption) ?_; (try simp only [Act.put, List.setIfInBounds_toArray, List.set_cons_zero, List.set_cons_succ]))
    (refine takeH (i := 11) (v := ?_) rfl (by kernel_rfl) (by kernel_rfl) (by kernel_rfl) (fun _ _ _ h => h) (Or.inl ⟨by rfl, ?_⟩) (by assumption) ?_; rotate_left; (focus ((intro wS hSw); (try dsimp only at hSw); obtain ⟨s0, s1⟩ := hSw; go_simp; (try with_reducible rfl); done)); (try simp only [Act.put, List.setIfInBounds_toArray, List.set_cons_zero, List.set_cons_succ]))
    (refine takeH (i := 12) (v := ?_) rfl (by kernel_rfl) (by kernel_rfl) (by kernel_rfl) (fun _ _ _ h => h) (Or.inl ⟨by rfl, ?_⟩) (by assumption) ?_; rotate_left; (focus ((intro wS hSw); (try dsimp only at hSw); obtain ⟨s0, s1⟩ := hSw; go_simp; (try with_reducible rfl); done)); (try simp only [Act.put, List.setIfInBounds_toArray, List.set_cons_zero, List.set_cons_succ]))
    refine wpAnyH_done (by kernel_rfl) ?_ _
    clear hHeld
    go_wp2
    go_ret
    exact ⟨rfl, below_then HB0.out (below_same w0)⟩
theorem is_at {f u : Int} {q : Bool} (h : decide (isSp f u) = q) (w : World) : Calls Tryz.prog 62 #[.agg #[.int .i64 f, .int .i64 u]] w fun e w' => e = .returned (.bool q) ∧ Below w.heap.size w w' := by
  rw [← h]
  exact code_isSpan f u w
/-- a box of two cells, as it stands -/
theorem row2 {W : World} {g : Nat} {a b : Value} {t : TypeId} (h : W.heap[g]? = some (.cells #[a, b] t (0, 0))) : W.cell? ⟨g, 0, none⟩ = some a ∧ W.cell? ⟨g, 1, none⟩ = some b ∧ W.frozen? ⟨g, 0, none⟩ = false ∧ W.frozen? ⟨g, 1, none⟩ = false := by
  have h0 := cell_of_row W g 0 _ _ _ h
  have h1 := cell_of_row W g 1 _ _ _ h
  exact ⟨h0, h1, frozen_of_row W g 0 _ _ h, frozen_of_row W g 1 _ _ h⟩
end Go.Proofs.YtgljajoknmgoeaaGreat

namespace Go.Proofs.YtgljajoknmgoeaaGreat
open Go.RowKit
set_option maxRecDepth 100000

/-- three boxes for spans, one behind the other, and what is known of them later -/
def boxes3 (w : World) (f u g v : Int) : World := ((w.alloc (.cells #[.int .i64 f, .int .i64 u] 39)).alloc (.cells #[.int .i64 g, .int .i64 v] 39)).alloc (.cells #[.int .i64 0, .int .i64 0] 39)
def Box3 (w : World) (f u g v : Int) (W : World) : Prop :=
  W.heap[w.heap.size]? = some (.cells #[.int .i64 f, .int .i64 u] 39 (0, 0)) ∧ W.heap[w.heap.size + 1]? = some (.cells #[.int .i64 g, .int .i64 v] 39 (0, 0)) ∧
  W.heap[w.heap.size + 1 + 1]? = some (.cells #[.int .i64 0, .int .i64 0] 39 (0, 0)) ∧ Below w.heap.size w W
theorem Box3.on {w W V : World} {f u g v : Int} (h : Box3 w f u g v W) (hb : Below W.heap.size W V) : Box3 w f u g v V := ⟨heap_on hb h.1, heap_on hb h.2.1, heap_on hb h.2.2.1, below_then h.2.2.2 hb⟩
theorem box3 (w : World) (f u g v : Int) : Box3 w f u g v (boxes3 w f u g v) := by
  have e1 := heap_alloc_new w (.cells #[.int .i64 f, .int .i64 u] 39)
  have e2 := heap_alloc_new (w.alloc (.cells #[.int .i64 f, .int .i64 u] 39)) (.cells #[.int .i64 g, .int .i64 v] 39)
  have e3 := heap_alloc_new ((w.alloc (.cells #[.int .i64 f, .int .i64 u] 39)).alloc (.cells #[.int .i64 g, .int .i64 v] 39)) (.cells #[.int .i64 0, .int .i64 0] 39)
  simp only [World.size_alloc] at e2 e3
  exact ⟨heap_on (below_alloc _ _) (heap_on (below_alloc _ _) e1), heap_on (below_alloc _ _) e2, e3, below_then (below_alloc _ _) (below_then (below_alloc _ _) (below_alloc _ _))⟩
/-- two cells written, one behind the other -/
theorem cell_ne {W : World} {p q : Addr} {v : Value} (h : q ≠ p) : (W.setCell p v).cell? q = W.cell? q := World.cell?_setCell_other W p q v h.symm
theorem set2 {W : World} {g : Nat} {a b a' b' : Value} {t : TypeId} (h : W.heap[g]? = some (.cells #[a', b'] t (0, 0))) : ((W.setCell ⟨g, 0, none⟩ a).setCell ⟨g, 1, none⟩ b).rangeAt g 0 [a, b] := by
  obtain ⟨c0, c1, _, _⟩ := row2 h
  intro j v hv
  match j with
  | 0 =>
    simp at hv; subst hv
    exact (cell_ne (by simp)).trans (World.cell?_setCell_same' _ _ _ (by rw [c0]; rfl))
  | 1 =>
    simp at hv; subst hv
    refine World.cell?_setCell_same' _ _ _ ?_
    rw [(cell_ne (by simp)).trans c1]; rfl
  | j + 2 => simp at hv
theorem set2_below {w W : World} {g : Nat} {a b : Value} (hb : Below w.heap.size w W) (hg : w.heap.size ≤ g) : Below w.heap.size w ((W.setCell ⟨g, 0, none⟩ a).setCell ⟨g, 1, none⟩ b) := (hb.setCell (p := ⟨g, 0, none⟩) hg _).setCell (p := ⟨g, 1, none⟩) hg _

set_option maxHeartbeats 400000 in
theorem meet_not1 (f u g v : Int) (w : World) (hA : decide (isSp f u) = false) : Calls Tryz.prog 88 #[.agg #[.int .i64 f, .int .i64 u], .agg #[.int .i64 g, .int .i64 v]] w fun e w' => e = .returned (.tuple #[.agg #[.int .i64 0, .int .i64 0], .bool false]) ∧ Below w.heap.size w w' := by
  have HA := Lib.hid (fun W => is_at hA W)
  clear hA
  have HC := Lib.hid (fun W => code_common f u g v W)
  have HB := Lib.hid (box3 w f u g v)
  unfold boxes3 at HB
  go_enter Tryz.func88, Tryz.ntmps88
  go_wp2_with (go_at_call 87; refine (HC.out _).mono ?_; rintro e w1 ⟨rfl, hb⟩; have HB1 := Lib.hid (HB.out.on hb); obtain ⟨a0, a1, _, _⟩ := row2 HB1.out.1; obtain ⟨b0, b1, _, _⟩ := row2 HB1.out.2.1; have hz0 : w.heap.size < w1.heap.size := heapLt HB1.out.1; have hz1 : w.heap.size + 1 < w1.heap.size := heapLt HB1.out.2.1; have HM1 := Lib.hid (heap_alloc_new w1 (.cells #[.int .i64 (hiN f g), .int .i64 (loN u v)] 39)); clear hb; refine Stop.out ?_)
  unfold Stop
  go_wp2_with (go_at_call 62; refine (HA.out _).mono ?_; rintro e w2 ⟨rfl, hb⟩; have HB2 := Lib.hid ((HB1.out.on (below_alloc _ _)).on hb); have HM2 := Lib.hid (heap_on hb HM1.out); obtain ⟨a20, a21, _, _⟩ := row2 HB2.out.1; obtain ⟨b20, b21, _, _⟩ := row2 HB2.out.2.1; obtain ⟨c20, c21, f20, f21⟩ := row2 HB2.out.2.2.1; obtain ⟨m20, m21, _, _⟩ := row2 HM2.out; clear hb; refine Stop.out ?_)
  unfold Stop
  go_wp2
  exact bodyPost_ret (results_span2 rfl _ _ _ _ _ _ rfl rfl (set2 HB2.out.2.2.1)) rfl ⟨rfl, set2_below HB2.out.2.2.2 (by omega)⟩
set_option maxHeartbeats 400000 in
theorem meet_not2 (f u g v : Int) (w : World) (hA : decide (isSp f u) = true) (hB : decide (isSp g v) = false) : Calls Tryz.prog 88 #[.agg #[.int .i64 f, .int .i64 u], .agg #[.int .i64 g, .int .i64 v]] w fun e w' => e = .returned (.tuple #[.agg #[.int .i64 0, .int .i64 0], .bool false]) ∧ Below w.heap.size w w' := by
  have HA := Lib.hid (fun W => is_at hA W)
  have HBB := Lib.hid (fun W => is_at hB W)
  clear hA hB
  have HC := Lib.hid (fun W => code_common f u g v W)
  have HB := Lib.hid (box3 w f u g v)
  unfold boxes3 at HB
  go_enter Tryz.func88, Tryz.ntmps88
  go_wp2_with (go_at_call 87; refine (HC.out _).mono ?_; rintro e w1 ⟨rfl, hb⟩; have HB1 := Lib.hid (HB.out.on hb); obtain ⟨a0, a1, _, _⟩ := row2 HB1.out.1; obtain ⟨b0, b1, _, _⟩ := row2 HB1.out.2.1; have hz0 : w.heap.size < w1.heap.size := heapLt HB1.out.1; have hz1 : w.heap.size + 1 < w1.heap.size := heapLt HB1.out.2.1; have HM1 := Lib.hid (heap_alloc_new w1 (.cells #[.int .i64 (hiN f g), .int .i64 (loN u v)] 39)); clear hb; refine Stop.out ?_)
  unfold Stop
  go_wp2_with (go_at_call 62; refine (HA.out _).mono ?_; rintro e w2 ⟨rfl, hb⟩; have HB2 := Lib.hid ((HB1.out.on (below_alloc _ _)).on hb); have HM2 := Lib.hid (heap_on hb HM1.out); obtain ⟨a20, a21, _, _⟩ := row2 HB2.out.1; obtain ⟨b20, b21, _, _⟩ := row2 HB2.out.2.1; obtain ⟨c20, c21, f20, f21⟩ := row2 HB2.out.2.2.1; obtain ⟨m20, m21, _, _⟩ := row2 HM2.out; clear hb; refine Stop.out ?_)
  unfold Stop
  go_wp2_with (go_at_call 62; refine (HBB.out _).mono ?_; rintro e w3 ⟨rfl, hb⟩; have HB3 := Lib.hid (HB2.out.on hb); have HM3 := Lib.hid (heap_on hb HM2.out); obtain ⟨a30, a31, _, _⟩ := row2 HB3.out.1; obtain ⟨b30, b31, _, _⟩ := row2 HB3.out.2.1; obtain ⟨c30, c31, f30, f31⟩ := row2 HB3.out.2.2.1; obtain ⟨m30, m31, _, _⟩ := row2 HM3.out; clear hb; refine Stop.out ?_)
  unfold Stop
  go_wp2
  exact bodyPost_ret (results_span2 rfl _ _ _ _ _ _ rfl rfl (set2 HB3.out.2.2.1)) rfl ⟨rfl, set2_below HB3.out.2.2.2 (by omega)⟩
set_option maxHeartbeats 400000 in
theorem meet_not3 (f u g v : Int) (w : World) (hA : decide (isSp f u) = true) (hB : decide (isSp g v) = true) (hM : decide (isSp (hiN f g) (loN u v)) = false) : Calls Tryz.prog 88 #[.agg #[.int .i64 f, .int .i64 u], .agg #[.int .i64 g, .int .i64 v]] w fun e w' => e = .returned (.tuple #[.agg #[.int .i64 0, .int .i64 0], .bool false]) ∧ Below w.heap.size w w' := by
  have HA := Lib.hid (fun W => is_at hA W)
  have HBB := Lib.hid (fun W => is_at hB W)
  have HM := Lib.hid (fun W => is_at hM W)
  clear hA hB hM
  have HC := Lib.hid (fun W => code_common f u g v W)
  have HB := Lib.hid (box3 w f u g v)
  unfold boxes3 at HB
  go_enter Tryz.func88, Tryz.ntmps88
  go_wp2_with (go_at_call 87; refine (HC.out _).mono ?_; rintro e w1 ⟨rfl, hb⟩; have HB1 := Lib.hid (HB.out.on hb); obtain ⟨a0, a1, _, _⟩ := row2 HB1.out.1; obtain ⟨b0, b1, _, _⟩ := row2 HB1.out.2.1; have hz0 : w.heap.size < w1.heap.size := heapLt HB1.out.1; have hz1 : w.heap.size + 1 < w1.heap.size := heapLt HB1.out.2.1; have HM1 := Lib.hid (heap_alloc_new w1 (.cells #[.int .i64 (hiN f g), .int .i64 (loN u v)] 39)); clear hb; refine Stop.out ?_)
  unfold Stop
  go_wp2_with (go_at_call 62; refine (HA.out _).mono ?_; rintro e w2 ⟨rfl, hb⟩; have HB2 := Lib.hid ((HB1.out.on (below_alloc _ _)).on hb); have HM2 := Lib.hid (heap_on hb HM1.out); obtain ⟨a20, a21, _, _⟩ := row2 HB2.out.1; obtain ⟨b20, b21, _, _⟩ := row2 HB2.out.2.1; obtain ⟨c20, c21, f20, f21⟩ := row2 HB2.out.2.2.1; obtain ⟨m20, m21, _, _⟩ := row2 HM2.out; clear hb; refine Stop.out ?_)
  unfold Stop
  go_wp2_with (go_at_call 62; refine (HBB.out _).mono ?_; rintro e w3 ⟨rfl, hb⟩; have HB3 := Lib.hid (HB2.out.on hb); have HM3 := Lib.hid (heap_on hb HM2.out); obtain ⟨a30, a31, _, _⟩ := row2 HB3.out.1; obtain ⟨b30, b31, _, _⟩ := row2 HB3.out.2.1; obtain ⟨c30, c31, f30, f31⟩ := row2 HB3.out.2.2.1; obtain ⟨m30, m31, _, _⟩ := row2 HM3.out; clear hb; refine Stop.out ?_)
  unfold Stop
  go_wp2_with (go_at_call 62; refine (HM.out _).mono ?_; rintro e w4 ⟨rfl, hb⟩; have HB4 := Lib.hid (HB3.out.on hb); have HM4 := Lib.hid (heap_on hb HM3.out); obtain ⟨a40, a41, _, _⟩ := row2 HB4.out.1; obtain ⟨b40, b41, _, _⟩ := row2 HB4.out.2.1; obtain ⟨c40, c41, f40, f41⟩ := row2 HB4.out.2.2.1; obtain ⟨m40, m41, _, _⟩ := row2 HM4.out; clear hb; refine Stop.out ?_)
  unfold Stop
  go_wp2
  exact bodyPost_ret (results_span2 rfl _ _ _ _ _ _ rfl rfl (set2 HB4.out.2.2.1)) rfl ⟨rfl, set2_below HB4.out.2.2.2 (by omega)⟩
set_option maxHeartbeats 400000 in
theorem meet_yes (f u g v : Int) (w : World) (hA : decide (isSp f u) = true) (hB : decide (isSp g v) = true) (hM : decide (isSp (hiN f g) (loN u v)) = true) : Calls Tryz.prog 88 #[.agg #[.int .i64 f, .int .i64 u], .agg #[.int .i64 g, .int .i64 v]] w fun e w' => e = .returned (.tuple #[.agg #[.int .i64 (hiN f g), .int .i64 (loN u v)], .bool true]) ∧ Below w.heap.size w w' := by
  have HA := Lib.hid (fun W => is_at hA W)
  have HBB := Lib.hid (fun W => is_at hB W)
  have HM := Lib.hid (fun W => is_at hM W)
  clear hA hB hM
  have HC := Lib.hid (fun W => code_common f u g v W)
  have HB := Lib.hid (box3 w f u g v)
  unfold boxes3 at HB
  go_enter Tryz.func88, Tryz.ntmps88
  go_wp2_with (go_at_call 87; refine (HC.out _).mono ?_; rintro e w1 ⟨rfl, hb⟩; have HB1 := Lib.hid (HB.out.on hb); obtain ⟨a0, a1, _, _⟩ := row2 HB1.out.1; obtain ⟨b0, b1, _, _⟩ := row2 HB1.out.2.1; have hz0 : w.heap.size < w1.heap.size := heapLt HB1.out.1; have hz1 : w.heap.size + 1 < w1.heap.size := heapLt HB1.out.2.1; have HM1 := Lib.hid (heap_alloc_new w1 (.cells #[.int .i64 (hiN f g), .int .i64 (loN u v)] 39)); clear hb; refine Stop.out ?_)
  unfold Stop
  go_wp2_with (go_at_call 62; refine (HA.out _).mono ?_; rintro e w2 ⟨rfl, hb⟩; have HB2 := Lib.hid ((HB1.out.on (below_alloc _ _)).on hb); have HM2 := Lib.hid (heap_on hb HM1.out); obtain ⟨a20, a21, _, _⟩ := row2 HB2.out.1; obtain ⟨b20, b21, _, _⟩ := row2 HB2.out.2.1; obtain ⟨c20, c21, f20, f21⟩ := row2 HB2.out.2.2.1; obtain ⟨m20, m21, _, _⟩ := row2 HM2.out; clear hb; refine Stop.out ?_)
  unfold Stop
  go_wp2_with (go_at_call 62; refine (HBB.out _).mono ?_; rintro e w3 ⟨rfl, hb⟩; have HB3 := Lib.hid (HB2.out.on hb); have HM3 := Lib.hid (heap_on hb HM2.out); obtain ⟨a30, a31, _, _⟩ := row2 HB3.out.1; obtain ⟨b30, b31, _, _⟩ := row2 HB3.out.2.1; obtain ⟨c30, c31, f30, f31⟩ := row2 HB3.out.2.2.1; obtain ⟨m30, m31, _, _⟩ := row2 HM3.out; clear hb; refine Stop.out ?_)
  unfold Stop
  go_wp2_with (go_at_call 62; refine (HM.out _).mono ?_; rintro e w4 ⟨rfl, hb⟩; have HB4 := Lib.hid (HB3.out.on hb); have HM4 := Lib.hid (heap_on hb HM3.out); obtain ⟨a40, a41, _, _⟩ := row2 HB4.out.1; obtain ⟨b40, b41, _, _⟩ := row2 HB4.out.2.1; obtain ⟨c40, c41, f40, f41⟩ := row2 HB4.out.2.2.1; obtain ⟨m40, m41, _, _⟩ := row2 HM4.out; clear hb; refine Stop.out ?_)
  unfold Stop
  go_wp2
  exact bodyPost_ret (results_span2 rfl _ _ _ _ _ _ rfl rfl (set2 HB4.out.2.2.1)) rfl ⟨rfl, set2_below HB4.out.2.2.2 (by omega)⟩
/-- what 'Meet' answers -/
def meetB (f u g v : Int) : Bool := decide (meets f u g v)
def meetF (f u g v : Int) : Int := if meetB f u g v = true then hiN f g else 0
def meetU (f u g v : Int) : Int := if meetB f u g v = true then loN u v else 0
theorem meet_iff (f u g v : Int) : meets f u g v ↔ (isSp f u ∧ isSp g v ∧ isSp (hiN f g) (loN u v)) := by
  unfold meets isSp hiN loN
  split <;> split <;> constructor <;> intro h <;> omega
theorem code_meet (f u g v : Int) (w : World) : Calls Tryz.prog 88 #[.agg #[.int .i64 f, .int .i64 u], .agg #[.int .i64 g, .int .i64 v]] w fun e w' => e = .returned (.tuple #[.agg #[.int .i64 (meetF f u g v), .int .i64 (meetU f u g v)], .bool (meetB f u g v)]) ∧ Below w.heap.size w w' := by
  have hi := meet_iff f u g v
  have no : meetB f u g v = false → meetF f u g v = 0 ∧ meetU f u g v = 0 := fun h => by unfold meetF meetU; rw [h]; exact ⟨rfl, rfl⟩
  by_cases h1 : isSp f u
  · by_cases h2 : isSp g v
    · by_cases h3 : isSp (hiN f g) (loN u v)
      · have hb : meetB f u g v = true := decide_eq_true (hi.2 ⟨h1, h2, h3⟩)
        have e1 : meetF f u g v = hiN f g := by unfold meetF; rw [hb]; rfl
        have e2 : meetU f u g v = loN u v := by unfold meetU; rw [hb]; rfl
        rw [hb, e1, e2]
        exact meet_yes f u g v w (decide_eq_true h1) (decide_eq_true h2) (decide_eq_true h3)
      · have hb : meetB f u g v = false := decide_eq_false (fun h => h3 (hi.1 h).2.2)
        rw [(no hb).1, (no hb).2, hb]
        exact meet_not3 f u g v w (decide_eq_true h1) (decide_eq_true h2) (decide_eq_false h3)
    · have hb : meetB f u g v = false := decide_eq_false (fun h => h2 (hi.1 h).2.1)
      rw [(no hb).1, (no hb).2, hb]
      exact meet_not2 f u g v w (decide_eq_true h1) (decide_eq_false h2)
  · have hb : meetB f u g v = false := decide_eq_false (fun h => h1 (hi.1 h).1)
    rw [(no hb).1, (no hb).2, hb]
    exact meet_not1 f u g v w (decide_eq_false h1)
end Go.Proofs.YtgljajoknmgoeaaGreat
