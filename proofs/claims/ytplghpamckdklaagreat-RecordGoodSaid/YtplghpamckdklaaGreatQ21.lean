/- A command's box, its fields stored one by one, beside a reader. A command, read, by its kind (1). -/
import Derived.Test.YtplghpamckdklaaGreatQ20
import Derived.Test.YtplghpamckdklaaGreatQ9
import Derived.WalkMore
import Derived.Laws.Rows
import Derived.Laws.Tables
import Derived.Laws.CopyRow
import Derived.Deep.Cut
import Derived.Deep.DeepCutAuto
import Derived.Laws.CopyOwn
namespace Go.Proofs.YtplghpamckdklaaGreat
open Go.RowKit Go.ChangeShapes
set_option maxRecDepth 100000
set_option linter.unusedSimpArgs false
set_option linter.unusedVariables false

def putAt (cs : Array Value) (i : Nat) (us : List Value) : Array Value := (cs.toList.take i ++ us ++ cs.toList.drop (i + us.length)).toArray
theorem putAt_size {cs : Array Value} {i : Nat} {us : List Value} (h : i + us.length ≤ cs.size) : (putAt cs i us).size = cs.size := by
  unfold putAt
  simp only [List.size_toArray, List.length_append, List.length_take, List.length_drop, Array.length_toList]
  omega
theorem wp_store_part {P : Program} {o : Oper} {a : Act} {w : World} {K : Act → World → Prop} {Q : Exit → Act → World → Prop} (T : TypeId) (x y : Operand) (ho : o.op = .store T x y) (g i : Nat) (hx : a.eval x = .pointer (some ⟨g, i, none⟩)) (v : Value) (us : List Value) (n : Nat)
    (hsz : (P.info? T).map (·.size) = some n) (hn : us.length = n) (hu : v.cells = us.toArray) (h1 : ∀ u ∈ us, u.oneCell' = true) (hy : a.eval y = v) (cs : Array Value) (t : TypeId) (hg : w.heap[g]? = some (.cells cs t (0, 0))) (hi : i + us.length ≤ cs.size)
    (h : K (a.put o.dst undef) (w.setRow g (putAt cs i us))) : o.wp P a w K Q := by
  subst hn
  have hst := run_storeCells_at P g i t us 0 cs w hg (by simpa using hi) h1
  simp only [Nat.add_zero] at hst
  have hs : (sizeOf T).run P w = .ok us.length w := by
    cases hq : P.info? T with
    | none => simp [hq] at hsz
    | some i =>
      have hz : i.size = us.length := by simpa [hq] using hsz
      simp [sizeOf, typeInfo, hq, hz]
  have e2 : (us.toArray : Array Value).size = us.length := by simp
  have e3 : (us.toArray : Array Value).toList = us := by simp
  unfold Oper.wp execOp
  simp only [ho, hx, hy, Instr.storeAt, Instr.sureAddr, Sem.run_bind, Sem.run_pure, Result.andThen_ok, storeVar, hu, hs, e2, e3, ne_eq, not_true_eq_false, if_false]
  rw [hst]
  exact h
theorem wpList_store_part {P : Program} {ops : Array Oper} {rest : List Oper} {o : Oper} {a : Act} {w : World} {Q : Exit → Act → World → Prop} (hgd : o.guard = none) (T : TypeId) (x y : Operand) (ho : o.op = .store T x y) (g i : Nat) (hx : a.eval x = .pointer (some ⟨g, i, none⟩)) (v : Value) (us : List Value) (n : Nat)
    (hsz : (P.info? T).map (·.size) = some n) (hn : us.length = n) (hu : v.cells = us.toArray) (h1 : ∀ u ∈ us, u.oneCell' = true) (hy : a.eval y = v) (cs : Array Value) (t : TypeId) (hg : w.heap[g]? = some (.cells cs t (0, 0))) (hi : i + us.length ≤ cs.size)
    (h : wpList P ops Q rest (a.put o.dst undef) (w.setRow g (putAt cs i us))) : wpList P ops Q (o :: rest) a w :=
  wpList_plain hgd fun _ hK => wp_store_part T x y ho g i hx v us n hsz hn hu h1 hy cs t hg hi (hK _ _ h)
theorem only_setRow (w : World) (g : Nat) (cs : Array Value) : Only w (w.setRow g cs) g := ⟨rfl, rfl, rfl, by simp [World.setRow], fun k _ hk => setRow_other w g k cs hk⟩
theorem RS.far {w0 w w1 : World} {g b : Nat} {s : Bool × Text} (h : RS w0 w g s) (hS : Only w w1 b) (hb : w0.heap.size ≤ b) : RS w0 w1 g s := by
  obtain ⟨⟨A, c, hh, h1, h2, h3, h4, h5⟩, hO, hgl⟩ := h
  refine ⟨⟨A, c, (hS.block g (heapLt hh) (by omega)).trans hh, h1, h2, h3.only hS (fun a e => ?_), h4, h5⟩, ⟨hS.os.trans hO.os, hS.tape.trans hO.tape, hS.output.trans hO.output, Nat.le_trans hO.size hS.size, fun k hk hn => (hS.block k (Nat.lt_of_lt_of_le hk hO.size) (by omega)).trans (hO.block k hk hn)⟩, hgl⟩
  have := h5 a e
  omega
structure RC (w0 w : World) (g : Nat) (s : Bool × Text) (b : Nat) (cs : Array Value) : Prop where
  rs : RS w0 w g s
  box : w.heap[b]? = some (.cells cs 28 (0, 0))
  far : w0.heap.size ≤ b
theorem RC.start {w0 w : World} {g : Nat} {s : Bool × Text} {cs : Array Value} (h : RS w0 w g s) : RC w0 (w.alloc (.cells cs 28)) g s w.heap.size cs := ⟨h.on (below_alloc _ _), heap_alloc_new w _, h.2.1.size⟩
theorem RC.read {w0 w w1 : World} {g b : Nat} {s s1} {cs} (h : RC w0 w g s b cs) (hr : RS w0 w1 g s1) (ho : Only w w1 g) : RC w0 w1 g s1 b cs :=
  ⟨hr, (ho.block b (heapLt h.box) (by have := h.rs.2.2; have := h.far; omega)).trans h.box, h.far⟩
theorem RC.put {w0 w : World} {g b : Nat} {s} {cs} (h : RC w0 w g s b cs) (cs1 : Array Value) : RC w0 (w.setRow b cs1) g s b cs1 :=
  ⟨h.rs.far (only_setRow w b cs1) h.far, setRow_heap w b cs cs1 _ _ h.box, h.far⟩
theorem RC.below {w0 w : World} {g b : Nat} {s} {cs} (h : RC w0 w g s b cs) (k : Nat) (hk : k < w0.heap.size) (hn : k ≠ g) : w.heap[k]? = w0.heap[k]? := h.rs.2.1.block k hk hn
theorem RC.num {w0 w : World} {g b : Nat} {s} {cs} (h : RC w0 w g s b cs) :
    Calls Tryz.prog 73 #[.pointer (some ⟨g, 0, none⟩)] w fun e w1 => e = .returned (.int .i64 (numV s)) ∧ RC w0 w1 g (numS s) b cs :=
  h.rs.num.mono fun e w1 hg => ⟨hg.1, h.read hg.2.1 hg.2.2⟩
theorem RC.text {w0 w : World} {g b : Nat} {s} {cs} (h : RC w0 w g s b cs) :
    Calls Tryz.prog 74 #[.pointer (some ⟨g, 0, none⟩)] w fun e w1 => e = .returned (.string (textV s)) ∧ RC w0 w1 g (textS s) b cs :=
  h.rs.text.mono fun e w1 hg => ⟨hg.1, h.read hg.2.1 hg.2.2⟩
theorem RC.flag {w0 w : World} {g b : Nat} {s} {cs} (h : RC w0 w g s b cs) :
    Calls Tryz.prog 101 #[.pointer (some ⟨g, 0, none⟩)] w fun e w1 => e = .returned (.bool (flagV s)) ∧ RC w0 w1 g (flagS s) b cs :=
  h.rs.flag.mono fun e w1 hg => ⟨hg.1, h.read hg.2.1 hg.2.2⟩
def kindC (k : Int) : Array Value := #[.int .i64 k, .string ⟨#[]⟩, .string ⟨#[]⟩, .int .i64 0, .int .i64 0, .int .i64 0, .int .i64 0, .int .i64 0, .int .i64 0, .int .i64 0, .int .i64 0, .int .i64 0, .int .i64 0, .string ⟨#[]⟩, .bool false, .bool false, .string ⟨#[]⟩, .int .i64 0, .string ⟨#[]⟩, .string ⟨#[]⟩, .string ⟨#[]⟩, .slice none 0 0]
theorem kindC_size (k : Int) : (kindC k).size = 22 := rfl
end Go.Proofs.YtplghpamckdklaaGreat

namespace Go.Proofs.YtplghpamckdklaaGreat
open Go.RowKit Go.ChangeShapes
set_option maxRecDepth 100000
set_option linter.unusedSimpArgs false
set_option linter.unusedVariables false

theorem cells_info' : (Tryz.prog.info? 28).map (·.size) = some 22 := by kernel_rfl
theorem RC.on {w0 w w1 : World} {g b : Nat} {s} {cs} (h : RC w0 w g s b cs) (hb : Below w.heap.size w w1) : RC w0 w1 g s b cs := ⟨h.rs.on hb, heap_on hb h.box, h.far⟩
theorem RC.at0 {w0 w : World} {g b : Nat} {s} {k : Int} (h : RC w0 w g s b (kindC k)) : w.cell? ⟨b, 0, none⟩ = some (.int .i64 k) := (cell_of_row _ b 0 _ _ _ h.box).trans rfl
def putAll (cs : Array Value) (l : List (Nat × List Value)) : Array Value := l.foldl (fun a p => putAt a p.1 p.2) cs
set_option maxHeartbeats 1000000 in
theorem code_year (n : Int) (w : World) : Calls Tryz.prog 75 #[.int .i64 n] w fun e w1 => e = .returned (.agg #[.int .i64 3, .int .i64 n, .int .i64 1]) ∧ Below w.heap.size w w1 := by
  have HB := Lib.hid (below_alloc w (.cells #[.int .i64 3, .int .i64 n, .int .i64 1] 23))
  go_enter Tryz.func75, Tryz.ntmps75
  have HX := Lib.hid (heap_alloc_new w (.cells #[.int .i64 3, .int .i64 n, .int .i64 1] 23))
  go_wp2
  exact bodyPost_ret (v := .agg #[.int .i64 3, .int .i64 n, .int .i64 1]) (results_cell_row Tryz.results75 _ _ w.heap.size 23 #[.int .i64 3, .int .i64 n, .int .i64 1] (0, 0) _ rfl HX.out Tryz.underlying23 rfl (by kernel_rfl)) rfl ⟨rfl, HB.out⟩
set_option maxHeartbeats 4000000 in
theorem read_1 (g : Nat) (s : Bool × Text) (w : World) (hr : Rdr w g s.1 s.2) (hk : numV s = 1) : Calls Tryz.prog 45 #[.pointer (some ⟨g, 0, none⟩)] w fun e w1 => ∃ cs, e = .returned (.agg cs) ∧ cs = putAll (kindC 1) [(1, [.string (textV (numS s))]), (9, [.int .i64 (numV (textS (numS s)))]), (5, [.int .i64 (numV (numS (textS (numS s))))])] ∧ RS w w1 g (numS (numS (textS (numS s)))) := by
  have HS0 := Lib.hid (RS.start (hr.on (below_alloc w (.cells #[.int .i64 0, .string ⟨#[]⟩, .string ⟨#[]⟩, .int .i64 0, .int .i64 0, .int .i64 0, .int .i64 0, .int .i64 0, .int .i64 0, .int .i64 0, .int .i64 0, .int .i64 0, .int .i64 0, .string ⟨#[]⟩, .bool false, .bool false, .string ⟨#[]⟩, .int .i64 0, .string ⟨#[]⟩, .string ⟨#[]⟩, .string ⟨#[]⟩, .slice none 0 0] 28))))
  have HZ0 := Lib.hid (heap_alloc_new w (.cells #[.int .i64 0, .string ⟨#[]⟩, .string ⟨#[]⟩, .int .i64 0, .int .i64 0, .int .i64 0, .int .i64 0, .int .i64 0, .int .i64 0, .int .i64 0, .int .i64 0, .int .i64 0, .int .i64 0, .string ⟨#[]⟩, .bool false, .bool false, .string ⟨#[]⟩, .int .i64 0, .string ⟨#[]⟩, .string ⟨#[]⟩, .string ⟨#[]⟩, .slice none 0 0] 28))
  have hgw : g < w.heap.size := heapLt hr.choose_spec.choose_spec.1
  have HP : Hid (∀ w1 s1, RS (w.alloc (.cells #[.int .i64 0, .string ⟨#[]⟩, .string ⟨#[]⟩, .int .i64 0, .int .i64 0, .int .i64 0, .int .i64 0, .int .i64 0, .int .i64 0, .int .i64 0, .int .i64 0, .int .i64 0, .int .i64 0, .string ⟨#[]⟩, .bool false, .bool false, .string ⟨#[]⟩, .int .i64 0, .string ⟨#[]⟩, .string ⟨#[]⟩, .string ⟨#[]⟩, .slice none 0 0] 28)) w1 g s1 → RS w w1 g s1) := Lib.hid (fun w1 s1 h => ⟨h.1, (Only.of_below (below_alloc w (.cells #[.int .i64 0, .string ⟨#[]⟩, .string ⟨#[]⟩, .int .i64 0, .int .i64 0, .int .i64 0, .int .i64 0, .int .i64 0, .int .i64 0, .int .i64 0, .int .i64 0, .int .i64 0, .int .i64 0, .string ⟨#[]⟩, .bool false, .bool false, .string ⟨#[]⟩, .int .i64 0, .string ⟨#[]⟩, .string ⟨#[]⟩, .string ⟨#[]⟩, .slice none 0 0] 28))).trans h.2.1, hgw⟩)
  have HG : Hid (g < w.heap.size ∧ w.heap.size < (w.alloc (.cells #[.int .i64 0, .string ⟨#[]⟩, .string ⟨#[]⟩, .int .i64 0, .int .i64 0, .int .i64 0, .int .i64 0, .int .i64 0, .int .i64 0, .int .i64 0, .int .i64 0, .int .i64 0, .int .i64 0, .string ⟨#[]⟩, .bool false, .bool false, .string ⟨#[]⟩, .int .i64 0, .string ⟨#[]⟩, .string ⟨#[]⟩, .string ⟨#[]⟩, .slice none 0 0] 28)).heap.size) := Lib.hid ⟨hgw, by simp⟩
  have HK := Lib.hid hk
  have hmf : ∀ (fn : Fn) (first cap : Array Value) (w : World), (Instr.makeFunc fn first cap).run Tryz.prog w = .ok (.func fn first cap) w := fun _ _ _ _ => rfl
  clear hr hgw hk
  go_enter Tryz.func45, Tryz.ntmps45
  go_upto_region 2 with fail
  generalize World.alloc w _ = w0 at HS0 HZ0 HP HG ⊢
  have HZ : Hid (w0.heap[w.heap.size]? = some (.cells zeroCmd 28 (0, 0))) := HZ0
  clear HZ0
  have HN : Hid (Calls Tryz.prog 73 #[.pointer (some ⟨g, 0, none⟩)] w0 fun e w1 => e = .returned (.int .i64 1) ∧ RS w0 w1 g (numS s)) := Lib.hid (HS0.out.num.mono fun e w1 h => ⟨by rw [← HK.out]; exact h.1, h.2.1⟩)
  go_wp2_with (go_at_call 73; refine HN.out.mono ?_; rintro e w1 ⟨rfl, hs⟩; have HR := Lib.hid hs; clear hs; refine Stop.out ?_)
  unfold Stop
  have HA := Lib.hid (heap_alloc_new w1 (.cells #[.int .i64 0, .string ⟨#[]⟩, .string ⟨#[]⟩, .int .i64 0, .int .i64 0, .int .i64 0, .int .i64 0, .int .i64 0, .int .i64 0, .int .i64 0, .int .i64 0, .int .i64 0, .int .i64 0, .string ⟨#[]⟩, .bool false, .bool false, .string ⟨#[]⟩, .int .i64 0, .string ⟨#[]⟩, .string ⟨#[]⟩, .string ⟨#[]⟩, .slice none 0 0] 28))
  have HC := Lib.hid ((RC.start (cs := #[.int .i64 0, .string ⟨#[]⟩, .string ⟨#[]⟩, .int .i64 0, .int .i64 0, .int .i64 0, .int .i64 0, .int .i64 0, .int .i64 0, .int .i64 0, .int .i64 0, .int .i64 0, .int .i64 0, .string ⟨#[]⟩, .bool false, .bool false, .string ⟨#[]⟩, .int .i64 0, .string ⟨#[]⟩, .string ⟨#[]⟩, .string ⟨#[]⟩, .slice none 0 0]) HR.out).put #[.int .i64 1, .string ⟨#[]⟩, .string ⟨#[]⟩, .int .i64 0, .int .i64 0, .int .i64 0, .int .i64 0, .int .i64 0, .int .i64 0, .int .i64 0, .int .i64 0, .int .i64 0, .int .i64 0, .string ⟨#[]⟩, .bool false, .bool false, .string ⟨#[]⟩, .int .i64 0, .string ⟨#[]⟩, .string ⟨#[]⟩, .string ⟨#[]⟩, .slice none 0 0])
  have HO1 : Hid ((#[.int .i64 1, .string ⟨#[]⟩, .string ⟨#[]⟩, .int .i64 0, .int .i64 0, .int .i64 0, .int .i64 0, .int .i64 0, .int .i64 0, .int .i64 0, .int .i64 0, .int .i64 0, .int .i64 0, .string ⟨#[]⟩, .bool false, .bool false, .string ⟨#[]⟩, .int .i64 0, .string ⟨#[]⟩, .string ⟨#[]⟩, .string ⟨#[]⟩, .slice none 0 0] : Array Value).all (·.oneCell') = true) := Lib.hid (by simp [Value.oneCell'])
  go_wp2_with ((with_reducible refine wpList_store_row (o := ⟨none, _, _, _, _, _⟩) ?b1 28 (.tmp 5) (.tmp 12) ?b2 w1.heap.size #[.int .i64 1, .string ⟨#[]⟩, .string ⟨#[]⟩, .int .i64 0, .int .i64 0, .int .i64 0, .int .i64 0, .int .i64 0, .int .i64 0, .int .i64 0, .int .i64 0, .int .i64 0, .int .i64 0, .string ⟨#[]⟩, .bool false, .bool false, .string ⟨#[]⟩, .int .i64 0, .string ⟨#[]⟩, .string ⟨#[]⟩, .string ⟨#[]⟩, .slice none 0 0] ?b3 ?b4 28 #[.int .i64 0, .string ⟨#[]⟩, .string ⟨#[]⟩, .int .i64 0, .int .i64 0, .int .i64 0, .int .i64 0, .int .i64 0, .int .i64 0, .int .i64 0, .int .i64 0, .int .i64 0, .int .i64 0, .string ⟨#[]⟩, .bool false, .bool false, .string ⟨#[]⟩, .int .i64 0, .string ⟨#[]⟩, .string ⟨#[]⟩, .string ⟨#[]⟩, .slice none 0 0] HA.out ?b5 ?b6 ?b7 ?_); (case b1 => rfl); (case b2 => rfl); (case b3 => rfl); (case b4 => rfl); (case b5 => exact cells_info'); (case b6 => rfl); (case b7 => exact HO1.out); refine Stop.out ?_)
  unfold Stop
  generalize World.setRow _ _ _ = w2 at HC ⊢
  generalize w1.heap.size = bb at HC ⊢
  generalize Value.agg #[.int .i64 1, .string ⟨#[]⟩, .string ⟨#[]⟩, .int .i64 0, .int .i64 0, .int .i64 0, .int .i64 0, .int .i64 0, .int .i64 0, .int .i64 0, .int .i64 0, .int .i64 0, .int .i64 0, .string ⟨#[]⟩, .bool false, .bool false, .string ⟨#[]⟩, .int .i64 0, .string ⟨#[]⟩, .string ⟨#[]⟩, .string ⟨#[]⟩, .slice none 0 0] = vk
  clear HA HO1
  have HC1 : Hid (RC w0 w2 g (numS s) bb (kindC 1)) := HC
  clear HC
  have HC := HC1
  clear HC1
  have y0 := HC.out.at0
  have HSZ : Hid ((kindC 1).size = 22) := Lib.hid (kindC_size _)
  generalize hcs : kindC 1 = cs0 at HC HSZ
  have HCS : Hid (kindC 1 = cs0) := Lib.hid hcs
  clear hcs HR HN HS0
  go_wp2_with (go_at_call 74; refine (HC.out.text).mono ?_; rintro e w3 ⟨rfl, hs⟩; have HR1 := Lib.hid hs; clear hs; clear y0; refine Stop.out ?_)
  unfold Stop
  clear HC
  go_wp2_with (go_at_call 73; refine (HR1.out.num).mono ?_; rintro e w4 ⟨rfl, hs⟩; have HR2 := Lib.hid hs; clear hs; refine Stop.out ?_)
  unfold Stop
  clear HR1
  go_wp2_with (go_at_call 73; refine (HR2.out.num).mono ?_; rintro e w5 ⟨rfl, hs⟩; have HR3 := Lib.hid hs; clear hs; refine Stop.out ?_)
  unfold Stop
  clear HR2
  go_wp2_with ((with_reducible refine wpList_store_part (o := ⟨none, _, _, _, _, _⟩) ?a0 9 (.tmp 42) (.tmp 37) ?a1 bb 1 ?a2 (.string (textV (numS s))) [.string (textV (numS s))] 1 ?a3 ?a4 ?a5 ?a6 ?a7 cs0 28 HR3.out.box ?a8 ?_); (case a0 => rfl); (case a1 => rfl); (case a2 => rfl); (case a3 => kernel_rfl); (case a4 => rfl); (case a5 => rfl); (case a6 => intro u hu; rw [List.mem_singleton] at hu; subst hu; rfl); (case a7 => rfl); (case a8 => have := HSZ.out; simp; omega); refine Stop.out ?_)
  unfold Stop
  have HR4 := Lib.hid (HR3.out.put (putAt cs0 1 [.string (textV (numS s))]))
  have HSZn : Hid ((putAt cs0 1 [.string (textV (numS s))]).size = 22) := Lib.hid ((putAt_size (by have := HSZ.out; simp; omega)).trans HSZ.out)
  clear HSZ
  have HSZ := HSZn
  clear HSZn
  generalize World.setRow _ _ _ = w6 at HR4 ⊢
  generalize hcs : putAt cs0 1 [.string (textV (numS s))] = cs4 at HR4 HSZ
  have HCS4 : Hid (putAt cs0 1 [.string (textV (numS s))] = cs4) := Lib.hid hcs
  clear hcs HR3
  go_wp2_with ((with_reducible refine wpList_store_part (o := ⟨none, _, _, _, _, _⟩) ?a0 3 (.tmp 43) (.tmp 39) ?a1 bb 9 ?a2 (.int .i64 (numV (textS (numS s)))) [.int .i64 (numV (textS (numS s)))] 1 ?a3 ?a4 ?a5 ?a6 ?a7 cs4 28 HR4.out.box ?a8 ?_); (case a0 => rfl); (case a1 => rfl); (case a2 => rfl); (case a3 => kernel_rfl); (case a4 => rfl); (case a5 => rfl); (case a6 => intro u hu; rw [List.mem_singleton] at hu; subst hu; rfl); (case a7 => rfl); (case a8 => have := HSZ.out; simp; omega); refine Stop.out ?_)
  unfold Stop
  have HR5 := Lib.hid (HR4.out.put (putAt cs4 9 [.int .i64 (numV (textS (numS s)))]))
  have HSZn : Hid ((putAt cs4 9 [.int .i64 (numV (textS (numS s)))]).size = 22) := Lib.hid ((putAt_size (by have := HSZ.out; simp; omega)).trans HSZ.out)
  clear HSZ
  have HSZ := HSZn
  clear HSZn
  generalize World.setRow _ _ _ = w7 at HR5 ⊢
  generalize hcs : putAt cs4 9 [.int .i64 (numV (textS (numS s)))] = cs5 at HR5 HSZ
  have HCS5 : Hid (putAt cs4 9 [.int .i64 (numV (textS (numS s)))] = cs5) := Lib.hid hcs
  clear hcs HR4
  go_wp2_with ((with_reducible refine wpList_store_part (o := ⟨none, _, _, _, _, _⟩) ?a0 3 (.tmp 44) (.tmp 41) ?a1 bb 5 ?a2 (.int .i64 (numV (numS (textS (numS s))))) [.int .i64 (numV (numS (textS (numS s))))] 1 ?a3 ?a4 ?a5 ?a6 ?a7 cs5 28 HR5.out.box ?a8 ?_); (case a0 => rfl); (case a1 => rfl); (case a2 => rfl); (case a3 => kernel_rfl); (case a4 => rfl); (case a5 => rfl); (case a6 => intro u hu; rw [List.mem_singleton] at hu; subst hu; rfl); (case a7 => rfl); (case a8 => have := HSZ.out; simp; omega); refine Stop.out ?_)
  unfold Stop
  have HR6 := Lib.hid (HR5.out.put (putAt cs5 5 [.int .i64 (numV (numS (textS (numS s))))]))
  have HSZn : Hid ((putAt cs5 5 [.int .i64 (numV (numS (textS (numS s))))]).size = 22) := Lib.hid ((putAt_size (by have := HSZ.out; simp; omega)).trans HSZ.out)
  clear HSZ
  have HSZ := HSZn
  clear HSZn
  generalize World.setRow _ _ _ = w8 at HR6 ⊢
  generalize hcs : putAt cs5 5 [.int .i64 (numV (numS (textS (numS s))))] = cs6 at HR6 HSZ
  have HCS6 : Hid (putAt cs5 5 [.int .i64 (numV (numS (textS (numS s))))] = cs6) := Lib.hid hcs
  clear hcs HR5
  have HONE : Hid (cs6.all (·.oneCell') = true) := Lib.hid (by rw [← HCS6.out, ← HCS5.out, ← HCS4.out, ← HCS.out]; simp [putAt, kindC, Value.oneCell'])
  have HI := Lib.hid (cmd_info HSZ.out)
  have HX := Lib.hid HR6.out.box
  have HZ9 := Lib.hid ((HR6.out.below w.heap.size HG.out.2 (Nat.ne_of_gt HG.out.1)).trans HZ.out)
  go_wp2_with ((with_reducible refine wpList_load_row (o := ⟨some 112, _, _, _, _, _⟩) ?a1 28 (.tmp 5) ?a2 bb ?a3 28 cs6 (0, 0) _ HX.out Tryz.underlying28 ?a4 HI.out ?_); (case a1 => rfl); (case a2 => rfl); (case a3 => rfl); (case a4 => rfl); refine Stop.out ?_)
  unfold Stop
  go_wp2_with ((with_reducible refine wpList_store_row (o := ⟨none, _, _, _, _, _⟩) ?b1 28 (.tmp 2) (.tmp 112) ?b2 w.heap.size cs6 ?b3 ?b4 28 zeroCmd HZ9.out HI.out ?b5 ?b6 ?_); (case b1 => rfl); (case b2 => rfl); (case b3 => rfl); (case b4 => rfl); (case b5 => exact HSZ.out.symm); (case b6 => exact HONE.out); refine Stop.out ?_)
  unfold Stop
  have HP9 := Lib.hid (setRow_heap _ w.heap.size _ cs6 _ _ HZ9.out)
  go_wp2
  exact bodyPost_ret (v := .agg cs6) (results_cell_row Tryz.results45 _ _ w.heap.size 28 cs6 (0, 0) _ rfl HP9.out Tryz.underlying28 rfl HI.out) rfl ⟨cs6, rfl, by unfold putAll; rw [← HCS6.out, ← HCS5.out, ← HCS4.out, ← HCS.out]; rfl, (HP.out _ _ HR6.out.rs).far (only_setRow _ _ _) (Nat.le_refl _)⟩
end Go.Proofs.YtplghpamckdklaaGreat
