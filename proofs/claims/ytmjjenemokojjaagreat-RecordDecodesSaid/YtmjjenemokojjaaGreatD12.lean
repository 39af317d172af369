/- What a document is that stands next, whatever stands there. A command's box, its fields stored one by one, beside a reader. -/
import Derived.Test.YtmjjenemokojjaaGreatD11
import Derived.WalkMore
import Derived.Laws.Rows
import Derived.Laws.Tables
import Derived.Laws.CopyRow
namespace Go.Proofs.YtmjjenemokojjaaGreat
open Go.RowKit Go.ChangeShapes
set_option maxRecDepth 100000
set_option linter.unusedSimpArgs false
set_option linter.unusedVariables false

abbrev HeadV := ByteArray × Bool × Bool × ByteArray × Int × ByteArray × ByteArray × ByteArray
noncomputable def headV (s : Bool × Text) : HeadV := (textV s, flagV (textS s), flagV (flagS (textS s)), textV (flagS (flagS (textS s))), numV (textS (flagS (flagS (textS s)))), textV (numS (textS (flagS (flagS (textS s))))), textV (textS (numS (textS (flagS (flagS (textS s)))))), textV (textS (textS (numS (textS (flagS (flagS (textS s))))))))
noncomputable def headS (s : Bool × Text) : Bool × Text := (textS (textS (textS (numS (textS (flagS (flagS (textS s))))))))
noncomputable def lineV (s : Bool × Text) : LineV := (numV s, numV (numS s), textV (numS (numS s)), textV (textS (numS (numS s))), textV (textS (textS (numS (numS s)))), numV (textS (textS (textS (numS (numS s))))), flagV (numS (textS (textS (textS (numS (numS s)))))), numV (flagS (numS (textS (textS (textS (numS (numS s))))))), flagV (numS (flagS (numS (textS (textS (textS (numS (numS s)))))))))
noncomputable def lineS (s : Bool × Text) : Bool × Text := (flagS (numS (flagS (numS (textS (textS (textS (numS (numS s)))))))))
noncomputable def linesR : Nat → Bool × Text → List LineV × (Bool × Text)
 | 0, s => ([], s)
 | k + 1, s => ((linesR k s).1 ++ [lineV (linesR k s).2], lineS (linesR k s).2)
theorem linesR_len (k : Nat) (s : Bool × Text) : (linesR k s).1.length = k := by
 induction k with
 | zero => rfl
 | succ k ih => simp only [linesR, List.length_append, ih, List.length_singleton]
def noHead : HeadV := (⟨#[]⟩, false, false, ⟨#[]⟩, 0, ⟨#[]⟩, ⟨#[]⟩, ⟨#[]⟩)
noncomputable def docR (s : Bool × Text) : HeadV × List LineV × (Bool × Text) :=
 if 64 < numV (headS s) then (noHead, [], numS (headS s)) else (headV s, (linesR (numV (headS s)).toNat (numS (headS s))).1, (linesR (numV (headS s)).toNat (numS (headS s))).2)
/-- a document read: its lines lie in a row of their own -/
def ReadDoc (w : World) (g : Nat) (s : Bool × Text) (e : Ending) (w1 : World) : Prop :=
 ∃ A c, e = .returned (.agg (docC (docR s).1 (.slice A (docR s).2.1.length c))) ∧ OwnLineV w1 w.heap.size (.slice A (docR s).2.1.length c) (docR s).2.1 ∧ RS w w1 g (docR s).2.2
end Go.Proofs.YtmjjenemokojjaaGreat

namespace Go.Proofs.YtmjjenemokojjaaGreat
open Go.RowKit Go.ChangeShapes
set_option maxRecDepth 100000
set_option linter.unusedSimpArgs false
set_option linter.unusedVariables false

def putAt (cs : Array Value) (i : Nat) (us : List Value) : Array Value := (cs.toList.take i ++ us ++ cs.toList.drop (i + us.length)).toArray
theorem putAt_size {cs : Array Value} {i : Nat} {us : List Value} (h : i + us.length ≤ cs.size) : (putAt cs i us).size = cs.size := by
 unfold putAt
 simp only [List.size_toArray, List.length_append, List.length_take, List.length_drop, Array.length_toList]
 omega
theorem wp_store_part {P : Program} {o : Oper} {a : Act} {w : World} {K : Act → World → Prop} {Q : Exit → Act → World → Prop} (T : TypeId) (x y : Operand) (ho : o.op = .store T x y) (g i : Nat) (hx : a.eval x = .pointer (some ⟨g, i, none⟩)) (v : Value) (us : List Value) (n : Nat)
 (hsz : (P.info? T).map (·.size) = some n) (hn : us.length = n) (hu : v.cells = us.toArray) (h1 : ∀ u ∈ us, u.oneCell' = true) (hy : a.eval y = v) (cs : Array Value) (t : TypeId) (hg : w.heap[g]? = some (.cells cs t (0, 0))) (hi : i + us.length ≤ cs.size)
 (h : K (a.put o.dst undef) (w.setRow g (putAt cs i us))) : o.wp P a w K Q := by
 subst hn
 have hst := run_storeCells_at P g i t us 0 cs w hg (by simpa using hi) h1
 simp only [Nat.add_zero] at hst
 have hs : (sizeOf T).run P w = .ok us.length w := by
  cases hq : P.info? T with
  | none => simp [hq] at hsz
  | some i =>
    have hz : i.size = us.length := by simpa [hq] using hsz
    simp [sizeOf, typeInfo, hq, hz]
 have e2 : (us.toArray : Array Value).size = us.length := by simp
 have e3 : (us.toArray : Array Value).toList = us := by simp
 unfold Oper.wp execOp
 simp only [ho, hx, hy, Instr.storeAt, Instr.sureAddr, Sem.run_bind, Sem.run_pure, Result.andThen_ok, storeVar, hu, hs, e2, e3, ne_eq, not_true_eq_false, if_false]
 rw [hst]
 exact h
theorem wpList_store_part {P : Program} {ops : Array Oper} {rest : List Oper} {o : Oper} {a : Act} {w : World} {Q : Exit → Act → World → Prop} (hgd : o.guard = none) (T : TypeId) (x y : Operand) (ho : o.op = .store T x y) (g i : Nat) (hx : a.eval x = .pointer (some ⟨g, i, none⟩)) (v : Value) (us : List Value) (n : Nat)
 (hsz : (P.info? T).map (·.size) = some n) (hn : us.length = n) (hu : v.cells = us.toArray) (h1 : ∀ u ∈ us, u.oneCell' = true) (hy : a.eval y = v) (cs : Array Value) (t : TypeId) (hg : w.heap[g]? = some (.cells cs t (0, 0))) (hi : i + us.length ≤ cs.size)
 (h : wpList P ops Q rest (a.put o.dst undef) (w.setRow g (putAt cs i us))) : wpList P ops Q (o :: rest) a w :=
 wpList_plain hgd fun _ hK => wp_store_part T x y ho g i hx v us n hsz hn hu h1 hy cs t hg hi (hK _ _ h)
theorem only_setRow (w : World) (g : Nat) (cs : Array Value) : Only w (w.setRow g cs) g := ⟨rfl, rfl, rfl, by simp [World.setRow], fun k _ hk => setRow_other w g k cs hk⟩
theorem RS.far {w0 w w1 : World} {g b : Nat} {s : Bool × Text} (h : RS w0 w g s) (hS : Only w w1 b) (hb : w0.heap.size ≤ b) : RS w0 w1 g s := by
 obtain ⟨⟨A, c, hh, h1, h2, h3, h4, h5⟩, hO, hgl⟩ := h
 refine ⟨⟨A, c, (hS.block g (heapLt hh) (by omega)).trans hh, h1, h2, h3.only hS (fun a e => ?_), h4, h5⟩, ⟨hS.os.trans hO.os, hS.tape.trans hO.tape, hS.output.trans hO.output, Nat.le_trans hO.size hS.size, fun k hk hn => (hS.block k (Nat.lt_of_lt_of_le hk hO.size) (by omega)).trans (hO.block k hk hn)⟩, hgl⟩
 have := h5 a e
 omega
structure RC (w0 w : World) (g : Nat) (s : Bool × Text) (b : Nat) (cs : Array Value) : Prop where
 rs : RS w0 w g s
 box : w.heap[b]? = some (.cells cs 28 (0, 0))
 far : w0.heap.size ≤ b
theorem RC.start {w0 w : World} {g : Nat} {s : Bool × Text} {cs : Array Value} (h : RS w0 w g s) : RC w0 (w.alloc (.cells cs 28)) g s w.heap.size cs := ⟨h.on (below_alloc _ _), heap_alloc_new w _, h.2.1.size⟩
theorem RC.read {w0 w w1 : World} {g b : Nat} {s s1} {cs} (h : RC w0 w g s b cs) (hr : RS w0 w1 g s1) (ho : Only w w1 g) : RC w0 w1 g s1 b cs :=
 ⟨hr, (ho.block b (heapLt h.box) (by have := h.rs.2.2; have := h.far; omega)).trans h.box, h.far⟩
theorem RC.put {w0 w : World} {g b : Nat} {s} {cs} (h : RC w0 w g s b cs) (cs1 : Array Value) : RC w0 (w.setRow b cs1) g s b cs1 :=
 ⟨h.rs.far (only_setRow w b cs1) h.far, setRow_heap w b cs cs1 _ _ h.box, h.far⟩
theorem RC.below {w0 w : World} {g b : Nat} {s} {cs} (h : RC w0 w g s b cs) (k : Nat) (hk : k < w0.heap.size) (hn : k ≠ g) : w.heap[k]? = w0.heap[k]? := h.rs.2.1.block k hk hn
theorem RC.num {w0 w : World} {g b : Nat} {s} {cs} (h : RC w0 w g s b cs) :
 Calls Tryz.prog 73 #[.pointer (some ⟨g, 0, none⟩)] w fun e w1 => e = .returned (.int .i64 (numV s)) ∧ RC w0 w1 g (numS s) b cs :=
 h.rs.num.mono fun e w1 hg => ⟨hg.1, h.read hg.2.1 hg.2.2⟩
theorem RC.text {w0 w : World} {g b : Nat} {s} {cs} (h : RC w0 w g s b cs) :
 Calls Tryz.prog 74 #[.pointer (some ⟨g, 0, none⟩)] w fun e w1 => e = .returned (.string (textV s)) ∧ RC w0 w1 g (textS s) b cs :=
 h.rs.text.mono fun e w1 hg => ⟨hg.1, h.read hg.2.1 hg.2.2⟩
theorem RC.flag {w0 w : World} {g b : Nat} {s} {cs} (h : RC w0 w g s b cs) :
 Calls Tryz.prog 101 #[.pointer (some ⟨g, 0, none⟩)] w fun e w1 => e = .returned (.bool (flagV s)) ∧ RC w0 w1 g (flagS s) b cs :=
 h.rs.flag.mono fun e w1 hg => ⟨hg.1, h.read hg.2.1 hg.2.2⟩
def kindC (k : Int) : Array Value := #[.int .i64 k, .string ⟨#[]⟩, .string ⟨#[]⟩, .int .i64 0, .int .i64 0, .int .i64 0, .int .i64 0, .int .i64 0, .int .i64 0, .int .i64 0, .int .i64 0, .int .i64 0, .int .i64 0, .string ⟨#[]⟩, .bool false, .bool false, .string ⟨#[]⟩, .int .i64 0, .string ⟨#[]⟩, .string ⟨#[]⟩, .string ⟨#[]⟩, .slice none 0 0]
theorem kindC_size (k : Int) : (kindC k).size = 22 := rfl
end Go.Proofs.YtmjjenemokojjaaGreat
