/- Whether something is so of a leaf and all in it. -/
import Derived.Test.YtbplhjoompgemaaCkV
namespace Go.Proofs.Ytbplhjoompgemaa
open Go.RowKit
set_option maxRecDepth 100000
set_option linter.unusedSimpArgs false
set_option linter.unusedVariables false
attribute [local go_sem] Oper.semAt_some

theorem run_look1 (w : World) (m : Nat) (k : Key) (hk : PlainK w k) (E : List (Key × Int)) (h : MapAt w m E) :
    (Instr.lookup 83 (.map (some m)) (kV k) false).run Try.prog w = .ok (.int .i64 ((valL k E).getD 0)) w := by
  obtain ⟨h1, h2⟩ := h
  have hz : (zeroValue 3).run Try.prog w = .ok (.int .i64 0) w := by first | rfl | kernel_rfl | go_simp
  simp only [Instr.lookup, Sem.run_bind, run_underlying Try.underlying83, Result.andThen_ok]
  simp only [MapKept.run_getObj_map h1, Sem.run_bind, Sem.run_pure, Result.andThen_ok, run_check]
  rw [run_find w k hk E h2]
  unfold valL
  cases e : findL k 0 E with
  | none => simp [hz]
  | some x => simp
theorem yieldsIf_load_rowE {P : Program} {ops : Array Oper} {S : World → Prop} {op : Oper} {a : Act} (hw : Region.wanted op (yielded ops a.tmps) = true) (ty : TypeId) (x : Operand) (ho : op.op = .load ty x)
    (g : Nat) (hx : a.eval x = .pointer (some ⟨g, 0, none⟩)) (t : TypeId) (cs : Array Value) (fr : Nat × Nat) (d : TypeDesc) (hg : ∀ w, S w → w.heap[g]? = some (.cells cs t fr))
    (hu : P.underlying ty = some d) (hd : (match d with | .struct _ | .array _ _ => true | _ => false) = true) (hi : (P.info? ty).map (·.size) = some cs.size) : YieldsIf P ops S op (.agg cs) a :=
  .inl ⟨hw, fun w hw' => by
    unfold execOp
    simp only [ho, hx, Instr.loadAt, Instr.sureAddr, Sem.run_bind, Sem.run_pure, Result.andThen_ok, run_loadVar_row w g t ty cs fr d (hg w hw') hu hd hi]⟩
/-- what two rows alone change -/
structure Chg2 (R S : Nat) (w w' : World) : Prop where
  os : w'.os = w.os
  tape : w'.tape = w.tape
  output : w'.output = w.output
  size : w.heap.size ≤ w'.heap.size
  block : ∀ k, k < w.heap.size → k ≠ R → k ≠ S → w'.heap[k]? = w.heap[k]?
theorem Chg.and {R S : Nat} {a b c : World} (h : Chg R a b) (k : Chg S b c) : Chg2 R S a c :=
  ⟨k.os.trans h.os, k.tape.trans h.tape, k.output.trans h.output, Nat.le_trans h.size k.size, fun i hi hr hs => (k.heap (Nat.lt_of_lt_of_le hi h.size) hs).trans (h.heap hi hr)⟩
theorem Chg2.one {R S : Nat} {w w' : World} (h : Chg2 R S w w') {v : World} (hv : Below v.heap.size v w) (hS : v.heap.size ≤ S) : Chg R v w' :=
  ⟨h.os.trans hv.os, h.tape.trans hv.tape, h.output.trans hv.output, Nat.le_trans hv.size h.size, fun k hk hr => (h.block k (Nat.lt_of_lt_of_le hk hv.size) (fun e => hr (by rw [e])) (by omega)).trans (hv.block k hk)⟩
theorem code_index_nil (f : Value) (w : World) : Calls Try.prog 83 #[.slice none 0 0, f] w fun e w' => e = .returned (.int .i64 (-1)) ∧ Below w.heap.size w w' := by
  go_enter Try.func83, Try.ntmps83
  go_wp2
  go_loopw [8] (fun v8 wr => v8 = .int .i64 0 ∧ Hid (Below w.heap.size w wr)) (fun _ _ => 0)
  case atStart => exact ⟨rfl, Lib.hid (Below.refl _ _)⟩
  case round =>
    obtain ⟨rfl, HB⟩ := hrel
    go_wp2
    go_ret
    exact ⟨rfl, HB.out⟩
theorem code_none_nil (f : Value) (w : World) : Calls Try.prog 63 #[.slice none 0 0, f] w fun e w' => e = .returned (.bool false) ∧ Below w.heap.size w w' := by
  go_enter Try.func63, Try.ntmps63
  go_wp2_with (go_at_call 83; refine (code_index_nil _ _).mono ?_; rintro e wz ⟨rfl, hb⟩; refine Stop.out ?_)
  unfold Stop
  have HB := Lib.hid hb
  clear hb
  go_wp2
  go_ret
  exact ⟨rfl, HB.out⟩
end Go.Proofs.Ytbplhjoompgemaa
