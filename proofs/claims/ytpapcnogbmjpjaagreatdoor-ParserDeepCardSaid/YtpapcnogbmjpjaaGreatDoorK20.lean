/- The grammar, all of it: by the fuel. Whether something is so of a leaf and all in it. -/
import Derived.Test.YtpapcnogbmjpjaaGreatDoorK19
namespace Go.Proofs.YtpapcnogbmjpjaaGreatDoor
open Go.RowKit
set_option maxRecDepth 100000
set_option linter.unusedSimpArgs false
set_option linter.unusedVariables false
attribute [local go_sem] Oper.semAt_some

theorem all_steps (G : Gr) (R : Nat) (hN : BoxNC G R) (hT : TotalC G R) (hG : ∀ s x s1, G.total s = .ok x s1 → s1.T.length ≤ s.T.length) : ∀ f j, j ≤ f → TermC G R j ∧ PrimC G R j ∧ BrackC G R j ∧ ExprC G R j := by
  intro f
  induction f with
  | zero =>
    intro j hj
    obtain rfl : j = 0 := by omega
    refine ⟨?_, ?_, ?_, ?_⟩
    · intro d s w _ _ h; unfold termP at h; exact absurd rfl h
    · intro d s w _ _ h; unfold primP at h; exact absurd rfl h
    · intro m d s w _ _ _ _ h; unfold brackP at h; exact absurd rfl h
    · intro d s w _ _ h; unfold exprP at h; exact absurd rfl h
  | succ f ih =>
    intro j hj
    by_cases e : j = f + 1
    · subst e
      exact ⟨term_step G R f (ih f (Nat.le_refl _)).1 (ih f (Nat.le_refl _)).2.1, prim_step G R f hN hT (ih f (Nat.le_refl _)).2.2.1, brack_step G R f (fun j hj => (ih j hj).2.2.2), expr_step G R f ⟨fun j hj => (ih j hj).1, fun j => (less_all G hG j).1⟩⟩
    · exact ih j (by omega)
theorem enough (G : Gr) (hG : ∀ s x s1, G.total s = .ok x s1 → s1.T.length ≤ s.T.length) (hO : ∀ s, G.total s ≠ .out) : ∀ f : Nat,
    (∀ d s, 8 * s.T.length + 3 ≤ f → termP G f d s ≠ .out) ∧ (∀ d s, 8 * s.T.length + 2 ≤ f → primP G f d s ≠ .out) ∧
    (∀ m d b s, 8 * s.T.length + 1 ≤ f → brackP G f m d b s ≠ .out) ∧ (∀ d s, 8 * s.T.length + 4 ≤ f → exprP G f d s ≠ .out) ∧
    (∀ d y s, 8 * s.T.length + 1 ≤ f → loopP G f d y s ≠ .out) := by
  intro f
  induction f with
  | zero =>
    refine ⟨?_, ?_, ?_, ?_, ?_⟩ <;> intros <;> omega
  | succ f ih =>
    obtain ⟨iT, iP, iB, iE, iL⟩ := ih
    have hL := less_all G hG f
    refine ⟨?_, ?_, ?_, ?_, ?_⟩
    · intro d s hf h
      unfold termP at h
      by_cases h64 : d = 64
      · rw [if_pos h64] at h; cases h
      rw [if_neg h64] at h
      cases hs : skipP miB s with
      | some s2 =>
        simp only [hs] at h
        have h1 := skip_len hs
        cases ht : termP G f (d + 1) s2 with
        | out => exact iT _ _ (by omega) ht
        | ok y s3 => simp only [ht] at h; cases h
        | flt a k => simp only [ht] at h; cases h
      | none =>
        simp only [hs] at h
        exact iP _ _ (by omega) h
    · intro d s hf h
      unfold primP at h
      cases h0 : skipP bxB s with
      | some s2 =>
        simp only [h0] at h
        cases hn : boxNP G.en s2 with
        | out =>
          unfold boxNP at hn
          cases ht : takeP' 2 G.en s2 with
          | ok t s3 => simp only [ht] at hn; cases hn
          | flt a k => simp only [ht] at hn; cases hn
          | out => unfold takeP' at ht; split at ht; cases ht; split at ht <;> cases ht
        | ok l s3 => simp only [hn] at h; cases h
        | flt a k => simp only [hn] at h; cases h
      | none =>
      cases h1 : skipP smB s with
      | some s2 => simp only [h0, h1] at h; exact hO _ h
      | none =>
      cases h2 : skipP mnB s with
      | some s2 =>
        simp only [h0, h1, h2] at h
        have hl := skip_len h2
        cases ht : brackP G f 2 d opB s2 with
        | out => exact iB _ _ _ _ (by omega) ht
        | ok l s3 => simp only [ht] at h; cases h
        | flt a k => simp only [ht] at h; cases h
      | none =>
      cases h3 : skipP mxB s with
      | some s2 =>
        simp only [h0, h1, h2, h3] at h
        have hl := skip_len h3
        cases ht : brackP G f 2 d opB s2 with
        | out => exact iB _ _ _ _ (by omega) ht
        | ok l s3 => simp only [ht] at h; cases h
        | flt a k => simp only [ht] at h; cases h
      | none =>
      cases h4 : skipP clB s with
      | some s2 =>
        simp only [h0, h1, h2, h3, h4] at h
        have hl := skip_len h4
        cases ht : brackP G f 3 d opB s2 with
        | out => exact iB _ _ _ _ (by omega) ht
        | ok l s3 => simp only [ht] at h; cases h
        | flt a k => simp only [ht] at h; cases h
      | none =>
      simp only [h0, h1, h2, h3, h4] at h
      by_cases hx : (nextT G.en s).2.2.1 = opB
      · simp only [if_pos hx] at h
        cases ht : brackP G f 1 d opB s with
        | out => exact iB _ _ _ _ (by omega) ht
        | ok l s3 => simp only [ht] at h; cases h
        | flt a k => simp only [ht] at h; cases h
      · simp only [if_neg hx] at h
        cases ht : takeP' 2 G.en s with
        | out => unfold takeP' at ht; split at ht; cases ht; split at ht <;> cases ht
        | ok l s3 => simp only [ht] at h; cases h
        | flt a k => simp only [ht] at h; cases h
    · intro m d b s hf h
      cases m with
      | zero =>
        unfold brackP at h
        cases hs : skipP shB s with
        | some s2 => simp only [hs] at h; cases h
        | none => simp only [hs] at h; cases h
      | succ m =>
        unfold brackP at h
        cases hs : skipP b s with
        | none => simp only [hs] at h; cases h
        | some s2 =>
          simp only [hs] at h
          have h1 := skip_len hs
          cases he : exprP G f d s2 with
          | out => exact iE _ _ (by omega) he
          | flt a k => simp only [he] at h; cases h
          | ok y s3 =>
            simp only [he] at h
            have h2 := hL.2.2.2.1 _ _ _ _ he
            cases hb : brackP G f m d cmB s3 with
            | out => exact iB _ _ _ _ (by omega) hb
            | ok l s4 => simp only [hb] at h; cases h
            | flt a k => simp only [hb] at h; cases h
    · intro d s hf h
      unfold exprP at h
      cases ht : termP G f d s with
      | out => exact iT _ _ (by omega) ht
      | flt a k => simp only [ht] at h; cases h
      | ok y s3 =>
        simp only [ht] at h
        have h2 := hL.1 _ _ _ _ ht
        exact iL _ _ _ (by omega) h
    · intro d y s hf h
      unfold loopP at h
      cases hs : skipP plB s with
      | some s2 =>
        simp only [hs] at h
        have h1 := skip_len hs
        cases ht : termP G f d s2 with
        | out => exact iT _ _ (by omega) ht
        | flt a k => simp only [ht] at h; cases h
        | ok y s3 =>
          simp only [ht] at h
          have h2 := hL.1 _ _ _ _ ht
          exact iL _ _ _ (by omega) h
      | none =>
      cases hm : skipP miB s with
      | some s2 =>
        simp only [hs, hm] at h
        have h1 := skip_len hm
        cases ht : termP G f d s2 with
        | out => exact iT _ _ (by omega) ht
        | flt a k => simp only [ht] at h; cases h
        | ok y s3 =>
          simp only [ht] at h
          have h2 := hL.1 _ _ _ _ ht
          exact iL _ _ _ (by omega) h
      | none => simp only [hs, hm] at h; cases h
/-- an expression, as the grammar tells it -/
theorem code_expr (G : Gr) (R : Nat) (hN : BoxNC G R) (hT : TotalC G R) (hG : ∀ s x s1, G.total s = .ok x s1 → s1.T.length ≤ s.T.length) (hO : ∀ s, G.total s ≠ .out) {d : Nat} {s : Rd} {w : World} (hd : d ≤ 64) (hr : RdAt w R G.en s) (f : Nat) (hf : 8 * s.T.length + 4 ≤ f) :
    Calls Tryz.prog 38 #[.pointer (some ⟨R, 0, none⟩), .int .i64 (d : Nat)] w (OutQ R G.en w (exprP G f d s)) :=
  (all_steps G R hN hT hG f f (Nat.le_refl _)).2.2.2 d s w hd hr ((enough G hG hO f).2.2.2.1 d s hf)
end Go.Proofs.YtpapcnogbmjpjaaGreatDoor

namespace Go.Proofs.YtpapcnogbmjpjaaGreatDoor
open Go.RowKit
set_option maxRecDepth 100000
set_option linter.unusedSimpArgs false
set_option linter.unusedVariables false
attribute [local go_sem] Oper.semAt_some

theorem run_look1 (w : World) (m : Nat) (k : Key) (hk : PlainK w k) (E : List (Key × Int)) (h : MapAt w m E) :
    (Instr.lookup 117 (.map (some m)) (kV k) false).run Tryz.prog w = .ok (.int .i64 ((valL k E).getD 0)) w := by
  obtain ⟨h1, h2⟩ := h
  have hz : (zeroValue 3).run Tryz.prog w = .ok (.int .i64 0) w := by first | rfl | kernel_rfl | go_simp
  simp only [Instr.lookup, Sem.run_bind, run_underlying Tryz.underlying117, Result.andThen_ok]
  simp only [MapKept.run_getObj_map h1, Sem.run_bind, Sem.run_pure, Result.andThen_ok, run_check]
  rw [run_find w k hk E h2]
  unfold valL
  cases e : findL k 0 E with
  | none => simp [hz]
  | some x => simp
theorem yieldsIf_load_rowE {P : Program} {ops : Array Oper} {S : World → Prop} {op : Oper} {a : Act} (hw : Region.wanted op (yielded ops a.tmps) = true) (ty : TypeId) (x : Operand) (ho : op.op = .load ty x)
    (g : Nat) (hx : a.eval x = .pointer (some ⟨g, 0, none⟩)) (t : TypeId) (cs : Array Value) (fr : Nat × Nat) (d : TypeDesc) (hg : ∀ w, S w → w.heap[g]? = some (.cells cs t fr))
    (hu : P.underlying ty = some d) (hd : (match d with | .struct _ | .array _ _ => true | _ => false) = true) (hi : (P.info? ty).map (·.size) = some cs.size) : YieldsIf P ops S op (.agg cs) a :=
  .inl ⟨hw, fun w hw' => by
    unfold execOp
    simp only [ho, hx, Instr.loadAt, Instr.sureAddr, Sem.run_bind, Sem.run_pure, Result.andThen_ok, run_loadVar_row w g t ty cs fr d (hg w hw') hu hd hi]⟩
/-- what two rows alone change -/
structure Chg2 (R S : Nat) (w w' : World) : Prop where
  os : w'.os = w.os
  tape : w'.tape = w.tape
  output : w'.output = w.output
  size : w.heap.size ≤ w'.heap.size
  block : ∀ k, k < w.heap.size → k ≠ R → k ≠ S → w'.heap[k]? = w.heap[k]?
theorem Chg.and {R S : Nat} {a b c : World} (h : Chg R a b) (k : Chg S b c) : Chg2 R S a c :=
  ⟨k.os.trans h.os, k.tape.trans h.tape, k.output.trans h.output, Nat.le_trans h.size k.size, fun i hi hr hs => (k.heap (Nat.lt_of_lt_of_le hi h.size) hs).trans (h.heap hi hr)⟩
theorem Chg2.one {R S : Nat} {w w' : World} (h : Chg2 R S w w') {v : World} (hv : Below v.heap.size v w) (hS : v.heap.size ≤ S) : Chg R v w' :=
  ⟨h.os.trans hv.os, h.tape.trans hv.tape, h.output.trans hv.output, Nat.le_trans hv.size h.size, fun k hk hr => (h.block k (Nat.lt_of_lt_of_le hk hv.size) (fun e => hr (by rw [e])) (by omega)).trans (hv.block k hk)⟩
theorem code_index_nil (f : Value) (w : World) : Calls Tryz.prog 106 #[.slice none 0 0, f] w fun e w' => e = .returned (.int .i64 (-1)) ∧ Below w.heap.size w w' := by
  go_enter Tryz.func106, Tryz.ntmps106
  go_wp2
  go_loopw [8] (fun v8 wr => v8 = .int .i64 0 ∧ Hid (Below w.heap.size w wr)) (fun _ _ => 0)
  case atStart => exact ⟨rfl, Lib.hid (Below.refl _ _)⟩
  case round =>
    obtain ⟨rfl, HB⟩ := hrel
    go_wp2
    go_ret
    exact ⟨rfl, HB.out⟩
theorem code_none_nil (f : Value) (w : World) : Calls Tryz.prog 91 #[.slice none 0 0, f] w fun e w' => e = .returned (.bool false) ∧ Below w.heap.size w w' := by
  go_enter Tryz.func91, Tryz.ntmps91
  go_wp2_with (go_at_call 106; refine (code_index_nil _ _).mono ?_; rintro e wz ⟨rfl, hb⟩; refine Stop.out ?_)
  unfold Stop
  have HB := Lib.hid hb
  clear hb
  go_wp2
  go_ret
  exact ⟨rfl, HB.out⟩
end Go.Proofs.YtpapcnogbmjpjaaGreatDoor
