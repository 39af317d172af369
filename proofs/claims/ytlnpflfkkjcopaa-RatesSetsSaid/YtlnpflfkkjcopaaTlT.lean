/- The document's Set. -/
import Derived.Test.YtlnpflfkkjcopaaTlS
namespace Go.Proofs.Ytlnpflfkkjcopaa
open Go.RowKit
set_option maxRecDepth 100000

/-- a row of the document's spans, of the call's own -/
def OwnQ (w : World) (base : Nat) (v : Value) (L : List Sp) : Prop := w.ownsRow base 29 3 v L.length (flat L)
theorem spanFact : (Try.prog.info? 29).map (fun i => (i.zero, i.size, i.bytes)) = some (some (.agg #[.int .i64 0, .int .i64 0, .int .i64 0]), 3, 24) := by kernel_rfl
theorem OwnQ.on {w W : World} {B : Nat} {v : Value} {L : List Sp} (h : OwnQ w B v L) (hb : Below w.heap.size w W) : OwnQ W B v L :=
  World.ownsRow.kept (row := none) h ⟨hb.os, hb.tape, hb.output, hb.size, fun k hk _ => hb.block k hk⟩ (by
    rcases h.2 with ⟨rfl, _⟩ | ⟨g, c, cur, rfl, _⟩
    · exact .inl rfl
    · exact .inr (by simp [Value.ownBlock]))
theorem OwnQ.less {w : World} {B B' : Nat} {v : Value} {L : List Sp} (h : OwnQ w B v L) (hB : B' ≤ B) : OwnQ w B' v L := by
  refine ⟨h.1, ?_⟩
  rcases h.2 with h | ⟨g, c, cur, h1, h2, h3⟩
  · exact .inl h
  · exact .inr ⟨g, c, cur, h1, Nat.le_trans hB h2, h3⟩
theorem OwnQ.form {w : World} {B : Nat} {v : Value} {L : List Sp} (h : OwnQ w B v L) : ∃ A c, v = .slice A L.length c ∧ Row w A L ∧ (A = none → L = []) := by
  rcases h.2 with ⟨rfl, h0⟩ | ⟨g, c, cur, rfl, hB, hh, hc, hm, hcs, ht⟩
  · have : L = [] := List.eq_nil_of_length_eq_zero h0
    subst this
    exact ⟨none, 0, rfl, Row.nil, fun _ => rfl⟩
  · refine ⟨_, c, rfl, fun hn => ⟨g, 0, rfl, heapLt hh, fun j v hv => ?_⟩, fun e => by cases e⟩
    have := World.ownsRow.cells (g := g) h rfl j v hv
    rwa [Addr.add_mid] at this
theorem ownQ_nil (w : World) : OwnQ (w.alloc (.cells #[] 29)) w.heap.size (.slice (some ⟨w.heap.size, 0, none⟩) 0 0) [] :=
  World.ownsRow_lit w (e := 29) (base := w.heap.size) (size := 3) #[] 0 (Nat.le_refl _) (by unfold maxLen; omega) rfl
/-- what is appended to it, be the source nil or not -/
theorem append_q (w : World) (base : Nat) (v : Value) (L M : List Sp) (hown : OwnQ w base v L) (A : Option Addr) (c : Nat) (hr : Row w A M) (hA : A = none → M = []) (hl : L.length + M.length ≤ 1000) (hb : base ≤ w.heap.size) :
    ∃ v' w', (Builtin.append_ #[22, 22] 22 #[v, .slice A M.length c]).run Try.prog w = .ok v' w' ∧ OwnQ w' base v' (L ++ M) ∧ w.grownBy w' v.ownBlock := by
  obtain ⟨i0, hi, hz0, hz1, hz2⟩ := info_parts spanFact
  cases A with
  | none =>
    obtain rfl := hA rfl
    refine ⟨v, w, ?_, by simpa using hown, World.grownBy.refl w _⟩
    rcases hown.2 with ⟨rfl, h0⟩ | ⟨g, cap, cur, rfl, _, _, hnc, _⟩
    · simp [Builtin.append_, run_underlying Try.underlying22, sizeOf, typeInfo, hi, Builtin.lenOf, Builtin.firstCells]
    · simp [Builtin.append_, run_underlying Try.underlying22, sizeOf, typeInfo, hi, Builtin.lenOf, Builtin.firstCells, hnc, storeCells]
  | some a =>
    have hnews : ∀ j u, (flat M)[j]? = some u → w.cell? (a.add j) = some u := fun j u hu => by
      have hne : M ≠ [] := by
        intro e; subst e; simp [flat] at hu
      obtain ⟨b, o, e, _, hra⟩ := hr hne
      injection e with e
      subst e
      rw [Addr.add_mid]
      exact hra j u hu
    obtain ⟨v', w', h1, h2, h3, _⟩ := run_append_own (P := Try.prog) w base 22 22 29 i0 _ 3 24 Try.underlying22 hi hz0 hz1 hz2 rfl (by decide) v L.length (flat L) hown a M.length c (flat M) (by rw [flat_len]; omega) hnews (flat_one M) (by unfold maxLen; omega) (by omega) hb
    refine ⟨v', w', h1, ?_, h3⟩
    unfold OwnQ
    rw [flat_append, List.length_append]
    exact h2
theorem wp_append_q (w : World) {o : Oper} {a : Act} {K : Act → World → Prop} {Q : Exit → Act → World → Prop} (s x : Operand)
    (ho : o.op = .call { callee := .builtin .append, args := #[s, x], argTypes := #[22, 22] }) (hty : o.type = 22) (base : Nat) (v : Value) (L : List Sp) (hs : a.eval s = v) (hown : OwnQ w base v L)
    (A : Option Addr) (n c : Nat) (M : List Sp) (hx : a.eval x = .slice A n c) (hn : M.length = n) (hr : Row w A M) (hA : A = none → M = []) (hl : L.length + M.length ≤ 1000) (hb : base ≤ w.heap.size)
    (h : ∀ v' w', OwnQ w' base v' (L ++ M) → w.grownBy w' v.ownBlock → K (a.put o.dst v') w') : o.wp Try.prog a w K Q := by
  subst hn
  obtain ⟨v', w', hrun, h2, h3⟩ := append_q w base v L M hown A c hr hA hl hb
  unfold Oper.wp execOp
  simp only [ho, hty, resolve, invoke, builtin, Sem.run_bind, Sem.run_pure, Result.andThen_ok, List.map_toArray, List.map_cons, List.map_nil, hs, hx, hrun]
  exact h v' w' h2 h3
theorem box_row {W : World} {g : Nat} {f u x : Int} {t : TypeId} (h : W.heap[g]? = some (.cells #[.int .i64 f, .int .i64 u, .int .i64 x] t (0, 0))) : Row W (some ⟨g, 0, none⟩) [(f, u, x)] := fun _ => ⟨g, 0, rfl, heapLt h, range3 h⟩
end Go.Proofs.Ytlnpflfkkjcopaa
