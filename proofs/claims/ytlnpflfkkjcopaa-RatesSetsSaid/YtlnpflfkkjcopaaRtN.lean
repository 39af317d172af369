/- One rate more, behind a row that is full. -/
import Derived.Test.YtlnpflfkkjcopaaRtL
import Derived.Test.YtlnpflfkkjcopaaTlT
import Derived.ArgAppend
namespace Go.Proofs.Ytlnpflfkkjcopaa
open Go.RowKit
set_option maxRecDepth 100000

theorem rateFact : (Try.prog.info? 56).map (fun i => (i.zero, i.size, i.bytes)) = some (some (.agg #[.string ⟨#[]⟩, .int .i64 0, .int .i64 0, .int .i64 0, .int .i64 0]), 5, 48) := by kernel_rfl
/-- a row of rates, of the call's own -/
def OwnRt (w : World) (base : Nat) (v : Value) (L : List Rt) : Prop := w.ownsRow base 56 5 v L.length (flats L)
theorem OwnRt.on {w W : World} {B : Nat} {v : Value} {L : List Rt} (h : OwnRt w B v L) (hb : Below w.heap.size w W) : OwnRt W B v L :=
  World.ownsRow.kept (row := none) h ⟨hb.os, hb.tape, hb.output, hb.size, fun k hk _ => hb.block k hk⟩ (by
    rcases h.2 with ⟨rfl, _⟩ | ⟨g, c, cur, rfl, _⟩
    · exact .inl rfl
    · exact .inr (by simp [Value.ownBlock]))
theorem OwnRt.less {w : World} {B B' : Nat} {v : Value} {L : List Rt} (h : OwnRt w B v L) (hB : B' ≤ B) : OwnRt w B' v L := by
  refine ⟨h.1, ?_⟩
  rcases h.2 with h | ⟨g, c, cur, h1, h2, h3⟩
  · exact .inl h
  · exact .inr ⟨g, c, cur, h1, Nat.le_trans hB h2, h3⟩
theorem OwnRt.form {w : World} {B : Nat} {v : Value} {L : List Rt} (h : OwnRt w B v L) : ∃ A c, v = .slice A L.length c ∧ RowR w A L ∧ (A = none → L = []) := by
  rcases h.2 with ⟨rfl, h0⟩ | ⟨g, c, cur, rfl, hB, hh, hc, hm, hcs, ht⟩
  · have : L = [] := List.eq_nil_of_length_eq_zero h0
    subst this
    exact ⟨none, 0, rfl, RowR.nil, fun _ => rfl⟩
  · refine ⟨_, c, rfl, fun hn => ⟨g, 0, rfl, heapLt hh, fun j v hv => ?_⟩, fun e => by cases e⟩
    have := World.ownsRow.cells (g := g) h rfl j v hv
    rwa [Addr.add_mid] at this
theorem RowR.range {w : World} {a : Addr} {L : List Rt} (hr : RowR w (some a) L) : ∀ j u, (flats L)[j]? = some u → w.cell? (a.add j) = some u := fun j u hu => by
  have hne : L ≠ [] := by
    intro e; subst e; simp [flats] at hu
  obtain ⟨b, o, e, _, hra⟩ := hr hne
  injection e with e
  subst e
  rw [Addr.add_mid]
  exact hra j u hu
/-- to a row that is full -/
theorem append_full (w : World) (A : Option Addr) (L M : List Rt) (hr : RowR w A L) (hA : A = none → L = []) (a : Addr) (c : Nat) (hm : RowR w (some a) M) (hM : M ≠ []) (hl : (L.length + M.length) * 48 ≤ 140737488355328) :
    ∃ v' w', (Builtin.append_ #[49, 49] 49 #[.slice A L.length L.length, .slice (some a) M.length c]).run Try.prog w = .ok v' w' ∧ OwnRt w' w.heap.size v' (L ++ M) ∧ w.grownBy w' none := by
  obtain ⟨i0, hi, hz0, hz1, hz2⟩ := info_parts rateFact
  have hMl : 0 < M.length := List.length_pos_iff.2 hM
  have e : OwnRt = fun w base v L => w.ownsRow base 56 5 v L.length (flats L) := rfl
  rw [e]
  simp only [flats_append, List.length_append]
  cases A with
  | none =>
    obtain rfl := hA rfl
    obtain ⟨v', w', h1, h2, h3, _⟩ := run_append_own (P := Try.prog) w w.heap.size 49 49 56 i0 _ 5 48 Try.underlying49 hi hz0 hz1 hz2 rfl (by decide) (.slice none 0 0) 0 [] (World.ownsRow_nil w _ _ 5) a M.length c (flats M) (by rw [flats_len]; omega) hm.range (flats_one M) (by unfold maxLen; omega) (by simpa using hl) (Nat.le_refl _)
    exact ⟨v', w', h1, h2, h3⟩
  | some b =>
    obtain ⟨v', w', h1, h2, h3⟩ := run_append_arg_grows (P := Try.prog) w 49 49 56 i0 _ 5 48 Try.underlying49 hi hz0 hz1 hz2 rfl (by decide) b L.length L.length (flats L) (by rw [flats_len]; omega) hr.range a M.length c (flats M) (by rw [flats_len]; omega) hm.range (by omega) (by unfold maxLen; omega) hl
    exact ⟨v', w', h1, h2, h3⟩
theorem wp_append_full (w : World) {o : Oper} {a : Act} {K : Act → World → Prop} {Q : Exit → Act → World → Prop} (s x : Operand)
    (ho : o.op = .call { callee := .builtin .append, args := #[s, x], argTypes := #[49, 49] }) (hty : o.type = 49) (A : Option Addr) (L : List Rt) (hs : a.eval s = .slice A L.length L.length) (hr : RowR w A L) (hA : A = none → L = [])
    (p : Addr) (n c : Nat) (M : List Rt) (hx : a.eval x = .slice (some p) n c) (hn : M.length = n) (hm : RowR w (some p) M) (hM : M ≠ []) (hl : (L.length + M.length) * 48 ≤ 140737488355328)
    (h : ∀ A' c' w', RowR w' A' (L ++ M) → Below w.heap.size w w' → K (a.put o.dst (.slice A' (L.length + n) c')) w') : o.wp Try.prog a w K Q := by
  subst hn
  obtain ⟨v', w', hrun, h2, h3⟩ := append_full w A L M hr hA p c hm hM hl
  obtain ⟨A', c', rfl, hr', _⟩ := h2.form
  rw [List.length_append] at hrun
  have hb : Below w.heap.size w w' := (Below.refl _ _).grown h3 (Nat.le_refl _) (by simp)
  unfold Oper.wp execOp
  simp only [ho, hty, resolve, invoke, builtin, Sem.run_bind, Sem.run_pure, Result.andThen_ok, List.map_toArray, List.map_cons, List.map_nil, hs, hx, hrun]
  exact h A' c' w' hr' hb
theorem box_rt {W : World} {g : Nat} {r : Rt} {t : TypeId} (h : W.heap[g]? = some (.cells #[.string r.1, .int .i64 r.2.1, .int .i64 r.2.2.1, .int .i64 r.2.2.2.1, .int .i64 r.2.2.2.2] t (0, 0))) : RowR W (some ⟨g, 0, none⟩) [r] := fun _ => ⟨g, 0, rfl, heapLt h, fun j v hv => by
  match j with
  | 0 => simp [flats, flatR] at hv; subst hv; rw [cell_of_row W g 0 _ _ _ h]; rfl
  | 1 => simp [flats, flatR] at hv; subst hv; rw [cell_of_row W g 1 _ _ _ h]; rfl
  | 2 => simp [flats, flatR] at hv; subst hv; rw [cell_of_row W g 2 _ _ _ h]; rfl
  | 3 => simp [flats, flatR] at hv; subst hv; rw [cell_of_row W g 3 _ _ _ h]; rfl
  | 4 => simp [flats, flatR] at hv; subst hv; rw [cell_of_row W g 4 _ _ _ h]; rfl
  | j + 5 => simp [flats, flatR] at hv⟩
theorem row5 {W : World} {g : Nat} {a b c d e : Value} {t : TypeId} (h : W.heap[g]? = some (.cells #[a, b, c, d, e] t (0, 0))) : W.cell? ⟨g, 0, none⟩ = some a ∧ W.cell? ⟨g, 1, none⟩ = some b ∧ W.cell? ⟨g, 2, none⟩ = some c ∧ W.cell? ⟨g, 3, none⟩ = some d ∧ W.cell? ⟨g, 4, none⟩ = some e :=
  ⟨cell_of_row W g 0 _ _ _ h, cell_of_row W g 1 _ _ _ h, cell_of_row W g 2 _ _ _ h, cell_of_row W g 3 _ _ _ h, cell_of_row W g 4 _ _ _ h⟩
theorem row3v {W : World} {g : Nat} {a b c : Value} {t : TypeId} (h : W.heap[g]? = some (.cells #[a, b, c] t (0, 0))) : W.cell? ⟨g, 0, none⟩ = some a ∧ W.cell? ⟨g, 1, none⟩ = some b ∧ W.cell? ⟨g, 2, none⟩ = some c :=
  ⟨cell_of_row W g 0 _ _ _ h, cell_of_row W g 1 _ _ _ h, cell_of_row W g 2 _ _ _ h⟩
/-- the statement's own boxes: a rate, and what is asked -/
def BxA (w : World) (x : Rt) (s : ByteArray) (q d : Int) (W : World) : Prop :=
  W.heap[w.heap.size]? = some (.cells #[.string x.1, .int .i64 x.2.1, .int .i64 x.2.2.1, .int .i64 x.2.2.2.1, .int .i64 x.2.2.2.2] 56 (0, 0)) ∧ W.heap[w.heap.size + 1]? = some (.cells #[.string s, .int .i64 q, .int .i64 d] 51 (0, 0)) ∧ Below w.heap.size w W
theorem BxA.below {w W V : World} {x : Rt} {s : ByteArray} {q d : Int} {b : Nat} (h : BxA w x s q d W) (hb : Below b W V) (h0 : w.heap.size + 2 ≤ b) : BxA w x s q d V :=
  ⟨(hb.block _ (by omega)).trans h.1, (hb.block _ (by omega)).trans h.2.1, h.2.2.trans (hb.mono (by omega))⟩
theorem BxA.size {w W : World} {x : Rt} {s : ByteArray} {q d : Int} (h : BxA w x s q d W) : w.heap.size + 2 ≤ W.heap.size := heapLt h.2.1
theorem BxA.on {w W V : World} {x : Rt} {s : ByteArray} {q d : Int} (h : BxA w x s q d W) (hb : Below W.heap.size W V) : BxA w x s q d V := h.below hb h.size
theorem bxA (w : World) (x : Rt) (s : ByteArray) (q d : Int) : BxA w x s q d ((w.alloc (.cells #[.string x.1, .int .i64 x.2.1, .int .i64 x.2.2.1, .int .i64 x.2.2.2.1, .int .i64 x.2.2.2.2] 56)).alloc (.cells #[.string s, .int .i64 q, .int .i64 d] 51)) := by
  have e1 := heap_alloc_new w (.cells #[.string x.1, .int .i64 x.2.1, .int .i64 x.2.2.1, .int .i64 x.2.2.2.1, .int .i64 x.2.2.2.2] 56)
  have e2 := heap_alloc_new (w.alloc (.cells #[.string x.1, .int .i64 x.2.1, .int .i64 x.2.2.1, .int .i64 x.2.2.2.1, .int .i64 x.2.2.2.2] 56)) (.cells #[.string s, .int .i64 q, .int .i64 d] 51)
  simp only [World.size_alloc] at e2
  exact ⟨heap_on (below_alloc _ _) e1, e2, below_then (below_alloc _ _) (below_alloc _ _)⟩
end Go.Proofs.Ytlnpflfkkjcopaa
