/- Rows of lines of the call's own: an append behind a row that is full. -/
import Derived.Test.YtplghpamckdklaaDocA
import Derived.Laws.OwnMore
namespace Go.Proofs.Ytplghpamckdklaa
open Go.ChangeShapes Go.WideShapes Go.ChangeAt Go.RowKit Go.Joins Go.Deep
set_option maxRecDepth 100000
theorem factLineV : (Try.prog.info? 34).map (fun i => (i.zero, i.size, i.bytes)) = some (some (.agg #[.int .i64 0, .int .i64 0, .string ⟨#[]⟩, .string ⟨#[]⟩, .string ⟨#[]⟩, .int .i64 0, .bool false, .int .i64 0, .bool false]), 9, 96) := by kernel_rfl
/-- a row of the call's own -/
def OwnLineV (w : World) (base : Nat) (v : Value) (L : List LineV) : Prop := w.ownsRow base 34 9 v L.length (flatsLineV L)
theorem OwnLineV.on {w W : World} {B : Nat} {v : Value} {L : List LineV} (h : OwnLineV w B v L) (hb : Below w.heap.size w W) : OwnLineV W B v L :=
  World.ownsRow.kept (row := none) h ⟨hb.os, hb.tape, hb.output, hb.size, fun k hk _ => hb.block k hk⟩ (by
    rcases h.2 with ⟨rfl, _⟩ | ⟨g, c, cur, rfl, _⟩
    · exact .inl rfl
    · exact .inr (by simp [Value.ownBlock]))
theorem OwnLineV.less {w : World} {B B' : Nat} {v : Value} {L : List LineV} (h : OwnLineV w B v L) (hB : B' ≤ B) : OwnLineV w B' v L := by
  refine ⟨h.1, ?_⟩
  rcases h.2 with h | ⟨g, c, cur, h1, h2, h3⟩
  · exact .inl h
  · exact .inr ⟨g, c, cur, h1, Nat.le_trans hB h2, h3⟩
theorem OwnLineV.form {w : World} {B : Nat} {v : Value} {L : List LineV} (h : OwnLineV w B v L) : ∃ A c, v = .slice A L.length c ∧ RowLineV w A L ∧ (A = none → L = []) := by
  rcases h.2 with ⟨rfl, h0⟩ | ⟨g, c, cur, rfl, hB, hh, hc, hm, hcs, ht⟩
  · have : L = [] := List.eq_nil_of_length_eq_zero h0
    subst this
    exact ⟨none, 0, rfl, RowLineV.nil, fun _ => rfl⟩
  · refine ⟨_, c, rfl, fun hn => ⟨g, 0, rfl, heapLt hh, fun j v hv => ?_⟩, fun e => by cases e⟩
    have := World.ownsRow.cells (g := g) h rfl j v hv
    rwa [Addr.add_mid] at this
theorem RowLineV.range {w : World} {a : Addr} {L : List LineV} (hr : RowLineV w (some a) L) : ∀ j u, (flatsLineV L)[j]? = some u → w.cell? (a.add j) = some u := fun j u hu => by
  have hne : L ≠ [] := by
    intro e; subst e; simp [flatsLineV] at hu
  obtain ⟨b, o, e, _, hra⟩ := hr hne
  injection e with e
  subst e
  rw [Addr.add_mid]
  exact hra j u hu
/-- to a row that is full -/
theorem appendLineV_full (w : World) (A : Option Addr) (L M : List LineV) (hr : RowLineV w A L) (hA : A = none → L = []) (a : Addr) (c : Nat) (hm : RowLineV w (some a) M) (hM : M ≠ []) (hl : (L.length + M.length) * 96 ≤ 140737488355328) :
    ∃ v' w', (Builtin.append_ #[24, 24] 24 #[.slice A L.length L.length, .slice (some a) M.length c]).run Try.prog w = .ok v' w' ∧ OwnLineV w' w.heap.size v' (L ++ M) ∧ w.grownBy w' none := by
  obtain ⟨i0, hi, hz0, hz1, hz2⟩ := info_parts factLineV
  have hMl : 0 < M.length := List.length_pos_iff.2 hM
  have e : OwnLineV = fun w base v L => w.ownsRow base 34 9 v L.length (flatsLineV L) := rfl
  rw [e]
  simp only [flatsLineV_append, List.length_append]
  cases A with
  | none =>
    obtain rfl := hA rfl
    obtain ⟨v', w', h1, h2, h3, _⟩ := run_append_own (P := Try.prog) w w.heap.size 24 24 34 i0 _ 9 96 Try.underlying24 hi hz0 hz1 hz2 rfl (by decide) (.slice none 0 0) 0 [] (World.ownsRow_nil w _ _ 9) a M.length c (flatsLineV M) (by rw [flatsLineV_len]; omega) hm.range (flatsLineV_one M) (by unfold maxLen; omega) (by simpa using hl) (Nat.le_refl _)
    exact ⟨v', w', h1, h2, h3⟩
  | some b =>
    obtain ⟨v', w', h1, h2, h3⟩ := run_append_arg_grows (P := Try.prog) w 24 24 34 i0 _ 9 96 Try.underlying24 hi hz0 hz1 hz2 rfl (by decide) b L.length L.length (flatsLineV L) (by rw [flatsLineV_len]; omega) hr.range a M.length c (flatsLineV M) (by rw [flatsLineV_len]; omega) hm.range (by omega) (by unfold maxLen; omega) hl
    exact ⟨v', w', h1, h2, h3⟩
theorem wp_appendLineV_full (w : World) {o : Oper} {a : Act} {K : Act → World → Prop} {Q : Exit → Act → World → Prop} (s x : Operand)
    (ho : o.op = .call { callee := .builtin .append, args := #[s, x], argTypes := #[24, 24] }) (hty : o.type = 24) (A : Option Addr) (L : List LineV) (hs : a.eval s = .slice A L.length L.length) (hr : RowLineV w A L) (hA : A = none → L = [])
    (p : Addr) (n c : Nat) (M : List LineV) (hx : a.eval x = .slice (some p) n c) (hn : M.length = n) (hm : RowLineV w (some p) M) (hM : M ≠ []) (hl : (L.length + M.length) * 96 ≤ 140737488355328)
    (h : ∀ A' c' w', RowLineV w' A' (L ++ M) → Below w.heap.size w w' → K (a.put o.dst (.slice A' (L.length + n) c')) w') : o.wp Try.prog a w K Q := by
  subst hn
  obtain ⟨v', w', hrun, h2, h3⟩ := appendLineV_full w A L M hr hA p c hm hM hl
  obtain ⟨A', c', rfl, hr', _⟩ := h2.form
  rw [List.length_append] at hrun
  have hb : Below w.heap.size w w' := (Below.refl _ _).grown h3 (Nat.le_refl _) (by simp)
  unfold Oper.wp execOp
  simp only [ho, hty, resolve, invoke, builtin, Sem.run_bind, Sem.run_pure, Result.andThen_ok, List.map_toArray, List.map_cons, List.map_nil, hs, hx, hrun]
  exact h A' c' w' hr' hb
end Go.Proofs.Ytplghpamckdklaa
