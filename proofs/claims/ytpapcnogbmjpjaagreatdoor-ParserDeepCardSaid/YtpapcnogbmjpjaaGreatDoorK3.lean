/- How a call that made new memory at most ends a statement; bytes that come in, opened; whatever came in reads as it did. Tokens in rows: the program's, and the document's. -/
import Derived.Test.YtpapcnogbmjpjaaGreatDoorK1
import Derived.ProofKit
import Derived.OpenShut
import Derived.ChangeSame
import Derived.Carry
import Derived.WideKeyArgs
import Derived.Deep.Slices
import Derived.Test.YtpapcnogbmjpjaaGreatDoorK2
import Derived.Lib.SmallJoins
import Derived.ArgAppend
import Derived.Deep.MidRow
import Derived.Shelf.RegionOpen
import Derived.Laws.StructEq
namespace Go.Proofs.YtpapcnogbmjpjaaGreatDoor
open Go.ChangeShapes Go.WideShapes Go.ChangeAt Go.RowKit
set_option maxRecDepth 100000

section
variable {H : Type} {enc : TypeId × Value → H} {P : Program}

theorem post_below {f : Func} {s : ChangeSpec} {apart fresh handsOn again : Bool} {W W' : World} {args : Array Value} {v : Value} {ds gs : List (DataW H)} {before pa pv : List MemPlace}
    (hW : DataW.Whole enc P f.params.toList s.vars apart W args.toList ds gs before)
    (hres : ∀ (b : Nat) (sp : Nat → Bool) (hd : Bool), DataW.TrodAll enc P W' b sp hd f.resultTypes.toList (v.resultList f.resultTypes.size) (s.fn H (ds ++ gs)).results [])
    (hargs : ∀ sp : Nat → Bool, (∀ p ∈ before, sp p.block = true) → DataW.TrodAll enc P W' 0 sp true f.params.toList args.toList (s.fn H (ds ++ gs)).args pa)
    (hvars : ∀ sp : Nat → Bool, (∀ p ∈ before, sp p.block = true) → DataW.TrodVars enc P W' sp s.vars (s.fn H (ds ++ gs)).vars pv)
    (hp : before = pa ++ pv) (hb : Below W.heap.size W W')
    (hok : ∀ (j : Nat) (t : TypeId) (r : Value), f.resultTypes[j]? = some t → (v.resultList f.resultTypes.size)[j]? = some r → Value.okWide P W' .any 0 t r) :
    s.post enc P f apart fresh handsOn again W args v W' := by
  subst hp
  have hlow : ∀ p ∈ pa ++ pv, p.block < W.heap.size := fun p hp => hW.lt p hp
  have hold : ∀ p ∈ pa ++ pv, (fun b => decide (b < W.heap.size)) p.block = true := fun p hp => decide_eq_true (hlow p hp)
  refine ⟨ds, gs, pa ++ pv, [], pa, pv, hW, hres _ _ _, hargs _ hold, hvars _ hold, World.keptBut_mono (fun p h => ⟨h, Or.inr (List.mem_append.1 h)⟩) (hb.frame (· ∈ pa ++ pv)), fun _ => ?_⟩
  obtain ⟨_, _, _, _, _, hz, hn⟩ := hW
  refine ⟨hok, _, _, ([] ++ pa) ++ pv, ⟨[] ++ pa, pv, trodAll_append (hargs _ fun _ _ => rfl) (hres _ _ _), hvars _ fun _ _ => rfl, rfl, fun b off h => ?_, fun h => by simpa using hn h⟩, fun p h _ => by simpa using h⟩
  have hin : MemPlace.cell b off ∈ pa ++ pv := by simpa using h
  rw [hb.frozen (hlow _ hin)]
  exact hz b off hin

end

theorem laidOut : laidOutB Tryz.prog = true := by kernel_rfl

section
variable {H : Type} {enc : TypeId × Value → H} {W W' : World}

theorem args_stay (hb : Below W.heap.size W W') {sp : Nat → Bool} (ts : List TypeId) : ∀ (vs : List Value) (ds : List (DataW H)) (ps : List MemPlace),
    (ts.all fun t => Tryz.prog.readableRec t && decide (t < Tryz.prog.types.size)) = true → DataW.TrodAll enc Tryz.prog W 0 (fun _ => true) true ts vs ds ps → (∀ x ∈ ps, x.block < W.heap.size) → (∀ x ∈ ps, sp x.block = true) → DataW.TrodAll enc Tryz.prog W' 0 sp true ts vs ds ps := by
  have hlo := laidOut
  generalize Tryz.prog = P at *
  induction ts with
  | nil =>
    intro vs ds ps _ h _ _
    obtain ⟨rfl, rfl, rfl⟩ := trodAll_nil h
    exact trodAll_mk0
  | cons t ts ih =>
    intro vs ds ps hk h hlt hs
    obtain ⟨v, vs', d, ds', p, q, rfl, rfl, rfl, h1, h2⟩ := trodAll_cons h
    rw [List.all_cons, Bool.and_eq_true, Bool.and_eq_true] at hk
    exact trodAll_cons_mk (WideElems.Trod_stays hlo hk.1.1 (of_decide_eq_true hk.1.2) h1 (fun x hx => hb.same (hlt x (List.mem_append_left _ hx))) (fun x hx => hs x (List.mem_append_left _ hx)))
      (ih vs' ds' q hk.2 h2 (fun x hx => hlt x (List.mem_append_right _ hx)) (fun x hx => hs x (List.mem_append_right _ hx)))

end
end Go.Proofs.YtpapcnogbmjpjaaGreatDoor

namespace Go.Proofs.YtpapcnogbmjpjaaGreatDoor
open Go.ChangeShapes Go.WideShapes Go.ChangeAt Go.RowKit Go.Joins Go.Deep
set_option maxRecDepth 100000
set_option linter.unusedSimpArgs false
set_option linter.unusedVariables false

abbrev TokV := Int × Int × ByteArray × Int
def flatTokV (p : TokV) : List Value := [.int .i64 p.1, .int .i64 p.2.1, .string p.2.2.1, .int .i64 p.2.2.2]
def flatsTokV (L : List TokV) : List Value := L.flatMap flatTokV
theorem flatsTokV_len (L : List TokV) : (flatsTokV L).length = 4 * L.length := by
  induction L with
  | nil => rfl
  | cons p L ih =>
    have e : flatsTokV (p :: L) = flatTokV p ++ flatsTokV L := rfl
    rw [e, List.length_append, ih]
    simp [flatTokV]
    omega
theorem flatsTokV_append (L M : List TokV) : flatsTokV (L ++ M) = flatsTokV L ++ flatsTokV M := List.flatMap_append
theorem flatsTokV_one (M : List TokV) : ∀ u ∈ flatsTokV M, u.oneCell' = true := by
  intro u hu
  obtain ⟨p, _, hp⟩ := List.mem_flatMap.1 hu
  simp only [flatTokV, List.mem_cons, List.not_mem_nil, or_false] at hp
  rcases hp with rfl | rfl | rfl | rfl <;> rfl
theorem flatsTokV_at (L : List TokV) : ∀ (i : Nat) (h : i < L.length), (flatsTokV L)[4 * i]? = some (.int .i64 L[i].1) ∧ (flatsTokV L)[4 * i + 1]? = some (.int .i64 L[i].2.1) ∧ (flatsTokV L)[4 * i + 2]? = some (.string L[i].2.2.1) ∧ (flatsTokV L)[4 * i + 3]? = some (.int .i64 L[i].2.2.2) := by
  induction L with
  | nil => intro i h; simp at h
  | cons p L ih =>
    intro i h
    have e : flatsTokV (p :: L) = flatTokV p ++ flatsTokV L := rfl
    rw [e]
    cases i with
    | zero => exact ⟨rfl, rfl, rfl, rfl⟩
    | succ i =>
      obtain ⟨h0, h1, h2, h3⟩ := ih i (by simpa using h)
      have hl : (flatTokV p).length = 4 := rfl
      refine ⟨?_, ?_, ?_, ?_⟩
      · rw [List.getElem?_append_right (by rw [hl]; omega), hl, show 4 * (i + 1) - 4 = 4 * i by omega]; simpa using h0
      · rw [List.getElem?_append_right (by rw [hl]; omega), hl, show 4 * (i + 1) + 1 - 4 = 4 * i + 1 by omega]; simpa using h1
      · rw [List.getElem?_append_right (by rw [hl]; omega), hl, show 4 * (i + 1) + 2 - 4 = 4 * i + 2 by omega]; simpa using h2
      · rw [List.getElem?_append_right (by rw [hl]; omega), hl, show 4 * (i + 1) + 3 - 4 = 4 * i + 3 by omega]; simpa using h3
/-- at that address they lie, one behind the other; of none nothing is asked -/
def RowTokV (w : World) (A : Option Addr) (L : List TokV) : Prop :=
  L ≠ [] → ∃ b o, A = some ⟨b, o, none⟩ ∧ b < w.heap.size ∧ w.rangeAt b o (flatsTokV L)
theorem RowTokV.on {w W : World} {A : Option Addr} {L : List TokV} (h : RowTokV w A L) (hb : Below w.heap.size w W) : RowTokV W A L := fun hn => by
  obtain ⟨b, o, e, hl, hr⟩ := h hn
  exact ⟨b, o, e, Nat.lt_of_lt_of_le hl hb.size, fun j v hv => cell_on hb (hr j v hv)⟩
theorem RowTokV.nil {w : World} {A : Option Addr} : RowTokV w A [] := fun h => absurd rfl h
theorem RowTokV.at_ {w : World} {A : Option Addr} {L : List TokV} (h : RowTokV w A L) (i : Nat) (hi : i < L.length) : ∃ b o, A = some ⟨b, o, none⟩ ∧ b < w.heap.size ∧
    w.cell? ⟨b, o + i * 4, none⟩ = some (.int .i64 L[i].1) ∧ w.cell? ⟨b, o + i * 4 + 1, none⟩ = some (.int .i64 L[i].2.1) ∧ w.cell? ⟨b, o + i * 4 + 2, none⟩ = some (.string L[i].2.2.1) ∧ w.cell? ⟨b, o + i * 4 + 3, none⟩ = some (.int .i64 L[i].2.2.2) := by
  obtain ⟨b, o, e, hl, hr⟩ := h (by intro h0; subst h0; simp at hi)
  obtain ⟨h0, h1, h2, h3⟩ := flatsTokV_at L i hi
  have g0 := hr _ _ h0
  have g1 := hr _ _ h1
  have g2 := hr _ _ h2
  have g3 := hr _ _ h3
  rw [← Nat.add_assoc] at g1 g2 g3
  rw [Nat.mul_comm 4 i] at g0 g1 g2 g3
  exact ⟨b, o, e, hl, g0, g1, g2, g3⟩
theorem boxTokV {W : World} {g : Nat} {p : TokV} {t : TypeId} (h : W.heap[g]? = some (.cells #[.int .i64 p.1, .int .i64 p.2.1, .string p.2.2.1, .int .i64 p.2.2.2] t (0, 0))) : RowTokV W (some ⟨g, 0, none⟩) [p] := fun _ => ⟨g, 0, rfl, heapLt h, fun j v hv => by
  match j with
  | 0 => simp [flatsTokV, flatTokV] at hv; subst hv; rw [cell_of_row W g 0 _ _ _ h]; rfl
  | 1 => simp [flatsTokV, flatTokV] at hv; subst hv; rw [cell_of_row W g 1 _ _ _ h]; rfl
  | 2 => simp [flatsTokV, flatTokV] at hv; subst hv; rw [cell_of_row W g 2 _ _ _ h]; rfl
  | 3 => simp [flatsTokV, flatTokV] at hv; subst hv; rw [cell_of_row W g 3 _ _ _ h]; rfl
  | j + 4 => simp [flatsTokV, flatTokV] at hv⟩
theorem cellsTokV {W : World} {g : Nat} {v0 v1 v2 v3 : Value} {t : TypeId} (h : W.heap[g]? = some (.cells #[v0, v1, v2, v3] t (0, 0))) : W.cell? ⟨g, 0, none⟩ = some v0 ∧ W.cell? ⟨g, 1, none⟩ = some v1 ∧ W.cell? ⟨g, 2, none⟩ = some v2 ∧ W.cell? ⟨g, 3, none⟩ = some v3 :=
  ⟨cell_of_row W g 0 _ _ _ h, cell_of_row W g 1 _ _ _ h, cell_of_row W g 2 _ _ _ h, cell_of_row W g 3 _ _ _ h⟩
theorem factTokV : (Tryz.prog.info? 96).map (fun i => (i.zero, i.size, i.bytes)) = some (some (.agg #[.int .i64 0, .int .i64 0, .string ⟨#[]⟩, .int .i64 0]), 4, 40) := by kernel_rfl
/-- a row of the call's own -/
def OwnTokV (w : World) (base : Nat) (v : Value) (L : List TokV) : Prop := w.ownsRow base 96 4 v L.length (flatsTokV L)
theorem OwnTokV.on {w W : World} {B : Nat} {v : Value} {L : List TokV} (h : OwnTokV w B v L) (hb : Below w.heap.size w W) : OwnTokV W B v L :=
  World.ownsRow.kept (row := none) h ⟨hb.os, hb.tape, hb.output, hb.size, fun k hk _ => hb.block k hk⟩ (by
    rcases h.2 with ⟨rfl, _⟩ | ⟨g, c, cur, rfl, _⟩
    · exact .inl rfl
    · exact .inr (by simp [Value.ownBlock]))
theorem OwnTokV.less {w : World} {B B' : Nat} {v : Value} {L : List TokV} (h : OwnTokV w B v L) (hB : B' ≤ B) : OwnTokV w B' v L := by
  refine ⟨h.1, ?_⟩
  rcases h.2 with h | ⟨g, c, cur, h1, h2, h3⟩
  · exact .inl h
  · exact .inr ⟨g, c, cur, h1, Nat.le_trans hB h2, h3⟩
theorem OwnTokV.form {w : World} {B : Nat} {v : Value} {L : List TokV} (h : OwnTokV w B v L) : ∃ A c, v = .slice A L.length c ∧ RowTokV w A L ∧ (A = none → L = []) := by
  rcases h.2 with ⟨rfl, h0⟩ | ⟨g, c, cur, rfl, hB, hh, hc, hm, hcs, ht⟩
  · have : L = [] := List.eq_nil_of_length_eq_zero h0
    subst this
    exact ⟨none, 0, rfl, RowTokV.nil, fun _ => rfl⟩
  · refine ⟨_, c, rfl, fun hn => ⟨g, 0, rfl, heapLt hh, fun j v hv => ?_⟩, fun e => by cases e⟩
    have := World.ownsRow.cells (g := g) h rfl j v hv
    rwa [Addr.add_mid] at this
theorem RowTokV.range {w : World} {a : Addr} {L : List TokV} (hr : RowTokV w (some a) L) : ∀ j u, (flatsTokV L)[j]? = some u → w.cell? (a.add j) = some u := fun j u hu => by
  have hne : L ≠ [] := by
    intro e; subst e; simp [flatsTokV] at hu
  obtain ⟨b, o, e, _, hra⟩ := hr hne
  injection e with e
  subst e
  rw [Addr.add_mid]
  exact hra j u hu
theorem append_tok (w : World) (base : Nat) (v : Value) (L M : List TokV) (hown : OwnTokV w base v L) (p : Addr) (c : Nat) (hr : RowTokV w (some p) M) (hl : L.length + M.length ≤ 200000) (hb : base ≤ w.heap.size) :
    ∃ v' w', (Builtin.append_ #[73, 73] 73 #[v, .slice (some p) M.length c]).run Tryz.prog w = .ok v' w' ∧ OwnTokV w' base v' (L ++ M) ∧ w.grownBy w' v.ownBlock := by
  obtain ⟨i0, hi, hz0, hz1, hz2⟩ := info_parts factTokV
  obtain ⟨v', w', h1, h2, h3, _⟩ := run_append_own (P := Tryz.prog) w base 73 73 96 i0 _ 4 40 Tryz.underlying73 hi hz0 hz1 hz2 rfl (by decide) v L.length (flatsTokV L) hown p M.length c (flatsTokV M) (by rw [flatsTokV_len]; omega) hr.range (flatsTokV_one M) (by unfold maxLen; omega) (by omega) hb
  refine ⟨v', w', h1, ?_, h3⟩
  unfold OwnTokV
  rw [flatsTokV_append, List.length_append]
  exact h2
theorem wpList_append_tok {w : World} {ops : Array Oper} {rest : List Oper} {o : Oper} {a : Act} {Q : Exit → Act → World → Prop} (hgd : o.guard = none) (s x : Operand)
    (ho : o.op = .call { callee := .builtin .append, args := #[s, x], argTypes := #[73, 73] }) (hty : o.type = 73) (base : Nat) (v : Value) (L : List TokV) (hs : a.eval s = v) (hown : OwnTokV w base v L)
    (p : Addr) (c : Nat) (t : TokV) (hx : a.eval x = .slice (some p) 1 c) (hr : RowTokV w (some p) [t]) (hl : L.length ≤ 100000) (hb : base ≤ w.heap.size)
    (h : ∀ v' w', OwnTokV w' base v' (L ++ [t]) → w.grownBy w' v.ownBlock → wpList Tryz.prog ops Q rest (a.put o.dst v') w') : wpList Tryz.prog ops Q (o :: rest) a w :=
  wpList_plain hgd fun _ hK => by
    obtain ⟨v', w', hrun, h2, h3⟩ := append_tok w base v L [t] hown p c hr (by simp; omega) hb
    unfold Oper.wp execOp
    simp only [ho, hty, resolve, invoke, builtin, Sem.run_bind, Sem.run_pure, Result.andThen_ok, List.map_toArray, List.map_cons, List.map_nil, hs, hx]
    rw [show ([t] : List TokV).length = 1 from rfl] at hrun
    simp only [hrun]
    exact hK _ _ (h v' w' h2 h3)
theorem OwnTokV.low {w w' : World} {B : Nat} {v : Value} {L : List TokV} (h : OwnTokV w B v L) (hg : w.grownBy w' v.ownBlock) (hB : B ≤ w.heap.size) : Below B w w' := by
  refine (Below.refl _ _).grown hg hB ?_
  intro b e
  rcases h.2 with ⟨rfl, _⟩ | ⟨g, c, cur, rfl, hb, _⟩
  · simp [Value.ownBlock] at e
  · simp [Value.ownBlock] at e
    omega
theorem OwnTokV.nil (w : World) (B : Nat) : OwnTokV w B (.slice none 0 0) [] := World.ownsRow_nil w _ _ 4
abbrev TokR := Int × Int × ByteArray × Int
def flatTokR (p : TokR) : List Value := [.int .i64 p.1, .int .i64 p.2.1, .string p.2.2.1, .int .i64 p.2.2.2]
def flatsTokR (L : List TokR) : List Value := L.flatMap flatTokR
theorem flatsTokR_len (L : List TokR) : (flatsTokR L).length = 4 * L.length := by
  induction L with
  | nil => rfl
  | cons p L ih =>
    have e : flatsTokR (p :: L) = flatTokR p ++ flatsTokR L := rfl
    rw [e, List.length_append, ih]
    simp [flatTokR]
    omega
theorem flatsTokR_append (L M : List TokR) : flatsTokR (L ++ M) = flatsTokR L ++ flatsTokR M := List.flatMap_append
theorem flatsTokR_one (M : List TokR) : ∀ u ∈ flatsTokR M, u.oneCell' = true := by
  intro u hu
  obtain ⟨p, _, hp⟩ := List.mem_flatMap.1 hu
  simp only [flatTokR, List.mem_cons, List.not_mem_nil, or_false] at hp
  rcases hp with rfl | rfl | rfl | rfl <;> rfl
theorem flatsTokR_at (L : List TokR) : ∀ (i : Nat) (h : i < L.length), (flatsTokR L)[4 * i]? = some (.int .i64 L[i].1) ∧ (flatsTokR L)[4 * i + 1]? = some (.int .i64 L[i].2.1) ∧ (flatsTokR L)[4 * i + 2]? = some (.string L[i].2.2.1) ∧ (flatsTokR L)[4 * i + 3]? = some (.int .i64 L[i].2.2.2) := by
  induction L with
  | nil => intro i h; simp at h
  | cons p L ih =>
    intro i h
    have e : flatsTokR (p :: L) = flatTokR p ++ flatsTokR L := rfl
    rw [e]
    cases i with
    | zero => exact ⟨rfl, rfl, rfl, rfl⟩
    | succ i =>
      obtain ⟨h0, h1, h2, h3⟩ := ih i (by simpa using h)
      have hl : (flatTokR p).length = 4 := rfl
      refine ⟨?_, ?_, ?_, ?_⟩
      · rw [List.getElem?_append_right (by rw [hl]; omega), hl, show 4 * (i + 1) - 4 = 4 * i by omega]; simpa using h0
      · rw [List.getElem?_append_right (by rw [hl]; omega), hl, show 4 * (i + 1) + 1 - 4 = 4 * i + 1 by omega]; simpa using h1
      · rw [List.getElem?_append_right (by rw [hl]; omega), hl, show 4 * (i + 1) + 2 - 4 = 4 * i + 2 by omega]; simpa using h2
      · rw [List.getElem?_append_right (by rw [hl]; omega), hl, show 4 * (i + 1) + 3 - 4 = 4 * i + 3 by omega]; simpa using h3
/-- at that address they lie, one behind the other; of none nothing is asked -/
def RowTokR (w : World) (A : Option Addr) (L : List TokR) : Prop :=
  L ≠ [] → ∃ b o, A = some ⟨b, o, none⟩ ∧ b < w.heap.size ∧ w.rangeAt b o (flatsTokR L)
theorem RowTokR.on {w W : World} {A : Option Addr} {L : List TokR} (h : RowTokR w A L) (hb : Below w.heap.size w W) : RowTokR W A L := fun hn => by
  obtain ⟨b, o, e, hl, hr⟩ := h hn
  exact ⟨b, o, e, Nat.lt_of_lt_of_le hl hb.size, fun j v hv => cell_on hb (hr j v hv)⟩
theorem RowTokR.nil {w : World} {A : Option Addr} : RowTokR w A [] := fun h => absurd rfl h
theorem RowTokR.at_ {w : World} {A : Option Addr} {L : List TokR} (h : RowTokR w A L) (i : Nat) (hi : i < L.length) : ∃ b o, A = some ⟨b, o, none⟩ ∧ b < w.heap.size ∧
    w.cell? ⟨b, o + i * 4, none⟩ = some (.int .i64 L[i].1) ∧ w.cell? ⟨b, o + i * 4 + 1, none⟩ = some (.int .i64 L[i].2.1) ∧ w.cell? ⟨b, o + i * 4 + 2, none⟩ = some (.string L[i].2.2.1) ∧ w.cell? ⟨b, o + i * 4 + 3, none⟩ = some (.int .i64 L[i].2.2.2) := by
  obtain ⟨b, o, e, hl, hr⟩ := h (by intro h0; subst h0; simp at hi)
  obtain ⟨h0, h1, h2, h3⟩ := flatsTokR_at L i hi
  have g0 := hr _ _ h0
  have g1 := hr _ _ h1
  have g2 := hr _ _ h2
  have g3 := hr _ _ h3
  rw [← Nat.add_assoc] at g1 g2 g3
  rw [Nat.mul_comm 4 i] at g0 g1 g2 g3
  exact ⟨b, o, e, hl, g0, g1, g2, g3⟩
theorem boxTokR {W : World} {g : Nat} {p : TokR} {t : TypeId} (h : W.heap[g]? = some (.cells #[.int .i64 p.1, .int .i64 p.2.1, .string p.2.2.1, .int .i64 p.2.2.2] t (0, 0))) : RowTokR W (some ⟨g, 0, none⟩) [p] := fun _ => ⟨g, 0, rfl, heapLt h, fun j v hv => by
  match j with
  | 0 => simp [flatsTokR, flatTokR] at hv; subst hv; rw [cell_of_row W g 0 _ _ _ h]; rfl
  | 1 => simp [flatsTokR, flatTokR] at hv; subst hv; rw [cell_of_row W g 1 _ _ _ h]; rfl
  | 2 => simp [flatsTokR, flatTokR] at hv; subst hv; rw [cell_of_row W g 2 _ _ _ h]; rfl
  | 3 => simp [flatsTokR, flatTokR] at hv; subst hv; rw [cell_of_row W g 3 _ _ _ h]; rfl
  | j + 4 => simp [flatsTokR, flatTokR] at hv⟩
theorem cellsTokR {W : World} {g : Nat} {v0 v1 v2 v3 : Value} {t : TypeId} (h : W.heap[g]? = some (.cells #[v0, v1, v2, v3] t (0, 0))) : W.cell? ⟨g, 0, none⟩ = some v0 ∧ W.cell? ⟨g, 1, none⟩ = some v1 ∧ W.cell? ⟨g, 2, none⟩ = some v2 ∧ W.cell? ⟨g, 3, none⟩ = some v3 :=
  ⟨cell_of_row W g 0 _ _ _ h, cell_of_row W g 1 _ _ _ h, cell_of_row W g 2 _ _ _ h, cell_of_row W g 3 _ _ _ h⟩
theorem RowTokR.range {w : World} {a : Addr} {L : List TokR} (hr : RowTokR w (some a) L) : ∀ j u, (flatsTokR L)[j]? = some u → w.cell? (a.add j) = some u := fun j u hu => by
  have hne : L ≠ [] := by
    intro e; subst e; simp [flatsTokR] at hu
  obtain ⟨b, o, e, _, hra⟩ := hr hne
  injection e with e
  subst e
  rw [Addr.add_mid]
  exact hra j u hu
end Go.Proofs.YtpapcnogbmjpjaaGreatDoor
