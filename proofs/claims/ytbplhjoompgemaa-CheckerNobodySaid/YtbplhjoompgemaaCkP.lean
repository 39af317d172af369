/- Rows of a call's own, of any elements; a map of numbers. -/
import Derived.Test.YtbplhjoompgemaaCkO
namespace Go.Proofs.Ytbplhjoompgemaa
open Go.RowKit
set_option maxRecDepth 100000
set_option linter.unusedSimpArgs false
set_option linter.unusedVariables false
attribute [local go_sem] Oper.semAt_some

theorem own_on {T : TypeId} {sz : Nat} {w w' : World} {B n : Nat} {v : Value} {xs : List Value} (h : w.ownsRow B T sz v n xs) (hb : Below w.heap.size w w') : w'.ownsRow B T sz v n xs :=
  World.ownsRow.kept (row := none) h ⟨hb.os, hb.tape, hb.output, hb.size, fun k hk _ => hb.block k hk⟩ (by
    rcases h.2 with ⟨rfl, _⟩ | ⟨g, c, cur, rfl, _⟩
    · exact .inl rfl
    · exact .inr (by simp [Value.ownBlock]))
theorem own_chg {T : TypeId} {sz : Nat} {w w' : World} {B m n : Nat} {v : Value} {xs : List Value} (h : w.ownsRow B T sz v n xs) (hc : Chg m w w') (hm : v.ownBlock ≠ some m) : w'.ownsRow B T sz v n xs :=
  World.ownsRow.kept (row := some m) h hc (.inr hm)
theorem own_kept {T : TypeId} {sz : Nat} {w w' : World} {B n : Nat} {v : Value} {xs : List Value} (h : w.ownsRow B T sz v n xs) (hg : ∀ g cs, v.ownBlock = some g → w.heap[g]? = some (.cells cs T (0, 0)) → w'.heap[g]? = some (.cells cs T (0, 0))) : w'.ownsRow B T sz v n xs := by
  refine ⟨h.1, ?_⟩
  rcases h.2 with hn | ⟨g, cap, cur, rfl, hb, hgg, rest⟩
  · exact .inl hn
  · exact .inr ⟨g, cap, cur, rfl, hb, hg g cur rfl hgg, rest⟩
theorem own_block {T : TypeId} {sz : Nat} {w : World} {B n : Nat} {v : Value} {xs : List Value} (h : w.ownsRow B T sz v n xs) : ∀ k, v.ownBlock = some k → B ≤ k ∧ ∃ cs, w.heap[k]? = some (.cells cs T (0, 0)) := by
  rcases h.2 with ⟨rfl, _⟩ | ⟨g, c, cur, rfl, hB, hh, _⟩
  · intro k hk; simp [Value.ownBlock] at hk
  · intro k hk
    simp [Value.ownBlock] at hk
    subst hk
    exact ⟨hB, cur, hh⟩
theorem own_off {T T' : TypeId} {sz : Nat} {w : World} {B n : Nat} {v : Value} {xs : List Value} (h : w.ownsRow B T sz v n xs) {m : Nat} {cs : Array Value} {fr : Nat × Nat} (hm : w.heap[m]? = some (.cells cs T' fr)) (hT : T' ≠ T) : v.ownBlock ≠ some m := fun e => by
  obtain ⟨_, cur, hc⟩ := own_block h m e
  rw [hm] at hc
  injection hc with hc
  injection hc with _ h2 _
  exact hT h2
theorem own_offMap {T : TypeId} {sz : Nat} {w : World} {B n : Nat} {v : Value} {xs : List Value} (h : w.ownsRow B T sz v n xs) {m c : Nat} {es : Array MapEntry} (hm : w.heap[m]? = some (.map es c)) : v.ownBlock ≠ some m := fun e => by
  obtain ⟨_, cur, hc⟩ := own_block h m e
  rw [hm] at hc
  injection hc with hc
  cases hc
theorem own_form {T : TypeId} {sz : Nat} {w : World} {B n : Nat} {v : Value} {xs : List Value} (h : w.ownsRow B T sz v n xs) : ∃ A c, v = .slice A n c ∧ (A = none → n = 0 ∧ c = 0) ∧ (∀ a, A = some a → ∃ g, a = ⟨g, 0, none⟩) := by
  rcases h.2 with ⟨rfl, rfl⟩ | ⟨g, c, cur, rfl, hB, hh, _⟩
  · exact ⟨none, 0, rfl, fun _ => ⟨rfl, rfl⟩, fun a e => by cases e⟩
  · exact ⟨_, c, rfl, (fun e => by cases e), fun a e => by cases e; exact ⟨g, rfl⟩⟩
/-- one element more -/
theorem wp_app {S T : TypeId} {sz bytes : Nat} {z : Value} (ht : Try.prog.underlying S = some (.slice T)) (hf : (Try.prog.info? T).map (fun i => (i.zero, i.size, i.bytes)) = some (some z, sz, bytes)) (hzs : z.cells.size = sz) (hsz : 0 < sz) (hby : bytes ≤ 1000)
    {w : World} {o : Oper} {a : Act} {K : Act → World → Prop} {Q : Exit → Act → World → Prop} (s x : Operand) (ho : o.op = .call { callee := .builtin .append, args := #[s, x], argTypes := #[S, S] }) (B : Nat) (v : Value) (n : Nat) (xs news : List Value)
    (hs : a.eval s = v) (hown : w.ownsRow B T sz v n xs) (g : Nat) (hx : a.eval x = .slice (some ⟨g, 0, none⟩) 1 1) {T' : TypeId} {fr : Nat × Nat} (hg : w.heap[g]? = some (.cells news.toArray T' fr)) (hnl : news.length = sz) (h1 : ∀ u ∈ news, u.oneCell' = true) (hn : n ≤ 100000) (hB : B ≤ w.heap.size)
    (h : ∀ v' w', w'.ownsRow B T sz v' (n + 1) (xs ++ news) → w.grownBy w' v.ownBlock → (v'.ownBlock = v.ownBlock ∨ v'.ownBlock = some w.heap.size) → K (a.put o.dst v') w') : o.wp Try.prog a w K Q := by
  obtain ⟨i0, hi, hz0, hz1, hz2⟩ := info_parts hf
  obtain ⟨v', w', hr, h2, h3, h4, h5⟩ := run_append_own_at (P := Try.prog) w B S o.type T i0 z sz bytes ht hi hz0 hz1 hz2 hzs hsz v n xs hown ⟨g, 0, none⟩ 1 1 news (by omega) (fun j u hu => by
    have : (⟨g, 0, none⟩ : Addr).add j = ⟨g, j, none⟩ := by unfold Addr.add; by_cases e : j = 0 <;> simp [e]
    rw [this, cell_of_row _ g j _ _ _ hg]
    simpa using hu) h1 (by unfold maxLen; omega) (by
      have : (n + 1) * bytes ≤ 100001 * 1000 := Nat.mul_le_mul (by omega) hby
      omega) hB
  unfold Oper.wp execOp
  simp only [ho, resolve, invoke, builtin, Sem.run_bind, Sem.run_pure, Result.andThen_ok, List.map_toArray, List.map_cons, List.map_nil, hs, hx, hr]
  exact h v' w' h2 h3 h5
theorem wpList_app {S T : TypeId} {sz bytes : Nat} {z : Value} (ht : Try.prog.underlying S = some (.slice T)) (hf : (Try.prog.info? T).map (fun i => (i.zero, i.size, i.bytes)) = some (some z, sz, bytes)) (hzs : z.cells.size = sz) (hsz : 0 < sz) (hby : bytes ≤ 1000)
    {w : World} {ops : Array Oper} {rest : List Oper} {o : Oper} {a : Act} {Q : Exit → Act → World → Prop} (hgd : o.guard = none) (s x : Operand) (ho : o.op = .call { callee := .builtin .append, args := #[s, x], argTypes := #[S, S] }) (B : Nat) (v : Value) (n : Nat) (xs news : List Value)
    (hs : a.eval s = v) (hown : w.ownsRow B T sz v n xs) (g : Nat) (hx : a.eval x = .slice (some ⟨g, 0, none⟩) 1 1) {T' : TypeId} {fr : Nat × Nat} (hg : w.heap[g]? = some (.cells news.toArray T' fr)) (hnl : news.length = sz) (h1 : ∀ u ∈ news, u.oneCell' = true) (hn : n ≤ 100000) (hB : B ≤ w.heap.size)
    (h : ∀ v' w', w'.ownsRow B T sz v' (n + 1) (xs ++ news) → w.grownBy w' v.ownBlock → (v'.ownBlock = v.ownBlock ∨ v'.ownBlock = some w.heap.size) → wpList Try.prog ops Q rest (a.put o.dst v') w') : wpList Try.prog ops Q (o :: rest) a w :=
  wpList_plain hgd fun K hK => wp_app ht hf hzs hsz hby s x ho B v n xs news hs hown g hx hg hnl h1 hn hB fun v' w' k1 k2 k3 => hK _ _ (h v' w' k1 k2 k3)
theorem factB : (Try.prog.info? 43).map (fun i => (i.zero, i.size, i.bytes)) = some (some (.agg #[.int .i64 0, .int .i64 0, .int .i64 0, .string ⟨#[]⟩, .slice none 0 0, .slice none 0 0]), 6, 88) := by kernel_rfl
theorem factS : (Try.prog.info? 30).map (fun i => (i.zero, i.size, i.bytes)) = some (some (.slice none 0 0), 1, 24) := by kernel_rfl
/-- a map's entries -/
def entsI : Nat → List (Int × Int) → List MapEntry
  | _, [] => []
  | i, p :: E => { key := .int .i64 p.1, val := .int .i64 p.2, born := i } :: entsI (i + 1) E
def MapI (w : World) (m : Nat) (E : List (Int × Int)) : Prop := w.heap[m]? = some (.map (entsI 0 E).toArray E.length)
def findI (k : Int) : Nat → List (Int × Int) → Option (Nat × Int)
  | _, [] => none
  | i, p :: E => if k = p.1 then some (i, p.2) else findI k (i + 1) E
theorem nowI (k : Int) : ∀ (E : List (Int × Int)) (i j : Nat) (kd : IntKind), Instr.findNow (.int kd) (.int .i64 k) (entsI j E) i = some ((findI k i E).map fun x => (x.1, .int .i64 x.2)) := by
  intro E
  induction E with
  | nil => intro i j kd; simp [entsI, findI, Instr.findNow]
  | cons p E ih =>
    intro i j kd
    simp only [entsI, findI, Instr.findNow, Instr.sameNow]
    by_cases e : k = p.1
    · simp [e]
    · have hb : (k == p.1) = false := by simp [e]
      rw [hb]
      simp [e, ih]
theorem run_findI (w : World) (k : Int) (E : List (Int × Int)) : (Instr.findKey 3 (.int .i64 k) (entsI 0 E)).run Try.prog w = .ok ((findI k 0 E).map fun x => (x.1, .int .i64 x.2)) w := by
  simp only [Instr.findKey, Sem.run_bind, run_underlying Try.underlying3, Result.andThen_ok]
  rw [nowI]
  simp
theorem run_checkI (w : World) (k : Int) (b : Bool) : (Instr.checkKey b 10000 3 (.int .i64 k)).run Try.prog w = .ok () w := by
  show (Instr.checkKey b (9999 + 1) 3 (.int .i64 k)).run Try.prog w = _
  rw [Instr.checkKey]
  simp [run_underlying Try.underlying3]
def valI (k : Int) (E : List (Int × Int)) : Option Int := (findI k 0 E).map (·.2)
theorem run_lookI (w : World) (m : Nat) (k : Int) (E : List (Int × Int)) (h : MapI w m E) :
    (Instr.lookup 33 (.map (some m)) (.int .i64 k) true).run Try.prog w = .ok (.tuple #[.int .i64 ((valI k E).getD 0), .bool (valI k E).isSome]) w := by
  have hz : (zeroValue 3).run Try.prog w = .ok (.int .i64 0) w := by first | rfl | kernel_rfl | go_simp
  simp only [Instr.lookup, Sem.run_bind, run_underlying Try.underlying33, Result.andThen_ok]
  simp only [MapKept.run_getObj_map h, Sem.run_bind, Sem.run_pure, Result.andThen_ok, run_checkI]
  rw [run_findI]
  unfold valI
  cases e : findI k 0 E with
  | none => simp [hz]
  | some x => simp
theorem run_lookI_nil (w : World) (k : Int) : (Instr.lookup 33 (.map none) (.int .i64 k) true).run Try.prog w = .ok (.tuple #[.int .i64 0, .bool false]) w := by
  have hz : (zeroValue 3).run Try.prog w = .ok (.int .i64 0) w := by first | rfl | kernel_rfl | go_simp
  have hf := run_findI w k []
  simp only [entsI, findI] at hf
  simp only [Instr.lookup, Sem.run_bind, run_underlying Try.underlying33, Result.andThen_ok]
  simp only [Sem.run_bind, Sem.run_pure, Result.andThen_ok, run_checkI]
  rw [hf]
  simp [hz]
def putI (k : Int) (v : Int) : List (Int × Int) → List (Int × Int)
  | [] => [(k, v)]
  | p :: E => if k = p.1 then (k, v) :: E else p :: putI k v E
theorem putI_none {k v : Int} : ∀ {E : List (Int × Int)} {i j : Nat}, findI k i E = none → entsI j (putI k v E) = entsI j E ++ [{ key := .int .i64 k, val := .int .i64 v, born := j + E.length }] ∧ (putI k v E).length = E.length + 1 := by
  intro E
  induction E with
  | nil => intro i j _; simp [putI, entsI]
  | cons q E ih =>
    intro i j h
    unfold findI at h
    by_cases e : k = q.1
    · rw [if_pos e] at h; cases h
    · rw [if_neg e] at h
      obtain ⟨h1, h2⟩ := ih (j := j + 1) h
      simp [putI, e, entsI, h1, h2, Nat.add_comm, Nat.add_left_comm]
theorem putI_some {k v : Int} : ∀ {E : List (Int × Int)} {i j n : Nat} {x : Int}, findI k i E = some (n, x) → i ≤ n ∧ (entsI j E)[n - i]? = some { key := .int .i64 k, val := .int .i64 x, born := j + (n - i) } ∧
    entsI j (putI k v E) = (entsI j E).modify (n - i) (fun e => { e with key := .int .i64 k, val := .int .i64 v }) ∧ (putI k v E).length = E.length := by
  intro E
  induction E with
  | nil => intro i j n x h; cases h
  | cons q E ih =>
    intro i j n x h
    unfold findI at h
    by_cases e : k = q.1
    · rw [if_pos e] at h
      simp only [Option.some.injEq, Prod.mk.injEq] at h
      obtain ⟨rfl, rfl⟩ := h
      subst e
      simp [putI, entsI]
    · rw [if_neg e] at h
      obtain ⟨h0, h1, h2, h3⟩ := ih (j := j + 1) h
      have hn : n - i = (n - (i + 1)) + 1 := by omega
      refine ⟨by omega, ?_, ?_, ?_⟩
      · rw [hn]
        simp only [entsI, List.getElem?_cons_succ, h1]
        simp; omega
      · rw [hn]
        simp [putI, e, entsI, h2]
      · simp [putI, e, h3]
/-- the world behind a write -/
def putWI (w : World) (m : Nat) (E : List (Int × Int)) : World := { w with heap := w.heap.setIfInBounds m (.map (entsI 0 E).toArray E.length) }
theorem run_updI (w : World) (m : Nat) (k v : Int) (E : List (Int × Int)) (h : MapI w m E) : (Instr.mapUpdate 33 (.map (some m)) (.int .i64 k) (.int .i64 v)).run Try.prog w = .ok () (putWI w m (putI k v E)) := by
  unfold putWI
  simp only [Instr.mapUpdate, Sem.run_bind, run_underlying Try.underlying33, Result.andThen_ok]
  simp only [MapKept.run_getObj_map h, Sem.run_bind, Sem.run_pure, Result.andThen_ok, run_checkI]
  rw [run_findI]
  cases e : findI k 0 E with
  | none =>
    obtain ⟨g1, g2⟩ := putI_none (v := v) (j := 0) e
    simp only [Option.map_none, Result.andThen_ok, MapKept.run_setObj_map _ h]
    rw [g1, g2]
    simp
  | some x =>
    obtain ⟨n, x⟩ := x
    obtain ⟨_, g1, g2, g3⟩ := putI_some (v := v) (j := 0) e
    simp only [Nat.sub_zero] at g1 g2
    have hb : Instr.sameBits 10000 (.int .i64 k) (.int .i64 k) = true := by simp [Instr.sameBits]
    simp only [Option.map_some, Result.andThen_ok, Sem.run_bind, List.getElem?_toArray, g1, Option.map_some, Option.getD_some, Instr.keyThatStays, hb, if_true, Sem.run_pure, MapKept.run_setObj_map _ h]
    rw [g2, g3]
    simp
theorem putWI_chg (w : World) (m : Nat) (E : List (Int × Int)) : Chg m w (putWI w m E) := mapset_chg w m _
theorem MapI.put {w : World} {m : Nat} {E : List (Int × Int)} (h : MapI w m E) (E' : List (Int × Int)) : MapI (putWI w m E') m E' := by
  unfold MapI putWI
  have := heapLt h
  simp [Array.getElem?_setIfInBounds, this]
theorem MapI.to {w w' : World} {m : Nat} {E : List (Int × Int)} (h : MapI w m E) (hw : w'.heap[m]? = w.heap[m]?) : MapI w' m E := hw.trans h
theorem MapI.on {w w' : World} {m : Nat} {E : List (Int × Int)} (h : MapI w m E) (hb : Below w.heap.size w w') : MapI w' m E := heap_on hb h
theorem MapI.not {w : World} {m : Nat} {E : List (Int × Int)} (h : MapI w m E) : ∀ cs t fr, w.heap[m]? ≠ some (.cells cs t fr) := fun cs t fr e => by
  unfold MapI at h
  rw [h] at e; cases e
theorem entsI_len : ∀ (E : List (Int × Int)) (j : Nat), (entsI j E).length = E.length := by
  intro E
  induction E with
  | nil => intro j; rfl
  | cons p E ih => intro j; simp [entsI, ih]
end Go.Proofs.Ytbplhjoompgemaa
