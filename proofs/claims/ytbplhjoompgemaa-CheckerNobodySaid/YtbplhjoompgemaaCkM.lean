/- Maps by where a list lies: how one reads, is looked up in, is written. -/
import Derived.Test.YtbplhjoompgemaaCkA
import Derived.LaidEql
import Derived.MapKept
import Derived.Laws.StructEq
namespace Go.Proofs.Ytbplhjoompgemaa
open Go.RowKit
set_option maxRecDepth 100000
set_option linter.unusedSimpArgs false
set_option linter.unusedVariables false
attribute [local go_sem] Oper.semAt_some

/-- where a list of Kids lies, and how long it is -/
abbrev Key := Option (Nat × Nat) × Nat
def ptrK (p : Option (Nat × Nat)) : Value := .pointer (p.map fun q => ⟨q.1, q.2, none⟩)
def kV (k : Key) : Value := .agg #[ptrK k.1, .int .i64 k.2]
/-- its row is one that a program made, and bears no mark -/
def PlainK (w : World) (k : Key) : Prop := ∀ p, k.1 = some p → ∃ cs t, w.heap[p.1]? = some (.cells cs t (0, 0))
theorem PlainK.nil (w : World) : PlainK w (none, 0) := fun p h => by cases h
theorem run_ptr_eq (w : World) (d : Nat) (p q : Option (Nat × Nat)) (n m : Nat) (hp : PlainK w (p, n)) (hq : PlainK w (q, m)) : (Op.equalIn (d + 1) 66 (ptrK p) (ptrK q)).run Try.prog w = .ok (decide (p = q)) w := by
  have hu := Try.underlying66
  cases p with
  | none => cases q with
    | none => simp [ptrK, Op.equalIn, run_underlying hu]
    | some q => simp [ptrK, Op.equalIn, run_underlying hu]
  | some p => cases q with
    | none => simp [ptrK, Op.equalIn, run_underlying hu]
    | some q =>
      obtain ⟨cs, t, h1⟩ := hp p rfl
      obtain ⟨cs', t', h2⟩ := hq q rfl
      have hz : ∃ j, Try.prog.info? 41 = some j ∧ j.size ≠ 0 := ⟨_, rfl, by decide⟩
      obtain ⟨j, hj, hs⟩ := hz
      by_cases e : p = q
      · subst e
        simp [ptrK, Op.equalIn, run_underlying hu, sizeOf, typeInfo, hj, hs, run_sameAddr_same]
      · have hne : (⟨p.1, p.2, none⟩ : Addr) ≠ ⟨q.1, q.2, none⟩ := fun x => e (by cases p; cases q; simp at x; simp [x])
        simp [ptrK, Op.equalIn, run_underlying hu, sizeOf, typeInfo, hj, hs, run_sameAddr_other w hne h1 h2, e]
theorem run_key_eq (w : World) (j k : Key) (hj : PlainK w j) (hk : PlainK w k) : (Op.equal 68 (kV j) (kV k)).run Try.prog w = .ok (decide (j = k)) w := by
  obtain ⟨p, n⟩ := j
  obtain ⟨q, m⟩ := k
  have hS : Try.prog.underlying 68 = some (.struct (Try.prog.fieldsOf 68)) := by kernel_rfl
  have h1 := run_ptr_eq w 9998 p q n m hj hk
  have h2 := run_equalIn_int (P := Try.prog) w 9998 3 .i64 .i64 n m Try.underlying3
  show (Op.equalIn (9999 + 1) 68 (.agg #[ptrK p, .int .i64 n]) (.agg #[ptrK q, .int .i64 m])).run Try.prog w = _
  rw [run_equalIn_agg w 9999 68 _ _ hS (by kernel_rfl)]
  simp only [Program.fieldsOf, Try.underlying68]
  have aP := Try.isAgg66
  have aI := Try.isAgg3
  have zP := Try.sizeOf66
  have zI := Try.sizeOf3
  simp only [Op.eqFields]
  generalize hA : ptrK p = A at h1 ⊢
  generalize hB : ptrK q = B at h1 ⊢
  go_simp
  by_cases e : p = q <;> by_cases e2 : n = m <;> simp [e, e2]
  all_goals omega
/-- a map's entries -/
def entsL : Nat → List (Key × Int) → List MapEntry
  | _, [] => []
  | i, p :: E => { key := kV p.1, val := .int .i64 p.2, born := i } :: entsL (i + 1) E
def MapAt (w : World) (m : Nat) (E : List (Key × Int)) : Prop := w.heap[m]? = some (.map (entsL 0 E).toArray E.length) ∧ ∀ p ∈ E, PlainK w p.1
def findL (k : Key) : Nat → List (Key × Int) → Option (Nat × Int)
  | _, [] => none
  | i, p :: E => if k = p.1 then some (i, p.2) else findL k (i + 1) E
theorem run_asking (w : World) (k : Key) (hk : PlainK w k) : ∀ (E : List (Key × Int)) (i j : Nat), (∀ p ∈ E, PlainK w p.1) →
    (Instr.findAsking 68 (kV k) (entsL j E) i).run Try.prog w = .ok ((findL k i E).map fun x => (x.1, .int .i64 x.2)) w := by
  intro E
  induction E with
  | nil => intro i j _; simp [entsL, findL, Instr.findAsking]
  | cons p E ih =>
    intro i j h
    have hq := run_key_eq w k p.1 hk (h p (by simp))
    simp only [entsL, findL, Instr.findAsking, Sem.run_bind, hq, Result.andThen_ok]
    by_cases e : k = p.1
    · simp [e]
    · simp only [e, decide_false, Bool.false_eq_true, if_false]
      exact ih (i + 1) (j + 1) (fun q hq => h q (by simp [hq]))
theorem run_find (w : World) (k : Key) (hk : PlainK w k) (E : List (Key × Int)) (h : ∀ p ∈ E, PlainK w p.1) :
    (Instr.findKey 68 (kV k) (entsL 0 E)).run Try.prog w = .ok ((findL k 0 E).map fun x => (x.1, .int .i64 x.2)) w := by
  cases E with
  | nil => simp [Instr.findKey, entsL, findL, Instr.findNow, run_underlying Try.underlying68]
  | cons p E =>
    simp only [Instr.findKey, Sem.run_bind, run_underlying Try.underlying68, Result.andThen_ok]
    simp only [entsL, Instr.findNow, Instr.sameNow, kV]
    exact run_asking w k hk (p :: E) 0 0 h
theorem run_check (w : World) (k : Key) (b : Bool) : (Instr.checkKey b 10000 68 (kV k)).run Try.prog w = .ok () w := by
  obtain ⟨p, n⟩ := k
  have aP := Try.isAgg66
  have aI := Try.isAgg3
  have zP := Try.sizeOf66
  have zI := Try.sizeOf3
  have hu := Try.underlying68
  have hP := Try.underlying66
  have hI := Try.underlying3
  show (Instr.checkKey b (9998 + 1 + 1) 68 (.agg #[ptrK p, .int .i64 n])).run Try.prog w = _
  rw [Instr.checkKey]
  simp only [Sem.run_bind, run_underlying hu, Result.andThen_ok]
  generalize hA : ptrK p = A
  have hx : ∀ w, (Instr.checkKey b (9998 + 1) 66 A).run Try.prog w = .ok () w := by
    intro w
    subst hA
    rw [Instr.checkKey]
    simp [run_underlying hP, ptrK]
  have hy : ∀ w, (Instr.checkKey b (9998 + 1) 3 (.int .i64 n)).run Try.prog w = .ok () w := by
    intro w
    rw [Instr.checkKey]
    simp [run_underlying hI]
  rw [← Array.forIn_toList]
  simp only [List.forIn_cons, List.forIn_nil]
  go_simp
  try simp [hx, hy]
/-- what is told of a key -/
def valL (k : Key) (E : List (Key × Int)) : Option Int := (findL k 0 E).map (·.2)
theorem run_look (w : World) (m : Nat) (k : Key) (hk : PlainK w k) (E : List (Key × Int)) (h : MapAt w m E) :
    (Instr.lookup 83 (.map (some m)) (kV k) true).run Try.prog w = .ok (.tuple #[.int .i64 ((valL k E).getD 0), .bool (valL k E).isSome]) w := by
  obtain ⟨h1, h2⟩ := h
  have hz : (zeroValue 3).run Try.prog w = .ok (.int .i64 0) w := by first | rfl | kernel_rfl | go_simp
  simp only [Instr.lookup, Sem.run_bind, run_underlying Try.underlying83, Result.andThen_ok]
  simp only [MapKept.run_getObj_map h1, Sem.run_bind, Sem.run_pure, Result.andThen_ok, run_check]
  rw [run_find w k hk E h2]
  unfold valL
  cases e : findL k 0 E with
  | none => simp [hz]
  | some x => simp
/-- what is written -/
def putL (k : Key) (v : Int) : List (Key × Int) → List (Key × Int)
  | [] => [(k, v)]
  | p :: E => if k = p.1 then (k, v) :: E else p :: putL k v E
theorem putL_plain {w : World} {k : Key} {v : Int} (hk : PlainK w k) : ∀ {E : List (Key × Int)}, (∀ p ∈ E, PlainK w p.1) → ∀ p ∈ putL k v E, PlainK w p.1 := by
  intro E
  induction E with
  | nil => intro _ p hp; simp [putL] at hp; subst hp; exact hk
  | cons q E ih =>
    intro h p hp
    unfold putL at hp
    by_cases e : k = q.1
    · rw [if_pos e] at hp
      rcases List.mem_cons.1 hp with rfl | hp
      · exact hk
      · exact h p (by simp [hp])
    · rw [if_neg e] at hp
      rcases List.mem_cons.1 hp with rfl | hp
      · exact h p (by simp)
      · exact ih (fun q hq => h q (by simp [hq])) p hp
theorem putL_none {k : Key} {v : Int} : ∀ {E : List (Key × Int)} {i j : Nat}, findL k i E = none → entsL j (putL k v E) = entsL j E ++ [{ key := kV k, val := .int .i64 v, born := j + E.length }] ∧ (putL k v E).length = E.length + 1 := by
  intro E
  induction E with
  | nil => intro i j _; simp [putL, entsL]
  | cons q E ih =>
    intro i j h
    unfold findL at h
    by_cases e : k = q.1
    · rw [if_pos e] at h; cases h
    · rw [if_neg e] at h
      obtain ⟨h1, h2⟩ := ih (j := j + 1) h
      simp [putL, e, entsL, h1, h2, Nat.add_comm, Nat.add_left_comm]
theorem putL_some {k : Key} {v : Int} : ∀ {E : List (Key × Int)} {i j n : Nat} {x : Int}, findL k i E = some (n, x) → i ≤ n ∧ (entsL j E)[n - i]? = some { key := kV k, val := .int .i64 x, born := j + (n - i) } ∧
    entsL j (putL k v E) = (entsL j E).modify (n - i) (fun e => { e with key := kV k, val := .int .i64 v }) ∧ (putL k v E).length = E.length := by
  intro E
  induction E with
  | nil => intro i j n x h; cases h
  | cons q E ih =>
    intro i j n x h
    unfold findL at h
    by_cases e : k = q.1
    · rw [if_pos e] at h
      simp only [Option.some.injEq, Prod.mk.injEq] at h
      obtain ⟨rfl, rfl⟩ := h
      subst e
      simp [putL, entsL]
    · rw [if_neg e] at h
      obtain ⟨h0, h1, h2, h3⟩ := ih (j := j + 1) h
      have hn : n - i = (n - (i + 1)) + 1 := by omega
      refine ⟨by omega, ?_, ?_, ?_⟩
      · rw [hn]
        simp only [entsL, List.getElem?_cons_succ, h1]
        simp; omega
      · rw [hn]
        simp [putL, e, entsL, h2]
      · simp [putL, e, h3]
theorem bits_key (k : Key) : Instr.sameBits 10000 (kV k) (kV k) = true := by
  obtain ⟨p, n⟩ := k
  show Instr.sameBits (9999 + 1) (.agg #[ptrK p, .int .i64 n]) (.agg #[ptrK p, .int .i64 n]) = true
  simp [Instr.sameBits, ptrK]
theorem run_update (w : World) (m : Nat) (k : Key) (hk : PlainK w k) (v : Int) (E : List (Key × Int)) (h : MapAt w m E) :
    (Instr.mapUpdate 83 (.map (some m)) (kV k) (.int .i64 v)).run Try.prog w = .ok () { w with heap := w.heap.setIfInBounds m (.map (entsL 0 (putL k v E)).toArray (putL k v E).length) } := by
  obtain ⟨h1, h2⟩ := h
  simp only [Instr.mapUpdate, Sem.run_bind, run_underlying Try.underlying83, Result.andThen_ok]
  simp only [MapKept.run_getObj_map h1, Sem.run_bind, Sem.run_pure, Result.andThen_ok, run_check]
  rw [run_find w k hk E h2]
  cases e : findL k 0 E with
  | none =>
    obtain ⟨g1, g2⟩ := putL_none (v := v) (j := 0) e
    simp only [Option.map_none, Result.andThen_ok, MapKept.run_setObj_map _ h1]
    rw [g1, g2]
    simp
  | some x =>
    obtain ⟨n, x⟩ := x
    obtain ⟨_, g1, g2, g3⟩ := putL_some (v := v) (j := 0) e
    simp only [Nat.sub_zero] at g1 g2
    simp only [Option.map_some, Result.andThen_ok, Sem.run_bind, List.getElem?_toArray, g1, Option.map_some, Option.getD_some, Instr.keyThatStays, bits_key, if_true, Sem.run_pure, MapKept.run_setObj_map _ h1]
    rw [g2, g3]
    simp
theorem run_entry (w : World) (m : Nat) (k : Key) (hk : PlainK w k) (E : List (Key × Int)) (h : MapAt w m E) :
    (Instr.mapEntry 83 (.map (some m)) (kV k)).run Try.prog w = .ok (.tuple #[.int .i64 ((valL k E).getD 0), goInt ((((findL k 0 E).map (·.1)).getD E.length : Nat) : Int)]) { w with heap := w.heap.setIfInBounds m (.map (entsL 0 (putL k ((valL k E).getD 0) E)).toArray (putL k ((valL k E).getD 0) E).length) } := by
  obtain ⟨h1, h2⟩ := h
  have hz : (zeroValue 3).run Try.prog w = .ok (.int .i64 0) w := by first | rfl | kernel_rfl | go_simp
  simp only [Instr.mapEntry, Sem.run_bind, run_underlying Try.underlying83, Result.andThen_ok]
  simp only [MapKept.run_getObj_map h1, Sem.run_bind, Sem.run_pure, Result.andThen_ok, run_check]
  rw [run_find w k hk E h2]
  unfold valL
  cases e : findL k 0 E with
  | none =>
    obtain ⟨g1, g2⟩ := putL_none (v := 0) (j := 0) e
    simp only [Option.map_none, Result.andThen_ok, Sem.run_bind, hz, MapKept.run_setObj_map _ h1, Sem.run_pure, Option.getD_none]
    rw [g1, g2]
    simp
  | some x =>
    obtain ⟨n, x⟩ := x
    obtain ⟨_, g1, g2, g3⟩ := putL_some (v := x) (j := 0) e
    simp only [Nat.sub_zero] at g1 g2
    simp only [Option.map_some, Result.andThen_ok, Sem.run_bind, List.getElem?_toArray, g1, Option.map_some, Option.getD_some, Instr.keyThatStays, bits_key, if_true, Sem.run_pure, MapKept.run_setObj_map _ h1]
    rw [g2, g3]
    have : (entsL 0 E).modify n (fun e => { e with key := kV k, val := .int .i64 x }) = (entsL 0 E).modify n (fun e => { e with key := kV k }) := by
      apply List.ext_getElem?
      intro i
      simp only [List.getElem?_modify]
      by_cases hi : n = i
      · subst hi
        simp [g1]
      · simp [hi]
    rw [this]
    simp
theorem putL_same {k : Key} : ∀ {E : List (Key × Int)} {i n : Nat} {x : Int}, findL k i E = some (n, x) → putL k x E = E := by
  intro E
  induction E with
  | nil => intro i n x h; cases h
  | cons q E ih =>
    intro i n x h
    unfold findL at h
    by_cases e : k = q.1
    · rw [if_pos e] at h
      simp only [Option.some.injEq, Prod.mk.injEq] at h
      obtain ⟨rfl, rfl⟩ := h
      subst e
      simp [putL]
    · rw [if_neg e] at h
      simp [putL, e, ih h]
theorem findL_put (k : Key) (v : Int) : ∀ (E : List (Key × Int)) (i : Nat), findL k i (putL k v E) = some (((findL k i E).map (·.1)).getD (i + E.length), v) := by
  intro E
  induction E with
  | nil => intro i; simp [putL, findL]
  | cons q E ih =>
    intro i
    by_cases e : k = q.1
    · subst e; simp [putL, findL]
    · simp only [putL, e, if_false, findL, ih (i + 1), List.length_cons]
      cases findL k (i + 1) E with
      | none => simp; omega
      | some x => simp
theorem findL_other {j k : Key} (hj : j ≠ k) (v : Int) : ∀ (E : List (Key × Int)) (i : Nat), (findL j i (putL k v E)).map (·.2) = (findL j i E).map (·.2) := by
  intro E
  induction E with
  | nil => intro i; simp [putL, findL, hj]
  | cons q E ih =>
    intro i
    by_cases e : k = q.1
    · subst e
      simp [putL, findL, hj]
    · simp only [putL, e, if_false, findL]
      by_cases e2 : j = q.1
      · simp [e2]
      · simp only [e2, if_false]
        exact ih (i + 1)
theorem putL_twice (k : Key) (u v : Int) : ∀ (E : List (Key × Int)), putL k u (putL k v E) = putL k u E := by
  intro E
  induction E with
  | nil => simp [putL]
  | cons q E ih =>
    by_cases e : k = q.1
    · subst e; simp [putL]
    · simp [putL, e, ih]
theorem valL_put (k : Key) (v : Int) (E : List (Key × Int)) : valL k (putL k v E) = some v := by
  unfold valL
  rw [findL_put]
  rfl
theorem valL_other {j k : Key} (hj : j ≠ k) (v : Int) (E : List (Key × Int)) : valL j (putL k v E) = valL j E := findL_other hj v E 0
theorem born_idx : ∀ (E : List (Key × Int)) (j n : Nat), n < E.length → (entsL j E).findIdx? (fun e => (e.born : Int) == ((j + n : Nat) : Int)) = some n := by
  intro E
  induction E with
  | nil => intro j n h; exact absurd h (Nat.not_lt_zero _)
  | cons q E ih =>
    intro j n h
    cases n with
    | zero => simp [entsL, List.findIdx?_cons]
    | succ n =>
      have hne : (((j : Nat) : Int) == ((j + (n + 1) : Nat) : Int)) = false := by simp; omega
      have h3 := ih (j + 1) n (by simpa using h)
      rw [show j + 1 + n = j + (n + 1) by omega] at h3
      simp only [entsL, List.findIdx?_cons, hne, h3]
      simp
theorem findL_lt {k : Key} : ∀ {E : List (Key × Int)} {i n : Nat} {x : Int}, findL k i E = some (n, x) → n < i + E.length := by
  intro E
  induction E with
  | nil => intro i n x h; cases h
  | cons q E ih =>
    intro i n x h
    unfold findL at h
    by_cases e : k = q.1
    · rw [if_pos e] at h
      simp only [Option.some.injEq, Prod.mk.injEq] at h
      simp; omega
    · rw [if_neg e] at h
      have := ih h
      simp; omega
theorem run_store (w : World) (m : Nat) (k : Key) (v : Int) (E : List (Key × Int)) (h : MapAt w m E) (n : Nat) (x : Int) (hf : findL k 0 E = some (n, x)) :
    (Instr.entryStore 83 (.map (some m)) (goInt (n : Int)) (.int .i64 v)).run Try.prog w = .ok () { w with heap := w.heap.setIfInBounds m (.map (entsL 0 (putL k v E)).toArray (putL k v E).length) } := by
  obtain ⟨h1, h2⟩ := h
  obtain ⟨_, g1, g2, g3⟩ := putL_some (v := v) (j := 0) hf
  simp only [Nat.sub_zero] at g1 g2
  have hb := born_idx E 0 n (by simpa using findL_lt hf)
  rw [Nat.zero_add] at hb
  simp only [Instr.entryStore, Sem.run_bind, MapKept.run_getObj_map h1, Result.andThen_ok]
  have ha : (asInt (goInt (n : Int))).run Try.prog w = .ok (n : Int) w := by first | rfl | go_simp | (simp [asInt, asIntOf, goInt])
  simp only [ha, Result.andThen_ok, List.findIdx?_toArray, hb, MapKept.run_setObj_map _ h1]
  rw [g2, g3]
  have : (entsL 0 E).modify n (fun e => { e with key := kV k, val := .int .i64 v }) = (entsL 0 E).modify n (fun e => { e with val := .int .i64 v }) := by
    apply List.ext_getElem?
    intro i
    simp only [List.getElem?_modify]
    by_cases hi : n = i
    · subst hi
      simp [g1]
    · simp [hi]
  rw [this]
  simp
theorem PlainK.keeps {w w' : World} {m : Nat} (hm : ∀ cs t, w.heap[m]? ≠ some (.cells cs t (0, 0))) (hw : Chg m w w') {k : Key} (h : PlainK w k) : PlainK w' k := fun p hp => by
  obtain ⟨cs, t, h1⟩ := h p hp
  exact ⟨cs, t, (hw.heap (heapLt h1) (fun e => hm cs t (e ▸ h1))).trans h1⟩
theorem PlainK.on {w w' : World} {k : Key} (h : PlainK w k) (hb : Below w.heap.size w w') : PlainK w' k := fun p hp => by
  obtain ⟨cs, t, h1⟩ := h p hp
  exact ⟨cs, t, heap_on hb h1⟩
theorem MapAt.lt {w : World} {m : Nat} {E : List (Key × Int)} (h : MapAt w m E) : m < w.heap.size := heapLt h.1
theorem MapAt.not {w : World} {m : Nat} {E : List (Key × Int)} (h : MapAt w m E) : ∀ cs t, w.heap[m]? ≠ some (.cells cs t (0, 0)) := fun cs t e => by
  rw [h.1] at e; cases e
theorem MapAt.on {w w' : World} {m : Nat} {E : List (Key × Int)} (h : MapAt w m E) (hb : Below w.heap.size w w') : MapAt w' m E := ⟨heap_on hb h.1, fun p hp => (h.2 p hp).on hb⟩
/-- the world behind a write -/
def putW (w : World) (m : Nat) (E : List (Key × Int)) : World := { w with heap := w.heap.setIfInBounds m (.map (entsL 0 E).toArray E.length) }
theorem putW_chg (w : World) (m : Nat) (E : List (Key × Int)) : Chg m w (putW w m E) :=
  ⟨rfl, rfl, rfl, by unfold putW; simp, fun k _ hr => by
    unfold putW
    have : m ≠ k := fun e => hr (by rw [e])
    simp [Array.getElem?_setIfInBounds, this]⟩
theorem MapAt.put {w : World} {m : Nat} {E : List (Key × Int)} (h : MapAt w m E) {k : Key} (hk : PlainK w k) (v : Int) : MapAt (putW w m (putL k v E)) m (putL k v E) :=
  ⟨by unfold putW; simp [Array.getElem?_setIfInBounds, h.lt], fun p hp => (putL_plain hk h.2 p hp).keeps h.not (putW_chg _ _ _)⟩
end Go.Proofs.Ytbplhjoompgemaa
