/- Maps by where a list lies: how one reads, is looked up in, is written. Trees, as a program makes them. -/
import Derived.Test.YtpapcnogbmjpjaaGreatDoorK8
import Derived.LaidEql
import Derived.MapKept
import Derived.Laws.StructEq
namespace Go.Proofs.YtpapcnogbmjpjaaGreatDoor
open Go.RowKit
set_option maxRecDepth 100000
set_option linter.unusedSimpArgs false
set_option linter.unusedVariables false
attribute [local go_sem] Oper.semAt_some

/-- where a list of Kids lies, and how long it is -/
abbrev Key := Option (Nat × Nat) × Nat
def ptrK (p : Option (Nat × Nat)) : Value := .pointer (p.map fun q => ⟨q.1, q.2, none⟩)
def kV (k : Key) : Value := .agg #[ptrK k.1, .int .i64 k.2]
/-- its row is one that a program made, and bears no mark -/
def PlainK (w : World) (k : Key) : Prop := ∀ p, k.1 = some p → ∃ cs t, w.heap[p.1]? = some (.cells cs t (0, 0))
theorem PlainK.nil (w : World) : PlainK w (none, 0) := fun p h => by cases h
theorem run_ptr_eq (w : World) (d : Nat) (p q : Option (Nat × Nat)) (n m : Nat) (hp : PlainK w (p, n)) (hq : PlainK w (q, m)) : (Op.equalIn (d + 1) 120 (ptrK p) (ptrK q)).run Tryz.prog w = .ok (decide (p = q)) w := by
  have hu := Tryz.underlying120
  cases p with
  | none => cases q with
    | none => simp [ptrK, Op.equalIn, run_underlying hu]
    | some q => simp [ptrK, Op.equalIn, run_underlying hu]
  | some p => cases q with
    | none => simp [ptrK, Op.equalIn, run_underlying hu]
    | some q =>
      obtain ⟨cs, t, h1⟩ := hp p rfl
      obtain ⟨cs', t', h2⟩ := hq q rfl
      have hz : ∃ j, Tryz.prog.info? 32 = some j ∧ j.size ≠ 0 := ⟨_, rfl, by decide⟩
      obtain ⟨j, hj, hs⟩ := hz
      by_cases e : p = q
      · subst e
        simp [ptrK, Op.equalIn, run_underlying hu, sizeOf, typeInfo, hj, hs, run_sameAddr_same]
      · have hne : (⟨p.1, p.2, none⟩ : Addr) ≠ ⟨q.1, q.2, none⟩ := fun x => e (by cases p; cases q; simp at x; simp [x])
        simp [ptrK, Op.equalIn, run_underlying hu, sizeOf, typeInfo, hj, hs, run_sameAddr_other w hne h1 h2, e]
theorem run_key_eq (w : World) (j k : Key) (hj : PlainK w j) (hk : PlainK w k) : (Op.equal 122 (kV j) (kV k)).run Tryz.prog w = .ok (decide (j = k)) w := by
  obtain ⟨p, n⟩ := j
  obtain ⟨q, m⟩ := k
  have hS : Tryz.prog.underlying 122 = some (.struct (Tryz.prog.fieldsOf 122)) := by kernel_rfl
  have h1 := run_ptr_eq w 9998 p q n m hj hk
  have h2 := run_equalIn_int (P := Tryz.prog) w 9998 3 .i64 .i64 n m Tryz.underlying3
  show (Op.equalIn (9999 + 1) 122 (.agg #[ptrK p, .int .i64 n]) (.agg #[ptrK q, .int .i64 m])).run Tryz.prog w = _
  rw [run_equalIn_agg w 9999 122 _ _ hS (by kernel_rfl)]
  simp only [Program.fieldsOf, Tryz.underlying122]
  have aP := Tryz.isAgg120
  have aI := Tryz.isAgg3
  have zP := Tryz.sizeOf120
  have zI := Tryz.sizeOf3
  simp only [Op.eqFields]
  generalize hA : ptrK p = A at h1 ⊢
  generalize hB : ptrK q = B at h1 ⊢
  go_simp
  by_cases e : p = q <;> by_cases e2 : n = m <;> simp [e, e2]
  all_goals omega
/-- a map's entries -/
def entsL : Nat → List (Key × Int) → List MapEntry
  | _, [] => []
  | i, p :: E => { key := kV p.1, val := .int .i64 p.2, born := i } :: entsL (i + 1) E
def MapAt (w : World) (m : Nat) (E : List (Key × Int)) : Prop := w.heap[m]? = some (.map (entsL 0 E).toArray E.length) ∧ ∀ p ∈ E, PlainK w p.1
def findL (k : Key) : Nat → List (Key × Int) → Option (Nat × Int)
  | _, [] => none
  | i, p :: E => if k = p.1 then some (i, p.2) else findL k (i + 1) E
theorem run_asking (w : World) (k : Key) (hk : PlainK w k) : ∀ (E : List (Key × Int)) (i j : Nat), (∀ p ∈ E, PlainK w p.1) →
    (Instr.findAsking 122 (kV k) (entsL j E) i).run Tryz.prog w = .ok ((findL k i E).map fun x => (x.1, .int .i64 x.2)) w := by
  intro E
  induction E with
  | nil => intro i j _; simp [entsL, findL, Instr.findAsking]
  | cons p E ih =>
    intro i j h
    have hq := run_key_eq w k p.1 hk (h p (by simp))
    simp only [entsL, findL, Instr.findAsking, Sem.run_bind, hq, Result.andThen_ok]
    by_cases e : k = p.1
    · simp [e]
    · simp only [e, decide_false, Bool.false_eq_true, if_false]
      exact ih (i + 1) (j + 1) (fun q hq => h q (by simp [hq]))
theorem run_find (w : World) (k : Key) (hk : PlainK w k) (E : List (Key × Int)) (h : ∀ p ∈ E, PlainK w p.1) :
    (Instr.findKey 122 (kV k) (entsL 0 E)).run Tryz.prog w = .ok ((findL k 0 E).map fun x => (x.1, .int .i64 x.2)) w := by
  cases E with
  | nil => simp [Instr.findKey, entsL, findL, Instr.findNow, run_underlying Tryz.underlying122]
  | cons p E =>
    simp only [Instr.findKey, Sem.run_bind, run_underlying Tryz.underlying122, Result.andThen_ok]
    simp only [entsL, Instr.findNow, Instr.sameNow, kV]
    exact run_asking w k hk (p :: E) 0 0 h
theorem run_check (w : World) (k : Key) (b : Bool) : (Instr.checkKey b 10000 122 (kV k)).run Tryz.prog w = .ok () w := by
  obtain ⟨p, n⟩ := k
  have aP := Tryz.isAgg120
  have aI := Tryz.isAgg3
  have zP := Tryz.sizeOf120
  have zI := Tryz.sizeOf3
  have hu := Tryz.underlying122
  have hP := Tryz.underlying120
  have hI := Tryz.underlying3
  show (Instr.checkKey b (9998 + 1 + 1) 122 (.agg #[ptrK p, .int .i64 n])).run Tryz.prog w = _
  rw [Instr.checkKey]
  simp only [Sem.run_bind, run_underlying hu, Result.andThen_ok]
  generalize hA : ptrK p = A
  have hx : ∀ w, (Instr.checkKey b (9998 + 1) 120 A).run Tryz.prog w = .ok () w := by
    intro w
    subst hA
    rw [Instr.checkKey]
    simp [run_underlying hP, ptrK]
  have hy : ∀ w, (Instr.checkKey b (9998 + 1) 3 (.int .i64 n)).run Tryz.prog w = .ok () w := by
    intro w
    rw [Instr.checkKey]
    simp [run_underlying hI]
  rw [← Array.forIn_toList]
  simp only [List.forIn_cons, List.forIn_nil]
  go_simp
  try simp [hx, hy]
/-- what is told of a key -/
def valL (k : Key) (E : List (Key × Int)) : Option Int := (findL k 0 E).map (·.2)
theorem run_look (w : World) (m : Nat) (k : Key) (hk : PlainK w k) (E : List (Key × Int)) (h : MapAt w m E) :
    (Instr.lookup 117 (.map (some m)) (kV k) true).run Tryz.prog w = .ok (.tuple #[.int .i64 ((valL k E).getD 0), .bool (valL k E).isSome]) w := by
  obtain ⟨h1, h2⟩ := h
  have hz : (zeroValue 3).run Tryz.prog w = .ok (.int .i64 0) w := by first | rfl | kernel_rfl | go_simp
  simp only [Instr.lookup, Sem.run_bind, run_underlying Tryz.underlying117, Result.andThen_ok]
  simp only [MapKept.run_getObj_map h1, Sem.run_bind, Sem.run_pure, Result.andThen_ok, run_check]
  rw [run_find w k hk E h2]
  unfold valL
  cases e : findL k 0 E with
  | none => simp [hz]
  | some x => simp
/-- what is written -/
def putL (k : Key) (v : Int) : List (Key × Int) → List (Key × Int)
  | [] => [(k, v)]
  | p :: E => if k = p.1 then (k, v) :: E else p :: putL k v E
theorem putL_plain {w : World} {k : Key} {v : Int} (hk : PlainK w k) : ∀ {E : List (Key × Int)}, (∀ p ∈ E, PlainK w p.1) → ∀ p ∈ putL k v E, PlainK w p.1 := by
  intro E
  induction E with
  | nil => intro _ p hp; simp [putL] at hp; subst hp; exact hk
  | cons q E ih =>
    intro h p hp
    unfold putL at hp
    by_cases e : k = q.1
    · rw [if_pos e] at hp
      rcases List.mem_cons.1 hp with rfl | hp
      · exact hk
      · exact h p (by simp [hp])
    · rw [if_neg e] at hp
      rcases List.mem_cons.1 hp with rfl | hp
      · exact h p (by simp)
      · exact ih (fun q hq => h q (by simp [hq])) p hp
theorem putL_none {k : Key} {v : Int} : ∀ {E : List (Key × Int)} {i j : Nat}, findL k i E = none → entsL j (putL k v E) = entsL j E ++ [{ key := kV k, val := .int .i64 v, born := j + E.length }] ∧ (putL k v E).length = E.length + 1 := by
  intro E
  induction E with
  | nil => intro i j _; simp [putL, entsL]
  | cons q E ih =>
    intro i j h
    unfold findL at h
    by_cases e : k = q.1
    · rw [if_pos e] at h; cases h
    · rw [if_neg e] at h
      obtain ⟨h1, h2⟩ := ih (j := j + 1) h
      simp [putL, e, entsL, h1, h2, Nat.add_comm, Nat.add_left_comm]
theorem putL_some {k : Key} {v : Int} : ∀ {E : List (Key × Int)} {i j n : Nat} {x : Int}, findL k i E = some (n, x) → i ≤ n ∧ (entsL j E)[n - i]? = some { key := kV k, val := .int .i64 x, born := j + (n - i) } ∧
    entsL j (putL k v E) = (entsL j E).modify (n - i) (fun e => { e with key := kV k, val := .int .i64 v }) ∧ (putL k v E).length = E.length := by
  intro E
  induction E with
  | nil => intro i j n x h; cases h
  | cons q E ih =>
    intro i j n x h
    unfold findL at h
    by_cases e : k = q.1
    · rw [if_pos e] at h
      simp only [Option.some.injEq, Prod.mk.injEq] at h
      obtain ⟨rfl, rfl⟩ := h
      subst e
      simp [putL, entsL]
    · rw [if_neg e] at h
      obtain ⟨h0, h1, h2, h3⟩ := ih (j := j + 1) h
      have hn : n - i = (n - (i + 1)) + 1 := by omega
      refine ⟨by omega, ?_, ?_, ?_⟩
      · rw [hn]
        simp only [entsL, List.getElem?_cons_succ, h1]
        simp; omega
      · rw [hn]
        simp [putL, e, entsL, h2]
      · simp [putL, e, h3]
theorem bits_key (k : Key) : Instr.sameBits 10000 (kV k) (kV k) = true := by
  obtain ⟨p, n⟩ := k
  show Instr.sameBits (9999 + 1) (.agg #[ptrK p, .int .i64 n]) (.agg #[ptrK p, .int .i64 n]) = true
  simp [Instr.sameBits, ptrK]
theorem run_update (w : World) (m : Nat) (k : Key) (hk : PlainK w k) (v : Int) (E : List (Key × Int)) (h : MapAt w m E) :
    (Instr.mapUpdate 117 (.map (some m)) (kV k) (.int .i64 v)).run Tryz.prog w = .ok () { w with heap := w.heap.setIfInBounds m (.map (entsL 0 (putL k v E)).toArray (putL k v E).length) } := by
  obtain ⟨h1, h2⟩ := h
  simp only [Instr.mapUpdate, Sem.run_bind, run_underlying Tryz.underlying117, Result.andThen_ok]
  simp only [MapKept.run_getObj_map h1, Sem.run_bind, Sem.run_pure, Result.andThen_ok, run_check]
  rw [run_find w k hk E h2]
  cases e : findL k 0 E with
  | none =>
    obtain ⟨g1, g2⟩ := putL_none (v := v) (j := 0) e
    simp only [Option.map_none, Result.andThen_ok, MapKept.run_setObj_map _ h1]
    rw [g1, g2]
    simp
  | some x =>
    obtain ⟨n, x⟩ := x
    obtain ⟨_, g1, g2, g3⟩ := putL_some (v := v) (j := 0) e
    simp only [Nat.sub_zero] at g1 g2
    simp only [Option.map_some, Result.andThen_ok, Sem.run_bind, List.getElem?_toArray, g1, Option.map_some, Option.getD_some, Instr.keyThatStays, bits_key, if_true, Sem.run_pure, MapKept.run_setObj_map _ h1]
    rw [g2, g3]
    simp
theorem run_entry (w : World) (m : Nat) (k : Key) (hk : PlainK w k) (E : List (Key × Int)) (h : MapAt w m E) :
    (Instr.mapEntry 117 (.map (some m)) (kV k)).run Tryz.prog w = .ok (.tuple #[.int .i64 ((valL k E).getD 0), goInt ((((findL k 0 E).map (·.1)).getD E.length : Nat) : Int)]) { w with heap := w.heap.setIfInBounds m (.map (entsL 0 (putL k ((valL k E).getD 0) E)).toArray (putL k ((valL k E).getD 0) E).length) } := by
  obtain ⟨h1, h2⟩ := h
  have hz : (zeroValue 3).run Tryz.prog w = .ok (.int .i64 0) w := by first | rfl | kernel_rfl | go_simp
  simp only [Instr.mapEntry, Sem.run_bind, run_underlying Tryz.underlying117, Result.andThen_ok]
  simp only [MapKept.run_getObj_map h1, Sem.run_bind, Sem.run_pure, Result.andThen_ok, run_check]
  rw [run_find w k hk E h2]
  unfold valL
  cases e : findL k 0 E with
  | none =>
    obtain ⟨g1, g2⟩ := putL_none (v := 0) (j := 0) e
    simp only [Option.map_none, Result.andThen_ok, Sem.run_bind, hz, MapKept.run_setObj_map _ h1, Sem.run_pure, Option.getD_none]
    rw [g1, g2]
    simp
  | some x =>
    obtain ⟨n, x⟩ := x
    obtain ⟨_, g1, g2, g3⟩ := putL_some (v := x) (j := 0) e
    simp only [Nat.sub_zero] at g1 g2
    simp only [Option.map_some, Result.andThen_ok, Sem.run_bind, List.getElem?_toArray, g1, Option.map_some, Option.getD_some, Instr.keyThatStays, bits_key, if_true, Sem.run_pure, MapKept.run_setObj_map _ h1]
    rw [g2, g3]
    have : (entsL 0 E).modify n (fun e => { e with key := kV k, val := .int .i64 x }) = (entsL 0 E).modify n (fun e => { e with key := kV k }) := by
      apply List.ext_getElem?
      intro i
      simp only [List.getElem?_modify]
      by_cases hi : n = i
      · subst hi
        simp [g1]
      · simp [hi]
    rw [this]
    simp
theorem putL_same {k : Key} : ∀ {E : List (Key × Int)} {i n : Nat} {x : Int}, findL k i E = some (n, x) → putL k x E = E := by
  intro E
  induction E with
  | nil => intro i n x h; cases h
  | cons q E ih =>
    intro i n x h
    unfold findL at h
    by_cases e : k = q.1
    · rw [if_pos e] at h
      simp only [Option.some.injEq, Prod.mk.injEq] at h
      obtain ⟨rfl, rfl⟩ := h
      subst e
      simp [putL]
    · rw [if_neg e] at h
      simp [putL, e, ih h]
theorem findL_put (k : Key) (v : Int) : ∀ (E : List (Key × Int)) (i : Nat), findL k i (putL k v E) = some (((findL k i E).map (·.1)).getD (i + E.length), v) := by
  intro E
  induction E with
  | nil => intro i; simp [putL, findL]
  | cons q E ih =>
    intro i
    by_cases e : k = q.1
    · subst e; simp [putL, findL]
    · simp only [putL, e, if_false, findL, ih (i + 1), List.length_cons]
      cases findL k (i + 1) E with
      | none => simp; omega
      | some x => simp
theorem findL_other {j k : Key} (hj : j ≠ k) (v : Int) : ∀ (E : List (Key × Int)) (i : Nat), (findL j i (putL k v E)).map (·.2) = (findL j i E).map (·.2) := by
  intro E
  induction E with
  | nil => intro i; simp [putL, findL, hj]
  | cons q E ih =>
    intro i
    by_cases e : k = q.1
    · subst e
      simp [putL, findL, hj]
    · simp only [putL, e, if_false, findL]
      by_cases e2 : j = q.1
      · simp [e2]
      · simp only [e2, if_false]
        exact ih (i + 1)
theorem putL_twice (k : Key) (u v : Int) : ∀ (E : List (Key × Int)), putL k u (putL k v E) = putL k u E := by
  intro E
  induction E with
  | nil => simp [putL]
  | cons q E ih =>
    by_cases e : k = q.1
    · subst e; simp [putL]
    · simp [putL, e, ih]
theorem valL_put (k : Key) (v : Int) (E : List (Key × Int)) : valL k (putL k v E) = some v := by
  unfold valL
  rw [findL_put]
  rfl
theorem valL_other {j k : Key} (hj : j ≠ k) (v : Int) (E : List (Key × Int)) : valL j (putL k v E) = valL j E := findL_other hj v E 0
theorem born_idx : ∀ (E : List (Key × Int)) (j n : Nat), n < E.length → (entsL j E).findIdx? (fun e => (e.born : Int) == ((j + n : Nat) : Int)) = some n := by
  intro E
  induction E with
  | nil => intro j n h; exact absurd h (Nat.not_lt_zero _)
  | cons q E ih =>
    intro j n h
    cases n with
    | zero => simp [entsL, List.findIdx?_cons]
    | succ n =>
      have hne : (((j : Nat) : Int) == ((j + (n + 1) : Nat) : Int)) = false := by simp; omega
      have h3 := ih (j + 1) n (by simpa using h)
      rw [show j + 1 + n = j + (n + 1) by omega] at h3
      simp only [entsL, List.findIdx?_cons, hne, h3]
      simp
theorem findL_lt {k : Key} : ∀ {E : List (Key × Int)} {i n : Nat} {x : Int}, findL k i E = some (n, x) → n < i + E.length := by
  intro E
  induction E with
  | nil => intro i n x h; cases h
  | cons q E ih =>
    intro i n x h
    unfold findL at h
    by_cases e : k = q.1
    · rw [if_pos e] at h
      simp only [Option.some.injEq, Prod.mk.injEq] at h
      simp; omega
    · rw [if_neg e] at h
      have := ih h
      simp; omega
theorem run_store (w : World) (m : Nat) (k : Key) (v : Int) (E : List (Key × Int)) (h : MapAt w m E) (n : Nat) (x : Int) (hf : findL k 0 E = some (n, x)) :
    (Instr.entryStore 117 (.map (some m)) (goInt (n : Int)) (.int .i64 v)).run Tryz.prog w = .ok () { w with heap := w.heap.setIfInBounds m (.map (entsL 0 (putL k v E)).toArray (putL k v E).length) } := by
  obtain ⟨h1, h2⟩ := h
  obtain ⟨_, g1, g2, g3⟩ := putL_some (v := v) (j := 0) hf
  simp only [Nat.sub_zero] at g1 g2
  have hb := born_idx E 0 n (by simpa using findL_lt hf)
  rw [Nat.zero_add] at hb
  simp only [Instr.entryStore, Sem.run_bind, MapKept.run_getObj_map h1, Result.andThen_ok]
  have ha : (asInt (goInt (n : Int))).run Tryz.prog w = .ok (n : Int) w := by first | rfl | go_simp | (simp [asInt, asIntOf, goInt])
  simp only [ha, Result.andThen_ok, List.findIdx?_toArray, hb, MapKept.run_setObj_map _ h1]
  rw [g2, g3]
  have : (entsL 0 E).modify n (fun e => { e with key := kV k, val := .int .i64 v }) = (entsL 0 E).modify n (fun e => { e with val := .int .i64 v }) := by
    apply List.ext_getElem?
    intro i
    simp only [List.getElem?_modify]
    by_cases hi : n = i
    · subst hi
      simp [g1]
    · simp [hi]
  rw [this]
  simp
theorem PlainK.keeps {w w' : World} {m : Nat} (hm : ∀ cs t, w.heap[m]? ≠ some (.cells cs t (0, 0))) (hw : Chg m w w') {k : Key} (h : PlainK w k) : PlainK w' k := fun p hp => by
  obtain ⟨cs, t, h1⟩ := h p hp
  exact ⟨cs, t, (hw.heap (heapLt h1) (fun e => hm cs t (e ▸ h1))).trans h1⟩
theorem PlainK.on {w w' : World} {k : Key} (h : PlainK w k) (hb : Below w.heap.size w w') : PlainK w' k := fun p hp => by
  obtain ⟨cs, t, h1⟩ := h p hp
  exact ⟨cs, t, heap_on hb h1⟩
theorem MapAt.lt {w : World} {m : Nat} {E : List (Key × Int)} (h : MapAt w m E) : m < w.heap.size := heapLt h.1
theorem MapAt.not {w : World} {m : Nat} {E : List (Key × Int)} (h : MapAt w m E) : ∀ cs t, w.heap[m]? ≠ some (.cells cs t (0, 0)) := fun cs t e => by
  rw [h.1] at e; cases e
theorem MapAt.on {w w' : World} {m : Nat} {E : List (Key × Int)} (h : MapAt w m E) (hb : Below w.heap.size w w') : MapAt w' m E := ⟨heap_on hb h.1, fun p hp => (h.2 p hp).on hb⟩
/-- the world behind a write -/
def putW (w : World) (m : Nat) (E : List (Key × Int)) : World := { w with heap := w.heap.setIfInBounds m (.map (entsL 0 E).toArray E.length) }
theorem putW_chg (w : World) (m : Nat) (E : List (Key × Int)) : Chg m w (putW w m E) :=
  ⟨rfl, rfl, rfl, by unfold putW; simp, fun k _ hr => by
    unfold putW
    have : m ≠ k := fun e => hr (by rw [e])
    simp [Array.getElem?_setIfInBounds, this]⟩
theorem MapAt.put {w : World} {m : Nat} {E : List (Key × Int)} (h : MapAt w m E) {k : Key} (hk : PlainK w k) (v : Int) : MapAt (putW w m (putL k v E)) m (putL k v E) :=
  ⟨by unfold putW; simp [Array.getElem?_setIfInBounds, h.lt], fun p hp => (putL_plain hk h.2 p hp).keeps h.not (putW_chg _ _ _)⟩
end Go.Proofs.YtpapcnogbmjpjaaGreatDoor

namespace Go.Proofs.YtpapcnogbmjpjaaGreatDoor
open Go.RowKit
set_option maxRecDepth 100000
set_option linter.unusedSimpArgs false
set_option linter.unusedVariables false
attribute [local go_sem] Oper.semAt_some

/-- a tree: Kind, N, Field, Filters as they lie, the row of its Kids, how many it has room for, the Kids -/
inductive Tr where
  | mk (kind n : Int) (field : ByteArray) (fA : Option Addr) (fn fc : Nat) (kb kc : Nat) (kids : List Tr)
namespace Tr
def kids : Tr → List Tr | mk _ _ _ _ _ _ _ _ ks => ks
def kind : Tr → Int | mk k _ _ _ _ _ _ _ _ => k
def num : Tr → Int | mk _ n _ _ _ _ _ _ _ => n
end Tr
/-- a list of Kids, as it is held -/
def kidsV (kb kc : Nat) (ks : List Tr) : Value := match ks with | [] => .slice none 0 0 | _ :: _ => .slice (some ⟨kb, 0, none⟩) ks.length kc
def keyOf (kb : Nat) (ks : List Tr) : Key := match ks with | [] => (none, 0) | _ :: _ => (some (kb, 0), ks.length)
def exC : Tr → List Value | .mk k n f fA fn fc kb kc ks => [.int .i64 k, .int .i64 n, .string f, .slice fA fn fc, kidsV kb kc ks]
def exCs (l : List Tr) : List Value := l.flatMap exC
theorem exC_len (t : Tr) : (exC t).length = 5 := by cases t; rfl
theorem exCs_len : ∀ l : List Tr, (exCs l).length = 5 * l.length := by
  intro l
  induction l with
  | nil => rfl
  | cons t l ih =>
    have : exCs (t :: l) = exC t ++ exCs l := rfl
    rw [this, List.length_append, exC_len, ih, List.length_cons]
    omega
theorem exCs_at : ∀ (l : List Tr) (i : Nat) (h : i < l.length) (j : Nat), j < 5 → (exCs l)[5 * i + j]? = (exC l[i])[j]? := by
  intro l
  induction l with
  | nil => intro i h; exact absurd h (Nat.not_lt_zero _)
  | cons t l ih =>
    intro i h j hj
    have e : exCs (t :: l) = exC t ++ exCs l := rfl
    cases i with
    | zero =>
      rw [e, Nat.mul_zero, Nat.zero_add, List.getElem?_append_left (by rw [exC_len]; exact hj)]
      rfl
    | succ i =>
      rw [e, List.getElem?_append_right (by rw [exC_len]; omega), exC_len, show 5 * (i + 1) + j - 5 = 5 * i + j by omega]
      exact ih i (by simpa using h) j hj
/-- a row of trees, from a block's start on -/
def RowTr (w : World) (kb : Nat) (l : List Tr) : Prop := ∃ cs : Array Value, w.heap[kb]? = some (.cells cs 32 (0, 0)) ∧ ∀ (j : Nat) (v : Value), (exCs l)[j]? = some v → cs[j]? = some v
theorem RowTr.on {w w' : World} {kb : Nat} {l : List Tr} (h : RowTr w kb l) (hw : w'.heap[kb]? = w.heap[kb]?) : RowTr w' kb l := by
  obtain ⟨cs, h1, h2⟩ := h
  exact ⟨cs, hw.trans h1, h2⟩
theorem RowTr.lt {w : World} {kb : Nat} {l : List Tr} (h : RowTr w kb l) : kb < w.heap.size := by
  obtain ⟨cs, h1, h2⟩ := h
  exact heapLt h1
theorem RowTr.cells {w : World} {kb : Nat} {l : List Tr} (h : RowTr w kb l) (i : Nat) (hi : i < l.length) : ∀ (j : Nat) (v : Value), (exC l[i])[j]? = some v → w.cell? ⟨kb, 5 * i + j, none⟩ = some v := fun j v hv => by
  obtain ⟨cs, h1, h2⟩ := h
  have hj : j < 5 := by
    have := (List.getElem?_eq_some_iff.1 hv).1
    rw [exC_len] at this
    exact this
  exact cell_of_row w kb _ _ _ _ h1 |>.trans (h2 _ _ ((exCs_at l i hi j hj).trans hv))
mutual
  /-- how deep -/
  def dep : Tr → Nat | .mk _ _ _ _ _ _ _ _ ks => 1 + depL ks
  def depL : List Tr → Nat | [] => 0 | t :: ts => max (dep t) (depL ts)
end
mutual
  /-- where its Kids' rows lie -/
  def bT : Tr → List Nat | .mk _ _ _ _ _ _ kb _ ks => bK kb ks (bL ks)
  def bL : List Tr → List Nat | [] => [] | t :: ts => bT t ++ bL ts
  def bK (kb : Nat) : List Tr → List Nat → List Nat | [], _ => [] | _ :: _, l => kb :: l
end
mutual
  /-- how it lies -/
  def AtT (w : World) : Tr → Prop | .mk _ _ _ _ _ _ kb kc ks => AtL w ks ∧ (ks ≠ [] → RowTr w kb ks ∧ ks.length ≤ kc ∧ kc ≤ maxLen)
  def AtL (w : World) : List Tr → Prop | [] => True | t :: ts => AtT w t ∧ AtL w ts
end
mutual
  theorem AtT.on {w w' : World} : ∀ (t : Tr), AtT w t → (∀ k ∈ bT t, w'.heap[k]? = w.heap[k]?) → w.heap.size ≤ w'.heap.size → AtT w' t
    | .mk _ _ _ _ _ _ kb kc ks, h, hw, hs => by
      unfold AtT at h ⊢
      refine ⟨AtL.on ks h.1 (fun k hk => ?_) hs, fun hn => ?_⟩
      · refine hw k ?_
        unfold bT
        cases ks with
        | nil => simp [bL] at hk
        | cons a b => simp [bK, hk]
      · refine ⟨(h.2 hn).1.on (hw kb ?_), (h.2 hn).2⟩
        unfold bT
        cases ks with
        | nil => exact absurd rfl hn
        | cons a b => simp [bK]
  theorem AtL.on {w w' : World} : ∀ (l : List Tr), AtL w l → (∀ k ∈ bL l, w'.heap[k]? = w.heap[k]?) → w.heap.size ≤ w'.heap.size → AtL w' l
    | [], _, _, _ => by unfold AtL; trivial
    | t :: ts, h, hw, hs => by
      unfold AtL at h ⊢
      exact ⟨AtT.on t h.1 (fun k hk => hw k (by unfold bL; simp [hk])) hs, AtL.on ts h.2 (fun k hk => hw k (by unfold bL; simp [hk])) hs⟩
end
mutual
  theorem AtT.lt {w : World} : ∀ (t : Tr), AtT w t → ∀ k ∈ bT t, k < w.heap.size
    | .mk _ _ _ _ _ _ kb kc ks, h, k, hk => by
      unfold AtT at h
      unfold bT at hk
      cases hks : ks with
      | nil => rw [hks] at hk; simp [bK] at hk
      | cons a b =>
        rw [hks] at hk
        rcases List.mem_cons.1 hk with rfl | hk
        · exact (h.2 (by rw [hks]; simp)).1.lt
        · exact AtL.lt ks h.1 k (by rw [hks]; exact hk)
  theorem AtL.lt {w : World} : ∀ (l : List Tr), AtL w l → ∀ k ∈ bL l, k < w.heap.size
    | [], _, k, hk => by unfold bL at hk; cases hk
    | t :: ts, h, k, hk => by
      unfold AtL at h
      unfold bL at hk
      rcases List.mem_append.1 hk with hk | hk
      · exact AtT.lt t h.1 k hk
      · exact AtL.lt ts h.2 k hk
end
theorem AtL.at_ {w : World} : ∀ {l : List Tr}, AtL w l → ∀ t ∈ l, AtT w t := by
  intro l
  induction l with
  | nil => intro _ t ht; cases ht
  | cons a l ih =>
    intro h t ht
    unfold AtL at h
    rcases List.mem_cons.1 ht with rfl | ht
    · exact h.1
    · exact ih h.2 t ht
theorem list_info : (Tryz.prog.info? 122).map (·.size) = some 2 := by kernel_rfl
theorem expr_info : (Tryz.prog.info? 32).map (·.size) = some 5 := by kernel_rfl
set_option maxHeartbeats 1000000 in
/-- where Kids lie, told -/
theorem code_listOf (kb kc : Nat) (ks : List Tr) (hm : ks.length ≤ maxLen) (w : World) : Calls Tryz.prog 88 #[kidsV kb kc ks] w fun e w' => e = .returned (kV (keyOf kb ks)) ∧ Below w.heap.size w w' := by
  have H0 := Lib.hid (heap_alloc_new w (.cells #[.pointer none, .int .i64 0] 122))
  have hzz := Tryz.sizeOf32
  cases ks with
  | nil =>
    have HBF := Lib.hid (box_row w #[.pointer none, .int .i64 0] #[.pointer none, .int .i64 0] 122 rfl)
    unfold kidsV keyOf kV ptrK
    go_enter Tryz.func88, Tryz.ntmps88
    go_wp2_with ((with_reducible refine wpList_store_row (o := ⟨none, _, _, _, _, _⟩) 122 ?b0 (.tmp 2) (.tmp 6) ?b1 w.heap.size ?b2 [.pointer none, .int .i64 0] ?b3 ?b4 ?b5 #[.pointer none, .int .i64 0] ?b6 122 ?b7 ?_); (case b0 => rfl); (case b1 => rfl); (case b2 => rfl); (case b3 => exact list_info); (case b4 => simp [Value.oneCell']); (case b5 => rfl); (case b6 => rfl); (case b7 => exact H0.out); (try simp only [Act.put]); refine Stop.out ?_)
    unfold Stop
    generalize World.setRow _ _ _ = w9 at HBF ⊢
    obtain ⟨g, hg⟩ : ∃ g, g = w.heap.size := ⟨_, rfl⟩
    rw [← hg] at HBF ⊢
    go_wp2
    exact bodyPost_ret (results_cell_row Tryz.results88 _ _ g 122 #[.pointer none, .int .i64 0] (0, 0) _ rfl HBF.out.2 Tryz.underlying122 rfl list_info) rfl ⟨rfl, hg ▸ HBF.out.1⟩
  | cons t ts =>
    unfold maxLen at hm
    simp only [List.length_cons] at hm
    have HBF := Lib.hid (box_row w #[.pointer none, .int .i64 0] #[.pointer (some ⟨kb, 0, none⟩), .int .i64 ((ts.length : Int) + 1)] 122 rfl)
    have hq : (((ts.length : Int) + 1) == 0) = false := by simp; omega
    have hl0 : (0 : Int) < (ts.length : Int) + 1 := by omega
    have hkk : kV (keyOf kb (t :: ts)) = .agg #[.pointer (some ⟨kb, 0, none⟩), .int .i64 ((ts.length : Int) + 1)] := rfl
    rw [hkk]
    unfold kidsV
    simp only [List.length_cons]
    go_enter Tryz.func88, Tryz.ntmps88
    go_wp2_with ((with_reducible refine wpList_store_row (o := ⟨none, _, _, _, _, _⟩) 122 ?b0 (.tmp 2) (.tmp 11) ?b1 w.heap.size ?b2 [.pointer (some ⟨kb, 0, none⟩), .int .i64 ((ts.length : Int) + 1)] ?b3 ?b4 ?b5 #[.pointer none, .int .i64 0] ?b6 122 ?b7 ?_); (case b0 => rfl); (case b1 => rfl); (case b2 => rfl); (case b3 => exact list_info); (case b4 => simp [Value.oneCell']); (case b5 => rfl); (case b6 => rfl); (case b7 => exact H0.out); (try simp only [Act.put]); refine Stop.out ?_)
    unfold Stop
    generalize World.setRow _ _ _ = w9 at HBF ⊢
    obtain ⟨g, hg⟩ : ∃ g, g = w.heap.size := ⟨_, rfl⟩
    rw [← hg] at HBF ⊢
    go_wp2
    exact bodyPost_ret (results_cell_row Tryz.results88 _ _ g 122 #[.pointer (some ⟨kb, 0, none⟩), .int .i64 ((ts.length : Int) + 1)] (0, 0) _ rfl HBF.out.2 Tryz.underlying122 rfl list_info) rfl ⟨rfl, hg ▸ HBF.out.1⟩
end Go.Proofs.YtpapcnogbmjpjaaGreatDoor
