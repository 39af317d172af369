/- Documents that are there: the credits that refer to each. -/
import Derived.Test.YtfjecohokmelfaaIdG
import Derived.Maps.AppendAt
namespace Go.Proofs.Ytfjecohokmelfaa
open Go.RowKit
set_option maxRecDepth 100000
set_option linter.unusedSimpArgs false
set_option linter.unusedVariables false

/-- how a row of names reads: where it lies -/
def crR (v : Value) : Option (DataW Unit × List MemPlace) :=
  match v with
  | .slice A n k => match adrL A with
    | some x => some (.agg ([.lit (.int .i64 (n : Nat)), .lit (.int .i64 (k : Nat))] ++ x), [])
    | none => none
  | _ => none
def crD (v : Value) : DataW Unit := match crR v with | some x => x.1 | none => .nil
def CrV (v : Value) : Prop := v = .slice none 0 0 ∨ ∃ g n k, v = .slice (some ⟨g, 0, none⟩) n k
theorem crR_val {v : Value} (h : CrV v) : crR v = some (crD v, []) := by
  have : ∃ x, crR v = some (x, []) := by
    rcases h with rfl | ⟨g, n, k, rfl⟩
    · exact ⟨_, rfl⟩
    · exact ⟨_, rfl⟩
  obtain ⟨x, hx⟩ := this
  unfold crD
  rw [hx]
theorem crR_inj {v u : Value} {x y : DataW Unit × List MemPlace} (h : crR v = some x) (h' : crR u = some y) (e : x.1 = y.1) : v = u := by
  unfold crR at h h'
  split at h
  · split at h
    · rename_i X hX
      split at h'
      · split at h'
        · rename_i Y hY
          cases h
          cases h'
          simp only [DataW.agg.injEq, List.cons_append, List.nil_append, List.cons.injEq, DataW.lit.injEq, Lit.int.injEq, true_and] at e
          obtain ⟨e1, e2, e3⟩ := e
          have f1 := Int.ofNat_inj.1 e1
          have f2 := Int.ofNat_inj.1 e2
          subst e3
          have f3 := adrL_inv hX hY
          subst f1 f2 f3
          rfl
        · cases h'
      · cases h'
    · cases h
  · cases h
theorem crR_inv {v u : Value} {ps : List MemPlace} (hu : CrV u) (h : crR v = some (crD u, ps)) : v = u := crR_inj h (crR_val hu) rfl
abbrev Crs := ByteArray → List ByteArray
abbrev CrsV := ByteArray → Value
open Classical in
noncomputable def updC {α : Type} (C : ByteArray → α) (s : ByteArray) (x : α) : ByteArray → α := fun s' => if s' = s then x else C s'
theorem updC_same {α : Type} {C : ByteArray → α} {s : ByteArray} {x : α} : updC C s x s = x := by
  unfold updC
  rw [if_pos rfl]
theorem updC_other {α : Type} {C : ByteArray → α} {s s' : ByteArray} {x : α} (h : ¬ s' = s) : updC C s x s' = C s' := by
  unfold updC
  rw [if_neg h]
def OwnS (w : World) (base : Nat) (v : Value) (L : List ByteArray) : Prop := w.ownsRow base 9 1 v L.length (L.map .string)
theorem OwnS.cr {w : World} {base : Nat} {v : Value} {L : List ByteArray} (h : OwnS w base v L) : CrV v := by
  rcases h.2 with ⟨rfl, _⟩ | ⟨g, c, cur, rfl, _⟩
  · exact .inl rfl
  · exact .inr ⟨g, _, c, rfl⟩
theorem OwnS.block {w : World} {base : Nat} {v : Value} {L : List ByteArray} (h : OwnS w base v L) {k : Nat} (hk : v.ownBlock = some k) : base ≤ k ∧ ∃ cur, w.heap[k]? = some (.cells cur 9 (0, 0)) := by
  rcases h.2 with ⟨rfl, _⟩ | ⟨g, c, cur, rfl, hB, hh, _⟩
  · cases hk
  · injection hk with hk
    subst hk
    exact ⟨hB, cur, hh⟩
theorem OwnS.grown {w w' : World} {base : Nat} {v : Value} {L : List ByteArray} {row : Option Nat} (h : OwnS w base v L) (hg : w.grownBy w' row) (hr : v = .slice none 0 0 ∨ v.ownBlock ≠ row) : OwnS w' base v L := World.ownsRow.kept h hg (hr.imp_left fun e => by rw [e]; rfl)
/-- the map of credits, and where each row lies -/
def CmAt (w : World) (base cm n : Nat) (V : CrsV) (C : Crs) : Prop :=
  (∃ D : DataW Unit, w.ownsMap Try.prog 9 crR cm n D ∧ ∀ s, okKey s → D.atKey (keyL s) (crD (.slice none 0 0)) = crD (V s)) ∧
  (∀ s, OwnS w base (V s) (C s)) ∧ (∀ s s' k, (V s).ownBlock = some k → (V s').ownBlock = some k → s = s') ∧ base ≤ cm ∧ base ≤ w.heap.size
section
variable {w w' : World} {base cm n : Nat} {V : CrsV} {C : Crs}
theorem CmAt.lt (h : CmAt w base cm n V C) : cm < w.heap.size := let ⟨⟨_, h2, _⟩, _⟩ := h; h2.lt
theorem CmAt.grown {row : Option Nat} (h : CmAt w base cm n V C) (hg : w.grownBy w' row) (hm : some cm ≠ row) (hr : ∀ s k, (V s).ownBlock = some k → some k ≠ row) : CmAt w' base cm n V C := by
  obtain ⟨⟨D, h2, h3⟩, h4, h5, h7, h8⟩ := h
  refine ⟨⟨D, h2.kept hg hm, h3⟩, fun s => (h4 s).grown hg ?_, h5, h7, Nat.le_trans h8 hg.size⟩
  rcases (h4 s).2 with ⟨e, _⟩ | ⟨g, c, cur, e, _⟩
  · exact .inl e
  · exact .inr (by
      have := hr s g (by rw [e]; rfl)
      rw [e]
      exact this)
theorem CmAt.on (h : CmAt w base cm n V C) (hb : Below w.heap.size w w') : CmAt w' base cm n V C :=
  h.grown (row := none) ⟨hb.os, hb.tape, hb.output, hb.size, fun k hk _ => hb.block k hk⟩ (by simp) (fun _ _ _ => by simp)
/-- looked up -/
theorem CmAt.look {s : ByteArray} (h : CmAt w base cm n V C) (hk : okKey s) : (Instr.lookup 46 (.map (some cm)) (.string s) false).run Try.prog w = .ok (V s) w := by
  obtain ⟨⟨D, h2, h3⟩, h4, _⟩ := h
  have hz : (zeroValue 33).run Try.prog w = .ok (.slice none 0 0) w := by kernel_rfl
  obtain ⟨v, ps, hr, hv⟩ := h2.lookup strKey Try.underlying46 hz (crR_val (.inl rfl)) (keyOk hk)
  rw [h3 s hk] at hv
  rw [crR_inv (h4 s).cr hv] at hr
  exact hr
/-- a row was grown, and is laid into the map -/
theorem CmAt.put {s x : ByteArray} {v : Value} (h : CmAt w base cm n V C) (hn : n < maxLen) (hk : okKey s) (hg : w.grownBy w' (V s).ownBlock) (hrow : OwnS w' base v (C s ++ [x])) (hat : v.ownBlock = (V s).ownBlock ∨ v.ownBlock = some w.heap.size) :
    ∃ w2, (Instr.mapUpdate 46 (.map (some cm)) (.string s) v).run Try.prog w' = .ok () w2 ∧ CmAt w2 base cm (n + 1) (updC V s v) (updC C s (C s ++ [x])) ∧ w'.grownBy w2 (some cm) ∧ ∀ k, k ≠ cm → w2.heap[k]? = w'.heap[k]? := by
  obtain ⟨⟨D, h2, h3⟩, h4, h5, h7, h8⟩ := h
  have hmap : ∀ s k, (V s).ownBlock = some k → k ≠ cm := fun s k hk e => by
    obtain ⟨_, cur, hc⟩ := (h4 s).block hk
    obtain ⟨es, clock, hb, _⟩ := h2
    rw [e, hb] at hc
    injection hc with hc
    cases hc
  have h2' := h2.kept hg (fun e => hmap s cm e.symm rfl)
  obtain ⟨w2, hr, h9, ht⟩ := h2'.store strKey Try.underlying46 hn (keyOk hk) (crR_val hrow.cr)
  have hgr := ht.grown
  have hblk : ∀ k, k ≠ cm → w2.heap[k]? = w'.heap[k]? := fun k hkb => by
    obtain ⟨es, clock, es', clock', hb, rfl⟩ := ht
    exact Go.ChangeMaps.heap_setBlock_other hb _ hkb
  have hlt := h2.lt
  have hold : ∀ s', s' ≠ s → OwnS w' base (V s') (C s') := fun s' hs => (h4 s').grown hg (by
    rcases (h4 s').2 with ⟨e, _⟩ | ⟨g, c, cur, e, _⟩
    · exact .inl e
    · refine .inr fun e2 => hs (h5 s' s g (by rw [e]; rfl) (by rw [← e2, e]; rfl)))
  have hfar : ∀ {u : Value} {L : List ByteArray}, OwnS w' base u L → OwnS w2 base u L := fun {u L} hu => hu.grown hgr (by
    rcases hu.2 with ⟨e, _⟩ | ⟨g, c, cur, e, _, hh, _⟩
    · exact .inl e
    · refine .inr fun e2 => ?_
      rw [e] at e2
      injection e2 with e2
      have e3 : g = cm := e2
      obtain ⟨es, clock, hb, _⟩ := h2'
      rw [e3, hb] at hh
      injection hh with hh
      cases hh)
  refine ⟨w2, hr, ⟨⟨_, h9, fun s' hk' => ?_⟩, fun s' => ?_, fun s1 s2 k a b => ?_, h7, Nat.le_trans h8 (Nat.le_trans hg.size hgr.size)⟩, hgr, hblk⟩
  · by_cases hs : s' = s
    · obtain rfl := hs
      rw [updC_same]
      exact Maps.atKey_put_same h2'.isMap (strKey.key (keyOk hk)) _ _
    · rw [updC_other hs]
      have hne : keyL s' ≠ keyL s := fun e => hs (keyL_inj e)
      rw [Maps.atKey_put_other hne]
      exact h3 s' hk'
  · by_cases hs : s' = s
    · obtain rfl := hs
      rw [updC_same, updC_same]
      exact hfar hrow
    · rw [updC_other hs, updC_other hs]
      exact hfar (hold s' hs)
  · have key : ∀ s', s' ≠ s → (V s').ownBlock = some k → v.ownBlock = some k → False := fun s' hs e1 e2 => by
      rcases hat with e3 | e3
      · exact hs (h5 s' s k e1 (by rw [← e3]; exact e2))
      · rw [e2] at e3
        injection e3 with e3
        obtain ⟨_, cur, hc⟩ := (h4 s').block e1
        have := heapLt hc
        omega
    by_cases hs1 : s1 = s <;> by_cases hs2 : s2 = s
    · exact hs1.trans hs2.symm
    · obtain rfl := hs1
      rw [updC_same] at a
      rw [updC_other hs2] at b
      exact (key s2 hs2 b a).elim
    · obtain rfl := hs2
      rw [updC_same] at b
      rw [updC_other hs1] at a
      exact (key s1 hs1 a b).elim
    · rw [updC_other hs1] at a
      rw [updC_other hs2] at b
      exact h5 s1 s2 k a b
end
end Go.Proofs.Ytfjecohokmelfaa
