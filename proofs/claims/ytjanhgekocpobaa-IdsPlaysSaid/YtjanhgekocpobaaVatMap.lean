/- The member states and their forms, as a table. -/
import Derived.Test.YtjanhgekocpobaaVatB
import Derived.Maps.Own
import Derived.Maps.OwnOps
import Derived.Maps.OwnSet
import Derived.Maps.Views
namespace Go.Proofs.Ytjanhgekocpobaa
open Go.RowKit Go.Maps
set_option maxRecDepth 1000000

/-- the member states' forms -/
def tabL : List (ByteArray × List ByteArray) := [
  (⟨#[65, 84]⟩, [⟨#[85, 57, 57, 57, 57, 57, 57, 57, 57]⟩]),
  (⟨#[66, 69]⟩, [⟨#[48, 57, 57, 57, 57, 57, 57, 57, 57, 57]⟩, ⟨#[49, 57, 57, 57, 57, 57, 57, 57, 57, 57]⟩]),
  (⟨#[66, 71]⟩, [⟨#[57, 57, 57, 57, 57, 57, 57, 57, 57]⟩, ⟨#[57, 57, 57, 57, 57, 57, 57, 57, 57, 57]⟩]),
  (⟨#[67, 89]⟩, [⟨#[57, 57, 57, 57, 57, 57, 57, 57, 65]⟩]),
  (⟨#[67, 90]⟩, [⟨#[57, 57, 57, 57, 57, 57, 57, 57]⟩, ⟨#[57, 57, 57, 57, 57, 57, 57, 57, 57]⟩, ⟨#[57, 57, 57, 57, 57, 57, 57, 57, 57, 57]⟩]),
  (⟨#[68, 69]⟩, [⟨#[57, 57, 57, 57, 57, 57, 57, 57, 57]⟩]),
  (⟨#[68, 75]⟩, [⟨#[57, 57, 57, 57, 57, 57, 57, 57]⟩]),
  (⟨#[69, 69]⟩, [⟨#[57, 57, 57, 57, 57, 57, 57, 57, 57]⟩]),
  (⟨#[69, 76]⟩, [⟨#[57, 57, 57, 57, 57, 57, 57, 57, 57]⟩]),
  (⟨#[69, 83]⟩, [⟨#[88, 57, 57, 57, 57, 57, 57, 57, 88]⟩]),
  (⟨#[70, 73]⟩, [⟨#[57, 57, 57, 57, 57, 57, 57, 57]⟩]),
  (⟨#[70, 82]⟩, [⟨#[88, 88, 57, 57, 57, 57, 57, 57, 57, 57, 57]⟩]),
  (⟨#[72, 82]⟩, [⟨#[57, 57, 57, 57, 57, 57, 57, 57, 57, 57, 57]⟩]),
  (⟨#[72, 85]⟩, [⟨#[57, 57, 57, 57, 57, 57, 57, 57]⟩]),
  (⟨#[73, 69]⟩, [⟨#[57, 43, 57, 57, 57, 57, 57, 65]⟩, ⟨#[57, 57, 57, 57, 57, 57, 57, 65, 65]⟩]),
  (⟨#[73, 84]⟩, [⟨#[57, 57, 57, 57, 57, 57, 57, 57, 57, 57, 57]⟩]),
  (⟨#[76, 84]⟩, [⟨#[57, 57, 57, 57, 57, 57, 57, 57, 57]⟩, ⟨#[57, 57, 57, 57, 57, 57, 57, 57, 57, 57, 57, 57]⟩]),
  (⟨#[76, 85]⟩, [⟨#[57, 57, 57, 57, 57, 57, 57, 57]⟩]),
  (⟨#[76, 86]⟩, [⟨#[57, 57, 57, 57, 57, 57, 57, 57, 57, 57, 57]⟩]),
  (⟨#[77, 84]⟩, [⟨#[57, 57, 57, 57, 57, 57, 57, 57]⟩]),
  (⟨#[78, 76]⟩, [⟨#[57, 57, 57, 57, 57, 57, 57, 57, 57, 66, 57, 57]⟩]),
  (⟨#[80, 76]⟩, [⟨#[57, 57, 57, 57, 57, 57, 57, 57, 57, 57]⟩]),
  (⟨#[80, 84]⟩, [⟨#[57, 57, 57, 57, 57, 57, 57, 57, 57]⟩]),
  (⟨#[82, 79]⟩, [⟨#[57, 57]⟩, ⟨#[57, 57, 57]⟩, ⟨#[57, 57, 57, 57]⟩, ⟨#[57, 57, 57, 57, 57]⟩, ⟨#[57, 57, 57, 57, 57, 57]⟩, ⟨#[57, 57, 57, 57, 57, 57, 57]⟩, ⟨#[57, 57, 57, 57, 57, 57, 57, 57]⟩, ⟨#[57, 57, 57, 57, 57, 57, 57, 57, 57]⟩, ⟨#[57, 57, 57, 57, 57, 57, 57, 57, 57, 57]⟩]),
  (⟨#[83, 69]⟩, [⟨#[57, 57, 57, 57, 57, 57, 57, 57, 57, 57, 57, 57]⟩]),
  (⟨#[83, 73]⟩, [⟨#[57, 57, 57, 57, 57, 57, 57, 57]⟩]),
  (⟨#[83, 75]⟩, [⟨#[57, 57, 57, 57, 57, 57, 57, 57, 57, 57]⟩])]
/-- what stands at a key so far: the key, its forms, the block of these -/
structure Ent where
  k : ByteArray
  l : List ByteArray
  g : Nat
def rdS : Value → Option (DataW Unit × List MemPlace)
  | .slice none 0 0 => some (.nil, [])
  | .slice (some ⟨g, 0, none⟩) n c => some (.agg [.lit (.int .i64 g), .lit (.int .i64 n), .lit (.int .i64 c)], [])
  | _ => none
def encE (e : Ent) : DataW Unit := .agg [.lit (.int .i64 e.g), .lit (.int .i64 e.l.length), .lit (.int .i64 e.l.length)]
def datE (E : List Ent) : DataW Unit := E.foldl (fun D e => D.put (.string e.k.data.toList) (encE e)) (.map [])
theorem rdS_inv {v : Value} {e : Ent} {ps : List MemPlace} (h : rdS v = some (encE e, ps)) : v = .slice (some ⟨e.g, 0, none⟩) e.l.length e.l.length := by
  unfold rdS at h
  split at h
  · simp [encE] at h
  · rename_i g n c
    injection h with h
    injection h with h _
    simp [encE] at h
    obtain ⟨h1, h2, h3⟩ := h
    have h1' : g = e.g := by omega
    have h2' : n = e.l.length := by omega
    have h3' : c = e.l.length := by omega
    subst h1' h2' h3'
    rfl
  · cases h
theorem rdS_nil {v : Value} {ps : List MemPlace} (h : rdS v = some (.nil, ps)) : v = .slice none 0 0 := by
  unfold rdS at h
  split at h
  · rfl
  · injection h with h
    injection h with h _
    cases h
  · cases h
theorem datE_map (E : List Ent) : IsMap (datE E) := by
  unfold datE
  suffices h : ∀ D : DataW Unit, IsMap D → IsMap (E.foldl (fun D e => D.put (.string e.k.data.toList) (encE e)) D) from h _ isMap_empty
  induction E with
  | nil => exact fun _ h => h
  | cons e E ih => exact fun D h => ih _ (h.put _ _)
theorem datE_snoc (E : List Ent) (e : Ent) : datE (E ++ [e]) = (datE E).put (.string e.k.data.toList) (encE e) := by
  unfold datE; rw [List.foldl_append]; rfl
theorem str_eq {a b : ByteArray} : a.data.toList = b.data.toList → a = b := by
  obtain ⟨⟨l⟩⟩ := a
  obtain ⟨⟨m⟩⟩ := b
  intro h
  have : l = m := h
  rw [this]
theorem datE_none (c : ByteArray) : ∀ E : List Ent, (∀ e ∈ E, e.k ≠ c) → (datE E).atKey (.string c.data.toList) .nil = .nil := by
  intro E
  suffices h : ∀ (E : List Ent) (D : DataW Unit), (∀ e ∈ E, e.k ≠ c) → (E.foldl (fun D e => D.put (.string e.k.data.toList) (encE e)) D).atKey (.string c.data.toList) .nil = D.atKey (.string c.data.toList) .nil from fun h2 => h E _ h2
  intro E
  induction E with
  | nil => exact fun _ _ => rfl
  | cons e E ih =>
    intro D h
    rw [List.foldl_cons, ih _ (fun x hx => h x (List.mem_cons_of_mem _ hx))]
    refine atKey_put_other (fun hq => ?_) _ _
    injection hq with hq
    exact h e (List.mem_cons_self ..) (str_eq hq.symm)
theorem datE_some (e : Ent) : ∀ E : List Ent, e ∈ E → (E.map (·.k)).Nodup → (datE E).atKey (.string e.k.data.toList) .nil = encE e := by
  intro E
  suffices h : ∀ (E : List Ent) (D : DataW Unit), IsMap D → e ∈ E → (E.map (·.k)).Nodup → (E.foldl (fun D e => D.put (.string e.k.data.toList) (encE e)) D).atKey (.string e.k.data.toList) .nil = encE e from fun h1 h2 => h E _ isMap_empty h1 h2
  intro E
  induction E with
  | nil => intro D _ h; simp at h
  | cons x E ih =>
    intro D hD hm hn
    rw [List.map_cons, List.nodup_cons] at hn
    rw [List.foldl_cons]
    rcases List.mem_cons.1 hm with rfl | hm
    · have h2 : ∀ y ∈ E, y.k ≠ e.k := fun y hy hq => hn.1 (by rw [← hq]; exact List.mem_map_of_mem hy)
      have h3 : ∀ (E : List Ent) (D : DataW Unit), (∀ y ∈ E, y.k ≠ e.k) → (E.foldl (fun D e => D.put (.string e.k.data.toList) (encE e)) D).atKey (.string e.k.data.toList) .nil = D.atKey (.string e.k.data.toList) .nil := by
        intro E
        induction E with
        | nil => exact fun _ _ => rfl
        | cons z E ih2 =>
          intro D h
          rw [List.foldl_cons, ih2 _ (fun x hx => h x (List.mem_cons_of_mem _ hx))]
          refine atKey_put_other (fun hq => ?_) _ _
          injection hq with hq
          exact h z (List.mem_cons_self ..) (str_eq hq.symm)
      rw [h3 E _ h2]
      exact atKey_put_same hD (by simp [WideAt.IsKeyLit]) _ _
    · exact ih _ (hD.put _ _) hm hn.2

/-- the map so far -/
def TabI (w0 : World) (b : Nat) (E : List Ent) (w : World) : Prop :=
  w.ownsMap Try.prog 9 rdS b E.length (datE E) ∧ (∀ e ∈ E, e.g ≠ b ∧ w.heap[e.g]? = some (.cells (e.l.map .string).toArray 9 (0, 0))) ∧ Below w0.heap.size w0 w ∧ w0.heap.size ≤ b
theorem tab_size : ∀ p ∈ tabL, p.1.size ≤ maxLen := by
  have h : ∀ p ∈ tabL, p.1.size ≤ 2 := by decide +kernel
  intro p hp
  have := h p hp
  unfold maxLen; omega
theorem key_law : Keyed Try.prog 9 := string_keyed Try.underlying9
theorem tab_made (w : World) : TabI w w.heap.size [] (w.alloc (.map #[] 0)) :=
  ⟨World.ownsMap_made _ _ _ _, fun e he => by simp at he, (Below.refl _ _).alloc (Nat.le_refl _) _, Nat.le_refl _⟩
theorem wpList_insert_tab {w0 w : World} {ops : Array Oper} {rest : List Oper} {o : Oper} {a : Act} {Q : Exit → Act → World → Prop}
    (hg : o.guard = none) (m x v : Operand) (hop : o.op = Op.insert 46 m x v) (b : Nat) (E : List Ent) (hm : a.eval m = .map (some b)) (wb : World) (cs : Array Value) (hw : w = wb.alloc (.cells cs 9)) (hE : TabI w0 b E wb)
    (key : ByteArray) (l : List ByteArray) (hk : key.size ≤ maxLen) (hn : E.length < maxLen) (hx : a.eval x = .string key) (hcs : cs = (l.map .string).toArray) (g : Nat) (hgq : wb.heap.size = g) (hv : a.eval v = .slice (some ⟨g, 0, none⟩) l.length l.length)
    (hK : ∀ w', TabI w0 b (E ++ [⟨key, l, wb.heap.size⟩]) w' → wpList Try.prog ops Q rest (a.put o.dst undef) w') :
    wpList Try.prog ops Q (o :: rest) a w := by
  obtain ⟨h1, h2, h3, h4⟩ := hE
  subst hw hcs hgq
  have hlt := h1.lt
  refine wpList_plain hg fun K' hK' => ?_
  obtain ⟨w', hrun, r1, r2⟩ := (h1.alloc (.cells (l.map .string).toArray 9)).update (e := 33) key_law Try.underlying46 hn (Go.WideMaps.keyOf_string_mk Try.underlying9 hk) (val := .slice (some ⟨wb.heap.size, 0, none⟩) l.length l.length) (d := encE ⟨key, l, wb.heap.size⟩) (ps := []) rfl
  unfold Oper.wp
  simp [execOp, hop, hm, hx, hv, hrun, Result.andThen]
  refine hK' _ _ (hK w' ⟨?_, fun e he => ?_, ?_, h4⟩)
  · rw [datE_snoc, List.length_append]; exact r1
  · rcases List.mem_append.1 he with he | he
    · obtain ⟨e1, e2⟩ := h2 e he
      refine ⟨e1, ?_⟩
      have hl := (Array.getElem?_eq_some_iff.1 e2).1
      rw [r2.block e.g (by simp; omega) (by simp; exact e1)]
      rw [((Below.refl wb.heap.size wb).alloc (Nat.le_refl _) _).block e.g hl]
      exact e2
    · rcases List.mem_singleton.1 he with rfl
      refine ⟨by simp; omega, ?_⟩
      rw [r2.block _ (by simp) (by simp; omega)]
      exact heap_alloc_new wb _
  · exact (h3.alloc h3.size _).grown r2 (by simp; have := h3.size; omega) (fun k hk => by simp at hk; omega)
end Go.Proofs.Ytjanhgekocpobaa
