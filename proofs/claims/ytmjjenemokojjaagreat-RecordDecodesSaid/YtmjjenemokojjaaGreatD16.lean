/- The member states and their forms, as a table. The program's own table of forms, as it is made. The document's own list, gone through: the member states. The document's reader: what its loop has as it goes. -/
import Derived.Test.YtmjjenemokojjaaGreatD5
import Derived.Maps.Own
import Derived.Maps.OwnOps
import Derived.Maps.OwnSet
import Derived.Maps.Views
import Derived.Maps.AppendAt
import Derived.Test.YtmjjenemokojjaaGreatD14
namespace Go.Proofs.YtmjjenemokojjaaGreat
open Go.RowKit Go.Maps
set_option maxRecDepth 1000000

/-- the member states' forms -/
def tabL : List (ByteArray × List ByteArray) := [
 (⟨#[65, 84]⟩, [⟨#[85, 57, 57, 57, 57, 57, 57, 57, 57]⟩]),
 (⟨#[66, 69]⟩, [⟨#[48, 57, 57, 57, 57, 57, 57, 57, 57, 57]⟩, ⟨#[49, 57, 57, 57, 57, 57, 57, 57, 57, 57]⟩]),
 (⟨#[66, 71]⟩, [⟨#[57, 57, 57, 57, 57, 57, 57, 57, 57]⟩, ⟨#[57, 57, 57, 57, 57, 57, 57, 57, 57, 57]⟩]),
 (⟨#[67, 89]⟩, [⟨#[57, 57, 57, 57, 57, 57, 57, 57, 65]⟩]),
 (⟨#[67, 90]⟩, [⟨#[57, 57, 57, 57, 57, 57, 57, 57]⟩, ⟨#[57, 57, 57, 57, 57, 57, 57, 57, 57]⟩, ⟨#[57, 57, 57, 57, 57, 57, 57, 57, 57, 57]⟩]),
 (⟨#[68, 69]⟩, [⟨#[57, 57, 57, 57, 57, 57, 57, 57, 57]⟩]),
 (⟨#[68, 75]⟩, [⟨#[57, 57, 57, 57, 57, 57, 57, 57]⟩]),
 (⟨#[69, 69]⟩, [⟨#[57, 57, 57, 57, 57, 57, 57, 57, 57]⟩]),
 (⟨#[69, 76]⟩, [⟨#[57, 57, 57, 57, 57, 57, 57, 57, 57]⟩]),
 (⟨#[69, 83]⟩, [⟨#[88, 57, 57, 57, 57, 57, 57, 57, 88]⟩]),
 (⟨#[70, 73]⟩, [⟨#[57, 57, 57, 57, 57, 57, 57, 57]⟩]),
 (⟨#[70, 82]⟩, [⟨#[88, 88, 57, 57, 57, 57, 57, 57, 57, 57, 57]⟩]),
 (⟨#[72, 82]⟩, [⟨#[57, 57, 57, 57, 57, 57, 57, 57, 57, 57, 57]⟩]),
 (⟨#[72, 85]⟩, [⟨#[57, 57, 57, 57, 57, 57, 57, 57]⟩]),
 (⟨#[73, 69]⟩, [⟨#[57, 43, 57, 57, 57, 57, 57, 65]⟩, ⟨#[57, 57, 57, 57, 57, 57, 57, 65, 65]⟩]),
 (⟨#[73, 84]⟩, [⟨#[57, 57, 57, 57, 57, 57, 57, 57, 57, 57, 57]⟩]),
 (⟨#[76, 84]⟩, [⟨#[57, 57, 57, 57, 57, 57, 57, 57, 57]⟩, ⟨#[57, 57, 57, 57, 57, 57, 57, 57, 57, 57, 57, 57]⟩]),
 (⟨#[76, 85]⟩, [⟨#[57, 57, 57, 57, 57, 57, 57, 57]⟩]),
 (⟨#[76, 86]⟩, [⟨#[57, 57, 57, 57, 57, 57, 57, 57, 57, 57, 57]⟩]),
 (⟨#[77, 84]⟩, [⟨#[57, 57, 57, 57, 57, 57, 57, 57]⟩]),
 (⟨#[78, 76]⟩, [⟨#[57, 57, 57, 57, 57, 57, 57, 57, 57, 66, 57, 57]⟩]),
 (⟨#[80, 76]⟩, [⟨#[57, 57, 57, 57, 57, 57, 57, 57, 57, 57]⟩]),
 (⟨#[80, 84]⟩, [⟨#[57, 57, 57, 57, 57, 57, 57, 57, 57]⟩]),
 (⟨#[82, 79]⟩, [⟨#[57, 57]⟩, ⟨#[57, 57, 57]⟩, ⟨#[57, 57, 57, 57]⟩, ⟨#[57, 57, 57, 57, 57]⟩, ⟨#[57, 57, 57, 57, 57, 57]⟩, ⟨#[57, 57, 57, 57, 57, 57, 57]⟩, ⟨#[57, 57, 57, 57, 57, 57, 57, 57]⟩, ⟨#[57, 57, 57, 57, 57, 57, 57, 57, 57]⟩, ⟨#[57, 57, 57, 57, 57, 57, 57, 57, 57, 57]⟩]),
 (⟨#[83, 69]⟩, [⟨#[57, 57, 57, 57, 57, 57, 57, 57, 57, 57, 57, 57]⟩]),
 (⟨#[83, 73]⟩, [⟨#[57, 57, 57, 57, 57, 57, 57, 57]⟩]),
 (⟨#[83, 75]⟩, [⟨#[57, 57, 57, 57, 57, 57, 57, 57, 57, 57]⟩])]
/-- what stands at a key so far: the key, its forms, the block of these -/
structure Ent where
 k : ByteArray
 l : List ByteArray
 g : Nat
def rdS : Value → Option (DataW Unit × List MemPlace)
 | .slice none 0 0 => some (.nil, [])
 | .slice (some ⟨g, 0, none⟩) n c => some (.agg [.lit (.int .i64 g), .lit (.int .i64 n), .lit (.int .i64 c)], [])
 | _ => none
def encE (e : Ent) : DataW Unit := .agg [.lit (.int .i64 e.g), .lit (.int .i64 e.l.length), .lit (.int .i64 e.l.length)]
def datE (E : List Ent) : DataW Unit := E.foldl (fun D e => D.put (.string e.k.data.toList) (encE e)) (.map [])
theorem rdS_inv {v : Value} {e : Ent} {ps : List MemPlace} (h : rdS v = some (encE e, ps)) : v = .slice (some ⟨e.g, 0, none⟩) e.l.length e.l.length := by
 unfold rdS at h
 split at h
 · simp [encE] at h
 · rename_i g n c
   injection h with h
   injection h with h _
   simp [encE] at h
   obtain ⟨h1, h2, h3⟩ := h
   have h1' : g = e.g := by omega
   have h2' : n = e.l.length := by omega
   have h3' : c = e.l.length := by omega
   subst h1' h2' h3'
   rfl
 · cases h
theorem rdS_nil {v : Value} {ps : List MemPlace} (h : rdS v = some (.nil, ps)) : v = .slice none 0 0 := by
 unfold rdS at h
 split at h
 · rfl
 · injection h with h
   injection h with h _
   cases h
 · cases h
theorem datE_map (E : List Ent) : IsMap (datE E) := by
 unfold datE
 suffices h : ∀ D : DataW Unit, IsMap D → IsMap (E.foldl (fun D e => D.put (.string e.k.data.toList) (encE e)) D) from h _ isMap_empty
 induction E with
 | nil => exact fun _ h => h
 | cons e E ih => exact fun D h => ih _ (h.put _ _)
theorem datE_snoc (E : List Ent) (e : Ent) : datE (E ++ [e]) = (datE E).put (.string e.k.data.toList) (encE e) := by
 unfold datE; rw [List.foldl_append]; rfl
theorem str_eq {a b : ByteArray} : a.data.toList = b.data.toList → a = b := by
 obtain ⟨⟨l⟩⟩ := a
 obtain ⟨⟨m⟩⟩ := b
 intro h
 have : l = m := h
 rw [this]
theorem datE_none (c : ByteArray) : ∀ E : List Ent, (∀ e ∈ E, e.k ≠ c) → (datE E).atKey (.string c.data.toList) .nil = .nil := by
 intro E
 suffices h : ∀ (E : List Ent) (D : DataW Unit), (∀ e ∈ E, e.k ≠ c) → (E.foldl (fun D e => D.put (.string e.k.data.toList) (encE e)) D).atKey (.string c.data.toList) .nil = D.atKey (.string c.data.toList) .nil from fun h2 => h E _ h2
 intro E
 induction E with
 | nil => exact fun _ _ => rfl
 | cons e E ih =>
   intro D h
   rw [List.foldl_cons, ih _ (fun x hx => h x (List.mem_cons_of_mem _ hx))]
   refine atKey_put_other (fun hq => ?_) _ _
   injection hq with hq
   exact h e (List.mem_cons_self ..) (str_eq hq.symm)
theorem datE_some (e : Ent) : ∀ E : List Ent, e ∈ E → (E.map (·.k)).Nodup → (datE E).atKey (.string e.k.data.toList) .nil = encE e := by
 intro E
 suffices h : ∀ (E : List Ent) (D : DataW Unit), IsMap D → e ∈ E → (E.map (·.k)).Nodup → (E.foldl (fun D e => D.put (.string e.k.data.toList) (encE e)) D).atKey (.string e.k.data.toList) .nil = encE e from fun h1 h2 => h E _ isMap_empty h1 h2
 intro E
 induction E with
 | nil => intro D _ h; simp at h
 | cons x E ih =>
   intro D hD hm hn
   rw [List.map_cons, List.nodup_cons] at hn
   rw [List.foldl_cons]
   rcases List.mem_cons.1 hm with rfl | hm
   · have h2 : ∀ y ∈ E, y.k ≠ e.k := fun y hy hq => hn.1 (by rw [← hq]; exact List.mem_map_of_mem hy)
     have h3 : ∀ (E : List Ent) (D : DataW Unit), (∀ y ∈ E, y.k ≠ e.k) → (E.foldl (fun D e => D.put (.string e.k.data.toList) (encE e)) D).atKey (.string e.k.data.toList) .nil = D.atKey (.string e.k.data.toList) .nil := by
      intro E
      induction E with
      | nil => exact fun _ _ => rfl
      | cons z E ih2 =>
        intro D h
        rw [List.foldl_cons, ih2 _ (fun x hx => h x (List.mem_cons_of_mem _ hx))]
        refine atKey_put_other (fun hq => ?_) _ _
        injection hq with hq
        exact h z (List.mem_cons_self ..) (str_eq hq.symm)
     rw [h3 E _ h2]
     exact atKey_put_same hD (by simp [WideAt.IsKeyLit]) _ _
   · exact ih _ (hD.put _ _) hm hn.2

/-- the map so far -/
def TabI (w0 : World) (b : Nat) (E : List Ent) (w : World) : Prop :=
 w.ownsMap Tryz.prog 9 rdS b E.length (datE E) ∧ (∀ e ∈ E, e.g ≠ b ∧ w.heap[e.g]? = some (.cells (e.l.map .string).toArray 9 (0, 0))) ∧ Below w0.heap.size w0 w ∧ w0.heap.size ≤ b
theorem tab_size : ∀ p ∈ tabL, p.1.size ≤ maxLen := by
 have h : ∀ p ∈ tabL, p.1.size ≤ 2 := by decide +kernel
 intro p hp
 have := h p hp
 unfold maxLen; omega
theorem key_law : Keyed Tryz.prog 9 := string_keyed Tryz.underlying9
theorem tab_made (w : World) : TabI w w.heap.size [] (w.alloc (.map #[] 0)) :=
 ⟨World.ownsMap_made _ _ _ _, fun e he => by simp at he, (Below.refl _ _).alloc (Nat.le_refl _) _, Nat.le_refl _⟩
theorem wpList_insert_tab {w0 w : World} {ops : Array Oper} {rest : List Oper} {o : Oper} {a : Act} {Q : Exit → Act → World → Prop}
 (hg : o.guard = none) (m x v : Operand) (hop : o.op = Op.insert 104 m x v) (b : Nat) (E : List Ent) (hm : a.eval m = .map (some b)) (wb : World) (cs : Array Value) (hw : w = wb.alloc (.cells cs 9)) (hE : TabI w0 b E wb)
 (key : ByteArray) (l : List ByteArray) (hk : key.size ≤ maxLen) (hn : E.length < maxLen) (hx : a.eval x = .string key) (hcs : cs = (l.map .string).toArray) (g : Nat) (hgq : wb.heap.size = g) (hv : a.eval v = .slice (some ⟨g, 0, none⟩) l.length l.length)
 (hK : ∀ w', TabI w0 b (E ++ [⟨key, l, wb.heap.size⟩]) w' → wpList Tryz.prog ops Q rest (a.put o.dst undef) w') :
 wpList Tryz.prog ops Q (o :: rest) a w := by
 obtain ⟨h1, h2, h3, h4⟩ := hE
 subst hw hcs hgq
 have hlt := h1.lt
 refine wpList_plain hg fun K' hK' => ?_
 obtain ⟨w', hrun, r1, r2⟩ := (h1.alloc (.cells (l.map .string).toArray 9)).update (e := 73) key_law Tryz.underlying104 hn (Go.WideMaps.keyOf_string_mk Tryz.underlying9 hk) (val := .slice (some ⟨wb.heap.size, 0, none⟩) l.length l.length) (d := encE ⟨key, l, wb.heap.size⟩) (ps := []) rfl
 unfold Oper.wp
 simp [execOp, hop, hm, hx, hv, hrun, Result.andThen]
 refine hK' _ _ (hK w' ⟨?_, fun e he => ?_, ?_, h4⟩)
 · rw [datE_snoc, List.length_append]; exact r1
 · rcases List.mem_append.1 he with he | he
   · obtain ⟨e1, e2⟩ := h2 e he
     refine ⟨e1, ?_⟩
     have hl := (Array.getElem?_eq_some_iff.1 e2).1
     rw [r2.block e.g (by simp; omega) (by simp; exact e1)]
     rw [((Below.refl wb.heap.size wb).alloc (Nat.le_refl _) _).block e.g hl]
     exact e2
   · rcases List.mem_singleton.1 he with rfl
     refine ⟨by simp; omega, ?_⟩
     rw [r2.block _ (by simp) (by simp; omega)]
     exact heap_alloc_new wb _
 · exact (h3.alloc h3.size _).grown r2 (by simp; have := h3.size; omega) (fun k hk => by simp at hk; omega)
end Go.Proofs.YtmjjenemokojjaaGreat

namespace Go.Proofs.YtmjjenemokojjaaGreat
open Go.RowKit Go.Maps
set_option maxRecDepth 1000000

def partsOf (l : List ByteArray) : List (Nat × Operand) := l.mapIdx fun i s => (i, Operand.const (.string s))
/-- two operations an entry, then the map is told -/
def tabM : List (ByteArray × List ByteArray) → List Oper → Nat → Prop
 | (k, l) :: t, o1 :: o2 :: r, d => (o1.guard = none ∧ o1.dst = some d ∧ o1.op = .buildSlice 73 l.length (partsOf l).toArray) ∧ (o2.guard = none ∧ o2.dst = none ∧ o2.op = .insert 104 (.tmp 1) (.const (.string k)) (.tmp d)) ∧ tabM t r (d + 1)
 | [], [o1, o2], d => (o1.guard = none ∧ o1.dst = some d ∧ o1.op = .move (.tmp 1)) ∧ (o2.guard = none ∧ o2.dst = some 0 ∧ o2.op = .assign (.tmp d))
 | _, _, _ => False

theorem build_run (a : Act) (w : World) : ∀ l : List ByteArray, l.length = 1 ∨ l.length = 2 ∨ l.length = 3 ∨ l.length = 9 → (Instr.buildSlice 73 l.length ((partsOf l).toArray.map fun x => (x.1, a.eval x.2))).run Tryz.prog w = .ok (.slice (some ⟨w.heap.size, 0, none⟩) l.length l.length) (w.alloc (.cells (l.map .string).toArray 9))
 | [], h => by simp at h
 | [s0], _ => by kernel_rfl
 | [s0, s1], _ => by kernel_rfl
 | [s0, s1, s2], _ => by kernel_rfl
 | [_, _, _, _], h => by simp at h
 | [_, _, _, _, _], h => by simp at h
 | [_, _, _, _, _, _], h => by simp at h
 | [_, _, _, _, _, _, _], h => by simp at h
 | [_, _, _, _, _, _, _, _], h => by simp at h
 | [s0, s1, s2, s3, s4, s5, s6, s7, s8], _ => by kernel_rfl
 | _ :: _ :: _ :: _ :: _ :: _ :: _ :: _ :: _ :: _ :: _, h => by simp at h
theorem wpList_tab_end {Q : Exit → Act → World → Prop} {ops : Array Oper} {a : Act} {w : World} {r : List Oper} {d : Nat} {v : Value} (hM : tabM [] r d) (h1 : a.tmps[1]? = some v) (hd : 2 ≤ d) (hs : d < a.tmps.size)
 (hK : ∀ a', a'.tmps.getD 0 undef = v → a'.defers = a.defers → Q .normal a' w) : wpList Tryz.prog ops Q r a w := by
 rcases r with _ | ⟨o1, _ | ⟨o2, _ | ⟨o3, r⟩⟩⟩
 · exact absurd hM (by simp [tabM])
 · exact absurd hM (by simp [tabM])
 · obtain ⟨⟨g1, d1, p1⟩, g2, d2, p2⟩ := hM
   refine wpList_plain g1 fun K hK1 => ?_
   unfold Oper.wp
   simp only [execOp, p1, Act.eval]
   refine hK1 _ _ (wpList_plain g2 fun K2 hK2 => ?_)
   unfold Oper.wp
   simp only [execOp, p2, Act.eval]
   refine hK2 _ _ (wpList_nil (hK _ ?_ ?_))
   · have h3 : (a.tmps.setIfInBounds d (a.tmps.getD 1 undef)).getD d undef = v := by
      rw [Array.getD_eq_getD_getElem?, Array.getElem?_setIfInBounds_self_of_lt hs, Array.getD_eq_getD_getElem?, h1]; rfl
     simp only [Act.put, d1, d2]
     rw [h3, Array.getD_eq_getD_getElem?, Array.getElem?_setIfInBounds_self_of_lt (by rw [Array.size_setIfInBounds]; omega)]; rfl
   · simp [Act.put, d1, d2]
 · exact absurd hM (by simp [tabM])

theorem wpList_tab (TT : List (ByteArray × List ByteArray)) (hTT : TT.length < maxLen ∧ ∀ p ∈ TT, p.1.size ≤ maxLen ∧ (p.2.length = 1 ∨ p.2.length = 2 ∨ p.2.length = 3 ∨ p.2.length = 9)) {Q : Exit → Act → World → Prop} {ops : Array Oper} {w0 : World} {b : Nat} (t : List (ByteArray × List ByteArray)) : ∀ (r : List Oper) (d : Nat) (E : List Ent) (a : Act) (w : World), tabM t r d → E.map (fun e => (e.k, e.l)) ++ t = TT → TabI w0 b E w →
 a.tmps[1]? = some (.map (some b)) → 2 ≤ d → d + t.length < a.tmps.size →
 (∀ (E' : List Ent) a' w', E'.map (fun e => (e.k, e.l)) = TT → TabI w0 b E' w' → a'.tmps.getD 0 undef = .map (some b) → a'.defers = a.defers → Q .normal a' w') → wpList Tryz.prog ops Q r a w := by
 induction t with
 | nil =>
   intro r d E a w hM hE hT h1 hd hs hK
   exact wpList_tab_end hM h1 hd (by simpa using hs) fun a' h2 h3 => hK E a' w (by simpa using hE) hT h2 h3
 | cons p t ih =>
   obtain ⟨k, l⟩ := p
   intro r d E a w hM hE hT h1 hd hs hK
   rcases r with _ | ⟨o1, _ | ⟨o2, r⟩⟩
   · exact absurd hM (by simp [tabM])
   · exact absurd hM (by simp [tabM])
   · obtain ⟨⟨g1, d1, p1⟩, ⟨g2, d2, p2⟩, hM⟩ := hM
     obtain ⟨hk, hl⟩ := hTT.2 (k, l) (by rw [← hE]; simp)
     have hn : E.length < maxLen := by
      have h5 : TT.length = E.length + (t.length + 1) := by rw [← hE]; simp
      have := hTT.1
      omega
     have h2 : (a.tmps.setIfInBounds d (.slice (some ⟨w.heap.size, 0, none⟩) l.length l.length))[1]? = some (.map (some b)) := by
      rw [Array.getElem?_setIfInBounds_ne (by omega)]; exact h1
     have h3 : (a.tmps.setIfInBounds d (.slice (some ⟨w.heap.size, 0, none⟩) l.length l.length))[d]? = some (.slice (some ⟨w.heap.size, 0, none⟩) l.length l.length) := by
      rw [Array.getElem?_setIfInBounds_self_of_lt (by simp only [List.length_cons] at hs; omega)]
     refine wpList_plain g1 fun K hK1 => ?_
     have hb := build_run a w l hl
     unfold Oper.wp
     simp only [execOp, p1, Sem.run_bind, hb, Result.andThen_ok, Sem.run_pure]
     refine hK1 _ _ ?_
     refine wpList_insert_tab (w0 := w0) g2 (.tmp 1) (.const (.string k)) (.tmp d) p2 b E ?_ w _ rfl hT k l hk hn rfl rfl _ rfl ?_ fun w' hT' => ?_
     · simp only [Act.put, d1, Act.eval, Array.getD_eq_getD_getElem?, h2]; rfl
     · simp only [Act.put, d1, Act.eval, Array.getD_eq_getD_getElem?, h3]; rfl
     · refine ih r (d + 1) (E ++ [⟨k, l, w.heap.size⟩]) _ w' hM ?_ hT' ?_ (by omega) ?_ fun E' a' w2 k1 k2 k3 k4 => hK E' a' w2 k1 k2 k3 ?_
       · rw [List.map_append, List.append_assoc]; exact hE
       · simp only [Act.put, d1, d2]; exact h2
       · simp only [Act.put, d1, d2, Array.size_setIfInBounds]; simp only [List.length_cons] at hs; omega
       · rw [k4]; simp only [Act.put, d1, d2]

theorem tabL_ok : tabL.length < maxLen ∧ ∀ p ∈ tabL, p.1.size ≤ maxLen ∧ (p.2.length = 1 ∨ p.2.length = 2 ∨ p.2.length = 3 ∨ p.2.length = 9) := by
 have h27 : tabL.length = 27 := rfl
 have h : ∀ p ∈ tabL, p.1.size ≤ 2 ∧ (p.2.length = 1 ∨ p.2.length = 2 ∨ p.2.length = 3 ∨ p.2.length = 9) := by decide +kernel
 refine ⟨by unfold maxLen; omega, fun p hp => ?_⟩
 obtain ⟨h1, h2⟩ := h p hp
 exact ⟨by unfold maxLen; omega, h2⟩
set_option maxHeartbeats 1000000 in
theorem code_allForms (w : World) : Calls Tryz.prog 84 #[] w fun e w' => ∃ b E, e = .returned (.map (some b)) ∧ E.map (fun e => (e.k, e.l)) = tabL ∧ TabI w b E w' := by
 have hmm := @run_makeMap Tryz.prog
 have HT := Lib.hid (tab_made w)
 go_enter Tryz.func84, Tryz.ntmps84
 go_wp2_with (refine wpList_tab tabL tabL_ok (w0 := w) (b := w.heap.size) tabL _ 2 [] _ _ ?m1 rfl HT.out ?m2 (by omega) ?m3 ?m4)
 case m1 => repeat (first | exact ⟨⟨rfl, rfl, rfl⟩, rfl, rfl, rfl⟩ | refine ⟨⟨rfl, rfl, rfl⟩, ⟨rfl, rfl, rfl⟩, ?_⟩)
 case m3 => decide
 case m4 =>
  intro E a' w' hE hT h0 hd
  obtain ⟨tm, df⟩ := a'
  simp only at hd
  subst hd
  clear HT hmm
  go_wp2
  refine bodyPost_ret (results_tmp rfl _ _ _) rfl ?_
  exact ⟨w.heap.size, congrArg Ending.returned ((Array.getD_eq_getD_getElem? ..).trans h0), E, hE, hT⟩

/-- the forms of a country: nothing of what is no member state -/
def formsOf (c : ByteArray) : List ByteArray := match tabL.find? (fun p => decide (p.1 = c)) with
 | some p => p.2
 | none => []
theorem tabL_nodup : (tabL.map (·.1)).Nodup := by decide +kernel
theorem tabL_small : ∀ p ∈ tabL, ∀ f ∈ p.2, f.size ≤ 1000 := by decide +kernel
theorem formsOf_none {c : ByteArray} (h : ∀ p ∈ tabL, p.1 ≠ c) : formsOf c = [] := by
 unfold formsOf
 rw [List.find?_eq_none.2 (fun p hp => by simpa using h p hp)]
theorem find_key {c : ByteArray} {l : List ByteArray} : ∀ T : List (ByteArray × List ByteArray), (T.map (·.1)).Nodup → (c, l) ∈ T → T.find? (fun p => decide (p.1 = c)) = some (c, l) := by
 intro T
 induction T with
 | nil => intro _ h; simp at h
 | cons p T ih =>
   intro hn hm
   rw [List.map_cons, List.nodup_cons] at hn
   rcases List.mem_cons.1 hm with rfl | hm
   · rw [List.find?_cons_of_pos (by simp)]
   · have : p.1 ≠ c := fun e => hn.1 (by rw [e]; exact List.mem_map_of_mem (f := (·.1)) hm)
     rw [List.find?_cons_of_neg (by simpa using this)]
     exact ih hn.2 hm
theorem formsOf_some {c : ByteArray} {l : List ByteArray} (h : (c, l) ∈ tabL) : formsOf c = l := by
 unfold formsOf
 rw [find_key tabL tabL_nodup h]

theorem tab_look {w0 w : World} {b : Nat} {E : List Ent} (h : TabI w0 b E w) (hE : E.map (fun e => (e.k, e.l)) = tabL) (c : ByteArray) (hc : c.size ≤ maxLen) :
 ∃ A n, (Instr.lookup 104 (.map (some b)) (.string c) false).run Tryz.prog w = .ok (.slice A (formsOf c).length n) w ∧ Strs w A (formsOf c) := by
 obtain ⟨h1, h2, h3, h4⟩ := h
 obtain ⟨v, ps, hr, hv⟩ := h1.lookup (e := 73) key_law Tryz.underlying104 (z := .slice none 0 0) (by kernel_rfl) (zd := .nil) (zp := []) rfl (WideMaps.keyOf_string_mk Tryz.underlying9 hc)
 by_cases hm : ∃ e ∈ E, e.k = c
 · obtain ⟨e, he, rfl⟩ := hm
   have hnd : (E.map (·.k)).Nodup := by
    have := tabL_nodup
    rw [← hE, List.map_map] at this
    exact this
   rw [datE_some e E he hnd] at hv
   have hv2 := rdS_inv hv
   subst hv2
   have hmem : (e.k, e.l) ∈ tabL := by rw [← hE]; exact List.mem_map_of_mem (f := fun e : Ent => (e.k, e.l)) he
   rw [formsOf_some hmem]
   refine ⟨_, _, hr, fun i hi => ?_⟩
   obtain ⟨h5, h6⟩ := h2 e he
   have hg := (Array.getElem?_eq_some_iff.1 h6).1
   refine ⟨_, rfl, hg, ?_, tabL_small _ hmem _ (List.getElem_mem hi)⟩
   have h7 : (⟨e.g, 0, none⟩ : Addr).add i = ⟨e.g, i, none⟩ := by
    unfold Addr.add
    by_cases h0 : i = 0
    · subst h0; simp
    · rw [if_neg h0]; simp
   rw [h7, cell_of_row w e.g i _ _ _ h6]
   simp [hi]
 · have hne : ∀ e ∈ E, e.k ≠ c := fun e he hq => hm ⟨e, he, hq⟩
   rw [datE_none c E hne] at hv
   have hv2 := rdS_nil hv
   subst hv2
   have hf : formsOf c = [] := formsOf_none (fun p hp => by
    rw [← hE] at hp
    obtain ⟨e, he, rfl⟩ := List.mem_map.1 hp
    exact hne e he)
   rw [hf]
   exact ⟨none, 0, hr, fun i hi => by simp at hi⟩

/-- a list of texts told -/
def ToldL (w : World) (L : List ByteArray) (e : Ending) (w' : World) : Prop := ∃ A n, e = .returned (.slice A L.length n) ∧ Strs w' A L ∧ Below w.heap.size w w'
theorem code_forms (c : ByteArray) (w : World) (hc : c.size ≤ maxLen) : Calls Tryz.prog 61 #[.string c] w (ToldL w (formsOf c)) := by
 have HA := Lib.hid (code_allForms w)
 have HL : Hid (∀ b E w', E.map (fun e => (e.k, e.l)) = tabL → TabI w b E w' → ∃ A n, (Instr.lookup 104 (.map (some b)) (.string c) false).run Tryz.prog w' = .ok (.slice A (formsOf c).length n) w' ∧ Strs w' A (formsOf c)) := Lib.hid (fun b E w' h1 h2 => tab_look h2 h1 c hc)
 clear hc
 go_enter Tryz.func61, Tryz.ntmps61
 go_wp2_with (go_at_call 84; refine HA.out.mono ?_; rintro e w1 ⟨b, E, rfl, hE, hT⟩; have HB1 := Lib.hid hT.2.2.1; obtain ⟨A, n, hr, hs⟩ := HL.out b E w1 hE hT; have HS := Lib.hid hs; clear hE hT hs)
 go_ret
 exact ⟨A, n, rfl, HS.out, HB1.out⟩
end Go.Proofs.YtmjjenemokojjaaGreat

namespace Go.Proofs.YtmjjenemokojjaaGreat
open Go.RowKit Go.Maps
set_option maxRecDepth 1000000

/-- the document's list -/
def listB : ByteArray := ({ data := #[65, 84, 32, 85, 57, 57, 57, 57, 57, 57, 57, 57, 59, 66, 69, 32, 48, 57, 57, 57, 57, 57, 57, 57, 57, 57, 32, 49, 57, 57, 57, 57, 57, 57, 57, 57, 57, 59, 66, 71, 32, 57, 57, 57, 57, 57, 57, 57, 57, 57, 32, 57, 57, 57, 57, 57, 57, 57, 57, 57, 57, 59, 67, 89, 32, 57, 57, 57, 57, 57, 57, 57, 57, 65, 59, 67, 90, 32, 57, 57, 57, 57, 57, 57, 57, 57, 32, 57, 57, 57, 57, 57, 57, 57, 57, 57, 32, 57, 57, 57, 57, 57, 57, 57, 57, 57, 57, 59, 68, 69, 32, 57, 57, 57, 57, 57, 57, 57, 57, 57, 59, 68, 75, 32, 57, 57, 57, 57, 57, 57, 57, 57, 59, 69, 69, 32, 57, 57, 57, 57, 57, 57, 57, 57, 57, 59, 69, 76, 32, 57, 57, 57, 57, 57, 57, 57, 57, 57, 59, 69, 83, 32, 88, 57, 57, 57, 57, 57, 57, 57, 88, 59, 70, 73, 32, 57, 57, 57, 57, 57, 57, 57, 57, 59, 70, 82, 32, 88, 88, 57, 57, 57, 57, 57, 57, 57, 57, 57, 59, 72, 82, 32, 57, 57, 57, 57, 57, 57, 57, 57, 57, 57, 57, 59, 72, 85, 32, 57, 57, 57, 57, 57, 57, 57, 57, 59, 73, 69, 32, 57, 43, 57, 57, 57, 57, 57, 65, 32, 57, 57, 57, 57, 57, 57, 57, 65, 65, 59, 73, 84, 32, 57, 57, 57, 57, 57, 57, 57, 57, 57, 57, 57, 59, 76, 84, 32, 57, 57, 57, 57, 57, 57, 57, 57, 57, 32, 57, 57, 57, 57, 57, 57, 57, 57, 57, 57, 57, 57, 59, 76, 85, 32, 57, 57, 57, 57, 57, 57, 57, 57, 59, 76, 86, 32, 57, 57, 57, 57, 57, 57, 57, 57, 57, 57, 57, 59, 77, 84, 32, 57, 57, 57, 57, 57, 57, 57, 57, 59, 78, 76, 32, 57, 57, 57, 57, 57, 57, 57, 57, 57, 66, 57, 57, 59, 80, 76, 32, 57, 57, 57, 57, 57, 57, 57, 57, 57, 57, 59, 80, 84, 32, 57, 57, 57, 57, 57, 57, 57, 57, 57, 59, 82, 79, 32, 57, 57, 32, 57, 57, 57, 32, 57, 57, 57, 57, 32, 57, 57, 57, 57, 57, 32, 57, 57, 57, 57, 57, 57, 32, 57, 57, 57, 57, 57, 57, 57, 32, 57, 57, 57, 57, 57, 57, 57, 57, 32, 57, 57, 57, 57, 57, 57, 57, 57, 57, 32, 57, 57, 57, 57, 57, 57, 57, 57, 57, 57, 59, 83, 69, 32, 57, 57, 57, 57, 57, 57, 57, 57, 57, 57, 57, 57, 59, 83, 73, 32, 57, 57, 57, 57, 57, 57, 57, 57, 59, 83, 75, 32, 57, 57, 57, 57, 57, 57, 57, 57, 57, 57, 59] } : ByteArray)
def listT : List UInt8 := listB.data.toList
theorem list_size : listB.size = 479 := by decide +kernel
/-- the member states from there on -/
def memF : List UInt8 → Bool → List (List UInt8)
 | [], _ => []
 | x :: r, b => (if b then [(x :: r).take 2] else []) ++ memF r (decide (x = 59))
/-- does an entry begin there -/
def begins (j : Nat) : Bool := decide (j = 0) || decide (listT.getD (j - 1) 0 = 59)
theorem begins_room : ∀ j < 479, begins j = true → j + 2 ≤ 479 := by decide +kernel
theorem mem_all : memF listT true = tabL.map (fun p => strT p.1) := by decide +kernel
theorem memF_step {j : Nat} (h : j < 479) : memF (listT.drop j) (begins j) = (if begins j then [(listT.drop j).take 2] else []) ++ memF (listT.drop (j + 1)) (begins (j + 1)) := by
 have hl : listT.length = 479 := list_size
 rw [List.drop_eq_getElem_cons (by omega), memF]
 have : begins (j + 1) = decide (listT[j] = 59) := by
  unfold begins
  rw [decide_eq_false (by omega), Bool.false_or, Nat.add_sub_cancel, List.getD_eq_getElem?_getD, List.getElem?_eq_getElem (by omega)]
  rfl
 rw [this]
 rfl
theorem own_belowS {w w' : World} {base : Nat} {v : Value} {n : Nat} {xs : List Value} (h : w.ownsRow base 9 1 v n xs) (hb : Below w.heap.size w w') : w'.ownsRow base 9 1 v n xs :=
 h.kept (row := none) ⟨hb.os, hb.tape, hb.output, hb.size, fun k hk _ => hb.block k hk⟩ (by
  rcases h.2 with ⟨rfl, _⟩ | ⟨g, c, cur, rfl, _⟩
  · exact .inl rfl
  · exact .inr (by simp [Value.ownBlock]))
theorem own_strs {w : World} {B : Nat} {v : Value} {L : List ByteArray} (h : w.ownsRow B 9 1 v L.length (L.map .string)) (hL : ∀ s ∈ L, s.size ≤ 1000) : ∃ A c, v = .slice A L.length c ∧ Strs w A L := by
 rcases h.2 with ⟨rfl, h0⟩ | ⟨g, c, cur, rfl, _, hh, hc, hm, hx⟩
 · have : L = [] := List.eq_nil_of_length_eq_zero h0
   subst this
   exact ⟨none, 0, rfl, fun i hi => by simp at hi⟩
 · refine ⟨_, c, rfl, fun i hi => ⟨_, rfl, (Array.getElem?_eq_some_iff.1 hh).1, ?_, hL _ (List.getElem_mem hi)⟩⟩
   exact h.cells (g := g) rfl i _ (by rw [List.getElem?_map, List.getElem?_eq_getElem hi]; rfl)
theorem strfact : (Tryz.prog.info? 9).map (fun i => (i.zero, i.size, i.bytes)) = some (some (.string {data:=#[]}), 1, 16) := by kernel_rfl
theorem wpList_append_str {w0 wb w : World} {ops : Array Oper} {rest : List Oper} {o : Oper} {a : Act} {Q : Exit → Act → World → Prop} (hgd : o.guard = none) (s x : Operand)
 (ho : o.op = .call { callee := .builtin .append, args := #[s, x], argTypes := #[73, 73] }) (v : Value) (L : List ByteArray) (str : ByteArray) (hs : a.eval s = v) (hown : wb.ownsRow w0.heap.size 9 1 v L.length (L.map .string))
 (hw : w = wb.alloc (.cells #[.string str] 9)) (g : Nat) (hg : wb.heap.size = g) (hx : a.eval x = .slice (some ⟨g, 0, none⟩) 1 1) (hb : Below w0.heap.size w0 wb) (hL : L.length ≤ 1000)
 (h : ∀ v' w', w'.ownsRow w0.heap.size 9 1 v' (L ++ [str]).length ((L ++ [str]).map .string) → Below w0.heap.size w0 w' → wpList Tryz.prog ops Q rest (a.put o.dst v') w') :
 wpList Tryz.prog ops Q (o :: rest) a w := by
 subst hw hg
 obtain ⟨i0, hi, hz0, hz1, hz2⟩ := info_parts strfact
 have hb1 : Below wb.heap.size wb (wb.alloc (.cells #[.string str] 9)) := (Below.refl _ _).alloc (Nat.le_refl _) _
 refine wpList_append_own_at (P := Tryz.prog) _ hgd s x 73 ho w0.heap.size 9 i0 (.string {data:=#[]}) 1 16 Tryz.underlying73 hi hz0 hz1 hz2 rfl (by decide) v L.length (L.map .string) hs (own_belowS hown hb1) ⟨wb.heap.size, 0, none⟩ 1 1 [.string str] hx rfl ?_ ?_ (by unfold maxLen; omega) (by omega) (Nat.le_trans hb.size (by simp)) fun v' w' k1 k2 _ _ => ?_
 · intro j u hu
   cases j with
   | zero =>
     simp at hu
     subst hu
     have h7 : (⟨wb.heap.size, 0, none⟩ : Addr).add 0 = ⟨wb.heap.size, 0, none⟩ := by simp [Addr.add]
     rw [h7, cell_of_row _ wb.heap.size 0 _ _ _ (heap_alloc_new wb (.cells #[.string str] 9))]
     rfl
   | succ j => simp at hu
 · intro u hu
   simp at hu
   subst hu
   rfl
 · refine h v' w' (by simpa using k1) ((hb.alloc hb.size _).grown k2 (Nat.le_trans hb.size (by simp)) fun k hk => ?_)
   exact ((own_belowS hown hb1).lt k hk).1
theorem strT_inj {a b : ByteArray} (h : strT a = strT b) : a = b := str_eq h
theorem map_inj {L M : List ByteArray} (h : L.map strT = M.map strT) : L = M := by
 induction L generalizing M with
 | nil => cases M with
   | nil => rfl
   | cons _ _ => simp at h
 | cons a L ih => cases M with
   | nil => simp at h
   | cons b M =>
     simp only [List.map_cons, List.cons.injEq] at h
     rw [strT_inj h.1, ih h.2]
theorem tab_keys : ∀ s ∈ tabL.map (·.1), s.size ≤ 1000 := by decide +kernel
theorem ext_strT (s : ByteArray) (i j : Nat) : strT (s.extract i j) = ((strT s).drop i).take (j - i) := by
 unfold strT
 rw [ByteArray.data_extract, Array.toList_extract, List.extract_eq_take_drop]
theorem ext_two (j : Nat) : strT (listB.extract j (j + 2)) = (listT.drop j).take 2 := by
 rw [ext_strT, Nat.add_sub_cancel_left]; rfl
end Go.Proofs.YtmjjenemokojjaaGreat

namespace Go.Proofs.YtmjjenemokojjaaGreat
open Go.RowKit
set_option maxRecDepth 100000
theorem val_take_le (l : Text) (k : Nat) : ∀ d : Nat, k + d ≤ l.length → Blob.val (l.take k) ≤ Blob.val (l.take (k + d)) := by
 intro d
 induction d with
 | zero => intro _; exact Nat.le_refl _
 | succ d ih =>
   intro h
   refine Nat.le_trans (ih (by omega)) ?_
   rw [← Nat.add_assoc, List.take_succ_eq_append_getElem (by omega), Blob.val_snoc]
   omega
theorem dgot_fin {w wr : World} {g : Nat} {A : Option Addr} {T : Text} {c at_ : Nat} {z v : Value} (h : Drd wr g A T c at_ false) (ho : Only w wr g) (k : Nat) (hk : k ≤ T.length) (K : Int) (hK : K = k) : DGot w g A T c z (some (v, T.drop k)) (.returned v) (wr.setCell ⟨g, 1, none⟩ (.int .i64 K)) := by
 subst hK
 obtain ⟨h1, h2⟩ := h.to k hk
 exact ⟨rfl, ho.trans h2, k, h1, rfl⟩
/-- one more byte -/
theorem val_steps {T : Text} {at_ m V : Nat} (hV : V = Blob.val ((T.drop (at_ + 1)).take m)) (hV2 : V ≤ 9223372036854775807) (hC : at_ + 1 + m ≤ T.length) :
 ∀ j, j < m → ∃ b v2 p : Nat, b ≤ 255 ∧ v2 = Blob.val ((T.drop (at_ + 1)).take (j + 1)) ∧ v2 = Blob.val ((T.drop (at_ + 1)).take j) * 256 + b ∧ (p = at_ + 1 + j ∧ v2 ≤ 9223372036854775807) ∧ (∀ h : p < T.length, T[p].toNat = b) ∧ p < T.length := by
 intro j hj
 have hl : j < (T.drop (at_ + 1)).length := by rw [List.length_drop]; omega
 have h1 := List.take_succ_eq_append_getElem hl
 refine ⟨(T.drop (at_ + 1))[j].toNat, Blob.val ((T.drop (at_ + 1)).take (j + 1)), at_ + 1 + j, ?_, rfl, ?_, ⟨rfl, ?_⟩, ?_, by omega⟩
 · have := ((T.drop (at_ + 1))[j]).toNat_lt; omega
 · rw [h1, Blob.val_snoc]
 · have := val_take_le (T.drop (at_ + 1)) (j + 1) (m - (j + 1)) (by rw [List.length_drop]; omega)
   rw [show j + 1 + (m - (j + 1)) = m by omega, ← hV] at this
   omega
 · intro h; rw [List.getElem_drop]
end Go.Proofs.YtmjjenemokojjaaGreat
