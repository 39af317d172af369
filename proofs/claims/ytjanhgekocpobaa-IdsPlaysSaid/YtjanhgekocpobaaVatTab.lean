/- The program's own table of forms, as it is made. -/
import Derived.Test.YtjanhgekocpobaaVatMap
namespace Go.Proofs.Ytjanhgekocpobaa
open Go.RowKit Go.Maps
set_option maxRecDepth 1000000

def partsOf (l : List ByteArray) : List (Nat × Operand) := l.mapIdx fun i s => (i, Operand.const (.string s))
/-- two operations an entry, then the map is told -/
def tabM : List (ByteArray × List ByteArray) → List Oper → Nat → Prop
  | (k, l) :: t, o1 :: o2 :: r, d => (o1.guard = none ∧ o1.dst = some d ∧ o1.op = .buildSlice 33 l.length (partsOf l).toArray) ∧ (o2.guard = none ∧ o2.dst = none ∧ o2.op = .insert 46 (.tmp 1) (.const (.string k)) (.tmp d)) ∧ tabM t r (d + 1)
  | [], [o1, o2], d => (o1.guard = none ∧ o1.dst = some d ∧ o1.op = .move (.tmp 1)) ∧ (o2.guard = none ∧ o2.dst = some 0 ∧ o2.op = .assign (.tmp d))
  | _, _, _ => False

theorem build_run (a : Act) (w : World) : ∀ l : List ByteArray, l.length = 1 ∨ l.length = 2 ∨ l.length = 3 ∨ l.length = 9 → (Instr.buildSlice 33 l.length ((partsOf l).toArray.map fun x => (x.1, a.eval x.2))).run Try.prog w = .ok (.slice (some ⟨w.heap.size, 0, none⟩) l.length l.length) (w.alloc (.cells (l.map .string).toArray 9))
  | [], h => by simp at h
  | [s0], _ => by kernel_rfl
  | [s0, s1], _ => by kernel_rfl
  | [s0, s1, s2], _ => by kernel_rfl
  | [_, _, _, _], h => by simp at h
  | [_, _, _, _, _], h => by simp at h
  | [_, _, _, _, _, _], h => by simp at h
  | [_, _, _, _, _, _, _], h => by simp at h
  | [_, _, _, _, _, _, _, _], h => by simp at h
  | [s0, s1, s2, s3, s4, s5, s6, s7, s8], _ => by kernel_rfl
  | _ :: _ :: _ :: _ :: _ :: _ :: _ :: _ :: _ :: _ :: _, h => by simp at h
theorem wpList_tab_end {Q : Exit → Act → World → Prop} {ops : Array Oper} {a : Act} {w : World} {r : List Oper} {d : Nat} {v : Value} (hM : tabM [] r d) (h1 : a.tmps[1]? = some v) (hd : 2 ≤ d) (hs : d < a.tmps.size)
    (hK : ∀ a', a'.tmps.getD 0 undef = v → a'.defers = a.defers → Q .normal a' w) : wpList Try.prog ops Q r a w := by
  rcases r with _ | ⟨o1, _ | ⟨o2, _ | ⟨o3, r⟩⟩⟩
  · exact absurd hM (by simp [tabM])
  · exact absurd hM (by simp [tabM])
  · obtain ⟨⟨g1, d1, p1⟩, g2, d2, p2⟩ := hM
    refine wpList_plain g1 fun K hK1 => ?_
    unfold Oper.wp
    simp only [execOp, p1, Act.eval]
    refine hK1 _ _ (wpList_plain g2 fun K2 hK2 => ?_)
    unfold Oper.wp
    simp only [execOp, p2, Act.eval]
    refine hK2 _ _ (wpList_nil (hK _ ?_ ?_))
    · have h3 : (a.tmps.setIfInBounds d (a.tmps.getD 1 undef)).getD d undef = v := by
        rw [Array.getD_eq_getD_getElem?, Array.getElem?_setIfInBounds_self_of_lt hs, Array.getD_eq_getD_getElem?, h1]; rfl
      simp only [Act.put, d1, d2]
      rw [h3, Array.getD_eq_getD_getElem?, Array.getElem?_setIfInBounds_self_of_lt (by rw [Array.size_setIfInBounds]; omega)]; rfl
    · simp [Act.put, d1, d2]
  · exact absurd hM (by simp [tabM])

theorem wpList_tab (TT : List (ByteArray × List ByteArray)) (hTT : TT.length < maxLen ∧ ∀ p ∈ TT, p.1.size ≤ maxLen ∧ (p.2.length = 1 ∨ p.2.length = 2 ∨ p.2.length = 3 ∨ p.2.length = 9)) {Q : Exit → Act → World → Prop} {ops : Array Oper} {w0 : World} {b : Nat} (t : List (ByteArray × List ByteArray)) : ∀ (r : List Oper) (d : Nat) (E : List Ent) (a : Act) (w : World), tabM t r d → E.map (fun e => (e.k, e.l)) ++ t = TT → TabI w0 b E w →
    a.tmps[1]? = some (.map (some b)) → 2 ≤ d → d + t.length < a.tmps.size →
    (∀ (E' : List Ent) a' w', E'.map (fun e => (e.k, e.l)) = TT → TabI w0 b E' w' → a'.tmps.getD 0 undef = .map (some b) → a'.defers = a.defers → Q .normal a' w') → wpList Try.prog ops Q r a w := by
  induction t with
  | nil =>
    intro r d E a w hM hE hT h1 hd hs hK
    exact wpList_tab_end hM h1 hd (by simpa using hs) fun a' h2 h3 => hK E a' w (by simpa using hE) hT h2 h3
  | cons p t ih =>
    obtain ⟨k, l⟩ := p
    intro r d E a w hM hE hT h1 hd hs hK
    rcases r with _ | ⟨o1, _ | ⟨o2, r⟩⟩
    · exact absurd hM (by simp [tabM])
    · exact absurd hM (by simp [tabM])
    · obtain ⟨⟨g1, d1, p1⟩, ⟨g2, d2, p2⟩, hM⟩ := hM
      obtain ⟨hk, hl⟩ := hTT.2 (k, l) (by rw [← hE]; simp)
      have hn : E.length < maxLen := by
        have h5 : TT.length = E.length + (t.length + 1) := by rw [← hE]; simp
        have := hTT.1
        omega
      have h2 : (a.tmps.setIfInBounds d (.slice (some ⟨w.heap.size, 0, none⟩) l.length l.length))[1]? = some (.map (some b)) := by
        rw [Array.getElem?_setIfInBounds_ne (by omega)]; exact h1
      have h3 : (a.tmps.setIfInBounds d (.slice (some ⟨w.heap.size, 0, none⟩) l.length l.length))[d]? = some (.slice (some ⟨w.heap.size, 0, none⟩) l.length l.length) := by
        rw [Array.getElem?_setIfInBounds_self_of_lt (by simp only [List.length_cons] at hs; omega)]
      refine wpList_plain g1 fun K hK1 => ?_
      have hb := build_run a w l hl
      unfold Oper.wp
      simp only [execOp, p1, Sem.run_bind, hb, Result.andThen_ok, Sem.run_pure]
      refine hK1 _ _ ?_
      refine wpList_insert_tab (w0 := w0) g2 (.tmp 1) (.const (.string k)) (.tmp d) p2 b E ?_ w _ rfl hT k l hk hn rfl rfl _ rfl ?_ fun w' hT' => ?_
      · simp only [Act.put, d1, Act.eval, Array.getD_eq_getD_getElem?, h2]; rfl
      · simp only [Act.put, d1, Act.eval, Array.getD_eq_getD_getElem?, h3]; rfl
      · refine ih r (d + 1) (E ++ [⟨k, l, w.heap.size⟩]) _ w' hM ?_ hT' ?_ (by omega) ?_ fun E' a' w2 k1 k2 k3 k4 => hK E' a' w2 k1 k2 k3 ?_
        · rw [List.map_append, List.append_assoc]; exact hE
        · simp only [Act.put, d1, d2]; exact h2
        · simp only [Act.put, d1, d2, Array.size_setIfInBounds]; simp only [List.length_cons] at hs; omega
        · rw [k4]; simp only [Act.put, d1, d2]

theorem tabL_ok : tabL.length < maxLen ∧ ∀ p ∈ tabL, p.1.size ≤ maxLen ∧ (p.2.length = 1 ∨ p.2.length = 2 ∨ p.2.length = 3 ∨ p.2.length = 9) := by
  have h27 : tabL.length = 27 := rfl
  have h : ∀ p ∈ tabL, p.1.size ≤ 2 ∧ (p.2.length = 1 ∨ p.2.length = 2 ∨ p.2.length = 3 ∨ p.2.length = 9) := by decide +kernel
  refine ⟨by unfold maxLen; omega, fun p hp => ?_⟩
  obtain ⟨h1, h2⟩ := h p hp
  exact ⟨by unfold maxLen; omega, h2⟩
set_option maxHeartbeats 1000000 in
theorem code_allForms (w : World) : Calls Try.prog 62 #[] w fun e w' => ∃ b E, e = .returned (.map (some b)) ∧ E.map (fun e => (e.k, e.l)) = tabL ∧ TabI w b E w' := by
  have hmm := @run_makeMap Try.prog
  have HT := Lib.hid (tab_made w)
  go_enter Try.func62, Try.ntmps62
  go_wp2_with (refine wpList_tab tabL tabL_ok (w0 := w) (b := w.heap.size) tabL _ 2 [] _ _ ?m1 rfl HT.out ?m2 (by omega) ?m3 ?m4)
  case m1 => repeat (first | exact ⟨⟨rfl, rfl, rfl⟩, rfl, rfl, rfl⟩ | refine ⟨⟨rfl, rfl, rfl⟩, ⟨rfl, rfl, rfl⟩, ?_⟩)
  case m3 => decide
  case m4 =>
    intro E a' w' hE hT h0 hd
    obtain ⟨tm, df⟩ := a'
    simp only at hd
    subst hd
    clear HT hmm
    go_wp2
    refine bodyPost_ret (results_tmp rfl _ _ _) rfl ?_
    exact ⟨w.heap.size, congrArg Ending.returned ((Array.getD_eq_getD_getElem? ..).trans h0), E, hE, hT⟩

/-- the forms of a country: nothing of what is no member state -/
def formsOf (c : ByteArray) : List ByteArray := match tabL.find? (fun p => decide (p.1 = c)) with
  | some p => p.2
  | none => []
theorem tabL_nodup : (tabL.map (·.1)).Nodup := by decide +kernel
theorem tabL_small : ∀ p ∈ tabL, ∀ f ∈ p.2, f.size ≤ 1000 := by decide +kernel
theorem formsOf_none {c : ByteArray} (h : ∀ p ∈ tabL, p.1 ≠ c) : formsOf c = [] := by
  unfold formsOf
  rw [List.find?_eq_none.2 (fun p hp => by simpa using h p hp)]
theorem find_key {c : ByteArray} {l : List ByteArray} : ∀ T : List (ByteArray × List ByteArray), (T.map (·.1)).Nodup → (c, l) ∈ T → T.find? (fun p => decide (p.1 = c)) = some (c, l) := by
  intro T
  induction T with
  | nil => intro _ h; simp at h
  | cons p T ih =>
    intro hn hm
    rw [List.map_cons, List.nodup_cons] at hn
    rcases List.mem_cons.1 hm with rfl | hm
    · rw [List.find?_cons_of_pos (by simp)]
    · have : p.1 ≠ c := fun e => hn.1 (by rw [e]; exact List.mem_map_of_mem (f := (·.1)) hm)
      rw [List.find?_cons_of_neg (by simpa using this)]
      exact ih hn.2 hm
theorem formsOf_some {c : ByteArray} {l : List ByteArray} (h : (c, l) ∈ tabL) : formsOf c = l := by
  unfold formsOf
  rw [find_key tabL tabL_nodup h]

theorem tab_look {w0 w : World} {b : Nat} {E : List Ent} (h : TabI w0 b E w) (hE : E.map (fun e => (e.k, e.l)) = tabL) (c : ByteArray) (hc : c.size ≤ maxLen) :
    ∃ A n, (Instr.lookup 46 (.map (some b)) (.string c) false).run Try.prog w = .ok (.slice A (formsOf c).length n) w ∧ Strs w A (formsOf c) := by
  obtain ⟨h1, h2, h3, h4⟩ := h
  obtain ⟨v, ps, hr, hv⟩ := h1.lookup (e := 33) key_law Try.underlying46 (z := .slice none 0 0) (by kernel_rfl) (zd := .nil) (zp := []) rfl (WideMaps.keyOf_string_mk Try.underlying9 hc)
  by_cases hm : ∃ e ∈ E, e.k = c
  · obtain ⟨e, he, rfl⟩ := hm
    have hnd : (E.map (·.k)).Nodup := by
      have := tabL_nodup
      rw [← hE, List.map_map] at this
      exact this
    rw [datE_some e E he hnd] at hv
    have hv2 := rdS_inv hv
    subst hv2
    have hmem : (e.k, e.l) ∈ tabL := by rw [← hE]; exact List.mem_map_of_mem (f := fun e : Ent => (e.k, e.l)) he
    rw [formsOf_some hmem]
    refine ⟨_, _, hr, fun i hi => ?_⟩
    obtain ⟨h5, h6⟩ := h2 e he
    have hg := (Array.getElem?_eq_some_iff.1 h6).1
    refine ⟨_, rfl, hg, ?_, tabL_small _ hmem _ (List.getElem_mem hi)⟩
    have h7 : (⟨e.g, 0, none⟩ : Addr).add i = ⟨e.g, i, none⟩ := by
      unfold Addr.add
      by_cases h0 : i = 0
      · subst h0; simp
      · rw [if_neg h0]; simp
    rw [h7, cell_of_row w e.g i _ _ _ h6]
    simp [hi]
  · have hne : ∀ e ∈ E, e.k ≠ c := fun e he hq => hm ⟨e, he, hq⟩
    rw [datE_none c E hne] at hv
    have hv2 := rdS_nil hv
    subst hv2
    have hf : formsOf c = [] := formsOf_none (fun p hp => by
      rw [← hE] at hp
      obtain ⟨e, he, rfl⟩ := List.mem_map.1 hp
      exact hne e he)
    rw [hf]
    exact ⟨none, 0, hr, fun i hi => by simp at hi⟩

/-- a list of texts told -/
def ToldL (w : World) (L : List ByteArray) (e : Ending) (w' : World) : Prop := ∃ A n, e = .returned (.slice A L.length n) ∧ Strs w' A L ∧ Below w.heap.size w w'
theorem code_forms (c : ByteArray) (w : World) (hc : c.size ≤ maxLen) : Calls Try.prog 53 #[.string c] w (ToldL w (formsOf c)) := by
  have HA := Lib.hid (code_allForms w)
  have HL : Hid (∀ b E w', E.map (fun e => (e.k, e.l)) = tabL → TabI w b E w' → ∃ A n, (Instr.lookup 46 (.map (some b)) (.string c) false).run Try.prog w' = .ok (.slice A (formsOf c).length n) w' ∧ Strs w' A (formsOf c)) := Lib.hid (fun b E w' h1 h2 => tab_look h2 h1 c hc)
  clear hc
  go_enter Try.func53, Try.ntmps53
  go_wp2_with (go_at_call 62; refine HA.out.mono ?_; rintro e w1 ⟨b, E, rfl, hE, hT⟩; have HB1 := Lib.hid hT.2.2.1; obtain ⟨A, n, hr, hs⟩ := HL.out b E w1 hE hT; have HS := Lib.hid hs; clear hE hT hs)
  go_ret
  exact ⟨A, n, rfl, HS.out, HB1.out⟩
end Go.Proofs.Ytjanhgekocpobaa
