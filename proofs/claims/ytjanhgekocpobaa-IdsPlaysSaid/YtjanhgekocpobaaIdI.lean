/- Documents that are there: one is put. -/
import Derived.Test.YtjanhgekocpobaaIdH
namespace Go.Proofs.Ytjanhgekocpobaa
open Go.RowKit
set_option maxRecDepth 100000
set_option linter.unusedSimpArgs false
set_option linter.unusedVariables false
attribute [local go_sem] Oper.semAt_some

/-- a set that a call made: its box, its maps -/
structure SetAt (w : World) (base P bm cm n m : Nat) (V : CrsV) (F : Docs) (C : Crs) : Prop where
  box : w.heap[P]? = some (.cells #[.map (some bm), .map (some cm)] 48 (0, 0))
  docs : DmAt w base bm n F
  crs : CmAt w base cm m V C
  apart : bm ≠ cm
  ge : base ≤ P
theorem SetAt.on {w w' : World} {base P bm cm n m : Nat} {V : CrsV} {F : Docs} {C : Crs} (h : SetAt w base P bm cm n m V F C) (hb : Below w.heap.size w w') : SetAt w' base P bm cm n m V F C :=
  ⟨heap_on hb h.box, h.docs.on hb, h.crs.on hb, h.apart, h.ge⟩
theorem SetAt.lt {w : World} {base P bm cm n m : Nat} {V : CrsV} {F : Docs} {C : Crs} (h : SetAt w base P bm cm n m V F C) : P < w.heap.size := heapLt h.box
/-- the map of documents was written -/
theorem SetAt.docsPut {w w' : World} {base P bm cm n n' m : Nat} {V : CrsV} {F F' : Docs} {C : Crs} (h : SetAt w base P bm cm n m V F C) (hd : DmAt w' base bm n' F') (hg : w.grownBy w' (some bm)) (hblk : ∀ k, k ≠ bm → w'.heap[k]? = w.heap[k]?) : SetAt w' base P bm cm n' m V F' C := by
  have hmap : ∃ es clock, w.heap[bm]? = some (.map es clock) := by
    obtain ⟨⟨D, ⟨es, clock, hb, _⟩, _⟩, _⟩ := h.docs
    exact ⟨es, clock, hb⟩
  obtain ⟨es, clock, hm⟩ := hmap
  refine ⟨(hblk P fun e => ?_).trans h.box, hd, h.crs.grown hg (by have := h.apart; simp; omega) (fun s k hk e => ?_), h.apart, h.ge⟩
  · have := h.box
    rw [e, hm] at this
    injection this with this
    cases this
  · injection e with e
    obtain ⟨_, cur, hc⟩ := (h.crs.2.1 s).block hk
    rw [e, hm] at hc
    injection hc with hc
    cases hc
/-- what is neither a map nor a row of names stays as it is -/
def Still (w w' : World) : Prop := ∀ (k : Nat) (cs : Array Value) (t : TypeId), w.heap[k]? = some (Obj.cells cs t (0, 0)) → t ≠ 9 → w'.heap[k]? = some (Obj.cells cs t (0, 0))
theorem Still.of_below {w w' : World} (hb : Below w.heap.size w w') : Still w w' := fun k cs t hk _ => heap_on hb hk
theorem Still.trans {w w' w'' : World} (h : Still w w') (h' : Still w' w'') : Still w w'' := fun k cs t hk ht => h' k cs t (h k cs t hk ht) ht
theorem check_zero {F : Docs} {d : DocV} (h : checkV F d = 0) : goodB d = true ∧ F d.id = none := by
  unfold checkV at h
  split at h
  · exact absurd h (by decide)
  · rename_i hg
    split at h
    · exact absurd h (by decide)
    · rename_i ht
      refine ⟨by simpa using hg, ?_⟩
      cases hF : F d.id with
      | none => rfl
      | some x => rw [hF] at ht; exact absurd rfl ht
theorem good_lines {d : DocV} (h : goodB d = true) : d.lines ≠ [] ∧ d.lines.length ≤ 1000 := by
  unfold goodB docGood inB at h
  simp only [Bool.and_eq_true, decide_eq_true_eq] at h
  refine ⟨fun e => ?_, by omega⟩
  rw [e] at h
  have : (([] : List LineV).length : Int) = 0 := rfl
  omega
set_option maxHeartbeats 4000000 in
theorem put_no {w : World} {base P bm cm n m : Nat} {V : CrsV} {F : Docs} {C : Crs} (H : SetAt w base P bm cm n m V F C) (d : DocV) (hd : DocVOk w d) (hln : d.lines.length ≤ 140737488351232) (hM : MaxL w) (hE : checkV F d ≠ 0) : Calls Try.prog 11 #[.pointer (some ⟨P, 0, none⟩), docVal d] w fun e w' => e = .returned (.int .i64 (checkV F d)) ∧ Below w.heap.size w w' := by
  have HCk : Hid (∀ W, Below w.heap.size w W → Calls Try.prog 9 #[.pointer (some ⟨P, 0, none⟩), .agg #[.string d.id, .bool d.sale, .bool d.credit, .string d.refers, .int .i64 d.day, .string d.country, .string d.number, .string d.currency, .slice d.linesA d.lines.length d.linesC]] W fun e w' => e = .returned (.int .i64 (checkV F d)) ∧ Below W.heap.size W w') := Lib.hid (fun W hW => code_check (cells2 (H.on hW).box).1 (H.on hW).lt (H.on hW).docs d (hd.on hW) hln (hM.below hW))
  have HX1 := Lib.hid (heap_alloc_new w (.cells #[.string d.id, .bool d.sale, .bool d.credit, .string d.refers, .int .i64 d.day, .string d.country, .string d.number, .string d.currency, .slice d.linesA d.lines.length d.linesC] 29))
  have HB1 := Lib.hid (below_alloc w (.cells #[.string d.id, .bool d.sale, .bool d.credit, .string d.refers, .int .i64 d.day, .string d.country, .string d.number, .string d.currency, .slice d.linesA d.lines.length d.linesC] 29))
  generalize checkV F d = E at HCk hE ⊢
  have hE2 : (E != 0) = true := by simpa using hE
  unfold docVal docC
  clear H hd hln hM hE
  go_enter Try.func11, Try.ntmps11
  go_wp2_with ((with_reducible show wpList _ _ _ (({ dst := some 7, op := Op.load _ _, .. } : Oper) :: _) _ _); refine Stop.out ?_)
  unfold Stop
  generalize w.alloc (.cells #[.string d.id, .bool d.sale, .bool d.credit, .string d.refers, .int .i64 d.day, .string d.country, .string d.number, .string d.currency, .slice d.linesA d.lines.length d.linesC] 29) = w1 at HX1 HB1 ⊢
  obtain ⟨g, hgg⟩ : ∃ g, g = w.heap.size := ⟨_, rfl⟩
  rw [← hgg] at HX1 ⊢
  clear hgg
  obtain ⟨u0, u1, u2, u3, u4, u5, u6, u7, u8⟩ := cellsLineV HX1.out
  go_wp2_with (go_at_call 9; refine (HCk.out _ HB1.out).mono ?_; rintro e w2 ⟨rfl, hb⟩; have HB2 := Lib.hid (below_then HB1.out hb); clear hb)
  go_ret
  exact ⟨rfl, HB2.out⟩
def PutP_plain (w : World) (base P bm cm n m : Nat) (V : CrsV) (F : Docs) (C : Crs) (d : DocV) (e : Ending) (w' : World) : Prop := e = .returned (.int .i64 0) ∧ Below base w w' ∧ Still w w' ∧ ∃ A c m' V', SetAt w' base P bm cm (n + 1) m' V' (upd F d.id (some (reL d A c))) C ∧ m' ≤ m + 1
set_option maxHeartbeats 4000000 in
theorem put_plain {w : World} {base P bm cm n m : Nat} {V : CrsV} {F : Docs} {C : Crs} (H : SetAt w base P bm cm n m V F C) (d : DocV) (hd : DocVOk w d) (hM : MaxL w) (hE : checkV F d = 0) (hn : n ≤ 1000) (hm : m ≤ 1000) (hcr : d.credit = false) : Calls Try.prog 11 #[.pointer (some ⟨P, 0, none⟩), docVal d] w (PutP_plain w base P bm cm n m V F C d) := by
  obtain ⟨hgd, hf⟩ := check_zero hE
  obtain ⟨hln, hl⟩ := good_lines hgd
  have hk := good_keys hgd
  have HCk : Hid (∀ W, Below w.heap.size w W → Calls Try.prog 9 #[.pointer (some ⟨P, 0, none⟩), .agg #[.string d.id, .bool d.sale, .bool false, .string d.refers, .int .i64 d.day, .string d.country, .string d.number, .string d.currency, .slice d.linesA d.lines.length d.linesC]] W fun e w' => e = .returned (.int .i64 0) ∧ Below W.heap.size W w') := Lib.hid (fun W hW => by
    have := code_check (cells2 (H.on hW).box).1 (H.on hW).lt (H.on hW).docs d (hd.on hW) (by omega) (hM.below hW)
    rw [hE] at this
    unfold docVal docC at this
    rw [hcr] at this
    exact this)
  have HCp : Hid (∀ W, Below w.heap.size w W → Calls Try.prog 27 #[.agg #[.string d.id, .bool d.sale, .bool false, .string d.refers, .int .i64 d.day, .string d.country, .string d.number, .string d.currency, .slice d.linesA d.lines.length d.linesC]] W fun e w' => ∃ A c g cur, e = .returned (docVal (reL d A c)) ∧ DocVOk w' (reL d A c) ∧ A = some ⟨g, 0, none⟩ ∧ W.heap.size ≤ g ∧ w'.heap[g]? = some (.cells cur 60 (0, 0)) ∧ Below W.heap.size W w') := Lib.hid (fun W hW => by
    have := code_copied d W (hd.on hW) hl
    unfold docVal docC at this
    rw [hcr] at this
    refine this.mono ?_
    rintro e w' ⟨A, c, he, hok, hA, hb⟩
    rcases hA with ⟨_, h0⟩ | ⟨g, hA, hg, cur, hcur⟩
    · exact absurd h0 hln
    · exact ⟨A, c, g, cur, he.trans (by unfold docVal docC reL; rw [hcr]), hok, hA, hg, hcur, hb⟩)
  have HH := Lib.hid H
  have HN := Lib.hid (And.intro hn (And.intro hm (And.intro hk hf)))
  have HX1 := Lib.hid (heap_alloc_new w (.cells #[.string d.id, .bool d.sale, .bool false, .string d.refers, .int .i64 d.day, .string d.country, .string d.number, .string d.currency, .slice d.linesA d.lines.length d.linesC] 29))
  have HB1 := Lib.hid (below_alloc w (.cells #[.string d.id, .bool d.sale, .bool false, .string d.refers, .int .i64 d.day, .string d.country, .string d.number, .string d.currency, .slice d.linesA d.lines.length d.linesC] 29))
  have HDk := Lib.hid hcr
  unfold docVal docC
  rw [hcr]
  clear H hd hM hE hn hm hgd hf hln hl hk hcr
  go_enter Try.func11, Try.ntmps11
  go_wp2_with ((with_reducible show wpList _ _ _ (({ dst := some 7, op := Op.load _ _, .. } : Oper) :: _) _ _); refine Stop.out ?_)
  unfold Stop
  generalize w.alloc (.cells #[.string d.id, .bool d.sale, .bool false, .string d.refers, .int .i64 d.day, .string d.country, .string d.number, .string d.currency, .slice d.linesA d.lines.length d.linesC] 29) = wa at HX1 HB1 ⊢
  obtain ⟨g, hgg⟩ : ∃ g, g = w.heap.size := ⟨_, rfl⟩
  rw [← hgg] at HX1 ⊢
  have HGg := Lib.hid hgg
  clear hgg
  obtain ⟨u0, u1, u2, u3, u4, u5, u6, u7, u8⟩ := cellsLineV HX1.out
  go_wp2_with (go_at_call 9; refine (HCk.out _ HB1.out).mono ?_; rintro e wc ⟨rfl, hb⟩; have HBc := Lib.hid (below_then HB1.out hb); have HXc := Lib.hid (heap_on hb HX1.out); clear hb; refine Stop.out ?_)
  unfold Stop
  clear u0 u1 u2 u3 u4 u5 u6 u7 u8 HX1 HB1 HCk
  go_wp2
  have HS1 : Hid (wc.drew.heap[g]? = some (.cells #[.string d.id, .bool d.sale, .bool false, .string d.refers, .int .i64 d.day, .string d.country, .string d.number, .string d.currency, .slice d.linesA d.lines.length d.linesC] 29 (0, 0)) ∧ wc.drew.cell? ⟨P, 0, none⟩ = some (.map (some bm))) := Lib.hid ⟨heap_on (below_drew wc) HXc.out, (cells2 (HH.out.on (below_then HBc.out (below_drew wc))).box).1⟩
  have HBd : Hid (Below w.heap.size w wc.drew) := Lib.hid HBc.out.drew
  refine wp_region_held_drew (S := fun V : World => V.heap[g]? = some (.cells #[.string d.id, .bool d.sale, .bool false, .string d.refers, .int .i64 d.day, .string d.country, .string d.number, .string d.currency, .slice d.linesA d.lines.length d.linesC] 29 (0, 0)) ∧ V.cell? ⟨P, 0, none⟩ = some (.map (some bm))) (by kernel_rfl) HS1.out ?_
  intro hHeld
  have HXd : Hid (wc.drew.heap[g]? = some (.cells #[.string d.id, .bool d.sale, .bool false, .string d.refers, .int .i64 d.day, .string d.country, .string d.number, .string d.currency, .slice d.linesA d.lines.length d.linesC] 29 (0, 0))) := Lib.hid HS1.out.1
  clear HS1 HBc HXc
  generalize wc.drew = wd at HBd HXd hHeld ⊢
  (refine takeH (i := 0) (v := ?_) rfl (by kernel_rfl) (by kernel_rfl) (by kernel_rfl) (fun _ _ _ h => h) (Or.inl ⟨by rfl, ?_⟩) (by assumption) ?_; rotate_left; (focus ((intro wS hSw); (try dsimp only at hSw); obtain ⟨⟨s0, s1, s2, s3, s4, s5, s6, s7, s8⟩, t0⟩ := And.intro (cellsLineV hSw.1) hSw.2; go_simp; (try with_reducible rfl); done)); (try simp only [Act.put, List.setIfInBounds_toArray, List.set_cons_zero, List.set_cons_succ]))
  (refine takeH (i := 1) (v := ?_) rfl (by kernel_rfl) (by kernel_rfl) (by kernel_rfl) (fun _ _ _ h => h) (Or.inl ⟨by rfl, ?_⟩) (by assumption) ?_; rotate_left; (focus ((intro wS hSw); (try dsimp only at hSw); obtain ⟨⟨s0, s1, s2, s3, s4, s5, s6, s7, s8⟩, t0⟩ := And.intro (cellsLineV hSw.1) hSw.2; go_simp; (try with_reducible rfl); done)); (try simp only [Act.put, List.setIfInBounds_toArray, List.set_cons_zero, List.set_cons_succ]))
  (refine takeH (i := 2) (v := ?_) rfl (by kernel_rfl) (by kernel_rfl) (by kernel_rfl) (fun _ _ _ h => h) (Or.inl ⟨by rfl, ?_⟩) (by assumption) ?_; rotate_left; (focus ((intro wS hSw); (try dsimp only at hSw); obtain ⟨⟨s0, s1, s2, s3, s4, s5, s6, s7, s8⟩, t0⟩ := And.intro (cellsLineV hSw.1) hSw.2; go_simp; (try with_reducible rfl); done)); (try simp only [Act.put, List.setIfInBounds_toArray, List.set_cons_zero, List.set_cons_succ]))
  (refine takeH (i := 3) (v := ?_) rfl (by kernel_rfl) (by kernel_rfl) (by kernel_rfl) (fun _ _ _ h => h) (Or.inl ⟨by rfl, ?_⟩) (by assumption) ?_; rotate_left; (focus ((intro wS hSw); (try dsimp only at hSw); obtain ⟨⟨s0, s1, s2, s3, s4, s5, s6, s7, s8⟩, t0⟩ := And.intro (cellsLineV hSw.1) hSw.2; go_simp; (try with_reducible rfl); done)); (try simp only [Act.put, List.setIfInBounds_toArray, List.set_cons_zero, List.set_cons_succ]))
  (refine takeH (i := 4) (v := ?_) rfl (by kernel_rfl) (by kernel_rfl) (by kernel_rfl) (fun _ _ _ h => h) (Or.inl ⟨by rfl, ?_⟩) (by assumption) ?_; rotate_left; (focus ((intro wS hSw); (try dsimp only at hSw); obtain ⟨⟨s0, s1, s2, s3, s4, s5, s6, s7, s8⟩, t0⟩ := And.intro (cellsLineV hSw.1) hSw.2; go_simp; (try with_reducible rfl); done)); (try simp only [Act.put, List.setIfInBounds_toArray, List.set_cons_zero, List.set_cons_succ]))
  (refine takeH (i := 5) (v := ?_) rfl (by kernel_rfl) (by kernel_rfl) (by kernel_rfl) (fun _ _ _ h => h) (Or.inl ⟨by rfl, ?_⟩) (by assumption) ?_; rotate_left; (focus ((intro wS hSw); (try dsimp only at hSw); obtain ⟨⟨s0, s1, s2, s3, s4, s5, s6, s7, s8⟩, t0⟩ := And.intro (cellsLineV hSw.1) hSw.2; go_simp; (try with_reducible rfl); done)); (try simp only [Act.put, List.setIfInBounds_toArray, List.set_cons_zero, List.set_cons_succ]))
  (refine takeH (i := 6) (v := (.agg #[.string d.id, .bool d.sale, .bool false, .string d.refers, .int .i64 d.day, .string d.country, .string d.number, .string d.currency, .slice d.linesA d.lines.length d.linesC])) rfl (by kernel_rfl) (by kernel_rfl) (by kernel_rfl) (fun _ _ _ h => h) (yieldsIf_load_rowE (by rfl) 29 (.tmp 3) rfl g rfl 29 #[.string d.id, .bool d.sale, .bool false, .string d.refers, .int .i64 d.day, .string d.country, .string d.number, .string d.currency, .slice d.linesA d.lines.length d.linesC] (0, 0) _ (fun W h => h.1) Try.underlying29 rfl doc_info) (by assumption) ?_; (try simp only [Act.put, List.setIfInBounds_toArray, List.set_cons_zero, List.set_cons_succ]))
  refine aloneH (i := 7) rfl (by kernel_rfl) (fun K hK => ?_)
  rw [if_pos (by rfl)]
  go_simp; ((refine (HCp.out _ HBd.out).mono ?_); (rintro e w1 ⟨A, c, ga, cur, rfl, hok, hA, hga, hcur, hb⟩); have HB1 := Lib.hid hb; have HOk := Lib.hid (And.intro hok (And.intro hA (And.intro hga hcur))); clear hok hA hga hcur hb; (try go_simp))
  refine hK.out _ _ (⟨heap_on HB1.out hHeld.1, cell_on HB1.out hHeld.2⟩) (fun hNew => ?_)
  clear hK K hHeld; (have hHeld := hNew); clear hNew; (try simp only [Act.put, List.setIfInBounds_toArray, List.set_cons_zero, List.set_cons_succ])
  refine aloneH (i := 8) rfl (by kernel_rfl) (fun K hK => ?_)
  rw [if_pos (by rfl)]
  have HBw : Hid (Below w.heap.size w w1) := Lib.hid (below_then HBd.out HB1.out)
  obtain ⟨w2, hru, hp, hgr, hblk⟩ := (HH.out.on HBw.out).docs.put (d := reL d A c) (by have := HN.out.1; unfold maxLen; omega) HN.out.2.2.1.1 HOk.out.1 HN.out.2.2.2 ga HOk.out.2.1 (Nat.le_trans HH.out.docs.2.2.2 (Nat.le_trans HBd.out.size HOk.out.2.2.1)) cur HOk.out.2.2.2
  have hru2 : (Instr.mapUpdate 45 (.map (some bm)) (.string d.id) (docVal (reL d A c))).run Try.prog w1 = .ok () w2 := hru
  have HS2 : Hid (SetAt w2 base P bm cm (n + 1) m V (upd F d.id (some (reL d A c))) C) := Lib.hid ((HH.out.on HBw.out).docsPut hp hgr hblk)
  have HX2 : Hid (w2.heap[g]? = some (.cells #[.string d.id, .bool d.sale, .bool false, .string d.refers, .int .i64 d.day, .string d.country, .string d.number, .string d.currency, .slice d.linesA d.lines.length d.linesC] 29 (0, 0))) := Lib.hid ((hblk g (by have h1 := HH.out.docs.lt; have h2 := HGg.out; omega)).trans (heap_on HB1.out HXd.out))
  have HBB : Hid (Below base w w2) := Lib.hid ((HBw.out.mono HH.out.docs.2.2.2).trans ⟨hgr.os, hgr.tape, hgr.output, hgr.size, fun k hk => hblk k (by have := HH.out.docs.2.2.1; omega)⟩)
  have HST : Hid (Still w w2) := Lib.hid (fun k cs t hk ht => (hblk k (fun e2 => by
    obtain ⟨⟨D, ⟨es, clock, hb3, _⟩, _⟩, _⟩ := (HH.out.on HBw.out).docs
    have hk1 := heap_on HBw.out hk
    rw [e2, hb3] at hk1
    injection hk1 with hk1
    cases hk1)).trans (heap_on HBw.out hk))
  have HKp : Hid (w2.heap[g]? = some (.cells #[.string d.id, .bool d.sale, .bool false, .string d.refers, .int .i64 d.day, .string d.country, .string d.number, .string d.currency, .slice d.linesA d.lines.length d.linesC] 29 (0, 0)) ∧ w2.cell? ⟨P, 0, none⟩ = some (.map (some bm))) := Lib.hid ⟨HX2.out, (cells2 HS2.out.box).1⟩
  clear hp hgr hblk hru
  go_simp
  refine hK.out _ _ (HKp.out) (fun hNew => ?_)
  clear hK K hHeld; (have hHeld := hNew); clear hNew; (try simp only [Act.put])
  refine wpAnyH_done (by kernel_rfl) ?_ _
  clear hHeld hru2 HKp
  obtain ⟨u0, u1, u2, u3, u4, u5, u6, u7, u8⟩ := cellsLineV HX2.out
  go_wp2
  go_ret
  exact ⟨rfl, HBB.out, HST.out, A, c, m, V, HS2.out, Nat.le_succ m⟩
theorem nameFact : (Try.prog.info? 9).map (fun i => (i.zero, i.size, i.bytes)) = some (some (.string {data:=#[]}), 1, 16) := by kernel_rfl
theorem wp_append_name {w : World} {o : Oper} {a : Act} {K : Act → World → Prop} {Q : Exit → Act → World → Prop} (s x : Operand)
    (ho : o.op = .call { callee := .builtin .append, args := #[s, x], argTypes := #[33, 33] }) (base : Nat) (v : Value) (L : List ByteArray) (str : ByteArray) (hs : a.eval s = v) (hown : OwnS w base v L) (gS : Nat)
    (hx : a.eval x = .slice (some ⟨gS, 0, none⟩) 1 1) (hg : w.heap[gS]? = some (.cells #[.string str] 9 (0, 0))) (hL : L.length ≤ 1000) (hb : base ≤ w.heap.size)
    (h : ∀ v' w', OwnS w' base v' (L ++ [str]) → w.grownBy w' v.ownBlock → (v'.ownBlock = v.ownBlock ∨ v'.ownBlock = some w.heap.size) → K (a.put o.dst v') w') : o.wp Try.prog a w K Q := by
  obtain ⟨i0, hi, hz0, hz1, hz2⟩ := info_parts nameFact
  obtain ⟨v', w', hr, h2, h3, h4, h5⟩ := run_append_own_at (P := Try.prog) w base 33 o.type 9 i0 (.string {data:=#[]}) 1 16 Try.underlying33 hi hz0 hz1 hz2 rfl (by decide) v L.length (L.map .string) hown ⟨gS, 0, none⟩ 1 1 [.string str] rfl (fun j u hu => by
    cases j with
    | zero =>
      simp at hu
      subst hu
      have h7 : (⟨gS, 0, none⟩ : Addr).add 0 = ⟨gS, 0, none⟩ := by simp [Addr.add]
      rw [h7, cell_of_row _ gS 0 _ _ _ hg]
      rfl
    | succ j => simp at hu) (fun u hu => by
    simp at hu
    subst hu
    rfl) (by unfold maxLen; omega) (by omega) hb
  unfold Oper.wp execOp
  simp only [ho, resolve, invoke, builtin, Sem.run_bind, Sem.run_pure, Result.andThen_ok, List.map_toArray, List.map_cons, List.map_nil, hs, hx, hr]
  exact h v' w' (by simpa [OwnS] using h2) h3 h5
def PutP_credit (w : World) (base P bm cm n m : Nat) (V : CrsV) (F : Docs) (C : Crs) (d : DocV) (e : Ending) (w' : World) : Prop := e = .returned (.int .i64 0) ∧ Below base w w' ∧ Still w w' ∧ ∃ A c m' V', SetAt w' base P bm cm (n + 1) m' V' (upd F d.id (some (reL d A c))) (updC C d.refers (C d.refers ++ [d.id])) ∧ m' ≤ m + 1
set_option maxHeartbeats 4000000 in
theorem put_credit {w : World} {base P bm cm n m : Nat} {V : CrsV} {F : Docs} {C : Crs} (H : SetAt w base P bm cm n m V F C) (d : DocV) (hd : DocVOk w d) (hM : MaxL w) (hE : checkV F d = 0) (hn : n ≤ 1000) (hm : m ≤ 1000) (hcr : d.credit = true) (hC : (C d.refers).length ≤ 1000) : Calls Try.prog 11 #[.pointer (some ⟨P, 0, none⟩), docVal d] w (PutP_credit w base P bm cm n m V F C d) := by
  obtain ⟨hgd, hf⟩ := check_zero hE
  obtain ⟨hln, hl⟩ := good_lines hgd
  have hk := good_keys hgd
  have HCk : Hid (∀ W, Below w.heap.size w W → Calls Try.prog 9 #[.pointer (some ⟨P, 0, none⟩), .agg #[.string d.id, .bool d.sale, .bool true, .string d.refers, .int .i64 d.day, .string d.country, .string d.number, .string d.currency, .slice d.linesA d.lines.length d.linesC]] W fun e w' => e = .returned (.int .i64 0) ∧ Below W.heap.size W w') := Lib.hid (fun W hW => by
    have := code_check (cells2 (H.on hW).box).1 (H.on hW).lt (H.on hW).docs d (hd.on hW) (by omega) (hM.below hW)
    rw [hE] at this
    unfold docVal docC at this
    rw [hcr] at this
    exact this)
  have HCp : Hid (∀ W, Below w.heap.size w W → Calls Try.prog 27 #[.agg #[.string d.id, .bool d.sale, .bool true, .string d.refers, .int .i64 d.day, .string d.country, .string d.number, .string d.currency, .slice d.linesA d.lines.length d.linesC]] W fun e w' => ∃ A c g cur, e = .returned (docVal (reL d A c)) ∧ DocVOk w' (reL d A c) ∧ A = some ⟨g, 0, none⟩ ∧ W.heap.size ≤ g ∧ w'.heap[g]? = some (.cells cur 60 (0, 0)) ∧ Below W.heap.size W w') := Lib.hid (fun W hW => by
    have := code_copied d W (hd.on hW) hl
    unfold docVal docC at this
    rw [hcr] at this
    refine this.mono ?_
    rintro e w' ⟨A, c, he, hok, hA, hb⟩
    rcases hA with ⟨_, h0⟩ | ⟨g, hA, hg, cur, hcur⟩
    · exact absurd h0 hln
    · exact ⟨A, c, g, cur, he.trans (by unfold docVal docC reL; rw [hcr]), hok, hA, hg, hcur, hb⟩)
  have HH := Lib.hid H
  have HN := Lib.hid (And.intro hn (And.intro hm (And.intro hk hf)))
  have HX1 := Lib.hid (heap_alloc_new w (.cells #[.string d.id, .bool d.sale, .bool true, .string d.refers, .int .i64 d.day, .string d.country, .string d.number, .string d.currency, .slice d.linesA d.lines.length d.linesC] 29))
  have HB1 := Lib.hid (below_alloc w (.cells #[.string d.id, .bool d.sale, .bool true, .string d.refers, .int .i64 d.day, .string d.country, .string d.number, .string d.currency, .slice d.linesA d.lines.length d.linesC] 29))
  have HDk := Lib.hid hcr
  have HCl := Lib.hid hC
  clear hC
  unfold docVal docC
  rw [hcr]
  clear H hd hM hE hn hm hgd hf hln hl hk hcr
  go_enter Try.func11, Try.ntmps11
  go_wp2_with ((with_reducible show wpList _ _ _ (({ dst := some 7, op := Op.load _ _, .. } : Oper) :: _) _ _); refine Stop.out ?_)
  unfold Stop
  generalize w.alloc (.cells #[.string d.id, .bool d.sale, .bool true, .string d.refers, .int .i64 d.day, .string d.country, .string d.number, .string d.currency, .slice d.linesA d.lines.length d.linesC] 29) = wa at HX1 HB1 ⊢
  obtain ⟨g, hgg⟩ : ∃ g, g = w.heap.size := ⟨_, rfl⟩
  rw [← hgg] at HX1 ⊢
  have HGg := Lib.hid hgg
  clear hgg
  obtain ⟨u0, u1, u2, u3, u4, u5, u6, u7, u8⟩ := cellsLineV HX1.out
  go_wp2_with (go_at_call 9; refine (HCk.out _ HB1.out).mono ?_; rintro e wc ⟨rfl, hb⟩; have HBc := Lib.hid (below_then HB1.out hb); have HXc := Lib.hid (heap_on hb HX1.out); clear hb; refine Stop.out ?_)
  unfold Stop
  clear u0 u1 u2 u3 u4 u5 u6 u7 u8 HX1 HB1 HCk
  go_wp2
  have HS1 : Hid (wc.drew.heap[g]? = some (.cells #[.string d.id, .bool d.sale, .bool true, .string d.refers, .int .i64 d.day, .string d.country, .string d.number, .string d.currency, .slice d.linesA d.lines.length d.linesC] 29 (0, 0)) ∧ wc.drew.cell? ⟨P, 0, none⟩ = some (.map (some bm))) := Lib.hid ⟨heap_on (below_drew wc) HXc.out, (cells2 (HH.out.on (below_then HBc.out (below_drew wc))).box).1⟩
  have HBd : Hid (Below w.heap.size w wc.drew) := Lib.hid HBc.out.drew
  refine wp_region_held_drew (S := fun V : World => V.heap[g]? = some (.cells #[.string d.id, .bool d.sale, .bool true, .string d.refers, .int .i64 d.day, .string d.country, .string d.number, .string d.currency, .slice d.linesA d.lines.length d.linesC] 29 (0, 0)) ∧ V.cell? ⟨P, 0, none⟩ = some (.map (some bm))) (by kernel_rfl) HS1.out ?_
  intro hHeld
  have HXd : Hid (wc.drew.heap[g]? = some (.cells #[.string d.id, .bool d.sale, .bool true, .string d.refers, .int .i64 d.day, .string d.country, .string d.number, .string d.currency, .slice d.linesA d.lines.length d.linesC] 29 (0, 0))) := Lib.hid HS1.out.1
  clear HS1 HBc HXc
  generalize wc.drew = wd at HBd HXd hHeld ⊢
  (refine takeH (i := 0) (v := ?_) rfl (by kernel_rfl) (by kernel_rfl) (by kernel_rfl) (fun _ _ _ h => h) (Or.inl ⟨by rfl, ?_⟩) (by assumption) ?_; rotate_left; (focus ((intro wS hSw); (try dsimp only at hSw); obtain ⟨⟨s0, s1, s2, s3, s4, s5, s6, s7, s8⟩, t0⟩ := And.intro (cellsLineV hSw.1) hSw.2; go_simp; (try with_reducible rfl); done)); (try simp only [Act.put, List.setIfInBounds_toArray, List.set_cons_zero, List.set_cons_succ]))
  (refine takeH (i := 1) (v := ?_) rfl (by kernel_rfl) (by kernel_rfl) (by kernel_rfl) (fun _ _ _ h => h) (Or.inl ⟨by rfl, ?_⟩) (by assumption) ?_; rotate_left; (focus ((intro wS hSw); (try dsimp only at hSw); obtain ⟨⟨s0, s1, s2, s3, s4, s5, s6, s7, s8⟩, t0⟩ := And.intro (cellsLineV hSw.1) hSw.2; go_simp; (try with_reducible rfl); done)); (try simp only [Act.put, List.setIfInBounds_toArray, List.set_cons_zero, List.set_cons_succ]))
  (refine takeH (i := 2) (v := ?_) rfl (by kernel_rfl) (by kernel_rfl) (by kernel_rfl) (fun _ _ _ h => h) (Or.inl ⟨by rfl, ?_⟩) (by assumption) ?_; rotate_left; (focus ((intro wS hSw); (try dsimp only at hSw); obtain ⟨⟨s0, s1, s2, s3, s4, s5, s6, s7, s8⟩, t0⟩ := And.intro (cellsLineV hSw.1) hSw.2; go_simp; (try with_reducible rfl); done)); (try simp only [Act.put, List.setIfInBounds_toArray, List.set_cons_zero, List.set_cons_succ]))
  (refine takeH (i := 3) (v := ?_) rfl (by kernel_rfl) (by kernel_rfl) (by kernel_rfl) (fun _ _ _ h => h) (Or.inl ⟨by rfl, ?_⟩) (by assumption) ?_; rotate_left; (focus ((intro wS hSw); (try dsimp only at hSw); obtain ⟨⟨s0, s1, s2, s3, s4, s5, s6, s7, s8⟩, t0⟩ := And.intro (cellsLineV hSw.1) hSw.2; go_simp; (try with_reducible rfl); done)); (try simp only [Act.put, List.setIfInBounds_toArray, List.set_cons_zero, List.set_cons_succ]))
  (refine takeH (i := 4) (v := ?_) rfl (by kernel_rfl) (by kernel_rfl) (by kernel_rfl) (fun _ _ _ h => h) (Or.inl ⟨by rfl, ?_⟩) (by assumption) ?_; rotate_left; (focus ((intro wS hSw); (try dsimp only at hSw); obtain ⟨⟨s0, s1, s2, s3, s4, s5, s6, s7, s8⟩, t0⟩ := And.intro (cellsLineV hSw.1) hSw.2; go_simp; (try with_reducible rfl); done)); (try simp only [Act.put, List.setIfInBounds_toArray, List.set_cons_zero, List.set_cons_succ]))
  (refine takeH (i := 5) (v := ?_) rfl (by kernel_rfl) (by kernel_rfl) (by kernel_rfl) (fun _ _ _ h => h) (Or.inl ⟨by rfl, ?_⟩) (by assumption) ?_; rotate_left; (focus ((intro wS hSw); (try dsimp only at hSw); obtain ⟨⟨s0, s1, s2, s3, s4, s5, s6, s7, s8⟩, t0⟩ := And.intro (cellsLineV hSw.1) hSw.2; go_simp; (try with_reducible rfl); done)); (try simp only [Act.put, List.setIfInBounds_toArray, List.set_cons_zero, List.set_cons_succ]))
  (refine takeH (i := 6) (v := (.agg #[.string d.id, .bool d.sale, .bool true, .string d.refers, .int .i64 d.day, .string d.country, .string d.number, .string d.currency, .slice d.linesA d.lines.length d.linesC])) rfl (by kernel_rfl) (by kernel_rfl) (by kernel_rfl) (fun _ _ _ h => h) (yieldsIf_load_rowE (by rfl) 29 (.tmp 3) rfl g rfl 29 #[.string d.id, .bool d.sale, .bool true, .string d.refers, .int .i64 d.day, .string d.country, .string d.number, .string d.currency, .slice d.linesA d.lines.length d.linesC] (0, 0) _ (fun W h => h.1) Try.underlying29 rfl doc_info) (by assumption) ?_; (try simp only [Act.put, List.setIfInBounds_toArray, List.set_cons_zero, List.set_cons_succ]))
  refine aloneH (i := 7) rfl (by kernel_rfl) (fun K hK => ?_)
  rw [if_pos (by rfl)]
  go_simp; ((refine (HCp.out _ HBd.out).mono ?_); (rintro e w1 ⟨A, c, ga, cur, rfl, hok, hA, hga, hcur, hb⟩); have HB1 := Lib.hid hb; have HOk := Lib.hid (And.intro hok (And.intro hA (And.intro hga hcur))); clear hok hA hga hcur hb; (try go_simp))
  refine hK.out _ _ (⟨heap_on HB1.out hHeld.1, cell_on HB1.out hHeld.2⟩) (fun hNew => ?_)
  clear hK K hHeld; (have hHeld := hNew); clear hNew; (try simp only [Act.put, List.setIfInBounds_toArray, List.set_cons_zero, List.set_cons_succ])
  refine aloneH (i := 8) rfl (by kernel_rfl) (fun K hK => ?_)
  rw [if_pos (by rfl)]
  have HBw : Hid (Below w.heap.size w w1) := Lib.hid (below_then HBd.out HB1.out)
  obtain ⟨w2, hru, hp, hgr, hblk⟩ := (HH.out.on HBw.out).docs.put (d := reL d A c) (by have := HN.out.1; unfold maxLen; omega) HN.out.2.2.1.1 HOk.out.1 HN.out.2.2.2 ga HOk.out.2.1 (Nat.le_trans HH.out.docs.2.2.2 (Nat.le_trans HBd.out.size HOk.out.2.2.1)) cur HOk.out.2.2.2
  have hru2 : (Instr.mapUpdate 45 (.map (some bm)) (.string d.id) (docVal (reL d A c))).run Try.prog w1 = .ok () w2 := hru
  have HS2 : Hid (SetAt w2 base P bm cm (n + 1) m V (upd F d.id (some (reL d A c))) C) := Lib.hid ((HH.out.on HBw.out).docsPut hp hgr hblk)
  have HX2 : Hid (w2.heap[g]? = some (.cells #[.string d.id, .bool d.sale, .bool true, .string d.refers, .int .i64 d.day, .string d.country, .string d.number, .string d.currency, .slice d.linesA d.lines.length d.linesC] 29 (0, 0))) := Lib.hid ((hblk g (by have h1 := HH.out.docs.lt; have h2 := HGg.out; omega)).trans (heap_on HB1.out HXd.out))
  have HBB : Hid (Below base w w2) := Lib.hid ((HBw.out.mono HH.out.docs.2.2.2).trans ⟨hgr.os, hgr.tape, hgr.output, hgr.size, fun k hk => hblk k (by have := HH.out.docs.2.2.1; omega)⟩)
  have HST : Hid (Still w w2) := Lib.hid (fun k cs t hk ht => (hblk k (fun e2 => by
    obtain ⟨⟨D, ⟨es, clock, hb3, _⟩, _⟩, _⟩ := (HH.out.on HBw.out).docs
    have hk1 := heap_on HBw.out hk
    rw [e2, hb3] at hk1
    injection hk1 with hk1
    cases hk1)).trans (heap_on HBw.out hk))
  have HKp : Hid (w2.heap[g]? = some (.cells #[.string d.id, .bool d.sale, .bool true, .string d.refers, .int .i64 d.day, .string d.country, .string d.number, .string d.currency, .slice d.linesA d.lines.length d.linesC] 29 (0, 0)) ∧ w2.cell? ⟨P, 0, none⟩ = some (.map (some bm))) := Lib.hid ⟨HX2.out, (cells2 HS2.out.box).1⟩
  clear hp hgr hblk hru
  go_simp
  refine hK.out _ _ (HKp.out) (fun hNew => ?_)
  clear hK K hHeld; (have hHeld := hNew); clear hNew; (try simp only [Act.put])
  refine wpAnyH_done (by kernel_rfl) ?_ _
  clear hHeld hru2 HKp
  obtain ⟨u0, u1, u2, u3, u4, u5, u6, u7, u8⟩ := cellsLineV HX2.out
  go_wp2
  have HSs0 : Hid (SetAt w2.drew base P bm cm (n + 1) m V (upd F d.id (some (reL d A c))) C) := Lib.hid (HS2.out.on (below_drew w2))
  have HDr := Lib.hid (below_drew w2)
  have HBe : Hid (Below base w2 w2.drew) := Lib.hid ((below_drew w2).mono (Nat.le_trans HS2.out.crs.2.2.2.2 (Nat.le_refl _)))
  have HS6 : Hid (w2.drew.heap[g]? = some (.cells #[.string d.id, .bool d.sale, .bool true, .string d.refers, .int .i64 d.day, .string d.country, .string d.number, .string d.currency, .slice d.linesA d.lines.length d.linesC] 29 (0, 0)) ∧ w2.drew.cell? ⟨P, 1, none⟩ = some (.map (some cm))) := Lib.hid ⟨heap_on (below_drew w2) HX2.out, (cells2 HSs0.out.box).2⟩
  clear u0 u1 u2 u3 u4 u5 u6 u7 u8
  clear HB1 HX2 HS2
  refine wp_region_held_drew (S := fun V : World => V.heap[g]? = some (.cells #[.string d.id, .bool d.sale, .bool true, .string d.refers, .int .i64 d.day, .string d.country, .string d.number, .string d.currency, .slice d.linesA d.lines.length d.linesC] 29 (0, 0)) ∧ V.cell? ⟨P, 1, none⟩ = some (.map (some cm))) (by kernel_rfl) HS6.out ?_
  intro hHeld
  clear HS6
  generalize w2.drew = wd2 at HSs0 HBe HDr hHeld ⊢
  (refine takeH (i := 0) (v := ?_) rfl (by kernel_rfl) (by kernel_rfl) (by kernel_rfl) (fun _ _ _ h => h) (Or.inl ⟨by rfl, ?_⟩) (by assumption) ?_; rotate_left; (focus ((intro wS hSw); (try dsimp only at hSw); obtain ⟨⟨s0, s1, s2, s3, s4, s5, s6, s7, s8⟩, t0⟩ := And.intro (cellsLineV hSw.1) hSw.2; go_simp; (try with_reducible rfl); done)); (try simp only [Act.put, List.setIfInBounds_toArray, List.set_cons_zero, List.set_cons_succ]))
  (refine takeH (i := 1) (v := ?_) rfl (by kernel_rfl) (by kernel_rfl) (by kernel_rfl) (fun _ _ _ h => h) (Or.inl ⟨by rfl, ?_⟩) (by assumption) ?_; rotate_left; (focus ((intro wS hSw); (try dsimp only at hSw); obtain ⟨⟨s0, s1, s2, s3, s4, s5, s6, s7, s8⟩, t0⟩ := And.intro (cellsLineV hSw.1) hSw.2; go_simp; (try with_reducible rfl); done)); (try simp only [Act.put, List.setIfInBounds_toArray, List.set_cons_zero, List.set_cons_succ]))
  (refine takeH (i := 2) (v := ?_) rfl (by kernel_rfl) (by kernel_rfl) (by kernel_rfl) (fun _ _ _ h => h) (Or.inl ⟨by rfl, ?_⟩) (by assumption) ?_; rotate_left; (focus ((intro wS hSw); (try dsimp only at hSw); obtain ⟨⟨s0, s1, s2, s3, s4, s5, s6, s7, s8⟩, t0⟩ := And.intro (cellsLineV hSw.1) hSw.2; go_simp; (try with_reducible rfl); done)); (try simp only [Act.put, List.setIfInBounds_toArray, List.set_cons_zero, List.set_cons_succ]))
  (refine takeH (i := 3) (v := ?_) rfl (by kernel_rfl) (by kernel_rfl) (by kernel_rfl) (fun _ _ _ h => h) (Or.inl ⟨by rfl, ?_⟩) (by assumption) ?_; rotate_left; (focus ((intro wS hSw); (try dsimp only at hSw); obtain ⟨⟨s0, s1, s2, s3, s4, s5, s6, s7, s8⟩, t0⟩ := And.intro (cellsLineV hSw.1) hSw.2; go_simp; (try with_reducible rfl); done)); (try simp only [Act.put, List.setIfInBounds_toArray, List.set_cons_zero, List.set_cons_succ]))
  (refine takeH (i := 4) (v := ?_) rfl (by kernel_rfl) (by kernel_rfl) (by kernel_rfl) (fun _ _ _ h => h) (Or.inl ⟨by rfl, ?_⟩) (by assumption) ?_; rotate_left; (focus ((intro wS hSw); (try dsimp only at hSw); obtain ⟨⟨s0, s1, s2, s3, s4, s5, s6, s7, s8⟩, t0⟩ := And.intro (cellsLineV hSw.1) hSw.2; go_simp; (try with_reducible rfl); done)); (try simp only [Act.put, List.setIfInBounds_toArray, List.set_cons_zero, List.set_cons_succ]))
  (refine takeH (i := 5) (v := ?_) rfl (by kernel_rfl) (by kernel_rfl) (by kernel_rfl) (fun _ _ _ h => h) (Or.inl ⟨by rfl, ?_⟩) (by assumption) ?_; rotate_left; (focus ((intro wS hSw); (try dsimp only at hSw); obtain ⟨⟨s0, s1, s2, s3, s4, s5, s6, s7, s8⟩, t0⟩ := And.intro (cellsLineV hSw.1) hSw.2; go_simp; (try with_reducible rfl); done)); (try simp only [Act.put, List.setIfInBounds_toArray, List.set_cons_zero, List.set_cons_succ]))
  (refine takeH (i := 6) (v := ?_) rfl (by kernel_rfl) (by kernel_rfl) (by kernel_rfl) (fun _ _ _ h => h) (Or.inl ⟨by rfl, ?_⟩) (by assumption) ?_; rotate_left; (focus ((intro wS hSw); (try dsimp only at hSw); obtain ⟨⟨s0, s1, s2, s3, s4, s5, s6, s7, s8⟩, t0⟩ := And.intro (cellsLineV hSw.1) hSw.2; go_simp; (try with_reducible rfl); done)); (try simp only [Act.put, List.setIfInBounds_toArray, List.set_cons_zero, List.set_cons_succ]))
  (refine takeH (i := 7) (v := ?_) rfl (by kernel_rfl) (by kernel_rfl) (by kernel_rfl) (fun _ _ _ h => h) (Or.inl ⟨by rfl, ?_⟩) (by assumption) ?_; rotate_left; (focus ((intro wS hSw); (try dsimp only at hSw); obtain ⟨⟨s0, s1, s2, s3, s4, s5, s6, s7, s8⟩, t0⟩ := And.intro (cellsLineV hSw.1) hSw.2; go_simp; (try with_reducible rfl); done)); (try simp only [Act.put, List.setIfInBounds_toArray, List.set_cons_zero, List.set_cons_succ]))
  (refine takeH (i := 8) (v := ?_) rfl (by kernel_rfl) (by kernel_rfl) (by kernel_rfl) (fun _ _ _ h => h) (Or.inl ⟨by rfl, ?_⟩) (by assumption) ?_; rotate_left; (focus ((intro wS hSw); (try dsimp only at hSw); obtain ⟨⟨s0, s1, s2, s3, s4, s5, s6, s7, s8⟩, t0⟩ := And.intro (cellsLineV hSw.1) hSw.2; go_simp; (try with_reducible rfl); done)); (try simp only [Act.put, List.setIfInBounds_toArray, List.set_cons_zero, List.set_cons_succ]))
  (refine takeH (i := 9) (v := ?_) rfl (by kernel_rfl) (by kernel_rfl) (by kernel_rfl) (fun _ _ _ h => h) (Or.inl ⟨by rfl, ?_⟩) (by assumption) ?_; rotate_left; (focus ((intro wS hSw); (try dsimp only at hSw); obtain ⟨⟨s0, s1, s2, s3, s4, s5, s6, s7, s8⟩, t0⟩ := And.intro (cellsLineV hSw.1) hSw.2; go_simp; (try with_reducible rfl); done)); (try simp only [Act.put, List.setIfInBounds_toArray, List.set_cons_zero, List.set_cons_succ]))
  (refine takeH (i := 10) (v := ?_) rfl (by kernel_rfl) (by kernel_rfl) (by kernel_rfl) (fun _ _ _ h => h) (Or.inl ⟨by rfl, ?_⟩) (by assumption) ?_; rotate_left; (focus ((intro wS hSw); (try dsimp only at hSw); obtain ⟨⟨s0, s1, s2, s3, s4, s5, s6, s7, s8⟩, t0⟩ := And.intro (cellsLineV hSw.1) hSw.2; go_simp; (try with_reducible rfl); done)); (try simp only [Act.put, List.setIfInBounds_toArray, List.set_cons_zero, List.set_cons_succ]))
  (refine takeH (i := 11) (v := ?_) rfl (by kernel_rfl) (by kernel_rfl) (by kernel_rfl) (fun _ _ _ h => h) (Or.inl ⟨by rfl, ?_⟩) (by assumption) ?_; rotate_left; (focus ((intro wS hSw); (try dsimp only at hSw); obtain ⟨⟨s0, s1, s2, s3, s4, s5, s6, s7, s8⟩, t0⟩ := And.intro (cellsLineV hSw.1) hSw.2; go_simp; (try with_reducible rfl); done)); (try simp only [Act.put, List.setIfInBounds_toArray, List.set_cons_zero, List.set_cons_succ]))
  (refine takeH (i := 13) (v := ?_) rfl (by kernel_rfl) (by kernel_rfl) (by kernel_rfl) (fun _ _ _ h => h) (Or.inl ⟨by rfl, ?_⟩) (by assumption) ?_; rotate_left; (focus ((intro wS hSw); (try dsimp only at hSw); obtain ⟨⟨s0, s1, s2, s3, s4, s5, s6, s7, s8⟩, t0⟩ := And.intro (cellsLineV hSw.1) hSw.2; go_simp; (try with_reducible rfl); done)); (try simp only [Act.put, List.setIfInBounds_toArray, List.set_cons_zero, List.set_cons_succ]))
  (refine takeH (i := 14) (v := ?_) rfl (by kernel_rfl) (by kernel_rfl) (by kernel_rfl) (fun _ _ _ h => h) (Or.inl ⟨by rfl, ?_⟩) (by assumption) ?_; rotate_left; (focus ((intro wS hSw); (try dsimp only at hSw); obtain ⟨⟨s0, s1, s2, s3, s4, s5, s6, s7, s8⟩, t0⟩ := And.intro (cellsLineV hSw.1) hSw.2; go_simp; (try with_reducible rfl); done)); (try simp only [Act.put, List.setIfInBounds_toArray, List.set_cons_zero, List.set_cons_succ]))
  refine twoH (i := 12) (i2 := 15) rfl rfl (by kernel_rfl) (fun K hK => ?_) (fun K hK => ?_)
  · rw [if_pos (by rfl)]
    have hl := HSs0.out.crs.look HN.out.2.2.1.2
    go_simp
    have HSs1 := HSs0
    refine hK.out _ _ (hHeld) (fun hNew => ?_)
    clear hK K hHeld; (have hHeld := hNew); clear hNew; (try simp only [Act.put, List.setIfInBounds_toArray, List.set_cons_zero, List.set_cons_succ])
    refine aloneH (i := 15) rfl (by kernel_rfl) (fun K hK => ?_)
    rw [if_pos (by rfl)]
    go_simp
    obtain ⟨gS, hgS⟩ : ∃ gS, gS = wd2.heap.size := ⟨_, rfl⟩
    obtain ⟨q2, hq⟩ : ∃ q, q = wd2.alloc (.cells #[.string d.id] 9) := ⟨_, rfl⟩
    have HB2 : Hid (Below wd2.heap.size wd2 q2) := Lib.hid (by rw [hq]; exact below_alloc _ _)
    have HA : Hid (q2.heap[gS]? = some (.cells #[.string d.id] 9 (0, 0))) := Lib.hid (by rw [hq, hgS]; exact heap_alloc_new _ _)
    have HSs2 := Lib.hid (HSs1.out.on HB2.out)
    rw [← hq, ← hgS]
    clear hq hgS
    refine hK.out _ _ (⟨heap_on HB2.out hHeld.1, cell_on HB2.out hHeld.2⟩) (fun hNew => ?_)
    clear hK K hHeld; (have hHeld := hNew); clear hNew; (try simp only [Act.put, List.setIfInBounds_toArray, List.set_cons_zero, List.set_cons_succ])
    refine aloneH (i := 16) rfl (by kernel_rfl) (fun K hK => ?_)
    rw [if_pos (by rfl)]
    refine wp_append_name (.tmp 34) (.tmp 37) rfl base (V d.refers) (C d.refers) d.id rfl (HSs2.out.crs.2.1 d.refers) gS rfl HA.out HCl.out (Nat.le_trans HSs2.out.crs.2.2.2.2 (Nat.le_refl _)) ?_
    intro v q3 ho hg hat
    have HO := Lib.hid (And.intro ho (And.intro hg hat))
    have hnB : ∀ k cs t, q2.heap[k]? = some (.cells cs t (0, 0)) → t ≠ 9 → k < q2.heap.size ∧ some k ≠ (V d.refers).ownBlock := fun k cs t hk ht => ⟨heapLt hk, fun e2 => by
      obtain ⟨_, cur, hc⟩ := (HSs2.out.crs.2.1 d.refers).block e2.symm
      rw [hk] at hc
      injection hc with hc
      injection hc with h1 h2 h3
      exact ht h2⟩
    have HK16 : Hid (q3.heap[g]? = some (.cells #[.string d.id, .bool d.sale, .bool true, .string d.refers, .int .i64 d.day, .string d.country, .string d.number, .string d.currency, .slice d.linesA d.lines.length d.linesC] 29 (0, 0)) ∧ q3.cell? ⟨P, 1, none⟩ = some (.map (some cm))) := Lib.hid (by
      have hx := hnB g _ _ hHeld.1 (by decide)
      have hP := hnB P _ _ HSs2.out.box (by decide)
      exact ⟨(hg.block g hx.1 hx.2).trans hHeld.1, (cells2 ((hg.block P hP.1 hP.2).trans HSs2.out.box)).2⟩)
    have HD16 : Hid (q3.heap[P]? = some (.cells #[.map (some bm), .map (some cm)] 48 (0, 0)) ∧ DmAt q3 base bm (n + 1) (upd F d.id (some (reL d A c))) ∧ Below base q2 q3 ∧ Still q2 q3) := Lib.hid (by
      have hP := hnB P _ _ HSs2.out.box (by decide)
      refine ⟨(hg.block P hP.1 hP.2).trans HSs2.out.box, HSs2.out.docs.grown hg (fun e2 => ?_) (fun g' cur hc => (hnB g' _ _ hc (by decide)).2), ⟨hg.os, hg.tape, hg.output, hg.size, fun k hk => hg.block k (Nat.lt_of_lt_of_le hk HSs2.out.crs.2.2.2.2) (fun e2 => ?_)⟩, fun k cs t hk ht => (hg.block k (hnB k _ _ hk ht).1 (hnB k _ _ hk ht).2).trans hk⟩
      · obtain ⟨_, cur, hc⟩ := (HSs2.out.crs.2.1 d.refers).block e2.symm
        obtain ⟨⟨D, ⟨es, clock, hb, _⟩, _⟩, _⟩ := HSs2.out.docs
        rw [hb] at hc
        injection hc with hc
        cases hc
      · have := ((HSs2.out.crs.2.1 d.refers).block e2.symm).1
        omega)
    clear ho hg hat hnB
    (try go_simp)
    refine hK.out _ _ (HK16.out) (fun hNew => ?_)
    clear hK K hHeld; (have hHeld := hNew); clear hNew; (try simp only [Act.put, List.setIfInBounds_toArray, List.set_cons_zero, List.set_cons_succ])
    refine aloneH (i := 17) rfl (by kernel_rfl) (fun K hK => ?_)
    rw [if_pos (by rfl)]
    obtain ⟨q4, hru, hp, hgr, hblk⟩ := HSs2.out.crs.put (by have := HN.out.2.1; unfold maxLen; omega) HN.out.2.2.1.2 HO.out.2.1 HO.out.1 HO.out.2.2
    have hneP : P ≠ cm := fun e2 => by
      obtain ⟨⟨D, ⟨es, clock, hb, _⟩, _⟩, _⟩ := HSs2.out.crs
      have := HSs2.out.box
      rw [e2, hb] at this
      injection this with this
      cases this
    have hneg : g ≠ cm := by have h1 := HH.out.crs.lt; have h2 := HGg.out; omega
    have HK17 : Hid (q4.heap[g]? = some (.cells #[.string d.id, .bool d.sale, .bool true, .string d.refers, .int .i64 d.day, .string d.country, .string d.number, .string d.currency, .slice d.linesA d.lines.length d.linesC] 29 (0, 0)) ∧ q4.cell? ⟨P, 1, none⟩ = some (.map (some cm))) := Lib.hid ⟨(hblk g hneg).trans HK16.out.1, (cells2 ((hblk P hneP).trans HD16.out.1)).2⟩
    have HFin : Hid (SetAt q4 base P bm cm (n + 1) (m + 1) (updC V d.refers v) (upd F d.id (some (reL d A c))) (updC C d.refers (C d.refers ++ [d.id])) ∧ Below base q3 q4 ∧ Still q3 q4) := Lib.hid ⟨⟨(hblk P hneP).trans HD16.out.1, HD16.out.2.1.grown hgr (by have := HSs2.out.apart; simp; omega) (fun g' cur hc e2 => by
      injection e2 with e2
      obtain ⟨⟨D, ⟨es, clock, hb, _⟩, _⟩, _⟩ := HSs2.out.crs
      have hq := HO.out.2.1.block cm HSs2.out.crs.lt (fun e3 => by
        obtain ⟨_, cur3, hc3⟩ := (HSs2.out.crs.2.1 d.refers).block e3.symm
        rw [hb] at hc3
        injection hc3 with hc3
        cases hc3)
      rw [e2, hq, hb] at hc
      injection hc with hc
      cases hc), hp, HSs2.out.apart, HSs2.out.ge⟩, ⟨hgr.os, hgr.tape, hgr.output, hgr.size, fun k hk => hblk k (by have := HSs2.out.crs.2.2.2.1; omega)⟩, fun k cs t hc ht => (hblk k (fun e2 => by
      obtain ⟨⟨D, ⟨es, clock, hb, _⟩, _⟩, _⟩ := HSs2.out.crs
      have hq := HO.out.2.1.block cm HSs2.out.crs.lt (fun e3 => by
        obtain ⟨_, cur3, hc3⟩ := (HSs2.out.crs.2.1 d.refers).block e3.symm
        rw [hb] at hc3
        injection hc3 with hc3
        cases hc3)
      rw [e2, hq, hb] at hc
      injection hc with hc
      cases hc)).trans hc⟩
    clear hp hgr hblk hneP hneg
    go_simp
    refine hK.out _ _ (HK17.out) (fun hNew => ?_)
    clear hK K hHeld; (have hHeld := hNew); clear hNew; (try simp only [Act.put])
    refine wpAnyH_done (by kernel_rfl) ?_ _
    clear hHeld HK16 HK17
    go_wp2
    go_ret
    exact ⟨rfl, (HBB.out.trans HBe.out).trans (((HB2.out.mono HSs0.out.crs.2.2.2.2).trans HD16.out.2.2.1).trans HFin.out.2.1), HST.out.trans ((Still.of_below HDr.out).trans ((Still.of_below HB2.out).trans (HD16.out.2.2.2.trans HFin.out.2.2))), A, c, m + 1, _, HFin.out.1, Nat.le_refl _⟩
  · rw [if_pos (by rfl)]
    go_simp
    obtain ⟨gS, hgS⟩ : ∃ gS, gS = wd2.heap.size := ⟨_, rfl⟩
    obtain ⟨q1, hq⟩ : ∃ q, q = wd2.alloc (.cells #[.string d.id] 9) := ⟨_, rfl⟩
    have HB1 : Hid (Below wd2.heap.size wd2 q1) := Lib.hid (by rw [hq]; exact below_alloc _ _)
    have HA : Hid (q1.heap[gS]? = some (.cells #[.string d.id] 9 (0, 0))) := Lib.hid (by rw [hq, hgS]; exact heap_alloc_new _ _)
    have HSs1 := Lib.hid (HSs0.out.on HB1.out)
    rw [← hq, ← hgS]
    clear hq hgS
    refine hK.out _ _ (⟨heap_on HB1.out hHeld.1, cell_on HB1.out hHeld.2⟩) (fun hNew => ?_)
    clear hK K hHeld; (have hHeld := hNew); clear hNew; (try simp only [Act.put, List.setIfInBounds_toArray, List.set_cons_zero, List.set_cons_succ])
    refine aloneH (i := 12) rfl (by kernel_rfl) (fun K hK => ?_)
    rw [if_pos (by rfl)]
    have hl := HSs1.out.crs.look HN.out.2.2.1.2
    go_simp
    have HSs2 := HSs1
    refine hK.out _ _ (hHeld) (fun hNew => ?_)
    clear hK K hHeld; (have hHeld := hNew); clear hNew; (try simp only [Act.put, List.setIfInBounds_toArray, List.set_cons_zero, List.set_cons_succ])
    refine aloneH (i := 16) rfl (by kernel_rfl) (fun K hK => ?_)
    rw [if_pos (by rfl)]
    refine wp_append_name (.tmp 34) (.tmp 37) rfl base (V d.refers) (C d.refers) d.id rfl (HSs2.out.crs.2.1 d.refers) gS rfl HA.out HCl.out (Nat.le_trans HSs2.out.crs.2.2.2.2 (Nat.le_refl _)) ?_
    intro v q3 ho hg hat
    have HO := Lib.hid (And.intro ho (And.intro hg hat))
    have hnB : ∀ k cs t, q1.heap[k]? = some (.cells cs t (0, 0)) → t ≠ 9 → k < q1.heap.size ∧ some k ≠ (V d.refers).ownBlock := fun k cs t hk ht => ⟨heapLt hk, fun e2 => by
      obtain ⟨_, cur, hc⟩ := (HSs2.out.crs.2.1 d.refers).block e2.symm
      rw [hk] at hc
      injection hc with hc
      injection hc with h1 h2 h3
      exact ht h2⟩
    have HK16 : Hid (q3.heap[g]? = some (.cells #[.string d.id, .bool d.sale, .bool true, .string d.refers, .int .i64 d.day, .string d.country, .string d.number, .string d.currency, .slice d.linesA d.lines.length d.linesC] 29 (0, 0)) ∧ q3.cell? ⟨P, 1, none⟩ = some (.map (some cm))) := Lib.hid (by
      have hx := hnB g _ _ hHeld.1 (by decide)
      have hP := hnB P _ _ HSs2.out.box (by decide)
      exact ⟨(hg.block g hx.1 hx.2).trans hHeld.1, (cells2 ((hg.block P hP.1 hP.2).trans HSs2.out.box)).2⟩)
    have HD16 : Hid (q3.heap[P]? = some (.cells #[.map (some bm), .map (some cm)] 48 (0, 0)) ∧ DmAt q3 base bm (n + 1) (upd F d.id (some (reL d A c))) ∧ Below base q1 q3 ∧ Still q1 q3) := Lib.hid (by
      have hP := hnB P _ _ HSs2.out.box (by decide)
      refine ⟨(hg.block P hP.1 hP.2).trans HSs2.out.box, HSs2.out.docs.grown hg (fun e2 => ?_) (fun g' cur hc => (hnB g' _ _ hc (by decide)).2), ⟨hg.os, hg.tape, hg.output, hg.size, fun k hk => hg.block k (Nat.lt_of_lt_of_le hk HSs2.out.crs.2.2.2.2) (fun e2 => ?_)⟩, fun k cs t hk ht => (hg.block k (hnB k _ _ hk ht).1 (hnB k _ _ hk ht).2).trans hk⟩
      · obtain ⟨_, cur, hc⟩ := (HSs2.out.crs.2.1 d.refers).block e2.symm
        obtain ⟨⟨D, ⟨es, clock, hb, _⟩, _⟩, _⟩ := HSs2.out.docs
        rw [hb] at hc
        injection hc with hc
        cases hc
      · have := ((HSs2.out.crs.2.1 d.refers).block e2.symm).1
        omega)
    clear ho hg hat hnB
    (try go_simp)
    refine hK.out _ _ (HK16.out) (fun hNew => ?_)
    clear hK K hHeld; (have hHeld := hNew); clear hNew; (try simp only [Act.put, List.setIfInBounds_toArray, List.set_cons_zero, List.set_cons_succ])
    refine aloneH (i := 17) rfl (by kernel_rfl) (fun K hK => ?_)
    rw [if_pos (by rfl)]
    obtain ⟨q4, hru, hp, hgr, hblk⟩ := HSs2.out.crs.put (by have := HN.out.2.1; unfold maxLen; omega) HN.out.2.2.1.2 HO.out.2.1 HO.out.1 HO.out.2.2
    have hneP : P ≠ cm := fun e2 => by
      obtain ⟨⟨D, ⟨es, clock, hb, _⟩, _⟩, _⟩ := HSs2.out.crs
      have := HSs2.out.box
      rw [e2, hb] at this
      injection this with this
      cases this
    have hneg : g ≠ cm := by have h1 := HH.out.crs.lt; have h2 := HGg.out; omega
    have HK17 : Hid (q4.heap[g]? = some (.cells #[.string d.id, .bool d.sale, .bool true, .string d.refers, .int .i64 d.day, .string d.country, .string d.number, .string d.currency, .slice d.linesA d.lines.length d.linesC] 29 (0, 0)) ∧ q4.cell? ⟨P, 1, none⟩ = some (.map (some cm))) := Lib.hid ⟨(hblk g hneg).trans HK16.out.1, (cells2 ((hblk P hneP).trans HD16.out.1)).2⟩
    have HFin : Hid (SetAt q4 base P bm cm (n + 1) (m + 1) (updC V d.refers v) (upd F d.id (some (reL d A c))) (updC C d.refers (C d.refers ++ [d.id])) ∧ Below base q3 q4 ∧ Still q3 q4) := Lib.hid ⟨⟨(hblk P hneP).trans HD16.out.1, HD16.out.2.1.grown hgr (by have := HSs2.out.apart; simp; omega) (fun g' cur hc e2 => by
      injection e2 with e2
      obtain ⟨⟨D, ⟨es, clock, hb, _⟩, _⟩, _⟩ := HSs2.out.crs
      have hq := HO.out.2.1.block cm HSs2.out.crs.lt (fun e3 => by
        obtain ⟨_, cur3, hc3⟩ := (HSs2.out.crs.2.1 d.refers).block e3.symm
        rw [hb] at hc3
        injection hc3 with hc3
        cases hc3)
      rw [e2, hq, hb] at hc
      injection hc with hc
      cases hc), hp, HSs2.out.apart, HSs2.out.ge⟩, ⟨hgr.os, hgr.tape, hgr.output, hgr.size, fun k hk => hblk k (by have := HSs2.out.crs.2.2.2.1; omega)⟩, fun k cs t hc ht => (hblk k (fun e2 => by
      obtain ⟨⟨D, ⟨es, clock, hb, _⟩, _⟩, _⟩ := HSs2.out.crs
      have hq := HO.out.2.1.block cm HSs2.out.crs.lt (fun e3 => by
        obtain ⟨_, cur3, hc3⟩ := (HSs2.out.crs.2.1 d.refers).block e3.symm
        rw [hb] at hc3
        injection hc3 with hc3
        cases hc3)
      rw [e2, hq, hb] at hc
      injection hc with hc
      cases hc)).trans hc⟩
    clear hp hgr hblk hneP hneg
    go_simp
    refine hK.out _ _ (HK17.out) (fun hNew => ?_)
    clear hK K hHeld; (have hHeld := hNew); clear hNew; (try simp only [Act.put])
    refine wpAnyH_done (by kernel_rfl) ?_ _
    clear hHeld HK16 HK17
    go_wp2
    go_ret
    exact ⟨rfl, (HBB.out.trans HBe.out).trans (((HB1.out.mono HSs0.out.crs.2.2.2.2).trans HD16.out.2.2.1).trans HFin.out.2.1), HST.out.trans ((Still.of_below HDr.out).trans ((Still.of_below HB1.out).trans (HD16.out.2.2.2.trans HFin.out.2.2))), A, c, m + 1, _, HFin.out.1, Nat.le_refl _⟩
end Go.Proofs.Ytjanhgekocpobaa
