/- The document's Open. The document's Open where power goes while it wipes. The document's Open where power goes while it wipes. -/
import Derived.Test.YtbbgmjfmpcbpbaaJ42
import Derived.Test.YtbbgmjfmpcbpbaaJ41
namespace Go.Proofs.Ytbbgmjfmpcbpbaa
open Go.RowKit
set_option maxRecDepth 100000
set_option linter.unusedSimpArgs false
set_option linter.unusedVariables false

open Go in
theorem yieldsIf_load_rowE {P : Program} {ops : Array Oper} {S : World → Prop} {op : Oper} {a : Act} (hw : Region.wanted op (yielded ops a.tmps) = true) (ty : TypeId) (x : Operand) (ho : op.op = .load ty x)
    (g : Nat) (hx : a.eval x = .pointer (some ⟨g, 0, none⟩)) (t : TypeId) (cs : Array Value) (fr : Nat × Nat) (d : TypeDesc) (hg : ∀ w, S w → w.heap[g]? = some (.cells cs t fr))
    (hu : P.underlying ty = some d) (hd : (match d with | .struct _ | .array _ _ => true | _ => false) = true) (hi : (P.info? ty).map (·.size) = some cs.size) : YieldsIf P ops S op (.agg cs) a :=
  .inl ⟨hw, fun w hw' => by
    unfold execOp
    simp only [ho, hx, Instr.loadAt, Instr.sureAddr, Sem.run_bind, Sem.run_pure, Result.andThen_ok, run_loadVar_row w g t ty cs fr d (hg w hw') hu hd hi]⟩
theorem results_cell4 {fn : Func} {p u q v : Tmp} {ty ty2 : TypeId} (h : fn.results = #[.cell p ty, .tmp u, .cell q ty2, .tmp v]) (tmps : Array Value) (W : World) (g g2 : Nat) (x y z k : Value) (hp : tmps.getD p undef = .pointer (some ⟨g, 0, none⟩)) (hy : tmps.getD u undef = y) (hq : tmps.getD q undef = .pointer (some ⟨g2, 0, none⟩)) (hk : tmps.getD v undef = k) (hr : (loadVar ty ⟨g, 0, none⟩).run Try.prog W = .ok x W) (hr2 : (loadVar ty2 ⟨g2, 0, none⟩).run Try.prog W = .ok z W) :
    (results fn tmps).run Try.prog W = .ok (.tuple #[x, y, z, k]) W := by
  have hp' : tmps[p]?.getD undef = .pointer (some ⟨g, 0, none⟩) := by simpa [Array.getD_eq_getD_getElem?] using hp
  have hy' : tmps[u]?.getD undef = y := by simpa [Array.getD_eq_getD_getElem?] using hy
  have hq' : tmps[q]?.getD undef = .pointer (some ⟨g2, 0, none⟩) := by simpa [Array.getD_eq_getD_getElem?] using hq
  have hk' : tmps[v]?.getD undef = k := by simpa [Array.getD_eq_getD_getElem?] using hk
  have ha : (asAddr (tmps[p]?.getD undef)).run Try.prog W = .ok ⟨g, 0, none⟩ W := by rw [hp']; rfl
  have hb : (asAddr (tmps[q]?.getD undef)).run Try.prog W = .ok ⟨g2, 0, none⟩ W := by rw [hq']; rfl
  simp [results, h, Sem.run_bind, ha, hb, hr, hr2, hy', hk']
def zeroD : List Value := [.slice none 0 0, .int .i64 0, .int .i64 0, .bool false, .int .i64 0]
def zeroJ : List Value := [.slice none 0 0, .int .i64 0, .int .i64 0, .bool false, .int .i64 0, .int .i64 0, .int .i64 0, .bool false]
theorem one8 : ∀ v ∈ zeroJ, v.oneCell' = true := by
  intro v hv
  simp only [zeroJ, List.mem_cons, List.not_mem_nil, or_false] at hv
  rcases hv with rfl | rfl | rfl | rfl | rfl | rfl | rfl | rfl <;> rfl
theorem load_J (w : World) (g : Nat) (cs : List Value) (hl : cs.length = 8) (t : TypeId) (fr : Nat × Nat) (hg : w.heap[g]? = some (.cells cs.toArray t fr)) : (loadVar 70 ⟨g, 0, none⟩).run Try.prog w = .ok (.agg cs.toArray) w := by
  have hi : (Try.prog.info? 70).map (·.size) = some 8 := by kernel_rfl
  refine run_loadVar_mid w g 0 _ cs _ ?_ Try.underlying70 rfl (by rw [hi, hl])
  have := World.rangeAt_of_block hg 0 8
  have e : (cs.toArray.extract 0 (0 + 8)).toList = cs := by
    simp only [Nat.zero_add, List.extract_toArray, List.extract_eq_take_drop, List.drop_zero, Nat.sub_zero]
    exact List.take_of_length_le (by omega)
  rwa [e] at this
set_option maxHeartbeats 2000000 in
theorem ref_jopen_dead (w : World) (g c : Nat) (tr : Int) (d : DiskV) (h : RefIs w g c tr d) (hd : d.dead = true) :
    Calls Try.prog 34 #[spelt g c tr d] w fun e w' => e = .returned (.tuple #[.agg zeroJ.toArray, .slice none 0 0, spelt g c tr d, .int .i64 32]) ∧ Below w.heap.size w w' := by
  have HE : Hid (Value.agg (refC g c d.many (aftR d) tr true d.writes).toArray = spelt g c tr d) := Lib.hid (by unfold spelt refC; rw [hd])
  rw [← HE.out]
  clear h hd
  generalize aftR d = af at *
  have e3 : (refC g c d.many af tr true d.writes)[3]? = some (.bool true) := rfl
  go_enter Try.func34, Try.ntmps34
  go_wp2
  clear e3
  have q1 := heap_alloc_new w (.cells (refC g c d.many af tr true d.writes).toArray 28)
  have q2 := heap_alloc_new (w.alloc (.cells (refC g c d.many af tr true d.writes).toArray 28)) (.cells zeroJ.toArray 70)
  have q3 := heap_alloc_new ((w.alloc (.cells (refC g c d.many af tr true d.writes).toArray 28)).alloc (.cells zeroJ.toArray 70)) (.cells zeroD.toArray 28)
  rw [World.size_alloc] at q2 q3
  rw [World.size_alloc] at q3
  have HX1 := Lib.hid (heap_on (Below.refl _ _).drew (heap_on (below_alloc _ (.cells zeroD.toArray 28)) (heap_on (below_alloc _ (.cells zeroJ.toArray 70)) q1)))
  have HX2 := Lib.hid (heap_on (Below.refl _ _).drew (heap_on (below_alloc _ (.cells zeroD.toArray 28)) q2))
  have HX4 := Lib.hid (heap_on (Below.refl _ _).drew q3)
  have HBd := Lib.hid (below_then (below_then (below_alloc w (.cells (refC g c d.many af tr true d.writes).toArray 28)) (below_alloc _ (.cells zeroJ.toArray 70))) (below_alloc _ (.cells zeroD.toArray 28))).drew
  clear q1 q2 q3
  refine wp_region_held_drew (S := fun W => W.heap[w.heap.size]? = some (.cells (refC g c d.many af tr true d.writes).toArray 28 (0, 0))) (by kernel_rfl) HX1.out ?_
  intro hHeld
  clear hHeld
  change wpAnyH _ _ _ _ _ _ _ _ (((w.alloc (.cells (refC g c d.many af tr true d.writes).toArray 28)).alloc (.cells zeroJ.toArray 70)).alloc (.cells zeroD.toArray 28)).drew
  generalize (((w.alloc (.cells (refC g c d.many af tr true d.writes).toArray 28)).alloc (.cells zeroJ.toArray 70)).alloc (.cells zeroD.toArray 28)).drew = wd at HX1 HX2 HX4 HBd ⊢
  have hHeld := HX1.out
  (refine takeH (i := 0) (v := ?_) rfl (by kernel_rfl) (by kernel_rfl) (by kernel_rfl) (fun _ _ _ h => h) (Or.inl ⟨by rfl, ?_⟩) (by assumption) ?_; rotate_left; (focus ((intro wS hSw); (try dsimp only at hSw); have s0 := hSw; go_simp; (try with_reducible rfl); done)); (try simp only [Act.put, List.setIfInBounds_toArray, List.set_cons_zero, List.set_cons_succ]))
  (refine takeH (i := 1) (v := (.agg (refC g c d.many af tr true d.writes).toArray)) rfl (by kernel_rfl) (by kernel_rfl) (by kernel_rfl) (fun _ _ _ h => h) (yieldsIf_load_rowE (by rfl) 28 (.tmp 1) rfl w.heap.size rfl 28 (refC g c d.many af tr true d.writes).toArray (0, 0) _ (fun W h => h) Try.underlying28 rfl (by kernel_rfl)) (by assumption) ?_; (try simp only [Act.put, List.setIfInBounds_toArray, List.set_cons_zero, List.set_cons_succ]))
  refine aloneH (i := 2) rfl (by kernel_rfl) (fun K hK => ?_)
  rw [if_pos (by rfl)]
  refine wp_store_row 70 (.tmp 2) (.tmp 13) rfl ((w.heap.size + 1)) rfl zeroJ (by kernel_rfl) one8 rfl zeroJ.toArray rfl _ (HX2.out) ?_
  refine hK.out _ _ ((setRow_other _ _ _ _ (by omega)).trans hHeld) (fun hNew => ?_)
  clear hK K hHeld; (have hHeld := hNew); clear hNew; (try simp only [Act.put])
  (refine takeH (i := 3) (v := ?_) rfl (by kernel_rfl) (by kernel_rfl) (by kernel_rfl) (fun _ _ _ h => h) (Or.inl ⟨by rfl, ?_⟩) (by assumption) ?_; rotate_left; (focus ((intro wS hSw); (try dsimp only at hSw); have s0 := hSw; go_simp; (try with_reducible rfl); done)); (try simp only [Act.put, List.setIfInBounds_toArray, List.set_cons_zero, List.set_cons_succ]))
  refine aloneH (i := 4) rfl (by kernel_rfl) (fun K hK => ?_)
  rw [if_pos (by rfl)]
  refine wp_store_row 28 (.tmp 4) (.tmp 14) rfl ((w.heap.size + 1 + 1)) rfl (refC g c d.many af tr true d.writes) (by kernel_rfl) (one5 _ _ _ _ _ _ _) rfl zeroD.toArray rfl _ ((setRow_other _ _ _ _ (by omega)).trans HX4.out) ?_
  refine hK.out _ _ ((setRow_other _ _ _ _ (by omega)).trans hHeld) (fun hNew => ?_)
  clear hK K hHeld; (have hHeld := hNew); clear hNew; (try simp only [Act.put])
  (refine takeH (i := 5) (v := ?_) rfl (by kernel_rfl) (by kernel_rfl) (by kernel_rfl) (fun _ _ _ h => h) (Or.inl ⟨by rfl, ?_⟩) (by assumption) ?_; rotate_left; (focus ((intro wS hSw); (try dsimp only at hSw); have s0 := hSw; go_simp; (try with_reducible rfl); done)); (try simp only [Act.put, List.setIfInBounds_toArray, List.set_cons_zero, List.set_cons_succ]))
  refine wpAnyH_done (by kernel_rfl) ?_ _
  clear hHeld
  have hJ := (setRow_other _ (w.heap.size + 1 + 1) (w.heap.size + 1) (refC g c d.many af tr true d.writes).toArray (by omega)).trans (setRow_heap _ _ _ _ _ _ HX2.out : (wd.setRow (w.heap.size + 1) zeroJ.toArray).heap[w.heap.size + 1]? = _)
  have hD := setRow_heap _ _ _ (refC g c d.many af tr true d.writes).toArray _ _ ((setRow_other wd (w.heap.size + 1) (w.heap.size + 1 + 1) zeroJ.toArray (by omega)).trans HX4.out)
  go_wp2
  refine bodyPost_ret (results_cell4 rfl _ _ (w.heap.size + 1) (w.heap.size + 1 + 1) _ _ _ _ rfl rfl rfl rfl (load_J _ _ zeroJ rfl _ _ hJ) (load_ref _ _ (refC g c d.many af tr true d.writes) rfl _ _ hD)) rfl ?_
  exact ⟨by rw [HE.out]; rfl, below_setRow (below_setRow HBd.out (by omega) _) (by omega) _⟩
end Go.Proofs.Ytbbgmjfmpcbpbaa

namespace Go.Proofs.Ytbbgmjfmpcbpbaa
open Go.RowKit
set_option maxRecDepth 100000
set_option linter.unusedSimpArgs false
set_option linter.unusedVariables false

theorem wpList_store_rowK {w : World} {ops : Array Oper} {rest : List Oper} {o : Oper} {a : Act} {Q : Exit → Act → World → Prop} (T : TypeId) (hgd : o.guard = none) (x y : Operand) (ho : o.op = .store T x y) (g : Nat) (hx : a.eval x = .pointer (some ⟨g, 0, none⟩)) (vs : List Value)
    (hsz : (Try.prog.info? T).map (·.size) = some vs.length) (h1 : ∀ v ∈ vs, v.oneCell' = true) (hy : a.eval y = .agg vs.toArray) (cur : Array Value) (hc : cur.size = vs.length) (t : TypeId) (hg : w.heap[g]? = some (.cells cur t (0, 0)))
    (h : wpList Try.prog ops Q rest (a.put o.dst undef) (w.setRow g vs.toArray)) : wpList Try.prog ops Q (o :: rest) a w :=
  wpList_plain hgd fun _ hK => wp_store_row T x y ho g hx vs hsz h1 hy cur hc t hg (hK _ _ h)
theorem ref_boxG {W : World} {b6 g c : Nat} {tr : Int} {d : DiskV} (hr : RefIs W g c tr d) (h1 : 1 ≤ d.many) {cs : Array Value} {v0 : Value} {t : TypeId} (h6 : W.heap[b6]? = some (.cells cs t (0, 0))) (h0 : cs[0]? = some v0) (hv : ∀ s, v0 ≠ .string s) : g ≠ b6 := by
  intro e
  subst e
  have hc := hr.1.2 0 (by rw [pagesL_len]; omega)
  have hx := (cell_of_row _ _ 0 _ _ _ h6).trans h0
  rw [hx] at hc
  exact hv _ (Option.some.inj hc)
set_option maxHeartbeats 2000000 in
theorem ref_jopen_cut (w : World) (g c : Nat) (tr : Int) (d : DiskV) (h : RefIs w g c tr d) (hok : OkD d) (hd : d.dead = false) (hm1 : 1 ≤ d.many) (hm : d.many ≤ 1000) (hw : d.writes ≤ 1000000) (h64 : ∀ k, k < d.many → (d.S k).length = 64) (hf : (WX d (findT d.S d.many).2).2.2 ≠ 0) :
    Calls Try.prog 34 #[spelt g c tr d] w fun e w' => ∃ g2 c2 tr2, e = .returned (.tuple #[.agg zeroJ.toArray, .slice none 0 0, spelt g2 c2 tr2 (WX d (findT d.S d.many).2).1, .int .i64 (WX d (findT d.S d.many).2).2.2]) ∧ RefIs w' g2 c2 tr2 (WX d (findT d.S d.many).2).1 ∧ Below w.heap.size w w' := by
  have HM2 : Hid (0 < (WX d (findT d.S d.many).2).1.many) := Lib.hid (by rw [WX_many]; omega)
  have HF : Hid (∀ W, Below w.heap.size w W → Calls Try.prog 16 #[.slice (some ⟨g, 0, none⟩) d.many c] W fun e w' => ∃ A4 c4, e = .returned (.tuple #[.slice A4 (findT d.S d.many).1.length c4, .int .i64 (findT d.S d.many).2]) ∧ Below W.heap.size W w') := Lib.hid (fun W hb => by
    refine (rfind_any W g c tr d (h.below hb) hm h64).mono ?_
    rintro e w' ⟨A4, c4, rfl, _, hb2⟩
    exact ⟨A4, c4, rfl, hb2⟩)
  have HE : Hid (Value.agg (refC g c d.many (aftR d) tr false d.writes).toArray = spelt g c tr d) := Lib.hid (by unfold spelt refC; rw [hd])
  have HW : Hid (∀ W, Below w.heap.size w W → Calls Try.prog 23 #[.agg (refC g c d.many (aftR d) tr false d.writes).toArray, .int .i64 (findT d.S d.many).2] W fun e w' => ∃ g2 c2 tr2, e = .returned (.tuple #[spelt g2 c2 tr2 (WX d (findT d.S d.many).2).1, .int .i64 ((WX d (findT d.S d.many).2).2.1 : Nat), .int .i64 (WX d (findT d.S d.many).2).2.2]) ∧ RefIs w' g2 c2 tr2 (WX d (findT d.S d.many).2).1 ∧ Below W.heap.size W w') := Lib.hid (fun W hb => by
    rw [HE.out]
    exact rwipe_any W g c tr d _ (h.below hb) hok hm1 hm hw h64)
  rw [← HE.out]
  clear h hok hd hm1 hm hw h64 HE
  generalize (WX d (findT d.S d.many).2).2.2 = f at *
  generalize (WX d (findT d.S d.many).2).2.1 = nw at *
  generalize (WX d (findT d.S d.many).2).1 = d2 at *
  generalize (findT d.S d.many).1.length = lx at *
  generalize (findT d.S d.many).2 = t at *
  generalize aftR d = af at *
  have hq : (f != 0) = true := by simp [hf]
  have e3 : (refC g c d.many af tr false d.writes)[3]? = some (.bool false) := rfl
  have e0 : (refC g c d.many af tr false d.writes)[0]? = some (.slice (some ⟨g, 0, none⟩) d.many c) := rfl
  have q1 := heap_alloc_new w (.cells (refC g c d.many af tr false d.writes).toArray 28)
  have q2 := heap_alloc_new (w.alloc (.cells (refC g c d.many af tr false d.writes).toArray 28)) (.cells zeroJ.toArray 70)
  have q3 := heap_alloc_new ((w.alloc (.cells (refC g c d.many af tr false d.writes).toArray 28)).alloc (.cells zeroJ.toArray 70)) (.cells zeroD.toArray 28)
  rw [World.size_alloc] at q2 q3
  rw [World.size_alloc] at q3
  have HX1 := Lib.hid (heap_on (below_alloc _ (.cells zeroD.toArray 28)) (heap_on (below_alloc _ (.cells zeroJ.toArray 70)) q1))
  have HX2 := Lib.hid (heap_on (below_alloc _ (.cells zeroD.toArray 28)) q2)
  have HX4 := Lib.hid q3
  have HB0 := Lib.hid (below_then (below_then (below_alloc w (.cells (refC g c d.many af tr false d.writes).toArray 28)) (below_alloc _ (.cells zeroJ.toArray 70))) (below_alloc _ (.cells zeroD.toArray 28)))
  clear q1 q2 q3 hf
  go_enter Try.func34, Try.ntmps34
  go_wp2_with (first
    | (go_at_call 16; refine (HF.out _ HB0.out).mono ?_; rintro e w1 ⟨A4, c4, rfl, hb⟩; have HY1 := Lib.hid (heap_on hb HX1.out); have HY2 := Lib.hid (heap_on hb HX2.out); have HY4 := Lib.hid (heap_on hb HX4.out); have HB1 := Lib.hid (below_then HB0.out hb); clear hb; refine Stop.out ?_))
  unfold Stop
  clear e3 e0 HX1 HX2 HX4
  go_wp2_with (first
    | ((with_reducible refine wpList_load_row (o := ⟨some 22, _, _, _, _, _⟩) ?a1 28 (.tmp 1) ?a2 w.heap.size ?a3 28 (refC g c d.many af tr false d.writes).toArray (0, 0) _ HY1.out Try.underlying28 ?a4 (by kernel_rfl) ?_); (case a1 => rfl); (case a2 => rfl); (case a3 => rfl); (case a4 => rfl); refine Stop.out ?_))
  unfold Stop
  go_wp2_with (first
    | (go_at_call 23; refine (HW.out _ HB1.out).mono ?_; rintro e w2 ⟨g2, c2, tr2, rfl, hr, hb⟩; have HZ2 := Lib.hid (heap_on hb HY2.out); have HZ4 := Lib.hid (heap_on hb HY4.out); have HR2 := Lib.hid hr; have HB2 := Lib.hid (below_then HB1.out hb); clear hr hb; refine Stop.out ?_))
  unfold Stop
  have HE2 : Hid (Value.agg (refC g2 c2 d2.many (aftR d2) tr2 d2.dead d2.writes).toArray = spelt g2 c2 tr2 d2) := Lib.hid (by unfold spelt refC; rfl)
  rw [← HE2.out]
  have HG8 := Lib.hid (heap_alloc_new w2 (.cells #[Value.slice none 0 0, Value.int IntKind.i64 0, Value.int IntKind.i64 0, Value.bool false, Value.int IntKind.i64 0] 28))
  have HN8 : Hid (w2.heap.size ≠ w.heap.size + 1 ∧ w2.heap.size ≠ w.heap.size + 1 + 1) := Lib.hid (by have h1 := heapLt HZ2.out; have h2 := heapLt HZ4.out; omega)
  go_wp2_with (first
    | ((with_reducible refine wpList_store_rowK 28 (o := ⟨none, _, _, _, _, _⟩) ?b1 (.tmp 8) (.tmp 25) ?b2 w2.heap.size ?b3 (refC g2 c2 d2.many (aftR d2) tr2 d2.dead d2.writes) ?b4 ?b7 ?b5 #[Value.slice none 0 0, Value.int IntKind.i64 0, Value.int IntKind.i64 0, Value.bool false, Value.int IntKind.i64 0] ?b6 _ HG8.out ?_); (case b1 => rfl); (case b2 => rfl); (case b3 => rfl); (case b4 => kernel_rfl); (case b5 => rfl); (case b6 => rfl); (case b7 => exact one5 _ _ _ _ _ _ _); refine Stop.out ?_))
  unfold Stop
  go_wp2
  have hR8 := HR2.out.below (below_alloc w2 (.cells #[Value.slice none 0 0, Value.int IntKind.i64 0, Value.int IntKind.i64 0, Value.bool false, Value.int IntKind.i64 0] 28))
  have HRd := Lib.hid (((hR8.setRow (refC g2 c2 d2.many (aftR d2) tr2 d2.dead d2.writes).toArray (ref_box hR8 HM2.out HG8.out (fun s e => by cases e)))).below (Below.refl _ _).drew)
  have HX8 := Lib.hid (heap_on (Below.refl _ _).drew (setRow_heap _ _ _ (refC g2 c2 d2.many (aftR d2) tr2 d2.dead d2.writes).toArray _ _ HG8.out))
  have HX2 := Lib.hid (heap_on (Below.refl _ _).drew ((setRow_other _ w2.heap.size _ (refC g2 c2 d2.many (aftR d2) tr2 d2.dead d2.writes).toArray HN8.out.1.symm).trans (heap_on (below_alloc w2 (.cells #[Value.slice none 0 0, Value.int IntKind.i64 0, Value.int IntKind.i64 0, Value.bool false, Value.int IntKind.i64 0] 28)) HZ2.out)))
  have HX4 := Lib.hid (heap_on (Below.refl _ _).drew ((setRow_other _ w2.heap.size _ (refC g2 c2 d2.many (aftR d2) tr2 d2.dead d2.writes).toArray HN8.out.2.symm).trans (heap_on (below_alloc w2 (.cells #[Value.slice none 0 0, Value.int IntKind.i64 0, Value.int IntKind.i64 0, Value.bool false, Value.int IntKind.i64 0] 28)) HZ4.out)))
  have HBd := Lib.hid (below_setRow (below_then HB2.out (below_alloc w2 (.cells #[Value.slice none 0 0, Value.int IntKind.i64 0, Value.int IntKind.i64 0, Value.bool false, Value.int IntKind.i64 0] 28))) HB2.out.size (refC g2 c2 d2.many (aftR d2) tr2 d2.dead d2.writes).toArray).drew
  clear hR8 HG8
  refine wp_region_held_drew (S := fun W => W.heap[w2.heap.size]? = some (.cells (refC g2 c2 d2.many (aftR d2) tr2 d2.dead d2.writes).toArray 28 (0, 0))) (by kernel_rfl) HX8.out ?_
  intro hHeld
  clear hHeld
  generalize ((w2.alloc (.cells #[Value.slice none 0 0, Value.int IntKind.i64 0, Value.int IntKind.i64 0, Value.bool false, Value.int IntKind.i64 0] 28)).setRow w2.heap.size (refC g2 c2 d2.many (aftR d2) tr2 d2.dead d2.writes).toArray).drew = wd at HRd HX8 HX2 HX4 HBd ⊢
  have hHeld := HX8.out
  obtain ⟨b8, hb8⟩ : ∃ b8, b8 = w2.heap.size := ⟨_, rfl⟩
  rw [← hb8] at hHeld HN8 ⊢
  clear hb8 HX8 HZ2 HZ4 HR2 HB2 HY1 HY2 HY4 HB1 HB0
  (refine takeH (i := 0) (v := ?_) rfl (by kernel_rfl) (by kernel_rfl) (by kernel_rfl) (fun _ _ _ h => h) (Or.inl ⟨by rfl, ?_⟩) (by assumption) ?_; rotate_left; (focus ((intro wS hSw); (try dsimp only at hSw); have s0 := hSw; go_simp; (try with_reducible rfl); done)); (try simp only [Act.put, List.setIfInBounds_toArray, List.set_cons_zero, List.set_cons_succ]))
  (refine takeH (i := 1) (v := (.agg (refC g2 c2 d2.many (aftR d2) tr2 d2.dead d2.writes).toArray)) rfl (by kernel_rfl) (by kernel_rfl) (by kernel_rfl) (fun _ _ _ h => h) (yieldsIf_load_rowE (by rfl) 28 (.tmp 8) rfl b8 rfl 28 (refC g2 c2 d2.many (aftR d2) tr2 d2.dead d2.writes).toArray (0, 0) _ (fun W h => h) Try.underlying28 rfl (by kernel_rfl)) (by assumption) ?_; (try simp only [Act.put, List.setIfInBounds_toArray, List.set_cons_zero, List.set_cons_succ]))
  (refine takeH (i := 2) (v := ?_) rfl (by kernel_rfl) (by kernel_rfl) (by kernel_rfl) (fun _ _ _ h => h) (Or.inl ⟨by rfl, ?_⟩) (by assumption) ?_; rotate_left; (focus ((intro wS hSw); (try dsimp only at hSw); have s0 := hSw; go_simp; (try with_reducible rfl); done)); (try simp only [Act.put, List.setIfInBounds_toArray, List.set_cons_zero, List.set_cons_succ]))
  refine aloneH (i := 3) rfl (by kernel_rfl) (fun K hK => ?_)
  rw [if_pos (by rfl)]
  refine wp_store_row 70 (.tmp 2) (.tmp 30) rfl (w.heap.size + 1) rfl zeroJ (by kernel_rfl) one8 rfl zeroJ.toArray rfl _ (HX2.out) ?_
  refine hK.out _ _ ((setRow_other _ _ _ _ HN8.out.1).trans hHeld) (fun hNew => ?_)
  clear hK K hHeld; (have hHeld := hNew); clear hNew; (try simp only [Act.put])
  (refine takeH (i := 4) (v := ?_) rfl (by kernel_rfl) (by kernel_rfl) (by kernel_rfl) (fun _ _ _ h => h) (Or.inl ⟨by rfl, ?_⟩) (by assumption) ?_; rotate_left; (focus ((intro wS hSw); (try dsimp only at hSw); have s0 := hSw; go_simp; (try with_reducible rfl); done)); (try simp only [Act.put, List.setIfInBounds_toArray, List.set_cons_zero, List.set_cons_succ]))
  refine aloneH (i := 5) rfl (by kernel_rfl) (fun K hK => ?_)
  rw [if_pos (by rfl)]
  refine wp_store_row 28 (.tmp 4) (.tmp 31) rfl (w.heap.size + 1 + 1) rfl (refC g2 c2 d2.many (aftR d2) tr2 d2.dead d2.writes) (by kernel_rfl) (one5 _ _ _ _ _ _ _) rfl zeroD.toArray rfl _ ((setRow_other _ _ _ _ (by omega)).trans HX4.out) ?_
  refine hK.out _ _ ((setRow_other _ _ _ _ HN8.out.2).trans hHeld) (fun hNew => ?_)
  clear hK K hHeld; (have hHeld := hNew); clear hNew; (try simp only [Act.put])
  (refine takeH (i := 6) (v := ?_) rfl (by kernel_rfl) (by kernel_rfl) (by kernel_rfl) (fun _ _ _ h => h) (Or.inl ⟨by rfl, ?_⟩) (by assumption) ?_; rotate_left; (focus ((intro wS hSw); (try dsimp only at hSw); have s0 := hSw; go_simp; (try with_reducible rfl); done)); (try simp only [Act.put, List.setIfInBounds_toArray, List.set_cons_zero, List.set_cons_succ]))
  refine wpAnyH_done (by kernel_rfl) ?_ _
  clear hHeld
  have hJ := (setRow_other _ (w.heap.size + 1 + 1) (w.heap.size + 1) (refC g2 c2 d2.many (aftR d2) tr2 d2.dead d2.writes).toArray (by omega)).trans (setRow_heap _ _ _ _ _ _ HX2.out : (wd.setRow (w.heap.size + 1) zeroJ.toArray).heap[w.heap.size + 1]? = _)
  have hD := setRow_heap _ _ _ (refC g2 c2 d2.many (aftR d2) tr2 d2.dead d2.writes).toArray _ _ ((setRow_other wd (w.heap.size + 1) (w.heap.size + 1 + 1) zeroJ.toArray (by omega)).trans HX4.out)
  have hs1 := HRd.out.setRow zeroJ.toArray (ref_boxG HRd.out HM2.out HX2.out (v0 := .slice none 0 0) rfl (fun s e => by cases e))
  have HR9 := Lib.hid (hs1.setRow (refC g2 c2 d2.many (aftR d2) tr2 d2.dead d2.writes).toArray (ref_boxG hs1 HM2.out ((setRow_other wd (w.heap.size + 1) (w.heap.size + 1 + 1) zeroJ.toArray (by omega)).trans HX4.out) (v0 := .slice none 0 0) rfl (fun s e => by cases e)))
  clear hs1
  go_wp2
  refine bodyPost_ret (results_cell4 rfl _ _ (w.heap.size + 1) (w.heap.size + 1 + 1) _ _ _ _ rfl rfl rfl rfl (load_J _ _ zeroJ rfl _ _ hJ) (load_ref _ _ (refC g2 c2 d2.many (aftR d2) tr2 d2.dead d2.writes) rfl _ _ hD)) rfl ?_
  exact ⟨g2, c2, tr2, by rw [← HE2.out]; rfl, HR9.out, below_setRow (below_setRow HBd.out (by omega) _) (by omega) _⟩
end Go.Proofs.Ytbbgmjfmpcbpbaa

namespace Go.Proofs.Ytbbgmjfmpcbpbaa
open Go.RowKit
set_option maxRecDepth 100000
set_option linter.unusedSimpArgs false
set_option linter.unusedVariables false

/-- the cells of a journal of the document's -/
def jC (g c m : Nat) (af tr : Int) (dead : Bool) (wr : Int) (n t : Nat) : List Value := [.slice (some ⟨g, 0, none⟩) m c, .int .i64 af, .int .i64 tr, .bool dead, .int .i64 wr, .int .i64 n, .int .i64 t, .bool false]
theorem one8J (g c m : Nat) (af tr : Int) (dead : Bool) (wr : Int) (n t : Nat) : ∀ v ∈ jC g c m af tr dead wr n t, v.oneCell' = true := by
  intro v hv
  simp only [jC, List.mem_cons, List.not_mem_nil, or_false] at hv
  rcases hv with rfl | rfl | rfl | rfl | rfl | rfl | rfl | rfl <;> rfl
theorem SecsAt.row {w : World} {A : Option Addr} {c b' : Nat} {L : List Text} {u : Array Value} (h : SecsAt w A c L) (hg : ∀ g, A = some ⟨g, 0, none⟩ → g ≠ b') {cs : Array Value} {v0 : Value} {t : TypeId} (h6 : w.heap[b']? = some (.cells cs t (0, 0))) (h0 : cs[0]? = some v0) (hv : ∀ k x, v0 ≠ .int k x) : SecsAt (w.setRow b' u) A c L := by
  rcases h with h | ⟨g, e, h, h'⟩
  · exact .inl h
  · refine .inr ⟨g, e, fun j hj => ?_, h'⟩
    obtain ⟨b, cb, q1, q2, q3, q4, q5, q6⟩ := h j hj
    have hb : b ≠ b' := by
      rintro rfl
      have hx := (cell_of_row _ _ 0 _ _ _ h6).trans h0
      have hy := q4 0 (cellOf L[j][0]) (by rw [List.getElem?_map, List.getElem?_eq_getElem q6]; rfl)
      rw [Nat.zero_add, hx] at hy
      exact hv _ _ (Option.some.inj hy)
    exact ⟨b, cb, cell_setRow (hg g e) q1, q2, q3, range_setRow hb q4, by simpa [World.setRow] using q5, q6⟩
set_option maxHeartbeats 2000000 in
theorem ref_jopen_yes (w : World) (g c : Nat) (tr : Int) (d : DiskV) (h : RefIs w g c tr d) (hok : OkD d) (hd : d.dead = false) (hm1 : 1 ≤ d.many) (hm : d.many ≤ 1000) (hw : d.writes ≤ 1000000) (h64 : ∀ k, k < d.many → (d.S k).length = 64) (hf : (WX d (findT d.S d.many).2).2.2 = 0) :
    Calls Try.prog 34 #[spelt g c tr d] w fun e w' => ∃ g2 c2 tr2 A4 c4, e = .returned (.tuple #[.agg (jC g2 c2 (WX d (findT d.S d.many).2).1.many (aftR (WX d (findT d.S d.many).2).1) tr2 (WX d (findT d.S d.many).2).1.dead (WX d (findT d.S d.many).2).1.writes (findT d.S d.many).1.length (findT d.S d.many).2).toArray, .slice A4 (findT d.S d.many).1.length c4, spelt g2 c2 tr2 (WX d (findT d.S d.many).2).1, .int .i64 0]) ∧ RefIs w' g2 c2 tr2 (WX d (findT d.S d.many).2).1 ∧ SecsAt w' A4 c4 (findT d.S d.many).1 ∧ Below w.heap.size w w' := by
  have HM2 : Hid (0 < (WX d (findT d.S d.many).2).1.many) := Lib.hid (by rw [WX_many]; omega)
  have HF : Hid (∀ W, Below w.heap.size w W → Calls Try.prog 16 #[.slice (some ⟨g, 0, none⟩) d.many c] W fun e w' => ∃ A4 c4, e = .returned (.tuple #[.slice A4 (findT d.S d.many).1.length c4, .int .i64 (findT d.S d.many).2]) ∧ SecsAt w' A4 c4 (findT d.S d.many).1 ∧ (∀ g5, A4 = some ⟨g5, 0, none⟩ → W.heap.size ≤ g5) ∧ Below W.heap.size W w') := Lib.hid (fun W hb => by
    refine (ref_find W g c d.many d.S hm h64 (fun j hj => by
      have := (h.below hb).1.2 j (by rw [pagesL_len]; exact hj)
      rwa [pagesL_at] at this) (h.below hb).1.1).mono ?_
    rintro e w' ⟨v, rfl, ho, hb2⟩
    have hx := ho
    obtain ⟨A4, c4, rfl, hs⟩ := ho.secs
    refine ⟨A4, c4, rfl, hs, fun g5 e5 => ?_, hb2⟩
    subst e5
    obtain ⟨xs, h1, _⟩ := hx
    rcases h1.2 with ⟨e6, _⟩ | ⟨g6, c6, cur, e6, hB, _⟩
    · cases e6
    · injection e6 with e6
      injection e6 with e6
      injection e6 with e6
      omega)
  have HE : Hid (Value.agg (refC g c d.many (aftR d) tr false d.writes).toArray = spelt g c tr d) := Lib.hid (by unfold spelt refC; rw [hd])
  have HW : Hid (∀ W, Below w.heap.size w W → Calls Try.prog 23 #[.agg (refC g c d.many (aftR d) tr false d.writes).toArray, .int .i64 (findT d.S d.many).2] W fun e w' => ∃ g2 c2 tr2, e = .returned (.tuple #[spelt g2 c2 tr2 (WX d (findT d.S d.many).2).1, .int .i64 ((WX d (findT d.S d.many).2).2.1 : Nat), .int .i64 (WX d (findT d.S d.many).2).2.2]) ∧ RefIs w' g2 c2 tr2 (WX d (findT d.S d.many).2).1 ∧ Below W.heap.size W w') := Lib.hid (fun W hb => by
    rw [HE.out]
    exact rwipe_any W g c tr d _ (h.below hb) hok hm1 hm hw h64)
  rw [← HE.out]
  clear h hok hd hm1 hm hw h64 HE
  generalize (WX d (findT d.S d.many).2).2.2 = f at *
  generalize (WX d (findT d.S d.many).2).2.1 = nw at *
  generalize (WX d (findT d.S d.many).2).1 = d2 at *
  generalize (findT d.S d.many).1 = X at *
  obtain ⟨lx, hlx⟩ : ∃ lx, lx = X.length := ⟨_, rfl⟩
  rw [← hlx] at HF ⊢
  clear hlx
  generalize (findT d.S d.many).2 = t at *
  generalize aftR d = af at *
  subst hf
  have e3 : (refC g c d.many af tr false d.writes)[3]? = some (.bool false) := rfl
  have e0 : (refC g c d.many af tr false d.writes)[0]? = some (.slice (some ⟨g, 0, none⟩) d.many c) := rfl
  have q1 := heap_alloc_new w (.cells (refC g c d.many af tr false d.writes).toArray 28)
  have q2 := heap_alloc_new (w.alloc (.cells (refC g c d.many af tr false d.writes).toArray 28)) (.cells zeroJ.toArray 70)
  have q3 := heap_alloc_new ((w.alloc (.cells (refC g c d.many af tr false d.writes).toArray 28)).alloc (.cells zeroJ.toArray 70)) (.cells zeroD.toArray 28)
  rw [World.size_alloc] at q2 q3
  rw [World.size_alloc] at q3
  have HX1 := Lib.hid (heap_on (below_alloc _ (.cells zeroD.toArray 28)) (heap_on (below_alloc _ (.cells zeroJ.toArray 70)) q1))
  have HX2 := Lib.hid (heap_on (below_alloc _ (.cells zeroD.toArray 28)) q2)
  have HX4 := Lib.hid q3
  have HB0 := Lib.hid (below_then (below_then (below_alloc w (.cells (refC g c d.many af tr false d.writes).toArray 28)) (below_alloc _ (.cells zeroJ.toArray 70))) (below_alloc _ (.cells zeroD.toArray 28)))
  clear q1 q2 q3
  go_enter Try.func34, Try.ntmps34
  go_wp2_with (first
    | (go_at_call 16; refine (HF.out _ HB0.out).mono ?_; rintro e w1 ⟨A4, c4, rfl, hs5, hg5, hb⟩; have HS1 := Lib.hid hs5; have HG5 : Hid (∀ g5, A4 = some ⟨g5, 0, none⟩ → w.heap.size + 3 ≤ g5) := Lib.hid (fun g5 e5 => by have := hg5 g5 e5; rw [World.size_alloc, World.size_alloc, World.size_alloc] at this; omega); clear hs5 hg5; have HY1 := Lib.hid (heap_on hb HX1.out); have HY2 := Lib.hid (heap_on hb HX2.out); have HY4 := Lib.hid (heap_on hb HX4.out); have HB1 := Lib.hid (below_then HB0.out hb); clear hb; refine Stop.out ?_))
  unfold Stop
  clear e3 e0 HX1 HX2 HX4
  go_wp2_with (first
    | ((with_reducible refine wpList_load_row (o := ⟨some 22, _, _, _, _, _⟩) ?a1 28 (.tmp 1) ?a2 w.heap.size ?a3 28 (refC g c d.many af tr false d.writes).toArray (0, 0) _ HY1.out Try.underlying28 ?a4 (by kernel_rfl) ?_); (case a1 => rfl); (case a2 => rfl); (case a3 => rfl); (case a4 => rfl); refine Stop.out ?_))
  unfold Stop
  go_wp2_with (first
    | (go_at_call 23; refine (HW.out _ HB1.out).mono ?_; rintro e w2 ⟨g2, c2, tr2, rfl, hr, hb⟩; have HZ2 := Lib.hid (heap_on hb HY2.out); have HZ4 := Lib.hid (heap_on hb HY4.out); have HS2 := Lib.hid (HS1.out.on hb); have HR2 := Lib.hid hr; have HB2 := Lib.hid (below_then HB1.out hb); clear hr hb; refine Stop.out ?_))
  unfold Stop
  have HE2 : Hid (Value.agg (refC g2 c2 d2.many (aftR d2) tr2 d2.dead d2.writes).toArray = spelt g2 c2 tr2 d2) := Lib.hid (by unfold spelt refC; rfl)
  rw [← HE2.out]
  have HG8 := Lib.hid (heap_alloc_new w2 (.cells #[Value.slice none 0 0, Value.int IntKind.i64 0, Value.int IntKind.i64 0, Value.bool false, Value.int IntKind.i64 0] 28))
  have HN8 : Hid (w2.heap.size ≠ w.heap.size + 1 ∧ w2.heap.size ≠ w.heap.size + 1 + 1) := Lib.hid (by have h1 := heapLt HZ2.out; have h2 := heapLt HZ4.out; omega)
  go_wp2_with (first
    | ((with_reducible refine wpList_store_rowK 28 (o := ⟨none, _, _, _, _, _⟩) ?b1 (.tmp 8) (.tmp 25) ?b2 w2.heap.size ?b3 (refC g2 c2 d2.many (aftR d2) tr2 d2.dead d2.writes) ?b4 ?b7 ?b5 #[Value.slice none 0 0, Value.int IntKind.i64 0, Value.int IntKind.i64 0, Value.bool false, Value.int IntKind.i64 0] ?b6 _ HG8.out ?_); (case b1 => rfl); (case b2 => rfl); (case b3 => rfl); (case b4 => kernel_rfl); (case b5 => rfl); (case b6 => rfl); (case b7 => exact one5 _ _ _ _ _ _ _); refine Stop.out ?_))
  unfold Stop
  go_wp2
  have hR8 := HR2.out.below (below_alloc w2 (.cells #[Value.slice none 0 0, Value.int IntKind.i64 0, Value.int IntKind.i64 0, Value.bool false, Value.int IntKind.i64 0] 28))
  have HRd := Lib.hid (((hR8.setRow (refC g2 c2 d2.many (aftR d2) tr2 d2.dead d2.writes).toArray (ref_box hR8 HM2.out HG8.out (fun s e => by cases e)))).below (Below.refl _ _).drew)
  have HSd := Lib.hid ((HS2.out.on (below_setRow (below_alloc w2 (.cells #[Value.slice none 0 0, Value.int IntKind.i64 0, Value.int IntKind.i64 0, Value.bool false, Value.int IntKind.i64 0] 28)) (Nat.le_refl _) (refC g2 c2 d2.many (aftR d2) tr2 d2.dead d2.writes).toArray)).on (Below.refl _ _).drew)
  have HX8 := Lib.hid (heap_on (Below.refl _ _).drew (setRow_heap _ _ _ (refC g2 c2 d2.many (aftR d2) tr2 d2.dead d2.writes).toArray _ _ HG8.out))
  have HX2 := Lib.hid (heap_on (Below.refl _ _).drew ((setRow_other _ w2.heap.size _ (refC g2 c2 d2.many (aftR d2) tr2 d2.dead d2.writes).toArray HN8.out.1.symm).trans (heap_on (below_alloc w2 (.cells #[Value.slice none 0 0, Value.int IntKind.i64 0, Value.int IntKind.i64 0, Value.bool false, Value.int IntKind.i64 0] 28)) HZ2.out)))
  have HX4 := Lib.hid (heap_on (Below.refl _ _).drew ((setRow_other _ w2.heap.size _ (refC g2 c2 d2.many (aftR d2) tr2 d2.dead d2.writes).toArray HN8.out.2.symm).trans (heap_on (below_alloc w2 (.cells #[Value.slice none 0 0, Value.int IntKind.i64 0, Value.int IntKind.i64 0, Value.bool false, Value.int IntKind.i64 0] 28)) HZ4.out)))
  have HBd := Lib.hid (below_setRow (below_then HB2.out (below_alloc w2 (.cells #[Value.slice none 0 0, Value.int IntKind.i64 0, Value.int IntKind.i64 0, Value.bool false, Value.int IntKind.i64 0] 28))) HB2.out.size (refC g2 c2 d2.many (aftR d2) tr2 d2.dead d2.writes).toArray).drew
  clear hR8 HG8
  refine wp_region_held_drew (S := fun W => W.heap[w2.heap.size]? = some (.cells (refC g2 c2 d2.many (aftR d2) tr2 d2.dead d2.writes).toArray 28 (0, 0))) (by kernel_rfl) HX8.out ?_
  intro hHeld
  clear hHeld
  generalize ((w2.alloc (.cells #[Value.slice none 0 0, Value.int IntKind.i64 0, Value.int IntKind.i64 0, Value.bool false, Value.int IntKind.i64 0] 28)).setRow w2.heap.size (refC g2 c2 d2.many (aftR d2) tr2 d2.dead d2.writes).toArray).drew = wd at HSd HRd HX8 HX2 HX4 HBd ⊢
  have hHeld := HX8.out
  obtain ⟨b8, hb8⟩ : ∃ b8, b8 = w2.heap.size := ⟨_, rfl⟩
  rw [← hb8] at hHeld HN8 ⊢
  clear hb8 HX8 HZ2 HZ4 HR2 HB2 HY1 HY2 HY4 HB1 HB0
  (refine takeH (i := 0) (v := (.agg (refC g2 c2 d2.many (aftR d2) tr2 d2.dead d2.writes).toArray)) rfl (by kernel_rfl) (by kernel_rfl) (by kernel_rfl) (fun _ _ _ h => h) (yieldsIf_load_rowE (by rfl) 28 (.tmp 8) rfl b8 rfl 28 (refC g2 c2 d2.many (aftR d2) tr2 d2.dead d2.writes).toArray (0, 0) _ (fun W h => h) Try.underlying28 rfl (by kernel_rfl)) (by assumption) ?_; (try simp only [Act.put, List.setIfInBounds_toArray, List.set_cons_zero, List.set_cons_succ]))
  (refine takeH (i := 1) (v := ?_) rfl (by kernel_rfl) (by kernel_rfl) (by kernel_rfl) (fun _ _ _ h => h) (Or.inl ⟨by rfl, ?_⟩) (by assumption) ?_; rotate_left; (focus ((intro wS hSw); (try dsimp only at hSw); have s0 := hSw; go_simp; (try with_reducible rfl); done)); (try simp only [Act.put, List.setIfInBounds_toArray, List.set_cons_zero, List.set_cons_succ]))
  (refine takeH (i := 2) (v := ?_) rfl (by kernel_rfl) (by kernel_rfl) (by kernel_rfl) (fun _ _ _ h => h) (Or.inl ⟨by rfl, ?_⟩) (by assumption) ?_; rotate_left; (focus ((intro wS hSw); (try dsimp only at hSw); have s0 := hSw; go_simp; (try with_reducible rfl); done)); (try simp only [Act.put, List.setIfInBounds_toArray, List.set_cons_zero, List.set_cons_succ]))
  (refine takeH (i := 3) (v := ?_) rfl (by kernel_rfl) (by kernel_rfl) (by kernel_rfl) (fun _ _ _ h => h) (Or.inl ⟨by rfl, ?_⟩) (by assumption) ?_; rotate_left; (focus ((intro wS hSw); (try dsimp only at hSw); have s0 := hSw; go_simp; (try with_reducible rfl); done)); (try simp only [Act.put, List.setIfInBounds_toArray, List.set_cons_zero, List.set_cons_succ]))
  (refine takeH (i := 4) (v := (.agg (jC g2 c2 d2.many (aftR d2) tr2 d2.dead d2.writes lx t).toArray)) rfl (by kernel_rfl) (by kernel_rfl) (by kernel_rfl) (fun _ _ _ h => h) (Or.inl ⟨by rfl, by (intro wS hSw; clear hSw; unfold refC jC; go_simp; (try rfl))⟩) (by assumption) ?_; (try simp only [Act.put, List.setIfInBounds_toArray, List.set_cons_zero, List.set_cons_succ]))
  (refine takeH (i := 5) (v := ?_) rfl (by kernel_rfl) (by kernel_rfl) (by kernel_rfl) (fun _ _ _ h => h) (Or.inl ⟨by rfl, ?_⟩) (by assumption) ?_; rotate_left; (focus ((intro wS hSw); (try dsimp only at hSw); have s0 := hSw; go_simp; (try with_reducible rfl); done)); (try simp only [Act.put, List.setIfInBounds_toArray, List.set_cons_zero, List.set_cons_succ]))
  (refine takeH (i := 6) (v := (.agg (refC g2 c2 d2.many (aftR d2) tr2 d2.dead d2.writes).toArray)) rfl (by kernel_rfl) (by kernel_rfl) (by kernel_rfl) (fun _ _ _ h => h) (yieldsIf_load_rowE (by rfl) 28 (.tmp 8) rfl b8 rfl 28 (refC g2 c2 d2.many (aftR d2) tr2 d2.dead d2.writes).toArray (0, 0) _ (fun W h => h) Try.underlying28 rfl (by kernel_rfl)) (by assumption) ?_; (try simp only [Act.put, List.setIfInBounds_toArray, List.set_cons_zero, List.set_cons_succ]))
  refine aloneH (i := 7) rfl (by kernel_rfl) (fun K hK => ?_)
  rw [if_pos (by rfl)]
  refine wp_store_row 70 (.tmp 2) (.tmp 37) rfl (w.heap.size + 1) rfl (jC g2 c2 d2.many (aftR d2) tr2 d2.dead d2.writes lx t) (by kernel_rfl) (one8J _ _ _ _ _ _ _ _ _) rfl zeroJ.toArray rfl _ (HX2.out) ?_
  refine hK.out _ _ ((setRow_other _ _ _ _ HN8.out.1).trans hHeld) (fun hNew => ?_)
  clear hK K hHeld; (have hHeld := hNew); clear hNew; (try simp only [Act.put])
  (refine takeH (i := 8) (v := ?_) rfl (by kernel_rfl) (by kernel_rfl) (by kernel_rfl) (fun _ _ _ h => h) (Or.inl ⟨by rfl, ?_⟩) (by assumption) ?_; rotate_left; (focus ((intro wS hSw); (try dsimp only at hSw); have s0 := hSw; go_simp; (try with_reducible rfl); done)); (try simp only [Act.put, List.setIfInBounds_toArray, List.set_cons_zero, List.set_cons_succ]))
  refine aloneH (i := 9) rfl (by kernel_rfl) (fun K hK => ?_)
  rw [if_pos (by rfl)]
  refine wp_store_row 28 (.tmp 4) (.tmp 39) rfl (w.heap.size + 1 + 1) rfl (refC g2 c2 d2.many (aftR d2) tr2 d2.dead d2.writes) (by kernel_rfl) (one5 _ _ _ _ _ _ _) rfl zeroD.toArray rfl _ ((setRow_other _ _ _ _ (by omega)).trans HX4.out) ?_
  refine hK.out _ _ ((setRow_other _ _ _ _ HN8.out.2).trans hHeld) (fun hNew => ?_)
  clear hK K hHeld; (have hHeld := hNew); clear hNew; (try simp only [Act.put])
  (refine takeH (i := 10) (v := ?_) rfl (by kernel_rfl) (by kernel_rfl) (by kernel_rfl) (fun _ _ _ h => h) (Or.inl ⟨by rfl, ?_⟩) (by assumption) ?_; rotate_left; (focus ((intro wS hSw); (try dsimp only at hSw); have s0 := hSw; go_simp; (try with_reducible rfl); done)); (try simp only [Act.put, List.setIfInBounds_toArray, List.set_cons_zero, List.set_cons_succ]))
  refine wpAnyH_done (by kernel_rfl) ?_ _
  clear hHeld
  have hJ := (setRow_other _ (w.heap.size + 1 + 1) (w.heap.size + 1) (refC g2 c2 d2.many (aftR d2) tr2 d2.dead d2.writes).toArray (by omega)).trans (setRow_heap _ _ _ _ _ _ HX2.out : (wd.setRow (w.heap.size + 1) (jC g2 c2 d2.many (aftR d2) tr2 d2.dead d2.writes lx t).toArray).heap[w.heap.size + 1]? = _)
  have hX4 := (setRow_other wd (w.heap.size + 1) (w.heap.size + 1 + 1) (jC g2 c2 d2.many (aftR d2) tr2 d2.dead d2.writes lx t).toArray (by omega)).trans HX4.out
  have hD := setRow_heap _ _ _ (refC g2 c2 d2.many (aftR d2) tr2 d2.dead d2.writes).toArray _ _ hX4
  have hs1 := HRd.out.setRow (jC g2 c2 d2.many (aftR d2) tr2 d2.dead d2.writes lx t).toArray (ref_boxG HRd.out HM2.out HX2.out (v0 := .slice none 0 0) rfl (fun s e => by cases e))
  have HR9 := Lib.hid (hs1.setRow (refC g2 c2 d2.many (aftR d2) tr2 d2.dead d2.writes).toArray (ref_boxG hs1 HM2.out hX4 (v0 := .slice none 0 0) rfl (fun s e => by cases e)))
  have hs2 := HSd.out.row (u := (jC g2 c2 d2.many (aftR d2) tr2 d2.dead d2.writes lx t).toArray) (fun g5 e5 => by have := HG5.out g5 e5; omega) HX2.out (v0 := .slice none 0 0) rfl (fun _ _ e => by cases e)
  have HS9 := Lib.hid (hs2.row (u := (refC g2 c2 d2.many (aftR d2) tr2 d2.dead d2.writes).toArray) (fun g5 e5 => by have := HG5.out g5 e5; omega) hX4 (v0 := .slice none 0 0) rfl (fun _ _ e => by cases e))
  clear hs1 hs2
  go_wp2
  refine bodyPost_ret (results_cell4 rfl _ _ (w.heap.size + 1) (w.heap.size + 1 + 1) _ _ _ _ rfl rfl rfl rfl (load_J _ _ (jC g2 c2 d2.many (aftR d2) tr2 d2.dead d2.writes lx t) rfl _ _ hJ) (load_ref _ _ (refC g2 c2 d2.many (aftR d2) tr2 d2.dead d2.writes) rfl _ _ hD)) rfl ?_
  exact ⟨g2, c2, tr2, A4, c4, by rw [← HE2.out]; rfl, HR9.out, HS9.out, below_setRow (below_setRow HBd.out (by omega) _) (by omega) _⟩
end Go.Proofs.Ytbbgmjfmpcbpbaa
