/- Regions that draw their order: two or more that may come up next; what is kept from world to world; pages in such regions. What is appended to a slice of the call's own, with what lay there before the call. -/
import Derived.Test.YtmgonokhgijgoaaJ7
import Derived.Test.YtmgonokhgijgoaaJ1
namespace Go.Proofs.Ytmgonokhgijgoaa
open Go.RowKit
set_option maxRecDepth 100000

section
variable {P : Program} {ops : Array Oper} {Q : Exit → Act → World → Prop} {md : Region.Mode} {S : World → Prop}

/-- two that may come up next -/
theorem twoH {i : Nat} {dst : Option Tmp} {op : Op} {ty : TypeId} {pos : String} {after : Array Edge} {guard : Option (Nat × Bool)}
    {i2 : Nat} {dst2 : Option Tmp} {op2 : Op} {ty2 : TypeId} {pos2 : String} {after2 : Array Edge} {guard2 : Option (Nat × Bool)} {fuel : Nat} {listed : Array Bool} {a : Act} {w : World}
    (hi : ops[i]? = some { dst := dst, op := op, type := ty, pos := pos, after := after, guard := guard })
    (hi2 : ops[i2]? = some { dst := dst2, op := op2, type := ty2, pos := pos2, after := after2, guard := guard2 })
    (hr : Region.ready md ops listed = [i, i2])
    (h : ∀ K' : Act → World → Prop, Shut (∀ a w, S w → (S w → wpAnyH P md ops Q S fuel (listed.setIfInBounds i true) a w) → K' a w) →
      if Region.wanted { dst := dst, op := op, type := ty, pos := pos, after := after, guard := guard } (yielded ops a.tmps) = true then
        Oper.wp P { dst := dst, op := op, type := ty, pos := pos, after := after, guard := guard } a w K' Q else K' (a.put dst undef) w)
    (h2 : ∀ K' : Act → World → Prop, Shut (∀ a w, S w → (S w → wpAnyH P md ops Q S fuel (listed.setIfInBounds i2 true) a w) → K' a w) →
      if Region.wanted { dst := dst2, op := op2, type := ty2, pos := pos2, after := after2, guard := guard2 } (yielded ops a.tmps) = true then
        Oper.wp P { dst := dst2, op := op2, type := ty2, pos := pos2, after := after2, guard := guard2 } a w K' Q else K' (a.put dst2 undef) w) :
    wpAnyH P md ops Q S (fuel + 1) listed a w :=
  wpAnyH_ready hr (by simp) (AllReadyH.cons hi h (AllReadyH.cons hi2 h2 AllReadyH.nil))
/-- three that may come up next -/
theorem threeH {i : Nat} {dst : Option Tmp} {op : Op} {ty : TypeId} {pos : String} {after : Array Edge} {guard : Option (Nat × Bool)}
    {i2 : Nat} {dst2 : Option Tmp} {op2 : Op} {ty2 : TypeId} {pos2 : String} {after2 : Array Edge} {guard2 : Option (Nat × Bool)}
    {i3 : Nat} {dst3 : Option Tmp} {op3 : Op} {ty3 : TypeId} {pos3 : String} {after3 : Array Edge} {guard3 : Option (Nat × Bool)} {fuel : Nat} {listed : Array Bool} {a : Act} {w : World}
    (hi : ops[i]? = some { dst := dst, op := op, type := ty, pos := pos, after := after, guard := guard })
    (hi2 : ops[i2]? = some { dst := dst2, op := op2, type := ty2, pos := pos2, after := after2, guard := guard2 })
    (hi3 : ops[i3]? = some { dst := dst3, op := op3, type := ty3, pos := pos3, after := after3, guard := guard3 })
    (hr : Region.ready md ops listed = [i, i2, i3])
    (h : ∀ K' : Act → World → Prop, Shut (∀ a w, S w → (S w → wpAnyH P md ops Q S fuel (listed.setIfInBounds i true) a w) → K' a w) →
      if Region.wanted { dst := dst, op := op, type := ty, pos := pos, after := after, guard := guard } (yielded ops a.tmps) = true then
        Oper.wp P { dst := dst, op := op, type := ty, pos := pos, after := after, guard := guard } a w K' Q else K' (a.put dst undef) w)
    (h2 : ∀ K' : Act → World → Prop, Shut (∀ a w, S w → (S w → wpAnyH P md ops Q S fuel (listed.setIfInBounds i2 true) a w) → K' a w) →
      if Region.wanted { dst := dst2, op := op2, type := ty2, pos := pos2, after := after2, guard := guard2 } (yielded ops a.tmps) = true then
        Oper.wp P { dst := dst2, op := op2, type := ty2, pos := pos2, after := after2, guard := guard2 } a w K' Q else K' (a.put dst2 undef) w)
    (h3 : ∀ K' : Act → World → Prop, Shut (∀ a w, S w → (S w → wpAnyH P md ops Q S fuel (listed.setIfInBounds i3 true) a w) → K' a w) →
      if Region.wanted { dst := dst3, op := op3, type := ty3, pos := pos3, after := after3, guard := guard3 } (yielded ops a.tmps) = true then
        Oper.wp P { dst := dst3, op := op3, type := ty3, pos := pos3, after := after3, guard := guard3 } a w K' Q else K' (a.put dst3 undef) w) :
    wpAnyH P md ops Q S (fuel + 1) listed a w :=
  wpAnyH_ready hr (by simp) (AllReadyH.cons hi h (AllReadyH.cons hi2 h2 (AllReadyH.cons hi3 h3 AllReadyH.nil)))
end

/-! ### what is kept -/
section
variable {w w' : World}
theorem cell_on {p : Addr} {v : Value} (hb : Below w.heap.size w w') (h : w.cell? p = some v) : w'.cell? p = some v := (hb.cell (block_lt_of_cell h)).trans h
theorem range_on {b o : Nat} {cs : List Value} (hb : Below w.heap.size w w') (h : w.rangeAt b o cs) : w'.rangeAt b o cs := fun j v hv => cell_on hb (h j v hv)
theorem heap_on {g : Nat} {o : Obj} (hb : Below w.heap.size w w') (h : w.heap[g]? = some o) : w'.heap[g]? = some o := (hb.block g (heapLt h)).trans h
theorem below_alloc (w : World) (o : Obj) : Below w.heap.size w (w.alloc o) := (Below.refl _ _).alloc (Nat.le_refl _) o
theorem below_same (w : World) : Below w.heap.size w w := Below.refl _ _
theorem below_drew (w : World) : Below w.heap.size w w.drew := (Below.refl _ w).drew
/-- one behind the other -/
theorem below_then {a b c : World} (h : Below a.heap.size a b) (k : Below b.heap.size b c) : Below a.heap.size a c := h.trans (k.mono h.size)
theorem below_then' {B : Nat} {a b c : World} (h : Below B a b) (hB : B ≤ a.heap.size) (k : Below b.heap.size b c) : Below B a c := h.trans (k.mono (Nat.le_trans hB h.size))
end
theorem cell_setRow {w : World} {g : Nat} {cs : Array Value} {p : Addr} {v : Value} (hne : p.block ≠ g) (h : w.cell? p = some v) : (w.setRow g cs).cell? p = some v :=
  (World.cell?_of_block (setRow_other w g p.block cs hne)).trans h
theorem range_setRow {w : World} {g : Nat} {cs : Array Value} {b o : Nat} {l : List Value} (hne : b ≠ g) (h : w.rangeAt b o l) : (w.setRow g cs).rangeAt b o l := fun j v hv => cell_setRow hne (h j v hv)
theorem range_lt {w : World} {b o : Nat} {l : List Value} (h : w.rangeAt b o l) (hl : 0 < l.length) : b < w.heap.size :=
  block_lt_of_cell (h 0 l[0] (List.getElem?_eq_getElem hl))
/-- bytes in memory, as a range -/
theorem txt_mid {w : World} {A : Option Addr} {l : Text} (h : Txt w A l) (hl : l ≠ []) : ∃ b o, A = some ⟨b, o, none⟩ ∧ b < w.heap.size ∧ w.rangeAt b o (l.map cellOf) := by
  obtain ⟨a, rfl, hb, hc⟩ := h hl
  have h0 : 0 < l.length := List.length_pos_iff.2 hl
  obtain ⟨b, o, s⟩ := a
  have hs : s = none := by
    have := hc 0 h0
    unfold World.cell? Addr.add at this
    cases s with
    | none => rfl
    | some x =>
      simp at this
      split at this <;> simp at this
  subst hs
  refine ⟨b, o, rfl, hb, fun j v hv => ?_⟩
  have hj : j < l.length := by
    have := (List.getElem?_eq_some_iff.1 hv).1
    simpa using this
  have := hc j hj
  rw [Addr.add_mid] at this
  rw [this]
  rw [List.getElem?_map, List.getElem?_eq_getElem hj] at hv
  exact hv
theorem mid_txt {w : World} {b o : Nat} {l : Text} (h : w.rangeAt b o (l.map cellOf)) : Txt w (some ⟨b, o, none⟩) l := fun hn => by
  have hc : ∀ i (hi : i < l.length), w.cell? (Addr.add ⟨b, o, none⟩ i) = some (.int .u8 (l[i].toNat : Int)) := fun i hi => by
    rw [Addr.add_mid]
    exact h i (cellOf l[i]) (by simp [hi])
  refine ⟨_, rfl, ?_, hc⟩
  have := block_lt_of_cell (hc 0 (List.length_pos_iff.2 hn))
  rwa [add_block] at this

section
variable {T : TypeId} (hT : IsPage T) {ops : Array Oper} {a : Act} {S : World → Prop}
include hT
theorem page_info (l : Text) (hl : l.length = 64) : (Try.prog.info? T).map (·.size) = some (l.map cellOf).length := by rw [hT.size, List.length_map, hl]
theorem yieldsIf_load_pageM {o : Oper} (hw : Region.wanted o (yielded ops a.tmps) = true) (x : Operand) (ho : o.op = .load T x) (b f : Nat) (hx : a.eval x = .pointer (some ⟨b, f, none⟩)) (l : Text) (hl : l.length = 64)
    (hS : ∀ w, S w → w.rangeAt b f (l.map cellOf)) : YieldsIf Try.prog ops S o (pageV l) a :=
  yieldsIf_load_mid hw T x ho b f hx (l.map cellOf) _ hS hT.und rfl (page_info hT l hl)
theorem yieldsIf_eql_page {o : Oper} (hw : Region.wanted o (yielded ops a.tmps) = true) (x y : Operand) (t : TypeId) (ho : o.op = .binOp .eql T x y t) (l m : Text) (hx : a.eval x = pageV l) (hy : a.eval y = pageV m) (hl : l.length = 64) (hm : m.length = 64) (b : Bool) (hb : decide (l = m) = b) :
    YieldsIf Try.prog ops S o (.bool b) a := .inl ⟨hw, fun w _ => by
  subst hb
  have hr := eql_run hT w x y l m hl hm
  unfold execOp
  simp only [ho, hx, hy]
  rw [Sem.run_bind, hr]
  rfl⟩
theorem yieldsIf_neq_page {o : Oper} (hw : Region.wanted o (yielded ops a.tmps) = true) (x y : Operand) (t : TypeId) (ho : o.op = .binOp .neq T x y t) (l m : Text) (hx : a.eval x = pageV l) (hy : a.eval y = pageV m) (hl : l.length = 64) (hm : m.length = 64) (b : Bool) (hb : decide (l = m) = !b) :
    YieldsIf Try.prog ops S o (.bool b) a := .inl ⟨hw, fun w _ => by
  obtain rfl : (!decide (l = m)) = b := by rw [hb, Bool.not_not]
  have hr := neq_run hT w x y l m hl hm
  unfold execOp
  simp only [ho, hx, hy]
  rw [Sem.run_bind, hr]
  rfl⟩
theorem yieldsIf_zero_page {o : Oper} (hw : Region.wanted o (yielded ops a.tmps) = true) (ho : o.op = .build T #[]) : YieldsIf Try.prog ops S o (pageV zeros) a := .inl ⟨hw, fun w _ => by
  have h1 : (sizeOf 5).run Try.prog w = .ok 1 w := by rfl
  unfold execOp
  simp only [ho, Instr.build, Sem.run_bind, zero_page hT, Result.andThen_ok, run_underlying hT.und, h1, List.map_toArray, List.map_nil]
  rfl⟩
variable {w : World} {rest : List Oper} {Q : Exit → Act → World → Prop}
theorem wpList_load_pageM {o : Oper} (hgd : o.guard = none) (x : Operand) (ho : o.op = .load T x) (b f : Nat) (hx : a.eval x = .pointer (some ⟨b, f, none⟩)) (l : Text) (hl : l.length = 64)
    (hS : w.rangeAt b f (l.map cellOf)) (h : wpList Try.prog ops Q rest (a.put o.dst (pageV l)) w) : wpList Try.prog ops Q (o :: rest) a w :=
  wpList_load_mid hgd T x ho b f hx (l.map cellOf) _ hS hT.und rfl (page_info hT l hl) h
theorem wp_store_page {o : Oper} {K : Act → World → Prop} (x y : Operand) (ho : o.op = .store T x y) (g : Nat) (hx : a.eval x = .pointer (some ⟨g, 0, none⟩)) (l : Text) (hl : l.length = 64) (hy : a.eval y = pageV l)
    (cur : Array Value) (hc : cur.size = 64) (t : TypeId) (hg : w.heap[g]? = some (.cells cur t (0, 0)))
    (h : K (a.put o.dst undef) (w.setRow g (l.map cellOf).toArray)) : o.wp Try.prog a w K Q := by
  have hst := run_storeCells_at Try.prog g 0 t (l.map cellOf) 0 cur w hg (by simp [hl, hc]) (cells_one l)
  have e : (cur.toList.take (0 + 0) ++ l.map cellOf ++ cur.toList.drop (0 + 0 + (l.map cellOf).length)) = l.map cellOf := by
    rw [List.drop_eq_nil_of_le (by simp [hl, hc])]; simp
  rw [e] at hst
  unfold Oper.wp execOp
  simp only [ho, hx, hy, Instr.storeAt, Instr.sureAddr, Sem.run_bind, Sem.run_pure, Result.andThen_ok, storeVar, pageV, Value.cells, size_page hT, List.size_toArray, List.length_map, hl, ne_eq, not_true_eq_false, if_false, hst]
  exact h
theorem wp_alloc_page {o : Oper} {K : Act → World → Prop} (ho : o.op = .alloc T) (h : K (a.put o.dst (.pointer (some ⟨w.heap.size, 0, none⟩))) (w.alloc (.cells (zeros.map cellOf).toArray T))) : o.wp Try.prog a w K Q := by
  unfold Oper.wp execOp
  simp only [ho, Instr.alloc, Sem.run_bind, zero_page hT, Result.andThen_ok, newVar_page, Sem.run_pure]
  exact h
end
/-! ### the same behind a guard that is open -/
section
variable {T : TypeId} (hT : IsPage T) {ops : Array Oper} {a : Act} {w : World} {rest : List Oper} {Q : Exit → Act → World → Prop} {o : Oper}
theorem wpList_wanted (hw : Region.wanted o (yielded ops a.tmps) = true) (h : ∀ K : Act → World → Prop, (∀ a w, wpList Try.prog ops Q rest a w → K a w) → o.wp Try.prog a w K Q) : wpList Try.prog ops Q (o :: rest) a w :=
  wpList_step fun K hK => by rw [if_pos hw]; exact h K hK
include hT
theorem wpList_load_pageG (hw : Region.wanted o (yielded ops a.tmps) = true) (x : Operand) (ho : o.op = .load T x) (b f : Nat) (hx : a.eval x = .pointer (some ⟨b, f, none⟩)) (l : Text) (hl : l.length = 64)
    (hS : w.rangeAt b f (l.map cellOf)) (h : wpList Try.prog ops Q rest (a.put o.dst (pageV l)) w) : wpList Try.prog ops Q (o :: rest) a w :=
  wpList_wanted hw fun _ hK => wp_load_mid T x ho b f hx (l.map cellOf) _ hS hT.und rfl (page_info hT l hl) (hK _ _ h)
theorem wpList_zero_pageG (hw : Region.wanted o (yielded ops a.tmps) = true) (ho : o.op = .build T #[]) (h : wpList Try.prog ops Q rest (a.put o.dst (pageV zeros)) w) : wpList Try.prog ops Q (o :: rest) a w := by
  refine wpList_wanted hw fun K hK => ?_
  have h1 : (sizeOf 5).run Try.prog w = .ok 1 w := by rfl
  unfold Oper.wp execOp
  simp only [ho, Instr.build, Sem.run_bind, zero_page hT, Result.andThen_ok, run_underlying hT.und, h1, List.map_toArray, List.map_nil]
  exact hK _ _ h
theorem wpList_eql_pageG (hw : Region.wanted o (yielded ops a.tmps) = true) (x y : Operand) (t : TypeId) (ho : o.op = .binOp .eql T x y t) (l m : Text) (hx : a.eval x = pageV l) (hy : a.eval y = pageV m) (hl : l.length = 64) (hm : m.length = 64) (b : Bool) (hb : decide (l = m) = b)
    (h : wpList Try.prog ops Q rest (a.put o.dst (.bool b)) w) : wpList Try.prog ops Q (o :: rest) a w := by
  subst hb
  refine wpList_wanted hw fun K hK => ?_
  have hr := eql_run hT w x y l m hl hm
  unfold Oper.wp execOp
  simp only [ho, hx, hy]
  rw [Sem.run_bind, hr]
  exact hK _ _ h
end
theorem array_at {T : TypeId} (hT : IsPage T) (A : Option Addr) (c : Nat) (w : World) : (Instr.arrayAt T (.slice A 64 c)).run Try.prog w = .ok (.pointer A) w := by
  unfold Instr.arrayAt
  simp only [Sem.run_bind, run_underlying hT.und, Result.andThen_ok]
  rfl
/-- bytes copied over the head of a page, in a region that draws -/
theorem step_copy_page {ops : Array Oper} {o : Oper} {a : Act} {w : World} {K : Act → World → Prop} {Q : Exit → Act → World → Prop} {E : Prop} (hgd : o.guard = none) (d s : Operand)
    (ho : o.op = .call { callee := .builtin .copy, args := #[d, s], argTypes := #[51, 51] }) (g cD : Nat) (hd : a.eval d = .slice (some ⟨g, 0, none⟩) 64 cD)
    (A : Option Addr) (c n : Nat) (m : Text) (hn : m.length = n) (hs : a.eval s = .slice A n c) (hA : Txt w A m) (l : Text) (hl : l.length = 64) (t : TypeId) (hg : w.heap[g]? = some (.cells (l.map cellOf).toArray t (0, 0)))
    (h : ∀ w', w'.heap[g]? = some (.cells ((overP l m).map cellOf).toArray t (0, 0)) → Below g w w' → K (a.put o.dst (.int .i64 ((m.take 64).length : Nat))) w') :
    if Region.wanted o (yielded ops a.tmps) = true then Oper.wp Try.prog o a w K Q else E := by
  subst hn
  have hu8 : (Try.prog.info? 5).map (·.size) = some 1 := by kernel_rfl
  have hcl : ((m.take 64).map cellOf).length = Nat.min m.length 64 := by simp [Nat.min_comm]
  refine step_copy_splice hgd d s _ _ ho 5 Try.underlying51 hu8 _ _ _ _ _ _ hd hs g 0 (l.map cellOf) t hg ((m.take 64).map cellOf) hcl (fun hp => ⟨rfl, ?_⟩) (by simp [hl]; omega) (cells_one _) g w (Below.refl _ _) (Nat.le_refl _) ?_
  · have hm : m ≠ [] := by intro e; subst e; simp at hp
    obtain ⟨ad, rfl, _, hc⟩ := hA hm
    refine ⟨ad, rfl, fun j v hv => ?_⟩
    have hj : j < (m.take 64).length := by
      have := (List.getElem?_eq_some_iff.1 hv).1
      simpa using this
    have hj2 : j < m.length := by rw [List.length_take] at hj; omega
    rw [hc j hj2]
    rw [List.getElem?_map, List.getElem?_eq_getElem hj, List.getElem_take] at hv
    exact hv
  · intro w' hw hb
    have e : splice (l.map cellOf) 0 ((m.take 64).map cellOf) = (overP l m).map cellOf := by
      simp [splice, overP, List.map_append, List.map_drop]
    have hw2 := hw.out
    rw [e] at hw2
    have hnn : goInt ((m.take 64).map cellOf).length = .int .i64 ((m.take 64).length : Nat) := by simp [goInt]
    rw [hnn]
    exact h w' hw2 hb
theorem overP_zeros (m : Text) (hm : m.length ≤ 64) : overP zeros m = m ++ List.replicate (64 - m.length) 0 := by
  unfold overP zeros
  rw [List.take_of_length_le hm, List.drop_replicate]
end Go.Proofs.Ytmgonokhgijgoaa

namespace Go.Proofs.Ytmgonokhgijgoaa
open Go.RowKit
set_option maxRecDepth 100000

theorem wpList_append_own_text {w : World} {ops : Array Oper} {rest : List Oper} {o : Oper} {a : Act} {Q : Exit → Act → World → Prop} (hgd : o.guard = none) (s x : Operand)
    (ho : o.op = .call { callee := .builtin .append, args := #[s, x], argTypes := #[51, 51] }) (hty : o.type = 51)
    (base : Nat) (w0 : World) (v : Value) (m n k : Text) (hs : a.eval s = v) (hown : w.ownsRow base 5 1 v m.length (m.map cellOf)) (A : Option Addr) (c : Nat) (hx : a.eval x = .slice A n.length c)
    (hT : Txt w A n) (hA : A = none → n = []) (h63 : m.length + n.length ≤ 140737488355328) (hb : Below base w0 w) (hbase : base ≤ w.heap.size) (hk : k = m ++ n)
    (h : ∀ v' w', w'.ownsRow base 5 1 v' k.length (k.map cellOf) → Below base w0 w' → (v.ownBlock ≠ none → v'.ownBlock ≠ none) → wpList Try.prog ops Q rest (a.put o.dst v') w') :
    wpList Try.prog ops Q (o :: rest) a w := by
  refine wpList_append_text hgd s x ho hty base v m.length (m.map cellOf) hs hown A c n hx hT hA h63 hbase fun v' w' h1 h2 h3 => ?_
  subst hk
  refine h v' w' (by simpa using h1) (hb.grown h2 hbase fun k hk => (hown.lt k hk).1) fun hv => ?_
  rcases h3 with h3 | h3
  · rw [h3]; exact hv
  · rw [h3]; simp
/-- what the call owns it owns still, behind a call that turned nothing -/
theorem own_below {w w' : World} {base : Nat} {v : Value} {n : Nat} {xs : List Value} (h : w.ownsRow base 5 1 v n xs) (hb : Below w.heap.size w w') : w'.ownsRow base 5 1 v n xs :=
  h.kept (row := none) ⟨hb.os, hb.tape, hb.output, hb.size, fun k hk _ => hb.block k hk⟩ (by
    rcases h.2 with ⟨rfl, _⟩ | ⟨g, c, cur, rfl, _⟩
    · exact .inl rfl
    · exact .inr (by simp [Value.ownBlock]))
/-- an empty slice of the call's own -/
theorem empty_own (w : World) : (w.alloc (.cells #[] 5)).ownsRow w.heap.size 5 1 (.slice (some ⟨w.heap.size, 0, none⟩) 0 0) ([] : Text).length (([] : Text).map cellOf) :=
  World.ownsRow_lit w #[] 0 (Nat.le_refl _) (by unfold maxLen; omega) rfl
/-- the form of a slice that has a block -/
theorem own_form {w : World} {B : Nat} {v : Value} {l : Text} (h : w.ownsRow B 5 1 v l.length (l.map cellOf)) (hv : v.ownBlock ≠ none) :
    ∃ g c, v = .slice (some ⟨g, 0, none⟩) l.length c ∧ B ≤ g := by
  rcases h.2 with ⟨rfl, _⟩ | ⟨g, c, cur, rfl, hB, _⟩
  · exact absurd rfl hv
  · exact ⟨g, c, rfl, hB⟩
theorem own_txt {w : World} {B : Nat} {v : Value} {l : Text} (h : w.ownsRow B 5 1 v l.length (l.map cellOf)) :
    ∃ A c, v = .slice A l.length c ∧ Txt w A l ∧ (A = none → l = []) := by
  rcases h.2 with ⟨rfl, h0⟩ | ⟨g, c, cur, rfl, _⟩
  · have : l = [] := List.eq_nil_of_length_eq_zero h0
    subst this
    exact ⟨none, 0, rfl, Txt.none_, fun _ => rfl⟩
  · exact ⟨_, c, rfl, .of_own h, by simp⟩
end Go.Proofs.Ytmgonokhgijgoaa
