/- A page: sixty-four bytes as a value, as a block, as a slice; held against another one. A number's bytes, the highest first. -/
import Derived.Test.YthgakgjhcadajaaJ1
import Derived.Test.YthgakgjhcadajaaProg
import Derived.Deep.MidRow
import Derived.Laws.CopyOwn
import Derived.Laws.StructEq
import Derived.Deep.OwnRows
import Derived.Laws.BitsAllLaws
namespace Go.Proofs.Ythgakgjhcadajaa
open Go.RowKit
set_option maxRecDepth 100000

theorem heapLt {w : World} {g : Nat} {o : Obj} (h : w.heap[g]? = some o) : g < w.heap.size := (Array.getElem?_eq_some_iff.1 h).1
def pageV (l : Text) : Value := .agg (l.map cellOf).toArray
theorem cellOf_inj {a b : UInt8} (h : cellOf a = cellOf b) : a = b := by
  unfold cellOf at h
  injection h with _ h
  exact UInt8.toNat_inj.1 (by omega)
theorem pageV_inj {a b : Text} (h : pageV a = pageV b) : a = b := by
  unfold pageV at h
  injection h with h
  have h2 : a.map cellOf = b.map cellOf := by
    have := congrArg Array.toList h
    simpa using this
  exact (List.map_inj_right (fun x y => cellOf_inj)).1 h2
def zeros : Text := List.replicate 64 0
theorem zeros_len : zeros.length = 64 := by simp [zeros]

/-- an array of sixty-four bytes -/
structure IsPage (T : TypeId) : Prop where
  und : Try.prog.underlying T = some (.array 64 5)
  size : (Try.prog.info? T).map (·.size) = some 64
  zero : (Try.prog.info? T).map (·.zero) = some (some (pageV zeros))
  guard : Try.prog.eqGuardType Try.prog.depth T = false

section
variable {T : TypeId} (hT : IsPage T) (w : World)
include hT
theorem zero_page : (zeroValue T).run Try.prog w = .ok (pageV zeros) w := by
  have h := hT.zero
  cases hq : Try.prog.info? T with
  | none => simp [hq] at h
  | some i =>
    have hz : i.zero = some (pageV zeros) := by simpa [hq] using h
    simp [zeroValue, typeInfo, hq, hz]
theorem size_page : (sizeOf T).run Try.prog w = .ok 64 w := by
  have h := hT.size
  cases hq : Try.prog.info? T with
  | none => simp [hq] at h
  | some i =>
    have hz : i.size = 64 := by simpa [hq] using h
    simp [sizeOf, typeInfo, hq, hz]
end
theorem newVar_page (T : TypeId) (w : World) (l : Text) : (newVar T (pageV l)).run Try.prog w = .ok ⟨w.heap.size, 0, none⟩ (w.alloc (.cells (l.map cellOf).toArray T)) := by
  rfl

section
variable {T : TypeId} (hT : IsPage T) {w : World} {ops : Array Oper} {rest : List Oper} {o : Oper} {a : Act} {Q : Exit → Act → World → Prop}
include hT
theorem wpList_alloc_page (hgd : o.guard = none) (ho : o.op = .alloc T)
    (h : wpList Try.prog ops Q rest (a.put o.dst (.pointer (some ⟨w.heap.size, 0, none⟩))) (w.alloc (.cells (zeros.map cellOf).toArray T))) : wpList Try.prog ops Q (o :: rest) a w := by
  refine wpList_plain hgd fun K hK => ?_
  unfold Oper.wp execOp
  simp only [ho, Instr.alloc, Sem.run_bind, zero_page hT, Result.andThen_ok, newVar_page, Sem.run_pure]
  exact hK _ _ h
theorem wpList_load_page (hgd : o.guard = none) (x : Operand) (ho : o.op = .load T x) (g : Nat) (hx : a.eval x = .pointer (some ⟨g, 0, none⟩)) (l : Text) (hl : l.length = 64) (t : TypeId) (fr : Nat × Nat)
    (hg : w.heap[g]? = some (.cells (l.map cellOf).toArray t fr)) (h : wpList Try.prog ops Q rest (a.put o.dst (pageV l)) w) : wpList Try.prog ops Q (o :: rest) a w := by
  refine wpList_load_mid hgd T x ho g 0 hx (l.map cellOf) _ ?_ hT.und rfl (by rw [hT.size]; simp [hl]) h
  have := World.rangeAt_of_block hg 0 64
  have e : ((l.map cellOf).toArray.extract 0 (0 + 64)).toList = l.map cellOf := by
    simp only [Nat.zero_add, List.extract_toArray, List.extract_eq_take_drop, List.drop_zero, Nat.sub_zero]
    exact List.take_of_length_le (by simp [hl])
  rwa [e] at this
theorem yieldsIf_load_page {S : World → Prop} (hw : Region.wanted o (yielded ops a.tmps) = true) (x : Operand) (ho : o.op = .load T x) (g : Nat) (hx : a.eval x = .pointer (some ⟨g, 0, none⟩)) (l : Text) (hl : l.length = 64) (t : TypeId) (fr : Nat × Nat)
    (hS : ∀ w, S w → w.heap[g]? = some (.cells (l.map cellOf).toArray t fr)) : YieldsIf Try.prog ops S o (pageV l) a := by
  refine yieldsIf_load_mid hw T x ho g 0 hx (l.map cellOf) _ (fun w h => ?_) hT.und rfl (by rw [hT.size]; simp [hl])
  have := World.rangeAt_of_block (hS w h) 0 64
  have e : ((l.map cellOf).toArray.extract 0 (0 + 64)).toList = l.map cellOf := by
    simp only [Nat.zero_add, List.extract_toArray, List.extract_eq_take_drop, List.drop_zero, Nat.sub_zero]
    exact List.take_of_length_le (by simp [hl])
  rwa [e] at this
theorem wpList_store_page (hgd : o.guard = none) (x y : Operand) (ho : o.op = .store T x y) (g : Nat) (hx : a.eval x = .pointer (some ⟨g, 0, none⟩)) (l : Text) (hl : l.length = 64) (hy : a.eval y = pageV l)
    (cur : Array Value) (hc : cur.size = 64) (t : TypeId) (hg : w.heap[g]? = some (.cells cur t (0, 0)))
    (h : wpList Try.prog ops Q rest (a.put o.dst undef) (w.setRow g (l.map cellOf).toArray)) : wpList Try.prog ops Q (o :: rest) a w := by
  refine wpList_plain hgd fun K hK => ?_
  have hst := run_storeCells_at Try.prog g 0 t (l.map cellOf) 0 cur w hg (by simp [hl, hc]) (cells_one l)
  have e : (cur.toList.take (0 + 0) ++ l.map cellOf ++ cur.toList.drop (0 + 0 + (l.map cellOf).length)) = l.map cellOf := by
    rw [List.drop_eq_nil_of_le (by simp [hl, hc])]; simp
  rw [e] at hst
  unfold Oper.wp execOp
  simp only [ho, hx, hy, Instr.storeAt, Instr.sureAddr, Sem.run_bind, Sem.run_pure, Result.andThen_ok, storeVar, pageV, Value.cells, size_page hT, List.size_toArray, List.length_map, hl, ne_eq, not_true_eq_false, if_false, hst]
  exact hK _ _ h
theorem wpList_zero_page (hgd : o.guard = none) (ho : o.op = .build T #[]) (h : wpList Try.prog ops Q rest (a.put o.dst (pageV zeros)) w) : wpList Try.prog ops Q (o :: rest) a w := by
  refine wpList_plain hgd fun K hK => ?_
  have h1 : (sizeOf 5).run Try.prog w = .ok 1 w := by rfl
  unfold Oper.wp execOp
  simp only [ho, Instr.build, Sem.run_bind, zero_page hT, Result.andThen_ok, run_underlying hT.und, h1, List.map_toArray, List.map_nil]
  exact hK _ _ h
end

theorem part_cell (w : World) (l : Text) (i : Nat) (hi : i < l.length) : (part 5 (l.map cellOf).toArray i).run Try.prog w = .ok (cellOf l[i]) w := by
  have h1 : (isAgg 5).run Try.prog w = .ok false w := by rfl
  simp [part, Sem.run_bind, h1, hi]
theorem cells_loop (d : Nat) (l m : Text) (hlm : l.length = m.length) (w : World) : ∀ (n s : Nat), s + n = l.length →
    (forIn (m := Sem) (List.range' s n 1) ((none : Option Bool), ()) fun i (_ : Option Bool × Unit) => do
            let a ← part 5 (List.map cellOf l).toArray (i * 1)
            let b ← part 5 (List.map cellOf m).toArray (i * 1)
            let c ← Op.equalIn (d + 1) 5 a b
            if (!c) = true then pure (ForInStep.done (some false, ())) else pure (ForInStep.yield (none, ()))).run Try.prog w =
      .ok (if l.drop s = m.drop s then (none, ()) else (some false, ())) w
  | 0, s, hs => by
    rw [List.drop_eq_nil_of_le (by omega), List.drop_eq_nil_of_le (by omega)]
    simp
  | n + 1, s, hs => by
    have h1 : s < l.length := by omega
    have h2 : s < m.length := by omega
    have ih := cells_loop d l m hlm w n (s + 1) (by omega)
    rw [List.range'_succ, List.forIn_cons]
    simp only [Nat.mul_one] at ih
    simp only [Nat.mul_one, Sem.run_bind, part_cell w l s h1, part_cell w m s h2, Result.andThen_ok]
    unfold cellOf
    rw [run_equalIn_int w d 5 .u8 .u8 _ _ Try.underlying5]
    rw [List.drop_eq_getElem_cons h1, List.drop_eq_getElem_cons h2]
    by_cases he : l[s] = m[s]
    · rw [he]
      simp only [beq_self_eq_true, Bool.not_true, Bool.false_eq_true, if_false, Result.andThen_ok, Sem.run_pure, List.cons.injEq, true_and]
      exact ih
    · have hne : ((l[s].toNat : Int) == (m[s].toNat : Int)) = false := by
        apply beq_false_of_ne
        intro h
        exact he (UInt8.toNat_inj.1 (by omega))
      have hd : ¬ (l[s] :: l.drop (s + 1) = m[s] :: m.drop (s + 1)) := fun h => he (List.cons.inj h).1
      rw [if_neg hd]
      simp [hne]
theorem eql_page {T : TypeId} (hT : IsPage T) (w : World) (d : Nat) (l m : Text) (hl : l.length = 64) (hm : m.length = 64) : (Op.equalIn (d + 2) T (pageV l) (pageV m)).run Try.prog w = .ok (decide (l = m)) w := by
  have h1 : (sizeOf 5).run Try.prog w = .ok 1 w := by rfl
  unfold pageV
  rw [Op.equalIn]
  simp only [Sem.run_bind, run_underlying hT.und, Result.andThen_ok, h1]
  rw [Std.Legacy.Range.forIn_eq_forIn_range']
  have h := cells_loop d l m (by omega) w 64 0 (by omega)
  simp only [List.drop_zero] at h
  have hr : List.range' [:64].start [:64].size [:64].step = List.range' 0 64 1 := by decide
  rw [hr, h]
  by_cases e : l = m
  · simp [e]
  · simp [e]
theorem eql_run {T : TypeId} (hT : IsPage T) (w : World) (x y : Operand) (l m : Text) (hl : l.length = 64) (hm : m.length = 64) :
    (do eqGuard .eql T x y (pageV l) (pageV m); binOp .eql T (pageV l) (pageV m) : Sem Value).run Try.prog w = .ok (.bool (decide (l = m))) w := by
  have h := eql_page hT w 9998 l m hl hm
  unfold pageV at *
  rw [Sem.run_bind, run_eqGuard_agg w .eql T x y _ _ hT.guard, Result.andThen_ok, run_eql_struct w T]
  rw [h]
  rfl
theorem neq_run {T : TypeId} (hT : IsPage T) (w : World) (x y : Operand) (l m : Text) (hl : l.length = 64) (hm : m.length = 64) :
    (do eqGuard .neq T x y (pageV l) (pageV m); binOp .neq T (pageV l) (pageV m) : Sem Value).run Try.prog w = .ok (.bool (!decide (l = m))) w := by
  have h := eql_page hT w 9998 l m hl hm
  unfold pageV at *
  rw [Sem.run_bind, run_eqGuard_agg w .neq T x y _ _ hT.guard, Result.andThen_ok, run_neq_struct w T]
  rw [h]
  rfl

section
variable {T : TypeId} (hT : IsPage T) {w : World} {ops : Array Oper} {rest : List Oper} {o : Oper} {a : Act} {Q : Exit → Act → World → Prop}
include hT
theorem wpList_eql_page (hgd : o.guard = none) (x y : Operand) (t : TypeId) (ho : o.op = .binOp .eql T x y t) (l m : Text) (hx : a.eval x = pageV l) (hy : a.eval y = pageV m) (hl : l.length = 64) (hm : m.length = 64) (b : Bool) (hb : decide (l = m) = b)
    (h : wpList Try.prog ops Q rest (a.put o.dst (.bool b)) w) : wpList Try.prog ops Q (o :: rest) a w := by
  subst hb
  refine wpList_plain hgd fun K hK => ?_
  have hr := eql_run hT w x y l m hl hm
  unfold Oper.wp execOp
  simp only [ho, hx, hy]
  rw [Sem.run_bind, hr]
  exact hK _ _ h
theorem wpList_neq_page (hgd : o.guard = none) (x y : Operand) (t : TypeId) (ho : o.op = .binOp .neq T x y t) (l m : Text) (hx : a.eval x = pageV l) (hy : a.eval y = pageV m) (hl : l.length = 64) (hm : m.length = 64) (b : Bool) (hb : decide (l = m) = !b)
    (h : wpList Try.prog ops Q rest (a.put o.dst (.bool b)) w) : wpList Try.prog ops Q (o :: rest) a w := by
  obtain rfl : (!decide (l = m)) = b := by rw [hb, Bool.not_not]
  refine wpList_plain hgd fun K hK => ?_
  have hr := neq_run hT w x y l m hl hm
  unfold Oper.wp execOp
  simp only [ho, hx, hy]
  rw [Sem.run_bind, hr]
  exact hK _ _ h
end
/-- what is copied over the head of a page -/
def overP (l s : Text) : Text := s.take 64 ++ l.drop (s.take 64).length
theorem overP_len {l s : Text} (hl : l.length = 64) : (overP l s).length = 64 := by
  unfold overP
  rw [List.length_append, List.length_drop]
  have : (s.take 64).length ≤ 64 := by rw [List.length_take]; omega
  omega
theorem wpList_copy_page {w : World} {ops : Array Oper} {rest : List Oper} {o : Oper} {a : Act} {Q : Exit → Act → World → Prop} (hgd : o.guard = none) (d s : Operand)
    (ho : o.op = .call { callee := .builtin .copy, args := #[d, s], argTypes := #[51, 51] }) (g cD : Nat) (hd : a.eval d = .slice (some ⟨g, 0, none⟩) 64 cD)
    (A : Option Addr) (c : Nat) (m : Text) (hs : a.eval s = .slice A m.length c) (hA : Txt w A m) (l : Text) (hl : l.length = 64) (t : TypeId) (hg : w.heap[g]? = some (.cells (l.map cellOf).toArray t (0, 0)))
    (h : ∀ w', w'.heap[g]? = some (.cells ((overP l m).map cellOf).toArray t (0, 0)) → (∀ k, k ≠ g → w'.heap[k]? = w.heap[k]?) → w'.heap.size = w.heap.size → w'.os = w.os → w'.tape = w.tape → w'.output = w.output →
      wpList Try.prog ops Q rest (a.put o.dst (.int .i64 ((m.take 64).length : Nat))) w') : wpList Try.prog ops Q (o :: rest) a w := by
  have hu8 : (Try.prog.info? 5).map (·.size) = some 1 := by kernel_rfl
  by_cases h0 : m = []
  · subst h0
    refine wpList_copy_nothing hgd d s _ _ ho 5 Try.underlying51 hu8 _ _ _ _ _ _ hd hs (by simp [Nat.min]) ?_
    exact h w (by simpa [overP] using hg) (fun _ _ => rfl) rfl rfl rfl rfl
  · obtain ⟨ad, rfl, _, hc⟩ := hA h0
    have hcl : ((m.take 64).map cellOf).length = Nat.min m.length 64 := by simp [Nat.min_comm]
    refine wpList_copy_own hgd d s _ _ ho 5 Try.underlying51 hu8 g 0 64 cD ad _ _ hd hs _ t hg ((m.take 64).map cellOf) hcl (fun j v hv => ?_) (by simp [hl]; omega) (cells_one _) ?_
    · have hj : j < (m.take 64).length := by
        have := (List.getElem?_eq_some_iff.1 hv).1
        simpa using this
      have hj2 : j < m.length := by rw [List.length_take] at hj; omega
      rw [hc j hj2]
      rw [List.getElem?_map, List.getElem?_eq_getElem hj, List.getElem_take] at hv
      exact hv
    · have e : ((List.map cellOf l).toArray.toList.take 0 ++ (List.map cellOf (m.take 64) ++ (List.map cellOf l).toArray.toList.drop (0 + (List.map cellOf (m.take 64)).length))).toArray = ((overP l m).map cellOf).toArray := by
        simp [overP, List.map_append, List.map_drop]
      rw [e]
      have hn : goInt ((m.take 64).map cellOf).length = .int .i64 ((m.take 64).length : Nat) := by simp [goInt]
      rw [hn]
      exact h _ (setRow_heap w g _ _ t _ hg) (fun k hk => setRow_other w g k _ hk) (by simp) rfl rfl rfl
/-- a page as a text in memory -/
theorem txt_page {w : World} {g : Nat} {l : Text} {t : TypeId} {fr : Nat × Nat} (hg : w.heap[g]? = some (.cells (l.map cellOf).toArray t fr)) : Txt w (some ⟨g, 0, none⟩) l := fun _ =>
  ⟨_, rfl, (Array.getElem?_eq_some_iff.1 hg).1, fun i hi => by
    have hr := World.rangeAt_of_block hg 0 l.length
    have := hr i (cellOf l[i]) (by simp [hi])
    rw [Addr.add_mid]
    exact this⟩
end Go.Proofs.Ythgakgjhcadajaa

namespace Go.Proofs.Ythgakgjhcadajaa
open Go.RowKit
set_option maxRecDepth 100000

def highT (X m : Nat) : Text := (List.range m).map fun i => UInt8.ofNat (X / 2 ^ (8 * (m - 1 - i)))
theorem highT_len (X m : Nat) : (highT X m).length = m := by simp [highT]
def zerosN (m : Nat) : Text := List.replicate m 0
theorem makeN (w : World) (m : Nat) (hm : m ≤ 8) : (Instr.makeSlice 51 (.int .i64 m) (.int .i64 m)).run Try.prog w = .ok (.slice (some ⟨w.heap.size, 0, none⟩) m m) (w.alloc (.cells ((zerosN m).map cellOf).toArray 5)) := by
  have hmk := run_make_row' (P := Try.prog) 51 5 (.int .u8 0) 1 Try.underlying51 u8fact rfl .i64 .i64 m (by omega) (by omega) w
  have e : madeCells #[Value.int .u8 0] m = ((zerosN m).map cellOf).toArray := by
    apply Array.ext
    · simp [madeCells, zerosN]
    · intro i h1 h2
      have h3 : i < (zerosN m).length := by simpa using h2
      have h4 : (zerosN m)[i] = 0 := by unfold zerosN; exact List.getElem_replicate ..
      simp only [List.getElem_toArray, List.getElem_map, h4]
      simp [madeCells, cellOf, Nat.mod_one]
  rw [e] at hmk
  exact hmk
/-- so many of a number's bytes are laid -/
def HighI (w : World) (X m k : Nat) (W : World) : Prop := ∃ l : Text, l.length = m ∧ (∀ j, j < k → l[j]? = (highT X m)[j]?) ∧ W.heap[w.heap.size]? = some (.cells (l.map cellOf).toArray 5 (0, 0)) ∧ Below w.heap.size w W
set_option maxHeartbeats 1000000 in
theorem code_high (X m : Nat) (w : World) (hm : m ≤ 8) :
    Calls Try.prog 89 #[.int .u64 X, .int .i64 m] w fun e w' => e = .returned (.slice (some ⟨w.heap.size, 0, none⟩) m m) ∧ Txt w' (some ⟨w.heap.size, 0, none⟩) (highT X m) ∧ Below w.heap.size w w' := by
  have i1 : (m : Int) ≤ 8 := by omega
  have hmk := makeN w m hm
  have HI : Hid (HighI w X m 0 (w.alloc (.cells ((zerosN m).map cellOf).toArray 5))) := Lib.hid ⟨zerosN m, by simp [zerosN], fun j hj => absurd hj (Nat.not_lt_zero j), heap_alloc_new w _, (Below.refl _ _).alloc (Nat.le_refl _) _⟩
  go_enter Try.func89, Try.ntmps89
  go_wp2
  clear hmk
  go_loopw [11] (fun v wr => ∃ k : Nat, k ≤ m ∧ v = .int .i64 k ∧ Hid (HighI w X m k wr)) (fun v _ => m - (intOf v).toNat)
  case atStart => exact ⟨0, by omega, rfl, HI⟩
  case round =>
    obtain ⟨k, hk, rfl, HK⟩ := hrel
    by_cases hlt : k < m
    · have hlt' : (k : Int) < (m : Int) := by omega
      obtain ⟨l, hl, hj, hg, hb⟩ := HK.out
      have x0 := cell_of_row wr _ k _ _ _ hg
      have z0 := frozen_of_row wr _ k _ _ hg
      have hkl : k < l.length := by omega
      simp only [List.getElem?_toArray, List.getElem?_map, List.getElem?_eq_getElem hkl, Option.map_some, cellOf] at x0
      go_wp2
      go_roundw
      case rel =>
        refine ⟨k + 1, by omega, by go_num, Lib.hid ⟨l.set k (UInt8.ofNat (X / 2 ^ (8 * (m - 1 - k)))), by simp [hl], fun j hj' => ?_, ?_, hb.setCell (p := ⟨w.heap.size, k, none⟩) (Nat.le_refl _) _⟩⟩
        · by_cases e : j = k
          · subst e
            rw [List.getElem?_set_self hkl]
            simp [highT, hlt]
          · rw [List.getElem?_set_ne (Ne.symm e)]
            exact hj j (by omega)
        · rw [heap_setCell_same _ _ _ _ _ _ hg]
          congr 2
          rw [List.setIfInBounds_toArray, List.map_set]
          congr 2
      case measure => simp [intOf]; omega
    · obtain rfl : k = m := by omega
      go_wp2
      go_ret
      obtain ⟨l, hl, hj, hg, hb⟩ := HK.out
      have : l = highT X k := by
        apply List.ext_getElem?
        intro i
        by_cases hi : i < k
        · exact hj i hi
        · rw [List.getElem?_eq_none (by omega), List.getElem?_eq_none (by rw [highT_len]; omega)]
      subst this
      exact ⟨rfl, txt_page hg, hb⟩
/-- the number that bytes are, the highest first -/
def numT (l : Text) : Nat := l.foldl (fun n x => n * 256 + x.toNat) 0
theorem numT_snoc (l : Text) (x : UInt8) : numT (l ++ [x]) = numT l * 256 + x.toNat := by simp [numT]
theorem foldl_lt (l : Text) : ∀ n, l.foldl (fun n x => n * 256 + x.toNat) n < (n + 1) * 256 ^ l.length := by
  induction l with
  | nil => intro n; simp
  | cons x l ih =>
    intro n
    have h := ih (n * 256 + x.toNat)
    have hx : x.toNat < 256 := x.toNat_lt
    simp only [List.foldl_cons, List.length_cons]
    refine Nat.lt_of_lt_of_le h ?_
    rw [Nat.pow_succ, Nat.mul_comm (256 ^ l.length) 256, ← Nat.mul_assoc]
    exact Nat.mul_le_mul_right _ (by omega)
theorem numT_lt (l : Text) : numT l < 256 ^ l.length := by have := foldl_lt l 0; simpa [numT] using this
theorem or_low (v : Nat) (x : UInt8) (h : v * 256 < 18446744073709551616) : bits .or .u64 (IntKind.u64.wrap ((v : Int) * (256 : Int))) ((x.toNat : Nat) : Int) = ((v * 256 + x.toNat : Nat) : Int) := by
  have hx := x.toNat_lt
  have e1 : IntKind.u64.wrap ((v : Int) * (256 : Int)) = ((v * 256 : Nat) : Int) := by rw [IntKind.wrap_u64]; omega
  rw [e1, u64_or_nat _ _ h (by omega)]
  have : 2 ^ 8 * v + x.toNat = 2 ^ 8 * v ||| x.toNat := Nat.two_pow_add_eq_or_of_lt (i := 8) hx v
  rw [Nat.mul_comm v 256]
  congr 1
  exact this.symm
theorem numT_small (l : Text) (k : Nat) (hk : k ≤ 7) : numT (l.take k) * 256 < 18446744073709551616 := by
  have h := numT_lt (l.take k)
  have h2 : 256 ^ (l.take k).length ≤ 256 ^ 7 := Nat.pow_le_pow_right (by decide) (by rw [List.length_take]; omega)
  have h3 : 256 ^ 7 = 72057594037927936 := by decide
  omega
set_option maxHeartbeats 1000000 in
theorem code_number (l : Text) (A : Option Addr) (c : Nat) (w : World) (hl : l.length ≤ 8) (hT : Txt w A l) :
    Calls Try.prog 69 #[.slice A l.length c] w fun e w' => e = .returned (.int .u64 (numT l)) ∧ w = w' := by
  have i1 : (l.length : Int) ≤ 8 := by omega
  have HT := Lib.hid hT
  clear hT
  go_enter Try.func69, Try.ntmps69
  go_wp2
  go_loopw [3, 8] (fun s v wr => ∃ k : Nat, k ≤ l.length ∧ v = .int .i64 k ∧ s = .int .u64 (numT (l.take k)) ∧ Hid (w = wr)) (fun _ v _ => l.length - (intOf v).toNat)
  case atStart => exact ⟨0, by omega, rfl, by simp [numT], Lib.hid rfl⟩
  case round =>
    obtain ⟨k, hk, rfl, rfl, HK⟩ := hrel
    by_cases hlt : k < l.length
    · have hlt' : (k : Int) < (l.length : Int) := by omega
      obtain ⟨a, rfl, hbl, hc⟩ := HT.out (by intro e; rw [e] at hlt; simp at hlt)
      have hx := hc k hlt
      rw [HK.out] at hx
      clear hc
      obtain ⟨x, hxk⟩ : ∃ x, x = l[k] := ⟨_, rfl⟩
      rw [← hxk] at hx
      obtain ⟨z, hz⟩ : ∃ z : Int, z = (x.toNat : Int) := ⟨_, rfl⟩
      have hz0 : 0 ≤ z ∧ z < 256 := by have := x.toNat_lt; omega
      rw [← hz] at hx
      have HZ := Lib.hid (And.intro hz hxk)
      clear hz hxk
      go_wp2
      go_roundw
      case rel =>
        obtain ⟨rfl, rfl⟩ := HZ.out
        exact ⟨k + 1, by omega, by go_num, by rw [or_low _ _ (numT_small l k (by omega)), List.take_succ_eq_append_getElem hlt, numT_snoc], HK⟩
      case measure => simp [intOf]; omega
    · obtain rfl : k = l.length := by omega
      have HK' := HK.out
      go_wp2
      go_ret
      rw [List.take_length]
      exact ⟨rfl, HK.out⟩
end Go.Proofs.Ythgakgjhcadajaa
