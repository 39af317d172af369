/- The statement on a torn write, where it looks at nothing. The disks that the statement on a torn write goes through. The statement on a torn write, walked. -/
import Derived.Test.YtfjejiapafdgeaaJ27
import Derived.Test.YtfjejiapafdgeaaJ4
namespace Go.Proofs.Ytfjejiapafdgeaa
open Go.RowKit
set_option maxRecDepth 100000

/-- the statement's own variables, laid -/
def boxes5 (w : World) (i torn X Y : Int) : World :=
  ((((w.alloc (.cells #[.int .i64 i] 3)).alloc (.cells #[.int .i64 torn] 3)).alloc (.cells #[.int .u8 X] 5)).alloc (.cells #[.int .u8 Y] 5)).alloc (.cells #[.bool false] 4)
theorem boxes5_below (w : World) (i torn X Y : Int) : Below w.heap.size w (boxes5 w i torn X Y) :=
  (((((Below.refl _ w).alloc (Nat.le_refl _) _).alloc (by simp) _).alloc (by simp <;> omega) _).alloc (by simp <;> omega) _).alloc (by simp <;> omega) _
theorem boxes5_size (w : World) (i torn X Y : Int) : (boxes5 w i torn X Y).heap.size = w.heap.size + 5 := by simp [boxes5]
theorem one_cell {W : World} {g : Nat} {v : Value} {t : TypeId} (h : W.heap[g]? = some (.cells #[v] t (0, 0))) : W.cell? ⟨g, 0, none⟩ = some v ∧ W.frozen? ⟨g, 0, none⟩ = false :=
  ⟨cell_of_row W g 0 _ _ _ h, frozen_of_row W g 0 _ _ h⟩
theorem box5 {w W : World} {i torn X Y : Int} (h : Below (w.heap.size + 5) (boxes5 w i torn X Y) W) :
    W.heap[w.heap.size]? = some (.cells #[.int .i64 i] 3 (0, 0)) ∧ W.heap[w.heap.size + 1]? = some (.cells #[.int .i64 torn] 3 (0, 0)) ∧ W.heap[w.heap.size + 1 + 1]? = some (.cells #[.int .u8 X] 5 (0, 0)) ∧
    W.heap[w.heap.size + 1 + 1 + 1]? = some (.cells #[.int .u8 Y] 5 (0, 0)) ∧ W.heap[w.heap.size + 1 + 1 + 1 + 1]? = some (.cells #[.bool false] 4 (0, 0)) := by
  have e1 := heap_alloc_new w (.cells #[.int .i64 i] 3)
  have e2 := heap_alloc_new (w.alloc (.cells #[.int .i64 i] 3)) (.cells #[.int .i64 torn] 3)
  have e3 := heap_alloc_new ((w.alloc (.cells #[.int .i64 i] 3)).alloc (.cells #[.int .i64 torn] 3)) (.cells #[.int .u8 X] 5)
  have e4 := heap_alloc_new (((w.alloc (.cells #[.int .i64 i] 3)).alloc (.cells #[.int .i64 torn] 3)).alloc (.cells #[.int .u8 X] 5)) (.cells #[.int .u8 Y] 5)
  have e5 := heap_alloc_new ((((w.alloc (.cells #[.int .i64 i] 3)).alloc (.cells #[.int .i64 torn] 3)).alloc (.cells #[.int .u8 X] 5)).alloc (.cells #[.int .u8 Y] 5)) (.cells #[.bool false] 4)
  simp only [World.size_alloc] at e1 e2 e3 e4 e5
  refine ⟨(h.block _ (by omega)).trans ?_, (h.block _ (by omega)).trans ?_, (h.block _ (by omega)).trans ?_, (h.block _ (by omega)).trans ?_, (h.block _ (by omega)).trans ?_⟩ <;> unfold boxes5
  · rw [Below.heap_alloc _ _ _ (by simp <;> omega), Below.heap_alloc _ _ _ (by simp <;> omega), Below.heap_alloc _ _ _ (by simp <;> omega), Below.heap_alloc _ _ _ (by simp)]; exact e1
  · rw [Below.heap_alloc _ _ _ (by simp <;> omega), Below.heap_alloc _ _ _ (by simp <;> omega), Below.heap_alloc _ _ _ (by simp)]; exact e2
  · rw [Below.heap_alloc _ _ _ (by simp <;> omega), Below.heap_alloc _ _ _ (by simp)]; exact e3
  · rw [Below.heap_alloc _ _ _ (by simp)]; exact e4
  · exact e5

theorem results_one_cell {fn : Func} {p : Tmp} {ty : TypeId} (h : fn.results = #[.cell p ty]) (tmps : Array Value) (W : World) (g : Nat) (v : Bool) (hp : tmps.getD p undef = .pointer (some ⟨g, 0, none⟩)) (hu : Try.prog.underlying ty = some .bool) (hc : W.cell? ⟨g, 0, none⟩ = some (.bool v)) :
    (results fn tmps).run Try.prog W = .ok (.bool v) W := by
  have hz : (isAgg ty).run Try.prog W = .ok false W := by
    unfold isAgg
    rw [Sem.run_bind, run_underlying hu W]
    rfl
  have hp' : tmps[p]?.getD undef = .pointer (some ⟨g, 0, none⟩) := by simpa [Array.getD_eq_getD_getElem?] using hp
  simp [results, h, hp', go_sem, loadVar, hz, hc]

end Go.Proofs.Ytfjejiapafdgeaa

namespace Go.Proofs.Ytfjejiapafdgeaa
open Go.RowKit
set_option maxRecDepth 100000

theorem over_fill (l : Text) (b : UInt8) (hl : l.length = 64) : overP l (fillT b) = fillT b := by
  unfold overP
  rw [List.take_of_length_le (by rw [fillT_len]; omega), fillT_len, List.drop_eq_nil_of_le (by omega), List.append_nil]
def dA (a : UInt8) (m k : Nat) : DiskV := ⟨m, fun j => if j < k then fillT (a + UInt8.ofNat j) else zeros, false, false, 0, 0, k⟩
theorem dA_zero (a : UInt8) (m : Nat) : dA a m 0 = newD m := by simp [dA, newD]
theorem dA_ok (a : UInt8) (m k : Nat) : OkD (dA a m k) := ⟨by simp [dA], by simp [dA], by simp [dA], by simp [dA], by simp [dA]⟩
theorem dA_step (a : UInt8) (m k : Nat) (hk : k < m) : writeE (dA a m k) k (fillT (a + UInt8.ofNat k)) = 0 ∧ writeD (dA a m k) k (fillT (a + UInt8.ofNat k)) = dA a m (k + 1) := by
  have hr : reachV (dA a m k) k = 0 := by
    unfold reachV dA
    simp only [Bool.false_eq_true, if_false]
    rw [if_neg (by omega)]
  unfold writeE writeD
  rw [hr, fillT_len]
  refine ⟨by simp [dA], ?_⟩
  simp only [ne_eq, not_true_eq_false, if_false, Int.toNat_natCast]
  simp only [dA, DiskV.lay, Bool.false_eq_true, false_and, if_false, DiskV.mk.injEq, true_and]
  refine ⟨?_, by omega⟩
  funext j
  by_cases h : j = k
  · subst h
    simp [over_fill _ _ zeros_len]
  · by_cases h2 : j < k
    · rw [if_neg h, if_pos h2, if_pos (by omega)]
    · rw [if_neg h, if_neg h2, if_neg (by omega)]
def dB (a : UInt8) (m af t c : Nat) : DiskV := ⟨m, fun j => if j < m then fillT (a + UInt8.ofNat j) else zeros, false, true, (af : Int) - c, t, (m : Int) + c⟩
theorem dB_zero (a : UInt8) (m af t : Nat) : dB a m af t 0 = { dA a m m with set := true, after := (af : Int), torn := (t : Int) } := by simp [dB, dA]
theorem dB_ok (a : UInt8) (m af t c : Nat) (h : c ≤ af) (ha : af ≤ 40) (ht : t ≤ 64) : OkD (dB a m af t c) := ⟨by simp [dB], by simp [dB]; omega, by simp [dB]; omega, by simp [dB]; omega, by simp [dB]; omega⟩
theorem dB_reach (a : UInt8) (m af t c i : Nat) (hi : i < m) : reachV (dB a m af t c) i = 0 := by
  unfold reachV dB
  simp only [Bool.false_eq_true, if_false]
  rw [if_neg (by omega)]
theorem dB_step (a : UInt8) (m af t c i : Nat) (hi : i < m) (hc : c < af) : writeE (dB a m af t c) i (fillT (a + UInt8.ofNat i)) = 0 ∧ writeD (dB a m af t c) i (fillT (a + UInt8.ofNat i)) = dB a m af t (c + 1) := by
  unfold writeE writeD
  rw [dB_reach a m af t c i hi, fillT_len]
  have h0 : ¬ ((af : Int) - c = 0) := by omega
  refine ⟨by simp [dB, h0], ?_⟩
  simp only [ne_eq, not_true_eq_false, if_false, Int.toNat_natCast]
  simp only [dB, DiskV.lay, h0, and_false, if_false, if_true, DiskV.mk.injEq, true_and]
  refine ⟨?_, by omega, by omega⟩
  funext j
  by_cases h : j = i
  · subst h
    rw [if_pos rfl, if_pos hi, over_fill _ _ (fillT_len _)]
  · rw [if_neg h]
/-- the disk behind the fuse -/
def dC (a b : UInt8) (m af t i : Nat) : DiskV := writeD (dB a m af t af) i (fillT b)
/-- the sector that the fuse tore -/
def tornT (a b : UInt8) (t i : Nat) : Text := (fillT b).take t ++ (fillT (a + UInt8.ofNat i)).drop t
theorem tornT_len (a b : UInt8) (t i : Nat) (ht : t ≤ 64) : (tornT a b t i).length = 64 := by
  unfold tornT
  rw [List.length_append, List.length_take, List.length_drop, fillT_len, fillT_len]
  omega
theorem dC_is (a b : UInt8) (m af t i : Nat) (hi : i < m) (ht : t ≤ 64) : writeE (dB a m af t af) i (fillT b) = 32 ∧
    dC a b m af t i = ⟨m, fun j => if j = i then tornT a b t i else if j < m then fillT (a + UInt8.ofNat j) else zeros, true, false, 0, 0, (m : Int) + af⟩ := by
  unfold dC writeE writeD
  rw [dB_reach a m af t af i hi, fillT_len]
  have h0 : (af : Int) - af = 0 := by omega
  refine ⟨by simp [dB, h0], ?_⟩
  simp only [ne_eq, not_true_eq_false, if_false, Int.toNat_natCast]
  simp only [dB, DiskV.lay, h0, and_self, if_true, DiskV.mk.injEq, true_and, and_true, Int.toNat_natCast]
  funext j
  by_cases h : j = i
  · subst h
    rw [if_pos rfl, if_pos rfl, if_pos hi]
    unfold overP tornT
    rw [List.take_of_length_le (by rw [List.length_take, fillT_len]; omega)]
    congr 2
    rw [List.length_take, fillT_len]; omega
  · rw [if_neg h, if_neg h]
theorem dC_dead (a b : UInt8) (m af t i : Nat) (hi : i < m) (ht : t ≤ 64) (T : Text) : reachV (dC a b m af t i) i = 32 ∧ writeE (dC a b m af t i) i T = 32 ∧ writeD (dC a b m af t i) i T = dC a b m af t i := by
  have hr : reachV (dC a b m af t i) i = 32 := by
    rw [(dC_is a b m af t i hi ht).2]
    simp [reachV]
  refine ⟨hr, ?_, ?_⟩
  · unfold writeE
    rw [hr]; simp
  · unfold writeD
    rw [hr]; simp
theorem dC_ok (a b : UInt8) (m af t i : Nat) (hi : i < m) (ht : t ≤ 64) : OkD (dC a b m af t i) := by
  rw [(dC_is a b m af t i hi ht).2]
  exact ⟨by simp, by simp, by simp, by simp, by simp; omega⟩
end Go.Proofs.Ytfjejiapafdgeaa

namespace Go.Proofs.Ytfjejiapafdgeaa
open Go.RowKit
attribute [local go_sem] Oper.semAt_some
set_option maxRecDepth 100000

/-- behind the boxes, and the disk's own blocks -/
def Stand (w : World) (i torn X Y : Int) (W : World) (n : Nat) (d : DiskV) : Prop :=
  Dsk W (w.heap.size + 6) (w.heap.size + 5) n d ∧ Below (w.heap.size + 5) (boxes5 w i torn X Y) W
theorem Stand.below {w W W' : World} {i torn X Y : Int} {n : Nat} {d : DiskV} (h : Stand w i torn X Y W n d) (hb : Below W.heap.size W W') : Stand w i torn X Y W' n d :=
  ⟨h.1.below hb, h.2.trans (hb.mono (by have := h.2.size; rw [boxes5_size] at this; exact this))⟩
theorem Stand.chg {w W W' : World} {i torn X Y : Int} {n n' : Nat} {d d' : DiskV} (h : Stand w i torn X Y W n d) (hd : Dsk W' (w.heap.size + 6) (w.heap.size + 5) n' d') (hc : ChgD W W' (w.heap.size + 6) (w.heap.size + 5)) : Stand w i torn X Y W' n' d' :=
  ⟨hd, h.2.trans (hc.below (by have := h.2.size; rw [boxes5_size] at this; exact this) (by omega) (by omega))⟩
theorem Stand.box {w W : World} {i torn X Y : Int} {n : Nat} {d : DiskV} (h : Stand w i torn X Y W n d) :
    W.cell? ⟨w.heap.size, 0, none⟩ = some (.int .i64 i) ∧ W.cell? ⟨w.heap.size + 1, 0, none⟩ = some (.int .i64 torn) ∧ W.cell? ⟨w.heap.size + 1 + 1, 0, none⟩ = some (.int .u8 X) ∧ W.cell? ⟨w.heap.size + 1 + 1 + 1, 0, none⟩ = some (.int .u8 Y) ∧
    W.cell? ⟨w.heap.size + 1 + 1 + 1 + 1, 0, none⟩ = some (.bool false) ∧ W.frozen? ⟨w.heap.size + 1 + 1 + 1 + 1, 0, none⟩ = false := by
  obtain ⟨x0, x1, x2, x3, x4⟩ := box5 h.2
  exact ⟨(one_cell x0).1, (one_cell x1).1, (one_cell x2).1, (one_cell x3).1, (one_cell x4).1, (one_cell x4).2⟩
/-- what the statement's variables hold -/
def Boxed4 (w : World) (i torn X Y : Int) (W : World) : Prop := W.cell? ⟨w.heap.size, 0, none⟩ = some (.int .i64 i) ∧ W.cell? ⟨w.heap.size + 1, 0, none⟩ = some (.int .i64 torn) ∧ W.cell? ⟨w.heap.size + 1 + 1, 0, none⟩ = some (.int .u8 X) ∧ W.cell? ⟨w.heap.size + 1 + 1 + 1, 0, none⟩ = some (.int .u8 Y)
theorem boxes_boxed {w W : World} {i torn X Y : Int} (h : Below (w.heap.size + 5) (boxes5 w i torn X Y) W) : Boxed4 w i torn X Y W := by
  obtain ⟨x0, x1, x2, x3, _⟩ := box5 h
  exact ⟨(one_cell x0).1, (one_cell x1).1, (one_cell x2).1, (one_cell x3).1⟩
theorem Stand.boxed {w W : World} {i torn X Y : Int} {n : Nat} {d : DiskV} (h : Stand w i torn X Y W n d) : Boxed4 w i torn X Y W := ⟨h.box.1, h.box.2.1, h.box.2.2.1, h.box.2.2.2.1⟩
/-- a write, stood by -/
theorem stand_write {w W : World} {i torn X Y : Int} {n : Nat} {d : DiskV} (h : Stand w i torn X Y W n d) (k : Nat) (g c : Nat) (T : Text) (v : Int) (d' : DiskV) (hn : n < 1000) (ho : OkD d) (hT : T.length = 64) (hc : 64 ≤ c) (ht : Txt W (some ⟨g, 0, none⟩) T) (hw : d.writes < 1000)
    (hE : writeE d k T = v) (hD : writeD d k T = d') :
    Calls Try.prog 27 #[.pointer (some ⟨w.heap.size + 6, 0, none⟩), .int .i64 k, .slice (some ⟨g, 0, none⟩) 64 c] W fun e W' => e = .returned (.int .i64 v) ∧ Stand w i torn X Y W' (n + 1) d' := by
  have := code_write W (w.heap.size + 6) (w.heap.size + 5) n d k h.1 (by unfold maxLen; omega) ho (some ⟨g, 0, none⟩) c T (by omega) ht (by omega)
  rw [hT] at this
  refine this.mono fun e W' ⟨h1, h2, h3⟩ => ⟨by rw [h1, hE], ?_⟩
  rw [← hD]
  exact h.chg h2 h3

theorem sum_byte (a : UInt8) (k : Nat) : ((a.toNat : Int) + (k : Int)) % 256 = ((a + UInt8.ofNat k).toNat : Int) := by
  rw [UInt8.toNat_add, UInt8.toNat_ofNat']
  omega
theorem eql_func_step (t : TypeId) (f : Fn) (x c : Array Value) (W : World) : (binOp .eql t (.func f x c) .nilFunc).run Try.prog W = ((Op.equalIn 10000 t (.func f x c) .nilFunc).run Try.prog W).andThen fun b w' => .ok (.bool b) w' := by
  simp only [binOp]
  simp [Op.equal, Op.maxDepth]
theorem eql_func_in (f : Fn) (x c : Array Value) (W : World) (n : Nat) : (Op.equalIn (n + 1) 109 (.func f x c) .nilFunc).run Try.prog W = .ok false W := by
  have hu : Try.prog.underlying 109 = some (.func #[135] #[] false) := by kernel_rfl
  rw [Op.equalIn]
  simp only [Sem.run_bind, run_underlying hu, Result.andThen_ok]
  rfl
theorem eql_func_nil (f : Fn) (x c : Array Value) (W : World) : (binOp .eql 109 (.func f x c) .nilFunc).run Try.prog W = .ok (.bool false) W := by
  rw [eql_func_step, eql_func_in f x c W 9999]
  rfl
theorem wrap8 (z : Int) : IntKind.u8.wrap z = z % 256 := by
  simp [IntKind.wrap, IntKind.signed, IntKind.bits]
end Go.Proofs.Ytfjejiapafdgeaa
