/- Commands: what may be: the program's. How many bits a number has: the library's own function, at this program. Plain facts on numbers as bytes. Nothing of the program is imported. -/
import Derived.Test.YtplghpamckdklaaGreatE8
import Derived.Test.YtplghpamckdklaaGreatE5
import Derived.WalkMore
import Derived.Laws.Rows
import Derived.Test.YtplghpamckdklaaGreatRows
import Derived.Shelf.Small.Bits
import Derived.Shelf.Strconv.Itoa0
import Derived.Lib.BitFns
import Derived.Lib.ItoaNum
namespace Go.Proofs.YtplghpamckdklaaGreat
open Go.RowKit
set_option maxRecDepth 100000
set_option linter.unusedSimpArgs false
set_option linter.unusedVariables false

theorem below_drew (w : World) : Below w.heap.size w w.drew := (Below.refl _ w).drew
theorem exec_load_row {P : Program} {o : Oper} {ev : Operand → Value} {w : World} (ty : TypeId) (x : Operand) (ho : o.op = .load ty x)
 (g : Nat) (hx : ev x = .pointer (some ⟨g, 0, none⟩)) (t : TypeId) (cs : Array Value) (fr : Nat × Nat) (d : TypeDesc) (hg : w.heap[g]? = some (.cells cs t fr))
 (hu : P.underlying ty = some d) (hd : (match d with | .struct _ | .array _ _ => true | _ => false) = true) (hi : (P.info? ty).map (·.size) = some cs.size) :
 (execOp ev o).run P w = .ok (.value (.agg cs)) w := by
 unfold execOp
 simp only [ho, hx, Instr.loadAt, Instr.sureAddr, Sem.run_bind, Sem.run_pure, Result.andThen_ok, run_loadVar_row w g t ty cs fr d hg hu hd hi]
set_option maxHeartbeats 2000000 in
theorem good_yes (cs : Array Value) (k : Int) (u : Array Value) (s : Bool) (w : World) (hs : cs.size = 22) (hk : cs[0]? = some (.int .i64 k)) (HA : Hid (∀ W, Below w.heap.size w W → Calls Tryz.prog 20 #[.agg cs] W fun e w1 => e = .returned (.bool true) ∧ Below W.heap.size W w1)) (HU : Hid (∀ W, Calls Tryz.prog 22 #[.agg cs] W fun e w1 => e = .returned (.agg u) ∧ Below W.heap.size W w1)) (HSm : Hid (∀ W, Below w.heap.size w W → Calls Tryz.prog 21 #[.agg u, .agg #[.int .i64 k, .string ⟨#[]⟩, .string ⟨#[]⟩, .int .i64 0, .int .i64 0, .int .i64 0, .int .i64 0, .int .i64 0, .int .i64 0, .int .i64 0, .int .i64 0, .int .i64 0, .int .i64 0, .string ⟨#[]⟩, .bool false, .bool false, .string ⟨#[]⟩, .int .i64 0, .string ⟨#[]⟩, .string ⟨#[]⟩, .string ⟨#[]⟩, .slice none 0 0]] W fun e w1 => e = .returned (.bool s) ∧ Below W.heap.size W w1)) : Calls Tryz.prog 8 #[.agg cs] w fun e w1 => e = .returned (.bool s) ∧ Below w.heap.size w w1 := by
 have HXd := Lib.hid (heap_on (below_drew _) (heap_alloc_new w (.cells cs 28)))
 have HWd := Lib.hid (below_then (below_alloc w (.cells cs 28)) (below_drew _))
 have HI := Lib.hid (cmd_info hs)
 have HK := Lib.hid hk
 clear hs hk
 go_enter Tryz.func8, Tryz.ntmps8
 go_wp2
 refine wp_region_held_drew (S := fun V => V.heap[w.heap.size]? = some (.cells cs 28 (0, 0))) (by kernel_rfl) HXd.out ?_
 intro hHeld
 clear HXd
 generalize World.drew _ = wd at HWd hHeld ⊢
 (refine takeH (i := 0) (v := .agg cs) rfl (by kernel_rfl) (by kernel_rfl) (by kernel_rfl) (fun _ _ _ h => h) (Or.inl ⟨by rfl, fun wS hSw => exec_load_row 28 (.tmp 1) rfl w.heap.size rfl 28 cs (0, 0) _ hSw Tryz.underlying28 rfl HI.out⟩) (by assumption) ?_; (try simp only [Act.put, pA, pB, pC]))
 refine aloneH (i := 1) rfl (by kernel_rfl) (fun K hK => ?_)
 rw [if_pos (by rfl)]
 go_simp; ((refine (HA.out _ HWd.out).mono ?_); (rintro e w1 ⟨rfl, hb⟩); have HB1 := Lib.hid hb; clear hb; (try go_simp))
 refine hK.out _ _ (heap_on HB1.out hHeld) ?_
 clear hK K hHeld; intro hHeld; (try simp only [Act.put, pA, pB, pC])
 (refine takeP (i := 2) ?_ rfl (.inl ⟨by rfl, ?_⟩) ?_; rotate_left; (focus ((intro wS hSw); (try dsimp only at hSw); have s0 := (cell_of_row wS w.heap.size 0 _ _ _ hSw).trans HK.out; go_simp; (try with_reducible rfl); done)); (try simp only [Act.put, pA, pB, pC]))
 (refine takeH (i := 3) (v := .agg cs) rfl (by kernel_rfl) (by kernel_rfl) (by kernel_rfl) (fun _ _ _ h => h) (Or.inl ⟨by rfl, fun wS hSw => exec_load_row 28 (.tmp 1) rfl w.heap.size rfl 28 cs (0, 0) _ hSw Tryz.underlying28 rfl HI.out⟩) (by assumption) ?_; (try simp only [Act.put, pA, pB, pC]))
 (refine takeP (i := 5) ?_ rfl (.inl ⟨by rfl, ?_⟩) ?_; rotate_left; (focus ((intro wS hSw); (try dsimp only at hSw); have s0 := (cell_of_row wS w.heap.size 0 _ _ _ hSw).trans HK.out; go_simp; (try with_reducible rfl); done)); (try simp only [Act.put, pA, pB, pC]))
 (refine takeP (i := 6) ?_ rfl (.inl ⟨by rfl, ?_⟩) ?_; rotate_left; (focus ((intro wS hSw); (try dsimp only at hSw); have s0 := (cell_of_row wS w.heap.size 0 _ _ _ hSw).trans HK.out; go_simp; (try with_reducible rfl); done)); (try simp only [Act.put, pA, pB, pC]))
 (refine takeP (i := 7) ?_ rfl (.inl ⟨by rfl, ?_⟩) ?_; rotate_left; (focus ((intro wS hSw); (try dsimp only at hSw); have s0 := (cell_of_row wS w.heap.size 0 _ _ _ hSw).trans HK.out; go_simp; (try with_reducible rfl); done)); (try simp only [Act.put, pA, pB, pC]))
 refine aloneH (i := 4) rfl (by kernel_rfl) (fun K hK => ?_)
 rw [if_pos (by rfl)]
 go_simp; ((refine (HU.out _).mono ?_); (rintro e w2 ⟨rfl, hb⟩); have HB2 := Lib.hid hb; clear hb; (try go_simp))
 refine hK.out _ _ (heap_on HB2.out hHeld) ?_
 clear hK K hHeld; intro hHeld; (try simp only [Act.put, pA, pB, pC])
 refine aloneH (i := 8) rfl (by kernel_rfl) (fun K hK => ?_)
 rw [if_pos (by rfl)]
 go_simp; ((refine (HSm.out _ (below_then HWd.out (below_then HB1.out HB2.out))).mono ?_); (rintro e w3 ⟨rfl, hb⟩); have HB3 := Lib.hid hb; clear hb; (try go_simp))
 refine hK.out _ _ (heap_on HB3.out hHeld) ?_
 clear hK K hHeld; intro hHeld; (try simp only [Act.put, pA, pB, pC])
 (refine takeP (i := 9) ?_ rfl (.inl ⟨by rfl, ?_⟩) ?_; rotate_left; (focus ((intro wS hSw); (try dsimp only at hSw); have s0 := (cell_of_row wS w.heap.size 0 _ _ _ hSw).trans HK.out; go_simp; (try with_reducible rfl); done)); (try simp only [Act.put, pA, pB, pC]))
 (refine takeP (i := 10) ?_ rfl (.inl ⟨by rfl, ?_⟩) ?_; rotate_left; (focus ((intro wS hSw); (try dsimp only at hSw); have s0 := (cell_of_row wS w.heap.size 0 _ _ _ hSw).trans HK.out; go_simp; (try with_reducible rfl); done)); (try simp only [Act.put, pA, pB, pC]))
 refine wpAnyH_done (by kernel_rfl) ?_ _
 clear hHeld
 go_wp2
 go_ret
 exact ⟨rfl, below_then HWd.out (below_then (below_then HB1.out HB2.out) HB3.out)⟩
set_option maxHeartbeats 2000000 in
theorem good_no (cs : Array Value) (k : Int) (w : World) (hs : cs.size = 22) (hk : cs[0]? = some (.int .i64 k)) (HA : Hid (∀ W, Below w.heap.size w W → Calls Tryz.prog 20 #[.agg cs] W fun e w1 => e = .returned (.bool false) ∧ Below W.heap.size W w1)) : Calls Tryz.prog 8 #[.agg cs] w fun e w1 => e = .returned (.bool false) ∧ Below w.heap.size w w1 := by
 have HXd := Lib.hid (heap_on (below_drew _) (heap_alloc_new w (.cells cs 28)))
 have HWd := Lib.hid (below_then (below_alloc w (.cells cs 28)) (below_drew _))
 have HI := Lib.hid (cmd_info hs)
 have HK := Lib.hid hk
 clear hs hk
 go_enter Tryz.func8, Tryz.ntmps8
 go_wp2
 refine wp_region_held_drew (S := fun V => V.heap[w.heap.size]? = some (.cells cs 28 (0, 0))) (by kernel_rfl) HXd.out ?_
 intro hHeld
 clear HXd
 generalize World.drew _ = wd at HWd hHeld ⊢
 (refine takeH (i := 0) (v := .agg cs) rfl (by kernel_rfl) (by kernel_rfl) (by kernel_rfl) (fun _ _ _ h => h) (Or.inl ⟨by rfl, fun wS hSw => exec_load_row 28 (.tmp 1) rfl w.heap.size rfl 28 cs (0, 0) _ hSw Tryz.underlying28 rfl HI.out⟩) (by assumption) ?_; (try simp only [Act.put, pA, pB, pC]))
 refine aloneH (i := 1) rfl (by kernel_rfl) (fun K hK => ?_)
 rw [if_pos (by rfl)]
 go_simp; ((refine (HA.out _ HWd.out).mono ?_); (rintro e w1 ⟨rfl, hb⟩); have HB1 := Lib.hid hb; clear hb; (try go_simp))
 refine hK.out _ _ (heap_on HB1.out hHeld) ?_
 clear hK K hHeld; intro hHeld; (try simp only [Act.put, pA, pB, pC])
 (refine takeP (i := 2) ?_ rfl (.inl ⟨by rfl, ?_⟩) ?_; rotate_left; (focus ((intro wS hSw); (try dsimp only at hSw); have s0 := (cell_of_row wS w.heap.size 0 _ _ _ hSw).trans HK.out; go_simp; (try with_reducible rfl); done)); (try simp only [Act.put, pA, pB, pC]))
 (refine takeH (i := 3) (v := undef) rfl (by kernel_rfl) (by kernel_rfl) (by kernel_rfl) (fun _ _ _ h => h) (Or.inr ⟨by rfl, rfl⟩) (by assumption) ?_; (try simp only [Act.put, pA, pB, pC]))
 (refine takeH (i := 4) (v := undef) rfl (by kernel_rfl) (by kernel_rfl) (by kernel_rfl) (fun _ _ _ h => h) (Or.inr ⟨by rfl, rfl⟩) (by assumption) ?_; (try simp only [Act.put, pA, pB, pC]))
 (refine takeH (i := 5) (v := undef) rfl (by kernel_rfl) (by kernel_rfl) (by kernel_rfl) (fun _ _ _ h => h) (Or.inr ⟨by rfl, rfl⟩) (by assumption) ?_; (try simp only [Act.put, pA, pB, pC]))
 (refine takeH (i := 6) (v := undef) rfl (by kernel_rfl) (by kernel_rfl) (by kernel_rfl) (fun _ _ _ h => h) (Or.inr ⟨by rfl, rfl⟩) (by assumption) ?_; (try simp only [Act.put, pA, pB, pC]))
 (refine takeH (i := 7) (v := undef) rfl (by kernel_rfl) (by kernel_rfl) (by kernel_rfl) (fun _ _ _ h => h) (Or.inr ⟨by rfl, rfl⟩) (by assumption) ?_; (try simp only [Act.put, pA, pB, pC]))
 (refine takeH (i := 8) (v := undef) rfl (by kernel_rfl) (by kernel_rfl) (by kernel_rfl) (fun _ _ _ h => h) (Or.inr ⟨by rfl, rfl⟩) (by assumption) ?_; (try simp only [Act.put, pA, pB, pC]))
 (refine takeP (i := 9) ?_ rfl (.inl ⟨by rfl, ?_⟩) ?_; rotate_left; (focus ((intro wS hSw); (try dsimp only at hSw); have s0 := (cell_of_row wS w.heap.size 0 _ _ _ hSw).trans HK.out; go_simp; (try with_reducible rfl); done)); (try simp only [Act.put, pA, pB, pC]))
 (refine takeP (i := 10) ?_ rfl (.inl ⟨by rfl, ?_⟩) ?_; rotate_left; (focus ((intro wS hSw); (try dsimp only at hSw); have s0 := (cell_of_row wS w.heap.size 0 _ _ _ hSw).trans HK.out; go_simp; (try with_reducible rfl); done)); (try simp only [Act.put, pA, pB, pC]))
 refine wpAnyH_done (by kernel_rfl) ?_ _
 clear hHeld
 go_wp2
 go_ret
 exact ⟨rfl, below_then HWd.out HB1.out⟩
end Go.Proofs.YtplghpamckdklaaGreat

namespace Go.Proofs.YtplghpamckdklaaGreat
open Go.Shelf
set_option maxRecDepth 100000

def lays125_ren : Go.Shelf.Ren := ⟨fun | 125 => 113 | 128 => 125 | 129 => 126 | n => n, fun | 46 => 106 | 3 => 3 | 51 => 124 | 53 => 127 | 4 => 4 | 5 => 5 | 9 => 9 | n => n, fun | n => n⟩
theorem lays125 : Go.Proofs.Lays.n125 Tryz.prog lays125_ren := {
 mixed := by kernel_rfl
 f125 := Tryz.func113.trans (congrArg some (by kernel_rfl))
 f128 := Tryz.func125.trans (congrArg some (by kernel_rfl))
 f129 := Tryz.func126.trans (congrArg some (by kernel_rfl))
 t3 := Tryz.underlying3
 a3 := Tryz.isAgg3
 z3 := Tryz.sizeOf3
 v3 := Tryz.zeroValue3
 t4 := Tryz.underlying4
 a4 := Tryz.isAgg4
 z4 := Tryz.sizeOf4
 v4 := Tryz.zeroValue4
 t5 := Tryz.underlying5
 a5 := Tryz.isAgg5
 z5 := Tryz.sizeOf5
 v5 := Tryz.zeroValue5
 t9 := Tryz.underlying9
 a9 := Tryz.isAgg9
 z9 := Tryz.sizeOf9
 v9 := Tryz.zeroValue9
 t46 := Tryz.underlying106
 a46 := Tryz.isAgg106
 z46 := Tryz.sizeOf106
 v46 := Tryz.zeroValue106
 t51 := Tryz.underlying124
 a51 := Tryz.isAgg124
 z51 := Tryz.sizeOf124
 v51 := Tryz.zeroValue124
 t53 := Tryz.underlying127
 a53 := Tryz.isAgg127
 z53 := Tryz.sizeOf127
 v53 := Tryz.zeroValue127 }
theorem bits_Len (x : Int) (w : World) (h0 : 0 ≤ x) (h1 : x ≤ 18446744073709551615) :
 Calls Tryz.prog 113 #[.int .u64 x] w fun e w' => e = .returned (.int .i64 (Lib.bitLen x.toNat)) ∧ w' = w := Any.bits_Len lays125 x w h0 h1
end Go.Proofs.YtplghpamckdklaaGreat

namespace Go.Proofs.YtplghpamckdklaaGreat.Blob
open Go
set_option maxRecDepth 100000

/-- how many bytes a number has -/
def nb (m : Nat) : Nat := (Lib.bitLen m + 7) / 8
theorem nb_zero : nb 0 = 0 := by decide
theorem nb_step (m : Nat) (h0 : m ≠ 0) (h : m < 18446744073709551616) : nb m = nb (m / 256) + 1 := by
 unfold nb
 by_cases h1 : m < 256
 · have h2 : m / 256 = 0 := by omega
   have h3 : Lib.bitLen m ≤ 8 := Lib.bitLen_le8 ⟨m, h1⟩
   have h4 : 1 ≤ Lib.bitLen m := by
    rw [Lib.bitLen_half m h0 (by omega)]; omega
   have h5 : Lib.bitLen 0 = 0 := by decide
   rw [h2, h5]; omega
 · rw [Lib.bitLen_shift8 m (by omega) (by omega)]; omega
theorem nb_le (k : Nat) : ∀ m : Nat, m < 256 ^ k → m < 18446744073709551616 → nb m ≤ k := by
 induction k with
 | zero => intro m h _; have : m = 0 := by omega
           subst this; rw [nb_zero]; omega
 | succ k ih =>
   intro m h h2
   by_cases h0 : m = 0
   · subst h0; rw [nb_zero]; omega
   · rw [nb_step m h0 h2]
     have := ih (m / 256) (by rw [Nat.pow_succ] at h; omega) (by omega)
     omega
theorem nb_8 (m : Nat) (h : m < 9223372036854775808) : nb m ≤ 8 := nb_le 8 m (by omega) (by omega)
theorem nb_lt (m : Nat) (h : m < 18446744073709551616) : m < 256 ^ nb m := by
 induction m using Nat.strongRecOn with
 | _ m ih =>
   by_cases h0 : m = 0
   · subst h0; rw [nb_zero]; decide
   · rw [nb_step m h0 h, Nat.pow_succ]
     have := ih (m / 256) (by omega) (by omega)
     omega
theorem nb_pos (m : Nat) (h0 : m ≠ 0) (h : m < 18446744073709551616) : 0 < nb m := by rw [nb_step m h0 h]; omega
theorem nb_ge (m : Nat) (h0 : m ≠ 0) (h : m < 18446744073709551616) : 256 ^ (nb m - 1) ≤ m := by
 induction m using Nat.strongRecOn with
 | _ m ih =>
   rw [nb_step m h0 h, Nat.add_sub_cancel]
   by_cases h1 : m / 256 = 0
   · rw [h1, nb_zero]; omega
   · have := ih (m / 256) (by omega) h1 (by omega)
     have hp := nb_pos (m / 256) h1 (by omega)
     have e : nb (m / 256) = nb (m / 256) - 1 + 1 := by omega
     rw [e, Nat.pow_succ]
     omega

/-- so many bytes of a number, the highest first -/
def be : Nat → Nat → List UInt8
 | 0, _ => []
 | k + 1, m => be k (m / 256) ++ [UInt8.ofNat (m % 256)]
theorem be_length (k : Nat) : ∀ m, (be k m).length = k := by
 induction k with
 | zero => intro m; rfl
 | succ k ih => intro m; simp [be, ih]
theorem be_get (k : Nat) : ∀ m i : Nat, i < k → (be k m)[i]? = some (UInt8.ofNat (m / 256 ^ (k - 1 - i) % 256)) := by
 induction k with
 | zero => intro m i h; omega
 | succ k ih =>
   intro m i h
   simp only [be]
   by_cases hi : i < k
   · rw [List.getElem?_append_left (by rw [be_length]; exact hi), ih (m / 256) i hi, Nat.div_div_eq_div_mul]
     congr 4
     rw [show k + 1 - 1 - i = k - 1 - i + 1 by omega, Nat.pow_succ, Nat.mul_comm]
   · have : i = k := by omega
     subst this
     rw [List.getElem?_append_right (by rw [be_length]; omega), be_length]
     simp
/-- the number that bytes are, the highest first -/
def val (l : List UInt8) : Nat := l.foldl (fun n c => n * 256 + c.toNat) 0
theorem val_snoc (l : List UInt8) (c : UInt8) : val (l ++ [c]) = val l * 256 + c.toNat := by simp [val]
theorem val_be (k : Nat) : ∀ m : Nat, m < 256 ^ k → val (be k m) = m := by
 induction k with
 | zero => intro m h; have : m = 0 := by omega
           subst this; rfl
 | succ k ih =>
   intro m h
   simp only [be]
   rw [val_snoc, ih (m / 256) (by rw [Nat.pow_succ] at h; omega)]
   have : (UInt8.ofNat (m % 256)).toNat = m % 256 := by
    rw [UInt8.toNat_ofNat']; omega
   rw [this]; omega
theorem val_lt_from (l : List UInt8) : ∀ a : Nat, l.foldl (fun n c => n * 256 + c.toNat) a < (a + 1) * 256 ^ l.length := by
 induction l with
 | nil => intro a; simp
 | cons c l ih =>
   intro a
   simp only [List.foldl_cons, List.length_cons]
   refine Nat.lt_of_lt_of_le (ih _) ?_
   have := c.toNat_lt
   rw [Nat.pow_succ, Nat.mul_comm (256 ^ l.length), ← Nat.mul_assoc]
   exact Nat.mul_le_mul_right _ (by omega)
theorem val_lt (l : List UInt8) : val l < 256 ^ l.length := by
 have := val_lt_from l 0
 simpa [val] using this

/-- a number's size as bytes, behind a byte that tells how many -/
def numT (h m : Nat) : List UInt8 := UInt8.ofNat (h + nb m) :: be (nb m) m
theorem numT_length (h m : Nat) : (numT h m).length = nb m + 1 := by simp [numT, be_length]
/-- the next byte -/
theorem be_take (m i : Nat) (k : Nat) (h : i < k) : (be k m).take (i + 1) = (be k m).take i ++ [UInt8.ofNat (m / 256 ^ (k - 1 - i) % 256)] := by
 have hl : i < (be k m).length := by rw [be_length]; exact h
 rw [List.take_succ_eq_append_getElem hl]
 have := be_get k m i h
 rw [List.getElem?_eq_getElem hl] at this
 rw [Option.some.inj this]
/-- the same bytes, the lowest first -/
def le : Nat → Nat → List UInt8
 | 0, _ => []
 | k + 1, m => UInt8.ofNat (m % 256) :: le k (m / 256)
theorem le_length (k : Nat) : ∀ m, (le k m).length = k := by
 induction k with
 | zero => intro m; rfl
 | succ k ih => intro m; simp [le, ih]
theorem le_rev (k : Nat) : ∀ m, (le k m).reverse = be k m := by
 induction k with
 | zero => intro m; rfl
 | succ k ih => intro m; simp [le, be, ih]
theorem le_snoc (k : Nat) : ∀ m, le (k + 1) m = le k m ++ [UInt8.ofNat (m / 256 ^ k % 256)] := by
 induction k with
 | zero => intro m; simp [le]
 | succ k ih =>
   intro m
   have h := ih (m / 256)
   rw [le, h, le, Nat.div_div_eq_div_mul]
   rw [show 256 * 256 ^ k = 256 ^ (k + 1) by rw [Nat.pow_succ, Nat.mul_comm]]
   rfl
end Go.Proofs.YtplghpamckdklaaGreat.Blob
