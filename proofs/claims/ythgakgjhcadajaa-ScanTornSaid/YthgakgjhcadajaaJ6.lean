/- What the registers' steps give: the document's own and the program's. The table that the program makes, and how it goes through a text by it. -/
import Derived.Test.YthgakgjhcadajaaJ1
import Derived.Test.YthgakgjhcadajaaJ5
import Derived.Laws.BitsAllLaws
import Derived.Deep.LoopGhost
import Derived.Laws.Tables
import Derived.Laws.CopyOwn
namespace Go.Proofs.Ythgakgjhcadajaa
open Go.RowKit
set_option maxRecDepth 100000

/-- a register as a number -/
def reg (x : Crc.Reg) : Int := (x.toNat : Int)
theorem reg_bd (x : Crc.Reg) : 0 ≤ reg x ∧ reg x < 4294967296 := by unfold reg; have := x.isLt; omega
theorem reg_odd (x : Crc.Reg) : (reg x % (2 : Int) = 1 ↔ x.getLsbD 0 = true) := by
  unfold reg
  rw [BitVec.getLsbD, Nat.testBit_zero]
  simp only [decide_eq_true_eq]
  omega
theorem reg_half (x : Crc.Reg) : reg x / (2 : Int) = reg (x >>> 1) := by
  unfold reg
  rw [BitVec.toNat_ushiftRight, Nat.shiftRight_succ, Nat.shiftRight_zero]
  omega
theorem reg_xor (x y : Crc.Reg) : bits .xor .u32 (reg x) (reg y) = reg (x ^^^ y) := by
  unfold reg
  rw [u32_xor_nat _ _ x.isLt y.isLt, BitVec.toNat_xor]

set_option maxHeartbeats 400000 in
theorem ref_step (x : Crc.Reg) (w : World) :
    Calls Try.prog 91 #[.int .u32 (reg x)] w fun e w' => e = .returned (.int .u32 (reg (Crc.step x))) ∧ w = w' := by
  obtain ⟨h0, h1⟩ := reg_bd x
  by_cases hb : x.getLsbD 0 = true
  · have ht : (reg x % 2 == 1) = true := by rw [(reg_odd x).2 hb]; rfl
    have HV : Hid (bits .xor .u32 (reg x / 2) 3988292384 = reg (Crc.step x)) := by
      rw [reg_half]
      exact Lib.hid ((reg_xor (x >>> 1) Crc.poly).trans (by unfold Crc.step; rw [hb]; rfl))
    clear hb
    go_enter Try.func91, Try.ntmps91
    go_wp2
    go_ret
    exact ⟨ret_int HV.out, rfl⟩
  · have ht : (reg x % 2 == 1) = false := by
      have : ¬ reg x % 2 = 1 := fun h => hb ((reg_odd x).1 h)
      simp [this]
    have HV : Hid (reg x / 2 = reg (Crc.step x)) := by
      rw [reg_half]
      exact Lib.hid (by rw [Crc.step_shift (by simpa using hb)])
    clear hb
    go_enter Try.func91, Try.ntmps91
    go_wp2
    go_ret
    exact ⟨ret_int HV.out, rfl⟩

theorem reg_byte (c : UInt8) : ((c.toNat : Nat) : Int) = reg (c.toBitVec.setWidth 32) := by
  unfold reg
  rw [BitVec.toNat_setWidth, UInt8.toNat_toBitVec, Nat.mod_eq_of_lt (by have := c.toNat_lt; omega)]
theorem take_next {α : Type} (l : List α) (k : Nat) (h : k < l.length) : l.take (k + 1) = l.take k ++ [l[k]] := by
  rw [List.take_succ_eq_append_getElem h]
/-- a text's register, from x -/
def bytesT (x : Crc.Reg) (l : Text) : Crc.Reg := Crc.bytes x (Crc.bv l)
def onT (s : Crc.Reg) (l : Text) : Crc.Reg := Crc.on s (Crc.bv l)
theorem bytes_next (x : Crc.Reg) (l : Text) (k : Nat) (h : k < l.length) : bytesT x (l.take (k + 1)) = Crc.steps 8 (bytesT x (l.take k) ^^^ l[k].toBitVec.setWidth 32) := by
  unfold bytesT
  rw [take_next l k h, Crc.bv_append, Crc.bytes_append]; rfl
theorem onT_eq (s : Crc.Reg) (l : Text) : onT s l = bytesT (s ^^^ BitVec.allOnes 32) l ^^^ BitVec.allOnes 32 := rfl
theorem steps_next (n : Nat) : ∀ x : Crc.Reg, Crc.steps (n + 1) x = Crc.step (Crc.steps n x) := by
  induction n with
  | zero => intro x; rfl
  | succ n ih => intro x; exact ih (Crc.step x)

set_option maxHeartbeats 400000 in
theorem code_halve (x : Crc.Reg) (w : World) :
    Calls Try.prog 101 #[.int .u32 (reg x)] w fun e w' => e = .returned (.int .u32 (reg (Crc.step x))) ∧ w = w' := by
  obtain ⟨h0, h1⟩ := reg_bd x
  by_cases hb : x.getLsbD 0 = true
  · have ht : (reg x % 2 == 1) = true := by rw [(reg_odd x).2 hb]; rfl
    have HV : Hid (bits .xor .u32 (reg x / 2) 3988292384 = reg (Crc.step x)) := by
      rw [reg_half]
      exact Lib.hid ((reg_xor (x >>> 1) Crc.poly).trans (by unfold Crc.step; rw [hb]; rfl))
    clear hb
    go_enter Try.func101, Try.ntmps101
    go_wp2
    go_ret
    exact ⟨ret_int HV.out, rfl⟩
  · have ht : (reg x % 2 == 1) = false := by
      have : ¬ reg x % 2 = 1 := fun h => hb ((reg_odd x).1 h)
      simp [this]
    have HV : Hid (reg x / 2 = reg (Crc.step x)) := by
      rw [reg_half]
      exact Lib.hid (by rw [Crc.step_shift (by simpa using hb)])
    clear hb
    go_enter Try.func101, Try.ntmps101
    go_wp2
    go_ret
    exact ⟨ret_int HV.out, rfl⟩

set_option maxHeartbeats 400000 in
theorem code_behind (n : Nat) (hn : n < 16) (w : World) :
    Calls Try.prog 100 #[.int .i64 n] w fun e w' => e = .returned (.int .u32 (reg (Crc.steps 4 (BitVec.ofNat 32 n)))) ∧ w = w' := by
  obtain ⟨x, hx⟩ : ∃ x, x = BitVec.ofNat 32 n := ⟨_, rfl⟩
  have HX : Hid (((n : Nat) : Int) = reg x) := Lib.hid (by rw [hx]; unfold reg; simp; omega)
  rw [← hx]
  clear hx
  go_enter Try.func100, Try.ntmps100
  go_wp2
  rw [HX.out]
  clear HX hn
  go_loop [3, 6] (fun r i => ∃ j : Nat, j ≤ 4 ∧ i = .int .i64 j ∧ r = .int .u32 (reg (Crc.steps j x))) (fun _ i => 4 - (intOf i).toNat)
  case atStart => exact ⟨0, by omega, rfl, rfl⟩
  case round =>
    obtain ⟨j, hj, rfl, rfl⟩ := hrel
    by_cases hl4 : j < 4
    · have HJ := Lib.hid (steps_next j x)
      go_wp2_with (go_at_call 101; refine (code_halve _ _).mono ?_; rintro e w' ⟨rfl, rfl⟩)
      go_round
      case rel => exact ⟨j + 1, by omega, by go_num, by rw [HJ.out]⟩
      case measure => simp [intOf]; omega
    · obtain rfl : j = 4 := by omega
      go_wp2
      go_ret
      exact ⟨rfl, rfl⟩

theorem shift4 (x : Crc.Reg) : reg x / (16 : Int) = reg (x >>> 4) := by
  unfold reg
  rw [BitVec.toNat_ushiftRight, Nat.shiftRight_eq_div_pow]
  omega
theorem reg_shl (x : Crc.Reg) : reg x * (2 : Int) % (4294967296 : Int) = reg (x <<< 1) := by
  unfold reg
  rw [BitVec.toNat_shiftLeft, Nat.shiftLeft_eq]
  omega
theorem reg_zero (x : Crc.Reg) : reg x = 0 ↔ x = 0#32 := by
  unfold reg
  constructor
  · intro h; exact BitVec.eq_of_toNat_eq (by simp; omega)
  · intro h; subst h; rfl
theorem reg_top (x : Crc.Reg) : (reg x / 2147483648 == 1) = x.getLsbD 31 := by
  have h : (reg x / 2147483648 = 1) ↔ x.getLsbD 31 = true := by
    unfold reg
    rw [BitVec.getLsbD, Nat.testBit_eq_decide_div_mod_eq]
    simp only [decide_eq_true_eq]
    have := x.isLt
    omega
  rw [Bool.eq_iff_iff, ← h]
  simp

end Go.Proofs.Ythgakgjhcadajaa

namespace Go.Proofs.Ythgakgjhcadajaa
open Go.RowKit
set_option maxRecDepth 100000

def entry (n : Nat) : Value := .int .u32 (reg (Crc.steps 4 (BitVec.ofNat 32 n)))
/-- the table, its first j entries made -/
def tab (j : Nat) : Array Value := ((List.range 16).map fun n => if n < j then entry n else .int .u32 0).toArray
theorem tab_size (j : Nat) : (tab j).size = 16 := by simp [tab]
theorem tab_get (j k : Nat) (hk : k < 16) : (tab j)[k]? = some (if k < j then entry k else .int .u32 0) := by
  simp [tab, hk]
theorem tab_next (j : Nat) : (tab j).setIfInBounds j (entry j) = tab (j + 1) := by
  apply Array.ext_getElem?
  intro k
  rw [Array.getElem?_setIfInBounds, tab_size]
  by_cases h : j = k
  · subst h
    by_cases hj : j < 16
    · rw [if_pos rfl, if_pos hj, tab_get _ _ hj, if_pos (by omega)]
    · rw [if_pos rfl, if_neg hj, Array.getElem?_eq_none (by rw [tab_size]; omega)]
  · rw [if_neg h]
    by_cases hk : k < 16
    · rw [tab_get _ _ hk, tab_get _ _ hk]
      by_cases h1 : k < j
      · rw [if_pos h1, if_pos (by omega)]
      · rw [if_neg h1, if_neg (by omega)]
    · rw [Array.getElem?_eq_none (by rw [tab_size]; omega), Array.getElem?_eq_none (by rw [tab_size]; omega)]
theorem tab_zero : tab 0 = #[.int .u32 0, .int .u32 0, .int .u32 0, .int .u32 0, .int .u32 0, .int .u32 0, .int .u32 0, .int .u32 0, .int .u32 0, .int .u32 0, .int .u32 0, .int .u32 0, .int .u32 0, .int .u32 0, .int .u32 0, .int .u32 0] := rfl
theorem tab_one (j : Nat) : (tab j).all (·.oneCell') = true := by
  rw [Array.all_eq_true]
  intro i hi
  simp only [tab, List.getElem_toArray, List.getElem_map]
  by_cases h : (List.range 16)[i]'(by simpa [tab] using hi) < j
  · rw [if_pos h]; rfl
  · rw [if_neg h]; rfl
theorem tab_info : (Try.prog.info? 150).map (·.size) = some 16 := by kernel_rfl

set_option maxHeartbeats 1000000 in
theorem code_fours (w : World) :
    Calls Try.prog 97 #[] w fun e w' => e = .returned (.agg (tab 16)) ∧ Below w.heap.size w w' := by
  go_enter Try.func97, Try.ntmps97
  go_wp2
  go_loopw [4] (fun i wr => ∃ j : Nat, j ≤ 16 ∧ i = .int .i64 j ∧ wr.heap[w.heap.size + 1]? = some (.cells (tab j) 150 (0, 0)) ∧ wr.heap[w.heap.size]? = some (.cells (tab 0) 150 (0, 0)) ∧ Below w.heap.size w wr) (fun i _ => 16 - (intOf i).toNat)
  case atStart => exact ⟨0, by omega, rfl, by rw [tab_zero]; exact heap_alloc2_new _ _ _, by rw [tab_zero]; exact heap_alloc2_old _ _ _, ((Below.refl _ _).alloc (Nat.le_refl _) _).alloc (by simp) _⟩
  case round =>
    obtain ⟨j, hj, rfl, hT, hR, hB⟩ := hrel
    by_cases hlt : j < 16
    · have hc : wr.cell? ⟨w.heap.size + 1, j, none⟩ = some (.int .u32 0) := by rw [cell_of_row _ _ _ _ _ _ hT, tab_get _ _ hlt, if_neg (by omega)]
      have hf := frozen_of_row _ _ j _ _ hT
      have HT := Lib.hid hT
      have HR := Lib.hid hR
      clear hT hR
      go_wp2_with (go_at_call 100; refine (code_behind j hlt _).mono ?_; rintro e w' ⟨rfl, rfl⟩)
      go_roundw
      case rel =>
        refine ⟨j + 1, by omega, by go_num, ?_, ?_, hB.setCell (by simp) _⟩
        · rw [heap_setCell_same _ _ _ _ _ _ HT.out]
          show some (Obj.cells ((tab j).setIfInBounds j (entry j)) _ _) = _
          rw [tab_next]
        · rw [heap_setCell_other _ _ _ _ (by simp)]
          exact HR.out
      case measure => simp [intOf]; omega
    · obtain rfl : j = 16 := by omega
      have HT := Lib.hid hT
      have HR := Lib.hid hR
      clear hT hR
      go_wp2_with (first | (refine wpList_load_row (o := ⟨some 13, _, _, _, _, _⟩) rfl 150 (.tmp 2) rfl (w.heap.size + 1) rfl 150 (tab 16) (0, 0) _ HT.out Try.underlying150 rfl tab_info ?_) | (refine wpList_store_row (o := ⟨none, _, _, _, _, _⟩) rfl 150 (.tmp 0) (.tmp 13) rfl w.heap.size (tab 16) rfl rfl 150 (tab 0) HR.out tab_info rfl (tab_one 16) ?_))
      exact bodyPost_ret (v := .agg (tab 16)) (results_cell_row Try.results97 _ _ w.heap.size 150 (tab 16) (0, 0) _ rfl (setRow_heap _ _ _ _ _ _ HR.out) Try.underlying150 rfl tab_info) rfl ⟨rfl, below_setRow hB (Nat.le_refl _) _⟩

/-- a register's four lowest bits, and the table's entry for them -/
theorem low_entry (x : Crc.Reg) : ∃ k : Nat, k < 16 ∧ reg x % (16 : Int) = (k : Int) ∧ BitVec.ofNat 32 k = x &&& 15#32 := by
  refine ⟨x.toNat % 16, by omega, by unfold reg; omega, ?_⟩
  apply BitVec.eq_of_toNat_eq
  rw [BitVec.toNat_and, BitVec.toNat_ofNat]
  show x.toNat % 16 % 2 ^ 32 = x.toNat &&& (2 ^ 4 - 1)
  rw [Nat.and_two_pow_sub_one_eq_mod]
  omega
theorem entry_eq (x : Crc.Reg) (k : Nat) (hk : BitVec.ofNat 32 k = x &&& 15#32) : reg (x >>> 4 ^^^ Crc.steps 4 (BitVec.ofNat 32 k)) = reg (Crc.steps 4 x) := by
  rw [hk, ← Crc.steps4]
theorem not_reg (x : Crc.Reg) : bits .xor .u32 IntKind.u32.max (reg x) = reg (x ^^^ BitVec.allOnes 32) := by
  rw [BitVec.xor_comm]
  exact reg_xor (BitVec.allOnes 32) x
theorem byte_mod (c : UInt8) : ((c.toNat : Nat) : Int) % (4294967296 : Int) = ((c.toNat : Nat) : Int) := by have := c.toNat_lt; omega
theorem sh4 (x : Crc.Reg) : reg x / (16 : Int) = reg (x >>> 4) := shift4 x

set_option maxRecDepth 100000 in
set_option maxHeartbeats 1000000 in
theorem code_on (s : Crc.Reg) (l : Text) (A : Option Addr) (cap : Nat) (w : World) (hm : l.length ≤ 140737488355328) (hT : Txt w A l) :
    Calls Try.prog 92 #[.int .u32 (reg s), .slice A l.length cap] w fun e w' => e = .returned (.int .u32 (reg (onT s l))) ∧ Below w.heap.size w w' := by
  have HT := Lib.hid hT
  clear hT
  go_enter Try.func92, Try.ntmps92
  go_wp2_with (first | (go_at_call 97; refine (code_fours _).mono ?_; rintro e w1 ⟨rfl, hb1⟩) | (refine wpList_store_row (o := ⟨none, _, _, _, _, _⟩) rfl 150 (.tmp 5) (.tmp 9) rfl w1.heap.size (tab 16) rfl rfl 150 (tab 0) (by rw [tab_zero]; exact heap_alloc_new _ _) tab_info rfl (tab_one 16) ?_))
  have B1 : Below w.heap.size w ((w1.alloc (Obj.cells (tab 0) 150)).setRow w1.heap.size (tab 16)) := below_setRow (hb1.alloc hb1.size _) hb1.size _
  have R1 : ((w1.alloc (Obj.cells (tab 0) 150)).setRow w1.heap.size (tab 16)).heap[w1.heap.size]? = some (.cells (tab 16) 150 (0, 0)) := setRow_heap _ _ _ _ _ _ (heap_alloc_new _ _)
  rw [tab_zero] at B1 R1
  generalize ((w1.alloc (Obj.cells #[.int .u32 0, .int .u32 0, .int .u32 0, .int .u32 0, .int .u32 0, .int .u32 0, .int .u32 0, .int .u32 0, .int .u32 0, .int .u32 0, .int .u32 0, .int .u32 0, .int .u32 0, .int .u32 0, .int .u32 0, .int .u32 0] 150)).setRow w1.heap.size (tab 16)) = W at *
  rw [not_reg]
  obtain ⟨X0, hX0⟩ : ∃ X0, X0 = s ^^^ BitVec.allOnes 32 := ⟨_, rfl⟩
  rw [← hX0]
  have HE : Hid (∀ y, y = bytesT X0 l → reg (y ^^^ BitVec.allOnes 32) = reg (onT s l)) := Lib.hid (fun y hy => by rw [hy, hX0, onT_eq])
  have HTw := Lib.hid (HT.out.below B1)
  generalize w1.heap.size = g at *
  have HR := Lib.hid R1
  clear hX0 hb1 R1 HT
  go_loop [6, 14] (fun x i => ∃ k : Nat, k ≤ l.length ∧ i = .int .i64 k ∧ x = .int .u32 (reg (bytesT X0 (l.take k)))) (fun _ i => l.length - (intOf i).toNat)
  case atStart => exact ⟨0, Nat.zero_le _, rfl, rfl⟩
  case round =>
    obtain ⟨k, hk, rfl, rfl⟩ := hrel
    by_cases hlt : k < l.length
    · obtain ⟨a, rfl, _, hcell⟩ := HTw.out.at_ hlt
      have HN := Lib.hid (bytes_next X0 l k hlt)
      generalize hX : bytesT X0 (l.take k) = X at *
      clear hX
      obtain ⟨c, hc⟩ : ∃ c, c = l[k] := ⟨_, rfl⟩
      rw [← hc] at hcell HN
      have HX : Hid (bits .xor .u32 (reg X) (((c.toNat : Nat) : Int) % (4294967296 : Int)) = reg (X ^^^ c.toBitVec.setWidth 32)) := Lib.hid (by rw [byte_mod, reg_byte, reg_xor])
      clear hc
      go_wp2
      rw [HX.out]
      generalize hY : X ^^^ c.toBitVec.setWidth 32 = Y at *
      clear hY HX
      go_loop [6, 22] (fun x i => ∃ j : Nat, j ≤ 2 ∧ i = .int .i64 j ∧ x = .int .u32 (reg (Crc.steps (4 * j) Y))) (fun _ i => 2 - (intOf i).toNat)
      case atStart => exact ⟨0, by omega, rfl, rfl⟩
      case round =>
        obtain ⟨j, hj, rfl, rfl⟩ := hrel
        by_cases hl2 : j < 2
        · have HJ : Hid (Crc.steps (4 * (j + 1)) Y = Crc.steps 4 (Crc.steps (4 * j) Y)) := Lib.hid (by rw [← Crc.steps_add]; rfl)
          generalize Crc.steps (4 * j) Y = Z at *
          obtain ⟨m, hm16, hz, hzz⟩ := low_entry Z
          have hcz : W.cell? ⟨g, m, none⟩ = some (.int .u32 (reg (Crc.steps 4 (BitVec.ofNat 32 m)))) := by
            rw [cell_of_row _ _ _ _ _ _ HR.out, tab_get _ _ hm16, if_pos hm16]; rfl
          have HZ : Hid (bits .xor .u32 (reg Z / (16 : Int)) (reg (Crc.steps 4 (BitVec.ofNat 32 m))) = reg (Crc.steps 4 Z)) := Lib.hid (by
            rw [sh4, reg_xor]; exact entry_eq Z m hzz)
          clear hzz
          have z0 := (reg_bd Z).1
          go_wp2
          go_round
          case rel => exact ⟨j + 1, by omega, by go_num, by rw [HJ.out, ← HZ.out]⟩
          case measure => simp [intOf]; omega
        · obtain rfl : j = 2 := by omega
          go_wp2
          go_round
          case rel => exact ⟨k + 1, by omega, by go_num, by rw [HN.out]⟩
          case measure => simp [intOf]; omega
    · obtain rfl : k = l.length := by omega
      go_wp2
      go_ret
      exact ⟨ret_int (by rw [not_reg]; exact HE.out _ rfl), B1⟩
end Go.Proofs.Ythgakgjhcadajaa
