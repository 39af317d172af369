/- The table that the program makes, and how it goes through a text by it. What each function of the document's own answers for check sums gives. -/
import Derived.Test.YtmgonokhgijgoaaJ5
import Derived.Laws.Tables
import Derived.Laws.CopyOwn
namespace Go.Proofs.Ytmgonokhgijgoaa
open Go.RowKit
set_option maxRecDepth 100000

def entry (n : Nat) : Value := .int .u32 (reg (Crc.steps 4 (BitVec.ofNat 32 n)))
/-- the table, its first j entries made -/
def tab (j : Nat) : Array Value := ((List.range 16).map fun n => if n < j then entry n else .int .u32 0).toArray
theorem tab_size (j : Nat) : (tab j).size = 16 := by simp [tab]
theorem tab_get (j k : Nat) (hk : k < 16) : (tab j)[k]? = some (if k < j then entry k else .int .u32 0) := by
  simp [tab, hk]
theorem tab_next (j : Nat) : (tab j).setIfInBounds j (entry j) = tab (j + 1) := by
  apply Array.ext_getElem?
  intro k
  rw [Array.getElem?_setIfInBounds, tab_size]
  by_cases h : j = k
  · subst h
    by_cases hj : j < 16
    · rw [if_pos rfl, if_pos hj, tab_get _ _ hj, if_pos (by omega)]
    · rw [if_pos rfl, if_neg hj, Array.getElem?_eq_none (by rw [tab_size]; omega)]
  · rw [if_neg h]
    by_cases hk : k < 16
    · rw [tab_get _ _ hk, tab_get _ _ hk]
      by_cases h1 : k < j
      · rw [if_pos h1, if_pos (by omega)]
      · rw [if_neg h1, if_neg (by omega)]
    · rw [Array.getElem?_eq_none (by rw [tab_size]; omega), Array.getElem?_eq_none (by rw [tab_size]; omega)]
theorem tab_zero : tab 0 = #[.int .u32 0, .int .u32 0, .int .u32 0, .int .u32 0, .int .u32 0, .int .u32 0, .int .u32 0, .int .u32 0, .int .u32 0, .int .u32 0, .int .u32 0, .int .u32 0, .int .u32 0, .int .u32 0, .int .u32 0, .int .u32 0] := rfl
theorem tab_one (j : Nat) : (tab j).all (·.oneCell') = true := by
  rw [Array.all_eq_true]
  intro i hi
  simp only [tab, List.getElem_toArray, List.getElem_map]
  by_cases h : (List.range 16)[i]'(by simpa [tab] using hi) < j
  · rw [if_pos h]; rfl
  · rw [if_neg h]; rfl
theorem tab_info : (Try.prog.info? 150).map (·.size) = some 16 := by kernel_rfl

set_option maxHeartbeats 1000000 in
theorem code_fours (w : World) :
    Calls Try.prog 97 #[] w fun e w' => e = .returned (.agg (tab 16)) ∧ Below w.heap.size w w' := by
  go_enter Try.func97, Try.ntmps97
  go_wp2
  go_loopw [4] (fun i wr => ∃ j : Nat, j ≤ 16 ∧ i = .int .i64 j ∧ wr.heap[w.heap.size + 1]? = some (.cells (tab j) 150 (0, 0)) ∧ wr.heap[w.heap.size]? = some (.cells (tab 0) 150 (0, 0)) ∧ Below w.heap.size w wr) (fun i _ => 16 - (intOf i).toNat)
  case atStart => exact ⟨0, by omega, rfl, by rw [tab_zero]; exact heap_alloc2_new _ _ _, by rw [tab_zero]; exact heap_alloc2_old _ _ _, ((Below.refl _ _).alloc (Nat.le_refl _) _).alloc (by simp) _⟩
  case round =>
    obtain ⟨j, hj, rfl, hT, hR, hB⟩ := hrel
    by_cases hlt : j < 16
    · have hc : wr.cell? ⟨w.heap.size + 1, j, none⟩ = some (.int .u32 0) := by rw [cell_of_row _ _ _ _ _ _ hT, tab_get _ _ hlt, if_neg (by omega)]
      have hf := frozen_of_row _ _ j _ _ hT
      have HT := Lib.hid hT
      have HR := Lib.hid hR
      clear hT hR
      go_wp2_with (go_at_call 100; refine (code_behind j hlt _).mono ?_; rintro e w' ⟨rfl, rfl⟩)
      go_roundw
      case rel =>
        refine ⟨j + 1, by omega, by go_num, ?_, ?_, hB.setCell (by simp) _⟩
        · rw [heap_setCell_same _ _ _ _ _ _ HT.out]
          show some (Obj.cells ((tab j).setIfInBounds j (entry j)) _ _) = _
          rw [tab_next]
        · rw [heap_setCell_other _ _ _ _ (by simp)]
          exact HR.out
      case measure => simp [intOf]; omega
    · obtain rfl : j = 16 := by omega
      have HT := Lib.hid hT
      have HR := Lib.hid hR
      clear hT hR
      go_wp2_with (first | (refine wpList_load_row (o := ⟨some 13, _, _, _, _, _⟩) rfl 150 (.tmp 2) rfl (w.heap.size + 1) rfl 150 (tab 16) (0, 0) _ HT.out Try.underlying150 rfl tab_info ?_) | (refine wpList_store_row (o := ⟨none, _, _, _, _, _⟩) rfl 150 (.tmp 0) (.tmp 13) rfl w.heap.size (tab 16) rfl rfl 150 (tab 0) HR.out tab_info rfl (tab_one 16) ?_))
      exact bodyPost_ret (v := .agg (tab 16)) (results_cell_row Try.results97 _ _ w.heap.size 150 (tab 16) (0, 0) _ rfl (setRow_heap _ _ _ _ _ _ HR.out) Try.underlying150 rfl tab_info) rfl ⟨rfl, below_setRow hB (Nat.le_refl _) _⟩

/-- a register's four lowest bits, and the table's entry for them -/
theorem low_entry (x : Crc.Reg) : ∃ k : Nat, k < 16 ∧ reg x % (16 : Int) = (k : Int) ∧ BitVec.ofNat 32 k = x &&& 15#32 := by
  refine ⟨x.toNat % 16, by omega, by unfold reg; omega, ?_⟩
  apply BitVec.eq_of_toNat_eq
  rw [BitVec.toNat_and, BitVec.toNat_ofNat]
  show x.toNat % 16 % 2 ^ 32 = x.toNat &&& (2 ^ 4 - 1)
  rw [Nat.and_two_pow_sub_one_eq_mod]
  omega
theorem entry_eq (x : Crc.Reg) (k : Nat) (hk : BitVec.ofNat 32 k = x &&& 15#32) : reg (x >>> 4 ^^^ Crc.steps 4 (BitVec.ofNat 32 k)) = reg (Crc.steps 4 x) := by
  rw [hk, ← Crc.steps4]
theorem not_reg (x : Crc.Reg) : bits .xor .u32 IntKind.u32.max (reg x) = reg (x ^^^ BitVec.allOnes 32) := by
  rw [BitVec.xor_comm]
  exact reg_xor (BitVec.allOnes 32) x
theorem byte_mod (c : UInt8) : ((c.toNat : Nat) : Int) % (4294967296 : Int) = ((c.toNat : Nat) : Int) := by have := c.toNat_lt; omega
theorem sh4 (x : Crc.Reg) : reg x / (16 : Int) = reg (x >>> 4) := shift4 x

set_option maxRecDepth 100000 in
set_option maxHeartbeats 1000000 in
theorem code_on (s : Crc.Reg) (l : Text) (A : Option Addr) (cap : Nat) (w : World) (hm : l.length ≤ 140737488355328) (hT : Txt w A l) :
    Calls Try.prog 92 #[.int .u32 (reg s), .slice A l.length cap] w fun e w' => e = .returned (.int .u32 (reg (onT s l))) ∧ Below w.heap.size w w' := by
  have HT := Lib.hid hT
  clear hT
  go_enter Try.func92, Try.ntmps92
  go_wp2_with (first | (go_at_call 97; refine (code_fours _).mono ?_; rintro e w1 ⟨rfl, hb1⟩) | (refine wpList_store_row (o := ⟨none, _, _, _, _, _⟩) rfl 150 (.tmp 5) (.tmp 9) rfl w1.heap.size (tab 16) rfl rfl 150 (tab 0) (by rw [tab_zero]; exact heap_alloc_new _ _) tab_info rfl (tab_one 16) ?_))
  have B1 : Below w.heap.size w ((w1.alloc (Obj.cells (tab 0) 150)).setRow w1.heap.size (tab 16)) := below_setRow (hb1.alloc hb1.size _) hb1.size _
  have R1 : ((w1.alloc (Obj.cells (tab 0) 150)).setRow w1.heap.size (tab 16)).heap[w1.heap.size]? = some (.cells (tab 16) 150 (0, 0)) := setRow_heap _ _ _ _ _ _ (heap_alloc_new _ _)
  rw [tab_zero] at B1 R1
  generalize ((w1.alloc (Obj.cells #[.int .u32 0, .int .u32 0, .int .u32 0, .int .u32 0, .int .u32 0, .int .u32 0, .int .u32 0, .int .u32 0, .int .u32 0, .int .u32 0, .int .u32 0, .int .u32 0, .int .u32 0, .int .u32 0, .int .u32 0, .int .u32 0] 150)).setRow w1.heap.size (tab 16)) = W at *
  rw [not_reg]
  obtain ⟨X0, hX0⟩ : ∃ X0, X0 = s ^^^ BitVec.allOnes 32 := ⟨_, rfl⟩
  rw [← hX0]
  have HE : Hid (∀ y, y = bytesT X0 l → reg (y ^^^ BitVec.allOnes 32) = reg (onT s l)) := Lib.hid (fun y hy => by rw [hy, hX0, onT_eq])
  have HTw := Lib.hid (HT.out.below B1)
  generalize w1.heap.size = g at *
  have HR := Lib.hid R1
  clear hX0 hb1 R1 HT
  go_loop [6, 14] (fun x i => ∃ k : Nat, k ≤ l.length ∧ i = .int .i64 k ∧ x = .int .u32 (reg (bytesT X0 (l.take k)))) (fun _ i => l.length - (intOf i).toNat)
  case atStart => exact ⟨0, Nat.zero_le _, rfl, rfl⟩
  case round =>
    obtain ⟨k, hk, rfl, rfl⟩ := hrel
    by_cases hlt : k < l.length
    · obtain ⟨a, rfl, _, hcell⟩ := HTw.out.at_ hlt
      have HN := Lib.hid (bytes_next X0 l k hlt)
      generalize hX : bytesT X0 (l.take k) = X at *
      clear hX
      obtain ⟨c, hc⟩ : ∃ c, c = l[k] := ⟨_, rfl⟩
      rw [← hc] at hcell HN
      have HX : Hid (bits .xor .u32 (reg X) (((c.toNat : Nat) : Int) % (4294967296 : Int)) = reg (X ^^^ c.toBitVec.setWidth 32)) := Lib.hid (by rw [byte_mod, reg_byte, reg_xor])
      clear hc
      go_wp2
      rw [HX.out]
      generalize hY : X ^^^ c.toBitVec.setWidth 32 = Y at *
      clear hY HX
      go_loop [6, 22] (fun x i => ∃ j : Nat, j ≤ 2 ∧ i = .int .i64 j ∧ x = .int .u32 (reg (Crc.steps (4 * j) Y))) (fun _ i => 2 - (intOf i).toNat)
      case atStart => exact ⟨0, by omega, rfl, rfl⟩
      case round =>
        obtain ⟨j, hj, rfl, rfl⟩ := hrel
        by_cases hl2 : j < 2
        · have HJ : Hid (Crc.steps (4 * (j + 1)) Y = Crc.steps 4 (Crc.steps (4 * j) Y)) := Lib.hid (by rw [← Crc.steps_add]; rfl)
          generalize Crc.steps (4 * j) Y = Z at *
          obtain ⟨m, hm16, hz, hzz⟩ := low_entry Z
          have hcz : W.cell? ⟨g, m, none⟩ = some (.int .u32 (reg (Crc.steps 4 (BitVec.ofNat 32 m)))) := by
            rw [cell_of_row _ _ _ _ _ _ HR.out, tab_get _ _ hm16, if_pos hm16]; rfl
          have HZ : Hid (bits .xor .u32 (reg Z / (16 : Int)) (reg (Crc.steps 4 (BitVec.ofNat 32 m))) = reg (Crc.steps 4 Z)) := Lib.hid (by
            rw [sh4, reg_xor]; exact entry_eq Z m hzz)
          clear hzz
          have z0 := (reg_bd Z).1
          go_wp2
          go_round
          case rel => exact ⟨j + 1, by omega, by go_num, by rw [HJ.out, ← HZ.out]⟩
          case measure => simp [intOf]; omega
        · obtain rfl : j = 2 := by omega
          go_wp2
          go_round
          case rel => exact ⟨k + 1, by omega, by go_num, by rw [HN.out]⟩
          case measure => simp [intOf]; omega
    · obtain rfl : k = l.length := by omega
      go_wp2
      go_ret
      exact ⟨ret_int (by rw [not_reg]; exact HE.out _ rfl), B1⟩
end Go.Proofs.Ytmgonokhgijgoaa

namespace Go.Proofs.Ytmgonokhgijgoaa
open Go.RowKit
set_option maxRecDepth 100000


set_option maxRecDepth 100000 in
set_option maxHeartbeats 1000000 in
theorem ref_on (s : Crc.Reg) (l : Text) (A : Option Addr) (cap : Nat) (w : World) (hm : l.length ≤ 140737488355328) (hT : Txt w A l) :
    Calls Try.prog 81 #[.int .u32 (reg s), .slice A l.length cap] w fun e w' => e = .returned (.int .u32 (reg (onT s l))) ∧ w = w' := by
  obtain ⟨X0, hA⟩ : ∃ A, A = s ^^^ BitVec.allOnes 32 := ⟨_, rfl⟩
  have HS : Hid (bits .xor .u32 (reg s) 4294967295 = reg X0) := Lib.hid ((reg_xor s (BitVec.allOnes 32)).trans (by rw [hA]))
  have HE : Hid (bits .xor .u32 (reg (bytesT X0 l)) 4294967295 = reg (onT s l)) := Lib.hid ((reg_xor (bytesT X0 l) (BitVec.allOnes 32)).trans (by rw [onT_eq, hA]))
  have HT := Lib.hid hT
  clear hT hA
  go_enter Try.func81, Try.ntmps81
  go_wp2
  rw [HS.out]
  go_loop [5, 6] (fun x i => ∃ k : Nat, k ≤ l.length ∧ i = .int .i64 k ∧ x = .int .u32 (reg (bytesT X0 (l.take k)))) (fun _ i => l.length - (intOf i).toNat)
  case atStart => exact ⟨0, Nat.zero_le _, rfl, rfl⟩
  case round =>
    obtain ⟨k, hk, rfl, rfl⟩ := hrel
    by_cases hlt : k < l.length
    · obtain ⟨a, rfl, _, hcell⟩ := HT.out.at_ hlt
      have HN := Lib.hid (bytes_next X0 l k hlt)
      generalize hX : bytesT X0 (l.take k) = X at *
      clear hX
      obtain ⟨c, hc⟩ : ∃ c, c = l[k] := ⟨_, rfl⟩
      rw [← hc] at hcell HN
      have HX : Hid (bits .xor .u32 (reg X) (((c.toNat : Nat) : Int) % (4294967296 : Int)) = reg (X ^^^ c.toBitVec.setWidth 32)) := Lib.hid (by rw [byte_mod, reg_byte, reg_xor])
      clear hc
      go_wp2
      rw [HX.out]
      generalize hY : X ^^^ c.toBitVec.setWidth 32 = Y at *
      clear hY HX
      go_loop [5, 7] (fun x i => ∃ j : Nat, j ≤ 8 ∧ i = .int .i64 j ∧ x = .int .u32 (reg (Crc.steps j Y))) (fun _ i => 8 - (intOf i).toNat)
      case atStart => exact ⟨0, by omega, rfl, rfl⟩
      case round =>
        obtain ⟨j, hj, rfl, rfl⟩ := hrel
        by_cases hl8 : j < 8
        · have HJ := Lib.hid (steps_next j Y)
          go_wp2_with (go_at_call 91; refine (ref_step _ _).mono ?_; rintro e w' ⟨rfl, rfl⟩)
          go_round
          case rel => exact ⟨j + 1, by omega, by go_num, by rw [HJ.out]⟩
          case measure => simp [intOf]; omega
        · obtain rfl : j = 8 := by omega
          go_wp2
          go_round
          case rel => exact ⟨k + 1, by omega, by go_num, by rw [HN.out]⟩
          case measure => simp [intOf]; omega
    · obtain rfl : k = l.length := by omega
      go_wp2
      go_ret
      exact ⟨ret_int (by rw [← HE.out]), rfl⟩
theorem sum_zero (l : Text) : onT 0#32 l = Crc.sumT l := rfl
theorem reg_nought : reg 0#32 = 0 := rfl
set_option maxHeartbeats 400000 in
theorem ref_sum (l : Text) (A : Option Addr) (cap : Nat) (w : World) (hm : l.length ≤ 140737488355328) (hT : Txt w A l) :
    Calls Try.prog 57 #[.slice A l.length cap] w fun e w' => e = .returned (.int .u32 (reg (Crc.sumT l))) ∧ w = w' := by
  have H := ref_on 0#32 l A cap w hm hT
  rw [sum_zero, reg_nought] at H
  have HT := Lib.hid H
  clear H hT
  go_enter Try.func57, Try.ntmps57
  go_wp2_with (go_at_call 81; refine HT.out.mono ?_; rintro e w' ⟨rfl, rfl⟩)
  go_ret
  exact ⟨rfl, rfl⟩

/-- a sum's bytes, as the shifts make them -/
theorem byte24 (x : Crc.Reg) : reg x / (16777216 : Int) % (256 : Int) = (((⟨(x >>> 24).setWidth 8⟩ : UInt8).toNat : Nat) : Int) := by
  show _ = ((((x >>> 24).setWidth 8).toNat : Nat) : Int)
  unfold reg; rw [BitVec.toNat_setWidth, BitVec.toNat_ushiftRight, Nat.shiftRight_eq_div_pow]; omega
theorem byte16 (x : Crc.Reg) : reg x / (65536 : Int) % (256 : Int) = (((⟨(x >>> 16).setWidth 8⟩ : UInt8).toNat : Nat) : Int) := by
  show _ = ((((x >>> 16).setWidth 8).toNat : Nat) : Int)
  unfold reg; rw [BitVec.toNat_setWidth, BitVec.toNat_ushiftRight, Nat.shiftRight_eq_div_pow]; omega
theorem byte8 (x : Crc.Reg) : reg x / (256 : Int) % (256 : Int) = (((⟨(x >>> 8).setWidth 8⟩ : UInt8).toNat : Nat) : Int) := by
  show _ = ((((x >>> 8).setWidth 8).toNat : Nat) : Int)
  unfold reg; rw [BitVec.toNat_setWidth, BitVec.toNat_ushiftRight, Nat.shiftRight_eq_div_pow]; omega
theorem byte0 (x : Crc.Reg) : reg x % (256 : Int) = (((⟨x.setWidth 8⟩ : UInt8).toNat : Nat) : Int) := by
  show _ = (((x.setWidth 8).toNat : Nat) : Int)
  unfold reg; rw [BitVec.toNat_setWidth]; omega
/-- a sum's bytes as cells -/
def fourCells (x : Crc.Reg) : Array Value := #[.int .u8 (reg x / (16777216 : Int) % (256 : Int)), .int .u8 (reg x / (65536 : Int) % (256 : Int)), .int .u8 (reg x / (256 : Int) % (256 : Int)), .int .u8 (reg x % (256 : Int))]
theorem four_cells (x : Crc.Reg) : (fourCells x).toList = (Crc.four x).map cellOf := by
  unfold fourCells Crc.four cellOf
  rw [byte24, byte16, byte8, byte0]; rfl

theorem four_own (x : Crc.Reg) (w : World) : (w.alloc (.cells (fourCells x) 5)).ownsRow w.heap.size 5 1 (.slice (some ⟨w.heap.size, 0, none⟩) 4 4) 4 ((Crc.four x).map cellOf) := by
  rw [← four_cells]
  exact World.ownsRow_lit w (fourCells x) 4 (Nat.le_refl _) (by unfold maxLen; omega) rfl
/-- a new slice of the call's own, that reads as l -/
def Made (w : World) (l : Text) (e : Ending) (w' : World) : Prop :=
  ∃ g c, e = .returned (.slice (some ⟨g, 0, none⟩) l.length c) ∧ w'.ownsRow w.heap.size 5 1 (.slice (some ⟨g, 0, none⟩) l.length c) l.length (l.map cellOf) ∧ Below w.heap.size w w'
/-- a sum's bytes, and a text behind them -/
def wrapT (l : Text) : Text := Crc.four (Crc.sumT l) ++ l
theorem wrapT_length (l : Text) : (wrapT l).length = 4 + l.length := by simp [wrapT, Crc.four]; omega

theorem made_of {w w1 w' : World} {l : Text} {g : Nat} {v v' : Value} {n c : Nat} (hg0 : v = .slice (some ⟨g, 0, none⟩) n c) (hB0 : w.heap.size ≤ g) (hl : 0 < l.length)
    (hown : w'.ownsRow w.heap.size 5 1 v' l.length (l.map cellOf)) (hb : Below w.heap.size w w1) (hg : w1.grownBy w' v.ownBlock) : Made w l (.returned v') w' := by
  obtain ⟨g', c', rfl, _, _⟩ := hown.form hl
  refine ⟨g', c', rfl, hown, hb.grown hg hb.size fun k hk => ?_⟩
  subst hg0
  simp [Value.ownBlock] at hk
  omega

set_option maxHeartbeats 1000000 in
theorem ref_wrap (l : Text) (A : Option Addr) (cap : Nat) (w : World) (hm : l.length ≤ 140737488351232) (hT : Txt w A l) (hA : A = none → l = []) :
    Calls Try.prog 83 #[.slice A l.length cap] w (Made w (wrapT l)) := by
  have HS := Lib.hid (ref_sum l A cap w (by omega) hT)
  have HT := Lib.hid (hT.alloc (.cells (fourCells (Crc.sumT l)) 5))
  have HO := Lib.hid (four_own (Crc.sumT l) w)
  have HN := Lib.hid hA
  clear hT hA
  go_enter Try.func83, Try.ntmps83
  go_wp2_with (first | (go_at_call 57; refine HS.out.mono ?_; rintro e w' ⟨rfl, rfl⟩) | (at_builtin; refine wpList_append_text rfl _ _ rfl rfl w.heap.size _ 4 ((Crc.four (Crc.sumT l)).map cellOf) rfl HO.out A cap l rfl HT.out HN.out (by omega) (by simp) ?_; intro v' w' hown hg hat))
  go_ret
  exact made_of rfl (Nat.le_refl _) (by rw [wrapT_length]; omega) (by rw [wrapT_length]; simpa [wrapT] using hown) ((Below.refl _ _).alloc (Nat.le_refl _) _) hg
end Go.Proofs.Ytmgonokhgijgoaa
