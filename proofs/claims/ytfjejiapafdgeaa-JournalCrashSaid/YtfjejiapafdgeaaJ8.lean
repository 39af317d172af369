/- What each function of the document's own answers for check sums gives. What the program's own functions on sums give: Sum, Join, the sum's bytes, Wrap; a slice copied. Regions that draw their order: two or more that may come up next; what is kept from world to world; pages in such regions. -/
import Derived.Test.YtfjejiapafdgeaaJ7
import Derived.Lib.LazyBuf
import Derived.Test.YtfjejiapafdgeaaJ2
import Derived.Test.YtfjejiapafdgeaaJ1
namespace Go.Proofs.Ytfjejiapafdgeaa
open Go.RowKit
set_option maxRecDepth 100000


set_option maxRecDepth 100000 in
set_option maxHeartbeats 1000000 in
theorem ref_on (s : Crc.Reg) (l : Text) (A : Option Addr) (cap : Nat) (w : World) (hm : l.length ≤ 140737488355328) (hT : Txt w A l) :
    Calls Try.prog 81 #[.int .u32 (reg s), .slice A l.length cap] w fun e w' => e = .returned (.int .u32 (reg (onT s l))) ∧ w = w' := by
  obtain ⟨X0, hA⟩ : ∃ A, A = s ^^^ BitVec.allOnes 32 := ⟨_, rfl⟩
  have HS : Hid (bits .xor .u32 (reg s) 4294967295 = reg X0) := Lib.hid ((reg_xor s (BitVec.allOnes 32)).trans (by rw [hA]))
  have HE : Hid (bits .xor .u32 (reg (bytesT X0 l)) 4294967295 = reg (onT s l)) := Lib.hid ((reg_xor (bytesT X0 l) (BitVec.allOnes 32)).trans (by rw [onT_eq, hA]))
  have HT := Lib.hid hT
  clear hT hA
  go_enter Try.func81, Try.ntmps81
  go_wp2
  rw [HS.out]
  go_loop [5, 6] (fun x i => ∃ k : Nat, k ≤ l.length ∧ i = .int .i64 k ∧ x = .int .u32 (reg (bytesT X0 (l.take k)))) (fun _ i => l.length - (intOf i).toNat)
  case atStart => exact ⟨0, Nat.zero_le _, rfl, rfl⟩
  case round =>
    obtain ⟨k, hk, rfl, rfl⟩ := hrel
    by_cases hlt : k < l.length
    · obtain ⟨a, rfl, _, hcell⟩ := HT.out.at_ hlt
      have HN := Lib.hid (bytes_next X0 l k hlt)
      generalize hX : bytesT X0 (l.take k) = X at *
      clear hX
      obtain ⟨c, hc⟩ : ∃ c, c = l[k] := ⟨_, rfl⟩
      rw [← hc] at hcell HN
      have HX : Hid (bits .xor .u32 (reg X) (((c.toNat : Nat) : Int) % (4294967296 : Int)) = reg (X ^^^ c.toBitVec.setWidth 32)) := Lib.hid (by rw [byte_mod, reg_byte, reg_xor])
      clear hc
      go_wp2
      rw [HX.out]
      generalize hY : X ^^^ c.toBitVec.setWidth 32 = Y at *
      clear hY HX
      go_loop [5, 7] (fun x i => ∃ j : Nat, j ≤ 8 ∧ i = .int .i64 j ∧ x = .int .u32 (reg (Crc.steps j Y))) (fun _ i => 8 - (intOf i).toNat)
      case atStart => exact ⟨0, by omega, rfl, rfl⟩
      case round =>
        obtain ⟨j, hj, rfl, rfl⟩ := hrel
        by_cases hl8 : j < 8
        · have HJ := Lib.hid (steps_next j Y)
          go_wp2_with (go_at_call 91; refine (ref_step _ _).mono ?_; rintro e w' ⟨rfl, rfl⟩)
          go_round
          case rel => exact ⟨j + 1, by omega, by go_num, by rw [HJ.out]⟩
          case measure => simp [intOf]; omega
        · obtain rfl : j = 8 := by omega
          go_wp2
          go_round
          case rel => exact ⟨k + 1, by omega, by go_num, by rw [HN.out]⟩
          case measure => simp [intOf]; omega
    · obtain rfl : k = l.length := by omega
      go_wp2
      go_ret
      exact ⟨ret_int (by rw [← HE.out]), rfl⟩
theorem sum_zero (l : Text) : onT 0#32 l = Crc.sumT l := rfl
theorem reg_nought : reg 0#32 = 0 := rfl
set_option maxHeartbeats 400000 in
theorem ref_sum (l : Text) (A : Option Addr) (cap : Nat) (w : World) (hm : l.length ≤ 140737488355328) (hT : Txt w A l) :
    Calls Try.prog 57 #[.slice A l.length cap] w fun e w' => e = .returned (.int .u32 (reg (Crc.sumT l))) ∧ w = w' := by
  have H := ref_on 0#32 l A cap w hm hT
  rw [sum_zero, reg_nought] at H
  have HT := Lib.hid H
  clear H hT
  go_enter Try.func57, Try.ntmps57
  go_wp2_with (go_at_call 81; refine HT.out.mono ?_; rintro e w' ⟨rfl, rfl⟩)
  go_ret
  exact ⟨rfl, rfl⟩

/-- a sum's bytes, as the shifts make them -/
theorem byte24 (x : Crc.Reg) : reg x / (16777216 : Int) % (256 : Int) = (((⟨(x >>> 24).setWidth 8⟩ : UInt8).toNat : Nat) : Int) := by
  show _ = ((((x >>> 24).setWidth 8).toNat : Nat) : Int)
  unfold reg; rw [BitVec.toNat_setWidth, BitVec.toNat_ushiftRight, Nat.shiftRight_eq_div_pow]; omega
theorem byte16 (x : Crc.Reg) : reg x / (65536 : Int) % (256 : Int) = (((⟨(x >>> 16).setWidth 8⟩ : UInt8).toNat : Nat) : Int) := by
  show _ = ((((x >>> 16).setWidth 8).toNat : Nat) : Int)
  unfold reg; rw [BitVec.toNat_setWidth, BitVec.toNat_ushiftRight, Nat.shiftRight_eq_div_pow]; omega
theorem byte8 (x : Crc.Reg) : reg x / (256 : Int) % (256 : Int) = (((⟨(x >>> 8).setWidth 8⟩ : UInt8).toNat : Nat) : Int) := by
  show _ = ((((x >>> 8).setWidth 8).toNat : Nat) : Int)
  unfold reg; rw [BitVec.toNat_setWidth, BitVec.toNat_ushiftRight, Nat.shiftRight_eq_div_pow]; omega
theorem byte0 (x : Crc.Reg) : reg x % (256 : Int) = (((⟨x.setWidth 8⟩ : UInt8).toNat : Nat) : Int) := by
  show _ = (((x.setWidth 8).toNat : Nat) : Int)
  unfold reg; rw [BitVec.toNat_setWidth]; omega
/-- a sum's bytes as cells -/
def fourCells (x : Crc.Reg) : Array Value := #[.int .u8 (reg x / (16777216 : Int) % (256 : Int)), .int .u8 (reg x / (65536 : Int) % (256 : Int)), .int .u8 (reg x / (256 : Int) % (256 : Int)), .int .u8 (reg x % (256 : Int))]
theorem four_cells (x : Crc.Reg) : (fourCells x).toList = (Crc.four x).map cellOf := by
  unfold fourCells Crc.four cellOf
  rw [byte24, byte16, byte8, byte0]; rfl

theorem four_own (x : Crc.Reg) (w : World) : (w.alloc (.cells (fourCells x) 5)).ownsRow w.heap.size 5 1 (.slice (some ⟨w.heap.size, 0, none⟩) 4 4) 4 ((Crc.four x).map cellOf) := by
  rw [← four_cells]
  exact World.ownsRow_lit w (fourCells x) 4 (Nat.le_refl _) (by unfold maxLen; omega) rfl
/-- a new slice of the call's own, that reads as l -/
def Made (w : World) (l : Text) (e : Ending) (w' : World) : Prop :=
  ∃ g c, e = .returned (.slice (some ⟨g, 0, none⟩) l.length c) ∧ w'.ownsRow w.heap.size 5 1 (.slice (some ⟨g, 0, none⟩) l.length c) l.length (l.map cellOf) ∧ Below w.heap.size w w'
/-- a sum's bytes, and a text behind them -/
def wrapT (l : Text) : Text := Crc.four (Crc.sumT l) ++ l
theorem wrapT_length (l : Text) : (wrapT l).length = 4 + l.length := by simp [wrapT, Crc.four]; omega

theorem made_of {w w1 w' : World} {l : Text} {g : Nat} {v v' : Value} {n c : Nat} (hg0 : v = .slice (some ⟨g, 0, none⟩) n c) (hB0 : w.heap.size ≤ g) (hl : 0 < l.length)
    (hown : w'.ownsRow w.heap.size 5 1 v' l.length (l.map cellOf)) (hb : Below w.heap.size w w1) (hg : w1.grownBy w' v.ownBlock) : Made w l (.returned v') w' := by
  obtain ⟨g', c', rfl, _, _⟩ := hown.form hl
  refine ⟨g', c', rfl, hown, hb.grown hg hb.size fun k hk => ?_⟩
  subst hg0
  simp [Value.ownBlock] at hk
  omega

set_option maxHeartbeats 1000000 in
theorem ref_wrap (l : Text) (A : Option Addr) (cap : Nat) (w : World) (hm : l.length ≤ 140737488351232) (hT : Txt w A l) (hA : A = none → l = []) :
    Calls Try.prog 83 #[.slice A l.length cap] w (Made w (wrapT l)) := by
  have HS := Lib.hid (ref_sum l A cap w (by omega) hT)
  have HT := Lib.hid (hT.alloc (.cells (fourCells (Crc.sumT l)) 5))
  have HO := Lib.hid (four_own (Crc.sumT l) w)
  have HN := Lib.hid hA
  clear hT hA
  go_enter Try.func83, Try.ntmps83
  go_wp2_with (first | (go_at_call 57; refine HS.out.mono ?_; rintro e w' ⟨rfl, rfl⟩) | (at_builtin; refine wpList_append_text rfl _ _ rfl rfl w.heap.size _ 4 ((Crc.four (Crc.sumT l)).map cellOf) rfl HO.out A cap l rfl HT.out HN.out (by omega) (by simp) ?_; intro v' w' hown hg hat))
  go_ret
  exact made_of rfl (Nat.le_refl _) (by rw [wrapT_length]; omega) (by rw [wrapT_length]; simpa [wrapT] using hown) ((Below.refl _ _).alloc (Nat.le_refl _) _) hg
end Go.Proofs.Ytfjejiapafdgeaa

namespace Go.Proofs.Ytfjejiapafdgeaa
open Go.RowKit
set_option maxRecDepth 100000

set_option maxHeartbeats 400000 in
theorem code_sum (l : Text) (A : Option Addr) (cap : Nat) (w : World) (hm : l.length ≤ 140737488355328) (hT : Txt w A l) :
    Calls Try.prog 84 #[.slice A l.length cap] w fun e w' => e = .returned (.int .u32 (reg (Crc.sumT l))) ∧ Below w.heap.size w w' := by
  have H := code_on 0#32 l A cap w hm hT
  rw [sum_zero, reg_nought] at H
  have HT := Lib.hid H
  clear H hT
  go_enter Try.func84, Try.ntmps84
  go_wp2_with (go_at_call 92; refine HT.out.mono ?_; rintro e w1 ⟨rfl, hb1⟩)
  go_ret
  exact ⟨rfl, hb1⟩

theorem mul_add (p q : Nat) : Crc.mul (Crc.steps p Crc.one) (Crc.steps q Crc.one) = Crc.steps (q + p) Crc.one := by
  rw [Crc.mul_steps, ← Crc.steps_add]
theorem steps_same {p q : Nat} (x : Crc.Reg) (h : p = q) : Crc.steps p x = Crc.steps q x := by rw [h]
theorem one_reg : (2147483648 : Int) = reg (Crc.steps 0 Crc.one) := rfl
theorem eight_reg : (8388608 : Int) = reg (Crc.steps (8 * 1) Crc.one) := by decide +kernel

theorem four_length (x : Crc.Reg) : (Crc.four x).length = 4 := rfl
set_option maxHeartbeats 400000 in
theorem code_sumBytes (l : Text) (A : Option Addr) (cap : Nat) (w : World) (hm : l.length ≤ 140737488355328) (hT : Txt w A l) :
    Calls Try.prog 98 #[.slice A l.length cap] w (Made w (Crc.four (Crc.sumT l))) := by
  have HS := Lib.hid (code_sum l A cap w hm hT)
  clear hT
  go_enter Try.func98, Try.ntmps98
  go_wp2_with (go_at_call 84; refine HS.out.mono ?_; rintro e w1 ⟨rfl, hb1⟩)
  go_ret
  have ho := four_own (Crc.sumT l) w1
  exact ⟨_, 4, rfl, ⟨ho.1, by
    rcases ho.2 with h | ⟨g, c, cur, h1, h2, h3⟩
    · exact .inl h
    · exact .inr ⟨g, c, cur, h1, Nat.le_trans hb1.size h2, h3⟩⟩, hb1.alloc hb1.size _⟩

set_option maxHeartbeats 1000000 in
theorem code_wrap (l : Text) (A : Option Addr) (cap : Nat) (w : World) (hm : l.length ≤ 140737488351232) (hT : Txt w A l) (hA : A = none → l = []) :
    Calls Try.prog 95 #[.slice A l.length cap] w (Made w (wrapT l)) := by
  have HS := Lib.hid (code_sumBytes l A cap w (by omega) hT)
  have HT := Lib.hid hT
  have HN := Lib.hid hA
  clear hT hA
  go_enter Try.func95, Try.ntmps95
  go_wp2_with (first | (go_at_call 98; refine HS.out.mono ?_; rintro e w1 ⟨g1, c1, rfl, ho1, hb1⟩; have HO := Lib.hid ho1; clear ho1) | (at_builtin; refine wpList_append_text rfl _ _ rfl rfl w.heap.size _ 4 ((Crc.four (Crc.sumT l)).map cellOf) rfl HO.out A cap l rfl (HT.out.below hb1) HN.out (by omega) hb1.size ?_; intro v' w' hown hg hat))
  go_ret
  exact made_of rfl (HO.out.lt _ rfl).1 (by rw [wrapT_length]; omega) (by rw [wrapT_length]; simpa [wrapT] using hown) hb1 hg

theorem made_of2 {w w1 w' : World} {l : Text} {g : Nat} {v v' : Value} {n c : Nat} (hg0 : v = .slice (some ⟨g, 0, none⟩) n c) (hB0 : w.heap.size ≤ g) (hl : v'.ownBlock ≠ none)
    (hown : w'.ownsRow w.heap.size 5 1 v' l.length (l.map cellOf)) (hb : Below w.heap.size w w1) (hg : w1.grownBy w' v.ownBlock) : Made w l (.returned v') w' := by
  rcases hown.2 with ⟨rfl, _⟩ | ⟨g', c', cur, rfl, h3⟩
  · exact absurd rfl hl
  · refine ⟨g', c', rfl, hown, hb.grown hg hb.size fun k hk => ?_⟩
    subst hg0
    simp [Value.ownBlock] at hk
    omega
end Go.Proofs.Ytfjejiapafdgeaa

namespace Go.Proofs.Ytfjejiapafdgeaa
open Go.RowKit
set_option maxRecDepth 100000

section
variable {P : Program} {ops : Array Oper} {Q : Exit → Act → World → Prop} {md : Region.Mode} {S : World → Prop}

/-- two that may come up next -/
theorem twoH {i : Nat} {dst : Option Tmp} {op : Op} {ty : TypeId} {pos : String} {after : Array Edge} {guard : Option (Nat × Bool)}
    {i2 : Nat} {dst2 : Option Tmp} {op2 : Op} {ty2 : TypeId} {pos2 : String} {after2 : Array Edge} {guard2 : Option (Nat × Bool)} {fuel : Nat} {listed : Array Bool} {a : Act} {w : World}
    (hi : ops[i]? = some { dst := dst, op := op, type := ty, pos := pos, after := after, guard := guard })
    (hi2 : ops[i2]? = some { dst := dst2, op := op2, type := ty2, pos := pos2, after := after2, guard := guard2 })
    (hr : Region.ready md ops listed = [i, i2])
    (h : ∀ K' : Act → World → Prop, Shut (∀ a w, S w → (S w → wpAnyH P md ops Q S fuel (listed.setIfInBounds i true) a w) → K' a w) →
      if Region.wanted { dst := dst, op := op, type := ty, pos := pos, after := after, guard := guard } (yielded ops a.tmps) = true then
        Oper.wp P { dst := dst, op := op, type := ty, pos := pos, after := after, guard := guard } a w K' Q else K' (a.put dst undef) w)
    (h2 : ∀ K' : Act → World → Prop, Shut (∀ a w, S w → (S w → wpAnyH P md ops Q S fuel (listed.setIfInBounds i2 true) a w) → K' a w) →
      if Region.wanted { dst := dst2, op := op2, type := ty2, pos := pos2, after := after2, guard := guard2 } (yielded ops a.tmps) = true then
        Oper.wp P { dst := dst2, op := op2, type := ty2, pos := pos2, after := after2, guard := guard2 } a w K' Q else K' (a.put dst2 undef) w) :
    wpAnyH P md ops Q S (fuel + 1) listed a w :=
  wpAnyH_ready hr (by simp) (AllReadyH.cons hi h (AllReadyH.cons hi2 h2 AllReadyH.nil))
/-- three that may come up next -/
theorem threeH {i : Nat} {dst : Option Tmp} {op : Op} {ty : TypeId} {pos : String} {after : Array Edge} {guard : Option (Nat × Bool)}
    {i2 : Nat} {dst2 : Option Tmp} {op2 : Op} {ty2 : TypeId} {pos2 : String} {after2 : Array Edge} {guard2 : Option (Nat × Bool)}
    {i3 : Nat} {dst3 : Option Tmp} {op3 : Op} {ty3 : TypeId} {pos3 : String} {after3 : Array Edge} {guard3 : Option (Nat × Bool)} {fuel : Nat} {listed : Array Bool} {a : Act} {w : World}
    (hi : ops[i]? = some { dst := dst, op := op, type := ty, pos := pos, after := after, guard := guard })
    (hi2 : ops[i2]? = some { dst := dst2, op := op2, type := ty2, pos := pos2, after := after2, guard := guard2 })
    (hi3 : ops[i3]? = some { dst := dst3, op := op3, type := ty3, pos := pos3, after := after3, guard := guard3 })
    (hr : Region.ready md ops listed = [i, i2, i3])
    (h : ∀ K' : Act → World → Prop, Shut (∀ a w, S w → (S w → wpAnyH P md ops Q S fuel (listed.setIfInBounds i true) a w) → K' a w) →
      if Region.wanted { dst := dst, op := op, type := ty, pos := pos, after := after, guard := guard } (yielded ops a.tmps) = true then
        Oper.wp P { dst := dst, op := op, type := ty, pos := pos, after := after, guard := guard } a w K' Q else K' (a.put dst undef) w)
    (h2 : ∀ K' : Act → World → Prop, Shut (∀ a w, S w → (S w → wpAnyH P md ops Q S fuel (listed.setIfInBounds i2 true) a w) → K' a w) →
      if Region.wanted { dst := dst2, op := op2, type := ty2, pos := pos2, after := after2, guard := guard2 } (yielded ops a.tmps) = true then
        Oper.wp P { dst := dst2, op := op2, type := ty2, pos := pos2, after := after2, guard := guard2 } a w K' Q else K' (a.put dst2 undef) w)
    (h3 : ∀ K' : Act → World → Prop, Shut (∀ a w, S w → (S w → wpAnyH P md ops Q S fuel (listed.setIfInBounds i3 true) a w) → K' a w) →
      if Region.wanted { dst := dst3, op := op3, type := ty3, pos := pos3, after := after3, guard := guard3 } (yielded ops a.tmps) = true then
        Oper.wp P { dst := dst3, op := op3, type := ty3, pos := pos3, after := after3, guard := guard3 } a w K' Q else K' (a.put dst3 undef) w) :
    wpAnyH P md ops Q S (fuel + 1) listed a w :=
  wpAnyH_ready hr (by simp) (AllReadyH.cons hi h (AllReadyH.cons hi2 h2 (AllReadyH.cons hi3 h3 AllReadyH.nil)))
end

/-! ### what is kept -/
section
variable {w w' : World}
theorem cell_on {p : Addr} {v : Value} (hb : Below w.heap.size w w') (h : w.cell? p = some v) : w'.cell? p = some v := (hb.cell (block_lt_of_cell h)).trans h
theorem range_on {b o : Nat} {cs : List Value} (hb : Below w.heap.size w w') (h : w.rangeAt b o cs) : w'.rangeAt b o cs := fun j v hv => cell_on hb (h j v hv)
theorem heap_on {g : Nat} {o : Obj} (hb : Below w.heap.size w w') (h : w.heap[g]? = some o) : w'.heap[g]? = some o := (hb.block g (heapLt h)).trans h
theorem below_alloc (w : World) (o : Obj) : Below w.heap.size w (w.alloc o) := (Below.refl _ _).alloc (Nat.le_refl _) o
theorem below_same (w : World) : Below w.heap.size w w := Below.refl _ _
theorem below_drew (w : World) : Below w.heap.size w w.drew := (Below.refl _ w).drew
/-- one behind the other -/
theorem below_then {a b c : World} (h : Below a.heap.size a b) (k : Below b.heap.size b c) : Below a.heap.size a c := h.trans (k.mono h.size)
theorem below_then' {B : Nat} {a b c : World} (h : Below B a b) (hB : B ≤ a.heap.size) (k : Below b.heap.size b c) : Below B a c := h.trans (k.mono (Nat.le_trans hB h.size))
end
theorem cell_setRow {w : World} {g : Nat} {cs : Array Value} {p : Addr} {v : Value} (hne : p.block ≠ g) (h : w.cell? p = some v) : (w.setRow g cs).cell? p = some v :=
  (World.cell?_of_block (setRow_other w g p.block cs hne)).trans h
theorem range_setRow {w : World} {g : Nat} {cs : Array Value} {b o : Nat} {l : List Value} (hne : b ≠ g) (h : w.rangeAt b o l) : (w.setRow g cs).rangeAt b o l := fun j v hv => cell_setRow hne (h j v hv)
theorem range_lt {w : World} {b o : Nat} {l : List Value} (h : w.rangeAt b o l) (hl : 0 < l.length) : b < w.heap.size :=
  block_lt_of_cell (h 0 l[0] (List.getElem?_eq_getElem hl))
/-- bytes in memory, as a range -/
theorem txt_mid {w : World} {A : Option Addr} {l : Text} (h : Txt w A l) (hl : l ≠ []) : ∃ b o, A = some ⟨b, o, none⟩ ∧ b < w.heap.size ∧ w.rangeAt b o (l.map cellOf) := by
  obtain ⟨a, rfl, hb, hc⟩ := h hl
  have h0 : 0 < l.length := List.length_pos_iff.2 hl
  obtain ⟨b, o, s⟩ := a
  have hs : s = none := by
    have := hc 0 h0
    unfold World.cell? Addr.add at this
    cases s with
    | none => rfl
    | some x =>
      simp at this
      split at this <;> simp at this
  subst hs
  refine ⟨b, o, rfl, hb, fun j v hv => ?_⟩
  have hj : j < l.length := by
    have := (List.getElem?_eq_some_iff.1 hv).1
    simpa using this
  have := hc j hj
  rw [Addr.add_mid] at this
  rw [this]
  rw [List.getElem?_map, List.getElem?_eq_getElem hj] at hv
  exact hv
theorem mid_txt {w : World} {b o : Nat} {l : Text} (h : w.rangeAt b o (l.map cellOf)) : Txt w (some ⟨b, o, none⟩) l := fun hn => by
  have hc : ∀ i (hi : i < l.length), w.cell? (Addr.add ⟨b, o, none⟩ i) = some (.int .u8 (l[i].toNat : Int)) := fun i hi => by
    rw [Addr.add_mid]
    exact h i (cellOf l[i]) (by simp [hi])
  refine ⟨_, rfl, ?_, hc⟩
  have := block_lt_of_cell (hc 0 (List.length_pos_iff.2 hn))
  rwa [add_block] at this

section
variable {T : TypeId} (hT : IsPage T) {ops : Array Oper} {a : Act} {S : World → Prop}
include hT
theorem page_info (l : Text) (hl : l.length = 64) : (Try.prog.info? T).map (·.size) = some (l.map cellOf).length := by rw [hT.size, List.length_map, hl]
theorem yieldsIf_load_pageM {o : Oper} (hw : Region.wanted o (yielded ops a.tmps) = true) (x : Operand) (ho : o.op = .load T x) (b f : Nat) (hx : a.eval x = .pointer (some ⟨b, f, none⟩)) (l : Text) (hl : l.length = 64)
    (hS : ∀ w, S w → w.rangeAt b f (l.map cellOf)) : YieldsIf Try.prog ops S o (pageV l) a :=
  yieldsIf_load_mid hw T x ho b f hx (l.map cellOf) _ hS hT.und rfl (page_info hT l hl)
theorem yieldsIf_eql_page {o : Oper} (hw : Region.wanted o (yielded ops a.tmps) = true) (x y : Operand) (t : TypeId) (ho : o.op = .binOp .eql T x y t) (l m : Text) (hx : a.eval x = pageV l) (hy : a.eval y = pageV m) (hl : l.length = 64) (hm : m.length = 64) (b : Bool) (hb : decide (l = m) = b) :
    YieldsIf Try.prog ops S o (.bool b) a := .inl ⟨hw, fun w _ => by
  subst hb
  have hr := eql_run hT w x y l m hl hm
  unfold execOp
  simp only [ho, hx, hy]
  rw [Sem.run_bind, hr]
  rfl⟩
theorem yieldsIf_neq_page {o : Oper} (hw : Region.wanted o (yielded ops a.tmps) = true) (x y : Operand) (t : TypeId) (ho : o.op = .binOp .neq T x y t) (l m : Text) (hx : a.eval x = pageV l) (hy : a.eval y = pageV m) (hl : l.length = 64) (hm : m.length = 64) (b : Bool) (hb : decide (l = m) = !b) :
    YieldsIf Try.prog ops S o (.bool b) a := .inl ⟨hw, fun w _ => by
  obtain rfl : (!decide (l = m)) = b := by rw [hb, Bool.not_not]
  have hr := neq_run hT w x y l m hl hm
  unfold execOp
  simp only [ho, hx, hy]
  rw [Sem.run_bind, hr]
  rfl⟩
theorem yieldsIf_zero_page {o : Oper} (hw : Region.wanted o (yielded ops a.tmps) = true) (ho : o.op = .build T #[]) : YieldsIf Try.prog ops S o (pageV zeros) a := .inl ⟨hw, fun w _ => by
  have h1 : (sizeOf 5).run Try.prog w = .ok 1 w := by rfl
  unfold execOp
  simp only [ho, Instr.build, Sem.run_bind, zero_page hT, Result.andThen_ok, run_underlying hT.und, h1, List.map_toArray, List.map_nil]
  rfl⟩
variable {w : World} {rest : List Oper} {Q : Exit → Act → World → Prop}
theorem wpList_load_pageM {o : Oper} (hgd : o.guard = none) (x : Operand) (ho : o.op = .load T x) (b f : Nat) (hx : a.eval x = .pointer (some ⟨b, f, none⟩)) (l : Text) (hl : l.length = 64)
    (hS : w.rangeAt b f (l.map cellOf)) (h : wpList Try.prog ops Q rest (a.put o.dst (pageV l)) w) : wpList Try.prog ops Q (o :: rest) a w :=
  wpList_load_mid hgd T x ho b f hx (l.map cellOf) _ hS hT.und rfl (page_info hT l hl) h
theorem wp_store_page {o : Oper} {K : Act → World → Prop} (x y : Operand) (ho : o.op = .store T x y) (g : Nat) (hx : a.eval x = .pointer (some ⟨g, 0, none⟩)) (l : Text) (hl : l.length = 64) (hy : a.eval y = pageV l)
    (cur : Array Value) (hc : cur.size = 64) (t : TypeId) (hg : w.heap[g]? = some (.cells cur t (0, 0)))
    (h : K (a.put o.dst undef) (w.setRow g (l.map cellOf).toArray)) : o.wp Try.prog a w K Q := by
  have hst := run_storeCells_at Try.prog g 0 t (l.map cellOf) 0 cur w hg (by simp [hl, hc]) (cells_one l)
  have e : (cur.toList.take (0 + 0) ++ l.map cellOf ++ cur.toList.drop (0 + 0 + (l.map cellOf).length)) = l.map cellOf := by
    rw [List.drop_eq_nil_of_le (by simp [hl, hc])]; simp
  rw [e] at hst
  unfold Oper.wp execOp
  simp only [ho, hx, hy, Instr.storeAt, Instr.sureAddr, Sem.run_bind, Sem.run_pure, Result.andThen_ok, storeVar, pageV, Value.cells, size_page hT, List.size_toArray, List.length_map, hl, ne_eq, not_true_eq_false, if_false, hst]
  exact h
theorem wp_alloc_page {o : Oper} {K : Act → World → Prop} (ho : o.op = .alloc T) (h : K (a.put o.dst (.pointer (some ⟨w.heap.size, 0, none⟩))) (w.alloc (.cells (zeros.map cellOf).toArray T))) : o.wp Try.prog a w K Q := by
  unfold Oper.wp execOp
  simp only [ho, Instr.alloc, Sem.run_bind, zero_page hT, Result.andThen_ok, newVar_page, Sem.run_pure]
  exact h
end
/-! ### the same behind a guard that is open -/
section
variable {T : TypeId} (hT : IsPage T) {ops : Array Oper} {a : Act} {w : World} {rest : List Oper} {Q : Exit → Act → World → Prop} {o : Oper}
theorem wpList_wanted (hw : Region.wanted o (yielded ops a.tmps) = true) (h : ∀ K : Act → World → Prop, (∀ a w, wpList Try.prog ops Q rest a w → K a w) → o.wp Try.prog a w K Q) : wpList Try.prog ops Q (o :: rest) a w :=
  wpList_step fun K hK => by rw [if_pos hw]; exact h K hK
include hT
theorem wpList_load_pageG (hw : Region.wanted o (yielded ops a.tmps) = true) (x : Operand) (ho : o.op = .load T x) (b f : Nat) (hx : a.eval x = .pointer (some ⟨b, f, none⟩)) (l : Text) (hl : l.length = 64)
    (hS : w.rangeAt b f (l.map cellOf)) (h : wpList Try.prog ops Q rest (a.put o.dst (pageV l)) w) : wpList Try.prog ops Q (o :: rest) a w :=
  wpList_wanted hw fun _ hK => wp_load_mid T x ho b f hx (l.map cellOf) _ hS hT.und rfl (page_info hT l hl) (hK _ _ h)
theorem wpList_zero_pageG (hw : Region.wanted o (yielded ops a.tmps) = true) (ho : o.op = .build T #[]) (h : wpList Try.prog ops Q rest (a.put o.dst (pageV zeros)) w) : wpList Try.prog ops Q (o :: rest) a w := by
  refine wpList_wanted hw fun K hK => ?_
  have h1 : (sizeOf 5).run Try.prog w = .ok 1 w := by rfl
  unfold Oper.wp execOp
  simp only [ho, Instr.build, Sem.run_bind, zero_page hT, Result.andThen_ok, run_underlying hT.und, h1, List.map_toArray, List.map_nil]
  exact hK _ _ h
theorem wpList_eql_pageG (hw : Region.wanted o (yielded ops a.tmps) = true) (x y : Operand) (t : TypeId) (ho : o.op = .binOp .eql T x y t) (l m : Text) (hx : a.eval x = pageV l) (hy : a.eval y = pageV m) (hl : l.length = 64) (hm : m.length = 64) (b : Bool) (hb : decide (l = m) = b)
    (h : wpList Try.prog ops Q rest (a.put o.dst (.bool b)) w) : wpList Try.prog ops Q (o :: rest) a w := by
  subst hb
  refine wpList_wanted hw fun K hK => ?_
  have hr := eql_run hT w x y l m hl hm
  unfold Oper.wp execOp
  simp only [ho, hx, hy]
  rw [Sem.run_bind, hr]
  exact hK _ _ h
end
theorem array_at {T : TypeId} (hT : IsPage T) (A : Option Addr) (c : Nat) (w : World) : (Instr.arrayAt T (.slice A 64 c)).run Try.prog w = .ok (.pointer A) w := by
  unfold Instr.arrayAt
  simp only [Sem.run_bind, run_underlying hT.und, Result.andThen_ok]
  rfl
/-- bytes copied over the head of a page, in a region that draws -/
theorem step_copy_page {ops : Array Oper} {o : Oper} {a : Act} {w : World} {K : Act → World → Prop} {Q : Exit → Act → World → Prop} {E : Prop} (hgd : o.guard = none) (d s : Operand)
    (ho : o.op = .call { callee := .builtin .copy, args := #[d, s], argTypes := #[51, 51] }) (g cD : Nat) (hd : a.eval d = .slice (some ⟨g, 0, none⟩) 64 cD)
    (A : Option Addr) (c n : Nat) (m : Text) (hn : m.length = n) (hs : a.eval s = .slice A n c) (hA : Txt w A m) (l : Text) (hl : l.length = 64) (t : TypeId) (hg : w.heap[g]? = some (.cells (l.map cellOf).toArray t (0, 0)))
    (h : ∀ w', w'.heap[g]? = some (.cells ((overP l m).map cellOf).toArray t (0, 0)) → Below g w w' → K (a.put o.dst (.int .i64 ((m.take 64).length : Nat))) w') :
    if Region.wanted o (yielded ops a.tmps) = true then Oper.wp Try.prog o a w K Q else E := by
  subst hn
  have hu8 : (Try.prog.info? 5).map (·.size) = some 1 := by kernel_rfl
  have hcl : ((m.take 64).map cellOf).length = Nat.min m.length 64 := by simp [Nat.min_comm]
  refine step_copy_splice hgd d s _ _ ho 5 Try.underlying51 hu8 _ _ _ _ _ _ hd hs g 0 (l.map cellOf) t hg ((m.take 64).map cellOf) hcl (fun hp => ⟨rfl, ?_⟩) (by simp [hl]; omega) (cells_one _) g w (Below.refl _ _) (Nat.le_refl _) ?_
  · have hm : m ≠ [] := by intro e; subst e; simp at hp
    obtain ⟨ad, rfl, _, hc⟩ := hA hm
    refine ⟨ad, rfl, fun j v hv => ?_⟩
    have hj : j < (m.take 64).length := by
      have := (List.getElem?_eq_some_iff.1 hv).1
      simpa using this
    have hj2 : j < m.length := by rw [List.length_take] at hj; omega
    rw [hc j hj2]
    rw [List.getElem?_map, List.getElem?_eq_getElem hj, List.getElem_take] at hv
    exact hv
  · intro w' hw hb
    have e : splice (l.map cellOf) 0 ((m.take 64).map cellOf) = (overP l m).map cellOf := by
      simp [splice, overP, List.map_append, List.map_drop]
    have hw2 := hw.out
    rw [e] at hw2
    have hnn : goInt ((m.take 64).map cellOf).length = .int .i64 ((m.take 64).length : Nat) := by simp [goInt]
    rw [hnn]
    exact h w' hw2 hb
theorem overP_zeros (m : Text) (hm : m.length ≤ 64) : overP zeros m = m ++ List.replicate (64 - m.length) 0 := by
  unfold overP zeros
  rw [List.take_of_length_le hm, List.drop_replicate]
end Go.Proofs.Ytfjejiapafdgeaa
