/- The statement on bursts, walked. -/
import Derived.Test.YtfppbmendhpjcaaCrcLaw2
import Derived.RegionTactic
import Derived.ChangeAlike
namespace Go.Proofs.Ytfppbmendhpjcaa
open Go.RowKit

theorem place_of (n : Int) (L : Nat) (h4 : 4 ≤ L) (hm : L ≤ 20000) : ∃ f : Nat, wrap64 (32 + wrap64 ((IntKind.u64.wrap n).tmod (8 * (L : Int) - 31))) = (f : Int) ∧ 32 ≤ f ∧ f ≤ 8 * L := by
  have h0 : 0 ≤ IntKind.u64.wrap n := by rw [IntKind.wrap_u64]; omega
  have h1 : (IntKind.u64.wrap n).tmod (8 * (L : Int) - 31) = (IntKind.u64.wrap n) % (8 * (L : Int) - 31) := Int.tmod_eq_emod_of_nonneg h0
  have h2 := Int.emod_nonneg (IntKind.u64.wrap n) (show 8 * (L : Int) - 31 ≠ 0 by omega)
  have h3 := Int.emod_lt_of_pos (IntKind.u64.wrap n) (show 0 < 8 * (L : Int) - 31 by omega)
  rw [h1]
  generalize IntKind.u64.wrap n % (8 * (L : Int) - 31) = r at *
  have e1 : wrap64 r = r := by unfold wrap64; omega
  have e2 : wrap64 (32 + r) = 32 + r := by unfold wrap64; omega
  rw [e1, e2]
  exact ⟨(32 + r).toNat, by omega, by omega, by omega⟩

theorem bit_test (t : Crc.Reg) (j : Nat) : (bits .and .u32 (reg t / (2 : Int) ^ j) 1 == 1) = t.getLsbD j := by
  have h1 : reg t / (2 : Int) ^ j = ((t.toNat / 2 ^ j : Nat) : Int) := by
    unfold reg
    rw [Int.natCast_ediv, Int.natCast_pow]
    rfl
  have hlt : t.toNat / 2 ^ j < 4294967296 := Nat.lt_of_le_of_lt (Nat.div_le_self _ _) t.isLt
  have h2 : bits .and .u32 ((t.toNat / 2 ^ j : Nat) : Int) 1 = ((t.toNat / 2 ^ j &&& 1 : Nat) : Int) := u32_and_nat _ 1 hlt (by omega)
  rw [h1, h2, Nat.and_one_is_mod]
  have h3 : t.getLsbD j = decide (t.toNat / 2 ^ j % 2 = 1) := by
    rw [BitVec.getLsbD, Nat.testBit_eq_decide_div_mod_eq]
  rw [h3, Bool.eq_iff_iff]
  simp only [beq_iff_eq, decide_eq_true_eq]
  omega

theorem turn_value (y : UInt8) (p : Nat) : Value.int .u8 (bits .xor .u8 ((y.toNat : Nat) : Int) ((2 : Int) ^ p % (256 : Int))) = cellOf ⟨y.toBitVec ^^^ 1#8 <<< p⟩ := by
  have h1 : (2 : Int) ^ p % (256 : Int) = ((2 ^ p % 256 : Nat) : Int) := by
    rw [Int.natCast_emod, Int.natCast_pow]
    rfl
  have h2 : (((⟨y.toBitVec ^^^ 1#8 <<< p⟩ : UInt8).toNat : Nat) : Int) = ((y.toNat ^^^ (2 ^ p % 256) : Nat) : Int) := by
    show (((y.toBitVec ^^^ 1#8 <<< p).toNat : Nat) : Int) = _
    rw [BitVec.toNat_xor, BitVec.toNat_shiftLeft, Nat.shiftLeft_eq]
    congr 3
    show 1 * 2 ^ p = _
    rw [Nat.one_mul]
  unfold cellOf
  rw [h1, h2, u8_xor_nat _ _ y.toNat_lt (Nat.mod_lt _ (by omega))]
theorem turn_cells (k m : Text) (q : Nat) (b : UInt8) (hq : 4 ≤ q) (hk : k.length = 4) : ((k ++ m).map cellOf).set q (cellOf b) = (k ++ m.set (q - 4) b).map cellOf := by
  rw [← List.map_set, List.set_append_right _ _ (by omega), hk]
theorem turn_bytes {K0 t : Crc.Reg} {l m : Text} {f j q p : Nat} {y : UInt8} (HM : Crc.bytes (BitVec.allOnes 32) (Crc.bv m) = K0 ^^^ Crc.steps (8 * l.length - (f - 32)) (Crc.lowN t j)) (hml : m.length = l.length)
    (hb : t.getLsbD j = true) (hy : m[q - 4]? = some y) (hj : j < 32) (hf1 : 32 ≤ f) (hf2 : f ≤ 8 * l.length) (hq : q - 4 = (f - 32 + j) / 8) (hp : p = (f - 32 + j) % 8) :
    Crc.bytes (BitVec.allOnes 32) (Crc.bv (m.set (q - 4) ⟨y.toBitVec ^^^ 1#8 <<< p⟩)) = K0 ^^^ Crc.steps (8 * l.length - (f - 32)) (Crc.lowN t (j + 1)) := by
  have hlt : (f - 32 + j) / 8 < (Crc.bv m).length := by
    rw [Crc.bv_length]
    have := (List.getElem?_eq_some_iff.1 hy).1
    omega
  have hg : (Crc.bv m)[(f - 32 + j) / 8] = y.toBitVec := by
    have h1 : (Crc.bv m)[(f - 32 + j) / 8]? = some y.toBitVec := by
      unfold Crc.bv
      rw [List.getElem?_map, ← hq, hy]; rfl
    rw [List.getElem?_eq_getElem hlt] at h1
    exact Option.some.inj h1
  have h := Crc.bytes_bit (BitVec.allOnes 32) (Crc.bv m) (f - 32) j hj (by rw [Crc.bv_length]; omega) hlt
  rw [hg, HM, Crc.bv_length, hml] at h
  have e : Crc.bv (m.set (q - 4) ⟨y.toBitVec ^^^ 1#8 <<< p⟩) = (Crc.bv m).set ((f - 32 + j) / 8) (y.toBitVec ^^^ 1#8 <<< ((f - 32 + j) % 8)) := by
    unfold Crc.bv
    rw [List.map_set, hq, hp]
  rw [e, h, BitVec.xor_assoc, ← Crc.steps_xor]
  congr 2
  show _ = _ ^^^ _
  rw [hb]; rfl

set_option maxRecDepth 100000 in
set_option maxHeartbeats 8000000 in
theorem crcBursts_small (l : Text) (A : Option Addr) (cap : Nat) (n : Int) (t : Crc.Reg) (w : World) (h4 : 4 ≤ l.length) (hm : l.length ≤ 20000) (ht : (reg t == 0) = false) (hT : Txt w A l) (hA : A = none → l = []) :
    Calls Try.prog 12 #[.slice A l.length cap, .int .i64 n, .int .u32 (reg t)] w fun e w' => e = .returned (.bool true) ∧ Below w.heap.size w w' := by
  have HT := Lib.hid hT
  have HA := Lib.hid hA
  have HW : Hid (Calls Try.prog 40 #[.slice A l.length cap] w fun e w' => ∃ g c, e = .returned (.slice (some ⟨g, 0, none⟩) (l.length + 4) c) ∧ Hid (w'.ownsRow w.heap.size 5 1 (.slice (some ⟨g, 0, none⟩) (l.length + 4) c) (l.length + 4) ((wrapT l).map cellOf)) ∧ Hid (Below w.heap.size w w')) := Lib.hid (by
    refine (code_wrap l A cap w (by omega) hT hA).mono fun e w' ⟨g, c, h1, h2, h3⟩ => ?_
    rw [wrapT_length, Nat.add_comm 4] at h1 h2
    exact ⟨g, c, h1, Lib.hid h2, Lib.hid h3⟩)
  have hl4 : (((l.length + 4 : Nat) : Int) != ((l.length : Nat) : Int) + 4) = false := by simp
  clear hT hA
  go_enter Try.func12, Try.ntmps12
  go_wp2_with (go_at_call 40; refine HW.out.mono ?_; rintro e w1 ⟨g, c, rfl, HO, HB⟩)
  obtain ⟨f, hf, hf1, hf2⟩ := place_of n l.length h4 hm
  rw [hf]
  clear hf
  obtain ⟨K0, hK0⟩ : ∃ K0, K0 = Crc.bytes (BitVec.allOnes 32) (Crc.bv l) := ⟨_, rfl⟩
  have HK0 := Lib.hid hK0
  clear hK0
  go_loopw [43] (fun i wr => ∃ (j : Nat) (m : Text), j ≤ 32 ∧ i = .int .i64 j ∧ m.length = l.length ∧ Hid (Crc.bytes (BitVec.allOnes 32) (Crc.bv m) = K0 ^^^ Crc.steps (8 * l.length - (f - 32)) (Crc.lowN t j)) ∧
    Hid (wr.ownsRow w.heap.size 5 1 (.slice (some ⟨g, 0, none⟩) (l.length + 4) c) (l.length + 4) ((Crc.four (Crc.sumT l) ++ m).map cellOf)) ∧ Hid (Below w.heap.size w wr)) (fun i _ => 32 - (intOf i).toNat)
  case atStart => exact ⟨0, l, by omega, rfl, rfl, Lib.hid (by rw [HK0.out]; simp [Crc.lowN, Crc.steps_zero]), HO, HB⟩
  case round =>
    obtain ⟨j, m, hj, rfl, hml, HM, HO1, HB1⟩ := hrel
    by_cases hlt : j < 32
    · have HML := Lib.hid hml
      clear hml
      by_cases hb : t.getLsbD j = true
      · have htest : (bits .and .u32 (reg t / (2 : Int) ^ j) 1 == 1) = true := by rw [bit_test, hb]
        obtain ⟨q, hq⟩ : ∃ q, q = (f + j) / 8 := ⟨_, rfl⟩
        obtain ⟨p, hp⟩ : ∃ p, p = (f + j) % 8 := ⟨_, rfl⟩
        have hq4 : 4 ≤ q ∧ q < l.length + 4 := by omega
        obtain ⟨hqa, hqb⟩ := hq4
        have hp8 : p < 8 := by omega
        have hml := HML.out
        obtain ⟨y, hy⟩ : ∃ y, m[q - 4]? = some y := ⟨_, List.getElem?_eq_getElem (by omega)⟩
        have hcell : wr.cell? ⟨g, q, none⟩ = some (.int .u8 ((y.toNat : Nat) : Int)) := by
          rw [HO1.out.cellAt q (by omega)]
          rw [List.getElem?_map, List.getElem?_append_right (by rw [four_length]; omega), four_length, hy]
          rfl
        have hfr : wr.frozen? ⟨g, q, none⟩ = false := HO1.out.frozenAt q
        have e1 : IntKind.i64.wrap ((f : Int) + (j : Int)) = (f : Int) + (j : Int) := IntWalk.i64_in _ (by omega)
        have e2 : ((f : Int) + (j : Int)).tdiv 8 = (q : Int) := by rw [Int.tdiv_eq_ediv_of_nonneg (by omega)]; omega
        have e3 : ((f : Int) + (j : Int)).tmod 8 = (p : Int) := by rw [Int.tmod_eq_emod_of_nonneg (by omega)]; omega
        have e4 : ((f : Int) + (j : Int)) / 8 = (q : Int) := by omega
        have e5 : ((f : Int) + (j : Int)) % 8 = (p : Int) := by omega
        have HB2 := Lib.hid hb
        have HQ := Lib.hid hq
        have HP := Lib.hid hp
        have HY := Lib.hid hy
        have hi1 : (q : Int) < (l.length : Int) + 4 := by omega
        clear hb hq hp hml hy
        go_wp2
        go_region
        go_wp2
        go_roundw
        case rel =>
          have hq := HQ.out
          have hp := HP.out
          refine ⟨j + 1, m.set (q - 4) ⟨y.toBitVec ^^^ 1#8 <<< p⟩, by omega, by go_num, by rw [List.length_set]; exact HML.out, ?_, ?_, Lib.hid ((HB1.out.setCell (HO1.out.lt g rfl).1 _).drew)⟩
          · exact Lib.hid (turn_bytes HM.out HML.out HB2.out HY.out hlt hf1 hf2 (by omega) (by omega))
          · refine Lib.hid ?_
            rw [turn_value y p, ← turn_cells (Crc.four (Crc.sumT l)) m q _ hqa rfl]
            exact (HO1.out.stored q _).1.drew
        case measure => simp [intOf]; omega
      · have htest : (bits .and .u32 (reg t / (2 : Int) ^ j) 1 == 1) = false := by rw [bit_test]; simpa using hb
        have HB2 : Hid (Crc.lowN t (j + 1) = Crc.lowN t j) := Lib.hid (by
          show _ ^^^ _ = _
          have : t.getLsbD j = false := by simpa using hb
          rw [this]; simp)
        clear hb
        go_wp2
        go_roundw
        case rel => exact ⟨j + 1, m, by omega, by go_num, HML.out, by rw [HB2.out]; exact HM, HO1, HB1⟩
        case measure => simp [intOf]; omega
    · obtain rfl : j = 32 := by omega
      have HN : Hid (Crc.sumT m ≠ Crc.sumT l) := Lib.hid (Crc.burst_sum l m _ t (fun h0 => by rw [h0] at ht; simp [reg] at ht) (by rw [HM.out, HK0.out, Crc.lowN_all]))
      have HU : Hid (∀ W, Txt W (some ⟨g, 0, none⟩) (Crc.four (Crc.sumT l) ++ m) → Calls Try.prog 41 #[.slice (some ⟨g, 0, none⟩) (l.length + 4) c] W fun e w' => e = .returned (.tuple #[.slice none 0 0, .int .i64 12]) ∧ Below W.heap.size W w') := Lib.hid (fun W hW => by
        have hlen : (Crc.four (Crc.sumT l) ++ m).length = l.length + 4 := by rw [List.length_append, four_length, hml]; omega
        have := code_unwrap (Crc.four (Crc.sumT l) ++ m) (some ⟨g, 0, none⟩) c W (by omega) (by rw [hlen]; exact own_cap HO1.out (by omega)) hW (by simp)
        rw [hlen] at this
        refine this.mono fun e w' ⟨hb, h⟩ => ?_
        rw [hlen, List.take_left' (by rfl), List.drop_left' (by rfl)] at h
        rcases h with ⟨h, _⟩ | ⟨_, h, _⟩ | ⟨_, _, h⟩
        · omega
        · exact absurd (Crc.four_inj h).symm HN.out
        · exact ⟨h, hb⟩)
      clear hml HM
      go_wp2_with (first
        | (go_at_call 41; refine (HU.out _ (.of_own HO1.out)).mono ?_; rintro e w2 ⟨rfl, hb2⟩; have HB2 := Lib.hid (below_tr HB1.out hb2 (Nat.le_refl _)); clear hb2)
        | (go_at_call 33; refine (lives_any _).mono ?_; rintro e w3 ⟨rfl, hb3⟩))
      go_ret
      exact ⟨rfl, below_tr HB2.out hb3 (Nat.le_refl _)⟩

theorem crcBursts_no (l : Text) (A : Option Addr) (cap : Nat) (n : Int) (t : Crc.Reg) (w : World) (hm : l.length ≤ 9223372036854775807) (h : 20000 < l.length ∨ (l.length ≤ 20000 ∧ l.length < 4) ∨ (l.length ≤ 20000 ∧ 4 ≤ l.length ∧ (reg t == 0) = true)) :
    Calls Try.prog 12 #[.slice A l.length cap, .int .i64 n, .int .u32 (reg t)] w fun e w' => e = .returned (.bool true) ∧ Below w.heap.size w w' := by
  rcases h with h | ⟨h1, h2⟩ | ⟨h1, h2, h3⟩
  all_goals
    go_enter Try.func12, Try.ntmps12
    go_wp2_with (go_at_call 33; refine (lives_any _).mono ?_; rintro e w1 ⟨rfl, hb1⟩)
    go_ret
    exact ⟨rfl, hb1⟩
theorem crcBursts_any (l : Text) (A : Option Addr) (cap : Nat) (n : Int) (t : Crc.Reg) (w : World) (hm : l.length ≤ 9223372036854775807) (hT : Txt w A l) (hA : A = none → l = []) :
    Calls Try.prog 12 #[.slice A l.length cap, .int .i64 n, .int .u32 (reg t)] w fun e w' => e = .returned (.bool true) ∧ Below w.heap.size w w' := by
  by_cases h1 : 20000 < l.length
  · exact crcBursts_no l A cap n t w hm (.inl h1)
  · by_cases h2 : l.length < 4
    · exact crcBursts_no l A cap n t w hm (.inr (.inl ⟨by omega, h2⟩))
    · cases h3 : (reg t == 0)
      · exact crcBursts_small l A cap n t w (by omega) (by omega) h3 hT hA
      · exact crcBursts_no l A cap n t w hm (.inr (.inr ⟨by omega, by omega, h3⟩))
end Go.Proofs.Ytfppbmendhpjcaa
