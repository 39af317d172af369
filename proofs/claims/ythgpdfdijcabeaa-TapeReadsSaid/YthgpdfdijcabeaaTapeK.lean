/- A head read, whatever the bytes; a batch's own head. -/
import Derived.Test.YthgpdfdijcabeaaTapeJ
namespace Go.Proofs.Ythgpdfdijcabeaa
open Go.RowKit
set_option maxRecDepth 100000

set_option maxHeartbeats 1000000 in
theorem code_begin_short (l : Text) (A : Option Addr) (c : Nat) (w : World) (hl : l.length ≠ 64) :
    Calls Try.prog 21 #[.slice A l.length c] w fun e w' => e = .returned (beginV l) ∧ Below w.heap.size w w' := by
  have HV : Hid (beginV l = .tuple #[headV 0 0 0, .bool false]) := Lib.hid (by unfold beginV isB; rw [decide_eq_false hl]; simp)
  have HP : Hid (∀ W, Calls Try.prog 70 #[.slice A l.length c] W fun e w' => e = .returned (.bool false) ∧ W = w') := Lib.hid (fun W => by have := code_isPage A l.length c W; rwa [decide_eq_false hl] at this)
  have HBW : Hid (Below w.heap.size w (w.alloc (headO 0 0 0))) := Lib.hid (below_alloc w _)
  have HZH : Hid ((w.alloc (headO 0 0 0)).heap[w.heap.size]? = some (headO 0 0 0)) := Lib.hid (heap_alloc_new w _)
  unfold headO at HBW HZH
  clear hl
  go_enter Try.func21, Try.ntmps21
  go_wp2_with (first
    | (go_at_call 70; refine (HP.out _).mono ?_; rintro e w1 ⟨rfl, rfl⟩)
    | ((with_reducible refine wpList_store_row 35 (o := ⟨none, _, _, _, _, _⟩) ?a1 (.tmp 2) (.tmp 8) ?a2 w.heap.size ?a3 [.int .i64 0, .int .i64 0, .int .u32 0] ?a4 ?a5 ?a6 #[.int .i64 0, .int .i64 0, .int .u32 0] ?a7 35 ?a8 ?_); (case a1 => rfl); (case a2 => rfl); (case a3 => rfl); (case a4 => kernel_rfl); (case a5 => exact one3 _ _ _ _ _ _); (case a6 => rfl); (case a7 => rfl); (case a8 => exact HZH.out); (try simp only [Act.put])))
  refine bodyPost_ret (results_head headT_und (by kernel_rfl) rfl _ _ w.heap.size _ _ _ (.bool false) rfl rfl _ _ (setRow_heap _ _ _ _ _ _ HZH.out)) rfl ⟨by rw [HV.out]; rfl, ?_⟩
  exact below_setRow HBW.out (Nat.le_refl _) _
theorem code_begin (l : Text) (A : Option Addr) (c : Nat) (w : World) (hT : Txt w A l) (hc : l.length ≤ c) :
    Calls Try.prog 21 #[.slice A l.length c] w fun e w' => e = .returned (beginV l) ∧ Below w.heap.size w w' := by
  by_cases hl : l.length = 64
  · rcases Bool.eq_false_or_eq_true (headOk (seqB l) (lenB l)) with hh | hh
    · exact code_begin_yes l A c w hT hl (by omega) hh
    · exact code_begin_no l A c w hT hl (by omega) hh
  · exact code_begin_short l A c w hl

theorem high_snoc (X m : Nat) : highT X (m + 1) = highT (X / 256) m ++ [UInt8.ofNat X] := by
  unfold highT
  rw [List.range_succ, List.map_append]
  congr 1
  · apply List.map_congr_left
    intro i hi
    have hi' : i < m := List.mem_range.1 hi
    congr 1
    rw [Nat.div_div_eq_div_mul]
    congr 1
    rw [show (256 : Nat) = 2 ^ 8 by decide, ← Nat.pow_add]
    congr 1
    omega
  · simp
theorem numT_high (m : Nat) : ∀ X : Nat, numT (highT X m) = X % 256 ^ m := by
  induction m with
  | zero => intro X; simp [highT, numT, Nat.mod_one]
  | succ m ih =>
    intro X
    rw [high_snoc, numT_snoc, ih, UInt8.toNat_ofNat']
    have h1 : X % 256 ^ (m + 1) = X % 256 + 256 * (X / 256 % 256 ^ m) := by rw [Nat.pow_add_one', Nat.mod_mul]
    rw [h1]
    omega
theorem headP_eq (s n u : Nat) : headP s n u = wrapT (headB s n u) ++ List.replicate 43 0 := by
  unfold headP
  rw [overP_zeros _ (by rw [wrapT_length, headB_len]; decide), wrapT_length, headB_len]
theorem endP_eq (s u : Nat) : endP s u = wrapT (endB s u) ++ List.replicate 47 0 := by
  unfold endP
  rw [overP_zeros _ (by rw [wrapT_length, endB_len]; decide), wrapT_length, endB_len]
theorem headP_parts (s n u : Nat) : ((headP s n u).drop 5).take 8 = highT s 8 ∧ ((headP s n u).drop 13).take 4 = highT n 4 ∧ ((headP s n u).drop 17).take 4 = highT u 4 := by
  have e : headP s n u = (Crc.four (Crc.sumT (headB s n u)) ++ [72]) ++ (highT s 8 ++ (highT n 4 ++ (highT u 4 ++ List.replicate 43 0))) := by
    rw [headP_eq]
    unfold wrapT headB
    simp
  have l0 : (Crc.four (Crc.sumT (headB s n u)) ++ [72]).length = 5 := rfl
  have l1 := highT_len s 8
  have l2 := highT_len n 4
  have l3 := highT_len u 4
  generalize Crc.four (Crc.sumT (headB s n u)) ++ [72] = F at *
  rw [e]
  refine ⟨?_, ?_, ?_⟩
  · rw [List.drop_append_of_le_length (by omega), List.drop_of_length_le (by omega), List.nil_append, List.take_append_of_le_length (by omega), List.take_of_length_le (by omega)]
  · rw [← List.append_assoc F, List.drop_append_of_le_length (by rw [List.length_append]; omega), List.drop_of_length_le (by rw [List.length_append]; omega), List.nil_append, List.take_append_of_le_length (by omega), List.take_of_length_le (by omega)]
  · rw [← List.append_assoc F, ← List.append_assoc (F ++ _), List.drop_append_of_le_length (by simp only [List.length_append]; omega), List.drop_of_length_le (by simp only [List.length_append]; omega), List.nil_append, List.take_append_of_le_length (by omega), List.take_of_length_le (by omega)]
/-- a batch's own head is read as it is -/
theorem begin_headP (s n u : Nat) (h1 : 1 ≤ s) (h2 : s ≤ 4611686018427387904) (h3 : 1 ≤ n) (h4 : n ≤ 131072) (h5 : u < 4294967296) : beginV (headP s n u) = .tuple #[headV s n u, .bool true] := by
  obtain ⟨p1, p2, p3⟩ := headP_parts s n u
  have e1 : seqB (headP s n u) = s := by
    unfold seqB
    rw [p1, numT_high, Nat.mod_eq_of_lt (by omega), IntKind.wrap_i64]
    omega
  have e2 : lenB (headP s n u) = n := by unfold lenB; rw [p2, numT_high, Nat.mod_eq_of_lt (by omega)]
  have e3 : sumB (headP s n u) = u := by unfold sumB; rw [p3, numT_high, Nat.mod_eq_of_lt (by omega)]
  have hh : headOk s n = true := by
    unfold headOk seqOk needV
    rw [if_neg (by omega)]
    simp
    omega
  have hb : isB (headP s n u) = true := by
    unfold isB
    rw [e1, e2, e3, hh, headP_len]
    simp
  unfold beginV
  rw [if_pos hb, e1, e2, e3]
end Go.Proofs.Ythgpdfdijcabeaa
