/- The document's decimal digits of a number. -/
import Derived.Test.YtaccjfoifkfpfaaDoorTxt2
import Derived.Lib.ItoaNum
namespace Go.Proofs.YtaccjfoifkfpfaaDoor
open Go.RowKit
set_option maxRecDepth 100000
set_option linter.unusedSimpArgs false
set_option linter.unusedVariables false

/-- a number's digits, the lowest first; none of nought -/
def lowZ (u : Nat) : Text := if h : u = 0 then [] else UInt8.ofNat (48 + u % 10) :: lowZ (u / 10)
termination_by u
decreasing_by omega
theorem lowZ_zero : lowZ 0 = [] := by rw [lowZ, dif_pos rfl]
theorem lowZ_pos (u : Nat) (h : u ≠ 0) : lowZ u = UInt8.ofNat (48 + u % 10) :: lowZ (u / 10) := by rw [lowZ, dif_neg h]
theorem lowZ_dec (u : Nat) : u ≠ 0 → (lowZ u).reverse = Lib.decDigits u := by
  induction u using Nat.strongRecOn with
  | ind u ih =>
    intro h
    rw [lowZ_pos u h]
    by_cases h1 : u < 10
    · rw [Nat.div_eq_of_lt h1, lowZ_zero, Lib.decDigits, dif_pos h1, Nat.mod_eq_of_lt h1]
      rfl
    · rw [Lib.decDigits, dif_neg h1, List.reverse_cons, ih (u / 10) (by omega) (by omega)]
theorem lowZ_len (k : Nat) : ∀ u, u < 10 ^ k → (lowZ u).length ≤ k := by
  induction k with
  | zero => intro u h; obtain rfl : u = 0 := by simpa using h
            rw [lowZ_zero]; exact Nat.le_refl _
  | succ k ih =>
    intro u h
    by_cases h0 : u = 0
    · subst h0; rw [lowZ_zero]; simp
    · rw [lowZ_pos u h0, List.length_cons]
      have := ih (u / 10) (by rw [Nat.pow_succ] at h; omega)
      omega
theorem lowZ_19 {n : Int} (h : -9223372036854775808 ≤ n ∧ n ≤ 9223372036854775807) : (lowZ n.natAbs).length ≤ 19 := by
  have e : 10 ^ 19 = 10000000000000000000 := by decide
  exact lowZ_len 19 _ (by rw [e]; omega)
theorem lowZ_ne {u : Nat} (h : u ≠ 0) : 1 ≤ (lowZ u).length := by rw [lowZ_pos u h, List.length_cons]; omega
theorem itoa_low_neg {n : Int} (h : n < 0) : (lowZ n.natAbs ++ [45]).reverse = Lib.itoa n := by
  unfold Lib.itoa
  rw [if_pos h, List.reverse_append, lowZ_dec _ (by omega)]
  rfl
theorem itoa_low {n : Int} (h : ¬ n < 0) (hz : n ≠ 0) : (lowZ n.natAbs).reverse = Lib.itoa n := by
  unfold Lib.itoa
  rw [if_neg h, lowZ_dec _ (by omega), show n.natAbs = n.toNat by omega]
theorem one_own (w : World) {X : Int} {b : UInt8} (h : X = ((b.toNat : Nat) : Int)) : (w.alloc (.cells #[.int .u8 X] 5)).ownsRow w.heap.size 5 1 (.slice (some ⟨w.heap.size, 0, none⟩) 1 1) ([b] : Text).length (([b] : Text).map cellOf) := by
  subst h
  exact World.ownsRow_lit w #[cellOf b] 1 (Nat.le_refl _) (by unfold maxLen; omega) rfl
theorem one_txt (w : World) {X : Int} {b : UInt8} (h : X = ((b.toNat : Nat) : Int)) : Txt (w.alloc (.cells #[.int .u8 X] 5)) (some ⟨w.heap.size, 0, none⟩) [b] := .of_own (one_own w h)
/-- the byte of a digit -/
theorem digit_byte (d u : Nat) (h : d = u % 10) : wrap64 (48 + (d : Int)) % 256 = (((UInt8.ofNat (48 + u % 10)).toNat : Nat) : Int) := by
  rw [UInt8.toNat_ofNat']
  unfold wrap64
  omega
/-- what is left to be told of a number, and what was -/
def LowI (u : Nat) (l : Text) (z : Int) : Prop := l ++ lowZ z.natAbs = lowZ u ∧ l.length ≤ 30 ∧ z.natAbs < 10 ^ 19
set_option maxHeartbeats 4000000 in
theorem ref_decimal (n : Int) (h0 : -9223372036854775808 ≤ n) (h1 : n ≤ 9223372036854775807) (hz : n ≠ 0) (w : World) :
    Calls Tryd.prog 34 #[.int .i64 n] w fun e w' => e = .returned (.string ⟨(Lib.itoa n).toArray⟩) ∧ Below w.heap.size w w' := by
  have HN : Hid (-9223372036854775808 ≤ n ∧ n ≤ 9223372036854775807) := Lib.hid ⟨h0, h1⟩
  have hq : (n == 0) = false := beq_false_of_ne hz
  clear h0 h1
  go_enter Tryd.func34, Tryd.ntmps34
  go_wp2
  go_loopw [3, 4, 5] (fun v z d wr => ∃ (l : Text) (m : Int), z = .int .i64 m ∧ Hid (-9223372036854775808 ≤ m ∧ m ≤ 9223372036854775807) ∧ Hid (l ++ lowZ m.natAbs = lowZ n.natAbs) ∧ Hid (wr.ownsRow w.heap.size 5 1 v l.length (l.map cellOf)) ∧ Hid (Below w.heap.size w wr)) (fun _ z _ _ => (intOf z).natAbs)
  case atStart => exact ⟨[], n, rfl, HN, Lib.hid rfl, Lib.hid (World.ownsRow_nil _ _ _ _), Lib.hid (Below.refl _ _)⟩
  case round =>
    obtain ⟨l, m, rfl, HM, HL, HO, HB⟩ := hrel
    obtain ⟨A, c, rfl, -, -⟩ := own_txt HO.out
    by_cases hm0 : m = 0
    · subst hm0
      have HE : Hid (l = lowZ n.natAbs) := Lib.hid (by have := HL.out; rw [show (0 : Int).natAbs = 0 from rfl, lowZ_zero, List.append_nil] at this; exact this)
      have HLen : Hid (l.length ≤ 19) := Lib.hid (by rw [HE.out]; exact lowZ_19 HN.out)
      have HLe : Hid (1 ≤ l.length) := Lib.hid (by rw [HE.out]; exact lowZ_ne (by omega))
      by_cases hneg : n < 0
      · have HL2 : Hid ((l ++ [45]).length = l.length + 1) := Lib.hid (by simp)
        go_wp2_with (refine wpList_append_own_text (o := ⟨some 31, _, _, _, _, _⟩) rfl _ _ rfl rfl w.heap.size w _ l [45] (l ++ [45]) rfl ?o1 (some ⟨wr.heap.size, 0, none⟩) 1 rfl ?o2 ?o3 ?o4 ?o5 ?o6 rfl ?_; (case o1 => exact own_below HO.out ((Below.refl _ _).alloc (Nat.le_refl _) _)); (case o2 => exact one_txt wr rfl); (case o3 => simp); (case o4 => have := HLen.out; simp; omega); (case o5 => exact HB.out.alloc HB.out.size _); (case o6 => exact Nat.le_trans HB.out.size (by simp)); intro v2 w2 hown2 hb2 hv2; obtain ⟨A2, c2, rfl, ht2, ha2⟩ := own_txt hown2; have HT := Lib.hid ht2; have HBo := Lib.hid hb2; clear hown2 hb2 hv2 ht2 ha2; obtain ⟨m, hm⟩ : ∃ m, m = (l ++ [45]).length := ⟨_, rfl⟩; have HMl := Lib.hid hm; have hm0 : 1 ≤ m := (by rw [hm, HL2.out]; omega); have hm1 : m ≤ 30 := (by have := HLen.out; rw [hm, HL2.out]; omega); rw [← hm]; clear hm)
        obtain ⟨L, hL⟩ : ∃ L, L = l ++ [45] := ⟨_, rfl⟩
        have HIt : Hid (L.reverse = Lib.itoa n) := Lib.hid (by rw [hL, HE.out]; exact itoa_low_neg hneg)
        rw [← hL] at HMl HT
        clear hL
        go_loopw [6, 7] (fun v i wq => ∃ k : Nat, k ≤ m ∧ i = .int .i64 ((m : Int) - 1 - (k : Int)) ∧ Hid (wq.ownsRow w2.heap.size 5 1 v (L.reverse.take k).length ((L.reverse.take k).map cellOf)) ∧ Hid (Below w2.heap.size w2 wq)) (fun _ i _ => (intOf i + 1).toNat)
        case atStart => exact ⟨0, Nat.zero_le _, by simp, Lib.hid (World.ownsRow_nil _ _ _ _), Lib.hid (Below.refl _ _)⟩
        case round =>
          obtain ⟨k, hk, rfl, HO4, HB4⟩ := hrel
          by_cases hlt : k < m
          · obtain ⟨d, hd⟩ : ∃ d : Nat, m = d + k + 1 := ⟨m - k - 1, by omega⟩
            have HI : Hid ((m : Int) - 1 - (k : Int) = (d : Int)) := Lib.hid (by omega)
            have hd8 : (d : Int) < (m : Int) := by omega
            have hdL : d < L.length := by have := HMl.out; omega
            rw [HI.out]
            have HX : Hid (L.reverse.take (k + 1) = L.reverse.take k ++ [L[d]'hdL]) := Lib.hid (by
              have hkr : k < L.reverse.length := by have := HMl.out; rw [List.length_reverse]; omega
              rw [List.take_succ_eq_append_getElem hkr, List.getElem_reverse]
              congr 3
              have := HMl.out
              omega)
            have hcell : ∃ a, A2 = some a ∧ wr.cell? (a.add d) = some (.int .u8 (((L[d]'hdL).toNat : Nat) : Int)) := by
              obtain ⟨a, e, _, hc⟩ := (HT.out.below HB4.out).at_ (k := d) hdL
              exact ⟨a, e, hc⟩
            obtain ⟨b, hb⟩ : ∃ b, b = L[d]'hdL := ⟨_, rfl⟩
            rw [← hb] at hcell HX
            obtain ⟨a1, rfl, hc1⟩ := hcell
            obtain ⟨J, hJ⟩ : ∃ J, J = L.reverse.take k := ⟨_, rfl⟩
            have HJl : Hid (J.length ≤ 30) := Lib.hid (by have := HMl.out; rw [hJ, List.length_take, List.length_reverse]; omega)
            rw [← hJ] at HO4 HX
            obtain ⟨A5, c5, rfl, -, -⟩ := own_txt HO4.out
            clear hJ hb hd
            go_wp2_with (refine wpList_append_own_text (o := ⟨some 45, _, _, _, _, _⟩) rfl _ _ rfl rfl w2.heap.size w2 _ J [b] (J ++ [b]) rfl ?p1 (some ⟨wr.heap.size, 0, none⟩) 1 rfl ?p2 ?p3 ?p4 ?p5 ?p6 rfl ?_; (case p1 => exact own_below HO4.out ((Below.refl _ _).alloc (Nat.le_refl _) _)); (case p2 => exact one_txt wr rfl); (case p3 => simp); (case p4 => have := HJl.out; simp; omega); (case p5 => exact HB4.out.alloc HB4.out.size _); (case p6 => exact Nat.le_trans HB4.out.size (by simp)); intro v5 w5 hown5 hb5 hv5; have HO5 := Lib.hid hown5; have HB5 := Lib.hid hb5; clear hown5 hb5 hv5)
            go_roundw
            case rel => exact ⟨k + 1, by omega, congrArg (Value.int .i64) (by have := HI.out; omega), by rw [HX.out]; exact HO5, HB5⟩
            case measure => simp [intOf]
          · obtain rfl : k = m := by omega
            have HI : Hid ((k : Int) - 1 - (k : Int) = -1) := Lib.hid (by omega)
            rw [HI.out]
            rw [show L.reverse.take k = Lib.itoa n from by rw [List.take_of_length_le (by have := HMl.out; rw [List.length_reverse]; omega)]; exact HIt.out] at HO4
            obtain ⟨A5, c5, rfl, ht5, ha5⟩ := own_txt HO4.out
            have hs := text_run wr A5 c5 _ ht5 ha5
            have HBz := Lib.hid (HBo.out.trans (HB4.out.mono HBo.out.size))
            clear HO4 ht5 ha5
            go_wp2
            go_ret
            exact ⟨rfl, HBz.out⟩
      · obtain ⟨A2, c2, e2, ht2, -⟩ := own_txt HO.out
        injection e2 with e2 e3 e4
        subst e2
        have HT := Lib.hid ht2
        have HBo := HB
        obtain ⟨m, hm⟩ : ∃ m, m = l.length := ⟨_, rfl⟩
        have HMl := Lib.hid hm
        have hm0 : 1 ≤ m := by rw [hm]; exact HLe.out
        have hm1 : m ≤ 30 := by have := HLen.out; omega
        have HIt : Hid (l.reverse = Lib.itoa n) := Lib.hid (by rw [HE.out]; exact itoa_low hneg hz)
        rw [← hm]
        clear hm ht2
        go_wp2
        obtain ⟨L, hL⟩ : ∃ L, L = l := ⟨_, rfl⟩
        rw [← hL] at HMl HT HIt
        clear hL
        rename World => wo
        go_loopw [6, 7] (fun v i wq => ∃ k : Nat, k ≤ m ∧ i = .int .i64 ((m : Int) - 1 - (k : Int)) ∧ Hid (wq.ownsRow wo.heap.size 5 1 v (L.reverse.take k).length ((L.reverse.take k).map cellOf)) ∧ Hid (Below wo.heap.size wo wq)) (fun _ i _ => (intOf i + 1).toNat)
        case atStart => exact ⟨0, Nat.zero_le _, by simp, Lib.hid (World.ownsRow_nil _ _ _ _), Lib.hid (Below.refl _ _)⟩
        case round =>
          obtain ⟨k, hk, rfl, HO4, HB4⟩ := hrel
          by_cases hlt : k < m
          · obtain ⟨d, hd⟩ : ∃ d : Nat, m = d + k + 1 := ⟨m - k - 1, by omega⟩
            have HI : Hid ((m : Int) - 1 - (k : Int) = (d : Int)) := Lib.hid (by omega)
            have hd8 : (d : Int) < (m : Int) := by omega
            have hdL : d < L.length := by have := HMl.out; omega
            rw [HI.out]
            have HX : Hid (L.reverse.take (k + 1) = L.reverse.take k ++ [L[d]'hdL]) := Lib.hid (by
              have hkr : k < L.reverse.length := by have := HMl.out; rw [List.length_reverse]; omega
              rw [List.take_succ_eq_append_getElem hkr, List.getElem_reverse]
              congr 3
              have := HMl.out
              omega)
            have hcell : ∃ a, A = some a ∧ wr.cell? (a.add d) = some (.int .u8 (((L[d]'hdL).toNat : Nat) : Int)) := by
              obtain ⟨a, e, _, hc⟩ := (HT.out.below HB4.out).at_ (k := d) hdL
              exact ⟨a, e, hc⟩
            obtain ⟨b, hb⟩ : ∃ b, b = L[d]'hdL := ⟨_, rfl⟩
            rw [← hb] at hcell HX
            obtain ⟨a1, rfl, hc1⟩ := hcell
            obtain ⟨J, hJ⟩ : ∃ J, J = L.reverse.take k := ⟨_, rfl⟩
            have HJl : Hid (J.length ≤ 30) := Lib.hid (by have := HMl.out; rw [hJ, List.length_take, List.length_reverse]; omega)
            rw [← hJ] at HO4 HX
            obtain ⟨A5, c5, rfl, -, -⟩ := own_txt HO4.out
            clear hJ hb hd
            go_wp2_with (refine wpList_append_own_text (o := ⟨some 45, _, _, _, _, _⟩) rfl _ _ rfl rfl wo.heap.size wo _ J [b] (J ++ [b]) rfl ?p1 (some ⟨wr.heap.size, 0, none⟩) 1 rfl ?p2 ?p3 ?p4 ?p5 ?p6 rfl ?_; (case p1 => exact own_below HO4.out ((Below.refl _ _).alloc (Nat.le_refl _) _)); (case p2 => exact one_txt wr rfl); (case p3 => simp); (case p4 => have := HJl.out; simp; omega); (case p5 => exact HB4.out.alloc HB4.out.size _); (case p6 => exact Nat.le_trans HB4.out.size (by simp)); intro v5 w5 hown5 hb5 hv5; have HO5 := Lib.hid hown5; have HB5 := Lib.hid hb5; clear hown5 hb5 hv5)
            go_roundw
            case rel => exact ⟨k + 1, by omega, congrArg (Value.int .i64) (by have := HI.out; omega), by rw [HX.out]; exact HO5, HB5⟩
            case measure => simp [intOf]
          · obtain rfl : k = m := by omega
            have HI : Hid ((k : Int) - 1 - (k : Int) = -1) := Lib.hid (by omega)
            rw [HI.out]
            rw [show L.reverse.take k = Lib.itoa n from by rw [List.take_of_length_le (by have := HMl.out; rw [List.length_reverse]; omega)]; exact HIt.out] at HO4
            obtain ⟨A5, c5, rfl, ht5, ha5⟩ := own_txt HO4.out
            have hs := text_run wr A5 c5 _ ht5 ha5
            have HBz := Lib.hid (HBo.out.trans (HB4.out.mono HBo.out.size))
            clear HO4 ht5 ha5
            go_wp2
            go_ret
            exact ⟨rfl, HBz.out⟩
    · have hq1 : (m != 0) = true := by simp [hm0]
      have HLen : Hid (l.length ≤ 19) := Lib.hid (by
        have h1 := congrArg List.length HL.out
        rw [List.length_append] at h1
        have h2 := lowZ_19 HN.out
        omega)
      have HJ : Hid ((l ++ [UInt8.ofNat (48 + m.natAbs % 10)]) ++ lowZ (m.tdiv 10).natAbs = lowZ n.natAbs) := Lib.hid (by rw [← HL.out, lowZ_pos m.natAbs (by omega), Int.natAbs_tdiv, List.append_assoc]; rfl)
      have HMq : Hid (-9223372036854775808 ≤ m.tdiv 10 ∧ m.tdiv 10 ≤ 9223372036854775807) := Lib.hid (by have h1 := HM.out; have h2 : (m.tdiv 10).natAbs = m.natAbs / 10 := Int.natAbs_tdiv m 10; omega)
      have HWq : Hid (wrap64 (m.tdiv 10) = m.tdiv 10) := Lib.hid (by have h1 := HMq.out; unfold wrap64; omega)
      have HMs : Hid ((m.tdiv 10).natAbs < m.natAbs) := Lib.hid (by rw [Int.natAbs_tdiv]; exact Nat.div_lt_self (by omega) (by decide))
      have HTm : Hid ((m.tmod 10).natAbs = m.natAbs % 10) := Lib.hid (Int.natAbs_tmod m 10)
      obtain ⟨t, ht⟩ : ∃ t, t = m.tmod 10 := ⟨_, rfl⟩
      by_cases hd : m.tmod 10 < 0
      · have HX : Hid (wrap64 (48 + wrap64 (-m.tmod 10)) % 256 = (((UInt8.ofNat (48 + m.natAbs % 10)).toNat : Nat) : Int)) := Lib.hid (by
          have h1 := HTm.out
          have h2 : wrap64 (-m.tmod 10) = ((m.natAbs % 10 : Nat) : Int) := by unfold wrap64; omega
          rw [h2]
          exact digit_byte _ _ rfl)
        clear ht
        go_wp2_with (refine wpList_append_own_text (o := ⟨some 26, _, _, _, _, _⟩) rfl _ _ rfl rfl w.heap.size w _ l [UInt8.ofNat (48 + m.natAbs % 10)] (l ++ [UInt8.ofNat (48 + m.natAbs % 10)]) rfl ?o1 (some ⟨wr.heap.size, 0, none⟩) 1 rfl ?o2 ?o3 ?o4 ?o5 ?o6 rfl ?_; (case o1 => exact own_below HO.out ((Below.refl _ _).alloc (Nat.le_refl _) _)); (case o2 => exact one_txt wr HX.out); (case o3 => simp); (case o4 => have := HLen.out; simp; omega); (case o5 => exact HB.out.alloc HB.out.size _); (case o6 => exact Nat.le_trans HB.out.size (by simp)); intro v2 w2 hown2 hb2 hv2; have HO2 := Lib.hid hown2; have HB2 := Lib.hid hb2; clear hown2 hb2 hv2)
        go_roundw
        case rel => rw [HWq.out]; exact ⟨_, _, rfl, HMq, HJ, HO2, HB2⟩
        case measure => rw [HWq.out]; exact HMs.out
      · have HX : Hid (wrap64 (48 + m.tmod 10) % 256 = (((UInt8.ofNat (48 + m.natAbs % 10)).toNat : Nat) : Int)) := Lib.hid (by
          have h1 := HTm.out
          have h2 : m.tmod 10 = ((m.natAbs % 10 : Nat) : Int) := by omega
          rw [h2]
          exact digit_byte _ _ rfl)
        clear ht
        go_wp2_with (refine wpList_append_own_text (o := ⟨some 26, _, _, _, _, _⟩) rfl _ _ rfl rfl w.heap.size w _ l [UInt8.ofNat (48 + m.natAbs % 10)] (l ++ [UInt8.ofNat (48 + m.natAbs % 10)]) rfl ?o1 (some ⟨wr.heap.size, 0, none⟩) 1 rfl ?o2 ?o3 ?o4 ?o5 ?o6 rfl ?_; (case o1 => exact own_below HO.out ((Below.refl _ _).alloc (Nat.le_refl _) _)); (case o2 => exact one_txt wr HX.out); (case o3 => simp); (case o4 => have := HLen.out; simp; omega); (case o5 => exact HB.out.alloc HB.out.size _); (case o6 => exact Nat.le_trans HB.out.size (by simp)); intro v2 w2 hown2 hb2 hv2; have HO2 := Lib.hid hown2; have HB2 := Lib.hid hb2; clear hown2 hb2 hv2)
        go_roundw
        case rel => rw [HWq.out]; exact ⟨_, _, rfl, HMq, HJ, HO2, HB2⟩
        case measure => rw [HWq.out]; exact HMs.out
end Go.Proofs.YtaccjfoifkfpfaaDoor
