/- A number's bytes, a text's and a flag's: the document's own. -/
import Derived.Test.YtfppbmendhpjcaaBlobNum
namespace Go.Proofs.Ytfppbmendhpjcaa
open Go.RowKit

theorem own_base {w : World} {B B' : Nat} {v : Value} {n : Nat} {xs : List Value} (h : w.ownsRow B 5 1 v n xs) (hB : B' ≤ B) : w.ownsRow B' 5 1 v n xs := by
  refine ⟨h.1, ?_⟩
  rcases h.2 with h | ⟨g, c, cur, h1, h2, h3⟩
  · exact .inl h
  · exact .inr ⟨g, c, cur, h1, Nat.le_trans hB h2, h3⟩
theorem le_get (k : Nat) : ∀ m i : Nat, i < k → (Blob.le k m)[i]? = some (UInt8.ofNat (m / 256 ^ i % 256)) := by
  induction k with
  | zero => intro m i h; omega
  | succ k ih =>
    intro m i h
    cases i with
    | zero => simp [Blob.le]
    | succ i =>
      have := ih (m / 256) i (by omega)
      simp only [Blob.le, List.getElem?_cons_succ]
      rw [this, Nat.div_div_eq_div_mul, show 256 * 256 ^ i = 256 ^ (i + 1) by rw [Nat.pow_succ, Nat.mul_comm]]

set_option maxRecDepth 100000 in
set_option maxHeartbeats 4000000 in
theorem ref_num_pos (m : Nat) (w : World) (hm : m < 9223372036854775808) :
    Calls Try.prog 44 #[.int .i64 m] w (MadeB w (Blob.numT 0 m)) := by
  have hk8 := Blob.nb_8 m hm
  obtain ⟨K, hK⟩ : ∃ K, K = Blob.nb m := ⟨_, rfl⟩
  have HK := Lib.hid hK
  rw [← hK] at hk8
  have HN : Hid (Blob.numT 0 m = UInt8.ofNat K :: Blob.be K m) := Lib.hid (by unfold Blob.numT; rw [hK, Nat.zero_add])
  clear hK
  have hlt : (m : Int) ≤ 9223372036854775807 := by omega
  have hmin : ((m : Int) == -9223372036854775808) = false := beq_false_of_ne (by omega)
  go_enter Try.func44, Try.ntmps44
  go_wp2
  go_loopw [4, 6] (fun s v wr => ∃ j r : Nat, s = .int .i64 r ∧ r ≤ m ∧ Hid (r = m / 256 ^ j) ∧ Hid (K = j + Blob.nb r) ∧ Hid (wr.ownsRow w.heap.size 5 1 v (Blob.le j m).length ((Blob.le j m).map cellOf)) ∧ Hid (Below w.heap.size w wr)) (fun s _ _ => (intOf s).toNat)
  case atStart => exact ⟨0, m, rfl, Nat.le_refl _, Lib.hid (by simp), Lib.hid (by rw [HK.out]; simp), Lib.hid (World.ownsRow_nil _ _ _ _), Lib.hid (Below.refl _ _)⟩
  case round =>
    obtain ⟨j, r, rfl, hr, HR, HJ, HO, HB⟩ := hrel
    by_cases hp : 0 < r
    · have HS := Lib.hid (Blob.le_snoc j m)
      have HJ2 : Hid (K = (j + 1) + Blob.nb (r / 256)) := Lib.hid (by rw [HJ.out, Blob.nb_step r (by omega) (by omega)]; omega)
      have HR2 : Hid (r / 256 = m / 256 ^ (j + 1)) := Lib.hid (by rw [HR.out, Nat.div_div_eq_div_mul, Nat.pow_succ])
      obtain ⟨b, hb⟩ : ∃ b, b = UInt8.ofNat (m / 256 ^ j % 256) := ⟨_, rfl⟩
      have HX : Hid ((r : Int) % (256 : Int) = (((b.toNat : Nat)) : Int)) := Lib.hid (by rw [hb, ← HR.out, UInt8.toNat_ofNat']; omega)
      have HQ : Hid ((r : Int) / (256 : Int) = ((r / 256 : Nat) : Int)) := Lib.hid (by omega)
      have hjl : j ≤ 8 := by have := HJ.out; omega
      have hl1 : (Blob.le j m).length ≤ 8 := by rw [Blob.le_length]; exact hjl
      obtain ⟨J, hJ⟩ : ∃ J, J = Blob.le j m := ⟨_, rfl⟩
      rw [← hJ] at hl1 HO
      have HJ3 : Hid (J ++ [b] = Blob.le (j + 1) m) := Lib.hid (by rw [HS.out, hJ, hb])
      clear hJ hb HS
      obtain ⟨A1, c1, rfl, _, _⟩ := own_txt HO.out
      go_wp2_with (refine wpList_append_own_text (o := ⟨some 23, _, _, _, _, _⟩) rfl _ _ rfl rfl w.heap.size w _ J [b] (J ++ [b]) rfl ?o1 (some ⟨wr.heap.size, 0, none⟩) 1 rfl ?o2 ?o3 ?o4 ?o5 ?o6 rfl ?_; (case o1 => exact own_below HO.out ((Below.refl _ _).alloc (Nat.le_refl _) _)); (case o2 => exact one_txt wr HX.out); (case o3 => simp); (case o4 => simp; omega); (case o5 => exact HB.out.alloc HB.out.size _); (case o6 => exact Nat.le_trans HB.out.size (by simp)); intro v2 w2 hown2 hb2 hv2; have HO2 := Lib.hid hown2; have HB2 := Lib.hid hb2; clear hown2 hb2 hv2)
      go_roundw
      case rel => exact ⟨j + 1, r / 256, by rw [HQ.out], by omega, HR2, HJ2, by rw [← HJ3.out]; exact HO2, HB2⟩
      case measure => simp [intOf]; omega
    · obtain rfl : r = 0 := by omega
      have hj : j = K := by have := HJ.out; rw [Blob.nb_zero] at this; omega
      subst hj
      obtain ⟨A1, c1, rfl, ht1, hn1⟩ := own_txt HO.out
      have HT1 := Lib.hid ht1
      have HL : Hid ((Blob.le j m).length = j) := Lib.hid (Blob.le_length j m)
      rw [HL.out]
      clear HR HJ hr hp HK ht1 hn1
      have hj8 : (j : Int) ≤ 8 := by omega
      rw [Int.natCast_zero]
      go_wp2
      obtain ⟨wo, rfl⟩ : ∃ wo : World, wo = wr := ⟨_, rfl⟩
      go_loopw [7, 8] (fun v i wr => ∃ k : Nat, k ≤ j ∧ i = .int .i64 ((j : Int) - 1 - (k : Int)) ∧ Hid (wr.ownsRow wo.heap.size 5 1 v (UInt8.ofNat j :: (Blob.be j m).take k).length ((UInt8.ofNat j :: (Blob.be j m).take k).map cellOf)) ∧ Hid (Below wo.heap.size wo wr) ∧ Hid (v.ownBlock ≠ none)) (fun _ i _ => (intOf i + 1).toNat)
      case atStart => exact ⟨0, Nat.zero_le _, by simp, Lib.hid (by rw [List.take_zero]; exact one_own wo (by rw [UInt8.toNat_ofNat']; omega)), Lib.hid ((Below.refl _ _).alloc (Nat.le_refl _) _), Lib.hid (by simp [Value.ownBlock])⟩
      case round =>
        obtain ⟨k, hk, rfl, HO3, HB3, HV3⟩ := hrel
        by_cases hlt : k < j
        · have HS := Lib.hid (Blob.be_take m k j hlt)
          obtain ⟨d, hd⟩ : ∃ d : Nat, j = d + k + 1 := ⟨j - k - 1, by omega⟩
          have HI : Hid ((j : Int) - 1 - (k : Int) = (d : Int)) := Lib.hid (by omega)
          have hd8 : (d : Int) < (j : Int) := by omega
          have HD : Hid (j - 1 - k = d) := Lib.hid (by omega)
          rw [HI.out]
          have hl1 : (UInt8.ofNat j :: (Blob.be j m).take k).length ≤ 9 := by rw [List.length_cons, List.length_take]; omega
          obtain ⟨J, hJ⟩ : ∃ J, J = UInt8.ofNat j :: (Blob.be j m).take k := ⟨_, rfl⟩
          rw [← hJ] at hl1 HO3
          have HJ := Lib.hid hJ
          obtain ⟨b, hb⟩ : ∃ b, b = UInt8.ofNat (m / 256 ^ d % 256) := ⟨_, rfl⟩
          have hcell : ∃ a, A1 = some a ∧ wr.cell? (a.add d) = some (.int .u8 ((b.toNat : Nat) : Int)) := by
            obtain ⟨a, e, _, hc⟩ := (HT1.out.below HB3.out).at_ (k := d) (by rw [HL.out]; omega)
            refine ⟨a, e, ?_⟩
            rw [hc]
            have h1 := le_get j m d (by omega)
            rw [List.getElem?_eq_getElem (by rw [HL.out]; omega)] at h1
            rw [Option.some.inj h1, hb]
          obtain ⟨a1, rfl, hc1⟩ := hcell
          obtain ⟨g, c, rfl, hg⟩ := own_form HO3.out HV3.out
          have HJ2 : Hid (J ++ [b] = UInt8.ofNat j :: (Blob.be j m).take (k + 1)) := Lib.hid (by rw [HJ.out, HS.out, HD.out, hb]; rfl)
          clear hJ hd hb
          go_wp2_with (refine wpList_append_own_text (o := ⟨some 45, _, _, _, _, _⟩) rfl _ _ rfl rfl wo.heap.size wo _ J [b] (J ++ [b]) rfl ?p1 (some ⟨wr.heap.size, 0, none⟩) 1 rfl ?p2 ?p3 ?p4 ?p5 ?p6 rfl ?_; (case p1 => exact own_below HO3.out ((Below.refl _ _).alloc (Nat.le_refl _) _)); (case p2 => exact one_txt wr rfl); (case p3 => simp); (case p4 => simp; omega); (case p5 => exact HB3.out.alloc HB3.out.size _); (case p6 => exact Nat.le_trans HB3.out.size (by simp)); intro v2 w2 hown2 hb2 hv2; have HO2 := Lib.hid hown2; have HB2 := Lib.hid hb2; have HV2 := Lib.hid (hv2 HV3.out); clear hown2 hb2 hv2)
          go_roundw
          case rel => exact ⟨k + 1, by omega, congrArg (Value.int .i64) (by have := HI.out; omega), by rw [← HJ2.out]; exact HO2, HB2, HV2⟩
          case measure => simp [intOf]
        · obtain rfl : k = j := by omega
          have HE : Hid (UInt8.ofNat k :: (Blob.be k m).take k = Blob.numT 0 m) := Lib.hid (by rw [HN.out, List.take_of_length_le (by rw [Blob.be_length]; omega)])
          rw [HE.out] at HO3
          obtain ⟨g, c, rfl, hg⟩ := own_form HO3.out HV3.out
          go_wp2
          go_ret2
          exact ⟨g, c, rfl, own_base HO3.out HB.out.size, HB.out.trans (HB3.out.mono HB.out.size)⟩

set_option maxRecDepth 100000 in
set_option maxHeartbeats 4000000 in
theorem ref_num_neg (m : Nat) (w : World) (h0 : 0 < m) (hm : m < 9223372036854775808) :
    Calls Try.prog 44 #[.int .i64 (-(m : Int))] w (MadeB w (Blob.numT 128 m)) := by
  have hk8 := Blob.nb_8 m hm
  obtain ⟨K, hK⟩ : ∃ K, K = Blob.nb m := ⟨_, rfl⟩
  have HK := Lib.hid hK
  rw [← hK] at hk8
  have HN : Hid (Blob.numT 128 m = UInt8.ofNat (128 + K) :: Blob.be K m) := Lib.hid (by unfold Blob.numT; rw [hK])
  clear hK
  have hlt : (m : Int) ≤ 9223372036854775807 := by omega
  have hmin : (-(m : Int) == -9223372036854775808) = false := beq_false_of_ne (by omega)
  have hneg : -(m : Int) < 0 := by omega
  have hlo : -9223372036854775807 ≤ -(m : Int) := by omega
  go_enter Try.func44, Try.ntmps44
  go_wp2
  go_loopw [4, 6] (fun s v wr => ∃ j r : Nat, s = .int .i64 r ∧ r ≤ m ∧ Hid (r = m / 256 ^ j) ∧ Hid (K = j + Blob.nb r) ∧ Hid (wr.ownsRow w.heap.size 5 1 v (Blob.le j m).length ((Blob.le j m).map cellOf)) ∧ Hid (Below w.heap.size w wr)) (fun s _ _ => (intOf s).toNat)
  case atStart => exact ⟨0, m, rfl, Nat.le_refl _, Lib.hid (by simp), Lib.hid (by rw [HK.out]; simp), Lib.hid (World.ownsRow_nil _ _ _ _), Lib.hid (Below.refl _ _)⟩
  case round =>
    obtain ⟨j, r, rfl, hr, HR, HJ, HO, HB⟩ := hrel
    by_cases hp : 0 < r
    · have HS := Lib.hid (Blob.le_snoc j m)
      have HJ2 : Hid (K = (j + 1) + Blob.nb (r / 256)) := Lib.hid (by rw [HJ.out, Blob.nb_step r (by omega) (by omega)]; omega)
      have HR2 : Hid (r / 256 = m / 256 ^ (j + 1)) := Lib.hid (by rw [HR.out, Nat.div_div_eq_div_mul, Nat.pow_succ])
      obtain ⟨b, hb⟩ : ∃ b, b = UInt8.ofNat (m / 256 ^ j % 256) := ⟨_, rfl⟩
      have HX : Hid ((r : Int) % (256 : Int) = (((b.toNat : Nat)) : Int)) := Lib.hid (by rw [hb, ← HR.out, UInt8.toNat_ofNat']; omega)
      have HQ : Hid ((r : Int) / (256 : Int) = ((r / 256 : Nat) : Int)) := Lib.hid (by omega)
      have hjl : j ≤ 8 := by have := HJ.out; omega
      have hl1 : (Blob.le j m).length ≤ 8 := by rw [Blob.le_length]; exact hjl
      obtain ⟨J, hJ⟩ : ∃ J, J = Blob.le j m := ⟨_, rfl⟩
      rw [← hJ] at hl1 HO
      have HJ3 : Hid (J ++ [b] = Blob.le (j + 1) m) := Lib.hid (by rw [HS.out, hJ, hb])
      clear hJ hb HS
      obtain ⟨A1, c1, rfl, _, _⟩ := own_txt HO.out
      go_wp2_with (refine wpList_append_own_text (o := ⟨some 23, _, _, _, _, _⟩) rfl _ _ rfl rfl w.heap.size w _ J [b] (J ++ [b]) rfl ?o1 (some ⟨wr.heap.size, 0, none⟩) 1 rfl ?o2 ?o3 ?o4 ?o5 ?o6 rfl ?_; (case o1 => exact own_below HO.out ((Below.refl _ _).alloc (Nat.le_refl _) _)); (case o2 => exact one_txt wr HX.out); (case o3 => simp); (case o4 => simp; omega); (case o5 => exact HB.out.alloc HB.out.size _); (case o6 => exact Nat.le_trans HB.out.size (by simp)); intro v2 w2 hown2 hb2 hv2; have HO2 := Lib.hid hown2; have HB2 := Lib.hid hb2; clear hown2 hb2 hv2)
      go_roundw
      case rel => exact ⟨j + 1, r / 256, by rw [HQ.out], by omega, HR2, HJ2, by rw [← HJ3.out]; exact HO2, HB2⟩
      case measure => simp [intOf]; omega
    · obtain rfl : r = 0 := by omega
      have hj : j = K := by have := HJ.out; rw [Blob.nb_zero] at this; omega
      subst hj
      obtain ⟨A1, c1, rfl, ht1, hn1⟩ := own_txt HO.out
      have HT1 := Lib.hid ht1
      have HL : Hid ((Blob.le j m).length = j) := Lib.hid (Blob.le_length j m)
      rw [HL.out]
      clear HR HJ hr hp HK ht1 hn1
      have hj8 : (j : Int) ≤ 8 := by omega
      rw [Int.natCast_zero]
      go_wp2
      obtain ⟨wo, rfl⟩ : ∃ wo : World, wo = wr := ⟨_, rfl⟩
      go_loopw [7, 8] (fun v i wr => ∃ k : Nat, k ≤ j ∧ i = .int .i64 ((j : Int) - 1 - (k : Int)) ∧ Hid (wr.ownsRow wo.heap.size 5 1 v (UInt8.ofNat (128 + j) :: (Blob.be j m).take k).length ((UInt8.ofNat (128 + j) :: (Blob.be j m).take k).map cellOf)) ∧ Hid (Below wo.heap.size wo wr) ∧ Hid (v.ownBlock ≠ none)) (fun _ i _ => (intOf i + 1).toNat)
      case atStart => exact ⟨0, Nat.zero_le _, by simp, Lib.hid (by rw [List.take_zero]; exact one_own wo (by rw [UInt8.toNat_ofNat']; omega)), Lib.hid ((Below.refl _ _).alloc (Nat.le_refl _) _), Lib.hid (by simp [Value.ownBlock])⟩
      case round =>
        obtain ⟨k, hk, rfl, HO3, HB3, HV3⟩ := hrel
        by_cases hlt : k < j
        · have HS := Lib.hid (Blob.be_take m k j hlt)
          obtain ⟨d, hd⟩ : ∃ d : Nat, j = d + k + 1 := ⟨j - k - 1, by omega⟩
          have HI : Hid ((j : Int) - 1 - (k : Int) = (d : Int)) := Lib.hid (by omega)
          have hd8 : (d : Int) < (j : Int) := by omega
          have HD : Hid (j - 1 - k = d) := Lib.hid (by omega)
          rw [HI.out]
          have hl1 : (UInt8.ofNat (128 + j) :: (Blob.be j m).take k).length ≤ 9 := by rw [List.length_cons, List.length_take]; omega
          obtain ⟨J, hJ⟩ : ∃ J, J = UInt8.ofNat (128 + j) :: (Blob.be j m).take k := ⟨_, rfl⟩
          rw [← hJ] at hl1 HO3
          have HJ := Lib.hid hJ
          obtain ⟨b, hb⟩ : ∃ b, b = UInt8.ofNat (m / 256 ^ d % 256) := ⟨_, rfl⟩
          have hcell : ∃ a, A1 = some a ∧ wr.cell? (a.add d) = some (.int .u8 ((b.toNat : Nat) : Int)) := by
            obtain ⟨a, e, _, hc⟩ := (HT1.out.below HB3.out).at_ (k := d) (by rw [HL.out]; omega)
            refine ⟨a, e, ?_⟩
            rw [hc]
            have h1 := le_get j m d (by omega)
            rw [List.getElem?_eq_getElem (by rw [HL.out]; omega)] at h1
            rw [Option.some.inj h1, hb]
          obtain ⟨a1, rfl, hc1⟩ := hcell
          obtain ⟨g, c, rfl, hg⟩ := own_form HO3.out HV3.out
          have HJ2 : Hid (J ++ [b] = UInt8.ofNat (128 + j) :: (Blob.be j m).take (k + 1)) := Lib.hid (by rw [HJ.out, HS.out, HD.out, hb]; rfl)
          clear hJ hd hb
          go_wp2_with (refine wpList_append_own_text (o := ⟨some 45, _, _, _, _, _⟩) rfl _ _ rfl rfl wo.heap.size wo _ J [b] (J ++ [b]) rfl ?p1 (some ⟨wr.heap.size, 0, none⟩) 1 rfl ?p2 ?p3 ?p4 ?p5 ?p6 rfl ?_; (case p1 => exact own_below HO3.out ((Below.refl _ _).alloc (Nat.le_refl _) _)); (case p2 => exact one_txt wr rfl); (case p3 => simp); (case p4 => simp; omega); (case p5 => exact HB3.out.alloc HB3.out.size _); (case p6 => exact Nat.le_trans HB3.out.size (by simp)); intro v2 w2 hown2 hb2 hv2; have HO2 := Lib.hid hown2; have HB2 := Lib.hid hb2; have HV2 := Lib.hid (hv2 HV3.out); clear hown2 hb2 hv2)
          go_roundw
          case rel => exact ⟨k + 1, by omega, congrArg (Value.int .i64) (by have := HI.out; omega), by rw [← HJ2.out]; exact HO2, HB2, HV2⟩
          case measure => simp [intOf]
        · obtain rfl : k = j := by omega
          have HE : Hid (UInt8.ofNat (128 + k) :: (Blob.be k m).take k = Blob.numT 128 m) := Lib.hid (by rw [HN.out, List.take_of_length_le (by rw [Blob.be_length]; omega)])
          rw [HE.out] at HO3
          obtain ⟨g, c, rfl, hg⟩ := own_form HO3.out HV3.out
          go_wp2
          go_ret2
          exact ⟨g, c, rfl, own_base HO3.out HB.out.size, HB.out.trans (HB3.out.mono HB.out.size)⟩

set_option maxHeartbeats 400000 in
theorem ref_num_min (w : World) : Calls Try.prog 44 #[.int .i64 (-9223372036854775808)] w fun e w' => e = .returned (.tuple #[.slice none 0 0, .bool false]) ∧ w = w' := by
  go_enter Try.func44, Try.ntmps44
  go_wp2
  go_ret2
  exact ⟨rfl, rfl⟩
end Go.Proofs.Ytfppbmendhpjcaa
