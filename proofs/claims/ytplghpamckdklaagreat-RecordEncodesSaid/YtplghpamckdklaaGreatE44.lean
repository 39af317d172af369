/- A number's bytes: the document's own. A text's bytes and a flag's: the document's own. Bytes behind bytes: the document's. -/
import Derived.Test.YtplghpamckdklaaGreatE10
import Derived.Test.YtplghpamckdklaaGreatE1
import Derived.Test.YtplghpamckdklaaGreatE16
import Derived.WalkMore
namespace Go.Proofs.YtplghpamckdklaaGreat
open Go.RowKit
set_option maxRecDepth 100000

set_option maxRecDepth 100000 in
set_option maxHeartbeats 4000000 in
theorem ref_num_pos (m : Nat) (w : World) (hm : m < 9223372036854775808) :
 Calls Tryz.prog 70 #[.int .i64 m] w (MadeB w (Blob.numT 0 m)) := by
 have hk8 := Blob.nb_8 m hm
 obtain ⟨K, hK⟩ : ∃ K, K = Blob.nb m := ⟨_, rfl⟩
 have HK := Lib.hid hK
 rw [← hK] at hk8
 have HN : Hid (Blob.numT 0 m = UInt8.ofNat K :: Blob.be K m) := Lib.hid (by unfold Blob.numT; rw [hK, Nat.zero_add])
 clear hK
 have hlt : (m : Int) ≤ 9223372036854775807 := by omega
 have hmin : ((m : Int) == -9223372036854775808) = false := beq_false_of_ne (by omega)
 go_enter Tryz.func70, Tryz.ntmps70
 go_wp2
 go_loopw [4, 6] (fun s v wr => ∃ j r : Nat, s = .int .i64 r ∧ r ≤ m ∧ Hid (r = m / 256 ^ j) ∧ Hid (K = j + Blob.nb r) ∧ Hid (wr.ownsRow w.heap.size 5 1 v (Blob.le j m).length ((Blob.le j m).map cellOf)) ∧ Hid (Below w.heap.size w wr)) (fun s _ _ => (intOf s).toNat)
 case atStart => exact ⟨0, m, rfl, Nat.le_refl _, Lib.hid (by simp), Lib.hid (by rw [HK.out]; simp), Lib.hid (World.ownsRow_nil _ _ _ _), Lib.hid (Below.refl _ _)⟩
 case round =>
  obtain ⟨j, r, rfl, hr, HR, HJ, HO, HB⟩ := hrel
  by_cases hp : 0 < r
  · have HS := Lib.hid (Blob.le_snoc j m)
    have HJ2 : Hid (K = (j + 1) + Blob.nb (r / 256)) := Lib.hid (by rw [HJ.out, Blob.nb_step r (by omega) (by omega)]; omega)
    have HR2 : Hid (r / 256 = m / 256 ^ (j + 1)) := Lib.hid (by rw [HR.out, Nat.div_div_eq_div_mul, Nat.pow_succ])
    obtain ⟨b, hb⟩ : ∃ b, b = UInt8.ofNat (m / 256 ^ j % 256) := ⟨_, rfl⟩
    have HX : Hid ((r : Int) % (256 : Int) = (((b.toNat : Nat)) : Int)) := Lib.hid (by rw [hb, ← HR.out, UInt8.toNat_ofNat']; omega)
    have HQ : Hid ((r : Int) / (256 : Int) = ((r / 256 : Nat) : Int)) := Lib.hid (by omega)
    have hjl : j ≤ 8 := by have := HJ.out; omega
    have hl1 : (Blob.le j m).length ≤ 8 := by rw [Blob.le_length]; exact hjl
    obtain ⟨J, hJ⟩ : ∃ J, J = Blob.le j m := ⟨_, rfl⟩
    rw [← hJ] at hl1 HO
    have HJ3 : Hid (J ++ [b] = Blob.le (j + 1) m) := Lib.hid (by rw [HS.out, hJ, hb])
    clear hJ hb HS
    obtain ⟨A1, c1, rfl, _, _⟩ := own_txt HO.out
    go_wp2_with (refine wpList_append_own_text (o := ⟨some 23, _, _, _, _, _⟩) rfl _ _ rfl rfl w.heap.size w _ J [b] (J ++ [b]) rfl ?o1 (some ⟨wr.heap.size, 0, none⟩) 1 rfl ?o2 ?o3 ?o4 ?o5 ?o6 rfl ?_; (case o1 => exact own_below HO.out ((Below.refl _ _).alloc (Nat.le_refl _) _)); (case o2 => exact one_txt wr HX.out); (case o3 => simp); (case o4 => simp; omega); (case o5 => exact HB.out.alloc HB.out.size _); (case o6 => exact Nat.le_trans HB.out.size (by simp)); intro v2 w2 hown2 hb2 hv2; have HO2 := Lib.hid hown2; have HB2 := Lib.hid hb2; clear hown2 hb2 hv2)
    go_roundw
    case rel => exact ⟨j + 1, r / 256, by rw [HQ.out], by omega, HR2, HJ2, by rw [← HJ3.out]; exact HO2, HB2⟩
    case measure => simp [intOf]; omega
  · obtain rfl : r = 0 := by omega
    have hj : j = K := by have := HJ.out; rw [Blob.nb_zero] at this; omega
    subst hj
    obtain ⟨A1, c1, rfl, ht1, hn1⟩ := own_txt HO.out
    have HT1 := Lib.hid ht1
    have HL : Hid ((Blob.le j m).length = j) := Lib.hid (Blob.le_length j m)
    rw [HL.out]
    clear HR HJ hr hp HK ht1 hn1
    have hj8 : (j : Int) ≤ 8 := by omega
    rw [Int.natCast_zero]
    go_wp2
    obtain ⟨wo, rfl⟩ : ∃ wo : World, wo = wr := ⟨_, rfl⟩
    go_loopw [7, 8] (fun v i wr => ∃ k : Nat, k ≤ j ∧ i = .int .i64 ((j : Int) - 1 - (k : Int)) ∧ Hid (wr.ownsRow wo.heap.size 5 1 v (UInt8.ofNat j :: (Blob.be j m).take k).length ((UInt8.ofNat j :: (Blob.be j m).take k).map cellOf)) ∧ Hid (Below wo.heap.size wo wr) ∧ Hid (v.ownBlock ≠ none)) (fun _ i _ => (intOf i + 1).toNat)
    case atStart => exact ⟨0, Nat.zero_le _, by simp, Lib.hid (by rw [List.take_zero]; exact one_own wo (by rw [UInt8.toNat_ofNat']; omega)), Lib.hid ((Below.refl _ _).alloc (Nat.le_refl _) _), Lib.hid (by simp [Value.ownBlock])⟩
    case round =>
     obtain ⟨k, hk, rfl, HO3, HB3, HV3⟩ := hrel
     by_cases hlt : k < j
     · have HS := Lib.hid (Blob.be_take m k j hlt)
       obtain ⟨d, hd⟩ : ∃ d : Nat, j = d + k + 1 := ⟨j - k - 1, by omega⟩
       have HI : Hid ((j : Int) - 1 - (k : Int) = (d : Int)) := Lib.hid (by omega)
       have hd8 : (d : Int) < (j : Int) := by omega
       have HD : Hid (j - 1 - k = d) := Lib.hid (by omega)
       rw [HI.out]
       have hl1 : (UInt8.ofNat j :: (Blob.be j m).take k).length ≤ 9 := by rw [List.length_cons, List.length_take]; omega
       obtain ⟨J, hJ⟩ : ∃ J, J = UInt8.ofNat j :: (Blob.be j m).take k := ⟨_, rfl⟩
       rw [← hJ] at hl1 HO3
       have HJ := Lib.hid hJ
       obtain ⟨b, hb⟩ : ∃ b, b = UInt8.ofNat (m / 256 ^ d % 256) := ⟨_, rfl⟩
       have hcell : ∃ a, A1 = some a ∧ wr.cell? (a.add d) = some (.int .u8 ((b.toNat : Nat) : Int)) := by
        obtain ⟨a, e, _, hc⟩ := (HT1.out.below HB3.out).at_ (k := d) (by rw [HL.out]; omega)
        refine ⟨a, e, ?_⟩
        rw [hc]
        have h1 := le_get j m d (by omega)
        rw [List.getElem?_eq_getElem (by rw [HL.out]; omega)] at h1
        rw [Option.some.inj h1, hb]
       obtain ⟨a1, rfl, hc1⟩ := hcell
       obtain ⟨g, c, rfl, hg⟩ := own_form HO3.out HV3.out
       have HJ2 : Hid (J ++ [b] = UInt8.ofNat j :: (Blob.be j m).take (k + 1)) := Lib.hid (by rw [HJ.out, HS.out, HD.out, hb]; rfl)
       clear hJ hd hb
       go_wp2_with (refine wpList_append_own_text (o := ⟨some 45, _, _, _, _, _⟩) rfl _ _ rfl rfl wo.heap.size wo _ J [b] (J ++ [b]) rfl ?p1 (some ⟨wr.heap.size, 0, none⟩) 1 rfl ?p2 ?p3 ?p4 ?p5 ?p6 rfl ?_; (case p1 => exact own_below HO3.out ((Below.refl _ _).alloc (Nat.le_refl _) _)); (case p2 => exact one_txt wr rfl); (case p3 => simp); (case p4 => simp; omega); (case p5 => exact HB3.out.alloc HB3.out.size _); (case p6 => exact Nat.le_trans HB3.out.size (by simp)); intro v2 w2 hown2 hb2 hv2; have HO2 := Lib.hid hown2; have HB2 := Lib.hid hb2; have HV2 := Lib.hid (hv2 HV3.out); clear hown2 hb2 hv2)
       go_roundw
       case rel => exact ⟨k + 1, by omega, congrArg (Value.int .i64) (by have := HI.out; omega), by rw [← HJ2.out]; exact HO2, HB2, HV2⟩
       case measure => simp [intOf]
     · obtain rfl : k = j := by omega
       have HE : Hid (UInt8.ofNat k :: (Blob.be k m).take k = Blob.numT 0 m) := Lib.hid (by rw [HN.out, List.take_of_length_le (by rw [Blob.be_length]; omega)])
       rw [HE.out] at HO3
       obtain ⟨g, c, rfl, hg⟩ := own_form HO3.out HV3.out
       go_wp2
       go_ret2
       exact ⟨g, c, rfl, own_base HO3.out HB.out.size, HB.out.trans (HB3.out.mono HB.out.size)⟩

set_option maxRecDepth 100000 in
set_option maxHeartbeats 4000000 in
theorem ref_num_neg (m : Nat) (w : World) (h0 : 0 < m) (hm : m < 9223372036854775808) :
 Calls Tryz.prog 70 #[.int .i64 (-(m : Int))] w (MadeB w (Blob.numT 128 m)) := by
 have hk8 := Blob.nb_8 m hm
 obtain ⟨K, hK⟩ : ∃ K, K = Blob.nb m := ⟨_, rfl⟩
 have HK := Lib.hid hK
 rw [← hK] at hk8
 have HN : Hid (Blob.numT 128 m = UInt8.ofNat (128 + K) :: Blob.be K m) := Lib.hid (by unfold Blob.numT; rw [hK])
 clear hK
 have hlt : (m : Int) ≤ 9223372036854775807 := by omega
 have hmin : (-(m : Int) == -9223372036854775808) = false := beq_false_of_ne (by omega)
 have hneg : -(m : Int) < 0 := by omega
 have hlo : -9223372036854775807 ≤ -(m : Int) := by omega
 go_enter Tryz.func70, Tryz.ntmps70
 go_wp2
 go_loopw [4, 6] (fun s v wr => ∃ j r : Nat, s = .int .i64 r ∧ r ≤ m ∧ Hid (r = m / 256 ^ j) ∧ Hid (K = j + Blob.nb r) ∧ Hid (wr.ownsRow w.heap.size 5 1 v (Blob.le j m).length ((Blob.le j m).map cellOf)) ∧ Hid (Below w.heap.size w wr)) (fun s _ _ => (intOf s).toNat)
 case atStart => exact ⟨0, m, rfl, Nat.le_refl _, Lib.hid (by simp), Lib.hid (by rw [HK.out]; simp), Lib.hid (World.ownsRow_nil _ _ _ _), Lib.hid (Below.refl _ _)⟩
 case round =>
  obtain ⟨j, r, rfl, hr, HR, HJ, HO, HB⟩ := hrel
  by_cases hp : 0 < r
  · have HS := Lib.hid (Blob.le_snoc j m)
    have HJ2 : Hid (K = (j + 1) + Blob.nb (r / 256)) := Lib.hid (by rw [HJ.out, Blob.nb_step r (by omega) (by omega)]; omega)
    have HR2 : Hid (r / 256 = m / 256 ^ (j + 1)) := Lib.hid (by rw [HR.out, Nat.div_div_eq_div_mul, Nat.pow_succ])
    obtain ⟨b, hb⟩ : ∃ b, b = UInt8.ofNat (m / 256 ^ j % 256) := ⟨_, rfl⟩
    have HX : Hid ((r : Int) % (256 : Int) = (((b.toNat : Nat)) : Int)) := Lib.hid (by rw [hb, ← HR.out, UInt8.toNat_ofNat']; omega)
    have HQ : Hid ((r : Int) / (256 : Int) = ((r / 256 : Nat) : Int)) := Lib.hid (by omega)
    have hjl : j ≤ 8 := by have := HJ.out; omega
    have hl1 : (Blob.le j m).length ≤ 8 := by rw [Blob.le_length]; exact hjl
    obtain ⟨J, hJ⟩ : ∃ J, J = Blob.le j m := ⟨_, rfl⟩
    rw [← hJ] at hl1 HO
    have HJ3 : Hid (J ++ [b] = Blob.le (j + 1) m) := Lib.hid (by rw [HS.out, hJ, hb])
    clear hJ hb HS
    obtain ⟨A1, c1, rfl, _, _⟩ := own_txt HO.out
    go_wp2_with (refine wpList_append_own_text (o := ⟨some 23, _, _, _, _, _⟩) rfl _ _ rfl rfl w.heap.size w _ J [b] (J ++ [b]) rfl ?o1 (some ⟨wr.heap.size, 0, none⟩) 1 rfl ?o2 ?o3 ?o4 ?o5 ?o6 rfl ?_; (case o1 => exact own_below HO.out ((Below.refl _ _).alloc (Nat.le_refl _) _)); (case o2 => exact one_txt wr HX.out); (case o3 => simp); (case o4 => simp; omega); (case o5 => exact HB.out.alloc HB.out.size _); (case o6 => exact Nat.le_trans HB.out.size (by simp)); intro v2 w2 hown2 hb2 hv2; have HO2 := Lib.hid hown2; have HB2 := Lib.hid hb2; clear hown2 hb2 hv2)
    go_roundw
    case rel => exact ⟨j + 1, r / 256, by rw [HQ.out], by omega, HR2, HJ2, by rw [← HJ3.out]; exact HO2, HB2⟩
    case measure => simp [intOf]; omega
  · obtain rfl : r = 0 := by omega
    have hj : j = K := by have := HJ.out; rw [Blob.nb_zero] at this; omega
    subst hj
    obtain ⟨A1, c1, rfl, ht1, hn1⟩ := own_txt HO.out
    have HT1 := Lib.hid ht1
    have HL : Hid ((Blob.le j m).length = j) := Lib.hid (Blob.le_length j m)
    rw [HL.out]
    clear HR HJ hr hp HK ht1 hn1
    have hj8 : (j : Int) ≤ 8 := by omega
    rw [Int.natCast_zero]
    go_wp2
    obtain ⟨wo, rfl⟩ : ∃ wo : World, wo = wr := ⟨_, rfl⟩
    go_loopw [7, 8] (fun v i wr => ∃ k : Nat, k ≤ j ∧ i = .int .i64 ((j : Int) - 1 - (k : Int)) ∧ Hid (wr.ownsRow wo.heap.size 5 1 v (UInt8.ofNat (128 + j) :: (Blob.be j m).take k).length ((UInt8.ofNat (128 + j) :: (Blob.be j m).take k).map cellOf)) ∧ Hid (Below wo.heap.size wo wr) ∧ Hid (v.ownBlock ≠ none)) (fun _ i _ => (intOf i + 1).toNat)
    case atStart => exact ⟨0, Nat.zero_le _, by simp, Lib.hid (by rw [List.take_zero]; exact one_own wo (by rw [UInt8.toNat_ofNat']; omega)), Lib.hid ((Below.refl _ _).alloc (Nat.le_refl _) _), Lib.hid (by simp [Value.ownBlock])⟩
    case round =>
     obtain ⟨k, hk, rfl, HO3, HB3, HV3⟩ := hrel
     by_cases hlt : k < j
     · have HS := Lib.hid (Blob.be_take m k j hlt)
       obtain ⟨d, hd⟩ : ∃ d : Nat, j = d + k + 1 := ⟨j - k - 1, by omega⟩
       have HI : Hid ((j : Int) - 1 - (k : Int) = (d : Int)) := Lib.hid (by omega)
       have hd8 : (d : Int) < (j : Int) := by omega
       have HD : Hid (j - 1 - k = d) := Lib.hid (by omega)
       rw [HI.out]
       have hl1 : (UInt8.ofNat (128 + j) :: (Blob.be j m).take k).length ≤ 9 := by rw [List.length_cons, List.length_take]; omega
       obtain ⟨J, hJ⟩ : ∃ J, J = UInt8.ofNat (128 + j) :: (Blob.be j m).take k := ⟨_, rfl⟩
       rw [← hJ] at hl1 HO3
       have HJ := Lib.hid hJ
       obtain ⟨b, hb⟩ : ∃ b, b = UInt8.ofNat (m / 256 ^ d % 256) := ⟨_, rfl⟩
       have hcell : ∃ a, A1 = some a ∧ wr.cell? (a.add d) = some (.int .u8 ((b.toNat : Nat) : Int)) := by
        obtain ⟨a, e, _, hc⟩ := (HT1.out.below HB3.out).at_ (k := d) (by rw [HL.out]; omega)
        refine ⟨a, e, ?_⟩
        rw [hc]
        have h1 := le_get j m d (by omega)
        rw [List.getElem?_eq_getElem (by rw [HL.out]; omega)] at h1
        rw [Option.some.inj h1, hb]
       obtain ⟨a1, rfl, hc1⟩ := hcell
       obtain ⟨g, c, rfl, hg⟩ := own_form HO3.out HV3.out
       have HJ2 : Hid (J ++ [b] = UInt8.ofNat (128 + j) :: (Blob.be j m).take (k + 1)) := Lib.hid (by rw [HJ.out, HS.out, HD.out, hb]; rfl)
       clear hJ hd hb
       go_wp2_with (refine wpList_append_own_text (o := ⟨some 45, _, _, _, _, _⟩) rfl _ _ rfl rfl wo.heap.size wo _ J [b] (J ++ [b]) rfl ?p1 (some ⟨wr.heap.size, 0, none⟩) 1 rfl ?p2 ?p3 ?p4 ?p5 ?p6 rfl ?_; (case p1 => exact own_below HO3.out ((Below.refl _ _).alloc (Nat.le_refl _) _)); (case p2 => exact one_txt wr rfl); (case p3 => simp); (case p4 => simp; omega); (case p5 => exact HB3.out.alloc HB3.out.size _); (case p6 => exact Nat.le_trans HB3.out.size (by simp)); intro v2 w2 hown2 hb2 hv2; have HO2 := Lib.hid hown2; have HB2 := Lib.hid hb2; have HV2 := Lib.hid (hv2 HV3.out); clear hown2 hb2 hv2)
       go_roundw
       case rel => exact ⟨k + 1, by omega, congrArg (Value.int .i64) (by have := HI.out; omega), by rw [← HJ2.out]; exact HO2, HB2, HV2⟩
       case measure => simp [intOf]
     · obtain rfl : k = j := by omega
       have HE : Hid (UInt8.ofNat (128 + k) :: (Blob.be k m).take k = Blob.numT 128 m) := Lib.hid (by rw [HN.out, List.take_of_length_le (by rw [Blob.be_length]; omega)])
       rw [HE.out] at HO3
       obtain ⟨g, c, rfl, hg⟩ := own_form HO3.out HV3.out
       go_wp2
       go_ret2
       exact ⟨g, c, rfl, own_base HO3.out HB.out.size, HB.out.trans (HB3.out.mono HB.out.size)⟩

set_option maxHeartbeats 400000 in
theorem ref_num_min (w : World) : Calls Tryz.prog 70 #[.int .i64 (-9223372036854775808)] w fun e w' => e = .returned (.tuple #[.slice none 0 0, .bool false]) ∧ w = w' := by
 go_enter Tryz.func70, Tryz.ntmps70
 go_wp2
 go_ret2
 exact ⟨rfl, rfl⟩
end Go.Proofs.YtplghpamckdklaaGreat

namespace Go.Proofs.YtplghpamckdklaaGreat
open Go.RowKit
set_option maxRecDepth 100000

set_option maxHeartbeats 1000000 in
theorem ref_text (s : ByteArray) (w : World) (hs : s.size ≤ 65536) :
 Calls Tryz.prog 71 #[.string s] w (MadeB w (textT s)) := by
 have hsz : ((s.size : Nat) : Int) ≤ 65536 := by omega
 have hn : (Blob.numT 0 s.size).length ≤ 9 := num_len 0 s.size (by omega)
 have HC : Hid (Calls Tryz.prog 70 #[.int .i64 s.size] w (MadeB w (Blob.numT 0 s.size))) := Lib.hid (ref_num_pos s.size w (by omega))
 obtain ⟨J, hJ⟩ : ∃ J, J = Blob.numT 0 s.size := ⟨_, rfl⟩
 rw [← hJ] at HC hn
 have HT : Hid (textT s = J ++ strT s) := Lib.hid (by rw [hJ]; rfl)
 have HP : Hid (0 < (textT s).length) := Lib.hid (by unfold textT; rw [List.length_append, Blob.numT_length]; omega)
 clear hJ
 go_enter Tryz.func71, Tryz.ntmps71
 go_wp2_with (first
  | (go_at_call 70; refine HC.out.mono ?_; rintro e w1 ⟨g1, c1, rfl, ho1, hb1⟩; have HO1 := Lib.hid ho1; have HB1 := Lib.hid hb1; clear ho1 hb1)
  | (refine wpList_append_own_str (o := ⟨some 17, _, _, _, _, _⟩) rfl _ _ rfl w.heap.size w _ J (textT s) rfl HO1.out s rfl ?o1 HB1.out HB1.out.size HT.out ?_; (case o1 => omega); intro v2 w2 hown2 hb2; have HO2 := Lib.hid hown2; have HB2 := Lib.hid hb2; clear hown2 hb2))
 obtain ⟨g, c, hv, _, _⟩ := HO2.out.form HP.out
 subst hv
 go_ret2
 exact ⟨g, c, rfl, HO2.out, HB2.out⟩
set_option maxHeartbeats 400000 in
theorem ref_text_no (s : ByteArray) (w : World) (hs : 65536 < s.size) (hm : s.size ≤ 9223372036854775807) :
 Calls Tryz.prog 71 #[.string s] w fun e w' => e = .returned (.tuple #[.slice none 0 0, .bool false]) ∧ w = w' := by
 have hsz : 65536 < ((s.size : Nat) : Int) := by omega
 go_enter Tryz.func71, Tryz.ntmps71
 go_wp2
 go_ret2
 exact ⟨rfl, rfl⟩

theorem ref_flag (b : Bool) (w : World) : Calls Tryz.prog 96 #[.bool b] w (MadeT w (flagT b)) := by
 cases b
 all_goals
  go_enter Tryz.func96, Tryz.ntmps96
  go_wp2
  go_ret
  exact ⟨_, 1, rfl, one_own w rfl, (Below.refl _ _).alloc (Nat.le_refl _) _⟩
end Go.Proofs.YtplghpamckdklaaGreat

namespace Go.Proofs.YtplghpamckdklaaGreat
open Go.RowKit
set_option maxRecDepth 100000
set_option linter.unusedSimpArgs false
set_option linter.unusedVariables false

/-- a row of bytes of the call's own -/
def OB (w : World) (B : Nat) (v : Value) (T : Text) : Prop := w.ownsRow B 5 1 v T.length (T.map cellOf)
/-- a call that tells bytes of the call's own: other blocks stay as they were -/
def AddB (w : World) (B : Nat) (v0 : Value) (T : Text) (e : Ending) (w1 : World) : Prop :=
 ∃ v, e = .returned v ∧ OB w1 B v T ∧ Below B w w1 ∧ ∀ b o, w.heap[b]? = some o → v0.ownBlock ≠ some b → w1.heap[b]? = some o ∧ v.ownBlock ≠ some b
theorem AddB.of {w w1 w2 : World} {B : Nat} {v0 v : Value} {m D : Text} (hb : Below w.heap.size w w1) (hB : B ≤ w.heap.size) (ho : w1.ownsRow B 5 1 v0 m.length (m.map cellOf)) (h : w2.ownsRow B 5 1 v (m.length + D.length) (m.map cellOf ++ D.map cellOf)) (hg : w1.grownBy w2 v0.ownBlock) (hv : v.ownBlock = v0.ownBlock ∨ v.ownBlock = some w1.heap.size) : AddB w B v0 (m ++ D) (.returned v) w2 := by
 refine ⟨v, rfl, by unfold OB; simpa using h, (hb.mono hB).grown hg (Nat.le_trans hB hb.size) fun k hk => (ho.lt k hk).1, fun b o hbo hn => ?_⟩
 have hlt := heapLt hbo
 refine ⟨(hg.block b (Nat.lt_of_lt_of_le hlt hb.size) (fun e => hn e.symm)).trans ((hb.block b hlt).trans hbo), ?_⟩
 rcases hv with hv | hv
 · rw [hv]; exact hn
 · rw [hv]
   intro e
   have e2 : w1.heap.size = b := Option.some.inj e
   have := hb.size
   omega
theorem OB.on {w w1 : World} {B : Nat} {v : Value} {T : Text} (h : OB w B v T) (hb : Below w.heap.size w w1) : OB w1 B v T := own_below h hb
theorem OB.nil (w : World) (B : Nat) : OB w B (.slice none 0 0) [] := World.ownsRow_nil _ _ _ _
theorem ref_nB {n : Int} (h : NR n) (w : World) : Calls Tryz.prog 70 #[.int .i64 n] w (MadeB w (nB n)) := by
 have e := docN_some h
 unfold docN at e
 rw [if_neg (by have := h.1; omega)] at e
 have e2 := Option.some.inj e
 by_cases h0 : n < 0
 · rw [if_pos h0] at e2
   have hx := ref_num_neg (-n).toNat w (by omega) (by have := h.1; omega)
   rw [← e2]
   have en : -(((-n).toNat : Nat) : Int) = n := by omega
   rw [en] at hx
   exact hx
 · rw [if_neg h0] at e2
   have hx := ref_num_pos n.toNat w (by have := h.2; omega)
   rw [← e2]
   have en : ((n.toNat : Nat) : Int) = n := by omega
   rw [en] at hx
   exact hx
theorem ref_sB {s : ByteArray} (h : s.size ≤ 65536) (w : World) : Calls Tryz.prog 71 #[.string s] w (MadeB w (sB s)) := by
 have e := docS_some h
 unfold docS at e
 rw [if_neg (by omega)] at e
 rw [← Option.some.inj e]
 exact ref_text s w h
set_option maxHeartbeats 1000000 in
theorem add_num (v : Value) (T : Text) (n : Int) (B : Nat) (w : World) (ho : OB w B v T) (hB : B ≤ w.heap.size) (hn : NR n) (hl : T.length ≤ 1000000000) : Calls Tryz.prog 41 #[v, .int .i64 n] w (AddB w B v (T ++ nB n)) := by
 have HN := Lib.hid (ref_nB hn w)
 have HO := Lib.hid ho
 have HL := Lib.hid (And.intro hB (And.intro hl (nB_len hn)))
 generalize nB n = D at HN HL ⊢
 clear ho hB hn hl
 go_enter Tryz.func41, Tryz.ntmps41
 go_wp2_with (go_at_call 70; refine HN.out.mono ?_; rintro e w1 ⟨g, c, rfl, hown, hb⟩; have HD := Lib.hid hown; have HB := Lib.hid hb; clear hown hb; refine Stop.out ?_)
 unfold Stop
 go_wp2_with (refine wpList_append_text (o := ⟨some 14, _, _, _, _, _⟩) rfl _ _ rfl rfl B v T.length (T.map cellOf) rfl ?o1 (some ⟨g, 0, none⟩) c D rfl ?o2 ?o3 ?o4 ?o6 ?_; (case o1 => exact own_below HO.out HB.out); (case o2 => exact .of_own HD.out); (case o3 => simp); (case o4 => have := HL.out; omega); (case o6 => exact Nat.le_trans HL.out.1 HB.out.size); intro v2 w2 hown2 hg2 hv2; have HA2 := Lib.hid (AddB.of HB.out HL.out.1 (own_below HO.out HB.out) hown2 hg2 hv2); clear hown2 hg2 hv2; refine Stop.out ?_)
 unfold Stop
 go_wp2
 go_ret
 exact HA2.out
set_option maxHeartbeats 1000000 in
theorem add_text (v : Value) (T : Text) (s : ByteArray) (B : Nat) (w : World) (ho : OB w B v T) (hB : B ≤ w.heap.size) (hn : s.size ≤ 65536) (hl : T.length ≤ 1000000000) : Calls Tryz.prog 42 #[v, .string s] w (AddB w B v (T ++ sB s)) := by
 have HN := Lib.hid (ref_sB hn w)
 have HO := Lib.hid ho
 have HL := Lib.hid (And.intro hB (And.intro hl (sB_len s)))
 generalize sB s = D at HN HL ⊢
 clear ho hB hn hl
 go_enter Tryz.func42, Tryz.ntmps42
 go_wp2_with (go_at_call 71; refine HN.out.mono ?_; rintro e w1 ⟨g, c, rfl, hown, hb⟩; have HD := Lib.hid hown; have HB := Lib.hid hb; clear hown hb; refine Stop.out ?_)
 unfold Stop
 go_wp2_with (refine wpList_append_text (o := ⟨some 14, _, _, _, _, _⟩) rfl _ _ rfl rfl B v T.length (T.map cellOf) rfl ?o1 (some ⟨g, 0, none⟩) c D rfl ?o2 ?o3 ?o4 ?o6 ?_; (case o1 => exact own_below HO.out HB.out); (case o2 => exact .of_own HD.out); (case o3 => simp); (case o4 => have := HL.out; omega); (case o6 => exact Nat.le_trans HL.out.1 HB.out.size); intro v2 w2 hown2 hg2 hv2; have HA2 := Lib.hid (AddB.of HB.out HL.out.1 (own_below HO.out HB.out) hown2 hg2 hv2); clear hown2 hg2 hv2; refine Stop.out ?_)
 unfold Stop
 go_wp2
 go_ret
 exact HA2.out
set_option maxHeartbeats 1000000 in
theorem add_flag (v : Value) (T : Text) (f : Bool) (B : Nat) (w : World) (ho : OB w B v T) (hB : B ≤ w.heap.size) (hl : T.length ≤ 1000000000) : Calls Tryz.prog 72 #[v, .bool f] w (AddB w B v (T ++ flagT f)) := by
 have HN := Lib.hid (ref_flag f w)
 have HO := Lib.hid ho
 have HL := Lib.hid (And.intro hB (And.intro hl (flagT_len f)))
 generalize flagT f = D at HN HL ⊢
 clear ho hB hl
 go_enter Tryz.func72, Tryz.ntmps72
 go_wp2_with (go_at_call 96; refine HN.out.mono ?_; rintro e w1 ⟨g, c, rfl, hown, hb⟩; have HD := Lib.hid hown; have HB := Lib.hid hb; clear hown hb; refine Stop.out ?_)
 unfold Stop
 go_wp2_with (refine wpList_append_text (o := ⟨some 8, _, _, _, _, _⟩) rfl _ _ rfl rfl B v T.length (T.map cellOf) rfl ?o1 (some ⟨g, 0, none⟩) c D rfl ?o2 ?o3 ?o4 ?o6 ?_; (case o1 => exact own_below HO.out HB.out); (case o2 => exact .of_own HD.out); (case o3 => simp); (case o4 => have := HL.out; omega); (case o6 => exact Nat.le_trans HL.out.1 HB.out.size); intro v2 w2 hown2 hg2 hv2; have HA2 := Lib.hid (AddB.of HB.out HL.out.1 (own_below HO.out HB.out) hown2 hg2 hv2); clear hown2 hg2 hv2; refine Stop.out ?_)
 unfold Stop
 go_wp2
 go_ret
 exact HA2.out
/-- bytes of the call's own beside some boxes, and how many they are at most -/
def OY (w : World) (B : Nat) (v : Value) (T : Text) (L : List (Nat × Obj)) (N : Nat) : Prop := OB w B v T ∧ (∀ p ∈ L, w.heap[p.1]? = some p.2 ∧ v.ownBlock ≠ some p.1) ∧ B ≤ w.heap.size ∧ T.length ≤ N
theorem OY.of {w w1 : World} {B N : Nat} {v0 : Value} {T0 D : Text} {L : List (Nat × Obj)} {e : Ending} (h : OY w B v0 T0 L N) (ha : AddB w B v0 (T0 ++ D) e w1) (hD : D.length ≤ 70000) : ∃ v, e = .returned v ∧ OY w1 B v (T0 ++ D) L (N + 70000) ∧ Below B w w1 := by
 obtain ⟨v, he, ho, hb, hf⟩ := ha
 refine ⟨v, he, ⟨ho, fun p hp => hf p.1 p.2 (h.2.1 p hp).1 (h.2.1 p hp).2, Nat.le_trans h.2.2.1 hb.size, ?_⟩, hb⟩
 rw [List.length_append]
 have := h.2.2.2
 omega
theorem OY.num {w : World} {B N : Nat} {v : Value} {T : Text} {L : List (Nat × Obj)} (h : OY w B v T L N) (n : Int) (hn : NR n) (hl : N ≤ 1000000000) :
 Calls Tryz.prog 41 #[v, .int .i64 n] w fun e w1 => ∃ v1, e = .returned v1 ∧ OY w1 B v1 (T ++ nB n) L (N + 70000) ∧ Below B w w1 := (add_num v T n B w h.1 h.2.2.1 hn (Nat.le_trans h.2.2.2 hl)).mono fun e w1 ha => h.of ha (nB_len hn)
theorem OY.text {w : World} {B N : Nat} {v : Value} {T : Text} {L : List (Nat × Obj)} (h : OY w B v T L N) (s : ByteArray) (hn : s.size ≤ 65536) (hl : N ≤ 1000000000) :
 Calls Tryz.prog 42 #[v, .string s] w fun e w1 => ∃ v1, e = .returned v1 ∧ OY w1 B v1 (T ++ sB s) L (N + 70000) ∧ Below B w w1 := (add_text v T s B w h.1 h.2.2.1 hn (Nat.le_trans h.2.2.2 hl)).mono fun e w1 ha => h.of ha (sB_len s)
theorem OY.flag {w : World} {B N : Nat} {v : Value} {T : Text} {L : List (Nat × Obj)} (h : OY w B v T L N) (f : Bool) (hl : N ≤ 1000000000) :
 Calls Tryz.prog 72 #[v, .bool f] w fun e w1 => ∃ v1, e = .returned v1 ∧ OY w1 B v1 (T ++ flagT f) L (N + 70000) ∧ Below B w w1 := (add_flag v T f B w h.1 h.2.2.1 (Nat.le_trans h.2.2.2 hl)).mono fun e w1 ha => h.of ha (flagT_len f)
theorem OY.start {w : World} {B N : Nat} {v : Value} {T : Text} {L : List (Nat × Obj)} (h : OY w B v T L N) (o : Obj) : OY (w.alloc o) B v T ((w.heap.size, o) :: L) N := by
 refine ⟨h.1.on (below_alloc w o), fun p hp => ?_, by have := h.2.2.1; simp; omega, h.2.2.2⟩
 rcases List.mem_cons.1 hp with rfl | hp
 · exact ⟨heap_alloc_new w o, fun e => by have := (h.1.lt w.heap.size e).2; omega⟩
 · exact ⟨heap_on (below_alloc w o) (h.2.1 p hp).1, (h.2.1 p hp).2⟩
theorem OY.drop {w : World} {B N : Nat} {v : Value} {T : Text} {p : Nat × Obj} {L : List (Nat × Obj)} (h : OY w B v T (p :: L) N) : OY w B v T L N := ⟨h.1, fun q hq => h.2.1 q (List.mem_cons_of_mem _ hq), h.2.2⟩
theorem OY.box {w : World} {B N b : Nat} {v : Value} {T : Text} {o : Obj} {L : List (Nat × Obj)} (h : OY w B v T ((b, o) :: L) N) : w.heap[b]? = some o := (h.2.1 (b, o) (List.mem_cons_self ..)).1
theorem OY.box2 {w : World} {B N b : Nat} {v : Value} {T : Text} {o : Obj} {p : Nat × Obj} {L : List (Nat × Obj)} (h : OY w B v T (p :: (b, o) :: L) N) : w.heap[b]? = some o := h.drop.box
theorem OY.drew {w : World} {B N : Nat} {v : Value} {T : Text} {L : List (Nat × Obj)} (h : OY w B v T L N) : OY w.drew B v T L N := ⟨h.1.on (below_drew w), h.2.1, h.2.2⟩
theorem OY.to {w : World} {B N N' : Nat} {v : Value} {T T' : Text} {L : List (Nat × Obj)} (h : OY w B v T L N) (hT : T = T') (hN : N ≤ N') : OY w B v T' L N' := by
 subst hT
 exact ⟨h.1, h.2.1, h.2.2.1, Nat.le_trans h.2.2.2 hN⟩
end Go.Proofs.YtplghpamckdklaaGreat
