/- A number's bytes: the document's own. Commands: what may be: the document's, by what it calls. -/
import Derived.Test.YtmjjenemokojjaaGreatD4
import Derived.Test.YtmjjenemokojjaaGreatD37
import Derived.WalkMore
namespace Go.Proofs.YtmjjenemokojjaaGreat
open Go.RowKit
set_option maxRecDepth 100000

set_option maxRecDepth 100000 in
set_option maxHeartbeats 4000000 in
theorem ref_num_pos (m : Nat) (w : World) (hm : m < 9223372036854775808) :
 Calls Tryz.prog 70 #[.int .i64 m] w (MadeB w (Blob.numT 0 m)) := by
 have hk8 := Blob.nb_8 m hm
 obtain ⟨K, hK⟩ : ∃ K, K = Blob.nb m := ⟨_, rfl⟩
 have HK := Lib.hid hK
 rw [← hK] at hk8
 have HN : Hid (Blob.numT 0 m = UInt8.ofNat K :: Blob.be K m) := Lib.hid (by unfold Blob.numT; rw [hK, Nat.zero_add])
 clear hK
 have hlt : (m : Int) ≤ 9223372036854775807 := by omega
 have hmin : ((m : Int) == -9223372036854775808) = false := beq_false_of_ne (by omega)
 go_enter Tryz.func70, Tryz.ntmps70
 go_wp2
 go_loopw [4, 6] (fun s v wr => ∃ j r : Nat, s = .int .i64 r ∧ r ≤ m ∧ Hid (r = m / 256 ^ j) ∧ Hid (K = j + Blob.nb r) ∧ Hid (wr.ownsRow w.heap.size 5 1 v (Blob.le j m).length ((Blob.le j m).map cellOf)) ∧ Hid (Below w.heap.size w wr)) (fun s _ _ => (intOf s).toNat)
 case atStart => exact ⟨0, m, rfl, Nat.le_refl _, Lib.hid (by simp), Lib.hid (by rw [HK.out]; simp), Lib.hid (World.ownsRow_nil _ _ _ _), Lib.hid (Below.refl _ _)⟩
 case round =>
  obtain ⟨j, r, rfl, hr, HR, HJ, HO, HB⟩ := hrel
  by_cases hp : 0 < r
  · have HS := Lib.hid (Blob.le_snoc j m)
    have HJ2 : Hid (K = (j + 1) + Blob.nb (r / 256)) := Lib.hid (by rw [HJ.out, Blob.nb_step r (by omega) (by omega)]; omega)
    have HR2 : Hid (r / 256 = m / 256 ^ (j + 1)) := Lib.hid (by rw [HR.out, Nat.div_div_eq_div_mul, Nat.pow_succ])
    obtain ⟨b, hb⟩ : ∃ b, b = UInt8.ofNat (m / 256 ^ j % 256) := ⟨_, rfl⟩
    have HX : Hid ((r : Int) % (256 : Int) = (((b.toNat : Nat)) : Int)) := Lib.hid (by rw [hb, ← HR.out, UInt8.toNat_ofNat']; omega)
    have HQ : Hid ((r : Int) / (256 : Int) = ((r / 256 : Nat) : Int)) := Lib.hid (by omega)
    have hjl : j ≤ 8 := by have := HJ.out; omega
    have hl1 : (Blob.le j m).length ≤ 8 := by rw [Blob.le_length]; exact hjl
    obtain ⟨J, hJ⟩ : ∃ J, J = Blob.le j m := ⟨_, rfl⟩
    rw [← hJ] at hl1 HO
    have HJ3 : Hid (J ++ [b] = Blob.le (j + 1) m) := Lib.hid (by rw [HS.out, hJ, hb])
    clear hJ hb HS
    obtain ⟨A1, c1, rfl, _, _⟩ := own_txt HO.out
    go_wp2_with (refine wpList_append_own_text (o := ⟨some 23, _, _, _, _, _⟩) rfl _ _ rfl rfl w.heap.size w _ J [b] (J ++ [b]) rfl ?o1 (some ⟨wr.heap.size, 0, none⟩) 1 rfl ?o2 ?o3 ?o4 ?o5 ?o6 rfl ?_; (case o1 => exact own_below HO.out ((Below.refl _ _).alloc (Nat.le_refl _) _)); (case o2 => exact one_txt wr HX.out); (case o3 => simp); (case o4 => simp; omega); (case o5 => exact HB.out.alloc HB.out.size _); (case o6 => exact Nat.le_trans HB.out.size (by simp)); intro v2 w2 hown2 hb2 hv2; have HO2 := Lib.hid hown2; have HB2 := Lib.hid hb2; clear hown2 hb2 hv2)
    go_roundw
    case rel => exact ⟨j + 1, r / 256, by rw [HQ.out], by omega, HR2, HJ2, by rw [← HJ3.out]; exact HO2, HB2⟩
    case measure => simp [intOf]; omega
  · obtain rfl : r = 0 := by omega
    have hj : j = K := by have := HJ.out; rw [Blob.nb_zero] at this; omega
    subst hj
    obtain ⟨A1, c1, rfl, ht1, hn1⟩ := own_txt HO.out
    have HT1 := Lib.hid ht1
    have HL : Hid ((Blob.le j m).length = j) := Lib.hid (Blob.le_length j m)
    rw [HL.out]
    clear HR HJ hr hp HK ht1 hn1
    have hj8 : (j : Int) ≤ 8 := by omega
    rw [Int.natCast_zero]
    go_wp2
    obtain ⟨wo, rfl⟩ : ∃ wo : World, wo = wr := ⟨_, rfl⟩
    go_loopw [7, 8] (fun v i wr => ∃ k : Nat, k ≤ j ∧ i = .int .i64 ((j : Int) - 1 - (k : Int)) ∧ Hid (wr.ownsRow wo.heap.size 5 1 v (UInt8.ofNat j :: (Blob.be j m).take k).length ((UInt8.ofNat j :: (Blob.be j m).take k).map cellOf)) ∧ Hid (Below wo.heap.size wo wr) ∧ Hid (v.ownBlock ≠ none)) (fun _ i _ => (intOf i + 1).toNat)
    case atStart => exact ⟨0, Nat.zero_le _, by simp, Lib.hid (by rw [List.take_zero]; exact one_own wo (by rw [UInt8.toNat_ofNat']; omega)), Lib.hid ((Below.refl _ _).alloc (Nat.le_refl _) _), Lib.hid (by simp [Value.ownBlock])⟩
    case round =>
     obtain ⟨k, hk, rfl, HO3, HB3, HV3⟩ := hrel
     by_cases hlt : k < j
     · have HS := Lib.hid (Blob.be_take m k j hlt)
       obtain ⟨d, hd⟩ : ∃ d : Nat, j = d + k + 1 := ⟨j - k - 1, by omega⟩
       have HI : Hid ((j : Int) - 1 - (k : Int) = (d : Int)) := Lib.hid (by omega)
       have hd8 : (d : Int) < (j : Int) := by omega
       have HD : Hid (j - 1 - k = d) := Lib.hid (by omega)
       rw [HI.out]
       have hl1 : (UInt8.ofNat j :: (Blob.be j m).take k).length ≤ 9 := by rw [List.length_cons, List.length_take]; omega
       obtain ⟨J, hJ⟩ : ∃ J, J = UInt8.ofNat j :: (Blob.be j m).take k := ⟨_, rfl⟩
       rw [← hJ] at hl1 HO3
       have HJ := Lib.hid hJ
       obtain ⟨b, hb⟩ : ∃ b, b = UInt8.ofNat (m / 256 ^ d % 256) := ⟨_, rfl⟩
       have hcell : ∃ a, A1 = some a ∧ wr.cell? (a.add d) = some (.int .u8 ((b.toNat : Nat) : Int)) := by
        obtain ⟨a, e, _, hc⟩ := (HT1.out.below HB3.out).at_ (k := d) (by rw [HL.out]; omega)
        refine ⟨a, e, ?_⟩
        rw [hc]
        have h1 := le_get j m d (by omega)
        rw [List.getElem?_eq_getElem (by rw [HL.out]; omega)] at h1
        rw [Option.some.inj h1, hb]
       obtain ⟨a1, rfl, hc1⟩ := hcell
       obtain ⟨g, c, rfl, hg⟩ := own_form HO3.out HV3.out
       have HJ2 : Hid (J ++ [b] = UInt8.ofNat j :: (Blob.be j m).take (k + 1)) := Lib.hid (by rw [HJ.out, HS.out, HD.out, hb]; rfl)
       clear hJ hd hb
       go_wp2_with (refine wpList_append_own_text (o := ⟨some 45, _, _, _, _, _⟩) rfl _ _ rfl rfl wo.heap.size wo _ J [b] (J ++ [b]) rfl ?p1 (some ⟨wr.heap.size, 0, none⟩) 1 rfl ?p2 ?p3 ?p4 ?p5 ?p6 rfl ?_; (case p1 => exact own_below HO3.out ((Below.refl _ _).alloc (Nat.le_refl _) _)); (case p2 => exact one_txt wr rfl); (case p3 => simp); (case p4 => simp; omega); (case p5 => exact HB3.out.alloc HB3.out.size _); (case p6 => exact Nat.le_trans HB3.out.size (by simp)); intro v2 w2 hown2 hb2 hv2; have HO2 := Lib.hid hown2; have HB2 := Lib.hid hb2; have HV2 := Lib.hid (hv2 HV3.out); clear hown2 hb2 hv2)
       go_roundw
       case rel => exact ⟨k + 1, by omega, congrArg (Value.int .i64) (by have := HI.out; omega), by rw [← HJ2.out]; exact HO2, HB2, HV2⟩
       case measure => simp [intOf]
     · obtain rfl : k = j := by omega
       have HE : Hid (UInt8.ofNat k :: (Blob.be k m).take k = Blob.numT 0 m) := Lib.hid (by rw [HN.out, List.take_of_length_le (by rw [Blob.be_length]; omega)])
       rw [HE.out] at HO3
       obtain ⟨g, c, rfl, hg⟩ := own_form HO3.out HV3.out
       go_wp2
       go_ret2
       exact ⟨g, c, rfl, own_base HO3.out HB.out.size, HB.out.trans (HB3.out.mono HB.out.size)⟩

set_option maxRecDepth 100000 in
set_option maxHeartbeats 4000000 in
theorem ref_num_neg (m : Nat) (w : World) (h0 : 0 < m) (hm : m < 9223372036854775808) :
 Calls Tryz.prog 70 #[.int .i64 (-(m : Int))] w (MadeB w (Blob.numT 128 m)) := by
 have hk8 := Blob.nb_8 m hm
 obtain ⟨K, hK⟩ : ∃ K, K = Blob.nb m := ⟨_, rfl⟩
 have HK := Lib.hid hK
 rw [← hK] at hk8
 have HN : Hid (Blob.numT 128 m = UInt8.ofNat (128 + K) :: Blob.be K m) := Lib.hid (by unfold Blob.numT; rw [hK])
 clear hK
 have hlt : (m : Int) ≤ 9223372036854775807 := by omega
 have hmin : (-(m : Int) == -9223372036854775808) = false := beq_false_of_ne (by omega)
 have hneg : -(m : Int) < 0 := by omega
 have hlo : -9223372036854775807 ≤ -(m : Int) := by omega
 go_enter Tryz.func70, Tryz.ntmps70
 go_wp2
 go_loopw [4, 6] (fun s v wr => ∃ j r : Nat, s = .int .i64 r ∧ r ≤ m ∧ Hid (r = m / 256 ^ j) ∧ Hid (K = j + Blob.nb r) ∧ Hid (wr.ownsRow w.heap.size 5 1 v (Blob.le j m).length ((Blob.le j m).map cellOf)) ∧ Hid (Below w.heap.size w wr)) (fun s _ _ => (intOf s).toNat)
 case atStart => exact ⟨0, m, rfl, Nat.le_refl _, Lib.hid (by simp), Lib.hid (by rw [HK.out]; simp), Lib.hid (World.ownsRow_nil _ _ _ _), Lib.hid (Below.refl _ _)⟩
 case round =>
  obtain ⟨j, r, rfl, hr, HR, HJ, HO, HB⟩ := hrel
  by_cases hp : 0 < r
  · have HS := Lib.hid (Blob.le_snoc j m)
    have HJ2 : Hid (K = (j + 1) + Blob.nb (r / 256)) := Lib.hid (by rw [HJ.out, Blob.nb_step r (by omega) (by omega)]; omega)
    have HR2 : Hid (r / 256 = m / 256 ^ (j + 1)) := Lib.hid (by rw [HR.out, Nat.div_div_eq_div_mul, Nat.pow_succ])
    obtain ⟨b, hb⟩ : ∃ b, b = UInt8.ofNat (m / 256 ^ j % 256) := ⟨_, rfl⟩
    have HX : Hid ((r : Int) % (256 : Int) = (((b.toNat : Nat)) : Int)) := Lib.hid (by rw [hb, ← HR.out, UInt8.toNat_ofNat']; omega)
    have HQ : Hid ((r : Int) / (256 : Int) = ((r / 256 : Nat) : Int)) := Lib.hid (by omega)
    have hjl : j ≤ 8 := by have := HJ.out; omega
    have hl1 : (Blob.le j m).length ≤ 8 := by rw [Blob.le_length]; exact hjl
    obtain ⟨J, hJ⟩ : ∃ J, J = Blob.le j m := ⟨_, rfl⟩
    rw [← hJ] at hl1 HO
    have HJ3 : Hid (J ++ [b] = Blob.le (j + 1) m) := Lib.hid (by rw [HS.out, hJ, hb])
    clear hJ hb HS
    obtain ⟨A1, c1, rfl, _, _⟩ := own_txt HO.out
    go_wp2_with (refine wpList_append_own_text (o := ⟨some 23, _, _, _, _, _⟩) rfl _ _ rfl rfl w.heap.size w _ J [b] (J ++ [b]) rfl ?o1 (some ⟨wr.heap.size, 0, none⟩) 1 rfl ?o2 ?o3 ?o4 ?o5 ?o6 rfl ?_; (case o1 => exact own_below HO.out ((Below.refl _ _).alloc (Nat.le_refl _) _)); (case o2 => exact one_txt wr HX.out); (case o3 => simp); (case o4 => simp; omega); (case o5 => exact HB.out.alloc HB.out.size _); (case o6 => exact Nat.le_trans HB.out.size (by simp)); intro v2 w2 hown2 hb2 hv2; have HO2 := Lib.hid hown2; have HB2 := Lib.hid hb2; clear hown2 hb2 hv2)
    go_roundw
    case rel => exact ⟨j + 1, r / 256, by rw [HQ.out], by omega, HR2, HJ2, by rw [← HJ3.out]; exact HO2, HB2⟩
    case measure => simp [intOf]; omega
  · obtain rfl : r = 0 := by omega
    have hj : j = K := by have := HJ.out; rw [Blob.nb_zero] at this; omega
    subst hj
    obtain ⟨A1, c1, rfl, ht1, hn1⟩ := own_txt HO.out
    have HT1 := Lib.hid ht1
    have HL : Hid ((Blob.le j m).length = j) := Lib.hid (Blob.le_length j m)
    rw [HL.out]
    clear HR HJ hr hp HK ht1 hn1
    have hj8 : (j : Int) ≤ 8 := by omega
    rw [Int.natCast_zero]
    go_wp2
    obtain ⟨wo, rfl⟩ : ∃ wo : World, wo = wr := ⟨_, rfl⟩
    go_loopw [7, 8] (fun v i wr => ∃ k : Nat, k ≤ j ∧ i = .int .i64 ((j : Int) - 1 - (k : Int)) ∧ Hid (wr.ownsRow wo.heap.size 5 1 v (UInt8.ofNat (128 + j) :: (Blob.be j m).take k).length ((UInt8.ofNat (128 + j) :: (Blob.be j m).take k).map cellOf)) ∧ Hid (Below wo.heap.size wo wr) ∧ Hid (v.ownBlock ≠ none)) (fun _ i _ => (intOf i + 1).toNat)
    case atStart => exact ⟨0, Nat.zero_le _, by simp, Lib.hid (by rw [List.take_zero]; exact one_own wo (by rw [UInt8.toNat_ofNat']; omega)), Lib.hid ((Below.refl _ _).alloc (Nat.le_refl _) _), Lib.hid (by simp [Value.ownBlock])⟩
    case round =>
     obtain ⟨k, hk, rfl, HO3, HB3, HV3⟩ := hrel
     by_cases hlt : k < j
     · have HS := Lib.hid (Blob.be_take m k j hlt)
       obtain ⟨d, hd⟩ : ∃ d : Nat, j = d + k + 1 := ⟨j - k - 1, by omega⟩
       have HI : Hid ((j : Int) - 1 - (k : Int) = (d : Int)) := Lib.hid (by omega)
       have hd8 : (d : Int) < (j : Int) := by omega
       have HD : Hid (j - 1 - k = d) := Lib.hid (by omega)
       rw [HI.out]
       have hl1 : (UInt8.ofNat (128 + j) :: (Blob.be j m).take k).length ≤ 9 := by rw [List.length_cons, List.length_take]; omega
       obtain ⟨J, hJ⟩ : ∃ J, J = UInt8.ofNat (128 + j) :: (Blob.be j m).take k := ⟨_, rfl⟩
       rw [← hJ] at hl1 HO3
       have HJ := Lib.hid hJ
       obtain ⟨b, hb⟩ : ∃ b, b = UInt8.ofNat (m / 256 ^ d % 256) := ⟨_, rfl⟩
       have hcell : ∃ a, A1 = some a ∧ wr.cell? (a.add d) = some (.int .u8 ((b.toNat : Nat) : Int)) := by
        obtain ⟨a, e, _, hc⟩ := (HT1.out.below HB3.out).at_ (k := d) (by rw [HL.out]; omega)
        refine ⟨a, e, ?_⟩
        rw [hc]
        have h1 := le_get j m d (by omega)
        rw [List.getElem?_eq_getElem (by rw [HL.out]; omega)] at h1
        rw [Option.some.inj h1, hb]
       obtain ⟨a1, rfl, hc1⟩ := hcell
       obtain ⟨g, c, rfl, hg⟩ := own_form HO3.out HV3.out
       have HJ2 : Hid (J ++ [b] = UInt8.ofNat (128 + j) :: (Blob.be j m).take (k + 1)) := Lib.hid (by rw [HJ.out, HS.out, HD.out, hb]; rfl)
       clear hJ hd hb
       go_wp2_with (refine wpList_append_own_text (o := ⟨some 45, _, _, _, _, _⟩) rfl _ _ rfl rfl wo.heap.size wo _ J [b] (J ++ [b]) rfl ?p1 (some ⟨wr.heap.size, 0, none⟩) 1 rfl ?p2 ?p3 ?p4 ?p5 ?p6 rfl ?_; (case p1 => exact own_below HO3.out ((Below.refl _ _).alloc (Nat.le_refl _) _)); (case p2 => exact one_txt wr rfl); (case p3 => simp); (case p4 => simp; omega); (case p5 => exact HB3.out.alloc HB3.out.size _); (case p6 => exact Nat.le_trans HB3.out.size (by simp)); intro v2 w2 hown2 hb2 hv2; have HO2 := Lib.hid hown2; have HB2 := Lib.hid hb2; have HV2 := Lib.hid (hv2 HV3.out); clear hown2 hb2 hv2)
       go_roundw
       case rel => exact ⟨k + 1, by omega, congrArg (Value.int .i64) (by have := HI.out; omega), by rw [← HJ2.out]; exact HO2, HB2, HV2⟩
       case measure => simp [intOf]
     · obtain rfl : k = j := by omega
       have HE : Hid (UInt8.ofNat (128 + k) :: (Blob.be k m).take k = Blob.numT 128 m) := Lib.hid (by rw [HN.out, List.take_of_length_le (by rw [Blob.be_length]; omega)])
       rw [HE.out] at HO3
       obtain ⟨g, c, rfl, hg⟩ := own_form HO3.out HV3.out
       go_wp2
       go_ret2
       exact ⟨g, c, rfl, own_base HO3.out HB.out.size, HB.out.trans (HB3.out.mono HB.out.size)⟩

set_option maxHeartbeats 400000 in
theorem ref_num_min (w : World) : Calls Tryz.prog 70 #[.int .i64 (-9223372036854775808)] w fun e w' => e = .returned (.tuple #[.slice none 0 0, .bool false]) ∧ w = w' := by
 go_enter Tryz.func70, Tryz.ntmps70
 go_wp2
 go_ret2
 exact ⟨rfl, rfl⟩
end Go.Proofs.YtmjjenemokojjaaGreat

namespace Go.Proofs.YtmjjenemokojjaaGreat
open Go.RowKit
set_option maxRecDepth 100000
set_option linter.unusedSimpArgs false
set_option linter.unusedVariables false

set_option maxHeartbeats 4000000 in
theorem refGood_5 (cs u : Array Value) (x : CmdV) (V : Bool) (w : World) (hs : cs.size = 22) (h0 : cs[0]? = some (.int .i64 5)) (h2 : cs[2]? = some (.string x.text)) (h5 : cs[5]? = some (.int .i64 x.from_)) (h6 : cs[6]? = some (.int .i64 x.until_)) (h7 : cs[7]? = some (.int .i64 x.num)) (h8 : cs[8]? = some (.int .i64 x.den)) (h10 : cs[10]? = some (.int .i64 x.pk)) (h11 : cs[11]? = some (.int .i64 x.py)) (h12 : cs[12]? = some (.int .i64 x.pi)) (HU : Hid (∀ W, Calls Tryz.prog 23 #[.agg cs] W fun e w1 => e = .returned (.agg u) ∧ Below W.heap.size W w1)) (HSm : Hid (∀ W, Below w.heap.size w W → Calls Tryz.prog 17 #[.agg cs, .agg u] W fun e w1 => e = .returned (.bool true) ∧ Below W.heap.size W w1)) (hz : x.text.size ≤ 140737488351232) (hV : (currB x.text && Civ.good x.pk x.py x.pi && (x.pk == 2) && inB x.num 1 1099511627776 && inB x.den 1 1099511627776) = V) : Calls Tryz.prog 9 #[.agg cs] w fun e w1 => e = .returned (.bool V) ∧ Below w.heap.size w w1 := by
 have HH := Lib.hid (And.intro h0 (And.intro h2 (And.intro h5 (And.intro h6 (And.intro h7 (And.intro h8 (And.intro h10 (And.intro h11 (h12)))))))))
 clear h0 h2 h5 h6 h7 h8 h10 h11 h12
 have HCu : Hid (∀ W, Calls Tryz.prog 28 #[.string x.text] W fun e w1 => e = .returned (.bool (currB x.text)) ∧ W = w1) := Lib.hid (fun W => ref_currency x.text W (by omega))
 generalize currB x.text = m at HCu hV
 clear hz
 have HGo : Hid (∀ W, Calls Tryz.prog 25 #[.agg #[.int .i64 x.pk, .int .i64 x.py, .int .i64 x.pi]] W fun e w1 => e = .returned (.bool (Civ.good x.pk x.py x.pi)) ∧ Below W.heap.size W w1) := Lib.hid (fun W => Civs.ref_good x.pk x.py x.pi W)
 generalize Civ.good x.pk x.py x.pi = gd at HGo hV
 have HV := Lib.hid hV
 clear hV
 have HXd := Lib.hid (heap_on (below_drew _) (heap_alloc_new w (.cells cs 28)))
 have HWd := Lib.hid (below_then (below_alloc w (.cells cs 28)) (below_drew _))
 have HI := Lib.hid (cmd_info hs)
 clear hs
 go_enter Tryz.func9, Tryz.ntmps9
 go_wp2
 refine wp_region_held_drew (S := fun V => V.heap[w.heap.size]? = some (.cells cs 28 (0, 0))) (by kernel_rfl) HXd.out ?_
 intro hHeld
 clear HXd
 generalize World.drew _ = wd at HWd hHeld ⊢
 (refine takeH (i := 0) (v := .agg cs) rfl (by kernel_rfl) (by kernel_rfl) (by kernel_rfl) (fun _ _ _ h => h) (Or.inl ⟨by rfl, fun wS hSw => exec_load_row 28 (.tmp 1) rfl w.heap.size rfl 28 cs (0, 0) _ hSw Tryz.underlying28 rfl HI.out⟩) (by assumption) ?_; (try simp only [Act.put, pA, pB, pC]))
 (refine takeH (i := 1) (v := .agg cs) rfl (by kernel_rfl) (by kernel_rfl) (by kernel_rfl) (fun _ _ _ h => h) (Or.inl ⟨by rfl, fun wS hSw => exec_load_row 28 (.tmp 1) rfl w.heap.size rfl 28 cs (0, 0) _ hSw Tryz.underlying28 rfl HI.out⟩) (by assumption) ?_; (try simp only [Act.put, pA, pB, pC]))
 refine aloneH (i := 2) rfl (by kernel_rfl) (fun K hK => ?_)
 rw [if_pos (by rfl)]
 go_simp; ((refine (HU.out _).mono ?_); (rintro e w1 ⟨rfl, hb⟩); have HB1 := Lib.hid hb; clear hb; (try go_simp))
 refine hK.out _ _ (heap_on HB1.out hHeld) ?_
 clear hK K hHeld; intro hHeld; (try simp only [Act.put, pA, pB, pC])
 refine aloneH (i := 3) rfl (by kernel_rfl) (fun K hK => ?_)
 rw [if_pos (by rfl)]
 go_simp; ((refine (HSm.out _ (below_then HWd.out HB1.out)).mono ?_); (rintro e w2 ⟨rfl, hb⟩); have HB2 := Lib.hid hb; clear hb; (try go_simp))
 refine hK.out _ _ (heap_on HB2.out hHeld) ?_
 clear hK K hHeld; intro hHeld; (try simp only [Act.put, pA, pB, pC])
 (refine takeP (i := 4) ?_ rfl (.inl ⟨by rfl, ?_⟩) ?_; rotate_left; (focus ((intro wS hSw); (try dsimp only at hSw); have s0 := hSw; go_simp; (try with_reducible rfl); done)); (try simp only [Act.put, pA, pB, pC]))
 refine wpAnyH_done (by kernel_rfl) ?_ _
 have HXa := Lib.hid hHeld
 have HBa := Lib.hid (below_then HWd.out (below_then HB1.out HB2.out))
 clear hHeld
 have k0 := (cell_of_row w2 w.heap.size 0 _ _ _ HXa.out).trans HH.out.1
 have k5 := (cell_of_row w2 w.heap.size 5 _ _ _ HXa.out).trans HH.out.2.2.1
 have k6 := (cell_of_row w2 w.heap.size 6 _ _ _ HXa.out).trans HH.out.2.2.2.1
 have k10 := (cell_of_row w2 w.heap.size 10 _ _ _ HXa.out).trans HH.out.2.2.2.2.2.2.1
 have k11 := (cell_of_row w2 w.heap.size 11 _ _ _ HXa.out).trans HH.out.2.2.2.2.2.2.2.1
 have k12 := (cell_of_row w2 w.heap.size 12 _ _ _ HXa.out).trans HH.out.2.2.2.2.2.2.2.2
 cases hA : inB x.from_ 0 2932896
 all_goals
  go_wp2_with (first | (go_at_call 24; refine (ref_in _ _ _ _).mono ?_; rintro e w6 ⟨rfl, rfl⟩) | (go_at_call 25; refine (HGo.out _).mono ?_; rintro e w8 ⟨rfl, hb⟩; clear k0 k5 k6 k10 k11 k12; have HXb := Lib.hid (heap_on hb HXa.out); have HBb := Lib.hid (below_then HBa.out hb); clear hb; have k0 := (cell_of_row w8 w.heap.size 0 _ _ _ HXb.out).trans HH.out.1; have k2 := (cell_of_row w8 w.heap.size 2 _ _ _ HXb.out).trans HH.out.2.1; have k7 := (cell_of_row w8 w.heap.size 7 _ _ _ HXb.out).trans HH.out.2.2.2.2.1; have k8 := (cell_of_row w8 w.heap.size 8 _ _ _ HXb.out).trans HH.out.2.2.2.2.2.1; have k10 := (cell_of_row w8 w.heap.size 10 _ _ _ HXb.out).trans HH.out.2.2.2.2.2.2.1; have k11 := (cell_of_row w8 w.heap.size 11 _ _ _ HXb.out).trans HH.out.2.2.2.2.2.2.2.1; have k12 := (cell_of_row w8 w.heap.size 12 _ _ _ HXb.out).trans HH.out.2.2.2.2.2.2.2.2; refine Stop.out ?_))
  all_goals
   unfold Stop
   go_wp2_with (first | (go_at_call 24; refine (ref_in _ _ _ _).mono ?_; rintro e w6 ⟨rfl, rfl⟩) | (go_at_call 28; refine (HCu.out _).mono ?_; rintro e w9 ⟨rfl, rfl⟩))
   all_goals (go_ret; exact ⟨ret_bool (by rw [← HV.out]; clear HH HXa HBa HXb HBb HV; (try clear k0); (try clear k1); (try clear k2); (try clear k3); (try clear k4); (try clear k5); (try clear k6); (try clear k7); (try clear k8); (try clear k9); (try clear k10); (try clear k11); (try clear k12); (try clear k13); (try clear k14); (try clear k15); (try clear k16); (try clear k17); (try clear k18); (try clear k19); (try clear k20); (try clear k21); (try clear HXc HBc); simp_all), by first | exact HBc.out | exact HBb.out⟩)
set_option maxHeartbeats 4000000 in
theorem refGood_6 (cs u : Array Value) (x : CmdV) (V : Bool) (w : World) (hs : cs.size = 22) (h0 : cs[0]? = some (.int .i64 6)) (h2 : cs[2]? = some (.string x.text)) (h5 : cs[5]? = some (.int .i64 x.from_)) (h6 : cs[6]? = some (.int .i64 x.until_)) (h10 : cs[10]? = some (.int .i64 x.pk)) (h11 : cs[11]? = some (.int .i64 x.py)) (h12 : cs[12]? = some (.int .i64 x.pi)) (HU : Hid (∀ W, Calls Tryz.prog 23 #[.agg cs] W fun e w1 => e = .returned (.agg u) ∧ Below W.heap.size W w1)) (HSm : Hid (∀ W, Below w.heap.size w W → Calls Tryz.prog 17 #[.agg cs, .agg u] W fun e w1 => e = .returned (.bool true) ∧ Below W.heap.size W w1)) (hz : x.text.size ≤ 140737488351232) (hV : (decide (x.text.size ≤ 65536)) = V) : Calls Tryz.prog 9 #[.agg cs] w fun e w1 => e = .returned (.bool V) ∧ Below w.heap.size w w1 := by
 have HH := Lib.hid (And.intro h0 (And.intro h2 (And.intro h5 (And.intro h6 (And.intro h10 (And.intro h11 (h12)))))))
 clear h0 h2 h5 h6 h10 h11 h12
 have hz2 : (x.text.size : Int) ≤ 140737488351232 := by omega
 have HGo : Hid (∀ W, Calls Tryz.prog 25 #[.agg #[.int .i64 x.pk, .int .i64 x.py, .int .i64 x.pi]] W fun e w1 => e = .returned (.bool (Civ.good x.pk x.py x.pi)) ∧ Below W.heap.size W w1) := Lib.hid (fun W => Civs.ref_good x.pk x.py x.pi W)
 generalize Civ.good x.pk x.py x.pi = gd at HGo hV
 have HV := Lib.hid hV
 clear hV
 have HXd := Lib.hid (heap_on (below_drew _) (heap_alloc_new w (.cells cs 28)))
 have HWd := Lib.hid (below_then (below_alloc w (.cells cs 28)) (below_drew _))
 have HI := Lib.hid (cmd_info hs)
 clear hs
 go_enter Tryz.func9, Tryz.ntmps9
 go_wp2
 refine wp_region_held_drew (S := fun V => V.heap[w.heap.size]? = some (.cells cs 28 (0, 0))) (by kernel_rfl) HXd.out ?_
 intro hHeld
 clear HXd
 generalize World.drew _ = wd at HWd hHeld ⊢
 (refine takeH (i := 0) (v := .agg cs) rfl (by kernel_rfl) (by kernel_rfl) (by kernel_rfl) (fun _ _ _ h => h) (Or.inl ⟨by rfl, fun wS hSw => exec_load_row 28 (.tmp 1) rfl w.heap.size rfl 28 cs (0, 0) _ hSw Tryz.underlying28 rfl HI.out⟩) (by assumption) ?_; (try simp only [Act.put, pA, pB, pC]))
 (refine takeH (i := 1) (v := .agg cs) rfl (by kernel_rfl) (by kernel_rfl) (by kernel_rfl) (fun _ _ _ h => h) (Or.inl ⟨by rfl, fun wS hSw => exec_load_row 28 (.tmp 1) rfl w.heap.size rfl 28 cs (0, 0) _ hSw Tryz.underlying28 rfl HI.out⟩) (by assumption) ?_; (try simp only [Act.put, pA, pB, pC]))
 refine aloneH (i := 2) rfl (by kernel_rfl) (fun K hK => ?_)
 rw [if_pos (by rfl)]
 go_simp; ((refine (HU.out _).mono ?_); (rintro e w1 ⟨rfl, hb⟩); have HB1 := Lib.hid hb; clear hb; (try go_simp))
 refine hK.out _ _ (heap_on HB1.out hHeld) ?_
 clear hK K hHeld; intro hHeld; (try simp only [Act.put, pA, pB, pC])
 refine aloneH (i := 3) rfl (by kernel_rfl) (fun K hK => ?_)
 rw [if_pos (by rfl)]
 go_simp; ((refine (HSm.out _ (below_then HWd.out HB1.out)).mono ?_); (rintro e w2 ⟨rfl, hb⟩); have HB2 := Lib.hid hb; clear hb; (try go_simp))
 refine hK.out _ _ (heap_on HB2.out hHeld) ?_
 clear hK K hHeld; intro hHeld; (try simp only [Act.put, pA, pB, pC])
 (refine takeP (i := 4) ?_ rfl (.inl ⟨by rfl, ?_⟩) ?_; rotate_left; (focus ((intro wS hSw); (try dsimp only at hSw); have s0 := hSw; go_simp; (try with_reducible rfl); done)); (try simp only [Act.put, pA, pB, pC]))
 refine wpAnyH_done (by kernel_rfl) ?_ _
 have HXa := Lib.hid hHeld
 have HBa := Lib.hid (below_then HWd.out (below_then HB1.out HB2.out))
 clear hHeld
 have k0 := (cell_of_row w2 w.heap.size 0 _ _ _ HXa.out).trans HH.out.1
 have k5 := (cell_of_row w2 w.heap.size 5 _ _ _ HXa.out).trans HH.out.2.2.1
 have k6 := (cell_of_row w2 w.heap.size 6 _ _ _ HXa.out).trans HH.out.2.2.2.1
 have k10 := (cell_of_row w2 w.heap.size 10 _ _ _ HXa.out).trans HH.out.2.2.2.2.1
 have k11 := (cell_of_row w2 w.heap.size 11 _ _ _ HXa.out).trans HH.out.2.2.2.2.2.1
 have k12 := (cell_of_row w2 w.heap.size 12 _ _ _ HXa.out).trans HH.out.2.2.2.2.2.2
 cases hA : inB x.from_ 0 2932896
 all_goals
  go_wp2_with (first | (go_at_call 24; refine (ref_in _ _ _ _).mono ?_; rintro e w6 ⟨rfl, rfl⟩) | (go_at_call 25; refine (HGo.out _).mono ?_; rintro e w8 ⟨rfl, hb⟩; clear k0 k5 k6 k10 k11 k12; have HXb := Lib.hid (heap_on hb HXa.out); have HBb := Lib.hid (below_then HBa.out hb); clear hb; have k0 := (cell_of_row w8 w.heap.size 0 _ _ _ HXb.out).trans HH.out.1; have k2 := (cell_of_row w8 w.heap.size 2 _ _ _ HXb.out).trans HH.out.2.1; refine Stop.out ?_))
  all_goals
   unfold Stop
   go_wp2_with (first | (go_at_call 24; refine (ref_in _ _ _ _).mono ?_; rintro e w6 ⟨rfl, rfl⟩))
   all_goals (go_ret; exact ⟨ret_bool (by rw [← HV.out]; clear HH HXa HBa HXb HBb HV; (try clear k0); (try clear k1); (try clear k2); (try clear k3); (try clear k4); (try clear k5); (try clear k6); (try clear k7); (try clear k8); (try clear k9); (try clear k10); (try clear k11); (try clear k12); (try clear k13); (try clear k14); (try clear k15); (try clear k16); (try clear k17); (try clear k18); (try clear k19); (try clear k20); (try clear k21); (try clear HXc HBc); (simp; try omega)), by first | exact HBc.out | exact HBb.out⟩)
set_option maxHeartbeats 4000000 in
theorem refGood_7 (cs u : Array Value) (x : CmdV) (V : Bool) (w : World) (hs : cs.size = 22) (h0 : cs[0]? = some (.int .i64 7)) (h5 : cs[5]? = some (.int .i64 x.from_)) (h6 : cs[6]? = some (.int .i64 x.until_)) (h7 : cs[7]? = some (.int .i64 x.num)) (h10 : cs[10]? = some (.int .i64 x.pk)) (h11 : cs[11]? = some (.int .i64 x.py)) (h12 : cs[12]? = some (.int .i64 x.pi)) (HU : Hid (∀ W, Calls Tryz.prog 23 #[.agg cs] W fun e w1 => e = .returned (.agg u) ∧ Below W.heap.size W w1)) (HSm : Hid (∀ W, Below w.heap.size w W → Calls Tryz.prog 17 #[.agg cs, .agg u] W fun e w1 => e = .returned (.bool true) ∧ Below W.heap.size W w1)) (hV : (Civ.good x.pk x.py x.pi && (x.pk == 3) && inB x.num 0 100) = V) : Calls Tryz.prog 9 #[.agg cs] w fun e w1 => e = .returned (.bool V) ∧ Below w.heap.size w w1 := by
 have HH := Lib.hid (And.intro h0 (And.intro h5 (And.intro h6 (And.intro h7 (And.intro h10 (And.intro h11 (h12)))))))
 clear h0 h5 h6 h7 h10 h11 h12
 have HGo : Hid (∀ W, Calls Tryz.prog 25 #[.agg #[.int .i64 x.pk, .int .i64 x.py, .int .i64 x.pi]] W fun e w1 => e = .returned (.bool (Civ.good x.pk x.py x.pi)) ∧ Below W.heap.size W w1) := Lib.hid (fun W => Civs.ref_good x.pk x.py x.pi W)
 generalize Civ.good x.pk x.py x.pi = gd at HGo hV
 have HV := Lib.hid hV
 clear hV
 have HXd := Lib.hid (heap_on (below_drew _) (heap_alloc_new w (.cells cs 28)))
 have HWd := Lib.hid (below_then (below_alloc w (.cells cs 28)) (below_drew _))
 have HI := Lib.hid (cmd_info hs)
 clear hs
 go_enter Tryz.func9, Tryz.ntmps9
 go_wp2
 refine wp_region_held_drew (S := fun V => V.heap[w.heap.size]? = some (.cells cs 28 (0, 0))) (by kernel_rfl) HXd.out ?_
 intro hHeld
 clear HXd
 generalize World.drew _ = wd at HWd hHeld ⊢
 (refine takeH (i := 0) (v := .agg cs) rfl (by kernel_rfl) (by kernel_rfl) (by kernel_rfl) (fun _ _ _ h => h) (Or.inl ⟨by rfl, fun wS hSw => exec_load_row 28 (.tmp 1) rfl w.heap.size rfl 28 cs (0, 0) _ hSw Tryz.underlying28 rfl HI.out⟩) (by assumption) ?_; (try simp only [Act.put, pA, pB, pC]))
 (refine takeH (i := 1) (v := .agg cs) rfl (by kernel_rfl) (by kernel_rfl) (by kernel_rfl) (fun _ _ _ h => h) (Or.inl ⟨by rfl, fun wS hSw => exec_load_row 28 (.tmp 1) rfl w.heap.size rfl 28 cs (0, 0) _ hSw Tryz.underlying28 rfl HI.out⟩) (by assumption) ?_; (try simp only [Act.put, pA, pB, pC]))
 refine aloneH (i := 2) rfl (by kernel_rfl) (fun K hK => ?_)
 rw [if_pos (by rfl)]
 go_simp; ((refine (HU.out _).mono ?_); (rintro e w1 ⟨rfl, hb⟩); have HB1 := Lib.hid hb; clear hb; (try go_simp))
 refine hK.out _ _ (heap_on HB1.out hHeld) ?_
 clear hK K hHeld; intro hHeld; (try simp only [Act.put, pA, pB, pC])
 refine aloneH (i := 3) rfl (by kernel_rfl) (fun K hK => ?_)
 rw [if_pos (by rfl)]
 go_simp; ((refine (HSm.out _ (below_then HWd.out HB1.out)).mono ?_); (rintro e w2 ⟨rfl, hb⟩); have HB2 := Lib.hid hb; clear hb; (try go_simp))
 refine hK.out _ _ (heap_on HB2.out hHeld) ?_
 clear hK K hHeld; intro hHeld; (try simp only [Act.put, pA, pB, pC])
 (refine takeP (i := 4) ?_ rfl (.inl ⟨by rfl, ?_⟩) ?_; rotate_left; (focus ((intro wS hSw); (try dsimp only at hSw); have s0 := hSw; go_simp; (try with_reducible rfl); done)); (try simp only [Act.put, pA, pB, pC]))
 refine wpAnyH_done (by kernel_rfl) ?_ _
 have HXa := Lib.hid hHeld
 have HBa := Lib.hid (below_then HWd.out (below_then HB1.out HB2.out))
 clear hHeld
 have k0 := (cell_of_row w2 w.heap.size 0 _ _ _ HXa.out).trans HH.out.1
 have k5 := (cell_of_row w2 w.heap.size 5 _ _ _ HXa.out).trans HH.out.2.1
 have k6 := (cell_of_row w2 w.heap.size 6 _ _ _ HXa.out).trans HH.out.2.2.1
 have k10 := (cell_of_row w2 w.heap.size 10 _ _ _ HXa.out).trans HH.out.2.2.2.2.1
 have k11 := (cell_of_row w2 w.heap.size 11 _ _ _ HXa.out).trans HH.out.2.2.2.2.2.1
 have k12 := (cell_of_row w2 w.heap.size 12 _ _ _ HXa.out).trans HH.out.2.2.2.2.2.2
 cases hA : inB x.from_ 0 2932896
 all_goals
  go_wp2_with (first | (go_at_call 24; refine (ref_in _ _ _ _).mono ?_; rintro e w6 ⟨rfl, rfl⟩) | (go_at_call 25; refine (HGo.out _).mono ?_; rintro e w8 ⟨rfl, hb⟩; clear k0 k5 k6 k10 k11 k12; have HXb := Lib.hid (heap_on hb HXa.out); have HBb := Lib.hid (below_then HBa.out hb); clear hb; have k0 := (cell_of_row w8 w.heap.size 0 _ _ _ HXb.out).trans HH.out.1; have k7 := (cell_of_row w8 w.heap.size 7 _ _ _ HXb.out).trans HH.out.2.2.2.1; have k10 := (cell_of_row w8 w.heap.size 10 _ _ _ HXb.out).trans HH.out.2.2.2.2.1; have k11 := (cell_of_row w8 w.heap.size 11 _ _ _ HXb.out).trans HH.out.2.2.2.2.2.1; have k12 := (cell_of_row w8 w.heap.size 12 _ _ _ HXb.out).trans HH.out.2.2.2.2.2.2; refine Stop.out ?_))
  all_goals
   unfold Stop
   go_wp2_with (first | (go_at_call 24; refine (ref_in _ _ _ _).mono ?_; rintro e w6 ⟨rfl, rfl⟩))
   all_goals (go_ret; exact ⟨ret_bool (by rw [← HV.out]; clear HH HXa HBa HXb HBb HV; (try clear k0); (try clear k1); (try clear k2); (try clear k3); (try clear k4); (try clear k5); (try clear k6); (try clear k7); (try clear k8); (try clear k9); (try clear k10); (try clear k11); (try clear k12); (try clear k13); (try clear k14); (try clear k15); (try clear k16); (try clear k17); (try clear k18); (try clear k19); (try clear k20); (try clear k21); (try clear HXc HBc); simp_all), by first | exact HBc.out | exact HBb.out⟩)
set_option maxHeartbeats 4000000 in
theorem refGood_8 (cs u : Array Value) (x : CmdV) (V : Bool) (w : World) (hs : cs.size = 22) (h0 : cs[0]? = some (.int .i64 8)) (h5 : cs[5]? = some (.int .i64 x.from_)) (h6 : cs[6]? = some (.int .i64 x.until_)) (h10 : cs[10]? = some (.int .i64 x.pk)) (h11 : cs[11]? = some (.int .i64 x.py)) (h12 : cs[12]? = some (.int .i64 x.pi)) (h13 : cs[13]? = some (.string x.id)) (h14 : cs[14]? = some (.bool x.sale)) (h15 : cs[15]? = some (.bool x.credit)) (h16 : cs[16]? = some (.string x.refers)) (h17 : cs[17]? = some (.int .i64 x.day)) (h18 : cs[18]? = some (.string x.country)) (h19 : cs[19]? = some (.string x.number)) (h20 : cs[20]? = some (.string x.currency)) (h21 : cs[21]? = some (.slice x.linesA x.lines.length x.linesC)) (HU : Hid (∀ W, Calls Tryz.prog 23 #[.agg cs] W fun e w1 => e = .returned (.agg u) ∧ Below W.heap.size W w1)) (HSm : Hid (∀ W, Below w.heap.size w W → Calls Tryz.prog 17 #[.agg cs, .agg u] W fun e w1 => e = .returned (.bool true) ∧ Below W.heap.size W w1)) (HD : Hid (∀ W, Below w.heap.size w W → Calls Tryz.prog 11 #[.agg #[.string x.id, .bool x.sale, .bool x.credit, .string x.refers, .int .i64 x.day, .string x.country, .string x.number, .string x.currency, .slice x.linesA x.lines.length x.linesC]] W fun e w1 => e = .returned (.bool (docGood (docOf x) (rightP x.country x.number) (currB x.currency))) ∧ Below W.heap.size W w1)) (hV : (docGood (docOf x) (rightP x.country x.number) (currB x.currency)) = V) : Calls Tryz.prog 9 #[.agg cs] w fun e w1 => e = .returned (.bool V) ∧ Below w.heap.size w w1 := by
 have HH := Lib.hid (And.intro h0 (And.intro h5 (And.intro h6 (And.intro h10 (And.intro h11 (And.intro h12 (And.intro h13 (And.intro h14 (And.intro h15 (And.intro h16 (And.intro h17 (And.intro h18 (And.intro h19 (And.intro h20 (h21)))))))))))))))
 clear h0 h5 h6 h10 h11 h12 h13 h14 h15 h16 h17 h18 h19 h20 h21
 generalize docGood (docOf x) (rightP x.country x.number) (currB x.currency) = m at HD hV
 have HGo : Hid (∀ W, Calls Tryz.prog 25 #[.agg #[.int .i64 x.pk, .int .i64 x.py, .int .i64 x.pi]] W fun e w1 => e = .returned (.bool (Civ.good x.pk x.py x.pi)) ∧ Below W.heap.size W w1) := Lib.hid (fun W => Civs.ref_good x.pk x.py x.pi W)
 generalize Civ.good x.pk x.py x.pi = gd at HGo hV
 have HV := Lib.hid hV
 clear hV
 have HXd := Lib.hid (heap_on (below_drew _) (heap_alloc_new w (.cells cs 28)))
 have HWd := Lib.hid (below_then (below_alloc w (.cells cs 28)) (below_drew _))
 have HI := Lib.hid (cmd_info hs)
 clear hs
 go_enter Tryz.func9, Tryz.ntmps9
 go_wp2
 refine wp_region_held_drew (S := fun V => V.heap[w.heap.size]? = some (.cells cs 28 (0, 0))) (by kernel_rfl) HXd.out ?_
 intro hHeld
 clear HXd
 generalize World.drew _ = wd at HWd hHeld ⊢
 (refine takeH (i := 0) (v := .agg cs) rfl (by kernel_rfl) (by kernel_rfl) (by kernel_rfl) (fun _ _ _ h => h) (Or.inl ⟨by rfl, fun wS hSw => exec_load_row 28 (.tmp 1) rfl w.heap.size rfl 28 cs (0, 0) _ hSw Tryz.underlying28 rfl HI.out⟩) (by assumption) ?_; (try simp only [Act.put, pA, pB, pC]))
 (refine takeH (i := 1) (v := .agg cs) rfl (by kernel_rfl) (by kernel_rfl) (by kernel_rfl) (fun _ _ _ h => h) (Or.inl ⟨by rfl, fun wS hSw => exec_load_row 28 (.tmp 1) rfl w.heap.size rfl 28 cs (0, 0) _ hSw Tryz.underlying28 rfl HI.out⟩) (by assumption) ?_; (try simp only [Act.put, pA, pB, pC]))
 refine aloneH (i := 2) rfl (by kernel_rfl) (fun K hK => ?_)
 rw [if_pos (by rfl)]
 go_simp; ((refine (HU.out _).mono ?_); (rintro e w1 ⟨rfl, hb⟩); have HB1 := Lib.hid hb; clear hb; (try go_simp))
 refine hK.out _ _ (heap_on HB1.out hHeld) ?_
 clear hK K hHeld; intro hHeld; (try simp only [Act.put, pA, pB, pC])
 refine aloneH (i := 3) rfl (by kernel_rfl) (fun K hK => ?_)
 rw [if_pos (by rfl)]
 go_simp; ((refine (HSm.out _ (below_then HWd.out HB1.out)).mono ?_); (rintro e w2 ⟨rfl, hb⟩); have HB2 := Lib.hid hb; clear hb; (try go_simp))
 refine hK.out _ _ (heap_on HB2.out hHeld) ?_
 clear hK K hHeld; intro hHeld; (try simp only [Act.put, pA, pB, pC])
 (refine takeP (i := 4) ?_ rfl (.inl ⟨by rfl, ?_⟩) ?_; rotate_left; (focus ((intro wS hSw); (try dsimp only at hSw); have s0 := hSw; go_simp; (try with_reducible rfl); done)); (try simp only [Act.put, pA, pB, pC]))
 refine wpAnyH_done (by kernel_rfl) ?_ _
 have HXa := Lib.hid hHeld
 have HBa := Lib.hid (below_then HWd.out (below_then HB1.out HB2.out))
 clear hHeld
 have k0 := (cell_of_row w2 w.heap.size 0 _ _ _ HXa.out).trans HH.out.1
 have k5 := (cell_of_row w2 w.heap.size 5 _ _ _ HXa.out).trans HH.out.2.1
 have k6 := (cell_of_row w2 w.heap.size 6 _ _ _ HXa.out).trans HH.out.2.2.1
 have k10 := (cell_of_row w2 w.heap.size 10 _ _ _ HXa.out).trans HH.out.2.2.2.1
 have k11 := (cell_of_row w2 w.heap.size 11 _ _ _ HXa.out).trans HH.out.2.2.2.2.1
 have k12 := (cell_of_row w2 w.heap.size 12 _ _ _ HXa.out).trans HH.out.2.2.2.2.2.1
 cases hA : inB x.from_ 0 2932896
 all_goals
  go_wp2_with (first | (go_at_call 24; refine (ref_in _ _ _ _).mono ?_; rintro e w6 ⟨rfl, rfl⟩) | (go_at_call 25; refine (HGo.out _).mono ?_; rintro e w8 ⟨rfl, hb⟩; clear k0 k5 k6 k10 k11 k12; have HXb := Lib.hid (heap_on hb HXa.out); have HBb := Lib.hid (below_then HBa.out hb); clear hb; have k0 := (cell_of_row w8 w.heap.size 0 _ _ _ HXb.out).trans HH.out.1; have k13 := (cell_of_row w8 w.heap.size 13 _ _ _ HXb.out).trans HH.out.2.2.2.2.2.2.1; have k14 := (cell_of_row w8 w.heap.size 14 _ _ _ HXb.out).trans HH.out.2.2.2.2.2.2.2.1; have k15 := (cell_of_row w8 w.heap.size 15 _ _ _ HXb.out).trans HH.out.2.2.2.2.2.2.2.2.1; have k16 := (cell_of_row w8 w.heap.size 16 _ _ _ HXb.out).trans HH.out.2.2.2.2.2.2.2.2.2.1; have k17 := (cell_of_row w8 w.heap.size 17 _ _ _ HXb.out).trans HH.out.2.2.2.2.2.2.2.2.2.2.1; have k18 := (cell_of_row w8 w.heap.size 18 _ _ _ HXb.out).trans HH.out.2.2.2.2.2.2.2.2.2.2.2.1; have k19 := (cell_of_row w8 w.heap.size 19 _ _ _ HXb.out).trans HH.out.2.2.2.2.2.2.2.2.2.2.2.2.1; have k20 := (cell_of_row w8 w.heap.size 20 _ _ _ HXb.out).trans HH.out.2.2.2.2.2.2.2.2.2.2.2.2.2.1; have k21 := (cell_of_row w8 w.heap.size 21 _ _ _ HXb.out).trans HH.out.2.2.2.2.2.2.2.2.2.2.2.2.2.2; refine Stop.out ?_))
  all_goals
   unfold Stop
   go_wp2_with (first | (go_at_call 24; refine (ref_in _ _ _ _).mono ?_; rintro e w6 ⟨rfl, rfl⟩) | (go_at_call 11; refine (HD.out _ HBb.out).mono ?_; rintro e w9 ⟨rfl, hb⟩; have HBc := Lib.hid (below_then HBb.out hb); clear hb))
   all_goals (go_ret; exact ⟨ret_bool HV.out, HBc.out⟩)
end Go.Proofs.YtmjjenemokojjaaGreat
