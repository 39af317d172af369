/- A number's bytes: the program's, and the document's own. Small facts on bytes that lie in memory. What is written, as bytes: the program's texts and flags. -/
import Derived.Test.YtplghpamckdklaaGreatE9
import Derived.Test.YtplghpamckdklaaGreatE1
namespace Go.Proofs.YtplghpamckdklaaGreat
open Go.RowKit
set_option maxRecDepth 100000

/-- one byte, laid in a block of its own -/
theorem one_own (w : World) {X : Int} {b : UInt8} (h : X = ((b.toNat : Nat) : Int)) : (w.alloc (.cells #[.int .u8 X] 5)).ownsRow w.heap.size 5 1 (.slice (some ⟨w.heap.size, 0, none⟩) 1 1) ([b] : Text).length (([b] : Text).map cellOf) := by
 subst h
 exact World.ownsRow_lit w #[cellOf b] 1 (Nat.le_refl _) (by unfold maxLen; omega) rfl
theorem one_txt (w : World) {X : Int} {b : UInt8} (h : X = ((b.toNat : Nat) : Int)) : Txt (w.alloc (.cells #[.int .u8 X] 5)) (some ⟨w.heap.size, 0, none⟩) [b] := .of_own (one_own w h)
theorem byte_of (m : Nat) : ((m : Int) % (256 : Int)) = (((UInt8.ofNat m).toNat : Nat) : Int) := by rw [UInt8.toNat_ofNat']; omega

theorem digit_of (m d : Nat) : ((m : Int) / (2 : Int) ^ (8 * d) % (256 : Int)) = (((UInt8.ofNat (m / 256 ^ d % 256)).toNat : Nat) : Int) := by
 have h1 : (2 : Int) ^ (8 * d) = ((256 ^ d : Nat) : Int) := by
  rw [Int.pow_mul, Int.natCast_pow]; rfl
 rw [h1, UInt8.toNat_ofNat', ← Int.natCast_ediv]
 omega
/-- new bytes, and a flag -/
def MadeB (w : World) (l : Text) (e : Ending) (w' : World) : Prop :=
 ∃ g c, e = .returned (.tuple #[.slice (some ⟨g, 0, none⟩) l.length c, .bool true]) ∧ w'.ownsRow w.heap.size 5 1 (.slice (some ⟨g, 0, none⟩) l.length c) l.length (l.map cellOf) ∧ Below w.heap.size w w'

set_option maxRecDepth 100000 in
set_option maxHeartbeats 4000000 in
theorem code_num_pos (m : Nat) (w : World) (hm : m < 9223372036854775808) :
 Calls Tryz.prog 93 #[.int .i64 m] w (MadeB w (Blob.numT 0 m)) := by
 have hk8 := Blob.nb_8 m hm
 obtain ⟨K, hK⟩ : ∃ K, K = Blob.nb m := ⟨_, rfl⟩
 have HK : Hid (((Lib.bitLen m : Nat) : Int) + 7 = (Lib.bitLen m : Int) + 7 ∧ ((Lib.bitLen m : Int) + 7) / 8 = (K : Int)) := Lib.hid ⟨rfl, by rw [hK]; unfold Blob.nb; omega⟩
 rw [← hK] at hk8
 have hbl : (Lib.bitLen m : Int) ≤ 64 := by unfold Blob.nb at hK; omega
 have HN : Hid (Blob.numT 0 m = UInt8.ofNat K :: Blob.be K m) := Lib.hid (by unfold Blob.numT; rw [hK, Nat.zero_add])
 clear hK
 have hlt : (m : Int) ≤ 9223372036854775807 := by omega
 have hmin : ((m : Int) == -9223372036854775808) = false := beq_false_of_ne (by omega)
 have HL : Hid (∀ W, Calls Tryz.prog 113 #[.int .u64 m] W fun e w' => e = .returned (.int .i64 (Lib.bitLen m)) ∧ W = w') := Lib.hid (fun W => (bits_Len (m : Int) W (by omega) (by omega)).mono fun e w' ⟨h1, h2⟩ => ⟨h1, h2.symm⟩)
 go_enter Tryz.func93, Tryz.ntmps93
 go_wp2_with (go_at_call 113; refine (HL.out _).mono ?_; rintro e w' ⟨rfl, rfl⟩)
 rw [HK.out.2]
 go_loopw [7, 8] (fun v i wr => ∃ j : Nat, j ≤ K ∧ i = .int .i64 ((K : Int) - 1 - (j : Int)) ∧ Hid (wr.ownsRow w.heap.size 5 1 v (UInt8.ofNat K :: (Blob.be K m).take j).length ((UInt8.ofNat K :: (Blob.be K m).take j).map cellOf)) ∧ Hid (Below w.heap.size w wr) ∧ Hid (v.ownBlock ≠ none)) (fun _ i _ => (intOf i + 1).toNat)
 case atStart => exact ⟨0, Nat.zero_le _, by simp, Lib.hid (by rw [List.take_zero]; exact one_own w (by rw [UInt8.toNat_ofNat']; omega)), Lib.hid ((Below.refl _ _).alloc (Nat.le_refl _) _), Lib.hid (by simp [Value.ownBlock])⟩
 case round =>
  obtain ⟨j, hj, rfl, HO, HB, HV⟩ := hrel
  by_cases hlt : j < K
  · have HS := Lib.hid (Blob.be_take m j K hlt)
    obtain ⟨d, hd⟩ : ∃ d : Nat, K = d + j + 1 := ⟨K - j - 1, by omega⟩
    have HI : Hid ((K : Int) - 1 - (j : Int) = (d : Int)) := Lib.hid (by omega)
    have hd8 : (d : Int) < 8 := by omega
    have HD : Hid (K - 1 - j = d) := Lib.hid (by omega)
    rw [HI.out]
    have hl1 : (UInt8.ofNat K :: (Blob.be K m).take j).length ≤ 9 := by rw [List.length_cons, List.length_take]; omega
    obtain ⟨J, hJ⟩ : ∃ J, J = UInt8.ofNat K :: (Blob.be K m).take j := ⟨_, rfl⟩
    rw [← hJ] at hl1 HO
    have HJ := Lib.hid hJ
    obtain ⟨g, c, rfl, hg⟩ := own_form HO.out HV.out
    clear hJ
    obtain ⟨b, hb⟩ : ∃ b, b = UInt8.ofNat (m / 256 ^ d % 256) := ⟨_, rfl⟩
    have HX := Lib.hid (digit_of m d)
    rw [← hb] at HX
    have HJ2 : Hid (J ++ [b] = UInt8.ofNat K :: (Blob.be K m).take (j + 1)) := Lib.hid (by rw [HJ.out, HS.out, HD.out, hb]; rfl)
    clear hd hb
    go_wp2_with (refine wpList_append_own_text (o := ⟨some 39, _, _, _, _, _⟩) rfl _ _ rfl rfl w.heap.size w _ J [b] (J ++ [b]) rfl ?o1 (some ⟨wr.heap.size, 0, none⟩) 1 rfl ?o2 ?o3 ?o4 ?o5 ?o6 rfl ?_; (case o1 => exact own_below HO.out ((Below.refl _ _).alloc (Nat.le_refl _) _)); (case o2 => exact one_txt wr HX.out); (case o3 => simp); (case o4 => simp; omega); (case o5 => exact HB.out.alloc HB.out.size _); (case o6 => exact Nat.le_trans HB.out.size (by simp)); intro v2 w2 hown2 hb2 hv2; have HO2 := Lib.hid hown2; have HB2 := Lib.hid hb2; have HV2 := Lib.hid (hv2 HV.out); clear hown2 hb2 hv2)
    go_roundw
    case rel => exact ⟨j + 1, by omega, congrArg (Value.int .i64) (by have := HI.out; omega), by rw [← HJ2.out]; exact HO2, HB2, HV2⟩
    case measure => simp [intOf]
  · obtain rfl : j = K := by omega
    have HE : Hid (UInt8.ofNat j :: (Blob.be j m).take j = Blob.numT 0 m) := Lib.hid (by rw [HN.out, List.take_of_length_le (by rw [Blob.be_length]; omega)])
    rw [HE.out] at HO
    obtain ⟨g, c, rfl, hg⟩ := own_form HO.out HV.out
    go_wp2
    go_ret2
    exact ⟨g, c, rfl, HO.out, HB.out⟩
set_option maxRecDepth 100000 in
set_option maxHeartbeats 4000000 in
theorem code_num_neg (m : Nat) (w : World) (h0 : 0 < m) (hm : m < 9223372036854775808) :
 Calls Tryz.prog 93 #[.int .i64 (-(m : Int))] w (MadeB w (Blob.numT 128 m)) := by
 have hk8 := Blob.nb_8 m hm
 obtain ⟨K, hK⟩ : ∃ K, K = Blob.nb m := ⟨_, rfl⟩
 have HK : Hid (((Lib.bitLen m : Nat) : Int) + 7 = (Lib.bitLen m : Int) + 7 ∧ ((Lib.bitLen m : Int) + 7) / 8 = (K : Int)) := Lib.hid ⟨rfl, by rw [hK]; unfold Blob.nb; omega⟩
 rw [← hK] at hk8
 have hbl : (Lib.bitLen m : Int) ≤ 64 := by unfold Blob.nb at hK; omega
 have HN : Hid (Blob.numT 128 m = UInt8.ofNat (128 + K) :: Blob.be K m) := Lib.hid (by unfold Blob.numT; rw [hK])
 clear hK
 have hlt : (m : Int) ≤ 9223372036854775807 := by omega
 have hmin : (-(m : Int) == -9223372036854775808) = false := beq_false_of_ne (by omega)
 have hneg : -(m : Int) < 0 := by omega
 have hlo : -9223372036854775807 ≤ -(m : Int) := by omega
 have HL : Hid (∀ W, Calls Tryz.prog 113 #[.int .u64 m] W fun e w' => e = .returned (.int .i64 (Lib.bitLen m)) ∧ W = w') := Lib.hid (fun W => (bits_Len (m : Int) W (by omega) (by omega)).mono fun e w' ⟨h1, h2⟩ => ⟨h1, h2.symm⟩)
 go_enter Tryz.func93, Tryz.ntmps93
 go_wp2_with (go_at_call 113; refine (HL.out _).mono ?_; rintro e w' ⟨rfl, rfl⟩)
 rw [HK.out.2]
 go_loopw [7, 8] (fun v i wr => ∃ j : Nat, j ≤ K ∧ i = .int .i64 ((K : Int) - 1 - (j : Int)) ∧ Hid (wr.ownsRow w.heap.size 5 1 v (UInt8.ofNat (128 + K) :: (Blob.be K m).take j).length ((UInt8.ofNat (128 + K) :: (Blob.be K m).take j).map cellOf)) ∧ Hid (Below w.heap.size w wr) ∧ Hid (v.ownBlock ≠ none)) (fun _ i _ => (intOf i + 1).toNat)
 case atStart => exact ⟨0, Nat.zero_le _, by simp, Lib.hid (by rw [List.take_zero]; exact one_own w (by rw [UInt8.toNat_ofNat']; omega)), Lib.hid ((Below.refl _ _).alloc (Nat.le_refl _) _), Lib.hid (by simp [Value.ownBlock])⟩
 case round =>
  obtain ⟨j, hj, rfl, HO, HB, HV⟩ := hrel
  by_cases hlt : j < K
  · have HS := Lib.hid (Blob.be_take m j K hlt)
    obtain ⟨d, hd⟩ : ∃ d : Nat, K = d + j + 1 := ⟨K - j - 1, by omega⟩
    have HI : Hid ((K : Int) - 1 - (j : Int) = (d : Int)) := Lib.hid (by omega)
    have hd8 : (d : Int) < 8 := by omega
    have HD : Hid (K - 1 - j = d) := Lib.hid (by omega)
    rw [HI.out]
    have hl1 : (UInt8.ofNat (128 + K) :: (Blob.be K m).take j).length ≤ 9 := by rw [List.length_cons, List.length_take]; omega
    obtain ⟨J, hJ⟩ : ∃ J, J = UInt8.ofNat (128 + K) :: (Blob.be K m).take j := ⟨_, rfl⟩
    rw [← hJ] at hl1 HO
    have HJ := Lib.hid hJ
    obtain ⟨g, c, rfl, hg⟩ := own_form HO.out HV.out
    clear hJ
    obtain ⟨b, hb⟩ : ∃ b, b = UInt8.ofNat (m / 256 ^ d % 256) := ⟨_, rfl⟩
    have HX := Lib.hid (digit_of m d)
    rw [← hb] at HX
    have HJ2 : Hid (J ++ [b] = UInt8.ofNat (128 + K) :: (Blob.be K m).take (j + 1)) := Lib.hid (by rw [HJ.out, HS.out, HD.out, hb]; rfl)
    clear hd hb
    go_wp2_with (refine wpList_append_own_text (o := ⟨some 39, _, _, _, _, _⟩) rfl _ _ rfl rfl w.heap.size w _ J [b] (J ++ [b]) rfl ?o1 (some ⟨wr.heap.size, 0, none⟩) 1 rfl ?o2 ?o3 ?o4 ?o5 ?o6 rfl ?_; (case o1 => exact own_below HO.out ((Below.refl _ _).alloc (Nat.le_refl _) _)); (case o2 => exact one_txt wr HX.out); (case o3 => simp); (case o4 => simp; omega); (case o5 => exact HB.out.alloc HB.out.size _); (case o6 => exact Nat.le_trans HB.out.size (by simp)); intro v2 w2 hown2 hb2 hv2; have HO2 := Lib.hid hown2; have HB2 := Lib.hid hb2; have HV2 := Lib.hid (hv2 HV.out); clear hown2 hb2 hv2)
    go_roundw
    case rel => exact ⟨j + 1, by omega, congrArg (Value.int .i64) (by have := HI.out; omega), by rw [← HJ2.out]; exact HO2, HB2, HV2⟩
    case measure => simp [intOf]
  · obtain rfl : j = K := by omega
    have HE : Hid (UInt8.ofNat (128 + j) :: (Blob.be j m).take j = Blob.numT 128 m) := Lib.hid (by rw [HN.out, List.take_of_length_le (by rw [Blob.be_length]; omega)])
    rw [HE.out] at HO
    obtain ⟨g, c, rfl, hg⟩ := own_form HO.out HV.out
    go_wp2
    go_ret2
    exact ⟨g, c, rfl, HO.out, HB.out⟩

set_option maxHeartbeats 400000 in
theorem code_num_min (w : World) : Calls Tryz.prog 93 #[.int .i64 (-9223372036854775808)] w fun e w' => e = .returned (.tuple #[.slice none 0 0, .bool false]) ∧ w = w' := by
 go_enter Tryz.func93, Tryz.ntmps93
 go_wp2
 go_ret2
 exact ⟨rfl, rfl⟩
end Go.Proofs.YtplghpamckdklaaGreat

namespace Go.Proofs.YtplghpamckdklaaGreat
open Go.RowKit
set_option maxRecDepth 100000

theorem own_base {w : World} {B B' : Nat} {v : Value} {n : Nat} {xs : List Value} (h : w.ownsRow B 5 1 v n xs) (hB : B' ≤ B) : w.ownsRow B' 5 1 v n xs := by
 refine ⟨h.1, ?_⟩
 rcases h.2 with h | ⟨g, c, cur, h1, h2, h3⟩
 · exact .inl h
 · exact .inr ⟨g, c, cur, h1, Nat.le_trans hB h2, h3⟩
theorem le_get (k : Nat) : ∀ m i : Nat, i < k → (Blob.le k m)[i]? = some (UInt8.ofNat (m / 256 ^ i % 256)) := by
 induction k with
 | zero => intro m i h; omega
 | succ k ih =>
   intro m i h
   cases i with
   | zero => simp [Blob.le]
   | succ i =>
     have := ih (m / 256) i (by omega)
     simp only [Blob.le, List.getElem?_cons_succ]
     rw [this, Nat.div_div_eq_div_mul, show 256 * 256 ^ i = 256 ^ (i + 1) by rw [Nat.pow_succ, Nat.mul_comm]]

end Go.Proofs.YtplghpamckdklaaGreat

namespace Go.Proofs.YtplghpamckdklaaGreat
open Go.RowKit
set_option maxRecDepth 100000
/-- a text's bytes, behind how many there are -/
def textT (s : ByteArray) : Text := Blob.numT 0 s.size ++ strT s
def flagT (b : Bool) : Text := if b then [1] else [0]

theorem num_len (h m : Nat) (hm : m < 9223372036854775808) : (Blob.numT h m).length ≤ 9 := by
 rw [Blob.numT_length]; have := Blob.nb_8 m hm; omega

set_option maxHeartbeats 1000000 in
theorem code_text (s : ByteArray) (w : World) (hs : s.size ≤ 65536) :
 Calls Tryz.prog 94 #[.string s] w (MadeB w (textT s)) := by
 have hsz : ((s.size : Nat) : Int) ≤ 65536 := by omega
 have hn : (Blob.numT 0 s.size).length ≤ 9 := num_len 0 s.size (by omega)
 have HC : Hid (Calls Tryz.prog 93 #[.int .i64 s.size] w (MadeB w (Blob.numT 0 s.size))) := Lib.hid (code_num_pos s.size w (by omega))
 obtain ⟨J, hJ⟩ : ∃ J, J = Blob.numT 0 s.size := ⟨_, rfl⟩
 rw [← hJ] at HC hn
 have HT : Hid (textT s = J ++ strT s) := Lib.hid (by rw [hJ]; rfl)
 have HP : Hid (0 < (textT s).length) := Lib.hid (by unfold textT; rw [List.length_append, Blob.numT_length]; omega)
 clear hJ
 go_enter Tryz.func94, Tryz.ntmps94
 go_wp2_with (first
  | (go_at_call 93; refine HC.out.mono ?_; rintro e w1 ⟨g1, c1, rfl, ho1, hb1⟩; have HO1 := Lib.hid ho1; have HB1 := Lib.hid hb1; clear ho1 hb1)
  | (refine wpList_append_own_str (o := ⟨some 17, _, _, _, _, _⟩) rfl _ _ rfl w.heap.size w _ J (textT s) rfl HO1.out s rfl ?o1 HB1.out HB1.out.size HT.out ?_; (case o1 => omega); intro v2 w2 hown2 hb2; have HO2 := Lib.hid hown2; have HB2 := Lib.hid hb2; clear hown2 hb2))
 obtain ⟨g, c, hv, _, _⟩ := HO2.out.form HP.out
 subst hv
 go_ret2
 exact ⟨g, c, rfl, HO2.out, HB2.out⟩
set_option maxHeartbeats 400000 in
theorem code_text_no (s : ByteArray) (w : World) (hs : 65536 < s.size) (hm : s.size ≤ 9223372036854775807) :
 Calls Tryz.prog 94 #[.string s] w fun e w' => e = .returned (.tuple #[.slice none 0 0, .bool false]) ∧ w = w' := by
 have hsz : 65536 < ((s.size : Nat) : Int) := by omega
 go_enter Tryz.func94, Tryz.ntmps94
 go_wp2
 go_ret2
 exact ⟨rfl, rfl⟩

theorem code_flag (b : Bool) (w : World) : Calls Tryz.prog 114 #[.bool b] w (MadeB w (flagT b)) := by
 cases b
 all_goals
  go_enter Tryz.func114, Tryz.ntmps114
  go_wp2
  go_ret2
  exact ⟨_, 1, rfl, one_own w rfl, (Below.refl _ _).alloc (Nat.le_refl _) _⟩
end Go.Proofs.YtplghpamckdklaaGreat
