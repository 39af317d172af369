/- Plain facts on numbers as bytes. Nothing of the program is imported. A number's bytes: the program's, and the document's own. Small facts on bytes that lie in memory. -/
import Derived.Lib.BitFns
import Derived.Lib.ItoaNum
import Derived.Test.YtplghpamckdklaaGreatQ9
import Derived.Test.YtplghpamckdklaaGreatQ1
namespace Go.Proofs.YtplghpamckdklaaGreat.Blob
open Go
set_option maxRecDepth 100000

/-- how many bytes a number has -/
def nb (m : Nat) : Nat := (Lib.bitLen m + 7) / 8
theorem nb_zero : nb 0 = 0 := by decide
theorem nb_step (m : Nat) (h0 : m ≠ 0) (h : m < 18446744073709551616) : nb m = nb (m / 256) + 1 := by
  unfold nb
  by_cases h1 : m < 256
  · have h2 : m / 256 = 0 := by omega
    have h3 : Lib.bitLen m ≤ 8 := Lib.bitLen_le8 ⟨m, h1⟩
    have h4 : 1 ≤ Lib.bitLen m := by
      rw [Lib.bitLen_half m h0 (by omega)]; omega
    have h5 : Lib.bitLen 0 = 0 := by decide
    rw [h2, h5]; omega
  · rw [Lib.bitLen_shift8 m (by omega) (by omega)]; omega
theorem nb_le (k : Nat) : ∀ m : Nat, m < 256 ^ k → m < 18446744073709551616 → nb m ≤ k := by
  induction k with
  | zero => intro m h _; have : m = 0 := by omega
            subst this; rw [nb_zero]; omega
  | succ k ih =>
    intro m h h2
    by_cases h0 : m = 0
    · subst h0; rw [nb_zero]; omega
    · rw [nb_step m h0 h2]
      have := ih (m / 256) (by rw [Nat.pow_succ] at h; omega) (by omega)
      omega
theorem nb_8 (m : Nat) (h : m < 9223372036854775808) : nb m ≤ 8 := nb_le 8 m (by omega) (by omega)
theorem nb_lt (m : Nat) (h : m < 18446744073709551616) : m < 256 ^ nb m := by
  induction m using Nat.strongRecOn with
  | _ m ih =>
    by_cases h0 : m = 0
    · subst h0; rw [nb_zero]; decide
    · rw [nb_step m h0 h, Nat.pow_succ]
      have := ih (m / 256) (by omega) (by omega)
      omega
theorem nb_pos (m : Nat) (h0 : m ≠ 0) (h : m < 18446744073709551616) : 0 < nb m := by rw [nb_step m h0 h]; omega
theorem nb_ge (m : Nat) (h0 : m ≠ 0) (h : m < 18446744073709551616) : 256 ^ (nb m - 1) ≤ m := by
  induction m using Nat.strongRecOn with
  | _ m ih =>
    rw [nb_step m h0 h, Nat.add_sub_cancel]
    by_cases h1 : m / 256 = 0
    · rw [h1, nb_zero]; omega
    · have := ih (m / 256) (by omega) h1 (by omega)
      have hp := nb_pos (m / 256) h1 (by omega)
      have e : nb (m / 256) = nb (m / 256) - 1 + 1 := by omega
      rw [e, Nat.pow_succ]
      omega

/-- so many bytes of a number, the highest first -/
def be : Nat → Nat → List UInt8
  | 0, _ => []
  | k + 1, m => be k (m / 256) ++ [UInt8.ofNat (m % 256)]
theorem be_length (k : Nat) : ∀ m, (be k m).length = k := by
  induction k with
  | zero => intro m; rfl
  | succ k ih => intro m; simp [be, ih]
theorem be_get (k : Nat) : ∀ m i : Nat, i < k → (be k m)[i]? = some (UInt8.ofNat (m / 256 ^ (k - 1 - i) % 256)) := by
  induction k with
  | zero => intro m i h; omega
  | succ k ih =>
    intro m i h
    simp only [be]
    by_cases hi : i < k
    · rw [List.getElem?_append_left (by rw [be_length]; exact hi), ih (m / 256) i hi, Nat.div_div_eq_div_mul]
      congr 4
      rw [show k + 1 - 1 - i = k - 1 - i + 1 by omega, Nat.pow_succ, Nat.mul_comm]
    · have : i = k := by omega
      subst this
      rw [List.getElem?_append_right (by rw [be_length]; omega), be_length]
      simp
/-- the number that bytes are, the highest first -/
def val (l : List UInt8) : Nat := l.foldl (fun n c => n * 256 + c.toNat) 0
theorem val_snoc (l : List UInt8) (c : UInt8) : val (l ++ [c]) = val l * 256 + c.toNat := by simp [val]
theorem val_be (k : Nat) : ∀ m : Nat, m < 256 ^ k → val (be k m) = m := by
  induction k with
  | zero => intro m h; have : m = 0 := by omega
            subst this; rfl
  | succ k ih =>
    intro m h
    simp only [be]
    rw [val_snoc, ih (m / 256) (by rw [Nat.pow_succ] at h; omega)]
    have : (UInt8.ofNat (m % 256)).toNat = m % 256 := by
      rw [UInt8.toNat_ofNat']; omega
    rw [this]; omega
theorem val_lt_from (l : List UInt8) : ∀ a : Nat, l.foldl (fun n c => n * 256 + c.toNat) a < (a + 1) * 256 ^ l.length := by
  induction l with
  | nil => intro a; simp
  | cons c l ih =>
    intro a
    simp only [List.foldl_cons, List.length_cons]
    refine Nat.lt_of_lt_of_le (ih _) ?_
    have := c.toNat_lt
    rw [Nat.pow_succ, Nat.mul_comm (256 ^ l.length), ← Nat.mul_assoc]
    exact Nat.mul_le_mul_right _ (by omega)
theorem val_lt (l : List UInt8) : val l < 256 ^ l.length := by
  have := val_lt_from l 0
  simpa [val] using this

/-- a number's size as bytes, behind a byte that tells how many -/
def numT (h m : Nat) : List UInt8 := UInt8.ofNat (h + nb m) :: be (nb m) m
theorem numT_length (h m : Nat) : (numT h m).length = nb m + 1 := by simp [numT, be_length]
/-- the next byte -/
theorem be_take (m i : Nat) (k : Nat) (h : i < k) : (be k m).take (i + 1) = (be k m).take i ++ [UInt8.ofNat (m / 256 ^ (k - 1 - i) % 256)] := by
  have hl : i < (be k m).length := by rw [be_length]; exact h
  rw [List.take_succ_eq_append_getElem hl]
  have := be_get k m i h
  rw [List.getElem?_eq_getElem hl] at this
  rw [Option.some.inj this]
/-- the same bytes, the lowest first -/
def le : Nat → Nat → List UInt8
  | 0, _ => []
  | k + 1, m => UInt8.ofNat (m % 256) :: le k (m / 256)
theorem le_length (k : Nat) : ∀ m, (le k m).length = k := by
  induction k with
  | zero => intro m; rfl
  | succ k ih => intro m; simp [le, ih]
theorem le_rev (k : Nat) : ∀ m, (le k m).reverse = be k m := by
  induction k with
  | zero => intro m; rfl
  | succ k ih => intro m; simp [le, be, ih]
theorem le_snoc (k : Nat) : ∀ m, le (k + 1) m = le k m ++ [UInt8.ofNat (m / 256 ^ k % 256)] := by
  induction k with
  | zero => intro m; simp [le]
  | succ k ih =>
    intro m
    have h := ih (m / 256)
    rw [le, h, le, Nat.div_div_eq_div_mul]
    rw [show 256 * 256 ^ k = 256 ^ (k + 1) by rw [Nat.pow_succ, Nat.mul_comm]]
    rfl
end Go.Proofs.YtplghpamckdklaaGreat.Blob

namespace Go.Proofs.YtplghpamckdklaaGreat
open Go.RowKit
set_option maxRecDepth 100000

/-- one byte, laid in a block of its own -/
theorem one_own (w : World) {X : Int} {b : UInt8} (h : X = ((b.toNat : Nat) : Int)) : (w.alloc (.cells #[.int .u8 X] 5)).ownsRow w.heap.size 5 1 (.slice (some ⟨w.heap.size, 0, none⟩) 1 1) ([b] : Text).length (([b] : Text).map cellOf) := by
  subst h
  exact World.ownsRow_lit w #[cellOf b] 1 (Nat.le_refl _) (by unfold maxLen; omega) rfl
theorem one_txt (w : World) {X : Int} {b : UInt8} (h : X = ((b.toNat : Nat) : Int)) : Txt (w.alloc (.cells #[.int .u8 X] 5)) (some ⟨w.heap.size, 0, none⟩) [b] := .of_own (one_own w h)
theorem byte_of (m : Nat) : ((m : Int) % (256 : Int)) = (((UInt8.ofNat m).toNat : Nat) : Int) := by rw [UInt8.toNat_ofNat']; omega

theorem digit_of (m d : Nat) : ((m : Int) / (2 : Int) ^ (8 * d) % (256 : Int)) = (((UInt8.ofNat (m / 256 ^ d % 256)).toNat : Nat) : Int) := by
  have h1 : (2 : Int) ^ (8 * d) = ((256 ^ d : Nat) : Int) := by
    rw [Int.pow_mul, Int.natCast_pow]; rfl
  rw [h1, UInt8.toNat_ofNat', ← Int.natCast_ediv]
  omega
/-- new bytes, and a flag -/
def MadeB (w : World) (l : Text) (e : Ending) (w' : World) : Prop :=
  ∃ g c, e = .returned (.tuple #[.slice (some ⟨g, 0, none⟩) l.length c, .bool true]) ∧ w'.ownsRow w.heap.size 5 1 (.slice (some ⟨g, 0, none⟩) l.length c) l.length (l.map cellOf) ∧ Below w.heap.size w w'

set_option maxRecDepth 100000 in
set_option maxHeartbeats 4000000 in
theorem code_num_pos (m : Nat) (w : World) (hm : m < 9223372036854775808) :
    Calls Tryz.prog 93 #[.int .i64 m] w (MadeB w (Blob.numT 0 m)) := by
  have hk8 := Blob.nb_8 m hm
  obtain ⟨K, hK⟩ : ∃ K, K = Blob.nb m := ⟨_, rfl⟩
  have HK : Hid (((Lib.bitLen m : Nat) : Int) + 7 = (Lib.bitLen m : Int) + 7 ∧ ((Lib.bitLen m : Int) + 7) / 8 = (K : Int)) := Lib.hid ⟨rfl, by rw [hK]; unfold Blob.nb; omega⟩
  rw [← hK] at hk8
  have hbl : (Lib.bitLen m : Int) ≤ 64 := by unfold Blob.nb at hK; omega
  have HN : Hid (Blob.numT 0 m = UInt8.ofNat K :: Blob.be K m) := Lib.hid (by unfold Blob.numT; rw [hK, Nat.zero_add])
  clear hK
  have hlt : (m : Int) ≤ 9223372036854775807 := by omega
  have hmin : ((m : Int) == -9223372036854775808) = false := beq_false_of_ne (by omega)
  have HL : Hid (∀ W, Calls Tryz.prog 113 #[.int .u64 m] W fun e w' => e = .returned (.int .i64 (Lib.bitLen m)) ∧ W = w') := Lib.hid (fun W => (bits_Len (m : Int) W (by omega) (by omega)).mono fun e w' ⟨h1, h2⟩ => ⟨h1, h2.symm⟩)
  go_enter Tryz.func93, Tryz.ntmps93
  go_wp2_with (go_at_call 113; refine (HL.out _).mono ?_; rintro e w' ⟨rfl, rfl⟩)
  rw [HK.out.2]
  go_loopw [7, 8] (fun v i wr => ∃ j : Nat, j ≤ K ∧ i = .int .i64 ((K : Int) - 1 - (j : Int)) ∧ Hid (wr.ownsRow w.heap.size 5 1 v (UInt8.ofNat K :: (Blob.be K m).take j).length ((UInt8.ofNat K :: (Blob.be K m).take j).map cellOf)) ∧ Hid (Below w.heap.size w wr) ∧ Hid (v.ownBlock ≠ none)) (fun _ i _ => (intOf i + 1).toNat)
  case atStart => exact ⟨0, Nat.zero_le _, by simp, Lib.hid (by rw [List.take_zero]; exact one_own w (by rw [UInt8.toNat_ofNat']; omega)), Lib.hid ((Below.refl _ _).alloc (Nat.le_refl _) _), Lib.hid (by simp [Value.ownBlock])⟩
  case round =>
    obtain ⟨j, hj, rfl, HO, HB, HV⟩ := hrel
    by_cases hlt : j < K
    · have HS := Lib.hid (Blob.be_take m j K hlt)
      obtain ⟨d, hd⟩ : ∃ d : Nat, K = d + j + 1 := ⟨K - j - 1, by omega⟩
      have HI : Hid ((K : Int) - 1 - (j : Int) = (d : Int)) := Lib.hid (by omega)
      have hd8 : (d : Int) < 8 := by omega
      have HD : Hid (K - 1 - j = d) := Lib.hid (by omega)
      rw [HI.out]
      have hl1 : (UInt8.ofNat K :: (Blob.be K m).take j).length ≤ 9 := by rw [List.length_cons, List.length_take]; omega
      obtain ⟨J, hJ⟩ : ∃ J, J = UInt8.ofNat K :: (Blob.be K m).take j := ⟨_, rfl⟩
      rw [← hJ] at hl1 HO
      have HJ := Lib.hid hJ
      obtain ⟨g, c, rfl, hg⟩ := own_form HO.out HV.out
      clear hJ
      obtain ⟨b, hb⟩ : ∃ b, b = UInt8.ofNat (m / 256 ^ d % 256) := ⟨_, rfl⟩
      have HX := Lib.hid (digit_of m d)
      rw [← hb] at HX
      have HJ2 : Hid (J ++ [b] = UInt8.ofNat K :: (Blob.be K m).take (j + 1)) := Lib.hid (by rw [HJ.out, HS.out, HD.out, hb]; rfl)
      clear hd hb
      go_wp2_with (refine wpList_append_own_text (o := ⟨some 39, _, _, _, _, _⟩) rfl _ _ rfl rfl w.heap.size w _ J [b] (J ++ [b]) rfl ?o1 (some ⟨wr.heap.size, 0, none⟩) 1 rfl ?o2 ?o3 ?o4 ?o5 ?o6 rfl ?_; (case o1 => exact own_below HO.out ((Below.refl _ _).alloc (Nat.le_refl _) _)); (case o2 => exact one_txt wr HX.out); (case o3 => simp); (case o4 => simp; omega); (case o5 => exact HB.out.alloc HB.out.size _); (case o6 => exact Nat.le_trans HB.out.size (by simp)); intro v2 w2 hown2 hb2 hv2; have HO2 := Lib.hid hown2; have HB2 := Lib.hid hb2; have HV2 := Lib.hid (hv2 HV.out); clear hown2 hb2 hv2)
      go_roundw
      case rel => exact ⟨j + 1, by omega, congrArg (Value.int .i64) (by have := HI.out; omega), by rw [← HJ2.out]; exact HO2, HB2, HV2⟩
      case measure => simp [intOf]
    · obtain rfl : j = K := by omega
      have HE : Hid (UInt8.ofNat j :: (Blob.be j m).take j = Blob.numT 0 m) := Lib.hid (by rw [HN.out, List.take_of_length_le (by rw [Blob.be_length]; omega)])
      rw [HE.out] at HO
      obtain ⟨g, c, rfl, hg⟩ := own_form HO.out HV.out
      go_wp2
      go_ret2
      exact ⟨g, c, rfl, HO.out, HB.out⟩
set_option maxRecDepth 100000 in
set_option maxHeartbeats 4000000 in
theorem code_num_neg (m : Nat) (w : World) (h0 : 0 < m) (hm : m < 9223372036854775808) :
    Calls Tryz.prog 93 #[.int .i64 (-(m : Int))] w (MadeB w (Blob.numT 128 m)) := by
  have hk8 := Blob.nb_8 m hm
  obtain ⟨K, hK⟩ : ∃ K, K = Blob.nb m := ⟨_, rfl⟩
  have HK : Hid (((Lib.bitLen m : Nat) : Int) + 7 = (Lib.bitLen m : Int) + 7 ∧ ((Lib.bitLen m : Int) + 7) / 8 = (K : Int)) := Lib.hid ⟨rfl, by rw [hK]; unfold Blob.nb; omega⟩
  rw [← hK] at hk8
  have hbl : (Lib.bitLen m : Int) ≤ 64 := by unfold Blob.nb at hK; omega
  have HN : Hid (Blob.numT 128 m = UInt8.ofNat (128 + K) :: Blob.be K m) := Lib.hid (by unfold Blob.numT; rw [hK])
  clear hK
  have hlt : (m : Int) ≤ 9223372036854775807 := by omega
  have hmin : (-(m : Int) == -9223372036854775808) = false := beq_false_of_ne (by omega)
  have hneg : -(m : Int) < 0 := by omega
  have hlo : -9223372036854775807 ≤ -(m : Int) := by omega
  have HL : Hid (∀ W, Calls Tryz.prog 113 #[.int .u64 m] W fun e w' => e = .returned (.int .i64 (Lib.bitLen m)) ∧ W = w') := Lib.hid (fun W => (bits_Len (m : Int) W (by omega) (by omega)).mono fun e w' ⟨h1, h2⟩ => ⟨h1, h2.symm⟩)
  go_enter Tryz.func93, Tryz.ntmps93
  go_wp2_with (go_at_call 113; refine (HL.out _).mono ?_; rintro e w' ⟨rfl, rfl⟩)
  rw [HK.out.2]
  go_loopw [7, 8] (fun v i wr => ∃ j : Nat, j ≤ K ∧ i = .int .i64 ((K : Int) - 1 - (j : Int)) ∧ Hid (wr.ownsRow w.heap.size 5 1 v (UInt8.ofNat (128 + K) :: (Blob.be K m).take j).length ((UInt8.ofNat (128 + K) :: (Blob.be K m).take j).map cellOf)) ∧ Hid (Below w.heap.size w wr) ∧ Hid (v.ownBlock ≠ none)) (fun _ i _ => (intOf i + 1).toNat)
  case atStart => exact ⟨0, Nat.zero_le _, by simp, Lib.hid (by rw [List.take_zero]; exact one_own w (by rw [UInt8.toNat_ofNat']; omega)), Lib.hid ((Below.refl _ _).alloc (Nat.le_refl _) _), Lib.hid (by simp [Value.ownBlock])⟩
  case round =>
    obtain ⟨j, hj, rfl, HO, HB, HV⟩ := hrel
    by_cases hlt : j < K
    · have HS := Lib.hid (Blob.be_take m j K hlt)
      obtain ⟨d, hd⟩ : ∃ d : Nat, K = d + j + 1 := ⟨K - j - 1, by omega⟩
      have HI : Hid ((K : Int) - 1 - (j : Int) = (d : Int)) := Lib.hid (by omega)
      have hd8 : (d : Int) < 8 := by omega
      have HD : Hid (K - 1 - j = d) := Lib.hid (by omega)
      rw [HI.out]
      have hl1 : (UInt8.ofNat (128 + K) :: (Blob.be K m).take j).length ≤ 9 := by rw [List.length_cons, List.length_take]; omega
      obtain ⟨J, hJ⟩ : ∃ J, J = UInt8.ofNat (128 + K) :: (Blob.be K m).take j := ⟨_, rfl⟩
      rw [← hJ] at hl1 HO
      have HJ := Lib.hid hJ
      obtain ⟨g, c, rfl, hg⟩ := own_form HO.out HV.out
      clear hJ
      obtain ⟨b, hb⟩ : ∃ b, b = UInt8.ofNat (m / 256 ^ d % 256) := ⟨_, rfl⟩
      have HX := Lib.hid (digit_of m d)
      rw [← hb] at HX
      have HJ2 : Hid (J ++ [b] = UInt8.ofNat (128 + K) :: (Blob.be K m).take (j + 1)) := Lib.hid (by rw [HJ.out, HS.out, HD.out, hb]; rfl)
      clear hd hb
      go_wp2_with (refine wpList_append_own_text (o := ⟨some 39, _, _, _, _, _⟩) rfl _ _ rfl rfl w.heap.size w _ J [b] (J ++ [b]) rfl ?o1 (some ⟨wr.heap.size, 0, none⟩) 1 rfl ?o2 ?o3 ?o4 ?o5 ?o6 rfl ?_; (case o1 => exact own_below HO.out ((Below.refl _ _).alloc (Nat.le_refl _) _)); (case o2 => exact one_txt wr HX.out); (case o3 => simp); (case o4 => simp; omega); (case o5 => exact HB.out.alloc HB.out.size _); (case o6 => exact Nat.le_trans HB.out.size (by simp)); intro v2 w2 hown2 hb2 hv2; have HO2 := Lib.hid hown2; have HB2 := Lib.hid hb2; have HV2 := Lib.hid (hv2 HV.out); clear hown2 hb2 hv2)
      go_roundw
      case rel => exact ⟨j + 1, by omega, congrArg (Value.int .i64) (by have := HI.out; omega), by rw [← HJ2.out]; exact HO2, HB2, HV2⟩
      case measure => simp [intOf]
    · obtain rfl : j = K := by omega
      have HE : Hid (UInt8.ofNat (128 + j) :: (Blob.be j m).take j = Blob.numT 128 m) := Lib.hid (by rw [HN.out, List.take_of_length_le (by rw [Blob.be_length]; omega)])
      rw [HE.out] at HO
      obtain ⟨g, c, rfl, hg⟩ := own_form HO.out HV.out
      go_wp2
      go_ret2
      exact ⟨g, c, rfl, HO.out, HB.out⟩

set_option maxHeartbeats 400000 in
theorem code_num_min (w : World) : Calls Tryz.prog 93 #[.int .i64 (-9223372036854775808)] w fun e w' => e = .returned (.tuple #[.slice none 0 0, .bool false]) ∧ w = w' := by
  go_enter Tryz.func93, Tryz.ntmps93
  go_wp2
  go_ret2
  exact ⟨rfl, rfl⟩
end Go.Proofs.YtplghpamckdklaaGreat

namespace Go.Proofs.YtplghpamckdklaaGreat
open Go.RowKit
set_option maxRecDepth 100000

theorem own_base {w : World} {B B' : Nat} {v : Value} {n : Nat} {xs : List Value} (h : w.ownsRow B 5 1 v n xs) (hB : B' ≤ B) : w.ownsRow B' 5 1 v n xs := by
  refine ⟨h.1, ?_⟩
  rcases h.2 with h | ⟨g, c, cur, h1, h2, h3⟩
  · exact .inl h
  · exact .inr ⟨g, c, cur, h1, Nat.le_trans hB h2, h3⟩
theorem le_get (k : Nat) : ∀ m i : Nat, i < k → (Blob.le k m)[i]? = some (UInt8.ofNat (m / 256 ^ i % 256)) := by
  induction k with
  | zero => intro m i h; omega
  | succ k ih =>
    intro m i h
    cases i with
    | zero => simp [Blob.le]
    | succ i =>
      have := ih (m / 256) i (by omega)
      simp only [Blob.le, List.getElem?_cons_succ]
      rw [this, Nat.div_div_eq_div_mul, show 256 * 256 ^ i = 256 ^ (i + 1) by rw [Nat.pow_succ, Nat.mul_comm]]

end Go.Proofs.YtplghpamckdklaaGreat
