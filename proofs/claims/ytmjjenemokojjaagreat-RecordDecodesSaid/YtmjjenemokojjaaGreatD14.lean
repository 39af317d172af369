/- What was written is read; what is read has these bytes. Plain facts. The document's reader: a flag, what is left, whether it is done. The document's reader: a flag. -/
import Derived.Test.YtmjjenemokojjaaGreatD10
import Derived.Deep.QuietTactic
import Derived.BigQuiet
import Derived.WalkSmall
namespace Go.Proofs.YtmjjenemokojjaaGreat
open Go.RowKit
set_option maxRecDepth 100000

theorem be_val_n (n : Nat) : ∀ l : Text, l.length = n → Blob.be l.length (Blob.val l) = l := by
 induction n with
 | zero =>
   intro l hl
   have : l = [] := List.eq_nil_of_length_eq_zero hl
   subst this; rfl
 | succ n ih =>
   intro l hl
   rcases List.eq_nil_or_concat l with rfl | ⟨l', c, rfl⟩
   · simp at hl
   · rw [List.concat_eq_append] at *
     rw [Blob.val_snoc, List.length_append]
     simp only [List.length_cons, List.length_nil, Blob.be]
     have h := c.toNat_lt
     have h1 : (Blob.val l' * 256 + c.toNat) / 256 = Blob.val l' := by omega
     have h2 : (Blob.val l' * 256 + c.toNat) % 256 = c.toNat := by omega
     rw [h1, h2, ih l' (by simpa using hl)]
     simp
theorem be_val (l : Text) : Blob.be l.length (Blob.val l) = l := be_val_n _ l rfl
theorem val_ge_from (l : Text) : ∀ a : Nat, a * 256 ^ l.length ≤ l.foldl (fun n c => n * 256 + c.toNat) a := by
 induction l with
 | nil => intro a; simp
 | cons c l ih =>
   intro a
   simp only [List.foldl_cons, List.length_cons]
   refine Nat.le_trans ?_ (ih _)
   rw [Nat.pow_succ, Nat.mul_comm (256 ^ l.length), ← Nat.mul_assoc]
   exact Nat.mul_le_mul_right _ (by omega)
theorem val_ge (c : UInt8) (l : Text) (hc : c ≠ 0) : 256 ^ l.length ≤ Blob.val (c :: l) := by
 have h := val_ge_from l (0 * 256 + c.toNat)
 have hp : 0 < c.toNat := by
  rcases Nat.eq_zero_or_pos c.toNat with h | h
  · exact absurd (UInt8.toNat_inj.1 (by rw [h]; rfl)) hc
  · exact h
 refine Nat.le_trans ?_ h
 rw [Nat.zero_mul, Nat.zero_add]
 exact Nat.le_mul_of_pos_left _ hp
theorem nb_eq (m k : Nat) (hm : m < 9223372036854775808) (h1 : m < 256 ^ k) (h2 : k = 0 ∨ 256 ^ (k - 1) ≤ m) : Blob.nb m = k := by
 have a := Blob.nb_le k m h1 (by omega)
 have b := Blob.nb_lt m (by omega)
 rcases h2 with rfl | h2
 · omega
 · rcases Nat.lt_or_ge (Blob.nb m) k with h | h
   · exfalso
     have : 256 ^ Blob.nb m ≤ 256 ^ (k - 1) := Nat.pow_le_pow_right (by omega) (by omega)
     omega
   · omega
theorem sizeP_be (m : Nat) (r : Text) (hm : m < 9223372036854775808) : sizeP (Blob.be (Blob.nb m) m ++ r) (Blob.nb m) = some (m, r) := by
 have hl := Blob.be_length (Blob.nb m) m
 have ht : (Blob.be (Blob.nb m) m ++ r).take (Blob.nb m) = Blob.be (Blob.nb m) m := by
  rw [List.take_append_of_le_length (by omega), List.take_of_length_le (by omega)]
 have hd : (Blob.be (Blob.nb m) m ++ r).drop (Blob.nb m) = r := by
  rw [List.drop_append_of_le_length (by omega), List.drop_of_length_le (by omega), List.nil_append]
 have hv : Blob.val (Blob.be (Blob.nb m) m) = m := Blob.val_be _ m (Blob.nb_lt m (by omega))
 unfold sizeP
 rw [if_pos, ht, hd, hv]
 refine ⟨Blob.nb_8 m hm, by rw [List.length_append, hl]; omega, ?_, by rw [ht, hv]; omega⟩
 rcases Nat.eq_zero_or_pos (Blob.nb m) with h | h
 · exact .inl h
 · right
   have h0 : m ≠ 0 := by rintro rfl; rw [Blob.nb_zero] at h; omega
   rw [List.getElem?_append_left (by omega), Blob.be_get _ m 0 h]
   have a := Blob.nb_ge m h0 (by omega)
   have b := Blob.nb_lt m (by omega)
   obtain ⟨K, hK⟩ : ∃ K, Blob.nb m = K + 1 := ⟨Blob.nb m - 1, by omega⟩
   rw [hK] at a b ⊢
   simp only [Nat.add_sub_cancel, Nat.sub_zero] at a ⊢
   rw [Nat.pow_succ] at b
   have hp : 0 < 256 ^ K := Nat.pow_pos (by omega)
   have h1 : 1 ≤ m / 256 ^ K := (Nat.one_le_div_iff hp).2 a
   have h2 : m / 256 ^ K < 256 := (Nat.div_lt_iff_lt_mul hp).2 (by rw [Nat.mul_comm]; exact b)
   intro hq
   injection hq with hq
   have := congrArg UInt8.toNat hq
   rw [UInt8.toNat_ofNat'] at this
   simp at this
   omega
theorem sizeP_back {rest r : Text} {many n : Nat} (h : sizeP rest many = some (n, r)) : many = Blob.nb n ∧ rest = Blob.be (Blob.nb n) n ++ r ∧ n ≤ 9223372036854775807 := by
 unfold sizeP at h
 by_cases hk : okS rest many
 · rw [if_pos hk] at h
   injection h with h
   injection h with h1 h2
   obtain ⟨k1, k2, k3, k4⟩ := hk
   have hl : (rest.take many).length = many := by rw [List.length_take]; omega
   have hlt := Blob.val_lt (rest.take many)
   rw [hl, h1] at hlt
   have hb : Blob.nb n = many := nb_eq n many (by omega) hlt (by
    rcases k3 with k3 | k3
    · exact .inl k3
    · rcases Nat.eq_zero_or_pos many with h0 | h0
      · exact .inl h0
      · right
        cases rest with
        | nil => simp at k2; omega
        | cons c l =>
          obtain ⟨K, rfl⟩ : ∃ K, many = K + 1 := ⟨many - 1, by omega⟩
          have hg := val_ge c (l.take K) (by intro h; apply k3; rw [h]; rfl)
          rw [List.take_succ_cons] at h1 hl
          rw [h1] at hg
          have : (l.take K).length = K := by simpa using hl
          rw [this] at hg
          simpa using hg)
   refine ⟨hb.symm, ?_, by omega⟩
   have := be_val (rest.take many)
   rw [hl, h1] at this
   rw [hb, this, ← h2, List.take_append_drop]
 · rw [if_neg hk] at h; cases h

theorem head_of (h m : Nat) (hh : h = 0 ∨ h = 128) (hm : m < 9223372036854775808) : (UInt8.ofNat (h + Blob.nb m)).toNat = h + Blob.nb m := by
 have := Blob.nb_8 m hm
 rw [UInt8.toNat_ofNat']; omega
theorem numP_doc {n : Int} {T : Text} (r : Text) (h : docN n = some T) (h1 : -9223372036854775808 ≤ n) (h2 : n ≤ 9223372036854775807) : numP (T ++ r) = some (n, r) := by
 unfold docN at h
 by_cases h0 : n = -9223372036854775808
 · rw [if_pos h0] at h; cases h
 · rw [if_neg h0] at h
   injection h with h
   by_cases hn : n < 0
   · rw [if_pos hn] at h
     obtain ⟨m, hm⟩ : ∃ m : Nat, n = -(m : Int) := ⟨(-n).toNat, by omega⟩
     subst hm
     rw [show (- -(m : Int)).toNat = m by omega] at h
     subst h
     have hb := Blob.nb_8 m (by omega)
     have hq := head_of 128 m (.inr rfl) (by omega)
     show numP (UInt8.ofNat (128 + Blob.nb m) :: (Blob.be (Blob.nb m) m ++ r)) = _
     unfold numP
     simp only [hq]
     rw [show (128 + Blob.nb m) % 128 = Blob.nb m by omega, sizeP_be m r (by omega)]
     simp only
     rw [if_neg (by omega), if_pos (by omega)]
   · rw [if_neg hn] at h
     obtain ⟨m, hm⟩ : ∃ m : Nat, n = (m : Int) := ⟨n.toNat, by omega⟩
     subst hm
     rw [Int.toNat_natCast] at h
     subst h
     have hb := Blob.nb_8 m (by omega)
     have hq := head_of 0 m (.inl rfl) (by omega)
     show numP (UInt8.ofNat (0 + Blob.nb m) :: (Blob.be (Blob.nb m) m ++ r)) = _
     unfold numP
     simp only [hq]
     rw [show (0 + Blob.nb m) % 128 = Blob.nb m by omega, sizeP_be m r (by omega)]
     simp only
     rw [if_pos (by omega)]
theorem numP_back {rest r : Text} {n : Int} (h : numP rest = some (n, r)) : ∃ D, docN n = some D ∧ rest = D ++ r ∧ -9223372036854775808 < n ∧ n ≤ 9223372036854775807 := by
 cases rest with
 | nil => simp [numP] at h
 | cons c l =>
   unfold numP at h
   cases hs : sizeP l (c.toNat % 128) with
   | none => simp [hs] at h
   | some p =>
     obtain ⟨m, r'⟩ := p
     obtain ⟨e1, e2, e3⟩ := sizeP_back hs
     simp only [hs] at h
     have hc := c.toNat_lt
     by_cases hb : c.toNat < 128
     · rw [if_pos hb] at h
       injection h with h
       injection h with h1 h2
       subst h1 h2
       refine ⟨Blob.numT 0 m, ?_, ?_, by omega, by omega⟩
       · unfold docN
         rw [if_neg (by omega), if_neg (by omega), Int.toNat_natCast]
       · unfold Blob.numT
         rw [e2, List.cons_append]
         congr 1
         apply UInt8.toNat_inj.1
         rw [head_of 0 m (.inl rfl) (by omega)]
         omega
     · rw [if_neg hb] at h
       by_cases hp : 0 < m
       · rw [if_pos hp] at h
         injection h with h
         injection h with h1 h2
         subst h1 h2
         refine ⟨Blob.numT 128 m, ?_, ?_, by omega, by omega⟩
         · unfold docN
           rw [if_neg (by omega), if_pos (by omega), show (- -(m : Int)).toNat = m by omega]
         · unfold Blob.numT
           rw [e2, List.cons_append]
           congr 1
           apply UInt8.toNat_inj.1
           rw [head_of 128 m (.inr rfl) (by omega)]
           omega
       · rw [if_neg hp] at h; cases h
theorem textP_doc {s : ByteArray} {T : Text} (r : Text) (h : docS s = some T) : textP (T ++ r) = some (s, r) := by
 unfold docS at h
 by_cases h0 : 65536 < s.size
 · rw [if_pos h0] at h; cases h
 · rw [if_neg h0] at h
   injection h with h
   subst h
   have hn : docN (s.size : Int) = some (Blob.numT 0 s.size) := by
    unfold docN
    rw [if_neg (by omega), if_neg (by omega), Int.toNat_natCast]
   have hl : (strT s).length = s.size := rfl
   unfold textP textT
   rw [List.append_assoc, numP_doc (strT s ++ r) hn (by omega) (by omega)]
   simp only
   rw [if_pos ⟨by omega, by omega, by rw [List.length_append, hl]; omega⟩, Int.toNat_natCast, List.take_append_of_le_length (by omega), List.take_of_length_le (by omega), List.drop_append_of_le_length (by omega), List.drop_of_length_le (by omega)]
   rfl
theorem textP_back {rest r : Text} {s : ByteArray} (h : textP rest = some (s, r)) : ∃ D, docS s = some D ∧ rest = D ++ r := by
 unfold textP at h
 cases hn : numP rest with
 | none => simp [hn] at h
 | some p =>
   obtain ⟨n, l⟩ := p
   simp only [hn] at h
   by_cases hk : 0 ≤ n ∧ n ≤ 65536 ∧ n.toNat ≤ l.length
   · rw [if_pos hk] at h
     injection h with h
     injection h with h1 h2
     obtain ⟨k1, k2, k3⟩ := hk
     obtain ⟨D, d1, d2, d3, d4⟩ := numP_back hn
     obtain ⟨m, rfl⟩ : ∃ m : Nat, n = (m : Int) := ⟨n.toNat, by omega⟩
     rw [Int.toNat_natCast] at *
     have hl : (l.take m).length = m := by rw [List.length_take]; omega
     have hz : s.size = m := by rw [← h1]; exact hl
     have hS : strT s = l.take m := by rw [← h1]; rfl
     refine ⟨textT s, by unfold docS; rw [if_neg (by omega)], ?_⟩
     unfold textT
     have hd : docN (m : Int) = some (Blob.numT 0 m) := by
      unfold docN
      rw [if_neg (by omega), if_neg (by omega), Int.toNat_natCast]
     rw [hd] at d1
     injection d1 with d1
     rw [hz, hS, d1, List.append_assoc, ← h2, List.take_append_drop]
     exact d2
   · rw [if_neg hk] at h; cases h
theorem flagP_doc (b : Bool) (r : Text) : flagP (flagT b ++ r) = some (b, r) := by cases b <;> rfl
theorem flagP_back {rest r : Text} {b : Bool} (h : flagP rest = some (b, r)) : rest = flagT b ++ r := by
 cases rest with
 | nil => simp [flagP] at h
 | cons c l =>
   unfold flagP at h
   simp only at h
   by_cases hk : c.toNat ≤ 1
   · rw [if_pos hk] at h
     injection h with h
     injection h with h1 h2
     subst h1 h2
     by_cases h1 : c.toNat = 1
     · obtain rfl : c = 1 := UInt8.toNat_inj.1 h1
       rfl
     · obtain rfl : c = 0 := UInt8.toNat_inj.1 (by show c.toNat = 0; omega)
       rfl
   · rw [if_neg hk] at h; cases h
end Go.Proofs.YtmjjenemokojjaaGreat

namespace Go.Proofs.YtmjjenemokojjaaGreat
open Go.RowKit
set_option maxRecDepth 100000

/-- the document's reader in block g: its bytes, where it is, is it bad -/
def Drd (w : World) (g : Nat) (A : Option Addr) (T : Text) (c at_ : Nat) (bad : Bool) : Prop :=
 w.heap[g]? = some (.cells #[.slice A T.length c, .int .i64 at_, .bool bad] 101 (0, 0)) ∧ at_ ≤ T.length ∧ T.length ≤ 20000 ∧ T.length ≤ c ∧ c ≤ maxLen ∧ Txt w A T ∧ (A = none → T = []) ∧ (T ≠ [] → ∀ a, A = some a → a.block ≠ g)
/-- where there is a text, it lies elsewhere -/
theorem Txt.only2 {w w' : World} {g : Nat} {A : Option Addr} {l : Text} (h : Txt w A l) (ho : Only w w' g) (hA : l ≠ [] → ∀ a, A = some a → a.block ≠ g) : Txt w' A l := fun hn => (h.only ho (hA hn)) hn
/-- what it has left -/
def dv (T : Text) (at_ : Nat) (bad : Bool) : Text := if bad then [] else T.drop at_
theorem Drd.bad {w : World} {g : Nat} {A : Option Addr} {T : Text} {c at_ : Nat} {bad : Bool} (h : Drd w g A T c at_ bad) :
 Drd (w.setCell ⟨g, 2, none⟩ (.bool true)) g A T c at_ true ∧ Only w (w.setCell ⟨g, 2, none⟩ (.bool true)) g := by
 obtain ⟨h1, h2, h3, h4, h5, h6, h7, h8⟩ := h
 have ho := Only.set w g 2 (.bool true)
 exact ⟨⟨by rw [heap_setCell_same w g 2 _ _ _ h1]; rfl, h2, h3, h4, h5, h6.only2 ho h8, h7, h8⟩, ho⟩
theorem Drd.to {w : World} {g : Nat} {A : Option Addr} {T : Text} {c at_ : Nat} {bad : Bool} (h : Drd w g A T c at_ bad) (k : Nat) (hk : k ≤ T.length) :
 Drd (w.setCell ⟨g, 1, none⟩ (.int .i64 k)) g A T c k bad ∧ Only w (w.setCell ⟨g, 1, none⟩ (.int .i64 k)) g := by
 obtain ⟨h1, h2, h3, h4, h5, h6, h7, h8⟩ := h
 have ho := Only.set w g 1 (.int .i64 k)
 exact ⟨⟨by rw [heap_setCell_same w g 1 _ _ _ h1]; rfl, hk, h3, h4, h5, h6.only2 ho h8, h7, h8⟩, ho⟩
theorem Drd.below {w w' : World} {g : Nat} {A : Option Addr} {T : Text} {c at_ : Nat} {bad : Bool} (h : Drd w g A T c at_ bad) (hb : Below w.heap.size w w') : Drd w' g A T c at_ bad := by
 obtain ⟨h1, h2, h3, h4, h5, h6, h7, h8⟩ := h
 exact ⟨(hb.block g (heap_lt h1)).trans h1, h2, h3, h4, h5, h6.below hb, h7, h8⟩
theorem Drd.drew {w : World} {g : Nat} {A : Option Addr} {T : Text} {c at_ : Nat} {bad : Bool} (h : Drd w g A T c at_ bad) : Drd w.drew g A T c at_ bad := h.below (Below.refl _ _).drew
theorem Only.drew (w : World) (g : Nat) : Only w w.drew g := .of_below (Below.refl _ _).drew
/-- what a call of it leaves -/
def DGot (w : World) (g : Nat) (A : Option Addr) (T : Text) (c : Nat) (z : Value) (d : Option (Value × Text)) (e : Ending) (w' : World) : Prop := match d with
 | some (v, r) => e = .returned v ∧ Only w w' g ∧ ∃ k, Drd w' g A T c k false ∧ T.drop k = r
 | none => e = .returned z ∧ Only w w' g ∧ ∃ k, Drd w' g A T c k true

end Go.Proofs.YtmjjenemokojjaaGreat

namespace Go.Proofs.YtmjjenemokojjaaGreat
open Go.RowKit
set_option maxRecDepth 100000

theorem Drd.drewN {w : World} {g : Nat} {A : Option Addr} {T : Text} {c at_ : Nat} {bad : Bool} (h : Drd w g A T c at_ bad) (n : Nat) : Drd (w.drewN n) g A T c at_ bad := h.below (below_drewN (Below.refl _ _) n)
theorem Only.drewN (w : World) (g n : Nat) : Only w (w.drewN n) g := .of_below (below_drewN (Below.refl _ _) n)
theorem dv_at {T : Text} {at_ : Nat} (h : at_ < T.length) : dv T at_ false = T[at_] :: T.drop (at_ + 1) := List.drop_eq_getElem_cons h
theorem dv_end {T : Text} {at_ : Nat} (h : T.length ≤ at_) : dv T at_ false = [] := List.drop_eq_nil_of_le h
/-- it goes bad, or it has gone on -/
theorem dgot_bad {w : World} {g : Nat} {A : Option Addr} {T : Text} {c at_ : Nat} {bad : Bool} {z : Value} (h : Drd w g A T c at_ bad) (n : Nat) : DGot w g A T c z none (.returned z) ((w.drewN n).setCell ⟨g, 2, none⟩ (.bool true)) := by
 obtain ⟨h1, h2⟩ := (h.drewN n).bad
 exact ⟨rfl, (Only.drewN w g n).trans h2, at_, h1⟩
theorem dgot_on {w : World} {g : Nat} {A : Option Addr} {T : Text} {c at_ : Nat} {z v : Value} (h : Drd w g A T c at_ false) (n m k : Nat) (hk : k ≤ T.length) : DGot w g A T c z (some (v, T.drop k)) (.returned v) (((w.drewN n).setCell ⟨g, 1, none⟩ (.int .i64 k)).drewN m) := by
 obtain ⟨h1, h2⟩ := (h.drewN n).to k hk
 exact ⟨rfl, ((Only.drewN w g n).trans h2).trans (Only.drewN _ g m), k, h1.drewN m, rfl⟩

set_option maxHeartbeats 1000000 in
theorem doc_flag (w : World) (g : Nat) (A : Option Addr) (T : Text) (c at_ : Nat) (bad : Bool) (hr : Drd w g A T c at_ bad) :
 Calls Tryz.prog 102 #[.pointer (some ⟨g, 0, none⟩)] w (DGot w g A T c (.bool false) ((flagP (dv T at_ bad)).map fun p => (.bool p.1, p.2))) := by
 have HR := Lib.hid hr
 obtain ⟨hh, h2, h3, h4, h5, hT, h7, h8⟩ := hr
 have c0 := cell_of_row w g 0 _ _ _ hh
 have c1 := cell_of_row w g 1 _ _ _ hh
 have c2 := cell_of_row w g 2 _ _ _ hh
 have f1 := frozen_of_row w g 1 _ _ hh
 have f2 := frozen_of_row w g 2 _ _ hh
 simp only [List.getElem?_toArray, List.getElem?_cons_zero, List.getElem?_cons_succ] at c0 c1 c2
 have hj : (T.length : Int) ≤ 20000 := by omega
 have hk : (at_ : Int) ≤ (T.length : Int) := by omega
 clear hh
 cases bad with
 | true =>
   have HB := Lib.hid (fun n => dgot_bad (z := .bool false) HR.out n)
   have HD : Hid ((flagP (dv T at_ true)).map (fun p => (Value.bool p.1, p.2)) = none) := Lib.hid rfl
   rw [HD.out]
   clear hT h7 h8
   go_enter Tryz.func102, Tryz.ntmps102
   go_wp2
   go_quiet (fail)
   go_wp2
   go_ret
   exact HB.out _
 | false =>
   by_cases hlt : at_ < T.length
   · obtain ⟨a, rfl, hab, hc⟩ := hT.at_ hlt
     obtain ⟨x, hx⟩ : ∃ x, x = T[at_].toNat := ⟨_, rfl⟩
     rw [← hx] at hc
     have HX := Lib.hid hx
     have hi : (at_ : Int) < (T.length : Int) := by omega
     have d1 : decide ((T.length : Int) ≤ (at_ : Int)) = false := decide_eq_false (by omega)
     have ha8 := h8 (by rintro rfl; simp at hlt) a rfl
     clear hx hT h7 h8
     by_cases hv : x ≤ 1
     · have HD : Hid ((flagP (dv T at_ false)).map (fun p => (Value.bool p.1, p.2)) = some (.bool (decide (x = 1)), T.drop (at_ + 1))) := Lib.hid (by
        rw [dv_at hlt, HX.out]
        unfold flagP
        simp only
        rw [if_pos (by rw [← HX.out]; exact hv)]
        rfl)
       rw [HD.out]
       have d2 : decide (1 < (x : Int)) = false := decide_eq_false (by omega)
       have HB := Lib.hid (fun n m => dgot_on (z := .bool false) (v := .bool (decide (x = 1))) HR.out n m (at_ + 1) hlt)
       have HC : Hid (∀ n, ((w.drewN n).setCell ⟨g, 1, none⟩ (.int .i64 (at_ + 1))).cell? (a.add at_) = some (.int .u8 x)) := Lib.hid (fun n => by
        rw [World.cell?_of_block (w := w) (by rw [add_block]; exact (Only.set (w.drewN n) g 1 _).block _ (by exact hab) (by exact ha8))]
        exact hc)
       have hE : (((x : Nat) : Int) == 1) = decide (x = 1) := by rw [Bool.eq_iff_iff]; simp; omega
       clear HD hv
       go_enter Tryz.func102, Tryz.ntmps102
       go_wp2
       go_quiet (fail)
       go_wp2
       have hC := HC.out nq
       have e1 : ((at_ : Int) + 1 - 1).toNat = at_ := by omega
       go_quiet (fail)
       go_wp2
       go_ret
       exact HB.out _ _
     · have HD : Hid ((flagP (dv T at_ false)).map (fun p => (Value.bool p.1, p.2)) = none) := Lib.hid (by
        rw [dv_at hlt]
        unfold flagP
        simp only
        rw [if_neg (by rw [← HX.out]; exact hv)]
        rfl)
       rw [HD.out]
       have d2 : decide (1 < (x : Int)) = true := decide_eq_true (by omega)
       have HB := Lib.hid (fun n => dgot_bad (z := .bool false) HR.out n)
       clear HD hv
       go_enter Tryz.func102, Tryz.ntmps102
       go_wp2
       go_quiet (fail)
       go_wp2
       go_ret
       exact HB.out _
   · have hi : (T.length : Int) ≤ (at_ : Int) := by omega
     have HD : Hid ((flagP (dv T at_ false)).map (fun p => (Value.bool p.1, p.2)) = none) := Lib.hid (by
      rw [dv_end (by omega)]; rfl)
     rw [HD.out]
     have d1 : decide ((T.length : Int) ≤ (at_ : Int)) = true := decide_eq_true (by omega)
     have HB := Lib.hid (fun n => dgot_bad (z := .bool false) HR.out n)
     clear hT h7 h8 HD hlt
     go_enter Tryz.func102, Tryz.ntmps102
     go_wp2
     go_quiet (fail)
     go_wp2
     go_ret
     exact HB.out _
end Go.Proofs.YtmjjenemokojjaaGreat
