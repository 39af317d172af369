/- What a reader keeps beside a box of the call's own. What was written is read; what is read has these bytes. Plain facts. The chapter's document, read: what stands next, one by one. -/
import Derived.Test.YtplghpamckdklaaGreatQ16
import Derived.Test.YtplghpamckdklaaGreatQ18
import Derived.WalkMore
namespace Go.Proofs.YtplghpamckdklaaGreat
open Go.RowKit
set_option maxRecDepth 100000
set_option linter.unusedSimpArgs false
set_option linter.unusedVariables false

/-- a reader at g that is not bad, and beside it a box that its calls leave alone -/
def RD (w : World) (B g : Nat) (T : Text) (b : Nat) (o : Obj) : Prop := Rdr w g false T ∧ B ≤ g ∧ w.heap[b]? = some o ∧ g < b
theorem RD.box {w : World} {B g b : Nat} {T : Text} {o : Obj} (h : RD w B g T b o) : w.heap[b]? = some o := h.2.2.1
theorem RD.got {w w1 : World} {B g b : Nat} {T r : Text} {o : Obj} {z v : Value} {e : Ending} (h : RD w B g T b o) (hg : Got w g false z (some (v, r)) e w1) : e = .returned v ∧ RD w1 B g r b o ∧ Below B w w1 := by
  obtain ⟨he, hr, ho⟩ := hg
  obtain ⟨h1, h2, h3, h4⟩ := h
  exact ⟨he, ⟨hr, h2, (ho.block b (heapLt h3) (Nat.ne_of_gt h4)).trans h3, h4⟩, ⟨ho.os, ho.tape, ho.output, ho.size, fun k hk => by
    obtain ⟨A, c, hh, _⟩ := h1
    have := heapLt hh
    exact ho.block k (by omega) (by omega)⟩⟩
theorem RD.num {w : World} {B g b : Nat} {T r : Text} {o : Obj} (h : RD w B g T b o) (x : Int) (hp : numP T = some (x, r)) :
    Calls Tryz.prog 73 #[.pointer (some ⟨g, 0, none⟩)] w fun e w1 => e = .returned (.int .i64 x) ∧ RD w1 B g r b o ∧ Below B w w1 := by
  have hc := code_rnum w g false T h.1
  rw [hp] at hc
  exact hc.mono fun e w1 hg => h.got hg
theorem RD.text {w : World} {B g b : Nat} {T r : Text} {o : Obj} (h : RD w B g T b o) (x : ByteArray) (hp : textP T = some (x, r)) :
    Calls Tryz.prog 74 #[.pointer (some ⟨g, 0, none⟩)] w fun e w1 => e = .returned (.string x) ∧ RD w1 B g r b o ∧ Below B w w1 := by
  have hc := code_rtext w g false T h.1
  rw [hp] at hc
  exact hc.mono fun e w1 hg => h.got hg
theorem RD.flag {w : World} {B g b : Nat} {T r : Text} {o : Obj} (h : RD w B g T b o) (x : Bool) (hp : flagP T = some (x, r)) :
    Calls Tryz.prog 101 #[.pointer (some ⟨g, 0, none⟩)] w fun e w1 => e = .returned (.bool x) ∧ RD w1 B g r b o ∧ Below B w w1 := by
  have hc := code_rflag w g false T h.1
  rw [hp] at hc
  exact hc.mono fun e w1 hg => h.got hg
theorem RD.drew {w : World} {B g b : Nat} {T : Text} {o : Obj} (h : RD w B g T b o) (hr : Rdr w.drew g false T) : RD w.drew B g T b o := ⟨hr, h.2.1, h.2.2.1, h.2.2.2⟩
end Go.Proofs.YtplghpamckdklaaGreat

namespace Go.Proofs.YtplghpamckdklaaGreat
open Go.RowKit
set_option maxRecDepth 100000

theorem be_val_n (n : Nat) : ∀ l : Text, l.length = n → Blob.be l.length (Blob.val l) = l := by
  induction n with
  | zero =>
    intro l hl
    have : l = [] := List.eq_nil_of_length_eq_zero hl
    subst this; rfl
  | succ n ih =>
    intro l hl
    rcases List.eq_nil_or_concat l with rfl | ⟨l', c, rfl⟩
    · simp at hl
    · rw [List.concat_eq_append] at *
      rw [Blob.val_snoc, List.length_append]
      simp only [List.length_cons, List.length_nil, Blob.be]
      have h := c.toNat_lt
      have h1 : (Blob.val l' * 256 + c.toNat) / 256 = Blob.val l' := by omega
      have h2 : (Blob.val l' * 256 + c.toNat) % 256 = c.toNat := by omega
      rw [h1, h2, ih l' (by simpa using hl)]
      simp
theorem be_val (l : Text) : Blob.be l.length (Blob.val l) = l := be_val_n _ l rfl
theorem val_ge_from (l : Text) : ∀ a : Nat, a * 256 ^ l.length ≤ l.foldl (fun n c => n * 256 + c.toNat) a := by
  induction l with
  | nil => intro a; simp
  | cons c l ih =>
    intro a
    simp only [List.foldl_cons, List.length_cons]
    refine Nat.le_trans ?_ (ih _)
    rw [Nat.pow_succ, Nat.mul_comm (256 ^ l.length), ← Nat.mul_assoc]
    exact Nat.mul_le_mul_right _ (by omega)
theorem val_ge (c : UInt8) (l : Text) (hc : c ≠ 0) : 256 ^ l.length ≤ Blob.val (c :: l) := by
  have h := val_ge_from l (0 * 256 + c.toNat)
  have hp : 0 < c.toNat := by
    rcases Nat.eq_zero_or_pos c.toNat with h | h
    · exact absurd (UInt8.toNat_inj.1 (by rw [h]; rfl)) hc
    · exact h
  refine Nat.le_trans ?_ h
  rw [Nat.zero_mul, Nat.zero_add]
  exact Nat.le_mul_of_pos_left _ hp
theorem nb_eq (m k : Nat) (hm : m < 9223372036854775808) (h1 : m < 256 ^ k) (h2 : k = 0 ∨ 256 ^ (k - 1) ≤ m) : Blob.nb m = k := by
  have a := Blob.nb_le k m h1 (by omega)
  have b := Blob.nb_lt m (by omega)
  rcases h2 with rfl | h2
  · omega
  · rcases Nat.lt_or_ge (Blob.nb m) k with h | h
    · exfalso
      have : 256 ^ Blob.nb m ≤ 256 ^ (k - 1) := Nat.pow_le_pow_right (by omega) (by omega)
      omega
    · omega
theorem sizeP_be (m : Nat) (r : Text) (hm : m < 9223372036854775808) : sizeP (Blob.be (Blob.nb m) m ++ r) (Blob.nb m) = some (m, r) := by
  have hl := Blob.be_length (Blob.nb m) m
  have ht : (Blob.be (Blob.nb m) m ++ r).take (Blob.nb m) = Blob.be (Blob.nb m) m := by
    rw [List.take_append_of_le_length (by omega), List.take_of_length_le (by omega)]
  have hd : (Blob.be (Blob.nb m) m ++ r).drop (Blob.nb m) = r := by
    rw [List.drop_append_of_le_length (by omega), List.drop_of_length_le (by omega), List.nil_append]
  have hv : Blob.val (Blob.be (Blob.nb m) m) = m := Blob.val_be _ m (Blob.nb_lt m (by omega))
  unfold sizeP
  rw [if_pos, ht, hd, hv]
  refine ⟨Blob.nb_8 m hm, by rw [List.length_append, hl]; omega, ?_, by rw [ht, hv]; omega⟩
  rcases Nat.eq_zero_or_pos (Blob.nb m) with h | h
  · exact .inl h
  · right
    have h0 : m ≠ 0 := by rintro rfl; rw [Blob.nb_zero] at h; omega
    rw [List.getElem?_append_left (by omega), Blob.be_get _ m 0 h]
    have a := Blob.nb_ge m h0 (by omega)
    have b := Blob.nb_lt m (by omega)
    obtain ⟨K, hK⟩ : ∃ K, Blob.nb m = K + 1 := ⟨Blob.nb m - 1, by omega⟩
    rw [hK] at a b ⊢
    simp only [Nat.add_sub_cancel, Nat.sub_zero] at a ⊢
    rw [Nat.pow_succ] at b
    have hp : 0 < 256 ^ K := Nat.pow_pos (by omega)
    have h1 : 1 ≤ m / 256 ^ K := (Nat.one_le_div_iff hp).2 a
    have h2 : m / 256 ^ K < 256 := (Nat.div_lt_iff_lt_mul hp).2 (by rw [Nat.mul_comm]; exact b)
    intro hq
    injection hq with hq
    have := congrArg UInt8.toNat hq
    rw [UInt8.toNat_ofNat'] at this
    simp at this
    omega
theorem sizeP_back {rest r : Text} {many n : Nat} (h : sizeP rest many = some (n, r)) : many = Blob.nb n ∧ rest = Blob.be (Blob.nb n) n ++ r ∧ n ≤ 9223372036854775807 := by
  unfold sizeP at h
  by_cases hk : okS rest many
  · rw [if_pos hk] at h
    injection h with h
    injection h with h1 h2
    obtain ⟨k1, k2, k3, k4⟩ := hk
    have hl : (rest.take many).length = many := by rw [List.length_take]; omega
    have hlt := Blob.val_lt (rest.take many)
    rw [hl, h1] at hlt
    have hb : Blob.nb n = many := nb_eq n many (by omega) hlt (by
      rcases k3 with k3 | k3
      · exact .inl k3
      · rcases Nat.eq_zero_or_pos many with h0 | h0
        · exact .inl h0
        · right
          cases rest with
          | nil => simp at k2; omega
          | cons c l =>
            obtain ⟨K, rfl⟩ : ∃ K, many = K + 1 := ⟨many - 1, by omega⟩
            have hg := val_ge c (l.take K) (by intro h; apply k3; rw [h]; rfl)
            rw [List.take_succ_cons] at h1 hl
            rw [h1] at hg
            have : (l.take K).length = K := by simpa using hl
            rw [this] at hg
            simpa using hg)
    refine ⟨hb.symm, ?_, by omega⟩
    have := be_val (rest.take many)
    rw [hl, h1] at this
    rw [hb, this, ← h2, List.take_append_drop]
  · rw [if_neg hk] at h; cases h

theorem head_of (h m : Nat) (hh : h = 0 ∨ h = 128) (hm : m < 9223372036854775808) : (UInt8.ofNat (h + Blob.nb m)).toNat = h + Blob.nb m := by
  have := Blob.nb_8 m hm
  rw [UInt8.toNat_ofNat']; omega
theorem numP_doc {n : Int} {T : Text} (r : Text) (h : docN n = some T) (h1 : -9223372036854775808 ≤ n) (h2 : n ≤ 9223372036854775807) : numP (T ++ r) = some (n, r) := by
  unfold docN at h
  by_cases h0 : n = -9223372036854775808
  · rw [if_pos h0] at h; cases h
  · rw [if_neg h0] at h
    injection h with h
    by_cases hn : n < 0
    · rw [if_pos hn] at h
      obtain ⟨m, hm⟩ : ∃ m : Nat, n = -(m : Int) := ⟨(-n).toNat, by omega⟩
      subst hm
      rw [show (- -(m : Int)).toNat = m by omega] at h
      subst h
      have hb := Blob.nb_8 m (by omega)
      have hq := head_of 128 m (.inr rfl) (by omega)
      show numP (UInt8.ofNat (128 + Blob.nb m) :: (Blob.be (Blob.nb m) m ++ r)) = _
      unfold numP
      simp only [hq]
      rw [show (128 + Blob.nb m) % 128 = Blob.nb m by omega, sizeP_be m r (by omega)]
      simp only
      rw [if_neg (by omega), if_pos (by omega)]
    · rw [if_neg hn] at h
      obtain ⟨m, hm⟩ : ∃ m : Nat, n = (m : Int) := ⟨n.toNat, by omega⟩
      subst hm
      rw [Int.toNat_natCast] at h
      subst h
      have hb := Blob.nb_8 m (by omega)
      have hq := head_of 0 m (.inl rfl) (by omega)
      show numP (UInt8.ofNat (0 + Blob.nb m) :: (Blob.be (Blob.nb m) m ++ r)) = _
      unfold numP
      simp only [hq]
      rw [show (0 + Blob.nb m) % 128 = Blob.nb m by omega, sizeP_be m r (by omega)]
      simp only
      rw [if_pos (by omega)]
theorem numP_back {rest r : Text} {n : Int} (h : numP rest = some (n, r)) : ∃ D, docN n = some D ∧ rest = D ++ r ∧ -9223372036854775808 < n ∧ n ≤ 9223372036854775807 := by
  cases rest with
  | nil => simp [numP] at h
  | cons c l =>
    unfold numP at h
    cases hs : sizeP l (c.toNat % 128) with
    | none => simp [hs] at h
    | some p =>
      obtain ⟨m, r'⟩ := p
      obtain ⟨e1, e2, e3⟩ := sizeP_back hs
      simp only [hs] at h
      have hc := c.toNat_lt
      by_cases hb : c.toNat < 128
      · rw [if_pos hb] at h
        injection h with h
        injection h with h1 h2
        subst h1 h2
        refine ⟨Blob.numT 0 m, ?_, ?_, by omega, by omega⟩
        · unfold docN
          rw [if_neg (by omega), if_neg (by omega), Int.toNat_natCast]
        · unfold Blob.numT
          rw [e2, List.cons_append]
          congr 1
          apply UInt8.toNat_inj.1
          rw [head_of 0 m (.inl rfl) (by omega)]
          omega
      · rw [if_neg hb] at h
        by_cases hp : 0 < m
        · rw [if_pos hp] at h
          injection h with h
          injection h with h1 h2
          subst h1 h2
          refine ⟨Blob.numT 128 m, ?_, ?_, by omega, by omega⟩
          · unfold docN
            rw [if_neg (by omega), if_pos (by omega), show (- -(m : Int)).toNat = m by omega]
          · unfold Blob.numT
            rw [e2, List.cons_append]
            congr 1
            apply UInt8.toNat_inj.1
            rw [head_of 128 m (.inr rfl) (by omega)]
            omega
        · rw [if_neg hp] at h; cases h
theorem textP_doc {s : ByteArray} {T : Text} (r : Text) (h : docS s = some T) : textP (T ++ r) = some (s, r) := by
  unfold docS at h
  by_cases h0 : 65536 < s.size
  · rw [if_pos h0] at h; cases h
  · rw [if_neg h0] at h
    injection h with h
    subst h
    have hn : docN (s.size : Int) = some (Blob.numT 0 s.size) := by
      unfold docN
      rw [if_neg (by omega), if_neg (by omega), Int.toNat_natCast]
    have hl : (strT s).length = s.size := rfl
    unfold textP textT
    rw [List.append_assoc, numP_doc (strT s ++ r) hn (by omega) (by omega)]
    simp only
    rw [if_pos ⟨by omega, by omega, by rw [List.length_append, hl]; omega⟩, Int.toNat_natCast, List.take_append_of_le_length (by omega), List.take_of_length_le (by omega), List.drop_append_of_le_length (by omega), List.drop_of_length_le (by omega)]
    rfl
theorem textP_back {rest r : Text} {s : ByteArray} (h : textP rest = some (s, r)) : ∃ D, docS s = some D ∧ rest = D ++ r := by
  unfold textP at h
  cases hn : numP rest with
  | none => simp [hn] at h
  | some p =>
    obtain ⟨n, l⟩ := p
    simp only [hn] at h
    by_cases hk : 0 ≤ n ∧ n ≤ 65536 ∧ n.toNat ≤ l.length
    · rw [if_pos hk] at h
      injection h with h
      injection h with h1 h2
      obtain ⟨k1, k2, k3⟩ := hk
      obtain ⟨D, d1, d2, d3, d4⟩ := numP_back hn
      obtain ⟨m, rfl⟩ : ∃ m : Nat, n = (m : Int) := ⟨n.toNat, by omega⟩
      rw [Int.toNat_natCast] at *
      have hl : (l.take m).length = m := by rw [List.length_take]; omega
      have hz : s.size = m := by rw [← h1]; exact hl
      have hS : strT s = l.take m := by rw [← h1]; rfl
      refine ⟨textT s, by unfold docS; rw [if_neg (by omega)], ?_⟩
      unfold textT
      have hd : docN (m : Int) = some (Blob.numT 0 m) := by
        unfold docN
        rw [if_neg (by omega), if_neg (by omega), Int.toNat_natCast]
      rw [hd] at d1
      injection d1 with d1
      rw [hz, hS, d1, List.append_assoc, ← h2, List.take_append_drop]
      exact d2
    · rw [if_neg hk] at h; cases h
theorem flagP_doc (b : Bool) (r : Text) : flagP (flagT b ++ r) = some (b, r) := by cases b <;> rfl
theorem flagP_back {rest r : Text} {b : Bool} (h : flagP rest = some (b, r)) : rest = flagT b ++ r := by
  cases rest with
  | nil => simp [flagP] at h
  | cons c l =>
    unfold flagP at h
    simp only at h
    by_cases hk : c.toNat ≤ 1
    · rw [if_pos hk] at h
      injection h with h
      injection h with h1 h2
      subst h1 h2
      by_cases h1 : c.toNat = 1
      · obtain rfl : c = 1 := UInt8.toNat_inj.1 h1
        rfl
      · obtain rfl : c = 0 := UInt8.toNat_inj.1 (by show c.toNat = 0; omega)
        rfl
    · rw [if_neg hk] at h; cases h
end Go.Proofs.YtplghpamckdklaaGreat

namespace Go.Proofs.YtplghpamckdklaaGreat
open Go.RowKit
set_option maxRecDepth 100000
set_option linter.unusedSimpArgs false
set_option linter.unusedVariables false

theorem simpleT_is : simpleT = [1, 8, 1, 1, 97, 1, 0, 0, 2, 74, 56, 1, 2, 68, 69, 0, 0, 1, 1, 1, 2, 1, 1, 0, 0, 0, 2, 3, 232, 0, 0, 0] := by decide +kernel
theorem rd0 : numP [1, 8, 1, 1, 97, 1, 0, 0, 2, 74, 56, 1, 2, 68, 69, 0, 0, 1, 1, 1, 2, 1, 1, 0, 0, 0, 2, 3, 232, 0, 0, 0] = some (8, ([1, 1, 97, 1, 0, 0, 2, 74, 56, 1, 2, 68, 69, 0, 0, 1, 1, 1, 2, 1, 1, 0, 0, 0, 2, 3, 232, 0, 0, 0] : Text)) := numP_doc (n := 8) (T := [1, 8]) ([1, 1, 97, 1, 0, 0, 2, 74, 56, 1, 2, 68, 69, 0, 0, 1, 1, 1, 2, 1, 1, 0, 0, 0, 2, 3, 232, 0, 0, 0] : Text) (by decide +kernel) (by decide) (by decide)
theorem rd1 : textP [1, 1, 97, 1, 0, 0, 2, 74, 56, 1, 2, 68, 69, 0, 0, 1, 1, 1, 2, 1, 1, 0, 0, 0, 2, 3, 232, 0, 0, 0] = some (⟨#[97]⟩, ([1, 0, 0, 2, 74, 56, 1, 2, 68, 69, 0, 0, 1, 1, 1, 2, 1, 1, 0, 0, 0, 2, 3, 232, 0, 0, 0] : Text)) := textP_doc (s := ⟨#[97]⟩) (T := [1, 1, 97]) ([1, 0, 0, 2, 74, 56, 1, 2, 68, 69, 0, 0, 1, 1, 1, 2, 1, 1, 0, 0, 0, 2, 3, 232, 0, 0, 0] : Text) (by decide +kernel)
theorem rd2 : flagP [1, 0, 0, 2, 74, 56, 1, 2, 68, 69, 0, 0, 1, 1, 1, 2, 1, 1, 0, 0, 0, 2, 3, 232, 0, 0, 0] = some (true, ([0, 0, 2, 74, 56, 1, 2, 68, 69, 0, 0, 1, 1, 1, 2, 1, 1, 0, 0, 0, 2, 3, 232, 0, 0, 0] : Text)) := flagP_doc true ([0, 0, 2, 74, 56, 1, 2, 68, 69, 0, 0, 1, 1, 1, 2, 1, 1, 0, 0, 0, 2, 3, 232, 0, 0, 0] : Text)
theorem rd3 : flagP [0, 0, 2, 74, 56, 1, 2, 68, 69, 0, 0, 1, 1, 1, 2, 1, 1, 0, 0, 0, 2, 3, 232, 0, 0, 0] = some (false, ([0, 2, 74, 56, 1, 2, 68, 69, 0, 0, 1, 1, 1, 2, 1, 1, 0, 0, 0, 2, 3, 232, 0, 0, 0] : Text)) := flagP_doc false ([0, 2, 74, 56, 1, 2, 68, 69, 0, 0, 1, 1, 1, 2, 1, 1, 0, 0, 0, 2, 3, 232, 0, 0, 0] : Text)
theorem rd4 : textP [0, 2, 74, 56, 1, 2, 68, 69, 0, 0, 1, 1, 1, 2, 1, 1, 0, 0, 0, 2, 3, 232, 0, 0, 0] = some (⟨#[]⟩, ([2, 74, 56, 1, 2, 68, 69, 0, 0, 1, 1, 1, 2, 1, 1, 0, 0, 0, 2, 3, 232, 0, 0, 0] : Text)) := textP_doc (s := ⟨#[]⟩) (T := [0]) ([2, 74, 56, 1, 2, 68, 69, 0, 0, 1, 1, 1, 2, 1, 1, 0, 0, 0, 2, 3, 232, 0, 0, 0] : Text) (by decide +kernel)
theorem rd5 : numP [2, 74, 56, 1, 2, 68, 69, 0, 0, 1, 1, 1, 2, 1, 1, 0, 0, 0, 2, 3, 232, 0, 0, 0] = some (19000, ([1, 2, 68, 69, 0, 0, 1, 1, 1, 2, 1, 1, 0, 0, 0, 2, 3, 232, 0, 0, 0] : Text)) := numP_doc (n := 19000) (T := [2, 74, 56]) ([1, 2, 68, 69, 0, 0, 1, 1, 1, 2, 1, 1, 0, 0, 0, 2, 3, 232, 0, 0, 0] : Text) (by decide +kernel) (by decide) (by decide)
theorem rd6 : textP [1, 2, 68, 69, 0, 0, 1, 1, 1, 2, 1, 1, 0, 0, 0, 2, 3, 232, 0, 0, 0] = some (⟨#[68, 69]⟩, ([0, 0, 1, 1, 1, 2, 1, 1, 0, 0, 0, 2, 3, 232, 0, 0, 0] : Text)) := textP_doc (s := ⟨#[68, 69]⟩) (T := [1, 2, 68, 69]) ([0, 0, 1, 1, 1, 2, 1, 1, 0, 0, 0, 2, 3, 232, 0, 0, 0] : Text) (by decide +kernel)
theorem rd7 : textP [0, 0, 1, 1, 1, 2, 1, 1, 0, 0, 0, 2, 3, 232, 0, 0, 0] = some (⟨#[]⟩, ([0, 1, 1, 1, 2, 1, 1, 0, 0, 0, 2, 3, 232, 0, 0, 0] : Text)) := textP_doc (s := ⟨#[]⟩) (T := [0]) ([0, 1, 1, 1, 2, 1, 1, 0, 0, 0, 2, 3, 232, 0, 0, 0] : Text) (by decide +kernel)
theorem rd8 : textP [0, 1, 1, 1, 2, 1, 1, 0, 0, 0, 2, 3, 232, 0, 0, 0] = some (⟨#[]⟩, ([1, 1, 1, 2, 1, 1, 0, 0, 0, 2, 3, 232, 0, 0, 0] : Text)) := textP_doc (s := ⟨#[]⟩) (T := [0]) ([1, 1, 1, 2, 1, 1, 0, 0, 0, 2, 3, 232, 0, 0, 0] : Text) (by decide +kernel)
theorem rd9 : numP [1, 1, 1, 2, 1, 1, 0, 0, 0, 2, 3, 232, 0, 0, 0] = some (1, ([1, 2, 1, 1, 0, 0, 0, 2, 3, 232, 0, 0, 0] : Text)) := numP_doc (n := 1) (T := [1, 1]) ([1, 2, 1, 1, 0, 0, 0, 2, 3, 232, 0, 0, 0] : Text) (by decide +kernel) (by decide) (by decide)
theorem rd10 : numP [1, 2, 1, 1, 0, 0, 0, 2, 3, 232, 0, 0, 0] = some (2, ([1, 1, 0, 0, 0, 2, 3, 232, 0, 0, 0] : Text)) := numP_doc (n := 2) (T := [1, 2]) ([1, 1, 0, 0, 0, 2, 3, 232, 0, 0, 0] : Text) (by decide +kernel) (by decide) (by decide)
theorem rd11 : numP [1, 1, 0, 0, 0, 2, 3, 232, 0, 0, 0] = some (1, ([0, 0, 0, 2, 3, 232, 0, 0, 0] : Text)) := numP_doc (n := 1) (T := [1, 1]) ([0, 0, 0, 2, 3, 232, 0, 0, 0] : Text) (by decide +kernel) (by decide) (by decide)
theorem rd12 : textP [0, 0, 0, 2, 3, 232, 0, 0, 0] = some (⟨#[]⟩, ([0, 0, 2, 3, 232, 0, 0, 0] : Text)) := textP_doc (s := ⟨#[]⟩) (T := [0]) ([0, 0, 2, 3, 232, 0, 0, 0] : Text) (by decide +kernel)
theorem rd13 : textP [0, 0, 2, 3, 232, 0, 0, 0] = some (⟨#[]⟩, ([0, 2, 3, 232, 0, 0, 0] : Text)) := textP_doc (s := ⟨#[]⟩) (T := [0]) ([0, 2, 3, 232, 0, 0, 0] : Text) (by decide +kernel)
theorem rd14 : textP [0, 2, 3, 232, 0, 0, 0] = some (⟨#[]⟩, ([2, 3, 232, 0, 0, 0] : Text)) := textP_doc (s := ⟨#[]⟩) (T := [0]) ([2, 3, 232, 0, 0, 0] : Text) (by decide +kernel)
theorem rd15 : numP [2, 3, 232, 0, 0, 0] = some (1000, ([0, 0, 0] : Text)) := numP_doc (n := 1000) (T := [2, 3, 232]) ([0, 0, 0] : Text) (by decide +kernel) (by decide) (by decide)
theorem rd16 : flagP [0, 0, 0] = some (false, ([0, 0] : Text)) := flagP_doc false ([0, 0] : Text)
theorem rd17 : numP [0, 0] = some (0, ([0] : Text)) := numP_doc (n := 0) (T := [0]) ([0] : Text) (by decide +kernel) (by decide) (by decide)
theorem rd18 : flagP [0] = some (false, ([] : Text)) := flagP_doc false ([] : Text)
end Go.Proofs.YtplghpamckdklaaGreat
