/- What a document is that stands next, whatever stands there. What was written is read; what is read has these bytes. Plain facts. What is written is read as itself: numbers, texts, flags, lines, documents. -/
import Derived.Test.YtplghpamckdklaaGreatE15
import Derived.WalkMore
import Derived.Test.YtplghpamckdklaaGreatE12
namespace Go.Proofs.YtplghpamckdklaaGreat
open Go.RowKit Go.ChangeShapes
set_option maxRecDepth 100000
set_option linter.unusedSimpArgs false
set_option linter.unusedVariables false

abbrev HeadV := ByteArray × Bool × Bool × ByteArray × Int × ByteArray × ByteArray × ByteArray
noncomputable def headV (s : Bool × Text) : HeadV := (textV s, flagV (textS s), flagV (flagS (textS s)), textV (flagS (flagS (textS s))), numV (textS (flagS (flagS (textS s)))), textV (numS (textS (flagS (flagS (textS s))))), textV (textS (numS (textS (flagS (flagS (textS s)))))), textV (textS (textS (numS (textS (flagS (flagS (textS s))))))))
noncomputable def headS (s : Bool × Text) : Bool × Text := (textS (textS (textS (numS (textS (flagS (flagS (textS s))))))))
noncomputable def lineV (s : Bool × Text) : LineV := (numV s, numV (numS s), textV (numS (numS s)), textV (textS (numS (numS s))), textV (textS (textS (numS (numS s)))), numV (textS (textS (textS (numS (numS s))))), flagV (numS (textS (textS (textS (numS (numS s)))))), numV (flagS (numS (textS (textS (textS (numS (numS s))))))), flagV (numS (flagS (numS (textS (textS (textS (numS (numS s)))))))))
noncomputable def lineS (s : Bool × Text) : Bool × Text := (flagS (numS (flagS (numS (textS (textS (textS (numS (numS s)))))))))
noncomputable def linesR : Nat → Bool × Text → List LineV × (Bool × Text)
 | 0, s => ([], s)
 | k + 1, s => ((linesR k s).1 ++ [lineV (linesR k s).2], lineS (linesR k s).2)
theorem linesR_len (k : Nat) (s : Bool × Text) : (linesR k s).1.length = k := by
 induction k with
 | zero => rfl
 | succ k ih => simp only [linesR, List.length_append, ih, List.length_singleton]
def noHead : HeadV := (⟨#[]⟩, false, false, ⟨#[]⟩, 0, ⟨#[]⟩, ⟨#[]⟩, ⟨#[]⟩)
noncomputable def docR (s : Bool × Text) : HeadV × List LineV × (Bool × Text) :=
 if 64 < numV (headS s) then (noHead, [], numS (headS s)) else (headV s, (linesR (numV (headS s)).toNat (numS (headS s))).1, (linesR (numV (headS s)).toNat (numS (headS s))).2)
/-- a document read: its lines lie in a row of their own -/
def ReadDoc (w : World) (g : Nat) (s : Bool × Text) (e : Ending) (w1 : World) : Prop :=
 ∃ A c, e = .returned (.agg (docC (docR s).1 (.slice A (docR s).2.1.length c))) ∧ OwnLineV w1 w.heap.size (.slice A (docR s).2.1.length c) (docR s).2.1 ∧ RS w w1 g (docR s).2.2
end Go.Proofs.YtplghpamckdklaaGreat

namespace Go.Proofs.YtplghpamckdklaaGreat
open Go.RowKit
set_option maxRecDepth 100000

theorem be_val_n (n : Nat) : ∀ l : Text, l.length = n → Blob.be l.length (Blob.val l) = l := by
 induction n with
 | zero =>
   intro l hl
   have : l = [] := List.eq_nil_of_length_eq_zero hl
   subst this; rfl
 | succ n ih =>
   intro l hl
   rcases List.eq_nil_or_concat l with rfl | ⟨l', c, rfl⟩
   · simp at hl
   · rw [List.concat_eq_append] at *
     rw [Blob.val_snoc, List.length_append]
     simp only [List.length_cons, List.length_nil, Blob.be]
     have h := c.toNat_lt
     have h1 : (Blob.val l' * 256 + c.toNat) / 256 = Blob.val l' := by omega
     have h2 : (Blob.val l' * 256 + c.toNat) % 256 = c.toNat := by omega
     rw [h1, h2, ih l' (by simpa using hl)]
     simp
theorem be_val (l : Text) : Blob.be l.length (Blob.val l) = l := be_val_n _ l rfl
theorem val_ge_from (l : Text) : ∀ a : Nat, a * 256 ^ l.length ≤ l.foldl (fun n c => n * 256 + c.toNat) a := by
 induction l with
 | nil => intro a; simp
 | cons c l ih =>
   intro a
   simp only [List.foldl_cons, List.length_cons]
   refine Nat.le_trans ?_ (ih _)
   rw [Nat.pow_succ, Nat.mul_comm (256 ^ l.length), ← Nat.mul_assoc]
   exact Nat.mul_le_mul_right _ (by omega)
theorem val_ge (c : UInt8) (l : Text) (hc : c ≠ 0) : 256 ^ l.length ≤ Blob.val (c :: l) := by
 have h := val_ge_from l (0 * 256 + c.toNat)
 have hp : 0 < c.toNat := by
  rcases Nat.eq_zero_or_pos c.toNat with h | h
  · exact absurd (UInt8.toNat_inj.1 (by rw [h]; rfl)) hc
  · exact h
 refine Nat.le_trans ?_ h
 rw [Nat.zero_mul, Nat.zero_add]
 exact Nat.le_mul_of_pos_left _ hp
theorem nb_eq (m k : Nat) (hm : m < 9223372036854775808) (h1 : m < 256 ^ k) (h2 : k = 0 ∨ 256 ^ (k - 1) ≤ m) : Blob.nb m = k := by
 have a := Blob.nb_le k m h1 (by omega)
 have b := Blob.nb_lt m (by omega)
 rcases h2 with rfl | h2
 · omega
 · rcases Nat.lt_or_ge (Blob.nb m) k with h | h
   · exfalso
     have : 256 ^ Blob.nb m ≤ 256 ^ (k - 1) := Nat.pow_le_pow_right (by omega) (by omega)
     omega
   · omega
theorem sizeP_be (m : Nat) (r : Text) (hm : m < 9223372036854775808) : sizeP (Blob.be (Blob.nb m) m ++ r) (Blob.nb m) = some (m, r) := by
 have hl := Blob.be_length (Blob.nb m) m
 have ht : (Blob.be (Blob.nb m) m ++ r).take (Blob.nb m) = Blob.be (Blob.nb m) m := by
  rw [List.take_append_of_le_length (by omega), List.take_of_length_le (by omega)]
 have hd : (Blob.be (Blob.nb m) m ++ r).drop (Blob.nb m) = r := by
  rw [List.drop_append_of_le_length (by omega), List.drop_of_length_le (by omega), List.nil_append]
 have hv : Blob.val (Blob.be (Blob.nb m) m) = m := Blob.val_be _ m (Blob.nb_lt m (by omega))
 unfold sizeP
 rw [if_pos, ht, hd, hv]
 refine ⟨Blob.nb_8 m hm, by rw [List.length_append, hl]; omega, ?_, by rw [ht, hv]; omega⟩
 rcases Nat.eq_zero_or_pos (Blob.nb m) with h | h
 · exact .inl h
 · right
   have h0 : m ≠ 0 := by rintro rfl; rw [Blob.nb_zero] at h; omega
   rw [List.getElem?_append_left (by omega), Blob.be_get _ m 0 h]
   have a := Blob.nb_ge m h0 (by omega)
   have b := Blob.nb_lt m (by omega)
   obtain ⟨K, hK⟩ : ∃ K, Blob.nb m = K + 1 := ⟨Blob.nb m - 1, by omega⟩
   rw [hK] at a b ⊢
   simp only [Nat.add_sub_cancel, Nat.sub_zero] at a ⊢
   rw [Nat.pow_succ] at b
   have hp : 0 < 256 ^ K := Nat.pow_pos (by omega)
   have h1 : 1 ≤ m / 256 ^ K := (Nat.one_le_div_iff hp).2 a
   have h2 : m / 256 ^ K < 256 := (Nat.div_lt_iff_lt_mul hp).2 (by rw [Nat.mul_comm]; exact b)
   intro hq
   injection hq with hq
   have := congrArg UInt8.toNat hq
   rw [UInt8.toNat_ofNat'] at this
   simp at this
   omega
theorem sizeP_back {rest r : Text} {many n : Nat} (h : sizeP rest many = some (n, r)) : many = Blob.nb n ∧ rest = Blob.be (Blob.nb n) n ++ r ∧ n ≤ 9223372036854775807 := by
 unfold sizeP at h
 by_cases hk : okS rest many
 · rw [if_pos hk] at h
   injection h with h
   injection h with h1 h2
   obtain ⟨k1, k2, k3, k4⟩ := hk
   have hl : (rest.take many).length = many := by rw [List.length_take]; omega
   have hlt := Blob.val_lt (rest.take many)
   rw [hl, h1] at hlt
   have hb : Blob.nb n = many := nb_eq n many (by omega) hlt (by
    rcases k3 with k3 | k3
    · exact .inl k3
    · rcases Nat.eq_zero_or_pos many with h0 | h0
      · exact .inl h0
      · right
        cases rest with
        | nil => simp at k2; omega
        | cons c l =>
          obtain ⟨K, rfl⟩ : ∃ K, many = K + 1 := ⟨many - 1, by omega⟩
          have hg := val_ge c (l.take K) (by intro h; apply k3; rw [h]; rfl)
          rw [List.take_succ_cons] at h1 hl
          rw [h1] at hg
          have : (l.take K).length = K := by simpa using hl
          rw [this] at hg
          simpa using hg)
   refine ⟨hb.symm, ?_, by omega⟩
   have := be_val (rest.take many)
   rw [hl, h1] at this
   rw [hb, this, ← h2, List.take_append_drop]
 · rw [if_neg hk] at h; cases h

theorem head_of (h m : Nat) (hh : h = 0 ∨ h = 128) (hm : m < 9223372036854775808) : (UInt8.ofNat (h + Blob.nb m)).toNat = h + Blob.nb m := by
 have := Blob.nb_8 m hm
 rw [UInt8.toNat_ofNat']; omega
theorem numP_doc {n : Int} {T : Text} (r : Text) (h : docN n = some T) (h1 : -9223372036854775808 ≤ n) (h2 : n ≤ 9223372036854775807) : numP (T ++ r) = some (n, r) := by
 unfold docN at h
 by_cases h0 : n = -9223372036854775808
 · rw [if_pos h0] at h; cases h
 · rw [if_neg h0] at h
   injection h with h
   by_cases hn : n < 0
   · rw [if_pos hn] at h
     obtain ⟨m, hm⟩ : ∃ m : Nat, n = -(m : Int) := ⟨(-n).toNat, by omega⟩
     subst hm
     rw [show (- -(m : Int)).toNat = m by omega] at h
     subst h
     have hb := Blob.nb_8 m (by omega)
     have hq := head_of 128 m (.inr rfl) (by omega)
     show numP (UInt8.ofNat (128 + Blob.nb m) :: (Blob.be (Blob.nb m) m ++ r)) = _
     unfold numP
     simp only [hq]
     rw [show (128 + Blob.nb m) % 128 = Blob.nb m by omega, sizeP_be m r (by omega)]
     simp only
     rw [if_neg (by omega), if_pos (by omega)]
   · rw [if_neg hn] at h
     obtain ⟨m, hm⟩ : ∃ m : Nat, n = (m : Int) := ⟨n.toNat, by omega⟩
     subst hm
     rw [Int.toNat_natCast] at h
     subst h
     have hb := Blob.nb_8 m (by omega)
     have hq := head_of 0 m (.inl rfl) (by omega)
     show numP (UInt8.ofNat (0 + Blob.nb m) :: (Blob.be (Blob.nb m) m ++ r)) = _
     unfold numP
     simp only [hq]
     rw [show (0 + Blob.nb m) % 128 = Blob.nb m by omega, sizeP_be m r (by omega)]
     simp only
     rw [if_pos (by omega)]
theorem numP_back {rest r : Text} {n : Int} (h : numP rest = some (n, r)) : ∃ D, docN n = some D ∧ rest = D ++ r ∧ -9223372036854775808 < n ∧ n ≤ 9223372036854775807 := by
 cases rest with
 | nil => simp [numP] at h
 | cons c l =>
   unfold numP at h
   cases hs : sizeP l (c.toNat % 128) with
   | none => simp [hs] at h
   | some p =>
     obtain ⟨m, r'⟩ := p
     obtain ⟨e1, e2, e3⟩ := sizeP_back hs
     simp only [hs] at h
     have hc := c.toNat_lt
     by_cases hb : c.toNat < 128
     · rw [if_pos hb] at h
       injection h with h
       injection h with h1 h2
       subst h1 h2
       refine ⟨Blob.numT 0 m, ?_, ?_, by omega, by omega⟩
       · unfold docN
         rw [if_neg (by omega), if_neg (by omega), Int.toNat_natCast]
       · unfold Blob.numT
         rw [e2, List.cons_append]
         congr 1
         apply UInt8.toNat_inj.1
         rw [head_of 0 m (.inl rfl) (by omega)]
         omega
     · rw [if_neg hb] at h
       by_cases hp : 0 < m
       · rw [if_pos hp] at h
         injection h with h
         injection h with h1 h2
         subst h1 h2
         refine ⟨Blob.numT 128 m, ?_, ?_, by omega, by omega⟩
         · unfold docN
           rw [if_neg (by omega), if_pos (by omega), show (- -(m : Int)).toNat = m by omega]
         · unfold Blob.numT
           rw [e2, List.cons_append]
           congr 1
           apply UInt8.toNat_inj.1
           rw [head_of 128 m (.inr rfl) (by omega)]
           omega
       · rw [if_neg hp] at h; cases h
theorem textP_doc {s : ByteArray} {T : Text} (r : Text) (h : docS s = some T) : textP (T ++ r) = some (s, r) := by
 unfold docS at h
 by_cases h0 : 65536 < s.size
 · rw [if_pos h0] at h; cases h
 · rw [if_neg h0] at h
   injection h with h
   subst h
   have hn : docN (s.size : Int) = some (Blob.numT 0 s.size) := by
    unfold docN
    rw [if_neg (by omega), if_neg (by omega), Int.toNat_natCast]
   have hl : (strT s).length = s.size := rfl
   unfold textP textT
   rw [List.append_assoc, numP_doc (strT s ++ r) hn (by omega) (by omega)]
   simp only
   rw [if_pos ⟨by omega, by omega, by rw [List.length_append, hl]; omega⟩, Int.toNat_natCast, List.take_append_of_le_length (by omega), List.take_of_length_le (by omega), List.drop_append_of_le_length (by omega), List.drop_of_length_le (by omega)]
   rfl
theorem textP_back {rest r : Text} {s : ByteArray} (h : textP rest = some (s, r)) : ∃ D, docS s = some D ∧ rest = D ++ r := by
 unfold textP at h
 cases hn : numP rest with
 | none => simp [hn] at h
 | some p =>
   obtain ⟨n, l⟩ := p
   simp only [hn] at h
   by_cases hk : 0 ≤ n ∧ n ≤ 65536 ∧ n.toNat ≤ l.length
   · rw [if_pos hk] at h
     injection h with h
     injection h with h1 h2
     obtain ⟨k1, k2, k3⟩ := hk
     obtain ⟨D, d1, d2, d3, d4⟩ := numP_back hn
     obtain ⟨m, rfl⟩ : ∃ m : Nat, n = (m : Int) := ⟨n.toNat, by omega⟩
     rw [Int.toNat_natCast] at *
     have hl : (l.take m).length = m := by rw [List.length_take]; omega
     have hz : s.size = m := by rw [← h1]; exact hl
     have hS : strT s = l.take m := by rw [← h1]; rfl
     refine ⟨textT s, by unfold docS; rw [if_neg (by omega)], ?_⟩
     unfold textT
     have hd : docN (m : Int) = some (Blob.numT 0 m) := by
      unfold docN
      rw [if_neg (by omega), if_neg (by omega), Int.toNat_natCast]
     rw [hd] at d1
     injection d1 with d1
     rw [hz, hS, d1, List.append_assoc, ← h2, List.take_append_drop]
     exact d2
   · rw [if_neg hk] at h; cases h
theorem flagP_doc (b : Bool) (r : Text) : flagP (flagT b ++ r) = some (b, r) := by cases b <;> rfl
theorem flagP_back {rest r : Text} {b : Bool} (h : flagP rest = some (b, r)) : rest = flagT b ++ r := by
 cases rest with
 | nil => simp [flagP] at h
 | cons c l =>
   unfold flagP at h
   simp only at h
   by_cases hk : c.toNat ≤ 1
   · rw [if_pos hk] at h
     injection h with h
     injection h with h1 h2
     subst h1 h2
     by_cases h1 : c.toNat = 1
     · obtain rfl : c = 1 := UInt8.toNat_inj.1 h1
       rfl
     · obtain rfl : c = 0 := UInt8.toNat_inj.1 (by show c.toNat = 0; omega)
       rfl
   · rw [if_neg hk] at h; cases h
end Go.Proofs.YtplghpamckdklaaGreat

namespace Go.Proofs.YtplghpamckdklaaGreat
open Go.RowKit
set_option maxRecDepth 100000
set_option linter.unusedSimpArgs false
set_option linter.unusedVariables false

noncomputable def nB (n : Int) : Text := (docN n).getD []
noncomputable def sB (s : ByteArray) : Text := (docS s).getD []
/-- a number that has bytes -/
def NR (n : Int) : Prop := -9223372036854775808 < n ∧ n ≤ 9223372036854775807
theorem docN_some {n : Int} (h : NR n) : docN n = some (nB n) := by
 unfold nB docN
 rw [if_neg (by have := h.1; omega)]
 rfl
theorem docS_some {s : ByteArray} (h : s.size ≤ 65536) : docS s = some (sB s) := by
 unfold sB docS
 rw [if_neg (by omega)]
 rfl
theorem nB_len {n : Int} (h : NR n) : (nB n).length ≤ 70000 := docN_len n (by have := h.1; omega) h.2
theorem sB_len (s : ByteArray) : (sB s).length ≤ 70000 := docS_len s
theorem flagT_len (b : Bool) : (flagT b).length ≤ 70000 := by cases b <;> simp [flagT]
theorem next_some (T l : Text) : nextS (some T) (some l) = some (T ++ l) := rfl
theorem numV_doc {n : Int} (h : NR n) (b : Bool) (r : Text) : numV (b, nB n ++ r) = n := by
 unfold numV
 rw [show ((b, nB n ++ r) : Bool × Text).2 = nB n ++ r from rfl, numP_doc r (docN_some h) (by have := h.1; omega) h.2]
theorem numS_doc {n : Int} (h : NR n) (b : Bool) (r : Text) : numS (b, nB n ++ r) = (b, r) := by
 unfold numS
 rw [show ((b, nB n ++ r) : Bool × Text).2 = nB n ++ r from rfl, numP_doc r (docN_some h) (by have := h.1; omega) h.2]
theorem textV_doc {s : ByteArray} (h : s.size ≤ 65536) (b : Bool) (r : Text) : textV (b, sB s ++ r) = s := by
 unfold textV
 rw [show ((b, sB s ++ r) : Bool × Text).2 = sB s ++ r from rfl, textP_doc r (docS_some h)]
theorem textS_doc {s : ByteArray} (h : s.size ≤ 65536) (b : Bool) (r : Text) : textS (b, sB s ++ r) = (b, r) := by
 unfold textS
 rw [show ((b, sB s ++ r) : Bool × Text).2 = sB s ++ r from rfl, textP_doc r (docS_some h)]
theorem flagV_doc (f : Bool) (b : Bool) (r : Text) : flagV (b, flagT f ++ r) = f := by
 unfold flagV
 rw [show ((b, flagT f ++ r) : Bool × Text).2 = flagT f ++ r from rfl, flagP_doc f r]
theorem flagS_doc (f : Bool) (b : Bool) (r : Text) : flagS (b, flagT f ++ r) = (b, r) := by
 unfold flagS
 rw [show ((b, flagT f ++ r) : Bool × Text).2 = flagT f ++ r from rfl, flagP_doc f r]
/-- a line that has bytes -/
def LF (l : LineV) : Prop := NR l.1 ∧ NR l.2.1 ∧ l.2.2.1.size ≤ 65536 ∧ l.2.2.2.1.size ≤ 65536 ∧ l.2.2.2.2.1.size ≤ 65536 ∧ NR l.2.2.2.2.2.1 ∧ NR l.2.2.2.2.2.2.2.1
noncomputable def lineW (l : LineV) (r : Text) : Text := nB l.1 ++ (nB l.2.1 ++ (sB l.2.2.1 ++ (sB l.2.2.2.1 ++ (sB l.2.2.2.2.1 ++ (nB l.2.2.2.2.2.1 ++ (flagT l.2.2.2.2.2.2.1 ++ (nB l.2.2.2.2.2.2.2.1 ++ (flagT l.2.2.2.2.2.2.2.2 ++ r))))))))
noncomputable def linesW : List LineV → Text → Text
 | [], r => r
 | l :: L, r => lineW l (linesW L r)
theorem lineV_doc {l : LineV} (h : LF l) (b : Bool) (r : Text) : lineV (b, lineW l r) = l ∧ lineS (b, lineW l r) = (b, r) := by
 obtain ⟨h1, h2, h3, h4, h5, h6, h7⟩ := h
 unfold lineV lineS lineW
 simp only [numV_doc h1, numS_doc h1, numV_doc h2, numS_doc h2, textV_doc h3, textS_doc h3, textV_doc h4, textS_doc h4, textV_doc h5, textS_doc h5, numV_doc h6, numS_doc h6, flagV_doc, flagS_doc, numV_doc h7, numS_doc h7]
 exact ⟨by trivial, by trivial⟩
theorem linesR_cons (k : Nat) : ∀ s : Bool × Text, linesR (k + 1) s = (lineV s :: (linesR k (lineS s)).1, (linesR k (lineS s)).2) := by
 induction k with
 | zero => intro s; rfl
 | succ k ih =>
   intro s
   have e : linesR (k + 1 + 1) s = ((linesR (k + 1) s).1 ++ [lineV (linesR (k + 1) s).2], lineS (linesR (k + 1) s).2) := rfl
   rw [e, ih s]
   rfl
theorem linesR_doc : ∀ (L : List LineV) (h : ∀ l ∈ L, LF l) (b : Bool) (r : Text), linesR L.length (b, linesW L r) = (L, (b, r))
 | [], _, b, r => rfl
 | l :: L, h, b, r => by
   have h1 := lineV_doc (h l (List.mem_cons_self ..)) b (linesW L r)
   rw [List.length_cons, linesR_cons]
   show (lineV (b, lineW l (linesW L r)) :: (linesR L.length (lineS (b, lineW l (linesW L r)))).1, (linesR L.length (lineS (b, lineW l (linesW L r)))).2) = _
   rw [h1.1, h1.2, linesR_doc L (fun x hx => h x (List.mem_cons_of_mem _ hx)) b r]
noncomputable def headW (d : DocV) (r : Text) : Text := sB d.id ++ (flagT d.sale ++ (flagT d.credit ++ (sB d.refers ++ (nB d.day ++ (sB d.country ++ (sB d.number ++ (sB d.currency ++ (nB d.lines.length ++ r))))))))
/-- a document that has bytes -/
def DF (d : DocV) : Prop := d.id.size ≤ 65536 ∧ d.refers.size ≤ 65536 ∧ NR d.day ∧ d.country.size ≤ 65536 ∧ d.number.size ≤ 65536 ∧ d.currency.size ≤ 65536 ∧ d.lines.length ≤ 64 ∧ ∀ l ∈ d.lines, LF l
theorem docR_doc {d : DocV} (h : DF d) (b : Bool) (r : Text) : docR (b, headW d (linesW d.lines r)) = ((d.id, d.sale, d.credit, d.refers, d.day, d.country, d.number, d.currency), d.lines, (b, r)) := by
 obtain ⟨h1, h2, h3, h4, h5, h6, h7, h8⟩ := h
 have hn : NR (d.lines.length : Int) := ⟨by omega, by omega⟩
 have hs : headS (b, headW d (linesW d.lines r)) = (b, nB d.lines.length ++ linesW d.lines r) := by
  unfold headS headW
  simp only [textV_doc h1, textS_doc h1, flagV_doc, flagS_doc, textV_doc h2, textS_doc h2, numV_doc h3, numS_doc h3, textV_doc h4, textS_doc h4, textV_doc h5, textS_doc h5, textV_doc h6, textS_doc h6]
 have hv : headV (b, headW d (linesW d.lines r)) = (d.id, d.sale, d.credit, d.refers, d.day, d.country, d.number, d.currency) := by
  unfold headV headW
  simp only [textV_doc h1, textS_doc h1, flagV_doc, flagS_doc, textV_doc h2, textS_doc h2, numV_doc h3, numS_doc h3, textV_doc h4, textS_doc h4, textV_doc h5, textS_doc h5, textV_doc h6, textS_doc h6]
 unfold docR
 rw [hs, hv, numV_doc hn, numS_doc hn, if_neg (by omega), Int.toNat_natCast, linesR_doc d.lines h8]
/-- what is written of lines -/
theorem lineT_doc {l : LineV} (h : LF l) (T r : Text) : lineT (some T) l = some (T ++ lineW l []) := by
 obtain ⟨h1, h2, h3, h4, h5, h6, h7⟩ := h
 unfold lineT lineW
 rw [docN_some h1, docN_some h2, docS_some h3, docS_some h4, docS_some h5, docN_some h6, docN_some h7]
 simp only [next_some, List.append_assoc, List.append_nil]
theorem lineW_app (l : LineV) (r : Text) : lineW l r = lineW l [] ++ r := by
 unfold lineW
 simp only [List.append_assoc, List.append_nil]
theorem linesW_app : ∀ (L : List LineV) (r : Text), linesW L r = linesW L [] ++ r
 | [], r => rfl
 | l :: L, r => by
   show lineW l (linesW L r) = lineW l (linesW L []) ++ r
   rw [linesW_app L r, lineW_app l (linesW L [] ++ r), lineW_app l (linesW L []), List.append_assoc]
theorem linesT_doc : ∀ (L : List LineV) (h : ∀ l ∈ L, LF l) (T : Text), linesT (some T) L = some (T ++ linesW L [])
 | [], _, T => by simp [linesT, linesW]
 | l :: L, h, T => by
   have e : linesT (some T) (l :: L) = linesT (lineT (some T) l) L := rfl
   rw [e, lineT_doc (h l (List.mem_cons_self ..)) T [], linesT_doc L (fun x hx => h x (List.mem_cons_of_mem _ hx))]
   show some (T ++ lineW l [] ++ linesW L []) = some (T ++ lineW l (linesW L []))
   rw [lineW_app l (linesW L []), List.append_assoc]
theorem headT_doc {d : DocV} (h : DF d) (T : Text) : headT (some T) d = some (T ++ headW d []) := by
 obtain ⟨h1, h2, h3, h4, h5, h6, h7, h8⟩ := h
 have hn : NR (d.lines.length : Int) := ⟨by omega, by omega⟩
 unfold headT headW
 rw [docS_some h1, docS_some h2, docN_some h3, docS_some h4, docS_some h5, docS_some h6, docN_some hn]
 simp only [next_some, List.append_assoc, List.append_nil]
theorem headW_app (d : DocV) (r : Text) : headW d r = headW d [] ++ r := by
 unfold headW
 simp only [List.append_assoc, List.append_nil]
theorem docT_doc {d : DocV} (h : DF d) (T : Text) : linesT (headT (some T) d) d.lines = some (T ++ headW d (linesW d.lines [])) := by
 rw [headT_doc h, linesT_doc d.lines h.2.2.2.2.2.2.2, headW_app d (linesW d.lines []), List.append_assoc]
theorem lineW_len {l : LineV} (h : LF l) : (lineW l []).length ≤ 630000 := by
 obtain ⟨h1, h2, h3, h4, h5, h6, h7⟩ := h
 unfold lineW
 have := nB_len h1; have := nB_len h2; have := sB_len l.2.2.1; have := sB_len l.2.2.2.1; have := sB_len l.2.2.2.2.1; have := nB_len h6; have := nB_len h7; have := flagT_len l.2.2.2.2.2.2.1; have := flagT_len l.2.2.2.2.2.2.2.2
 simp only [List.length_append, List.length_nil]
 omega
theorem linesW_len : ∀ (L : List LineV) (h : ∀ l ∈ L, LF l), (linesW L []).length ≤ 630000 * L.length
 | [], _ => by simp [linesW]
 | l :: L, h => by
   have h1 := lineW_len (h l (List.mem_cons_self ..))
   have h2 := linesW_len L (fun x hx => h x (List.mem_cons_of_mem _ hx))
   show (lineW l (linesW L [])).length ≤ _
   rw [lineW_app, List.length_append, List.length_cons]
   omega
theorem headW_len {d : DocV} (h : DF d) : (headW d []).length ≤ 630000 := by
 obtain ⟨h1, h2, h3, h4, h5, h6, h7, h8⟩ := h
 have hn : NR (d.lines.length : Int) := ⟨by omega, by omega⟩
 unfold headW
 have := sB_len d.id; have := sB_len d.refers; have := nB_len h3; have := sB_len d.country; have := sB_len d.number; have := sB_len d.currency; have := nB_len hn; have := flagT_len d.sale; have := flagT_len d.credit
 simp only [List.length_append, List.length_nil]
 omega
theorem docB_len {d : DocV} (h : DF d) : (headW d (linesW d.lines [])).length ≤ 41000000 := by
 have h1 := headW_len h
 have h2 := linesW_len d.lines h.2.2.2.2.2.2.2
 have h3 := h.2.2.2.2.2.2.1
 rw [headW_app, List.length_append]
 omega
end Go.Proofs.YtplghpamckdklaaGreat
