/- What lies between tokens is nothing; what is shown reads again: plain facts. -/
import Derived.Test.YtfjecohokmelfaaDoorLxM
namespace Go.Proofs.YtfjecohokmelfaaDoor
open Go.RowKit
set_option maxRecDepth 100000
set_option linter.unusedVariables false

/-- from a to b is nothing: blanks and remarks -/
def Skip (s : ByteArray) (a b : Nat) : Prop := ∀ M : Nat → Prop, M b → (∀ j, j < s.size → isBb (bt s j) = true → M (j + 1) → M j) → (∀ j, j < s.size → (bt s j).toNat = 35 → M (runE isRb s j) → M j) → M a
section
variable {s : ByteArray} {a b : Nat}
theorem Skip.refl : Skip s a a := fun _ h _ _ => h
theorem Skip.blank (h : Skip s a b) (hb : b < s.size) (hk : isBb (bt s b) = true) : Skip s a (b + 1) := fun M h0 h1 h2 => h M (h1 b hb hk h0) h1 h2
theorem Skip.rem (h : Skip s a b) (hb : b < s.size) (hk : (bt s b).toNat = 35) : Skip s a (runE isRb s b) := fun M h0 h1 h2 => h M (h2 b hb hk h0) h1 h2
theorem Skip.le (h : Skip s a b) : a ≤ b := h (fun j => j ≤ b) (Nat.le_refl _) (fun j _ _ h => by omega) (fun j hj hr h => by have := rem_more hj hr; omega)
/-- so the text from a to b alone has no token -/
theorem Skip.none (h : Skip s a b) (hb : b ≤ s.size) : ∀ acc, lexI (s.extract a b) 0 acc = (acc, 0, 0) := by
  have key : a ≤ b ∧ ∀ c, c ≤ a → ∀ acc, lexI (s.extract c b) (a - c) acc = (acc, 0, 0) := by
    refine h (fun j => j ≤ b ∧ ∀ c, c ≤ j → ∀ acc, lexI (s.extract c b) (j - c) acc = (acc, 0, 0)) ?_ ?_ ?_
    · refine ⟨Nat.le_refl _, fun c hc acc => lexI_end ?_⟩
      rw [ext_size hc hb]
      exact Nat.le_refl _
    · rintro j hj hk ⟨h1, h2⟩
      refine ⟨by omega, fun c hc acc => ?_⟩
      have hz : (s.extract c b).size = b - c := ext_size (by omega) hb
      have e : bt (s.extract c b) (j - c) = bt s j := by rw [bt_ext (by omega) hb]; congr 1; omega
      rw [lexI_blank (by omega) (by rw [e]; exact hk), show j - c + 1 = (j + 1) - c by omega]
      exact h2 c (by omega) acc
    · rintro j hj hk ⟨h1, h2⟩
      have hm := rem_more hj hk
      refine ⟨by omega, fun c hc acc => ?_⟩
      have hz : (s.extract c b).size = b - c := ext_size (by omega) hb
      have e : bt (s.extract c b) (j - c) = bt s j := by rw [bt_ext (by omega) hb]; congr 1; omega
      have er : runE isRb (s.extract c b) (j - c) = runE isRb s j - c := by
        refine runE_is (by omega) (by omega) (fun i h3 h4 => ?_) (fun h3 => ?_)
        · rw [bt_ext (by omega) hb]
          exact runE_in (i := j) (by omega) (by omega)
        · rw [bt_ext (by omega) hb, show c + (runE isRb s j - c) = runE isRb s j by omega]
          exact runE_end (by omega)
      rw [lexI_rem (by omega) (by rw [e]; exact hk), er]
      exact h2 c (by omega) acc
  intro acc
  have := key.2 a (Nat.le_refl _) acc
  rwa [Nat.sub_self] at this
end
/-- tokens that cover a text from a place on -/
def Chain (s : ByteArray) : Nat → List TokV → Prop
  | a, [] => a ≤ s.size ∧ lexI (s.extract a s.size) 0 [] = ([], 0, 0)
  | a, t :: L => ∃ b : Nat, t.2.1 = b ∧ a ≤ b ∧ 1 ≤ t.2.2.1.size ∧ b + t.2.2.1.size ≤ s.size ∧ s.extract b (b + t.2.2.1.size) = t.2.2.1 ∧ lexI (s.extract a b) 0 [] = ([], 0, 0) ∧ Chain s (b + t.2.2.1.size) L
theorem lex_chain {s : ByteArray} : ∀ i acc, i ≤ s.size → (lexI s i acc).2.2 = 0 → ∃ L, (lexI s i acc).1 = acc ++ L ∧ ∀ a, Skip s a i → Chain s a L := by
  refine lex_ind (s := s) _ ?_ ?_ ?_ ?_ ?_
  · intro i acc h h0 h1
    obtain rfl : i = s.size := by omega
    rw [lexI_end h]
    exact ⟨[], (List.append_nil _).symm, fun a ha => ⟨ha.le, ha.none (Nat.le_refl _) []⟩⟩
  · intro i acc h hb ih h0 h1
    rw [lexI_blank h hb] at h1 ⊢
    obtain ⟨L, h2, h3⟩ := ih (by omega) h1
    exact ⟨L, h2, fun a ha => h3 a (ha.blank h hb)⟩
  · intro i acc h hb ih h0 h1
    have hm := rem_more h hb
    rw [lexI_rem h hb] at h1 ⊢
    obtain ⟨L, h2, h3⟩ := ih (by omega) h1
    exact ⟨L, h2, fun a ha => h3 a (ha.rem h hb)⟩
  · intro i acc h hb hr ht h0 h1
    rw [lexI_bad h hb hr ht] at h1
    exact absurd h1 (show ¬ ((80 : Int) = 0) by decide)
  · intro i acc t h hb hr ht ih h0 h1
    have hl := tok_len ht h
    rw [lexI_tok h hb hr ht] at h1 ⊢
    obtain ⟨L, h2, h3⟩ := ih hl.2.1 h1
    refine ⟨t :: L, by rw [h2, List.append_assoc]; rfl, fun a ha => ⟨i, hl.2.2.1, ha.le, hl.1, hl.2.1, hl.2.2.2.symm, ha.none (by omega) [], h3 _ Skip.refl⟩⟩
theorem lex_covers {s : ByteArray} (h : (lexI s 0 []).2.2 = 0) : Chain s 0 (lexI s 0 []).1 := by
  obtain ⟨L, h1, h2⟩ := lex_chain (s := s) 0 [] (Nat.zero_le _) h
  rw [h1]
  exact h2 0 Skip.refl
/-- an error tells no token -/
theorem lex_bare {s : ByteArray} : ∀ i acc, (lexI s i acc).2.2 = 0 ∨ (lexI s i acc).1 = [] ∧ (lexI s i acc).2.2 = 80 := by
  refine lex_ind (s := s) _ ?_ ?_ ?_ ?_ ?_
  · intro i acc h
    rw [lexI_end h]
    exact .inl rfl
  · intro i acc h hb ih
    rw [lexI_blank h hb]
    exact ih
  · intro i acc h hb ih
    rw [lexI_rem h hb]
    exact ih
  · intro i acc h hb hr ht
    rw [lexI_bad h hb hr ht]
    exact .inr ⟨rfl, rfl⟩
  · intro i acc t h hb hr ht ih
    rw [lexI_tok h hb hr ht]
    exact ih
/-- a token's text, whole -/
def TokX (k : Int) (x : ByteArray) (n : Int) : Prop := 1 ≤ x.size ∧ ((k = 1 ∧ n = 0 ∧ ∀ j, j < x.size → isLb (bt x j) = true) ∨ (k = 2 ∧ x.size ≤ 18 ∧ n = (numD x 0 x.size : Nat) ∧ ∀ j, j < x.size → isDb (bt x j) = true) ∨ (k = 3 ∧ n = 0 ∧ x.size = 1 ∧ isSb (bt x 0) = true))
theorem numD_same {s u : ByteArray} {i b : Nat} : ∀ k, (∀ j, j < k → bt s (i + j) = bt u (b + j)) → numD s i k = numD u b k
  | 0, _ => rfl
  | k + 1, h => by
    show 10 * numD s i k + _ = 10 * numD u b k + _
    rw [numD_same k (fun j hj => h j (by omega)), h k (by omega)]
theorem tokX_of {s : ByteArray} {i : Nat} {t : TokV} (h : tokAt s i = some t) (hi : i < s.size) : TokX t.1 t.2.2.1 t.2.2.2 := by
  unfold tokAt at h
  split at h
  · rename_i hb
    injection h with h
    subst h
    have h1 := runE_more hi hb
    have h2 := runE_le (p := isLb) (s := s) (i := i) (by omega)
    have h3 : (s.extract i (runE isLb s i)).size = runE isLb s i - i := ext_size (by omega) h2
    refine ⟨by show 1 ≤ (s.extract i (runE isLb s i)).size; omega, .inl ⟨rfl, rfl, fun j hj => ?_⟩⟩
    have hj' : j < runE isLb s i - i := by rw [← h3]; exact hj
    show isLb (bt (s.extract i (runE isLb s i)) j) = true
    rw [bt_ext (by omega) h2]
    exact runE_in (i := i) (by omega) (by omega)
  · rename_i hnl
    split at h
    · rename_i hb
      split at h
      · rename_i h18
        injection h with h
        subst h
        have h1 := runE_more hi hb
        have h2 := runE_le (p := isDb) (s := s) (i := i) (by omega)
        have h3 : (s.extract i (runE isDb s i)).size = runE isDb s i - i := ext_size (by omega) h2
        refine ⟨by show 1 ≤ (s.extract i (runE isDb s i)).size; omega, .inr (.inl ⟨rfl, by show (s.extract i (runE isDb s i)).size ≤ 18; omega, ?_, fun j hj => ?_⟩)⟩
        · show ((numD s i (runE isDb s i - i) : Nat) : Int) = (numD (s.extract i (runE isDb s i)) 0 (s.extract i (runE isDb s i)).size : Nat)
          rw [h3]
          congr 1
          refine numD_same _ fun j hj => ?_
          rw [Nat.zero_add, bt_ext (by omega) h2]
        · have hj' : j < runE isDb s i - i := by rw [← h3]; exact hj
          show isDb (bt (s.extract i (runE isDb s i)) j) = true
          rw [bt_ext (by omega) h2]
          exact runE_in (i := i) (by omega) (by omega)
      · cases h
    · split at h
      · rename_i hb
        injection h with h
        subst h
        have h3 : (s.extract i (i + 1)).size = 1 := by rw [ext_size (by omega) (by omega)]; omega
        refine ⟨by show 1 ≤ (s.extract i (i + 1)).size; omega, .inr (.inr ⟨rfl, rfl, h3, ?_⟩)⟩
        show isSb (bt (s.extract i (i + 1)) 0) = true
        rw [bt_ext (by omega) (by omega), Nat.add_zero]
        exact hb
      · cases h
theorem lex_toks {s : ByteArray} : ∀ i acc, (∀ t ∈ acc, TokX t.1 t.2.2.1 t.2.2.2) → ∀ t ∈ (lexI s i acc).1, TokX t.1 t.2.2.1 t.2.2.2 := by
  refine lex_ind (s := s) _ ?_ ?_ ?_ ?_ ?_
  · intro i acc h h0
    rw [lexI_end h]
    exact h0
  · intro i acc h hb ih h0
    rw [lexI_blank h hb]
    exact ih h0
  · intro i acc h hb ih h0
    rw [lexI_rem h hb]
    exact ih h0
  · intro i acc h hb hr ht h0
    rw [lexI_bad h hb hr ht]
    exact fun t ht => by cases ht
  · intro i acc t h hb hr ht ih h0
    rw [lexI_tok h hb hr ht]
    refine ih fun u hu => ?_
    rcases List.mem_append.1 hu with hu | hu
    · exact h0 u hu
    · obtain rfl : u = t := by simpa using hu
      exact tokX_of ht h
theorem kinds_apart (b : UInt8) : (isLb b = true → isBb b = false ∧ b.toNat ≠ 35) ∧ (isDb b = true → isBb b = false ∧ b.toNat ≠ 35 ∧ isLb b = false) ∧ (isSb b = true → isBb b = false ∧ b.toNat ≠ 35 ∧ isLb b = false ∧ isDb b = false) := by
  unfold isLb isDb isBb isSb
  generalize b.toNat = n
  simp
  refine ⟨?_, ?_, ?_⟩
  all_goals omega
theorem ext_whole {S x : ByteArray} {b : Nat} (h1 : b + x.size ≤ S.size) (h : ∀ j, j < x.size → bt S (b + j) = bt x j) : S.extract b (b + x.size) = x := by
  have hz : (S.extract b (b + x.size)).size = x.size := by rw [ext_size (by omega) h1]; omega
  apply ByteArray.ext_getElem hz
  intro i hi1 hi2
  rw [bt_at hi1, bt_at hi2, bt_ext (by omega) h1]
  exact h i hi2
theorem tokX_at {S x : ByteArray} {b : Nat} {k n : Int} (hx : TokX k x n) (h1 : b + x.size ≤ S.size) (h : ∀ j, j < x.size → bt S (b + j) = bt x j) (h2 : b + x.size < S.size → (bt S (b + x.size)).toNat = 32) :
    b < S.size ∧ isBb (bt S b) = false ∧ (bt S b).toNat ≠ 35 ∧ tokAt S b = some (k, (b : Int), x, n) := by
  have he := ext_whole h1 h
  obtain ⟨h0, hx⟩ := hx
  have hb0 : bt S b = bt x 0 := by rw [← h 0 (by omega), Nat.add_zero]
  obtain ⟨a1, a2, a3⟩ := kinds_apart (bt x 0)
  rcases hx with ⟨rfl, rfl, hl⟩ | ⟨rfl, h18, rfl, hl⟩ | ⟨rfl, rfl, hz, hl⟩
  · have hr : runE isLb S b = b + x.size := runE_is (by omega) h1 (fun j b1 b2 => by
      have := h (j - b) (by omega)
      rw [show b + (j - b) = j by omega] at this
      rw [this]
      exact hl _ (by omega)) (fun h3 => by unfold isLb; rw [h2 h3]; decide)
    have c := a1 (hl 0 (by omega))
    refine ⟨by omega, by rw [hb0]; exact c.1, by rw [hb0]; exact c.2, ?_⟩
    unfold tokAt
    rw [if_pos (by rw [hb0]; exact hl 0 (by omega)), hr, he]
  · have hr : runE isDb S b = b + x.size := runE_is (by omega) h1 (fun j b1 b2 => by
      have := h (j - b) (by omega)
      rw [show b + (j - b) = j by omega] at this
      rw [this]
      exact hl _ (by omega)) (fun h3 => by unfold isDb; rw [h2 h3]; decide)
    have c := a2 (hl 0 (by omega))
    refine ⟨by omega, by rw [hb0]; exact c.1, by rw [hb0]; exact c.2.1, ?_⟩
    unfold tokAt
    rw [if_neg (by rw [hb0, c.2.2]; decide), if_pos (by rw [hb0]; exact hl 0 (by omega)), hr, show b + x.size - b = x.size by omega, if_pos h18, he]
    rw [numD_same (s := S) (u := x) (i := b) (b := 0) x.size (fun j hj => by rw [Nat.zero_add]; exact h j hj)]
  · have c := a3 hl
    refine ⟨by omega, by rw [hb0]; exact c.1, by rw [hb0]; exact c.2.1, ?_⟩
    unfold tokAt
    rw [if_neg (by rw [hb0, c.2.2.1]; decide), if_neg (by rw [hb0, c.2.2.2]; decide), if_pos (by rw [hb0]; exact hl), ← hz, he]
/-- what is shown reads again: the same kinds, texts and numbers -/
def sameK (t u : TokV) : Prop := u.1 = t.1 ∧ u.2.2.1 = t.2.2.1 ∧ u.2.2.2 = t.2.2.2
theorem bt_list' {S : ByteArray} {i : Nat} {l : List UInt8} (h : S.data.toList.drop i = l) (hi : i ≤ S.size) : S.size = i + l.length ∧ ∀ j (hj : j < l.length), bt S (i + j) = l[j] := by
  have hz : S.data.toList.length = S.size := by rw [Array.length_toList]; rfl
  have h1 : S.size = i + l.length := by
    have := congrArg List.length h
    rw [List.length_drop, hz] at this
    omega
  refine ⟨h1, fun j hj => ?_⟩
  have h2 := bt_list (d := S) (k := i + j) (by omega)
  have h3 : l[j]? = some (bt S (i + j)) := by rw [← h, List.getElem?_drop, h2]
  rw [List.getElem?_eq_getElem hj] at h3
  exact (Option.some.inj h3).symm
theorem lex_shown {S : ByteArray} : ∀ (R : List TokV) (i : Nat) (acc : List TokV), (∀ t ∈ R, TokX t.1 t.2.2.1 t.2.2.2) → i ≤ S.size → S.data.toList.drop i = showL R → ∃ L, lexI S i acc = (acc ++ L, 0, 0) ∧ L.length = R.length ∧ ∀ j (h1 : j < R.length) (h2 : j < L.length), sameK R[j] L[j]
  | [], i, acc, _, hi, hd => by
    have := (bt_list' hd hi).1
    have h0 : (showL []).length = 0 := rfl
    rw [lexI_end (by omega)]
    exact ⟨[], by rw [List.append_nil], rfl, fun j h1 => absurd h1 (Nat.not_lt_zero _)⟩
  | t :: R, i, acc, hR, hi, hd => by
    have hx := hR t (List.mem_cons_self ..)
    obtain ⟨k, a0, x, n⟩ := t
    have hxz : x.data.toList.length = x.size := by rw [Array.length_toList]; rfl
    have hs : showL ((k, a0, x, n) :: R) = x.data.toList ++ (if R = [] then [] else 32 :: showL R) := by
      unfold showL
      rw [List.map_cons, Lib.join_cons]
      unfold Lib.joinTail
      cases R with
      | nil => simp
      | cons u R' =>
        rw [if_neg (by simp), List.map_cons, Lib.join_cons]
        unfold Lib.joinTail
        simp
    rw [hs] at hd
    obtain ⟨hz, hb⟩ := bt_list' hd hi
    rw [List.length_append, hxz] at hz
    have h1 : i + x.size ≤ S.size := by omega
    have h2 : ∀ j, j < x.size → bt S (i + j) = bt x j := fun j hj => by
      rw [hb j (by rw [List.length_append]; omega), List.getElem_append_left (by omega)]
      have := bt_list (d := x) hj
      rw [List.getElem?_eq_getElem (by omega)] at this
      exact Option.some.inj this
    have hd2 : S.data.toList.drop (i + x.size) = if R = [] then [] else 32 :: showL R := by
      rw [← List.drop_drop, hd, ← hxz, List.drop_left]
    by_cases hn : R = []
    · subst hn
      rw [if_pos rfl] at hd2 hz
      obtain ⟨c1, c2, c3, c4⟩ := tokX_at hx h1 h2 (fun h3 => by have h4 : i + x.size < S.size := h3; have h5 : S.size = i + (x.size + 0) := hz; omega)
      obtain ⟨L, e1, e2, e3⟩ := lex_shown [] (i + x.size) (acc ++ [(k, (i : Int), x, n)]) (fun _ h => by cases h) h1 hd2
      refine ⟨(k, (i : Int), x, n) :: L, ?_, by rw [List.length_cons, List.length_cons, e2], fun j q1 q2 => ?_⟩
      · rw [lexI_tok c1 c2 c3 c4]
        show lexI S (i + x.size) _ = _
        rw [e1, List.append_assoc]
        rfl
      · cases j with
        | zero => exact ⟨rfl, rfl, rfl⟩
        | succ j => exact absurd q1 (by simp)
    · rw [if_neg hn] at hd2 hz
      have h32 : bt S (i + x.size) = 32 := by
        have := (bt_list' hd2 h1).2 0 (by simp)
        rw [Nat.add_zero] at this
        exact this
      obtain ⟨c1, c2, c3, c4⟩ := tokX_at hx h1 h2 (fun h3 => by rw [h32]; rfl)
      have hd3 : S.data.toList.drop (i + x.size + 1) = showL R := by
        rw [← List.drop_drop, hd2]
        rfl
      have hlt : i + x.size < S.size := by simp at hz; omega
      obtain ⟨L, e1, e2, e3⟩ := lex_shown R (i + x.size + 1) (acc ++ [(k, (i : Int), x, n)]) (fun u h => hR u (List.mem_cons_of_mem _ h)) hlt hd3
      refine ⟨(k, (i : Int), x, n) :: L, ?_, by rw [List.length_cons, List.length_cons, e2], fun j q1 q2 => ?_⟩
      · rw [lexI_tok c1 c2 c3 c4]
        show lexI S (i + x.size) _ = _
        rw [lexI_blank hlt (by rw [h32]; decide), e1, List.append_assoc]
        rfl
      · cases j with
        | zero => exact ⟨rfl, rfl, rfl⟩
        | succ j => exact e3 j (by simpa using q1) (by simpa using q2)
theorem lex_again {s : ByteArray} : ∃ L, lexI ⟨(showL (lexI s 0 []).1).toArray⟩ 0 [] = (L, 0, 0) ∧ L.length = (lexI s 0 []).1.length ∧ ∀ j (h1 : j < (lexI s 0 []).1.length) (h2 : j < L.length), sameK (lexI s 0 []).1[j] L[j] := by
  obtain ⟨L, h1, h2, h3⟩ := lex_shown (S := ⟨(showL (lexI s 0 []).1).toArray⟩) (lexI s 0 []).1 0 [] (lex_toks 0 [] fun _ h => by cases h) (Nat.zero_le _) (by simp)
  exact ⟨L, by rw [h1, List.nil_append], h2, h3⟩
end Go.Proofs.YtfjecohokmelfaaDoor
