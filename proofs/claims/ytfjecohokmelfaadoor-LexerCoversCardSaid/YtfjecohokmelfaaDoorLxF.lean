/- The token that a text begins with. -/
import Derived.Test.YtfjecohokmelfaaDoorLxE
namespace Go.Proofs.YtfjecohokmelfaaDoor
open Go.RowKit
set_option maxRecDepth 100000
set_option linter.unusedSimpArgs false
set_option linter.unusedVariables false

theorem low_s (b : UInt8) (h : b.toNat < 128) : isSr b.toNat = isSb b := by
  unfold isSr isSb
  rw [Bool.eq_iff_iff]
  simp
  omega
theorem high_s (r : Int) (b : UInt8) (h1 : 128 ≤ r) (h2 : 128 ≤ b.toNat) : isSr r = isSb b := by
  unfold isSr isSb
  rw [Bool.eq_iff_iff]
  simp
  omega
theorem low_b (b : UInt8) (h : b.toNat < 128) : isBr b.toNat = isBb b := by
  unfold isBr isBb
  rw [Bool.eq_iff_iff]
  simp
  omega
theorem high_b (r : Int) (b : UInt8) (h1 : 128 ≤ r) (h2 : 128 ≤ b.toNat) : isBr r = isBb b := by
  unfold isBr isBb
  rw [Bool.eq_iff_iff]
  simp
  omega
/-- a rune that begins with such a byte -/
def RuneOf (r : Nat) (b : UInt8) : Prop := (b.toNat < 128 → r = b.toNat) ∧ (128 ≤ b.toNat → 128 ≤ r)
theorem RuneOf.kind {r : Nat} {b : UInt8} (h : RuneOf r b) {P : Int → Bool} {p : UInt8 → Bool} (hlow : ∀ b : UInt8, b.toNat < 128 → P b.toNat = p b) (hhigh : ∀ (r : Int) (b : UInt8), 128 ≤ r → 128 ≤ b.toNat → P r = p b) : P r = p b := by
  by_cases hb : b.toNat < 128
  · rw [h.1 hb]; exact hlow _ hb
  · exact hhigh _ _ (by have := h.2 (by omega); omega) (by omega)
/-- the token that begins at a byte; none: there is none that may be -/
def tokAt (s : ByteArray) (i : Nat) : Option TokV :=
  if isLb (bt s i) = true then some (1, i, s.extract i (runE isLb s i), 0)
  else if isDb (bt s i) = true then (if runE isDb s i - i ≤ 18 then some (2, i, s.extract i (runE isDb s i), (numD s i (runE isDb s i - i) : Nat)) else none)
  else if isSb (bt s i) = true then some (3, i, s.extract i (i + 1), 0) else none
theorem tok_len {s : ByteArray} {i : Nat} {t : TokV} (h : tokAt s i = some t) (hi : i < s.size) : 1 ≤ t.2.2.1.size ∧ i + t.2.2.1.size ≤ s.size ∧ t.2.1 = i ∧ t.2.2.1 = s.extract i (i + t.2.2.1.size) := by
  unfold tokAt at h
  split at h
  · rename_i hb
    injection h with h
    subst h
    have h1 := runE_more hi hb
    have h2 := runE_le (p := isLb) (s := s) (i := i) (by omega)
    have h3 : (s.extract i (runE isLb s i)).size = runE isLb s i - i := ext_size (by omega) h2
    refine ⟨by show 1 ≤ (s.extract i (runE isLb s i)).size; omega, by show i + (s.extract i (runE isLb s i)).size ≤ _; omega, rfl, ?_⟩
    show s.extract i (runE isLb s i) = s.extract i (i + (s.extract i (runE isLb s i)).size)
    rw [h3]
    congr 1
    omega
  · split at h
    · rename_i _ hb
      split at h
      · injection h with h
        subst h
        have h1 := runE_more hi hb
        have h2 := runE_le (p := isDb) (s := s) (i := i) (by omega)
        have h3 : (s.extract i (runE isDb s i)).size = runE isDb s i - i := ext_size (by omega) h2
        refine ⟨by show 1 ≤ (s.extract i (runE isDb s i)).size; omega, by show i + (s.extract i (runE isDb s i)).size ≤ _; omega, rfl, ?_⟩
        show s.extract i (runE isDb s i) = s.extract i (i + (s.extract i (runE isDb s i)).size)
        rw [h3]
        congr 1
        omega
      · cases h
    · split at h
      · injection h with h
        subst h
        have h3 : (s.extract i (i + 1)).size = 1 := by rw [ext_size (by omega) (by omega)]; omega
        refine ⟨by show 1 ≤ (s.extract i (i + 1)).size; omega, by show i + (s.extract i (i + 1)).size ≤ _; omega, rfl, ?_⟩
        show s.extract i (i + 1) = s.extract i (i + (s.extract i (i + 1)).size)
        rw [h3]
      · cases h
/-- the token of what is left of a text -/
theorem tok_ext {s : ByteArray} {b : Nat} (hb : b < s.size) : tokAt (s.extract b s.size) 0 = (tokAt s b).map fun t => (t.1, 0, t.2.2) := by
  have e0 : bt (s.extract b s.size) 0 = bt s b := by rw [bt_ext (by omega) (Nat.le_refl _), Nat.add_zero]
  have eL : runE isLb (s.extract b s.size) 0 = runE isLb s b - b := by rw [runE_ext (by omega), Nat.add_zero]
  have eD : runE isDb (s.extract b s.size) 0 = runE isDb s b - b := by rw [runE_ext (by omega), Nat.add_zero]
  have gL := runE_ge (p := isLb) (s := s) b
  have gD := runE_ge (p := isDb) (s := s) b
  have lL := runE_le (p := isLb) (s := s) (i := b) (by omega)
  have lD := runE_le (p := isDb) (s := s) (i := b) (by omega)
  unfold tokAt
  rw [e0, eL, eD]
  split
  · rw [ext_ext (by omega)]
    show some _ = some _
    rw [show b + (runE isLb s b - b) = runE isLb s b by omega]
    rfl
  · split
    · rw [Nat.sub_zero]
      split
      · rw [ext_ext (by omega), numD_ext _ (by omega)]
        show some _ = some _
        rw [show b + (runE isDb s b - b) = runE isDb s b by omega, Nat.add_zero]
        rfl
      · rfl
    · split
      · rw [ext_ext (by omega)]
        rfl
      · rfl
theorem enc_low {b : UInt8} (h : b.toNat < 128) : Utf8.encode ((b.toNat : Nat) : Int) = ⟨#[b]⟩ := by
  have hv : Utf8.valid ((b.toNat : Nat) : Int) = true := by
    unfold Utf8.valid
    simp only [Bool.or_eq_true, Bool.and_eq_true, decide_eq_true_eq]
    left
    omega
  unfold Utf8.encode
  simp only [hv, if_true, Int.toNat_natCast]
  rw [if_pos h, UInt8.ofNat_toNat]
def firstV (u : ByteArray) : Value := match tokAt u 0 with
  | some t => .tuple #[tokA t, .bool true]
  | none => .tuple #[tokA noTok, .bool false]
/-- a rune of one byte as a text -/
theorem sign_text {u : ByteArray} (h0 : 0 < u.size) : (⟨#[bt u 0]⟩ : ByteArray) = u.extract 0 1 := by
  apply ByteArray.ext
  apply Array.ext
  · have := ext_size (s := u) (b := 0) (e := 1) (by omega) h0
    have h2 : (u.extract 0 1).data.size = 1 := this
    rw [h2]
    rfl
  · intro i h1 h2
    have hi : i = 0 := by
      have h1' : i < 1 := h1
      omega
    subst hi
    have h3 : 0 < (u.extract 0 1).size := h2
    have e : (u.extract 0 1).data[0] = (u.extract 0 1)[0]'h3 := rfl
    rw [e, ByteArray.getElem_extract]
    show bt u 0 = _
    rw [← bt_at h0]
set_option maxHeartbeats 2000000 in
theorem code_first (u : ByteArray) (r : Nat) (w : World) (hu : u.size ≤ 9223372036854775807) (h0 : 0 < u.size) (hd : RuneOf r (bt u 0)) : Calls Tryd.prog 17 #[.string u, .int .i32 (r : Nat)] w fun e w' => e = .returned (firstV u) ∧ Below w.heap.size w w' := by
  have hasc := hd.1
  have HL : Hid (∀ W, Calls Tryd.prog 21 #[.int .i32 (r : Nat)] W fun e w' => e = .returned (.bool (isLb (bt u 0))) ∧ W = w') := Lib.hid fun W => by rw [← hd.kind low_l high_l]; exact code_isLetter _ W
  have HD : Hid (∀ W, Calls Tryd.prog 22 #[.int .i32 (r : Nat)] W fun e w' => e = .returned (.bool (isDb (bt u 0))) ∧ W = w') := Lib.hid fun W => by rw [← hd.kind low_d high_d]; exact code_isDigit _ W
  have HS : Hid (∀ W, Calls Tryd.prog 24 #[.int .i32 (r : Nat)] W fun e w' => e = .returned (.bool (isSb (bt u 0))) ∧ W = w') := Lib.hid fun W => by rw [← hd.kind low_s high_s]; exact code_isSign _ W
  have HN0 : Hid ((w.alloc (.cells #[.int .i64 0, .int .i64 0, .string ⟨#[]⟩, .int .i64 0] 36)).heap[w.heap.size]? = some (.cells #[.int .i64 0, .int .i64 0, .string ⟨#[]⟩, .int .i64 0] 36 (0, 0))) := Lib.hid (heap_alloc_new w _)
  have HH := Lib.hid (And.intro h0 hasc)
  clear hasc hd
  cases hl : isLb (bt u 0) with
  | true =>
    have hv : firstV u = .tuple #[tokA (1, 0, u.extract 0 (runE isLb u 0), 0), .bool true] := by unfold firstV tokAt; rw [if_pos hl]; rfl
    rw [hv]
    rw [hl] at HL
    have hk := runE_le (p := isLb) (s := u) (Nat.zero_le _)
    have HLd := Lib.hid (fun W => code_lead_l u W hu)
    generalize runE isLb u 0 = k at HLd hk ⊢
    have hk' : (k : Int) ≤ (u.size : Int) := by omega
    clear hv hl hu h0 HD HS
    go_enter Tryd.func17, Tryd.ntmps17
    go_wp2_with (first
      | (go_at_call 21; refine (HL.out _).mono ?_; rintro e w1 ⟨rfl, rfl⟩)
      | (go_at_call 15; refine (HLd.out _).mono ?_; rintro e w2 ⟨rfl, hb⟩; have HB := Lib.hid hb; clear hb; refine Stop.out ?_))
    unfold Stop
    have HR := Lib.hid (heap_on HB.out HN0.out)
    have HB2 : Hid (Below w.heap.size w w2) := Lib.hid (below_then (below_alloc w _) HB.out)
    go_wp2_with (first
      | ((with_reducible refine wpList_store_row 36 (o := ⟨none, _, _, _, _, _⟩) ?a1 (.tmp 4) (.tmp 13) ?a2 w.heap.size ?a3 [.int .i64 1, .int .i64 0, .string (u.extract 0 k), .int .i64 0] ?a4 ?a5 ?a6 #[.int .i64 0, .int .i64 0, .string ⟨#[]⟩, .int .i64 0] ?a7 36 ?a8 ?_); (case a1 => rfl); (case a2 => rfl); (case a3 => rfl); (case a4 => kernel_rfl); (case a5 => exact oneTok _ _ _ _); (case a6 => rfl); (case a7 => rfl); (case a8 => exact HR.out); (try simp only [Act.put]); refine Stop.out ?_))
    unfold Stop
    go_wp2
    refine bodyPost_ret (results_tok tokT_und (by kernel_rfl) rfl _ _ w.heap.size _ _ _ _ (.bool true) rfl rfl _ _ (setRow_heap _ _ _ _ _ _ HR.out)) rfl ⟨rfl, below_setRow HB2.out (Nat.le_refl _) _⟩
  | false =>
    rw [hl] at HL
    cases hdg : isDb (bt u 0) with
    | true =>
      rw [hdg] at HD
      have hk := runE_le (p := isDb) (s := u) (Nat.zero_le _)
      have hk0 := runE_more h0 hdg
      have hz : (u.extract 0 (runE isDb u 0)).size = runE isDb u 0 := by rw [ext_size (by omega) hk]; omega
      have hin : ∀ j, j < (u.extract 0 (runE isDb u 0)).size → isDb (bt (u.extract 0 (runE isDb u 0)) j) = true := fun j hj => by
        rw [hz] at hj
        rw [bt_ext (by omega) hk, Nat.zero_add]
        exact runE_in (Nat.zero_le _) hj
      have hnum : numD (u.extract 0 (runE isDb u 0)) 0 (runE isDb u 0) = numD u 0 (runE isDb u 0) := by
        have : ∀ k, k ≤ runE isDb u 0 → numD (u.extract 0 (runE isDb u 0)) 0 k = numD u 0 k := fun k => by
          induction k with
          | zero => intro _; rfl
          | succ k ih =>
            intro h
            show 10 * numD (u.extract 0 (runE isDb u 0)) 0 k + _ = 10 * numD u 0 k + _
            rw [ih (by omega), bt_ext (by omega) hk, Nat.zero_add]
        exact this _ (Nat.le_refl _)
      have HLd := Lib.hid (fun W => code_lead_d u W hu)
      by_cases h18 : runE isDb u 0 ≤ 18
      · have hv : firstV u = .tuple #[tokA (2, 0, u.extract 0 (runE isDb u 0), (numD u 0 (runE isDb u 0) : Nat)), .bool true] := by unfold firstV tokAt; rw [if_neg (by rw [hl]; decide), if_pos hdg, Nat.sub_zero, if_pos h18]; rfl
        have HNm : Hid (∀ W, Calls Tryd.prog 23 #[.string (u.extract 0 (runE isDb u 0))] W fun e w' => e = .returned (.tuple #[tokA (2, 0, u.extract 0 (runE isDb u 0), (numD u 0 (runE isDb u 0) : Nat)), .bool true]) ∧ Below W.heap.size W w') := Lib.hid fun W => by
          have := code_number_yes (u.extract 0 (runE isDb u 0)) W (by omega) (by omega) hin
          rw [hz, hnum] at this
          exact this
        rw [hv]
        clear hnum hin hz
        generalize numD u 0 (runE isDb u 0) = n at HNm ⊢
        generalize runE isDb u 0 = k at HLd HNm hk ⊢
        have hk' : (k : Int) ≤ (u.size : Int) := by omega
        clear hv hl hu h0 HS h18 hdg hk0
        go_enter Tryd.func17, Tryd.ntmps17
        go_wp2_with (first
          | (go_at_call 21; refine (HL.out _).mono ?_; rintro e w1 ⟨rfl, rfl⟩)
          | (go_at_call 22; refine (HD.out _).mono ?_; rintro e w1 ⟨rfl, rfl⟩)
          | (go_at_call 15; refine (HLd.out _).mono ?_; rintro e w2 ⟨rfl, hb⟩; have HB := Lib.hid hb; clear hb; refine Stop.out ?_))
        unfold Stop
        go_wp2_with (first
          | (go_at_call 23; refine (HNm.out _).mono ?_; rintro e w3 ⟨rfl, hb⟩; have HB3 := Lib.hid hb; clear hb; refine Stop.out ?_))
        unfold Stop
        have HR := Lib.hid (heap_on HB3.out (heap_on HB.out HN0.out))
        have HB2 : Hid (Below w.heap.size w w3) := Lib.hid (below_then (below_then (below_alloc w _) HB.out) HB3.out)
        go_wp2_with (first
          | ((with_reducible refine wpList_store_row 36 (o := ⟨none, _, _, _, _, _⟩) ?a1 (.tmp 4) (.tmp 22) ?a2 w.heap.size ?a3 [.int .i64 2, .int .i64 0, .string (u.extract 0 k), .int .i64 (n : Nat)] ?a4 ?a5 ?a6 #[.int .i64 0, .int .i64 0, .string ⟨#[]⟩, .int .i64 0] ?a7 36 ?a8 ?_); (case a1 => rfl); (case a2 => rfl); (case a3 => rfl); (case a4 => kernel_rfl); (case a5 => exact oneTok _ _ _ _); (case a6 => rfl); (case a7 => rfl); (case a8 => exact HR.out); (try simp only [Act.put]); refine Stop.out ?_))
        unfold Stop
        go_wp2
        refine bodyPost_ret (results_tok tokT_und (by kernel_rfl) rfl _ _ w.heap.size _ _ _ _ (.bool true) rfl rfl _ _ (setRow_heap _ _ _ _ _ _ HR.out)) rfl ⟨rfl, below_setRow HB2.out (Nat.le_refl _) _⟩
      · have hv : firstV u = .tuple #[tokA noTok, .bool false] := by unfold firstV tokAt; rw [if_neg (by rw [hl]; decide), if_pos hdg, Nat.sub_zero, if_neg h18]
        have HNm : Hid (∀ W, Calls Tryd.prog 23 #[.string (u.extract 0 (runE isDb u 0))] W fun e w' => e = .returned (.tuple #[tokA noTok, .bool false]) ∧ Below W.heap.size W w') := Lib.hid fun W => code_number_no _ W (by omega)
        rw [hv]
        clear hnum hin hz
        generalize runE isDb u 0 = k at HLd HNm hk ⊢
        have hk' : (k : Int) ≤ (u.size : Int) := by omega
        clear hv hl hu h0 HS h18 hdg hk0
        go_enter Tryd.func17, Tryd.ntmps17
        go_wp2_with (first
          | (go_at_call 21; refine (HL.out _).mono ?_; rintro e w1 ⟨rfl, rfl⟩)
          | (go_at_call 22; refine (HD.out _).mono ?_; rintro e w1 ⟨rfl, rfl⟩)
          | (go_at_call 15; refine (HLd.out _).mono ?_; rintro e w2 ⟨rfl, hb⟩; have HB := Lib.hid hb; clear hb; refine Stop.out ?_))
        unfold Stop
        go_wp2_with (first
          | (go_at_call 23; refine (HNm.out _).mono ?_; rintro e w3 ⟨rfl, hb⟩; have HB3 := Lib.hid hb; clear hb; refine Stop.out ?_))
        unfold Stop
        have HR := Lib.hid (heap_on HB3.out (heap_on HB.out HN0.out))
        have HB2 : Hid (Below w.heap.size w w3) := Lib.hid (below_then (below_then (below_alloc w _) HB.out) HB3.out)
        go_wp2_with (first
          | ((with_reducible refine wpList_store_row 36 (o := ⟨none, _, _, _, _, _⟩) ?a1 (.tmp 4) (.tmp 22) ?a2 w.heap.size ?a3 [.int .i64 0, .int .i64 0, .string ⟨#[]⟩, .int .i64 0] ?a4 ?a5 ?a6 #[.int .i64 0, .int .i64 0, .string ⟨#[]⟩, .int .i64 0] ?a7 36 ?a8 ?_); (case a1 => rfl); (case a2 => rfl); (case a3 => rfl); (case a4 => kernel_rfl); (case a5 => exact oneTok _ _ _ _); (case a6 => rfl); (case a7 => rfl); (case a8 => exact HR.out); (try simp only [Act.put]); refine Stop.out ?_))
        unfold Stop
        go_wp2
        refine bodyPost_ret (results_tok tokT_und (by kernel_rfl) rfl _ _ w.heap.size _ _ _ _ (.bool false) rfl rfl _ _ (setRow_heap _ _ _ _ _ _ HR.out)) rfl ⟨rfl, below_setRow HB2.out (Nat.le_refl _) _⟩
    | false =>
      rw [hdg] at HD
      cases hsg : isSb (bt u 0) with
      | true =>
        have hv : firstV u = .tuple #[tokA (3, 0, u.extract 0 1, 0), .bool true] := by unfold firstV tokAt; rw [if_neg (by rw [hl]; decide), if_neg (by rw [hdg]; decide), if_pos hsg]; rfl
        rw [hv]
        rw [hsg] at HS
        have hr : r = (bt u 0).toNat := HH.out.2 (by unfold isSb at hsg; simp only [decide_eq_true_eq] at hsg; omega)
        rw [← sign_text h0, ← enc_low (b := bt u 0) (by unfold isSb at hsg; simp only [decide_eq_true_eq] at hsg; omega), ← hr]
        clear hr
        clear hv hl hu h0 hdg hsg
        go_enter Tryd.func17, Tryd.ntmps17
        go_wp2_with (first
          | (go_at_call 21; refine (HL.out _).mono ?_; rintro e w1 ⟨rfl, rfl⟩)
          | (go_at_call 22; refine (HD.out _).mono ?_; rintro e w1 ⟨rfl, rfl⟩)
          | (go_at_call 24; refine (HS.out _).mono ?_; rintro e w1 ⟨rfl, rfl⟩))
        generalize Utf8.encode (r : Int) = X
        refine bodyPost_ret (results_tok tokT_und (by kernel_rfl) rfl _ _ w.heap.size _ _ _ _ (.bool true) rfl rfl _ _ (heap_alloc_new w _)) rfl ⟨rfl, below_alloc _ _⟩
      | false =>
        have hv : firstV u = .tuple #[tokA noTok, .bool false] := by unfold firstV tokAt; rw [if_neg (by rw [hl]; decide), if_neg (by rw [hdg]; decide), if_neg (by rw [hsg]; decide)]
        rw [hv]
        rw [hsg] at HS
        clear hv hl hu h0 hdg hsg
        go_enter Tryd.func17, Tryd.ntmps17
        go_wp2_with (first
          | (go_at_call 21; refine (HL.out _).mono ?_; rintro e w1 ⟨rfl, rfl⟩)
          | (go_at_call 22; refine (HD.out _).mono ?_; rintro e w1 ⟨rfl, rfl⟩)
          | (go_at_call 24; refine (HS.out _).mono ?_; rintro e w1 ⟨rfl, rfl⟩))
        refine bodyPost_ret (results_tok tokT_und (by kernel_rfl) rfl _ _ w.heap.size _ _ _ _ (.bool false) rfl rfl _ _ HN0.out) rfl ⟨rfl, below_alloc _ _⟩
end Go.Proofs.YtfjecohokmelfaaDoor
