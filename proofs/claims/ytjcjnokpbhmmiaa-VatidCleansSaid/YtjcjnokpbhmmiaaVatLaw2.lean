/- The statement on what is made clean: its walk. -/
import Derived.Test.YtjcjnokpbhmmiaaVatLaw
namespace Go.Proofs.Ytjcjnokpbhmmiaa
open Go.RowKit Go.Maps
set_option maxRecDepth 1000000

theorem great_nat (x : UInt8) : (greatB x).toNat = if 97 ≤ x.toNat ∧ x.toNat ≤ 122 then x.toNat - 32 else x.toNat := by
  have hb := byte_le x
  unfold greatB
  split
  · rw [UInt8.toNat_ofNat']; omega
  · rfl
theorem great_great (x : UInt8) : greatB (greatB x) = greatB x := by
  apply UInt8.toNat_inj.1
  rw [great_nat (greatB x), great_nat x]
  split <;> (try split) <;> omega
theorem drop_great (x : UInt8) (h : isDrop x = false) : isDrop (greatB x) = false := by
  rw [drop_nat] at h ⊢
  rw [great_nat]
  simp only [Bool.or_eq_false_iff, decide_eq_false_iff_not] at h ⊢
  split <;> omega
theorem cl_cl (l : List UInt8) : cl (cl l) = cl l := by
  unfold cl
  induction l with
  | nil => rfl
  | cons x l ih =>
    cases h : isDrop x with
    | true => simp only [List.filter_cons, h]; exact ih
    | false =>
      have h2 := drop_great x h
      have h3 := great_great x
      simp [h, h2, h3] at ih ⊢
      exact ih
theorem clean_sum (s : ByteArray) : strT (cleanC s ++ cleanN s) = cl (strT s) := by
  rw [strT_append]
  exact List.take_append_drop 2 (cl (strT s))
theorem cleanC_again (s : ByteArray) : cleanC (cleanC s ++ cleanN s) = cleanC s := by
  unfold cleanC
  rw [show strT (({ data := ((cl (strT s)).take 2).toArray } : ByteArray) ++ cleanN s) = cl (strT s) from clean_sum s, cl_cl]
theorem cleanN_again (s : ByteArray) : cleanN (cleanC s ++ cleanN s) = cleanN s := by
  have h := clean_sum s
  show (⟨((cl (strT (cleanC s ++ cleanN s))).drop 2).toArray⟩ : ByteArray) = ⟨((cl (strT s)).drop 2).toArray⟩
  rw [h, cl_cl]
theorem clean_size (s : ByteArray) : (cleanC s).size + (cleanN s).size ≤ s.size := by
  have h := congrArg List.length (clean_sum s)
  rw [strT_append, List.length_append, strT_length, strT_length] at h
  rw [h]
  refine Nat.le_trans (cl_len _) (Nat.le_of_eq (strT_length s))
theorem cleaned_again (s : ByteArray) (h : rightP (cleanC s) (cleanN s) = true) : Cleaned (cleanC s ++ cleanN s) = .tuple #[.string (cleanC s), .string (cleanN s), .int .i64 0] := by
  unfold Cleaned
  rw [cleanC_again, cleanN_again, if_pos h]

set_option maxHeartbeats 1000000 in
theorem vatidCleans_any (s : ByteArray) (w : World) (hs : s.size ≤ 9223372036854775807) (hM : MaxL w) :
    Calls Try.prog 7 #[.string s] w fun e w' => e = .returned (.bool true) ∧ Below w.heap.size w w' := by
  have HM := Lib.hid hM
  have HLv : Hid (∀ W, MaxL W → Calls Try.prog 25 #[] W fun e w' => e = .returned (.bool true) ∧ Below W.heap.size W w') := Lib.hid (fun W hW => vlives_any W hW)
  have hsi : (s.size : Int) ≤ 9223372036854775807 := by omega
  clear hM
  by_cases h1 : s.size ≤ 2000
  · have h1i : (s.size : Int) ≤ 2000 := by omega
    have hsz := clean_size s
    have HC : Hid (∀ W, MaxL W → Calls Try.prog 31 #[.string s] W fun e w' => e = .returned (Cleaned s) ∧ Below W.heap.size W w') := Lib.hid (fun W hW => code_clean s W (by omega) hW)
    have HD : Hid (∀ W, Calls Try.prog 32 #[.string s] W fun e w' => e = .returned (Cleaned s) ∧ Below W.heap.size W w') := Lib.hid (fun W => ref_clean s W (by omega))
    cases hr : rightP (cleanC s) (cleanN s) with
    | false =>
      have he : Cleaned s = .tuple #[.string {data:=#[]}, .string {data:=#[]}, .int .i64 40] := by unfold Cleaned; rw [hr]; rfl
      rw [he] at HC HD
      obtain ⟨E, hE⟩ : ∃ E : ByteArray, E = {data:=#[]} := ⟨_, rfl⟩
      rw [← hE] at HC HD
      have hb : (E.toList == E.toList) = true := by rw [str_beq]; simp
      have hbn : (E.toList != E.toList) = false := by rw [bne, hb]; rfl
      clear he hE hr hsz h1 hs
      go_enter Try.func7, Try.ntmps7
      go_wp2_with (first
        | (go_at_call 31; refine (HC.out w HM.out).mono ?_; rintro e w1 ⟨rfl, hb1⟩; have HB1 := Lib.hid hb1; have HM1 := Lib.hid (HM.out.below hb1); clear hb1)
        | (go_at_call 32; refine (HD.out w1).mono ?_; rintro e w2 ⟨rfl, hb2⟩; have HB2 := Lib.hid (HB1.out.trans (hb2.mono HB1.out.size)); have HM2 := Lib.hid (HM1.out.below hb2); clear hb2)
        | (go_at_call 25; refine (HLv.out w2 HM2.out).mono ?_; rintro e w6 ⟨rfl, hb6⟩))
      go_ret
      exact ⟨rfl, HB2.out.trans (hb6.mono HB2.out.size)⟩
    | true =>
      have he : Cleaned s = .tuple #[.string (cleanC s), .string (cleanN s), .int .i64 0] := by unfold Cleaned; rw [hr]; rfl
      have he2 := cleaned_again s hr
      have HC2 : Hid (∀ W, MaxL W → Calls Try.prog 31 #[.string (cleanC s ++ cleanN s)] W fun e w' => e = .returned (Cleaned (cleanC s ++ cleanN s)) ∧ Below W.heap.size W w') := Lib.hid (fun W hW => code_clean (cleanC s ++ cleanN s) W (by rw [ByteArray.size_append]; omega) hW)
      have HR : Hid (∀ W, MaxL W → Calls Try.prog 26 #[.string (cleanC s), .string (cleanN s)] W fun e w' => e = .returned (.bool (rightP (cleanC s) (cleanN s))) ∧ Below W.heap.size W w') := Lib.hid (fun W hW => code_right (cleanC s) (cleanN s) W (by omega) (by omega) hW)
      rw [he] at HC HD
      rw [he2] at HC2
      rw [hr] at HR
      clear he he2 hr
      generalize cleanC s = C at *
      generalize cleanN s = N at *
      have hci : (C.size : Int) ≤ 2000 := by omega
      have hni : (N.size : Int) ≤ 2000 := by omega
      have hb : (C.toList == C.toList) = true := by rw [str_beq]; simp
      have hbn : (C.toList != C.toList) = false := by rw [bne, hb]; rfl
      have hc : (N.toList == N.toList) = true := by rw [str_beq]; simp
      have hcn : (N.toList != N.toList) = false := by rw [bne, hc]; rfl
      clear hsz h1 hs
      go_enter Try.func7, Try.ntmps7
      go_wp2_with (first
        | (go_at_call 31; (with_reducible refine (HC.out w HM.out).mono ?_); rintro e w1 ⟨rfl, hb1⟩; have HB1 := Lib.hid hb1; have HM1 := Lib.hid (HM.out.below hb1); clear hb1)
        | (go_at_call 32; refine (HD.out w1).mono ?_; rintro e w2 ⟨rfl, hb2⟩; have HB2 := Lib.hid (HB1.out.trans (hb2.mono HB1.out.size)); have HM2 := Lib.hid (HM1.out.below hb2); clear hb2)
        | (go_at_call 31; (with_reducible refine (HC2.out w2 HM2.out).mono ?_); rintro e w3 ⟨rfl, hb3⟩; have HB3 := Lib.hid (HB2.out.trans (hb3.mono HB2.out.size)); have HM3 := Lib.hid (HM2.out.below hb3); clear hb3)
        | (go_at_call 26; refine (HR.out w3 HM3.out).mono ?_; rintro e w4 ⟨rfl, hb4⟩; have HB4 := Lib.hid (HB3.out.trans (hb4.mono HB3.out.size)); have HM4 := Lib.hid (HM3.out.below hb4); clear hb4)
        | (go_at_call 25; refine (HLv.out w4 HM4.out).mono ?_; rintro e w6 ⟨rfl, hb6⟩))
      go_ret
      exact ⟨rfl, HB4.out.trans (hb6.mono HB4.out.size)⟩
  · have h1i : (2000 : Int) < (s.size : Int) := by omega
    clear h1 hs
    go_enter Try.func7, Try.ntmps7
    go_wp2_with (go_at_call 25; refine (HLv.out w HM.out).mono ?_; rintro e w6 ⟨rfl, hb6⟩)
    go_ret
    exact ⟨rfl, hb6⟩
end Go.Proofs.Ytjcjnokpbhmmiaa
