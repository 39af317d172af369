/- A number as people write it, made clean: the document's own. -/
import Derived.Test.YtjcjnokpbhmmiaaVatClean
namespace Go.Proofs.Ytjcjnokpbhmmiaa
open Go.RowKit Go.Maps
set_option maxRecDepth 1000000

theorem drop_nat (x : UInt8) : isDrop x = (decide (x.toNat = 32) || decide (x.toNat = 46) || decide (x.toNat = 45) || decide (x.toNat = 47)) := by
  have h : ∀ (n : UInt8), decide (x = n) = decide (x.toNat = n.toNat) := fun n => by
    rw [Bool.eq_iff_iff, decide_eq_true_iff, decide_eq_true_iff]
    exact ⟨fun h => by rw [h], fun h => UInt8.toNat_inj.1 h⟩
  unfold isDrop
  rw [h 32, h 46, h 45, h 47]
  rfl
set_option maxHeartbeats 8000000 in
theorem ref_clean (s : ByteArray) (w : World) (hs : s.size ≤ 140737488351232) :
    Calls Try.prog 32 #[.string s] w fun e w' => e = .returned (Cleaned s) ∧ Below w.heap.size w w' := by
  have hsi : (s.size : Int) ≤ 140737488351232 := by omega
  go_enter Try.func32, Try.ntmps32
  go_wp2
  go_loopw [5, 6] (fun v i wr => ∃ (k : Nat) (K : Text), k ≤ s.size ∧ i = .int .i64 k ∧ Hid (K = cl ((strT s).take k)) ∧ Hid (wr.ownsRow w.heap.size 5 1 v K.length (K.map cellOf)) ∧ Hid (Below w.heap.size w wr)) (fun _ i _ => s.size - (intOf i).toNat)
  case atStart => exact ⟨0, [], Nat.zero_le _, rfl, Lib.hid rfl, Lib.hid (World.ownsRow_nil _ _ _ _), Lib.hid (Below.refl _ _)⟩
  case round =>
    obtain ⟨k, K, hk, rfl, HK, HO, HB⟩ := hrel
    have hKl : K.length ≤ k := by rw [HK.out]; refine Nat.le_trans (cl_len _) ?_; rw [List.length_take]; omega
    by_cases hlt : k < s.size
    · have hki : (k : Int) < (s.size : Int) := by omega
      have HY := Lib.hid (fun h : isDrop (s[k]) = true => cl_drop (l := strT s) (k := k) hlt h)
      have HN := Lib.hid (fun h : isDrop (s[k]) = false => cl_keep (l := strT s) (k := k) hlt h)
      obtain ⟨b, hb⟩ : ∃ b, b = greatB (s[k]) := ⟨_, rfl⟩
      have HKd : Hid (isDrop (s[k]) = true → K = cl ((strT s).take (k + 1))) := Lib.hid (fun h => by rw [HK.out, HY.out h])
      have HKk : Hid (isDrop (s[k]) = false → K ++ [b] = cl ((strT s).take (k + 1))) := Lib.hid (fun h => by rw [HK.out, HN.out h, hb]; rfl)
      have hdn := drop_nat (s[k])
      have hbl := byte_le (s[k])
      have hbn : b.toNat = if 97 ≤ (s[k]).toNat ∧ (s[k]).toNat ≤ 122 then (s[k]).toNat - 32 else (s[k]).toNat := by
        rw [hb]; unfold greatB
        split
        · rw [UInt8.toNat_ofNat']; omega
        · rfl
      obtain ⟨y, hy⟩ : ∃ y, (s[k]).toNat = y := ⟨_, rfl⟩
      rw [hy] at hdn hbl hbn
      have hyi : (y : Int) ≤ 255 := by omega
      clear hb
      by_cases hlow : 97 ≤ y ∧ y ≤ 122
      · obtain ⟨z, hz⟩ : ∃ z : Nat, (y : Int) - 32 = (z : Int) := ⟨y - 32, by omega⟩
        have HX : Hid ((z : Int) = ((b.toNat : Nat) : Int)) := Lib.hid (by rw [hbn, if_pos hlow]; omega)
        have HK2 := Lib.hid (HKk.out (by rw [hdn]; simp; omega))
        have h1 : (97 : Int) ≤ (y : Int) := by omega
        have h2 : (y : Int) ≤ 122 := by omega
        have e1 : ((z : Int) == 32) = false := beq_false_of_ne (by omega)
        have e2 : ((z : Int) == 46) = false := beq_false_of_ne (by omega)
        have e3 : ((z : Int) == 45) = false := beq_false_of_ne (by omega)
        have e4 : ((z : Int) == 47) = false := beq_false_of_ne (by omega)
        have f1 : ((z : Int) != 32) = true := by rw [bne, e1]; rfl
        have f2 : ((z : Int) != 46) = true := by rw [bne, e2]; rfl
        have f3 : ((z : Int) != 45) = true := by rw [bne, e3]; rfl
        have f4 : ((z : Int) != 47) = true := by rw [bne, e4]; rfl
        have hzi : (z : Int) ≤ 255 := by omega
        clear hdn hbn hlow
        go_wp2_with (refine wpList_append_own_text (o := ⟨some 44, _, _, _, _, _⟩) rfl _ _ rfl rfl w.heap.size w _ K [b] (K ++ [b]) rfl ?o1 (some ⟨wr.heap.size, 0, none⟩) 1 rfl ?p1 ?q1 ?r1 ?s1 ?t1 rfl ?_; (case o1 => exact own_below HO.out ((Below.refl _ _).alloc (Nat.le_refl _) _)); (case p1 => exact one_txt wr HX.out); (case q1 => simp); (case r1 => simp; omega); (case s1 => exact HB.out.alloc HB.out.size _); (case t1 => exact Nat.le_trans HB.out.size (by simp)); intro v2 w2 hown2 hb2 hv2; have HO2 := Lib.hid hown2; have HB2 := Lib.hid hb2; clear hown2 hb2 hv2)
        go_roundw
        case rel => exact ⟨k + 1, K ++ [b], by omega, by go_num, HK2, HO2, HB2⟩
        case measure => simp [intOf]; omega
      · have hb2 : b.toNat = y := by rw [hbn, if_neg hlow]
        have HX : Hid ((y : Int) = ((b.toNat : Nat) : Int)) := Lib.hid (by rw [hb2])
        have hnl : ¬ (97 ≤ (y : Int) ∧ (y : Int) ≤ 122) := by omega
        cases hd : isDrop (s[k]) with
        | true =>
          have HK2 := Lib.hid (HKd.out hd)
          rw [hd] at hdn
          have hd4 : y = 32 ∨ y = 46 ∨ y = 45 ∨ y = 47 := by
            have := hdn.symm
            simp only [Bool.or_eq_true, decide_eq_true_iff] at this
            omega
          clear hdn hbn hlow hb2 hd hnl HX
          rcases hd4 with rfl | rfl | rfl | rfl
          all_goals
            go_wp2
            go_roundw
            case rel => exact ⟨k + 1, K, by omega, by go_num, HK2, HO, HB⟩
            case measure => simp [intOf]; omega
        | false =>
          have HK2 := Lib.hid (HKk.out hd)
          rw [hd] at hdn
          have hd4 : y ≠ 32 ∧ y ≠ 46 ∧ y ≠ 45 ∧ y ≠ 47 := by
            have := hdn.symm
            simp only [Bool.or_eq_false_iff, decide_eq_false_iff_not] at this
            omega
          have e1 : ((y : Int) == 32) = false := beq_false_of_ne (by omega)
          have e2 : ((y : Int) == 46) = false := beq_false_of_ne (by omega)
          have e3 : ((y : Int) == 45) = false := beq_false_of_ne (by omega)
          have e4 : ((y : Int) == 47) = false := beq_false_of_ne (by omega)
          have f1 : ((y : Int) != 32) = true := by rw [bne, e1]; rfl
          have f2 : ((y : Int) != 46) = true := by rw [bne, e2]; rfl
          have f3 : ((y : Int) != 45) = true := by rw [bne, e3]; rfl
          have f4 : ((y : Int) != 47) = true := by rw [bne, e4]; rfl
          clear hdn hbn hb2 hd hd4
          by_cases h97 : 97 ≤ y
          · have h97i : (97 : Int) ≤ (y : Int) := by omega
            have h122 : (122 : Int) < (y : Int) := by omega
            clear hlow hnl h97
            go_wp2_with (refine wpList_append_own_text (o := ⟨some 44, _, _, _, _, _⟩) rfl _ _ rfl rfl w.heap.size w _ K [b] (K ++ [b]) rfl ?o2 (some ⟨wr.heap.size, 0, none⟩) 1 rfl ?p2 ?q2 ?r2 ?s2 ?t2 rfl ?_; (case o2 => exact own_below HO.out ((Below.refl _ _).alloc (Nat.le_refl _) _)); (case p2 => exact one_txt wr HX.out); (case q2 => simp); (case r2 => simp; omega); (case s2 => exact HB.out.alloc HB.out.size _); (case t2 => exact Nat.le_trans HB.out.size (by simp)); intro v2 w2 hown2 hb2 hv2; have HO2 := Lib.hid hown2; have HB2 := Lib.hid hb2; clear hown2 hb2 hv2)
            go_roundw
            case rel => exact ⟨k + 1, K ++ [b], by omega, by go_num, HK2, HO2, HB2⟩
            case measure => simp [intOf]; omega
          · have h97i : (y : Int) < 97 := by omega
            clear hlow hnl h97
            go_wp2_with (refine wpList_append_own_text (o := ⟨some 44, _, _, _, _, _⟩) rfl _ _ rfl rfl w.heap.size w _ K [b] (K ++ [b]) rfl ?o3 (some ⟨wr.heap.size, 0, none⟩) 1 rfl ?p3 ?q3 ?r3 ?s3 ?t3 rfl ?_; (case o3 => exact own_below HO.out ((Below.refl _ _).alloc (Nat.le_refl _) _)); (case p3 => exact one_txt wr HX.out); (case q3 => simp); (case r3 => simp; omega); (case s3 => exact HB.out.alloc HB.out.size _); (case t3 => exact Nat.le_trans HB.out.size (by simp)); intro v2 w2 hown2 hb2 hv2; have HO2 := Lib.hid hown2; have HB2 := Lib.hid hb2; clear hown2 hb2 hv2)
            go_roundw
            case rel => exact ⟨k + 1, K ++ [b], by omega, by go_num, HK2, HO2, HB2⟩
            case measure => simp [intOf]; omega
    · obtain rfl : k = s.size := by omega
      have hK : K = cl (strT s) := by have := HK.out; rwa [List.take_of_length_le (Nat.le_of_eq (strT_length s))] at this
      obtain ⟨A, c, rfl, ht, hn, hc1, hc2⟩ := own_fullV HO.out
      have HC : Hid ((⟨(K.take 2).toArray⟩ : ByteArray) = cleanC s) := Lib.hid (by unfold cleanC; rw [← hK])
      have HN : Hid ((⟨(K.drop 2).toArray⟩ : ByteArray) = cleanN s) := Lib.hid (by unfold cleanN; rw [← hK])
      have hKi : (K.length : Int) ≤ 140737488351232 := by omega
      have hcs : (cleanC s).size ≤ 140737488351232 := by
        have : (cleanC s).size = ((cl (strT s)).take 2).length := rfl
        rw [this, List.length_take]; omega
      have hns : (cleanN s).size ≤ 9223372036854775807 := by
        have : (cleanN s).size = ((cl (strT s)).drop 2).length := rfl
        rw [this, List.length_drop, ← hK]; omega
      have HR : Hid (∀ W, Calls Try.prog 27 #[.string (cleanC s), .string (cleanN s)] W fun e w' => e = .returned (.bool (rightP (cleanC s) (cleanN s))) ∧ Below W.heap.size W w') := Lib.hid (fun W => ref_right (cleanC s) (cleanN s) W hcs hns)
      have HCl : Hid (Cleaned s = if rightP (cleanC s) (cleanN s) then .tuple #[.string (cleanC s), .string (cleanN s), .int .i64 0] else .tuple #[.string {data:=#[]}, .string {data:=#[]}, .int .i64 40]) := Lib.hid rfl
      generalize cleanC s = C at *
      generalize cleanN s = N at *
      by_cases h2 : K.length < 2
      · have hrr : rightP C N = false := by
          have hsz : C.size < 2 := by rw [← HC.out]; show (K.take 2).length < 2; rw [List.length_take]; omega
          have hcf : Vat.country (strT C) = false := country_not (by omega)
          unfold rightP roomN
          rw [not_mem hcf, hcf]; rfl
        rw [hrr] at HCl
        have h2i : (K.length : Int) < 2 := by omega
        clear ht hn hK HC HN hrr h2
        go_wp2
        go_ret3
        exact ⟨by rw [HCl.out]; rfl, HB.out⟩
      · obtain ⟨a, rfl⟩ : ∃ a, A = some a := by
          cases A with
          | none => have := hn rfl; subst this; simp at h2
          | some a => exact ⟨a, rfl⟩
        have HCV1 : Hid ((convert 22 9 (.slice (some a) 2 c)).run Try.prog wr = .ok (.string C) wr) := Lib.hid (by rw [← HC.out]; exact head_run c ht (by omega))
        have HCV2 : Hid ((convert 22 9 (.slice (if c = 2 then some a else some (a.add 2)) (K.length - 2) (c - 2))).run Try.prog wr = .ok (.string N) wr) := Lib.hid (by rw [← HN.out]; exact tail_run ht (by omega) hc1)
        have h2i : (2 : Int) ≤ (K.length : Int) := by omega
        have hkc : (K.length : Int) ≤ (c : Int) := by omega
        have h2c : (2 : Int) ≤ (c : Int) := by omega
        have hci : (c : Int) ≤ 9223372036854775807 := by omega
        clear ht hn hK HC HN h2
        have hcv1 := HCV1.out
        have hcv2 := HCV2.out
        by_cases hc0 : c = 2
        · rw [if_pos hc0] at hcv2
          subst hc0
          rw [Nat.sub_self, show K.length - 2 = 0 by omega] at hcv2
          cases hrr : rightP C N with
          | true =>
            rw [hrr] at HR HCl
            clear hrr
            go_wp2_with (go_at_call 27; refine (HR.out _).mono ?_; rintro e w7 ⟨rfl, hb7⟩)
            go_ret3
            exact ⟨by rw [HCl.out]; rfl, HB.out.trans (hb7.mono HB.out.size)⟩
          | false =>
            rw [hrr] at HR HCl
            clear hrr
            go_wp2_with (go_at_call 27; refine (HR.out _).mono ?_; rintro e w7 ⟨rfl, hb7⟩)
            go_ret3
            exact ⟨by rw [HCl.out]; rfl, HB.out.trans (hb7.mono HB.out.size)⟩
        · rw [if_neg hc0, show a.add 2 = { block := a.block, off := a.off + 2 } from rfl] at hcv2
          cases hrr : rightP C N with
          | true =>
            rw [hrr] at HR HCl
            clear hrr
            go_wp2_with (go_at_call 27; refine (HR.out _).mono ?_; rintro e w7 ⟨rfl, hb7⟩)
            go_ret3
            exact ⟨by rw [HCl.out]; rfl, HB.out.trans (hb7.mono HB.out.size)⟩
          | false =>
            rw [hrr] at HR HCl
            clear hrr
            go_wp2_with (go_at_call 27; refine (HR.out _).mono ?_; rintro e w7 ⟨rfl, hb7⟩)
            go_ret3
            exact ⟨by rw [HCl.out]; rfl, HB.out.trans (hb7.mono HB.out.size)⟩
end Go.Proofs.Ytjcjnokpbhmmiaa
