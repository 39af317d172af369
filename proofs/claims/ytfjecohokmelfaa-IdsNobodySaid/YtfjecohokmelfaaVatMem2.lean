/- The document's member states, and whether a country is one. -/
import Derived.Test.YtfjecohokmelfaaVatMem
namespace Go.Proofs.Ytfjecohokmelfaa
open Go.RowKit Go.Maps
set_option maxRecDepth 1000000

set_option maxHeartbeats 2000000 in
theorem ref_members (w : World) : Calls Try.prog 59 #[] w (ToldL w (tabL.map (·.1))) := by
  go_enter Try.func59, Try.ntmps59
  go_wp2
  go_loopw [1, 2, 3] (fun v u i wr => ∃ (j : Nat) (L : List ByteArray) (B : Bool), j ≤ 479 ∧ i = .int .i64 j ∧ u = .bool B ∧ Hid (B = begins j) ∧ Hid (L.map strT ++ memF (listT.drop j) (begins j) = tabL.map (fun p => strT p.1)) ∧ Hid (L.length ≤ j) ∧ Hid (wr.ownsRow w.heap.size 9 1 v L.length (L.map .string)) ∧ Hid (Below w.heap.size w wr)) (fun _ _ i _ => 479 - (intOf i).toNat)
  case atStart => exact ⟨0, [], true, by omega, rfl, rfl, Lib.hid rfl, Lib.hid mem_all, Lib.hid (Nat.le_refl _), Lib.hid (World.ownsRow_nil _ _ _ _), Lib.hid (Below.refl _ _)⟩
  case round =>
    obtain ⟨j, L, B, hj, rfl, rfl, HB0, HL, HN, HO, HB⟩ := hrel
    by_cases hlt : j < 479
    · have hlti : (j : Int) < 479 := by omega
      have HS := Lib.hid (memF_step hlt)
      have HR := Lib.hid (begins_room j hlt)
      obtain ⟨x, hx⟩ : ∃ x : UInt8, x = listT.getD j 0 := ⟨_, rfl⟩
      have hget : ∀ h, (({ data := #[65, 84, 32, 85, 57, 57, 57, 57, 57, 57, 57, 57, 59, 66, 69, 32, 48, 57, 57, 57, 57, 57, 57, 57, 57, 57, 32, 49, 57, 57, 57, 57, 57, 57, 57, 57, 57, 59, 66, 71, 32, 57, 57, 57, 57, 57, 57, 57, 57, 57, 32, 57, 57, 57, 57, 57, 57, 57, 57, 57, 57, 59, 67, 89, 32, 57, 57, 57, 57, 57, 57, 57, 57, 65, 59, 67, 90, 32, 57, 57, 57, 57, 57, 57, 57, 57, 32, 57, 57, 57, 57, 57, 57, 57, 57, 57, 32, 57, 57, 57, 57, 57, 57, 57, 57, 57, 57, 59, 68, 69, 32, 57, 57, 57, 57, 57, 57, 57, 57, 57, 59, 68, 75, 32, 57, 57, 57, 57, 57, 57, 57, 57, 59, 69, 69, 32, 57, 57, 57, 57, 57, 57, 57, 57, 57, 59, 69, 76, 32, 57, 57, 57, 57, 57, 57, 57, 57, 57, 59, 69, 83, 32, 88, 57, 57, 57, 57, 57, 57, 57, 88, 59, 70, 73, 32, 57, 57, 57, 57, 57, 57, 57, 57, 59, 70, 82, 32, 88, 88, 57, 57, 57, 57, 57, 57, 57, 57, 57, 59, 72, 82, 32, 57, 57, 57, 57, 57, 57, 57, 57, 57, 57, 57, 59, 72, 85, 32, 57, 57, 57, 57, 57, 57, 57, 57, 59, 73, 69, 32, 57, 43, 57, 57, 57, 57, 57, 65, 32, 57, 57, 57, 57, 57, 57, 57, 65, 65, 59, 73, 84, 32, 57, 57, 57, 57, 57, 57, 57, 57, 57, 57, 57, 59, 76, 84, 32, 57, 57, 57, 57, 57, 57, 57, 57, 57, 32, 57, 57, 57, 57, 57, 57, 57, 57, 57, 57, 57, 57, 59, 76, 85, 32, 57, 57, 57, 57, 57, 57, 57, 57, 59, 76, 86, 32, 57, 57, 57, 57, 57, 57, 57, 57, 57, 57, 57, 59, 77, 84, 32, 57, 57, 57, 57, 57, 57, 57, 57, 59, 78, 76, 32, 57, 57, 57, 57, 57, 57, 57, 57, 57, 66, 57, 57, 59, 80, 76, 32, 57, 57, 57, 57, 57, 57, 57, 57, 57, 57, 59, 80, 84, 32, 57, 57, 57, 57, 57, 57, 57, 57, 57, 59, 82, 79, 32, 57, 57, 32, 57, 57, 57, 32, 57, 57, 57, 57, 32, 57, 57, 57, 57, 57, 32, 57, 57, 57, 57, 57, 57, 32, 57, 57, 57, 57, 57, 57, 57, 32, 57, 57, 57, 57, 57, 57, 57, 57, 32, 57, 57, 57, 57, 57, 57, 57, 57, 57, 32, 57, 57, 57, 57, 57, 57, 57, 57, 57, 57, 59, 83, 69, 32, 57, 57, 57, 57, 57, 57, 57, 57, 57, 57, 57, 57, 59, 83, 73, 32, 57, 57, 57, 57, 57, 57, 57, 57, 59, 83, 75, 32, 57, 57, 57, 57, 57, 57, 57, 57, 57, 57, 59] } : ByteArray))[j]'h = x := fun h => by
        rw [hx]
        have hl : j < listT.length := h
        rw [List.getD_eq_getElem?_getD, List.getElem?_eq_getElem hl]
        rfl
      obtain ⟨X, hX⟩ : ∃ X : ByteArray, (({ data := #[65, 84, 32, 85, 57, 57, 57, 57, 57, 57, 57, 57, 59, 66, 69, 32, 48, 57, 57, 57, 57, 57, 57, 57, 57, 57, 32, 49, 57, 57, 57, 57, 57, 57, 57, 57, 57, 59, 66, 71, 32, 57, 57, 57, 57, 57, 57, 57, 57, 57, 32, 57, 57, 57, 57, 57, 57, 57, 57, 57, 57, 59, 67, 89, 32, 57, 57, 57, 57, 57, 57, 57, 57, 65, 59, 67, 90, 32, 57, 57, 57, 57, 57, 57, 57, 57, 32, 57, 57, 57, 57, 57, 57, 57, 57, 57, 32, 57, 57, 57, 57, 57, 57, 57, 57, 57, 57, 59, 68, 69, 32, 57, 57, 57, 57, 57, 57, 57, 57, 57, 59, 68, 75, 32, 57, 57, 57, 57, 57, 57, 57, 57, 59, 69, 69, 32, 57, 57, 57, 57, 57, 57, 57, 57, 57, 59, 69, 76, 32, 57, 57, 57, 57, 57, 57, 57, 57, 57, 59, 69, 83, 32, 88, 57, 57, 57, 57, 57, 57, 57, 88, 59, 70, 73, 32, 57, 57, 57, 57, 57, 57, 57, 57, 59, 70, 82, 32, 88, 88, 57, 57, 57, 57, 57, 57, 57, 57, 57, 59, 72, 82, 32, 57, 57, 57, 57, 57, 57, 57, 57, 57, 57, 57, 59, 72, 85, 32, 57, 57, 57, 57, 57, 57, 57, 57, 59, 73, 69, 32, 57, 43, 57, 57, 57, 57, 57, 65, 32, 57, 57, 57, 57, 57, 57, 57, 65, 65, 59, 73, 84, 32, 57, 57, 57, 57, 57, 57, 57, 57, 57, 57, 57, 59, 76, 84, 32, 57, 57, 57, 57, 57, 57, 57, 57, 57, 32, 57, 57, 57, 57, 57, 57, 57, 57, 57, 57, 57, 57, 59, 76, 85, 32, 57, 57, 57, 57, 57, 57, 57, 57, 59, 76, 86, 32, 57, 57, 57, 57, 57, 57, 57, 57, 57, 57, 57, 59, 77, 84, 32, 57, 57, 57, 57, 57, 57, 57, 57, 59, 78, 76, 32, 57, 57, 57, 57, 57, 57, 57, 57, 57, 66, 57, 57, 59, 80, 76, 32, 57, 57, 57, 57, 57, 57, 57, 57, 57, 57, 59, 80, 84, 32, 57, 57, 57, 57, 57, 57, 57, 57, 57, 59, 82, 79, 32, 57, 57, 32, 57, 57, 57, 32, 57, 57, 57, 57, 32, 57, 57, 57, 57, 57, 32, 57, 57, 57, 57, 57, 57, 32, 57, 57, 57, 57, 57, 57, 57, 32, 57, 57, 57, 57, 57, 57, 57, 57, 32, 57, 57, 57, 57, 57, 57, 57, 57, 57, 32, 57, 57, 57, 57, 57, 57, 57, 57, 57, 57, 59, 83, 69, 32, 57, 57, 57, 57, 57, 57, 57, 57, 57, 57, 57, 57, 59, 83, 73, 32, 57, 57, 57, 57, 57, 57, 57, 57, 59, 83, 75, 32, 57, 57, 57, 57, 57, 57, 57, 57, 57, 57, 59] } : ByteArray)).extract j (j + 2) = X := ⟨_, rfl⟩
      have HX : Hid (strT X = (listT.drop j).take 2) := Lib.hid (by rw [← hX]; exact ext_two j)
      have HNx : Hid ((((x.toNat : Nat) : Int) == 59) = begins (j + 1)) := Lib.hid (by
        unfold begins
        rw [decide_eq_false (by omega), Bool.false_or, Nat.add_sub_cancel, ← hx, Bool.eq_iff_iff, beq_iff_eq, decide_eq_true_iff]
        constructor
        · intro h; exact UInt8.toNat_inj.1 (by rw [show x.toNat = 59 by omega]; rfl)
        · intro h; rw [h]; rfl)
      clear hx
      cases B with
      | true =>
        have hroom : (j : Int) + 2 ≤ 479 := by have := HR.out HB0.out.symm; omega
        go_wp2_with (refine wpList_append_str (w0 := w) (wb := wr) rfl _ _ rfl _ L X rfl HO.out rfl _ rfl rfl HB.out ?c1 ?c2; (case c1 => have := HN.out; omega); intro v1 w1 hown hbb; have HO1 := Lib.hid hown; have HB1 := Lib.hid hbb; clear hown hbb)
        go_roundw
        case rel =>
          refine ⟨j + 1, L ++ [X], _, by omega, by go_num, rfl, HNx, Lib.hid ?_, Lib.hid (by rw [List.length_append]; have := HN.out; simp; omega), HO1, HB1⟩
          rw [← HL.out, HS.out, ← HB0.out, List.map_append, List.append_assoc]
          simp [HX.out]
        case measure => simp [intOf]; omega
      | false =>
        clear HX hX
        go_wp2
        go_roundw
        case rel =>
          refine ⟨j + 1, L, _, by omega, by go_num, rfl, HNx, Lib.hid ?_, Lib.hid (by have := HN.out; omega), HO, HB⟩
          rw [← HL.out, HS.out, ← HB0.out]
          simp
        case measure => simp [intOf]; omega
    · obtain rfl : j = 479 := by omega
      have HF : Hid (L = tabL.map (·.1)) := Lib.hid (by
        have h1 := HL.out
        have h2 : listT.drop 479 = [] := List.drop_eq_nil_of_le (Nat.le_of_eq list_size)
        rw [h2] at h1
        simp only [memF, List.append_nil] at h1
        have h3 : L.map strT = (tabL.map (·.1)).map strT := by rw [h1, List.map_map]; rfl
        exact map_inj h3)
      have HO2 := HO
      rw [HF.out] at HO2
      obtain ⟨A, c, rfl, hs⟩ := own_strs HO2.out tab_keys
      have HS := Lib.hid hs
      clear HO HO2 hs
      go_wp2
      go_ret
      exact ⟨A, c, rfl, HS.out, HB.out⟩
end Go.Proofs.Ytfjecohokmelfaa
