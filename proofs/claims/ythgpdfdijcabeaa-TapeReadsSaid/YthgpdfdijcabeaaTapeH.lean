/- A blank sector. -/
import Derived.Test.YthgpdfdijcabeaaTapeE
namespace Go.Proofs.Ythgpdfdijcabeaa
open Go.RowKit
set_option maxRecDepth 100000

set_option maxHeartbeats 1000000 in
theorem code_blank (l : Text) (A : Option Addr) (c : Nat) (w : World) (hT : Txt w A l) : Calls Try.prog 25 #[.slice A l.length c] w fun e w' => e = .returned (.bool (decide (l = zeros))) ∧ w = w' := by
  have HP := Lib.hid (code_isPage A l.length c w)
  by_cases hl : l.length = 64
  · obtain ⟨b, o, rfl, hb, hr⟩ := txt_mid hT (by intro e; subst e; simp at hl)
    have HR := Lib.hid hr
    obtain ⟨q, hq⟩ : ∃ q, decide (l = zeros) = q := ⟨_, rfl⟩
    have HQ := Lib.hid hq
    rw [hq]
    have HL := Lib.hid hl
    have hl64 : (l.length : Int) = 64 := by omega
    rw [decide_eq_true hl] at HP
    clear hr hT hq
    rw [hl] at HP ⊢
    clear hl hl64
    have hsa := fun w => array_at pageT (some ⟨b, o, none⟩) c w
    go_enter Try.func25, Try.ntmps25
    go_wp2_with (first
      | (go_at_call 70; refine HP.out.mono ?_; rintro e w1 ⟨rfl, rfl⟩)
      | ((with_reducible refine wpList_load_pageG pageT (o := ⟨some 8, _, _, _, _, _⟩) ?a1 (.tmp 7) ?a2 b o ?a3 l HL.out HR.out ?_); (case a1 => rfl); (case a2 => rfl); (case a3 => rfl); (try simp only [Act.put, List.setIfInBounds_toArray, List.set_cons_zero, List.set_cons_succ]))
      | ((with_reducible refine wpList_zero_pageG pageT (o := ⟨some 9, _, _, _, _, _⟩) ?a1 ?a2 ?_); (case a1 => rfl); (case a2 => rfl); (try simp only [Act.put, List.setIfInBounds_toArray, List.set_cons_zero, List.set_cons_succ]))
      | ((with_reducible refine wpList_eql_pageG pageT (o := ⟨some 10, _, _, _, _, _⟩) ?a1 (.tmp 8) (.tmp 9) 110 ?a2 _ _ ?a3 ?a4 HL.out zeros_len q HQ.out ?_); (case a1 => rfl); (case a2 => rfl); (case a3 => rfl); (case a4 => rfl); (try simp only [Act.put, List.setIfInBounds_toArray, List.set_cons_zero, List.set_cons_succ])))
    go_ret
    exact ⟨rfl, rfl⟩
  · rw [decide_eq_false hl] at HP
    rw [decide_eq_false (show ¬ l = zeros from fun e => hl (by rw [e]; exact zeros_len))]
    clear hT hl
    go_enter Try.func25, Try.ntmps25
    go_wp2_with (go_at_call 70; refine HP.out.mono ?_; rintro e w1 ⟨rfl, rfl⟩)
    go_ret
    exact ⟨rfl, rfl⟩
end Go.Proofs.Ythgpdfdijcabeaa
