/- The document's reader: a text, whatever stands there. -/
import Derived.Test.YtjcjnokpbhmmiaaBlobDocU
namespace Go.Proofs.Ytjcjnokpbhmmiaa
open Go.RowKit
set_option maxRecDepth 100000

theorem doc_text (w : World) (g : Nat) (A : Option Addr) (T : Text) (c at_ : Nat) (bad : Bool) (hr : Drd w g A T c at_ bad) :
    Calls Try.prog 14 #[.pointer (some ⟨g, 0, none⟩)] w (TGot w g A T c (textP (dv T at_ bad))) := by
  have hN := doc_num w g A T c at_ bad hr
  have hlim := drd_lim hr
  cases hn : numP (dv T at_ bad) with
  | none =>
    have hD : textP (dv T at_ bad) = none := by unfold textP; rw [hn]
    rw [hD]
    rw [hn] at hN
    exact dtext_spoilt w g A T c hN
  | some p =>
    obtain ⟨n, r⟩ := p
    rw [hn] at hN
    have hT0 : T ≠ [] := by
      rintro rfl
      have : dv [] at_ bad = [] := by unfold dv; split <;> simp
      rw [this] at hn
      simp [numP] at hn
    obtain ⟨a, rfl⟩ : ∃ a, A = some a := by
      cases A with
      | none => exact absurd (hr.2.2.2.2.2.2.1 rfl) hT0
      | some a => exact ⟨a, rfl⟩
    obtain ⟨k, hk⟩ : ∃ k, k = T.length - r.length := ⟨_, rfl⟩
    have hrl : r.length ≤ T.length := by
      have h2 := numP_back hn
      obtain ⟨D, _, h3, _⟩ := h2
      have h4 : (dv T at_ bad).length ≤ T.length := by
        unfold dv
        split
        · simp
        · rw [List.length_drop]; omega
      rw [h3, List.length_append] at h4
      omega
    have hN2 : Calls Try.prog 12 #[.pointer (some ⟨g, 0, none⟩)] w fun e w' => (e = .returned (.int .i64 n) ∧ Only w w' g ∧ Drd w' g (some a) T c k false) := hN.mono fun e w' h => by
      obtain ⟨h1, h2, k2, h3, h4⟩ := h
      have h5 : k2 = k := by
        have := congrArg List.length (show T.drop k2 = r from h4)
        rw [List.length_drop] at this
        have := h3.2.1
        omega
      subst h5
      exact ⟨h1, h2, h3⟩
    by_cases h0 : n < 0
    · have hD : textP (dv T at_ bad) = none := by
        unfold textP; rw [hn]; simp only; rw [if_neg (by omega)]
      rw [hD]
      exact dtext_minus w g (some a) T c k n h0 hN2
    · obtain ⟨m, rfl⟩ : ∃ m : Nat, n = (m : Int) := ⟨n.toNat, by omega⟩
      by_cases h1 : 65536 < m
      · have hD : textP (dv T at_ bad) = none := by
          unfold textP; rw [hn]; simp only; rw [if_neg (by omega)]
        rw [hD]
        exact dtext_long w g (some a) T c k m h1 hN2
      · by_cases h2 : r.length < m
        · have hD : textP (dv T at_ bad) = none := by
            unfold textP; rw [hn]; simp only; rw [if_neg (by omega)]
          rw [hD]
          exact dtext_short w g (some a) T c k m r.length (by omega) (by omega) h2 hN2
        · -- what is left behind the number is what T has from k on
          have hrd : Hid True := Lib.hid trivial
          clear hrd
          have hr2 : T.drop k = r := by
            obtain ⟨D, _, h3, _⟩ := numP_back hn
            have hd : ∃ j, dv T at_ bad = T.drop j := by
              unfold dv
              split
              · exact ⟨T.length, by simp⟩
              · exact ⟨at_, rfl⟩
            obtain ⟨j, hj⟩ := hd
            rw [h3] at hj
            have h6 : r = T.drop (j + D.length) := by
              rw [← List.drop_drop, ← hj, List.drop_left]
            have h7 : r.length = T.length - (j + D.length) := by rw [h6, List.length_drop]
            rcases Nat.le_total (j + D.length) T.length with h8 | h8
            · rw [hk, h7, show T.length - (T.length - (j + D.length)) = j + D.length by omega, ← h6]
            · have h9 : r = [] := by rw [h6]; exact List.drop_eq_nil_of_le h8
              rw [hk, h9]; simp
          have hD : textP (dv T at_ bad) = some (⟨((T.drop k).take m).toArray⟩, T.drop (k + m)) := by
            unfold textP; rw [hn]; simp only
            rw [if_pos (by omega), Int.toNat_natCast, hr2, ← List.drop_drop, hr2]
          rw [hD]
          exact dtext_some w g (some a) T c k m r.length (by omega) (by omega) (by omega) a rfl (by omega) (by omega) hN2
end Go.Proofs.Ytjcjnokpbhmmiaa
