/- The document's reader: a number, whatever stands there. -/
import Derived.Test.YtjcjnokpbhmmiaaBlobDocN
import Derived.Test.YtjcjnokpbhmmiaaBlobDocG
import Derived.Test.YtjcjnokpbhmmiaaBlobDocH
namespace Go.Proofs.Ytjcjnokpbhmmiaa
open Go.RowKit
set_option maxRecDepth 100000

theorem sizeP_no {r : Text} {m : Nat} (h : ¬ okS r m) : sizeP r m = none := by unfold sizeP; rw [if_neg h]
theorem sizeP_yes {r : Text} {m : Nat} (h : okS r m) : sizeP r m = some (Blob.val (r.take m), r.drop m) := by unfold sizeP; rw [if_pos h]
theorem numP_no {h : UInt8} {r : Text} (hs : sizeP r (h.toNat % 128) = none) : numP (h :: r) = none := by unfold numP; simp only [hs]
/-- the first byte of eight tells whether a number is too big -/
theorem val_8 (y : UInt8) (l : Text) (hl : l.length = 7) : Blob.val (y :: l) ≤ 9223372036854775807 ↔ y.toNat < 128 := by
  have h1 := val_ge_from l (0 * 256 + y.toNat)
  have h2 := Blob.val_lt_from l (0 * 256 + y.toNat)
  rw [hl] at h1 h2
  have e : Blob.val (y :: l) = l.foldl (fun n c => n * 256 + c.toNat) (0 * 256 + y.toNat) := rfl
  rw [e]
  simp only [Nat.zero_mul, Nat.zero_add] at *
  constructor
  · intro h; omega
  · intro h; omega
theorem val_small (l : Text) (hl : l.length < 8) : Blob.val l ≤ 9223372036854775807 := by
  have h := Blob.val_lt l
  have : 256 ^ l.length ≤ 256 ^ 7 := Nat.pow_le_pow_right (by omega) (by omega)
  omega

theorem doc_num (w : World) (g : Nat) (A : Option Addr) (T : Text) (c at_ : Nat) (bad : Bool) (hr : Drd w g A T c at_ bad) :
    Calls Try.prog 12 #[.pointer (some ⟨g, 0, none⟩)] w (DGot w g A T c (.int .i64 0) ((numP (dv T at_ bad)).map fun p => (.int .i64 p.1, p.2))) := by
  cases bad with
  | true => exact dnum_spoilt w g A T c at_ hr
  | false =>
    by_cases hlt : at_ < T.length
    · obtain ⟨a, rfl, hab, hc⟩ := hr.2.2.2.2.2.1.at_ hlt
      rw [dv_at hlt]
      obtain ⟨h, hh⟩ : ∃ h, h = T[at_] := ⟨_, rfl⟩
      rw [← hh] at hc ⊢
      obtain ⟨m, hm⟩ : ∃ m, m = h.toNat % 128 := ⟨_, rfl⟩
      have hx := h.toNat_lt
      have hx2 : h.toNat ≤ 255 := by omega
      have hmi : ((h.toNat : Nat) : Int) % 128 = (m : Int) := by omega
      obtain ⟨rl, hrl⟩ : ∃ rl, T.length = at_ + (rl + 1) := ⟨T.length - at_ - 1, by omega⟩
      have hdl : (T.drop (at_ + 1)).length = rl := by rw [List.length_drop]; omega
      by_cases hA : 8 < m
      · have hs : sizeP (T.drop (at_ + 1)) (h.toNat % 128) = none := sizeP_no (fun hk => by have := hk.1; omega)
        rw [numP_no hs]
        by_cases hn : 128 ≤ h.toNat
        · exact dnum_long_true w g a T c at_ _ m hr hlt hc hmi hx2 hn hA
        · exact dnum_long_false w g a T c at_ _ m hr hlt hc hmi hx2 (by omega) hA
      · by_cases hC : rl < m
        · have hs : sizeP (T.drop (at_ + 1)) (h.toNat % 128) = none := sizeP_no (fun hk => by have := hk.2.1; omega)
          rw [numP_no hs]
          by_cases hn : 128 ≤ h.toNat
          · exact dnum_short_true w g a T c at_ _ m hr hlt hc hmi hx2 ⟨hn, by omega⟩ (by omega) (rl + 1) rl hrl rfl hC
          · exact dnum_short_false w g a T c at_ _ m hr hlt hc hmi hx2 (by omega) (by omega) (rl + 1) rl hrl rfl hC
        · by_cases hP : 0 < m
          · have h1 : at_ + 1 < T.length := by omega
            obtain ⟨a2, e2, _, hy⟩ := hr.2.2.2.2.2.1.at_ (k := at_ + 1) h1
            injection e2 with e2
            subst e2
            have hd : T.drop (at_ + 1) = T[at_ + 1] :: T.drop (at_ + 1 + 1) := List.drop_eq_getElem_cons h1
            obtain ⟨y, hyd⟩ : ∃ y, y = T[at_ + 1] := ⟨_, rfl⟩
            rw [← hyd] at hy hd
            have hyl := y.toNat_lt
            have h0 : (T.drop (at_ + 1))[0]? = some y := by rw [hd]; rfl
            obtain ⟨k, hk⟩ : ∃ k, m = k + 1 := ⟨m - 1, by omega⟩
            have htk : (T.drop (at_ + 1)).take m = y :: (T.drop (at_ + 1 + 1)).take k := by rw [hd, hk, List.take_succ_cons]
            have hlk : ((T.drop (at_ + 1 + 1)).take k).length = k := by rw [List.length_take, List.length_drop]; omega
            by_cases hy0 : y = 0
            · have hs : sizeP (T.drop (at_ + 1)) (h.toNat % 128) = none := sizeP_no (fun hk => by
                rcases hk.2.2.1 with h2 | h2
                · omega
                · exact h2 (by rw [h0, hy0]))
              rw [numP_no hs]
              subst hy0
              by_cases hn : 128 ≤ h.toNat
              · exact dnum_nought_true w g a T c at_ _ m hr hlt hc hmi hx2 ⟨hn, hP⟩ (by omega) (rl + 1) rl hrl rfl (by omega) hP (at_ + 1) rfl hy
              · exact dnum_nought_false w g a T c at_ _ m hr hlt hc hmi hx2 (by omega) (by omega) (rl + 1) rl hrl rfl (by omega) hP (at_ + 1) rfl hy
            · have hyp : 0 < y.toNat := by
                rcases Nat.eq_zero_or_pos y.toNat with h2 | h2
                · exact absurd (UInt8.toNat_inj.1 (by rw [h2]; rfl)) hy0
                · exact h2
              by_cases h8 : m = 8 ∧ 128 ≤ y.toNat
              · obtain ⟨h8, h9⟩ := h8
                have hs : sizeP (T.drop (at_ + 1)) (h.toNat % 128) = none := sizeP_no (fun hk => by
                  have := hk.2.2.2
                  rw [← hm, htk, val_8 _ _ (by omega)] at this
                  omega)
                rw [numP_no hs]
                rw [h8] at hmi
                by_cases hn : 128 ≤ h.toNat
                · exact dnum_big_true w g a T c at_ _ hr hlt hc hmi hx2 hn (rl + 1) rl hrl rfl (by omega) (at_ + 1) rfl _ hy h9
                · exact dnum_big_false w g a T c at_ _ hr hlt hc hmi hx2 (by omega) (rl + 1) rl hrl rfl (by omega) (at_ + 1) rfl _ hy h9
              · have hV : Blob.val ((T.drop (at_ + 1)).take m) ≤ 9223372036854775807 := by
                  by_cases h9 : m = 8
                  · rw [htk, val_8 _ _ (by omega)]; omega
                  · refine val_small _ ?_
                    rw [List.length_take]; omega
                have hok : okS (T.drop (at_ + 1)) m := ⟨by omega, by omega, .inr (by rw [h0]; intro h2; injection h2 with h2; exact hy0 h2), hV⟩
                have hpos : 0 < Blob.val ((T.drop (at_ + 1)).take m) := by
                  rw [htk]
                  exact Nat.lt_of_lt_of_le (Nat.pow_pos (by omega)) (val_ge y _ hy0)
                have hs := sizeP_yes hok
                rw [hm] at hs
                by_cases hn : 128 ≤ h.toNat
                · have hD : numP (h :: T.drop (at_ + 1)) = some (-((Blob.val ((T.drop (at_ + 1)).take m) : Nat) : Int), T.drop (at_ + 1 + m)) := by
                    unfold numP
                    simp only [hs]
                    rw [if_neg (by omega), ← hm, if_pos hpos, List.drop_drop]
                  rw [hD]
                  by_cases h9 : m = 8
                  · exact dnum_eight_true w g a T c at_ _ m hr hlt hc hmi hx2 _ rfl hV (by omega) hn h9 (at_ + 1) _ rfl hy hyp (by omega)
                  · exact dnum_some_true w g a T c at_ _ m hr hlt hc hmi hx2 _ rfl hV (by omega) hn (by omega) hP (at_ + 1) _ rfl hy hyp
                · have hD : numP (h :: T.drop (at_ + 1)) = some (((Blob.val ((T.drop (at_ + 1)).take m) : Nat) : Int), T.drop (at_ + 1 + m)) := by
                    unfold numP
                    simp only [hs]
                    rw [if_pos (by omega), ← hm, List.drop_drop]
                  rw [hD]
                  by_cases h9 : m = 8
                  · exact dnum_eight_false w g a T c at_ _ m hr hlt hc hmi hx2 _ rfl hV (by omega) (by omega) h9 (at_ + 1) _ rfl hy hyp (by omega)
                  · exact dnum_some_false w g a T c at_ _ m hr hlt hc hmi hx2 _ rfl hV (by omega) (by omega) (by omega) hP (at_ + 1) _ rfl hy hyp
          · have hm0 : m = 0 := by omega
            have hok : okS (T.drop (at_ + 1)) m := ⟨by omega, by omega, .inl hm0, by rw [hm0]; simp [Blob.val]⟩
            have hs := sizeP_yes hok
            rw [hm] at hs
            by_cases hn : 128 ≤ h.toNat
            · have hD : numP (h :: T.drop (at_ + 1)) = none := by
                unfold numP
                simp only [hs]
                rw [if_neg (by omega), ← hm, hm0, if_neg (by simp [Blob.val])]
              rw [hD]
              rw [hm0] at hmi
              exact dnum_minus w g a T c at_ _ hr hlt hc hmi hx2 hn
            · have hD : numP (h :: T.drop (at_ + 1)) = some (((Blob.val ((T.drop (at_ + 1)).take m) : Nat) : Int), T.drop (at_ + 1 + m)) := by
                unfold numP
                simp only [hs]
                rw [if_pos (by omega), ← hm, List.drop_drop]
              rw [hD]
              exact dnum_none w g a T c at_ _ m hr hlt hc hmi hx2 _ rfl hok.2.2.2 (by omega) (by omega) hm0
    · rw [dv_end (by omega)]
      exact dnum_end w g A T c at_ hr (by omega)
end Go.Proofs.Ytjcjnokpbhmmiaa
