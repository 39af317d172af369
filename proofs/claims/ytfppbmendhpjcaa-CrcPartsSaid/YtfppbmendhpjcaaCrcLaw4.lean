/- The statement on the parts that a text is gone through in, walked. -/
import Derived.Test.YtfppbmendhpjcaaCrcLaw2
import Derived.Test.YtfppbmendhpjcaaLawEnd
namespace Go.Proofs.Ytfppbmendhpjcaa
open Go.RowKit

theorem sumT_nil : reg (Crc.sumT []) = 0 := by decide +kernel
theorem onT_sumT (J b : Text) : onT (Crc.sumT J) b = Crc.sumT (J ++ b) := by
  unfold onT Crc.sumT Crc.sum
  rw [Crc.bv_append, Crc.on_append]

set_option maxRecDepth 100000 in
set_option maxHeartbeats 4000000 in
theorem crcParts_any (L : List Text) (A : Option Addr) (cap : Nat) (w : World) (hm : L.length ≤ 9223372036854775807) (hR : TextRows w A L) :
    Calls Try.prog 11 #[.slice A L.length cap] w fun e w' => e = .returned (.bool true) ∧ Below w.heap.size w w' := by
  have HR := Lib.hid hR
  have HZ := Lib.hid sumT_nil
  clear hR
  go_enter Try.func11, Try.ntmps11
  go_wp2
  go_loopw [3, 4, 9] (fun s v i wr => ∃ (k : Nat) (J : Text), k ≤ L.length ∧ k ≤ 50 ∧ i = .int .i64 k ∧ s = .int .u32 (reg (Crc.sumT J)) ∧ Hid (J.length ≤ 2000 * k) ∧ Hid (wr.ownsRow w.heap.size 5 1 v J.length (J.map cellOf)) ∧ Hid (Below w.heap.size w wr)) (fun _ _ i _ => L.length - (intOf i).toNat)
  case atStart => exact ⟨0, [], Nat.zero_le _, Nat.zero_le _, rfl, by rw [HZ.out], Lib.hid (Nat.zero_le _), Lib.hid (World.ownsRow_nil _ _ _ _), Lib.hid (Below.refl _ _)⟩
  case round =>
    obtain ⟨k, J, hk, hk50, rfl, rfl, HJ, HO, HB⟩ := hrel
    by_cases hlt : k < L.length
    · obtain ⟨a, Ai, ci, rfl, _, hcell, hT, hn, hl⟩ := HR.out.below HB.out k hlt
      obtain ⟨b, hb⟩ : ∃ b, b = L[k] := ⟨_, rfl⟩
      rw [← hb] at hcell hT hn hl
      clear hb
      have HT := Lib.hid hT
      have HN := Lib.hid hn
      clear hT hn
      by_cases h50 : k < 50
      · by_cases hbig : b.length ≤ 2000
        · have HJ2 : Hid (reg (onT (Crc.sumT J) b) = reg (Crc.sumT (J ++ b))) := Lib.hid (by rw [onT_sumT])
          have hjl := HJ.out
          obtain ⟨A3, c3, rfl, hA3⟩ := own_txt HO.out
          go_wp2_with (first
            | (go_at_call 34; refine (code_on (Crc.sumT J) b Ai ci wr (by omega) HT.out).mono ?_; rintro e w1 ⟨rfl, hb1⟩; rw [HJ2.out]; have HT1 := Lib.hid (HT.out.below hb1); have HB1 := Lib.hid hb1; clear hb1)
            | (refine wpList_append_own_text (o := ⟨some 27, _, _, _, _, _⟩) rfl _ _ rfl rfl w.heap.size w _ J b (J ++ b) rfl ?o1 Ai ci rfl HT1.out HN.out ?o2 ?o3 ?o4 rfl ?_; (case o1 => exact own_below HO.out HB1.out); (case o2 => omega); (case o3 => exact below_tr HB.out HB1.out (Nat.le_refl _)); (case o4 => exact Nat.le_trans HB.out.size HB1.out.size); intro v2 w2 hown2 hb2 _; have HO2 := Lib.hid hown2; have HB2 := Lib.hid hb2; clear hown2 hb2))
          go_roundw
          case rel => exact ⟨k + 1, J ++ b, by omega, by omega, by go_num, rfl, Lib.hid (by rw [List.length_append]; omega), HO2, HB2⟩
          case measure => simp [intOf]; omega
        · go_wp2_with (go_at_call 33; refine (lives_any _).mono ?_; rintro e w1 ⟨rfl, hb1⟩)
          go_ret
          exact ⟨rfl, below_tr HB.out hb1 (Nat.le_refl _)⟩
      · go_wp2_with (go_at_call 33; refine (lives_any _).mono ?_; rintro e w1 ⟨rfl, hb1⟩)
        go_ret
        exact ⟨rfl, below_tr HB.out hb1 (Nat.le_refl _)⟩
    · obtain rfl : k = L.length := by omega
      have hjl := HJ.out
      obtain ⟨A3, c3, rfl, ht3, hn3⟩ := own_txt HO.out
      have HT3 := Lib.hid ht3
      clear ht3 hn3
      go_wp2_with (first
        | (go_at_call 36; refine (code_sum J A3 c3 wr (by omega) HT3.out).mono ?_; rintro e w1 ⟨rfl, hb1⟩; have HB1 := Lib.hid (below_tr HB.out hb1 (Nat.le_refl _)); clear hb1)
        | (go_at_call 33; refine (lives_any _).mono ?_; rintro e w2 ⟨rfl, hb2⟩))
      go_ret
      exact ⟨rfl, below_tr HB1.out hb2 (Nat.le_refl _)⟩
end Go.Proofs.Ytfppbmendhpjcaa
