/- The document's lexer: what is nothing is skipped. -/
import Derived.Test.YtfjecohokmelfaaDoorLxG
namespace Go.Proofs.YtfjecohokmelfaaDoor
open Go.RowKit
set_option maxRecDepth 100000
set_option linter.unusedSimpArgs false
set_option linter.unusedVariables false

/-- how much of a text is left -/
def leftI (n : Nat) (v : Value) : Nat := match v with | .int _ x => n - x.toNat | _ => 0
theorem leftI_lt {n j k : Nat} (h : j < k) (hn : j < n) : leftI n (.int .i64 (k : Nat)) < leftI n (.int .i64 (j : Nat)) := by
  show n - (k : Int).toNat < n - (j : Int).toNat
  rw [Int.toNat_natCast, Int.toNat_natCast]
  omega
/-- from i to e is nothing -/
structure SkipR (s : ByteArray) (i e : Nat) : Prop where
  ge : i ≤ e
  le : e ≤ s.size
  lex : ∀ acc, lexI s i acc = lexI s e acc
theorem SkipR.refl {s : ByteArray} {i : Nat} (h : i ≤ s.size) : SkipR s i i := ⟨Nat.le_refl _, h, fun _ => rfl⟩
theorem wrap1 {j : Nat} (h : j ≤ 1000000) : wrap64 ((j : Int) + 1) = ((j + 1 : Nat) : Int) := by unfold wrap64; omega
set_option maxHeartbeats 4000000 in
theorem ref_skip (s : ByteArray) (i : Nat) (w : World) (hs : s.size ≤ 200000) (hi : i ≤ s.size) : Calls Tryd.prog 18 #[.string s, .int .i64 (i : Nat)] w fun e w' => (∃ k : Nat, e = .returned (.int .i64 (k : Nat)) ∧ SkipR s i k ∧ (k < s.size → isBb (bt s k) = false ∧ (bt s k).toNat ≠ 35)) ∧ w = w' := by
  have HS := Lib.hid hs
  have HI := Lib.hid hi
  have HBl : Hid (∀ (b : UInt8) V, Calls Tryd.prog 25 #[.int .u8 b.toNat] V fun e w' => e = .returned (.bool (isBb b)) ∧ V = w') := Lib.hid ref_blank
  clear hs hi
  go_enter Tryd.func18, Tryd.ntmps18
  go_wp2
  go_loopw [1] (fun v1 wr => ∃ j : Nat, v1 = .int .i64 (j : Nat) ∧ Hid (SkipR s i j) ∧ w = wr) (fun v1 _ => leftI s.size v1)
  case atStart => exact ⟨i, rfl, Lib.hid (.refl HI.out), rfl⟩
  case round =>
    obtain ⟨j, rfl, HJ, rfl⟩ := hrel
    by_cases hlt : j < s.size
    · have hlt' : (j : Int) < (s.size : Int) := by omega
      have hwk := wrap1 (show j ≤ 1000000 by have := HS.out; omega)
      have HWk := Lib.hid hwk
      have HLt := Lib.hid hlt
      have HB := Lib.hid (HBl.out (bt s j))
      obtain ⟨nb, hnb⟩ : ∃ nb, nb = (bt s j).toNat := ⟨_, rfl⟩
      have hbt : (s[j]'hlt).toNat = nb := by rw [bt_at hlt, hnb]
      rw [← hnb] at HB
      have HBj := Lib.hid hnb
      clear hnb
      cases hb : isBb (bt s j) with
      | true =>
        rw [hb] at HB
        have HQ := Lib.hid hb
        have hne : (nb : Int) ≠ 35 := by have h0 := HBj.out; clear hwk; unfold isBb at hb; simp only [decide_eq_true_eq] at hb; omega
        have hne2 : ((nb : Int) == 35) = false := beq_false_of_ne hne
        clear hb
        go_wp2_with (first
          | (go_at_call 25; refine (HB.out _).mono ?_; rintro e w1 ⟨rfl, rfl⟩))
        go_roundw
        case rel => exact ⟨j + 1, by first | rfl | rw [hwk], Lib.hid ⟨Nat.le_succ_of_le HJ.out.ge, HLt.out, fun acc => (HJ.out.lex acc).trans (lexI_blank HLt.out HQ.out)⟩, by first | rfl | trivial⟩
        case measure => first | exact leftI_lt (Nat.lt_succ_self j) HLt.out | (rw [HWk.out]; exact leftI_lt (Nat.lt_succ_self j) HLt.out)
      | false =>
        rw [hb] at HB
        have HQ := Lib.hid hb
        clear hb
        by_cases h35 : nb = 35
        · subst h35
          go_wp2_with (first
            | (go_at_call 25; refine (HB.out _).mono ?_; rintro e w1 ⟨rfl, rfl⟩))
          clear hbt hlt' hwk hlt
          go_loopw [1] (fun v1 wr => ∃ k : Nat, v1 = .int .i64 (k : Nat) ∧ Hid (j ≤ k ∧ k ≤ s.size ∧ ∀ x, j ≤ x → x < k → isRb (bt s x) = true) ∧ w = wr) (fun v1 _ => leftI s.size v1)
          case atStart => exact ⟨j, rfl, Lib.hid ⟨Nat.le_refl _, Nat.le_of_lt HLt.out, fun x h1 h2 => absurd h1 (by omega)⟩, by first | rfl | trivial⟩
          case round =>
            obtain ⟨k, rfl, HK, rfl⟩ := hrel
            by_cases hk : k < s.size
            · have hk' : (k : Int) < (s.size : Int) := by omega
              have hwk := wrap1 (show k ≤ 1000000 by have := HS.out; omega)
              have HWk2 := Lib.hid hwk
              have HKt := Lib.hid hk
              obtain ⟨nk, hnk⟩ : ∃ nk, nk = (bt s k).toNat := ⟨_, rfl⟩
              have hbt : (s[k]'hk).toNat = nk := by rw [bt_at hk, hnk]
              have HBk := Lib.hid hnk
              clear hnk
              by_cases h10 : nk = 10
              · subst h10
                have HR : Hid (runE isRb s j = k) := Lib.hid (runE_is HK.out.1 HK.out.2.1 HK.out.2.2 fun _ => by unfold isRb; rw [← HBk.out]; rfl)
                have HJK : Hid (j < k) := Lib.hid (by
                  have h1 := HK.out.1
                  rcases Nat.lt_or_eq_of_le h1 with h | h
                  · exact h
                  · have h2 := HBj.out; have h3 := HBk.out
                    rw [← h, ← h2] at h3
                    exact absurd h3 (by decide))
                go_wp2
                go_roundw
                case rel => exact ⟨k, by first | rfl | rw [hwk], Lib.hid ⟨Nat.le_trans HJ.out.ge (Nat.le_of_lt HJK.out), HK.out.2.1, fun acc => (HJ.out.lex acc).trans (by rw [lexI_rem HLt.out HBj.out.symm, HR.out])⟩, by first | rfl | trivial⟩
                case measure => exact leftI_lt HJK.out HLt.out
              · have h10i : ¬ (nk : Int) = 10 := fun h => h10 (Int.ofNat.inj h)
                have h10b : ((nk : Int) != 10) = true := by simp [h10i]
                have HR : Hid (isRb (bt s k) = true) := Lib.hid (by unfold isRb; rw [← HBk.out]; simp [h10])
                clear h10
                go_wp2
                go_roundw
                case rel => exact ⟨k + 1, by first | rfl | rw [hwk], Lib.hid ⟨Nat.le_succ_of_le HK.out.1, HKt.out, fun x h1 h2 => by
                  by_cases hx : x = k
                  · rw [hx]; exact HR.out
                  · exact HK.out.2.2 x h1 (by omega)⟩, by first | rfl | trivial⟩
                case measure => first | exact leftI_lt (Nat.lt_succ_self k) HKt.out | (rw [HWk2.out]; exact leftI_lt (Nat.lt_succ_self k) HKt.out)
            · have hk' : (s.size : Int) ≤ (k : Int) := by omega
              have hks : k = s.size := by have := HK.out.2.1; omega
              have HR : Hid (runE isRb s j = k) := Lib.hid (runE_is HK.out.1 HK.out.2.1 HK.out.2.2 fun h => absurd h hk)
              have HJK : Hid (j < k) := Lib.hid (by have := HLt.out; omega)
              clear hk hks
              go_wp2
              go_roundw
              case rel => exact ⟨k, by first | rfl | rw [hwk], Lib.hid ⟨Nat.le_trans HJ.out.ge (Nat.le_of_lt HJK.out), HK.out.2.1, fun acc => (HJ.out.lex acc).trans (by rw [lexI_rem HLt.out HBj.out.symm, HR.out])⟩, by first | rfl | trivial⟩
              case measure => exact leftI_lt HJK.out HLt.out
        · have h35i : (nb : Int) ≠ 35 := fun h => h35 (Int.ofNat.inj h)
          have h35b : ((nb : Int) == 35) = false := beq_false_of_ne h35i
          have H35 := Lib.hid h35
          clear h35
          go_wp2_with (first
            | (go_at_call 25; refine (HB.out _).mono ?_; rintro e w1 ⟨rfl, rfl⟩))
          go_ret
          exact ⟨⟨j, rfl, HJ.out, fun _ => ⟨HQ.out, fun h => H35.out (HBj.out.trans h)⟩⟩, rfl⟩
    · have hge : (s.size : Int) ≤ (j : Int) := by omega
      have HLt := Lib.hid hlt
      clear hlt
      go_wp2
      go_ret
      exact ⟨⟨j, rfl, HJ.out, fun h => absurd h HLt.out⟩, rfl⟩
end Go.Proofs.YtfjecohokmelfaaDoor
