/- Is a number right: the document's own; lists of texts held against each other. -/
import Derived.Test.YtjanhgekocpobaaVatRight
namespace Go.Proofs.Ytjanhgekocpobaa
open Go.RowKit Go.Maps
set_option maxRecDepth 1000000

theorem ref_fitsS (x y : UInt8) (w : World) : Calls Try.prog 49 #[.int .u8 (x.toNat : Int), .int .u8 (y.toNat : Int)] w fun e w' => e = .returned (.bool (Vat.stands x.toNat y.toNat)) ∧ w' = w :=
  (ref_fits _ _ _ (byte_le _)).mono fun _ _ h => ⟨h.1, h.2.symm⟩
theorem all_take {l : List UInt8} {p : UInt8 → Bool} {k : Nat} (h : k < l.length) (h1 : (l.take k).all p = true) (h2 : p l[k] = true) : (l.take (k + 1)).all p = true := by
  rw [List.take_succ_eq_append_getElem h, List.all_append, h1, Bool.true_and]
  simp [h2]
theorem all_no {l : List UInt8} {p : UInt8 → Bool} {k : Nat} (h : k < l.length) (h2 : p l[k] = false) : l.all p = false := by
  rw [List.all_eq_false]
  exact ⟨_, List.getElem_mem h, by simp [h2]⟩

set_option maxHeartbeats 4000000 in
theorem ref_right (c n : ByteArray) (w : World) (hc : c.size ≤ 140737488351232) (hn : n.size ≤ 9223372036854775807) :
    Calls Try.prog 31 #[.string c, .string n] w fun e w' => e = .returned (.bool (rightP c n)) ∧ Below w.heap.size w w' := by
  have HC := Lib.hid (ref_country c w (by omega))
  have HMb := Lib.hid (ref_member c w)
  have hn2 : (n.size : Int) ≤ 9223372036854775807 := by omega
  cases hcc : Vat.country (strT c) with
  | false =>
    have HR : Hid (rightP c n = false) := Lib.hid (by unfold rightP roomN; rw [not_mem hcc, hcc]; rfl)
    rw [HR.out]
    rw [hcc] at HC
    clear hcc
    go_enter Try.func31, Try.ntmps31
    go_wp2_with (go_at_call 30; refine HC.out.mono ?_; rintro e w1 ⟨rfl, rfl⟩)
    go_ret
    exact ⟨rfl, Below.refl _ _⟩
  | true =>
    rw [hcc] at HC
    cases h : isMem c with
    | false =>
      rw [h] at HMb
      have HR : Hid (rightP c n = (decide (1 ≤ n.size) && decide (n.size ≤ 20) && (strT n).all plainB)) := Lib.hid (by unfold rightP roomN; rw [h, hcc]; rfl)
      clear h hcc
      go_enter Try.func31, Try.ntmps31
      go_wp2_with (first
        | (go_at_call 30; refine HC.out.mono ?_; rintro e w1 ⟨rfl, rfl⟩)
        | (go_at_call 46; refine HMb.out.mono ?_; rintro e w1 ⟨rfl, hb⟩; have HB1 := Lib.hid hb; clear hb))
      go_loopw [5] (fun i wr => ∃ k : Nat, k ≤ n.size ∧ i = .int .i64 k ∧ Hid (((strT n).take k).all plainB = true) ∧ Hid (Below w.heap.size w wr)) (fun i _ => n.size - (intOf i).toNat)
      case atStart => exact ⟨0, Nat.zero_le _, rfl, Lib.hid rfl, HB1⟩
      case round =>
        obtain ⟨k, hk, rfl, HF, HB⟩ := hrel
        by_cases hlt : k < n.size
        · have hki : (k : Int) < (n.size : Int) := by omega
          have HY := Lib.hid (fun h2 : plainB (n[k]) = true => all_take (p := plainB) (l := strT n) (k := k) hlt HF.out h2)
          have HN := Lib.hid (fun h2 : plainB (n[k]) = false => all_no (p := plainB) (l := strT n) (k := k) hlt h2)
          cases hl : Vat.letter (n[k]).toNat with
          | true =>
            have HY2 := Lib.hid (HY.out (by unfold plainB; rw [hl]; rfl))
            go_wp2_with (first
              | (go_at_call 45; refine (ref_letter _ _ (byte_le _)).mono ?_; rintro e w4 ⟨rfl, rfl⟩))
            go_roundw
            case rel => exact ⟨k + 1, by omega, by go_num, HY2, HB⟩
            case measure => simp [intOf]; omega
          | false =>
            cases hd : Vat.digit (n[k]).toNat with
            | true =>
              have HY2 := Lib.hid (HY.out (by unfold plainB; rw [hl, hd]; rfl))
              go_wp2_with (first
                | (go_at_call 45; refine (ref_letter _ _ (byte_le _)).mono ?_; rintro e w4 ⟨rfl, rfl⟩)
                | (go_at_call 47; refine (ref_digit _ _ (byte_le _)).mono ?_; rintro e w4 ⟨rfl, rfl⟩))
              go_roundw
              case rel => exact ⟨k + 1, by omega, by go_num, HY2, HB⟩
              case measure => simp [intOf]; omega
            | false =>
              have HN2 : Hid (rightP c n = false) := Lib.hid (by rw [HR.out, HN.out (by unfold plainB; rw [hl, hd]; rfl), Bool.and_false])
              go_wp2_with (first
                | (go_at_call 45; refine (ref_letter _ _ (byte_le _)).mono ?_; rintro e w4 ⟨rfl, rfl⟩)
                | (go_at_call 47; refine (ref_digit _ _ (byte_le _)).mono ?_; rintro e w4 ⟨rfl, rfl⟩))
              go_ret
              exact ⟨by rw [HN2.out]; rfl, HB.out⟩
        · obtain rfl : k = n.size := by omega
          have HR2 : Hid (rightP c n = (decide (1 ≤ n.size) && decide (n.size ≤ 20))) := Lib.hid (by
            have h1 := HF.out
            rw [List.take_of_length_le (Nat.le_of_eq (strT_length n))] at h1
            rw [HR.out, h1, Bool.and_true])
          by_cases h1 : 1 ≤ n.size
          · have h2 : (1 : Int) ≤ (n.size : Int) := by omega
            have HR3 : Hid (rightP c n = decide ((n.size : Int) ≤ 20)) := Lib.hid (by
              rw [HR2.out, decide_eq_true h1, Bool.true_and, Bool.eq_iff_iff, decide_eq_true_iff, decide_eq_true_iff]; omega)
            go_wp2
            go_ret
            exact ⟨by rw [HR3.out]; rfl, HB.out⟩
          · have h2 : (n.size : Int) < 1 := by omega
            have HR3 : Hid (rightP c n = false) := Lib.hid (by rw [HR2.out, decide_eq_false h1, Bool.false_and])
            clear h1
            go_wp2
            go_ret
            exact ⟨by rw [HR3.out]; rfl, HB.out⟩
    | true =>
      rw [h] at HMb
      have HR : Hid (rightP c n = (formsOf c).any fun f => Vat.fitT (strT f) (strT n)) := Lib.hid (by unfold rightP; rw [if_pos h])
      have HFm : Hid (∀ W, Calls Try.prog 48 #[.string c] W (ToldL W (formsOf c))) := Lib.hid (fun W => ref_forms c W)
      have hll : ((formsOf c).length : Int) ≤ 1000 := by have := formsOf_len c; omega
      generalize formsOf c = L at *
      clear h hcc
      go_enter Try.func31, Try.ntmps31
      go_wp2_with (first
        | (go_at_call 30; refine HC.out.mono ?_; rintro e w1 ⟨rfl, rfl⟩)
        | (go_at_call 46; refine HMb.out.mono ?_; rintro e w1 ⟨rfl, hb⟩; have HB1 := Lib.hid hb; clear hb)
        | (go_at_call 48; refine (HFm.out w1).mono ?_; rintro e w2 ⟨A, q, rfl, hs, hb⟩; have HS := Lib.hid hs; have HB2 := Lib.hid (HB1.out.trans (hb.mono HB1.out.size)); clear hs hb))
      go_loopw [7] (fun i wr => ∃ k : Nat, k ≤ L.length ∧ i = .int .i64 k ∧ Hid ((L.take k).any (fun f => Vat.fitT (strT f) (strT n)) = false) ∧ Hid (Strs wr A L) ∧ Hid (Below w.heap.size w wr)) (fun i _ => L.length - (intOf i).toNat)
      case atStart => exact ⟨0, Nat.zero_le _, rfl, Lib.hid rfl, HS, HB2⟩
      case round =>
        obtain ⟨k, hk, rfl, HF, HSr, HB⟩ := hrel
        by_cases hlt : k < L.length
        · obtain ⟨a, rfl, hbl, hce, hz⟩ := HSr.out k hlt
          have hki : (k : Int) < (L.length : Int) := by omega
          have HN := Lib.hid (fun h => any_take hlt HF.out h)
          have HY := Lib.hid (any_yes (p := fun f => Vat.fitT (strT f) (strT n)) hlt)
          obtain ⟨o, ho⟩ : ∃ o, o = L[k] := ⟨_, rfl⟩
          rw [← ho] at hce hz
          rw [← ho] at HN HY
          have hz2 : (o.size : Int) ≤ 1000 := by omega
          clear ho
          obtain ⟨B0, hB0⟩ : ∃ B0 : Bool, ((o.size : Int) == (n.size : Int)) = B0 := ⟨_, rfl⟩
          have HE0 : Hid (B0 = true ↔ o.size = n.size) := Lib.hid (by rw [← hB0, beq_iff_eq]; omega)
          go_wp2
          go_loopw [8, 9] (fun b i ws => ∃ (j : Nat) (B : Bool), j ≤ n.size ∧ i = .int .i64 j ∧ b = .bool B ∧ Hid (B = true → o.size = n.size ∧ ∀ i2 (h : i2 < o.size) (h2 : i2 < n.size), i2 < j → Vat.stands (o[i2]).toNat (n[i2]).toNat = true) ∧ Hid (B = false → Vat.fitT (strT o) (strT n) = false) ∧ Hid (Strs ws (some a) L) ∧ Hid (Below w.heap.size w ws) ∧ Hid (ws.cell? (a.add k) = some (.string o))) (fun _ i _ => n.size - (intOf i).toNat)
          case atStart => exact ⟨0, B0, Nat.zero_le _, rfl, rfl, Lib.hid (fun h => ⟨HE0.out.1 h, fun _ _ _ h => absurd h (by omega)⟩), Lib.hid (fun h => fit_len (fun h2 => by rw [HE0.out.2 h2] at h; cases h)), HSr, HB, Lib.hid hce⟩
          case round =>
            obtain ⟨j, B, hj, rfl, rfl, HT, HFl, HSs, HBs, HCe⟩ := hrel
            have hce := HCe.out
            cases B with
            | true =>
              by_cases hjl : j < n.size
              · have hjo : j < o.size := by have := (HT.out rfl).1; omega
                have hji : (j : Int) < (n.size : Int) := by omega
                have hjoi : (j : Int) < (o.size : Int) := by omega
                obtain ⟨B2, hst⟩ : ∃ B2, Vat.stands (o[j]).toNat (n[j]).toNat = B2 := ⟨_, rfl⟩
                have HT2 : Hid (B2 = true → o.size = n.size ∧ ∀ i2 (h : i2 < o.size) (h2 : i2 < n.size), i2 < j + 1 → Vat.stands (o[i2]).toNat (n[i2]).toNat = true) := Lib.hid (fun hb => by
                  refine ⟨(HT.out rfl).1, fun i2 h h2 h3 => ?_⟩
                  rcases Nat.lt_or_ge i2 j with h4 | h4
                  · exact (HT.out rfl).2 i2 h h2 h4
                  · obtain rfl : i2 = j := by omega
                    rw [hst]; exact hb)
                have HF2 : Hid (B2 = false → Vat.fitT (strT o) (strT n) = false) := Lib.hid (fun hb => fit_not hjo hjl (by rw [hst]; exact hb))
                go_wp2
                go_quiet (first | (go_at_call 49; refine Calls.quiet_of_same (ref_fitsS _ _ _)))
                go_wp2
                go_roundw
                case rel => exact ⟨j + 1, B2, by omega, by go_num, by rw [← hst], HT2, HF2, Lib.hid (HSs.out.below (below_drewN (Below.refl _ _) _)), Lib.hid (below_drewN HBs.out _), Lib.hid hce⟩
                case measure => simp [intOf]; omega
              · obtain rfl : j = n.size := by omega
                have HY2 : Hid (rightP c n = true) := Lib.hid (by
                  rw [HR.out]
                  exact HY.out (fit_yes (HT.out rfl).1 (fun i2 h h2 => (HT.out rfl).2 i2 h h2 h2)))
                go_wp2
                go_ret
                exact ⟨by rw [HY2.out]; rfl, HBs.out⟩
            | false =>
              have HN2 := Lib.hid (HN.out (HFl.out rfl))
              go_wp2
              all_goals
                go_roundw
                case rel => exact ⟨k + 1, by omega, by go_num, HN2, HSs, HBs⟩
                case measure => simp [intOf]; omega
        · obtain rfl : k = L.length := by omega
          have HF2 : Hid (rightP c n = false) := Lib.hid (by have := HF.out; rw [List.take_length] at this; rw [HR.out, this])
          go_wp2
          go_ret
          exact ⟨by rw [HF2.out]; rfl, HB.out⟩
end Go.Proofs.Ytjanhgekocpobaa
