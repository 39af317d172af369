/- Countries; a number against forms: the program's. -/
import Derived.Test.YtjanhgekocpobaaVatA
import Derived.Deep.QuietTactic
import Derived.BigQuiet
import Derived.WalkSmall
import Derived.WalkMore
import Derived.ScopeJumps
namespace Go.Proofs.Ytjanhgekocpobaa
open Go.RowKit
set_option maxRecDepth 100000

theorem country_two {s : ByteArray} (h : s.size = 2) : Vat.country (strT s) = (Vat.letter (s[0]'(by omega)).toNat && Vat.letter (s[1]'(by omega)).toNat) := by
  obtain ⟨⟨l⟩⟩ := s
  match l, h with
  | [a, b], _ => rfl
theorem country_not {s : ByteArray} (h : s.size ≠ 2) : Vat.country (strT s) = false := by
  obtain ⟨⟨l⟩⟩ := s
  match l, h with
  | [], _ => rfl
  | [_], _ => rfl
  | [_, _], h => exact absurd rfl h
  | _ :: _ :: _ :: _, _ => rfl
theorem byte_le (b : UInt8) : b.toNat ≤ 255 := by have := b.toNat_lt; omega

theorem code_country (s : ByteArray) (w : World) (h : s.size ≤ 9223372036854775807) : Calls Try.prog 36 #[.string s] w fun e w' => e = .returned (.bool (Vat.country (strT s))) ∧ w = w' := by
  have h2 : (s.size : Int) ≤ 9223372036854775807 := by omega
  by_cases h0 : s.size = 2
  · rw [country_two h0]
    have h3 : (s.size : Int) = 2 := by omega
    cases h4 : Vat.letter (s[0]'(by omega)).toNat
    all_goals
      go_enter Try.func36, Try.ntmps36
      go_wp2_with (go_at_call 50; refine (code_letter _ w (byte_le _)).mono ?_; rintro e w1 ⟨rfl, rfl⟩)
      go_ret
      exact ⟨rfl, rfl⟩
  · rw [country_not h0]
    have h3 : ((s.size : Int) == 2) = false := beq_false_of_ne (by omega)
    clear h0
    go_enter Try.func36, Try.ntmps36
    go_wp2
    go_ret
    exact ⟨rfl, rfl⟩

theorem ref_country (s : ByteArray) (w : World) (h : s.size ≤ 9223372036854775807) : Calls Try.prog 30 #[.string s] w fun e w' => e = .returned (.bool (Vat.country (strT s))) ∧ w = w' := by
  have h2 : (s.size : Int) ≤ 9223372036854775807 := by omega
  by_cases h0 : s.size = 2
  · rw [country_two h0]
    have h3 : (s.size : Int) = 2 := by omega
    cases h4 : Vat.letter (s[0]'(by omega)).toNat
    all_goals
      go_enter Try.func30, Try.ntmps30
      go_wp2_with (go_at_call 45; refine (ref_letter _ w (byte_le _)).mono ?_; rintro e w1 ⟨rfl, rfl⟩)
      go_ret
      exact ⟨rfl, rfl⟩
  · rw [country_not h0]
    have h3 : ((s.size : Int) == 2) = false := beq_false_of_ne (by omega)
    clear h0
    go_enter Try.func30, Try.ntmps30
    go_wp2
    go_ret
    exact ⟨rfl, rfl⟩

/-- a slice of texts, as it lies -/
def Strs (w : World) (A : Option Addr) (L : List ByteArray) : Prop :=
  ∀ i (h : i < L.length), ∃ a, A = some a ∧ a.block < w.heap.size ∧ w.cell? (a.add i) = some (.string L[i]) ∧ L[i].size ≤ 1000
theorem Strs.below {w w' : World} {A : Option Addr} {L : List ByteArray} (h : Strs w A L) (hb : Below w.heap.size w w') : Strs w' A L := fun i hi => by
  obtain ⟨a, e, hbl, hc, h1⟩ := h i hi
  exact ⟨a, e, Nat.lt_of_lt_of_le hbl hb.size, (hb.cell (by rw [add_block]; exact hbl)).trans hc, h1⟩
/-- byte by byte, up to there -/
theorem fit_iff : ∀ (f n : List UInt8), Vat.fitT f n = true ↔ f.length = n.length ∧ ∀ i (h : i < f.length) (h2 : i < n.length), Vat.stands f[i].toNat n[i].toNat = true
  | [], [] => by simp [Vat.fitT]
  | [], _ :: _ => by simp [Vat.fitT]
  | _ :: _, [] => by simp [Vat.fitT]
  | x :: f, y :: n => by
    rw [Vat.fitT, Bool.and_eq_true, fit_iff f n]
    constructor
    · rintro ⟨h1, h2, h3⟩
      refine ⟨by simp [h2], fun i h4 h5 => ?_⟩
      cases i with
      | zero => exact h1
      | succ i => exact h3 i (by simpa using h4) (by simpa using h5)
    · rintro ⟨h1, h2⟩
      refine ⟨h2 0 (by simp) (by simp), by simpa using h1, fun i h4 h5 => h2 (i + 1) (by simpa using h4) (by simpa using h5)⟩
theorem fit_len {f n : ByteArray} (h : f.size ≠ n.size) : Vat.fitT (strT f) (strT n) = false := by
  rw [← Bool.not_eq_true, fit_iff]
  intro h2
  exact h h2.1
theorem fit_not {f n : ByteArray} {j : Nat} (hj : j < f.size) (hj2 : j < n.size) (hs : Vat.stands (f[j]).toNat (n[j]).toNat = false) : Vat.fitT (strT f) (strT n) = false := by
  rw [← Bool.not_eq_true, fit_iff]
  intro h2
  have h3 : Vat.stands (f[j]).toNat (n[j]).toNat = true := h2.2 j hj hj2
  rw [hs] at h3
  cases h3
theorem fit_yes {f n : ByteArray} (h : f.size = n.size) (hs : ∀ j (hj : j < f.size) (hj2 : j < n.size), Vat.stands (f[j]).toNat (n[j]).toNat = true) : Vat.fitT (strT f) (strT n) = true := by
  rw [fit_iff]
  exact ⟨h, fun i h1 h2 => hs i h1 h2⟩
theorem any_take {L : List ByteArray} {p : ByteArray → Bool} {k : Nat} (h : k < L.length) (h1 : (L.take k).any p = false) (h2 : p L[k] = false) : (L.take (k + 1)).any p = false := by
  rw [List.take_succ_eq_append_getElem h, List.any_append, h1, Bool.false_or]
  simp [h2]
theorem any_yes {L : List ByteArray} {p : ByteArray → Bool} {k : Nat} (h : k < L.length) (h2 : p L[k] = true) : L.any p = true :=
  List.any_eq_true.2 ⟨_, List.getElem_mem h, h2⟩

theorem code_standsS (x y : UInt8) (w : World) : Calls Try.prog 61 #[.int .u8 (x.toNat : Int), .int .u8 (y.toNat : Int)] w fun e w' => e = .returned (.bool (Vat.stands x.toNat y.toNat)) ∧ w' = w :=
  (code_stands _ _ _ (byte_le _)).mono fun _ _ h => ⟨h.1, h.2.symm⟩
/-- a scope whose jumps go on to its end alone -/
theorem wp_scope_on {P : Program} {a : Act} {w : World} {Q : Exit → Act → World → Prop} {c rest : Code} (l : Nat) (hf : findLabel c l = some rest) (hr : ∀ (Q' : Exit → Act → World → Prop) a w, Q' .normal a w → rest.wp P Q' a w)
    (first : c.wp P (Exit.jump l (Q .normal) Q) a w) : (Code.scope c).wp P Q a w :=
  wp_scope_jumps l (Q .normal) (fun _ _ => 0) hf first fun _ _ h => hr _ _ _ h
set_option maxHeartbeats 2000000 in
theorem code_isOneOf (L : List ByteArray) (A : Option Addr) (c : Nat) (n : ByteArray) (w : World) (hL : L.length ≤ 1000) (hn : n.size ≤ 9223372036854775807) (hS : Strs w A L) :
    Calls Try.prog 52 #[.slice A L.length c, .string n] w fun e w' => e = .returned (.bool (L.any fun f => Vat.fitT (strT f) (strT n))) ∧ Below w.heap.size w w' := by
  have HS := Lib.hid hS
  have h1 : (L.length : Int) ≤ 1000 := by omega
  have h2 : (n.size : Int) ≤ 9223372036854775807 := by omega
  clear hS
  go_enter Try.func52, Try.ntmps52
  go_wp2
  go_loopw [10] (fun i wr => ∃ k : Nat, k ≤ L.length ∧ i = .int .i64 k ∧ Hid ((L.take k).any (fun f => Vat.fitT (strT f) (strT n)) = false) ∧ Hid (Below w.heap.size w wr)) (fun i _ => L.length - (intOf i).toNat)
  case atStart => exact ⟨0, Nat.zero_le _, rfl, Lib.hid rfl, Lib.hid (Below.refl _ _)⟩
  case round =>
    obtain ⟨k, hk, rfl, HF, HB⟩ := hrel
    by_cases hlt : k < L.length
    · obtain ⟨a, rfl, hbl, hc, hz⟩ := (HS.out.below HB.out) k hlt
      have HN := Lib.hid (fun h => any_take hlt HF.out h)
      have HY := Lib.hid (any_yes (p := fun f => Vat.fitT (strT f) (strT n)) hlt)
      obtain ⟨o, ho⟩ : ∃ o, o = L[k] := ⟨_, rfl⟩
      rw [← ho] at hc hz
      have HO := Lib.hid ho
      have hz2 : (o.size : Int) ≤ 1000 := by omega
      clear ho
      by_cases hlen : o.size = n.size
      · have hleni : (o.size : Int) = (n.size : Int) := by omega
        have HL := Lib.hid hlen
        have HYY := Lib.hid (fun hs => HY.out (by rw [← HO.out]; exact fit_yes hlen hs))
        have HNN : Hid (∀ j (hj : j < o.size) (hj2 : j < n.size), Vat.stands (o[j]).toNat (n[j]).toNat = false → (L.take (k + 1)).any (fun f => Vat.fitT (strT f) (strT n)) = false) := Lib.hid (fun j hj hj2 hs => HN.out (by rw [← HO.out]; exact fit_not hj hj2 hs))
        have hon : (o.size : Int) ≤ (n.size : Int) := by omega
        clear hlen
        go_wp2
        refine wp_scope_on 0 rfl (fun Q' a w h => wp_skip h) ?_
        go_wp2
        go_loopw [21] (fun i ws => ∃ j : Nat, j ≤ o.size ∧ i = .int .i64 j ∧ Hid (∀ i2 (h : i2 < o.size) (h2 : i2 < n.size), i2 < j → Vat.stands (o[i2]).toNat (n[i2]).toNat = true) ∧ Hid (Below w.heap.size w ws)) (fun i _ => o.size - (intOf i).toNat)
        case atStart => exact ⟨0, Nat.zero_le _, rfl, Lib.hid (fun _ _ _ h => absurd h (by omega)), HB⟩
        case round =>
          obtain ⟨j, hj, rfl, HJ, HB2⟩ := hrel
          by_cases hjl : j < o.size
          · have hjn : j < n.size := by have := HL.out; omega
            have hji : (j : Int) < (n.size : Int) := by omega
            have hji2 : (j : Int) < (o.size : Int) := by omega
            cases hst : Vat.stands (o[j]).toNat (n[j]).toNat with
            | true =>
              have HJ2 : Hid (∀ i2 (h : i2 < o.size) (h2 : i2 < n.size), i2 < j + 1 → Vat.stands (o[i2]).toNat (n[i2]).toNat = true) := Lib.hid (fun i2 h h2 h3 => by
                rcases Nat.lt_or_ge i2 j with h4 | h4
                · exact HJ.out i2 h h2 h4
                · obtain rfl : i2 = j := by omega
                  exact hst)
              go_wp2
              go_quiet (first | (go_at_call 61; refine Calls.quiet_of_same (code_standsS _ _ _)))
              go_wp2
              go_roundw
              case rel => exact ⟨j + 1, by omega, by go_num, HJ2, Lib.hid (below_drewN HB2.out _)⟩
              case measure => simp [intOf]; omega
            | false =>
              have HN2 := Lib.hid (HNN.out j hjl hjn hst)
              go_wp2
              go_quiet (first | (go_at_call 61; refine Calls.quiet_of_same (code_standsS _ _ _)))
              go_wp2
              go_step3
              simp only [Exit.inBlock, Exit.then]
              refine And.intro rfl ?_
              simp only [Exit.inBlock, Exit.then]
              go_wp2
              go_roundw
              case rel => exact ⟨k + 1, by omega, by go_num, HN2, Lib.hid (below_drewN HB2.out _)⟩
              case measure => simp [intOf]; omega
          · obtain rfl : j = o.size := by omega
            have HY2 := Lib.hid (HYY.out (fun i2 h h2 => HJ.out i2 h h2 h))
            go_wp2
            simp only [Exit.jump, Exit.inBlock, Exit.then]
            go_wp2
            go_ret
            exact ⟨by rw [HY2.out]; rfl, HB2.out⟩
      · have hl2 : ((o.size : Int) == (n.size : Int)) = false := beq_false_of_ne (by omega)
        have HN2 := Lib.hid (HN.out (by rw [← HO.out]; exact fit_len hlen))
        clear hlen
        go_wp2
        refine wp_scope_on 0 rfl (fun Q' a w h => wp_skip h) ?_
        go_wp2
        simp only [Exit.jump, Exit.inBlock, Exit.then]
        go_wp2
        go_roundw
        case rel => exact ⟨k + 1, by omega, by go_num, HN2, HB⟩
        case measure => simp [intOf]; omega
    · obtain rfl : k = L.length := by omega
      have HF2 : Hid ((L.any fun f => Vat.fitT (strT f) (strT n)) = false) := Lib.hid (by have := HF.out; rwa [List.take_length] at this)
      go_wp2
      go_ret
      exact ⟨by rw [HF2.out]; rfl, HB.out⟩
end Go.Proofs.Ytjanhgekocpobaa
