/- Lists of texts held against each other: the document's own. -/
import Derived.Test.YtjanhgekocpobaaVatRightR
namespace Go.Proofs.Ytjanhgekocpobaa
open Go.RowKit Go.Maps
set_option maxRecDepth 1000000

theorem eq_of_get {L M : List ByteArray} (h : L.length = M.length) (hs : ∀ i (h1 : i < L.length) (h2 : i < M.length), L[i] = M[i]) : L = M :=
  List.ext_getElem h hs
set_option maxHeartbeats 1000000 in
theorem ref_same (L M : List ByteArray) (A B : Option Addr) (p q : Nat) (w : World) (hL : L.length ≤ 1000) (hA : Strs w A L) (hB : Strs w B M) :
    Calls Try.prog 15 #[.slice A L.length p, .slice B M.length q] w fun e w' => e = .returned (.bool (decide (L = M))) ∧ Below w.heap.size w w' := by
  have HA := Lib.hid hA
  have HB := Lib.hid hB
  have hl : (L.length : Int) ≤ 1000 := by omega
  clear hA hB
  by_cases hlen : L.length = M.length
  · have hli : (L.length : Int) = (M.length : Int) := by omega
    have HL := Lib.hid hlen
    clear hlen
    go_enter Try.func15, Try.ntmps15
    go_wp2
    go_loopw [5] (fun i wr => ∃ k : Nat, k ≤ L.length ∧ i = .int .i64 k ∧ Hid (∀ i2 (h1 : i2 < L.length) (h2 : i2 < M.length), i2 < k → L[i2] = M[i2]) ∧ Hid (Below w.heap.size w wr)) (fun i _ => L.length - (intOf i).toNat)
    case atStart => exact ⟨0, Nat.zero_le _, rfl, Lib.hid (fun _ _ _ h => absurd h (by omega)), Lib.hid (Below.refl _ _)⟩
    case round =>
      obtain ⟨k, hk, rfl, HF, HW⟩ := hrel
      by_cases hlt : k < L.length
      · have hkm : k < M.length := by have := HL.out; omega
        obtain ⟨a, rfl, hab, hac, _⟩ := (HA.out.below HW.out) k hlt
        obtain ⟨b, rfl, hbb, hbc, _⟩ := (HB.out.below HW.out) k hkm
        have hki : (k : Int) < (M.length : Int) := by omega
        have hki2 : (k : Int) < (L.length : Int) := by omega
        obtain ⟨x, hx⟩ : ∃ x, x = L[k] := ⟨_, rfl⟩
        obtain ⟨y, hy⟩ : ∃ y, y = M[k] := ⟨_, rfl⟩
        rw [← hx] at hac
        rw [← hy] at hbc
        by_cases hq : x = y
        · have hb1 : (x.toList == y.toList) = true := by rw [str_beq]; simpa using hq
          have HF2 : Hid (∀ i2 (h1 : i2 < L.length) (h2 : i2 < M.length), i2 < k + 1 → L[i2] = M[i2]) := Lib.hid (fun i2 h1 h2 h3 => by
            rcases Nat.lt_or_ge i2 k with h4 | h4
            · exact HF.out i2 h1 h2 h4
            · obtain rfl : i2 = k := by omega
              rw [← hx, ← hy]; exact hq)
          clear hq hx hy
          go_wp2
          go_quiet (fail)
          go_wp2
          go_roundw
          case rel => exact ⟨k + 1, by omega, by go_num, HF2, Lib.hid (below_drewN HW.out _)⟩
          case measure => simp [intOf]; omega
        · have hb1 : (x.toList == y.toList) = false := by rw [str_beq]; simpa using hq
          have HN : Hid (decide (L = M) = false) := Lib.hid (decide_eq_false (fun h => by
            subst h
            exact hq (by rw [hx, hy])))
          clear hq hx hy
          go_wp2
          go_quiet (fail)
          go_wp2
          go_ret
          exact ⟨by rw [HN.out]; rfl, below_drewN HW.out _⟩
      · obtain rfl : k = L.length := by omega
        have HY : Hid (decide (L = M) = true) := Lib.hid (decide_eq_true (eq_of_get HL.out (fun i h1 h2 => HF.out i h1 h2 h1)))
        go_wp2
        go_ret
        exact ⟨by rw [HY.out]; rfl, HW.out⟩
  · have hb : ((L.length : Int) == (M.length : Int)) = false := beq_false_of_ne (by omega)
    have HN : Hid (decide (L = M) = false) := Lib.hid (decide_eq_false (fun h => hlen (by rw [h])))
    clear hlen
    go_enter Try.func15, Try.ntmps15
    go_wp2
    go_ret
    exact ⟨by rw [HN.out]; rfl, Below.refl _ _⟩
end Go.Proofs.Ytjanhgekocpobaa
