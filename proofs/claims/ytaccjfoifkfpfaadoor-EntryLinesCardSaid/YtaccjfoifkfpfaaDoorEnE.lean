/- The names told; lists of texts held against each other. -/
import Derived.Test.YtaccjfoifkfpfaaDoorEnD
namespace Go.Proofs.YtaccjfoifkfpfaaDoor
open Go.RowKit Go.Maps
set_option maxRecDepth 1000000
set_option linter.unusedSimpArgs false
set_option linter.unusedVariables false

theorem str_eq {a b : ByteArray} : a.data.toList = b.data.toList → a = b := by
  obtain ⟨⟨l⟩⟩ := a
  obtain ⟨⟨m⟩⟩ := b
  intro h
  have : l = m := h
  rw [this]
theorem below_drewN {B : Nat} {a w : World} (h : Below B a w) (n : Nat) : Below B a (w.drewN n) := ⟨h.os, h.tape, h.output, h.size, h.block⟩
def Strs (w : World) (A : Option Addr) (L : List ByteArray) : Prop :=
  ∀ i (h : i < L.length), ∃ a, A = some a ∧ a.block < w.heap.size ∧ w.cell? (a.add i) = some (.string L[i]) ∧ L[i].size ≤ 1000
theorem Strs.below {w w' : World} {A : Option Addr} {L : List ByteArray} (h : Strs w A L) (hb : Below w.heap.size w w') : Strs w' A L := fun i hi => by
  obtain ⟨a, e, hbl, hc, h1⟩ := h i hi
  exact ⟨a, e, Nat.lt_of_lt_of_le hbl hb.size, (hb.cell (by rw [add_block]; exact hbl)).trans hc, h1⟩
theorem str_beq (a b : ByteArray) : (a.toList == b.toList) = decide (a = b) := by
  rw [Bool.eq_iff_iff, decide_eq_true_iff, beq_iff_eq, ByteArray.toList_eq, ByteArray.toList_eq]
  exact ⟨str_eq, fun h => by rw [h]⟩
theorem eq_of_get {L M : List ByteArray} (h : L.length = M.length) (hs : ∀ i (h1 : i < L.length) (h2 : i < M.length), L[i] = M[i]) : L = M :=
  List.ext_getElem h hs
set_option maxHeartbeats 1000000 in
theorem ref_same (L M : List ByteArray) (A B : Option Addr) (p q : Nat) (w : World) (hL : L.length ≤ 1000) (hA : Strs w A L) (hB : Strs w B M) :
    Calls Tryd.prog 16 #[.slice A L.length p, .slice B M.length q] w fun e w' => e = .returned (.bool (decide (L = M))) ∧ Below w.heap.size w w' := by
  have HA := Lib.hid hA
  have HB := Lib.hid hB
  have hl : (L.length : Int) ≤ 1000 := by omega
  clear hA hB
  by_cases hlen : L.length = M.length
  · have hli : (L.length : Int) = (M.length : Int) := by omega
    have HL := Lib.hid hlen
    clear hlen
    go_enter Tryd.func16, Tryd.ntmps16
    go_wp2
    go_loopw [5] (fun i wr => ∃ k : Nat, k ≤ L.length ∧ i = .int .i64 k ∧ Hid (∀ i2 (h1 : i2 < L.length) (h2 : i2 < M.length), i2 < k → L[i2] = M[i2]) ∧ Hid (Below w.heap.size w wr)) (fun i _ => L.length - (intOf i).toNat)
    case atStart => exact ⟨0, Nat.zero_le _, rfl, Lib.hid (fun _ _ _ h => absurd h (by omega)), Lib.hid (Below.refl _ _)⟩
    case round =>
      obtain ⟨k, hk, rfl, HF, HW⟩ := hrel
      by_cases hlt : k < L.length
      · have hkm : k < M.length := by have := HL.out; omega
        obtain ⟨a, rfl, hab, hac, _⟩ := (HA.out.below HW.out) k hlt
        obtain ⟨b, rfl, hbb, hbc, _⟩ := (HB.out.below HW.out) k hkm
        have hki : (k : Int) < (M.length : Int) := by omega
        have hki2 : (k : Int) < (L.length : Int) := by omega
        obtain ⟨x, hx⟩ : ∃ x, x = L[k] := ⟨_, rfl⟩
        obtain ⟨y, hy⟩ : ∃ y, y = M[k] := ⟨_, rfl⟩
        rw [← hx] at hac
        rw [← hy] at hbc
        by_cases hq : x = y
        · have hb1 : (x.toList == y.toList) = true := by rw [str_beq]; simpa using hq
          have HF2 : Hid (∀ i2 (h1 : i2 < L.length) (h2 : i2 < M.length), i2 < k + 1 → L[i2] = M[i2]) := Lib.hid (fun i2 h1 h2 h3 => by
            rcases Nat.lt_or_ge i2 k with h4 | h4
            · exact HF.out i2 h1 h2 h4
            · obtain rfl : i2 = k := by omega
              rw [← hx, ← hy]; exact hq)
          clear hq hx hy
          go_wp2
          go_quiet (fail)
          go_wp2
          go_roundw
          case rel => exact ⟨k + 1, by omega, by go_num, HF2, Lib.hid (below_drewN HW.out _)⟩
          case measure => simp [intOf]; omega
        · have hb1 : (x.toList == y.toList) = false := by rw [str_beq]; simpa using hq
          have HN : Hid (decide (L = M) = false) := Lib.hid (decide_eq_false (fun h => by
            subst h
            exact hq (by rw [hx, hy])))
          clear hq hx hy
          go_wp2
          go_quiet (fail)
          go_wp2
          go_ret
          exact ⟨by rw [HN.out]; rfl, below_drewN HW.out _⟩
      · obtain rfl : k = L.length := by omega
        have HY : Hid (decide (L = M) = true) := Lib.hid (decide_eq_true (eq_of_get HL.out (fun i h1 h2 => HF.out i h1 h2 h1)))
        go_wp2
        go_ret
        exact ⟨by rw [HY.out]; rfl, HW.out⟩
  · have hb : ((L.length : Int) == (M.length : Int)) = false := beq_false_of_ne (by omega)
    have HN : Hid (decide (L = M) = false) := Lib.hid (decide_eq_false (fun h => hlen (by rw [h])))
    clear hlen
    go_enter Tryd.func16, Tryd.ntmps16
    go_wp2
    go_ret
    exact ⟨by rw [HN.out]; rfl, Below.refl _ _⟩
abbrev fieldsL : List ByteArray := [⟨#[98, 97, 115, 101]⟩, ⟨#[116, 97, 120]⟩, ⟨#[111, 117, 116]⟩, ⟨#[105, 110]⟩]
abbrev tagsL : List ByteArray := [⟨#[116, 114, 101, 97, 116]⟩, ⟨#[114, 97, 116, 101]⟩, ⟨#[115, 117, 112, 112, 108, 121]⟩, ⟨#[115, 97, 108, 101]⟩, ⟨#[108, 97, 116, 101]⟩, ⟨#[109, 105, 120, 101, 100]⟩]
/-- a row of texts, laid -/
theorem fields_strs (w : World) : Strs (w.alloc (.cells #[.string ⟨#[98, 97, 115, 101]⟩, .string ⟨#[116, 97, 120]⟩, .string ⟨#[111, 117, 116]⟩, .string ⟨#[105, 110]⟩] 9)) (some ⟨w.heap.size, 0, none⟩) fieldsL := fun i hi => by
  have hc := heap_alloc_new w (.cells #[.string ⟨#[98, 97, 115, 101]⟩, .string ⟨#[116, 97, 120]⟩, .string ⟨#[111, 117, 116]⟩, .string ⟨#[105, 110]⟩] 9)
  have hi' : i < 4 := hi
  refine ⟨_, rfl, by simp, ?_, ?_⟩
  · rw [Addr.add_mid, Nat.zero_add]
    have := cell_of_row _ w.heap.size i _ _ _ hc
    rw [this]
    rcases (show i = 0 ∨ i = 1 ∨ i = 2 ∨ i = 3 by omega) with rfl | rfl | rfl | rfl <;> rfl
  · exact (show ∀ s ∈ fieldsL, s.size ≤ 1000 by decide) _ (List.getElem_mem _)
theorem code_fields (w : World) : Calls Tryd.prog 17 #[] w fun e w1 => e = .returned (.slice (some ⟨w.heap.size, 0, none⟩) 4 4) ∧ Strs w1 (some ⟨w.heap.size, 0, none⟩) fieldsL ∧ Below w.heap.size w w1 := by
  have HS := Lib.hid (fields_strs w)
  go_enter Tryd.func17, Tryd.ntmps17
  go_wp2
  go_ret
  exact ⟨rfl, HS.out, below_alloc _ _⟩
/-- a row of texts, laid -/
theorem tags_strs (w : World) : Strs (w.alloc (.cells #[.string ⟨#[116, 114, 101, 97, 116]⟩, .string ⟨#[114, 97, 116, 101]⟩, .string ⟨#[115, 117, 112, 112, 108, 121]⟩, .string ⟨#[115, 97, 108, 101]⟩, .string ⟨#[108, 97, 116, 101]⟩, .string ⟨#[109, 105, 120, 101, 100]⟩] 9)) (some ⟨w.heap.size, 0, none⟩) tagsL := fun i hi => by
  have hc := heap_alloc_new w (.cells #[.string ⟨#[116, 114, 101, 97, 116]⟩, .string ⟨#[114, 97, 116, 101]⟩, .string ⟨#[115, 117, 112, 112, 108, 121]⟩, .string ⟨#[115, 97, 108, 101]⟩, .string ⟨#[108, 97, 116, 101]⟩, .string ⟨#[109, 105, 120, 101, 100]⟩] 9)
  have hi' : i < 6 := hi
  refine ⟨_, rfl, by simp, ?_, ?_⟩
  · rw [Addr.add_mid, Nat.zero_add]
    have := cell_of_row _ w.heap.size i _ _ _ hc
    rw [this]
    rcases (show i = 0 ∨ i = 1 ∨ i = 2 ∨ i = 3 ∨ i = 4 ∨ i = 5 by omega) with rfl | rfl | rfl | rfl | rfl | rfl <;> rfl
  · exact (show ∀ s ∈ tagsL, s.size ≤ 1000 by decide) _ (List.getElem_mem _)
theorem code_tags (w : World) : Calls Tryd.prog 18 #[] w fun e w1 => e = .returned (.slice (some ⟨w.heap.size, 0, none⟩) 6 6) ∧ Strs w1 (some ⟨w.heap.size, 0, none⟩) tagsL ∧ Below w.heap.size w w1 := by
  have HS := Lib.hid (tags_strs w)
  go_enter Tryd.func18, Tryd.ntmps18
  go_wp2
  go_ret
  exact ⟨rfl, HS.out, below_alloc _ _⟩
end Go.Proofs.YtaccjfoifkfpfaaDoor
