/- Names looked up, both sides. -/
import Derived.Test.YtaccjfoifkfpfaaDoorEnC
namespace Go.Proofs.YtaccjfoifkfpfaaDoor
open Go.RowKit
set_option maxRecDepth 100000
set_option linter.unusedSimpArgs false
set_option linter.unusedVariables false

def fieldX (x : RowV) (s : ByteArray) : Int × Bool := if s = ⟨#[98, 97, 115, 101]⟩ then (x.base, true) else if s = ⟨#[116, 97, 120]⟩ then (x.tax, true) else if s = ⟨#[111, 117, 116]⟩ then (owedV x, true) else if s = ⟨#[105, 110]⟩ then (x.deduct, true) else (0, false)
def tagX (x : RowV) (s : ByteArray) : Int × Bool := if s = ⟨#[116, 114, 101, 97, 116]⟩ then (x.treat, true) else if s = ⟨#[114, 97, 116, 101]⟩ then (x.rate, true) else if s = ⟨#[115, 117, 112, 112, 108, 121]⟩ then (x.supply, true) else if s = ⟨#[115, 97, 108, 101]⟩ then (markV x.sale, true) else if s = ⟨#[108, 97, 116, 101]⟩ then (markV (lateB x), true) else if s = ⟨#[109, 105, 120, 101, 100]⟩ then (markV x.mixed, true) else (0, false)
theorem light_row (x : RowV) (w : World) (h : RowVOk w x) : Calls Tryd.prog 6 #[.agg (rowA x)] w fun e w1 => e = .returned (.bool (lightR x)) ∧ Below w.heap.size w w1 := by
  obtain ⟨h1, h2, h3⟩ := h
  have hw1 : wrap64 ((x.doc.size : Int) + x.state.size) = (x.doc.size : Int) + x.state.size := by unfold wrap64; omega
  have hw2 : wrap64 ((x.doc.size : Int) + x.state.size + x.party.size) = (x.doc.size : Int) + x.state.size + x.party.size := by unfold wrap64; omega
  have HV : Hid (decide ((x.doc.size : Int) + x.state.size + x.party.size ≤ 300) = lightR x) := Lib.hid (by
    unfold lightR
    rw [decide_eq_decide]
    omega)
  clear h1 h2 h3
  go_enter Tryd.func6, Tryd.ntmps6
  go_wp2
  go_ret
  exact ⟨ret_bool (by rw [← HV.out]), below_alloc _ _⟩
theorem neS {s : ByteArray} {l : List UInt8} (h : ¬ s = ⟨l.toArray⟩) : (s.toList == l) = false := beq_false_of_ne fun e => h (by
  rw [ByteArray.toList_eq] at e
  obtain ⟨d⟩ := s
  have e' : d.toList = l := e
  rw [← e', Array.toArray_toList])
set_option maxHeartbeats 1000000 in
theorem code_field (x : RowV) (s : ByteArray) (w : World) : Calls Tryd.prog 8 #[.agg (rowA x), .string s] w fun e w1 => e = .returned (.tuple #[.int .i64 (fieldX x s).1, .bool (fieldX x s).2]) ∧ Below w.heap.size w w1 := by
  have HO := Lib.hid (code_owed x)
  by_cases h1 : s = ⟨#[98, 97, 115, 101]⟩
  · subst h1
    go_enter Tryd.func8, Tryd.ntmps8
    go_wp2
    go_ret2
    exact ⟨rfl, below_alloc _ _⟩
  by_cases h2 : s = ⟨#[116, 97, 120]⟩
  · subst h2
    go_enter Tryd.func8, Tryd.ntmps8
    go_wp2
    go_ret2
    exact ⟨rfl, below_alloc _ _⟩
  by_cases h3 : s = ⟨#[111, 117, 116]⟩
  · subst h3
    go_enter Tryd.func8, Tryd.ntmps8
    go_wp2_with (go_at_call 14; refine (HO.out _).mono ?_; rintro e w1 ⟨rfl, hb⟩; have HB := Lib.hid (below_then (below_alloc _ _) hb); clear hb)
    go_ret2
    exact ⟨rfl, HB.out⟩
  by_cases h4 : s = ⟨#[105, 110]⟩
  · subst h4
    go_enter Tryd.func8, Tryd.ntmps8
    go_wp2
    go_ret2
    exact ⟨rfl, below_alloc _ _⟩
  have e : fieldX x s = (0, false) := by unfold fieldX; rw [if_neg h1, if_neg h2, if_neg h3, if_neg h4]
  rw [e]
  have k1 := neS h1
  have k2 := neS h2
  have k3 := neS h3
  have k4 := neS h4
  clear h1 h2 h3 h4 e
  go_enter Tryd.func8, Tryd.ntmps8
  go_wp2
  go_ret2
  exact ⟨rfl, below_alloc _ _⟩
set_option maxHeartbeats 1000000 in
theorem ref_field (x : RowV) (s : ByteArray) (w : World) : Calls Tryd.prog 9 #[.agg (rowA x), .string s] w fun e w1 => e = .returned (.tuple #[.int .i64 (fieldX x s).1, .bool (fieldX x s).2]) ∧ Below w.heap.size w w1 := by
  have HO := Lib.hid (ref_owed x)
  by_cases h1 : s = ⟨#[98, 97, 115, 101]⟩
  · subst h1
    go_enter Tryd.func9, Tryd.ntmps9
    go_wp2
    go_ret2
    exact ⟨rfl, below_alloc _ _⟩
  by_cases h2 : s = ⟨#[116, 97, 120]⟩
  · subst h2
    go_enter Tryd.func9, Tryd.ntmps9
    go_wp2
    go_ret2
    exact ⟨rfl, below_alloc _ _⟩
  by_cases h3 : s = ⟨#[111, 117, 116]⟩
  · subst h3
    go_enter Tryd.func9, Tryd.ntmps9
    go_wp2_with (go_at_call 15; refine (HO.out _).mono ?_; rintro e w1 ⟨rfl, hb⟩; have HB := Lib.hid (below_then (below_alloc _ _) hb); clear hb)
    go_ret2
    exact ⟨rfl, HB.out⟩
  by_cases h4 : s = ⟨#[105, 110]⟩
  · subst h4
    go_enter Tryd.func9, Tryd.ntmps9
    go_wp2
    go_ret2
    exact ⟨rfl, below_alloc _ _⟩
  have e : fieldX x s = (0, false) := by unfold fieldX; rw [if_neg h1, if_neg h2, if_neg h3, if_neg h4]
  rw [e]
  have k1 := neS h1
  have k2 := neS h2
  have k3 := neS h3
  have k4 := neS h4
  clear h1 h2 h3 h4 e
  go_enter Tryd.func9, Tryd.ntmps9
  go_wp2
  go_ret2
  exact ⟨rfl, below_alloc _ _⟩
set_option maxHeartbeats 1000000 in
theorem code_tag (x : RowV) (s : ByteArray) (w : World) : Calls Tryd.prog 10 #[.agg (rowA x), .string s] w fun e w1 => e = .returned (.tuple #[.int .i64 (tagX x s).1, .bool (tagX x s).2]) ∧ Below w.heap.size w w1 := by
  have HL := Lib.hid (code_late x)
  have HK := Lib.hid code_mark
  by_cases h0 : s = ⟨#[116, 114, 101, 97, 116]⟩
  · subst h0
    go_enter Tryd.func10, Tryd.ntmps10
    go_wp2
    go_ret2
    exact ⟨rfl, below_alloc _ _⟩
  by_cases h1 : s = ⟨#[114, 97, 116, 101]⟩
  · subst h1
    go_enter Tryd.func10, Tryd.ntmps10
    go_wp2
    go_ret2
    exact ⟨rfl, below_alloc _ _⟩
  by_cases h2 : s = ⟨#[115, 117, 112, 112, 108, 121]⟩
  · subst h2
    go_enter Tryd.func10, Tryd.ntmps10
    go_wp2
    go_ret2
    exact ⟨rfl, below_alloc _ _⟩
  by_cases h3 : s = ⟨#[115, 97, 108, 101]⟩
  · subst h3
    go_enter Tryd.func10, Tryd.ntmps10
    go_wp2_with (go_at_call 22; refine (HK.out _ _).mono ?_; rintro e w1 ⟨rfl, rfl⟩)
    go_ret2
    exact ⟨rfl, below_alloc _ _⟩
  by_cases h4 : s = ⟨#[108, 97, 116, 101]⟩
  · subst h4
    go_enter Tryd.func10, Tryd.ntmps10
    go_wp2_with (first
      | (go_at_call 12; refine (HL.out _).mono ?_; rintro e w1 ⟨rfl, hb⟩; have HB := Lib.hid (below_then (below_alloc _ _) hb); clear hb)
      | (go_at_call 22; refine (HK.out _ _).mono ?_; rintro e w1 ⟨rfl, rfl⟩))
    go_ret2
    exact ⟨rfl, HB.out⟩
  by_cases h5 : s = ⟨#[109, 105, 120, 101, 100]⟩
  · subst h5
    go_enter Tryd.func10, Tryd.ntmps10
    go_wp2_with (go_at_call 22; refine (HK.out _ _).mono ?_; rintro e w1 ⟨rfl, rfl⟩)
    go_ret2
    exact ⟨rfl, below_alloc _ _⟩
  have e : tagX x s = (0, false) := by unfold tagX; rw [if_neg h0, if_neg h1, if_neg h2, if_neg h3, if_neg h4, if_neg h5]
  rw [e]
  have k0 := neS h0
  have k1 := neS h1
  have k2 := neS h2
  have k3 := neS h3
  have k4 := neS h4
  have k5 := neS h5
  clear h0 h1 h2 h3 h4 h5 e
  go_enter Tryd.func10, Tryd.ntmps10
  go_wp2
  go_ret2
  exact ⟨rfl, below_alloc _ _⟩
set_option maxHeartbeats 1000000 in
theorem ref_tag (x : RowV) (s : ByteArray) (w : World) : Calls Tryd.prog 11 #[.agg (rowA x), .string s] w fun e w1 => e = .returned (.tuple #[.int .i64 (tagX x s).1, .bool (tagX x s).2]) ∧ Below w.heap.size w w1 := by
  have HL := Lib.hid (ref_late x)
  have HK := Lib.hid ref_one
  by_cases h0 : s = ⟨#[116, 114, 101, 97, 116]⟩
  · subst h0
    go_enter Tryd.func11, Tryd.ntmps11
    go_wp2
    go_ret2
    exact ⟨rfl, below_alloc _ _⟩
  by_cases h1 : s = ⟨#[114, 97, 116, 101]⟩
  · subst h1
    go_enter Tryd.func11, Tryd.ntmps11
    go_wp2
    go_ret2
    exact ⟨rfl, below_alloc _ _⟩
  by_cases h2 : s = ⟨#[115, 117, 112, 112, 108, 121]⟩
  · subst h2
    go_enter Tryd.func11, Tryd.ntmps11
    go_wp2
    go_ret2
    exact ⟨rfl, below_alloc _ _⟩
  by_cases h3 : s = ⟨#[115, 97, 108, 101]⟩
  · subst h3
    go_enter Tryd.func11, Tryd.ntmps11
    go_wp2_with (go_at_call 23; refine (HK.out _ _).mono ?_; rintro e w1 ⟨rfl, rfl⟩)
    go_ret2
    exact ⟨rfl, below_alloc _ _⟩
  by_cases h4 : s = ⟨#[108, 97, 116, 101]⟩
  · subst h4
    go_enter Tryd.func11, Tryd.ntmps11
    go_wp2_with (first
      | (go_at_call 13; refine (HL.out _).mono ?_; rintro e w1 ⟨rfl, hb⟩; have HB := Lib.hid (below_then (below_alloc _ _) hb); clear hb)
      | (go_at_call 23; refine (HK.out _ _).mono ?_; rintro e w1 ⟨rfl, rfl⟩))
    go_ret2
    exact ⟨rfl, HB.out⟩
  by_cases h5 : s = ⟨#[109, 105, 120, 101, 100]⟩
  · subst h5
    go_enter Tryd.func11, Tryd.ntmps11
    go_wp2_with (go_at_call 23; refine (HK.out _ _).mono ?_; rintro e w1 ⟨rfl, rfl⟩)
    go_ret2
    exact ⟨rfl, below_alloc _ _⟩
  have e : tagX x s = (0, false) := by unfold tagX; rw [if_neg h0, if_neg h1, if_neg h2, if_neg h3, if_neg h4, if_neg h5]
  rw [e]
  have k0 := neS h0
  have k1 := neS h1
  have k2 := neS h2
  have k3 := neS h3
  have k4 := neS h4
  have k5 := neS h5
  clear h0 h1 h2 h3 h4 h5 e
  go_enter Tryd.func11, Tryd.ntmps11
  go_wp2
  go_ret2
  exact ⟨rfl, below_alloc _ _⟩
end Go.Proofs.YtaccjfoifkfpfaaDoor
