/- The statements of treat, walked: just one holds; what is told. -/
import Derived.Test.YtahjeiiandpmlaaTtF
namespace Go.Proofs.Ytahjeiiandpmlaa
open Go.RowKit
set_option maxRecDepth 100000
set_option linter.unusedSimpArgs false
set_option linter.unusedVariables false

def cnt (v k : Int) : Int := if v < k then 1 else 0
set_option maxHeartbeats 4000000 in
theorem treatOne_any (sa : Bool) (su : Int) (ex : Bool) (fr to_ pa pl : Int) (bu ov : Bool) (w : World) : Calls Try.prog 4 #[.agg #[.bool sa, .int .i64 su, .bool ex, .int .i64 fr, .int .i64 to_, .int .i64 pa, .int .i64 pl, .bool bu, .bool ov]] w fun e w1 => e = .returned (.bool true) ∧ Below w.heap.size w w1 := by
  have HX := Lib.hid (And.intro (heap_alloc_new w (.cells #[.bool sa, .int .i64 su, .bool ex, .int .i64 fr, .int .i64 to_, .int .i64 pa, .int .i64 pl, .bool bu, .bool ov] 23)) (below_alloc w (.cells #[.bool sa, .int .i64 su, .bool ex, .int .i64 fr, .int .i64 to_, .int .i64 pa, .int .i64 pl, .bool bu, .bool ov] 23)))
  have HM2 := Lib.hid (fun W => ref_may sa su ex fr to_ pa pl bu ov W)
  have HO1 := Lib.hid (fun W => code_of sa su ex fr to_ pa pl bu ov W)
  cases hm : mayB su fr to_ pa pl with
  | false =>
    have HV : Hid (ofT sa su ex fr to_ pa pl bu ov = 0 ∧ ofE su fr to_ pa pl = 2) := Lib.hid (by unfold ofT ofE; rw [hm]; exact ⟨rfl, rfl⟩)
    rw [hm] at HM2
    rw [HV.out.1, HV.out.2] at HO1
    clear hm HV
    go_enter Try.func4, Try.ntmps4
    go_wp2_with (first
      | (go_at_call 7; refine (HO1.out _).mono ?_; rintro e w1 ⟨rfl, hb⟩; obtain ⟨x0, x1, x2, x3, x4, x5, x6, x7, x8⟩ := cellsCase (heap_on hb HX.out.1); have HB1 := Lib.hid (below_then HX.out.2 hb); have HX1 := Lib.hid (heap_on hb HX.out.1); clear hb)
      | (go_at_call 10; refine (HM2.out _).mono ?_; rintro e w2 ⟨rfl, hb⟩; clear x0 x1 x2 x3 x4 x5 x6 x7 x8; obtain ⟨x0, x1, x2, x3, x4, x5, x6, x7, x8⟩ := cellsCase (heap_on hb HX1.out); have HB2 := Lib.hid (below_then HB1.out hb); have HX2 := Lib.hid (heap_on hb HX1.out); clear hb)
      | (go_at_call 11; refine (lives_any _).mono ?_; rintro e w3 ⟨rfl, hb⟩; have HB3 := Lib.hid (below_then HB2.out hb); clear hb))
    go_ret
    exact ⟨rfl, HB3.out⟩
  | true =>
    rw [hm] at HM2
    have HH := Lib.hid (fun (t : Int) (W : World) (h1 : 1 ≤ t) (h2 : t ≤ 14) => ref_holds_of t sa su ex fr to_ pa pl bu ov W hm h1 h2)
    have HR := Lib.hid (of_range sa su ex fr to_ pa pl bu ov hm)
    have HE : ofE su fr to_ pa pl = 0 := by unfold ofE; rw [hm]; rfl
    rw [HE] at HO1
    clear HE hm
    generalize hv : ofT sa su ex fr to_ pa pl bu ov = v at HO1 HH HR
    clear hv
    go_enter Try.func4, Try.ntmps4
    go_wp2_with (first
      | (go_at_call 7; refine (HO1.out _).mono ?_; rintro e w1 ⟨rfl, hb⟩; obtain ⟨x0, x1, x2, x3, x4, x5, x6, x7, x8⟩ := cellsCase (heap_on hb HX.out.1); have HB1 := Lib.hid (below_then HX.out.2 hb); have HX1 := Lib.hid (heap_on hb HX.out.1); clear hb)
      | (go_at_call 10; refine (HM2.out _).mono ?_; rintro e w2 ⟨rfl, hb⟩; clear x0 x1 x2 x3 x4 x5 x6 x7 x8; obtain ⟨x0, x1, x2, x3, x4, x5, x6, x7, x8⟩ := cellsCase (heap_on hb HX1.out); have HB2 := Lib.hid (below_then HB1.out hb); have HX2 := Lib.hid (heap_on hb HX1.out); clear hb))
    clear x0 x1 x2 x3 x4 x5 x6 x7 x8
    go_loopw [5, 6] (fun s5 s6 wr => ∃ k : Nat, 1 ≤ k ∧ k ≤ 15 ∧ s6 = .int .i64 k ∧ s5 = .int .i64 (cnt v k) ∧ Hid (Below w2.heap.size w2 wr)) (fun _ s6 _ => 15 - (intOf s6).toNat)
    case atStart => exact ⟨1, by omega, by omega, rfl, by have := HR.out.1; unfold cnt; rw [if_neg (by omega)], Lib.hid (Below.refl _ _)⟩
    case round =>
      obtain ⟨k, hk, hk15, rfl, rfl, HBr⟩ := hrel
      obtain ⟨x0, x1, x2, x3, x4, x5, x6, x7, x8⟩ := cellsCase (heap_on HBr.out HX2.out)
      by_cases hk14 : (k : Int) ≤ 14
      · have HC : Hid (∀ W, Calls Try.prog 12 #[.int .i64 k, .agg #[.bool sa, .int .i64 su, .bool ex, .int .i64 fr, .int .i64 to_, .int .i64 pa, .int .i64 pl, .bool bu, .bool ov]] W fun e w1 => e = .returned (.bool (decide (v = k))) ∧ Below W.heap.size W w1) := Lib.hid (fun W => HH.out k W (by omega) hk14)
        by_cases he : v = k
        · rw [decide_eq_true he] at HC
          have e1 : cnt v k = 0 := by unfold cnt; rw [if_neg (by omega)]
          have E2 : Hid (cnt v (↑(k + 1) : Int) = 1) := Lib.hid (by unfold cnt; rw [if_pos (by omega)])
          rw [e1]
          clear e1 he
          go_wp2_with (go_at_call 12; refine (HC.out _).mono ?_; rintro e w3 ⟨rfl, hb⟩; have HB3 := Lib.hid hb; clear hb)
          go_roundw
          case rel => exact ⟨k + 1, by omega, by omega, by go_num, by rw [E2.out], Lib.hid (below_then HBr.out HB3.out)⟩
          case measure => simp [intOf]; omega
        · rw [decide_eq_false he] at HC
          have E2 : Hid (cnt v (↑(k + 1) : Int) = cnt v k) := Lib.hid (by unfold cnt; by_cases h : v < k; (rw [if_pos h, if_pos (by omega)]); (rw [if_neg h, if_neg (by omega)]))
          clear he
          generalize cnt v k = n at E2 ⊢
          go_wp2_with (go_at_call 12; refine (HC.out _).mono ?_; rintro e w3 ⟨rfl, hb⟩; have HB3 := Lib.hid hb; clear hb)
          go_roundw
          case rel => exact ⟨k + 1, by omega, by omega, by go_num, by rw [E2.out], Lib.hid (below_then HBr.out HB3.out)⟩
          case measure => simp [intOf]; omega
      · have e1 : cnt v k = 1 := by have := HR.out.2; unfold cnt; rw [if_pos (by omega)]
        rw [e1]
        have HC : Hid (∀ W, Calls Try.prog 12 #[.int .i64 v, .agg #[.bool sa, .int .i64 su, .bool ex, .int .i64 fr, .int .i64 to_, .int .i64 pa, .int .i64 pl, .bool bu, .bool ov]] W fun e w1 => e = .returned (.bool true) ∧ Below W.heap.size W w1) := Lib.hid (fun W => by have := HH.out v W HR.out.1 HR.out.2; rwa [decide_eq_true rfl] at this)
        clear e1
        go_wp2_with (first
          | (go_at_call 12; refine (HC.out _).mono ?_; rintro e w3 ⟨rfl, hb⟩; have HB3 := Lib.hid (below_then HB2.out (below_then HBr.out hb)); clear hb)
          | (go_at_call 11; refine (lives_any _).mono ?_; rintro e w4 ⟨rfl, hb⟩; have HB4 := Lib.hid (below_then HB3.out hb); clear hb))
        go_ret
        exact ⟨rfl, HB4.out⟩
theorem counts_eq (sa : Bool) (su : Int) (ex : Bool) (fr to_ pa pl : Int) (bu ov : Bool) : countsB sa su ex fr to_ pa pl bu ov = ((ofT sa su ex fr to_ pa pl bu ov == 8) || (ofT sa su ex fr to_ pa pl bu ov == 9)) := by
  unfold countsB
  rw [Bool.eq_iff_iff]
  simp only [decide_eq_true_eq, Bool.or_eq_true, beq_iff_eq]
  constructor
  · exact fun h => h.2
  · intro h
    refine ⟨?_, h⟩
    cases hm : mayB su fr to_ pa pl
    · exfalso
      unfold ofT at h
      rw [hm] at h
      simp at h
    · rfl
set_option maxHeartbeats 4000000 in
theorem treatTells_any (t : Int) (sa : Bool) (su : Int) (ex : Bool) (fr to_ pa pl : Int) (bu ov : Bool) (w : World) : Calls Try.prog 5 #[.int .i64 t, .agg #[.bool sa, .int .i64 su, .bool ex, .int .i64 fr, .int .i64 to_, .int .i64 pa, .int .i64 pl, .bool bu, .bool ov]] w fun e w1 => e = .returned (.bool true) ∧ Below w.heap.size w w1 := by
  have HX := Lib.hid (And.intro (heap_alloc_new w (.cells #[.bool sa, .int .i64 su, .bool ex, .int .i64 fr, .int .i64 to_, .int .i64 pa, .int .i64 pl, .bool bu, .bool ov] 23)) (below_alloc w (.cells #[.bool sa, .int .i64 su, .bool ex, .int .i64 fr, .int .i64 to_, .int .i64 pa, .int .i64 pl, .bool bu, .bool ov] 23)))
  have HO := Lib.hid (fun W => ref_of sa su ex fr to_ pa pl bu ov W)
  have HCt := Lib.hid (fun W => code_counts sa su ex fr to_ pa pl bu ov W)
  rw [counts_eq] at HCt
  generalize ofT sa su ex fr to_ pa pl bu ov = v at HO HCt
  have HN1 := Lib.hid (fun W => code_name t W)
  have HN2 := Lib.hid (fun W => ref_name t W)
  have HU1 := Lib.hid (fun W => code_output t W)
  have HU2 := Lib.hid (fun W => ref_output t W)
  have HD1 := Lib.hid (fun W => code_deducts t W)
  have HD2 := Lib.hid (fun W => ref_deducts t W)
  have HL := Lib.hid (fun W => code_listed t W)
  generalize nameV t = s at HN1 HN2
  generalize outP t = b1 at HU1 HU2
  generalize dedP t = b2 at HD1 HD2
  have q0 : (s.toList == s.toList) = true := beq_self_eq_true _
  have q1 : (b1 == b1) = true := beq_self_eq_true _
  have q2 : (b2 == b2) = true := beq_self_eq_true _
  have hv3 : ((v == 8) = true ∧ ((v == 8) || (v == 9)) = true) ∨ ((v == 8) = false ∧ (v == 9) = true ∧ ((v == 8) || (v == 9)) = true) ∨ ((v == 8) = false ∧ (v == 9) = false ∧ ((v == 8) || (v == 9)) = false) := by
    cases h1 : (v == 8) <;> cases h2 : (v == 9) <;> simp
  have ht3 : ((t == 4) = true ∧ ((t == 4) || (t == 6)) = true) ∨ ((t == 4) = false ∧ (t == 6) = true ∧ ((t == 4) || (t == 6)) = true) ∨ ((t == 4) = false ∧ (t == 6) = false ∧ ((t == 4) || (t == 6)) = false) := by
    cases h1 : (t == 4) <;> cases h2 : (t == 6) <;> simp
  rcases hv3 with ⟨a1, a2⟩ | ⟨a0, a1, a2⟩ | ⟨a0, a1, a2⟩
  · rw [a2] at HCt
    clear a2
    rcases ht3 with ⟨c1, c2⟩ | ⟨c0, c1, c2⟩ | ⟨c0, c1, c2⟩
    all_goals
      rw [c2] at HL
      clear c2
      go_enter Try.func5, Try.ntmps5
      go_wp2_with (first
        | (go_at_call 8; refine (HO.out _).mono ?_; rintro e w1 ⟨rfl, hb⟩; obtain ⟨x0, x1, x2, x3, x4, x5, x6, x7, x8⟩ := cellsCase (heap_on hb HX.out.1); have HB1 := Lib.hid (below_then HX.out.2 hb); have HX1 := Lib.hid (heap_on hb HX.out.1); clear hb)
        | (go_at_call 13; refine (HN1.out _).mono ?_; rintro e w2 ⟨rfl, hb⟩; clear x0 x1 x2 x3 x4 x5 x6 x7 x8; obtain ⟨x0, x1, x2, x3, x4, x5, x6, x7, x8⟩ := cellsCase (heap_on hb HX1.out); have HB2 := Lib.hid (below_then HB1.out hb); clear hb)
        | (go_at_call 14; refine (HN2.out _).mono ?_; rintro e w3 ⟨rfl, rfl⟩)
        | (go_at_call 15; refine (HU1.out _).mono ?_; rintro e w4 ⟨rfl, rfl⟩)
        | (go_at_call 16; refine (HU2.out _).mono ?_; rintro e w5 ⟨rfl, rfl⟩)
        | (go_at_call 17; refine (HD1.out _).mono ?_; rintro e w6 ⟨rfl, rfl⟩)
        | (go_at_call 18; refine (HD2.out _).mono ?_; rintro e w7 ⟨rfl, rfl⟩)
        | (go_at_call 19; refine (HCt.out _).mono ?_; rintro e w8 ⟨rfl, hb⟩; have HB8 := Lib.hid (below_then HB2.out hb); clear hb)
        | (go_at_call 20; refine (HL.out _).mono ?_; rintro e w9 ⟨rfl, rfl⟩)
        | (go_at_call 11; refine (lives_any _).mono ?_; rintro e w10 ⟨rfl, hb⟩; have HB10 := Lib.hid (below_then HB8.out hb); clear hb))
      go_ret
      exact ⟨rfl, HB10.out⟩
  · rw [a2] at HCt
    clear a2
    rcases ht3 with ⟨c1, c2⟩ | ⟨c0, c1, c2⟩ | ⟨c0, c1, c2⟩
    all_goals
      rw [c2] at HL
      clear c2
      go_enter Try.func5, Try.ntmps5
      go_wp2_with (first
        | (go_at_call 8; refine (HO.out _).mono ?_; rintro e w1 ⟨rfl, hb⟩; obtain ⟨x0, x1, x2, x3, x4, x5, x6, x7, x8⟩ := cellsCase (heap_on hb HX.out.1); have HB1 := Lib.hid (below_then HX.out.2 hb); have HX1 := Lib.hid (heap_on hb HX.out.1); clear hb)
        | (go_at_call 13; refine (HN1.out _).mono ?_; rintro e w2 ⟨rfl, hb⟩; clear x0 x1 x2 x3 x4 x5 x6 x7 x8; obtain ⟨x0, x1, x2, x3, x4, x5, x6, x7, x8⟩ := cellsCase (heap_on hb HX1.out); have HB2 := Lib.hid (below_then HB1.out hb); clear hb)
        | (go_at_call 14; refine (HN2.out _).mono ?_; rintro e w3 ⟨rfl, rfl⟩)
        | (go_at_call 15; refine (HU1.out _).mono ?_; rintro e w4 ⟨rfl, rfl⟩)
        | (go_at_call 16; refine (HU2.out _).mono ?_; rintro e w5 ⟨rfl, rfl⟩)
        | (go_at_call 17; refine (HD1.out _).mono ?_; rintro e w6 ⟨rfl, rfl⟩)
        | (go_at_call 18; refine (HD2.out _).mono ?_; rintro e w7 ⟨rfl, rfl⟩)
        | (go_at_call 19; refine (HCt.out _).mono ?_; rintro e w8 ⟨rfl, hb⟩; have HB8 := Lib.hid (below_then HB2.out hb); clear hb)
        | (go_at_call 20; refine (HL.out _).mono ?_; rintro e w9 ⟨rfl, rfl⟩)
        | (go_at_call 11; refine (lives_any _).mono ?_; rintro e w10 ⟨rfl, hb⟩; have HB10 := Lib.hid (below_then HB8.out hb); clear hb))
      go_ret
      exact ⟨rfl, HB10.out⟩
  · rw [a2] at HCt
    clear a2
    rcases ht3 with ⟨c1, c2⟩ | ⟨c0, c1, c2⟩ | ⟨c0, c1, c2⟩
    all_goals
      rw [c2] at HL
      clear c2
      go_enter Try.func5, Try.ntmps5
      go_wp2_with (first
        | (go_at_call 8; refine (HO.out _).mono ?_; rintro e w1 ⟨rfl, hb⟩; obtain ⟨x0, x1, x2, x3, x4, x5, x6, x7, x8⟩ := cellsCase (heap_on hb HX.out.1); have HB1 := Lib.hid (below_then HX.out.2 hb); have HX1 := Lib.hid (heap_on hb HX.out.1); clear hb)
        | (go_at_call 13; refine (HN1.out _).mono ?_; rintro e w2 ⟨rfl, hb⟩; clear x0 x1 x2 x3 x4 x5 x6 x7 x8; obtain ⟨x0, x1, x2, x3, x4, x5, x6, x7, x8⟩ := cellsCase (heap_on hb HX1.out); have HB2 := Lib.hid (below_then HB1.out hb); clear hb)
        | (go_at_call 14; refine (HN2.out _).mono ?_; rintro e w3 ⟨rfl, rfl⟩)
        | (go_at_call 15; refine (HU1.out _).mono ?_; rintro e w4 ⟨rfl, rfl⟩)
        | (go_at_call 16; refine (HU2.out _).mono ?_; rintro e w5 ⟨rfl, rfl⟩)
        | (go_at_call 17; refine (HD1.out _).mono ?_; rintro e w6 ⟨rfl, rfl⟩)
        | (go_at_call 18; refine (HD2.out _).mono ?_; rintro e w7 ⟨rfl, rfl⟩)
        | (go_at_call 19; refine (HCt.out _).mono ?_; rintro e w8 ⟨rfl, hb⟩; have HB8 := Lib.hid (below_then HB2.out hb); clear hb)
        | (go_at_call 20; refine (HL.out _).mono ?_; rintro e w9 ⟨rfl, rfl⟩)
        | (go_at_call 11; refine (lives_any _).mono ?_; rintro e w10 ⟨rfl, hb⟩; have HB10 := Lib.hid (below_then HB8.out hb); clear hb))
      go_ret
      exact ⟨rfl, HB10.out⟩
end Go.Proofs.Ytahjeiiandpmlaa
