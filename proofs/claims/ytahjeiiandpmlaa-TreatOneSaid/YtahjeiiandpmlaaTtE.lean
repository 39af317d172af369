/- The treatment of a case: the document's own; the chapter's example. -/
import Derived.Test.YtahjeiiandpmlaaTtB
import Derived.Test.YtahjeiiandpmlaaTtC
import Derived.Test.YtahjeiiandpmlaaTtM
import Derived.Test.YtahjeiiandpmlaaTtHtt
import Derived.Test.YtahjeiiandpmlaaTtHtf
import Derived.Test.YtahjeiiandpmlaaTtHft
import Derived.Test.YtahjeiiandpmlaaTtHff
import Derived.Test.YtahjeiiandpmlaaTtHfg
import Derived.WalkKit
namespace Go.Proofs.Ytahjeiiandpmlaa
open Go.RowKit
set_option maxRecDepth 100000
set_option linter.unusedSimpArgs false
set_option linter.unusedVariables false

set_option maxHeartbeats 1000000 in
theorem ref_holds (t : Int) (sa : Bool) (su : Int) (ex : Bool) (fr to_ pa pl : Int) (bu ov : Bool) (w : World) (hm : mayB su fr to_ pa pl = true) : Calls Try.prog 12 #[.int .i64 t, .agg #[.bool sa, .int .i64 su, .bool ex, .int .i64 fr, .int .i64 to_, .int .i64 pa, .int .i64 pl, .bool bu, .bool ov]] w fun e w1 => e = .returned (.bool (holdsB t sa su ex fr to_ pa pl bu ov)) ∧ Below w.heap.size w w1 := by
  obtain ⟨⟨a, ha, rfl⟩, _⟩ := may_of hm
  have h7 : a = 0 ∨ a = 1 ∨ a = 2 ∨ a = 3 ∨ a = 4 ∨ a = 5 ∨ a = 6 := by omega
  rcases h7 with rfl | rfl | rfl | rfl | rfl | rfl | rfl
  · show Calls Try.prog 12 #[.int .i64 t, .agg #[.bool sa, .int .i64 1, .bool ex, .int .i64 fr, .int .i64 to_, .int .i64 pa, .int .i64 pl, .bool bu, .bool ov]] w fun e w1 => e = .returned (.bool (holdsB t sa 1 ex fr to_ pa pl bu ov)) ∧ Below w.heap.size w w1
    cases sa with
    | true => cases ex with
      | true => exact ref_holds_1_tt t fr to_ pa pl bu ov w
      | false => exact ref_holds_1_tf t fr to_ pa pl bu ov w
    | false => cases ex with
      | true => exact ref_holds_1_ft t fr to_ pa pl bu ov w
      | false => exact ref_holds_1_ff t fr to_ pa pl bu ov w
  · show Calls Try.prog 12 #[.int .i64 t, .agg #[.bool sa, .int .i64 2, .bool ex, .int .i64 fr, .int .i64 to_, .int .i64 pa, .int .i64 pl, .bool bu, .bool ov]] w fun e w1 => e = .returned (.bool (holdsB t sa 2 ex fr to_ pa pl bu ov)) ∧ Below w.heap.size w w1
    cases sa with
    | true => cases ex with
      | true => exact ref_holds_2_tt t fr to_ pa pl bu ov w
      | false => exact ref_holds_2_tf t fr to_ pa pl bu ov w
    | false => cases ex with
      | true => exact ref_holds_2_ft t fr to_ pa pl bu ov w
      | false => exact ref_holds_2_ff t fr to_ pa pl bu ov w
  · show Calls Try.prog 12 #[.int .i64 t, .agg #[.bool sa, .int .i64 3, .bool ex, .int .i64 fr, .int .i64 to_, .int .i64 pa, .int .i64 pl, .bool bu, .bool ov]] w fun e w1 => e = .returned (.bool (holdsB t sa 3 ex fr to_ pa pl bu ov)) ∧ Below w.heap.size w w1
    cases sa with
    | true => cases ex with
      | true => exact ref_holds_L_tt t 3 fr to_ pa pl bu ov w rfl rfl rfl rfl rfl
      | false => exact ref_holds_L_tf t 3 fr to_ pa pl bu ov w rfl rfl rfl rfl rfl
    | false => cases ex with
      | true => exact ref_holds_L_ft t 3 fr to_ pa pl bu ov w rfl rfl rfl rfl rfl
      | false => exact ref_holds_L_ff t 3 fr to_ pa pl bu ov w rfl rfl rfl rfl rfl
  · show Calls Try.prog 12 #[.int .i64 t, .agg #[.bool sa, .int .i64 4, .bool ex, .int .i64 fr, .int .i64 to_, .int .i64 pa, .int .i64 pl, .bool bu, .bool ov]] w fun e w1 => e = .returned (.bool (holdsB t sa 4 ex fr to_ pa pl bu ov)) ∧ Below w.heap.size w w1
    cases sa with
    | true => cases ex with
      | true => exact ref_holds_L_tt t 4 fr to_ pa pl bu ov w rfl rfl rfl rfl rfl
      | false => exact ref_holds_L_tf t 4 fr to_ pa pl bu ov w rfl rfl rfl rfl rfl
    | false => cases ex with
      | true => exact ref_holds_L_ft t 4 fr to_ pa pl bu ov w rfl rfl rfl rfl rfl
      | false => exact ref_holds_L_ff t 4 fr to_ pa pl bu ov w rfl rfl rfl rfl rfl
  · show Calls Try.prog 12 #[.int .i64 t, .agg #[.bool sa, .int .i64 5, .bool ex, .int .i64 fr, .int .i64 to_, .int .i64 pa, .int .i64 pl, .bool bu, .bool ov]] w fun e w1 => e = .returned (.bool (holdsB t sa 5 ex fr to_ pa pl bu ov)) ∧ Below w.heap.size w w1
    cases sa with
    | true => cases ex with
      | true => exact ref_holds_L_tt t 5 fr to_ pa pl bu ov w rfl rfl rfl rfl rfl
      | false => exact ref_holds_L_tf t 5 fr to_ pa pl bu ov w rfl rfl rfl rfl rfl
    | false => cases ex with
      | true => exact ref_holds_L_ft t 5 fr to_ pa pl bu ov w rfl rfl rfl rfl rfl
      | false => exact ref_holds_L_ff t 5 fr to_ pa pl bu ov w rfl rfl rfl rfl rfl
  · show Calls Try.prog 12 #[.int .i64 t, .agg #[.bool sa, .int .i64 6, .bool ex, .int .i64 fr, .int .i64 to_, .int .i64 pa, .int .i64 pl, .bool bu, .bool ov]] w fun e w1 => e = .returned (.bool (holdsB t sa 6 ex fr to_ pa pl bu ov)) ∧ Below w.heap.size w w1
    cases sa with
    | true => cases ex with
      | true => exact ref_holds_6_tt t fr to_ pa pl bu ov w
      | false => exact ref_holds_6_tf t fr to_ pa pl bu ov w
    | false => cases ex with
      | true => exact ref_holds_6_ft t fr to_ pa pl bu ov w
      | false => exact ref_holds_6_ff t fr to_ pa pl bu ov w
  · show Calls Try.prog 12 #[.int .i64 t, .agg #[.bool sa, .int .i64 7, .bool ex, .int .i64 fr, .int .i64 to_, .int .i64 pa, .int .i64 pl, .bool bu, .bool ov]] w fun e w1 => e = .returned (.bool (holdsB t sa 7 ex fr to_ pa pl bu ov)) ∧ Below w.heap.size w w1
    cases sa with
    | true => cases ex with
      | true => exact ref_holds_7_tt t fr to_ pa pl bu ov w
      | false => exact ref_holds_7_tf t fr to_ pa pl bu ov w
    | false => cases ex with
      | true => exact ref_holds_7_ft t fr to_ pa pl bu ov w
      | false => exact ref_holds_7_ff t fr to_ pa pl bu ov w
theorem ref_holds_of (t : Int) (sa : Bool) (su : Int) (ex : Bool) (fr to_ pa pl : Int) (bu ov : Bool) (w : World) (hm : mayB su fr to_ pa pl = true) (h1 : 1 ≤ t) (h2 : t ≤ 14) : Calls Try.prog 12 #[.int .i64 t, .agg #[.bool sa, .int .i64 su, .bool ex, .int .i64 fr, .int .i64 to_, .int .i64 pa, .int .i64 pl, .bool bu, .bool ov]] w fun e w1 => e = .returned (.bool (decide (ofT sa su ex fr to_ pa pl bu ov = t))) ∧ Below w.heap.size w w1 := by
  rw [← holds_iff t sa su ex fr to_ pa pl bu ov hm h1 h2]
  exact ref_holds t sa su ex fr to_ pa pl bu ov w hm
set_option maxHeartbeats 1000000 in
theorem ref_may (sa : Bool) (su : Int) (ex : Bool) (fr to_ pa pl : Int) (bu ov : Bool) (w : World) : Calls Try.prog 10 #[.agg #[.bool sa, .int .i64 su, .bool ex, .int .i64 fr, .int .i64 to_, .int .i64 pa, .int .i64 pl, .bool bu, .bool ov]] w fun e w1 => e = .returned (.bool (mayB su fr to_ pa pl)) ∧ Below w.heap.size w w1 := by
  unfold mayB
  by_cases h1 : 1 ≤ su
  · by_cases h2 : su ≤ 7
    · cases h3 : zoneB fr
      · go_enter Try.func10, Try.ntmps10
        go_wp2_with (go_at_call 24; refine (ref_zone _ _).mono ?_; rintro e w1 ⟨rfl, rfl⟩)
        go_ret
        exact ⟨ret_bool (by first | (simp [*]; done) | (simp; intros; omega)), by repeat (first | exact below_alloc _ _ | exact below_same _ | assumption | refine below_more ?_)⟩
      · cases h4 : zoneB to_
        · go_enter Try.func10, Try.ntmps10
          go_wp2_with (go_at_call 24; refine (ref_zone _ _).mono ?_; rintro e w1 ⟨rfl, rfl⟩)
          go_ret
          exact ⟨ret_bool (by first | (simp [*]; done) | (simp; intros; omega)), by repeat (first | exact below_alloc _ _ | exact below_same _ | assumption | refine below_more ?_)⟩
        · cases h5 : zoneB pa
          · go_enter Try.func10, Try.ntmps10
            go_wp2_with (go_at_call 24; refine (ref_zone _ _).mono ?_; rintro e w1 ⟨rfl, rfl⟩)
            go_ret
            exact ⟨ret_bool (by first | (simp [*]; done) | (simp; intros; omega)), by repeat (first | exact below_alloc _ _ | exact below_same _ | assumption | refine below_more ?_)⟩
          · cases h6 : zoneB pl
            · go_enter Try.func10, Try.ntmps10
              go_wp2_with (go_at_call 24; refine (ref_zone _ _).mono ?_; rintro e w1 ⟨rfl, rfl⟩)
              go_ret
              exact ⟨ret_bool (by first | (simp [*]; done) | (simp; intros; omega)), by repeat (first | exact below_alloc _ _ | exact below_same _ | assumption | refine below_more ?_)⟩
            · go_enter Try.func10, Try.ntmps10
              go_wp2_with (go_at_call 24; refine (ref_zone _ _).mono ?_; rintro e w1 ⟨rfl, rfl⟩)
              go_ret
              exact ⟨ret_bool (by first | (simp [*]; done) | (simp; intros; omega)), by repeat (first | exact below_alloc _ _ | exact below_same _ | assumption | refine below_more ?_)⟩
    · go_enter Try.func10, Try.ntmps10
      go_wp2_with (go_at_call 24; refine (ref_zone _ _).mono ?_; rintro e w1 ⟨rfl, rfl⟩)
      go_ret
      exact ⟨ret_bool (by first | (simp [*]; done) | (simp; intros; omega)), by repeat (first | exact below_alloc _ _ | exact below_same _ | assumption | refine below_more ?_)⟩
  · go_enter Try.func10, Try.ntmps10
    go_wp2_with (go_at_call 24; refine (ref_zone _ _).mono ?_; rintro e w1 ⟨rfl, rfl⟩)
    go_ret
    exact ⟨ret_bool (by first | (simp [*]; done) | (simp; intros; omega)), by repeat (first | exact below_alloc _ _ | exact below_same _ | assumption | refine below_more ?_)⟩
set_option maxHeartbeats 1000000 in
theorem ref_of (sa : Bool) (su : Int) (ex : Bool) (fr to_ pa pl : Int) (bu ov : Bool) (w : World) : Calls Try.prog 8 #[.agg #[.bool sa, .int .i64 su, .bool ex, .int .i64 fr, .int .i64 to_, .int .i64 pa, .int .i64 pl, .bool bu, .bool ov]] w fun e w1 => e = .returned (.tuple #[.int .i64 (ofT sa su ex fr to_ pa pl bu ov), .int .i64 (ofE su fr to_ pa pl)]) ∧ Below w.heap.size w w1 := by
  have HX := Lib.hid (And.intro (heap_alloc_new w (.cells #[.bool sa, .int .i64 su, .bool ex, .int .i64 fr, .int .i64 to_, .int .i64 pa, .int .i64 pl, .bool bu, .bool ov] 23)) (below_alloc w (.cells #[.bool sa, .int .i64 su, .bool ex, .int .i64 fr, .int .i64 to_, .int .i64 pa, .int .i64 pl, .bool bu, .bool ov] 23)))
  cases hm : mayB su fr to_ pa pl
  · have HV : Hid (ofT sa su ex fr to_ pa pl bu ov = 0 ∧ ofE su fr to_ pa pl = 2) := Lib.hid (by unfold ofT ofE; rw [hm]; exact ⟨rfl, rfl⟩)
    have HM := Lib.hid (fun W => ref_may sa su ex fr to_ pa pl bu ov W)
    rw [hm] at HM
    clear hm
    rw [HV.out.1, HV.out.2]
    go_enter Try.func8, Try.ntmps8
    go_wp2_with (go_at_call 10; refine (HM.out _).mono ?_; rintro e w1 ⟨rfl, hb⟩; obtain ⟨x0, x1, x2, x3, x4, x5, x6, x7, x8⟩ := cellsCase (heap_on hb HX.out.1);  have HB := Lib.hid (below_then HX.out.2 hb); clear hb)
    go_ret2
    exact ⟨rfl, HB.out⟩
  · have HM := Lib.hid (fun W => ref_may sa su ex fr to_ pa pl bu ov W)
    rw [hm] at HM
    have HH := Lib.hid (fun (t : Int) (W : World) (h1 : 1 ≤ t) (h2 : t ≤ 14) => ref_holds_of t sa su ex fr to_ pa pl bu ov W hm h1 h2)
    have HR := Lib.hid (of_range sa su ex fr to_ pa pl bu ov hm)
    have HE : ofE su fr to_ pa pl = 0 := by unfold ofE; rw [hm]; rfl
    rw [HE]
    clear HE hm
    generalize hv : ofT sa su ex fr to_ pa pl bu ov = v at HH HR
    clear hv
    go_enter Try.func8, Try.ntmps8
    go_wp2_with (go_at_call 10; refine (HM.out _).mono ?_; rintro e w1 ⟨rfl, hb⟩; have HX1 := Lib.hid (heap_on hb HX.out.1); have HB := Lib.hid (below_then HX.out.2 hb); clear hb)
    go_loopw [4] (fun i wr => ∃ k : Nat, 1 ≤ k ∧ (k : Int) ≤ v ∧ i = .int .i64 k ∧ Hid (Below w1.heap.size w1 wr)) (fun i _ => 15 - (intOf i).toNat)
    case atStart => exact ⟨1, by omega, by have := HR.out.1; omega, rfl, Lib.hid (Below.refl _ _)⟩
    case round =>
      obtain ⟨k, hk, hkv, rfl, HBr⟩ := hrel
      have hk14 : (k : Int) ≤ 14 := by have := HR.out.2; omega
      obtain ⟨x0, x1, x2, x3, x4, x5, x6, x7, x8⟩ := cellsCase (heap_on HBr.out HX1.out)
      have HC : Hid (∀ W, Calls Try.prog 12 #[.int .i64 k, .agg #[.bool sa, .int .i64 su, .bool ex, .int .i64 fr, .int .i64 to_, .int .i64 pa, .int .i64 pl, .bool bu, .bool ov]] W fun e w1 => e = .returned (.bool (decide (v = k))) ∧ Below W.heap.size W w1) := Lib.hid (fun W => HH.out k W (by omega) hk14)
      by_cases he : v = k
      · rw [decide_eq_true he] at HC
        subst he
        go_wp2_with (go_at_call 12; refine (HC.out _).mono ?_; rintro e w2 ⟨rfl, hb⟩; have HB2 := Lib.hid hb; clear hb)
        go_ret2
        exact ⟨rfl, below_then HB.out (below_then HBr.out HB2.out)⟩
      · rw [decide_eq_false he] at HC
        have hlt : (k : Int) + 1 ≤ v := by omega
        clear he hkv
        go_wp2_with (go_at_call 12; refine (HC.out _).mono ?_; rintro e w2 ⟨rfl, hb⟩; have HB2 := Lib.hid hb; clear hb)
        go_roundw
        case rel => exact ⟨k + 1, by omega, by omega, by go_num, Lib.hid (below_then HBr.out HB2.out)⟩
        case measure => simp [intOf]; omega
set_option maxHeartbeats 1000000 in
theorem lives_any  (w : World) : Calls Try.prog 11 #[] w fun e w1 => e = .returned (.bool true) ∧ Below w.heap.size w w1 := by
  have H1 : Hid (∀ W : World, Calls Try.prog 7 #[.agg #[.bool true, .int .i64 1, .bool false, .int .i64 0, .int .i64 1, .int .i64 1, .int .i64 0, .bool false, .bool true]] W fun e w1 => e = .returned (.tuple #[.int .i64 8, .int .i64 0]) ∧ Below W.heap.size W w1) := Lib.hid (fun W => code_of true 1 false 0 1 1 0 false true W)
  have H2 : Hid (∀ W : World, Calls Try.prog 13 #[.int .i64 8] W fun e w1 => e = .returned (.string ⟨#[100, 105, 115, 116, 97, 110, 99, 101]⟩) ∧ Below W.heap.size W w1) := Lib.hid (fun W => code_name 8 W)
  go_enter Try.func11, Try.ntmps11
  go_wp2_with (first
    | (go_at_call 7; refine (H1.out _).mono ?_; rintro e w1 ⟨rfl, hb⟩; have HB := Lib.hid hb; clear hb)
    | (go_at_call 13; refine (H2.out _).mono ?_; rintro e w2 ⟨rfl, hb⟩; have HB2 := Lib.hid (below_then HB.out hb); clear hb))
  go_ret
  exact ⟨by rfl, HB2.out⟩
def countsB (sa : Bool) (su : Int) (ex : Bool) (fr to_ pa pl : Int) (bu ov : Bool) : Bool := decide (mayB su fr to_ pa pl = true ∧ (ofT sa su ex fr to_ pa pl bu ov = 8 ∨ ofT sa su ex fr to_ pa pl bu ov = 9))
set_option maxHeartbeats 1000000 in
theorem code_counts (sa : Bool) (su : Int) (ex : Bool) (fr to_ pa pl : Int) (bu ov : Bool) (w : World) : Calls Try.prog 19 #[.agg #[.bool sa, .int .i64 su, .bool ex, .int .i64 fr, .int .i64 to_, .int .i64 pa, .int .i64 pl, .bool bu, .bool ov]] w fun e w1 => e = .returned (.bool (countsB sa su ex fr to_ pa pl bu ov)) ∧ Below w.heap.size w w1 := by
  have HX := Lib.hid (And.intro (heap_alloc_new w (.cells #[.bool sa, .int .i64 su, .bool ex, .int .i64 fr, .int .i64 to_, .int .i64 pa, .int .i64 pl, .bool bu, .bool ov] 23)) (below_alloc w (.cells #[.bool sa, .int .i64 su, .bool ex, .int .i64 fr, .int .i64 to_, .int .i64 pa, .int .i64 pl, .bool bu, .bool ov] 23)))
  have HO := Lib.hid (fun W => code_of sa su ex fr to_ pa pl bu ov W)
  cases hm : mayB su fr to_ pa pl
  · have e1 : countsB sa su ex fr to_ pa pl bu ov = false := by unfold countsB; rw [hm]; simp
    have e2 : ofE su fr to_ pa pl = 2 := by unfold ofE; rw [hm]; rfl
    rw [e2] at HO
    rw [e1]
    clear hm e1 e2
    go_enter Try.func19, Try.ntmps19
    go_wp2_with (go_at_call 7; refine (HO.out _).mono ?_; rintro e w1 ⟨rfl, hb⟩; have HB := Lib.hid (below_then HX.out.2 hb); clear hb)
    go_ret
    exact ⟨by rfl, HB.out⟩
  · have e1 : countsB sa su ex fr to_ pa pl bu ov = ((ofT sa su ex fr to_ pa pl bu ov == 8) || (ofT sa su ex fr to_ pa pl bu ov == 9)) := by unfold countsB; rw [hm, Bool.eq_iff_iff]; simp
    have e2 : ofE su fr to_ pa pl = 0 := by unfold ofE; rw [hm]; rfl
    rw [e2] at HO
    rw [e1]
    clear hm e1 e2
    generalize ofT sa su ex fr to_ pa pl bu ov = v at HO
    go_enter Try.func19, Try.ntmps19
    go_wp2_with (go_at_call 7; refine (HO.out _).mono ?_; rintro e w1 ⟨rfl, hb⟩; have HB := Lib.hid (below_then HX.out.2 hb); clear hb)
    all_goals
      go_ret
      exact ⟨ret_bool (by first | rfl | (simp_all; done) | (simp_all; omega)), HB.out⟩
end Go.Proofs.Ytahjeiiandpmlaa
