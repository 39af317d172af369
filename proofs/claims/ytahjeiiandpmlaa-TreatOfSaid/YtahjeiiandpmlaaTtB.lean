/- A treatment's case: whether it may be, its treatment, what is told of it. -/
import Derived.Test.YtahjeiiandpmlaaTtA
namespace Go.Proofs.Ytahjeiiandpmlaa
open Go.RowKit
set_option maxRecDepth 100000
set_option linter.unusedSimpArgs false
set_option linter.unusedVariables false

set_option maxHeartbeats 1000000 in
theorem code_may (sa : Bool) (su : Int) (ex : Bool) (fr to_ pa pl : Int) (bu ov : Bool) (w : World) : Calls Try.prog 9 #[.agg #[.bool sa, .int .i64 su, .bool ex, .int .i64 fr, .int .i64 to_, .int .i64 pa, .int .i64 pl, .bool bu, .bool ov]] w fun e w1 => e = .returned (.bool (mayB su fr to_ pa pl)) ∧ Below w.heap.size w w1 := by
  unfold mayB
  by_cases h1 : 1 ≤ su
  · by_cases h2 : su ≤ 7
    · cases h3 : zoneB fr
      · go_enter Try.func9, Try.ntmps9
        go_wp2_with (go_at_call 23; refine (code_isZone _ _).mono ?_; rintro e w1 ⟨rfl, rfl⟩)
        go_ret
        exact ⟨ret_bool (by first | (simp [*]; done) | (simp; intros; omega)), by repeat (first | exact below_alloc _ _ | exact below_same _ | assumption | refine below_more ?_)⟩
      · cases h4 : zoneB to_
        · go_enter Try.func9, Try.ntmps9
          go_wp2_with (go_at_call 23; refine (code_isZone _ _).mono ?_; rintro e w1 ⟨rfl, rfl⟩)
          go_ret
          exact ⟨ret_bool (by first | (simp [*]; done) | (simp; intros; omega)), by repeat (first | exact below_alloc _ _ | exact below_same _ | assumption | refine below_more ?_)⟩
        · cases h5 : zoneB pa
          · go_enter Try.func9, Try.ntmps9
            go_wp2_with (go_at_call 23; refine (code_isZone _ _).mono ?_; rintro e w1 ⟨rfl, rfl⟩)
            go_ret
            exact ⟨ret_bool (by first | (simp [*]; done) | (simp; intros; omega)), by repeat (first | exact below_alloc _ _ | exact below_same _ | assumption | refine below_more ?_)⟩
          · cases h6 : zoneB pl
            · go_enter Try.func9, Try.ntmps9
              go_wp2_with (go_at_call 23; refine (code_isZone _ _).mono ?_; rintro e w1 ⟨rfl, rfl⟩)
              go_ret
              exact ⟨ret_bool (by first | (simp [*]; done) | (simp; intros; omega)), by repeat (first | exact below_alloc _ _ | exact below_same _ | assumption | refine below_more ?_)⟩
            · go_enter Try.func9, Try.ntmps9
              go_wp2_with (go_at_call 23; refine (code_isZone _ _).mono ?_; rintro e w1 ⟨rfl, rfl⟩)
              go_ret
              exact ⟨ret_bool (by first | (simp [*]; done) | (simp; intros; omega)), by repeat (first | exact below_alloc _ _ | exact below_same _ | assumption | refine below_more ?_)⟩
    · go_enter Try.func9, Try.ntmps9
      go_wp2_with (go_at_call 23; refine (code_isZone _ _).mono ?_; rintro e w1 ⟨rfl, rfl⟩)
      go_ret
      exact ⟨ret_bool (by first | (simp [*]; done) | (simp; intros; omega)), by repeat (first | exact below_alloc _ _ | exact below_same _ | assumption | refine below_more ?_)⟩
  · go_enter Try.func9, Try.ntmps9
    go_wp2_with (go_at_call 23; refine (code_isZone _ _).mono ?_; rintro e w1 ⟨rfl, rfl⟩)
    go_ret
    exact ⟨ret_bool (by first | (simp [*]; done) | (simp; intros; omega)), by repeat (first | exact below_alloc _ _ | exact below_same _ | assumption | refine below_more ?_)⟩
set_option maxHeartbeats 1000000 in
theorem code_of (sa : Bool) (su : Int) (ex : Bool) (fr to_ pa pl : Int) (bu ov : Bool) (w : World) : Calls Try.prog 7 #[.agg #[.bool sa, .int .i64 su, .bool ex, .int .i64 fr, .int .i64 to_, .int .i64 pa, .int .i64 pl, .bool bu, .bool ov]] w fun e w1 => e = .returned (.tuple #[.int .i64 (ofT sa su ex fr to_ pa pl bu ov), .int .i64 (ofE su fr to_ pa pl)]) ∧ Below w.heap.size w w1 := by
  unfold ofT ofE
  have HX := Lib.hid (And.intro (heap_alloc_new w (.cells #[.bool sa, .int .i64 su, .bool ex, .int .i64 fr, .int .i64 to_, .int .i64 pa, .int .i64 pl, .bool bu, .bool ov] 23)) (below_alloc w (.cells #[.bool sa, .int .i64 su, .bool ex, .int .i64 fr, .int .i64 to_, .int .i64 pa, .int .i64 pl, .bool bu, .bool ov] 23)))
  cases hm : mayB su fr to_ pa pl
  · have HM := Lib.hid (fun W => code_may sa su ex fr to_ pa pl bu ov W)
    rw [hm] at HM
    clear hm
    go_enter Try.func7, Try.ntmps7
    go_wp2_with (go_at_call 9; refine (HM.out _).mono ?_; rintro e w1 ⟨rfl, hb⟩; obtain ⟨x0, x1, x2, x3, x4, x5, x6, x7, x8⟩ := cellsCase (heap_on hb HX.out.1); have HB := Lib.hid (below_then HX.out.2 hb); clear hb)
    go_ret2
    exact ⟨by simp, HB.out⟩
  · have HM := Lib.hid (fun W => code_may sa su ex fr to_ pa pl bu ov W)
    rw [hm] at HM
    clear hm
    cases ex
    · cases sa
      · go_enter Try.func7, Try.ntmps7
        go_wp2_with (first
          | (go_at_call 9; refine (HM.out _).mono ?_; rintro e w1 ⟨rfl, hb⟩; obtain ⟨x0, x1, x2, x3, x4, x5, x6, x7, x8⟩ := cellsCase (heap_on hb HX.out.1); have HB := Lib.hid (below_then HX.out.2 hb); clear hb)
          | (go_at_call 22; refine (code_bought _ _ _ _ _ _ _ _ _ _).mono ?_; rintro e w2 ⟨rfl, hb⟩; have HB2 := Lib.hid (below_then HB.out hb); clear hb))
        go_ret2
        exact ⟨by simp, HB2.out⟩
      · go_enter Try.func7, Try.ntmps7
        go_wp2_with (first
          | (go_at_call 9; refine (HM.out _).mono ?_; rintro e w1 ⟨rfl, hb⟩; obtain ⟨x0, x1, x2, x3, x4, x5, x6, x7, x8⟩ := cellsCase (heap_on hb HX.out.1); have HB := Lib.hid (below_then HX.out.2 hb); clear hb)
          | (go_at_call 21; refine (code_sold _ _ _ _ _ _ _ _ _ _).mono ?_; rintro e w2 ⟨rfl, hb⟩; have HB2 := Lib.hid (below_then HB.out hb); clear hb))
        go_ret2
        exact ⟨by simp, HB2.out⟩
    · go_enter Try.func7, Try.ntmps7
      go_wp2_with (go_at_call 9; refine (HM.out _).mono ?_; rintro e w1 ⟨rfl, hb⟩; obtain ⟨x0, x1, x2, x3, x4, x5, x6, x7, x8⟩ := cellsCase (heap_on hb HX.out.1); have HB := Lib.hid (below_then HX.out.2 hb); clear hb)
      go_ret2
      exact ⟨by simp, HB.out⟩
end Go.Proofs.Ytahjeiiandpmlaa
