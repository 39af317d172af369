/- The statements of treat, walked: what says nothing. -/
import Derived.Test.YtahjeiiandpmlaaTtG
import Derived.Laws.Tables
import Derived.Laws.CopyOwn
namespace Go.Proofs.Ytahjeiiandpmlaa
open Go.RowKit
set_option maxRecDepth 100000
set_option linter.unusedSimpArgs false
set_option linter.unusedVariables false

theorem frozen9 {W : World} {g : Nat} {v0 v1 v2 v3 v4 v5 v6 v7 v8 : Value} {t : TypeId} (h : W.heap[g]? = some (.cells #[v0, v1, v2, v3, v4, v5, v6, v7, v8] t (0, 0))) (i : Nat) (hi : i < 9) : W.frozen? ⟨g, i, none⟩ = false := by
  have h9 : i = 0 ∨ i = 1 ∨ i = 2 ∨ i = 3 ∨ i = 4 ∨ i = 5 ∨ i = 6 ∨ i = 7 ∨ i = 8 := by omega
  rcases h9 with rfl | rfl | rfl | rfl | rfl | rfl | rfl | rfl | rfl <;> exact frozen_of_row W g _ _ _ h
def Q17 (a b : Int) : Prop := a = b ∨ a + b = 17
theorem Q17.same (a : Int) : Q17 a a := .inl rfl
theorem Q17.ite {a b a' b' : Int} {c : Prop} [Decidable c] (h1 : Q17 a a') (h2 : Q17 b b') : Q17 (if c then a else b) (if c then a' else b') := by
  by_cases h : c
  · rw [if_pos h, if_pos h]; exact h1
  · rw [if_neg h, if_neg h]; exact h2
theorem Q17.priv (ov : Bool) : Q17 (privV ov) (privV (!ov)) := by cases ov <;> exact .inr rfl
theorem Q17.sent (su fr to_ : Int) (bu ov : Bool) : Q17 (sentV su fr to_ bu ov) (sentV su fr to_ bu (!ov)) :=
  .ite (.ite (.same _) (.ite (.same _) (.ite (.same _) (.ite (.same _) (.priv ov))))) (.same _)
theorem Q17.rend (su pa : Int) (bu ov : Bool) : Q17 (rendV su pa bu ov) (rendV su pa bu (!ov)) :=
  .ite (.same _) (.ite (.same _) (.ite (.same _) (.ite (.same _) (.priv ov))))
theorem Q17.sold (su fr to_ pa pl : Int) (bu ov : Bool) : Q17 (soldV su fr to_ pa pl bu ov) (soldV su fr to_ pa pl bu (!ov)) :=
  .ite (.sent _ _ _ _ _) (.ite (.rend _ _ _ _) (.same _))
theorem blind1 (sa : Bool) (su : Int) (ex : Bool) (fr to_ pa pl : Int) (bu ov : Bool) : Q17 (ofT sa su ex fr to_ pa pl bu ov) (ofT sa su ex fr to_ pa pl bu (!ov)) :=
  .ite (.ite (.same _) (.ite (.sold _ _ _ _ _ _ _) (.same _))) (.same _)
theorem blind2 (sa : Bool) (su : Int) (ex : Bool) (bu ov : Bool) : ofT sa su ex 0 0 0 0 bu ov = ofT sa su ex 0 0 0 0 (!bu) ov := by
  unfold ofT soldV boughtV sentV rendV gotV restV privV
  simp
set_option maxHeartbeats 1000000 in
theorem blind_z (sa : Bool) (su : Int) (ex : Bool) (bu ov : Bool) (u v er : Int) (w : World) (HM : Hid (∀ W : World, Calls Try.prog 10 #[.agg #[.bool sa, .int .i64 su, .bool ex, .int .i64 0, .int .i64 0, .int .i64 0, .int .i64 0, .bool bu, .bool ov]] W fun e w1 => e = .returned (.bool true) ∧ Below W.heap.size W w1)) (HO1 : Hid (∀ W : World, Calls Try.prog 7 #[.agg #[.bool sa, .int .i64 su, .bool ex, .int .i64 0, .int .i64 0, .int .i64 0, .int .i64 0, .bool (bu), .bool (ov)]] W fun e w1 => e = .returned (.tuple #[.int .i64 v, .int .i64 er]) ∧ Below W.heap.size W w1)) (HO2 : Hid (∀ W : World, Calls Try.prog 7 #[.agg #[.bool sa, .int .i64 su, .bool ex, .int .i64 0, .int .i64 0, .int .i64 0, .int .i64 0, .bool (bu), .bool (!ov)]] W fun e w1 => e = .returned (.tuple #[.int .i64 u, .int .i64 er]) ∧ Below W.heap.size W w1)) (r1 : 1 ≤ v) (r2 : v ≤ 14) (r3 : 1 ≤ u) (r4 : u ≤ 14) (hq : ((v != u) = false) ∨ ((v != u) = true ∧ (v + u != 17) = false)) (HO3 : Hid (∀ W : World, Calls Try.prog 7 #[.agg #[.bool sa, .int .i64 su, .bool ex, .int .i64 0, .int .i64 0, .int .i64 0, .int .i64 0, .bool (!bu), .bool (ov)]] W fun e w1 => e = .returned (.tuple #[.int .i64 v, .int .i64 er]) ∧ Below W.heap.size W w1)) : Calls Try.prog 6 #[.agg #[.bool sa, .int .i64 su, .bool ex, .int .i64 0, .int .i64 0, .int .i64 0, .int .i64 0, .bool bu, .bool ov]] w fun e w1 => e = .returned (.bool true) ∧ Below w.heap.size w w1 := by
  have HX := Lib.hid (And.intro (heap_alloc_new w (.cells #[.bool sa, .int .i64 su, .bool ex, .int .i64 0, .int .i64 0, .int .i64 0, .int .i64 0, .bool bu, .bool ov] 23)) (below_alloc w (.cells #[.bool sa, .int .i64 su, .bool ex, .int .i64 0, .int .i64 0, .int .i64 0, .int .i64 0, .bool bu, .bool ov] 23)))
  go_enter Try.func6, Try.ntmps6
  go_wp2_with (first
    | (go_at_call 10; refine (HM.out _).mono ?_; rintro e w1 ⟨rfl, hb⟩; obtain ⟨x0, x1, x2, x3, x4, x5, x6, x7, x8⟩ := cellsCase (heap_on hb HX.out.1); have HB1 := Lib.hid (below_then HX.out.2 hb); have HX1 := Lib.hid (heap_on hb HX.out.1); have hlt := heapLt HX1.out; clear hb)
    | (go_at_call 7; (with_reducible refine (HO1.out _).mono ?_); rintro e w3 ⟨rfl, hb⟩; have HX3 := Lib.hid (heap_on hb (heap_on (below_alloc _ _) HX1.out)); have HD3 := Lib.hid (heap_on hb (heap_alloc_new w1 _)); have HB3 := Lib.hid (below_then (below_more HB1.out) hb); clear hb x0 x1 x2 x3 x4 x5 x6 x7 x8; obtain ⟨x0, x1, x2, x3, x4, x5, x6, x7, x8⟩ := cellsCase HD3.out)
    | (go_at_call 7; (with_reducible refine (HO2.out _).mono ?_); rintro e w4 ⟨rfl, hb⟩; have HX4 := Lib.hid (heap_on hb HX3.out); have HD4 := Lib.hid (heap_on hb HD3.out); have HB4 := Lib.hid (below_then HB3.out hb); clear hb x0 x1 x2 x3 x4 x5 x6 x7 x8; refine Stop.out ?_))
  unfold Stop
  obtain ⟨x0, x1, x2, x3, x4, x5, x6, x7, x8⟩ := cellsCase HX4.out
  obtain ⟨z0, z1, z2, z3, z4, z5, z6, z7, z8⟩ := cellsCase HD4.out
  have kf := fun i hi => frozen9 HD4.out i hi
  have kf0 := kf 0 (by omega)
  have kf1 := kf 1 (by omega)
  have kf2 := kf 2 (by omega)
  have kf3 := kf 3 (by omega)
  have kf4 := kf 4 (by omega)
  have kf5 := kf 5 (by omega)
  have kf6 := kf 6 (by omega)
  have kf7 := kf 7 (by omega)
  have kf8 := kf 8 (by omega)
  clear kf
  have qv : (v == v) = true := beq_self_eq_true _
  clear z0 z1 z2 z3 z4 z5 z6 z7 z8 kf0 kf1 kf2 kf3 kf4 kf5 kf6 kf7 kf8
  rcases hq with h1 | ⟨h1, h2⟩
  all_goals
    go_wp2_with (first
      | (refine wpList_store_row (o := ⟨none, _, _, _, _, _⟩) rfl 23 (.tmp 3) (.tmp 57) (by rfl) w1.heap.size #[.bool sa, .int .i64 su, .bool ex, .int .i64 0, .int .i64 0, .int .i64 0, .int .i64 0, .bool bu, .bool ov] (by rfl) (by rfl) 23 #[.bool sa, .int .i64 su, .bool ex, .int .i64 0, .int .i64 0, .int .i64 0, .int .i64 0, .bool bu, .bool (!ov)] HD4.out (by kernel_rfl) (by rfl) (by simp [Value.oneCell']) ?_; have HD5 := Lib.hid (setRow_heap w4 w1.heap.size _ #[.bool sa, .int .i64 su, .bool ex, .int .i64 0, .int .i64 0, .int .i64 0, .int .i64 0, .bool bu, .bool ov] _ _ HD4.out); have HX5 := Lib.hid ((setRow_other w4 w1.heap.size w.heap.size #[.bool sa, .int .i64 su, .bool ex, .int .i64 0, .int .i64 0, .int .i64 0, .int .i64 0, .bool bu, .bool ov] (by omega)).trans HX4.out); have HB5 := Lib.hid (below_setRow HB4.out (Nat.le_of_lt hlt) #[.bool sa, .int .i64 su, .bool ex, .int .i64 0, .int .i64 0, .int .i64 0, .int .i64 0, .bool bu, .bool ov]); clear x0 x1 x2 x3 x4 x5 x6 x7 x8; refine Stop.out ?_))
    unfold Stop
    generalize hx : World.setRow w4 w1.heap.size _ = w5 at HD5 HX5 HB5 ⊢
    clear hx
    obtain ⟨x0, x1, x2, x3, x4, x5, x6, x7, x8⟩ := cellsCase HX5.out
    obtain ⟨z0, z1, z2, z3, z4, z5, z6, z7, z8⟩ := cellsCase HD5.out
    have kf7 := frozen9 HD5.out 7 (by omega)
    go_wp2_with (first
      | (go_at_call 7; (with_reducible refine (HO3.out _).mono ?_); rintro e w6 ⟨rfl, hb⟩; have HB6 := Lib.hid (below_then (Below.setCell HB5.out (p := ⟨w1.heap.size, 7, none⟩) (Nat.le_of_lt hlt) _) hb); clear hb)
      | (go_at_call 11; refine (lives_any _).mono ?_; rintro e w7 ⟨rfl, hb⟩; have HB7 := Lib.hid (below_then HB6.out hb); clear hb))
    go_ret
    exact ⟨rfl, HB7.out⟩
set_option maxHeartbeats 1000000 in
theorem blind_n (sa : Bool) (su : Int) (ex : Bool) (fr to_ pa pl : Int) (bu ov : Bool) (u v er : Int) (w : World) (HM : Hid (∀ W : World, Calls Try.prog 10 #[.agg #[.bool sa, .int .i64 su, .bool ex, .int .i64 fr, .int .i64 to_, .int .i64 pa, .int .i64 pl, .bool bu, .bool ov]] W fun e w1 => e = .returned (.bool true) ∧ Below W.heap.size W w1)) (HO1 : Hid (∀ W : World, Calls Try.prog 7 #[.agg #[.bool sa, .int .i64 su, .bool ex, .int .i64 fr, .int .i64 to_, .int .i64 pa, .int .i64 pl, .bool (bu), .bool (ov)]] W fun e w1 => e = .returned (.tuple #[.int .i64 v, .int .i64 er]) ∧ Below W.heap.size W w1)) (HO2 : Hid (∀ W : World, Calls Try.prog 7 #[.agg #[.bool sa, .int .i64 su, .bool ex, .int .i64 fr, .int .i64 to_, .int .i64 pa, .int .i64 pl, .bool (bu), .bool (!ov)]] W fun e w1 => e = .returned (.tuple #[.int .i64 u, .int .i64 er]) ∧ Below W.heap.size W w1)) (r1 : 1 ≤ v) (r2 : v ≤ 14) (r3 : 1 ≤ u) (r4 : u ≤ 14) (hq : ((v != u) = false) ∨ ((v != u) = true ∧ (v + u != 17) = false)) (hz : ¬ (fr = 0 ∧ to_ = 0 ∧ pa = 0 ∧ pl = 0)) : Calls Try.prog 6 #[.agg #[.bool sa, .int .i64 su, .bool ex, .int .i64 fr, .int .i64 to_, .int .i64 pa, .int .i64 pl, .bool bu, .bool ov]] w fun e w1 => e = .returned (.bool true) ∧ Below w.heap.size w w1 := by
  have HX := Lib.hid (And.intro (heap_alloc_new w (.cells #[.bool sa, .int .i64 su, .bool ex, .int .i64 fr, .int .i64 to_, .int .i64 pa, .int .i64 pl, .bool bu, .bool ov] 23)) (below_alloc w (.cells #[.bool sa, .int .i64 su, .bool ex, .int .i64 fr, .int .i64 to_, .int .i64 pa, .int .i64 pl, .bool bu, .bool ov] 23)))
  go_enter Try.func6, Try.ntmps6
  go_wp2_with (first
    | (go_at_call 10; refine (HM.out _).mono ?_; rintro e w1 ⟨rfl, hb⟩; obtain ⟨x0, x1, x2, x3, x4, x5, x6, x7, x8⟩ := cellsCase (heap_on hb HX.out.1); have HB1 := Lib.hid (below_then HX.out.2 hb); have HX1 := Lib.hid (heap_on hb HX.out.1); have hlt := heapLt HX1.out; clear hb)
    | (go_at_call 7; (with_reducible refine (HO1.out _).mono ?_); rintro e w3 ⟨rfl, hb⟩; have HX3 := Lib.hid (heap_on hb (heap_on (below_alloc _ _) HX1.out)); have HD3 := Lib.hid (heap_on hb (heap_alloc_new w1 _)); have HB3 := Lib.hid (below_then (below_more HB1.out) hb); clear hb x0 x1 x2 x3 x4 x5 x6 x7 x8; obtain ⟨x0, x1, x2, x3, x4, x5, x6, x7, x8⟩ := cellsCase HD3.out)
    | (go_at_call 7; (with_reducible refine (HO2.out _).mono ?_); rintro e w4 ⟨rfl, hb⟩; have HX4 := Lib.hid (heap_on hb HX3.out); have HD4 := Lib.hid (heap_on hb HD3.out); have HB4 := Lib.hid (below_then HB3.out hb); clear hb x0 x1 x2 x3 x4 x5 x6 x7 x8; refine Stop.out ?_))
  unfold Stop
  obtain ⟨x0, x1, x2, x3, x4, x5, x6, x7, x8⟩ := cellsCase HX4.out
  obtain ⟨z0, z1, z2, z3, z4, z5, z6, z7, z8⟩ := cellsCase HD4.out
  have kf := fun i hi => frozen9 HD4.out i hi
  have kf0 := kf 0 (by omega)
  have kf1 := kf 1 (by omega)
  have kf2 := kf 2 (by omega)
  have kf3 := kf 3 (by omega)
  have kf4 := kf 4 (by omega)
  have kf5 := kf 5 (by omega)
  have kf6 := kf 6 (by omega)
  have kf7 := kf 7 (by omega)
  have kf8 := kf 8 (by omega)
  clear kf
  have hz4 : (fr != 0) = true ∨ ((fr != 0) = false ∧ (to_ != 0) = true) ∨ ((fr != 0) = false ∧ (to_ != 0) = false ∧ (pa != 0) = true) ∨ ((fr != 0) = false ∧ (to_ != 0) = false ∧ (pa != 0) = false ∧ (pl != 0) = true) := by
    simp only [bne_iff_ne, bne_eq_false_iff_eq]
    omega
  clear hz z0 z1 z2 z3 z4 z5 z6 z7 z8 kf0 kf1 kf2 kf3 kf4 kf5 kf6 kf7 kf8
  rcases hz4 with a1 | ⟨a1, a2⟩ | ⟨a1, a2, a3⟩ | ⟨a1, a2, a3, a4⟩
  all_goals
    rcases hq with h1 | ⟨h1, h2⟩
    all_goals
      go_wp2_with (go_at_call 11; refine (lives_any _).mono ?_; rintro e w5 ⟨rfl, hb⟩; have HB5 := Lib.hid (below_then HB4.out hb); clear hb)
      go_ret
      exact ⟨rfl, HB5.out⟩
set_option maxHeartbeats 1000000 in
theorem treatBlind_any (sa : Bool) (su : Int) (ex : Bool) (fr to_ pa pl : Int) (bu ov : Bool) (w : World) : Calls Try.prog 6 #[.agg #[.bool sa, .int .i64 su, .bool ex, .int .i64 fr, .int .i64 to_, .int .i64 pa, .int .i64 pl, .bool bu, .bool ov]] w fun e w1 => e = .returned (.bool true) ∧ Below w.heap.size w w1 := by
  cases hm : mayB su fr to_ pa pl with
  | false =>
    have HX := Lib.hid (And.intro (heap_alloc_new w (.cells #[.bool sa, .int .i64 su, .bool ex, .int .i64 fr, .int .i64 to_, .int .i64 pa, .int .i64 pl, .bool bu, .bool ov] 23)) (below_alloc w (.cells #[.bool sa, .int .i64 su, .bool ex, .int .i64 fr, .int .i64 to_, .int .i64 pa, .int .i64 pl, .bool bu, .bool ov] 23)))
    have HM := Lib.hid (fun W => ref_may sa su ex fr to_ pa pl bu ov W)
    rw [hm] at HM
    clear hm
    go_enter Try.func6, Try.ntmps6
    go_wp2_with (first
      | (go_at_call 10; refine (HM.out _).mono ?_; rintro e w1 ⟨rfl, hb⟩; have HB1 := Lib.hid (below_then HX.out.2 hb); clear hb)
      | (go_at_call 11; refine (lives_any _).mono ?_; rintro e w3 ⟨rfl, hb⟩; have HB3 := Lib.hid (below_then HB1.out hb); clear hb))
    go_ret
    exact ⟨rfl, HB3.out⟩
  | true =>
    have HM := Lib.hid (fun W => ref_may sa su ex fr to_ pa pl bu ov W)
    rw [hm] at HM
    have HR1 := of_range sa su ex fr to_ pa pl bu ov hm
    have HR2 := of_range sa su ex fr to_ pa pl bu (!ov) hm
    have hq : ((ofT sa su ex fr to_ pa pl bu ov != ofT sa su ex fr to_ pa pl bu (!ov)) = false) ∨ ((ofT sa su ex fr to_ pa pl bu ov != ofT sa su ex fr to_ pa pl bu (!ov)) = true ∧ (ofT sa su ex fr to_ pa pl bu ov + ofT sa su ex fr to_ pa pl bu (!ov) != 17) = false) := by
      rcases Decidable.em (ofT sa su ex fr to_ pa pl bu ov = ofT sa su ex fr to_ pa pl bu (!ov)) with h | h
      · exact .inl (by simp [h])
      · rcases blind1 sa su ex fr to_ pa pl bu ov with h2 | h2
        · exact absurd h2 h
        · exact .inr ⟨by simp [h], by simp [h2]⟩
    by_cases hz : fr = 0 ∧ to_ = 0 ∧ pa = 0 ∧ pl = 0
    · obtain ⟨rfl, rfl, rfl, rfl⟩ := hz
      exact blind_z sa su ex bu ov _ _ _ w HM (Lib.hid (fun W => code_of sa su ex 0 0 0 0 bu ov W)) (Lib.hid (fun W => code_of sa su ex 0 0 0 0 bu (!ov) W)) HR1.1 HR1.2 HR2.1 HR2.2 hq (Lib.hid (fun W => by rw [blind2 sa su ex bu ov]; exact code_of sa su ex 0 0 0 0 (!bu) ov W))
    · exact blind_n sa su ex fr to_ pa pl bu ov _ _ _ w HM (Lib.hid (fun W => code_of sa su ex fr to_ pa pl bu ov W)) (Lib.hid (fun W => code_of sa su ex fr to_ pa pl bu (!ov) W)) HR1.1 HR1.2 HR2.1 HR2.2 hq hz
end Go.Proofs.Ytahjeiiandpmlaa
