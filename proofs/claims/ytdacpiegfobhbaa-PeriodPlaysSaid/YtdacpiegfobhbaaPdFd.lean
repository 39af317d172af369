/- Where a day's things count: one way of it. -/
import Derived.Test.YtdacpiegfobhbaaPdF
namespace Go.Proofs.Ytdacpiegfobhbaa
open Go.RowKit
set_option maxRecDepth 100000
set_option linter.unusedSimpArgs false
set_option linter.unusedVariables false

set_option maxHeartbeats 400000 in
theorem route_none (w : World) (P : Nat) (n k y i : Int) (q st : Int) (hst : ¬ st = 1) (n0 : P < w.heap.size) (c0 : w.cell? ⟨P, 0, none⟩ = some (.int .i64 q))
    (hm : ∀ W, Below w.heap.size w W → Calls Try.prog 37 #[.pointer (some ⟨P, 0, none⟩)] W fun e w' => e = .returned (.bool true) ∧ W = w')
    (ho : ∀ W, Calls Try.prog 28 #[.int .i64 n, .int .i64 q] W fun e w' => e = .returned (.tuple #[.agg #[.int .i64 k, .int .i64 y, .int .i64 i], .int .i64 0]) ∧ Below W.heap.size W w')
    (hh : ∀ W, Below w.heap.size w W → Calls Try.prog 38 #[.pointer (some ⟨P, 0, none⟩), .agg #[.int .i64 k, .int .i64 y, .int .i64 i]] W fun e w' => e = .returned (.bool true) ∧ Below W.heap.size W w')
    (hs : ∀ W, Below w.heap.size w W → Calls Try.prog 19 #[.pointer (some ⟨P, 0, none⟩), .agg #[.int .i64 k, .int .i64 y, .int .i64 i]] W fun e w' => e = .returned (.int .i64 st) ∧ Below W.heap.size W w')
    (hf : ∀ W, Below w.heap.size w W → Calls Try.prog 21 #[.pointer (some ⟨P, 0, none⟩)] W fun e w' => e = .returned (.agg #[.int .i64 0, .int .i64 0, .int .i64 0]) ∧ Below W.heap.size W w') :
    Calls Try.prog 17 #[.pointer (some ⟨P, 0, none⟩), .int .i64 n] w fun e w' => e = .returned (.tuple #[.agg #[.int .i64 0, .int .i64 0, .int .i64 0], .agg #[.int .i64 0, .int .i64 0, .int .i64 0], .int .i64 70]) ∧ Below w.heap.size w w' := by
  have HM := Lib.hid hm
  have HO := Lib.hid ho
  have HH := Lib.hid hh
  have HS := Lib.hid hs
  have HF := Lib.hid hf
  have b1 := below_alloc (w.alloc (.cells #[.int .i64 0, .int .i64 0, .int .i64 0] 24)) (.cells #[.int .i64 0, .int .i64 0, .int .i64 0] 24)
  have HB0 := Lib.hid (below_then (below_alloc w (.cells #[.int .i64 0, .int .i64 0, .int .i64 0] 24)) b1)
  have HR4 := Lib.hid (heap_on b1 (heap_alloc_new w (.cells #[.int .i64 0, .int .i64 0, .int .i64 0] 24)))
  have HR5 := Lib.hid (heap_alloc_new2 w (.cells #[.int .i64 0, .int .i64 0, .int .i64 0] 24) (.cells #[.int .i64 0, .int .i64 0, .int .i64 0] 24))
  clear b1 hm ho hh hs hf
  go_enter Try.func17, Try.ntmps17
  go_wp2_with (first
    | (go_at_call 37; refine (HM.out _ HB0.out).mono ?_; rintro e w1 ⟨rfl, rfl⟩)
    | (go_at_call 28; refine (HO.out _).mono ?_; rintro e w1 ⟨rfl, hb⟩; have HB1 := Lib.hid (below_then HB0.out hb); have HR4a := Lib.hid (heap_on hb HR4.out); have HR5a := Lib.hid (heap_on hb HR5.out); clear hb; refine Stop.out ?_))
  unfold Stop
  clear HR4 HR5 c0 n0
  obtain ⟨u0, u1, u2⟩ := cells3_row HR5a.out
  obtain ⟨f0, f1, f2⟩ := frozen3_row HR5a.out
  have HBp := Lib.hid (below_put3 (a' := .int .i64 k) (b' := .int .i64 y) (c' := .int .i64 i) (g := w.heap.size + 1) HB1.out (by omega))
  have HR5p := Lib.hid (put3_row (.int .i64 k) (.int .i64 y) (.int .i64 i) HR5a.out)
  have HR4p := Lib.hid ((far_put3 (a' := .int .i64 k) (b' := .int .i64 y) (c' := .int .i64 i) (g := w.heap.size + 1) (k := w.heap.size) (by omega)).trans HR4a.out)
  go_wp2_with (go_at_call 38; refine (HH.out _ HBp.out).mono ?_; rintro e w2 ⟨rfl, hb⟩; have HB2 := Lib.hid (below_then HBp.out hb); have HR42 := Lib.hid (heap_on hb HR4p.out); have HR52 := Lib.hid (heap_on hb HR5p.out); clear hb; refine Stop.out ?_)
  unfold Stop
  obtain ⟨u0, u1, u2⟩ := cells3_row HR52.out
  obtain ⟨f0, f1, f2⟩ := frozen3_row HR52.out
  obtain ⟨x0, x1, x2⟩ := cells3_row HR42.out
  obtain ⟨e0, e1, e2⟩ := frozen3_row HR42.out
  go_wp2_with (go_at_call 19; refine (HS.out _ HB2.out).mono ?_; rintro e w3 ⟨rfl, hb⟩; have HB3 := Lib.hid (below_then HB2.out hb); have HR43 := Lib.hid (heap_on hb HR42.out); have HR53 := Lib.hid (heap_on hb HR52.out); clear hb; refine Stop.out ?_)
  unfold Stop
  obtain ⟨u0, u1, u2⟩ := cells3_row HR53.out
  obtain ⟨f0, f1, f2⟩ := frozen3_row HR53.out
  obtain ⟨x0, x1, x2⟩ := cells3_row HR43.out
  obtain ⟨e0, e1, e2⟩ := frozen3_row HR43.out
  go_wp2_with (go_at_call 21; refine (HF.out _ HB3.out).mono ?_; rintro e w4 ⟨rfl, hb⟩; have HB4 := Lib.hid (below_then HB3.out hb); have HR44 := Lib.hid (heap_on hb HR43.out); have HR54 := Lib.hid (heap_on hb HR53.out); clear hb; refine Stop.out ?_)
  unfold Stop
  obtain ⟨u0, u1, u2⟩ := cells3_row HR54.out
  obtain ⟨f0, f1, f2⟩ := frozen3_row HR54.out
  obtain ⟨x0, x1, x2⟩ := cells3_row HR44.out
  obtain ⟨e0, e1, e2⟩ := frozen3_row HR44.out
  go_wp2
  have h4 := (far_put3 (a' := .int .i64 0) (b' := .int .i64 0) (c' := .int .i64 0) (g := w.heap.size + 1) (k := w.heap.size) (by omega)).trans (put3_row (.int .i64 0) (.int .i64 0) (.int .i64 0) HR44.out)
  have h5 := put3_row (.int .i64 0) (.int .i64 0) (.int .i64 0) ((far_put3 (a' := .int .i64 0) (b' := .int .i64 0) (c' := .int .i64 0) (g := w.heap.size) (k := w.heap.size + 1) (by omega)).trans HR54.out)
  exact bodyPost_ret (results_cells3 rfl _ _ w.heap.size (w.heap.size + 1) _ _ _ rfl rfl rfl (load_per _ _ _ _ _ _ h4) (load_per _ _ _ _ _ _ h5)) rfl ⟨rfl, below_put3 (below_put3 HB4.out (Nat.le_refl _)) (by omega)⟩
end Go.Proofs.Ytdacpiegfobhbaa
