/- Commands as bytes: Encode, by what it calls. -/
import Derived.Test.YtplghpamckdklaaRcH
import Derived.Test.YtplghpamckdklaaRcG
import Derived.WalkMore
import Derived.Laws.Rows
namespace Go.Proofs.Ytplghpamckdklaa
open Go.RowKit
set_option maxRecDepth 100000
set_option linter.unusedSimpArgs false
set_option linter.unusedVariables false

def EncP (w : World) (T : Text) (e : Ending) (w1 : World) : Prop := Below w.heap.size w w1 ∧ ∃ A c, e = .returned (.tuple #[.slice A T.length c, .int .i64 0]) ∧ Txt w1 A T ∧ (A = none → T = [])
set_option maxHeartbeats 1000000 in
theorem encode_ok (cs : Array Value) (T : Text) (w : World) (hs : cs.size = 22) (HGd : Hid (∀ W, Below w.heap.size w W → Calls Try.prog 33 #[.agg cs] W fun e w1 => e = .returned (.bool true) ∧ Below W.heap.size W w1)) (HWt : Hid (∀ (W : World) (g : Nat) (v : Value), Below w.heap.size w W → Wrt W (w.heap.size + 1) g (some []) v → w.heap.size + 1 ≤ W.heap.size → Calls Try.prog 35 #[.pointer (some ⟨g, 0, none⟩), .agg cs] W (Wrote W (w.heap.size + 1) g (some T)))) (hT : T.length ≤ 140737488000000) : Calls Try.prog 21 #[.agg cs] w fun e w1 => EncP w T e w1 := by
  have HX := Lib.hid (heap_alloc_new w (.cells cs 28))
  have HB0 := Lib.hid (below_alloc w (.cells cs 28))
  have HI := Lib.hid (cmd_info hs)
  have HT := Lib.hid hT
  have hsz : w.heap.size + 1 = (w.alloc (.cells cs 28)).heap.size := by simp
  clear hs hT
  go_enter Try.func21, Try.ntmps21
  go_wp2_with ((with_reducible refine wpList_load_row (o := ⟨some 5, _, _, _, _, _⟩) ?a1 28 (.tmp 1) ?a2 w.heap.size ?a3 28 cs (0, 0) _ HX.out Try.underlying28 ?a4 HI.out ?_); (case a1 => rfl); (case a2 => rfl); (case a3 => rfl); (case a4 => rfl); refine Stop.out ?_)
  unfold Stop
  go_wp2_with (go_at_call 33; refine (HGd.out _ HB0.out).mono ?_; rintro e w1 ⟨rfl, hb⟩; have HX1 := Lib.hid (heap_on hb HX.out); have HB1 := Lib.hid (below_then HB0.out hb); have HN : Hid (w.heap.size + 1 ≤ w1.heap.size) := Lib.hid (by have := hb.size; simp at this; omega); clear hb hsz; refine Stop.out ?_)
  unfold Stop
  have HW2 := Lib.hid (new_wrt w1 (w.heap.size + 1) HN.out)
  have HX2 := Lib.hid (heap_on (below_alloc w1 (.cells #[.bool true, .bool false, .slice none 0 0] 77)) HX1.out)
  have HB2 := Lib.hid (below_then HB1.out (below_alloc w1 (.cells #[.bool true, .bool false, .slice none 0 0] 77)))
  have HN2 : Hid (w.heap.size + 1 ≤ (w1.alloc (.cells #[.bool true, .bool false, .slice none 0 0] 77)).heap.size) := Lib.hid (by have := HN.out; simp; omega)
  go_wp2_with (go_at_call 34; refine (new_any w1).mono ?_; rintro e w2 ⟨rfl, rfl⟩; refine Stop.out ?_)
  unfold Stop
  generalize hx : World.alloc w1 (.cells #[.bool true, .bool false, .slice none 0 0] 77) = w2 at HW2 HX2 HB2 HN2 ⊢
  clear hx
  generalize w1.heap.size = g at HW2 ⊢
  go_wp2_with ((with_reducible refine wpList_load_row (o := ⟨some 10, _, _, _, _, _⟩) ?a1 28 (.tmp 1) ?a2 w.heap.size ?a3 28 cs (0, 0) _ HX2.out Try.underlying28 ?a4 HI.out ?_); (case a1 => rfl); (case a2 => rfl); (case a3 => rfl); (case a4 => rfl); refine Stop.out ?_)
  unfold Stop
  go_wp2_with (go_at_call 35; refine (HWt.out w2 g _ HB2.out HW2.out HN2.out).mono ?_; rintro e w3 ⟨rfl, ⟨v3, hw3⟩, hb⟩; have HW3 := Lib.hid hw3; have HB3 := Lib.hid (HB2.out.trans (hb.mono (Nat.le_succ _))); clear hw3 hb; refine Stop.out ?_)
  unfold Stop
  go_wp2_with (go_at_call 36; refine (code_bytes _ _ _ _ _ HW3.out HT.out).mono ?_; rintro e w4 ⟨hb, A, c, rfl, ht, hn⟩; have HB4 := Lib.hid (below_then HB3.out hb); have HQ := Lib.hid (And.intro ht hn); clear hb ht hn)
  go_ret2
  exact ⟨HB4.out, A, c, rfl, HQ.out⟩
theorem year_bytes : nextS (nextS (some []) (docN 11)) (docN 2024) = some [1, 11, 2, 7, 232] := by decide +kernel
theorem encode_year (w : World) : Calls Try.prog 21 #[.agg #[.int .i64 11, .string ⟨#[]⟩, .string ⟨#[]⟩, .int .i64 0, .int .i64 0, .int .i64 0, .int .i64 0, .int .i64 0, .int .i64 0, .int .i64 0, .int .i64 3, .int .i64 2024, .int .i64 1, .string ⟨#[]⟩, .bool false, .bool false, .string ⟨#[]⟩, .int .i64 0, .string ⟨#[]⟩, .string ⟨#[]⟩, .string ⟨#[]⟩, .slice none 0 0]] w (EncP w [1, 11, 2, 7, 232]) :=
  encode_ok #[.int .i64 11, .string ⟨#[]⟩, .string ⟨#[]⟩, .int .i64 0, .int .i64 0, .int .i64 0, .int .i64 0, .int .i64 0, .int .i64 0, .int .i64 0, .int .i64 3, .int .i64 2024, .int .i64 1, .string ⟨#[]⟩, .bool false, .bool false, .string ⟨#[]⟩, .int .i64 0, .string ⟨#[]⟩, .string ⟨#[]⟩, .string ⟨#[]⟩, .slice none 0 0] [1, 11, 2, 7, 232] w rfl (Lib.hid (fun W _ => good_year W))
    (Lib.hid (fun W g v _ hw hB => by
      have h := write_11 #[.int .i64 11, .string ⟨#[]⟩, .string ⟨#[]⟩, .int .i64 0, .int .i64 0, .int .i64 0, .int .i64 0, .int .i64 0, .int .i64 0, .int .i64 0, .int .i64 3, .int .i64 2024, .int .i64 1, .string ⟨#[]⟩, .bool false, .bool false, .string ⟨#[]⟩, .int .i64 0, .string ⟨#[]⟩, .string ⟨#[]⟩, .string ⟨#[]⟩, .slice none 0 0] 2024 (w.heap.size + 1) g (some []) v W hw hB rfl rfl (by decide) (by decide) (by decide) (by decide +kernel)
      rw [year_bytes] at h
      exact h)) (by decide)
end Go.Proofs.Ytplghpamckdklaa
