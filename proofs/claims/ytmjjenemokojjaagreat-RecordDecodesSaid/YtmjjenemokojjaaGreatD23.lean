/- Commands: fields that a kind names are what they may be: the program's, the other kinds. -/
import Derived.Test.YtmjjenemokojjaaGreatD10
import Derived.Test.YtmjjenemokojjaaGreatD22
import Derived.WalkMore
namespace Go.Proofs.YtmjjenemokojjaaGreat
open Go.RowKit
set_option maxRecDepth 100000
set_option linter.unusedSimpArgs false
set_option linter.unusedVariables false

set_option maxHeartbeats 4000000 in
theorem areGood_1 (x : CmdV) (V : Bool) (w : World) (hk : x.kind = 1) (hs : x.state.size ≤ 140737488351232) (hM : MaxL w) (hV : (isMem x.state && (inB x.index 1 2 && inB x.from_ 0 2932896)) = V) : Calls Tryz.prog 20 #[.agg #[.int .i64 x.kind, .string x.state, .string x.text, .int .i64 x.category, .int .i64 x.bp, .int .i64 x.from_, .int .i64 x.until_, .int .i64 x.num, .int .i64 x.den, .int .i64 x.index, .int .i64 x.pk, .int .i64 x.py, .int .i64 x.pi, .string x.id, .bool x.sale, .bool x.credit, .string x.refers, .int .i64 x.day, .string x.country, .string x.number, .string x.currency, .slice x.linesA x.lines.length x.linesC]] w fun e w1 => e = .returned (.bool V) ∧ Below w.heap.size w w1 := by
 rw [hk]
 clear hk
 have HMb : Hid (∀ W, Below w.heap.size w W → Calls Tryz.prog 49 #[.string x.state] W fun e w' => e = .returned (.bool (isMem x.state)) ∧ W = w') := Lib.hid (fun W hb => code_member _ W (by omega) (hM.below hb))
 generalize isMem x.state = m at HMb hV
 have HX := Lib.hid (heap_alloc_new w (.cells #[.int .i64 1, .string x.state, .string x.text, .int .i64 x.category, .int .i64 x.bp, .int .i64 x.from_, .int .i64 x.until_, .int .i64 x.num, .int .i64 x.den, .int .i64 x.index, .int .i64 x.pk, .int .i64 x.py, .int .i64 x.pi, .string x.id, .bool x.sale, .bool x.credit, .string x.refers, .int .i64 x.day, .string x.country, .string x.number, .string x.currency, .slice x.linesA x.lines.length x.linesC] 28))
 have HB0 := Lib.hid (below_alloc w (.cells #[.int .i64 1, .string x.state, .string x.text, .int .i64 x.category, .int .i64 x.bp, .int .i64 x.from_, .int .i64 x.until_, .int .i64 x.num, .int .i64 x.den, .int .i64 x.index, .int .i64 x.pk, .int .i64 x.py, .int .i64 x.pi, .string x.id, .bool x.sale, .bool x.credit, .string x.refers, .int .i64 x.day, .string x.country, .string x.number, .string x.currency, .slice x.linesA x.lines.length x.linesC] 28))
 have HV := Lib.hid hV
 clear hM hV hs
 go_enter Tryz.func20, Tryz.ntmps20
 go_wp2_with (first | (go_at_call 49; refine (HMb.out _ (below_alloc _ _)).mono ?_; rintro e w2 ⟨rfl, rfl⟩) | (go_at_call 29; refine (code_isFrom _ _ _ _).mono ?_; rintro e w2 ⟨rfl, rfl⟩) | (go_at_call 30; refine (code_isDay _ _).mono ?_; rintro e w2 ⟨rfl, rfl⟩))
 all_goals
  go_ret
  exact ⟨ret_bool (by rw [← HV.out]; clear HX; simp_all), HB0.out⟩
set_option maxHeartbeats 4000000 in
theorem areGood_2 (x : CmdV) (V : Bool) (w : World) (hk : x.kind = 2) (hs : x.state.size ≤ 140737488351232) (hM : MaxL w) (hV : (isMem x.state && (inB x.category 1 3 && (inB x.bp 0 10000 && stretchB x.from_ x.until_))) = V) : Calls Tryz.prog 20 #[.agg #[.int .i64 x.kind, .string x.state, .string x.text, .int .i64 x.category, .int .i64 x.bp, .int .i64 x.from_, .int .i64 x.until_, .int .i64 x.num, .int .i64 x.den, .int .i64 x.index, .int .i64 x.pk, .int .i64 x.py, .int .i64 x.pi, .string x.id, .bool x.sale, .bool x.credit, .string x.refers, .int .i64 x.day, .string x.country, .string x.number, .string x.currency, .slice x.linesA x.lines.length x.linesC]] w fun e w1 => e = .returned (.bool V) ∧ Below w.heap.size w w1 := by
 rw [hk]
 clear hk
 have HMb : Hid (∀ W, Below w.heap.size w W → Calls Tryz.prog 49 #[.string x.state] W fun e w' => e = .returned (.bool (isMem x.state)) ∧ W = w') := Lib.hid (fun W hb => code_member _ W (by omega) (hM.below hb))
 generalize isMem x.state = m at HMb hV
 have HX := Lib.hid (heap_alloc_new w (.cells #[.int .i64 2, .string x.state, .string x.text, .int .i64 x.category, .int .i64 x.bp, .int .i64 x.from_, .int .i64 x.until_, .int .i64 x.num, .int .i64 x.den, .int .i64 x.index, .int .i64 x.pk, .int .i64 x.py, .int .i64 x.pi, .string x.id, .bool x.sale, .bool x.credit, .string x.refers, .int .i64 x.day, .string x.country, .string x.number, .string x.currency, .slice x.linesA x.lines.length x.linesC] 28))
 have HB0 := Lib.hid (below_alloc w (.cells #[.int .i64 2, .string x.state, .string x.text, .int .i64 x.category, .int .i64 x.bp, .int .i64 x.from_, .int .i64 x.until_, .int .i64 x.num, .int .i64 x.den, .int .i64 x.index, .int .i64 x.pk, .int .i64 x.py, .int .i64 x.pi, .string x.id, .bool x.sale, .bool x.credit, .string x.refers, .int .i64 x.day, .string x.country, .string x.number, .string x.currency, .slice x.linesA x.lines.length x.linesC] 28))
 have HV := Lib.hid hV
 clear hM hV hs
 go_enter Tryz.func20, Tryz.ntmps20
 go_wp2_with (first | (go_at_call 49; refine (HMb.out _ (below_alloc _ _)).mono ?_; rintro e w2 ⟨rfl, rfl⟩) | (go_at_call 29; refine (code_isFrom _ _ _ _).mono ?_; rintro e w2 ⟨rfl, rfl⟩) | (go_at_call 50; refine (code_isStretch _ _ _).mono ?_; rintro e w2 ⟨rfl, rfl⟩))
 all_goals
  go_ret
  exact ⟨ret_bool (by rw [← HV.out]; clear HX; simp_all), HB0.out⟩
set_option maxHeartbeats 4000000 in
theorem areGood_3 (x : CmdV) (V : Bool) (w : World) (hk : x.kind = 3) (hV : (stretchB x.from_ x.until_) = V) : Calls Tryz.prog 20 #[.agg #[.int .i64 x.kind, .string x.state, .string x.text, .int .i64 x.category, .int .i64 x.bp, .int .i64 x.from_, .int .i64 x.until_, .int .i64 x.num, .int .i64 x.den, .int .i64 x.index, .int .i64 x.pk, .int .i64 x.py, .int .i64 x.pi, .string x.id, .bool x.sale, .bool x.credit, .string x.refers, .int .i64 x.day, .string x.country, .string x.number, .string x.currency, .slice x.linesA x.lines.length x.linesC]] w fun e w1 => e = .returned (.bool V) ∧ Below w.heap.size w w1 := by
 rw [hk]
 clear hk
 have HX := Lib.hid (heap_alloc_new w (.cells #[.int .i64 3, .string x.state, .string x.text, .int .i64 x.category, .int .i64 x.bp, .int .i64 x.from_, .int .i64 x.until_, .int .i64 x.num, .int .i64 x.den, .int .i64 x.index, .int .i64 x.pk, .int .i64 x.py, .int .i64 x.pi, .string x.id, .bool x.sale, .bool x.credit, .string x.refers, .int .i64 x.day, .string x.country, .string x.number, .string x.currency, .slice x.linesA x.lines.length x.linesC] 28))
 have HB0 := Lib.hid (below_alloc w (.cells #[.int .i64 3, .string x.state, .string x.text, .int .i64 x.category, .int .i64 x.bp, .int .i64 x.from_, .int .i64 x.until_, .int .i64 x.num, .int .i64 x.den, .int .i64 x.index, .int .i64 x.pk, .int .i64 x.py, .int .i64 x.pi, .string x.id, .bool x.sale, .bool x.credit, .string x.refers, .int .i64 x.day, .string x.country, .string x.number, .string x.currency, .slice x.linesA x.lines.length x.linesC] 28))
 have HV := Lib.hid hV
 clear hV
 go_enter Tryz.func20, Tryz.ntmps20
 go_wp2_with ((go_at_call 50; refine (code_isStretch _ _ _).mono ?_; rintro e w2 ⟨rfl, rfl⟩))
 go_ret
 exact ⟨ret_bool HV.out, HB0.out⟩
set_option maxHeartbeats 4000000 in
theorem areGood_4 (x : CmdV) (V : Bool) (w : World) (hk : x.kind = 4) (hs : x.state.size ≤ 140737488351232) (ht : x.text.size ≤ 140737488351232) (hM : MaxL w) (hV : (rightP x.state x.text && stretchB x.from_ x.until_) = V) : Calls Tryz.prog 20 #[.agg #[.int .i64 x.kind, .string x.state, .string x.text, .int .i64 x.category, .int .i64 x.bp, .int .i64 x.from_, .int .i64 x.until_, .int .i64 x.num, .int .i64 x.den, .int .i64 x.index, .int .i64 x.pk, .int .i64 x.py, .int .i64 x.pi, .string x.id, .bool x.sale, .bool x.credit, .string x.refers, .int .i64 x.day, .string x.country, .string x.number, .string x.currency, .slice x.linesA x.lines.length x.linesC]] w fun e w1 => e = .returned (.bool V) ∧ Below w.heap.size w w1 := by
 rw [hk]
 clear hk
 have HX := Lib.hid (heap_alloc_new w (.cells #[.int .i64 4, .string x.state, .string x.text, .int .i64 x.category, .int .i64 x.bp, .int .i64 x.from_, .int .i64 x.until_, .int .i64 x.num, .int .i64 x.den, .int .i64 x.index, .int .i64 x.pk, .int .i64 x.py, .int .i64 x.pi, .string x.id, .bool x.sale, .bool x.credit, .string x.refers, .int .i64 x.day, .string x.country, .string x.number, .string x.currency, .slice x.linesA x.lines.length x.linesC] 28))
 have HB0 := Lib.hid (below_alloc w (.cells #[.int .i64 4, .string x.state, .string x.text, .int .i64 x.category, .int .i64 x.bp, .int .i64 x.from_, .int .i64 x.until_, .int .i64 x.num, .int .i64 x.den, .int .i64 x.index, .int .i64 x.pk, .int .i64 x.py, .int .i64 x.pi, .string x.id, .bool x.sale, .bool x.credit, .string x.refers, .int .i64 x.day, .string x.country, .string x.number, .string x.currency, .slice x.linesA x.lines.length x.linesC] 28))
 cases h1 : rightP x.state x.text
 · have HR : Hid (∀ W, Below w.heap.size w W → Calls Tryz.prog 32 #[.string x.state, .string x.text] W fun e w' => e = .returned (.bool false) ∧ Below W.heap.size W w') := Lib.hid (fun W hb => by have h := code_right x.state x.text W hs (by omega) (hM.below hb); rw [h1] at h; exact h)
   clear hM hs ht
   have HV := Lib.hid hV
   clear hV
   go_enter Tryz.func20, Tryz.ntmps20
   go_wp2_with ((go_at_call 32; refine (HR.out _ (below_alloc _ _)).mono ?_; rintro e w2 ⟨rfl, hb⟩; have HB1 := Lib.hid (below_then HB0.out hb); clear hb))
   go_ret
   exact ⟨ret_bool (by rw [← HV.out, h1]; rfl), HB1.out⟩
 · have HR : Hid (∀ W, Below w.heap.size w W → Calls Tryz.prog 32 #[.string x.state, .string x.text] W fun e w' => e = .returned (.bool true) ∧ Below W.heap.size W w') := Lib.hid (fun W hb => by have h := code_right x.state x.text W hs (by omega) (hM.below hb); rw [h1] at h; exact h)
   clear hM hs ht
   have HV := Lib.hid hV
   clear hV
   go_enter Tryz.func20, Tryz.ntmps20
   go_wp2_with ((go_at_call 32; refine (HR.out _ (below_alloc _ _)).mono ?_; rintro e w2 ⟨rfl, hb⟩; have HB1 := Lib.hid (below_then HB0.out hb); have HX1 := Lib.hid (heap_on hb HX.out); obtain ⟨_, _, _, _, _, k5, k6, _, _, _, _, _, _, _, _, _, _, _, _, _, _, _⟩ := cells22 (HX1.out); clear hb; refine Stop.out ?_))
   unfold Stop
   go_wp2_with ((go_at_call 50; refine (code_isStretch _ _ _).mono ?_; rintro e w2 ⟨rfl, rfl⟩))
   go_ret
   exact ⟨ret_bool (by rw [← HV.out, h1]; rfl), HB1.out⟩
set_option maxHeartbeats 4000000 in
theorem areGood_5 (x : CmdV) (V : Bool) (w : World) (hk : x.kind = 5) (ht : x.text.size ≤ 140737488351232) (hV : (currB x.text && (perB 2 x.pk x.py x.pi && (inB x.num 1 1099511627776 && inB x.den 1 1099511627776))) = V) : Calls Tryz.prog 20 #[.agg #[.int .i64 x.kind, .string x.state, .string x.text, .int .i64 x.category, .int .i64 x.bp, .int .i64 x.from_, .int .i64 x.until_, .int .i64 x.num, .int .i64 x.den, .int .i64 x.index, .int .i64 x.pk, .int .i64 x.py, .int .i64 x.pi, .string x.id, .bool x.sale, .bool x.credit, .string x.refers, .int .i64 x.day, .string x.country, .string x.number, .string x.currency, .slice x.linesA x.lines.length x.linesC]] w fun e w1 => e = .returned (.bool V) ∧ Below w.heap.size w w1 := by
 rw [hk]
 clear hk
 have HX := Lib.hid (heap_alloc_new w (.cells #[.int .i64 5, .string x.state, .string x.text, .int .i64 x.category, .int .i64 x.bp, .int .i64 x.from_, .int .i64 x.until_, .int .i64 x.num, .int .i64 x.den, .int .i64 x.index, .int .i64 x.pk, .int .i64 x.py, .int .i64 x.pi, .string x.id, .bool x.sale, .bool x.credit, .string x.refers, .int .i64 x.day, .string x.country, .string x.number, .string x.currency, .slice x.linesA x.lines.length x.linesC] 28))
 have HB0 := Lib.hid (below_alloc w (.cells #[.int .i64 5, .string x.state, .string x.text, .int .i64 x.category, .int .i64 x.bp, .int .i64 x.from_, .int .i64 x.until_, .int .i64 x.num, .int .i64 x.den, .int .i64 x.index, .int .i64 x.pk, .int .i64 x.py, .int .i64 x.pi, .string x.id, .bool x.sale, .bool x.credit, .string x.refers, .int .i64 x.day, .string x.country, .string x.number, .string x.currency, .slice x.linesA x.lines.length x.linesC] 28))
 cases h1 : currB x.text
 · have HC : Hid (∀ W, Calls Tryz.prog 33 #[.string x.text] W fun e w' => e = .returned (.bool false) ∧ Below W.heap.size W w') := Lib.hid (fun W => by have h := code_isCurrency x.text W (by omega); rw [h1] at h; exact h)
   have HV := Lib.hid hV
   clear hV ht
   go_enter Tryz.func20, Tryz.ntmps20
   go_wp2_with ((go_at_call 33; refine (HC.out _).mono ?_; rintro e w2 ⟨rfl, hb⟩; have HB1 := Lib.hid (below_then HB0.out hb); clear hb))
   go_ret
   exact ⟨ret_bool (by rw [← HV.out, h1]; rfl), HB1.out⟩
 · cases h2 : perB 2 x.pk x.py x.pi
   · have HC : Hid (∀ W, Calls Tryz.prog 33 #[.string x.text] W fun e w' => e = .returned (.bool true) ∧ Below W.heap.size W w') := Lib.hid (fun W => by have h := code_isCurrency x.text W (by omega); rw [h1] at h; exact h)
     have HP1 : Hid (∀ W, Calls Tryz.prog 51 #[.agg #[.int .i64 x.pk, .int .i64 x.py, .int .i64 x.pi], .int .i64 2] W fun e w' => e = .returned (.bool false) ∧ Below W.heap.size W w') := Lib.hid (fun W => by have h := code_isPeriod x.pk x.py x.pi 2 W; rw [h2] at h; exact h)
     have HV := Lib.hid hV
     clear hV ht
     go_enter Tryz.func20, Tryz.ntmps20
     go_wp2_with ((go_at_call 33; refine (HC.out _).mono ?_; rintro e w2 ⟨rfl, hb⟩; have HB1 := Lib.hid (below_then HB0.out hb); have HX1 := Lib.hid (heap_on hb HX.out); obtain ⟨_, _, _, _, _, _, _, k7, k8, _, k10, k11, k12, _, _, _, _, _, _, _, _, _⟩ := cells22 (HX1.out); clear hb; refine Stop.out ?_))
     unfold Stop
     go_wp2_with ((go_at_call 51; refine (HP1.out _).mono ?_; rintro e w3 ⟨rfl, hb⟩; have HB2 := Lib.hid (below_then HB1.out hb); clear hb))
     go_ret
     exact ⟨ret_bool (by rw [← HV.out, h1, h2]; rfl), HB2.out⟩
   · have HC : Hid (∀ W, Calls Tryz.prog 33 #[.string x.text] W fun e w' => e = .returned (.bool true) ∧ Below W.heap.size W w') := Lib.hid (fun W => by have h := code_isCurrency x.text W (by omega); rw [h1] at h; exact h)
     have HP1 : Hid (∀ W, Calls Tryz.prog 51 #[.agg #[.int .i64 x.pk, .int .i64 x.py, .int .i64 x.pi], .int .i64 2] W fun e w' => e = .returned (.bool true) ∧ Below W.heap.size W w') := Lib.hid (fun W => by have h := code_isPeriod x.pk x.py x.pi 2 W; rw [h2] at h; exact h)
     rw [h1, h2, Bool.true_and, Bool.true_and] at hV
     have HV := Lib.hid hV
     clear hV ht
     clear h1 h2
     go_enter Tryz.func20, Tryz.ntmps20
     go_wp2_with ((go_at_call 33; refine (HC.out _).mono ?_; rintro e w2 ⟨rfl, hb⟩; have HB1 := Lib.hid (below_then HB0.out hb); have HX1 := Lib.hid (heap_on hb HX.out); obtain ⟨_, _, _, _, _, _, _, k7, k8, _, k10, k11, k12, _, _, _, _, _, _, _, _, _⟩ := cells22 (HX1.out); clear hb; refine Stop.out ?_))
     unfold Stop
     clear k7 k8
     go_wp2_with ((go_at_call 51; refine (HP1.out _).mono ?_; rintro e w3 ⟨rfl, hb⟩; have HB2 := Lib.hid (below_then HB1.out hb); have HX2 := Lib.hid (heap_on hb HX1.out); obtain ⟨_, _, _, _, _, _, _, k7, k8, _, _, _, _, _, _, _, _, _, _, _, _, _⟩ := cells22 (HX2.out); clear hb; refine Stop.out ?_))
     unfold Stop
     go_wp2_with ((go_at_call 29; refine (code_isFrom _ _ _ _).mono ?_; rintro e w2 ⟨rfl, rfl⟩))
     all_goals
      go_ret
      exact ⟨ret_bool (by rw [← HV.out]; clear HX HX1 HX2; simp_all), HB2.out⟩
set_option maxHeartbeats 4000000 in
theorem areGood_6 (x : CmdV) (V : Bool) (w : World) (hk : x.kind = 6) (ht : x.text.size ≤ 140737488351232) (hV : (decide (x.text.size ≤ 65536)) = V) : Calls Tryz.prog 20 #[.agg #[.int .i64 x.kind, .string x.state, .string x.text, .int .i64 x.category, .int .i64 x.bp, .int .i64 x.from_, .int .i64 x.until_, .int .i64 x.num, .int .i64 x.den, .int .i64 x.index, .int .i64 x.pk, .int .i64 x.py, .int .i64 x.pi, .string x.id, .bool x.sale, .bool x.credit, .string x.refers, .int .i64 x.day, .string x.country, .string x.number, .string x.currency, .slice x.linesA x.lines.length x.linesC]] w fun e w1 => e = .returned (.bool V) ∧ Below w.heap.size w w1 := by
 rw [hk]
 clear hk
 have HX := Lib.hid (heap_alloc_new w (.cells #[.int .i64 6, .string x.state, .string x.text, .int .i64 x.category, .int .i64 x.bp, .int .i64 x.from_, .int .i64 x.until_, .int .i64 x.num, .int .i64 x.den, .int .i64 x.index, .int .i64 x.pk, .int .i64 x.py, .int .i64 x.pi, .string x.id, .bool x.sale, .bool x.credit, .string x.refers, .int .i64 x.day, .string x.country, .string x.number, .string x.currency, .slice x.linesA x.lines.length x.linesC] 28))
 have HB0 := Lib.hid (below_alloc w (.cells #[.int .i64 6, .string x.state, .string x.text, .int .i64 x.category, .int .i64 x.bp, .int .i64 x.from_, .int .i64 x.until_, .int .i64 x.num, .int .i64 x.den, .int .i64 x.index, .int .i64 x.pk, .int .i64 x.py, .int .i64 x.pi, .string x.id, .bool x.sale, .bool x.credit, .string x.refers, .int .i64 x.day, .string x.country, .string x.number, .string x.currency, .slice x.linesA x.lines.length x.linesC] 28))
 have HV := Lib.hid hV
 have h2 : (x.text.size : Int) ≤ 140737488351232 := by omega
 clear hV ht
 go_enter Tryz.func20, Tryz.ntmps20
 go_wp2
 go_ret
 exact ⟨ret_bool (by rw [← HV.out]; simp; omega), HB0.out⟩
set_option maxHeartbeats 4000000 in
theorem areGood_7 (x : CmdV) (V : Bool) (w : World) (hk : x.kind = 7) (hV : (inB x.num 0 100 && perB 3 x.pk x.py x.pi) = V) : Calls Tryz.prog 20 #[.agg #[.int .i64 x.kind, .string x.state, .string x.text, .int .i64 x.category, .int .i64 x.bp, .int .i64 x.from_, .int .i64 x.until_, .int .i64 x.num, .int .i64 x.den, .int .i64 x.index, .int .i64 x.pk, .int .i64 x.py, .int .i64 x.pi, .string x.id, .bool x.sale, .bool x.credit, .string x.refers, .int .i64 x.day, .string x.country, .string x.number, .string x.currency, .slice x.linesA x.lines.length x.linesC]] w fun e w1 => e = .returned (.bool V) ∧ Below w.heap.size w w1 := by
 rw [hk]
 clear hk
 have HX := Lib.hid (heap_alloc_new w (.cells #[.int .i64 7, .string x.state, .string x.text, .int .i64 x.category, .int .i64 x.bp, .int .i64 x.from_, .int .i64 x.until_, .int .i64 x.num, .int .i64 x.den, .int .i64 x.index, .int .i64 x.pk, .int .i64 x.py, .int .i64 x.pi, .string x.id, .bool x.sale, .bool x.credit, .string x.refers, .int .i64 x.day, .string x.country, .string x.number, .string x.currency, .slice x.linesA x.lines.length x.linesC] 28))
 have HB0 := Lib.hid (below_alloc w (.cells #[.int .i64 7, .string x.state, .string x.text, .int .i64 x.category, .int .i64 x.bp, .int .i64 x.from_, .int .i64 x.until_, .int .i64 x.num, .int .i64 x.den, .int .i64 x.index, .int .i64 x.pk, .int .i64 x.py, .int .i64 x.pi, .string x.id, .bool x.sale, .bool x.credit, .string x.refers, .int .i64 x.day, .string x.country, .string x.number, .string x.currency, .slice x.linesA x.lines.length x.linesC] 28))
 cases h1 : perB 3 x.pk x.py x.pi
 · have HP1 : Hid (∀ W, Calls Tryz.prog 51 #[.agg #[.int .i64 x.pk, .int .i64 x.py, .int .i64 x.pi], .int .i64 3] W fun e w' => e = .returned (.bool false) ∧ Below W.heap.size W w') := Lib.hid (fun W => by have h := code_isPeriod x.pk x.py x.pi 3 W; rw [h1] at h; exact h)
   have HV := Lib.hid hV
   clear hV
   go_enter Tryz.func20, Tryz.ntmps20
   go_wp2_with (first | (go_at_call 29; refine (code_isFrom _ _ _ _).mono ?_; rintro e w2 ⟨rfl, rfl⟩) | (go_at_call 51; refine (HP1.out _).mono ?_; rintro e w2 ⟨rfl, hb⟩; have HB1 := Lib.hid (below_then HB0.out hb); clear hb))
   all_goals
    go_ret
    exact ⟨ret_bool (by rw [← HV.out]; clear HX; simp_all), by first | exact HB1.out | exact HB0.out⟩
 · have HP1 : Hid (∀ W, Calls Tryz.prog 51 #[.agg #[.int .i64 x.pk, .int .i64 x.py, .int .i64 x.pi], .int .i64 3] W fun e w' => e = .returned (.bool true) ∧ Below W.heap.size W w') := Lib.hid (fun W => by have h := code_isPeriod x.pk x.py x.pi 3 W; rw [h1] at h; exact h)
   have HV := Lib.hid hV
   clear hV
   go_enter Tryz.func20, Tryz.ntmps20
   go_wp2_with (first | (go_at_call 29; refine (code_isFrom _ _ _ _).mono ?_; rintro e w2 ⟨rfl, rfl⟩) | (go_at_call 51; refine (HP1.out _).mono ?_; rintro e w2 ⟨rfl, hb⟩; have HB1 := Lib.hid (below_then HB0.out hb); clear hb))
   all_goals
    go_ret
    exact ⟨ret_bool (by rw [← HV.out]; clear HX; simp_all), by first | exact HB1.out | exact HB0.out⟩
set_option maxHeartbeats 4000000 in
theorem areGood_9 (x : CmdV) (V : Bool) (w : World) (hk : x.kind = 9) (hV : (perB 1 x.pk x.py x.pi || perB 2 x.pk x.py x.pi) = V) : Calls Tryz.prog 20 #[.agg #[.int .i64 x.kind, .string x.state, .string x.text, .int .i64 x.category, .int .i64 x.bp, .int .i64 x.from_, .int .i64 x.until_, .int .i64 x.num, .int .i64 x.den, .int .i64 x.index, .int .i64 x.pk, .int .i64 x.py, .int .i64 x.pi, .string x.id, .bool x.sale, .bool x.credit, .string x.refers, .int .i64 x.day, .string x.country, .string x.number, .string x.currency, .slice x.linesA x.lines.length x.linesC]] w fun e w1 => e = .returned (.bool V) ∧ Below w.heap.size w w1 := by
 rw [hk]
 clear hk
 have HX := Lib.hid (heap_alloc_new w (.cells #[.int .i64 9, .string x.state, .string x.text, .int .i64 x.category, .int .i64 x.bp, .int .i64 x.from_, .int .i64 x.until_, .int .i64 x.num, .int .i64 x.den, .int .i64 x.index, .int .i64 x.pk, .int .i64 x.py, .int .i64 x.pi, .string x.id, .bool x.sale, .bool x.credit, .string x.refers, .int .i64 x.day, .string x.country, .string x.number, .string x.currency, .slice x.linesA x.lines.length x.linesC] 28))
 have HB0 := Lib.hid (below_alloc w (.cells #[.int .i64 9, .string x.state, .string x.text, .int .i64 x.category, .int .i64 x.bp, .int .i64 x.from_, .int .i64 x.until_, .int .i64 x.num, .int .i64 x.den, .int .i64 x.index, .int .i64 x.pk, .int .i64 x.py, .int .i64 x.pi, .string x.id, .bool x.sale, .bool x.credit, .string x.refers, .int .i64 x.day, .string x.country, .string x.number, .string x.currency, .slice x.linesA x.lines.length x.linesC] 28))
 cases h1 : perB 1 x.pk x.py x.pi
 · have HP2 : Hid (∀ W, Calls Tryz.prog 51 #[.agg #[.int .i64 x.pk, .int .i64 x.py, .int .i64 x.pi], .int .i64 2] W fun e w' => e = .returned (.bool (perB 2 x.pk x.py x.pi)) ∧ Below W.heap.size W w') := Lib.hid (fun W => code_isPeriod x.pk x.py x.pi 2 W)
   have HP1 : Hid (∀ W, Calls Tryz.prog 51 #[.agg #[.int .i64 x.pk, .int .i64 x.py, .int .i64 x.pi], .int .i64 1] W fun e w' => e = .returned (.bool false) ∧ Below W.heap.size W w') := Lib.hid (fun W => by have h := code_isPeriod x.pk x.py x.pi 1 W; rw [h1] at h; exact h)
   have HV := Lib.hid hV
   clear hV
   go_enter Tryz.func20, Tryz.ntmps20
   go_wp2_with ((go_at_call 51; refine (HP1.out _).mono ?_; rintro e w2 ⟨rfl, hb⟩; have HB1 := Lib.hid (below_then HB0.out hb); have HX1 := Lib.hid (heap_on hb HX.out); obtain ⟨_, _, _, _, _, _, _, _, _, _, k10, k11, k12, _, _, _, _, _, _, _, _, _⟩ := cells22 (HX1.out); clear hb; refine Stop.out ?_))
   unfold Stop
   go_wp2_with ((go_at_call 51; refine (HP2.out _).mono ?_; rintro e w3 ⟨rfl, hb⟩; have HB2 := Lib.hid (below_then HB1.out hb); clear hb))
   go_ret
   exact ⟨ret_bool (by rw [← HV.out, h1]; rfl), HB2.out⟩
 · have HP1 : Hid (∀ W, Calls Tryz.prog 51 #[.agg #[.int .i64 x.pk, .int .i64 x.py, .int .i64 x.pi], .int .i64 1] W fun e w' => e = .returned (.bool true) ∧ Below W.heap.size W w') := Lib.hid (fun W => by have h := code_isPeriod x.pk x.py x.pi 1 W; rw [h1] at h; exact h)
   have HV := Lib.hid hV
   clear hV
   go_enter Tryz.func20, Tryz.ntmps20
   go_wp2_with ((go_at_call 51; refine (HP1.out _).mono ?_; rintro e w2 ⟨rfl, hb⟩; have HB1 := Lib.hid (below_then HB0.out hb); clear hb))
   go_ret
   exact ⟨ret_bool (by rw [← HV.out, h1]; rfl), HB1.out⟩
set_option maxHeartbeats 4000000 in
theorem areGood_10 (x : CmdV) (V : Bool) (w : World) (hk : x.kind = 10) (hV : (perB 1 x.pk x.py x.pi || perB 2 x.pk x.py x.pi) = V) : Calls Tryz.prog 20 #[.agg #[.int .i64 x.kind, .string x.state, .string x.text, .int .i64 x.category, .int .i64 x.bp, .int .i64 x.from_, .int .i64 x.until_, .int .i64 x.num, .int .i64 x.den, .int .i64 x.index, .int .i64 x.pk, .int .i64 x.py, .int .i64 x.pi, .string x.id, .bool x.sale, .bool x.credit, .string x.refers, .int .i64 x.day, .string x.country, .string x.number, .string x.currency, .slice x.linesA x.lines.length x.linesC]] w fun e w1 => e = .returned (.bool V) ∧ Below w.heap.size w w1 := by
 rw [hk]
 clear hk
 have HX := Lib.hid (heap_alloc_new w (.cells #[.int .i64 10, .string x.state, .string x.text, .int .i64 x.category, .int .i64 x.bp, .int .i64 x.from_, .int .i64 x.until_, .int .i64 x.num, .int .i64 x.den, .int .i64 x.index, .int .i64 x.pk, .int .i64 x.py, .int .i64 x.pi, .string x.id, .bool x.sale, .bool x.credit, .string x.refers, .int .i64 x.day, .string x.country, .string x.number, .string x.currency, .slice x.linesA x.lines.length x.linesC] 28))
 have HB0 := Lib.hid (below_alloc w (.cells #[.int .i64 10, .string x.state, .string x.text, .int .i64 x.category, .int .i64 x.bp, .int .i64 x.from_, .int .i64 x.until_, .int .i64 x.num, .int .i64 x.den, .int .i64 x.index, .int .i64 x.pk, .int .i64 x.py, .int .i64 x.pi, .string x.id, .bool x.sale, .bool x.credit, .string x.refers, .int .i64 x.day, .string x.country, .string x.number, .string x.currency, .slice x.linesA x.lines.length x.linesC] 28))
 cases h1 : perB 1 x.pk x.py x.pi
 · have HP2 : Hid (∀ W, Calls Tryz.prog 51 #[.agg #[.int .i64 x.pk, .int .i64 x.py, .int .i64 x.pi], .int .i64 2] W fun e w' => e = .returned (.bool (perB 2 x.pk x.py x.pi)) ∧ Below W.heap.size W w') := Lib.hid (fun W => code_isPeriod x.pk x.py x.pi 2 W)
   have HP1 : Hid (∀ W, Calls Tryz.prog 51 #[.agg #[.int .i64 x.pk, .int .i64 x.py, .int .i64 x.pi], .int .i64 1] W fun e w' => e = .returned (.bool false) ∧ Below W.heap.size W w') := Lib.hid (fun W => by have h := code_isPeriod x.pk x.py x.pi 1 W; rw [h1] at h; exact h)
   have HV := Lib.hid hV
   clear hV
   go_enter Tryz.func20, Tryz.ntmps20
   go_wp2_with ((go_at_call 51; refine (HP1.out _).mono ?_; rintro e w2 ⟨rfl, hb⟩; have HB1 := Lib.hid (below_then HB0.out hb); have HX1 := Lib.hid (heap_on hb HX.out); obtain ⟨_, _, _, _, _, _, _, _, _, _, k10, k11, k12, _, _, _, _, _, _, _, _, _⟩ := cells22 (HX1.out); clear hb; refine Stop.out ?_))
   unfold Stop
   go_wp2_with ((go_at_call 51; refine (HP2.out _).mono ?_; rintro e w3 ⟨rfl, hb⟩; have HB2 := Lib.hid (below_then HB1.out hb); clear hb))
   go_ret
   exact ⟨ret_bool (by rw [← HV.out, h1]; rfl), HB2.out⟩
 · have HP1 : Hid (∀ W, Calls Tryz.prog 51 #[.agg #[.int .i64 x.pk, .int .i64 x.py, .int .i64 x.pi], .int .i64 1] W fun e w' => e = .returned (.bool true) ∧ Below W.heap.size W w') := Lib.hid (fun W => by have h := code_isPeriod x.pk x.py x.pi 1 W; rw [h1] at h; exact h)
   have HV := Lib.hid hV
   clear hV
   go_enter Tryz.func20, Tryz.ntmps20
   go_wp2_with ((go_at_call 51; refine (HP1.out _).mono ?_; rintro e w2 ⟨rfl, hb⟩; have HB1 := Lib.hid (below_then HB0.out hb); clear hb))
   go_ret
   exact ⟨ret_bool (by rw [← HV.out, h1]; rfl), HB1.out⟩
set_option maxHeartbeats 4000000 in
theorem areGood_O (x : CmdV) (V : Bool) (w : World) (hk : x.kind < 1 ∨ 11 < x.kind) (hV : false = V) : Calls Tryz.prog 20 #[.agg #[.int .i64 x.kind, .string x.state, .string x.text, .int .i64 x.category, .int .i64 x.bp, .int .i64 x.from_, .int .i64 x.until_, .int .i64 x.num, .int .i64 x.den, .int .i64 x.index, .int .i64 x.pk, .int .i64 x.py, .int .i64 x.pi, .string x.id, .bool x.sale, .bool x.credit, .string x.refers, .int .i64 x.day, .string x.country, .string x.number, .string x.currency, .slice x.linesA x.lines.length x.linesC]] w fun e w1 => e = .returned (.bool V) ∧ Below w.heap.size w w1 := by
 have HX := Lib.hid (heap_alloc_new w (.cells #[.int .i64 x.kind, .string x.state, .string x.text, .int .i64 x.category, .int .i64 x.bp, .int .i64 x.from_, .int .i64 x.until_, .int .i64 x.num, .int .i64 x.den, .int .i64 x.index, .int .i64 x.pk, .int .i64 x.py, .int .i64 x.pi, .string x.id, .bool x.sale, .bool x.credit, .string x.refers, .int .i64 x.day, .string x.country, .string x.number, .string x.currency, .slice x.linesA x.lines.length x.linesC] 28))
 have HB0 := Lib.hid (below_alloc w (.cells #[.int .i64 x.kind, .string x.state, .string x.text, .int .i64 x.category, .int .i64 x.bp, .int .i64 x.from_, .int .i64 x.until_, .int .i64 x.num, .int .i64 x.den, .int .i64 x.index, .int .i64 x.pk, .int .i64 x.py, .int .i64 x.pi, .string x.id, .bool x.sale, .bool x.credit, .string x.refers, .int .i64 x.day, .string x.country, .string x.number, .string x.currency, .slice x.linesA x.lines.length x.linesC] 28))
 have e1 : (x.kind == 1) = false := beq_false_of_ne (by omega)
 have e2 : (x.kind == 2) = false := beq_false_of_ne (by omega)
 have e3 : (x.kind == 3) = false := beq_false_of_ne (by omega)
 have e4 : (x.kind == 4) = false := beq_false_of_ne (by omega)
 have e5 : (x.kind == 5) = false := beq_false_of_ne (by omega)
 have e6 : (x.kind == 6) = false := beq_false_of_ne (by omega)
 have e7 : (x.kind == 7) = false := beq_false_of_ne (by omega)
 have e8 : (x.kind == 8) = false := beq_false_of_ne (by omega)
 have e9 : (x.kind == 9) = false := beq_false_of_ne (by omega)
 have e10 : (x.kind == 10) = false := beq_false_of_ne (by omega)
 have e11 : (x.kind == 11) = false := beq_false_of_ne (by omega)
 subst hV
 clear hk
 go_enter Tryz.func20, Tryz.ntmps20
 go_wp2
 go_ret
 exact ⟨rfl, HB0.out⟩
end Go.Proofs.YtmjjenemokojjaaGreat
