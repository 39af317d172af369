/- Documents: what may be: the program's, any document. -/
import Derived.Test.YtjanhgekocpobaaRcC
import Derived.Test.YtjanhgekocpobaaRgA
import Derived.Test.YtjanhgekocpobaaVatRight
import Derived.WalkMore
namespace Go.Proofs.Ytjanhgekocpobaa
open Go.RowKit
set_option maxRecDepth 100000
set_option linter.unusedSimpArgs false
set_option linter.unusedVariables false

set_option maxHeartbeats 8000000 in
theorem goodDoc_c0 (d : DocV) (V : Bool) (w : World) (hd : DocVOk w d) (hln : d.lines.length ≤ 140737488351232) (hM : MaxL w) (hn : d.number.toList.isEmpty = true) (hc : d.currency.toList.isEmpty = false) (hcv : currB d.currency = false) (hV : docGood d (rightP d.country d.number) (currB d.currency) = V) : Calls Try.prog 23 #[.agg #[.string d.id, .bool d.sale, .bool d.credit, .string d.refers, .int .i64 d.day, .string d.country, .string d.number, .string d.currency, .slice d.linesA d.lines.length d.linesC]] w fun e w1 => e = .returned (.bool V) ∧ Below w.heap.size w w1 := by
  obtain ⟨hd1, hd2, hd3, hd4, hd5, hr, hA, hlc, hcm, hg⟩ := hd
  have HCo : Hid (∀ W : World, Calls Try.prog 36 #[.string d.country] W fun e w' => e = .returned (.bool (placeB d.country)) ∧ W = w') := Lib.hid (fun W => code_country d.country W (by omega))
  have HRt : Hid (∀ W, Below w.heap.size w W → Calls Try.prog 37 #[.string d.country, .string d.number] W fun e w' => e = .returned (.bool (rightP d.country d.number)) ∧ Below W.heap.size W w') := Lib.hid (fun W hb => code_right d.country d.number W hd3 (by omega) (hM.below hb))
  have HCu : Hid (∀ W, Calls Try.prog 38 #[.string d.currency] W fun e w' => e = .returned (.bool (currB d.currency)) ∧ Below W.heap.size W w') := Lib.hid (fun W => code_isCurrency d.currency W (by omega))
  have HX := Lib.hid (And.intro (heap_alloc_new w (.cells #[.string d.id, .bool d.sale, .bool d.credit, .string d.refers, .int .i64 d.day, .string d.country, .string d.number, .string d.currency, .slice d.linesA d.lines.length d.linesC] 29)) (below_alloc w (.cells #[.string d.id, .bool d.sale, .bool d.credit, .string d.refers, .int .i64 d.day, .string d.country, .string d.number, .string d.currency, .slice d.linesA d.lines.length d.linesC] 29)))
  have HCt : Hid (∀ W, Below (w.alloc (.cells #[.string d.id, .bool d.sale, .bool d.credit, .string d.refers, .int .i64 d.day, .string d.country, .string d.number, .string d.currency, .slice d.linesA d.lines.length d.linesC] 29)).heap.size (w.alloc (.cells #[.string d.id, .bool d.sale, .bool d.credit, .string d.refers, .int .i64 d.day, .string d.country, .string d.number, .string d.currency, .slice d.linesA d.lines.length d.linesC] 29)) W → Calls Try.prog 39 #[.slice d.linesA d.lines.length d.linesC, .func (Fn.func 40) #[] #[.pointer (some ⟨w.heap.size, 0, none⟩)]] W fun e w1 => e = .returned (.bool (badAny d.lines d.sale)) ∧ Below W.heap.size W w1) := Lib.hid (fun W hb => code_containsLine d.linesA d.lines d.linesC w.heap.size d.sale W (hr.on (below_then (below_alloc w (.cells #[.string d.id, .bool d.sale, .bool d.credit, .string d.refers, .int .i64 d.day, .string d.country, .string d.number, .string d.currency, .slice d.linesA d.lines.length d.linesC] 29)) hb)) hlc hln hg (heapLt (heap_on hb (heap_alloc_new w (.cells #[.string d.id, .bool d.sale, .bool d.credit, .string d.refers, .int .i64 d.day, .string d.country, .string d.number, .string d.currency, .slice d.linesA d.lines.length d.linesC] 29)))) (cellsLineV (heap_on hb (heap_alloc_new w (.cells #[.string d.id, .bool d.sale, .bool d.credit, .string d.refers, .int .i64 d.day, .string d.country, .string d.number, .string d.currency, .slice d.linesA d.lines.length d.linesC] 29)))).2.1)
  have i1 : (d.id.size : Int) ≤ 140737488351232 := by omega
  have i2 : (d.refers.size : Int) ≤ 140737488351232 := by omega
  have i3 : (d.lines.length : Int) ≤ 140737488351232 := by omega
  unfold docGood at hV
  rw [hcv] at HCu hV
  clear hcv
  generalize placeB d.country = pB at HCo hV
  generalize badAny d.lines d.sale = bB at HCt hV
  clear HRt
  generalize rightP d.country d.number = rB at hV
  clear hd1 hd2 hd3 hd4 hd5 hr hA hlc hcm hg hln hM
  have HV := Lib.hid hV
  clear hV
  go_enter Try.func23, Try.ntmps23
  go_wp2_with (first
      | (go_at_call 34; refine (code_isFrom _ _ _ _).mono ?_; rintro e w2 ⟨rfl, rfl⟩)
      | (go_at_call 35; refine (code_isDay _ _).mono ?_; rintro e w2 ⟨rfl, rfl⟩)
      | (go_at_call 36; refine (HCo.out _).mono ?_; rintro e w2 ⟨rfl, rfl⟩)
      | (go_at_call 38; refine (HCu.out _).mono ?_; rintro e w4 ⟨rfl, hb⟩; have HD2 := Lib.hid hb; have hx := heap_on HD2.out HX.out.1; obtain ⟨u0, u1, u2, u3, u4, u5, u6, u7, u8⟩ := cellsLineV hx; clear hx; clear hb))
  all_goals (go_ret; exact ⟨ret_bool (by rw [← HV.out]; clear HX; first | (simp_all; done) | (simp_all; intros; omega) | (simp_all; omega)), by first | exact HB.out | exact below_then HX.out.2 HD2.out | exact below_then HX.out.2 HD1.out | exact HX.out.2⟩)
set_option maxHeartbeats 8000000 in
theorem goodDoc_c1 (d : DocV) (V : Bool) (w : World) (hd : DocVOk w d) (hln : d.lines.length ≤ 140737488351232) (hM : MaxL w) (hn : d.number.toList.isEmpty = true) (hc : d.currency.toList.isEmpty = false) (hcv : currB d.currency = true) (hV : docGood d (rightP d.country d.number) (currB d.currency) = V) : Calls Try.prog 23 #[.agg #[.string d.id, .bool d.sale, .bool d.credit, .string d.refers, .int .i64 d.day, .string d.country, .string d.number, .string d.currency, .slice d.linesA d.lines.length d.linesC]] w fun e w1 => e = .returned (.bool V) ∧ Below w.heap.size w w1 := by
  obtain ⟨hd1, hd2, hd3, hd4, hd5, hr, hA, hlc, hcm, hg⟩ := hd
  have HCo : Hid (∀ W : World, Calls Try.prog 36 #[.string d.country] W fun e w' => e = .returned (.bool (placeB d.country)) ∧ W = w') := Lib.hid (fun W => code_country d.country W (by omega))
  have HRt : Hid (∀ W, Below w.heap.size w W → Calls Try.prog 37 #[.string d.country, .string d.number] W fun e w' => e = .returned (.bool (rightP d.country d.number)) ∧ Below W.heap.size W w') := Lib.hid (fun W hb => code_right d.country d.number W hd3 (by omega) (hM.below hb))
  have HCu : Hid (∀ W, Calls Try.prog 38 #[.string d.currency] W fun e w' => e = .returned (.bool (currB d.currency)) ∧ Below W.heap.size W w') := Lib.hid (fun W => code_isCurrency d.currency W (by omega))
  have HX := Lib.hid (And.intro (heap_alloc_new w (.cells #[.string d.id, .bool d.sale, .bool d.credit, .string d.refers, .int .i64 d.day, .string d.country, .string d.number, .string d.currency, .slice d.linesA d.lines.length d.linesC] 29)) (below_alloc w (.cells #[.string d.id, .bool d.sale, .bool d.credit, .string d.refers, .int .i64 d.day, .string d.country, .string d.number, .string d.currency, .slice d.linesA d.lines.length d.linesC] 29)))
  have HCt : Hid (∀ W, Below (w.alloc (.cells #[.string d.id, .bool d.sale, .bool d.credit, .string d.refers, .int .i64 d.day, .string d.country, .string d.number, .string d.currency, .slice d.linesA d.lines.length d.linesC] 29)).heap.size (w.alloc (.cells #[.string d.id, .bool d.sale, .bool d.credit, .string d.refers, .int .i64 d.day, .string d.country, .string d.number, .string d.currency, .slice d.linesA d.lines.length d.linesC] 29)) W → Calls Try.prog 39 #[.slice d.linesA d.lines.length d.linesC, .func (Fn.func 40) #[] #[.pointer (some ⟨w.heap.size, 0, none⟩)]] W fun e w1 => e = .returned (.bool (badAny d.lines d.sale)) ∧ Below W.heap.size W w1) := Lib.hid (fun W hb => code_containsLine d.linesA d.lines d.linesC w.heap.size d.sale W (hr.on (below_then (below_alloc w (.cells #[.string d.id, .bool d.sale, .bool d.credit, .string d.refers, .int .i64 d.day, .string d.country, .string d.number, .string d.currency, .slice d.linesA d.lines.length d.linesC] 29)) hb)) hlc hln hg (heapLt (heap_on hb (heap_alloc_new w (.cells #[.string d.id, .bool d.sale, .bool d.credit, .string d.refers, .int .i64 d.day, .string d.country, .string d.number, .string d.currency, .slice d.linesA d.lines.length d.linesC] 29)))) (cellsLineV (heap_on hb (heap_alloc_new w (.cells #[.string d.id, .bool d.sale, .bool d.credit, .string d.refers, .int .i64 d.day, .string d.country, .string d.number, .string d.currency, .slice d.linesA d.lines.length d.linesC] 29)))).2.1)
  have i1 : (d.id.size : Int) ≤ 140737488351232 := by omega
  have i2 : (d.refers.size : Int) ≤ 140737488351232 := by omega
  have i3 : (d.lines.length : Int) ≤ 140737488351232 := by omega
  unfold docGood at hV
  rw [hcv] at HCu hV
  clear hcv
  generalize placeB d.country = pB at HCo hV
  generalize badAny d.lines d.sale = bB at HCt hV
  clear HRt
  generalize rightP d.country d.number = rB at hV
  clear hd1 hd2 hd3 hd4 hd5 hr hA hlc hcm hg hln hM
  have HV := Lib.hid hV
  clear hV
  go_enter Try.func23, Try.ntmps23
  go_wp2_with (first
      | (go_at_call 34; refine (code_isFrom _ _ _ _).mono ?_; rintro e w2 ⟨rfl, rfl⟩)
      | (go_at_call 35; refine (code_isDay _ _).mono ?_; rintro e w2 ⟨rfl, rfl⟩)
      | (go_at_call 36; refine (HCo.out _).mono ?_; rintro e w2 ⟨rfl, rfl⟩)
      | (go_at_call 38; refine (HCu.out _).mono ?_; rintro e w4 ⟨rfl, hb⟩; have HD2 := Lib.hid hb; have hx := heap_on HD2.out HX.out.1; obtain ⟨u0, u1, u2, u3, u4, u5, u6, u7, u8⟩ := cellsLineV hx; clear hx; clear hb; refine Stop.out ?_))
  all_goals first
      | (go_ret; exact ⟨ret_bool (by rw [← HV.out]; clear HX; first | (simp_all; done) | (simp_all; intros; omega) | (simp_all; omega)), by first | exact HB.out | exact below_then HX.out.2 HD2.out | exact below_then HX.out.2 HD1.out | exact HX.out.2⟩)
      | (unfold Stop; go_wp2_with (first | (go_at_call 34; refine (code_isFrom _ _ _ _).mono ?_; rintro e w2 ⟨rfl, rfl⟩) | (go_at_call 39; refine (HCt.out _ HD2.out).mono ?_; rintro e w5 ⟨rfl, hb⟩; have HB := Lib.hid (below_then HX.out.2 (below_then HD2.out hb)); clear hb)); all_goals (go_ret; exact ⟨ret_bool (by rw [← HV.out]; clear HX; first | (simp_all; done) | (simp_all; intros; omega) | (simp_all; omega)), by first | exact HB.out | exact below_then HX.out.2 HD2.out | exact below_then HX.out.2 HD1.out | exact HX.out.2⟩))
set_option maxHeartbeats 8000000 in
theorem goodDoc_n0 (d : DocV) (V : Bool) (w : World) (hd : DocVOk w d) (hln : d.lines.length ≤ 140737488351232) (hM : MaxL w) (hn : d.number.toList.isEmpty = false) (hrv : rightP d.country d.number = false) (hV : docGood d (rightP d.country d.number) (currB d.currency) = V) : Calls Try.prog 23 #[.agg #[.string d.id, .bool d.sale, .bool d.credit, .string d.refers, .int .i64 d.day, .string d.country, .string d.number, .string d.currency, .slice d.linesA d.lines.length d.linesC]] w fun e w1 => e = .returned (.bool V) ∧ Below w.heap.size w w1 := by
  obtain ⟨hd1, hd2, hd3, hd4, hd5, hr, hA, hlc, hcm, hg⟩ := hd
  have HCo : Hid (∀ W : World, Calls Try.prog 36 #[.string d.country] W fun e w' => e = .returned (.bool (placeB d.country)) ∧ W = w') := Lib.hid (fun W => code_country d.country W (by omega))
  have HRt : Hid (∀ W, Below w.heap.size w W → Calls Try.prog 37 #[.string d.country, .string d.number] W fun e w' => e = .returned (.bool (rightP d.country d.number)) ∧ Below W.heap.size W w') := Lib.hid (fun W hb => code_right d.country d.number W hd3 (by omega) (hM.below hb))
  have HCu : Hid (∀ W, Calls Try.prog 38 #[.string d.currency] W fun e w' => e = .returned (.bool (currB d.currency)) ∧ Below W.heap.size W w') := Lib.hid (fun W => code_isCurrency d.currency W (by omega))
  have HX := Lib.hid (And.intro (heap_alloc_new w (.cells #[.string d.id, .bool d.sale, .bool d.credit, .string d.refers, .int .i64 d.day, .string d.country, .string d.number, .string d.currency, .slice d.linesA d.lines.length d.linesC] 29)) (below_alloc w (.cells #[.string d.id, .bool d.sale, .bool d.credit, .string d.refers, .int .i64 d.day, .string d.country, .string d.number, .string d.currency, .slice d.linesA d.lines.length d.linesC] 29)))
  have HCt : Hid (∀ W, Below (w.alloc (.cells #[.string d.id, .bool d.sale, .bool d.credit, .string d.refers, .int .i64 d.day, .string d.country, .string d.number, .string d.currency, .slice d.linesA d.lines.length d.linesC] 29)).heap.size (w.alloc (.cells #[.string d.id, .bool d.sale, .bool d.credit, .string d.refers, .int .i64 d.day, .string d.country, .string d.number, .string d.currency, .slice d.linesA d.lines.length d.linesC] 29)) W → Calls Try.prog 39 #[.slice d.linesA d.lines.length d.linesC, .func (Fn.func 40) #[] #[.pointer (some ⟨w.heap.size, 0, none⟩)]] W fun e w1 => e = .returned (.bool (badAny d.lines d.sale)) ∧ Below W.heap.size W w1) := Lib.hid (fun W hb => code_containsLine d.linesA d.lines d.linesC w.heap.size d.sale W (hr.on (below_then (below_alloc w (.cells #[.string d.id, .bool d.sale, .bool d.credit, .string d.refers, .int .i64 d.day, .string d.country, .string d.number, .string d.currency, .slice d.linesA d.lines.length d.linesC] 29)) hb)) hlc hln hg (heapLt (heap_on hb (heap_alloc_new w (.cells #[.string d.id, .bool d.sale, .bool d.credit, .string d.refers, .int .i64 d.day, .string d.country, .string d.number, .string d.currency, .slice d.linesA d.lines.length d.linesC] 29)))) (cellsLineV (heap_on hb (heap_alloc_new w (.cells #[.string d.id, .bool d.sale, .bool d.credit, .string d.refers, .int .i64 d.day, .string d.country, .string d.number, .string d.currency, .slice d.linesA d.lines.length d.linesC] 29)))).2.1)
  have i1 : (d.id.size : Int) ≤ 140737488351232 := by omega
  have i2 : (d.refers.size : Int) ≤ 140737488351232 := by omega
  have i3 : (d.lines.length : Int) ≤ 140737488351232 := by omega
  unfold docGood at hV
  rw [hrv] at HRt hV
  clear hrv
  generalize placeB d.country = pB at HCo hV
  generalize badAny d.lines d.sale = bB at HCt hV
  clear HCu
  generalize currB d.currency = cB at hV
  clear hd1 hd2 hd3 hd4 hd5 hr hA hlc hcm hg hln hM
  have HV := Lib.hid hV
  clear hV
  go_enter Try.func23, Try.ntmps23
  go_wp2_with (first
      | (go_at_call 34; refine (code_isFrom _ _ _ _).mono ?_; rintro e w2 ⟨rfl, rfl⟩)
      | (go_at_call 35; refine (code_isDay _ _).mono ?_; rintro e w2 ⟨rfl, rfl⟩)
      | (go_at_call 36; refine (HCo.out _).mono ?_; rintro e w2 ⟨rfl, rfl⟩)
      | (go_at_call 37; refine (HRt.out _ HX.out.2).mono ?_; rintro e w3 ⟨rfl, hb⟩; have HD1 := Lib.hid hb; have hx := heap_on HD1.out HX.out.1; obtain ⟨u0, u1, u2, u3, u4, u5, u6, u7, u8⟩ := cellsLineV hx; clear hx; clear hb))
  all_goals (go_ret; exact ⟨ret_bool (by rw [← HV.out]; clear HX; first | (simp_all; done) | (simp_all; intros; omega) | (simp_all; omega)), by first | exact HB.out | exact below_then HX.out.2 HD2.out | exact below_then HX.out.2 HD1.out | exact HX.out.2⟩)
set_option maxHeartbeats 8000000 in
theorem goodDoc_n1 (d : DocV) (V : Bool) (w : World) (hd : DocVOk w d) (hln : d.lines.length ≤ 140737488351232) (hM : MaxL w) (hn : d.number.toList.isEmpty = false) (hc : d.currency.toList.isEmpty = true) (hrv : rightP d.country d.number = true) (hV : docGood d (rightP d.country d.number) (currB d.currency) = V) : Calls Try.prog 23 #[.agg #[.string d.id, .bool d.sale, .bool d.credit, .string d.refers, .int .i64 d.day, .string d.country, .string d.number, .string d.currency, .slice d.linesA d.lines.length d.linesC]] w fun e w1 => e = .returned (.bool V) ∧ Below w.heap.size w w1 := by
  obtain ⟨hd1, hd2, hd3, hd4, hd5, hr, hA, hlc, hcm, hg⟩ := hd
  have HCo : Hid (∀ W : World, Calls Try.prog 36 #[.string d.country] W fun e w' => e = .returned (.bool (placeB d.country)) ∧ W = w') := Lib.hid (fun W => code_country d.country W (by omega))
  have HRt : Hid (∀ W, Below w.heap.size w W → Calls Try.prog 37 #[.string d.country, .string d.number] W fun e w' => e = .returned (.bool (rightP d.country d.number)) ∧ Below W.heap.size W w') := Lib.hid (fun W hb => code_right d.country d.number W hd3 (by omega) (hM.below hb))
  have HCu : Hid (∀ W, Calls Try.prog 38 #[.string d.currency] W fun e w' => e = .returned (.bool (currB d.currency)) ∧ Below W.heap.size W w') := Lib.hid (fun W => code_isCurrency d.currency W (by omega))
  have HX := Lib.hid (And.intro (heap_alloc_new w (.cells #[.string d.id, .bool d.sale, .bool d.credit, .string d.refers, .int .i64 d.day, .string d.country, .string d.number, .string d.currency, .slice d.linesA d.lines.length d.linesC] 29)) (below_alloc w (.cells #[.string d.id, .bool d.sale, .bool d.credit, .string d.refers, .int .i64 d.day, .string d.country, .string d.number, .string d.currency, .slice d.linesA d.lines.length d.linesC] 29)))
  have HCt : Hid (∀ W, Below (w.alloc (.cells #[.string d.id, .bool d.sale, .bool d.credit, .string d.refers, .int .i64 d.day, .string d.country, .string d.number, .string d.currency, .slice d.linesA d.lines.length d.linesC] 29)).heap.size (w.alloc (.cells #[.string d.id, .bool d.sale, .bool d.credit, .string d.refers, .int .i64 d.day, .string d.country, .string d.number, .string d.currency, .slice d.linesA d.lines.length d.linesC] 29)) W → Calls Try.prog 39 #[.slice d.linesA d.lines.length d.linesC, .func (Fn.func 40) #[] #[.pointer (some ⟨w.heap.size, 0, none⟩)]] W fun e w1 => e = .returned (.bool (badAny d.lines d.sale)) ∧ Below W.heap.size W w1) := Lib.hid (fun W hb => code_containsLine d.linesA d.lines d.linesC w.heap.size d.sale W (hr.on (below_then (below_alloc w (.cells #[.string d.id, .bool d.sale, .bool d.credit, .string d.refers, .int .i64 d.day, .string d.country, .string d.number, .string d.currency, .slice d.linesA d.lines.length d.linesC] 29)) hb)) hlc hln hg (heapLt (heap_on hb (heap_alloc_new w (.cells #[.string d.id, .bool d.sale, .bool d.credit, .string d.refers, .int .i64 d.day, .string d.country, .string d.number, .string d.currency, .slice d.linesA d.lines.length d.linesC] 29)))) (cellsLineV (heap_on hb (heap_alloc_new w (.cells #[.string d.id, .bool d.sale, .bool d.credit, .string d.refers, .int .i64 d.day, .string d.country, .string d.number, .string d.currency, .slice d.linesA d.lines.length d.linesC] 29)))).2.1)
  have i1 : (d.id.size : Int) ≤ 140737488351232 := by omega
  have i2 : (d.refers.size : Int) ≤ 140737488351232 := by omega
  have i3 : (d.lines.length : Int) ≤ 140737488351232 := by omega
  unfold docGood at hV
  rw [hrv] at HRt hV
  clear hrv
  generalize placeB d.country = pB at HCo hV
  generalize badAny d.lines d.sale = bB at HCt hV
  clear HCu
  generalize currB d.currency = cB at hV
  clear hd1 hd2 hd3 hd4 hd5 hr hA hlc hcm hg hln hM
  have HV := Lib.hid hV
  clear hV
  go_enter Try.func23, Try.ntmps23
  go_wp2_with (first
      | (go_at_call 34; refine (code_isFrom _ _ _ _).mono ?_; rintro e w2 ⟨rfl, rfl⟩)
      | (go_at_call 35; refine (code_isDay _ _).mono ?_; rintro e w2 ⟨rfl, rfl⟩)
      | (go_at_call 36; refine (HCo.out _).mono ?_; rintro e w2 ⟨rfl, rfl⟩)
      | (go_at_call 37; refine (HRt.out _ HX.out.2).mono ?_; rintro e w3 ⟨rfl, hb⟩; have HD1 := Lib.hid hb; have hx := heap_on HD1.out HX.out.1; obtain ⟨u0, u1, u2, u3, u4, u5, u6, u7, u8⟩ := cellsLineV hx; clear hx; clear hb; refine Stop.out ?_))
  all_goals first
      | (go_ret; exact ⟨ret_bool (by rw [← HV.out]; clear HX; first | (simp_all; done) | (simp_all; intros; omega) | (simp_all; omega)), by first | exact HB.out | exact below_then HX.out.2 HD2.out | exact below_then HX.out.2 HD1.out | exact HX.out.2⟩)
      | (unfold Stop; go_wp2_with (first | (go_at_call 34; refine (code_isFrom _ _ _ _).mono ?_; rintro e w2 ⟨rfl, rfl⟩) | (go_at_call 39; refine (HCt.out _ HD1.out).mono ?_; rintro e w5 ⟨rfl, hb⟩; have HB := Lib.hid (below_then HX.out.2 (below_then HD1.out hb)); clear hb)); all_goals (go_ret; exact ⟨ret_bool (by rw [← HV.out]; clear HX; first | (simp_all; done) | (simp_all; intros; omega) | (simp_all; omega)), by first | exact HB.out | exact below_then HX.out.2 HD2.out | exact below_then HX.out.2 HD1.out | exact HX.out.2⟩))
set_option maxHeartbeats 8000000 in
theorem goodDoc_n1c0 (d : DocV) (V : Bool) (w : World) (hd : DocVOk w d) (hln : d.lines.length ≤ 140737488351232) (hM : MaxL w) (hn : d.number.toList.isEmpty = false) (hc : d.currency.toList.isEmpty = false) (hrv : rightP d.country d.number = true) (hcv : currB d.currency = false) (hV : docGood d (rightP d.country d.number) (currB d.currency) = V) : Calls Try.prog 23 #[.agg #[.string d.id, .bool d.sale, .bool d.credit, .string d.refers, .int .i64 d.day, .string d.country, .string d.number, .string d.currency, .slice d.linesA d.lines.length d.linesC]] w fun e w1 => e = .returned (.bool V) ∧ Below w.heap.size w w1 := by
  obtain ⟨hd1, hd2, hd3, hd4, hd5, hr, hA, hlc, hcm, hg⟩ := hd
  have HCo : Hid (∀ W : World, Calls Try.prog 36 #[.string d.country] W fun e w' => e = .returned (.bool (placeB d.country)) ∧ W = w') := Lib.hid (fun W => code_country d.country W (by omega))
  have HRt : Hid (∀ W, Below w.heap.size w W → Calls Try.prog 37 #[.string d.country, .string d.number] W fun e w' => e = .returned (.bool (rightP d.country d.number)) ∧ Below W.heap.size W w') := Lib.hid (fun W hb => code_right d.country d.number W hd3 (by omega) (hM.below hb))
  have HCu : Hid (∀ W, Calls Try.prog 38 #[.string d.currency] W fun e w' => e = .returned (.bool (currB d.currency)) ∧ Below W.heap.size W w') := Lib.hid (fun W => code_isCurrency d.currency W (by omega))
  have HX := Lib.hid (And.intro (heap_alloc_new w (.cells #[.string d.id, .bool d.sale, .bool d.credit, .string d.refers, .int .i64 d.day, .string d.country, .string d.number, .string d.currency, .slice d.linesA d.lines.length d.linesC] 29)) (below_alloc w (.cells #[.string d.id, .bool d.sale, .bool d.credit, .string d.refers, .int .i64 d.day, .string d.country, .string d.number, .string d.currency, .slice d.linesA d.lines.length d.linesC] 29)))
  have HCt : Hid (∀ W, Below (w.alloc (.cells #[.string d.id, .bool d.sale, .bool d.credit, .string d.refers, .int .i64 d.day, .string d.country, .string d.number, .string d.currency, .slice d.linesA d.lines.length d.linesC] 29)).heap.size (w.alloc (.cells #[.string d.id, .bool d.sale, .bool d.credit, .string d.refers, .int .i64 d.day, .string d.country, .string d.number, .string d.currency, .slice d.linesA d.lines.length d.linesC] 29)) W → Calls Try.prog 39 #[.slice d.linesA d.lines.length d.linesC, .func (Fn.func 40) #[] #[.pointer (some ⟨w.heap.size, 0, none⟩)]] W fun e w1 => e = .returned (.bool (badAny d.lines d.sale)) ∧ Below W.heap.size W w1) := Lib.hid (fun W hb => code_containsLine d.linesA d.lines d.linesC w.heap.size d.sale W (hr.on (below_then (below_alloc w (.cells #[.string d.id, .bool d.sale, .bool d.credit, .string d.refers, .int .i64 d.day, .string d.country, .string d.number, .string d.currency, .slice d.linesA d.lines.length d.linesC] 29)) hb)) hlc hln hg (heapLt (heap_on hb (heap_alloc_new w (.cells #[.string d.id, .bool d.sale, .bool d.credit, .string d.refers, .int .i64 d.day, .string d.country, .string d.number, .string d.currency, .slice d.linesA d.lines.length d.linesC] 29)))) (cellsLineV (heap_on hb (heap_alloc_new w (.cells #[.string d.id, .bool d.sale, .bool d.credit, .string d.refers, .int .i64 d.day, .string d.country, .string d.number, .string d.currency, .slice d.linesA d.lines.length d.linesC] 29)))).2.1)
  have i1 : (d.id.size : Int) ≤ 140737488351232 := by omega
  have i2 : (d.refers.size : Int) ≤ 140737488351232 := by omega
  have i3 : (d.lines.length : Int) ≤ 140737488351232 := by omega
  unfold docGood at hV
  rw [hcv] at HCu hV
  clear hcv
  rw [hrv] at HRt hV
  clear hrv
  generalize placeB d.country = pB at HCo hV
  generalize badAny d.lines d.sale = bB at HCt hV
  clear hd1 hd2 hd3 hd4 hd5 hr hA hlc hcm hg hln hM
  have HV := Lib.hid hV
  clear hV
  go_enter Try.func23, Try.ntmps23
  go_wp2_with (first
      | (go_at_call 34; refine (code_isFrom _ _ _ _).mono ?_; rintro e w2 ⟨rfl, rfl⟩)
      | (go_at_call 35; refine (code_isDay _ _).mono ?_; rintro e w2 ⟨rfl, rfl⟩)
      | (go_at_call 36; refine (HCo.out _).mono ?_; rintro e w2 ⟨rfl, rfl⟩)
      | (go_at_call 37; refine (HRt.out _ HX.out.2).mono ?_; rintro e w3 ⟨rfl, hb⟩; have HD1 := Lib.hid hb; have hx := heap_on HD1.out HX.out.1; obtain ⟨u0, u1, u2, u3, u4, u5, u6, u7, u8⟩ := cellsLineV hx; clear hx; clear hb; refine Stop.out ?_))
  all_goals first
      | (go_ret; exact ⟨ret_bool (by rw [← HV.out]; clear HX; first | (simp_all; done) | (simp_all; intros; omega) | (simp_all; omega)), by first | exact HB.out | exact below_then HX.out.2 HD2.out | exact below_then HX.out.2 HD1.out | exact HX.out.2⟩)
      | (unfold Stop; go_wp2_with (first | (go_at_call 38; refine (HCu.out _).mono ?_; rintro e w4 ⟨rfl, hb⟩; clear u0 u1 u2 u3 u4 u5 u6 u7 u8; have HD2 := Lib.hid (below_then HD1.out hb); have hx := heap_on HD2.out HX.out.1; obtain ⟨u0, u1, u2, u3, u4, u5, u6, u7, u8⟩ := cellsLineV hx; clear hx; clear hb)); all_goals (go_ret; exact ⟨ret_bool (by rw [← HV.out]; clear HX; first | (simp_all; done) | (simp_all; intros; omega) | (simp_all; omega)), by first | exact HB.out | exact below_then HX.out.2 HD2.out | exact below_then HX.out.2 HD1.out | exact HX.out.2⟩))
set_option maxHeartbeats 8000000 in
theorem goodDoc_n1c1 (d : DocV) (V : Bool) (w : World) (hd : DocVOk w d) (hln : d.lines.length ≤ 140737488351232) (hM : MaxL w) (hn : d.number.toList.isEmpty = false) (hc : d.currency.toList.isEmpty = false) (hrv : rightP d.country d.number = true) (hcv : currB d.currency = true) (hV : docGood d (rightP d.country d.number) (currB d.currency) = V) : Calls Try.prog 23 #[.agg #[.string d.id, .bool d.sale, .bool d.credit, .string d.refers, .int .i64 d.day, .string d.country, .string d.number, .string d.currency, .slice d.linesA d.lines.length d.linesC]] w fun e w1 => e = .returned (.bool V) ∧ Below w.heap.size w w1 := by
  obtain ⟨hd1, hd2, hd3, hd4, hd5, hr, hA, hlc, hcm, hg⟩ := hd
  have HCo : Hid (∀ W : World, Calls Try.prog 36 #[.string d.country] W fun e w' => e = .returned (.bool (placeB d.country)) ∧ W = w') := Lib.hid (fun W => code_country d.country W (by omega))
  have HRt : Hid (∀ W, Below w.heap.size w W → Calls Try.prog 37 #[.string d.country, .string d.number] W fun e w' => e = .returned (.bool (rightP d.country d.number)) ∧ Below W.heap.size W w') := Lib.hid (fun W hb => code_right d.country d.number W hd3 (by omega) (hM.below hb))
  have HCu : Hid (∀ W, Calls Try.prog 38 #[.string d.currency] W fun e w' => e = .returned (.bool (currB d.currency)) ∧ Below W.heap.size W w') := Lib.hid (fun W => code_isCurrency d.currency W (by omega))
  have HX := Lib.hid (And.intro (heap_alloc_new w (.cells #[.string d.id, .bool d.sale, .bool d.credit, .string d.refers, .int .i64 d.day, .string d.country, .string d.number, .string d.currency, .slice d.linesA d.lines.length d.linesC] 29)) (below_alloc w (.cells #[.string d.id, .bool d.sale, .bool d.credit, .string d.refers, .int .i64 d.day, .string d.country, .string d.number, .string d.currency, .slice d.linesA d.lines.length d.linesC] 29)))
  have HCt : Hid (∀ W, Below (w.alloc (.cells #[.string d.id, .bool d.sale, .bool d.credit, .string d.refers, .int .i64 d.day, .string d.country, .string d.number, .string d.currency, .slice d.linesA d.lines.length d.linesC] 29)).heap.size (w.alloc (.cells #[.string d.id, .bool d.sale, .bool d.credit, .string d.refers, .int .i64 d.day, .string d.country, .string d.number, .string d.currency, .slice d.linesA d.lines.length d.linesC] 29)) W → Calls Try.prog 39 #[.slice d.linesA d.lines.length d.linesC, .func (Fn.func 40) #[] #[.pointer (some ⟨w.heap.size, 0, none⟩)]] W fun e w1 => e = .returned (.bool (badAny d.lines d.sale)) ∧ Below W.heap.size W w1) := Lib.hid (fun W hb => code_containsLine d.linesA d.lines d.linesC w.heap.size d.sale W (hr.on (below_then (below_alloc w (.cells #[.string d.id, .bool d.sale, .bool d.credit, .string d.refers, .int .i64 d.day, .string d.country, .string d.number, .string d.currency, .slice d.linesA d.lines.length d.linesC] 29)) hb)) hlc hln hg (heapLt (heap_on hb (heap_alloc_new w (.cells #[.string d.id, .bool d.sale, .bool d.credit, .string d.refers, .int .i64 d.day, .string d.country, .string d.number, .string d.currency, .slice d.linesA d.lines.length d.linesC] 29)))) (cellsLineV (heap_on hb (heap_alloc_new w (.cells #[.string d.id, .bool d.sale, .bool d.credit, .string d.refers, .int .i64 d.day, .string d.country, .string d.number, .string d.currency, .slice d.linesA d.lines.length d.linesC] 29)))).2.1)
  have i1 : (d.id.size : Int) ≤ 140737488351232 := by omega
  have i2 : (d.refers.size : Int) ≤ 140737488351232 := by omega
  have i3 : (d.lines.length : Int) ≤ 140737488351232 := by omega
  unfold docGood at hV
  rw [hcv] at HCu hV
  clear hcv
  rw [hrv] at HRt hV
  clear hrv
  generalize placeB d.country = pB at HCo hV
  generalize badAny d.lines d.sale = bB at HCt hV
  clear hd1 hd2 hd3 hd4 hd5 hr hA hlc hcm hg hln hM
  have HV := Lib.hid hV
  clear hV
  go_enter Try.func23, Try.ntmps23
  go_wp2_with (first
      | (go_at_call 34; refine (code_isFrom _ _ _ _).mono ?_; rintro e w2 ⟨rfl, rfl⟩)
      | (go_at_call 35; refine (code_isDay _ _).mono ?_; rintro e w2 ⟨rfl, rfl⟩)
      | (go_at_call 36; refine (HCo.out _).mono ?_; rintro e w2 ⟨rfl, rfl⟩)
      | (go_at_call 37; refine (HRt.out _ HX.out.2).mono ?_; rintro e w3 ⟨rfl, hb⟩; have HD1 := Lib.hid hb; have hx := heap_on HD1.out HX.out.1; obtain ⟨u0, u1, u2, u3, u4, u5, u6, u7, u8⟩ := cellsLineV hx; clear hx; clear hb; refine Stop.out ?_))
  all_goals first
      | (go_ret; exact ⟨ret_bool (by rw [← HV.out]; clear HX; first | (simp_all; done) | (simp_all; intros; omega) | (simp_all; omega)), by first | exact HB.out | exact below_then HX.out.2 HD2.out | exact below_then HX.out.2 HD1.out | exact HX.out.2⟩)
      | (unfold Stop; go_wp2_with (first | (go_at_call 38; refine (HCu.out _).mono ?_; rintro e w4 ⟨rfl, hb⟩; clear u0 u1 u2 u3 u4 u5 u6 u7 u8; have HD2 := Lib.hid (below_then HD1.out hb); have hx := heap_on HD2.out HX.out.1; obtain ⟨u0, u1, u2, u3, u4, u5, u6, u7, u8⟩ := cellsLineV hx; clear hx; clear hb; refine Stop.out ?_)); all_goals first | (go_ret; exact ⟨ret_bool (by rw [← HV.out]; clear HX; first | (simp_all; done) | (simp_all; intros; omega) | (simp_all; omega)), by first | exact HB.out | exact below_then HX.out.2 HD2.out | exact below_then HX.out.2 HD1.out | exact HX.out.2⟩) | (unfold Stop; go_wp2_with (first | (go_at_call 34; refine (code_isFrom _ _ _ _).mono ?_; rintro e w2 ⟨rfl, rfl⟩) | (go_at_call 39; refine (HCt.out _ HD2.out).mono ?_; rintro e w5 ⟨rfl, hb⟩; have HB := Lib.hid (below_then HX.out.2 (below_then HD2.out hb)); clear hb)); all_goals (go_ret; exact ⟨ret_bool (by rw [← HV.out]; clear HX; first | (simp_all; done) | (simp_all; intros; omega) | (simp_all; omega)), by first | exact HB.out | exact below_then HX.out.2 HD2.out | exact below_then HX.out.2 HD1.out | exact HX.out.2⟩)))
theorem goodDoc_any (d : DocV) (w : World) (hd : DocVOk w d) (hln : d.lines.length ≤ 140737488351232) (hM : MaxL w) : Calls Try.prog 23 #[.agg #[.string d.id, .bool d.sale, .bool d.credit, .string d.refers, .int .i64 d.day, .string d.country, .string d.number, .string d.currency, .slice d.linesA d.lines.length d.linesC]] w fun e w1 => e = .returned (.bool (docGood d (rightP d.country d.number) (currB d.currency))) ∧ Below w.heap.size w w1 := by
  cases hn : d.number.toList.isEmpty
  · cases hr : rightP d.country d.number
    · exact goodDoc_n0 d _ w hd hln hM hn hr (by rw [hr])
    · cases hc : d.currency.toList.isEmpty
      · cases hcu : currB d.currency
        · exact goodDoc_n1c0 d _ w hd hln hM hn hc hr hcu (by rw [hr, hcu])
        · exact goodDoc_n1c1 d _ w hd hln hM hn hc hr hcu (by rw [hr, hcu])
      · exact goodDoc_n1 d _ w hd hln hM hn hc hr (by rw [hr])
  · cases hc : d.currency.toList.isEmpty
    · cases hcu : currB d.currency
      · exact goodDoc_c0 d _ w hd hln hM hn hc hcu (by rw [hcu])
      · exact goodDoc_c1 d _ w hd hln hM hn hc hcu (by rw [hcu])
    · exact goodDoc_bare d _ w hd hln hn hc (by unfold docGood; simp only [hn, hc, Bool.true_or])
end Go.Proofs.Ytjanhgekocpobaa
