/- Where a line is supplied is home, or a country that is named: walked. -/
import Derived.Test.YtdpafndejobbjaaPlM
import Derived.Test.YtdpafndejobbjaaPlI
import Derived.WalkMore
namespace Go.Proofs.Ytdpafndejobbjaa
open Go.RowKit
set_option maxRecDepth 100000
set_option linter.unusedSimpArgs false
set_option linter.unusedVariables false

set_option maxHeartbeats 2000000 in
theorem named_long1 (home : ByteArray) (d : DocV) (su ca : Int) (fr to_ pl : ByteArray) (am : Int) (gr : Bool) (co : Int) (mi : Bool) (sa : Bool) (cs : Int) (ex : Bool) (fz tz pz lz : Int) (bu ov : Bool) (other : ByteArray) (w : World) (hM : MaxL w) (HLi : Hid (∀ W, Below w.heap.size w W → Calls Try.prog 12 #[.string home, .agg #[.string d.id, .bool d.sale, .bool d.credit, .string d.refers, .int .i64 d.day, .string d.country, .string d.number, .string d.currency, .slice d.linesA d.lines.length d.linesC], .agg #[.int .i64 su, .int .i64 ca, .string fr, .string to_, .string pl, .int .i64 am, .bool gr, .int .i64 co, .bool mi]] W fun e w1 => e = .returned (.bool false) ∧ Below W.heap.size W w1)) : Calls Try.prog 5 #[.string home, .agg #[.string d.id, .bool d.sale, .bool d.credit, .string d.refers, .int .i64 d.day, .string d.country, .string d.number, .string d.currency, .slice d.linesA d.lines.length d.linesC], .agg #[.int .i64 su, .int .i64 ca, .string fr, .string to_, .string pl, .int .i64 am, .bool gr, .int .i64 co, .bool mi], .agg #[.bool sa, .int .i64 cs, .bool ex, .int .i64 fz, .int .i64 tz, .int .i64 pz, .int .i64 lz, .bool bu, .bool ov], .string other] w fun e w1 => e = .returned (.bool true) ∧ Below w.heap.size w w1 := by
  have HM := Lib.hid hM
  clear hM
  go_enter Try.func5, Try.ntmps5
  go_wp2_with (first
    | (go_at_call 12; refine (HLi.out _ (by repeat (first | exact below_alloc _ _ | exact below_same _ | assumption | refine below_more ?_))).mono ?_; rintro e w1 ⟨rfl, hb⟩; have HW1 := Lib.hid (Below.trans (show Below w.heap.size w _ by repeat (first | exact below_alloc _ _ | exact below_same _ | assumption | refine below_more ?_)) (hb.mono (show w.heap.size ≤ _ by simp; try omega))); clear hb)
    | (go_at_call 13; refine (lives17_any _ (HM.out.below HW1.out)).mono ?_; rintro e w2 ⟨rfl, hb⟩; have HW2 := Lib.hid (below_then HW1.out hb); clear hb))
  go_ret
  exact ⟨rfl, HW2.out⟩
set_option maxHeartbeats 2000000 in
theorem named_long2 (home : ByteArray) (d : DocV) (su ca : Int) (fr to_ pl : ByteArray) (am : Int) (gr : Bool) (co : Int) (mi : Bool) (sa : Bool) (cs : Int) (ex : Bool) (fz tz pz lz : Int) (bu ov : Bool) (other : ByteArray) (w : World) (hM : MaxL w) (ho : 100 < other.size) (ho2 : other.size ≤ 140737488351232) (HLi : Hid (∀ W, Below w.heap.size w W → Calls Try.prog 12 #[.string home, .agg #[.string d.id, .bool d.sale, .bool d.credit, .string d.refers, .int .i64 d.day, .string d.country, .string d.number, .string d.currency, .slice d.linesA d.lines.length d.linesC], .agg #[.int .i64 su, .int .i64 ca, .string fr, .string to_, .string pl, .int .i64 am, .bool gr, .int .i64 co, .bool mi]] W fun e w1 => e = .returned (.bool true) ∧ Below W.heap.size W w1)) : Calls Try.prog 5 #[.string home, .agg #[.string d.id, .bool d.sale, .bool d.credit, .string d.refers, .int .i64 d.day, .string d.country, .string d.number, .string d.currency, .slice d.linesA d.lines.length d.linesC], .agg #[.int .i64 su, .int .i64 ca, .string fr, .string to_, .string pl, .int .i64 am, .bool gr, .int .i64 co, .bool mi], .agg #[.bool sa, .int .i64 cs, .bool ex, .int .i64 fz, .int .i64 tz, .int .i64 pz, .int .i64 lz, .bool bu, .bool ov], .string other] w fun e w1 => e = .returned (.bool true) ∧ Below w.heap.size w w1 := by
  have HM := Lib.hid hM
  clear hM
  have j1 : (100 : Int) < (other.size : Int) := by omega
  have j2 : (other.size : Int) ≤ 140737488351232 := by omega
  clear ho ho2
  go_enter Try.func5, Try.ntmps5
  go_wp2_with (first
    | (go_at_call 12; refine (HLi.out _ (by repeat (first | exact below_alloc _ _ | exact below_same _ | assumption | refine below_more ?_))).mono ?_; rintro e w1 ⟨rfl, hb⟩; have HW1 := Lib.hid (Below.trans (show Below w.heap.size w _ by repeat (first | exact below_alloc _ _ | exact below_same _ | assumption | refine below_more ?_)) (hb.mono (show w.heap.size ≤ _ by simp; try omega))); clear hb)
    | (go_at_call 13; refine (lives17_any _ (HM.out.below HW1.out)).mono ?_; rintro e w2 ⟨rfl, hb⟩; have HW2 := Lib.hid (below_then HW1.out hb); clear hb))
  go_ret
  exact ⟨rfl, HW2.out⟩
set_option maxHeartbeats 2000000 in
theorem named_err (home : ByteArray) (d : DocV) (su ca : Int) (fr to_ pl : ByteArray) (am : Int) (gr : Bool) (co : Int) (mi : Bool) (sa : Bool) (cs : Int) (ex : Bool) (fz tz pz lz : Int) (bu ov : Bool) (other : ByteArray) (er : Int) (w : World) (hM : MaxL w) (ho : other.size ≤ 100) (her : er ≠ 0) (HLi : Hid (∀ W, Below w.heap.size w W → Calls Try.prog 12 #[.string home, .agg #[.string d.id, .bool d.sale, .bool d.credit, .string d.refers, .int .i64 d.day, .string d.country, .string d.number, .string d.currency, .slice d.linesA d.lines.length d.linesC], .agg #[.int .i64 su, .int .i64 ca, .string fr, .string to_, .string pl, .int .i64 am, .bool gr, .int .i64 co, .bool mi]] W fun e w1 => e = .returned (.bool true) ∧ Below W.heap.size W w1)) (HSt1 : Hid (∀ W, MaxL W → Calls Try.prog 20 #[.string home, .agg #[.string d.id, .bool d.sale, .bool d.credit, .string d.refers, .int .i64 d.day, .string d.country, .string d.number, .string d.currency, .slice d.linesA d.lines.length d.linesC], .agg #[.int .i64 su, .int .i64 ca, .string fr, .string to_, .string pl, .int .i64 am, .bool gr, .int .i64 co, .bool mi], .agg #[.bool sa, .int .i64 cs, .bool ex, .int .i64 fz, .int .i64 tz, .int .i64 pz, .int .i64 lz, .bool bu, .bool ov]] W fun e w1 => e = .returned (.tuple #[.string ⟨#[]⟩, .int .i64 er]) ∧ Below W.heap.size W w1)) : Calls Try.prog 5 #[.string home, .agg #[.string d.id, .bool d.sale, .bool d.credit, .string d.refers, .int .i64 d.day, .string d.country, .string d.number, .string d.currency, .slice d.linesA d.lines.length d.linesC], .agg #[.int .i64 su, .int .i64 ca, .string fr, .string to_, .string pl, .int .i64 am, .bool gr, .int .i64 co, .bool mi], .agg #[.bool sa, .int .i64 cs, .bool ex, .int .i64 fz, .int .i64 tz, .int .i64 pz, .int .i64 lz, .bool bu, .bool ov], .string other] w fun e w1 => e = .returned (.bool true) ∧ Below w.heap.size w w1 := by
  have hne : (er != 0) = true := bne_iff_ne.2 her
  clear her
  have HM := Lib.hid hM
  have j2 : (other.size : Int) ≤ 100 := by omega
  clear hM ho
  have h0 := heap_alloc_new w (.cells #[.string d.id, .bool d.sale, .bool d.credit, .string d.refers, .int .i64 d.day, .string d.country, .string d.number, .string d.currency, .slice d.linesA d.lines.length d.linesC] 26)
  have h1 := heap_alloc_new (w.alloc (.cells #[.string d.id, .bool d.sale, .bool d.credit, .string d.refers, .int .i64 d.day, .string d.country, .string d.number, .string d.currency, .slice d.linesA d.lines.length d.linesC] 26)) (.cells #[.int .i64 su, .int .i64 ca, .string fr, .string to_, .string pl, .int .i64 am, .bool gr, .int .i64 co, .bool mi] 34)
  have h2 := heap_alloc_new ((w.alloc (.cells #[.string d.id, .bool d.sale, .bool d.credit, .string d.refers, .int .i64 d.day, .string d.country, .string d.number, .string d.currency, .slice d.linesA d.lines.length d.linesC] 26)).alloc (.cells #[.int .i64 su, .int .i64 ca, .string fr, .string to_, .string pl, .int .i64 am, .bool gr, .int .i64 co, .bool mi] 34)) (.cells #[.bool sa, .int .i64 cs, .bool ex, .int .i64 fz, .int .i64 tz, .int .i64 pz, .int .i64 lz, .bool bu, .bool ov] 37)
  simp only [World.size_alloc] at h1 h2
  have HX0 := Lib.hid (heap_on (show Below _ (w.alloc (.cells #[.string d.id, .bool d.sale, .bool d.credit, .string d.refers, .int .i64 d.day, .string d.country, .string d.number, .string d.currency, .slice d.linesA d.lines.length d.linesC] 26)) (((w.alloc (.cells #[.string d.id, .bool d.sale, .bool d.credit, .string d.refers, .int .i64 d.day, .string d.country, .string d.number, .string d.currency, .slice d.linesA d.lines.length d.linesC] 26)).alloc (.cells #[.int .i64 su, .int .i64 ca, .string fr, .string to_, .string pl, .int .i64 am, .bool gr, .int .i64 co, .bool mi] 34)).alloc (.cells #[.bool sa, .int .i64 cs, .bool ex, .int .i64 fz, .int .i64 tz, .int .i64 pz, .int .i64 lz, .bool bu, .bool ov] 37)) from below_more (below_alloc _ _)) h0)
  have HX1 := Lib.hid (heap_on (below_alloc ((w.alloc (.cells #[.string d.id, .bool d.sale, .bool d.credit, .string d.refers, .int .i64 d.day, .string d.country, .string d.number, .string d.currency, .slice d.linesA d.lines.length d.linesC] 26)).alloc (.cells #[.int .i64 su, .int .i64 ca, .string fr, .string to_, .string pl, .int .i64 am, .bool gr, .int .i64 co, .bool mi] 34)) (.cells #[.bool sa, .int .i64 cs, .bool ex, .int .i64 fz, .int .i64 tz, .int .i64 pz, .int .i64 lz, .bool bu, .bool ov] 37)) h1)
  have HX2 := Lib.hid h2
  clear h0 h1 h2
  go_enter Try.func5, Try.ntmps5
  go_wp2_with (go_at_call 12; refine (HLi.out _ (by repeat (first | exact below_alloc _ _ | exact below_same _ | assumption | refine below_more ?_))).mono ?_; rintro e w1 ⟨rfl, hb⟩; have HW1 := Lib.hid (Below.trans (show Below w.heap.size w _ by repeat (first | exact below_alloc _ _ | exact below_same _ | assumption | refine below_more ?_)) (hb.mono (show w.heap.size ≤ _ by simp; try omega))); have HD1 := Lib.hid (heap_on hb HX0.out); have HL1 := Lib.hid (heap_on hb HX1.out); have HC1 := Lib.hid (heap_on hb HX2.out); clear hb; refine Stop.out ?_)
  unfold Stop
  obtain ⟨d0, d1, d2, d3, d4, d5, d6, d7, d8⟩ := cellsLineV HD1.out
  obtain ⟨l0, l1, l2, l3, l4, l5, l6, l7, l8⟩ := cellsLineV HL1.out
  obtain ⟨k0, k1, k2, k3, k4, k5, k6, k7, k8⟩ := cellsLineV HC1.out
  go_wp2_with (go_at_call 20; refine (HSt1.out _ (HM.out.below HW1.out)).mono ?_; rintro e w2 ⟨rfl, hb⟩; have HW2 := Lib.hid (below_then HW1.out hb); have HD2 := Lib.hid (heap_on hb HD1.out); have HL2 := Lib.hid (heap_on hb HL1.out); have HC2 := Lib.hid (heap_on hb HC1.out); clear hb d0 d1 d2 d3 d4 d5 d6 d7 d8 l0 l1 l2 l3 l4 l5 l6 l7 l8 k0 k1 k2 k3 k4 k5 k6 k7 k8; refine Stop.out ?_)
  unfold Stop
  go_wp2_with (go_at_call 13; refine (lives17_any _ (HM.out.below HW2.out)).mono ?_; rintro e w3 ⟨rfl, hb⟩; have HW3 := Lib.hid (below_then HW2.out hb); clear hb)
  go_ret
  exact ⟨rfl, HW3.out⟩
theorem str_eq_b {a b : ByteArray} (h : a = b) : (a.toList == b.toList) = true := by rw [h]; exact beq_self_eq_true _
theorem five_way {s a b c d e : ByteArray} (h : s = a ∨ s = b ∨ s = c ∨ s = d ∨ s = e) :
    (s.toList == a.toList) = true ∨ ((s.toList == a.toList) = false ∧ (s.toList == b.toList) = true) ∨ ((s.toList == a.toList) = false ∧ (s.toList == b.toList) = false ∧ (s.toList == c.toList) = true) ∨ ((s.toList == a.toList) = false ∧ (s.toList == b.toList) = false ∧ (s.toList == c.toList) = false ∧ (s.toList == d.toList) = true) ∨ ((s.toList == a.toList) = false ∧ (s.toList == b.toList) = false ∧ (s.toList == c.toList) = false ∧ (s.toList == d.toList) = false ∧ (s.toList == e.toList) = true) := by
  cases h1 : (s.toList == a.toList)
  · cases h2 : (s.toList == b.toList)
    · cases h3 : (s.toList == c.toList)
      · cases h4 : (s.toList == d.toList)
        · rcases h with h | h | h | h | h
          · rw [str_eq_b h] at h1; cases h1
          · rw [str_eq_b h] at h2; cases h2
          · rw [str_eq_b h] at h3; cases h3
          · rw [str_eq_b h] at h4; cases h4
          · exact .inr (.inr (.inr (.inr ⟨rfl, rfl, rfl, rfl, str_eq_b h⟩)))
        · exact .inr (.inr (.inr (.inl ⟨rfl, rfl, rfl, rfl⟩)))
      · exact .inr (.inr (.inl ⟨rfl, rfl, rfl⟩))
    · exact .inr (.inl ⟨rfl, rfl⟩)
  · exact .inl rfl
set_option maxHeartbeats 8000000 in
theorem named_ok (home : ByteArray) (d : DocV) (su ca : Int) (fr to_ pl : ByteArray) (am : Int) (gr : Bool) (co : Int) (mi : Bool) (sa : Bool) (cs : Int) (ex : Bool) (fz tz pz lz : Int) (bu ov : Bool) (other : ByteArray) (s t : ByteArray) (f : Int) (w : World) (hM : MaxL w) (ho : other.size ≤ 100) (hS : s = home ∨ s = d.country ∨ s = fr ∨ s = to_ ∨ s = pl) (hf : f ≠ 0 ∨ (f = 0 ∧ movB su = true ∧ t = s) ∨ (f = 0 ∧ movB su = false ∧ locB su = true ∧ t = s) ∨ (f = 0 ∧ movB su = false ∧ locB su = false)) (HLi : Hid (∀ W, Below w.heap.size w W → Calls Try.prog 12 #[.string home, .agg #[.string d.id, .bool d.sale, .bool d.credit, .string d.refers, .int .i64 d.day, .string d.country, .string d.number, .string d.currency, .slice d.linesA d.lines.length d.linesC], .agg #[.int .i64 su, .int .i64 ca, .string fr, .string to_, .string pl, .int .i64 am, .bool gr, .int .i64 co, .bool mi]] W fun e w1 => e = .returned (.bool true) ∧ Below W.heap.size W w1)) (HSt1 : Hid (∀ W, MaxL W → Calls Try.prog 20 #[.string home, .agg #[.string d.id, .bool d.sale, .bool d.credit, .string d.refers, .int .i64 d.day, .string d.country, .string d.number, .string d.currency, .slice d.linesA d.lines.length d.linesC], .agg #[.int .i64 su, .int .i64 ca, .string fr, .string to_, .string pl, .int .i64 am, .bool gr, .int .i64 co, .bool mi], .agg #[.bool sa, .int .i64 cs, .bool ex, .int .i64 fz, .int .i64 tz, .int .i64 pz, .int .i64 lz, .bool bu, .bool ov]] W fun e w1 => e = .returned (.tuple #[.string s, .int .i64 0]) ∧ Below W.heap.size W w1)) (HSt2 : Hid (∀ W, MaxL W → Calls Try.prog 20 #[.string home, .agg #[.string d.id, .bool d.sale, .bool d.credit, .string d.refers, .int .i64 d.day, .string other, .string d.number, .string d.currency, .slice d.linesA d.lines.length d.linesC], .agg #[.int .i64 su, .int .i64 ca, .string fr, .string to_, .string pl, .int .i64 am, .bool gr, .int .i64 co, .bool mi], .agg #[.bool sa, .int .i64 cs, .bool ex, .int .i64 fz, .int .i64 tz, .int .i64 pz, .int .i64 lz, .bool bu, .bool ov]] W fun e w1 => e = .returned (.tuple #[.string t, .int .i64 f]) ∧ Below W.heap.size W w1)) : Calls Try.prog 5 #[.string home, .agg #[.string d.id, .bool d.sale, .bool d.credit, .string d.refers, .int .i64 d.day, .string d.country, .string d.number, .string d.currency, .slice d.linesA d.lines.length d.linesC], .agg #[.int .i64 su, .int .i64 ca, .string fr, .string to_, .string pl, .int .i64 am, .bool gr, .int .i64 co, .bool mi], .agg #[.bool sa, .int .i64 cs, .bool ex, .int .i64 fz, .int .i64 tz, .int .i64 pz, .int .i64 lz, .bool bu, .bool ov], .string other] w fun e w1 => e = .returned (.bool true) ∧ Below w.heap.size w w1 := by
  have hs5 := five_way hS
  have HF : Hid ((f != 0) = true ∨ ((f != 0) = false ∧ movB su = true ∧ t = s) ∨ ((f != 0) = false ∧ movB su = false ∧ locB su = true ∧ t = s) ∨ ((f != 0) = false ∧ movB su = false ∧ locB su = false)) := Lib.hid (by
    rcases hf with h | ⟨rfl, h2, h3⟩ | ⟨rfl, h2, h3, h4⟩ | ⟨rfl, h2, h3⟩
    · exact .inl (bne_iff_ne.2 h)
    · exact .inr (.inl ⟨rfl, h2, h3⟩)
    · exact .inr (.inr (.inl ⟨rfl, h2, h3, h4⟩))
    · exact .inr (.inr (.inr ⟨rfl, h2, h3⟩)))
  clear hS hf
  have HMv : Hid (∀ W, Calls Try.prog 17 #[.agg #[.int .i64 su, .int .i64 ca, .string fr, .string to_, .string pl, .int .i64 am, .bool gr, .int .i64 co, .bool mi]] W fun e w1 => e = .returned (.bool (movB su)) ∧ Below W.heap.size W w1) := Lib.hid (fun W => (ref_moved su ca fr to_ pl am gr co mi W).mono (fun e w1 h => ⟨h.1, by rw [h.2]; exact below_alloc _ _⟩))
  have HLc : Hid (∀ W, Calls Try.prog 19 #[.agg #[.int .i64 su, .int .i64 ca, .string fr, .string to_, .string pl, .int .i64 am, .bool gr, .int .i64 co, .bool mi]] W fun e w1 => e = .returned (.bool (locB su)) ∧ Below W.heap.size W w1) := Lib.hid (fun W => (ref_local su ca fr to_ pl am gr co mi W).mono (fun e w1 h => ⟨h.1, by rw [h.2]; exact below_alloc _ _⟩))
  have HM := Lib.hid hM
  have j2 : (other.size : Int) ≤ 100 := by omega
  clear hM ho
  have h0 := heap_alloc_new w (.cells #[.string d.id, .bool d.sale, .bool d.credit, .string d.refers, .int .i64 d.day, .string d.country, .string d.number, .string d.currency, .slice d.linesA d.lines.length d.linesC] 26)
  have h1 := heap_alloc_new (w.alloc (.cells #[.string d.id, .bool d.sale, .bool d.credit, .string d.refers, .int .i64 d.day, .string d.country, .string d.number, .string d.currency, .slice d.linesA d.lines.length d.linesC] 26)) (.cells #[.int .i64 su, .int .i64 ca, .string fr, .string to_, .string pl, .int .i64 am, .bool gr, .int .i64 co, .bool mi] 34)
  have h2 := heap_alloc_new ((w.alloc (.cells #[.string d.id, .bool d.sale, .bool d.credit, .string d.refers, .int .i64 d.day, .string d.country, .string d.number, .string d.currency, .slice d.linesA d.lines.length d.linesC] 26)).alloc (.cells #[.int .i64 su, .int .i64 ca, .string fr, .string to_, .string pl, .int .i64 am, .bool gr, .int .i64 co, .bool mi] 34)) (.cells #[.bool sa, .int .i64 cs, .bool ex, .int .i64 fz, .int .i64 tz, .int .i64 pz, .int .i64 lz, .bool bu, .bool ov] 37)
  simp only [World.size_alloc] at h1 h2
  have HX0 := Lib.hid (heap_on (show Below _ (w.alloc (.cells #[.string d.id, .bool d.sale, .bool d.credit, .string d.refers, .int .i64 d.day, .string d.country, .string d.number, .string d.currency, .slice d.linesA d.lines.length d.linesC] 26)) (((w.alloc (.cells #[.string d.id, .bool d.sale, .bool d.credit, .string d.refers, .int .i64 d.day, .string d.country, .string d.number, .string d.currency, .slice d.linesA d.lines.length d.linesC] 26)).alloc (.cells #[.int .i64 su, .int .i64 ca, .string fr, .string to_, .string pl, .int .i64 am, .bool gr, .int .i64 co, .bool mi] 34)).alloc (.cells #[.bool sa, .int .i64 cs, .bool ex, .int .i64 fz, .int .i64 tz, .int .i64 pz, .int .i64 lz, .bool bu, .bool ov] 37)) from below_more (below_alloc _ _)) h0)
  have HX1 := Lib.hid (heap_on (below_alloc ((w.alloc (.cells #[.string d.id, .bool d.sale, .bool d.credit, .string d.refers, .int .i64 d.day, .string d.country, .string d.number, .string d.currency, .slice d.linesA d.lines.length d.linesC] 26)).alloc (.cells #[.int .i64 su, .int .i64 ca, .string fr, .string to_, .string pl, .int .i64 am, .bool gr, .int .i64 co, .bool mi] 34)) (.cells #[.bool sa, .int .i64 cs, .bool ex, .int .i64 fz, .int .i64 tz, .int .i64 pz, .int .i64 lz, .bool bu, .bool ov] 37)) h1)
  have HX2 := Lib.hid h2
  clear h0 h1 h2
  go_enter Try.func5, Try.ntmps5
  go_wp2_with (go_at_call 12; refine (HLi.out _ (by repeat (first | exact below_alloc _ _ | exact below_same _ | assumption | refine below_more ?_))).mono ?_; rintro e w1 ⟨rfl, hb⟩; have HW1 := Lib.hid (Below.trans (show Below w.heap.size w _ by repeat (first | exact below_alloc _ _ | exact below_same _ | assumption | refine below_more ?_)) (hb.mono (show w.heap.size ≤ _ by simp; try omega))); have HD1 := Lib.hid (heap_on hb HX0.out); have HL1 := Lib.hid (heap_on hb HX1.out); have HC1 := Lib.hid (heap_on hb HX2.out); clear hb; refine Stop.out ?_)
  unfold Stop
  obtain ⟨d0, d1, d2, d3, d4, d5, d6, d7, d8⟩ := cellsLineV HD1.out
  obtain ⟨l0, l1, l2, l3, l4, l5, l6, l7, l8⟩ := cellsLineV HL1.out
  obtain ⟨k0, k1, k2, k3, k4, k5, k6, k7, k8⟩ := cellsLineV HC1.out
  go_wp2_with (go_at_call 20; refine (HSt1.out _ (HM.out.below HW1.out)).mono ?_; rintro e w2 ⟨rfl, hb⟩; have HW2 := Lib.hid (below_then HW1.out hb); have HD2 := Lib.hid (heap_on hb HD1.out); have HL2 := Lib.hid (heap_on hb HL1.out); have HC2 := Lib.hid (heap_on hb HC1.out); clear hb d0 d1 d2 d3 d4 d5 d6 d7 d8 l0 l1 l2 l3 l4 l5 l6 l7 l8 k0 k1 k2 k3 k4 k5 k6 k7 k8; refine Stop.out ?_)
  unfold Stop
  obtain ⟨d0, d1, d2, d3, d4, d5, d6, d7, d8⟩ := cellsLineV HD2.out
  have kf := frozen9 HD2.out 5 (by omega)
  obtain ⟨l0, l1, l2, l3, l4, l5, l6, l7, l8⟩ := cellsLineV HL2.out
  obtain ⟨k0, k1, k2, k3, k4, k5, k6, k7, k8⟩ := cellsLineV HC2.out
  have HDb : Hid ((w2.setCell ⟨w.heap.size, 5, none⟩ (.string other)).heap[w.heap.size]? = some (.cells #[.string d.id, .bool d.sale, .bool d.credit, .string d.refers, .int .i64 d.day, .string other, .string d.number, .string d.currency, .slice d.linesA d.lines.length d.linesC] 26 (0, 0))) := Lib.hid (heap_setCell_same _ _ 5 _ _ _ HD2.out)
  have HLb := Lib.hid ((heap_setCell_other w2 ⟨w.heap.size, 5, none⟩ (w.heap.size + 1) (.string other) (by simp; try omega)).trans HL2.out)
  have HCb := Lib.hid ((heap_setCell_other w2 ⟨w.heap.size, 5, none⟩ (w.heap.size + 1 + 1) (.string other) (by simp; try omega)).trans HC2.out)
  have HWb := Lib.hid (below_set (b := w.heap.size) (o := 5) (x := .string other) (Nat.le_refl _) HW2.out)
  rcases hs5 with a1 | ⟨a1, a2⟩ | ⟨a1, a2, a3⟩ | ⟨a1, a2, a3, a4⟩ | ⟨a1, a2, a3, a4, a5⟩
  all_goals
    go_wp2_with (go_at_call 20; refine (HSt2.out _ (HM.out.below HWb.out)).mono ?_; rintro e w3 ⟨rfl, hb⟩; have HW3 := Lib.hid (below_then HWb.out hb); have HL3 := Lib.hid (heap_on hb HLb.out); clear hb d0 d1 d2 d3 d4 d5 d6 d7 d8 kf l0 l1 l2 l3 l4 l5 l6 l7 l8 k0 k1 k2 k3 k4 k5 k6 k7 k8; refine Stop.out ?_)
    unfold Stop
    (try clear a1); (try clear a2); (try clear a3); (try clear a4); (try clear a5)
    obtain ⟨l0, l1, l2, l3, l4, l5, l6, l7, l8⟩ := cellsLineV HL3.out
    rcases HF.out with b1 | ⟨b1, b2, b3⟩ | ⟨b1, b2, b3, b4⟩ | ⟨b1, b2, b3⟩
    · go_wp2_with (go_at_call 13; refine (lives17_any _ (HM.out.below HW3.out)).mono ?_; rintro e w4 ⟨rfl, hb⟩; have HW4 := Lib.hid (below_then HW3.out hb); clear hb)
      go_ret
      exact ⟨rfl, HW4.out⟩
    · rw [b2] at HMv
      subst b3
      have Q := fun l : List UInt8 => beq_self_eq_true l
      clear b2
      go_wp2_with (first
        | (go_at_call 17; refine (HMv.out _).mono ?_; rintro e w4 ⟨rfl, hb⟩; have HW4 := Lib.hid (below_then HW3.out hb); clear hb)
        | (go_at_call 13; refine (lives17_any _ (HM.out.below HW4.out)).mono ?_; rintro e w5 ⟨rfl, hb⟩; have HW5 := Lib.hid (below_then HW4.out hb); clear hb))
      go_ret
      exact ⟨rfl, HW5.out⟩
    · rw [b2] at HMv
      rw [b3] at HLc
      subst b4
      have Q := fun l : List UInt8 => beq_self_eq_true l
      clear b2 b3
      go_wp2_with (first
        | (go_at_call 17; refine (HMv.out _).mono ?_; rintro e w4 ⟨rfl, hb⟩; have HW4 := Lib.hid (below_then HW3.out hb); have HL4 := Lib.hid (heap_on hb HL3.out); clear hb l0 l1 l2 l3 l4 l5 l6 l7 l8; obtain ⟨l0, l1, l2, l3, l4, l5, l6, l7, l8⟩ := cellsLineV HL4.out)
        | (go_at_call 19; refine (HLc.out _).mono ?_; rintro e w5 ⟨rfl, hb⟩; have HW5 := Lib.hid (below_then HW4.out hb); clear hb)
        | (go_at_call 13; refine (lives17_any _ (HM.out.below HW5.out)).mono ?_; rintro e w6 ⟨rfl, hb⟩; have HW6 := Lib.hid (below_then HW5.out hb); clear hb))
      go_ret
      exact ⟨rfl, HW6.out⟩
    · rw [b2] at HMv
      rw [b3] at HLc
      clear b2 b3
      go_wp2_with (first
        | (go_at_call 17; refine (HMv.out _).mono ?_; rintro e w4 ⟨rfl, hb⟩; have HW4 := Lib.hid (below_then HW3.out hb); have HL4 := Lib.hid (heap_on hb HL3.out); clear hb l0 l1 l2 l3 l4 l5 l6 l7 l8; obtain ⟨l0, l1, l2, l3, l4, l5, l6, l7, l8⟩ := cellsLineV HL4.out)
        | (go_at_call 19; refine (HLc.out _).mono ?_; rintro e w5 ⟨rfl, hb⟩; have HW5 := Lib.hid (below_then HW4.out hb); clear hb)
        | (go_at_call 13; refine (lives17_any _ (HM.out.below HW5.out)).mono ?_; rintro e w6 ⟨rfl, hb⟩; have HW6 := Lib.hid (below_then HW5.out hb); clear hb))
      go_ret
      exact ⟨rfl, HW6.out⟩
end Go.Proofs.Ytdpafndejobbjaa
