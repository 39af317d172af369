/- Where a line is supplied: the state. -/
import Derived.Test.YtdpafndejobbjaaPlC
import Derived.Test.YtdpafndejobbjaaDrawB
import Derived.WalkMore
namespace Go.Proofs.Ytdpafndejobbjaa
open Go.RowKit
set_option maxRecDepth 100000
set_option linter.unusedSimpArgs false
set_option linter.unusedVariables false

structure StS (b : Nat) (d : DocV) (su ca : Int) (fr to_ pl : ByteArray) (am : Int) (gr : Bool) (co : Int) (mi : Bool) (sa : Bool) (cs : Int) (ex : Bool) (fz tz pz lz : Int) (bu ov : Bool) (W : World) : Prop where
  hd : W.heap[b]? = some (.cells #[.string d.id, .bool d.sale, .bool d.credit, .string d.refers, .int .i64 d.day, .string d.country, .string d.number, .string d.currency, .slice d.linesA d.lines.length d.linesC] 26 (0, 0))
  hl : W.heap[b + 1]? = some (.cells #[.int .i64 su, .int .i64 ca, .string fr, .string to_, .string pl, .int .i64 am, .bool gr, .int .i64 co, .bool mi] 34 (0, 0))
  hc : W.heap[b + 1 + 1]? = some (.cells #[.bool sa, .int .i64 cs, .bool ex, .int .i64 fz, .int .i64 tz, .int .i64 pz, .int .i64 lz, .bool bu, .bool ov] 37 (0, 0))
theorem StS.on {b : Nat} {d : DocV} {su ca : Int} {fr to_ pl : ByteArray} {am : Int} {gr : Bool} {co : Int} {mi : Bool} {sa : Bool} {cs : Int} {ex : Bool} {fz tz pz lz : Int} {bu ov : Bool} {W W' : World} (h : StS b d su ca fr to_ pl am gr co mi sa cs ex fz tz pz lz bu ov W) (hb : Below W.heap.size W W') : StS b d su ca fr to_ pl am gr co mi sa cs ex fz tz pz lz bu ov W' := ⟨heap_on hb h.hd, heap_on hb h.hl, heap_on hb h.hc⟩
theorem StS.cell {b : Nat} {d : DocV} {su ca : Int} {fr to_ pl : ByteArray} {am : Int} {gr : Bool} {co : Int} {mi : Bool} {sa : Bool} {cs : Int} {ex : Bool} {fz tz pz lz : Int} {bu ov : Bool} {W : World} (h : StS b d su ca fr to_ pl am gr co mi sa cs ex fz tz pz lz bu ov W) {g : Nat} (hg : b + 1 + 1 < g) (i : Nat) (v : Value) : StS b d su ca fr to_ pl am gr co mi sa cs ex fz tz pz lz bu ov (W.setCell ⟨g, i, none⟩ v) :=
  ⟨(heap_setCell_other _ _ _ _ (by simp; omega)).trans h.hd, (heap_setCell_other _ _ _ _ (by simp; omega)).trans h.hl, (heap_setCell_other _ _ _ _ (by simp; omega)).trans h.hc⟩
theorem StS.docC {b : Nat} {d : DocV} {su ca : Int} {fr to_ pl : ByteArray} {am : Int} {gr : Bool} {co : Int} {mi : Bool} {sa : Bool} {cs : Int} {ex : Bool} {fz tz pz lz : Int} {bu ov : Bool} {W : World} (h : StS b d su ca fr to_ pl am gr co mi sa cs ex fz tz pz lz bu ov W) : W.cell? ⟨b, 0, none⟩ = some (.string d.id) ∧ W.cell? ⟨b, 1, none⟩ = some (.bool d.sale) ∧ W.cell? ⟨b, 2, none⟩ = some (.bool d.credit) ∧ W.cell? ⟨b, 3, none⟩ = some (.string d.refers) ∧ W.cell? ⟨b, 4, none⟩ = some (.int .i64 d.day) ∧ W.cell? ⟨b, 5, none⟩ = some (.string d.country) ∧ W.cell? ⟨b, 6, none⟩ = some (.string d.number) ∧ W.cell? ⟨b, 7, none⟩ = some (.string d.currency) ∧ W.cell? ⟨b, 8, none⟩ = some (.slice d.linesA d.lines.length d.linesC) := cellsLineV h.hd
theorem StS.lineC {b : Nat} {d : DocV} {su ca : Int} {fr to_ pl : ByteArray} {am : Int} {gr : Bool} {co : Int} {mi : Bool} {sa : Bool} {cs : Int} {ex : Bool} {fz tz pz lz : Int} {bu ov : Bool} {W : World} (h : StS b d su ca fr to_ pl am gr co mi sa cs ex fz tz pz lz bu ov W) : W.cell? ⟨b + 1, 0, none⟩ = some (.int .i64 su) ∧ W.cell? ⟨b + 1, 1, none⟩ = some (.int .i64 ca) ∧ W.cell? ⟨b + 1, 2, none⟩ = some (.string fr) ∧ W.cell? ⟨b + 1, 3, none⟩ = some (.string to_) ∧ W.cell? ⟨b + 1, 4, none⟩ = some (.string pl) ∧ W.cell? ⟨b + 1, 5, none⟩ = some (.int .i64 am) ∧ W.cell? ⟨b + 1, 6, none⟩ = some (.bool gr) ∧ W.cell? ⟨b + 1, 7, none⟩ = some (.int .i64 co) ∧ W.cell? ⟨b + 1, 8, none⟩ = some (.bool mi) := cellsLineV h.hl
theorem StS.caseC {b : Nat} {d : DocV} {su ca : Int} {fr to_ pl : ByteArray} {am : Int} {gr : Bool} {co : Int} {mi : Bool} {sa : Bool} {cs : Int} {ex : Bool} {fz tz pz lz : Int} {bu ov : Bool} {W : World} (h : StS b d su ca fr to_ pl am gr co mi sa cs ex fz tz pz lz bu ov W) : W.cell? ⟨b + 1 + 1, 0, none⟩ = some (.bool sa) ∧ W.cell? ⟨b + 1 + 1, 1, none⟩ = some (.int .i64 cs) ∧ W.cell? ⟨b + 1 + 1, 2, none⟩ = some (.bool ex) ∧ W.cell? ⟨b + 1 + 1, 3, none⟩ = some (.int .i64 fz) ∧ W.cell? ⟨b + 1 + 1, 4, none⟩ = some (.int .i64 tz) ∧ W.cell? ⟨b + 1 + 1, 5, none⟩ = some (.int .i64 pz) ∧ W.cell? ⟨b + 1 + 1, 6, none⟩ = some (.int .i64 lz) ∧ W.cell? ⟨b + 1 + 1, 7, none⟩ = some (.bool bu) ∧ W.cell? ⟨b + 1 + 1, 8, none⟩ = some (.bool ov) := cellsLineV h.hc
theorem stS_start (w : World) (d : DocV) (su ca : Int) (fr to_ pl : ByteArray) (am : Int) (gr : Bool) (co : Int) (mi : Bool) (sa : Bool) (cs : Int) (ex : Bool) (fz tz pz lz : Int) (bu ov : Bool) : StS w.heap.size d su ca fr to_ pl am gr co mi sa cs ex fz tz pz lz bu ov (((w.alloc (.cells #[.string d.id, .bool d.sale, .bool d.credit, .string d.refers, .int .i64 d.day, .string d.country, .string d.number, .string d.currency, .slice d.linesA d.lines.length d.linesC] 26)).alloc (.cells #[.int .i64 su, .int .i64 ca, .string fr, .string to_, .string pl, .int .i64 am, .bool gr, .int .i64 co, .bool mi] 34)).alloc (.cells #[.bool sa, .int .i64 cs, .bool ex, .int .i64 fz, .int .i64 tz, .int .i64 pz, .int .i64 lz, .bool bu, .bool ov] 37)) := by
  have h0 := heap_alloc_new w (.cells #[.string d.id, .bool d.sale, .bool d.credit, .string d.refers, .int .i64 d.day, .string d.country, .string d.number, .string d.currency, .slice d.linesA d.lines.length d.linesC] 26)
  have h1 := heap_alloc_new (w.alloc (.cells #[.string d.id, .bool d.sale, .bool d.credit, .string d.refers, .int .i64 d.day, .string d.country, .string d.number, .string d.currency, .slice d.linesA d.lines.length d.linesC] 26)) (.cells #[.int .i64 su, .int .i64 ca, .string fr, .string to_, .string pl, .int .i64 am, .bool gr, .int .i64 co, .bool mi] 34)
  have h2 := heap_alloc_new ((w.alloc (.cells #[.string d.id, .bool d.sale, .bool d.credit, .string d.refers, .int .i64 d.day, .string d.country, .string d.number, .string d.currency, .slice d.linesA d.lines.length d.linesC] 26)).alloc (.cells #[.int .i64 su, .int .i64 ca, .string fr, .string to_, .string pl, .int .i64 am, .bool gr, .int .i64 co, .bool mi] 34)) (.cells #[.bool sa, .int .i64 cs, .bool ex, .int .i64 fz, .int .i64 tz, .int .i64 pz, .int .i64 lz, .bool bu, .bool ov] 37)
  simp only [World.size_alloc] at h1 h2
  exact ⟨heap_on (by repeat (first | exact below_alloc _ _ | exact below_same _ | assumption | refine below_more ?_)) h0, heap_on (by repeat (first | exact below_alloc _ _ | exact below_same _ | assumption | refine below_more ?_)) h1, h2⟩
def stateS (home : ByteArray) (sale : Bool) (country : ByteArray) (su : Int) (fr to_ pl : ByteArray) (z3 z4 z5 : Int) (bu ov : Bool) : ByteArray :=
  if locB su = true then pl else if sale = true then soldS home country su fr to_ z3 z4 z5 bu ov else boughtS home country su fr to_ z3 z5 bu
theorem ret_tup {a b : ByteArray} {e : Int} (h : a = b) : Ending.returned (.tuple #[.string a, .int .i64 e]) = .returned (.tuple #[.string b, .int .i64 e]) := by rw [h]
set_option maxHeartbeats 2000000 in
theorem state_wrong (home : ByteArray) (d : DocV) (su ca : Int) (fr to_ pl : ByteArray) (am : Int) (gr : Bool) (co : Int) (mi : Bool) (sa : Bool) (cs : Int) (ex : Bool) (fz tz pz lz : Int) (bu ov : Bool) (er : Int) (w : World) (hM : MaxL w) (her : er ≠ 0) (HCs : Hid (∀ W, MaxL W → Calls Try.prog 14 #[.string home, .agg #[.string d.id, .bool d.sale, .bool d.credit, .string d.refers, .int .i64 d.day, .string d.country, .string d.number, .string d.currency, .slice d.linesA d.lines.length d.linesC], .agg #[.int .i64 su, .int .i64 ca, .string fr, .string to_, .string pl, .int .i64 am, .bool gr, .int .i64 co, .bool mi]] W fun e w1 => e = .returned (.tuple #[.agg #[.bool false, .int .i64 0, .bool false, .int .i64 0, .int .i64 0, .int .i64 0, .int .i64 0, .bool false, .bool false], .int .i64 er]) ∧ Below W.heap.size W w1)) : Calls Try.prog 20 #[.string home, .agg #[.string d.id, .bool d.sale, .bool d.credit, .string d.refers, .int .i64 d.day, .string d.country, .string d.number, .string d.currency, .slice d.linesA d.lines.length d.linesC], .agg #[.int .i64 su, .int .i64 ca, .string fr, .string to_, .string pl, .int .i64 am, .bool gr, .int .i64 co, .bool mi], .agg #[.bool sa, .int .i64 cs, .bool ex, .int .i64 fz, .int .i64 tz, .int .i64 pz, .int .i64 lz, .bool bu, .bool ov]] w fun e w1 => e = .returned (.tuple #[.string ⟨#[]⟩, .int .i64 er]) ∧ Below w.heap.size w w1 := by
  have HM := Lib.hid hM
  have hne : (er != 0) = true := bne_iff_ne.2 her
  clear her hM
  go_enter Try.func20, Try.ntmps20
  go_wp2_with (go_at_call 14; refine (HCs.out _ (HM.out.below (by repeat (first | exact below_alloc _ _ | exact below_same _ | assumption | refine below_more ?_)))).mono ?_; rintro e w1 ⟨rfl, hb⟩; have HS1 := Lib.hid ((stS_start w d su ca fr to_ pl am gr co mi sa cs ex fz tz pz lz bu ov).on hb); have HW1 := Lib.hid (Below.trans (show Below w.heap.size w _ by repeat (first | exact below_alloc _ _ | exact below_same _ | assumption | refine below_more ?_)) (hb.mono (show w.heap.size ≤ _ by simp; try omega))); clear hb)
  go_ret2
  exact ⟨rfl, below_then HW1.out (below_alloc _ _)⟩
set_option maxHeartbeats 4000000 in
theorem state_right (home : ByteArray) (d : DocV) (su ca : Int) (fr to_ pl : ByteArray) (am : Int) (gr : Bool) (co : Int) (mi : Bool) (sa : Bool) (cs : Int) (ex : Bool) (fz tz pz lz : Int) (bu ov : Bool) (z3 z4 z5 z6 : Int) (w : World) (hM : MaxL w) (HCs : Hid (∀ W, MaxL W → Calls Try.prog 14 #[.string home, .agg #[.string d.id, .bool d.sale, .bool d.credit, .string d.refers, .int .i64 d.day, .string d.country, .string d.number, .string d.currency, .slice d.linesA d.lines.length d.linesC], .agg #[.int .i64 su, .int .i64 ca, .string fr, .string to_, .string pl, .int .i64 am, .bool gr, .int .i64 co, .bool mi]] W fun e w1 => e = .returned (.tuple #[.agg #[.bool d.sale, .int .i64 su, .bool (ca == 5), .int .i64 z3, .int .i64 z4, .int .i64 z5, .int .i64 z6, .bool false, .bool false], .int .i64 0]) ∧ Below W.heap.size W w1)) : Calls Try.prog 20 #[.string home, .agg #[.string d.id, .bool d.sale, .bool d.credit, .string d.refers, .int .i64 d.day, .string d.country, .string d.number, .string d.currency, .slice d.linesA d.lines.length d.linesC], .agg #[.int .i64 su, .int .i64 ca, .string fr, .string to_, .string pl, .int .i64 am, .bool gr, .int .i64 co, .bool mi], .agg #[.bool sa, .int .i64 cs, .bool ex, .int .i64 fz, .int .i64 tz, .int .i64 pz, .int .i64 lz, .bool bu, .bool ov]] w fun e w1 => e = .returned (.tuple #[.string (stateS home d.sale d.country su fr to_ pl z3 z4 z5 bu ov), .int .i64 0]) ∧ Below w.heap.size w w1 := by
  have HM := Lib.hid hM
  clear hM
  go_enter Try.func20, Try.ntmps20
  go_wp2_with (go_at_call 14; refine (HCs.out _ (HM.out.below (by repeat (first | exact below_alloc _ _ | exact below_same _ | assumption | refine below_more ?_)))).mono ?_; rintro e w1 ⟨rfl, hb⟩; have HS1 := Lib.hid ((stS_start w d su ca fr to_ pl am gr co mi sa cs ex fz tz pz lz bu ov).on hb); have HW1 := Lib.hid (Below.trans (show Below w.heap.size w _ by repeat (first | exact below_alloc _ _ | exact below_same _ | assumption | refine below_more ?_)) (hb.mono (show w.heap.size ≤ _ by simp; try omega))); clear hb)
  have HKa := Lib.hid (heap_alloc_new w1 (.cells #[.bool d.sale, .int .i64 su, .bool (ca == 5), .int .i64 z3, .int .i64 z4, .int .i64 z5, .int .i64 z6, .bool false, .bool false] 37))
  have HSa := Lib.hid (HS1.out.on (below_alloc w1 (.cells #[.bool d.sale, .int .i64 su, .bool (ca == 5), .int .i64 z3, .int .i64 z4, .int .i64 z5, .int .i64 z6, .bool false, .bool false] 37)))
  have HWa := Lib.hid (below_then HW1.out (below_alloc w1 (.cells #[.bool d.sale, .int .i64 su, .bool (ca == 5), .int .i64 z3, .int .i64 z4, .int .i64 z5, .int .i64 z6, .bool false, .bool false] 37)))
  have HG := Lib.hid (heapLt HS1.out.hc)
  clear HS1 HW1
  generalize hx : World.alloc w1 (.cells #[.bool d.sale, .int .i64 su, .bool (ca == 5), .int .i64 z3, .int .i64 z4, .int .i64 z5, .int .i64 z6, .bool false, .bool false] 37) = wa at HKa HSa HWa ⊢
  clear hx
  obtain ⟨g, hg⟩ : ∃ g, g = w1.heap.size := ⟨_, rfl⟩
  rw [← hg] at HKa HG
  rw [← hg]
  clear hg
  have HKd := Lib.hid (heap_on (below_drew wa) HKa.out)
  have HSd := Lib.hid (HSa.out.on (below_drew _))
  have HWd := Lib.hid (below_then HWa.out (below_drew _))
  clear HKa HSa HWa
  refine wp_region_held_drew (S := fun V => StS w.heap.size d su ca fr to_ pl am gr co mi sa cs ex fz tz pz lz bu ov V) (by kernel_rfl) HSd.out ?_
  intro hHeld
  generalize World.drew _ = wd at HKd HSd HWd hHeld ⊢
  (refine takeH (i := 0) (v := ?_) rfl (by kernel_rfl) (by kernel_rfl) (by kernel_rfl) (fun _ _ _ h => h) (Or.inl ⟨by rfl, ?_⟩) (by assumption) ?_; rotate_left; (focus ((intro wS hSw); (try dsimp only at hSw); obtain ⟨s0, s1, s2, s3, s4, s5, s6, s7, s8⟩ := hSw.caseC; go_simp; (try with_reducible rfl); done)); (try simp only [Act.put, List.setIfInBounds_toArray, List.set_cons_zero, List.set_cons_succ]))
  (refine takeH (i := 1) (v := ?_) rfl (by kernel_rfl) (by kernel_rfl) (by kernel_rfl) (fun _ _ _ h => h) (Or.inl ⟨by rfl, ?_⟩) (by assumption) ?_; rotate_left; (focus ((intro wS hSw); (try dsimp only at hSw); obtain ⟨s0, s1, s2, s3, s4, s5, s6, s7, s8⟩ := hSw.caseC; go_simp; (try with_reducible rfl); done)); (try simp only [Act.put, List.setIfInBounds_toArray, List.set_cons_zero, List.set_cons_succ]))
  (refine takeH (i := 2) (v := ?_) rfl (by kernel_rfl) (by kernel_rfl) (by kernel_rfl) (fun _ _ _ h => h) (Or.inl ⟨by rfl, ?_⟩) (by assumption) ?_; rotate_left; (focus ((intro wS hSw); (try dsimp only at hSw); obtain ⟨s0, s1, s2, s3, s4, s5, s6, s7, s8⟩ := hSw.caseC; go_simp; (try with_reducible rfl); done)); (try simp only [Act.put, List.setIfInBounds_toArray, List.set_cons_zero, List.set_cons_succ]))
  (refine takeH (i := 3) (v := ?_) rfl (by kernel_rfl) (by kernel_rfl) (by kernel_rfl) (fun _ _ _ h => h) (Or.inl ⟨by rfl, ?_⟩) (by assumption) ?_; rotate_left; (focus ((intro wS hSw); (try dsimp only at hSw); obtain ⟨s0, s1, s2, s3, s4, s5, s6, s7, s8⟩ := hSw.caseC; go_simp; (try with_reducible rfl); done)); (try simp only [Act.put, List.setIfInBounds_toArray, List.set_cons_zero, List.set_cons_succ]))
  (refine takeH (i := 4) (v := ?_) rfl (by kernel_rfl) (by kernel_rfl) (by kernel_rfl) (fun _ _ _ h => h) (Or.inl ⟨by rfl, ?_⟩) (by assumption) ?_; rotate_left; (focus ((intro wS hSw); (try dsimp only at hSw); obtain ⟨s0, s1, s2, s3, s4, s5, s6, s7, s8⟩ := hSw.caseC; go_simp; (try with_reducible rfl); done)); (try simp only [Act.put, List.setIfInBounds_toArray, List.set_cons_zero, List.set_cons_succ]))
  refine aloneH (i := 5) rfl (by kernel_rfl) (fun K hK => ?_)
  rw [if_pos (by rfl)]
  obtain ⟨k0, k1, k2, k3, k4, k5, k6, k7, k8⟩ := cellsLineV HKd.out
  have kf := frozen9 HKd.out 7 (by omega)
  go_simp
  have HS1 := Lib.hid (HSd.out.cell HG.out 7 (.bool bu))
  have HW1 := Lib.hid (below_set (b := g) (o := 7) (x := .bool bu) (by have := HG.out; omega) HWd.out)
  have HK1 : Hid ((World.setCell wd ⟨g, 7, none⟩ (.bool bu)).heap[g]? = some (.cells #[.bool d.sale, .int .i64 su, .bool (ca == 5), .int .i64 z3, .int .i64 z4, .int .i64 z5, .int .i64 z6, .bool bu, .bool false] 37 (0, 0))) := Lib.hid (heap_setCell_same _ g 7 _ _ _ HKd.out)
  clear k0 k1 k2 k3 k4 k5 k6 k7 k8 kf
  generalize hx : World.setCell wd ⟨g, 7, none⟩ (.bool bu) = w1 at HS1 HW1 HK1 ⊢
  clear hx
  refine hK.out _ _ (HS1.out) (fun hNew => ?_)
  clear hK K hHeld; (have hHeld := hNew); clear hNew; (try simp only [Act.put])
  (refine takeH (i := 6) (v := ?_) rfl (by kernel_rfl) (by kernel_rfl) (by kernel_rfl) (fun _ _ _ h => h) (Or.inl ⟨by rfl, ?_⟩) (by assumption) ?_; rotate_left; (focus ((intro wS hSw); (try dsimp only at hSw); obtain ⟨s0, s1, s2, s3, s4, s5, s6, s7, s8⟩ := hSw.caseC; go_simp; (try with_reducible rfl); done)); (try simp only [Act.put, List.setIfInBounds_toArray, List.set_cons_zero, List.set_cons_succ]))
  refine aloneH (i := 7) rfl (by kernel_rfl) (fun K hK => ?_)
  rw [if_pos (by rfl)]
  obtain ⟨k0, k1, k2, k3, k4, k5, k6, k7, k8⟩ := cellsLineV HK1.out
  have kf := frozen9 HK1.out 8 (by omega)
  go_simp
  have HS2 := Lib.hid (HS1.out.cell HG.out 8 (.bool ov))
  have HW2 := Lib.hid (below_set (b := g) (o := 8) (x := .bool ov) (by have := HG.out; omega) HW1.out)
  have HK2 : Hid ((World.setCell w1 ⟨g, 8, none⟩ (.bool ov)).heap[g]? = some (.cells #[.bool d.sale, .int .i64 su, .bool (ca == 5), .int .i64 z3, .int .i64 z4, .int .i64 z5, .int .i64 z6, .bool bu, .bool ov] 37 (0, 0))) := Lib.hid (heap_setCell_same _ g 8 _ _ _ HK1.out)
  clear k0 k1 k2 k3 k4 k5 k6 k7 k8 kf
  generalize hx : World.setCell w1 ⟨g, 8, none⟩ (.bool ov) = w2 at HS2 HW2 HK2 ⊢
  clear hx
  refine hK.out _ _ (HS2.out) (fun hNew => ?_)
  clear hK K hHeld; (have hHeld := hNew); clear hNew; (try simp only [Act.put])
  refine wpAnyH_done (by kernel_rfl) ?_ _
  clear hHeld
  obtain ⟨d0, d1, d2, d3, d4, d5, d6, d7, d8⟩ := HS2.out.docC
  obtain ⟨l0, l1, l2, l3, l4, l5, l6, l7, l8⟩ := HS2.out.lineC
  go_wp2_with (go_at_call 18; refine (code_local _ _ _ _ _ _ _ _ _ _).mono ?_; rintro e w5 ⟨rfl, hw⟩; have hb : Below w2.heap.size w2 w5 := (by rw [hw]; exact below_alloc _ _); have HS5 := Lib.hid (HS2.out.on hb); have HW5 := Lib.hid (below_then HW2.out hb); have HK5 := Lib.hid (heap_on hb HK2.out); clear hw hb d0 d1 d2 d3 d4 d5 d6 d7 d8 l0 l1 l2 l3 l4 l5 l6 l7 l8; refine Stop.out ?_)
  unfold Stop
  obtain ⟨d0, d1, d2, d3, d4, d5, d6, d7, d8⟩ := HS5.out.docC
  obtain ⟨l0, l1, l2, l3, l4, l5, l6, l7, l8⟩ := HS5.out.lineC
  obtain ⟨k0, k1, k2, k3, k4, k5, k6, k7, k8⟩ := cellsLineV HK5.out
  go_wp2_with (first
    | (go_at_call 31; refine (code_sold _ _ _ _ _ _ _ _ _ _ _ _ _ _ _ _ _ _ _ _ _).mono ?_; rintro e w6 ⟨rfl, hb⟩; have HB6 := Lib.hid (below_then HW5.out hb); clear hb)
    | (go_at_call 32; refine (code_bought _ _ _ _ _ _ _ _ _ _ _ _ _ _ _ _ _ _ _ _ _).mono ?_; rintro e w6 ⟨rfl, hb⟩; have HB6 := Lib.hid (below_then HW5.out hb); clear hb))
  all_goals
    go_ret2
    exact ⟨ret_tup (by simp_all [stateS]), by first | exact HB6.out | exact HW5.out⟩
end Go.Proofs.Ytdpafndejobbjaa
