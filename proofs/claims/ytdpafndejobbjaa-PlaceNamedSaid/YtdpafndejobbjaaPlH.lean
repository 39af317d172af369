/- Where a line is supplied, as the document says it. -/
import Derived.Test.YtdpafndejobbjaaPlC
import Derived.Test.YtdpafndejobbjaaDocF
import Derived.Test.YtdpafndejobbjaaDrawB
import Derived.WalkMore
import Derived.Laws.Tables
import Derived.Laws.CopyOwn
namespace Go.Proofs.Ytdpafndejobbjaa
open Go.RowKit
set_option maxRecDepth 100000
set_option linter.unusedSimpArgs false
set_option linter.unusedVariables false

structure RefS (b : Nat) (d : DocV) (su ca : Int) (fr to_ pl : ByteArray) (am : Int) (gr : Bool) (co : Int) (mi : Bool) (W : World) : Prop where
  hd : W.heap[b]? = some (.cells #[.string d.id, .bool d.sale, .bool d.credit, .string d.refers, .int .i64 d.day, .string d.country, .string d.number, .string d.currency, .slice d.linesA d.lines.length d.linesC] 26 (0, 0))
  hl : W.heap[b + 1]? = some (.cells #[.int .i64 su, .int .i64 ca, .string fr, .string to_, .string pl, .int .i64 am, .bool gr, .int .i64 co, .bool mi] 34 (0, 0))
  hr : W.heap[b + 1 + 1]? = some (.cells #[.bool false, .int .i64 0, .bool false, .int .i64 0, .int .i64 0, .int .i64 0, .int .i64 0, .bool false, .bool false] 37 (0, 0))
theorem RefS.on {b : Nat} {d : DocV} {su ca : Int} {fr to_ pl : ByteArray} {am : Int} {gr : Bool} {co : Int} {mi : Bool} {W W' : World} (h : RefS b d su ca fr to_ pl am gr co mi W) (hb : Below W.heap.size W W') : RefS b d su ca fr to_ pl am gr co mi W' := ⟨heap_on hb h.hd, heap_on hb h.hl, heap_on hb h.hr⟩
theorem RefS.row {b : Nat} {d : DocV} {su ca : Int} {fr to_ pl : ByteArray} {am : Int} {gr : Bool} {co : Int} {mi : Bool} {W : World} (h : RefS b d su ca fr to_ pl am gr co mi W) {g : Nat} (hg : b + 1 + 1 < g) (cs : Array Value) : RefS b d su ca fr to_ pl am gr co mi (W.setRow g cs) :=
  ⟨(setRow_other W g b cs (by omega)).trans h.hd, (setRow_other W g (b + 1) cs (by omega)).trans h.hl, (setRow_other W g (b + 1 + 1) cs (by omega)).trans h.hr⟩
theorem RefS.cell {b : Nat} {d : DocV} {su ca : Int} {fr to_ pl : ByteArray} {am : Int} {gr : Bool} {co : Int} {mi : Bool} {W : World} (h : RefS b d su ca fr to_ pl am gr co mi W) {g : Nat} (hg : b + 1 + 1 < g) (i : Nat) (v : Value) : RefS b d su ca fr to_ pl am gr co mi (W.setCell ⟨g, i, none⟩ v) :=
  ⟨(heap_setCell_other _ _ _ _ (by simp; omega)).trans h.hd, (heap_setCell_other _ _ _ _ (by simp; omega)).trans h.hl, (heap_setCell_other _ _ _ _ (by simp; omega)).trans h.hr⟩
theorem RefS.docC {b : Nat} {d : DocV} {su ca : Int} {fr to_ pl : ByteArray} {am : Int} {gr : Bool} {co : Int} {mi : Bool} {W : World} (h : RefS b d su ca fr to_ pl am gr co mi W) : W.cell? ⟨b, 0, none⟩ = some (.string d.id) ∧ W.cell? ⟨b, 1, none⟩ = some (.bool d.sale) ∧ W.cell? ⟨b, 2, none⟩ = some (.bool d.credit) ∧ W.cell? ⟨b, 3, none⟩ = some (.string d.refers) ∧ W.cell? ⟨b, 4, none⟩ = some (.int .i64 d.day) ∧ W.cell? ⟨b, 5, none⟩ = some (.string d.country) ∧ W.cell? ⟨b, 6, none⟩ = some (.string d.number) ∧ W.cell? ⟨b, 7, none⟩ = some (.string d.currency) ∧ W.cell? ⟨b, 8, none⟩ = some (.slice d.linesA d.lines.length d.linesC) := cellsLineV h.hd
theorem RefS.lineC {b : Nat} {d : DocV} {su ca : Int} {fr to_ pl : ByteArray} {am : Int} {gr : Bool} {co : Int} {mi : Bool} {W : World} (h : RefS b d su ca fr to_ pl am gr co mi W) : W.cell? ⟨b + 1, 0, none⟩ = some (.int .i64 su) ∧ W.cell? ⟨b + 1, 1, none⟩ = some (.int .i64 ca) ∧ W.cell? ⟨b + 1, 2, none⟩ = some (.string fr) ∧ W.cell? ⟨b + 1, 3, none⟩ = some (.string to_) ∧ W.cell? ⟨b + 1, 4, none⟩ = some (.string pl) ∧ W.cell? ⟨b + 1, 5, none⟩ = some (.int .i64 am) ∧ W.cell? ⟨b + 1, 6, none⟩ = some (.bool gr) ∧ W.cell? ⟨b + 1, 7, none⟩ = some (.int .i64 co) ∧ W.cell? ⟨b + 1, 8, none⟩ = some (.bool mi) := cellsLineV h.hl
theorem refS_start (w : World) (d : DocV) (su ca : Int) (fr to_ pl : ByteArray) (am : Int) (gr : Bool) (co : Int) (mi : Bool) : RefS w.heap.size d su ca fr to_ pl am gr co mi (((w.alloc (.cells #[.string d.id, .bool d.sale, .bool d.credit, .string d.refers, .int .i64 d.day, .string d.country, .string d.number, .string d.currency, .slice d.linesA d.lines.length d.linesC] 26)).alloc (.cells #[.int .i64 su, .int .i64 ca, .string fr, .string to_, .string pl, .int .i64 am, .bool gr, .int .i64 co, .bool mi] 34)).alloc (.cells #[.bool false, .int .i64 0, .bool false, .int .i64 0, .int .i64 0, .int .i64 0, .int .i64 0, .bool false, .bool false] 37)) := by
  have h0 := heap_alloc_new w (.cells #[.string d.id, .bool d.sale, .bool d.credit, .string d.refers, .int .i64 d.day, .string d.country, .string d.number, .string d.currency, .slice d.linesA d.lines.length d.linesC] 26)
  have h1 := heap_alloc_new (w.alloc (.cells #[.string d.id, .bool d.sale, .bool d.credit, .string d.refers, .int .i64 d.day, .string d.country, .string d.number, .string d.currency, .slice d.linesA d.lines.length d.linesC] 26)) (.cells #[.int .i64 su, .int .i64 ca, .string fr, .string to_, .string pl, .int .i64 am, .bool gr, .int .i64 co, .bool mi] 34)
  have h2 := heap_alloc_new ((w.alloc (.cells #[.string d.id, .bool d.sale, .bool d.credit, .string d.refers, .int .i64 d.day, .string d.country, .string d.number, .string d.currency, .slice d.linesA d.lines.length d.linesC] 26)).alloc (.cells #[.int .i64 su, .int .i64 ca, .string fr, .string to_, .string pl, .int .i64 am, .bool gr, .int .i64 co, .bool mi] 34)) (.cells #[.bool false, .int .i64 0, .bool false, .int .i64 0, .int .i64 0, .int .i64 0, .int .i64 0, .bool false, .bool false] 37)
  simp only [World.size_alloc] at h1 h2
  exact ⟨heap_on (by repeat (first | exact below_alloc _ _ | exact below_same _ | assumption | refine below_more ?_)) h0, heap_on (by repeat (first | exact below_alloc _ _ | exact below_same _ | assumption | refine below_more ?_)) h1, h2⟩
set_option maxHeartbeats 1000000 in
theorem ref_zone17 (home c : ByteArray) (w : World) (h1 : home.size ≤ 1000) (h2 : c.size ≤ 1000) (hV : zoneOk home c = true) : Calls Try.prog 30 #[.string home, .string c] w fun e w1 => e = .returned (.int .i64 (zn home c)) ∧ Below w.heap.size w w1 := by
  have HZ := Lib.hid (ref_zone home c w h1 h2)
  rw [zone_yes hV] at HZ
  unfold zT at HZ
  clear hV h1 h2
  go_enter Try.func30, Try.ntmps30
  go_wp2_with (go_at_call 47; refine HZ.out.mono ?_; rintro e w1 ⟨rfl, hb⟩; have HB := Lib.hid hb; clear hb)
  go_ret
  exact ⟨rfl, HB.out⟩
def errV (home country : ByteArray) (good : Bool) : Int := if zoneOk home country then (if good then 0 else 2) else 40
set_option maxHeartbeats 2000000 in
theorem ref_wrong (home : ByteArray) (d : DocV) (su ca : Int) (fr to_ pl : ByteArray) (am : Int) (gr : Bool) (co : Int) (mi : Bool) (good : Bool) (w : World) (hco : d.country.size ≤ 1000) (HG : Hid (∀ W, Calls Try.prog 46 #[.agg #[.int .i64 su, .int .i64 ca, .string fr, .string to_, .string pl, .int .i64 am, .bool gr, .int .i64 co, .bool mi], .bool d.sale] W fun e w1 => e = .returned (.bool good) ∧ Below W.heap.size W w1)) : Calls Try.prog 29 #[.string home, .agg #[.string d.id, .bool d.sale, .bool d.credit, .string d.refers, .int .i64 d.day, .string d.country, .string d.number, .string d.currency, .slice d.linesA d.lines.length d.linesC], .agg #[.int .i64 su, .int .i64 ca, .string fr, .string to_, .string pl, .int .i64 am, .bool gr, .int .i64 co, .bool mi]] w fun e w1 => e = .returned (.int .i64 (errV home d.country good)) ∧ Below w.heap.size w w1 := by
  have HX2 := Lib.hid (show Below w.heap.size w ((w.alloc (.cells #[.string d.id, .bool d.sale, .bool d.credit, .string d.refers, .int .i64 d.day, .string d.country, .string d.number, .string d.currency, .slice d.linesA d.lines.length d.linesC] 26)).alloc (.cells #[.int .i64 su, .int .i64 ca, .string fr, .string to_, .string pl, .int .i64 am, .bool gr, .int .i64 co, .bool mi] 34)) from below_more (below_alloc _ _))
  have HX0 := Lib.hid (heap_on (below_alloc (w.alloc (.cells #[.string d.id, .bool d.sale, .bool d.credit, .string d.refers, .int .i64 d.day, .string d.country, .string d.number, .string d.currency, .slice d.linesA d.lines.length d.linesC] 26)) (.cells #[.int .i64 su, .int .i64 ca, .string fr, .string to_, .string pl, .int .i64 am, .bool gr, .int .i64 co, .bool mi] 34)) (heap_alloc_new w (.cells #[.string d.id, .bool d.sale, .bool d.credit, .string d.refers, .int .i64 d.day, .string d.country, .string d.number, .string d.currency, .slice d.linesA d.lines.length d.linesC] 26)))
  have hx1 := heap_alloc_new (w.alloc (.cells #[.string d.id, .bool d.sale, .bool d.credit, .string d.refers, .int .i64 d.day, .string d.country, .string d.number, .string d.currency, .slice d.linesA d.lines.length d.linesC] 26)) (.cells #[.int .i64 su, .int .i64 ca, .string fr, .string to_, .string pl, .int .i64 am, .bool gr, .int .i64 co, .bool mi] 34)
  simp only [World.size_alloc] at hx1
  have HX1 := Lib.hid hx1
  clear hx1
  have HM := Lib.hid (fun W => ref_member home W)
  have HC : Hid (∀ W, Calls Try.prog 45 #[.string d.country] W fun e w' => e = .returned (.bool (placeB d.country)) ∧ W = w') := Lib.hid (fun W => ref_country d.country W (by omega))
  unfold errV zoneOk
  clear hco
  cases h1 : isMem home with
  | false =>
    rw [h1] at HM
    clear h1
    go_enter Try.func29, Try.ntmps29
    go_wp2_with (first
      | (go_at_call 44; refine (HM.out _).mono ?_; rintro e w1 ⟨rfl, hb⟩; obtain ⟨d0, d1, d2, d3, d4, d5, d6, d7, d8⟩ := cellsLineV (heap_on hb HX0.out); obtain ⟨l0, l1, l2, l3, l4, l5, l6, l7, l8⟩ := cellsLineV (heap_on hb HX1.out); have HB := Lib.hid (below_then HX2.out hb); clear hb)
      | (go_at_call 45; refine (HC.out _).mono ?_; rintro e w2 ⟨rfl, rfl⟩)
      | (go_at_call 46; refine (HG.out _).mono ?_; rintro e w3 ⟨rfl, hb⟩; have HB3 := Lib.hid (below_then HB.out hb); clear hb))
    go_ret
    exact ⟨rfl, HB.out⟩
  | true =>
    rw [h1] at HM
    clear h1
    cases h2 : placeB d.country with
    | false =>
      rw [h2] at HC
      clear h2
      go_enter Try.func29, Try.ntmps29
      go_wp2_with (first
        | (go_at_call 44; refine (HM.out _).mono ?_; rintro e w1 ⟨rfl, hb⟩; obtain ⟨d0, d1, d2, d3, d4, d5, d6, d7, d8⟩ := cellsLineV (heap_on hb HX0.out); obtain ⟨l0, l1, l2, l3, l4, l5, l6, l7, l8⟩ := cellsLineV (heap_on hb HX1.out); have HB := Lib.hid (below_then HX2.out hb); clear hb)
        | (go_at_call 45; refine (HC.out _).mono ?_; rintro e w2 ⟨rfl, rfl⟩)
        | (go_at_call 46; refine (HG.out _).mono ?_; rintro e w3 ⟨rfl, hb⟩; have HB3 := Lib.hid (below_then HB.out hb); clear hb))
      go_ret
      exact ⟨rfl, HB.out⟩
    | true =>
      rw [h2] at HC
      clear h2
      cases good
      all_goals
        go_enter Try.func29, Try.ntmps29
        go_wp2_with (first
          | (go_at_call 44; refine (HM.out _).mono ?_; rintro e w1 ⟨rfl, hb⟩; obtain ⟨d0, d1, d2, d3, d4, d5, d6, d7, d8⟩ := cellsLineV (heap_on hb HX0.out); obtain ⟨l0, l1, l2, l3, l4, l5, l6, l7, l8⟩ := cellsLineV (heap_on hb HX1.out); have HB := Lib.hid (below_then HX2.out hb); clear hb)
          | (go_at_call 45; refine (HC.out _).mono ?_; rintro e w2 ⟨rfl, rfl⟩)
          | (go_at_call 46; refine (HG.out _).mono ?_; rintro e w3 ⟨rfl, hb⟩; have HB3 := Lib.hid (below_then HB.out hb); clear hb))
        go_ret
        exact ⟨rfl, HB3.out⟩
set_option maxHeartbeats 2000000 in
theorem ref_case_wrong (home : ByteArray) (d : DocV) (su ca : Int) (fr to_ pl : ByteArray) (am : Int) (gr : Bool) (co : Int) (mi : Bool) (er : Int) (w : World) (HWr : Hid (∀ W, Calls Try.prog 29 #[.string home, .agg #[.string d.id, .bool d.sale, .bool d.credit, .string d.refers, .int .i64 d.day, .string d.country, .string d.number, .string d.currency, .slice d.linesA d.lines.length d.linesC], .agg #[.int .i64 su, .int .i64 ca, .string fr, .string to_, .string pl, .int .i64 am, .bool gr, .int .i64 co, .bool mi]] W fun e w1 => e = .returned (.int .i64 er) ∧ Below W.heap.size W w1)) (her : er ≠ 0) : Calls Try.prog 15 #[.string home, .agg #[.string d.id, .bool d.sale, .bool d.credit, .string d.refers, .int .i64 d.day, .string d.country, .string d.number, .string d.currency, .slice d.linesA d.lines.length d.linesC], .agg #[.int .i64 su, .int .i64 ca, .string fr, .string to_, .string pl, .int .i64 am, .bool gr, .int .i64 co, .bool mi]] w fun e w1 => e = .returned (.tuple #[.agg #[.bool false, .int .i64 0, .bool false, .int .i64 0, .int .i64 0, .int .i64 0, .int .i64 0, .bool false, .bool false], .int .i64 er]) ∧ Below w.heap.size w w1 := by
  have hne : (er != 0) = true := bne_iff_ne.2 her
  clear her
  go_enter Try.func15, Try.ntmps15
  go_wp2_with (first
    | (go_at_call 29; refine (HWr.out _).mono ?_; rintro e w1 ⟨rfl, hb⟩; have HS1 := Lib.hid ((refS_start w d su ca fr to_ pl am gr co mi).on hb); have HW1 := Lib.hid (Below.trans (show Below w.heap.size w _ by repeat (first | exact below_alloc _ _ | exact below_same _ | assumption | refine below_more ?_)) (hb.mono (show w.heap.size ≤ _ by simp; try omega))); clear hb; obtain ⟨d0, d1, d2, d3, d4, d5, d6, d7, d8⟩ := HS1.out.docC; obtain ⟨l0, l1, l2, l3, l4, l5, l6, l7, l8⟩ := HS1.out.lineC)
    | (refine wpList_store_row (o := ⟨none, _, _, _, _, _⟩) rfl 37 (.tmp 6) (.tmp 16) (by rfl) (w.heap.size + 1 + 1) #[.bool false, .int .i64 0, .bool false, .int .i64 0, .int .i64 0, .int .i64 0, .int .i64 0, .bool false, .bool false] (by rfl) (by rfl) 37 #[.bool false, .int .i64 0, .bool false, .int .i64 0, .int .i64 0, .int .i64 0, .int .i64 0, .bool false, .bool false] HS1.out.hr (by kernel_rfl) (by rfl) (by simp [Value.oneCell']) ?_; have HP9 := Lib.hid (setRow_heap w1 (w.heap.size + 1 + 1) _ #[.bool false, .int .i64 0, .bool false, .int .i64 0, .int .i64 0, .int .i64 0, .int .i64 0, .bool false, .bool false] _ _ HS1.out.hr); have HB9 := Lib.hid (below_setRow HW1.out (g := w.heap.size + 1 + 1) (by omega) #[.bool false, .int .i64 0, .bool false, .int .i64 0, .int .i64 0, .int .i64 0, .int .i64 0, .bool false, .bool false]); refine Stop.out ?_))
  unfold Stop
  generalize hx : World.setRow w1 (w.heap.size + 1 + 1) _ = w9 at HP9 HB9 ⊢
  clear hx
  obtain ⟨j0, j1, j2, j3, j4, j5, j6, j7, j8⟩ := cellsLineV HP9.out
  go_wp2
  exact bodyPost_ret (v := .tuple #[.agg #[.bool false, .int .i64 0, .bool false, .int .i64 0, .int .i64 0, .int .i64 0, .int .i64 0, .bool false, .bool false], .int .i64 er]) (by simp [results, Try.results15, go_sem, j0, j1, j2, j3, j4, j5, j6, j7, j8]) rfl ⟨rfl, HB9.out⟩
end Go.Proofs.Ytdpafndejobbjaa
