/- People: a line's own calls; who is made. -/
import Derived.Test.YtgljajoknmgoeaaGreatPpB
import Derived.Test.YtgljajoknmgoeaaGreatVatRight
import Derived.Test.YtgljajoknmgoeaaGreatDrawB
namespace Go.Proofs.YtgljajoknmgoeaaGreat
open Go.RowKit
set_option maxRecDepth 100000
attribute [local go_sem] Oper.semAt_some

theorem results_ln {fn : Func} {p : Tmp} (h : fn.results = #[.cell p 54]) (tmps : Array Value) (W : World) (g : Nat) (v : Value) (hp : tmps.getD p undef = .pointer (some ⟨g, 0, none⟩)) (hg : W.cell? ⟨g, 0, none⟩ = some v) :
    (results fn tmps).run Tryz.prog W = .ok (.agg #[v]) W := by
  have hp' : tmps[p]?.getD undef = .pointer (some ⟨g, 0, none⟩) := by simpa [Array.getD_eq_getD_getElem?] using hp
  simp [results, h, hp', go_sem, hg]
set_option maxHeartbeats 400000 in
theorem code_newLine (w : World) : Calls Tryz.prog 22 #[] w fun e w' => ∃ B, e = .returned (.agg #[.pointer (some ⟨B, 0, none⟩)]) ∧ Lin w' B 256 [] ∧ Below w.heap.size w w' ∧ w.heap.size ≤ B := by
  have HN := Lib.hid (fun W => code_lnew W 256 (by decide) (by decide))
  have HA := Lib.hid (fun (v : Value) => And.intro (heap_alloc_new w (.cells #[v] 54)) (below_alloc w (.cells #[v] 54)))
  go_enter Tryz.func22, Tryz.ntmps22
  go_wp2_with (go_at_call 38; refine (HN.out _).mono ?_; rintro e w1 ⟨B, rfl, h1, h2, h3⟩; have H1 := Lib.hid (And.intro h1 (And.intro h2 h3)); have c0 := one_cell (heap_on h2 (HA.out _).1); obtain ⟨c00, z00⟩ := c0; clear h1 h2 h3; refine Stop.out ?_)
  unfold Stop
  go_wp2
  have hb : Below w.heap.size w w1 := below_then (HA.out _).2 H1.out.2.1
  have hlt : w.heap.size < w1.heap.size := block_lt_of_cell c00
  have hB := H1.out.2.2
  rw [World.size_alloc] at hB
  have hch : Chg w1 (w1.setCell ⟨w.heap.size, 0, none⟩ (.pointer (some ⟨B, 0, none⟩))) w.heap.size := ⟨rfl, rfl, rfl, by simp, fun k _ hne => heap_setCell_other _ _ _ _ (by simpa using hne)⟩
  have hc := (one_cell (heap_setCell_same w1 w.heap.size 0 _ _ (.pointer (some ⟨B, 0, none⟩)) (heap_on H1.out.2.1 (HA.out _).1))).1
  refine bodyPost_ret (results_ln rfl _ _ w.heap.size _ rfl hc) rfl ?_
  refine ⟨B, rfl, ?_, ?_, by omega⟩
  · obtain ⟨A, c, g0, g1, g2⟩ := H1.out.1
    exact ⟨A, c, (heap_setCell_other _ _ _ _ (by simp; omega)).trans g0, fun h => absurd rfl h, g2⟩
  · exact hb.setCell (p := ⟨w.heap.size, 0, none⟩) (by simp) _
set_option maxHeartbeats 400000 in
theorem code_hold (w : World) (B : Nat) (L : List Sp) (f u x : Int) (h : Lin w B 256 L) :
    Calls Tryz.prog 28 #[.agg #[.pointer (some ⟨B, 0, none⟩)], .agg #[.int .i64 f, .int .i64 u]] w fun e w' => e = .returned (.int .i64 (setE 256 L f u)) ∧ Lin w' B 256 (setL 256 L (f, u, x)) ∧ Chg w w' B := by
  have hb : Below w.heap.size w ((w.alloc (.cells #[.pointer (some ⟨B, 0, none⟩)] 54)).alloc (.cells #[.int .i64 f, .int .i64 u] 39)) := below_then (below_alloc _ _) (below_alloc _ _)
  have HS := Lib.hid (code_set _ B 256 L f u x (h.on hb))
  have HC := Lib.hid (Chg.of_below (B := B) hb)
  clear h hb
  go_enter Tryz.func28, Tryz.ntmps28
  go_wp2_with (go_at_call 43; refine HS.out.mono ?_; rintro e w1 ⟨rfl, h1, h2⟩; have H1 := Lib.hid (And.intro h1 h2); clear h1 h2)
  go_ret
  exact ⟨rfl, H1.out.1, HC.out.trans H1.out.2⟩
set_option maxHeartbeats 400000 in
theorem holds_any (p : Value) (q : Bool) (w : World) (day : Int) (hat : ∀ W, Below w.heap.size w W → Calls Tryz.prog 53 #[p, .int .i64 day] W fun e w' => e = .returned (.tuple #[.agg #[], .bool q]) ∧ Below W.heap.size W w') (b : Option Addr) (hp : p = .pointer b) :
    Calls Tryz.prog 33 #[.agg #[p], .int .i64 day] w fun e w' => e = .returned (.bool q) ∧ Below w.heap.size w w' := by
  subst hp
  have HA := Lib.hid (hat (w.alloc (.cells #[.pointer b] 54)) (below_alloc _ _))
  have HB := Lib.hid (below_alloc w (.cells #[.pointer b] 54))
  clear hat
  go_enter Tryz.func33, Tryz.ntmps33
  go_wp2_with (go_at_call 53; refine HA.out.mono ?_; rintro e w1 ⟨rfl, h1⟩; have H1 := Lib.hid (below_then HB.out h1); clear h1)
  go_ret
  exact ⟨rfl, below_then H1.out (below_alloc _ _)⟩
theorem code_holds (w : World) (B : Nat) (L : List Sp) (day : Int) (h : Lin w B 256 L) :
    Calls Tryz.prog 33 #[.agg #[.pointer (some ⟨B, 0, none⟩)], .int .i64 day] w fun e w' => e = .returned (.bool (atB L day)) ∧ Below w.heap.size w w' :=
  holds_any _ _ w day (fun W hW => code_at' W B 256 L day (h.on hW)) _ rfl
theorem code_holds_nil (w : World) (day : Int) (hw : 0 < w.heap.size) :
    Calls Tryz.prog 33 #[.agg #[.pointer none], .int .i64 day] w fun e w' => e = .returned (.bool false) ∧ Below w.heap.size w w' :=
  holds_any _ _ w day (fun W hW => code_at_nil W day (Nat.lt_of_lt_of_le hw hW.size)) _ rfl
set_option maxHeartbeats 400000 in
theorem code_copied (w : World) (B : Nat) (L : List Sp) (h : Lin w B 256 L) :
    Calls Tryz.prog 25 #[.agg #[.pointer (some ⟨B, 0, none⟩)]] w fun e w' => ∃ B', e = .returned (.agg #[.pointer (some ⟨B', 0, none⟩)]) ∧ Lin w' B' 256 L ∧ w.heap.size ≤ B' ∧ Below w.heap.size w w' := by
  have hb : ∀ v : Value, Below w.heap.size w ((w.alloc (.cells #[.pointer (some ⟨B, 0, none⟩)] 54)).alloc (.cells #[v] 54)) := fun v => below_then (below_alloc _ _) (below_alloc _ _)
  have HS := Lib.hid (fun v => code_lclone _ B 256 L (h.on (hb v)))
  have HB := Lib.hid hb
  have HN : Hid (∀ v, ((w.alloc (.cells #[.pointer (some ⟨B, 0, none⟩)] 54)).alloc (.cells #[v] 54)).heap[w.heap.size + 1]? = some (.cells #[v] 54 (0, 0))) := Lib.hid (fun v => by
    have := heap_alloc_new (w.alloc (.cells #[.pointer (some ⟨B, 0, none⟩)] 54)) (.cells #[v] 54)
    simpa only [World.size_alloc] using this)
  clear h hb
  go_enter Tryz.func25, Tryz.ntmps25
  go_wp2_with (go_at_call 39; refine (HS.out _).mono ?_; rintro e w1 ⟨B', rfl, h1, h2, h3⟩; have H1 := Lib.hid (And.intro h1 (And.intro h2 h3)); have c0 := one_cell (heap_on h3 (HN.out _)); obtain ⟨c00, z00⟩ := c0; clear h1 h2 h3; refine Stop.out ?_)
  unfold Stop
  go_wp2
  have hb : Below w.heap.size w w1 := below_then (HB.out _) H1.out.2.2
  have hlt : w.heap.size + 1 < w1.heap.size := block_lt_of_cell c00
  have hB := H1.out.2.1
  simp only [World.size_alloc] at hB
  have hc := (one_cell (heap_setCell_same w1 (w.heap.size + 1) 0 _ _ (.pointer (some ⟨B', 0, none⟩)) (heap_on H1.out.2.2 (HN.out _)))).1
  refine bodyPost_ret (results_ln rfl _ _ (w.heap.size + 1) _ rfl hc) rfl ?_
  refine ⟨B', rfl, ?_, by omega, ?_⟩
  · obtain ⟨A, c, g0, g1, g2⟩ := H1.out.1
    refine ⟨A, c, (heap_setCell_other _ _ _ _ (by simp; omega)).trans g0, fun hn => ?_, g2⟩
    obtain ⟨b, o, ea, hbl, hr⟩ := g1 hn
    have hne : b ≠ w.heap.size + 1 := fun e => by
      subst e
      have := hr _ _ (flat2_at L 0 (List.length_pos_iff.2 hn)).1
      rw [cell_of_row _ _ _ _ _ _ (heap_on H1.out.2.2 (HN.out _))] at this
      match o with
      | 0 => simp at this
      | k + 1 => simp at this
    exact ⟨b, o, ea, by simpa using hbl, fun j v hv => (World.cell?_of_block (heap_setCell_other _ _ _ _ (by simp; omega))).trans (hr j v hv)⟩
  · exact hb.setCell (p := ⟨w.heap.size + 1, 0, none⟩) (by simp) _
end Go.Proofs.YtgljajoknmgoeaaGreat
