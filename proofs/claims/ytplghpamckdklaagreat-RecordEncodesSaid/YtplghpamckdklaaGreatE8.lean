/- Lines that may not be, looked for in a row: the program's. Commands: fields that a kind names are what they may be: the program's. Commands without the fields that their kind names: the program's. -/
import Derived.Test.YtplghpamckdklaaGreatE7
import Derived.WalkMore
import Derived.Test.YtplghpamckdklaaGreatE5
import Derived.Test.YtplghpamckdklaaGreatE6
import Derived.Deep.Cut
import Derived.Deep.DeepCutAuto
import Derived.Laws.Tables
import Derived.Laws.CopyOwn
namespace Go.Proofs.YtplghpamckdklaaGreat
open Go.RowKit
set_option maxRecDepth 100000
set_option linter.unusedSimpArgs false
set_option linter.unusedVariables false

theorem below_more {w v : World} {o : Obj} (h : Below w.heap.size w v) : Below w.heap.size w (v.alloc o) := h.alloc h.size o
def badAny (L : List LineV) (sale : Bool) : Bool := L.any fun l => !lineGood l sale
theorem bad_next {L : List LineV} {sale : Bool} {k : Nat} (hk : k < L.length) (h : badAny (L.take k) sale = false) (hs : lineGood L[k] sale = true) : badAny (L.take (k + 1)) sale = false := by
 rw [List.take_succ_eq_append_getElem hk]
 unfold badAny at *
 rw [List.any_append, h]
 simp [hs]
theorem bad_found {L : List LineV} {sale : Bool} {k : Nat} (hk : k < L.length) (hs : lineGood L[k] sale = false) : badAny L sale = true := by
 unfold badAny
 rw [List.any_eq_true]
 exact ⟨L[k], List.getElem_mem hk, by simp [hs]⟩
set_option maxHeartbeats 2000000 in
theorem code_goodDoc1 (l : LineV) (b : Nat) (sale : Bool) (w : World) (hb : b < w.heap.size) (hc : w.cell? ⟨b, 1, none⟩ = some (.bool sale)) (hz : l.2.2.1.size ≤ 140737488351232 ∧ l.2.2.2.1.size ≤ 140737488351232 ∧ l.2.2.2.2.1.size ≤ 140737488351232) : Calls Tryz.prog 35 #[.agg #[.int .i64 l.1, .int .i64 l.2.1, .string l.2.2.1, .string l.2.2.2.1, .string l.2.2.2.2.1, .int .i64 l.2.2.2.2.2.1, .bool l.2.2.2.2.2.2.1, .int .i64 l.2.2.2.2.2.2.2.1, .bool l.2.2.2.2.2.2.2.2], .pointer (some ⟨b, 0, none⟩)] w fun e w1 => e = .returned (.bool (!lineGood l sale)) ∧ Below w.heap.size w w1 := by
 have HG : Hid (∀ W, Calls Tryz.prog 12 #[.agg #[.int .i64 l.1, .int .i64 l.2.1, .string l.2.2.1, .string l.2.2.2.1, .string l.2.2.2.2.1, .int .i64 l.2.2.2.2.2.1, .bool l.2.2.2.2.2.2.1, .int .i64 l.2.2.2.2.2.2.2.1, .bool l.2.2.2.2.2.2.2.2], .bool sale] W fun e w1 => e = .returned (.bool (lineGood l sale)) ∧ Below W.heap.size W w1) := Lib.hid (fun W => code_goodLine _ _ _ _ _ _ _ _ _ sale W hz.1 hz.2.1 hz.2.2 _ rfl)
 generalize lineGood l sale = g at HG
 have HB0 := Lib.hid (below_alloc w (.cells #[.int .i64 l.1, .int .i64 l.2.1, .string l.2.2.1, .string l.2.2.2.1, .string l.2.2.2.2.1, .int .i64 l.2.2.2.2.2.1, .bool l.2.2.2.2.2.2.1, .int .i64 l.2.2.2.2.2.2.2.1, .bool l.2.2.2.2.2.2.2.2] 30))
 clear hz
 go_enter Tryz.func35, Tryz.ntmps35
 go_wp2_with (go_at_call 12; refine (HG.out _).mono ?_; rintro e w2 ⟨rfl, hb⟩; have HB := Lib.hid (below_then HB0.out hb); clear hb)
 go_ret
 exact ⟨rfl, HB.out⟩
def IdxP (L : List LineV) (sale : Bool) (w : World) (e : Ending) (w1 : World) : Prop := ∃ r : Int, e = .returned (.int .i64 r) ∧ decide (0 ≤ r) = badAny L sale ∧ -1 ≤ r ∧ Below w.heap.size w w1
set_option maxHeartbeats 2000000 in
theorem code_indexLine (A : Option Addr) (L : List LineV) (c : Nat) (b : Nat) (sale : Bool) (w : World) (hr : RowLineV w A L) (hlc : L.length ≤ c) (hln : L.length ≤ 140737488351232) (hg : ∀ r ∈ L, r.2.2.1.size ≤ 140737488351232 ∧ r.2.2.2.1.size ≤ 140737488351232 ∧ r.2.2.2.2.1.size ≤ 140737488351232) (hb : b < w.heap.size) (hc : w.cell? ⟨b, 1, none⟩ = some (.bool sale)) : Calls Tryz.prog 65 #[.slice A L.length c, .func (Fn.func 35) #[] #[.pointer (some ⟨b, 0, none⟩)]] w fun e w1 => IdxP L sale w e w1 := by
 have HR := Lib.hid hr
 have HG := Lib.hid hg
 have HC := Lib.hid (And.intro hb hc)
 have hl4 : (L.length : Int) ≤ 4000000000000000000 := by omega
 clear hr hg hb hc hln
 go_enter Tryz.func65, Tryz.ntmps65
 go_wp2
 go_loopw [8] (fun i wr => ∃ (k : Nat), k ≤ L.length ∧ i = .int .i64 k ∧ Hid (badAny (L.take k) sale = false) ∧ Hid (Below w.heap.size w wr)) (fun i _ => L.length - (intOf i).toNat)
 case atStart => exact ⟨0, Nat.zero_le _, rfl, Lib.hid rfl, Lib.hid (Below.refl _ _)⟩
 case round =>
  obtain ⟨k, hk, rfl, HS, HB⟩ := hrel
  by_cases hlt : k < L.length
  · have hlt' : (k : Int) < (L.length : Int) := by omega
    have hlc' : (k : Int) < (c : Int) := by omega
    obtain ⟨a, o, rfl, hbl, y0, y1, y2, y3, y4, y5, y6, y7, y8⟩ := (HR.out.on HB.out).at_ k hlt
    have HD : Hid (∀ W, Below wr.heap.size wr W → Calls Tryz.prog 35 #[.agg #[.int .i64 L[k].1, .int .i64 L[k].2.1, .string L[k].2.2.1, .string L[k].2.2.2.1, .string L[k].2.2.2.2.1, .int .i64 L[k].2.2.2.2.2.1, .bool L[k].2.2.2.2.2.2.1, .int .i64 L[k].2.2.2.2.2.2.2.1, .bool L[k].2.2.2.2.2.2.2.2], .pointer (some ⟨b, 0, none⟩)] W fun e w1 => e = .returned (.bool (!lineGood L[k] sale)) ∧ Below W.heap.size W w1) := Lib.hid (fun W hb2 => code_goodDoc1 L[k] b sale W (Nat.lt_of_lt_of_le HC.out.1 (below_then HB.out hb2).size) (cell_on (below_then HB.out hb2) HC.out.2) (HG.out _ (List.getElem_mem hlt)))
    cases hG : lineGood L[k] sale with
    | true =>
      have HN := Lib.hid (bad_next hlt HS.out hG)
      rw [hG] at HD
      clear hG hbl
      go_wp2_with (go_at_call 35; refine (HD.out _ (Below.refl _ _)).mono ?_; rintro e w2 ⟨rfl, hb2⟩; have HB2 := Lib.hid (below_then HB.out hb2); clear hb2)
      go_roundw
      case rel => exact ⟨k + 1, by omega, by go_num, HN, HB2⟩
      case measure => simp [intOf]; omega
    | false =>
      have HN := Lib.hid (bad_found hlt hG)
      rw [hG] at HD
      clear hG hbl
      go_wp2_with (go_at_call 35; refine (HD.out _ (Below.refl _ _)).mono ?_; rintro e w2 ⟨rfl, hb2⟩; have HB2 := Lib.hid (below_then HB.out hb2); clear hb2)
      go_ret
      exact ⟨k, rfl, by rw [HN.out]; simp, by omega, HB2.out⟩
  · obtain rfl : k = L.length := by omega
    have HE : Hid (badAny L sale = false) := Lib.hid (by have := HS.out; rwa [List.take_length] at this)
    clear HS
    go_wp2
    go_ret
    exact ⟨-1, rfl, by rw [HE.out]; rfl, by omega, HB.out⟩
set_option maxHeartbeats 2000000 in
theorem code_containsLine (A : Option Addr) (L : List LineV) (c : Nat) (b : Nat) (sale : Bool) (w : World) (hr : RowLineV w A L) (hlc : L.length ≤ c) (hln : L.length ≤ 140737488351232) (hg : ∀ r ∈ L, r.2.2.1.size ≤ 140737488351232 ∧ r.2.2.2.1.size ≤ 140737488351232 ∧ r.2.2.2.2.1.size ≤ 140737488351232) (hb : b < w.heap.size) (hc : w.cell? ⟨b, 1, none⟩ = some (.bool sale)) : Calls Tryz.prog 34 #[.slice A L.length c, .func (Fn.func 35) #[] #[.pointer (some ⟨b, 0, none⟩)]] w fun e w1 => e = .returned (.bool (badAny L sale)) ∧ Below w.heap.size w w1 := by
 have HI := Lib.hid (code_indexLine A L c b sale w hr hlc hln hg hb hc)
 clear hr hlc hln hg hb hc
 go_enter Tryz.func34, Tryz.ntmps34
 go_wp2_with (go_at_call 65; refine (HI.out).mono ?_; rintro e w2 ⟨r, rfl, hd, h1, hb⟩; have HB := Lib.hid hb; have HD := Lib.hid hd; clear hb hd)
 all_goals
  go_ret
  exact ⟨ret_bool (by rw [← HD.out]), HB.out⟩
end Go.Proofs.YtplghpamckdklaaGreat

namespace Go.Proofs.YtplghpamckdklaaGreat
open Go.RowKit
set_option maxRecDepth 100000
set_option linter.unusedSimpArgs false
set_option linter.unusedVariables false

theorem cells22 {W : World} {g : Nat} {v0 v1 v2 v3 v4 v5 v6 v7 v8 v9 v10 v11 v12 v13 v14 v15 v16 v17 v18 v19 v20 v21 : Value} {t : TypeId} (h : W.heap[g]? = some (.cells #[v0, v1, v2, v3, v4, v5, v6, v7, v8, v9, v10, v11, v12, v13, v14, v15, v16, v17, v18, v19, v20, v21] t (0, 0))) : W.cell? ⟨g, 0, none⟩ = some v0 ∧ W.cell? ⟨g, 1, none⟩ = some v1 ∧ W.cell? ⟨g, 2, none⟩ = some v2 ∧ W.cell? ⟨g, 3, none⟩ = some v3 ∧ W.cell? ⟨g, 4, none⟩ = some v4 ∧ W.cell? ⟨g, 5, none⟩ = some v5 ∧ W.cell? ⟨g, 6, none⟩ = some v6 ∧ W.cell? ⟨g, 7, none⟩ = some v7 ∧ W.cell? ⟨g, 8, none⟩ = some v8 ∧ W.cell? ⟨g, 9, none⟩ = some v9 ∧ W.cell? ⟨g, 10, none⟩ = some v10 ∧ W.cell? ⟨g, 11, none⟩ = some v11 ∧ W.cell? ⟨g, 12, none⟩ = some v12 ∧ W.cell? ⟨g, 13, none⟩ = some v13 ∧ W.cell? ⟨g, 14, none⟩ = some v14 ∧ W.cell? ⟨g, 15, none⟩ = some v15 ∧ W.cell? ⟨g, 16, none⟩ = some v16 ∧ W.cell? ⟨g, 17, none⟩ = some v17 ∧ W.cell? ⟨g, 18, none⟩ = some v18 ∧ W.cell? ⟨g, 19, none⟩ = some v19 ∧ W.cell? ⟨g, 20, none⟩ = some v20 ∧ W.cell? ⟨g, 21, none⟩ = some v21 :=
 ⟨cell_of_row W g 0 _ _ _ h, cell_of_row W g 1 _ _ _ h, cell_of_row W g 2 _ _ _ h, cell_of_row W g 3 _ _ _ h, cell_of_row W g 4 _ _ _ h, cell_of_row W g 5 _ _ _ h, cell_of_row W g 6 _ _ _ h, cell_of_row W g 7 _ _ _ h, cell_of_row W g 8 _ _ _ h, cell_of_row W g 9 _ _ _ h, cell_of_row W g 10 _ _ _ h, cell_of_row W g 11 _ _ _ h, cell_of_row W g 12 _ _ _ h, cell_of_row W g 13 _ _ _ h, cell_of_row W g 14 _ _ _ h, cell_of_row W g 15 _ _ _ h, cell_of_row W g 16 _ _ _ h, cell_of_row W g 17 _ _ _ h, cell_of_row W g 18 _ _ _ h, cell_of_row W g 19 _ _ _ h, cell_of_row W g 20 _ _ _ h, cell_of_row W g 21 _ _ _ h⟩
def perB (kind k y i : Int) : Bool := (k == kind) && Civ.good k y i
set_option maxHeartbeats 1000000 in
theorem code_isPeriod (k y i kind : Int) (w : World) : Calls Tryz.prog 51 #[.agg #[.int .i64 k, .int .i64 y, .int .i64 i], .int .i64 kind] w fun e w1 => e = .returned (.bool (perB kind k y i)) ∧ Below w.heap.size w w1 := by
 unfold perB
 cases hk : (k == kind)
 · go_enter Tryz.func51, Tryz.ntmps51
   go_wp2
   go_ret
   exact ⟨rfl, below_alloc _ _⟩
 · go_enter Tryz.func51, Tryz.ntmps51
   go_wp2_with (go_at_call 81; refine (Civs.code_good _ _ _ _).mono ?_; rintro e w2 ⟨rfl, hb⟩; have HB := Lib.hid (below_then (below_alloc w _) hb); clear hb)
   go_ret
   exact ⟨by simp, HB.out⟩
set_option maxHeartbeats 4000000 in
theorem areGood_11 (x : CmdV) (w : World) (hk : x.kind = 11) : Calls Tryz.prog 20 #[.agg #[.int .i64 x.kind, .string x.state, .string x.text, .int .i64 x.category, .int .i64 x.bp, .int .i64 x.from_, .int .i64 x.until_, .int .i64 x.num, .int .i64 x.den, .int .i64 x.index, .int .i64 x.pk, .int .i64 x.py, .int .i64 x.pi, .string x.id, .bool x.sale, .bool x.credit, .string x.refers, .int .i64 x.day, .string x.country, .string x.number, .string x.currency, .slice x.linesA x.lines.length x.linesC]] w fun e w1 => e = .returned (.bool (perB 3 x.pk x.py x.pi)) ∧ Below w.heap.size w w1 := by
 go_enter Tryz.func20, Tryz.ntmps20
 go_wp2_with (go_at_call 51; refine (code_isPeriod _ _ _ _ _).mono ?_; rintro e w2 ⟨rfl, hb⟩; have HB := Lib.hid (below_then (below_alloc w _) hb); clear hb)
 go_ret
 exact ⟨rfl, HB.out⟩
set_option maxHeartbeats 4000000 in
theorem areGood_8 (x : CmdV) (g : Bool) (w : World) (hk : x.kind = 8) (HG : Hid (∀ W, Below w.heap.size w W → Calls Tryz.prog 10 #[.agg #[.string x.id, .bool x.sale, .bool x.credit, .string x.refers, .int .i64 x.day, .string x.country, .string x.number, .string x.currency, .slice x.linesA x.lines.length x.linesC]] W fun e w1 => e = .returned (.bool g) ∧ Below W.heap.size W w1)) : Calls Tryz.prog 20 #[.agg #[.int .i64 x.kind, .string x.state, .string x.text, .int .i64 x.category, .int .i64 x.bp, .int .i64 x.from_, .int .i64 x.until_, .int .i64 x.num, .int .i64 x.den, .int .i64 x.index, .int .i64 x.pk, .int .i64 x.py, .int .i64 x.pi, .string x.id, .bool x.sale, .bool x.credit, .string x.refers, .int .i64 x.day, .string x.country, .string x.number, .string x.currency, .slice x.linesA x.lines.length x.linesC]] w fun e w1 => e = .returned (.bool g) ∧ Below w.heap.size w w1 := by
 go_enter Tryz.func20, Tryz.ntmps20
 go_wp2_with (go_at_call 10; refine (HG.out _ (below_alloc _ _)).mono ?_; rintro e w2 ⟨rfl, hb⟩; have HB := Lib.hid (below_then (below_alloc w _) hb); clear hb)
 go_ret
 exact ⟨rfl, HB.out⟩
end Go.Proofs.YtplghpamckdklaaGreat

namespace Go.Proofs.YtplghpamckdklaaGreat
open Go.RowKit
set_option maxRecDepth 100000
set_option linter.unusedSimpArgs false
set_option linter.unusedVariables false

theorem cmd_info {n : Nat} (h : n = 22) : (Tryz.prog.info? 28).map (·.size) = some n := by subst h; kernel_rfl
abbrev zeroCmd : Array Value := #[.int .i64 0, .string ⟨#[]⟩, .string ⟨#[]⟩, .int .i64 0, .int .i64 0, .int .i64 0, .int .i64 0, .int .i64 0, .int .i64 0, .int .i64 0, .int .i64 0, .int .i64 0, .int .i64 0, .string ⟨#[]⟩, .bool false, .bool false, .string ⟨#[]⟩, .int .i64 0, .string ⟨#[]⟩, .string ⟨#[]⟩, .string ⟨#[]⟩, .slice none 0 0]
theorem zeroCmd_size : zeroCmd.size = 22 := rfl
def bare11 (cs : Array Value) : Array Value := (((cs.setIfInBounds 10 (.int .i64 0)).setIfInBounds 11 (.int .i64 0)).setIfInBounds 12 (.int .i64 0))
theorem bare11_size (cs : Array Value) : (bare11 cs).size = cs.size := by unfold bare11; simp
set_option maxHeartbeats 1000000 in
theorem unnamed_11 (cs : Array Value) (w : World) (hs : cs.size = 22) (hk : cs[0]? = some (.int .i64 11)) (h1 : (bare11 cs).all (·.oneCell') = true) : Calls Tryz.prog 22 #[.agg cs] w fun e w1 => e = .returned (.agg (bare11 cs)) ∧ Below w.heap.size w w1 := by
 have hb0 := heap_alloc_new w (.cells cs 28)
 have hb1 := heap_alloc_new (w.alloc (.cells cs 28)) (.cells zeroCmd 28)
 simp only [World.size_alloc] at hb1
 have HA := Lib.hid (heap_on (below_alloc (w.alloc (.cells cs 28)) (.cells zeroCmd 28)) hb0)
 have HZ := Lib.hid hb1
 have HW := Lib.hid (show Below w.heap.size w ((w.alloc (.cells cs 28)).alloc (.cells zeroCmd 28)) from below_more (below_alloc _ _))
 have a0 : ((w.alloc (.cells cs 28)).alloc (.cells zeroCmd 28)).cell? ⟨w.heap.size, 0, none⟩ = some (.int .i64 11) := (cell_of_row _ _ 0 _ _ _ HA.out).trans hk
 clear hb0 hb1
 go_enter Tryz.func22, Tryz.ntmps22
 go_upto_region 21 with fail
 generalize hx : World.alloc (World.alloc w _) _ = wb at HA HZ HW a0 ⊢
 clear hx a0
 obtain ⟨v10, c10⟩ : ∃ v, wb.cell? ⟨w.heap.size, 10, none⟩ = some v := ⟨_, (cell_of_row wb w.heap.size 10 _ _ _ HA.out).trans (Array.getElem?_eq_getElem (i := 10) (by rw [hs]; omega))⟩
 have f10 := frozen_of_row wb w.heap.size 10 _ _ HA.out
 obtain ⟨v11, c11⟩ : ∃ v, wb.cell? ⟨w.heap.size, 11, none⟩ = some v := ⟨_, (cell_of_row wb w.heap.size 11 _ _ _ HA.out).trans (Array.getElem?_eq_getElem (i := 11) (by rw [hs]; omega))⟩
 have f11 := frozen_of_row wb w.heap.size 11 _ _ HA.out
 obtain ⟨v12, c12⟩ : ∃ v, wb.cell? ⟨w.heap.size, 12, none⟩ = some v := ⟨_, (cell_of_row wb w.heap.size 12 _ _ _ HA.out).trans (Array.getElem?_eq_getElem (i := 12) (by rw [hs]; omega))⟩
 have f12 := frozen_of_row wb w.heap.size 12 _ _ HA.out
 have q0 : ((wb.setCell ⟨w.heap.size, 10, none⟩ (.int .i64 0))).heap[w.heap.size]? = some (.cells (cs.setIfInBounds 10 (.int .i64 0)) 28 (0, 0)) := heap_setCell_same _ w.heap.size 10 _ _ _ HA.out
 have q1 : (((wb.setCell ⟨w.heap.size, 10, none⟩ (.int .i64 0)).setCell ⟨w.heap.size, 11, none⟩ (.int .i64 0))).heap[w.heap.size]? = some (.cells ((cs.setIfInBounds 10 (.int .i64 0)).setIfInBounds 11 (.int .i64 0)) 28 (0, 0)) := heap_setCell_same _ w.heap.size 11 _ _ _ q0
 have q2 : ((((wb.setCell ⟨w.heap.size, 10, none⟩ (.int .i64 0)).setCell ⟨w.heap.size, 11, none⟩ (.int .i64 0)).setCell ⟨w.heap.size, 12, none⟩ (.int .i64 0))).heap[w.heap.size]? = some (.cells (((cs.setIfInBounds 10 (.int .i64 0)).setIfInBounds 11 (.int .i64 0)).setIfInBounds 12 (.int .i64 0)) 28 (0, 0)) := heap_setCell_same _ w.heap.size 12 _ _ _ q1
 have HB := Lib.hid (show ((((wb.setCell ⟨w.heap.size, 10, none⟩ (.int .i64 0)).setCell ⟨w.heap.size, 11, none⟩ (.int .i64 0)).setCell ⟨w.heap.size, 12, none⟩ (.int .i64 0))).heap[w.heap.size]? = some (.cells (bare11 cs) 28 (0, 0)) from q2)
 clear q0 q1 q2
 have HZ2 : Hid (((((wb.setCell ⟨w.heap.size, 10, none⟩ (.int .i64 0)).setCell ⟨w.heap.size, 11, none⟩ (.int .i64 0)).setCell ⟨w.heap.size, 12, none⟩ (.int .i64 0))).heap[w.heap.size + 1]? = some (.cells zeroCmd 28 (0, 0))) := Lib.hid ((heap_setCell_other _ ⟨w.heap.size, 12, none⟩ (w.heap.size + 1) (.int .i64 0) (by simp)).trans ((heap_setCell_other _ ⟨w.heap.size, 11, none⟩ (w.heap.size + 1) (.int .i64 0) (by simp)).trans ((heap_setCell_other _ ⟨w.heap.size, 10, none⟩ (w.heap.size + 1) (.int .i64 0) (by simp)).trans HZ.out)))
 have s0 := Below.setCell HW.out (p := ⟨w.heap.size, 10, none⟩) (Nat.le_refl _) (.int .i64 0)
 have s1 := Below.setCell s0 (p := ⟨w.heap.size, 11, none⟩) (Nat.le_refl _) (.int .i64 0)
 have s2 := Below.setCell s1 (p := ⟨w.heap.size, 12, none⟩) (Nat.le_refl _) (.int .i64 0)
 have HW2 := Lib.hid s2
 clear s0 s1 s2
 have hsz : (bare11 cs).size = 22 := (bare11_size cs).trans hs
 have HI := Lib.hid (And.intro (cmd_info hsz) h1)
 have HSZ := Lib.hid hsz
 clear hs hk h1 hsz HA HZ HW
 go_upto_region 22 with fail
 generalize hx : (((wb.setCell ⟨w.heap.size, 10, none⟩ (.int .i64 0)).setCell ⟨w.heap.size, 11, none⟩ (.int .i64 0)).setCell ⟨w.heap.size, 12, none⟩ (.int .i64 0)) = wc at HB HZ2 HW2 ⊢
 clear hx c10 f10 c11 f11 c12 f12
 go_wp2_with ((with_reducible refine wpList_load_row (o := ⟨some 48, _, _, _, _, _⟩) ?a1 28 (.tmp 1) ?a2 w.heap.size ?a3 28 (bare11 cs) (0, 0) _ HB.out Tryz.underlying28 ?a4 HI.out.1 ?_); (case a1 => rfl); (case a2 => rfl); (case a3 => rfl); (case a4 => rfl); refine Stop.out ?_)
 unfold Stop
 go_wp2_with ((with_reducible refine wpList_store_row (o := ⟨none, _, _, _, _, _⟩) ?b1 28 (.tmp 2) (.tmp 48) ?b2 (w.heap.size + 1) (bare11 cs) ?b3 ?b4 28 zeroCmd HZ2.out HI.out.1 ?b5 HI.out.2 ?_); (case b1 => rfl); (case b2 => rfl); (case b3 => rfl); (case b4 => rfl); (case b5 => exact HSZ.out.symm); have HP9 := Lib.hid (setRow_heap wc (w.heap.size + 1) _ (bare11 cs) _ _ HZ2.out); have HB9 := Lib.hid (below_setRow HW2.out (g := w.heap.size + 1) (by omega) (bare11 cs)); refine Stop.out ?_)
 unfold Stop
 go_wp2
 exact bodyPost_ret (v := .agg (bare11 cs)) (results_cell_row Tryz.results22 _ _ (w.heap.size + 1) 28 (bare11 cs) (0, 0) _ rfl HP9.out Tryz.underlying28 rfl HI.out.1) rfl ⟨rfl, HB9.out⟩
def bare8 (cs : Array Value) : Array Value := (((((((((cs.setIfInBounds 13 (.string ⟨#[]⟩)).setIfInBounds 14 (.bool false)).setIfInBounds 15 (.bool false)).setIfInBounds 16 (.string ⟨#[]⟩)).setIfInBounds 17 (.int .i64 0)).setIfInBounds 18 (.string ⟨#[]⟩)).setIfInBounds 19 (.string ⟨#[]⟩)).setIfInBounds 20 (.string ⟨#[]⟩)).setIfInBounds 21 (.slice none 0 0))
theorem bare8_size (cs : Array Value) : (bare8 cs).size = cs.size := by unfold bare8; simp
set_option maxHeartbeats 1000000 in
theorem unnamed_8 (cs : Array Value) (w : World) (hs : cs.size = 22) (hk : cs[0]? = some (.int .i64 8)) (h1 : (bare8 cs).all (·.oneCell') = true) : Calls Tryz.prog 22 #[.agg cs] w fun e w1 => e = .returned (.agg (bare8 cs)) ∧ Below w.heap.size w w1 := by
 have hb0 := heap_alloc_new w (.cells cs 28)
 have hb1 := heap_alloc_new (w.alloc (.cells cs 28)) (.cells zeroCmd 28)
 simp only [World.size_alloc] at hb1
 have HA := Lib.hid (heap_on (below_alloc (w.alloc (.cells cs 28)) (.cells zeroCmd 28)) hb0)
 have HZ := Lib.hid hb1
 have HW := Lib.hid (show Below w.heap.size w ((w.alloc (.cells cs 28)).alloc (.cells zeroCmd 28)) from below_more (below_alloc _ _))
 have a0 : ((w.alloc (.cells cs 28)).alloc (.cells zeroCmd 28)).cell? ⟨w.heap.size, 0, none⟩ = some (.int .i64 8) := (cell_of_row _ _ 0 _ _ _ HA.out).trans hk
 clear hb0 hb1
 go_enter Tryz.func22, Tryz.ntmps22
 go_upto_region 19 with fail
 generalize hx : World.alloc (World.alloc w _) _ = wb at HA HZ HW a0 ⊢
 clear hx a0
 obtain ⟨v13, c13⟩ : ∃ v, wb.cell? ⟨w.heap.size, 13, none⟩ = some v := ⟨_, (cell_of_row wb w.heap.size 13 _ _ _ HA.out).trans (Array.getElem?_eq_getElem (i := 13) (by rw [hs]; omega))⟩
 have f13 := frozen_of_row wb w.heap.size 13 _ _ HA.out
 obtain ⟨v14, c14⟩ : ∃ v, wb.cell? ⟨w.heap.size, 14, none⟩ = some v := ⟨_, (cell_of_row wb w.heap.size 14 _ _ _ HA.out).trans (Array.getElem?_eq_getElem (i := 14) (by rw [hs]; omega))⟩
 have f14 := frozen_of_row wb w.heap.size 14 _ _ HA.out
 obtain ⟨v15, c15⟩ : ∃ v, wb.cell? ⟨w.heap.size, 15, none⟩ = some v := ⟨_, (cell_of_row wb w.heap.size 15 _ _ _ HA.out).trans (Array.getElem?_eq_getElem (i := 15) (by rw [hs]; omega))⟩
 have f15 := frozen_of_row wb w.heap.size 15 _ _ HA.out
 obtain ⟨v16, c16⟩ : ∃ v, wb.cell? ⟨w.heap.size, 16, none⟩ = some v := ⟨_, (cell_of_row wb w.heap.size 16 _ _ _ HA.out).trans (Array.getElem?_eq_getElem (i := 16) (by rw [hs]; omega))⟩
 have f16 := frozen_of_row wb w.heap.size 16 _ _ HA.out
 obtain ⟨v17, c17⟩ : ∃ v, wb.cell? ⟨w.heap.size, 17, none⟩ = some v := ⟨_, (cell_of_row wb w.heap.size 17 _ _ _ HA.out).trans (Array.getElem?_eq_getElem (i := 17) (by rw [hs]; omega))⟩
 have f17 := frozen_of_row wb w.heap.size 17 _ _ HA.out
 obtain ⟨v18, c18⟩ : ∃ v, wb.cell? ⟨w.heap.size, 18, none⟩ = some v := ⟨_, (cell_of_row wb w.heap.size 18 _ _ _ HA.out).trans (Array.getElem?_eq_getElem (i := 18) (by rw [hs]; omega))⟩
 have f18 := frozen_of_row wb w.heap.size 18 _ _ HA.out
 obtain ⟨v19, c19⟩ : ∃ v, wb.cell? ⟨w.heap.size, 19, none⟩ = some v := ⟨_, (cell_of_row wb w.heap.size 19 _ _ _ HA.out).trans (Array.getElem?_eq_getElem (i := 19) (by rw [hs]; omega))⟩
 have f19 := frozen_of_row wb w.heap.size 19 _ _ HA.out
 obtain ⟨v20, c20⟩ : ∃ v, wb.cell? ⟨w.heap.size, 20, none⟩ = some v := ⟨_, (cell_of_row wb w.heap.size 20 _ _ _ HA.out).trans (Array.getElem?_eq_getElem (i := 20) (by rw [hs]; omega))⟩
 have f20 := frozen_of_row wb w.heap.size 20 _ _ HA.out
 obtain ⟨v21, c21⟩ : ∃ v, wb.cell? ⟨w.heap.size, 21, none⟩ = some v := ⟨_, (cell_of_row wb w.heap.size 21 _ _ _ HA.out).trans (Array.getElem?_eq_getElem (i := 21) (by rw [hs]; omega))⟩
 have f21 := frozen_of_row wb w.heap.size 21 _ _ HA.out
 have q0 : ((wb.setCell ⟨w.heap.size, 13, none⟩ (.string ⟨#[]⟩))).heap[w.heap.size]? = some (.cells (cs.setIfInBounds 13 (.string ⟨#[]⟩)) 28 (0, 0)) := heap_setCell_same _ w.heap.size 13 _ _ _ HA.out
 have q1 : (((wb.setCell ⟨w.heap.size, 13, none⟩ (.string ⟨#[]⟩)).setCell ⟨w.heap.size, 14, none⟩ (.bool false))).heap[w.heap.size]? = some (.cells ((cs.setIfInBounds 13 (.string ⟨#[]⟩)).setIfInBounds 14 (.bool false)) 28 (0, 0)) := heap_setCell_same _ w.heap.size 14 _ _ _ q0
 have q2 : ((((wb.setCell ⟨w.heap.size, 13, none⟩ (.string ⟨#[]⟩)).setCell ⟨w.heap.size, 14, none⟩ (.bool false)).setCell ⟨w.heap.size, 15, none⟩ (.bool false))).heap[w.heap.size]? = some (.cells (((cs.setIfInBounds 13 (.string ⟨#[]⟩)).setIfInBounds 14 (.bool false)).setIfInBounds 15 (.bool false)) 28 (0, 0)) := heap_setCell_same _ w.heap.size 15 _ _ _ q1
 have q3 : (((((wb.setCell ⟨w.heap.size, 13, none⟩ (.string ⟨#[]⟩)).setCell ⟨w.heap.size, 14, none⟩ (.bool false)).setCell ⟨w.heap.size, 15, none⟩ (.bool false)).setCell ⟨w.heap.size, 16, none⟩ (.string ⟨#[]⟩))).heap[w.heap.size]? = some (.cells ((((cs.setIfInBounds 13 (.string ⟨#[]⟩)).setIfInBounds 14 (.bool false)).setIfInBounds 15 (.bool false)).setIfInBounds 16 (.string ⟨#[]⟩)) 28 (0, 0)) := heap_setCell_same _ w.heap.size 16 _ _ _ q2
 have q4 : ((((((wb.setCell ⟨w.heap.size, 13, none⟩ (.string ⟨#[]⟩)).setCell ⟨w.heap.size, 14, none⟩ (.bool false)).setCell ⟨w.heap.size, 15, none⟩ (.bool false)).setCell ⟨w.heap.size, 16, none⟩ (.string ⟨#[]⟩)).setCell ⟨w.heap.size, 17, none⟩ (.int .i64 0))).heap[w.heap.size]? = some (.cells (((((cs.setIfInBounds 13 (.string ⟨#[]⟩)).setIfInBounds 14 (.bool false)).setIfInBounds 15 (.bool false)).setIfInBounds 16 (.string ⟨#[]⟩)).setIfInBounds 17 (.int .i64 0)) 28 (0, 0)) := heap_setCell_same _ w.heap.size 17 _ _ _ q3
 have q5 : (((((((wb.setCell ⟨w.heap.size, 13, none⟩ (.string ⟨#[]⟩)).setCell ⟨w.heap.size, 14, none⟩ (.bool false)).setCell ⟨w.heap.size, 15, none⟩ (.bool false)).setCell ⟨w.heap.size, 16, none⟩ (.string ⟨#[]⟩)).setCell ⟨w.heap.size, 17, none⟩ (.int .i64 0)).setCell ⟨w.heap.size, 18, none⟩ (.string ⟨#[]⟩))).heap[w.heap.size]? = some (.cells ((((((cs.setIfInBounds 13 (.string ⟨#[]⟩)).setIfInBounds 14 (.bool false)).setIfInBounds 15 (.bool false)).setIfInBounds 16 (.string ⟨#[]⟩)).setIfInBounds 17 (.int .i64 0)).setIfInBounds 18 (.string ⟨#[]⟩)) 28 (0, 0)) := heap_setCell_same _ w.heap.size 18 _ _ _ q4
 have q6 : ((((((((wb.setCell ⟨w.heap.size, 13, none⟩ (.string ⟨#[]⟩)).setCell ⟨w.heap.size, 14, none⟩ (.bool false)).setCell ⟨w.heap.size, 15, none⟩ (.bool false)).setCell ⟨w.heap.size, 16, none⟩ (.string ⟨#[]⟩)).setCell ⟨w.heap.size, 17, none⟩ (.int .i64 0)).setCell ⟨w.heap.size, 18, none⟩ (.string ⟨#[]⟩)).setCell ⟨w.heap.size, 19, none⟩ (.string ⟨#[]⟩))).heap[w.heap.size]? = some (.cells (((((((cs.setIfInBounds 13 (.string ⟨#[]⟩)).setIfInBounds 14 (.bool false)).setIfInBounds 15 (.bool false)).setIfInBounds 16 (.string ⟨#[]⟩)).setIfInBounds 17 (.int .i64 0)).setIfInBounds 18 (.string ⟨#[]⟩)).setIfInBounds 19 (.string ⟨#[]⟩)) 28 (0, 0)) := heap_setCell_same _ w.heap.size 19 _ _ _ q5
 have q7 : (((((((((wb.setCell ⟨w.heap.size, 13, none⟩ (.string ⟨#[]⟩)).setCell ⟨w.heap.size, 14, none⟩ (.bool false)).setCell ⟨w.heap.size, 15, none⟩ (.bool false)).setCell ⟨w.heap.size, 16, none⟩ (.string ⟨#[]⟩)).setCell ⟨w.heap.size, 17, none⟩ (.int .i64 0)).setCell ⟨w.heap.size, 18, none⟩ (.string ⟨#[]⟩)).setCell ⟨w.heap.size, 19, none⟩ (.string ⟨#[]⟩)).setCell ⟨w.heap.size, 20, none⟩ (.string ⟨#[]⟩))).heap[w.heap.size]? = some (.cells ((((((((cs.setIfInBounds 13 (.string ⟨#[]⟩)).setIfInBounds 14 (.bool false)).setIfInBounds 15 (.bool false)).setIfInBounds 16 (.string ⟨#[]⟩)).setIfInBounds 17 (.int .i64 0)).setIfInBounds 18 (.string ⟨#[]⟩)).setIfInBounds 19 (.string ⟨#[]⟩)).setIfInBounds 20 (.string ⟨#[]⟩)) 28 (0, 0)) := heap_setCell_same _ w.heap.size 20 _ _ _ q6
 have q8 : ((((((((((wb.setCell ⟨w.heap.size, 13, none⟩ (.string ⟨#[]⟩)).setCell ⟨w.heap.size, 14, none⟩ (.bool false)).setCell ⟨w.heap.size, 15, none⟩ (.bool false)).setCell ⟨w.heap.size, 16, none⟩ (.string ⟨#[]⟩)).setCell ⟨w.heap.size, 17, none⟩ (.int .i64 0)).setCell ⟨w.heap.size, 18, none⟩ (.string ⟨#[]⟩)).setCell ⟨w.heap.size, 19, none⟩ (.string ⟨#[]⟩)).setCell ⟨w.heap.size, 20, none⟩ (.string ⟨#[]⟩)).setCell ⟨w.heap.size, 21, none⟩ (.slice none 0 0))).heap[w.heap.size]? = some (.cells (((((((((cs.setIfInBounds 13 (.string ⟨#[]⟩)).setIfInBounds 14 (.bool false)).setIfInBounds 15 (.bool false)).setIfInBounds 16 (.string ⟨#[]⟩)).setIfInBounds 17 (.int .i64 0)).setIfInBounds 18 (.string ⟨#[]⟩)).setIfInBounds 19 (.string ⟨#[]⟩)).setIfInBounds 20 (.string ⟨#[]⟩)).setIfInBounds 21 (.slice none 0 0)) 28 (0, 0)) := heap_setCell_same _ w.heap.size 21 _ _ _ q7
 have HB := Lib.hid (show ((((((((((wb.setCell ⟨w.heap.size, 13, none⟩ (.string ⟨#[]⟩)).setCell ⟨w.heap.size, 14, none⟩ (.bool false)).setCell ⟨w.heap.size, 15, none⟩ (.bool false)).setCell ⟨w.heap.size, 16, none⟩ (.string ⟨#[]⟩)).setCell ⟨w.heap.size, 17, none⟩ (.int .i64 0)).setCell ⟨w.heap.size, 18, none⟩ (.string ⟨#[]⟩)).setCell ⟨w.heap.size, 19, none⟩ (.string ⟨#[]⟩)).setCell ⟨w.heap.size, 20, none⟩ (.string ⟨#[]⟩)).setCell ⟨w.heap.size, 21, none⟩ (.slice none 0 0))).heap[w.heap.size]? = some (.cells (bare8 cs) 28 (0, 0)) from q8)
 clear q0 q1 q2 q3 q4 q5 q6 q7 q8
 have HZ2 : Hid (((((((((((wb.setCell ⟨w.heap.size, 13, none⟩ (.string ⟨#[]⟩)).setCell ⟨w.heap.size, 14, none⟩ (.bool false)).setCell ⟨w.heap.size, 15, none⟩ (.bool false)).setCell ⟨w.heap.size, 16, none⟩ (.string ⟨#[]⟩)).setCell ⟨w.heap.size, 17, none⟩ (.int .i64 0)).setCell ⟨w.heap.size, 18, none⟩ (.string ⟨#[]⟩)).setCell ⟨w.heap.size, 19, none⟩ (.string ⟨#[]⟩)).setCell ⟨w.heap.size, 20, none⟩ (.string ⟨#[]⟩)).setCell ⟨w.heap.size, 21, none⟩ (.slice none 0 0))).heap[w.heap.size + 1]? = some (.cells zeroCmd 28 (0, 0))) := Lib.hid ((heap_setCell_other _ ⟨w.heap.size, 21, none⟩ (w.heap.size + 1) (.slice none 0 0) (by simp)).trans ((heap_setCell_other _ ⟨w.heap.size, 20, none⟩ (w.heap.size + 1) (.string ⟨#[]⟩) (by simp)).trans ((heap_setCell_other _ ⟨w.heap.size, 19, none⟩ (w.heap.size + 1) (.string ⟨#[]⟩) (by simp)).trans ((heap_setCell_other _ ⟨w.heap.size, 18, none⟩ (w.heap.size + 1) (.string ⟨#[]⟩) (by simp)).trans ((heap_setCell_other _ ⟨w.heap.size, 17, none⟩ (w.heap.size + 1) (.int .i64 0) (by simp)).trans ((heap_setCell_other _ ⟨w.heap.size, 16, none⟩ (w.heap.size + 1) (.string ⟨#[]⟩) (by simp)).trans ((heap_setCell_other _ ⟨w.heap.size, 15, none⟩ (w.heap.size + 1) (.bool false) (by simp)).trans ((heap_setCell_other _ ⟨w.heap.size, 14, none⟩ (w.heap.size + 1) (.bool false) (by simp)).trans ((heap_setCell_other _ ⟨w.heap.size, 13, none⟩ (w.heap.size + 1) (.string ⟨#[]⟩) (by simp)).trans HZ.out)))))))))
 have s0 := Below.setCell HW.out (p := ⟨w.heap.size, 13, none⟩) (Nat.le_refl _) (.string ⟨#[]⟩)
 have s1 := Below.setCell s0 (p := ⟨w.heap.size, 14, none⟩) (Nat.le_refl _) (.bool false)
 have s2 := Below.setCell s1 (p := ⟨w.heap.size, 15, none⟩) (Nat.le_refl _) (.bool false)
 have s3 := Below.setCell s2 (p := ⟨w.heap.size, 16, none⟩) (Nat.le_refl _) (.string ⟨#[]⟩)
 have s4 := Below.setCell s3 (p := ⟨w.heap.size, 17, none⟩) (Nat.le_refl _) (.int .i64 0)
 have s5 := Below.setCell s4 (p := ⟨w.heap.size, 18, none⟩) (Nat.le_refl _) (.string ⟨#[]⟩)
 have s6 := Below.setCell s5 (p := ⟨w.heap.size, 19, none⟩) (Nat.le_refl _) (.string ⟨#[]⟩)
 have s7 := Below.setCell s6 (p := ⟨w.heap.size, 20, none⟩) (Nat.le_refl _) (.string ⟨#[]⟩)
 have s8 := Below.setCell s7 (p := ⟨w.heap.size, 21, none⟩) (Nat.le_refl _) (.slice none 0 0)
 have HW2 := Lib.hid s8
 clear s0 s1 s2 s3 s4 s5 s6 s7 s8
 have hsz : (bare8 cs).size = 22 := (bare8_size cs).trans hs
 have HI := Lib.hid (And.intro (cmd_info hsz) h1)
 have HSZ := Lib.hid hsz
 clear hs hk h1 hsz HA HZ HW
 go_upto_region 22 with fail
 generalize hx : (((((((((wb.setCell ⟨w.heap.size, 13, none⟩ (.string ⟨#[]⟩)).setCell ⟨w.heap.size, 14, none⟩ (.bool false)).setCell ⟨w.heap.size, 15, none⟩ (.bool false)).setCell ⟨w.heap.size, 16, none⟩ (.string ⟨#[]⟩)).setCell ⟨w.heap.size, 17, none⟩ (.int .i64 0)).setCell ⟨w.heap.size, 18, none⟩ (.string ⟨#[]⟩)).setCell ⟨w.heap.size, 19, none⟩ (.string ⟨#[]⟩)).setCell ⟨w.heap.size, 20, none⟩ (.string ⟨#[]⟩)).setCell ⟨w.heap.size, 21, none⟩ (.slice none 0 0)) = wc at HB HZ2 HW2 ⊢
 clear hx c13 f13 c14 f14 c15 f15 c16 f16 c17 f17 c18 f18 c19 f19 c20 f20 c21 f21
 go_wp2_with ((with_reducible refine wpList_load_row (o := ⟨some 48, _, _, _, _, _⟩) ?a1 28 (.tmp 1) ?a2 w.heap.size ?a3 28 (bare8 cs) (0, 0) _ HB.out Tryz.underlying28 ?a4 HI.out.1 ?_); (case a1 => rfl); (case a2 => rfl); (case a3 => rfl); (case a4 => rfl); refine Stop.out ?_)
 unfold Stop
 go_wp2_with ((with_reducible refine wpList_store_row (o := ⟨none, _, _, _, _, _⟩) ?b1 28 (.tmp 2) (.tmp 48) ?b2 (w.heap.size + 1) (bare8 cs) ?b3 ?b4 28 zeroCmd HZ2.out HI.out.1 ?b5 HI.out.2 ?_); (case b1 => rfl); (case b2 => rfl); (case b3 => rfl); (case b4 => rfl); (case b5 => exact HSZ.out.symm); have HP9 := Lib.hid (setRow_heap wc (w.heap.size + 1) _ (bare8 cs) _ _ HZ2.out); have HB9 := Lib.hid (below_setRow HW2.out (g := w.heap.size + 1) (by omega) (bare8 cs)); refine Stop.out ?_)
 unfold Stop
 go_wp2
 exact bodyPost_ret (v := .agg (bare8 cs)) (results_cell_row Tryz.results22 _ _ (w.heap.size + 1) 28 (bare8 cs) (0, 0) _ rfl HP9.out Tryz.underlying28 rfl HI.out.1) rfl ⟨rfl, HB9.out⟩
end Go.Proofs.YtplghpamckdklaaGreat
