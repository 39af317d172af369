/- Lines that may be: both sides. Lines that may not be, looked for in a row: the program's. Commands: fields that a kind names are what they may be: the program's. -/
import Derived.Test.YtplghpamckdklaaGreatQ5
import Derived.WalkMore
import Derived.Test.YtplghpamckdklaaGreatQ7
namespace Go.Proofs.YtplghpamckdklaaGreat
open Go.RowKit
set_option maxRecDepth 100000
set_option linter.unusedSimpArgs false

set_option maxHeartbeats 4000000 in
theorem code_goodLine (su ca : Int) (fr to_ pl : ByteArray) (am : Int) (gr : Bool) (co : Int) (mi : Bool) (sale : Bool) (w : World) (hf : fr.size ≤ 140737488351232) (ht : to_.size ≤ 140737488351232) (hp : pl.size ≤ 140737488351232) (V : Bool) (hV : (supB su fr to_ pl gr co && inB ca 1 5 && inB am 0 1099511627776 && inB co 0 1099511627776 && !(sale && mi)) = V) :
    Calls Tryz.prog 12 #[.agg #[.int .i64 su, .int .i64 ca, .string fr, .string to_, .string pl, .int .i64 am, .bool gr, .int .i64 co, .bool mi], .bool sale] w fun e w' => e = .returned (.bool V) ∧ Below w.heap.size w w' := by
  have HS := Lib.hid (fun W => code_isSupplied su ca fr to_ pl am gr co mi W hf ht hp _ rfl)
  have HX := Lib.hid (And.intro (heap_alloc_new w (.cells #[.int .i64 su, .int .i64 ca, .string fr, .string to_, .string pl, .int .i64 am, .bool gr, .int .i64 co, .bool mi] 30)) (below_alloc w (.cells #[.int .i64 su, .int .i64 ca, .string fr, .string to_, .string pl, .int .i64 am, .bool gr, .int .i64 co, .bool mi] 30)))
  clear hf ht hp
  generalize supB su fr to_ pl gr co = b0 at HS hV
  cases b0 with
  | false =>
    simp only [Bool.false_and, Bool.true_and, Bool.and_false, Bool.and_true] at hV
    subst hV
    go_enter Tryz.func12, Tryz.ntmps12
    go_wp2_with (first
      | (go_at_call 37; refine (HS.out _).mono ?_; rintro e w1 ⟨rfl, hb⟩; obtain ⟨x0, x1, x2, x3, x4, x5, x6, x7, x8⟩ := cellsLineV (heap_on hb HX.out.1); have HB := Lib.hid (below_then HX.out.2 hb); clear hb)
      | (go_at_call 29; refine (code_isFrom _ _ _ _).mono ?_; rintro e w2 ⟨rfl, rfl⟩))
    go_ret
    exact ⟨by first | rfl | simp, HB.out⟩
  | true =>
    cases h1 : inB ca 1 5 with
    | false =>
      rw [h1] at hV
      simp only [Bool.false_and, Bool.true_and, Bool.and_false, Bool.and_true] at hV
      subst hV
      go_enter Tryz.func12, Tryz.ntmps12
      go_wp2_with (first
        | (go_at_call 37; refine (HS.out _).mono ?_; rintro e w1 ⟨rfl, hb⟩; obtain ⟨x0, x1, x2, x3, x4, x5, x6, x7, x8⟩ := cellsLineV (heap_on hb HX.out.1); have HB := Lib.hid (below_then HX.out.2 hb); clear hb)
        | (go_at_call 29; refine (code_isFrom _ _ _ _).mono ?_; rintro e w2 ⟨rfl, rfl⟩))
      go_ret
      exact ⟨by first | rfl | simp, HB.out⟩
    | true =>
      rw [h1] at hV
      cases h2 : inB am 0 1099511627776 with
      | false =>
        rw [h2] at hV
        simp only [Bool.false_and, Bool.true_and, Bool.and_false, Bool.and_true] at hV
        subst hV
        go_enter Tryz.func12, Tryz.ntmps12
        go_wp2_with (first
          | (go_at_call 37; refine (HS.out _).mono ?_; rintro e w1 ⟨rfl, hb⟩; obtain ⟨x0, x1, x2, x3, x4, x5, x6, x7, x8⟩ := cellsLineV (heap_on hb HX.out.1); have HB := Lib.hid (below_then HX.out.2 hb); clear hb)
          | (go_at_call 29; refine (code_isFrom _ _ _ _).mono ?_; rintro e w2 ⟨rfl, rfl⟩))
        go_ret
        exact ⟨by first | rfl | simp, HB.out⟩
      | true =>
        rw [h2] at hV
        cases h3 : inB co 0 1099511627776 with
        | false =>
          rw [h3] at hV
          simp only [Bool.false_and, Bool.true_and, Bool.and_false, Bool.and_true] at hV
          subst hV
          go_enter Tryz.func12, Tryz.ntmps12
          go_wp2_with (first
            | (go_at_call 37; refine (HS.out _).mono ?_; rintro e w1 ⟨rfl, hb⟩; obtain ⟨x0, x1, x2, x3, x4, x5, x6, x7, x8⟩ := cellsLineV (heap_on hb HX.out.1); have HB := Lib.hid (below_then HX.out.2 hb); clear hb)
            | (go_at_call 29; refine (code_isFrom _ _ _ _).mono ?_; rintro e w2 ⟨rfl, rfl⟩))
          go_ret
          exact ⟨by first | rfl | simp, HB.out⟩
        | true =>
          rw [h3] at hV
          simp only [Bool.false_and, Bool.true_and, Bool.and_false, Bool.and_true] at hV
          cases sale
          all_goals
            simp only [Bool.false_and, Bool.true_and, Bool.not_false] at hV
            subst hV
            go_enter Tryz.func12, Tryz.ntmps12
            go_wp2_with (first
              | (go_at_call 37; refine (HS.out _).mono ?_; rintro e w1 ⟨rfl, hb⟩; obtain ⟨x0, x1, x2, x3, x4, x5, x6, x7, x8⟩ := cellsLineV (heap_on hb HX.out.1); have HB := Lib.hid (below_then HX.out.2 hb); clear hb)
              | (go_at_call 29; refine (code_isFrom _ _ _ _).mono ?_; rintro e w2 ⟨rfl, rfl⟩))
            go_ret
            exact ⟨by first | rfl | simp, HB.out⟩
end Go.Proofs.YtplghpamckdklaaGreat

namespace Go.Proofs.YtplghpamckdklaaGreat
open Go.RowKit
set_option maxRecDepth 100000
set_option linter.unusedSimpArgs false
set_option linter.unusedVariables false

theorem below_more {w v : World} {o : Obj} (h : Below w.heap.size w v) : Below w.heap.size w (v.alloc o) := h.alloc h.size o
def badAny (L : List LineV) (sale : Bool) : Bool := L.any fun l => !lineGood l sale
theorem bad_next {L : List LineV} {sale : Bool} {k : Nat} (hk : k < L.length) (h : badAny (L.take k) sale = false) (hs : lineGood L[k] sale = true) : badAny (L.take (k + 1)) sale = false := by
  rw [List.take_succ_eq_append_getElem hk]
  unfold badAny at *
  rw [List.any_append, h]
  simp [hs]
theorem bad_found {L : List LineV} {sale : Bool} {k : Nat} (hk : k < L.length) (hs : lineGood L[k] sale = false) : badAny L sale = true := by
  unfold badAny
  rw [List.any_eq_true]
  exact ⟨L[k], List.getElem_mem hk, by simp [hs]⟩
set_option maxHeartbeats 2000000 in
theorem code_goodDoc1 (l : LineV) (b : Nat) (sale : Bool) (w : World) (hb : b < w.heap.size) (hc : w.cell? ⟨b, 1, none⟩ = some (.bool sale)) (hz : l.2.2.1.size ≤ 140737488351232 ∧ l.2.2.2.1.size ≤ 140737488351232 ∧ l.2.2.2.2.1.size ≤ 140737488351232) : Calls Tryz.prog 35 #[.agg #[.int .i64 l.1, .int .i64 l.2.1, .string l.2.2.1, .string l.2.2.2.1, .string l.2.2.2.2.1, .int .i64 l.2.2.2.2.2.1, .bool l.2.2.2.2.2.2.1, .int .i64 l.2.2.2.2.2.2.2.1, .bool l.2.2.2.2.2.2.2.2], .pointer (some ⟨b, 0, none⟩)] w fun e w1 => e = .returned (.bool (!lineGood l sale)) ∧ Below w.heap.size w w1 := by
  have HG : Hid (∀ W, Calls Tryz.prog 12 #[.agg #[.int .i64 l.1, .int .i64 l.2.1, .string l.2.2.1, .string l.2.2.2.1, .string l.2.2.2.2.1, .int .i64 l.2.2.2.2.2.1, .bool l.2.2.2.2.2.2.1, .int .i64 l.2.2.2.2.2.2.2.1, .bool l.2.2.2.2.2.2.2.2], .bool sale] W fun e w1 => e = .returned (.bool (lineGood l sale)) ∧ Below W.heap.size W w1) := Lib.hid (fun W => code_goodLine _ _ _ _ _ _ _ _ _ sale W hz.1 hz.2.1 hz.2.2 _ rfl)
  generalize lineGood l sale = g at HG
  have HB0 := Lib.hid (below_alloc w (.cells #[.int .i64 l.1, .int .i64 l.2.1, .string l.2.2.1, .string l.2.2.2.1, .string l.2.2.2.2.1, .int .i64 l.2.2.2.2.2.1, .bool l.2.2.2.2.2.2.1, .int .i64 l.2.2.2.2.2.2.2.1, .bool l.2.2.2.2.2.2.2.2] 30))
  clear hz
  go_enter Tryz.func35, Tryz.ntmps35
  go_wp2_with (go_at_call 12; refine (HG.out _).mono ?_; rintro e w2 ⟨rfl, hb⟩; have HB := Lib.hid (below_then HB0.out hb); clear hb)
  go_ret
  exact ⟨rfl, HB.out⟩
def IdxP (L : List LineV) (sale : Bool) (w : World) (e : Ending) (w1 : World) : Prop := ∃ r : Int, e = .returned (.int .i64 r) ∧ decide (0 ≤ r) = badAny L sale ∧ -1 ≤ r ∧ Below w.heap.size w w1
set_option maxHeartbeats 2000000 in
theorem code_indexLine (A : Option Addr) (L : List LineV) (c : Nat) (b : Nat) (sale : Bool) (w : World) (hr : RowLineV w A L) (hlc : L.length ≤ c) (hln : L.length ≤ 140737488351232) (hg : ∀ r ∈ L, r.2.2.1.size ≤ 140737488351232 ∧ r.2.2.2.1.size ≤ 140737488351232 ∧ r.2.2.2.2.1.size ≤ 140737488351232) (hb : b < w.heap.size) (hc : w.cell? ⟨b, 1, none⟩ = some (.bool sale)) : Calls Tryz.prog 65 #[.slice A L.length c, .func (Fn.func 35) #[] #[.pointer (some ⟨b, 0, none⟩)]] w fun e w1 => IdxP L sale w e w1 := by
  have HR := Lib.hid hr
  have HG := Lib.hid hg
  have HC := Lib.hid (And.intro hb hc)
  have hl4 : (L.length : Int) ≤ 4000000000000000000 := by omega
  clear hr hg hb hc hln
  go_enter Tryz.func65, Tryz.ntmps65
  go_wp2
  go_loopw [8] (fun i wr => ∃ (k : Nat), k ≤ L.length ∧ i = .int .i64 k ∧ Hid (badAny (L.take k) sale = false) ∧ Hid (Below w.heap.size w wr)) (fun i _ => L.length - (intOf i).toNat)
  case atStart => exact ⟨0, Nat.zero_le _, rfl, Lib.hid rfl, Lib.hid (Below.refl _ _)⟩
  case round =>
    obtain ⟨k, hk, rfl, HS, HB⟩ := hrel
    by_cases hlt : k < L.length
    · have hlt' : (k : Int) < (L.length : Int) := by omega
      have hlc' : (k : Int) < (c : Int) := by omega
      obtain ⟨a, o, rfl, hbl, y0, y1, y2, y3, y4, y5, y6, y7, y8⟩ := (HR.out.on HB.out).at_ k hlt
      have HD : Hid (∀ W, Below wr.heap.size wr W → Calls Tryz.prog 35 #[.agg #[.int .i64 L[k].1, .int .i64 L[k].2.1, .string L[k].2.2.1, .string L[k].2.2.2.1, .string L[k].2.2.2.2.1, .int .i64 L[k].2.2.2.2.2.1, .bool L[k].2.2.2.2.2.2.1, .int .i64 L[k].2.2.2.2.2.2.2.1, .bool L[k].2.2.2.2.2.2.2.2], .pointer (some ⟨b, 0, none⟩)] W fun e w1 => e = .returned (.bool (!lineGood L[k] sale)) ∧ Below W.heap.size W w1) := Lib.hid (fun W hb2 => code_goodDoc1 L[k] b sale W (Nat.lt_of_lt_of_le HC.out.1 (below_then HB.out hb2).size) (cell_on (below_then HB.out hb2) HC.out.2) (HG.out _ (List.getElem_mem hlt)))
      cases hG : lineGood L[k] sale with
      | true =>
        have HN := Lib.hid (bad_next hlt HS.out hG)
        rw [hG] at HD
        clear hG hbl
        go_wp2_with (go_at_call 35; refine (HD.out _ (Below.refl _ _)).mono ?_; rintro e w2 ⟨rfl, hb2⟩; have HB2 := Lib.hid (below_then HB.out hb2); clear hb2)
        go_roundw
        case rel => exact ⟨k + 1, by omega, by go_num, HN, HB2⟩
        case measure => simp [intOf]; omega
      | false =>
        have HN := Lib.hid (bad_found hlt hG)
        rw [hG] at HD
        clear hG hbl
        go_wp2_with (go_at_call 35; refine (HD.out _ (Below.refl _ _)).mono ?_; rintro e w2 ⟨rfl, hb2⟩; have HB2 := Lib.hid (below_then HB.out hb2); clear hb2)
        go_ret
        exact ⟨k, rfl, by rw [HN.out]; simp, by omega, HB2.out⟩
    · obtain rfl : k = L.length := by omega
      have HE : Hid (badAny L sale = false) := Lib.hid (by have := HS.out; rwa [List.take_length] at this)
      clear HS
      go_wp2
      go_ret
      exact ⟨-1, rfl, by rw [HE.out]; rfl, by omega, HB.out⟩
set_option maxHeartbeats 2000000 in
theorem code_containsLine (A : Option Addr) (L : List LineV) (c : Nat) (b : Nat) (sale : Bool) (w : World) (hr : RowLineV w A L) (hlc : L.length ≤ c) (hln : L.length ≤ 140737488351232) (hg : ∀ r ∈ L, r.2.2.1.size ≤ 140737488351232 ∧ r.2.2.2.1.size ≤ 140737488351232 ∧ r.2.2.2.2.1.size ≤ 140737488351232) (hb : b < w.heap.size) (hc : w.cell? ⟨b, 1, none⟩ = some (.bool sale)) : Calls Tryz.prog 34 #[.slice A L.length c, .func (Fn.func 35) #[] #[.pointer (some ⟨b, 0, none⟩)]] w fun e w1 => e = .returned (.bool (badAny L sale)) ∧ Below w.heap.size w w1 := by
  have HI := Lib.hid (code_indexLine A L c b sale w hr hlc hln hg hb hc)
  clear hr hlc hln hg hb hc
  go_enter Tryz.func34, Tryz.ntmps34
  go_wp2_with (go_at_call 65; refine (HI.out).mono ?_; rintro e w2 ⟨r, rfl, hd, h1, hb⟩; have HB := Lib.hid hb; have HD := Lib.hid hd; clear hb hd)
  all_goals
    go_ret
    exact ⟨ret_bool (by rw [← HD.out]), HB.out⟩
end Go.Proofs.YtplghpamckdklaaGreat

namespace Go.Proofs.YtplghpamckdklaaGreat
open Go.RowKit
set_option maxRecDepth 100000
set_option linter.unusedSimpArgs false
set_option linter.unusedVariables false

theorem cells22 {W : World} {g : Nat} {v0 v1 v2 v3 v4 v5 v6 v7 v8 v9 v10 v11 v12 v13 v14 v15 v16 v17 v18 v19 v20 v21 : Value} {t : TypeId} (h : W.heap[g]? = some (.cells #[v0, v1, v2, v3, v4, v5, v6, v7, v8, v9, v10, v11, v12, v13, v14, v15, v16, v17, v18, v19, v20, v21] t (0, 0))) : W.cell? ⟨g, 0, none⟩ = some v0 ∧ W.cell? ⟨g, 1, none⟩ = some v1 ∧ W.cell? ⟨g, 2, none⟩ = some v2 ∧ W.cell? ⟨g, 3, none⟩ = some v3 ∧ W.cell? ⟨g, 4, none⟩ = some v4 ∧ W.cell? ⟨g, 5, none⟩ = some v5 ∧ W.cell? ⟨g, 6, none⟩ = some v6 ∧ W.cell? ⟨g, 7, none⟩ = some v7 ∧ W.cell? ⟨g, 8, none⟩ = some v8 ∧ W.cell? ⟨g, 9, none⟩ = some v9 ∧ W.cell? ⟨g, 10, none⟩ = some v10 ∧ W.cell? ⟨g, 11, none⟩ = some v11 ∧ W.cell? ⟨g, 12, none⟩ = some v12 ∧ W.cell? ⟨g, 13, none⟩ = some v13 ∧ W.cell? ⟨g, 14, none⟩ = some v14 ∧ W.cell? ⟨g, 15, none⟩ = some v15 ∧ W.cell? ⟨g, 16, none⟩ = some v16 ∧ W.cell? ⟨g, 17, none⟩ = some v17 ∧ W.cell? ⟨g, 18, none⟩ = some v18 ∧ W.cell? ⟨g, 19, none⟩ = some v19 ∧ W.cell? ⟨g, 20, none⟩ = some v20 ∧ W.cell? ⟨g, 21, none⟩ = some v21 :=
  ⟨cell_of_row W g 0 _ _ _ h, cell_of_row W g 1 _ _ _ h, cell_of_row W g 2 _ _ _ h, cell_of_row W g 3 _ _ _ h, cell_of_row W g 4 _ _ _ h, cell_of_row W g 5 _ _ _ h, cell_of_row W g 6 _ _ _ h, cell_of_row W g 7 _ _ _ h, cell_of_row W g 8 _ _ _ h, cell_of_row W g 9 _ _ _ h, cell_of_row W g 10 _ _ _ h, cell_of_row W g 11 _ _ _ h, cell_of_row W g 12 _ _ _ h, cell_of_row W g 13 _ _ _ h, cell_of_row W g 14 _ _ _ h, cell_of_row W g 15 _ _ _ h, cell_of_row W g 16 _ _ _ h, cell_of_row W g 17 _ _ _ h, cell_of_row W g 18 _ _ _ h, cell_of_row W g 19 _ _ _ h, cell_of_row W g 20 _ _ _ h, cell_of_row W g 21 _ _ _ h⟩
def perB (kind k y i : Int) : Bool := (k == kind) && Civ.good k y i
set_option maxHeartbeats 1000000 in
theorem code_isPeriod (k y i kind : Int) (w : World) : Calls Tryz.prog 51 #[.agg #[.int .i64 k, .int .i64 y, .int .i64 i], .int .i64 kind] w fun e w1 => e = .returned (.bool (perB kind k y i)) ∧ Below w.heap.size w w1 := by
  unfold perB
  cases hk : (k == kind)
  · go_enter Tryz.func51, Tryz.ntmps51
    go_wp2
    go_ret
    exact ⟨rfl, below_alloc _ _⟩
  · go_enter Tryz.func51, Tryz.ntmps51
    go_wp2_with (go_at_call 81; refine (Civs.code_good _ _ _ _).mono ?_; rintro e w2 ⟨rfl, hb⟩; have HB := Lib.hid (below_then (below_alloc w _) hb); clear hb)
    go_ret
    exact ⟨by simp, HB.out⟩
set_option maxHeartbeats 4000000 in
theorem areGood_11 (x : CmdV) (w : World) (hk : x.kind = 11) : Calls Tryz.prog 20 #[.agg #[.int .i64 x.kind, .string x.state, .string x.text, .int .i64 x.category, .int .i64 x.bp, .int .i64 x.from_, .int .i64 x.until_, .int .i64 x.num, .int .i64 x.den, .int .i64 x.index, .int .i64 x.pk, .int .i64 x.py, .int .i64 x.pi, .string x.id, .bool x.sale, .bool x.credit, .string x.refers, .int .i64 x.day, .string x.country, .string x.number, .string x.currency, .slice x.linesA x.lines.length x.linesC]] w fun e w1 => e = .returned (.bool (perB 3 x.pk x.py x.pi)) ∧ Below w.heap.size w w1 := by
  go_enter Tryz.func20, Tryz.ntmps20
  go_wp2_with (go_at_call 51; refine (code_isPeriod _ _ _ _ _).mono ?_; rintro e w2 ⟨rfl, hb⟩; have HB := Lib.hid (below_then (below_alloc w _) hb); clear hb)
  go_ret
  exact ⟨rfl, HB.out⟩
set_option maxHeartbeats 4000000 in
theorem areGood_8 (x : CmdV) (g : Bool) (w : World) (hk : x.kind = 8) (HG : Hid (∀ W, Below w.heap.size w W → Calls Tryz.prog 10 #[.agg #[.string x.id, .bool x.sale, .bool x.credit, .string x.refers, .int .i64 x.day, .string x.country, .string x.number, .string x.currency, .slice x.linesA x.lines.length x.linesC]] W fun e w1 => e = .returned (.bool g) ∧ Below W.heap.size W w1)) : Calls Tryz.prog 20 #[.agg #[.int .i64 x.kind, .string x.state, .string x.text, .int .i64 x.category, .int .i64 x.bp, .int .i64 x.from_, .int .i64 x.until_, .int .i64 x.num, .int .i64 x.den, .int .i64 x.index, .int .i64 x.pk, .int .i64 x.py, .int .i64 x.pi, .string x.id, .bool x.sale, .bool x.credit, .string x.refers, .int .i64 x.day, .string x.country, .string x.number, .string x.currency, .slice x.linesA x.lines.length x.linesC]] w fun e w1 => e = .returned (.bool g) ∧ Below w.heap.size w w1 := by
  go_enter Tryz.func20, Tryz.ntmps20
  go_wp2_with (go_at_call 10; refine (HG.out _ (below_alloc _ _)).mono ?_; rintro e w2 ⟨rfl, hb⟩; have HB := Lib.hid (below_then (below_alloc w _) hb); clear hb)
  go_ret
  exact ⟨rfl, HB.out⟩
end Go.Proofs.YtplghpamckdklaaGreat
