/- Lines that may not be, looked for in a row: the program's. -/
import Derived.Test.YtjanhgekocpobaaDocE
import Derived.WalkMore
namespace Go.Proofs.Ytjanhgekocpobaa
open Go.RowKit
set_option maxRecDepth 100000
set_option linter.unusedSimpArgs false
set_option linter.unusedVariables false

theorem below_more {w v : World} {o : Obj} (h : Below w.heap.size w v) : Below w.heap.size w (v.alloc o) := h.alloc h.size o
def badAny (L : List LineV) (sale : Bool) : Bool := L.any fun l => !lineGood l sale
theorem bad_next {L : List LineV} {sale : Bool} {k : Nat} (hk : k < L.length) (h : badAny (L.take k) sale = false) (hs : lineGood L[k] sale = true) : badAny (L.take (k + 1)) sale = false := by
  rw [List.take_succ_eq_append_getElem hk]
  unfold badAny at *
  rw [List.any_append, h]
  simp [hs]
theorem bad_found {L : List LineV} {sale : Bool} {k : Nat} (hk : k < L.length) (hs : lineGood L[k] sale = false) : badAny L sale = true := by
  unfold badAny
  rw [List.any_eq_true]
  exact ⟨L[k], List.getElem_mem hk, by simp [hs]⟩
set_option maxHeartbeats 2000000 in
theorem code_goodDoc1 (l : LineV) (b : Nat) (sale : Bool) (w : World) (hb : b < w.heap.size) (hc : w.cell? ⟨b, 1, none⟩ = some (.bool sale)) (hz : l.2.2.1.size ≤ 140737488351232 ∧ l.2.2.2.1.size ≤ 140737488351232 ∧ l.2.2.2.2.1.size ≤ 140737488351232) : Calls Try.prog 40 #[.agg #[.int .i64 l.1, .int .i64 l.2.1, .string l.2.2.1, .string l.2.2.2.1, .string l.2.2.2.2.1, .int .i64 l.2.2.2.2.2.1, .bool l.2.2.2.2.2.2.1, .int .i64 l.2.2.2.2.2.2.2.1, .bool l.2.2.2.2.2.2.2.2], .pointer (some ⟨b, 0, none⟩)] w fun e w1 => e = .returned (.bool (!lineGood l sale)) ∧ Below w.heap.size w w1 := by
  have HG : Hid (∀ W, Calls Try.prog 41 #[.agg #[.int .i64 l.1, .int .i64 l.2.1, .string l.2.2.1, .string l.2.2.2.1, .string l.2.2.2.2.1, .int .i64 l.2.2.2.2.2.1, .bool l.2.2.2.2.2.2.1, .int .i64 l.2.2.2.2.2.2.2.1, .bool l.2.2.2.2.2.2.2.2], .bool sale] W fun e w1 => e = .returned (.bool (lineGood l sale)) ∧ Below W.heap.size W w1) := Lib.hid (fun W => code_goodLine _ _ _ _ _ _ _ _ _ sale W hz.1 hz.2.1 hz.2.2 _ rfl)
  generalize lineGood l sale = g at HG
  have HB0 := Lib.hid (below_alloc w (.cells #[.int .i64 l.1, .int .i64 l.2.1, .string l.2.2.1, .string l.2.2.2.1, .string l.2.2.2.2.1, .int .i64 l.2.2.2.2.2.1, .bool l.2.2.2.2.2.2.1, .int .i64 l.2.2.2.2.2.2.2.1, .bool l.2.2.2.2.2.2.2.2] 60))
  clear hz
  go_enter Try.func40, Try.ntmps40
  go_wp2_with (go_at_call 41; refine (HG.out _).mono ?_; rintro e w2 ⟨rfl, hb⟩; have HB := Lib.hid (below_then HB0.out hb); clear hb)
  go_ret
  exact ⟨rfl, HB.out⟩
def IdxP (L : List LineV) (sale : Bool) (w : World) (e : Ending) (w1 : World) : Prop := ∃ r : Int, e = .returned (.int .i64 r) ∧ decide (0 ≤ r) = badAny L sale ∧ -1 ≤ r ∧ Below w.heap.size w w1
set_option maxHeartbeats 2000000 in
theorem code_indexLine (A : Option Addr) (L : List LineV) (c : Nat) (b : Nat) (sale : Bool) (w : World) (hr : RowLineV w A L) (hlc : L.length ≤ c) (hln : L.length ≤ 140737488351232) (hg : ∀ r ∈ L, r.2.2.1.size ≤ 140737488351232 ∧ r.2.2.2.1.size ≤ 140737488351232 ∧ r.2.2.2.2.1.size ≤ 140737488351232) (hb : b < w.heap.size) (hc : w.cell? ⟨b, 1, none⟩ = some (.bool sale)) : Calls Try.prog 57 #[.slice A L.length c, .func (Fn.func 40) #[] #[.pointer (some ⟨b, 0, none⟩)]] w fun e w1 => IdxP L sale w e w1 := by
  have HR := Lib.hid hr
  have HG := Lib.hid hg
  have HC := Lib.hid (And.intro hb hc)
  have hl4 : (L.length : Int) ≤ 4000000000000000000 := by omega
  clear hr hg hb hc hln
  go_enter Try.func57, Try.ntmps57
  go_wp2
  go_loopw [8] (fun i wr => ∃ (k : Nat), k ≤ L.length ∧ i = .int .i64 k ∧ Hid (badAny (L.take k) sale = false) ∧ Hid (Below w.heap.size w wr)) (fun i _ => L.length - (intOf i).toNat)
  case atStart => exact ⟨0, Nat.zero_le _, rfl, Lib.hid rfl, Lib.hid (Below.refl _ _)⟩
  case round =>
    obtain ⟨k, hk, rfl, HS, HB⟩ := hrel
    by_cases hlt : k < L.length
    · have hlt' : (k : Int) < (L.length : Int) := by omega
      have hlc' : (k : Int) < (c : Int) := by omega
      obtain ⟨a, o, rfl, hbl, y0, y1, y2, y3, y4, y5, y6, y7, y8⟩ := (HR.out.on HB.out).at_ k hlt
      have HD : Hid (∀ W, Below wr.heap.size wr W → Calls Try.prog 40 #[.agg #[.int .i64 L[k].1, .int .i64 L[k].2.1, .string L[k].2.2.1, .string L[k].2.2.2.1, .string L[k].2.2.2.2.1, .int .i64 L[k].2.2.2.2.2.1, .bool L[k].2.2.2.2.2.2.1, .int .i64 L[k].2.2.2.2.2.2.2.1, .bool L[k].2.2.2.2.2.2.2.2], .pointer (some ⟨b, 0, none⟩)] W fun e w1 => e = .returned (.bool (!lineGood L[k] sale)) ∧ Below W.heap.size W w1) := Lib.hid (fun W hb2 => code_goodDoc1 L[k] b sale W (Nat.lt_of_lt_of_le HC.out.1 (below_then HB.out hb2).size) (cell_on (below_then HB.out hb2) HC.out.2) (HG.out _ (List.getElem_mem hlt)))
      cases hG : lineGood L[k] sale with
      | true =>
        have HN := Lib.hid (bad_next hlt HS.out hG)
        rw [hG] at HD
        clear hG hbl
        go_wp2_with (go_at_call 40; refine (HD.out _ (Below.refl _ _)).mono ?_; rintro e w2 ⟨rfl, hb2⟩; have HB2 := Lib.hid (below_then HB.out hb2); clear hb2)
        go_roundw
        case rel => exact ⟨k + 1, by omega, by go_num, HN, HB2⟩
        case measure => simp [intOf]; omega
      | false =>
        have HN := Lib.hid (bad_found hlt hG)
        rw [hG] at HD
        clear hG hbl
        go_wp2_with (go_at_call 40; refine (HD.out _ (Below.refl _ _)).mono ?_; rintro e w2 ⟨rfl, hb2⟩; have HB2 := Lib.hid (below_then HB.out hb2); clear hb2)
        go_ret
        exact ⟨k, rfl, by rw [HN.out]; simp, by omega, HB2.out⟩
    · obtain rfl : k = L.length := by omega
      have HE : Hid (badAny L sale = false) := Lib.hid (by have := HS.out; rwa [List.take_length] at this)
      clear HS
      go_wp2
      go_ret
      exact ⟨-1, rfl, by rw [HE.out]; rfl, by omega, HB.out⟩
set_option maxHeartbeats 2000000 in
theorem code_containsLine (A : Option Addr) (L : List LineV) (c : Nat) (b : Nat) (sale : Bool) (w : World) (hr : RowLineV w A L) (hlc : L.length ≤ c) (hln : L.length ≤ 140737488351232) (hg : ∀ r ∈ L, r.2.2.1.size ≤ 140737488351232 ∧ r.2.2.2.1.size ≤ 140737488351232 ∧ r.2.2.2.2.1.size ≤ 140737488351232) (hb : b < w.heap.size) (hc : w.cell? ⟨b, 1, none⟩ = some (.bool sale)) : Calls Try.prog 39 #[.slice A L.length c, .func (Fn.func 40) #[] #[.pointer (some ⟨b, 0, none⟩)]] w fun e w1 => e = .returned (.bool (badAny L sale)) ∧ Below w.heap.size w w1 := by
  have HI := Lib.hid (code_indexLine A L c b sale w hr hlc hln hg hb hc)
  clear hr hlc hln hg hb hc
  go_enter Try.func39, Try.ntmps39
  go_wp2_with (go_at_call 57; refine (HI.out).mono ?_; rintro e w2 ⟨r, rfl, hd, h1, hb⟩; have HB := Lib.hid hb; have HD := Lib.hid hd; clear hb hd)
  all_goals
    go_ret
    exact ⟨ret_bool (by rw [← HD.out]), HB.out⟩
end Go.Proofs.Ytjanhgekocpobaa
