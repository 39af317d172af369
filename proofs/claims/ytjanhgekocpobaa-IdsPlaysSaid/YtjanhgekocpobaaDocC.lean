/- Commands and documents: not longer than is looked at. -/
import Derived.Test.YtjanhgekocpobaaDocB
namespace Go.Proofs.Ytjanhgekocpobaa
open Go.RowKit
set_option maxRecDepth 100000
attribute [local go_sem] Oper.semAt_some

def lineB (l : LineV) : Bool := decide (l.2.2.1.size + l.2.2.2.1.size + l.2.2.2.2.1.size ≤ 300)
def linesB (L : List LineV) : Bool := L.all lineB
def lightC (x : CmdV) : Bool := decide (x.text.size ≤ 5000) && decide (x.state.size ≤ 200) && decide (x.id.size + x.refers.size ≤ 500) && decide (x.country.size + x.number.size + x.currency.size ≤ 500) && decide (x.lines.length ≤ 70) && linesB x.lines
theorem lines_next {L : List LineV} {k : Nat} (hk : k < L.length) (h : linesB (L.take k) = true) (hs : lineB L[k] = true) : linesB (L.take (k + 1)) = true := by
  rw [List.take_succ_eq_append_getElem hk]
  unfold linesB at *
  rw [List.all_append, h]
  simp [hs]
theorem lines_not {L : List LineV} {k : Nat} (hk : k < L.length) (hs : lineB L[k] = false) : linesB L = false := by
  unfold linesB
  rw [List.all_eq_false]
  exact ⟨L[k], List.getElem_mem hk, by simp [hs]⟩
set_option maxHeartbeats 4000000 in
theorem code_light (x : CmdV) (w : World) (hx : CmdVOk w x) (V : Bool) (hV : lightC x = V) :
    Calls Try.prog 20 #[.agg #[.int .i64 x.kind, .string x.state, .string x.text, .int .i64 x.category, .int .i64 x.bp, .int .i64 x.from_, .int .i64 x.until_, .int .i64 x.num, .int .i64 x.den, .int .i64 x.index, .int .i64 x.pk, .int .i64 x.py, .int .i64 x.pi, .string x.id, .bool x.sale, .bool x.credit, .string x.refers, .int .i64 x.day, .string x.country, .string x.number, .string x.currency, .slice x.linesA x.lines.length x.linesC]] w fun e w' => e = .returned (.bool V) ∧ Below w.heap.size w w' := by
  obtain ⟨hx1, hx2, hx3, hx4, hx5, hx6, hx7, hr, hA, hlc, hcm, hg⟩ := hx
  have HR := Lib.hid hr
  have HAn := Lib.hid hA
  have HG := Lib.hid hg
  have HV := Lib.hid hV
  have HC := Lib.hid hlc
  have HM := Lib.hid hcm
  have HBD := Lib.hid (below_alloc w (.cells #[.int .i64 x.kind, .string x.state, .string x.text, .int .i64 x.category, .int .i64 x.bp, .int .i64 x.from_, .int .i64 x.until_, .int .i64 x.num, .int .i64 x.den, .int .i64 x.index, .int .i64 x.pk, .int .i64 x.py, .int .i64 x.pi, .string x.id, .bool x.sale, .bool x.credit, .string x.refers, .int .i64 x.day, .string x.country, .string x.number, .string x.currency, .slice x.linesA x.lines.length x.linesC] 54))
  clear hr hA hg hV hlc hcm
  have j1 : (x.state.size : Int) ≤ 140737488351232 := by omega
  have j2 : (x.text.size : Int) ≤ 140737488351232 := by omega
  have j3 : (x.id.size : Int) ≤ 140737488351232 := by omega
  have j4 : (x.refers.size : Int) ≤ 140737488351232 := by omega
  have j5 : (x.country.size : Int) ≤ 140737488351232 := by omega
  have j6 : (x.number.size : Int) ≤ 140737488351232 := by omega
  have j7 : (x.currency.size : Int) ≤ 140737488351232 := by omega
  clear hx1 hx2 hx3 hx4 hx5 hx6 hx7
  by_cases c0 : x.text.size ≤ 5000
  · have i0 : (x.text.size : Int) ≤ 5000 := by omega
    by_cases c1 : x.state.size ≤ 200
    · have i1 : (x.state.size : Int) ≤ 200 := by omega
      by_cases c2 : x.id.size + x.refers.size ≤ 500
      · have i2 : (x.id.size : Int) + (x.refers.size : Int) ≤ 500 := by omega
        by_cases c3 : x.country.size + x.number.size + x.currency.size ≤ 500
        · have i3 : (x.country.size : Int) + (x.number.size : Int) + (x.currency.size : Int) ≤ 500 := by omega
          by_cases c4 : x.lines.length ≤ 70
          · have i4 : (x.lines.length : Int) ≤ 70 := by omega
            generalize x.linesA = A at HR HAn HBD ⊢
            go_enter Try.func20, Try.ntmps20
            go_wp2
            generalize hw2 : World.alloc w _ = w2 at HBD ⊢
            clear hw2
            have hl4 : (x.lines.length : Int) ≤ 4000000000000000000 := by omega
            have e : lightC x = linesB x.lines := by unfold lightC; rw [decide_eq_true c0, decide_eq_true c1, decide_eq_true c2, decide_eq_true c3, decide_eq_true c4]; rfl
            rw [e] at HV
            clear e c0 c1 c2 c3 c4 i0 i1 i2 i3 i4 j1 j2 j3 j4 j5 j6 j7
            go_loopw [55] (fun i wr => ∃ (k : Nat), k ≤ x.lines.length ∧ i = .int .i64 k ∧ Hid (linesB (x.lines.take k) = true) ∧ Hid (Below w2.heap.size w2 wr)) (fun i _ => x.lines.length - (intOf i).toNat)
            case atStart => exact ⟨0, Nat.zero_le _, rfl, Lib.hid rfl, Lib.hid (Below.refl _ _)⟩
            case round =>
              obtain ⟨k, hk, rfl, HS, HB⟩ := hrel
              by_cases hlt : k < x.lines.length
              · have hlt' : (k : Int) < (x.lines.length : Int) := by omega
                obtain ⟨b, o, rfl, hbl, y0, y1, y2, y3, y4, y5, y6, y7, y8⟩ := (HR.out.on (below_then HBD.out HB.out)).at_ k hlt
                obtain ⟨g1, g2, g3⟩ := HG.out _ (List.getElem_mem hlt)
                have HB1 := Lib.hid (fun o => below_alloc wr o)
                have hD : lineB x.lines[k] = decide (x.lines[k].2.2.1.size + x.lines[k].2.2.2.1.size + x.lines[k].2.2.2.2.1.size ≤ 300) := rfl
                have m1 : (x.lines[k].2.2.1.size : Int) ≤ 140737488351232 := by omega
                have m2 : (x.lines[k].2.2.2.1.size : Int) ≤ 140737488351232 := by omega
                have m3 : (x.lines[k].2.2.2.2.1.size : Int) ≤ 140737488351232 := by omega
                clear g1 g2 g3
                by_cases h1 : x.lines[k].2.2.1.size + x.lines[k].2.2.2.1.size + x.lines[k].2.2.2.2.1.size ≤ 300
                · have i1 : (x.lines[k].2.2.1.size : Int) + (x.lines[k].2.2.2.1.size : Int) + (x.lines[k].2.2.2.2.1.size : Int) ≤ 300 := by omega
                  rw [decide_eq_true h1] at hD
                  have HN := Lib.hid (lines_next hlt HS.out hD)
                  clear h1 hbl hD
                  go_wp2
                  go_roundw
                  case rel => exact ⟨k + 1, by omega, by go_num, HN, Lib.hid (below_then HB.out (HB1.out _))⟩
                  case measure => simp [intOf]; omega
                · have i1 : (300 : Int) < (x.lines[k].2.2.1.size : Int) + (x.lines[k].2.2.2.1.size : Int) + (x.lines[k].2.2.2.2.1.size : Int) := by omega
                  rw [decide_eq_false h1] at hD
                  have HN := Lib.hid (lines_not hlt hD)
                  clear h1 hbl hD
                  go_wp2
                  go_ret
                  exact ⟨by rw [← HV.out, HN.out]; rfl, below_then HBD.out (below_then HB.out (HB1.out _))⟩
              · obtain rfl : k = x.lines.length := by omega
                have hS : linesB x.lines = true := by have := HS.out; rwa [List.take_length] at this
                have e := HV.out
                rw [hS] at e
                subst e
                clear HS HV
                go_wp2
                go_ret
                exact ⟨rfl, below_then HBD.out HB.out⟩
          · have i4 : (70 : Int) < (x.lines.length : Int) := by omega
            have HN : Hid (lightC x = false) := Lib.hid (by unfold lightC; rw [decide_eq_true c0, decide_eq_true c1, decide_eq_true c2, decide_eq_true c3, decide_eq_false c4]; simp)
            clear c0 c1 c2 c3 c4
            go_enter Try.func20, Try.ntmps20
            go_wp2
            go_ret
            exact ⟨by rw [← HV.out, HN.out]; rfl, HBD.out⟩
        · have i3 : (500 : Int) < (x.country.size : Int) + (x.number.size : Int) + (x.currency.size : Int) := by omega
          have HN : Hid (lightC x = false) := Lib.hid (by unfold lightC; rw [decide_eq_true c0, decide_eq_true c1, decide_eq_true c2, decide_eq_false c3]; simp)
          clear c0 c1 c2 c3
          go_enter Try.func20, Try.ntmps20
          go_wp2
          go_ret
          exact ⟨by rw [← HV.out, HN.out]; rfl, HBD.out⟩
      · have i2 : (500 : Int) < (x.id.size : Int) + (x.refers.size : Int) := by omega
        have HN : Hid (lightC x = false) := Lib.hid (by unfold lightC; rw [decide_eq_true c0, decide_eq_true c1, decide_eq_false c2]; simp)
        clear c0 c1 c2
        go_enter Try.func20, Try.ntmps20
        go_wp2
        go_ret
        exact ⟨by rw [← HV.out, HN.out]; rfl, HBD.out⟩
    · have i1 : (200 : Int) < (x.state.size : Int) := by omega
      have HN : Hid (lightC x = false) := Lib.hid (by unfold lightC; rw [decide_eq_true c0, decide_eq_false c1]; simp)
      clear c0 c1
      go_enter Try.func20, Try.ntmps20
      go_wp2
      go_ret
      exact ⟨by rw [← HV.out, HN.out]; rfl, HBD.out⟩
  · have i0 : (5000 : Int) < (x.text.size : Int) := by omega
    have HN : Hid (lightC x = false) := Lib.hid (by unfold lightC; rw [decide_eq_false c0]; simp)
    clear c0
    go_enter Try.func20, Try.ntmps20
    go_wp2
    go_ret
    exact ⟨by rw [← HV.out, HN.out]; rfl, HBD.out⟩
end Go.Proofs.Ytjanhgekocpobaa
