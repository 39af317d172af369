/- What a line's treatment hangs on: the program and the document answer alike. -/
import Derived.Test.YtdpafndejobbjaaPlN
import Derived.Test.YtdpafndejobbjaaPlE
import Derived.Test.YtdpafndejobbjaaPlF
import Derived.Test.YtdpafndejobbjaaDocF
import Derived.WalkMore
namespace Go.Proofs.Ytdpafndejobbjaa
open Go.RowKit
set_option maxRecDepth 100000
set_option linter.unusedSimpArgs false
set_option linter.unusedVariables false

theorem docOk_on {w W : World} {d : DocV} (h : DocVOk w d) (hb : Below w.heap.size w W) : DocVOk W d := by
  obtain ⟨h1, h2, h3, h4, h5, hr, h6⟩ := h
  exact ⟨h1, h2, h3, h4, h5, hr.on hb, h6⟩
theorem mov_loc {su : Int} (h : movB su = true) : locB su = false := by
  unfold movB at h
  unfold locB
  simp at h
  rcases h with rfl | rfl <;> rfl
def goodB (su ca : Int) (fr to_ pl : ByteArray) (am : Int) (gr : Bool) (co : Int) (mi : Bool) (sale : Bool) : Bool := supB su fr to_ pl gr co && inB ca 1 5 && inB am 0 1099511627776 && inB co 0 1099511627776 && !(sale && mi)
theorem code_good (su ca : Int) (fr to_ pl : ByteArray) (am : Int) (gr : Bool) (co : Int) (mi : Bool) (sale : Bool) (W : World) (hfr : fr.size ≤ 1000) (hto : to_.size ≤ 1000) (hpl : pl.size ≤ 1000) : Calls Try.prog 28 #[.agg #[.int .i64 su, .int .i64 ca, .string fr, .string to_, .string pl, .int .i64 am, .bool gr, .int .i64 co, .bool mi], .bool sale] W fun e w1 => e = .returned (.bool (goodB su ca fr to_ pl am gr co mi sale)) ∧ Below W.heap.size W w1 := code_goodLine su ca fr to_ pl am gr co mi sale W (by omega) (by omega) (by omega) _ rfl
theorem ref_good (su ca : Int) (fr to_ pl : ByteArray) (am : Int) (gr : Bool) (co : Int) (mi : Bool) (sale : Bool) (W : World) (hfr : fr.size ≤ 1000) (hto : to_.size ≤ 1000) (hpl : pl.size ≤ 1000) : Calls Try.prog 46 #[.agg #[.int .i64 su, .int .i64 ca, .string fr, .string to_, .string pl, .int .i64 am, .bool gr, .int .i64 co, .bool mi], .bool sale] W fun e w1 => e = .returned (.bool (goodB su ca fr to_ pl am gr co mi sale)) ∧ Below W.heap.size W w1 := ref_goodLine su ca fr to_ pl am gr co mi sale W (by omega) (by omega) (by omega) _ rfl
theorem good_sup {su ca : Int} {fr to_ pl : ByteArray} {am : Int} {gr : Bool} {co : Int} {mi : Bool} (sale : Bool) (h : goodB su ca fr to_ pl am gr co mi sale = true) : supB su fr to_ pl gr co = true := by
  unfold goodB at h
  simp only [Bool.and_eq_true] at h
  exact h.1.1.1.1
def CaseBoth (home : ByteArray) (d : DocV) (su ca : Int) (fr to_ pl : ByteArray) (am : Int) (gr : Bool) (co : Int) (mi : Bool) : Prop := ∃ (x0 : Bool) (x1 : Int) (x2 : Bool) (x3 x4 x5 x6 : Int) (x7 x8 : Bool) (er : Int), (∀ W, MaxL W → Calls Try.prog 14 #[.string home, .agg #[.string d.id, .bool d.sale, .bool d.credit, .string d.refers, .int .i64 d.day, .string d.country, .string d.number, .string d.currency, .slice d.linesA d.lines.length d.linesC], .agg #[.int .i64 su, .int .i64 ca, .string fr, .string to_, .string pl, .int .i64 am, .bool gr, .int .i64 co, .bool mi]] W fun e w1 => e = .returned (.tuple #[.agg #[.bool x0, .int .i64 x1, .bool x2, .int .i64 x3, .int .i64 x4, .int .i64 x5, .int .i64 x6, .bool x7, .bool x8], .int .i64 er]) ∧ Below W.heap.size W w1) ∧ (∀ W, Calls Try.prog 15 #[.string home, .agg #[.string d.id, .bool d.sale, .bool d.credit, .string d.refers, .int .i64 d.day, .string d.country, .string d.number, .string d.currency, .slice d.linesA d.lines.length d.linesC], .agg #[.int .i64 su, .int .i64 ca, .string fr, .string to_, .string pl, .int .i64 am, .bool gr, .int .i64 co, .bool mi]] W fun e w1 => e = .returned (.tuple #[.agg #[.bool x0, .int .i64 x1, .bool x2, .int .i64 x3, .int .i64 x4, .int .i64 x5, .int .i64 x6, .bool x7, .bool x8], .int .i64 er]) ∧ Below W.heap.size W w1)
theorem case_both (home : ByteArray) (d : DocV) (su ca : Int) (fr to_ pl : ByteArray) (am : Int) (gr : Bool) (co : Int) (mi : Bool) (hh : home.size ≤ 1000) (hco : d.country.size ≤ 1000) (hfr : fr.size ≤ 1000) (hto : to_.size ≤ 1000) (hpl : pl.size ≤ 1000) : CaseBoth home d su ca fr to_ pl am gr co mi := by
  have hW : ∀ W, Calls Try.prog 29 #[.string home, .agg #[.string d.id, .bool d.sale, .bool d.credit, .string d.refers, .int .i64 d.day, .string d.country, .string d.number, .string d.currency, .slice d.linesA d.lines.length d.linesC], .agg #[.int .i64 su, .int .i64 ca, .string fr, .string to_, .string pl, .int .i64 am, .bool gr, .int .i64 co, .bool mi]] W fun e w1 => e = .returned (.int .i64 (errV home d.country (goodB su ca fr to_ pl am gr co mi d.sale))) ∧ Below W.heap.size W w1 := fun W => ref_wrong home d su ca fr to_ pl am gr co mi (goodB su ca fr to_ pl am gr co mi d.sale) W hco (Lib.hid (fun W => ref_good su ca fr to_ pl am gr co mi d.sale W hfr hto hpl))
  cases hz : zoneOk home d.country with
  | false =>
    have e1 : errV home d.country (goodB su ca fr to_ pl am gr co mi d.sale) = 40 := by unfold errV; rw [hz]; rfl
    rw [e1] at hW
    exact ⟨false, 0, false, 0, 0, 0, 0, false, false, 40, fun W hM => case_countries home d su ca fr to_ pl am gr co mi W hM hh hco hz, fun W => ref_case_wrong home d su ca fr to_ pl am gr co mi 40 W (Lib.hid hW) (by decide)⟩
  | true =>
    cases hg : goodB su ca fr to_ pl am gr co mi d.sale with
    | false =>
      have e1 : errV home d.country (goodB su ca fr to_ pl am gr co mi d.sale) = 2 := by unfold errV; rw [hz, hg]; rfl
      rw [e1] at hW
      exact ⟨false, 0, false, 0, 0, 0, 0, false, false, 2, fun W hM => case_line home d su ca fr to_ pl am gr co mi W hM hh hco hz (Lib.hid (fun W => by rw [← hg]; exact code_good su ca fr to_ pl am gr co mi d.sale W hfr hto hpl)), fun W => ref_case_wrong home d su ca fr to_ pl am gr co mi 2 W (Lib.hid hW) (by decide)⟩
    | true =>
      have e1 : errV home d.country (goodB su ca fr to_ pl am gr co mi d.sale) = 0 := by unfold errV; rw [hz, hg]; rfl
      rw [e1] at hW
      have hsup := good_sup d.sale hg
      have hP := sup_places hsup
      have hMem : isMem home = true := by unfold zoneOk at hz; rw [Bool.and_eq_true] at hz; exact hz.1
      have hz5 : ∀ W, Calls Try.prog 30 #[.string home, .string d.country] W fun e w1 => e = .returned (.int .i64 (zn home d.country)) ∧ Below W.heap.size W w1 := fun W => ref_zone17 home d.country W hh hco hz
      have hR : ∀ W, MaxL W → Calls Try.prog 14 #[.string home, .agg #[.string d.id, .bool d.sale, .bool d.credit, .string d.refers, .int .i64 d.day, .string d.country, .string d.number, .string d.currency, .slice d.linesA d.lines.length d.linesC], .agg #[.int .i64 su, .int .i64 ca, .string fr, .string to_, .string pl, .int .i64 am, .bool gr, .int .i64 co, .bool mi]] W fun e w1 => e = .returned (.tuple #[.agg #[.bool d.sale, .int .i64 su, .bool (ca == 5), .int .i64 (zif (movB su) home fr), .int .i64 (zif (movB su) home to_), .int .i64 (zn home d.country), .int .i64 (zif (locB su) home pl), .bool false, .bool false], .int .i64 0]) ∧ Below W.heap.size W w1 := fun W hM => case_right home d su ca fr to_ pl am gr co mi W hM hh hco hfr hto hpl hz hsup (Lib.hid (fun W => by rw [← hg]; exact code_good su ca fr to_ pl am gr co mi d.sale W hfr hto hpl))
      cases hmv : movB su with
      | true =>
        have hlc := mov_loc hmv
        rw [hmv, hlc] at hR
        exact ⟨_, _, _, _, _, _, _, _, _, 0, hR, fun W => ref_case_mov home d su ca fr to_ pl am gr co mi W (Lib.hid hW) (Lib.hid hz5) (Lib.hid (fun W => ref_zone17 home fr W hh hfr (by unfold zoneOk; rw [hMem, (hP.1 hmv).1]; rfl))) (Lib.hid (fun W => ref_zone17 home to_ W hh hto (by unfold zoneOk; rw [hMem, (hP.1 hmv).2]; rfl))) hmv hlc⟩
      | false =>
        cases hlc : locB su with
        | true =>
          rw [hmv, hlc] at hR
          exact ⟨_, _, _, _, _, _, _, _, _, 0, hR, fun W => ref_case_loc home d su ca fr to_ pl am gr co mi W (Lib.hid hW) (Lib.hid hz5) (Lib.hid (fun W => ref_zone17 home pl W hh hpl (by unfold zoneOk; rw [hMem, hP.2 hlc]; rfl))) hmv hlc⟩
        | false =>
          rw [hmv, hlc] at hR
          exact ⟨_, _, _, _, _, _, _, _, _, 0, hR, fun W => ref_case_non home d su ca fr to_ pl am gr co mi W (Lib.hid hW) (Lib.hid hz5) hmv hlc⟩
theorem placeCases_any (home : ByteArray) (d : DocV) (su ca : Int) (fr to_ pl : ByteArray) (am : Int) (gr : Bool) (co : Int) (mi : Bool) (w : World) (hM : MaxL w) (hd : DocVOk w d) (hh : home.size ≤ 140737488351232) (hf : fr.size ≤ 140737488351232) (ht : to_.size ≤ 140737488351232) (hp : pl.size ≤ 140737488351232) : Calls Try.prog 4 #[.string home, .agg #[.string d.id, .bool d.sale, .bool d.credit, .string d.refers, .int .i64 d.day, .string d.country, .string d.number, .string d.currency, .slice d.linesA d.lines.length d.linesC], .agg #[.int .i64 su, .int .i64 ca, .string fr, .string to_, .string pl, .int .i64 am, .bool gr, .int .i64 co, .bool mi]] w fun e w1 => e = .returned (.bool true) ∧ Below w.heap.size w w1 := by
  have hL := fun W hb => code_light17 home d su ca fr to_ pl am gr co mi _ W (docOk_on hd hb) hh hf ht hp rfl
  cases hV : light17 home d fr to_ pl with
  | false =>
    rw [hV] at hL
    exact placeCases_long home d su ca fr to_ pl am gr co mi w hM (Lib.hid hL)
  | true =>
    rw [hV] at hL
    obtain ⟨h1, h2, h3, h4, h5⟩ := light17_yes hV
    obtain ⟨x0, x1, x2, x3, x4, x5, x6, x7, x8, er, hc1, hc2⟩ := case_both home d su ca fr to_ pl am gr co mi h1 h2 h3 h4 h5
    exact placeCases_short home d su ca fr to_ pl am gr co mi x0 x1 x2 x3 x4 x5 x6 x7 x8 er w hM (Lib.hid hL) (Lib.hid hc1) (Lib.hid hc2)
end Go.Proofs.Ytdpafndejobbjaa
