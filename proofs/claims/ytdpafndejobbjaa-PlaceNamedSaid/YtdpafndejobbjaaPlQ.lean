/- Where a line is supplied is home, or a country that is named. -/
import Derived.Test.YtdpafndejobbjaaPlP
import Derived.Test.YtdpafndejobbjaaPlO
import Derived.WalkMore
namespace Go.Proofs.Ytdpafndejobbjaa
open Go.RowKit
set_option maxRecDepth 100000
set_option linter.unusedSimpArgs false
set_option linter.unusedVariables false

def StateOf (home : ByteArray) (d : DocV) (su ca : Int) (fr to_ pl : ByteArray) (am : Int) (gr : Bool) (co : Int) (mi : Bool) (sa : Bool) (cs : Int) (ex : Bool) (fz tz pz lz : Int) (bu ov : Bool) : Prop := ∃ (s : ByteArray) (er : Int), (∀ W, MaxL W → Calls Try.prog 20 #[.string home, .agg #[.string d.id, .bool d.sale, .bool d.credit, .string d.refers, .int .i64 d.day, .string d.country, .string d.number, .string d.currency, .slice d.linesA d.lines.length d.linesC], .agg #[.int .i64 su, .int .i64 ca, .string fr, .string to_, .string pl, .int .i64 am, .bool gr, .int .i64 co, .bool mi], .agg #[.bool sa, .int .i64 cs, .bool ex, .int .i64 fz, .int .i64 tz, .int .i64 pz, .int .i64 lz, .bool bu, .bool ov]] W fun e w1 => e = .returned (.tuple #[.string s, .int .i64 er]) ∧ Below W.heap.size W w1) ∧ ((er ≠ 0 ∧ s = ⟨#[]⟩) ∨ (er = 0 ∧ s = stateS home d.sale d.country su fr to_ pl (zif (movB su) home fr) (zif (movB su) home to_) (zn home d.country) bu ov))
theorem state_of (home : ByteArray) (d : DocV) (su ca : Int) (fr to_ pl : ByteArray) (am : Int) (gr : Bool) (co : Int) (mi : Bool) (sa : Bool) (cs : Int) (ex : Bool) (fz tz pz lz : Int) (bu ov : Bool) (hh : home.size ≤ 1000) (hco : d.country.size ≤ 1000) (hfr : fr.size ≤ 1000) (hto : to_.size ≤ 1000) (hpl : pl.size ≤ 1000) : StateOf home d su ca fr to_ pl am gr co mi sa cs ex fz tz pz lz bu ov := by
  cases hz : zoneOk home d.country with
  | false => exact ⟨⟨#[]⟩, 40, fun W hM => state_wrong home d su ca fr to_ pl am gr co mi sa cs ex fz tz pz lz bu ov 40 W hM (by decide) (Lib.hid (fun W hM => case_countries home d su ca fr to_ pl am gr co mi W hM hh hco hz)), .inl ⟨by decide, rfl⟩⟩
  | true =>
    cases hg : goodB su ca fr to_ pl am gr co mi d.sale with
    | false => exact ⟨⟨#[]⟩, 2, fun W hM => state_wrong home d su ca fr to_ pl am gr co mi sa cs ex fz tz pz lz bu ov 2 W hM (by decide) (Lib.hid (fun W hM => case_line home d su ca fr to_ pl am gr co mi W hM hh hco hz (Lib.hid (fun W => by rw [← hg]; exact code_good su ca fr to_ pl am gr co mi d.sale W hfr hto hpl)))), .inl ⟨by decide, rfl⟩⟩
    | true => exact ⟨_, 0, fun W hM => state_right home d su ca fr to_ pl am gr co mi sa cs ex fz tz pz lz bu ov (zif (movB su) home fr) (zif (movB su) home to_) (zn home d.country) (zif (locB su) home pl) W hM (Lib.hid (fun W hM => case_right home d su ca fr to_ pl am gr co mi W hM hh hco hfr hto hpl hz (good_sup d.sale hg) (Lib.hid (fun W => by rw [← hg]; exact code_good su ca fr to_ pl am gr co mi d.sale W hfr hto hpl)))), .inr ⟨rfl, rfl⟩⟩
theorem state_five (home : ByteArray) (sale : Bool) (country : ByteArray) (su : Int) (fr to_ pl : ByteArray) (z3 z4 z5 : Int) (bu ov : Bool) : stateS home sale country su fr to_ pl z3 z4 z5 bu ov = home ∨ stateS home sale country su fr to_ pl z3 z4 z5 bu ov = country ∨ stateS home sale country su fr to_ pl z3 z4 z5 bu ov = fr ∨ stateS home sale country su fr to_ pl z3 z4 z5 bu ov = to_ ∨ stateS home sale country su fr to_ pl z3 z4 z5 bu ov = pl := by
  unfold stateS soldS boughtS
  repeat' split
  all_goals simp
theorem state_same {home : ByteArray} {sale : Bool} {c1 c2 : ByteArray} {su : Int} {fr to_ pl : ByteArray} {z3 z4 z5 z5' : Int} {bu ov : Bool} (h : movB su = true ∨ locB su = true) : stateS home sale c1 su fr to_ pl z3 z4 z5 bu ov = stateS home sale c2 su fr to_ pl z3 z4 z5' bu ov := by
  unfold stateS
  rcases h with h | h
  · have hl := mov_loc h
    unfold movB at h
    simp at h
    rw [hl]
    unfold soldS boughtS
    rcases h with rfl | rfl
    · simp
    · simp
  · rw [if_pos h, if_pos h]
set_option maxHeartbeats 1000000 in
theorem placeNamed_any (home : ByteArray) (d : DocV) (su ca : Int) (fr to_ pl : ByteArray) (am : Int) (gr : Bool) (co : Int) (mi : Bool) (sa : Bool) (cs : Int) (ex : Bool) (fz tz pz lz : Int) (bu ov : Bool) (other : ByteArray) (w : World) (hM : MaxL w) (hd : DocVOk w d) (hh : home.size ≤ 140737488351232) (hf : fr.size ≤ 140737488351232) (ht : to_.size ≤ 140737488351232) (hp : pl.size ≤ 140737488351232) (ho : other.size ≤ 140737488351232) : Calls Try.prog 5 #[.string home, .agg #[.string d.id, .bool d.sale, .bool d.credit, .string d.refers, .int .i64 d.day, .string d.country, .string d.number, .string d.currency, .slice d.linesA d.lines.length d.linesC], .agg #[.int .i64 su, .int .i64 ca, .string fr, .string to_, .string pl, .int .i64 am, .bool gr, .int .i64 co, .bool mi], .agg #[.bool sa, .int .i64 cs, .bool ex, .int .i64 fz, .int .i64 tz, .int .i64 pz, .int .i64 lz, .bool bu, .bool ov], .string other] w fun e w1 => e = .returned (.bool true) ∧ Below w.heap.size w w1 := by
  have hL := fun W hb => code_light17 home d su ca fr to_ pl am gr co mi _ W (docOk_on hd hb) hh hf ht hp rfl
  cases hV : light17 home d fr to_ pl with
  | false =>
    rw [hV] at hL
    exact named_long1 home d su ca fr to_ pl am gr co mi sa cs ex fz tz pz lz bu ov other w hM (Lib.hid hL)
  | true =>
    rw [hV] at hL
    by_cases ho1 : other.size ≤ 100
    · obtain ⟨h1, h2, h3, h4, h5⟩ := light17_yes hV
      obtain ⟨s, er, hs1, hs⟩ := state_of home d su ca fr to_ pl am gr co mi sa cs ex fz tz pz lz bu ov h1 h2 h3 h4 h5
      obtain ⟨t, f, hs2, hs'⟩ := state_of home { d with country := other } su ca fr to_ pl am gr co mi sa cs ex fz tz pz lz bu ov h1 (show other.size ≤ 1000 by omega) h3 h4 h5
      rcases hs with ⟨her, rfl⟩ | ⟨rfl, hs⟩
      · exact named_err home d su ca fr to_ pl am gr co mi sa cs ex fz tz pz lz bu ov other er w hM ho1 her (Lib.hid hL) (Lib.hid hs1)
      · refine named_ok home d su ca fr to_ pl am gr co mi sa cs ex fz tz pz lz bu ov other s t f w hM ho1 (by rw [hs]; exact state_five _ _ _ _ _ _ _ _ _ _ _ _) ?_ (Lib.hid hL) (Lib.hid hs1) (Lib.hid hs2)
        rcases hs' with ⟨hf1, _⟩ | ⟨hf1, ht1⟩
        · exact .inl hf1
        · cases hmv : movB su with
          | true => exact .inr (.inl ⟨hf1, rfl, by rw [ht1, hs]; exact state_same (.inl hmv)⟩)
          | false =>
            cases hlc : locB su with
            | true => exact .inr (.inr (.inl ⟨hf1, rfl, rfl, by rw [ht1, hs]; exact state_same (.inr hlc)⟩))
            | false => exact .inr (.inr (.inr ⟨hf1, rfl, rfl⟩))
    · exact named_long2 home d su ca fr to_ pl am gr co mi sa cs ex fz tz pz lz bu ov other w hM (by omega) ho (Lib.hid hL)
end Go.Proofs.Ytdpafndejobbjaa
