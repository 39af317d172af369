/- Rates: a rate set, whatever is asked; the chapter's example. -/
import Derived.Test.YtlnpflfkkjcopaaRtH
namespace Go.Proofs.Ytlnpflfkkjcopaa
open Go.RowKit
set_option maxRecDepth 100000

/-- what a setting answers, and what it leaves -/
def setRE (F : Lns) (s : ByteArray) (c : Int) (p : Sp) : Int := if isMem s = true then (if ratB c = true ∧ 0 ≤ p.2.2 ∧ p.2.2 ≤ 10000 then setE 256 (Ln F s c) p.1 p.2.1 else 2) else 40
def StpR (F : Lns) (s : ByteArray) (c : Int) (p : Sp) (F' : Lns) : Prop :=
  (setRE F s c p ≠ 0 ∧ F' = F) ∨ (setRE F s c p = 0 ∧ isMem s = true ∧ okKey s c ∧ ∃ B, F' = upd F s c (some (B, setL 256 (Ln F s c) p)))
theorem code_rset {w : World} {base R bm n : Nat} {F : Lns} (h : RtAt w base R bm n F) (s : ByteArray) (c f u x : Int) (hs : s.size ≤ 9223372036854775807) (hM : MaxL w) (hn : n < maxLen) :
    Calls Try.prog 26 #[.pointer (some ⟨R, 0, none⟩), .string s, .int .i64 c, .agg #[.int .i64 f, .int .i64 u], .int .i64 x] w fun e w' =>
      e = .returned (.int .i64 (setRE F s c (f, u, x))) ∧ Below base w w' ∧ ∃ F', RtAt w' base R bm (n + 1) F' ∧ StpR F s c (f, u, x) F' := by
  have hbase : base ≤ w.heap.size := h.2.2.2.2.2.2
  cases hm : isMem s with
  | false =>
    have e : setRE F s c (f, u, x) = 40 := by unfold setRE; rw [hm]; rfl
    refine (rset_name h s c f u x hs hM hm).mono ?_
    rintro e' w' ⟨rfl, hb⟩
    exact ⟨by rw [e], hb.mono hbase, F, (h.on hb).mono (by omega), .inl ⟨by rw [e]; decide, rfl⟩⟩
  | true =>
    by_cases hok : ratB c = true ∧ 0 ≤ x ∧ x ≤ 10000
    · have e : setRE F s c (f, u, x) = setE 256 (Ln F s c) f u := by unfold setRE; rw [hm, if_pos rfl, if_pos hok]
      refine (rset_main h s c f u x hs hM hm hok.1 hok.2.1 hok.2.2 hn _ e).mono ?_
      rintro e' w' ⟨rfl, hb, F', h', hstp⟩
      refine ⟨rfl, hb, F', h', ?_⟩
      rcases hstp with ⟨h1, h2⟩ | ⟨h1, B, h2⟩
      · exact .inl ⟨by rw [e]; exact h1, h2⟩
      · exact .inr ⟨by rw [e]; exact h1, hm, mem_ok hm hok.1, B, h2⟩
    · have e : setRE F s c (f, u, x) = 2 := by unfold setRE; rw [hm, if_pos rfl, if_neg hok]
      refine (rset_arg h s c f u x hs hM hm ?_).mono ?_
      · cases hr : ratB c with
        | false => exact .inl rfl
        | true =>
          refine .inr ⟨rfl, ?_⟩
          by_cases hx : x < 0
          · exact .inl hx
          · exact .inr ⟨by omega, by
              by_cases h2 : x ≤ 10000
              · exact absurd ⟨hr, by omega, h2⟩ hok
              · omega⟩
      · rintro e' w' ⟨rfl, hb⟩
        exact ⟨by rw [e], hb.mono hbase, F, (h.on hb).mono (by omega), .inl ⟨by rw [e]; decide, rfl⟩⟩
theorem Ln_same {F : Lns} {s : ByteArray} {c : Int} {B : Nat} {L : List Sp} : Ln (upd F s c (some (B, L))) s c = L := by
  unfold Ln
  rw [upd_same]
theorem Ln_other {F : Lns} {s s' : ByteArray} {c c' : Int} {x : Option (Nat × List Sp)} (h : ¬ (s' = s ∧ c' = c)) : Ln (upd F s c x) s' c' = Ln F s' c' := by
  unfold Ln
  rw [upd_other h]

abbrev deB : ByteArray := { data := #[68, 69] }
theorem de_size : deB.size ≤ 9223372036854775807 := by decide
theorem de_set : setRE (fun _ _ => none) deB 1 (0, 100, 1900) = 0 := by
  have e : Ln (fun _ _ => none) deB 1 = [] := rfl
  unfold setRE
  rw [mem_DE, if_pos rfl, if_pos (by decide), e]
  decide
theorem de_stp {F' : Lns} (h : StpR (fun _ _ => none) deB 1 (0, 100, 1900) F') : Ln F' deB 1 = [(0, 100, 1900)] := by
  rcases h with ⟨h, _⟩ | ⟨_, _, _, B, rfl⟩
  · exact absurd de_set h
  · rw [Ln_same]
    have e : Ln (fun _ _ => none) deB 1 = [] := rfl
    rw [e]
    decide
theorem de_of {F : Lns} (h : Ln F deB 1 = [(0, 100, 1900)]) : (ofX F deB 1 100 = 1900 ∧ ofE F deB 1 100 = 0) ∧ (ofX F deB 1 101 = 0 ∧ ofE F deB 1 101 = 60) ∧ (ofX F deB 4 101 = 0 ∧ ofE F deB 4 101 = 0) := by
  unfold ofX ofE
  rw [mem_DE, h]
  refine ⟨by decide, by decide, rfl, rfl⟩
set_option maxHeartbeats 1000000 in
theorem rt_lives (w : World) (hM : MaxL w) : Calls Try.prog 23 #[] w fun e w' => e = .returned (.bool true) ∧ Below w.heap.size w w' := by
  have HN := Lib.hid (code_rnew w)
  have HM := Lib.hid hM
  clear hM
  go_enter Try.func23, Try.ntmps23
  go_wp2_with (go_at_call 24; refine HN.out.mono ?_; rintro e w1 ⟨rfl, h1, hb1⟩; have H1 := Lib.hid (And.intro h1 hb1); clear h1 hb1; refine Stop.out ?_)
  unfold Stop
  have hS := code_rset H1.out.1 deB 1 0 100 1900 de_size (HM.out.below H1.out.2 (Nat.le_refl _)) (by unfold maxLen; omega)
  rw [de_set] at hS
  have HS := Lib.hid hS
  clear hS
  go_wp2_with (go_at_call 26; refine HS.out.mono ?_; rintro e w2 ⟨rfl, hb2, F2, h2, hstp⟩; have H2 := Lib.hid (And.intro h2 (And.intro (H1.out.2.trans hb2) (de_of (de_stp hstp)))); clear h2 hb2 hstp; refine Stop.out ?_)
  unfold Stop
  have hO1 := code_of H2.out.1 deB 1 100 de_size (HM.out.below H2.out.2.1 (Nat.le_refl _))
  rw [H2.out.2.2.1.1, H2.out.2.2.1.2] at hO1
  have HO1 := Lib.hid hO1
  clear hO1
  go_wp2_with (go_at_call 29; refine HO1.out.mono ?_; rintro e w3 ⟨rfl, hb3⟩; have H3 := Lib.hid (And.intro (H2.out.1.on hb3) (H2.out.2.1.trans (hb3.mono H2.out.2.1.size))); clear hb3; refine Stop.out ?_)
  unfold Stop
  have hO2 := code_of H3.out.1 deB 1 101 de_size (HM.out.below H3.out.2 (Nat.le_refl _))
  rw [H2.out.2.2.2.1.1, H2.out.2.2.2.1.2] at hO2
  have HO2 := Lib.hid hO2
  clear hO2
  go_wp2_with (go_at_call 29; refine HO2.out.mono ?_; rintro e w4 ⟨rfl, hb4⟩; have H4 := Lib.hid (And.intro (H3.out.1.on hb4) (H3.out.2.trans (hb4.mono H3.out.2.size))); clear hb4; refine Stop.out ?_)
  unfold Stop
  have hO3 := code_of H4.out.1 deB 4 101 de_size (HM.out.below H4.out.2 (Nat.le_refl _))
  rw [H2.out.2.2.2.2.1, H2.out.2.2.2.2.2] at hO3
  have HO3 := Lib.hid hO3
  clear hO3
  go_wp2_with (go_at_call 29; refine HO3.out.mono ?_; rintro e w5 ⟨rfl, hb5⟩; have H5 := Lib.hid (H4.out.2.trans (hb5.mono H4.out.2.size)); clear hb5; refine Stop.out ?_)
  unfold Stop
  go_wp2
  go_ret
  exact ⟨rfl, H5.out⟩
end Go.Proofs.Ytlnpflfkkjcopaa
