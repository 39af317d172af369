/- Where a country is, seen from another: the program's, and the document's own. -/
import Derived.Test.YtdpafndejobbjaaVatMbr
namespace Go.Proofs.Ytdpafndejobbjaa
open Go.RowKit Go.Maps
set_option maxRecDepth 1000000

def zT (a b : Int) : Value := .tuple #[.int .i64 a, .int .i64 b]
def zoneV (h c : ByteArray) : Value := if isMem h && Vat.country (strT c) then (if c = h then zT 0 0 else if isMem c then zT 1 0 else zT 2 0) else zT 0 40
theorem zone_four (h c : ByteArray) : zoneV h c = zT 0 40 ∨ zoneV h c = zT 0 0 ∨ zoneV h c = zT 1 0 ∨ zoneV h c = zT 2 0 := by
  unfold zoneV
  split
  · split
    · exact Or.inr (Or.inl rfl)
    · split
      · exact Or.inr (Or.inr (Or.inl rfl))
      · exact Or.inr (Or.inr (Or.inr rfl))
  · exact Or.inl rfl
set_option maxHeartbeats 1000000 in
theorem code_zone (h c : ByteArray) (w : World) (hh : h.size ≤ 1000) (hc : c.size ≤ 1000) (hM : MaxL w) :
    Calls Try.prog 27 #[.string h, .string c] w fun e w' => e = .returned (zoneV h c) ∧ w = w' := by
  have H1 := Lib.hid (code_member h w (by omega) hM)
  have H2 := Lib.hid (code_country c w (by omega))
  have H3 := Lib.hid (code_member c w (by omega) hM)
  have HZ : Hid (zoneV h c = if isMem h && Vat.country (strT c) then (if c = h then zT 0 0 else if isMem c then zT 1 0 else zT 2 0) else zT 0 40) := Lib.hid rfl
  have hhi : (h.size : Int) ≤ 1000 := by omega
  have hci : (c.size : Int) ≤ 1000 := by omega
  clear hM hh hc
  cases h1 : isMem h with
  | false =>
    rw [h1] at H1 HZ
    clear h1
    go_enter Try.func27, Try.ntmps27
    go_wp2_with (go_at_call 40; (with_reducible refine H1.out.mono ?_); rintro e w1 ⟨rfl, rfl⟩)
    go_ret2
    exact ⟨by rw [HZ.out]; rfl, rfl⟩
  | true =>
    rw [h1] at H1 HZ
    clear h1
    cases h2 : Vat.country (strT c) with
    | false =>
      rw [h2] at H2 HZ
      clear h2
      go_enter Try.func27, Try.ntmps27
      go_wp2_with (first
        | (go_at_call 40; (with_reducible refine H1.out.mono ?_); rintro e w1 ⟨rfl, rfl⟩)
        | (go_at_call 41; refine H2.out.mono ?_; rintro e w2 ⟨rfl, rfl⟩))
      go_ret2
      exact ⟨by rw [HZ.out]; rfl, rfl⟩
    | true =>
      rw [h2] at H2 HZ
      clear h2
      by_cases he : c = h
      · have hb : (c.toList == h.toList) = true := by rw [str_beq]; simpa using he
        have HZ2 : Hid (zoneV h c = zT 0 0) := Lib.hid (by rw [HZ.out, if_pos he]; rfl)
        clear he HZ
        go_enter Try.func27, Try.ntmps27
        go_wp2_with (first
          | (go_at_call 40; (with_reducible refine H1.out.mono ?_); rintro e w1 ⟨rfl, rfl⟩)
          | (go_at_call 41; refine H2.out.mono ?_; rintro e w2 ⟨rfl, rfl⟩))
        go_ret2
        exact ⟨by rw [HZ2.out]; rfl, rfl⟩
      · have hb : (c.toList == h.toList) = false := by rw [str_beq]; simpa using he
        cases h3 : isMem c with
        | false =>
          have HZ2 : Hid (zoneV h c = zT 2 0) := Lib.hid (by rw [HZ.out, if_neg he, h3]; rfl)
          rw [h3] at H3
          clear he HZ h3
          go_enter Try.func27, Try.ntmps27
          go_wp2_with (first
            | (go_at_call 40; (with_reducible refine H1.out.mono ?_); rintro e w1 ⟨rfl, rfl⟩)
            | (go_at_call 41; refine H2.out.mono ?_; rintro e w2 ⟨rfl, rfl⟩)
            | (go_at_call 40; (with_reducible refine H3.out.mono ?_); rintro e w3 ⟨rfl, rfl⟩))
          go_ret2
          exact ⟨by rw [HZ2.out]; rfl, rfl⟩
        | true =>
          have HZ2 : Hid (zoneV h c = zT 1 0) := Lib.hid (by rw [HZ.out, if_neg he, h3]; rfl)
          rw [h3] at H3
          clear he HZ h3
          go_enter Try.func27, Try.ntmps27
          go_wp2_with (first
            | (go_at_call 40; (with_reducible refine H1.out.mono ?_); rintro e w1 ⟨rfl, rfl⟩)
            | (go_at_call 41; refine H2.out.mono ?_; rintro e w2 ⟨rfl, rfl⟩)
            | (go_at_call 40; (with_reducible refine H3.out.mono ?_); rintro e w3 ⟨rfl, rfl⟩))
          go_ret2
          exact ⟨by rw [HZ2.out]; rfl, rfl⟩
set_option maxHeartbeats 1000000 in
theorem ref_zone (h c : ByteArray) (w : World) (hh : h.size ≤ 1000) (hc : c.size ≤ 1000) :
    Calls Try.prog 47 #[.string h, .string c] w fun e w' => e = .returned (zoneV h c) ∧ Below w.heap.size w w' := by
  have H1 := Lib.hid (fun W => ref_member h W)
  have H2 := Lib.hid (fun W => ref_country c W (by omega))
  have H3 := Lib.hid (fun W => ref_member c W)
  have HZ : Hid (zoneV h c = if isMem h && Vat.country (strT c) then (if c = h then zT 0 0 else if isMem c then zT 1 0 else zT 2 0) else zT 0 40) := Lib.hid rfl
  have hhi : (h.size : Int) ≤ 1000 := by omega
  have hci : (c.size : Int) ≤ 1000 := by omega
  clear hh hc
  cases h1 : isMem h with
  | false =>
    rw [h1] at H1 HZ
    clear h1
    go_enter Try.func47, Try.ntmps47
    go_wp2_with (go_at_call 44; (with_reducible refine (H1.out w).mono ?_); rintro e w1 ⟨rfl, hb1⟩; have HB1 := Lib.hid hb1; clear hb1)
    go_ret2
    exact ⟨by rw [HZ.out]; rfl, HB1.out⟩
  | true =>
    rw [h1] at H1 HZ
    clear h1
    cases h2 : Vat.country (strT c) with
    | false =>
      rw [h2] at H2 HZ
      clear h2
      go_enter Try.func47, Try.ntmps47
      go_wp2_with (first
        | (go_at_call 44; (with_reducible refine (H1.out w).mono ?_); rintro e w1 ⟨rfl, hb1⟩; have HB1 := Lib.hid hb1; clear hb1)
        | (go_at_call 45; refine (H2.out w1).mono ?_; rintro e w2 ⟨rfl, rfl⟩))
      go_ret2
      exact ⟨by rw [HZ.out]; rfl, HB1.out⟩
    | true =>
      rw [h2] at H2 HZ
      clear h2
      by_cases he : c = h
      · have hb : (c.toList == h.toList) = true := by rw [str_beq]; simpa using he
        have HZ2 : Hid (zoneV h c = zT 0 0) := Lib.hid (by rw [HZ.out, if_pos he]; rfl)
        clear he HZ
        go_enter Try.func47, Try.ntmps47
        go_wp2_with (first
          | (go_at_call 44; (with_reducible refine (H1.out w).mono ?_); rintro e w1 ⟨rfl, hb1⟩; have HB1 := Lib.hid hb1; clear hb1)
          | (go_at_call 45; refine (H2.out w1).mono ?_; rintro e w2 ⟨rfl, rfl⟩))
        go_ret2
        exact ⟨by rw [HZ2.out]; rfl, HB1.out⟩
      · have hb : (c.toList == h.toList) = false := by rw [str_beq]; simpa using he
        cases h3 : isMem c with
        | false =>
          have HZ2 : Hid (zoneV h c = zT 2 0) := Lib.hid (by rw [HZ.out, if_neg he, h3]; rfl)
          rw [h3] at H3
          clear he HZ h3
          go_enter Try.func47, Try.ntmps47
          go_wp2_with (first
            | (go_at_call 44; (with_reducible refine (H1.out w).mono ?_); rintro e w1 ⟨rfl, hb1⟩; have HB1 := Lib.hid hb1; clear hb1)
            | (go_at_call 45; refine (H2.out w1).mono ?_; rintro e w2 ⟨rfl, rfl⟩)
            | (go_at_call 44; (with_reducible refine (H3.out w1).mono ?_); rintro e w3 ⟨rfl, hb3⟩; have HB3 := Lib.hid (HB1.out.trans (hb3.mono HB1.out.size)); clear hb3))
          go_ret2
          exact ⟨by rw [HZ2.out]; rfl, HB3.out⟩
        | true =>
          have HZ2 : Hid (zoneV h c = zT 1 0) := Lib.hid (by rw [HZ.out, if_neg he, h3]; rfl)
          rw [h3] at H3
          clear he HZ h3
          go_enter Try.func47, Try.ntmps47
          go_wp2_with (first
            | (go_at_call 44; (with_reducible refine (H1.out w).mono ?_); rintro e w1 ⟨rfl, hb1⟩; have HB1 := Lib.hid hb1; clear hb1)
            | (go_at_call 45; refine (H2.out w1).mono ?_; rintro e w2 ⟨rfl, rfl⟩)
            | (go_at_call 44; (with_reducible refine (H3.out w1).mono ?_); rintro e w3 ⟨rfl, hb3⟩; have HB3 := Lib.hid (HB1.out.trans (hb3.mono HB1.out.size)); clear hb3))
          go_ret2
          exact ⟨by rw [HZ2.out]; rfl, HB3.out⟩
end Go.Proofs.Ytdpafndejobbjaa
