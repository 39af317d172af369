/- A number, a text, a flag read, or refused. -/
import Derived.Test.YtjcjnokpbhmmiaaBlobSize
namespace Go.Proofs.Ytjcjnokpbhmmiaa
open Go.RowKit
set_option maxRecDepth 100000

open Classical in
/-- a size, and what is left; nothing, if it is refused -/
noncomputable def sizeP (rest : Text) (many : Nat) : Option (Nat × Text) := if okS rest many then some (Blob.val (rest.take many), rest.drop many) else none
/-- what a reading call leaves -/
def Res (w : World) (g : Nat) (b : Bool) (d : Option (Value × Text)) (e : Ending) (w' : World) : Prop := match d with
  | some (v, r) => e = .returned v ∧ Rdr w' g b r ∧ Only w w' g
  | none => Pan w g e w'
theorem size_any (w : World) (g : Nat) (b : Bool) (rest : Text) (many : Nat) (hr : Rdr w g b rest) :
    Calls Try.prog 70 #[.pointer (some ⟨g, 0, none⟩), .int .i64 many] w (Res w g b ((sizeP rest many).map fun p => (.int .i64 (p.1 : Nat), p.2))) := by
  unfold sizeP
  by_cases h : okS rest many
  · rw [if_pos h]
    obtain ⟨h1, h2, h3, h4⟩ := h
    rcases h3 with rfl | h3
    · exact size_zero w g b rest hr
    · rcases Nat.eq_zero_or_pos many with rfl | hp
      · exact size_zero w g b rest hr
      · exact size_pos w g b rest many _ hr h1 h2 hp h3 rfl h4
  · rw [if_neg h]
    show Calls _ _ _ _ (Pan w g)
    by_cases h1 : many ≤ 8
    · by_cases h2 : many ≤ rest.length
      · rcases Nat.eq_zero_or_pos many with rfl | hp
        · exact absurd ⟨h1, h2, .inl rfl, by simp [Blob.val]⟩ h
        · by_cases h3 : rest[0]? = some 0
          · exact size_nought w g b rest many hr h1 h2 hp h3
          · exact size_big w g b rest many _ hr h1 h2 hp h3 rfl (by
              rcases Nat.lt_or_ge 9223372036854775807 (Blob.val (rest.take many)) with hv | hv
              · exact hv
              · exact absurd ⟨h1, h2, .inr h3, hv⟩ h)
      · exact size_short w g b rest many hr h1 (by omega)
    · exact size_long w g b rest many hr (by omega)

/-- a number, and what is left -/
noncomputable def numP (rest : Text) : Option (Int × Text) := match rest with
  | [] => none
  | h :: r => match sizeP r (h.toNat % 128) with
    | none => none
    | some (n, r') => if h.toNat < 128 then some ((n : Int), r') else if 0 < n then some (-(n : Int), r') else none
theorem sizeP_le {rest r : Text} {many n : Nat} (h : sizeP rest many = some (n, r)) : n ≤ 9223372036854775807 := by
  unfold sizeP at h
  by_cases hk : okS rest many
  · rw [if_pos hk] at h
    injection h with h
    injection h with h1 h2
    rw [← h1]; exact hk.2.2.2
  · rw [if_neg hk] at h; cases h

/-- one byte taken -/
theorem take_one (w : World) (g : Nat) (b : Bool) (h : UInt8) (r : Text) (hr : Rdr w g b (h :: r)) :
    Calls Try.prog 69 #[.pointer (some ⟨g, 0, none⟩), .int .i64 1] w fun e w' => ∃ a c, e = .returned (.slice (some a) 1 c) ∧ w'.cell? a = some (.int .u8 ((h.toNat : Nat) : Int)) ∧ Hid (Rdr w' g b r ∧ Only w w' g) := by
  refine (take_yes w g b (h :: r) 1 hr (by simp)).mono fun e w' ⟨A, c, h3, h4, h5, h6, h7⟩ => ?_
  obtain ⟨a, rfl, _, hc⟩ := h4.at_ (k := 0) (by simp)
  exact ⟨a, c, h3, by simpa [Addr.add] using hc, Lib.hid ⟨h6, h7⟩⟩
theorem Pan.later {w w1 w' : World} {g : Nat} {e : Ending} (h : Pan w1 g e w') (ho : Only w w1 g) : Pan w g e w' := ⟨h.1, ho.trans h.2.1, h.2.2⟩

set_option maxRecDepth 100000 in
set_option maxHeartbeats 2000000 in
theorem code_num (w : World) (g : Nat) (b : Bool) (rest : Text) (hr : Rdr w g b rest) :
    Calls Try.prog 43 #[.pointer (some ⟨g, 0, none⟩)] w (Res w g b ((numP rest).map fun p => (.int .i64 p.1, p.2))) := by
  cases rest with
  | nil =>
    have HT := Lib.hid (take_no w g b [] 1 hr (by simp))
    have HR := Lib.hid hr
    clear hr
    go_enter Try.func43, Try.ntmps43
    go_wp2_with (go_at_call 69; refine HT.out.mono ?_; rintro e w' ⟨rfl, rfl⟩)
    exact ⟨rfl, rfl, Only.refl _ _, _, _, HR.out⟩
  | cons h r =>
    have HT := Lib.hid (take_one w g b h r hr)
    have HS : Hid (∀ W, Rdr W g b r → Calls Try.prog 70 #[.pointer (some ⟨g, 0, none⟩), .int .i64 (((h.toNat : Nat) : Int) % 128)] W (Res W g b ((sizeP r (h.toNat % 128)).map fun p => (.int .i64 (p.1 : Nat), p.2)))) := Lib.hid (fun W hW => by
      have := size_any W g b r (h.toNat % 128) hW
      rw [Int.natCast_emod] at this
      exact this)
    obtain ⟨D, hD⟩ : ∃ D, D = (numP (h :: r)).map fun p => (Value.int .i64 p.1, p.2) := ⟨_, rfl⟩
    rw [← hD]
    have h0 : (0 : Int) ≤ ((h.toNat : Nat) : Int) := by omega
    clear hr
    cases hs : sizeP r (h.toNat % 128) with
    | none =>
      have HD : Hid (D = none) := Lib.hid (by rw [hD]; unfold numP; simp only [hs]; rfl)
      rw [hs] at HS
      clear hs hD
      go_enter Try.func43, Try.ntmps43
      go_wp2_with (first
        | (go_at_call 69; refine HT.out.mono ?_; rintro e w1 ⟨a, c, rfl, hc, HR1⟩)
        | (go_at_call 70; refine (HS.out w1 HR1.out.1).mono ?_; rintro e w2 hp; obtain ⟨rfl, hp2⟩ := hp; have HP := Lib.hid hp2; clear hp2))
      exact ⟨rfl, by rw [HD.out]; exact Pan.later ⟨rfl, HP.out⟩ HR1.out.2⟩
    | some p =>
      obtain ⟨n, r'⟩ := p
      have hn := sizeP_le hs
      have HS2 : Hid (∀ W, Rdr W g b r → Calls Try.prog 70 #[.pointer (some ⟨g, 0, none⟩), .int .i64 (((h.toNat : Nat) : Int) % 128)] W fun e w' => e = .returned (.int .i64 n) ∧ Hid (Rdr w' g b r' ∧ Only W w' g)) := Lib.hid (fun W hW => by
        have := HS.out W hW
        rw [hs] at this
        exact this.mono fun e w' h => ⟨h.1, Lib.hid h.2⟩)
      have hni : (n : Int) ≤ 9223372036854775807 := by omega
      by_cases hb : h.toNat < 128
      · have HD : Hid (D = some (.int .i64 n, r')) := Lib.hid (by rw [hD]; unfold numP; simp only [hs, if_pos hb]; rfl)
        have hbi : ((h.toNat : Nat) : Int) < 128 := by omega
        clear hs hD HS hb
        go_enter Try.func43, Try.ntmps43
        go_wp2_with (first
        | (go_at_call 69; refine HT.out.mono ?_; rintro e w1 ⟨a, c, rfl, hc, HR1⟩)
          | (go_at_call 70; refine (HS2.out w1 HR1.out.1).mono ?_; rintro e w2 ⟨rfl, HR2⟩))
        go_ret
        rw [HD.out]
        exact ⟨rfl, HR2.out.1, HR1.out.2.trans HR2.out.2⟩
      · have hbi : (128 : Int) ≤ ((h.toNat : Nat) : Int) := by omega
        by_cases hp : 0 < n
        · have HD : Hid (D = some (.int .i64 (-(n : Int)), r')) := Lib.hid (by rw [hD]; unfold numP; simp only [hs, if_neg hb, if_pos hp]; rfl)
          have hpi : (0 : Int) < (n : Int) := by omega
          clear hs hD HS hb
          go_enter Try.func43, Try.ntmps43
          go_wp2_with (first
        | (go_at_call 69; refine HT.out.mono ?_; rintro e w1 ⟨a, c, rfl, hc, HR1⟩)
            | (go_at_call 70; refine (HS2.out w1 HR1.out.1).mono ?_; rintro e w2 ⟨rfl, HR2⟩)
            | (go_at_call 71; (with_reducible refine (must_yes _).mono ?_); rintro e w' ⟨rfl, rfl⟩))
          go_ret
          rw [HD.out]
          exact ⟨rfl, HR2.out.1, HR1.out.2.trans HR2.out.2⟩
        · have HD : Hid (D = none) := Lib.hid (by rw [hD]; unfold numP; simp only [hs, if_neg hb, if_neg hp]; rfl)
          obtain rfl : n = 0 := by omega
          clear hs hD HS hb hp
          go_enter Try.func43, Try.ntmps43
          go_wp2_with (first
        | (go_at_call 69; refine HT.out.mono ?_; rintro e w1 ⟨a, c, rfl, hc, HR1⟩)
            | (go_at_call 70; refine (HS2.out w1 HR1.out.1).mono ?_; rintro e w2 ⟨rfl, HR2⟩)
            | (go_at_call 71; (with_reducible refine (must_no _).mono ?_); rintro e w' ⟨rfl, rfl⟩))
          exact ⟨rfl, by rw [HD.out]; exact ⟨rfl, HR1.out.2.trans HR2.out.2, _, _, HR2.out.1⟩⟩
end Go.Proofs.Ytjcjnokpbhmmiaa
