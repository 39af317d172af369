/- A text and a flag read, or refused. -/
import Derived.Test.YtjcjnokpbhmmiaaBlobNumR
namespace Go.Proofs.Ytjcjnokpbhmmiaa
open Go.RowKit
set_option maxRecDepth 100000

/-- a text, and what is left -/
noncomputable def textP (rest : Text) : Option (ByteArray × Text) := match numP rest with
  | none => none
  | some (n, r) => if 0 ≤ n ∧ n ≤ 65536 ∧ n.toNat ≤ r.length then some (⟨(r.take n.toNat).toArray⟩, r.drop n.toNat) else none
def flagP (rest : Text) : Option (Bool × Text) := match rest with
  | [] => none
  | h :: r => if h.toNat ≤ 1 then some (decide (h.toNat = 1), r) else none

set_option maxRecDepth 100000 in
set_option maxHeartbeats 2000000 in
theorem code_textR (w : World) (g : Nat) (b : Bool) (rest : Text) (hr : Rdr w g b rest) :
    Calls Try.prog 45 #[.pointer (some ⟨g, 0, none⟩)] w (Res w g b ((textP rest).map fun p => (.string p.1, p.2))) := by
  have HN := Lib.hid (code_num w g b rest hr)
  obtain ⟨D, hD⟩ : ∃ D, D = (textP rest).map fun p => (Value.string p.1, p.2) := ⟨_, rfl⟩
  rw [← hD]
  clear hr
  cases hs : numP rest with
  | none =>
    have HD : Hid (D = none) := Lib.hid (by rw [hD]; unfold textP; rw [hs]; rfl)
    rw [hs] at HN
    clear hs hD
    go_enter Try.func45, Try.ntmps45
    go_wp2_with (go_at_call 43; refine HN.out.mono ?_; rintro e w2 hp; obtain ⟨rfl, hp2⟩ := hp; have HP := Lib.hid hp2; clear hp2)
    exact ⟨rfl, by rw [HD.out]; exact ⟨rfl, HP.out⟩⟩
  | some p =>
    obtain ⟨n, r⟩ := p
    have HN2 : Hid (Calls Try.prog 43 #[.pointer (some ⟨g, 0, none⟩)] w fun e w' => e = .returned (.int .i64 n) ∧ Hid (Rdr w' g b r ∧ Only w w' g)) := Lib.hid (by
      have := HN.out
      rw [hs] at this
      exact this.mono fun e w' h => ⟨h.1, Lib.hid h.2⟩)
    clear HN
    by_cases h1 : 0 ≤ n ∧ n ≤ 65536
    · obtain ⟨h1, h2⟩ := h1
      obtain ⟨m, rfl⟩ : ∃ m : Nat, n = (m : Int) := ⟨n.toNat, by omega⟩
      by_cases h3 : m ≤ r.length
      · have HD : Hid (D = some (.string ⟨(r.take m).toArray⟩, r.drop m)) := Lib.hid (by rw [hD]; unfold textP; rw [hs]; simp only; rw [if_pos ⟨h1, h2, by simpa using h3⟩]; simp)
        have HT : Hid (∀ W, Rdr W g b r → Calls Try.prog 69 #[.pointer (some ⟨g, 0, none⟩), .int .i64 m] W fun e w' => ∃ A c, e = .returned (.slice A m c) ∧ (convert 22 9 (.slice A m c)).run Try.prog w' = .ok (.string ⟨(r.take m).toArray⟩) w' ∧ Hid (Rdr w' g b (r.drop m) ∧ Only W w' g)) := Lib.hid (fun W hW => by
          refine (take_yes W g b r m hW h3).mono fun e w' ⟨A, c, k3, k4, k5, k6, k7⟩ => ?_
          have hl : (r.take m).length = m := by rw [List.length_take]; omega
          have hx := text_run w' A c (r.take m) k4 k5
          rw [hl] at k3 hx
          exact ⟨A, c, k3, hx, Lib.hid ⟨k6, k7⟩⟩)
        clear hs hD h3
        go_enter Try.func45, Try.ntmps45
        go_wp2_with (first
          | (go_at_call 43; refine HN2.out.mono ?_; rintro e w2 ⟨rfl, HR2⟩)
          | (go_at_call 71; (with_reducible refine (must_yes _).mono ?_); rintro e w' ⟨rfl, rfl⟩)
          | (go_at_call 69; refine (HT.out w2 HR2.out.1).mono ?_; rintro e w3 ⟨A, c, rfl, hx, HR3⟩))
        go_ret
        rw [HD.out]
        exact ⟨rfl, HR3.out.1, HR2.out.2.trans HR3.out.2⟩
      · have HD : Hid (D = none) := Lib.hid (by rw [hD]; unfold textP; rw [hs]; simp only; rw [if_neg (fun h => h3 (by simpa using h.2.2))]; rfl)
        have HT : Hid (∀ W, Rdr W g b r → Calls Try.prog 69 #[.pointer (some ⟨g, 0, none⟩), .int .i64 m] W fun e w' => e = .panicked raise ∧ W = w') := Lib.hid (fun W hW => take_no W g b r m hW (by omega))
        clear hs hD h3
        go_enter Try.func45, Try.ntmps45
        go_wp2_with (first
          | (go_at_call 43; refine HN2.out.mono ?_; rintro e w2 ⟨rfl, HR2⟩)
          | (go_at_call 71; (with_reducible refine (must_yes _).mono ?_); rintro e w' ⟨rfl, rfl⟩)
          | (go_at_call 69; refine (HT.out w2 HR2.out.1).mono ?_; rintro e w' ⟨rfl, rfl⟩))
        exact ⟨rfl, by rw [HD.out]; exact ⟨rfl, HR2.out.2, _, _, HR2.out.1⟩⟩
    · have HD : Hid (D = none) := Lib.hid (by rw [hD]; unfold textP; rw [hs]; simp only; rw [if_neg (fun h => h1 ⟨h.1, h.2.1⟩)]; rfl)
      clear hs hD
      by_cases h2 : n < 0
      · clear h1
        go_enter Try.func45, Try.ntmps45
        go_wp2_with (first
          | (go_at_call 43; refine HN2.out.mono ?_; rintro e w2 ⟨rfl, HR2⟩)
          | (go_at_call 71; (with_reducible refine (must_no _).mono ?_); rintro e w' ⟨rfl, rfl⟩))
        exact ⟨rfl, by rw [HD.out]; exact ⟨rfl, HR2.out.2, _, _, HR2.out.1⟩⟩
      · have h3 : 65536 < n := by omega
        have h4 : 0 ≤ n := by omega
        clear h1 h2
        go_enter Try.func45, Try.ntmps45
        go_wp2_with (first
          | (go_at_call 43; refine HN2.out.mono ?_; rintro e w2 ⟨rfl, HR2⟩)
          | (go_at_call 71; refine (must_n (decide_eq_false (by omega)) _).mono ?_; rintro e w' ⟨rfl, rfl⟩))
        exact ⟨rfl, by rw [HD.out]; exact ⟨rfl, HR2.out.2, _, _, HR2.out.1⟩⟩

set_option maxRecDepth 100000 in
set_option maxHeartbeats 2000000 in
theorem code_flagR (w : World) (g : Nat) (b : Bool) (rest : Text) (hr : Rdr w g b rest) :
    Calls Try.prog 47 #[.pointer (some ⟨g, 0, none⟩)] w (Res w g b ((flagP rest).map fun p => (.bool p.1, p.2))) := by
  cases rest with
  | nil =>
    have HT := Lib.hid (take_no w g b [] 1 hr (by simp))
    have HR := Lib.hid hr
    clear hr
    go_enter Try.func47, Try.ntmps47
    go_wp2_with (go_at_call 69; refine HT.out.mono ?_; rintro e w' ⟨rfl, rfl⟩)
    exact ⟨rfl, rfl, Only.refl _ _, _, _, HR.out⟩
  | cons h r =>
    have HT := Lib.hid (take_one w g b h r hr)
    obtain ⟨D, hD⟩ : ∃ D, D = (flagP (h :: r)).map fun p => (Value.bool p.1, p.2) := ⟨_, rfl⟩
    rw [← hD]
    clear hr
    by_cases h1 : h.toNat ≤ 1
    · have HD : Hid (D = some (.bool (decide (h.toNat = 1)), r)) := Lib.hid (by rw [hD]; unfold flagP; simp only; rw [if_pos h1]; rfl)
      have hi : ((h.toNat : Nat) : Int) ≤ 1 := by omega
      have HB : Hid ((((h.toNat : Nat) : Int) == 1) = decide (h.toNat = 1)) := Lib.hid (by rw [Bool.eq_iff_iff]; simp; omega)
      clear hD h1
      go_enter Try.func47, Try.ntmps47
      go_wp2_with (first
        | (go_at_call 69; refine HT.out.mono ?_; rintro e w1 ⟨a, c, rfl, hc, HR1⟩)
        | (go_at_call 71; (with_reducible refine (must_yes _).mono ?_); rintro e w' ⟨rfl, rfl⟩))
      go_ret
      rw [HD.out]
      exact ⟨ret_bool HB.out, HR1.out.1, HR1.out.2⟩
    · have HD : Hid (D = none) := Lib.hid (by rw [hD]; unfold flagP; simp only; rw [if_neg h1]; rfl)
      have hi : 1 < ((h.toNat : Nat) : Int) := by omega
      clear hD h1
      go_enter Try.func47, Try.ntmps47
      go_wp2_with (first
        | (go_at_call 69; refine HT.out.mono ?_; rintro e w1 ⟨a, c, rfl, hc, HR1⟩)
        | (go_at_call 71; refine (must_n (decide_eq_false (by omega)) _).mono ?_; rintro e w' ⟨rfl, rfl⟩))
      exact ⟨rfl, by rw [HD.out]; exact ⟨rfl, HR1.out.2, _, _, HR1.out.1⟩⟩
end Go.Proofs.Ytjcjnokpbhmmiaa
