/- A number's size read. -/
import Derived.Test.YtjcjnokpbhmmiaaBlobRead
import Derived.Laws.BitsAllLaws
namespace Go.Proofs.Ytjcjnokpbhmmiaa
open Go.RowKit
set_option maxRecDepth 100000

/-- what was raised, behind whatever was taken -/
def Pan (w : World) (g : Nat) (e : Ending) (w' : World) : Prop := e = .panicked raise ∧ Only w w' g ∧ ∃ b rest, Rdr w' g b rest
/-- a size, read -/
def Sized (w : World) (g : Nat) (b : Bool) (rest : Text) (many : Nat) (e : Ending) (w' : World) : Prop :=
  e = .returned (.int .i64 (Blob.val (rest.take many) : Nat)) ∧ Rdr w' g b (rest.drop many) ∧ Only w w' g
def okS (rest : Text) (many : Nat) : Prop := many ≤ 8 ∧ many ≤ rest.length ∧ (many = 0 ∨ rest[0]? ≠ some 0) ∧ Blob.val (rest.take many) ≤ 9223372036854775807

theorem take_next {α : Type} (l : List α) (k : Nat) (h : k < l.length) : l.take (k + 1) = l.take k ++ [l[k]] := by
  rw [List.take_succ_eq_append_getElem h]
theorem or_byte (v : Nat) (x : UInt8) (h : v * 256 < 18446744073709551616) : bits .or .u64 (IntKind.u64.wrap ((v : Int) * (256 : Int))) (IntKind.u64.wrap ((x.toNat : Nat) : Int)) = ((v * 256 + x.toNat : Nat) : Int) := by
  have hx := x.toNat_lt
  have e1 : IntKind.u64.wrap ((v : Int) * (256 : Int)) = ((v * 256 : Nat) : Int) := by rw [IntKind.wrap_u64]; omega
  have e2 : IntKind.u64.wrap ((x.toNat : Nat) : Int) = ((x.toNat : Nat) : Int) := by rw [IntKind.wrap_u64]; omega
  rw [e1, e2, u64_or_nat _ _ h (by omega)]
  have : 2 ^ 8 * v + x.toNat = 2 ^ 8 * v ||| x.toNat := Nat.two_pow_add_eq_or_of_lt (i := 8) hx v
  rw [Nat.mul_comm v 256]
  congr 1
  exact this.symm

set_option maxHeartbeats 1000000 in
theorem size_long (w : World) (g : Nat) (b : Bool) (rest : Text) (many : Nat) (hr : Rdr w g b rest) (h : 8 < many) :
    Calls Try.prog 70 #[.pointer (some ⟨g, 0, none⟩), .int .i64 many] w (Pan w g) := by
  have HR := Lib.hid hr
  clear hr
  go_enter Try.func70, Try.ntmps70
  go_wp2_with (go_at_call 71; refine (must_n (decide_eq_false (by omega)) _).mono ?_; rintro e w' ⟨rfl, rfl⟩)
  exact ⟨rfl, rfl, Only.refl _ _, _, _, HR.out⟩
set_option maxHeartbeats 1000000 in
theorem size_short (w : World) (g : Nat) (b : Bool) (rest : Text) (many : Nat) (hr : Rdr w g b rest) (h : many ≤ 8) (h2 : rest.length < many) :
    Calls Try.prog 70 #[.pointer (some ⟨g, 0, none⟩), .int .i64 many] w (Pan w g) := by
  have HR := Lib.hid hr
  have HT := Lib.hid (take_no w g b rest many hr h2)
  have h8 : (many : Int) ≤ 8 := by omega
  clear hr h2
  go_enter Try.func70, Try.ntmps70
  go_wp2_with (first
    | (go_at_call 71; refine (must_yes _).mono ?_; rintro e w' ⟨rfl, rfl⟩)
    | (go_at_call 69; refine HT.out.mono ?_; rintro e w' ⟨rfl, rfl⟩))
  exact ⟨rfl, rfl, Only.refl _ _, _, _, HR.out⟩
set_option maxHeartbeats 1000000 in
theorem size_nought (w : World) (g : Nat) (b : Bool) (rest : Text) (many : Nat) (hr : Rdr w g b rest) (h : many ≤ 8) (h2 : many ≤ rest.length) (h0 : 0 < many) (hz : rest[0]? = some 0) :
    Calls Try.prog 70 #[.pointer (some ⟨g, 0, none⟩), .int .i64 many] w (Pan w g) := by
  have hl : (rest.take many).length = many := by rw [List.length_take]; omega
  have HT : Hid (Calls Try.prog 69 #[.pointer (some ⟨g, 0, none⟩), .int .i64 many] w fun e w' => ∃ a c, e = .returned (.slice (some a) many c) ∧ w'.cell? a = some (.int .u8 0) ∧ Pan w g (.panicked raise) w') := Lib.hid (by
    refine (take_yes w g b rest many hr h2).mono fun e w' ⟨A, c, h3, h4, h5, h6, h7⟩ => ?_
    obtain ⟨a, rfl, _, hc⟩ := h4.at_ (k := 0) (by omega)
    rw [hl] at h3
    refine ⟨a, c, h3, ?_, rfl, h7, b, _, h6⟩
    have e1 : (rest.take many)[0]'(by omega) = 0 := by
      rw [List.getElem_take]
      rw [List.getElem?_eq_getElem (by omega)] at hz
      exact Option.some.inj hz
    rw [e1] at hc
    simpa [Addr.add] using hc)
  have h8 : (many : Int) ≤ 8 := by omega
  have hne : ((many : Int) == 0) = false := beq_false_of_ne (by omega)
  have hp : (0 : Int) < (many : Int) := by omega
  clear hr h2 hz hl
  go_enter Try.func70, Try.ntmps70
  go_wp2_with (first
    | (go_at_call 69; refine HT.out.mono ?_; rintro e w1 ⟨a, c, rfl, hc1, hp1⟩; have HP1 := Lib.hid hp1; clear hp1)
    | (go_at_call 71; refine (must_yes _).mono ?_; rintro e w' ⟨rfl, rfl⟩)
    | (go_at_call 71; refine (must_no _).mono ?_; rintro e w' ⟨rfl, rfl⟩))
  exact ⟨rfl, HP1.out⟩
set_option maxHeartbeats 1000000 in
theorem size_zero (w : World) (g : Nat) (b : Bool) (rest : Text) (hr : Rdr w g b rest) :
    Calls Try.prog 70 #[.pointer (some ⟨g, 0, none⟩), .int .i64 0] w (Sized w g b rest 0) := by
  have HT : Hid (Calls Try.prog 69 #[.pointer (some ⟨g, 0, none⟩), .int .i64 0] w fun e w' => ∃ A c, e = .returned (.slice A 0 c) ∧ Hid (Rdr w' g b rest ∧ Only w w' g)) := Lib.hid (by
    refine (take_yes w g b rest 0 hr (Nat.zero_le _)).mono fun e w' ⟨A, c, h3, h4, h5, h6, h7⟩ => ?_
    exact ⟨A, c, h3, Lib.hid ⟨h6, h7⟩⟩)
  clear hr
  go_enter Try.func70, Try.ntmps70
  go_wp2_with (first
    | (go_at_call 69; refine HT.out.mono ?_; rintro e w1 ⟨A, c, rfl, HR1⟩)
    | (go_at_call 71; refine (must_yes _).mono ?_; rintro e w' ⟨rfl, rfl⟩))
  go_loop [6, 26] (fun s i => s = .int .u64 0 ∧ i = .int .i64 0) (fun _ i => (0 - intOf i).toNat)
  case atStart => exact ⟨rfl, rfl⟩
  case round =>
    obtain ⟨rfl, rfl⟩ := hrel
    go_wp2_with (go_at_call 71; refine (must_yes _).mono ?_; rintro e w' ⟨rfl, rfl⟩)
    go_ret
    exact ⟨rfl, HR1.out⟩
set_option maxRecDepth 100000 in
set_option maxHeartbeats 4000000 in
theorem size_pos (w : World) (g : Nat) (b : Bool) (rest : Text) (many V : Nat) (hr : Rdr w g b rest) (h : many ≤ 8) (h2 : many ≤ rest.length) (hp : 0 < many) (hz : rest[0]? ≠ some 0) (hV : Blob.val (rest.take many) = V) (hVm : V ≤ 9223372036854775807) :
    Calls Try.prog 70 #[.pointer (some ⟨g, 0, none⟩), .int .i64 many] w (Sized w g b rest many) := by
  unfold Sized
  have hvm : (V : Int) ≤ 9223372036854775807 := by omega
  obtain ⟨T, hT0⟩ : ∃ T, T = rest.take many := ⟨_, rfl⟩
  have hl : T.length = many := by rw [hT0, List.length_take]; omega
  have HT : Hid (Calls Try.prog 69 #[.pointer (some ⟨g, 0, none⟩), .int .i64 many] w fun e w' => ∃ A c, e = .returned (.slice A many c) ∧ Hid (Txt w' A T) ∧ Hid (Rdr w' g b (rest.drop many) ∧ Only w w' g)) := Lib.hid (by
    refine (take_yes w g b rest many hr h2).mono fun e w' ⟨A, c, h3, h4, h5, h6, h7⟩ => ?_
    rw [← hT0] at h3 h4
    rw [hl] at h3
    exact ⟨A, c, h3, Lib.hid h4, Lib.hid ⟨h6, h7⟩⟩)
  have HV : Hid (Blob.val T = V) := Lib.hid (by rw [hT0]; exact hV)
  have hnz : ∃ x, T[0]? = some x ∧ ((x.toNat : Int) != 0) = true := by
    rw [hT0]
    have : (rest.take many)[0]? = rest[0]? := by rw [List.getElem?_take_of_lt hp]
    rw [this]
    obtain ⟨x, hx⟩ : ∃ x, rest[0]? = some x := ⟨_, List.getElem?_eq_getElem (by omega)⟩
    refine ⟨x, hx, ?_⟩
    have hne : x ≠ 0 := fun h0 => hz (by rw [hx, h0])
    have : x.toNat ≠ 0 := fun h0 => hne (UInt8.toNat_inj.1 h0)
    simp; omega
  have hl8 : (many : Int) ≤ 8 := by omega
  clear hr h2 hz hV
  rw [show rest.take many = T from hT0.symm]
  clear hT0
  obtain ⟨HL⟩ : Nonempty (Hid (T.length = many)) := ⟨Lib.hid hl⟩
  clear hl
  have hz0 : ((many : Int) == 0) = false := beq_false_of_ne (by omega)
  have hpi : (0 : Int) < (many : Int) := by omega
  obtain ⟨x0, hx0, hxn⟩ := hnz
  go_enter Try.func70, Try.ntmps70
  go_wp2_with (first
    | (go_at_call 69; refine HT.out.mono ?_; rintro e w1 ⟨A, c, rfl, HX, HR1⟩; obtain ⟨a0, rfl, _, hc0⟩ := HX.out.at_ (k := 0) (by rw [HL.out]; exact hp); have hc0' : w1.cell? a0 = some (.int .u8 ((x0.toNat : Nat) : Int)) := (by have e1 : T[0]'(by rw [HL.out]; exact hp) = x0 := (by rw [List.getElem?_eq_getElem (by rw [HL.out]; exact hp)] at hx0; exact Option.some.inj hx0); rw [e1] at hc0; simpa [Addr.add] using hc0))
    | (go_at_call 71; refine (must_yes _).mono ?_; rintro e w' ⟨rfl, rfl⟩))
  go_loop [6, 26] (fun s i => ∃ k : Nat, k ≤ many ∧ i = .int .i64 k ∧ s = .int .u64 (Blob.val (T.take k) : Nat)) (fun _ i => many - (intOf i).toNat)
  case atStart => exact ⟨0, Nat.zero_le _, rfl, by rw [List.take_zero]; rfl⟩
  case round =>
    obtain ⟨k, hk, rfl, rfl⟩ := hrel
    by_cases hlt : k < many
    · obtain ⟨a, ea, _, hck⟩ := HX.out.at_ (k := k) (by rw [HL.out]; exact hlt)
      obtain rfl : a0 = a := by injection ea
      clear ea
      have hkl : k < T.length := by rw [HL.out]; exact hlt
      have HN : Hid (Blob.val (T.take (k + 1)) = Blob.val (T.take k) * 256 + T[k].toNat) := Lib.hid (by rw [take_next T k hkl, Blob.val_snoc])
      have hvl : Blob.val (T.take k) * 256 < 18446744073709551616 := by
        have h1 := Blob.val_lt (T.take k)
        have h2 : (T.take k).length ≤ 7 := by rw [List.length_take]; omega
        have h3 : 256 ^ (T.take k).length ≤ 256 ^ 7 := Nat.pow_le_pow_right (by omega) h2
        omega
      have HO := Lib.hid (or_byte (Blob.val (T.take k)) T[k] hvl)
      generalize Blob.val (T.take k) = v at *
      generalize T[k] = x at *
      clear hvl hkl
      go_wp2
      rw [HO.out]
      go_round
      case rel => exact ⟨k + 1, by omega, by go_num, by rw [HN.out]⟩
      case measure => simp [intOf]; omega
    · obtain rfl : k = many := by omega
      have HE : Hid (Blob.val (T.take k) = V) := Lib.hid (by rw [List.take_of_length_le (by rw [HL.out]; exact Nat.le_refl _)]; exact HV.out)
      rw [HE.out]
      go_wp2_with (go_at_call 71; refine (must_yes _).mono ?_; rintro e w' ⟨rfl, rfl⟩)
      go_ret
      exact ⟨by rw [HV.out]; rfl, HR1.out⟩
set_option maxRecDepth 100000 in
set_option maxHeartbeats 4000000 in
theorem size_big (w : World) (g : Nat) (b : Bool) (rest : Text) (many V : Nat) (hr : Rdr w g b rest) (h : many ≤ 8) (h2 : many ≤ rest.length) (hp : 0 < many) (hz : rest[0]? ≠ some 0) (hV : Blob.val (rest.take many) = V) (hVm : 9223372036854775807 < V) :
    Calls Try.prog 70 #[.pointer (some ⟨g, 0, none⟩), .int .i64 many] w (Pan w g) := by
  have hvm : 9223372036854775807 < (V : Int) := by omega
  have hvd : decide ((V : Int) ≤ 9223372036854775807) = false := decide_eq_false (by omega)
  obtain ⟨T, hT0⟩ : ∃ T, T = rest.take many := ⟨_, rfl⟩
  have hl : T.length = many := by rw [hT0, List.length_take]; omega
  have HT : Hid (Calls Try.prog 69 #[.pointer (some ⟨g, 0, none⟩), .int .i64 many] w fun e w' => ∃ A c, e = .returned (.slice A many c) ∧ Hid (Txt w' A T) ∧ Hid (Rdr w' g b (rest.drop many) ∧ Only w w' g)) := Lib.hid (by
    refine (take_yes w g b rest many hr h2).mono fun e w' ⟨A, c, h3, h4, h5, h6, h7⟩ => ?_
    rw [← hT0] at h3 h4
    rw [hl] at h3
    exact ⟨A, c, h3, Lib.hid h4, Lib.hid ⟨h6, h7⟩⟩)
  have HV : Hid (Blob.val T = V) := Lib.hid (by rw [hT0]; exact hV)
  have hnz : ∃ x, T[0]? = some x ∧ ((x.toNat : Int) != 0) = true := by
    rw [hT0]
    have : (rest.take many)[0]? = rest[0]? := by rw [List.getElem?_take_of_lt hp]
    rw [this]
    obtain ⟨x, hx⟩ : ∃ x, rest[0]? = some x := ⟨_, List.getElem?_eq_getElem (by omega)⟩
    refine ⟨x, hx, ?_⟩
    have hne : x ≠ 0 := fun h0 => hz (by rw [hx, h0])
    have : x.toNat ≠ 0 := fun h0 => hne (UInt8.toNat_inj.1 h0)
    simp; omega
  have hl8 : (many : Int) ≤ 8 := by omega
  clear hr h2 hz hV
  clear hT0
  obtain ⟨HL⟩ : Nonempty (Hid (T.length = many)) := ⟨Lib.hid hl⟩
  clear hl
  have hz0 : ((many : Int) == 0) = false := beq_false_of_ne (by omega)
  have hpi : (0 : Int) < (many : Int) := by omega
  obtain ⟨x0, hx0, hxn⟩ := hnz
  go_enter Try.func70, Try.ntmps70
  go_wp2_with (first
    | (go_at_call 69; refine HT.out.mono ?_; rintro e w1 ⟨A, c, rfl, HX, HR1⟩; obtain ⟨a0, rfl, _, hc0⟩ := HX.out.at_ (k := 0) (by rw [HL.out]; exact hp); have hc0' : w1.cell? a0 = some (.int .u8 ((x0.toNat : Nat) : Int)) := (by have e1 : T[0]'(by rw [HL.out]; exact hp) = x0 := (by rw [List.getElem?_eq_getElem (by rw [HL.out]; exact hp)] at hx0; exact Option.some.inj hx0); rw [e1] at hc0; simpa [Addr.add] using hc0))
    | (go_at_call 71; refine (must_yes _).mono ?_; rintro e w' ⟨rfl, rfl⟩))
  go_loop [6, 26] (fun s i => ∃ k : Nat, k ≤ many ∧ i = .int .i64 k ∧ s = .int .u64 (Blob.val (T.take k) : Nat)) (fun _ i => many - (intOf i).toNat)
  case atStart => exact ⟨0, Nat.zero_le _, rfl, by rw [List.take_zero]; rfl⟩
  case round =>
    obtain ⟨k, hk, rfl, rfl⟩ := hrel
    by_cases hlt : k < many
    · obtain ⟨a, ea, _, hck⟩ := HX.out.at_ (k := k) (by rw [HL.out]; exact hlt)
      obtain rfl : a0 = a := by injection ea
      clear ea
      have hkl : k < T.length := by rw [HL.out]; exact hlt
      have HN : Hid (Blob.val (T.take (k + 1)) = Blob.val (T.take k) * 256 + T[k].toNat) := Lib.hid (by rw [take_next T k hkl, Blob.val_snoc])
      have hvl : Blob.val (T.take k) * 256 < 18446744073709551616 := by
        have h1 := Blob.val_lt (T.take k)
        have h2 : (T.take k).length ≤ 7 := by rw [List.length_take]; omega
        have h3 : 256 ^ (T.take k).length ≤ 256 ^ 7 := Nat.pow_le_pow_right (by omega) h2
        omega
      have HO := Lib.hid (or_byte (Blob.val (T.take k)) T[k] hvl)
      generalize Blob.val (T.take k) = v at *
      generalize T[k] = x at *
      clear hvl hkl
      go_wp2
      rw [HO.out]
      go_round
      case rel => exact ⟨k + 1, by omega, by go_num, by rw [HN.out]⟩
      case measure => simp [intOf]; omega
    · obtain rfl : k = many := by omega
      have HE : Hid (Blob.val (T.take k) = V) := Lib.hid (by rw [List.take_of_length_le (by rw [HL.out]; exact Nat.le_refl _)]; exact HV.out)
      rw [HE.out]
      go_wp2_with (go_at_call 71; (with_reducible refine (must_no _).mono ?_); rintro e w' ⟨rfl, rfl⟩)
      exact ⟨rfl, rfl, HR1.out.2, _, _, HR1.out.1⟩
end Go.Proofs.Ytjcjnokpbhmmiaa
