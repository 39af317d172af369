/- A number's size read. A number, a text, a flag read, or refused. A text and a flag read, or refused. -/
import Derived.Test.YtplghpamckdklaaGreatE12
import Derived.Laws.BitsAllLaws
namespace Go.Proofs.YtplghpamckdklaaGreat
open Go.RowKit
set_option maxRecDepth 100000

/-- what was raised, behind whatever was taken -/
def Pan (w : World) (g : Nat) (e : Ending) (w' : World) : Prop := e = .panicked raise ∧ Only w w' g ∧ ∃ b rest, Rdr w' g b rest
/-- a size, read -/
def Sized (w : World) (g : Nat) (b : Bool) (rest : Text) (many : Nat) (e : Ending) (w' : World) : Prop :=
 e = .returned (.int .i64 (Blob.val (rest.take many) : Nat)) ∧ Rdr w' g b (rest.drop many) ∧ Only w w' g
def okS (rest : Text) (many : Nat) : Prop := many ≤ 8 ∧ many ≤ rest.length ∧ (many = 0 ∨ rest[0]? ≠ some 0) ∧ Blob.val (rest.take many) ≤ 9223372036854775807

theorem take_next {α : Type} (l : List α) (k : Nat) (h : k < l.length) : l.take (k + 1) = l.take k ++ [l[k]] := by
 rw [List.take_succ_eq_append_getElem h]
theorem or_byte (v : Nat) (x : UInt8) (h : v * 256 < 18446744073709551616) : bits .or .u64 (IntKind.u64.wrap ((v : Int) * (256 : Int))) (IntKind.u64.wrap ((x.toNat : Nat) : Int)) = ((v * 256 + x.toNat : Nat) : Int) := by
 have hx := x.toNat_lt
 have e1 : IntKind.u64.wrap ((v : Int) * (256 : Int)) = ((v * 256 : Nat) : Int) := by rw [IntKind.wrap_u64]; omega
 have e2 : IntKind.u64.wrap ((x.toNat : Nat) : Int) = ((x.toNat : Nat) : Int) := by rw [IntKind.wrap_u64]; omega
 rw [e1, e2, u64_or_nat _ _ h (by omega)]
 have : 2 ^ 8 * v + x.toNat = 2 ^ 8 * v ||| x.toNat := Nat.two_pow_add_eq_or_of_lt (i := 8) hx v
 rw [Nat.mul_comm v 256]
 congr 1
 exact this.symm

set_option maxHeartbeats 1000000 in
theorem size_long (w : World) (g : Nat) (b : Bool) (rest : Text) (many : Nat) (hr : Rdr w g b rest) (h : 8 < many) :
 Calls Tryz.prog 117 #[.pointer (some ⟨g, 0, none⟩), .int .i64 many] w (Pan w g) := by
 have HR := Lib.hid hr
 clear hr
 go_enter Tryz.func117, Tryz.ntmps117
 go_wp2_with (go_at_call 118; refine (must_n (decide_eq_false (by omega)) _).mono ?_; rintro e w' ⟨rfl, rfl⟩)
 exact ⟨rfl, rfl, Only.refl _ _, _, _, HR.out⟩
set_option maxHeartbeats 1000000 in
theorem size_short (w : World) (g : Nat) (b : Bool) (rest : Text) (many : Nat) (hr : Rdr w g b rest) (h : many ≤ 8) (h2 : rest.length < many) :
 Calls Tryz.prog 117 #[.pointer (some ⟨g, 0, none⟩), .int .i64 many] w (Pan w g) := by
 have HR := Lib.hid hr
 have HT := Lib.hid (take_no w g b rest many hr h2)
 have h8 : (many : Int) ≤ 8 := by omega
 clear hr h2
 go_enter Tryz.func117, Tryz.ntmps117
 go_wp2_with (first
  | (go_at_call 118; refine (must_yes _).mono ?_; rintro e w' ⟨rfl, rfl⟩)
  | (go_at_call 116; refine HT.out.mono ?_; rintro e w' ⟨rfl, rfl⟩))
 exact ⟨rfl, rfl, Only.refl _ _, _, _, HR.out⟩
set_option maxHeartbeats 1000000 in
theorem size_nought (w : World) (g : Nat) (b : Bool) (rest : Text) (many : Nat) (hr : Rdr w g b rest) (h : many ≤ 8) (h2 : many ≤ rest.length) (h0 : 0 < many) (hz : rest[0]? = some 0) :
 Calls Tryz.prog 117 #[.pointer (some ⟨g, 0, none⟩), .int .i64 many] w (Pan w g) := by
 have hl : (rest.take many).length = many := by rw [List.length_take]; omega
 have HT : Hid (Calls Tryz.prog 116 #[.pointer (some ⟨g, 0, none⟩), .int .i64 many] w fun e w' => ∃ a c, e = .returned (.slice (some a) many c) ∧ w'.cell? a = some (.int .u8 0) ∧ Pan w g (.panicked raise) w') := Lib.hid (by
  refine (take_yes w g b rest many hr h2).mono fun e w' ⟨A, c, h3, h4, h5, h6, h7⟩ => ?_
  obtain ⟨a, rfl, _, hc⟩ := h4.at_ (k := 0) (by omega)
  rw [hl] at h3
  refine ⟨a, c, h3, ?_, rfl, h7, b, _, h6⟩
  have e1 : (rest.take many)[0]'(by omega) = 0 := by
   rw [List.getElem_take]
   rw [List.getElem?_eq_getElem (by omega)] at hz
   exact Option.some.inj hz
  rw [e1] at hc
  simpa [Addr.add] using hc)
 have h8 : (many : Int) ≤ 8 := by omega
 have hne : ((many : Int) == 0) = false := beq_false_of_ne (by omega)
 have hp : (0 : Int) < (many : Int) := by omega
 clear hr h2 hz hl
 go_enter Tryz.func117, Tryz.ntmps117
 go_wp2_with (first
  | (go_at_call 116; refine HT.out.mono ?_; rintro e w1 ⟨a, c, rfl, hc1, hp1⟩; have HP1 := Lib.hid hp1; clear hp1)
  | (go_at_call 118; refine (must_yes _).mono ?_; rintro e w' ⟨rfl, rfl⟩)
  | (go_at_call 118; refine (must_no _).mono ?_; rintro e w' ⟨rfl, rfl⟩))
 exact ⟨rfl, HP1.out⟩
set_option maxHeartbeats 1000000 in
theorem size_zero (w : World) (g : Nat) (b : Bool) (rest : Text) (hr : Rdr w g b rest) :
 Calls Tryz.prog 117 #[.pointer (some ⟨g, 0, none⟩), .int .i64 0] w (Sized w g b rest 0) := by
 have HT : Hid (Calls Tryz.prog 116 #[.pointer (some ⟨g, 0, none⟩), .int .i64 0] w fun e w' => ∃ A c, e = .returned (.slice A 0 c) ∧ Hid (Rdr w' g b rest ∧ Only w w' g)) := Lib.hid (by
  refine (take_yes w g b rest 0 hr (Nat.zero_le _)).mono fun e w' ⟨A, c, h3, h4, h5, h6, h7⟩ => ?_
  exact ⟨A, c, h3, Lib.hid ⟨h6, h7⟩⟩)
 clear hr
 go_enter Tryz.func117, Tryz.ntmps117
 go_wp2_with (first
  | (go_at_call 116; refine HT.out.mono ?_; rintro e w1 ⟨A, c, rfl, HR1⟩)
  | (go_at_call 118; refine (must_yes _).mono ?_; rintro e w' ⟨rfl, rfl⟩))
 go_loop [6, 26] (fun s i => s = .int .u64 0 ∧ i = .int .i64 0) (fun _ i => (0 - intOf i).toNat)
 case atStart => exact ⟨rfl, rfl⟩
 case round =>
  obtain ⟨rfl, rfl⟩ := hrel
  go_wp2_with (go_at_call 118; refine (must_yes _).mono ?_; rintro e w' ⟨rfl, rfl⟩)
  go_ret
  exact ⟨rfl, HR1.out⟩
set_option maxRecDepth 100000 in
set_option maxHeartbeats 4000000 in
theorem size_pos (w : World) (g : Nat) (b : Bool) (rest : Text) (many V : Nat) (hr : Rdr w g b rest) (h : many ≤ 8) (h2 : many ≤ rest.length) (hp : 0 < many) (hz : rest[0]? ≠ some 0) (hV : Blob.val (rest.take many) = V) (hVm : V ≤ 9223372036854775807) :
 Calls Tryz.prog 117 #[.pointer (some ⟨g, 0, none⟩), .int .i64 many] w (Sized w g b rest many) := by
 unfold Sized
 have hvm : (V : Int) ≤ 9223372036854775807 := by omega
 obtain ⟨T, hT0⟩ : ∃ T, T = rest.take many := ⟨_, rfl⟩
 have hl : T.length = many := by rw [hT0, List.length_take]; omega
 have HT : Hid (Calls Tryz.prog 116 #[.pointer (some ⟨g, 0, none⟩), .int .i64 many] w fun e w' => ∃ A c, e = .returned (.slice A many c) ∧ Hid (Txt w' A T) ∧ Hid (Rdr w' g b (rest.drop many) ∧ Only w w' g)) := Lib.hid (by
  refine (take_yes w g b rest many hr h2).mono fun e w' ⟨A, c, h3, h4, h5, h6, h7⟩ => ?_
  rw [← hT0] at h3 h4
  rw [hl] at h3
  exact ⟨A, c, h3, Lib.hid h4, Lib.hid ⟨h6, h7⟩⟩)
 have HV : Hid (Blob.val T = V) := Lib.hid (by rw [hT0]; exact hV)
 have hnz : ∃ x, T[0]? = some x ∧ ((x.toNat : Int) != 0) = true := by
  rw [hT0]
  have : (rest.take many)[0]? = rest[0]? := by rw [List.getElem?_take_of_lt hp]
  rw [this]
  obtain ⟨x, hx⟩ : ∃ x, rest[0]? = some x := ⟨_, List.getElem?_eq_getElem (by omega)⟩
  refine ⟨x, hx, ?_⟩
  have hne : x ≠ 0 := fun h0 => hz (by rw [hx, h0])
  have : x.toNat ≠ 0 := fun h0 => hne (UInt8.toNat_inj.1 h0)
  simp; omega
 have hl8 : (many : Int) ≤ 8 := by omega
 clear hr h2 hz hV
 rw [show rest.take many = T from hT0.symm]
 clear hT0
 obtain ⟨HL⟩ : Nonempty (Hid (T.length = many)) := ⟨Lib.hid hl⟩
 clear hl
 have hz0 : ((many : Int) == 0) = false := beq_false_of_ne (by omega)
 have hpi : (0 : Int) < (many : Int) := by omega
 obtain ⟨x0, hx0, hxn⟩ := hnz
 go_enter Tryz.func117, Tryz.ntmps117
 go_wp2_with (first
  | (go_at_call 116; refine HT.out.mono ?_; rintro e w1 ⟨A, c, rfl, HX, HR1⟩; obtain ⟨a0, rfl, _, hc0⟩ := HX.out.at_ (k := 0) (by rw [HL.out]; exact hp); have hc0' : w1.cell? a0 = some (.int .u8 ((x0.toNat : Nat) : Int)) := (by have e1 : T[0]'(by rw [HL.out]; exact hp) = x0 := (by rw [List.getElem?_eq_getElem (by rw [HL.out]; exact hp)] at hx0; exact Option.some.inj hx0); rw [e1] at hc0; simpa [Addr.add] using hc0))
  | (go_at_call 118; refine (must_yes _).mono ?_; rintro e w' ⟨rfl, rfl⟩))
 go_loop [6, 26] (fun s i => ∃ k : Nat, k ≤ many ∧ i = .int .i64 k ∧ s = .int .u64 (Blob.val (T.take k) : Nat)) (fun _ i => many - (intOf i).toNat)
 case atStart => exact ⟨0, Nat.zero_le _, rfl, by rw [List.take_zero]; rfl⟩
 case round =>
  obtain ⟨k, hk, rfl, rfl⟩ := hrel
  by_cases hlt : k < many
  · obtain ⟨a, ea, _, hck⟩ := HX.out.at_ (k := k) (by rw [HL.out]; exact hlt)
    obtain rfl : a0 = a := by injection ea
    clear ea
    have hkl : k < T.length := by rw [HL.out]; exact hlt
    have HN : Hid (Blob.val (T.take (k + 1)) = Blob.val (T.take k) * 256 + T[k].toNat) := Lib.hid (by rw [take_next T k hkl, Blob.val_snoc])
    have hvl : Blob.val (T.take k) * 256 < 18446744073709551616 := by
     have h1 := Blob.val_lt (T.take k)
     have h2 : (T.take k).length ≤ 7 := by rw [List.length_take]; omega
     have h3 : 256 ^ (T.take k).length ≤ 256 ^ 7 := Nat.pow_le_pow_right (by omega) h2
     omega
    have HO := Lib.hid (or_byte (Blob.val (T.take k)) T[k] hvl)
    generalize Blob.val (T.take k) = v at *
    generalize T[k] = x at *
    clear hvl hkl
    go_wp2
    rw [HO.out]
    go_round
    case rel => exact ⟨k + 1, by omega, by go_num, by rw [HN.out]⟩
    case measure => simp [intOf]; omega
  · obtain rfl : k = many := by omega
    have HE : Hid (Blob.val (T.take k) = V) := Lib.hid (by rw [List.take_of_length_le (by rw [HL.out]; exact Nat.le_refl _)]; exact HV.out)
    rw [HE.out]
    go_wp2_with (go_at_call 118; refine (must_yes _).mono ?_; rintro e w' ⟨rfl, rfl⟩)
    go_ret
    exact ⟨by rw [HV.out]; rfl, HR1.out⟩
set_option maxRecDepth 100000 in
set_option maxHeartbeats 4000000 in
theorem size_big (w : World) (g : Nat) (b : Bool) (rest : Text) (many V : Nat) (hr : Rdr w g b rest) (h : many ≤ 8) (h2 : many ≤ rest.length) (hp : 0 < many) (hz : rest[0]? ≠ some 0) (hV : Blob.val (rest.take many) = V) (hVm : 9223372036854775807 < V) :
 Calls Tryz.prog 117 #[.pointer (some ⟨g, 0, none⟩), .int .i64 many] w (Pan w g) := by
 have hvm : 9223372036854775807 < (V : Int) := by omega
 have hvd : decide ((V : Int) ≤ 9223372036854775807) = false := decide_eq_false (by omega)
 obtain ⟨T, hT0⟩ : ∃ T, T = rest.take many := ⟨_, rfl⟩
 have hl : T.length = many := by rw [hT0, List.length_take]; omega
 have HT : Hid (Calls Tryz.prog 116 #[.pointer (some ⟨g, 0, none⟩), .int .i64 many] w fun e w' => ∃ A c, e = .returned (.slice A many c) ∧ Hid (Txt w' A T) ∧ Hid (Rdr w' g b (rest.drop many) ∧ Only w w' g)) := Lib.hid (by
  refine (take_yes w g b rest many hr h2).mono fun e w' ⟨A, c, h3, h4, h5, h6, h7⟩ => ?_
  rw [← hT0] at h3 h4
  rw [hl] at h3
  exact ⟨A, c, h3, Lib.hid h4, Lib.hid ⟨h6, h7⟩⟩)
 have HV : Hid (Blob.val T = V) := Lib.hid (by rw [hT0]; exact hV)
 have hnz : ∃ x, T[0]? = some x ∧ ((x.toNat : Int) != 0) = true := by
  rw [hT0]
  have : (rest.take many)[0]? = rest[0]? := by rw [List.getElem?_take_of_lt hp]
  rw [this]
  obtain ⟨x, hx⟩ : ∃ x, rest[0]? = some x := ⟨_, List.getElem?_eq_getElem (by omega)⟩
  refine ⟨x, hx, ?_⟩
  have hne : x ≠ 0 := fun h0 => hz (by rw [hx, h0])
  have : x.toNat ≠ 0 := fun h0 => hne (UInt8.toNat_inj.1 h0)
  simp; omega
 have hl8 : (many : Int) ≤ 8 := by omega
 clear hr h2 hz hV
 clear hT0
 obtain ⟨HL⟩ : Nonempty (Hid (T.length = many)) := ⟨Lib.hid hl⟩
 clear hl
 have hz0 : ((many : Int) == 0) = false := beq_false_of_ne (by omega)
 have hpi : (0 : Int) < (many : Int) := by omega
 obtain ⟨x0, hx0, hxn⟩ := hnz
 go_enter Tryz.func117, Tryz.ntmps117
 go_wp2_with (first
  | (go_at_call 116; refine HT.out.mono ?_; rintro e w1 ⟨A, c, rfl, HX, HR1⟩; obtain ⟨a0, rfl, _, hc0⟩ := HX.out.at_ (k := 0) (by rw [HL.out]; exact hp); have hc0' : w1.cell? a0 = some (.int .u8 ((x0.toNat : Nat) : Int)) := (by have e1 : T[0]'(by rw [HL.out]; exact hp) = x0 := (by rw [List.getElem?_eq_getElem (by rw [HL.out]; exact hp)] at hx0; exact Option.some.inj hx0); rw [e1] at hc0; simpa [Addr.add] using hc0))
  | (go_at_call 118; refine (must_yes _).mono ?_; rintro e w' ⟨rfl, rfl⟩))
 go_loop [6, 26] (fun s i => ∃ k : Nat, k ≤ many ∧ i = .int .i64 k ∧ s = .int .u64 (Blob.val (T.take k) : Nat)) (fun _ i => many - (intOf i).toNat)
 case atStart => exact ⟨0, Nat.zero_le _, rfl, by rw [List.take_zero]; rfl⟩
 case round =>
  obtain ⟨k, hk, rfl, rfl⟩ := hrel
  by_cases hlt : k < many
  · obtain ⟨a, ea, _, hck⟩ := HX.out.at_ (k := k) (by rw [HL.out]; exact hlt)
    obtain rfl : a0 = a := by injection ea
    clear ea
    have hkl : k < T.length := by rw [HL.out]; exact hlt
    have HN : Hid (Blob.val (T.take (k + 1)) = Blob.val (T.take k) * 256 + T[k].toNat) := Lib.hid (by rw [take_next T k hkl, Blob.val_snoc])
    have hvl : Blob.val (T.take k) * 256 < 18446744073709551616 := by
     have h1 := Blob.val_lt (T.take k)
     have h2 : (T.take k).length ≤ 7 := by rw [List.length_take]; omega
     have h3 : 256 ^ (T.take k).length ≤ 256 ^ 7 := Nat.pow_le_pow_right (by omega) h2
     omega
    have HO := Lib.hid (or_byte (Blob.val (T.take k)) T[k] hvl)
    generalize Blob.val (T.take k) = v at *
    generalize T[k] = x at *
    clear hvl hkl
    go_wp2
    rw [HO.out]
    go_round
    case rel => exact ⟨k + 1, by omega, by go_num, by rw [HN.out]⟩
    case measure => simp [intOf]; omega
  · obtain rfl : k = many := by omega
    have HE : Hid (Blob.val (T.take k) = V) := Lib.hid (by rw [List.take_of_length_le (by rw [HL.out]; exact Nat.le_refl _)]; exact HV.out)
    rw [HE.out]
    go_wp2_with (go_at_call 118; (with_reducible refine (must_no _).mono ?_); rintro e w' ⟨rfl, rfl⟩)
    exact ⟨rfl, rfl, HR1.out.2, _, _, HR1.out.1⟩
end Go.Proofs.YtplghpamckdklaaGreat

namespace Go.Proofs.YtplghpamckdklaaGreat
open Go.RowKit
set_option maxRecDepth 100000

open Classical in
/-- a size, and what is left; nothing, if it is refused -/
noncomputable def sizeP (rest : Text) (many : Nat) : Option (Nat × Text) := if okS rest many then some (Blob.val (rest.take many), rest.drop many) else none
/-- what a reading call leaves -/
def Res (w : World) (g : Nat) (b : Bool) (d : Option (Value × Text)) (e : Ending) (w' : World) : Prop := match d with
 | some (v, r) => e = .returned v ∧ Rdr w' g b r ∧ Only w w' g
 | none => Pan w g e w'
theorem size_any (w : World) (g : Nat) (b : Bool) (rest : Text) (many : Nat) (hr : Rdr w g b rest) :
 Calls Tryz.prog 117 #[.pointer (some ⟨g, 0, none⟩), .int .i64 many] w (Res w g b ((sizeP rest many).map fun p => (.int .i64 (p.1 : Nat), p.2))) := by
 unfold sizeP
 by_cases h : okS rest many
 · rw [if_pos h]
   obtain ⟨h1, h2, h3, h4⟩ := h
   rcases h3 with rfl | h3
   · exact size_zero w g b rest hr
   · rcases Nat.eq_zero_or_pos many with rfl | hp
     · exact size_zero w g b rest hr
     · exact size_pos w g b rest many _ hr h1 h2 hp h3 rfl h4
 · rw [if_neg h]
   show Calls _ _ _ _ (Pan w g)
   by_cases h1 : many ≤ 8
   · by_cases h2 : many ≤ rest.length
     · rcases Nat.eq_zero_or_pos many with rfl | hp
       · exact absurd ⟨h1, h2, .inl rfl, by simp [Blob.val]⟩ h
       · by_cases h3 : rest[0]? = some 0
         · exact size_nought w g b rest many hr h1 h2 hp h3
         · exact size_big w g b rest many _ hr h1 h2 hp h3 rfl (by
            rcases Nat.lt_or_ge 9223372036854775807 (Blob.val (rest.take many)) with hv | hv
            · exact hv
            · exact absurd ⟨h1, h2, .inr h3, hv⟩ h)
     · exact size_short w g b rest many hr h1 (by omega)
   · exact size_long w g b rest many hr (by omega)

/-- a number, and what is left -/
noncomputable def numP (rest : Text) : Option (Int × Text) := match rest with
 | [] => none
 | h :: r => match sizeP r (h.toNat % 128) with
   | none => none
   | some (n, r') => if h.toNat < 128 then some ((n : Int), r') else if 0 < n then some (-(n : Int), r') else none
theorem sizeP_le {rest r : Text} {many n : Nat} (h : sizeP rest many = some (n, r)) : n ≤ 9223372036854775807 := by
 unfold sizeP at h
 by_cases hk : okS rest many
 · rw [if_pos hk] at h
   injection h with h
   injection h with h1 h2
   rw [← h1]; exact hk.2.2.2
 · rw [if_neg hk] at h; cases h

/-- one byte taken -/
theorem take_one (w : World) (g : Nat) (b : Bool) (h : UInt8) (r : Text) (hr : Rdr w g b (h :: r)) :
 Calls Tryz.prog 116 #[.pointer (some ⟨g, 0, none⟩), .int .i64 1] w fun e w' => ∃ a c, e = .returned (.slice (some a) 1 c) ∧ w'.cell? a = some (.int .u8 ((h.toNat : Nat) : Int)) ∧ Hid (Rdr w' g b r ∧ Only w w' g) := by
 refine (take_yes w g b (h :: r) 1 hr (by simp)).mono fun e w' ⟨A, c, h3, h4, h5, h6, h7⟩ => ?_
 obtain ⟨a, rfl, _, hc⟩ := h4.at_ (k := 0) (by simp)
 exact ⟨a, c, h3, by simpa [Addr.add] using hc, Lib.hid ⟨h6, h7⟩⟩
theorem Pan.later {w w1 w' : World} {g : Nat} {e : Ending} (h : Pan w1 g e w') (ho : Only w w1 g) : Pan w g e w' := ⟨h.1, ho.trans h.2.1, h.2.2⟩

set_option maxRecDepth 100000 in
set_option maxHeartbeats 2000000 in
theorem code_num (w : World) (g : Nat) (b : Bool) (rest : Text) (hr : Rdr w g b rest) :
 Calls Tryz.prog 98 #[.pointer (some ⟨g, 0, none⟩)] w (Res w g b ((numP rest).map fun p => (.int .i64 p.1, p.2))) := by
 cases rest with
 | nil =>
   have HT := Lib.hid (take_no w g b [] 1 hr (by simp))
   have HR := Lib.hid hr
   clear hr
   go_enter Tryz.func98, Tryz.ntmps98
   go_wp2_with (go_at_call 116; refine HT.out.mono ?_; rintro e w' ⟨rfl, rfl⟩)
   exact ⟨rfl, rfl, Only.refl _ _, _, _, HR.out⟩
 | cons h r =>
   have HT := Lib.hid (take_one w g b h r hr)
   have HS : Hid (∀ W, Rdr W g b r → Calls Tryz.prog 117 #[.pointer (some ⟨g, 0, none⟩), .int .i64 (((h.toNat : Nat) : Int) % 128)] W (Res W g b ((sizeP r (h.toNat % 128)).map fun p => (.int .i64 (p.1 : Nat), p.2)))) := Lib.hid (fun W hW => by
    have := size_any W g b r (h.toNat % 128) hW
    rw [Int.natCast_emod] at this
    exact this)
   obtain ⟨D, hD⟩ : ∃ D, D = (numP (h :: r)).map fun p => (Value.int .i64 p.1, p.2) := ⟨_, rfl⟩
   rw [← hD]
   have h0 : (0 : Int) ≤ ((h.toNat : Nat) : Int) := by omega
   clear hr
   cases hs : sizeP r (h.toNat % 128) with
   | none =>
     have HD : Hid (D = none) := Lib.hid (by rw [hD]; unfold numP; simp only [hs]; rfl)
     rw [hs] at HS
     clear hs hD
     go_enter Tryz.func98, Tryz.ntmps98
     go_wp2_with (first
      | (go_at_call 116; refine HT.out.mono ?_; rintro e w1 ⟨a, c, rfl, hc, HR1⟩)
      | (go_at_call 117; refine (HS.out w1 HR1.out.1).mono ?_; rintro e w2 hp; obtain ⟨rfl, hp2⟩ := hp; have HP := Lib.hid hp2; clear hp2))
     exact ⟨rfl, by rw [HD.out]; exact Pan.later ⟨rfl, HP.out⟩ HR1.out.2⟩
   | some p =>
     obtain ⟨n, r'⟩ := p
     have hn := sizeP_le hs
     have HS2 : Hid (∀ W, Rdr W g b r → Calls Tryz.prog 117 #[.pointer (some ⟨g, 0, none⟩), .int .i64 (((h.toNat : Nat) : Int) % 128)] W fun e w' => e = .returned (.int .i64 n) ∧ Hid (Rdr w' g b r' ∧ Only W w' g)) := Lib.hid (fun W hW => by
      have := HS.out W hW
      rw [hs] at this
      exact this.mono fun e w' h => ⟨h.1, Lib.hid h.2⟩)
     have hni : (n : Int) ≤ 9223372036854775807 := by omega
     by_cases hb : h.toNat < 128
     · have HD : Hid (D = some (.int .i64 n, r')) := Lib.hid (by rw [hD]; unfold numP; simp only [hs, if_pos hb]; rfl)
       have hbi : ((h.toNat : Nat) : Int) < 128 := by omega
       clear hs hD HS hb
       go_enter Tryz.func98, Tryz.ntmps98
       go_wp2_with (first
       | (go_at_call 116; refine HT.out.mono ?_; rintro e w1 ⟨a, c, rfl, hc, HR1⟩)
         | (go_at_call 117; refine (HS2.out w1 HR1.out.1).mono ?_; rintro e w2 ⟨rfl, HR2⟩))
       go_ret
       rw [HD.out]
       exact ⟨rfl, HR2.out.1, HR1.out.2.trans HR2.out.2⟩
     · have hbi : (128 : Int) ≤ ((h.toNat : Nat) : Int) := by omega
       by_cases hp : 0 < n
       · have HD : Hid (D = some (.int .i64 (-(n : Int)), r')) := Lib.hid (by rw [hD]; unfold numP; simp only [hs, if_neg hb, if_pos hp]; rfl)
         have hpi : (0 : Int) < (n : Int) := by omega
         clear hs hD HS hb
         go_enter Tryz.func98, Tryz.ntmps98
         go_wp2_with (first
       | (go_at_call 116; refine HT.out.mono ?_; rintro e w1 ⟨a, c, rfl, hc, HR1⟩)
          | (go_at_call 117; refine (HS2.out w1 HR1.out.1).mono ?_; rintro e w2 ⟨rfl, HR2⟩)
          | (go_at_call 118; (with_reducible refine (must_yes _).mono ?_); rintro e w' ⟨rfl, rfl⟩))
         go_ret
         rw [HD.out]
         exact ⟨rfl, HR2.out.1, HR1.out.2.trans HR2.out.2⟩
       · have HD : Hid (D = none) := Lib.hid (by rw [hD]; unfold numP; simp only [hs, if_neg hb, if_neg hp]; rfl)
         obtain rfl : n = 0 := by omega
         clear hs hD HS hb hp
         go_enter Tryz.func98, Tryz.ntmps98
         go_wp2_with (first
       | (go_at_call 116; refine HT.out.mono ?_; rintro e w1 ⟨a, c, rfl, hc, HR1⟩)
          | (go_at_call 117; refine (HS2.out w1 HR1.out.1).mono ?_; rintro e w2 ⟨rfl, HR2⟩)
          | (go_at_call 118; (with_reducible refine (must_no _).mono ?_); rintro e w' ⟨rfl, rfl⟩))
         exact ⟨rfl, by rw [HD.out]; exact ⟨rfl, HR1.out.2.trans HR2.out.2, _, _, HR2.out.1⟩⟩
end Go.Proofs.YtplghpamckdklaaGreat

namespace Go.Proofs.YtplghpamckdklaaGreat
open Go.RowKit
set_option maxRecDepth 100000

/-- a text, and what is left -/
noncomputable def textP (rest : Text) : Option (ByteArray × Text) := match numP rest with
 | none => none
 | some (n, r) => if 0 ≤ n ∧ n ≤ 65536 ∧ n.toNat ≤ r.length then some (⟨(r.take n.toNat).toArray⟩, r.drop n.toNat) else none
def flagP (rest : Text) : Option (Bool × Text) := match rest with
 | [] => none
 | h :: r => if h.toNat ≤ 1 then some (decide (h.toNat = 1), r) else none

set_option maxRecDepth 100000 in
set_option maxHeartbeats 2000000 in
theorem code_textR (w : World) (g : Nat) (b : Bool) (rest : Text) (hr : Rdr w g b rest) :
 Calls Tryz.prog 100 #[.pointer (some ⟨g, 0, none⟩)] w (Res w g b ((textP rest).map fun p => (.string p.1, p.2))) := by
 have HN := Lib.hid (code_num w g b rest hr)
 obtain ⟨D, hD⟩ : ∃ D, D = (textP rest).map fun p => (Value.string p.1, p.2) := ⟨_, rfl⟩
 rw [← hD]
 clear hr
 cases hs : numP rest with
 | none =>
   have HD : Hid (D = none) := Lib.hid (by rw [hD]; unfold textP; rw [hs]; rfl)
   rw [hs] at HN
   clear hs hD
   go_enter Tryz.func100, Tryz.ntmps100
   go_wp2_with (go_at_call 98; refine HN.out.mono ?_; rintro e w2 hp; obtain ⟨rfl, hp2⟩ := hp; have HP := Lib.hid hp2; clear hp2)
   exact ⟨rfl, by rw [HD.out]; exact ⟨rfl, HP.out⟩⟩
 | some p =>
   obtain ⟨n, r⟩ := p
   have HN2 : Hid (Calls Tryz.prog 98 #[.pointer (some ⟨g, 0, none⟩)] w fun e w' => e = .returned (.int .i64 n) ∧ Hid (Rdr w' g b r ∧ Only w w' g)) := Lib.hid (by
    have := HN.out
    rw [hs] at this
    exact this.mono fun e w' h => ⟨h.1, Lib.hid h.2⟩)
   clear HN
   by_cases h1 : 0 ≤ n ∧ n ≤ 65536
   · obtain ⟨h1, h2⟩ := h1
     obtain ⟨m, rfl⟩ : ∃ m : Nat, n = (m : Int) := ⟨n.toNat, by omega⟩
     by_cases h3 : m ≤ r.length
     · have HD : Hid (D = some (.string ⟨(r.take m).toArray⟩, r.drop m)) := Lib.hid (by rw [hD]; unfold textP; rw [hs]; simp only; rw [if_pos ⟨h1, h2, by simpa using h3⟩]; simp)
       have HT : Hid (∀ W, Rdr W g b r → Calls Tryz.prog 116 #[.pointer (some ⟨g, 0, none⟩), .int .i64 m] W fun e w' => ∃ A c, e = .returned (.slice A m c) ∧ (convert 36 9 (.slice A m c)).run Tryz.prog w' = .ok (.string ⟨(r.take m).toArray⟩) w' ∧ Hid (Rdr w' g b (r.drop m) ∧ Only W w' g)) := Lib.hid (fun W hW => by
        refine (take_yes W g b r m hW h3).mono fun e w' ⟨A, c, k3, k4, k5, k6, k7⟩ => ?_
        have hl : (r.take m).length = m := by rw [List.length_take]; omega
        have hx := text_run w' A c (r.take m) k4 k5
        rw [hl] at k3 hx
        exact ⟨A, c, k3, hx, Lib.hid ⟨k6, k7⟩⟩)
       clear hs hD h3
       go_enter Tryz.func100, Tryz.ntmps100
       go_wp2_with (first
        | (go_at_call 98; refine HN2.out.mono ?_; rintro e w2 ⟨rfl, HR2⟩)
        | (go_at_call 118; (with_reducible refine (must_yes _).mono ?_); rintro e w' ⟨rfl, rfl⟩)
        | (go_at_call 116; refine (HT.out w2 HR2.out.1).mono ?_; rintro e w3 ⟨A, c, rfl, hx, HR3⟩))
       go_ret
       rw [HD.out]
       exact ⟨rfl, HR3.out.1, HR2.out.2.trans HR3.out.2⟩
     · have HD : Hid (D = none) := Lib.hid (by rw [hD]; unfold textP; rw [hs]; simp only; rw [if_neg (fun h => h3 (by simpa using h.2.2))]; rfl)
       have HT : Hid (∀ W, Rdr W g b r → Calls Tryz.prog 116 #[.pointer (some ⟨g, 0, none⟩), .int .i64 m] W fun e w' => e = .panicked raise ∧ W = w') := Lib.hid (fun W hW => take_no W g b r m hW (by omega))
       clear hs hD h3
       go_enter Tryz.func100, Tryz.ntmps100
       go_wp2_with (first
        | (go_at_call 98; refine HN2.out.mono ?_; rintro e w2 ⟨rfl, HR2⟩)
        | (go_at_call 118; (with_reducible refine (must_yes _).mono ?_); rintro e w' ⟨rfl, rfl⟩)
        | (go_at_call 116; refine (HT.out w2 HR2.out.1).mono ?_; rintro e w' ⟨rfl, rfl⟩))
       exact ⟨rfl, by rw [HD.out]; exact ⟨rfl, HR2.out.2, _, _, HR2.out.1⟩⟩
   · have HD : Hid (D = none) := Lib.hid (by rw [hD]; unfold textP; rw [hs]; simp only; rw [if_neg (fun h => h1 ⟨h.1, h.2.1⟩)]; rfl)
     clear hs hD
     by_cases h2 : n < 0
     · clear h1
       go_enter Tryz.func100, Tryz.ntmps100
       go_wp2_with (first
        | (go_at_call 98; refine HN2.out.mono ?_; rintro e w2 ⟨rfl, HR2⟩)
        | (go_at_call 118; (with_reducible refine (must_no _).mono ?_); rintro e w' ⟨rfl, rfl⟩))
       exact ⟨rfl, by rw [HD.out]; exact ⟨rfl, HR2.out.2, _, _, HR2.out.1⟩⟩
     · have h3 : 65536 < n := by omega
       have h4 : 0 ≤ n := by omega
       clear h1 h2
       go_enter Tryz.func100, Tryz.ntmps100
       go_wp2_with (first
        | (go_at_call 98; refine HN2.out.mono ?_; rintro e w2 ⟨rfl, HR2⟩)
        | (go_at_call 118; refine (must_n (decide_eq_false (by omega)) _).mono ?_; rintro e w' ⟨rfl, rfl⟩))
       exact ⟨rfl, by rw [HD.out]; exact ⟨rfl, HR2.out.2, _, _, HR2.out.1⟩⟩

set_option maxRecDepth 100000 in
set_option maxHeartbeats 2000000 in
theorem code_flagR (w : World) (g : Nat) (b : Bool) (rest : Text) (hr : Rdr w g b rest) :
 Calls Tryz.prog 121 #[.pointer (some ⟨g, 0, none⟩)] w (Res w g b ((flagP rest).map fun p => (.bool p.1, p.2))) := by
 cases rest with
 | nil =>
   have HT := Lib.hid (take_no w g b [] 1 hr (by simp))
   have HR := Lib.hid hr
   clear hr
   go_enter Tryz.func121, Tryz.ntmps121
   go_wp2_with (go_at_call 116; refine HT.out.mono ?_; rintro e w' ⟨rfl, rfl⟩)
   exact ⟨rfl, rfl, Only.refl _ _, _, _, HR.out⟩
 | cons h r =>
   have HT := Lib.hid (take_one w g b h r hr)
   obtain ⟨D, hD⟩ : ∃ D, D = (flagP (h :: r)).map fun p => (Value.bool p.1, p.2) := ⟨_, rfl⟩
   rw [← hD]
   clear hr
   by_cases h1 : h.toNat ≤ 1
   · have HD : Hid (D = some (.bool (decide (h.toNat = 1)), r)) := Lib.hid (by rw [hD]; unfold flagP; simp only; rw [if_pos h1]; rfl)
     have hi : ((h.toNat : Nat) : Int) ≤ 1 := by omega
     have HB : Hid ((((h.toNat : Nat) : Int) == 1) = decide (h.toNat = 1)) := Lib.hid (by rw [Bool.eq_iff_iff]; simp; omega)
     clear hD h1
     go_enter Tryz.func121, Tryz.ntmps121
     go_wp2_with (first
      | (go_at_call 116; refine HT.out.mono ?_; rintro e w1 ⟨a, c, rfl, hc, HR1⟩)
      | (go_at_call 118; (with_reducible refine (must_yes _).mono ?_); rintro e w' ⟨rfl, rfl⟩))
     go_ret
     rw [HD.out]
     exact ⟨ret_bool HB.out, HR1.out.1, HR1.out.2⟩
   · have HD : Hid (D = none) := Lib.hid (by rw [hD]; unfold flagP; simp only; rw [if_neg h1]; rfl)
     have hi : 1 < ((h.toNat : Nat) : Int) := by omega
     clear hD h1
     go_enter Tryz.func121, Tryz.ntmps121
     go_wp2_with (first
      | (go_at_call 116; refine HT.out.mono ?_; rintro e w1 ⟨a, c, rfl, hc, HR1⟩)
      | (go_at_call 118; refine (must_n (decide_eq_false (by omega)) _).mono ?_; rintro e w' ⟨rfl, rfl⟩))
     exact ⟨rfl, by rw [HD.out]; exact ⟨rfl, HR1.out.2, _, _, HR1.out.1⟩⟩
end Go.Proofs.YtplghpamckdklaaGreat
