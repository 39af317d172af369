/- A reader: what must be, what is taken. A number's size read. Documents: are they the same? A number, a text, a flag read, or refused. -/
import Derived.Test.YtmjjenemokojjaaGreatD6
import Derived.Defers
import Derived.Recover
import Derived.WalkLawsBesides
import Derived.Laws.BitsAllLaws
namespace Go.Proofs.YtmjjenemokojjaaGreat
open Go.RowKit
set_option maxRecDepth 100000

theorem must_yes (w : World) : Calls Tryz.prog 118 #[.bool true] w fun e w' => e = .returned (.tuple #[]) ∧ w = w' := by
 go_enter Tryz.func118, Tryz.ntmps118
 go_wp2
 go_end0
 exact ⟨rfl, rfl⟩
/-- what is raised -/
def raise : List PanicEntry := [{ v := .iface 37 (.int .i64 10), recovered := false }]
theorem must_no (w : World) : Calls Tryz.prog 118 #[.bool false] w fun e w' => e = .panicked raise ∧ w = w' := by
 go_enter Tryz.func118, Tryz.ntmps118
 go_wp2
 exact ⟨rfl, rfl, rfl⟩
theorem must_y {x : Bool} (h : x = true) (w : World) : Calls Tryz.prog 118 #[.bool x] w fun e w' => e = .returned (.tuple #[]) ∧ w = w' := by
 subst h; exact must_yes w
theorem must_n {x : Bool} (h : x = false) (w : World) : Calls Tryz.prog 118 #[.bool x] w fun e w' => e = .panicked raise ∧ w = w' := by
 subst h; exact must_no w

/-- a reader in block g: is it bad, and what it has left -/
def Rdr (w : World) (g : Nat) (b : Bool) (rest : Text) : Prop :=
 ∃ A c, w.heap[g]? = some (.cells #[.bool true, .bool b, .slice A rest.length c] 94 (0, 0)) ∧ rest.length ≤ c ∧ c ≤ maxLen ∧ Txt w A rest ∧ (A = none → rest = []) ∧ ∀ a, A = some a → a.block < g
/-- nothing but block g was turned -/
structure Only (w w' : World) (g : Nat) : Prop where
 os : w'.os = w.os
 tape : w'.tape = w.tape
 output : w'.output = w.output
 size : w.heap.size ≤ w'.heap.size
 block : ∀ k, k < w.heap.size → k ≠ g → w'.heap[k]? = w.heap[k]?
theorem Only.refl (w : World) (g : Nat) : Only w w g := ⟨rfl, rfl, rfl, Nat.le_refl _, fun _ _ _ => rfl⟩
theorem Only.trans {a b c : World} {g : Nat} (h : Only a b g) (k : Only b c g) : Only a c g :=
 ⟨k.os.trans h.os, k.tape.trans h.tape, k.output.trans h.output, Nat.le_trans h.size k.size, fun i hi h1 => (k.block i (Nat.lt_of_lt_of_le hi h.size) h1).trans (h.block i hi h1)⟩
theorem Only.of_below {w w' : World} {g : Nat} (hb : Below w.heap.size w w') : Only w w' g := ⟨hb.os, hb.tape, hb.output, hb.size, fun k hk _ => hb.block k hk⟩
theorem Only.below {w w' : World} {B g : Nat} (h : Only w w' g) (hB : B ≤ g) (hw : B ≤ w.heap.size) : Below B w w' := ⟨h.os, h.tape, h.output, h.size, fun k hk => h.block k (by omega) (by omega)⟩
theorem Only.set (w : World) (g i : Nat) (u : Value) : Only w (w.setCell ⟨g, i, none⟩ u) g := ⟨rfl, rfl, rfl, by simp, fun k _ hk => heap_setCell_other w ⟨g, i, none⟩ k u hk⟩
theorem Txt.only {w w' : World} {g : Nat} {A : Option Addr} {l : Text} (h : Txt w A l) (ho : Only w w' g) (hA : ∀ a, A = some a → a.block ≠ g) : Txt w' A l := fun hn => by
 obtain ⟨a, e, hb, hc⟩ := h hn
 refine ⟨a, e, Nat.lt_of_lt_of_le hb ho.size, fun i hi => ?_⟩
 have : (a.add i).block = a.block := add_block a i
 rw [World.cell?_of_block (w := w) (by rw [this]; exact ho.block _ hb (hA a e))]
 exact hc i hi

/-- so many bytes, taken -/
def Taken (w : World) (g : Nat) (b : Bool) (rest : Text) (many : Nat) (e : Ending) (w' : World) : Prop :=
 ∃ A c, e = .returned (.slice A (rest.take many).length c) ∧ Txt w' A (rest.take many) ∧ (A = none → rest.take many = []) ∧ Rdr w' g b (rest.drop many) ∧ Only w w' g
theorem taken_of {w : World} {g : Nat} {b : Bool} {rest : Text} {many c : Nat} {a a' : Addr} (hh : w.heap[g]? = some (.cells #[.bool true, .bool b, .slice (some a) rest.length c] 94 (0, 0))) (hc : rest.length ≤ c) (hm : c ≤ maxLen) (hT : Txt w (some a) rest) (hg : a.block < g) (hk : many ≤ rest.length)
 (ha : a' = if c = many then a else a.add many) : Taken w g b rest many (.returned (.slice (some a) many c)) (w.setCell ⟨g, 2, none⟩ (.slice (some a') (rest.length - many) (c - many))) := by
 have ho := Only.set w g 2 (.slice (some a') (rest.length - many) (c - many))
 have hl : (rest.take many).length = many := by rw [List.length_take]; omega
 have hd : (rest.drop many).length = rest.length - many := List.length_drop
 refine ⟨some a, c, by rw [hl], (hT.take many).only ho (fun x hx => by injection hx with hx; rw [← hx]; exact Nat.ne_of_lt hg), by simp, ⟨some a', c - many, ?_, by rw [hd]; omega, Nat.le_trans (Nat.sub_le _ _) hm, ?_, by simp, fun x hx => ?_⟩, ho⟩
 · rw [heap_setCell_same w g 2 _ _ _ hh, hd]; rfl
 · by_cases h : c = many
   · have : rest.drop many = [] := List.drop_eq_nil_of_le (by omega)
     rw [this]; exact Txt.none_
   · have hx := (hT.drop many).only ho (fun x hx => by injection hx with hx; rw [← hx, add_block]; exact Nat.ne_of_lt hg)
     rw [if_neg h] at ha
     rw [← ha] at hx
     exact hx
 · injection hx with hx
   rw [← hx, ha]
   by_cases h : c = many
   · rw [if_pos h]; exact hg
   · rw [if_neg h, add_block]; exact hg

set_option maxHeartbeats 1000000 in
theorem take_no (w : World) (g : Nat) (b : Bool) (rest : Text) (many : Nat) (hr : Rdr w g b rest) (h : rest.length < many) :
 Calls Tryz.prog 116 #[.pointer (some ⟨g, 0, none⟩), .int .i64 many] w fun e w' => e = .panicked raise ∧ w = w' := by
 obtain ⟨A, c, hh, hc, _, _, _, _⟩ := hr
 have h2 := cell_of_row w g 2 _ _ _ hh
 simp only [List.getElem?_toArray, List.getElem?_cons_zero, List.getElem?_cons_succ] at h2
 clear hh
 go_enter Tryz.func116, Tryz.ntmps116
 go_wp2_with (go_at_call 118; refine (must_n (decide_eq_false (by omega)) _).mono ?_; rintro e w' ⟨rfl, rfl⟩)
 exact ⟨rfl, rfl, rfl⟩
set_option maxHeartbeats 2000000 in
theorem take_yes (w : World) (g : Nat) (b : Bool) (rest : Text) (many : Nat) (hr : Rdr w g b rest) (h : many ≤ rest.length) :
 Calls Tryz.prog 116 #[.pointer (some ⟨g, 0, none⟩), .int .i64 many] w (Taken w g b rest many) := by
 obtain ⟨A, c, hh, hc, hm, hT, hA, hg⟩ := hr
 have h2 := cell_of_row w g 2 _ _ _ hh
 have f2 := frozen_of_row w g 2 _ _ hh
 simp only [List.getElem?_toArray, List.getElem?_cons_zero, List.getElem?_cons_succ] at h2
 unfold maxLen at hm
 have hmc : (many : Int) ≤ (c : Int) := by omega
 have hml : (many : Int) ≤ (rest.length : Int) := by omega
 have hc2 : (c : Int) ≤ 9223372036854775807 := by omega
 cases A with
 | none =>
   have := hA rfl
   subst this
   obtain rfl : many = 0 := by simpa using h
   have HQ : Hid (∀ w', w' = w.setCell ⟨g, 2, none⟩ (.slice none 0 c) → Taken w g b [] 0 (.returned (.slice none 0 c)) w') := Lib.hid (fun w' hw' => by
    subst hw'
    exact ⟨none, c, rfl, Txt.none_, fun _ => rfl, ⟨none, c, by rw [heap_setCell_same w g 2 _ _ _ hh]; rfl, Nat.zero_le _, by unfold maxLen; omega, Txt.none_, fun _ => rfl, by simp⟩, Only.set w g 2 _⟩)
   clear hh hT hA hg
   go_enter Tryz.func116, Tryz.ntmps116
   go_wp2_with (go_at_call 118; refine (must_yes _).mono ?_; rintro e w' ⟨rfl, rfl⟩)
   go_ret
   exact HQ.out _ rfl
 | some a =>
   by_cases hcm : c = many
   · subst hcm
     have HQ0 := taken_of hh hc (by unfold maxLen; omega) hT (hg a rfl) h (a' := a) (by rw [if_pos rfl])
     have e0 : rest.length - c = 0 := by omega
     rw [Nat.sub_self, e0] at HQ0
     have HQ := Lib.hid HQ0
     clear hh hT hA hg HQ0
     go_enter Tryz.func116, Tryz.ntmps116
     go_wp2_with (go_at_call 118; refine (must_yes _).mono ?_; rintro e w' ⟨rfl, rfl⟩)
     go_ret
     exact HQ.out
   · have HQ : Hid (Taken w g b rest many (.returned (.slice (some a) many c)) (w.setCell ⟨g, 2, none⟩ (.slice (some (a.add many)) (rest.length - many) (c - many)))) := Lib.hid (taken_of hh hc (by unfold maxLen; omega) hT (hg a rfl) h (by rw [if_neg hcm]))
     clear hh hT hA hg
     go_enter Tryz.func116, Tryz.ntmps116
     go_wp2_with (go_at_call 118; refine (must_yes _).mono ?_; rintro e w' ⟨rfl, rfl⟩)
     go_ret
     exact HQ.out
end Go.Proofs.YtmjjenemokojjaaGreat

namespace Go.Proofs.YtmjjenemokojjaaGreat
open Go.RowKit
set_option maxRecDepth 100000

/-- what was raised, behind whatever was taken -/
def Pan (w : World) (g : Nat) (e : Ending) (w' : World) : Prop := e = .panicked raise ∧ Only w w' g ∧ ∃ b rest, Rdr w' g b rest
/-- a size, read -/
def Sized (w : World) (g : Nat) (b : Bool) (rest : Text) (many : Nat) (e : Ending) (w' : World) : Prop :=
 e = .returned (.int .i64 (Blob.val (rest.take many) : Nat)) ∧ Rdr w' g b (rest.drop many) ∧ Only w w' g
def okS (rest : Text) (many : Nat) : Prop := many ≤ 8 ∧ many ≤ rest.length ∧ (many = 0 ∨ rest[0]? ≠ some 0) ∧ Blob.val (rest.take many) ≤ 9223372036854775807

theorem take_next {α : Type} (l : List α) (k : Nat) (h : k < l.length) : l.take (k + 1) = l.take k ++ [l[k]] := by
 rw [List.take_succ_eq_append_getElem h]
theorem or_byte (v : Nat) (x : UInt8) (h : v * 256 < 18446744073709551616) : bits .or .u64 (IntKind.u64.wrap ((v : Int) * (256 : Int))) (IntKind.u64.wrap ((x.toNat : Nat) : Int)) = ((v * 256 + x.toNat : Nat) : Int) := by
 have hx := x.toNat_lt
 have e1 : IntKind.u64.wrap ((v : Int) * (256 : Int)) = ((v * 256 : Nat) : Int) := by rw [IntKind.wrap_u64]; omega
 have e2 : IntKind.u64.wrap ((x.toNat : Nat) : Int) = ((x.toNat : Nat) : Int) := by rw [IntKind.wrap_u64]; omega
 rw [e1, e2, u64_or_nat _ _ h (by omega)]
 have : 2 ^ 8 * v + x.toNat = 2 ^ 8 * v ||| x.toNat := Nat.two_pow_add_eq_or_of_lt (i := 8) hx v
 rw [Nat.mul_comm v 256]
 congr 1
 exact this.symm

set_option maxHeartbeats 1000000 in
theorem size_long (w : World) (g : Nat) (b : Bool) (rest : Text) (many : Nat) (hr : Rdr w g b rest) (h : 8 < many) :
 Calls Tryz.prog 117 #[.pointer (some ⟨g, 0, none⟩), .int .i64 many] w (Pan w g) := by
 have HR := Lib.hid hr
 clear hr
 go_enter Tryz.func117, Tryz.ntmps117
 go_wp2_with (go_at_call 118; refine (must_n (decide_eq_false (by omega)) _).mono ?_; rintro e w' ⟨rfl, rfl⟩)
 exact ⟨rfl, rfl, Only.refl _ _, _, _, HR.out⟩
set_option maxHeartbeats 1000000 in
theorem size_short (w : World) (g : Nat) (b : Bool) (rest : Text) (many : Nat) (hr : Rdr w g b rest) (h : many ≤ 8) (h2 : rest.length < many) :
 Calls Tryz.prog 117 #[.pointer (some ⟨g, 0, none⟩), .int .i64 many] w (Pan w g) := by
 have HR := Lib.hid hr
 have HT := Lib.hid (take_no w g b rest many hr h2)
 have h8 : (many : Int) ≤ 8 := by omega
 clear hr h2
 go_enter Tryz.func117, Tryz.ntmps117
 go_wp2_with (first
  | (go_at_call 118; refine (must_yes _).mono ?_; rintro e w' ⟨rfl, rfl⟩)
  | (go_at_call 116; refine HT.out.mono ?_; rintro e w' ⟨rfl, rfl⟩))
 exact ⟨rfl, rfl, Only.refl _ _, _, _, HR.out⟩
set_option maxHeartbeats 1000000 in
theorem size_nought (w : World) (g : Nat) (b : Bool) (rest : Text) (many : Nat) (hr : Rdr w g b rest) (h : many ≤ 8) (h2 : many ≤ rest.length) (h0 : 0 < many) (hz : rest[0]? = some 0) :
 Calls Tryz.prog 117 #[.pointer (some ⟨g, 0, none⟩), .int .i64 many] w (Pan w g) := by
 have hl : (rest.take many).length = many := by rw [List.length_take]; omega
 have HT : Hid (Calls Tryz.prog 116 #[.pointer (some ⟨g, 0, none⟩), .int .i64 many] w fun e w' => ∃ a c, e = .returned (.slice (some a) many c) ∧ w'.cell? a = some (.int .u8 0) ∧ Pan w g (.panicked raise) w') := Lib.hid (by
  refine (take_yes w g b rest many hr h2).mono fun e w' ⟨A, c, h3, h4, h5, h6, h7⟩ => ?_
  obtain ⟨a, rfl, _, hc⟩ := h4.at_ (k := 0) (by omega)
  rw [hl] at h3
  refine ⟨a, c, h3, ?_, rfl, h7, b, _, h6⟩
  have e1 : (rest.take many)[0]'(by omega) = 0 := by
   rw [List.getElem_take]
   rw [List.getElem?_eq_getElem (by omega)] at hz
   exact Option.some.inj hz
  rw [e1] at hc
  simpa [Addr.add] using hc)
 have h8 : (many : Int) ≤ 8 := by omega
 have hne : ((many : Int) == 0) = false := beq_false_of_ne (by omega)
 have hp : (0 : Int) < (many : Int) := by omega
 clear hr h2 hz hl
 go_enter Tryz.func117, Tryz.ntmps117
 go_wp2_with (first
  | (go_at_call 116; refine HT.out.mono ?_; rintro e w1 ⟨a, c, rfl, hc1, hp1⟩; have HP1 := Lib.hid hp1; clear hp1)
  | (go_at_call 118; refine (must_yes _).mono ?_; rintro e w' ⟨rfl, rfl⟩)
  | (go_at_call 118; refine (must_no _).mono ?_; rintro e w' ⟨rfl, rfl⟩))
 exact ⟨rfl, HP1.out⟩
set_option maxHeartbeats 1000000 in
theorem size_zero (w : World) (g : Nat) (b : Bool) (rest : Text) (hr : Rdr w g b rest) :
 Calls Tryz.prog 117 #[.pointer (some ⟨g, 0, none⟩), .int .i64 0] w (Sized w g b rest 0) := by
 have HT : Hid (Calls Tryz.prog 116 #[.pointer (some ⟨g, 0, none⟩), .int .i64 0] w fun e w' => ∃ A c, e = .returned (.slice A 0 c) ∧ Hid (Rdr w' g b rest ∧ Only w w' g)) := Lib.hid (by
  refine (take_yes w g b rest 0 hr (Nat.zero_le _)).mono fun e w' ⟨A, c, h3, h4, h5, h6, h7⟩ => ?_
  exact ⟨A, c, h3, Lib.hid ⟨h6, h7⟩⟩)
 clear hr
 go_enter Tryz.func117, Tryz.ntmps117
 go_wp2_with (first
  | (go_at_call 116; refine HT.out.mono ?_; rintro e w1 ⟨A, c, rfl, HR1⟩)
  | (go_at_call 118; refine (must_yes _).mono ?_; rintro e w' ⟨rfl, rfl⟩))
 go_loop [6, 26] (fun s i => s = .int .u64 0 ∧ i = .int .i64 0) (fun _ i => (0 - intOf i).toNat)
 case atStart => exact ⟨rfl, rfl⟩
 case round =>
  obtain ⟨rfl, rfl⟩ := hrel
  go_wp2_with (go_at_call 118; refine (must_yes _).mono ?_; rintro e w' ⟨rfl, rfl⟩)
  go_ret
  exact ⟨rfl, HR1.out⟩
set_option maxRecDepth 100000 in
set_option maxHeartbeats 4000000 in
theorem size_pos (w : World) (g : Nat) (b : Bool) (rest : Text) (many V : Nat) (hr : Rdr w g b rest) (h : many ≤ 8) (h2 : many ≤ rest.length) (hp : 0 < many) (hz : rest[0]? ≠ some 0) (hV : Blob.val (rest.take many) = V) (hVm : V ≤ 9223372036854775807) :
 Calls Tryz.prog 117 #[.pointer (some ⟨g, 0, none⟩), .int .i64 many] w (Sized w g b rest many) := by
 unfold Sized
 have hvm : (V : Int) ≤ 9223372036854775807 := by omega
 obtain ⟨T, hT0⟩ : ∃ T, T = rest.take many := ⟨_, rfl⟩
 have hl : T.length = many := by rw [hT0, List.length_take]; omega
 have HT : Hid (Calls Tryz.prog 116 #[.pointer (some ⟨g, 0, none⟩), .int .i64 many] w fun e w' => ∃ A c, e = .returned (.slice A many c) ∧ Hid (Txt w' A T) ∧ Hid (Rdr w' g b (rest.drop many) ∧ Only w w' g)) := Lib.hid (by
  refine (take_yes w g b rest many hr h2).mono fun e w' ⟨A, c, h3, h4, h5, h6, h7⟩ => ?_
  rw [← hT0] at h3 h4
  rw [hl] at h3
  exact ⟨A, c, h3, Lib.hid h4, Lib.hid ⟨h6, h7⟩⟩)
 have HV : Hid (Blob.val T = V) := Lib.hid (by rw [hT0]; exact hV)
 have hnz : ∃ x, T[0]? = some x ∧ ((x.toNat : Int) != 0) = true := by
  rw [hT0]
  have : (rest.take many)[0]? = rest[0]? := by rw [List.getElem?_take_of_lt hp]
  rw [this]
  obtain ⟨x, hx⟩ : ∃ x, rest[0]? = some x := ⟨_, List.getElem?_eq_getElem (by omega)⟩
  refine ⟨x, hx, ?_⟩
  have hne : x ≠ 0 := fun h0 => hz (by rw [hx, h0])
  have : x.toNat ≠ 0 := fun h0 => hne (UInt8.toNat_inj.1 h0)
  simp; omega
 have hl8 : (many : Int) ≤ 8 := by omega
 clear hr h2 hz hV
 rw [show rest.take many = T from hT0.symm]
 clear hT0
 obtain ⟨HL⟩ : Nonempty (Hid (T.length = many)) := ⟨Lib.hid hl⟩
 clear hl
 have hz0 : ((many : Int) == 0) = false := beq_false_of_ne (by omega)
 have hpi : (0 : Int) < (many : Int) := by omega
 obtain ⟨x0, hx0, hxn⟩ := hnz
 go_enter Tryz.func117, Tryz.ntmps117
 go_wp2_with (first
  | (go_at_call 116; refine HT.out.mono ?_; rintro e w1 ⟨A, c, rfl, HX, HR1⟩; obtain ⟨a0, rfl, _, hc0⟩ := HX.out.at_ (k := 0) (by rw [HL.out]; exact hp); have hc0' : w1.cell? a0 = some (.int .u8 ((x0.toNat : Nat) : Int)) := (by have e1 : T[0]'(by rw [HL.out]; exact hp) = x0 := (by rw [List.getElem?_eq_getElem (by rw [HL.out]; exact hp)] at hx0; exact Option.some.inj hx0); rw [e1] at hc0; simpa [Addr.add] using hc0))
  | (go_at_call 118; refine (must_yes _).mono ?_; rintro e w' ⟨rfl, rfl⟩))
 go_loop [6, 26] (fun s i => ∃ k : Nat, k ≤ many ∧ i = .int .i64 k ∧ s = .int .u64 (Blob.val (T.take k) : Nat)) (fun _ i => many - (intOf i).toNat)
 case atStart => exact ⟨0, Nat.zero_le _, rfl, by rw [List.take_zero]; rfl⟩
 case round =>
  obtain ⟨k, hk, rfl, rfl⟩ := hrel
  by_cases hlt : k < many
  · obtain ⟨a, ea, _, hck⟩ := HX.out.at_ (k := k) (by rw [HL.out]; exact hlt)
    obtain rfl : a0 = a := by injection ea
    clear ea
    have hkl : k < T.length := by rw [HL.out]; exact hlt
    have HN : Hid (Blob.val (T.take (k + 1)) = Blob.val (T.take k) * 256 + T[k].toNat) := Lib.hid (by rw [take_next T k hkl, Blob.val_snoc])
    have hvl : Blob.val (T.take k) * 256 < 18446744073709551616 := by
     have h1 := Blob.val_lt (T.take k)
     have h2 : (T.take k).length ≤ 7 := by rw [List.length_take]; omega
     have h3 : 256 ^ (T.take k).length ≤ 256 ^ 7 := Nat.pow_le_pow_right (by omega) h2
     omega
    have HO := Lib.hid (or_byte (Blob.val (T.take k)) T[k] hvl)
    generalize Blob.val (T.take k) = v at *
    generalize T[k] = x at *
    clear hvl hkl
    go_wp2
    rw [HO.out]
    go_round
    case rel => exact ⟨k + 1, by omega, by go_num, by rw [HN.out]⟩
    case measure => simp [intOf]; omega
  · obtain rfl : k = many := by omega
    have HE : Hid (Blob.val (T.take k) = V) := Lib.hid (by rw [List.take_of_length_le (by rw [HL.out]; exact Nat.le_refl _)]; exact HV.out)
    rw [HE.out]
    go_wp2_with (go_at_call 118; refine (must_yes _).mono ?_; rintro e w' ⟨rfl, rfl⟩)
    go_ret
    exact ⟨by rw [HV.out]; rfl, HR1.out⟩
set_option maxRecDepth 100000 in
set_option maxHeartbeats 4000000 in
theorem size_big (w : World) (g : Nat) (b : Bool) (rest : Text) (many V : Nat) (hr : Rdr w g b rest) (h : many ≤ 8) (h2 : many ≤ rest.length) (hp : 0 < many) (hz : rest[0]? ≠ some 0) (hV : Blob.val (rest.take many) = V) (hVm : 9223372036854775807 < V) :
 Calls Tryz.prog 117 #[.pointer (some ⟨g, 0, none⟩), .int .i64 many] w (Pan w g) := by
 have hvm : 9223372036854775807 < (V : Int) := by omega
 have hvd : decide ((V : Int) ≤ 9223372036854775807) = false := decide_eq_false (by omega)
 obtain ⟨T, hT0⟩ : ∃ T, T = rest.take many := ⟨_, rfl⟩
 have hl : T.length = many := by rw [hT0, List.length_take]; omega
 have HT : Hid (Calls Tryz.prog 116 #[.pointer (some ⟨g, 0, none⟩), .int .i64 many] w fun e w' => ∃ A c, e = .returned (.slice A many c) ∧ Hid (Txt w' A T) ∧ Hid (Rdr w' g b (rest.drop many) ∧ Only w w' g)) := Lib.hid (by
  refine (take_yes w g b rest many hr h2).mono fun e w' ⟨A, c, h3, h4, h5, h6, h7⟩ => ?_
  rw [← hT0] at h3 h4
  rw [hl] at h3
  exact ⟨A, c, h3, Lib.hid h4, Lib.hid ⟨h6, h7⟩⟩)
 have HV : Hid (Blob.val T = V) := Lib.hid (by rw [hT0]; exact hV)
 have hnz : ∃ x, T[0]? = some x ∧ ((x.toNat : Int) != 0) = true := by
  rw [hT0]
  have : (rest.take many)[0]? = rest[0]? := by rw [List.getElem?_take_of_lt hp]
  rw [this]
  obtain ⟨x, hx⟩ : ∃ x, rest[0]? = some x := ⟨_, List.getElem?_eq_getElem (by omega)⟩
  refine ⟨x, hx, ?_⟩
  have hne : x ≠ 0 := fun h0 => hz (by rw [hx, h0])
  have : x.toNat ≠ 0 := fun h0 => hne (UInt8.toNat_inj.1 h0)
  simp; omega
 have hl8 : (many : Int) ≤ 8 := by omega
 clear hr h2 hz hV
 clear hT0
 obtain ⟨HL⟩ : Nonempty (Hid (T.length = many)) := ⟨Lib.hid hl⟩
 clear hl
 have hz0 : ((many : Int) == 0) = false := beq_false_of_ne (by omega)
 have hpi : (0 : Int) < (many : Int) := by omega
 obtain ⟨x0, hx0, hxn⟩ := hnz
 go_enter Tryz.func117, Tryz.ntmps117
 go_wp2_with (first
  | (go_at_call 116; refine HT.out.mono ?_; rintro e w1 ⟨A, c, rfl, HX, HR1⟩; obtain ⟨a0, rfl, _, hc0⟩ := HX.out.at_ (k := 0) (by rw [HL.out]; exact hp); have hc0' : w1.cell? a0 = some (.int .u8 ((x0.toNat : Nat) : Int)) := (by have e1 : T[0]'(by rw [HL.out]; exact hp) = x0 := (by rw [List.getElem?_eq_getElem (by rw [HL.out]; exact hp)] at hx0; exact Option.some.inj hx0); rw [e1] at hc0; simpa [Addr.add] using hc0))
  | (go_at_call 118; refine (must_yes _).mono ?_; rintro e w' ⟨rfl, rfl⟩))
 go_loop [6, 26] (fun s i => ∃ k : Nat, k ≤ many ∧ i = .int .i64 k ∧ s = .int .u64 (Blob.val (T.take k) : Nat)) (fun _ i => many - (intOf i).toNat)
 case atStart => exact ⟨0, Nat.zero_le _, rfl, by rw [List.take_zero]; rfl⟩
 case round =>
  obtain ⟨k, hk, rfl, rfl⟩ := hrel
  by_cases hlt : k < many
  · obtain ⟨a, ea, _, hck⟩ := HX.out.at_ (k := k) (by rw [HL.out]; exact hlt)
    obtain rfl : a0 = a := by injection ea
    clear ea
    have hkl : k < T.length := by rw [HL.out]; exact hlt
    have HN : Hid (Blob.val (T.take (k + 1)) = Blob.val (T.take k) * 256 + T[k].toNat) := Lib.hid (by rw [take_next T k hkl, Blob.val_snoc])
    have hvl : Blob.val (T.take k) * 256 < 18446744073709551616 := by
     have h1 := Blob.val_lt (T.take k)
     have h2 : (T.take k).length ≤ 7 := by rw [List.length_take]; omega
     have h3 : 256 ^ (T.take k).length ≤ 256 ^ 7 := Nat.pow_le_pow_right (by omega) h2
     omega
    have HO := Lib.hid (or_byte (Blob.val (T.take k)) T[k] hvl)
    generalize Blob.val (T.take k) = v at *
    generalize T[k] = x at *
    clear hvl hkl
    go_wp2
    rw [HO.out]
    go_round
    case rel => exact ⟨k + 1, by omega, by go_num, by rw [HN.out]⟩
    case measure => simp [intOf]; omega
  · obtain rfl : k = many := by omega
    have HE : Hid (Blob.val (T.take k) = V) := Lib.hid (by rw [List.take_of_length_le (by rw [HL.out]; exact Nat.le_refl _)]; exact HV.out)
    rw [HE.out]
    go_wp2_with (go_at_call 118; (with_reducible refine (must_no _).mono ?_); rintro e w' ⟨rfl, rfl⟩)
    exact ⟨rfl, rfl, HR1.out.2, _, _, HR1.out.1⟩
end Go.Proofs.YtmjjenemokojjaaGreat

namespace Go.Proofs.YtmjjenemokojjaaGreat
open Go.RowKit
set_option maxRecDepth 100000
set_option linter.unusedSimpArgs false

def sameD (x y : DocV) : Bool := (x.id.toList == y.id.toList) && ((x.sale == y.sale) && ((x.credit == y.credit) && ((x.refers.toList == y.refers.toList) && ((x.day == y.day) && ((x.country.toList == y.country.toList) && ((x.number.toList == y.number.toList) && ((x.currency.toList == y.currency.toList) && likes x.lines y.lines)))))))
set_option maxHeartbeats 4000000 in
theorem code_sameDoc (x y : DocV) (w : World) (hx : DocVOk w x) (hy : DocVOk w y) (hn : x.lines.length ≤ 140737488351232) (V : Bool) (hV : sameD x y = V) :
 Calls Tryz.prog 52 #[.agg #[.string x.id, .bool x.sale, .bool x.credit, .string x.refers, .int .i64 x.day, .string x.country, .string x.number, .string x.currency, .slice x.linesA x.lines.length x.linesC], .agg #[.string y.id, .bool y.sale, .bool y.credit, .string y.refers, .int .i64 y.day, .string y.country, .string y.number, .string y.currency, .slice y.linesA y.lines.length y.linesC]] w fun e w' => e = .returned (.bool V) ∧ Below w.heap.size w w' := by
 obtain ⟨_, _, _, _, _, rx, _⟩ := hx
 obtain ⟨_, _, _, _, _, ry, _⟩ := hy
 have HE := Lib.hid (fun W (hb : Below w.heap.size w W) => code_equal x.linesA x.linesC x.lines y.linesA y.linesC y.lines W (rx.on hb) (ry.on hb) hn _ rfl)
 have HBB := Lib.hid (below_then (below_alloc w (.cells #[.string x.id, .bool x.sale, .bool x.credit, .string x.refers, .int .i64 x.day, .string x.country, .string x.number, .string x.currency, .slice x.linesA x.lines.length x.linesC] 26)) (below_alloc (w.alloc (.cells #[.string x.id, .bool x.sale, .bool x.credit, .string x.refers, .int .i64 x.day, .string x.country, .string x.number, .string x.currency, .slice x.linesA x.lines.length x.linesC] 26)) (.cells #[.string y.id, .bool y.sale, .bool y.credit, .string y.refers, .int .i64 y.day, .string y.country, .string y.number, .string y.currency, .slice y.linesA y.lines.length y.linesC] 26)))
 clear rx ry hn
 unfold sameD at hV
 cases e0 : (x.id.toList == y.id.toList) with
 | false =>
   rw [e0] at hV
   simp only [Bool.false_and] at hV
   subst hV
   go_enter Tryz.func52, Tryz.ntmps52
   go_wp2
   go_ret
   exact ⟨rfl, HBB.out⟩
 | true =>
   rw [e0] at hV
   simp only [Bool.true_and] at hV
   cases e1 : (x.sale == y.sale) with
   | false =>
     rw [e1] at hV
     simp only [Bool.false_and] at hV
     subst hV
     go_enter Tryz.func52, Tryz.ntmps52
     go_wp2
     go_ret
     exact ⟨rfl, HBB.out⟩
   | true =>
     rw [e1] at hV
     simp only [Bool.true_and] at hV
     cases e2 : (x.credit == y.credit) with
     | false =>
       rw [e2] at hV
       simp only [Bool.false_and] at hV
       subst hV
       go_enter Tryz.func52, Tryz.ntmps52
       go_wp2
       go_ret
       exact ⟨rfl, HBB.out⟩
     | true =>
       rw [e2] at hV
       simp only [Bool.true_and] at hV
       cases e3 : (x.refers.toList == y.refers.toList) with
       | false =>
         rw [e3] at hV
         simp only [Bool.false_and] at hV
         subst hV
         go_enter Tryz.func52, Tryz.ntmps52
         go_wp2
         go_ret
         exact ⟨rfl, HBB.out⟩
       | true =>
         rw [e3] at hV
         simp only [Bool.true_and] at hV
         cases e4 : (x.day == y.day) with
         | false =>
           rw [e4] at hV
           simp only [Bool.false_and] at hV
           subst hV
           go_enter Tryz.func52, Tryz.ntmps52
           go_wp2
           go_ret
           exact ⟨rfl, HBB.out⟩
         | true =>
           rw [e4] at hV
           simp only [Bool.true_and] at hV
           cases e5 : (x.country.toList == y.country.toList) with
           | false =>
             rw [e5] at hV
             simp only [Bool.false_and] at hV
             subst hV
             go_enter Tryz.func52, Tryz.ntmps52
             go_wp2
             go_ret
             exact ⟨rfl, HBB.out⟩
           | true =>
             rw [e5] at hV
             simp only [Bool.true_and] at hV
             cases e6 : (x.number.toList == y.number.toList) with
             | false =>
               rw [e6] at hV
               simp only [Bool.false_and] at hV
               subst hV
               go_enter Tryz.func52, Tryz.ntmps52
               go_wp2
               go_ret
               exact ⟨rfl, HBB.out⟩
             | true =>
               rw [e6] at hV
               simp only [Bool.true_and] at hV
               cases e7 : (x.currency.toList == y.currency.toList) with
               | false =>
                 rw [e7] at hV
                 simp only [Bool.false_and] at hV
                 subst hV
                 go_enter Tryz.func52, Tryz.ntmps52
                 go_wp2
                 go_ret
                 exact ⟨rfl, HBB.out⟩
               | true =>
                 rw [e7] at hV
                 simp only [Bool.true_and] at hV
                 subst hV
                 go_enter Tryz.func52, Tryz.ntmps52
                 go_wp2_with (go_at_call 82; refine (HE.out _ HBB.out).mono ?_; rintro e w1 ⟨rfl, hb⟩; have HB := Lib.hid (below_then HBB.out hb); clear hb)
                 go_ret
                 exact ⟨rfl, HB.out⟩
end Go.Proofs.YtmjjenemokojjaaGreat

namespace Go.Proofs.YtmjjenemokojjaaGreat
open Go.RowKit
set_option maxRecDepth 100000

open Classical in
/-- a size, and what is left; nothing, if it is refused -/
noncomputable def sizeP (rest : Text) (many : Nat) : Option (Nat × Text) := if okS rest many then some (Blob.val (rest.take many), rest.drop many) else none
/-- what a reading call leaves -/
def Res (w : World) (g : Nat) (b : Bool) (d : Option (Value × Text)) (e : Ending) (w' : World) : Prop := match d with
 | some (v, r) => e = .returned v ∧ Rdr w' g b r ∧ Only w w' g
 | none => Pan w g e w'
theorem size_any (w : World) (g : Nat) (b : Bool) (rest : Text) (many : Nat) (hr : Rdr w g b rest) :
 Calls Tryz.prog 117 #[.pointer (some ⟨g, 0, none⟩), .int .i64 many] w (Res w g b ((sizeP rest many).map fun p => (.int .i64 (p.1 : Nat), p.2))) := by
 unfold sizeP
 by_cases h : okS rest many
 · rw [if_pos h]
   obtain ⟨h1, h2, h3, h4⟩ := h
   rcases h3 with rfl | h3
   · exact size_zero w g b rest hr
   · rcases Nat.eq_zero_or_pos many with rfl | hp
     · exact size_zero w g b rest hr
     · exact size_pos w g b rest many _ hr h1 h2 hp h3 rfl h4
 · rw [if_neg h]
   show Calls _ _ _ _ (Pan w g)
   by_cases h1 : many ≤ 8
   · by_cases h2 : many ≤ rest.length
     · rcases Nat.eq_zero_or_pos many with rfl | hp
       · exact absurd ⟨h1, h2, .inl rfl, by simp [Blob.val]⟩ h
       · by_cases h3 : rest[0]? = some 0
         · exact size_nought w g b rest many hr h1 h2 hp h3
         · exact size_big w g b rest many _ hr h1 h2 hp h3 rfl (by
            rcases Nat.lt_or_ge 9223372036854775807 (Blob.val (rest.take many)) with hv | hv
            · exact hv
            · exact absurd ⟨h1, h2, .inr h3, hv⟩ h)
     · exact size_short w g b rest many hr h1 (by omega)
   · exact size_long w g b rest many hr (by omega)

/-- a number, and what is left -/
noncomputable def numP (rest : Text) : Option (Int × Text) := match rest with
 | [] => none
 | h :: r => match sizeP r (h.toNat % 128) with
   | none => none
   | some (n, r') => if h.toNat < 128 then some ((n : Int), r') else if 0 < n then some (-(n : Int), r') else none
theorem sizeP_le {rest r : Text} {many n : Nat} (h : sizeP rest many = some (n, r)) : n ≤ 9223372036854775807 := by
 unfold sizeP at h
 by_cases hk : okS rest many
 · rw [if_pos hk] at h
   injection h with h
   injection h with h1 h2
   rw [← h1]; exact hk.2.2.2
 · rw [if_neg hk] at h; cases h

/-- one byte taken -/
theorem take_one (w : World) (g : Nat) (b : Bool) (h : UInt8) (r : Text) (hr : Rdr w g b (h :: r)) :
 Calls Tryz.prog 116 #[.pointer (some ⟨g, 0, none⟩), .int .i64 1] w fun e w' => ∃ a c, e = .returned (.slice (some a) 1 c) ∧ w'.cell? a = some (.int .u8 ((h.toNat : Nat) : Int)) ∧ Hid (Rdr w' g b r ∧ Only w w' g) := by
 refine (take_yes w g b (h :: r) 1 hr (by simp)).mono fun e w' ⟨A, c, h3, h4, h5, h6, h7⟩ => ?_
 obtain ⟨a, rfl, _, hc⟩ := h4.at_ (k := 0) (by simp)
 exact ⟨a, c, h3, by simpa [Addr.add] using hc, Lib.hid ⟨h6, h7⟩⟩
theorem Pan.later {w w1 w' : World} {g : Nat} {e : Ending} (h : Pan w1 g e w') (ho : Only w w1 g) : Pan w g e w' := ⟨h.1, ho.trans h.2.1, h.2.2⟩

set_option maxRecDepth 100000 in
set_option maxHeartbeats 2000000 in
theorem code_num (w : World) (g : Nat) (b : Bool) (rest : Text) (hr : Rdr w g b rest) :
 Calls Tryz.prog 98 #[.pointer (some ⟨g, 0, none⟩)] w (Res w g b ((numP rest).map fun p => (.int .i64 p.1, p.2))) := by
 cases rest with
 | nil =>
   have HT := Lib.hid (take_no w g b [] 1 hr (by simp))
   have HR := Lib.hid hr
   clear hr
   go_enter Tryz.func98, Tryz.ntmps98
   go_wp2_with (go_at_call 116; refine HT.out.mono ?_; rintro e w' ⟨rfl, rfl⟩)
   exact ⟨rfl, rfl, Only.refl _ _, _, _, HR.out⟩
 | cons h r =>
   have HT := Lib.hid (take_one w g b h r hr)
   have HS : Hid (∀ W, Rdr W g b r → Calls Tryz.prog 117 #[.pointer (some ⟨g, 0, none⟩), .int .i64 (((h.toNat : Nat) : Int) % 128)] W (Res W g b ((sizeP r (h.toNat % 128)).map fun p => (.int .i64 (p.1 : Nat), p.2)))) := Lib.hid (fun W hW => by
    have := size_any W g b r (h.toNat % 128) hW
    rw [Int.natCast_emod] at this
    exact this)
   obtain ⟨D, hD⟩ : ∃ D, D = (numP (h :: r)).map fun p => (Value.int .i64 p.1, p.2) := ⟨_, rfl⟩
   rw [← hD]
   have h0 : (0 : Int) ≤ ((h.toNat : Nat) : Int) := by omega
   clear hr
   cases hs : sizeP r (h.toNat % 128) with
   | none =>
     have HD : Hid (D = none) := Lib.hid (by rw [hD]; unfold numP; simp only [hs]; rfl)
     rw [hs] at HS
     clear hs hD
     go_enter Tryz.func98, Tryz.ntmps98
     go_wp2_with (first
      | (go_at_call 116; refine HT.out.mono ?_; rintro e w1 ⟨a, c, rfl, hc, HR1⟩)
      | (go_at_call 117; refine (HS.out w1 HR1.out.1).mono ?_; rintro e w2 hp; obtain ⟨rfl, hp2⟩ := hp; have HP := Lib.hid hp2; clear hp2))
     exact ⟨rfl, by rw [HD.out]; exact Pan.later ⟨rfl, HP.out⟩ HR1.out.2⟩
   | some p =>
     obtain ⟨n, r'⟩ := p
     have hn := sizeP_le hs
     have HS2 : Hid (∀ W, Rdr W g b r → Calls Tryz.prog 117 #[.pointer (some ⟨g, 0, none⟩), .int .i64 (((h.toNat : Nat) : Int) % 128)] W fun e w' => e = .returned (.int .i64 n) ∧ Hid (Rdr w' g b r' ∧ Only W w' g)) := Lib.hid (fun W hW => by
      have := HS.out W hW
      rw [hs] at this
      exact this.mono fun e w' h => ⟨h.1, Lib.hid h.2⟩)
     have hni : (n : Int) ≤ 9223372036854775807 := by omega
     by_cases hb : h.toNat < 128
     · have HD : Hid (D = some (.int .i64 n, r')) := Lib.hid (by rw [hD]; unfold numP; simp only [hs, if_pos hb]; rfl)
       have hbi : ((h.toNat : Nat) : Int) < 128 := by omega
       clear hs hD HS hb
       go_enter Tryz.func98, Tryz.ntmps98
       go_wp2_with (first
       | (go_at_call 116; refine HT.out.mono ?_; rintro e w1 ⟨a, c, rfl, hc, HR1⟩)
         | (go_at_call 117; refine (HS2.out w1 HR1.out.1).mono ?_; rintro e w2 ⟨rfl, HR2⟩))
       go_ret
       rw [HD.out]
       exact ⟨rfl, HR2.out.1, HR1.out.2.trans HR2.out.2⟩
     · have hbi : (128 : Int) ≤ ((h.toNat : Nat) : Int) := by omega
       by_cases hp : 0 < n
       · have HD : Hid (D = some (.int .i64 (-(n : Int)), r')) := Lib.hid (by rw [hD]; unfold numP; simp only [hs, if_neg hb, if_pos hp]; rfl)
         have hpi : (0 : Int) < (n : Int) := by omega
         clear hs hD HS hb
         go_enter Tryz.func98, Tryz.ntmps98
         go_wp2_with (first
       | (go_at_call 116; refine HT.out.mono ?_; rintro e w1 ⟨a, c, rfl, hc, HR1⟩)
          | (go_at_call 117; refine (HS2.out w1 HR1.out.1).mono ?_; rintro e w2 ⟨rfl, HR2⟩)
          | (go_at_call 118; (with_reducible refine (must_yes _).mono ?_); rintro e w' ⟨rfl, rfl⟩))
         go_ret
         rw [HD.out]
         exact ⟨rfl, HR2.out.1, HR1.out.2.trans HR2.out.2⟩
       · have HD : Hid (D = none) := Lib.hid (by rw [hD]; unfold numP; simp only [hs, if_neg hb, if_neg hp]; rfl)
         obtain rfl : n = 0 := by omega
         clear hs hD HS hb hp
         go_enter Tryz.func98, Tryz.ntmps98
         go_wp2_with (first
       | (go_at_call 116; refine HT.out.mono ?_; rintro e w1 ⟨a, c, rfl, hc, HR1⟩)
          | (go_at_call 117; refine (HS2.out w1 HR1.out.1).mono ?_; rintro e w2 ⟨rfl, HR2⟩)
          | (go_at_call 118; (with_reducible refine (must_no _).mono ?_); rintro e w' ⟨rfl, rfl⟩))
         exact ⟨rfl, by rw [HD.out]; exact ⟨rfl, HR1.out.2.trans HR2.out.2, _, _, HR2.out.1⟩⟩
end Go.Proofs.YtmjjenemokojjaaGreat
