/- A reader: what must be, what is taken. -/
import Derived.Test.YtjcjnokpbhmmiaaBlobLives
import Derived.Defers
import Derived.Recover
import Derived.WalkLawsBesides
namespace Go.Proofs.Ytjcjnokpbhmmiaa
open Go.RowKit
set_option maxRecDepth 100000

theorem must_yes (w : World) : Calls Try.prog 71 #[.bool true] w fun e w' => e = .returned (.tuple #[]) ∧ w = w' := by
  go_enter Try.func71, Try.ntmps71
  go_wp2
  go_end0
  exact ⟨rfl, rfl⟩
/-- what is raised -/
def raise : List PanicEntry := [{ v := .iface 34 (.int .i64 10), recovered := false }]
theorem must_no (w : World) : Calls Try.prog 71 #[.bool false] w fun e w' => e = .panicked raise ∧ w = w' := by
  go_enter Try.func71, Try.ntmps71
  go_wp2
  exact ⟨rfl, rfl, rfl⟩
theorem must_y {x : Bool} (h : x = true) (w : World) : Calls Try.prog 71 #[.bool x] w fun e w' => e = .returned (.tuple #[]) ∧ w = w' := by
  subst h; exact must_yes w
theorem must_n {x : Bool} (h : x = false) (w : World) : Calls Try.prog 71 #[.bool x] w fun e w' => e = .panicked raise ∧ w = w' := by
  subst h; exact must_no w

/-- a reader in block g: is it bad, and what it has left -/
def Rdr (w : World) (g : Nat) (b : Bool) (rest : Text) : Prop :=
  ∃ A c, w.heap[g]? = some (.cells #[.bool true, .bool b, .slice A rest.length c] 69 (0, 0)) ∧ rest.length ≤ c ∧ c ≤ maxLen ∧ Txt w A rest ∧ (A = none → rest = []) ∧ ∀ a, A = some a → a.block < g
/-- nothing but block g was turned -/
structure Only (w w' : World) (g : Nat) : Prop where
  os : w'.os = w.os
  tape : w'.tape = w.tape
  output : w'.output = w.output
  size : w.heap.size ≤ w'.heap.size
  block : ∀ k, k < w.heap.size → k ≠ g → w'.heap[k]? = w.heap[k]?
theorem Only.refl (w : World) (g : Nat) : Only w w g := ⟨rfl, rfl, rfl, Nat.le_refl _, fun _ _ _ => rfl⟩
theorem Only.trans {a b c : World} {g : Nat} (h : Only a b g) (k : Only b c g) : Only a c g :=
  ⟨k.os.trans h.os, k.tape.trans h.tape, k.output.trans h.output, Nat.le_trans h.size k.size, fun i hi h1 => (k.block i (Nat.lt_of_lt_of_le hi h.size) h1).trans (h.block i hi h1)⟩
theorem Only.of_below {w w' : World} {g : Nat} (hb : Below w.heap.size w w') : Only w w' g := ⟨hb.os, hb.tape, hb.output, hb.size, fun k hk _ => hb.block k hk⟩
theorem Only.below {w w' : World} {B g : Nat} (h : Only w w' g) (hB : B ≤ g) (hw : B ≤ w.heap.size) : Below B w w' := ⟨h.os, h.tape, h.output, h.size, fun k hk => h.block k (by omega) (by omega)⟩
theorem Only.set (w : World) (g i : Nat) (u : Value) : Only w (w.setCell ⟨g, i, none⟩ u) g := ⟨rfl, rfl, rfl, by simp, fun k _ hk => heap_setCell_other w ⟨g, i, none⟩ k u hk⟩
theorem Txt.only {w w' : World} {g : Nat} {A : Option Addr} {l : Text} (h : Txt w A l) (ho : Only w w' g) (hA : ∀ a, A = some a → a.block ≠ g) : Txt w' A l := fun hn => by
  obtain ⟨a, e, hb, hc⟩ := h hn
  refine ⟨a, e, Nat.lt_of_lt_of_le hb ho.size, fun i hi => ?_⟩
  have : (a.add i).block = a.block := add_block a i
  rw [World.cell?_of_block (w := w) (by rw [this]; exact ho.block _ hb (hA a e))]
  exact hc i hi

/-- so many bytes, taken -/
def Taken (w : World) (g : Nat) (b : Bool) (rest : Text) (many : Nat) (e : Ending) (w' : World) : Prop :=
  ∃ A c, e = .returned (.slice A (rest.take many).length c) ∧ Txt w' A (rest.take many) ∧ (A = none → rest.take many = []) ∧ Rdr w' g b (rest.drop many) ∧ Only w w' g
theorem taken_of {w : World} {g : Nat} {b : Bool} {rest : Text} {many c : Nat} {a a' : Addr} (hh : w.heap[g]? = some (.cells #[.bool true, .bool b, .slice (some a) rest.length c] 69 (0, 0))) (hc : rest.length ≤ c) (hm : c ≤ maxLen) (hT : Txt w (some a) rest) (hg : a.block < g) (hk : many ≤ rest.length)
    (ha : a' = if c = many then a else a.add many) : Taken w g b rest many (.returned (.slice (some a) many c)) (w.setCell ⟨g, 2, none⟩ (.slice (some a') (rest.length - many) (c - many))) := by
  have ho := Only.set w g 2 (.slice (some a') (rest.length - many) (c - many))
  have hl : (rest.take many).length = many := by rw [List.length_take]; omega
  have hd : (rest.drop many).length = rest.length - many := List.length_drop
  refine ⟨some a, c, by rw [hl], (hT.take many).only ho (fun x hx => by injection hx with hx; rw [← hx]; exact Nat.ne_of_lt hg), by simp, ⟨some a', c - many, ?_, by rw [hd]; omega, Nat.le_trans (Nat.sub_le _ _) hm, ?_, by simp, fun x hx => ?_⟩, ho⟩
  · rw [heap_setCell_same w g 2 _ _ _ hh, hd]; rfl
  · by_cases h : c = many
    · have : rest.drop many = [] := List.drop_eq_nil_of_le (by omega)
      rw [this]; exact Txt.none_
    · have hx := (hT.drop many).only ho (fun x hx => by injection hx with hx; rw [← hx, add_block]; exact Nat.ne_of_lt hg)
      rw [if_neg h] at ha
      rw [← ha] at hx
      exact hx
  · injection hx with hx
    rw [← hx, ha]
    by_cases h : c = many
    · rw [if_pos h]; exact hg
    · rw [if_neg h, add_block]; exact hg

set_option maxHeartbeats 1000000 in
theorem take_no (w : World) (g : Nat) (b : Bool) (rest : Text) (many : Nat) (hr : Rdr w g b rest) (h : rest.length < many) :
    Calls Try.prog 69 #[.pointer (some ⟨g, 0, none⟩), .int .i64 many] w fun e w' => e = .panicked raise ∧ w = w' := by
  obtain ⟨A, c, hh, hc, _, _, _, _⟩ := hr
  have h2 := cell_of_row w g 2 _ _ _ hh
  simp only [List.getElem?_toArray, List.getElem?_cons_zero, List.getElem?_cons_succ] at h2
  clear hh
  go_enter Try.func69, Try.ntmps69
  go_wp2_with (go_at_call 71; refine (must_n (decide_eq_false (by omega)) _).mono ?_; rintro e w' ⟨rfl, rfl⟩)
  exact ⟨rfl, rfl, rfl⟩
set_option maxHeartbeats 2000000 in
theorem take_yes (w : World) (g : Nat) (b : Bool) (rest : Text) (many : Nat) (hr : Rdr w g b rest) (h : many ≤ rest.length) :
    Calls Try.prog 69 #[.pointer (some ⟨g, 0, none⟩), .int .i64 many] w (Taken w g b rest many) := by
  obtain ⟨A, c, hh, hc, hm, hT, hA, hg⟩ := hr
  have h2 := cell_of_row w g 2 _ _ _ hh
  have f2 := frozen_of_row w g 2 _ _ hh
  simp only [List.getElem?_toArray, List.getElem?_cons_zero, List.getElem?_cons_succ] at h2
  unfold maxLen at hm
  have hmc : (many : Int) ≤ (c : Int) := by omega
  have hml : (many : Int) ≤ (rest.length : Int) := by omega
  have hc2 : (c : Int) ≤ 9223372036854775807 := by omega
  cases A with
  | none =>
    have := hA rfl
    subst this
    obtain rfl : many = 0 := by simpa using h
    have HQ : Hid (∀ w', w' = w.setCell ⟨g, 2, none⟩ (.slice none 0 c) → Taken w g b [] 0 (.returned (.slice none 0 c)) w') := Lib.hid (fun w' hw' => by
      subst hw'
      exact ⟨none, c, rfl, Txt.none_, fun _ => rfl, ⟨none, c, by rw [heap_setCell_same w g 2 _ _ _ hh]; rfl, Nat.zero_le _, by unfold maxLen; omega, Txt.none_, fun _ => rfl, by simp⟩, Only.set w g 2 _⟩)
    clear hh hT hA hg
    go_enter Try.func69, Try.ntmps69
    go_wp2_with (go_at_call 71; refine (must_yes _).mono ?_; rintro e w' ⟨rfl, rfl⟩)
    go_ret
    exact HQ.out _ rfl
  | some a =>
    by_cases hcm : c = many
    · subst hcm
      have HQ0 := taken_of hh hc (by unfold maxLen; omega) hT (hg a rfl) h (a' := a) (by rw [if_pos rfl])
      have e0 : rest.length - c = 0 := by omega
      rw [Nat.sub_self, e0] at HQ0
      have HQ := Lib.hid HQ0
      clear hh hT hA hg HQ0
      go_enter Try.func69, Try.ntmps69
      go_wp2_with (go_at_call 71; refine (must_yes _).mono ?_; rintro e w' ⟨rfl, rfl⟩)
      go_ret
      exact HQ.out
    · have HQ : Hid (Taken w g b rest many (.returned (.slice (some a) many c)) (w.setCell ⟨g, 2, none⟩ (.slice (some (a.add many)) (rest.length - many) (c - many)))) := Lib.hid (taken_of hh hc (by unfold maxLen; omega) hT (hg a rfl) h (by rw [if_neg hcm]))
      clear hh hT hA hg
      go_enter Try.func69, Try.ntmps69
      go_wp2_with (go_at_call 71; refine (must_yes _).mono ?_; rintro e w' ⟨rfl, rfl⟩)
      go_ret
      exact HQ.out
end Go.Proofs.Ytjcjnokpbhmmiaa
