/- The chapter's document, as it is made. A reader: what must be, what is taken. A number's size read. -/
import Derived.Test.YtplghpamckdklaaGreatQ15
import Derived.WalkMore
import Derived.Laws.Tables
import Derived.Laws.CopyOwn
import Derived.Test.YtplghpamckdklaaGreatQ12
import Derived.Defers
import Derived.Recover
import Derived.WalkLawsBesides
import Derived.Laws.BitsAllLaws
namespace Go.Proofs.YtplghpamckdklaaGreat
open Go.RowKit
set_option maxRecDepth 100000
set_option linter.unusedSimpArgs false
set_option linter.unusedVariables false

theorem cells_info : (Tryz.prog.info? 28).map (·.size) = some 22 := by kernel_rfl
def SimpleP (w : World) (e : Ending) (w1 : World) : Prop := ∃ A : Addr, e = .returned (.agg #[.int .i64 8, .string ⟨#[]⟩, .string ⟨#[]⟩, .int .i64 0, .int .i64 0, .int .i64 0, .int .i64 0, .int .i64 0, .int .i64 0, .int .i64 0, .int .i64 0, .int .i64 0, .int .i64 0, .string ⟨#[97]⟩, .bool true, .bool false, .string ⟨#[]⟩, .int .i64 19000, .string ⟨#[68, 69]⟩, .string ⟨#[]⟩, .string ⟨#[]⟩, .slice (some A) 1 1]) ∧ Below w.heap.size w w1 ∧ RowLineV w1 (some A) [simpleL] ∧ A.block < w1.heap.size
set_option maxHeartbeats 2000000 in
theorem code_simple  (w : World) : Calls Tryz.prog 19 #[] w fun e w1 => SimpleP w e w1 := by
  have h0 := heap_on (below_alloc (w.alloc (.cells #[.int .i64 0, .string ⟨#[]⟩, .string ⟨#[]⟩, .int .i64 0, .int .i64 0, .int .i64 0, .int .i64 0, .int .i64 0, .int .i64 0, .int .i64 0, .int .i64 0, .int .i64 0, .int .i64 0, .string ⟨#[]⟩, .bool false, .bool false, .string ⟨#[]⟩, .int .i64 0, .string ⟨#[]⟩, .string ⟨#[]⟩, .string ⟨#[]⟩, .slice none 0 0] 28)) (.cells #[.int .i64 2, .int .i64 1, .string ⟨#[]⟩, .string ⟨#[]⟩, .string ⟨#[]⟩, .int .i64 1000, .bool false, .int .i64 0, .bool false] 30)) (heap_alloc_new w (.cells #[.int .i64 0, .string ⟨#[]⟩, .string ⟨#[]⟩, .int .i64 0, .int .i64 0, .int .i64 0, .int .i64 0, .int .i64 0, .int .i64 0, .int .i64 0, .int .i64 0, .int .i64 0, .int .i64 0, .string ⟨#[]⟩, .bool false, .bool false, .string ⟨#[]⟩, .int .i64 0, .string ⟨#[]⟩, .string ⟨#[]⟩, .string ⟨#[]⟩, .slice none 0 0] 28))
  have h1 := heap_alloc_new (w.alloc (.cells #[.int .i64 0, .string ⟨#[]⟩, .string ⟨#[]⟩, .int .i64 0, .int .i64 0, .int .i64 0, .int .i64 0, .int .i64 0, .int .i64 0, .int .i64 0, .int .i64 0, .int .i64 0, .int .i64 0, .string ⟨#[]⟩, .bool false, .bool false, .string ⟨#[]⟩, .int .i64 0, .string ⟨#[]⟩, .string ⟨#[]⟩, .string ⟨#[]⟩, .slice none 0 0] 28)) (.cells #[.int .i64 2, .int .i64 1, .string ⟨#[]⟩, .string ⟨#[]⟩, .string ⟨#[]⟩, .int .i64 1000, .bool false, .int .i64 0, .bool false] 30)
  simp only [World.size_alloc] at h1
  have H0 := Lib.hid h0
  have H1 := Lib.hid h1
  have HW := Lib.hid (show Below w.heap.size w ((w.alloc (.cells #[.int .i64 0, .string ⟨#[]⟩, .string ⟨#[]⟩, .int .i64 0, .int .i64 0, .int .i64 0, .int .i64 0, .int .i64 0, .int .i64 0, .int .i64 0, .int .i64 0, .int .i64 0, .int .i64 0, .string ⟨#[]⟩, .bool false, .bool false, .string ⟨#[]⟩, .int .i64 0, .string ⟨#[]⟩, .string ⟨#[]⟩, .string ⟨#[]⟩, .slice none 0 0] 28)).alloc (.cells #[.int .i64 2, .int .i64 1, .string ⟨#[]⟩, .string ⟨#[]⟩, .string ⟨#[]⟩, .int .i64 1000, .bool false, .int .i64 0, .bool false] 30)) from below_more (below_alloc _ _))
  have HO := Lib.hid (show (#[.int .i64 8, .string ⟨#[]⟩, .string ⟨#[]⟩, .int .i64 0, .int .i64 0, .int .i64 0, .int .i64 0, .int .i64 0, .int .i64 0, .int .i64 0, .int .i64 0, .int .i64 0, .int .i64 0, .string ⟨#[97]⟩, .bool true, .bool false, .string ⟨#[]⟩, .int .i64 19000, .string ⟨#[68, 69]⟩, .string ⟨#[]⟩, .string ⟨#[]⟩, .slice (some ⟨w.heap.size + 1, 0, none⟩) 1 1] : Array Value).all (·.oneCell') = true by simp [Value.oneCell'])
  clear h0 h1
  go_enter Tryz.func19, Tryz.ntmps19
  go_wp2_with ((with_reducible refine wpList_store_row (o := ⟨none, _, _, _, _, _⟩) ?b1 28 (.tmp 0) (.tmp 4) ?b2 w.heap.size #[.int .i64 8, .string ⟨#[]⟩, .string ⟨#[]⟩, .int .i64 0, .int .i64 0, .int .i64 0, .int .i64 0, .int .i64 0, .int .i64 0, .int .i64 0, .int .i64 0, .int .i64 0, .int .i64 0, .string ⟨#[97]⟩, .bool true, .bool false, .string ⟨#[]⟩, .int .i64 19000, .string ⟨#[68, 69]⟩, .string ⟨#[]⟩, .string ⟨#[]⟩, .slice (some ⟨w.heap.size + 1, 0, none⟩) 1 1] ?b3 ?b4 28 #[.int .i64 0, .string ⟨#[]⟩, .string ⟨#[]⟩, .int .i64 0, .int .i64 0, .int .i64 0, .int .i64 0, .int .i64 0, .int .i64 0, .int .i64 0, .int .i64 0, .int .i64 0, .int .i64 0, .string ⟨#[]⟩, .bool false, .bool false, .string ⟨#[]⟩, .int .i64 0, .string ⟨#[]⟩, .string ⟨#[]⟩, .string ⟨#[]⟩, .slice none 0 0] ?b7 ?b6 ?b5 ?b8 ?_); (case b1 => rfl); (case b2 => rfl); (case b3 => rfl); (case b4 => rfl); (case b7 => exact H0.out); (case b6 => exact cells_info); (case b5 => rfl); (case b8 => exact HO.out); have HP9 := Lib.hid (setRow_heap ((w.alloc (.cells #[.int .i64 0, .string ⟨#[]⟩, .string ⟨#[]⟩, .int .i64 0, .int .i64 0, .int .i64 0, .int .i64 0, .int .i64 0, .int .i64 0, .int .i64 0, .int .i64 0, .int .i64 0, .int .i64 0, .string ⟨#[]⟩, .bool false, .bool false, .string ⟨#[]⟩, .int .i64 0, .string ⟨#[]⟩, .string ⟨#[]⟩, .string ⟨#[]⟩, .slice none 0 0] 28)).alloc (.cells #[.int .i64 2, .int .i64 1, .string ⟨#[]⟩, .string ⟨#[]⟩, .string ⟨#[]⟩, .int .i64 1000, .bool false, .int .i64 0, .bool false] 30)) w.heap.size _ #[.int .i64 8, .string ⟨#[]⟩, .string ⟨#[]⟩, .int .i64 0, .int .i64 0, .int .i64 0, .int .i64 0, .int .i64 0, .int .i64 0, .int .i64 0, .int .i64 0, .int .i64 0, .int .i64 0, .string ⟨#[97]⟩, .bool true, .bool false, .string ⟨#[]⟩, .int .i64 19000, .string ⟨#[68, 69]⟩, .string ⟨#[]⟩, .string ⟨#[]⟩, .slice (some ⟨w.heap.size + 1, 0, none⟩) 1 1] _ _ H0.out); have HL9 := Lib.hid ((setRow_other ((w.alloc (.cells #[.int .i64 0, .string ⟨#[]⟩, .string ⟨#[]⟩, .int .i64 0, .int .i64 0, .int .i64 0, .int .i64 0, .int .i64 0, .int .i64 0, .int .i64 0, .int .i64 0, .int .i64 0, .int .i64 0, .string ⟨#[]⟩, .bool false, .bool false, .string ⟨#[]⟩, .int .i64 0, .string ⟨#[]⟩, .string ⟨#[]⟩, .string ⟨#[]⟩, .slice none 0 0] 28)).alloc (.cells #[.int .i64 2, .int .i64 1, .string ⟨#[]⟩, .string ⟨#[]⟩, .string ⟨#[]⟩, .int .i64 1000, .bool false, .int .i64 0, .bool false] 30)) w.heap.size (w.heap.size + 1) #[.int .i64 8, .string ⟨#[]⟩, .string ⟨#[]⟩, .int .i64 0, .int .i64 0, .int .i64 0, .int .i64 0, .int .i64 0, .int .i64 0, .int .i64 0, .int .i64 0, .int .i64 0, .int .i64 0, .string ⟨#[97]⟩, .bool true, .bool false, .string ⟨#[]⟩, .int .i64 19000, .string ⟨#[68, 69]⟩, .string ⟨#[]⟩, .string ⟨#[]⟩, .slice (some ⟨w.heap.size + 1, 0, none⟩) 1 1] (by omega)).trans H1.out); have HB9 := Lib.hid (below_setRow HW.out (g := w.heap.size) (by omega) #[.int .i64 8, .string ⟨#[]⟩, .string ⟨#[]⟩, .int .i64 0, .int .i64 0, .int .i64 0, .int .i64 0, .int .i64 0, .int .i64 0, .int .i64 0, .int .i64 0, .int .i64 0, .int .i64 0, .string ⟨#[97]⟩, .bool true, .bool false, .string ⟨#[]⟩, .int .i64 19000, .string ⟨#[68, 69]⟩, .string ⟨#[]⟩, .string ⟨#[]⟩, .slice (some ⟨w.heap.size + 1, 0, none⟩) 1 1]); refine Stop.out ?_)
  unfold Stop
  generalize hx : World.setRow ((w.alloc (.cells #[.int .i64 0, .string ⟨#[]⟩, .string ⟨#[]⟩, .int .i64 0, .int .i64 0, .int .i64 0, .int .i64 0, .int .i64 0, .int .i64 0, .int .i64 0, .int .i64 0, .int .i64 0, .int .i64 0, .string ⟨#[]⟩, .bool false, .bool false, .string ⟨#[]⟩, .int .i64 0, .string ⟨#[]⟩, .string ⟨#[]⟩, .string ⟨#[]⟩, .slice none 0 0] 28)).alloc (.cells #[.int .i64 2, .int .i64 1, .string ⟨#[]⟩, .string ⟨#[]⟩, .string ⟨#[]⟩, .int .i64 1000, .bool false, .int .i64 0, .bool false] 30)) w.heap.size _ = w9 at HP9 HL9 HB9 ⊢
  clear hx H0 H1 HW
  go_wp2
  exact bodyPost_ret (v := .agg #[.int .i64 8, .string ⟨#[]⟩, .string ⟨#[]⟩, .int .i64 0, .int .i64 0, .int .i64 0, .int .i64 0, .int .i64 0, .int .i64 0, .int .i64 0, .int .i64 0, .int .i64 0, .int .i64 0, .string ⟨#[97]⟩, .bool true, .bool false, .string ⟨#[]⟩, .int .i64 19000, .string ⟨#[68, 69]⟩, .string ⟨#[]⟩, .string ⟨#[]⟩, .slice (some ⟨w.heap.size + 1, 0, none⟩) 1 1]) (results_cell_row Tryz.results19 _ _ w.heap.size 28 #[.int .i64 8, .string ⟨#[]⟩, .string ⟨#[]⟩, .int .i64 0, .int .i64 0, .int .i64 0, .int .i64 0, .int .i64 0, .int .i64 0, .int .i64 0, .int .i64 0, .int .i64 0, .int .i64 0, .string ⟨#[97]⟩, .bool true, .bool false, .string ⟨#[]⟩, .int .i64 19000, .string ⟨#[68, 69]⟩, .string ⟨#[]⟩, .string ⟨#[]⟩, .slice (some ⟨w.heap.size + 1, 0, none⟩) 1 1] (0, 0) _ rfl HP9.out Tryz.underlying28 rfl cells_info) rfl ⟨⟨w.heap.size + 1, 0, none⟩, rfl, HB9.out, boxLineV (p := simpleL) HL9.out, heapLt HL9.out⟩
end Go.Proofs.YtplghpamckdklaaGreat

namespace Go.Proofs.YtplghpamckdklaaGreat
open Go.RowKit
set_option maxRecDepth 100000

theorem must_yes (w : World) : Calls Tryz.prog 118 #[.bool true] w fun e w' => e = .returned (.tuple #[]) ∧ w = w' := by
  go_enter Tryz.func118, Tryz.ntmps118
  go_wp2
  go_end0
  exact ⟨rfl, rfl⟩
/-- what is raised -/
def raise : List PanicEntry := [{ v := .iface 37 (.int .i64 10), recovered := false }]
theorem must_no (w : World) : Calls Tryz.prog 118 #[.bool false] w fun e w' => e = .panicked raise ∧ w = w' := by
  go_enter Tryz.func118, Tryz.ntmps118
  go_wp2
  exact ⟨rfl, rfl, rfl⟩
theorem must_y {x : Bool} (h : x = true) (w : World) : Calls Tryz.prog 118 #[.bool x] w fun e w' => e = .returned (.tuple #[]) ∧ w = w' := by
  subst h; exact must_yes w
theorem must_n {x : Bool} (h : x = false) (w : World) : Calls Tryz.prog 118 #[.bool x] w fun e w' => e = .panicked raise ∧ w = w' := by
  subst h; exact must_no w

/-- a reader in block g: is it bad, and what it has left -/
def Rdr (w : World) (g : Nat) (b : Bool) (rest : Text) : Prop :=
  ∃ A c, w.heap[g]? = some (.cells #[.bool true, .bool b, .slice A rest.length c] 94 (0, 0)) ∧ rest.length ≤ c ∧ c ≤ maxLen ∧ Txt w A rest ∧ (A = none → rest = []) ∧ ∀ a, A = some a → a.block < g
/-- nothing but block g was turned -/
structure Only (w w' : World) (g : Nat) : Prop where
  os : w'.os = w.os
  tape : w'.tape = w.tape
  output : w'.output = w.output
  size : w.heap.size ≤ w'.heap.size
  block : ∀ k, k < w.heap.size → k ≠ g → w'.heap[k]? = w.heap[k]?
theorem Only.refl (w : World) (g : Nat) : Only w w g := ⟨rfl, rfl, rfl, Nat.le_refl _, fun _ _ _ => rfl⟩
theorem Only.trans {a b c : World} {g : Nat} (h : Only a b g) (k : Only b c g) : Only a c g :=
  ⟨k.os.trans h.os, k.tape.trans h.tape, k.output.trans h.output, Nat.le_trans h.size k.size, fun i hi h1 => (k.block i (Nat.lt_of_lt_of_le hi h.size) h1).trans (h.block i hi h1)⟩
theorem Only.of_below {w w' : World} {g : Nat} (hb : Below w.heap.size w w') : Only w w' g := ⟨hb.os, hb.tape, hb.output, hb.size, fun k hk _ => hb.block k hk⟩
theorem Only.below {w w' : World} {B g : Nat} (h : Only w w' g) (hB : B ≤ g) (hw : B ≤ w.heap.size) : Below B w w' := ⟨h.os, h.tape, h.output, h.size, fun k hk => h.block k (by omega) (by omega)⟩
theorem Only.set (w : World) (g i : Nat) (u : Value) : Only w (w.setCell ⟨g, i, none⟩ u) g := ⟨rfl, rfl, rfl, by simp, fun k _ hk => heap_setCell_other w ⟨g, i, none⟩ k u hk⟩
theorem Txt.only {w w' : World} {g : Nat} {A : Option Addr} {l : Text} (h : Txt w A l) (ho : Only w w' g) (hA : ∀ a, A = some a → a.block ≠ g) : Txt w' A l := fun hn => by
  obtain ⟨a, e, hb, hc⟩ := h hn
  refine ⟨a, e, Nat.lt_of_lt_of_le hb ho.size, fun i hi => ?_⟩
  have : (a.add i).block = a.block := add_block a i
  rw [World.cell?_of_block (w := w) (by rw [this]; exact ho.block _ hb (hA a e))]
  exact hc i hi

/-- so many bytes, taken -/
def Taken (w : World) (g : Nat) (b : Bool) (rest : Text) (many : Nat) (e : Ending) (w' : World) : Prop :=
  ∃ A c, e = .returned (.slice A (rest.take many).length c) ∧ Txt w' A (rest.take many) ∧ (A = none → rest.take many = []) ∧ Rdr w' g b (rest.drop many) ∧ Only w w' g
theorem taken_of {w : World} {g : Nat} {b : Bool} {rest : Text} {many c : Nat} {a a' : Addr} (hh : w.heap[g]? = some (.cells #[.bool true, .bool b, .slice (some a) rest.length c] 94 (0, 0))) (hc : rest.length ≤ c) (hm : c ≤ maxLen) (hT : Txt w (some a) rest) (hg : a.block < g) (hk : many ≤ rest.length)
    (ha : a' = if c = many then a else a.add many) : Taken w g b rest many (.returned (.slice (some a) many c)) (w.setCell ⟨g, 2, none⟩ (.slice (some a') (rest.length - many) (c - many))) := by
  have ho := Only.set w g 2 (.slice (some a') (rest.length - many) (c - many))
  have hl : (rest.take many).length = many := by rw [List.length_take]; omega
  have hd : (rest.drop many).length = rest.length - many := List.length_drop
  refine ⟨some a, c, by rw [hl], (hT.take many).only ho (fun x hx => by injection hx with hx; rw [← hx]; exact Nat.ne_of_lt hg), by simp, ⟨some a', c - many, ?_, by rw [hd]; omega, Nat.le_trans (Nat.sub_le _ _) hm, ?_, by simp, fun x hx => ?_⟩, ho⟩
  · rw [heap_setCell_same w g 2 _ _ _ hh, hd]; rfl
  · by_cases h : c = many
    · have : rest.drop many = [] := List.drop_eq_nil_of_le (by omega)
      rw [this]; exact Txt.none_
    · have hx := (hT.drop many).only ho (fun x hx => by injection hx with hx; rw [← hx, add_block]; exact Nat.ne_of_lt hg)
      rw [if_neg h] at ha
      rw [← ha] at hx
      exact hx
  · injection hx with hx
    rw [← hx, ha]
    by_cases h : c = many
    · rw [if_pos h]; exact hg
    · rw [if_neg h, add_block]; exact hg

set_option maxHeartbeats 1000000 in
theorem take_no (w : World) (g : Nat) (b : Bool) (rest : Text) (many : Nat) (hr : Rdr w g b rest) (h : rest.length < many) :
    Calls Tryz.prog 116 #[.pointer (some ⟨g, 0, none⟩), .int .i64 many] w fun e w' => e = .panicked raise ∧ w = w' := by
  obtain ⟨A, c, hh, hc, _, _, _, _⟩ := hr
  have h2 := cell_of_row w g 2 _ _ _ hh
  simp only [List.getElem?_toArray, List.getElem?_cons_zero, List.getElem?_cons_succ] at h2
  clear hh
  go_enter Tryz.func116, Tryz.ntmps116
  go_wp2_with (go_at_call 118; refine (must_n (decide_eq_false (by omega)) _).mono ?_; rintro e w' ⟨rfl, rfl⟩)
  exact ⟨rfl, rfl, rfl⟩
set_option maxHeartbeats 2000000 in
theorem take_yes (w : World) (g : Nat) (b : Bool) (rest : Text) (many : Nat) (hr : Rdr w g b rest) (h : many ≤ rest.length) :
    Calls Tryz.prog 116 #[.pointer (some ⟨g, 0, none⟩), .int .i64 many] w (Taken w g b rest many) := by
  obtain ⟨A, c, hh, hc, hm, hT, hA, hg⟩ := hr
  have h2 := cell_of_row w g 2 _ _ _ hh
  have f2 := frozen_of_row w g 2 _ _ hh
  simp only [List.getElem?_toArray, List.getElem?_cons_zero, List.getElem?_cons_succ] at h2
  unfold maxLen at hm
  have hmc : (many : Int) ≤ (c : Int) := by omega
  have hml : (many : Int) ≤ (rest.length : Int) := by omega
  have hc2 : (c : Int) ≤ 9223372036854775807 := by omega
  cases A with
  | none =>
    have := hA rfl
    subst this
    obtain rfl : many = 0 := by simpa using h
    have HQ : Hid (∀ w', w' = w.setCell ⟨g, 2, none⟩ (.slice none 0 c) → Taken w g b [] 0 (.returned (.slice none 0 c)) w') := Lib.hid (fun w' hw' => by
      subst hw'
      exact ⟨none, c, rfl, Txt.none_, fun _ => rfl, ⟨none, c, by rw [heap_setCell_same w g 2 _ _ _ hh]; rfl, Nat.zero_le _, by unfold maxLen; omega, Txt.none_, fun _ => rfl, by simp⟩, Only.set w g 2 _⟩)
    clear hh hT hA hg
    go_enter Tryz.func116, Tryz.ntmps116
    go_wp2_with (go_at_call 118; refine (must_yes _).mono ?_; rintro e w' ⟨rfl, rfl⟩)
    go_ret
    exact HQ.out _ rfl
  | some a =>
    by_cases hcm : c = many
    · subst hcm
      have HQ0 := taken_of hh hc (by unfold maxLen; omega) hT (hg a rfl) h (a' := a) (by rw [if_pos rfl])
      have e0 : rest.length - c = 0 := by omega
      rw [Nat.sub_self, e0] at HQ0
      have HQ := Lib.hid HQ0
      clear hh hT hA hg HQ0
      go_enter Tryz.func116, Tryz.ntmps116
      go_wp2_with (go_at_call 118; refine (must_yes _).mono ?_; rintro e w' ⟨rfl, rfl⟩)
      go_ret
      exact HQ.out
    · have HQ : Hid (Taken w g b rest many (.returned (.slice (some a) many c)) (w.setCell ⟨g, 2, none⟩ (.slice (some (a.add many)) (rest.length - many) (c - many)))) := Lib.hid (taken_of hh hc (by unfold maxLen; omega) hT (hg a rfl) h (by rw [if_neg hcm]))
      clear hh hT hA hg
      go_enter Tryz.func116, Tryz.ntmps116
      go_wp2_with (go_at_call 118; refine (must_yes _).mono ?_; rintro e w' ⟨rfl, rfl⟩)
      go_ret
      exact HQ.out
end Go.Proofs.YtplghpamckdklaaGreat

namespace Go.Proofs.YtplghpamckdklaaGreat
open Go.RowKit
set_option maxRecDepth 100000

/-- what was raised, behind whatever was taken -/
def Pan (w : World) (g : Nat) (e : Ending) (w' : World) : Prop := e = .panicked raise ∧ Only w w' g ∧ ∃ b rest, Rdr w' g b rest
/-- a size, read -/
def Sized (w : World) (g : Nat) (b : Bool) (rest : Text) (many : Nat) (e : Ending) (w' : World) : Prop :=
  e = .returned (.int .i64 (Blob.val (rest.take many) : Nat)) ∧ Rdr w' g b (rest.drop many) ∧ Only w w' g
def okS (rest : Text) (many : Nat) : Prop := many ≤ 8 ∧ many ≤ rest.length ∧ (many = 0 ∨ rest[0]? ≠ some 0) ∧ Blob.val (rest.take many) ≤ 9223372036854775807

theorem take_next {α : Type} (l : List α) (k : Nat) (h : k < l.length) : l.take (k + 1) = l.take k ++ [l[k]] := by
  rw [List.take_succ_eq_append_getElem h]
theorem or_byte (v : Nat) (x : UInt8) (h : v * 256 < 18446744073709551616) : bits .or .u64 (IntKind.u64.wrap ((v : Int) * (256 : Int))) (IntKind.u64.wrap ((x.toNat : Nat) : Int)) = ((v * 256 + x.toNat : Nat) : Int) := by
  have hx := x.toNat_lt
  have e1 : IntKind.u64.wrap ((v : Int) * (256 : Int)) = ((v * 256 : Nat) : Int) := by rw [IntKind.wrap_u64]; omega
  have e2 : IntKind.u64.wrap ((x.toNat : Nat) : Int) = ((x.toNat : Nat) : Int) := by rw [IntKind.wrap_u64]; omega
  rw [e1, e2, u64_or_nat _ _ h (by omega)]
  have : 2 ^ 8 * v + x.toNat = 2 ^ 8 * v ||| x.toNat := Nat.two_pow_add_eq_or_of_lt (i := 8) hx v
  rw [Nat.mul_comm v 256]
  congr 1
  exact this.symm

set_option maxHeartbeats 1000000 in
theorem size_long (w : World) (g : Nat) (b : Bool) (rest : Text) (many : Nat) (hr : Rdr w g b rest) (h : 8 < many) :
    Calls Tryz.prog 117 #[.pointer (some ⟨g, 0, none⟩), .int .i64 many] w (Pan w g) := by
  have HR := Lib.hid hr
  clear hr
  go_enter Tryz.func117, Tryz.ntmps117
  go_wp2_with (go_at_call 118; refine (must_n (decide_eq_false (by omega)) _).mono ?_; rintro e w' ⟨rfl, rfl⟩)
  exact ⟨rfl, rfl, Only.refl _ _, _, _, HR.out⟩
set_option maxHeartbeats 1000000 in
theorem size_short (w : World) (g : Nat) (b : Bool) (rest : Text) (many : Nat) (hr : Rdr w g b rest) (h : many ≤ 8) (h2 : rest.length < many) :
    Calls Tryz.prog 117 #[.pointer (some ⟨g, 0, none⟩), .int .i64 many] w (Pan w g) := by
  have HR := Lib.hid hr
  have HT := Lib.hid (take_no w g b rest many hr h2)
  have h8 : (many : Int) ≤ 8 := by omega
  clear hr h2
  go_enter Tryz.func117, Tryz.ntmps117
  go_wp2_with (first
    | (go_at_call 118; refine (must_yes _).mono ?_; rintro e w' ⟨rfl, rfl⟩)
    | (go_at_call 116; refine HT.out.mono ?_; rintro e w' ⟨rfl, rfl⟩))
  exact ⟨rfl, rfl, Only.refl _ _, _, _, HR.out⟩
set_option maxHeartbeats 1000000 in
theorem size_nought (w : World) (g : Nat) (b : Bool) (rest : Text) (many : Nat) (hr : Rdr w g b rest) (h : many ≤ 8) (h2 : many ≤ rest.length) (h0 : 0 < many) (hz : rest[0]? = some 0) :
    Calls Tryz.prog 117 #[.pointer (some ⟨g, 0, none⟩), .int .i64 many] w (Pan w g) := by
  have hl : (rest.take many).length = many := by rw [List.length_take]; omega
  have HT : Hid (Calls Tryz.prog 116 #[.pointer (some ⟨g, 0, none⟩), .int .i64 many] w fun e w' => ∃ a c, e = .returned (.slice (some a) many c) ∧ w'.cell? a = some (.int .u8 0) ∧ Pan w g (.panicked raise) w') := Lib.hid (by
    refine (take_yes w g b rest many hr h2).mono fun e w' ⟨A, c, h3, h4, h5, h6, h7⟩ => ?_
    obtain ⟨a, rfl, _, hc⟩ := h4.at_ (k := 0) (by omega)
    rw [hl] at h3
    refine ⟨a, c, h3, ?_, rfl, h7, b, _, h6⟩
    have e1 : (rest.take many)[0]'(by omega) = 0 := by
      rw [List.getElem_take]
      rw [List.getElem?_eq_getElem (by omega)] at hz
      exact Option.some.inj hz
    rw [e1] at hc
    simpa [Addr.add] using hc)
  have h8 : (many : Int) ≤ 8 := by omega
  have hne : ((many : Int) == 0) = false := beq_false_of_ne (by omega)
  have hp : (0 : Int) < (many : Int) := by omega
  clear hr h2 hz hl
  go_enter Tryz.func117, Tryz.ntmps117
  go_wp2_with (first
    | (go_at_call 116; refine HT.out.mono ?_; rintro e w1 ⟨a, c, rfl, hc1, hp1⟩; have HP1 := Lib.hid hp1; clear hp1)
    | (go_at_call 118; refine (must_yes _).mono ?_; rintro e w' ⟨rfl, rfl⟩)
    | (go_at_call 118; refine (must_no _).mono ?_; rintro e w' ⟨rfl, rfl⟩))
  exact ⟨rfl, HP1.out⟩
set_option maxHeartbeats 1000000 in
theorem size_zero (w : World) (g : Nat) (b : Bool) (rest : Text) (hr : Rdr w g b rest) :
    Calls Tryz.prog 117 #[.pointer (some ⟨g, 0, none⟩), .int .i64 0] w (Sized w g b rest 0) := by
  have HT : Hid (Calls Tryz.prog 116 #[.pointer (some ⟨g, 0, none⟩), .int .i64 0] w fun e w' => ∃ A c, e = .returned (.slice A 0 c) ∧ Hid (Rdr w' g b rest ∧ Only w w' g)) := Lib.hid (by
    refine (take_yes w g b rest 0 hr (Nat.zero_le _)).mono fun e w' ⟨A, c, h3, h4, h5, h6, h7⟩ => ?_
    exact ⟨A, c, h3, Lib.hid ⟨h6, h7⟩⟩)
  clear hr
  go_enter Tryz.func117, Tryz.ntmps117
  go_wp2_with (first
    | (go_at_call 116; refine HT.out.mono ?_; rintro e w1 ⟨A, c, rfl, HR1⟩)
    | (go_at_call 118; refine (must_yes _).mono ?_; rintro e w' ⟨rfl, rfl⟩))
  go_loop [6, 26] (fun s i => s = .int .u64 0 ∧ i = .int .i64 0) (fun _ i => (0 - intOf i).toNat)
  case atStart => exact ⟨rfl, rfl⟩
  case round =>
    obtain ⟨rfl, rfl⟩ := hrel
    go_wp2_with (go_at_call 118; refine (must_yes _).mono ?_; rintro e w' ⟨rfl, rfl⟩)
    go_ret
    exact ⟨rfl, HR1.out⟩
set_option maxRecDepth 100000 in
set_option maxHeartbeats 4000000 in
theorem size_pos (w : World) (g : Nat) (b : Bool) (rest : Text) (many V : Nat) (hr : Rdr w g b rest) (h : many ≤ 8) (h2 : many ≤ rest.length) (hp : 0 < many) (hz : rest[0]? ≠ some 0) (hV : Blob.val (rest.take many) = V) (hVm : V ≤ 9223372036854775807) :
    Calls Tryz.prog 117 #[.pointer (some ⟨g, 0, none⟩), .int .i64 many] w (Sized w g b rest many) := by
  unfold Sized
  have hvm : (V : Int) ≤ 9223372036854775807 := by omega
  obtain ⟨T, hT0⟩ : ∃ T, T = rest.take many := ⟨_, rfl⟩
  have hl : T.length = many := by rw [hT0, List.length_take]; omega
  have HT : Hid (Calls Tryz.prog 116 #[.pointer (some ⟨g, 0, none⟩), .int .i64 many] w fun e w' => ∃ A c, e = .returned (.slice A many c) ∧ Hid (Txt w' A T) ∧ Hid (Rdr w' g b (rest.drop many) ∧ Only w w' g)) := Lib.hid (by
    refine (take_yes w g b rest many hr h2).mono fun e w' ⟨A, c, h3, h4, h5, h6, h7⟩ => ?_
    rw [← hT0] at h3 h4
    rw [hl] at h3
    exact ⟨A, c, h3, Lib.hid h4, Lib.hid ⟨h6, h7⟩⟩)
  have HV : Hid (Blob.val T = V) := Lib.hid (by rw [hT0]; exact hV)
  have hnz : ∃ x, T[0]? = some x ∧ ((x.toNat : Int) != 0) = true := by
    rw [hT0]
    have : (rest.take many)[0]? = rest[0]? := by rw [List.getElem?_take_of_lt hp]
    rw [this]
    obtain ⟨x, hx⟩ : ∃ x, rest[0]? = some x := ⟨_, List.getElem?_eq_getElem (by omega)⟩
    refine ⟨x, hx, ?_⟩
    have hne : x ≠ 0 := fun h0 => hz (by rw [hx, h0])
    have : x.toNat ≠ 0 := fun h0 => hne (UInt8.toNat_inj.1 h0)
    simp; omega
  have hl8 : (many : Int) ≤ 8 := by omega
  clear hr h2 hz hV
  rw [show rest.take many = T from hT0.symm]
  clear hT0
  obtain ⟨HL⟩ : Nonempty (Hid (T.length = many)) := ⟨Lib.hid hl⟩
  clear hl
  have hz0 : ((many : Int) == 0) = false := beq_false_of_ne (by omega)
  have hpi : (0 : Int) < (many : Int) := by omega
  obtain ⟨x0, hx0, hxn⟩ := hnz
  go_enter Tryz.func117, Tryz.ntmps117
  go_wp2_with (first
    | (go_at_call 116; refine HT.out.mono ?_; rintro e w1 ⟨A, c, rfl, HX, HR1⟩; obtain ⟨a0, rfl, _, hc0⟩ := HX.out.at_ (k := 0) (by rw [HL.out]; exact hp); have hc0' : w1.cell? a0 = some (.int .u8 ((x0.toNat : Nat) : Int)) := (by have e1 : T[0]'(by rw [HL.out]; exact hp) = x0 := (by rw [List.getElem?_eq_getElem (by rw [HL.out]; exact hp)] at hx0; exact Option.some.inj hx0); rw [e1] at hc0; simpa [Addr.add] using hc0))
    | (go_at_call 118; refine (must_yes _).mono ?_; rintro e w' ⟨rfl, rfl⟩))
  go_loop [6, 26] (fun s i => ∃ k : Nat, k ≤ many ∧ i = .int .i64 k ∧ s = .int .u64 (Blob.val (T.take k) : Nat)) (fun _ i => many - (intOf i).toNat)
  case atStart => exact ⟨0, Nat.zero_le _, rfl, by rw [List.take_zero]; rfl⟩
  case round =>
    obtain ⟨k, hk, rfl, rfl⟩ := hrel
    by_cases hlt : k < many
    · obtain ⟨a, ea, _, hck⟩ := HX.out.at_ (k := k) (by rw [HL.out]; exact hlt)
      obtain rfl : a0 = a := by injection ea
      clear ea
      have hkl : k < T.length := by rw [HL.out]; exact hlt
      have HN : Hid (Blob.val (T.take (k + 1)) = Blob.val (T.take k) * 256 + T[k].toNat) := Lib.hid (by rw [take_next T k hkl, Blob.val_snoc])
      have hvl : Blob.val (T.take k) * 256 < 18446744073709551616 := by
        have h1 := Blob.val_lt (T.take k)
        have h2 : (T.take k).length ≤ 7 := by rw [List.length_take]; omega
        have h3 : 256 ^ (T.take k).length ≤ 256 ^ 7 := Nat.pow_le_pow_right (by omega) h2
        omega
      have HO := Lib.hid (or_byte (Blob.val (T.take k)) T[k] hvl)
      generalize Blob.val (T.take k) = v at *
      generalize T[k] = x at *
      clear hvl hkl
      go_wp2
      rw [HO.out]
      go_round
      case rel => exact ⟨k + 1, by omega, by go_num, by rw [HN.out]⟩
      case measure => simp [intOf]; omega
    · obtain rfl : k = many := by omega
      have HE : Hid (Blob.val (T.take k) = V) := Lib.hid (by rw [List.take_of_length_le (by rw [HL.out]; exact Nat.le_refl _)]; exact HV.out)
      rw [HE.out]
      go_wp2_with (go_at_call 118; refine (must_yes _).mono ?_; rintro e w' ⟨rfl, rfl⟩)
      go_ret
      exact ⟨by rw [HV.out]; rfl, HR1.out⟩
set_option maxRecDepth 100000 in
set_option maxHeartbeats 4000000 in
theorem size_big (w : World) (g : Nat) (b : Bool) (rest : Text) (many V : Nat) (hr : Rdr w g b rest) (h : many ≤ 8) (h2 : many ≤ rest.length) (hp : 0 < many) (hz : rest[0]? ≠ some 0) (hV : Blob.val (rest.take many) = V) (hVm : 9223372036854775807 < V) :
    Calls Tryz.prog 117 #[.pointer (some ⟨g, 0, none⟩), .int .i64 many] w (Pan w g) := by
  have hvm : 9223372036854775807 < (V : Int) := by omega
  have hvd : decide ((V : Int) ≤ 9223372036854775807) = false := decide_eq_false (by omega)
  obtain ⟨T, hT0⟩ : ∃ T, T = rest.take many := ⟨_, rfl⟩
  have hl : T.length = many := by rw [hT0, List.length_take]; omega
  have HT : Hid (Calls Tryz.prog 116 #[.pointer (some ⟨g, 0, none⟩), .int .i64 many] w fun e w' => ∃ A c, e = .returned (.slice A many c) ∧ Hid (Txt w' A T) ∧ Hid (Rdr w' g b (rest.drop many) ∧ Only w w' g)) := Lib.hid (by
    refine (take_yes w g b rest many hr h2).mono fun e w' ⟨A, c, h3, h4, h5, h6, h7⟩ => ?_
    rw [← hT0] at h3 h4
    rw [hl] at h3
    exact ⟨A, c, h3, Lib.hid h4, Lib.hid ⟨h6, h7⟩⟩)
  have HV : Hid (Blob.val T = V) := Lib.hid (by rw [hT0]; exact hV)
  have hnz : ∃ x, T[0]? = some x ∧ ((x.toNat : Int) != 0) = true := by
    rw [hT0]
    have : (rest.take many)[0]? = rest[0]? := by rw [List.getElem?_take_of_lt hp]
    rw [this]
    obtain ⟨x, hx⟩ : ∃ x, rest[0]? = some x := ⟨_, List.getElem?_eq_getElem (by omega)⟩
    refine ⟨x, hx, ?_⟩
    have hne : x ≠ 0 := fun h0 => hz (by rw [hx, h0])
    have : x.toNat ≠ 0 := fun h0 => hne (UInt8.toNat_inj.1 h0)
    simp; omega
  have hl8 : (many : Int) ≤ 8 := by omega
  clear hr h2 hz hV
  clear hT0
  obtain ⟨HL⟩ : Nonempty (Hid (T.length = many)) := ⟨Lib.hid hl⟩
  clear hl
  have hz0 : ((many : Int) == 0) = false := beq_false_of_ne (by omega)
  have hpi : (0 : Int) < (many : Int) := by omega
  obtain ⟨x0, hx0, hxn⟩ := hnz
  go_enter Tryz.func117, Tryz.ntmps117
  go_wp2_with (first
    | (go_at_call 116; refine HT.out.mono ?_; rintro e w1 ⟨A, c, rfl, HX, HR1⟩; obtain ⟨a0, rfl, _, hc0⟩ := HX.out.at_ (k := 0) (by rw [HL.out]; exact hp); have hc0' : w1.cell? a0 = some (.int .u8 ((x0.toNat : Nat) : Int)) := (by have e1 : T[0]'(by rw [HL.out]; exact hp) = x0 := (by rw [List.getElem?_eq_getElem (by rw [HL.out]; exact hp)] at hx0; exact Option.some.inj hx0); rw [e1] at hc0; simpa [Addr.add] using hc0))
    | (go_at_call 118; refine (must_yes _).mono ?_; rintro e w' ⟨rfl, rfl⟩))
  go_loop [6, 26] (fun s i => ∃ k : Nat, k ≤ many ∧ i = .int .i64 k ∧ s = .int .u64 (Blob.val (T.take k) : Nat)) (fun _ i => many - (intOf i).toNat)
  case atStart => exact ⟨0, Nat.zero_le _, rfl, by rw [List.take_zero]; rfl⟩
  case round =>
    obtain ⟨k, hk, rfl, rfl⟩ := hrel
    by_cases hlt : k < many
    · obtain ⟨a, ea, _, hck⟩ := HX.out.at_ (k := k) (by rw [HL.out]; exact hlt)
      obtain rfl : a0 = a := by injection ea
      clear ea
      have hkl : k < T.length := by rw [HL.out]; exact hlt
      have HN : Hid (Blob.val (T.take (k + 1)) = Blob.val (T.take k) * 256 + T[k].toNat) := Lib.hid (by rw [take_next T k hkl, Blob.val_snoc])
      have hvl : Blob.val (T.take k) * 256 < 18446744073709551616 := by
        have h1 := Blob.val_lt (T.take k)
        have h2 : (T.take k).length ≤ 7 := by rw [List.length_take]; omega
        have h3 : 256 ^ (T.take k).length ≤ 256 ^ 7 := Nat.pow_le_pow_right (by omega) h2
        omega
      have HO := Lib.hid (or_byte (Blob.val (T.take k)) T[k] hvl)
      generalize Blob.val (T.take k) = v at *
      generalize T[k] = x at *
      clear hvl hkl
      go_wp2
      rw [HO.out]
      go_round
      case rel => exact ⟨k + 1, by omega, by go_num, by rw [HN.out]⟩
      case measure => simp [intOf]; omega
    · obtain rfl : k = many := by omega
      have HE : Hid (Blob.val (T.take k) = V) := Lib.hid (by rw [List.take_of_length_le (by rw [HL.out]; exact Nat.le_refl _)]; exact HV.out)
      rw [HE.out]
      go_wp2_with (go_at_call 118; (with_reducible refine (must_no _).mono ?_); rintro e w' ⟨rfl, rfl⟩)
      exact ⟨rfl, rfl, HR1.out.2, _, _, HR1.out.1⟩
end Go.Proofs.YtplghpamckdklaaGreat
