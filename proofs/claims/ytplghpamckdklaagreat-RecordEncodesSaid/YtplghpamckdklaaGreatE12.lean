/- What a writer keeps beside a box of the call's own; a year, written. Documents as bytes, written. A reader: what must be, what is taken. -/
import Derived.Test.YtplghpamckdklaaGreatE9
import Derived.Test.YtplghpamckdklaaGreatE11
import Derived.WalkMore
import Derived.Test.YtplghpamckdklaaGreatE5
import Derived.Defers
import Derived.Recover
import Derived.WalkLawsBesides
namespace Go.Proofs.YtplghpamckdklaaGreat
open Go.RowKit
set_option maxRecDepth 100000
set_option linter.unusedSimpArgs false
set_option linter.unusedVariables false

/-- a writer at g, and beside it a box that its calls leave alone -/
def WB (w : World) (B g : Nat) (S : Option Text) (b : Nat) (o : Obj) : Prop := ∃ v, Wrt w B g S v ∧ B ≤ w.heap.size ∧ w.heap[b]? = some o ∧ b ≠ g ∧ v.ownBlock ≠ some b
theorem WB.box {w : World} {B g b : Nat} {S : Option Text} {o : Obj} (h : WB w B g S b o) : w.heap[b]? = some o := h.choose_spec.2.2.1
theorem WB.start {w : World} {B g : Nat} {S : Option Text} {v : Value} (h : Wrt w B g S v) (hB : B ≤ w.heap.size) (o : Obj) : WB (w.alloc o) B g S w.heap.size o :=
 ⟨v, h.below (below_alloc w o), by simp; omega, heap_alloc_new w o, Nat.ne_of_gt h.lt, fun e => by have := (h.2.2.1.lt w.heap.size e).2; omega⟩
theorem WB.drew {w : World} {B g b : Nat} {S : Option Text} {o : Obj} (h : WB w B g S b o) : WB w.drew B g S b o := by
 obtain ⟨v, h1, h2, h3, h4, h5⟩ := h
 exact ⟨v, h1.below (below_drew w), h2, h3, h4, h5⟩
theorem WB.of_put {w w1 : World} {B g b : Nat} {S d : Option Text} {o : Obj} {v : Value} {e : Ending} (h1 : Wrt w B g S v) (h2 : B ≤ w.heap.size) (h3 : w.heap[b]? = some o) (h4 : b ≠ g) (h5 : v.ownBlock ≠ some b) (h : Put w B g S v d e w1) :
 e = .returned (.pointer (some ⟨g, 0, none⟩)) ∧ WB w1 B g (nextS S d) b o ∧ Below B w w1 := by
 obtain ⟨he, v', hw, hc, ho⟩ := h
 refine ⟨he, ⟨v', hw, Nat.le_trans h2 hc.size, (hc.block b (heapLt h3) h4 (fun e => h5 e.symm)).trans h3, h4, ?_⟩, hc.below h1 h2⟩
 rcases ho with ho | ho | ⟨k, ho, hk⟩
 · rw [ho]; exact h5
 · rw [ho]; simp
 · rw [ho]
   intro e
   have := heapLt h3
   have e2 : k = b := Option.some.inj e
   omega
theorem WB.num {w : World} {B g b : Nat} {S : Option Text} {o : Obj} (h : WB w B g S b o) (n : Int) (h1 : -9223372036854775808 ≤ n) (h2 : n ≤ 9223372036854775807) (hS : (S.getD []).length ≤ 140737488000000) :
 Calls Tryz.prog 66 #[.pointer (some ⟨g, 0, none⟩), .int .i64 n] w fun e w1 => e = .returned (.pointer (some ⟨g, 0, none⟩)) ∧ WB w1 B g (nextS S (docN n)) b o ∧ Below B w w1 := by
 obtain ⟨v, a1, a2, a3, a4, a5⟩ := h
 exact (code_wnum n w B g S v a1 a2 h1 h2 hS).mono fun e w1 hp => WB.of_put a1 a2 a3 a4 a5 hp
theorem WB.text {w : World} {B g b : Nat} {S : Option Text} {o : Obj} (h : WB w B g S b o) (s : ByteArray) (h1 : s.size ≤ 9223372036854775807) (hS : (S.getD []).length ≤ 140737488000000) :
 Calls Tryz.prog 67 #[.pointer (some ⟨g, 0, none⟩), .string s] w fun e w1 => e = .returned (.pointer (some ⟨g, 0, none⟩)) ∧ WB w1 B g (nextS S (docS s)) b o ∧ Below B w w1 := by
 obtain ⟨v, a1, a2, a3, a4, a5⟩ := h
 exact (code_wtext s w B g S v a1 a2 h1 hS).mono fun e w1 hp => WB.of_put a1 a2 a3 a4 a5 hp
def Wrote (w : World) (B g : Nat) (S : Option Text) (e : Ending) (w1 : World) : Prop := e = .returned (.tuple #[]) ∧ (∃ v, Wrt w1 B g S v) ∧ Below B w w1
set_option maxHeartbeats 1000000 in
theorem write_11 (cs : Array Value) (y : Int) (B g : Nat) (S : Option Text) (v : Value) (w : World) (hw : Wrt w B g S v) (hB : B ≤ w.heap.size) (hk : cs[0]? = some (.int .i64 11)) (hy : cs[11]? = some (.int .i64 y)) (hy1 : 0 ≤ y) (hy2 : y ≤ 9999) (hS : (S.getD []).length ≤ 140737488000000) (hS2 : ((nextS S (docN 11)).getD []).length ≤ 140737488000000) : Calls Tryz.prog 39 #[.pointer (some ⟨g, 0, none⟩), .agg cs] w fun e w1 => Wrote w B g (nextS (nextS S (docN 11)) (docN y)) e w1 := by
 have HS := Lib.hid (WB.start hw hB (.cells cs 28 (0, 0)))
 have HB0 := Lib.hid (show Below B w (w.alloc (.cells cs 28 (0, 0))) from (Below.refl _ _).alloc hB _)
 have HKs := Lib.hid (And.intro hk hy)
 have HL := Lib.hid (And.intro hS hS2)
 clear hw hS hS2
 have k0 := (cell_of_row _ _ 0 _ _ _ HS.out.box).trans hk
 clear hk hy
 go_enter Tryz.func39, Tryz.ntmps39
 go_wp2_with (go_at_call 66; refine (HS.out.num 11 (by decide) (by decide) HL.out.1).mono ?_; rintro e w1 ⟨rfl, hs1, hb⟩; have HS1 := Lib.hid hs1; have HB1 := Lib.hid (HB0.out.trans hb); clear hs1 hb k0; have k0 := (cell_of_row _ _ 0 _ _ _ HS1.out.box).trans HKs.out.1; have k11 := (cell_of_row _ _ 11 _ _ _ HS1.out.box).trans HKs.out.2; refine Stop.out ?_)
 unfold Stop
 go_wp2_with (go_at_call 66; refine (HS1.out.num y (by omega) (by omega) HL.out.2).mono ?_; rintro e w2 ⟨rfl, hs2, hb⟩; have HS2 := Lib.hid hs2; have HB2 := Lib.hid (HB1.out.trans hb); clear hs2 hb)
 go_end0
 obtain ⟨v2, hv2, _⟩ := HS2.out
 exact ⟨rfl, ⟨v2, hv2⟩, HB2.out⟩
end Go.Proofs.YtplghpamckdklaaGreat

namespace Go.Proofs.YtplghpamckdklaaGreat
open Go.RowKit
set_option maxRecDepth 100000
set_option linter.unusedSimpArgs false
set_option linter.unusedVariables false

theorem nextS_len (S d : Option Text) : ((nextS S d).getD []).length ≤ (S.getD []).length + (d.getD []).length := by
 cases S <;> cases d <;> simp [nextS]
/-- a writer beside a box, and how much it has at most -/
def WN (w : World) (B g : Nat) (S : Option Text) (b : Nat) (o : Obj) (N : Nat) : Prop := WB w B g S b o ∧ (S.getD []).length ≤ N
theorem WN.box {w : World} {B g b N : Nat} {S : Option Text} {o : Obj} (h : WN w B g S b o N) : w.heap[b]? = some o := h.1.box
theorem WN.drew {w : World} {B g b N : Nat} {S : Option Text} {o : Obj} (h : WN w B g S b o N) : WN w.drew B g S b o N := ⟨h.1.drew, h.2⟩
theorem WN.num {w : World} {B g b N : Nat} {S : Option Text} {o : Obj} (h : WN w B g S b o N) (n : Int) (h1 : -9223372036854775808 ≤ n) (h2 : n ≤ 9223372036854775807) (hN : N ≤ 140737488000000) :
 Calls Tryz.prog 66 #[.pointer (some ⟨g, 0, none⟩), .int .i64 n] w fun e w1 => e = .returned (.pointer (some ⟨g, 0, none⟩)) ∧ WN w1 B g (nextS S (docN n)) b o (N + 70000) ∧ Below B w w1 :=
 (h.1.num n h1 h2 (Nat.le_trans h.2 hN)).mono fun e w1 ⟨a1, a2, a3⟩ => ⟨a1, ⟨a2, by have := nextS_len S (docN n); have := docN_len n h1 h2; have := h.2; omega⟩, a3⟩
theorem WN.text {w : World} {B g b N : Nat} {S : Option Text} {o : Obj} (h : WN w B g S b o N) (s : ByteArray) (h1 : s.size ≤ 9223372036854775807) (hN : N ≤ 140737488000000) :
 Calls Tryz.prog 67 #[.pointer (some ⟨g, 0, none⟩), .string s] w fun e w1 => e = .returned (.pointer (some ⟨g, 0, none⟩)) ∧ WN w1 B g (nextS S (docS s)) b o (N + 70000) ∧ Below B w w1 :=
 (h.1.text s h1 (Nat.le_trans h.2 hN)).mono fun e w1 ⟨a1, a2, a3⟩ => ⟨a1, ⟨a2, by have := nextS_len S (docS s); have := docS_len s; have := h.2; omega⟩, a3⟩
theorem WN.flag {w : World} {B g b N : Nat} {S : Option Text} {o : Obj} (h : WN w B g S b o N) (f : Bool) (hN : N ≤ 140737488000000) :
 Calls Tryz.prog 95 #[.pointer (some ⟨g, 0, none⟩), .bool f] w fun e w1 => e = .returned (.pointer (some ⟨g, 0, none⟩)) ∧ WN w1 B g (nextS S (some (flagT f))) b o (N + 70000) ∧ Below B w w1 := by
 obtain ⟨⟨v, a1, a2, a3, a4, a5⟩, hl⟩ := h
 refine (code_wflag f w B g S v a1 a2 (Nat.le_trans hl hN)).mono fun e w1 hp => ?_
 obtain ⟨b1, b2, b3⟩ := WB.of_put a1 a2 a3 a4 a5 hp
 have hf : ((some (flagT f)).getD []).length ≤ 70000 := by
  cases f <;> simp [flagT]
 exact ⟨b1, ⟨b2, by have := nextS_len S (some (flagT f)); omega⟩, b3⟩
theorem WN.start {w : World} {B g N : Nat} {S : Option Text} {v : Value} (h : Wrt w B g S v) (hB : B ≤ w.heap.size) (hl : (S.getD []).length ≤ N) (o : Obj) : WN (w.alloc o) B g S w.heap.size o N := ⟨WB.start h hB o, hl⟩
def headT (S : Option Text) (d : DocV) : Option Text := (nextS (nextS (nextS (nextS (nextS (nextS (nextS (nextS (nextS S (docS d.id)) (some (flagT d.sale))) (some (flagT d.credit))) (docS d.refers)) (docN d.day)) (docS d.country)) (docS d.number)) (docS d.currency)) (docN d.lines.length))
def lineT (S : Option Text) (l : LineV) : Option Text := (nextS (nextS (nextS (nextS (nextS (nextS (nextS (nextS (nextS S (docN l.1)) (docN l.2.1)) (docS l.2.2.1)) (docS l.2.2.2.1)) (docS l.2.2.2.2.1)) (docN l.2.2.2.2.2.1)) (some (flagT l.2.2.2.2.2.2.1))) (docN l.2.2.2.2.2.2.2.1)) (some (flagT l.2.2.2.2.2.2.2.2)))
def linesT (S : Option Text) (L : List LineV) : Option Text := L.foldl lineT S
def lineR (l : LineV) : Prop := (-9223372036854775808 ≤ l.1 ∧ l.1 ≤ 9223372036854775807) ∧ (-9223372036854775808 ≤ l.2.1 ∧ l.2.1 ≤ 9223372036854775807) ∧ (-9223372036854775808 ≤ l.2.2.2.2.2.1 ∧ l.2.2.2.2.2.1 ≤ 9223372036854775807) ∧ (-9223372036854775808 ≤ l.2.2.2.2.2.2.2.1 ∧ l.2.2.2.2.2.2.2.1 ≤ 9223372036854775807) ∧ l.2.2.1.size ≤ 140737488351232 ∧ l.2.2.2.1.size ≤ 140737488351232 ∧ l.2.2.2.2.1.size ≤ 140737488351232
theorem linesT_next {S : Option Text} {L : List LineV} {k : Nat} (hk : k < L.length) : linesT S (L.take (k + 1)) = lineT (linesT S (L.take k)) L[k] := by
 unfold linesT
 rw [List.take_succ_eq_append_getElem hk, List.foldl_append]
 rfl
end Go.Proofs.YtplghpamckdklaaGreat

namespace Go.Proofs.YtplghpamckdklaaGreat
open Go.RowKit
set_option maxRecDepth 100000

theorem must_yes (w : World) : Calls Tryz.prog 118 #[.bool true] w fun e w' => e = .returned (.tuple #[]) ∧ w = w' := by
 go_enter Tryz.func118, Tryz.ntmps118
 go_wp2
 go_end0
 exact ⟨rfl, rfl⟩
/-- what is raised -/
def raise : List PanicEntry := [{ v := .iface 37 (.int .i64 10), recovered := false }]
theorem must_no (w : World) : Calls Tryz.prog 118 #[.bool false] w fun e w' => e = .panicked raise ∧ w = w' := by
 go_enter Tryz.func118, Tryz.ntmps118
 go_wp2
 exact ⟨rfl, rfl, rfl⟩
theorem must_y {x : Bool} (h : x = true) (w : World) : Calls Tryz.prog 118 #[.bool x] w fun e w' => e = .returned (.tuple #[]) ∧ w = w' := by
 subst h; exact must_yes w
theorem must_n {x : Bool} (h : x = false) (w : World) : Calls Tryz.prog 118 #[.bool x] w fun e w' => e = .panicked raise ∧ w = w' := by
 subst h; exact must_no w

/-- a reader in block g: is it bad, and what it has left -/
def Rdr (w : World) (g : Nat) (b : Bool) (rest : Text) : Prop :=
 ∃ A c, w.heap[g]? = some (.cells #[.bool true, .bool b, .slice A rest.length c] 94 (0, 0)) ∧ rest.length ≤ c ∧ c ≤ maxLen ∧ Txt w A rest ∧ (A = none → rest = []) ∧ ∀ a, A = some a → a.block < g
/-- nothing but block g was turned -/
structure Only (w w' : World) (g : Nat) : Prop where
 os : w'.os = w.os
 tape : w'.tape = w.tape
 output : w'.output = w.output
 size : w.heap.size ≤ w'.heap.size
 block : ∀ k, k < w.heap.size → k ≠ g → w'.heap[k]? = w.heap[k]?
theorem Only.refl (w : World) (g : Nat) : Only w w g := ⟨rfl, rfl, rfl, Nat.le_refl _, fun _ _ _ => rfl⟩
theorem Only.trans {a b c : World} {g : Nat} (h : Only a b g) (k : Only b c g) : Only a c g :=
 ⟨k.os.trans h.os, k.tape.trans h.tape, k.output.trans h.output, Nat.le_trans h.size k.size, fun i hi h1 => (k.block i (Nat.lt_of_lt_of_le hi h.size) h1).trans (h.block i hi h1)⟩
theorem Only.of_below {w w' : World} {g : Nat} (hb : Below w.heap.size w w') : Only w w' g := ⟨hb.os, hb.tape, hb.output, hb.size, fun k hk _ => hb.block k hk⟩
theorem Only.below {w w' : World} {B g : Nat} (h : Only w w' g) (hB : B ≤ g) (hw : B ≤ w.heap.size) : Below B w w' := ⟨h.os, h.tape, h.output, h.size, fun k hk => h.block k (by omega) (by omega)⟩
theorem Only.set (w : World) (g i : Nat) (u : Value) : Only w (w.setCell ⟨g, i, none⟩ u) g := ⟨rfl, rfl, rfl, by simp, fun k _ hk => heap_setCell_other w ⟨g, i, none⟩ k u hk⟩
theorem Txt.only {w w' : World} {g : Nat} {A : Option Addr} {l : Text} (h : Txt w A l) (ho : Only w w' g) (hA : ∀ a, A = some a → a.block ≠ g) : Txt w' A l := fun hn => by
 obtain ⟨a, e, hb, hc⟩ := h hn
 refine ⟨a, e, Nat.lt_of_lt_of_le hb ho.size, fun i hi => ?_⟩
 have : (a.add i).block = a.block := add_block a i
 rw [World.cell?_of_block (w := w) (by rw [this]; exact ho.block _ hb (hA a e))]
 exact hc i hi

/-- so many bytes, taken -/
def Taken (w : World) (g : Nat) (b : Bool) (rest : Text) (many : Nat) (e : Ending) (w' : World) : Prop :=
 ∃ A c, e = .returned (.slice A (rest.take many).length c) ∧ Txt w' A (rest.take many) ∧ (A = none → rest.take many = []) ∧ Rdr w' g b (rest.drop many) ∧ Only w w' g
theorem taken_of {w : World} {g : Nat} {b : Bool} {rest : Text} {many c : Nat} {a a' : Addr} (hh : w.heap[g]? = some (.cells #[.bool true, .bool b, .slice (some a) rest.length c] 94 (0, 0))) (hc : rest.length ≤ c) (hm : c ≤ maxLen) (hT : Txt w (some a) rest) (hg : a.block < g) (hk : many ≤ rest.length)
 (ha : a' = if c = many then a else a.add many) : Taken w g b rest many (.returned (.slice (some a) many c)) (w.setCell ⟨g, 2, none⟩ (.slice (some a') (rest.length - many) (c - many))) := by
 have ho := Only.set w g 2 (.slice (some a') (rest.length - many) (c - many))
 have hl : (rest.take many).length = many := by rw [List.length_take]; omega
 have hd : (rest.drop many).length = rest.length - many := List.length_drop
 refine ⟨some a, c, by rw [hl], (hT.take many).only ho (fun x hx => by injection hx with hx; rw [← hx]; exact Nat.ne_of_lt hg), by simp, ⟨some a', c - many, ?_, by rw [hd]; omega, Nat.le_trans (Nat.sub_le _ _) hm, ?_, by simp, fun x hx => ?_⟩, ho⟩
 · rw [heap_setCell_same w g 2 _ _ _ hh, hd]; rfl
 · by_cases h : c = many
   · have : rest.drop many = [] := List.drop_eq_nil_of_le (by omega)
     rw [this]; exact Txt.none_
   · have hx := (hT.drop many).only ho (fun x hx => by injection hx with hx; rw [← hx, add_block]; exact Nat.ne_of_lt hg)
     rw [if_neg h] at ha
     rw [← ha] at hx
     exact hx
 · injection hx with hx
   rw [← hx, ha]
   by_cases h : c = many
   · rw [if_pos h]; exact hg
   · rw [if_neg h, add_block]; exact hg

set_option maxHeartbeats 1000000 in
theorem take_no (w : World) (g : Nat) (b : Bool) (rest : Text) (many : Nat) (hr : Rdr w g b rest) (h : rest.length < many) :
 Calls Tryz.prog 116 #[.pointer (some ⟨g, 0, none⟩), .int .i64 many] w fun e w' => e = .panicked raise ∧ w = w' := by
 obtain ⟨A, c, hh, hc, _, _, _, _⟩ := hr
 have h2 := cell_of_row w g 2 _ _ _ hh
 simp only [List.getElem?_toArray, List.getElem?_cons_zero, List.getElem?_cons_succ] at h2
 clear hh
 go_enter Tryz.func116, Tryz.ntmps116
 go_wp2_with (go_at_call 118; refine (must_n (decide_eq_false (by omega)) _).mono ?_; rintro e w' ⟨rfl, rfl⟩)
 exact ⟨rfl, rfl, rfl⟩
set_option maxHeartbeats 2000000 in
theorem take_yes (w : World) (g : Nat) (b : Bool) (rest : Text) (many : Nat) (hr : Rdr w g b rest) (h : many ≤ rest.length) :
 Calls Tryz.prog 116 #[.pointer (some ⟨g, 0, none⟩), .int .i64 many] w (Taken w g b rest many) := by
 obtain ⟨A, c, hh, hc, hm, hT, hA, hg⟩ := hr
 have h2 := cell_of_row w g 2 _ _ _ hh
 have f2 := frozen_of_row w g 2 _ _ hh
 simp only [List.getElem?_toArray, List.getElem?_cons_zero, List.getElem?_cons_succ] at h2
 unfold maxLen at hm
 have hmc : (many : Int) ≤ (c : Int) := by omega
 have hml : (many : Int) ≤ (rest.length : Int) := by omega
 have hc2 : (c : Int) ≤ 9223372036854775807 := by omega
 cases A with
 | none =>
   have := hA rfl
   subst this
   obtain rfl : many = 0 := by simpa using h
   have HQ : Hid (∀ w', w' = w.setCell ⟨g, 2, none⟩ (.slice none 0 c) → Taken w g b [] 0 (.returned (.slice none 0 c)) w') := Lib.hid (fun w' hw' => by
    subst hw'
    exact ⟨none, c, rfl, Txt.none_, fun _ => rfl, ⟨none, c, by rw [heap_setCell_same w g 2 _ _ _ hh]; rfl, Nat.zero_le _, by unfold maxLen; omega, Txt.none_, fun _ => rfl, by simp⟩, Only.set w g 2 _⟩)
   clear hh hT hA hg
   go_enter Tryz.func116, Tryz.ntmps116
   go_wp2_with (go_at_call 118; refine (must_yes _).mono ?_; rintro e w' ⟨rfl, rfl⟩)
   go_ret
   exact HQ.out _ rfl
 | some a =>
   by_cases hcm : c = many
   · subst hcm
     have HQ0 := taken_of hh hc (by unfold maxLen; omega) hT (hg a rfl) h (a' := a) (by rw [if_pos rfl])
     have e0 : rest.length - c = 0 := by omega
     rw [Nat.sub_self, e0] at HQ0
     have HQ := Lib.hid HQ0
     clear hh hT hA hg HQ0
     go_enter Tryz.func116, Tryz.ntmps116
     go_wp2_with (go_at_call 118; refine (must_yes _).mono ?_; rintro e w' ⟨rfl, rfl⟩)
     go_ret
     exact HQ.out
   · have HQ : Hid (Taken w g b rest many (.returned (.slice (some a) many c)) (w.setCell ⟨g, 2, none⟩ (.slice (some (a.add many)) (rest.length - many) (c - many)))) := Lib.hid (taken_of hh hc (by unfold maxLen; omega) hT (hg a rfl) h (by rw [if_neg hcm]))
     clear hh hT hA hg
     go_enter Tryz.func116, Tryz.ntmps116
     go_wp2_with (go_at_call 118; refine (must_yes _).mono ?_; rintro e w' ⟨rfl, rfl⟩)
     go_ret
     exact HQ.out
end Go.Proofs.YtplghpamckdklaaGreat
