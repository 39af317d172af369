/- What a writer keeps beside a box of the call's own; a year, written. -/
import Derived.Test.YtplghpamckdklaaRcE
import Derived.Test.YtplghpamckdklaaBlobLives
import Derived.WalkMore
namespace Go.Proofs.Ytplghpamckdklaa
open Go.RowKit
set_option maxRecDepth 100000
set_option linter.unusedSimpArgs false
set_option linter.unusedVariables false

/-- a writer at g, and beside it a box that its calls leave alone -/
def WB (w : World) (B g : Nat) (S : Option Text) (b : Nat) (o : Obj) : Prop := ∃ v, Wrt w B g S v ∧ B ≤ w.heap.size ∧ w.heap[b]? = some o ∧ b ≠ g ∧ v.ownBlock ≠ some b
theorem WB.box {w : World} {B g b : Nat} {S : Option Text} {o : Obj} (h : WB w B g S b o) : w.heap[b]? = some o := h.choose_spec.2.2.1
theorem WB.start {w : World} {B g : Nat} {S : Option Text} {v : Value} (h : Wrt w B g S v) (hB : B ≤ w.heap.size) (o : Obj) : WB (w.alloc o) B g S w.heap.size o :=
  ⟨v, h.below (below_alloc w o), by simp; omega, heap_alloc_new w o, Nat.ne_of_gt h.lt, fun e => by have := (h.2.2.1.lt w.heap.size e).2; omega⟩
theorem WB.drew {w : World} {B g b : Nat} {S : Option Text} {o : Obj} (h : WB w B g S b o) : WB w.drew B g S b o := by
  obtain ⟨v, h1, h2, h3, h4, h5⟩ := h
  exact ⟨v, h1.below (below_drew w), h2, h3, h4, h5⟩
theorem WB.of_put {w w1 : World} {B g b : Nat} {S d : Option Text} {o : Obj} {v : Value} {e : Ending} (h1 : Wrt w B g S v) (h2 : B ≤ w.heap.size) (h3 : w.heap[b]? = some o) (h4 : b ≠ g) (h5 : v.ownBlock ≠ some b) (h : Put w B g S v d e w1) :
    e = .returned (.pointer (some ⟨g, 0, none⟩)) ∧ WB w1 B g (nextS S d) b o ∧ Below B w w1 := by
  obtain ⟨he, v', hw, hc, ho⟩ := h
  refine ⟨he, ⟨v', hw, Nat.le_trans h2 hc.size, (hc.block b (heapLt h3) h4 (fun e => h5 e.symm)).trans h3, h4, ?_⟩, hc.below h1 h2⟩
  rcases ho with ho | ho | ⟨k, ho, hk⟩
  · rw [ho]; exact h5
  · rw [ho]; simp
  · rw [ho]
    intro e
    have := heapLt h3
    have e2 : k = b := Option.some.inj e
    omega
theorem WB.num {w : World} {B g b : Nat} {S : Option Text} {o : Obj} (h : WB w B g S b o) (n : Int) (h1 : -9223372036854775808 ≤ n) (h2 : n ≤ 9223372036854775807) (hS : (S.getD []).length ≤ 140737488000000) :
    Calls Try.prog 50 #[.pointer (some ⟨g, 0, none⟩), .int .i64 n] w fun e w1 => e = .returned (.pointer (some ⟨g, 0, none⟩)) ∧ WB w1 B g (nextS S (docN n)) b o ∧ Below B w w1 := by
  obtain ⟨v, a1, a2, a3, a4, a5⟩ := h
  exact (code_wnum n w B g S v a1 a2 h1 h2 hS).mono fun e w1 hp => WB.of_put a1 a2 a3 a4 a5 hp
theorem WB.text {w : World} {B g b : Nat} {S : Option Text} {o : Obj} (h : WB w B g S b o) (s : ByteArray) (h1 : s.size ≤ 9223372036854775807) (hS : (S.getD []).length ≤ 140737488000000) :
    Calls Try.prog 51 #[.pointer (some ⟨g, 0, none⟩), .string s] w fun e w1 => e = .returned (.pointer (some ⟨g, 0, none⟩)) ∧ WB w1 B g (nextS S (docS s)) b o ∧ Below B w w1 := by
  obtain ⟨v, a1, a2, a3, a4, a5⟩ := h
  exact (code_wtext s w B g S v a1 a2 h1 hS).mono fun e w1 hp => WB.of_put a1 a2 a3 a4 a5 hp
def Wrote (w : World) (B g : Nat) (S : Option Text) (e : Ending) (w1 : World) : Prop := e = .returned (.tuple #[]) ∧ (∃ v, Wrt w1 B g S v) ∧ Below B w w1
set_option maxHeartbeats 1000000 in
theorem write_11 (cs : Array Value) (y : Int) (B g : Nat) (S : Option Text) (v : Value) (w : World) (hw : Wrt w B g S v) (hB : B ≤ w.heap.size) (hk : cs[0]? = some (.int .i64 11)) (hy : cs[11]? = some (.int .i64 y)) (hy1 : 0 ≤ y) (hy2 : y ≤ 9999) (hS : (S.getD []).length ≤ 140737488000000) (hS2 : ((nextS S (docN 11)).getD []).length ≤ 140737488000000) : Calls Try.prog 35 #[.pointer (some ⟨g, 0, none⟩), .agg cs] w fun e w1 => Wrote w B g (nextS (nextS S (docN 11)) (docN y)) e w1 := by
  have HS := Lib.hid (WB.start hw hB (.cells cs 28 (0, 0)))
  have HB0 := Lib.hid (show Below B w (w.alloc (.cells cs 28 (0, 0))) from (Below.refl _ _).alloc hB _)
  have HKs := Lib.hid (And.intro hk hy)
  have HL := Lib.hid (And.intro hS hS2)
  clear hw hS hS2
  have k0 := (cell_of_row _ _ 0 _ _ _ HS.out.box).trans hk
  clear hk hy
  go_enter Try.func35, Try.ntmps35
  go_wp2_with (go_at_call 50; refine (HS.out.num 11 (by decide) (by decide) HL.out.1).mono ?_; rintro e w1 ⟨rfl, hs1, hb⟩; have HS1 := Lib.hid hs1; have HB1 := Lib.hid (HB0.out.trans hb); clear hs1 hb k0; have k0 := (cell_of_row _ _ 0 _ _ _ HS1.out.box).trans HKs.out.1; have k11 := (cell_of_row _ _ 11 _ _ _ HS1.out.box).trans HKs.out.2; refine Stop.out ?_)
  unfold Stop
  go_wp2_with (go_at_call 50; refine (HS1.out.num y (by omega) (by omega) HL.out.2).mono ?_; rintro e w2 ⟨rfl, hs2, hb⟩; have HS2 := Lib.hid hs2; have HB2 := Lib.hid (HB1.out.trans hb); clear hs2 hb)
  go_end0
  obtain ⟨v2, hv2, _⟩ := HS2.out
  exact ⟨rfl, ⟨v2, hv2⟩, HB2.out⟩
end Go.Proofs.Ytplghpamckdklaa
