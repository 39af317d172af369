/- Documents as bytes, written. -/
import Derived.Test.YtplghpamckdklaaRcH
import Derived.Test.YtplghpamckdklaaDrawB
import Derived.WalkMore
namespace Go.Proofs.Ytplghpamckdklaa
open Go.RowKit
set_option maxRecDepth 100000
set_option linter.unusedSimpArgs false
set_option linter.unusedVariables false

theorem nextS_len (S d : Option Text) : ((nextS S d).getD []).length ≤ (S.getD []).length + (d.getD []).length := by
  cases S <;> cases d <;> simp [nextS]
/-- a writer beside a box, and how much it has at most -/
def WN (w : World) (B g : Nat) (S : Option Text) (b : Nat) (o : Obj) (N : Nat) : Prop := WB w B g S b o ∧ (S.getD []).length ≤ N
theorem WN.box {w : World} {B g b N : Nat} {S : Option Text} {o : Obj} (h : WN w B g S b o N) : w.heap[b]? = some o := h.1.box
theorem WN.drew {w : World} {B g b N : Nat} {S : Option Text} {o : Obj} (h : WN w B g S b o N) : WN w.drew B g S b o N := ⟨h.1.drew, h.2⟩
theorem WN.num {w : World} {B g b N : Nat} {S : Option Text} {o : Obj} (h : WN w B g S b o N) (n : Int) (h1 : -9223372036854775808 ≤ n) (h2 : n ≤ 9223372036854775807) (hN : N ≤ 140737488000000) :
    Calls Try.prog 50 #[.pointer (some ⟨g, 0, none⟩), .int .i64 n] w fun e w1 => e = .returned (.pointer (some ⟨g, 0, none⟩)) ∧ WN w1 B g (nextS S (docN n)) b o (N + 70000) ∧ Below B w w1 :=
  (h.1.num n h1 h2 (Nat.le_trans h.2 hN)).mono fun e w1 ⟨a1, a2, a3⟩ => ⟨a1, ⟨a2, by have := nextS_len S (docN n); have := docN_len n h1 h2; have := h.2; omega⟩, a3⟩
theorem WN.text {w : World} {B g b N : Nat} {S : Option Text} {o : Obj} (h : WN w B g S b o N) (s : ByteArray) (h1 : s.size ≤ 9223372036854775807) (hN : N ≤ 140737488000000) :
    Calls Try.prog 51 #[.pointer (some ⟨g, 0, none⟩), .string s] w fun e w1 => e = .returned (.pointer (some ⟨g, 0, none⟩)) ∧ WN w1 B g (nextS S (docS s)) b o (N + 70000) ∧ Below B w w1 :=
  (h.1.text s h1 (Nat.le_trans h.2 hN)).mono fun e w1 ⟨a1, a2, a3⟩ => ⟨a1, ⟨a2, by have := nextS_len S (docS s); have := docS_len s; have := h.2; omega⟩, a3⟩
theorem WN.flag {w : World} {B g b N : Nat} {S : Option Text} {o : Obj} (h : WN w B g S b o N) (f : Bool) (hN : N ≤ 140737488000000) :
    Calls Try.prog 72 #[.pointer (some ⟨g, 0, none⟩), .bool f] w fun e w1 => e = .returned (.pointer (some ⟨g, 0, none⟩)) ∧ WN w1 B g (nextS S (some (flagT f))) b o (N + 70000) ∧ Below B w w1 := by
  obtain ⟨⟨v, a1, a2, a3, a4, a5⟩, hl⟩ := h
  refine (code_wflag f w B g S v a1 a2 (Nat.le_trans hl hN)).mono fun e w1 hp => ?_
  obtain ⟨b1, b2, b3⟩ := WB.of_put a1 a2 a3 a4 a5 hp
  have hf : ((some (flagT f)).getD []).length ≤ 70000 := by
    cases f <;> simp [flagT]
  exact ⟨b1, ⟨b2, by have := nextS_len S (some (flagT f)); omega⟩, b3⟩
theorem WN.start {w : World} {B g N : Nat} {S : Option Text} {v : Value} (h : Wrt w B g S v) (hB : B ≤ w.heap.size) (hl : (S.getD []).length ≤ N) (o : Obj) : WN (w.alloc o) B g S w.heap.size o N := ⟨WB.start h hB o, hl⟩
def headT (S : Option Text) (d : DocV) : Option Text := (nextS (nextS (nextS (nextS (nextS (nextS (nextS (nextS (nextS S (docS d.id)) (some (flagT d.sale))) (some (flagT d.credit))) (docS d.refers)) (docN d.day)) (docS d.country)) (docS d.number)) (docS d.currency)) (docN d.lines.length))
def lineT (S : Option Text) (l : LineV) : Option Text := (nextS (nextS (nextS (nextS (nextS (nextS (nextS (nextS (nextS S (docN l.1)) (docN l.2.1)) (docS l.2.2.1)) (docS l.2.2.2.1)) (docS l.2.2.2.2.1)) (docN l.2.2.2.2.2.1)) (some (flagT l.2.2.2.2.2.2.1))) (docN l.2.2.2.2.2.2.2.1)) (some (flagT l.2.2.2.2.2.2.2.2)))
def linesT (S : Option Text) (L : List LineV) : Option Text := L.foldl lineT S
def lineR (l : LineV) : Prop := (-9223372036854775808 ≤ l.1 ∧ l.1 ≤ 9223372036854775807) ∧ (-9223372036854775808 ≤ l.2.1 ∧ l.2.1 ≤ 9223372036854775807) ∧ (-9223372036854775808 ≤ l.2.2.2.2.2.1 ∧ l.2.2.2.2.2.1 ≤ 9223372036854775807) ∧ (-9223372036854775808 ≤ l.2.2.2.2.2.2.2.1 ∧ l.2.2.2.2.2.2.2.1 ≤ 9223372036854775807) ∧ l.2.2.1.size ≤ 140737488351232 ∧ l.2.2.2.1.size ≤ 140737488351232 ∧ l.2.2.2.2.1.size ≤ 140737488351232
theorem linesT_next {S : Option Text} {L : List LineV} {k : Nat} (hk : k < L.length) : linesT S (L.take (k + 1)) = lineT (linesT S (L.take k)) L[k] := by
  unfold linesT
  rw [List.take_succ_eq_append_getElem hk, List.foldl_append]
  rfl
end Go.Proofs.Ytplghpamckdklaa
