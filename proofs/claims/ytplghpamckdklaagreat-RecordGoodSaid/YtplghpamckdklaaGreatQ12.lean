/- A writer's bytes told; the statements' example. What a writer keeps beside a box of the call's own; a year, written. Documents as bytes, written. -/
import Derived.Test.YtplghpamckdklaaGreatQ11
import Derived.Test.YtplghpamckdklaaGreatQ9
import Derived.WalkMore
import Derived.Test.YtplghpamckdklaaGreatQ6
namespace Go.Proofs.YtplghpamckdklaaGreat
open Go.RowKit
set_option maxRecDepth 100000

/-- a text told, wherever it lies -/
def Told (w : World) (T : Text) (e : Ending) (w' : World) : Prop := ∃ A c, e = .returned (.slice A T.length c) ∧ Txt w' A T ∧ (A = none → T = []) ∧ Below w.heap.size w w'
set_option maxHeartbeats 1000000 in
theorem code_clone (T : Text) (A : Option Addr) (cap : Nat) (w : World) (hm : T.length ≤ 140737488351232) (hT : Txt w A T) (hA : A = none → T = []) :
    Calls Tryz.prog 69 #[.slice A T.length cap] w (Told w T) := by
  have hnil := fun (W : World) (A : Option Addr) => Lib.run_eql_slice_nil (P := Tryz.prog) W 36 5 A T.length cap 0 0 Tryz.underlying36
  cases A with
  | none =>
    have HA : Hid (T = []) := Lib.hid (hA rfl)
    clear hT hA
    go_enter Tryz.func69, Tryz.ntmps69
    go_wp2
    go_ret
    exact ⟨none, 0, by rw [HA.out]; rfl, by rw [HA.out]; exact Txt.none_, fun _ => HA.out, Below.refl _ _⟩
  | some a =>
    have HT := Lib.hid (hT.alloc (.cells #[] 5))
    have HO := Lib.hid (empty_own w)
    have HB0 := Lib.hid ((Below.refl w.heap.size w).alloc (Nat.le_refl _) (.cells #[] 5))
    clear hT hA
    go_enter Tryz.func69, Tryz.ntmps69
    go_wp2_with (refine wpList_append_own_text (o := ⟨some 7, _, _, _, _, _⟩) rfl _ _ rfl rfl w.heap.size w _ [] T T rfl HO.out (some a) cap rfl HT.out ?c0 ?c1 HB0.out ?c2 rfl ?_; (case c0 => simp); (case c1 => simp; omega); (case c2 => simp); intro v1 w1 hown1 hb1 hv1; obtain ⟨A1, c1, rfl, ht1, hn1⟩ := own_txt hown1; have HT1 := Lib.hid ht1; have HN1 := Lib.hid hn1; have HB1 := Lib.hid hb1; clear hown1 hb1 hv1 ht1 hn1)
    go_ret
    exact ⟨A1, c1, rfl, HT1.out, HN1.out, HB1.out⟩

/-- what Bytes tells of a writer -/
def Bytes (w : World) (S : Option Text) (e : Ending) (w' : World) : Prop :=
  Below w.heap.size w w' ∧ ∃ A c, e = .returned (.tuple #[.slice A (S.getD []).length c, .int .i64 (if S.isNone then 2 else 0)]) ∧ Txt w' A (S.getD []) ∧ (A = none → S.getD [] = [])
set_option maxHeartbeats 1000000 in
theorem code_bytes (w : World) (B g : Nat) (S : Option Text) (v : Value) (hw : Wrt w B g S v) (hS : (S.getD []).length ≤ 140737488000000) :
    Calls Tryz.prog 40 #[.pointer (some ⟨g, 0, none⟩)] w (Bytes w S) := by
  have h0 := cell_of_row w g 0 _ _ _ hw.1
  have h1 := cell_of_row w g 1 _ _ _ hw.1
  have h2 := cell_of_row w g 2 _ _ _ hw.1
  simp only [List.getElem?_toArray, List.getElem?_cons_zero, List.getElem?_cons_succ] at h0 h1 h2
  cases S with
  | none =>
    simp only [Option.isNone_none] at h1
    clear hw hS
    go_enter Tryz.func40, Tryz.ntmps40
    go_wp2
    go_ret2
    exact ⟨Below.refl _ _, none, 0, rfl, Txt.none_, fun _ => rfl⟩
  | some T =>
    simp only [Option.isNone_some] at h1
    obtain ⟨A1, c1, rfl, ht1, hn1⟩ := own_txt hw.2.2.1
    have HC := Lib.hid (code_clone T A1 c1 w (by simp only [Option.getD_some] at hS; omega) ht1 hn1)
    simp only [Option.getD_some] at h2
    clear hw hS ht1 hn1
    go_enter Tryz.func40, Tryz.ntmps40
    go_wp2_with (go_at_call 69; refine HC.out.mono ?_; rintro e w1 ⟨A2, c2, rfl, ht2, hn2, hb2⟩; have HT2 := Lib.hid ht2; have HN2 := Lib.hid hn2; have HB2 := Lib.hid hb2; clear ht2 hn2 hb2)
    go_ret2
    exact ⟨HB2.out, A2, c2, rfl, HT2.out, HN2.out⟩

def s1 : Option Text := nextS (some []) (docN 300)
def s2 : Option Text := nextS s1 (docN (-1))
def s3 : Option Text := nextS s2 (docN 0)
def abS : ByteArray := { data := #[97, 98] }
def s4 : Option Text := nextS s3 (docS abS)
def livesT : Text := [2, 1, 44, 129, 1, 0, 1, 2, 97, 98]
theorem s1_eq : s1 = some [2, 1, 44] := by decide +kernel
theorem s2_eq : s2 = some [2, 1, 44, 129, 1] := by decide +kernel
theorem s3_eq : s3 = some [2, 1, 44, 129, 1, 0] := by decide +kernel
theorem s4_eq : s4 = some livesT := by decide +kernel

end Go.Proofs.YtplghpamckdklaaGreat

namespace Go.Proofs.YtplghpamckdklaaGreat
open Go.RowKit
set_option maxRecDepth 100000
set_option linter.unusedSimpArgs false
set_option linter.unusedVariables false

/-- a writer at g, and beside it a box that its calls leave alone -/
def WB (w : World) (B g : Nat) (S : Option Text) (b : Nat) (o : Obj) : Prop := ∃ v, Wrt w B g S v ∧ B ≤ w.heap.size ∧ w.heap[b]? = some o ∧ b ≠ g ∧ v.ownBlock ≠ some b
theorem WB.box {w : World} {B g b : Nat} {S : Option Text} {o : Obj} (h : WB w B g S b o) : w.heap[b]? = some o := h.choose_spec.2.2.1
theorem WB.start {w : World} {B g : Nat} {S : Option Text} {v : Value} (h : Wrt w B g S v) (hB : B ≤ w.heap.size) (o : Obj) : WB (w.alloc o) B g S w.heap.size o :=
  ⟨v, h.below (below_alloc w o), by simp; omega, heap_alloc_new w o, Nat.ne_of_gt h.lt, fun e => by have := (h.2.2.1.lt w.heap.size e).2; omega⟩
theorem WB.drew {w : World} {B g b : Nat} {S : Option Text} {o : Obj} (h : WB w B g S b o) : WB w.drew B g S b o := by
  obtain ⟨v, h1, h2, h3, h4, h5⟩ := h
  exact ⟨v, h1.below (below_drew w), h2, h3, h4, h5⟩
theorem WB.of_put {w w1 : World} {B g b : Nat} {S d : Option Text} {o : Obj} {v : Value} {e : Ending} (h1 : Wrt w B g S v) (h2 : B ≤ w.heap.size) (h3 : w.heap[b]? = some o) (h4 : b ≠ g) (h5 : v.ownBlock ≠ some b) (h : Put w B g S v d e w1) :
    e = .returned (.pointer (some ⟨g, 0, none⟩)) ∧ WB w1 B g (nextS S d) b o ∧ Below B w w1 := by
  obtain ⟨he, v', hw, hc, ho⟩ := h
  refine ⟨he, ⟨v', hw, Nat.le_trans h2 hc.size, (hc.block b (heapLt h3) h4 (fun e => h5 e.symm)).trans h3, h4, ?_⟩, hc.below h1 h2⟩
  rcases ho with ho | ho | ⟨k, ho, hk⟩
  · rw [ho]; exact h5
  · rw [ho]; simp
  · rw [ho]
    intro e
    have := heapLt h3
    have e2 : k = b := Option.some.inj e
    omega
theorem WB.num {w : World} {B g b : Nat} {S : Option Text} {o : Obj} (h : WB w B g S b o) (n : Int) (h1 : -9223372036854775808 ≤ n) (h2 : n ≤ 9223372036854775807) (hS : (S.getD []).length ≤ 140737488000000) :
    Calls Tryz.prog 66 #[.pointer (some ⟨g, 0, none⟩), .int .i64 n] w fun e w1 => e = .returned (.pointer (some ⟨g, 0, none⟩)) ∧ WB w1 B g (nextS S (docN n)) b o ∧ Below B w w1 := by
  obtain ⟨v, a1, a2, a3, a4, a5⟩ := h
  exact (code_wnum n w B g S v a1 a2 h1 h2 hS).mono fun e w1 hp => WB.of_put a1 a2 a3 a4 a5 hp
theorem WB.text {w : World} {B g b : Nat} {S : Option Text} {o : Obj} (h : WB w B g S b o) (s : ByteArray) (h1 : s.size ≤ 9223372036854775807) (hS : (S.getD []).length ≤ 140737488000000) :
    Calls Tryz.prog 67 #[.pointer (some ⟨g, 0, none⟩), .string s] w fun e w1 => e = .returned (.pointer (some ⟨g, 0, none⟩)) ∧ WB w1 B g (nextS S (docS s)) b o ∧ Below B w w1 := by
  obtain ⟨v, a1, a2, a3, a4, a5⟩ := h
  exact (code_wtext s w B g S v a1 a2 h1 hS).mono fun e w1 hp => WB.of_put a1 a2 a3 a4 a5 hp
def Wrote (w : World) (B g : Nat) (S : Option Text) (e : Ending) (w1 : World) : Prop := e = .returned (.tuple #[]) ∧ (∃ v, Wrt w1 B g S v) ∧ Below B w w1
set_option maxHeartbeats 1000000 in
theorem write_11 (cs : Array Value) (y : Int) (B g : Nat) (S : Option Text) (v : Value) (w : World) (hw : Wrt w B g S v) (hB : B ≤ w.heap.size) (hk : cs[0]? = some (.int .i64 11)) (hy : cs[11]? = some (.int .i64 y)) (hy1 : 0 ≤ y) (hy2 : y ≤ 9999) (hS : (S.getD []).length ≤ 140737488000000) (hS2 : ((nextS S (docN 11)).getD []).length ≤ 140737488000000) : Calls Tryz.prog 39 #[.pointer (some ⟨g, 0, none⟩), .agg cs] w fun e w1 => Wrote w B g (nextS (nextS S (docN 11)) (docN y)) e w1 := by
  have HS := Lib.hid (WB.start hw hB (.cells cs 28 (0, 0)))
  have HB0 := Lib.hid (show Below B w (w.alloc (.cells cs 28 (0, 0))) from (Below.refl _ _).alloc hB _)
  have HKs := Lib.hid (And.intro hk hy)
  have HL := Lib.hid (And.intro hS hS2)
  clear hw hS hS2
  have k0 := (cell_of_row _ _ 0 _ _ _ HS.out.box).trans hk
  clear hk hy
  go_enter Tryz.func39, Tryz.ntmps39
  go_wp2_with (go_at_call 66; refine (HS.out.num 11 (by decide) (by decide) HL.out.1).mono ?_; rintro e w1 ⟨rfl, hs1, hb⟩; have HS1 := Lib.hid hs1; have HB1 := Lib.hid (HB0.out.trans hb); clear hs1 hb k0; have k0 := (cell_of_row _ _ 0 _ _ _ HS1.out.box).trans HKs.out.1; have k11 := (cell_of_row _ _ 11 _ _ _ HS1.out.box).trans HKs.out.2; refine Stop.out ?_)
  unfold Stop
  go_wp2_with (go_at_call 66; refine (HS1.out.num y (by omega) (by omega) HL.out.2).mono ?_; rintro e w2 ⟨rfl, hs2, hb⟩; have HS2 := Lib.hid hs2; have HB2 := Lib.hid (HB1.out.trans hb); clear hs2 hb)
  go_end0
  obtain ⟨v2, hv2, _⟩ := HS2.out
  exact ⟨rfl, ⟨v2, hv2⟩, HB2.out⟩
end Go.Proofs.YtplghpamckdklaaGreat

namespace Go.Proofs.YtplghpamckdklaaGreat
open Go.RowKit
set_option maxRecDepth 100000
set_option linter.unusedSimpArgs false
set_option linter.unusedVariables false

theorem nextS_len (S d : Option Text) : ((nextS S d).getD []).length ≤ (S.getD []).length + (d.getD []).length := by
  cases S <;> cases d <;> simp [nextS]
/-- a writer beside a box, and how much it has at most -/
def WN (w : World) (B g : Nat) (S : Option Text) (b : Nat) (o : Obj) (N : Nat) : Prop := WB w B g S b o ∧ (S.getD []).length ≤ N
theorem WN.box {w : World} {B g b N : Nat} {S : Option Text} {o : Obj} (h : WN w B g S b o N) : w.heap[b]? = some o := h.1.box
theorem WN.drew {w : World} {B g b N : Nat} {S : Option Text} {o : Obj} (h : WN w B g S b o N) : WN w.drew B g S b o N := ⟨h.1.drew, h.2⟩
theorem WN.num {w : World} {B g b N : Nat} {S : Option Text} {o : Obj} (h : WN w B g S b o N) (n : Int) (h1 : -9223372036854775808 ≤ n) (h2 : n ≤ 9223372036854775807) (hN : N ≤ 140737488000000) :
    Calls Tryz.prog 66 #[.pointer (some ⟨g, 0, none⟩), .int .i64 n] w fun e w1 => e = .returned (.pointer (some ⟨g, 0, none⟩)) ∧ WN w1 B g (nextS S (docN n)) b o (N + 70000) ∧ Below B w w1 :=
  (h.1.num n h1 h2 (Nat.le_trans h.2 hN)).mono fun e w1 ⟨a1, a2, a3⟩ => ⟨a1, ⟨a2, by have := nextS_len S (docN n); have := docN_len n h1 h2; have := h.2; omega⟩, a3⟩
theorem WN.text {w : World} {B g b N : Nat} {S : Option Text} {o : Obj} (h : WN w B g S b o N) (s : ByteArray) (h1 : s.size ≤ 9223372036854775807) (hN : N ≤ 140737488000000) :
    Calls Tryz.prog 67 #[.pointer (some ⟨g, 0, none⟩), .string s] w fun e w1 => e = .returned (.pointer (some ⟨g, 0, none⟩)) ∧ WN w1 B g (nextS S (docS s)) b o (N + 70000) ∧ Below B w w1 :=
  (h.1.text s h1 (Nat.le_trans h.2 hN)).mono fun e w1 ⟨a1, a2, a3⟩ => ⟨a1, ⟨a2, by have := nextS_len S (docS s); have := docS_len s; have := h.2; omega⟩, a3⟩
theorem WN.flag {w : World} {B g b N : Nat} {S : Option Text} {o : Obj} (h : WN w B g S b o N) (f : Bool) (hN : N ≤ 140737488000000) :
    Calls Tryz.prog 95 #[.pointer (some ⟨g, 0, none⟩), .bool f] w fun e w1 => e = .returned (.pointer (some ⟨g, 0, none⟩)) ∧ WN w1 B g (nextS S (some (flagT f))) b o (N + 70000) ∧ Below B w w1 := by
  obtain ⟨⟨v, a1, a2, a3, a4, a5⟩, hl⟩ := h
  refine (code_wflag f w B g S v a1 a2 (Nat.le_trans hl hN)).mono fun e w1 hp => ?_
  obtain ⟨b1, b2, b3⟩ := WB.of_put a1 a2 a3 a4 a5 hp
  have hf : ((some (flagT f)).getD []).length ≤ 70000 := by
    cases f <;> simp [flagT]
  exact ⟨b1, ⟨b2, by have := nextS_len S (some (flagT f)); omega⟩, b3⟩
theorem WN.start {w : World} {B g N : Nat} {S : Option Text} {v : Value} (h : Wrt w B g S v) (hB : B ≤ w.heap.size) (hl : (S.getD []).length ≤ N) (o : Obj) : WN (w.alloc o) B g S w.heap.size o N := ⟨WB.start h hB o, hl⟩
def headT (S : Option Text) (d : DocV) : Option Text := (nextS (nextS (nextS (nextS (nextS (nextS (nextS (nextS (nextS S (docS d.id)) (some (flagT d.sale))) (some (flagT d.credit))) (docS d.refers)) (docN d.day)) (docS d.country)) (docS d.number)) (docS d.currency)) (docN d.lines.length))
def lineT (S : Option Text) (l : LineV) : Option Text := (nextS (nextS (nextS (nextS (nextS (nextS (nextS (nextS (nextS S (docN l.1)) (docN l.2.1)) (docS l.2.2.1)) (docS l.2.2.2.1)) (docS l.2.2.2.2.1)) (docN l.2.2.2.2.2.1)) (some (flagT l.2.2.2.2.2.2.1))) (docN l.2.2.2.2.2.2.2.1)) (some (flagT l.2.2.2.2.2.2.2.2)))
def linesT (S : Option Text) (L : List LineV) : Option Text := L.foldl lineT S
def lineR (l : LineV) : Prop := (-9223372036854775808 ≤ l.1 ∧ l.1 ≤ 9223372036854775807) ∧ (-9223372036854775808 ≤ l.2.1 ∧ l.2.1 ≤ 9223372036854775807) ∧ (-9223372036854775808 ≤ l.2.2.2.2.2.1 ∧ l.2.2.2.2.2.1 ≤ 9223372036854775807) ∧ (-9223372036854775808 ≤ l.2.2.2.2.2.2.2.1 ∧ l.2.2.2.2.2.2.2.1 ≤ 9223372036854775807) ∧ l.2.2.1.size ≤ 140737488351232 ∧ l.2.2.2.1.size ≤ 140737488351232 ∧ l.2.2.2.2.1.size ≤ 140737488351232
theorem linesT_next {S : Option Text} {L : List LineV} {k : Nat} (hk : k < L.length) : linesT S (L.take (k + 1)) = lineT (linesT S (L.take k)) L[k] := by
  unfold linesT
  rw [List.take_succ_eq_append_getElem hk, List.foldl_append]
  rfl
end Go.Proofs.YtplghpamckdklaaGreat
