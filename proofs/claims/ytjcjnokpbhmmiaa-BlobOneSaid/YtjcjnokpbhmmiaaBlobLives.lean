/- A writer's bytes told; the statements' example. -/
import Derived.Test.YtjcjnokpbhmmiaaBlobPut
namespace Go.Proofs.Ytjcjnokpbhmmiaa
open Go.RowKit
set_option maxRecDepth 100000

/-- a text told, wherever it lies -/
def Told (w : World) (T : Text) (e : Ending) (w' : World) : Prop := ∃ A c, e = .returned (.slice A T.length c) ∧ Txt w' A T ∧ (A = none → T = []) ∧ Below w.heap.size w w'
set_option maxHeartbeats 1000000 in
theorem code_clone (T : Text) (A : Option Addr) (cap : Nat) (w : World) (hm : T.length ≤ 140737488351232) (hT : Txt w A T) (hA : A = none → T = []) :
    Calls Try.prog 41 #[.slice A T.length cap] w (Told w T) := by
  have hnil := fun (W : World) (A : Option Addr) => Lib.run_eql_slice_nil (P := Try.prog) W 22 5 A T.length cap 0 0 Try.underlying22
  cases A with
  | none =>
    have HA : Hid (T = []) := Lib.hid (hA rfl)
    clear hT hA
    go_enter Try.func41, Try.ntmps41
    go_wp2
    go_ret
    exact ⟨none, 0, by rw [HA.out]; rfl, by rw [HA.out]; exact Txt.none_, fun _ => HA.out, Below.refl _ _⟩
  | some a =>
    have HT := Lib.hid (hT.alloc (.cells #[] 5))
    have HO := Lib.hid (empty_own w)
    have HB0 := Lib.hid ((Below.refl w.heap.size w).alloc (Nat.le_refl _) (.cells #[] 5))
    clear hT hA
    go_enter Try.func41, Try.ntmps41
    go_wp2_with (refine wpList_append_own_text (o := ⟨some 7, _, _, _, _, _⟩) rfl _ _ rfl rfl w.heap.size w _ [] T T rfl HO.out (some a) cap rfl HT.out ?c0 ?c1 HB0.out ?c2 rfl ?_; (case c0 => simp); (case c1 => simp; omega); (case c2 => simp); intro v1 w1 hown1 hb1 hv1; obtain ⟨A1, c1, rfl, ht1, hn1⟩ := own_txt hown1; have HT1 := Lib.hid ht1; have HN1 := Lib.hid hn1; have HB1 := Lib.hid hb1; clear hown1 hb1 hv1 ht1 hn1)
    go_ret
    exact ⟨A1, c1, rfl, HT1.out, HN1.out, HB1.out⟩

/-- what Bytes tells of a writer -/
def Bytes (w : World) (S : Option Text) (e : Ending) (w' : World) : Prop :=
  Below w.heap.size w w' ∧ ∃ A c, e = .returned (.tuple #[.slice A (S.getD []).length c, .int .i64 (if S.isNone then 2 else 0)]) ∧ Txt w' A (S.getD []) ∧ (A = none → S.getD [] = [])
set_option maxHeartbeats 1000000 in
theorem code_bytes (w : World) (B g : Nat) (S : Option Text) (v : Value) (hw : Wrt w B g S v) (hS : (S.getD []).length ≤ 140737488000000) :
    Calls Try.prog 24 #[.pointer (some ⟨g, 0, none⟩)] w (Bytes w S) := by
  have h0 := cell_of_row w g 0 _ _ _ hw.1
  have h1 := cell_of_row w g 1 _ _ _ hw.1
  have h2 := cell_of_row w g 2 _ _ _ hw.1
  simp only [List.getElem?_toArray, List.getElem?_cons_zero, List.getElem?_cons_succ] at h0 h1 h2
  cases S with
  | none =>
    simp only [Option.isNone_none] at h1
    clear hw hS
    go_enter Try.func24, Try.ntmps24
    go_wp2
    go_ret2
    exact ⟨Below.refl _ _, none, 0, rfl, Txt.none_, fun _ => rfl⟩
  | some T =>
    simp only [Option.isNone_some] at h1
    obtain ⟨A1, c1, rfl, ht1, hn1⟩ := own_txt hw.2.2.1
    have HC := Lib.hid (code_clone T A1 c1 w (by simp only [Option.getD_some] at hS; omega) ht1 hn1)
    simp only [Option.getD_some] at h2
    clear hw hS ht1 hn1
    go_enter Try.func24, Try.ntmps24
    go_wp2_with (go_at_call 41; refine HC.out.mono ?_; rintro e w1 ⟨A2, c2, rfl, ht2, hn2, hb2⟩; have HT2 := Lib.hid ht2; have HN2 := Lib.hid hn2; have HB2 := Lib.hid hb2; clear ht2 hn2 hb2)
    go_ret2
    exact ⟨HB2.out, A2, c2, rfl, HT2.out, HN2.out⟩

def s1 : Option Text := nextS (some []) (docN 300)
def s2 : Option Text := nextS s1 (docN (-1))
def s3 : Option Text := nextS s2 (docN 0)
def abS : ByteArray := { data := #[97, 98] }
def s4 : Option Text := nextS s3 (docS abS)
def livesT : Text := [2, 1, 44, 129, 1, 0, 1, 2, 97, 98]
theorem s1_eq : s1 = some [2, 1, 44] := by decide +kernel
theorem s2_eq : s2 = some [2, 1, 44, 129, 1] := by decide +kernel
theorem s3_eq : s3 = some [2, 1, 44, 129, 1, 0] := by decide +kernel
theorem s4_eq : s4 = some livesT := by decide +kernel

set_option maxHeartbeats 2000000 in
theorem lives_any (w : World) : Calls Try.prog 9 #[] w fun e w' => e = .returned (.bool true) ∧ Below w.heap.size w w' := by
  have HW0 := Lib.hid (new_wrt w w.heap.size (Nat.le_refl _))
  have HB0 := Lib.hid ((Below.refl w.heap.size w).alloc (Nat.le_refl _) (.cells #[.bool true, .bool false, .slice none 0 0] 74))
  go_enter Try.func9, Try.ntmps9
  go_wp2_with (first
    | (go_at_call 22; refine (new_any w).mono ?_; rintro e w0 ⟨rfl, rfl⟩)
    | (go_at_call 39; (with_reducible refine (code_wnum 300 _ w.heap.size w.heap.size (some []) _ HW0.out ?a1 ?a2 ?a3 ?a4).mono ?_); (case a1 => exact HB0.out.size); (case a2 => omega); (case a3 => omega); (case a4 => decide); rintro e w1 ⟨rfl, v1, hw1, hc1, _⟩; have HB1 := Lib.hid (HB0.out.trans (hc1.below HW0.out HB0.out.size)); have HW1 : Hid (Wrt w1 w.heap.size w.heap.size s1 v1) := Lib.hid hw1; clear hw1 hc1)
    | (go_at_call 39; (with_reducible refine (code_wnum (-1) _ w.heap.size w.heap.size s1 _ HW1.out ?b1 ?b2 ?b3 ?b4).mono ?_); (case b1 => exact HB1.out.size); (case b2 => omega); (case b3 => omega); (case b4 => rw [s1_eq]; decide); rintro e w2 ⟨rfl, v2, hw2, hc2, _⟩; have HB2 := Lib.hid (HB1.out.trans (hc2.below HW1.out HB1.out.size)); have HW2 : Hid (Wrt w2 w.heap.size w.heap.size s2 v2) := Lib.hid hw2; clear hw2 hc2)
    | (go_at_call 39; (with_reducible refine (code_wnum 0 _ w.heap.size w.heap.size s2 _ HW2.out ?d1 ?d2 ?d3 ?d4).mono ?_); (case d1 => exact HB2.out.size); (case d2 => omega); (case d3 => omega); (case d4 => rw [s2_eq]; decide); rintro e w3 ⟨rfl, v3, hw3, hc3, _⟩; have HB3 := Lib.hid (HB2.out.trans (hc3.below HW2.out HB2.out.size)); have HW3 : Hid (Wrt w3 w.heap.size w.heap.size s3 v3) := Lib.hid hw3; clear hw3 hc3)
    | (go_at_call 40; refine (code_wtext abS _ w.heap.size w.heap.size s3 _ HW3.out ?e1 ?e2 ?e3).mono ?_; (case e1 => exact HB3.out.size); (case e2 => decide); (case e3 => rw [s3_eq]; decide); rintro e w4 ⟨rfl, v4, hw4, hc4, _⟩; have HB4 := Lib.hid (HB3.out.trans (hc4.below HW3.out HB3.out.size)); have HW4 : Hid (Wrt w4 w.heap.size w.heap.size (some livesT) v4) := Lib.hid (by rw [← s4_eq]; exact hw4); clear hw4 hc4)
    | (go_at_call 24; refine (code_bytes _ w.heap.size w.heap.size (some livesT) _ HW4.out ?f1).mono ?_; (case f1 => decide); rintro e w5 ⟨hb5, A5, c5, rfl, ht5, hn5⟩; have hs5 := text_run w5 A5 c5 livesT ht5 hn5; have HB5 := Lib.hid (HB4.out.trans (hb5.mono HB4.out.size)); clear hb5 ht5 hn5))
  go_ret
  exact ⟨ret_bool (by decide), HB5.out⟩
end Go.Proofs.Ytjcjnokpbhmmiaa
