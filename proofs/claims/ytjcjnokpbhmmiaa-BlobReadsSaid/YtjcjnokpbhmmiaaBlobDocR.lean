/- The document's reader: a flag, what is left, whether it is done. -/
import Derived.Test.YtjcjnokpbhmmiaaBlobReader
namespace Go.Proofs.Ytjcjnokpbhmmiaa
open Go.RowKit
set_option maxRecDepth 100000

/-- the document's reader in block g: its bytes, where it is, is it bad -/
def Drd (w : World) (g : Nat) (A : Option Addr) (T : Text) (c at_ : Nat) (bad : Bool) : Prop :=
  w.heap[g]? = some (.cells #[.slice A T.length c, .int .i64 at_, .bool bad] 29 (0, 0)) ∧ at_ ≤ T.length ∧ T.length ≤ 5000 ∧ T.length ≤ c ∧ c ≤ maxLen ∧ Txt w A T ∧ (A = none → T = []) ∧ (T ≠ [] → ∀ a, A = some a → a.block ≠ g)
/-- where there is a text, it lies elsewhere -/
theorem Txt.only2 {w w' : World} {g : Nat} {A : Option Addr} {l : Text} (h : Txt w A l) (ho : Only w w' g) (hA : l ≠ [] → ∀ a, A = some a → a.block ≠ g) : Txt w' A l := fun hn => (h.only ho (hA hn)) hn
/-- what it has left -/
def dv (T : Text) (at_ : Nat) (bad : Bool) : Text := if bad then [] else T.drop at_
theorem Drd.bad {w : World} {g : Nat} {A : Option Addr} {T : Text} {c at_ : Nat} {bad : Bool} (h : Drd w g A T c at_ bad) :
    Drd (w.setCell ⟨g, 2, none⟩ (.bool true)) g A T c at_ true ∧ Only w (w.setCell ⟨g, 2, none⟩ (.bool true)) g := by
  obtain ⟨h1, h2, h3, h4, h5, h6, h7, h8⟩ := h
  have ho := Only.set w g 2 (.bool true)
  exact ⟨⟨by rw [heap_setCell_same w g 2 _ _ _ h1]; rfl, h2, h3, h4, h5, h6.only2 ho h8, h7, h8⟩, ho⟩
theorem Drd.to {w : World} {g : Nat} {A : Option Addr} {T : Text} {c at_ : Nat} {bad : Bool} (h : Drd w g A T c at_ bad) (k : Nat) (hk : k ≤ T.length) :
    Drd (w.setCell ⟨g, 1, none⟩ (.int .i64 k)) g A T c k bad ∧ Only w (w.setCell ⟨g, 1, none⟩ (.int .i64 k)) g := by
  obtain ⟨h1, h2, h3, h4, h5, h6, h7, h8⟩ := h
  have ho := Only.set w g 1 (.int .i64 k)
  exact ⟨⟨by rw [heap_setCell_same w g 1 _ _ _ h1]; rfl, hk, h3, h4, h5, h6.only2 ho h8, h7, h8⟩, ho⟩
theorem Drd.below {w w' : World} {g : Nat} {A : Option Addr} {T : Text} {c at_ : Nat} {bad : Bool} (h : Drd w g A T c at_ bad) (hb : Below w.heap.size w w') : Drd w' g A T c at_ bad := by
  obtain ⟨h1, h2, h3, h4, h5, h6, h7, h8⟩ := h
  exact ⟨(hb.block g (heap_lt h1)).trans h1, h2, h3, h4, h5, h6.below hb, h7, h8⟩
theorem Drd.drew {w : World} {g : Nat} {A : Option Addr} {T : Text} {c at_ : Nat} {bad : Bool} (h : Drd w g A T c at_ bad) : Drd w.drew g A T c at_ bad := h.below (Below.refl _ _).drew
theorem Only.drew (w : World) (g : Nat) : Only w w.drew g := .of_below (Below.refl _ _).drew
/-- what a call of it leaves -/
def DGot (w : World) (g : Nat) (A : Option Addr) (T : Text) (c : Nat) (z : Value) (d : Option (Value × Text)) (e : Ending) (w' : World) : Prop := match d with
  | some (v, r) => e = .returned v ∧ Only w w' g ∧ ∃ k, Drd w' g A T c k false ∧ T.drop k = r
  | none => e = .returned z ∧ Only w w' g ∧ ∃ k, Drd w' g A T c k true

set_option maxHeartbeats 1000000 in
theorem doc_left (w : World) (g : Nat) (A : Option Addr) (T : Text) (c at_ : Nat) (bad : Bool) (hr : Drd w g A T c at_ bad) :
    Calls Try.prog 18 #[.pointer (some ⟨g, 0, none⟩)] w fun e w' => e = .returned (.int .i64 (dv T at_ bad).length) ∧ Drd w' g A T c at_ bad ∧ Only w w' g := by
  have HR := Lib.hid hr
  obtain ⟨hh, h2, h3, _, _, _, _, _⟩ := hr
  have c0 := cell_of_row w g 0 _ _ _ hh
  have c1 := cell_of_row w g 1 _ _ _ hh
  have c2 := cell_of_row w g 2 _ _ _ hh
  simp only [List.getElem?_toArray, List.getElem?_cons_zero, List.getElem?_cons_succ] at c0 c1 c2
  have hi : (at_ : Int) ≤ (T.length : Int) := by omega
  have hj : (T.length : Int) ≤ 5000 := by omega
  clear hh
  go_enter Try.func18, Try.ntmps18
  cases bad with
  | true =>
    go_wp2
    go_ret
    exact ⟨rfl, HR.out, Only.refl _ _⟩
  | false =>
    go_wp2
    go_region
    go_wp2
    go_ret
    refine ⟨?_, HR.out.drew, Only.drew _ _⟩
    simp [dv]
    omega

set_option maxHeartbeats 1000000 in
theorem doc_done (w : World) (g : Nat) (A : Option Addr) (T : Text) (c at_ : Nat) (bad : Bool) (hr : Drd w g A T c at_ bad) :
    Calls Try.prog 20 #[.pointer (some ⟨g, 0, none⟩)] w fun e w' => e = .returned (.bool (decide (bad = false ∧ dv T at_ bad = []))) ∧ Drd w' g A T c at_ bad ∧ Only w w' g := by
  have HR := Lib.hid hr
  obtain ⟨hh, h2, h3, _, _, _, _, _⟩ := hr
  have c0 := cell_of_row w g 0 _ _ _ hh
  have c1 := cell_of_row w g 1 _ _ _ hh
  have c2 := cell_of_row w g 2 _ _ _ hh
  simp only [List.getElem?_toArray, List.getElem?_cons_zero, List.getElem?_cons_succ] at c0 c1 c2
  clear hh
  go_enter Try.func20, Try.ntmps20
  cases bad with
  | true =>
    go_wp2
    go_region
    go_wp2
    go_ret
    exact ⟨by simp, HR.out.drew, Only.drew _ _⟩
  | false =>
    go_wp2
    go_region
    go_wp2
    go_ret
    refine ⟨ret_bool ?_, HR.out.drew, Only.drew _ _⟩
    have h0 : T.drop at_ = [] ↔ at_ = T.length := by rw [List.drop_eq_nil_iff]; omega
    by_cases h : at_ = T.length
    · simp [dv, h]
    · have h1 : (at_ : Int) ≠ (T.length : Int) := by omega
      have h2 : ¬ T.length ≤ at_ := by omega
      simp [dv, h2]
      omega

end Go.Proofs.Ytjcjnokpbhmmiaa
