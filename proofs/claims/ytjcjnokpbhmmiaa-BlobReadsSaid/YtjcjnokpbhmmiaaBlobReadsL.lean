/- The statement on whatever is read: what it has as it goes. -/
import Derived.Test.YtjcjnokpbhmmiaaBlobDocV
import Derived.Test.YtjcjnokpbhmmiaaBlobOneL
namespace Go.Proofs.Ytjcjnokpbhmmiaa
open Go.RowKit
set_option maxRecDepth 100000

theorem drd_only {w w' : World} {g k : Nat} {A : Option Addr} {T : Text} {c at_ : Nat} {bad : Bool} (h : Drd w g A T c at_ bad) (ho : Only w w' k) (hk : k ≠ g) (hA : T ≠ [] → ∀ a, A = some a → a.block ≠ k) : Drd w' g A T c at_ bad := by
  obtain ⟨h1, h2, h3, h4, h5, h6, h7, h8⟩ := h
  exact ⟨(ho.block g (heap_lt h1) (fun e => hk e.symm)).trans h1, h2, h3, h4, h5, h6.only2 ho hA, h7, h8⟩

/-- both readers: the program's in block g, the document's in block k; bad both, or as far -/
def RdI (w0 : World) (g k : Nat) (A : Option Addr) (T : Text) (c : Nat) (bad : Bool) (rest : Text) (w : World) : Prop :=
  Rdr w g bad rest ∧ (∃ at_, Drd w k A T c at_ bad ∧ dv T at_ bad = rest) ∧ w0.heap.size ≤ g ∧ g < k ∧ (T ≠ [] → ∀ a, A = some a → a.block < w0.heap.size) ∧ Below w0.heap.size w0 w
theorem rdI_below {w0 w w' : World} {g k : Nat} {A : Option Addr} {T : Text} {c : Nat} {bad : Bool} {rest : Text} (h : RdI w0 g k A T c bad rest w) (hb : Below w.heap.size w w') : RdI w0 g k A T c bad rest w' := by
  obtain ⟨h1, ⟨at_, h2, h3⟩, h4, h5, h6, h7⟩ := h
  exact ⟨rdr_below h1 hb (rdr_lt h1), ⟨at_, h2.below hb, h3⟩, h4, h5, h6, below_tr h7 hb (Nat.le_refl _)⟩
/-- behind the program's call -/
def RdM (w0 : World) (g k : Nat) (A : Option Addr) (T : Text) (c : Nat) (bad : Bool) (rest : Text) (d : Option (Value × Text)) (w : World) : Prop :=
  (match d with | some p => Rdr w g bad p.2 | none => Rdr w g true []) ∧ (∃ at_, Drd w k A T c at_ bad ∧ dv T at_ bad = rest) ∧ w0.heap.size ≤ g ∧ g < k ∧ (T ≠ [] → ∀ a, A = some a → a.block < w0.heap.size) ∧ Below w0.heap.size w0 w
/-- the value that both tell -/
def told (z : Value) (d : Option (Value × Text)) : Value := match d with | some p => p.1 | none => z
theorem rdI_code {w0 w w' : World} {g k : Nat} {A : Option Addr} {T : Text} {c : Nat} {bad : Bool} {rest : Text} {z : Value} {d : Option (Value × Text)} {e : Ending} (h : RdI w0 g k A T c bad rest w) (hg : Got w g bad z d e w') :
    e = .returned (told z d) ∧ Hid (RdM w0 g k A T c bad rest d w') := by
  obtain ⟨h1, ⟨at_, h2, h3⟩, h4, h5, h6, h7⟩ := h
  have hA : T ≠ [] → ∀ a, A = some a → a.block ≠ g := fun hn a ha => by have := h6 hn a ha; omega
  cases d with
  | none =>
    obtain ⟨e1, e2, e3⟩ := hg
    exact ⟨e1, Lib.hid ⟨e2, ⟨at_, drd_only h2 e3 (by omega) hA, h3⟩, h4, h5, h6, h7.trans (e3.below h4 h7.size)⟩⟩
  | some p =>
    obtain ⟨v, r⟩ := p
    obtain ⟨e1, e2, e3⟩ := hg
    exact ⟨e1, Lib.hid ⟨e2, ⟨at_, drd_only h2 e3 (by omega) hA, h3⟩, h4, h5, h6, h7.trans (e3.below h4 h7.size)⟩⟩
/-- a reading call of the document's, of what is left -/
theorem rdM_doc {w0 w w' : World} {g k : Nat} {A : Option Addr} {T : Text} {c at_ : Nat} {bad : Bool} {rest : Text} {z : Value} {d : Option (Value × Text)} {e : Ending} (h : RdM w0 g k A T c bad rest d w) (hd : dv T at_ bad = rest) (hb : bad = true → d = none) (hg : DGot w k A T c z d e w') :
    e = .returned (told z d) ∧ ∃ bad' rest', RdI w0 g k A T c bad' rest' w' := by
  obtain ⟨h1, _, h4, h5, h6, h7⟩ := h
  cases d with
  | none =>
    obtain ⟨e1, e2, k2, e3⟩ := hg
    exact ⟨e1, true, [], rdr_only h1 e2 h5, ⟨k2, e3, rfl⟩, h4, h5, h6, h7.trans (e2.below (by omega) h7.size)⟩
  | some p =>
    obtain ⟨v, r⟩ := p
    obtain ⟨e1, e2, k2, e3, e4⟩ := hg
    cases bad with
    | true => exact absurd (hb rfl) (by simp)
    | false => exact ⟨e1, false, r, rdr_only h1 e2 h5, ⟨k2, e3, e4⟩, h4, h5, h6, h7.trans (e2.below (by omega) h7.size)⟩
theorem rdM_num {w0 w : World} {g k : Nat} {A : Option Addr} {T : Text} {c : Nat} {bad : Bool} {rest : Text} (h : RdM w0 g k A T c bad rest ((numP rest).map fun p => (.int .i64 p.1, p.2)) w) :
    Calls Try.prog 12 #[.pointer (some ⟨k, 0, none⟩)] w fun e w' => e = .returned (told (.int .i64 0) ((numP rest).map fun p => (.int .i64 p.1, p.2))) ∧ Hid (∃ bad' rest', RdI w0 g k A T c bad' rest' w') := by
  obtain ⟨at_, h2, h3⟩ := h.2.1
  refine (doc_num w k A T c at_ bad h2).mono fun e w' hg => ?_
  rw [h3] at hg
  obtain ⟨a, b⟩ := rdM_doc h h3 (fun hb => by subst hb; rw [show rest = [] from h3.symm]; rfl) hg
  exact ⟨a, Lib.hid b⟩
theorem rdM_text {w0 w : World} {g k : Nat} {A : Option Addr} {T : Text} {c : Nat} {bad : Bool} {rest : Text} (h : RdM w0 g k A T c bad rest ((textP rest).map fun p => (.string p.1, p.2)) w) :
    Calls Try.prog 14 #[.pointer (some ⟨k, 0, none⟩)] w fun e w' => e = .returned (told (.string {data:=#[]}) ((textP rest).map fun p => (.string p.1, p.2))) ∧ Hid (∃ bad' rest', RdI w0 g k A T c bad' rest' w') := by
  obtain ⟨at_, h2, h3⟩ := h.2.1
  refine (doc_text w k A T c at_ bad h2).mono fun e w' hg => ?_
  rw [h3] at hg
  obtain ⟨a, b⟩ := rdM_doc h h3 (fun hb => by subst hb; rw [show rest = [] from h3.symm]; rfl) hg
  exact ⟨a, Lib.hid b⟩
theorem rdM_flag {w0 w : World} {g k : Nat} {A : Option Addr} {T : Text} {c : Nat} {bad : Bool} {rest : Text} (h : RdM w0 g k A T c bad rest ((flagP rest).map fun p => (.bool p.1, p.2)) w) :
    Calls Try.prog 16 #[.pointer (some ⟨k, 0, none⟩)] w fun e w' => e = .returned (told (.bool false) ((flagP rest).map fun p => (.bool p.1, p.2))) ∧ Hid (∃ bad' rest', RdI w0 g k A T c bad' rest' w') := by
  obtain ⟨at_, h2, h3⟩ := h.2.1
  refine (doc_flag w k A T c at_ bad h2).mono fun e w' hg => ?_
  rw [h3] at hg
  obtain ⟨a, b⟩ := rdM_doc h h3 (fun hb => by subst hb; rw [show rest = [] from h3.symm]; rfl) hg
  exact ⟨a, Lib.hid b⟩
/-- what is left, and whether it is done, both ways -/
theorem rdI_left {w0 w : World} {g k : Nat} {A : Option Addr} {T : Text} {c : Nat} {bad : Bool} {rest : Text} (h : RdI w0 g k A T c bad rest w) :
    Calls Try.prog 17 #[.pointer (some ⟨g, 0, none⟩)] w fun e w' => e = .returned (.int .i64 rest.length) ∧ w = w' := code_left w g bad rest h.1
theorem rdI_dleft {w0 w : World} {g k : Nat} {A : Option Addr} {T : Text} {c : Nat} {bad : Bool} {rest : Text} (h : RdI w0 g k A T c bad rest w) :
    Calls Try.prog 18 #[.pointer (some ⟨k, 0, none⟩)] w fun e w' => e = .returned (.int .i64 rest.length) ∧ Hid (RdI w0 g k A T c bad rest w') := by
  obtain ⟨h1, ⟨at_, h2, h3⟩, h4, h5, h6, h7⟩ := h
  refine (doc_left w k A T c at_ bad h2).mono fun e w' hg => ?_
  rw [h3] at hg
  exact ⟨hg.1, Lib.hid ⟨rdr_only h1 hg.2.2 h5, ⟨at_, hg.2.1, h3⟩, h4, h5, h6, h7.trans (hg.2.2.below (by omega) h7.size)⟩⟩
theorem rdI_ddone {w0 w : World} {g k : Nat} {A : Option Addr} {T : Text} {c : Nat} {bad : Bool} {rest : Text} (h : RdI w0 g k A T c bad rest w) :
    Calls Try.prog 20 #[.pointer (some ⟨k, 0, none⟩)] w fun e w' => e = .returned (.bool (decide (bad = false ∧ rest = []))) ∧ Hid (Below w0.heap.size w0 w') := by
  obtain ⟨h1, ⟨at_, h2, h3⟩, h4, h5, h6, h7⟩ := h
  refine (doc_done w k A T c at_ bad h2).mono fun e w' hg => ?_
  rw [h3] at hg
  exact ⟨hg.1, Lib.hid (h7.trans (hg.2.2.below (by omega) h7.size))⟩
end Go.Proofs.Ytjcjnokpbhmmiaa
