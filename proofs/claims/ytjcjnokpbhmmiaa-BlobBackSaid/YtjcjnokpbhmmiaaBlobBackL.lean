/- The statement on what was written and is read: what it has as it goes. -/
import Derived.Test.YtjcjnokpbhmmiaaBlobOneL
namespace Go.Proofs.Ytjcjnokpbhmmiaa
open Go.RowKit
set_option maxRecDepth 100000

/-- the bytes of all that is written -/
def docs (l : List OpV) : Option Text := l.foldl (fun S o => nextS S (docO o)) (some [])
theorem docs_take {L : List OpV} {k : Nat} (h : k < L.length) : docs (L.take (k + 1)) = nextS (docs (L.take k)) (docO L[k]) := by
  unfold docs
  rw [List.take_succ_eq_append_getElem h, List.foldl_append]
  rfl
/-- the bytes of what is left to be read -/
def restO (l : List OpV) : Text := l.flatMap fun o => (docO o).getD []
theorem fold_none (l : List OpV) : l.foldl (fun S o => nextS S (docO o)) none = none := by
  induction l with
  | nil => rfl
  | cons o l ih => exact ih
theorem fold_some (l : List OpV) : ∀ J T, l.foldl (fun S o => nextS S (docO o)) (some J) = some T → T = J ++ restO l ∧ ∀ o ∈ l, (docO o).isSome = true := by
  induction l with
  | nil =>
    intro J T h
    injection h with h
    subst h
    exact ⟨by simp [restO], by simp⟩
  | cons o l ih =>
    intro J T h
    rw [List.foldl_cons] at h
    cases hd : docO o with
    | none =>
      rw [hd] at h
      rw [show nextS (some J) none = none from rfl, fold_none] at h
      cases h
    | some D =>
      rw [hd] at h
      obtain ⟨h1, h2⟩ := ih _ _ h
      refine ⟨by rw [h1]; simp [restO, hd], fun x hx => ?_⟩
      rcases List.mem_cons.1 hx with rfl | hx
      · rw [hd]; rfl
      · exact h2 x hx
theorem docs_some {L : List OpV} {T : Text} (h : docs L = some T) : T = restO L ∧ ∀ o ∈ L, (docO o).isSome = true := by
  have := fold_some L [] T h
  rwa [List.nil_append] at this
theorem rest_drop {L : List OpV} {k : Nat} (h : k < L.length) {D : Text} (hd : docO L[k] = some D) : restO (L.drop k) = D ++ restO (L.drop (k + 1)) := by
  unfold restO
  rw [List.drop_eq_getElem_cons h, List.flatMap_cons, hd]
  rfl

/-- what was written, read -/
theorem back_num (w : World) (g : Nat) {n : Int} {D r : Text} (hr : Rdr w g false (D ++ r)) (hd : docN n = some D) (h1 : -9223372036854775808 ≤ n) (h2 : n ≤ 9223372036854775807) :
    Calls Try.prog 11 #[.pointer (some ⟨g, 0, none⟩)] w fun e w' => e = .returned (.int .i64 n) ∧ Hid (Rdr w' g false r ∧ Only w w' g) := by
  refine (code_rnum w g false _ hr).mono fun e w' h => ?_
  rw [numP_doc r hd h1 h2] at h
  exact ⟨h.1, Lib.hid h.2⟩
theorem back_text (w : World) (g : Nat) {s : ByteArray} {D r : Text} (hr : Rdr w g false (D ++ r)) (hd : docS s = some D) :
    Calls Try.prog 13 #[.pointer (some ⟨g, 0, none⟩)] w fun e w' => e = .returned (.string s) ∧ Hid (Rdr w' g false r ∧ Only w w' g) := by
  refine (code_rtext w g false _ hr).mono fun e w' h => ?_
  rw [textP_doc r hd] at h
  exact ⟨h.1, Lib.hid h.2⟩
theorem back_flag (w : World) (g : Nat) {f : Bool} {D r : Text} (hr : Rdr w g false (D ++ r)) (hd : some (flagT f) = some D) :
    Calls Try.prog 15 #[.pointer (some ⟨g, 0, none⟩)] w fun e w' => e = .returned (.bool f) ∧ Hid (Rdr w' g false r ∧ Only w w' g) := by
  refine (code_rflag w g false _ hr).mono fun e w' h => ?_
  injection hd with hd
  rw [← hd, flagP_doc] at h
  exact ⟨h.1, Lib.hid h.2⟩

/-- the first loop: a writer of what is written up to there -/
def BackI (w0 : World) (gw : Nat) (S : Option Text) (v : Value) (w : World) : Prop := Wrt w w0.heap.size gw S v ∧ Below w0.heap.size w0 w
theorem back_put {w0 w w' : World} {gw : Nat} {S d : Option Text} {v : Value} {e : Ending} (h : BackI w0 gw S v w) (hp : Put w w0.heap.size gw S v d e w') :
    e = .returned (.pointer (some ⟨gw, 0, none⟩)) ∧ ∃ v', BackI w0 gw (nextS S d) v' w' := by
  obtain ⟨h1, h2⟩ := h
  obtain ⟨rfl, v', p1, p2, p3⟩ := hp
  exact ⟨rfl, v', p1, h2.trans (p2.below h1 h2.size)⟩
theorem back_below {w0 w w' : World} {gw : Nat} {S : Option Text} {v : Value} (h : BackI w0 gw S v w) (hb : Below w.heap.size w w') : BackI w0 gw S v w' :=
  ⟨h.1.below hb, below_tr h.2 hb (Nat.le_refl _)⟩
/-- the second loop: a reader of what is left -/
def BackR (w0 : World) (g : Nat) (r : Text) (w : World) : Prop := Rdr w g false r ∧ w0.heap.size ≤ g ∧ Below w0.heap.size w0 w
theorem backR_below {w0 w w' : World} {g : Nat} {r : Text} (h : BackR w0 g r w) (hb : Below w.heap.size w w') : BackR w0 g r w' :=
  ⟨rdr_below h.1 hb (rdr_lt h.1), h.2.1, below_tr h.2.2 hb (Nat.le_refl _)⟩
theorem backR_read {w0 w w' : World} {g : Nat} {r r' : Text} (h : BackR w0 g r w) (hr : Rdr w' g false r') (ho : Only w w' g) : BackR w0 g r' w' :=
  ⟨hr, h.2.1, h.2.2.trans (ho.below h.2.1 h.2.2.size)⟩
end Go.Proofs.Ytjcjnokpbhmmiaa
