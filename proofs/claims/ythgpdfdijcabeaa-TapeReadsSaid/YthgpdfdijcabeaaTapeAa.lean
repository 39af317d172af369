/- Join, every input: the program's and the document's. -/
import Derived.Test.YthgpdfdijcabeaaTapeQ
namespace Go.Proofs.Ythgpdfdijcabeaa
open Go.RowKit
set_option maxRecDepth 100000

/-- are these a batch's sectors, and what does it hold? -/
def joinQ (L : List Text) (s n u : Int) : Bool := headOk s n && decide (L.length = (n.toNat + 63) / 64) && decide (∀ i, (h : i < L.length) → L[i].length = 64) && joinB L n.toNat u.toNat
def joinX (L : List Text) (s n u : Int) : Text := if joinQ L s n u = true then joinT L n.toNat else []
def JoinG (w : World) (q : Bool) (T : Text) (e : Ending) (w' : World) : Prop := ∃ B c, e = .returned (.tuple #[.slice B T.length c, .bool q]) ∧ Txt w' B T ∧ (B = none → T = []) ∧ Below w.heap.size w w'
theorem joinG_no {w : World} {L : List Text} {s n u : Int} (h : joinQ L s n u = false) : ∀ e w', JoinNo w e w' → JoinG w (joinQ L s n u) (joinX L s n u) e w' := by
  rintro e w' ⟨rfl, hb⟩
  unfold joinX
  rw [h]
  exact ⟨none, 0, rfl, Txt.none_, fun _ => rfl, hb⟩
theorem joinG_of {w : World} {L : List Text} {s : Int} {n u : Nat} (h : joinQ L s n u = joinB L n u) : ∀ e w', JoinR w L n u e w' → JoinG w (joinQ L s n u) (joinX L s n u) e w' := by
  rintro e w' ⟨B, c, T', rfl, hT, _, _, ht, hn, hb⟩
  have hx : joinX L s n u = T' := by unfold joinX; rw [h, hT]; rfl
  rw [hx, h]
  exact ⟨B, c, rfl, ht, hn, hb⟩
theorem join_cases (L : List Text) (s n u : Int) (hu : 0 ≤ u) (P : Prop) (h1 : headOk s n = false → P) (h2 : ∀ m : Nat, n = m → headOk s m = true → L.length ≠ (m + 63) / 64 → P)
    (h3 : ∀ m : Nat, n = m → headOk s m = true → L.length = (m + 63) / 64 → ∀ i, (hi : i < L.length) → L[i].length ≠ 64 → P)
    (h4 : ∀ m v : Nat, n = m → u = v → headOk s m = true → L.length = (m + 63) / 64 → (∀ i, (hi : i < L.length) → L[i].length = 64) → P) : P := by
  rcases Bool.eq_false_or_eq_true (headOk s n) with hh | hh
  · have hn := headOk_len hh
    obtain ⟨m, rfl⟩ : ∃ m : Nat, n = m := ⟨n.toNat, by omega⟩
    obtain ⟨v, rfl⟩ : ∃ v : Nat, u = v := ⟨u.toNat, by omega⟩
    by_cases hm : L.length = (m + 63) / 64
    · by_cases ha : ∀ i, (hi : i < L.length) → L[i].length = 64
      · exact h4 m v rfl rfl hh hm ha
      · obtain ⟨i, hi⟩ := Classical.not_forall.1 ha
        obtain ⟨hi, hx⟩ := Classical.not_forall.1 hi
        exact h3 m rfl hh hm i hi hx
    · exact h2 m rfl hh hm
  · exact h1 hh
theorem joinQ_head {L : List Text} {s n u : Int} (h : headOk s n = false) : joinQ L s n u = false := by unfold joinQ; rw [h]; rfl
theorem joinQ_count {L : List Text} {s u : Int} {m : Nat} (h : L.length ≠ (m + 63) / 64) : joinQ L s m u = false := by unfold joinQ; rw [Int.toNat_natCast, decide_eq_false h]; simp
theorem joinQ_size {L : List Text} {s n u : Int} (i : Nat) (hi : i < L.length) (h : L[i].length ≠ 64) : joinQ L s n u = false := by
  have e : decide (∀ i, (h : i < L.length) → L[i].length = 64) = false := decide_eq_false (fun a => h (a i hi))
  unfold joinQ
  rw [e]
  simp
theorem joinQ_all {L : List Text} {s : Int} {m v : Nat} (h1 : headOk s m = true) (h2 : L.length = (m + 63) / 64) (h3 : ∀ i, (hi : i < L.length) → L[i].length = 64) : joinQ L s m v = joinB L m v := by
  unfold joinQ
  rw [Int.toNat_natCast, Int.toNat_natCast, h1, decide_eq_true h2, decide_eq_true h3]
  rfl
theorem code_join (L : List Text) (A : Option Addr) (cL : Nat) (s n u : Int) (w : World) (hu : 0 ≤ u ∧ u < 4294967296) (hT : TextRows w A L) :
    Calls Try.prog 27 #[.slice A L.length cL, headV s n u] w (JoinG w (joinQ L s n u) (joinX L s n u)) :=
  join_cases L s n u hu.1 _ (fun h => (code_join_no L.length A cL s n u w h).mono (joinG_no (joinQ_head h)))
    (fun m e h hm => by subst e; exact (code_join_count L.length A cL s m u w h hm).mono (joinG_no (joinQ_count hm)))
    (fun m e h hm i hi hx => by subst e; exact (code_join_size L A cL s m u w h hm i hi hx hT).mono (joinG_no (joinQ_size i hi hx)))
    (fun m v e e2 h hm ha => by subst e; subst e2; exact (code_join_c L A cL s m v w h hm ha (by omega) hT).mono (joinG_of (joinQ_all h hm ha)))
theorem ref_join (L : List Text) (A : Option Addr) (cL : Nat) (s n u : Int) (w : World) (hu : 0 ≤ u ∧ u < 4294967296) (hT : TextRows w A L) :
    Calls Try.prog 28 #[.slice A L.length cL, headV s n u] w (JoinG w (joinQ L s n u) (joinX L s n u)) :=
  join_cases L s n u hu.1 _ (fun h => (ref_join_no L.length A cL s n u w h).mono (joinG_no (joinQ_head h)))
    (fun m e h hm => by subst e; exact (ref_join_count L.length A cL s m u w h hm).mono (joinG_no (joinQ_count hm)))
    (fun m e h hm i hi hx => by subst e; exact (ref_join_size L A cL s m u w h hm i hi hx hT).mono (joinG_no (joinQ_size i hi hx)))
    (fun m v e e2 h hm ha => by subst e; subst e2; exact (ref_join_c L A cL s m v w h hm ha hT).mono (joinG_of (joinQ_all h hm ha)))
theorem beginV_is (l : Text) : ∃ (a : Int) (b c : Nat) (q : Bool), beginV l = .tuple #[headV a b c, .bool q] := by
  unfold beginV
  by_cases h : isB l = true
  · rw [if_pos h]; exact ⟨_, _, _, _, rfl⟩
  · rw [if_neg h]; exact ⟨0, 0, 0, false, rfl⟩
end Go.Proofs.Ythgpdfdijcabeaa
