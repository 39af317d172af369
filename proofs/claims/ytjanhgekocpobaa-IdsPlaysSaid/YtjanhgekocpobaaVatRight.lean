/- Is a number right: the program's. -/
import Derived.Test.YtjanhgekocpobaaVatMbr
namespace Go.Proofs.Ytjanhgekocpobaa
open Go.RowKit Go.Maps
set_option maxRecDepth 1000000

def plainB (b : UInt8) : Bool := Vat.letter b.toNat || Vat.digit b.toNat
def roomN (c n : ByteArray) : Bool := Vat.country (strT c) && decide (1 ≤ n.size) && decide (n.size ≤ 20)
/-- a right number -/
def rightP (c n : ByteArray) : Bool := if isMem c then (formsOf c).any fun f => Vat.fitT (strT f) (strT n) else roomN c n && (strT n).all plainB
theorem fit_rep : ∀ t : List UInt8, Vat.fitT (Lib.repeatL [88] t.length) t = t.all plainB
  | [] => rfl
  | b :: t => by
    show Vat.fitT (88 :: Lib.repeatL [88] t.length) (b :: t) = _
    rw [Vat.fitT, fit_rep t, List.all_cons]
    rfl
/-- a text in a block of its own, as a slice of one -/
theorem strs_one (w : World) (s : ByteArray) (h : s.size ≤ 1000) : Strs (w.alloc (.cells #[.string s] 9)) (some ⟨w.heap.size, 0, none⟩) [s] := fun i hi => by
  have h0 : i = 0 := by simpa using hi
  subst h0
  refine ⟨_, rfl, by simp, ?_, h⟩
  have h7 : (⟨w.heap.size, 0, none⟩ : Addr).add 0 = ⟨w.heap.size, 0, none⟩ := by simp [Addr.add]
  rw [h7, cell_of_row _ w.heap.size 0 _ _ _ (heap_alloc_new w (.cells #[.string s] 9))]
  rfl
theorem formsOf_len (c : ByteArray) : (formsOf c).length ≤ 1000 := by
  unfold formsOf
  cases h : tabL.find? (fun p => decide (p.1 = c)) with
  | none => simp
  | some p =>
    have h1 : ∀ p ∈ tabL, p.2.length ≤ 1000 := by decide +kernel
    exact h1 p (List.mem_of_find?_eq_some h)
set_option maxHeartbeats 1000000 in
theorem code_right (c n : ByteArray) (w : World) (hc : c.size ≤ 140737488351232) (hn : n.size ≤ 9223372036854775807) (hM : MaxL w) :
    Calls Try.prog 37 #[.string c, .string n] w fun e w' => e = .returned (.bool (rightP c n)) ∧ Below w.heap.size w w' := by
  have HMb := Lib.hid (code_member c w (by omega) hM)
  have hn2 : (n.size : Int) ≤ 9223372036854775807 := by omega
  cases h : isMem c with
  | true =>
    have HR : Hid (rightP c n = (formsOf c).any fun f => Vat.fitT (strT f) (strT n)) := Lib.hid (by unfold rightP; rw [if_pos h])
    rw [h] at HMb
    have HF := Lib.hid (code_forms c w (by unfold maxLen; omega))
    have HO : Hid (∀ W A k, Strs W A (formsOf c) → Calls Try.prog 52 #[.slice A (formsOf c).length k, .string n] W fun e w' => e = .returned (.bool (rightP c n)) ∧ Below W.heap.size W w') := Lib.hid (fun W A k hS => by
      rw [HR.out]; exact code_isOneOf (formsOf c) A k n W (formsOf_len c) hn hS)
    clear h
    go_enter Try.func37, Try.ntmps37
    go_wp2_with (first
      | (go_at_call 51; refine HMb.out.mono ?_; rintro e w1 ⟨rfl, rfl⟩)
      | (go_at_call 53; refine HF.out.mono ?_; rintro e w2 ⟨A, k, rfl, hs, hb⟩; have HS := Lib.hid hs; have HB := Lib.hid hb; clear hs hb)
      | (go_at_call 52; refine (HO.out w2 A k HS.out).mono ?_; rintro e w3 ⟨rfl, hb3⟩))
    go_ret
    exact ⟨rfl, HB.out.trans (hb3.mono HB.out.size)⟩
  | false =>
    rw [h] at HMb
    have HC := Lib.hid (code_country c w (by omega))
    have HR : Hid (rightP c n = (roomN c n && (strT n).all plainB)) := Lib.hid (by unfold rightP; rw [h]; rfl)
    clear h
    cases hr : roomN c n with
    | false =>
      rw [HR.out, hr, Bool.false_and]
      unfold roomN at hr
      cases hcc : Vat.country (strT c) with
      | false =>
        rw [hcc] at HC
        clear hcc hr
        go_enter Try.func37, Try.ntmps37
        go_wp2_with (first
          | (go_at_call 51; refine HMb.out.mono ?_; rintro e w1 ⟨rfl, rfl⟩)
          | (go_at_call 36; refine HC.out.mono ?_; rintro e w1 ⟨rfl, rfl⟩))
        go_ret
        exact ⟨rfl, Below.refl _ _⟩
      | true =>
        rw [hcc] at HC hr
        rw [Bool.true_and] at hr
        clear hcc
        by_cases h1 : 1 ≤ n.size
        · have h2 : ¬ n.size ≤ 20 := fun h2 => by rw [decide_eq_true h1, decide_eq_true h2] at hr; cases hr
          have h3 : (1 : Int) ≤ (n.size : Int) := by omega
          have h4 : (20 : Int) < (n.size : Int) := by omega
          clear hr h1 h2
          go_enter Try.func37, Try.ntmps37
          go_wp2_with (first
            | (go_at_call 51; refine HMb.out.mono ?_; rintro e w1 ⟨rfl, rfl⟩)
            | (go_at_call 36; refine HC.out.mono ?_; rintro e w1 ⟨rfl, rfl⟩))
          go_ret
          exact ⟨rfl, Below.refl _ _⟩
        · have h3 : (n.size : Int) < 1 := by omega
          clear hr h1
          go_enter Try.func37, Try.ntmps37
          go_wp2_with (first
            | (go_at_call 51; refine HMb.out.mono ?_; rintro e w1 ⟨rfl, rfl⟩)
            | (go_at_call 36; refine HC.out.mono ?_; rintro e w1 ⟨rfl, rfl⟩))
          go_ret
          exact ⟨rfl, Below.refl _ _⟩
    | true =>
      unfold roomN at hr
      simp only [Bool.and_eq_true, decide_eq_true_iff] at hr
      obtain ⟨⟨hcc, h1⟩, h2⟩ := hr
      rw [hcc] at HC
      have HR2 : Hid (rightP c n = (strT n).all plainB) := Lib.hid (by rw [HR.out]; unfold roomN; rw [hcc, decide_eq_true h1, decide_eq_true h2]; rfl)
      obtain ⟨X, hX⟩ : ∃ X : ByteArray, X = ⟨(Lib.repeatL [88] n.size).toArray⟩ := ⟨_, rfl⟩
      have hXl : strT X = Lib.repeatL [88] (strT n).length := by rw [hX]; rfl
      have hXs : X.size ≤ 1000 := by
        have : (strT X).length = n.size := by
          rw [hXl]
          show (Lib.repeatL [88] n.size).length = n.size
          have hg : ∀ k : Nat, (Lib.repeatL [(88 : UInt8)] k).length = k := by
            intro k
            induction k with
            | zero => rfl
            | succ k ih => show (88 :: Lib.repeatL [88] k).length = _; rw [List.length_cons, ih]
          exact hg _
        rw [strT_length] at this
        omega
      have HO : Hid (∀ W : World, Calls Try.prog 52 #[.slice (some ⟨W.heap.size, 0, none⟩) 1 1, .string n] (W.alloc (.cells #[.string X] 9)) fun e w' => e = .returned (.bool (rightP c n)) ∧ Below W.heap.size W w') := Lib.hid (fun W => by
        have h := code_isOneOf [X] (some ⟨W.heap.size, 0, none⟩) 1 n (W.alloc (.cells #[.string X] 9)) (by simp) hn (strs_one W X hXs)
        refine h.mono fun e w' hh => ⟨?_, ((Below.refl W.heap.size W).alloc (Nat.le_refl _) _).trans (hh.2.mono (by simp))⟩
        rw [hh.1, HR2.out]
        simp only [List.any_cons, List.any_nil, Bool.or_false]
        rw [hXl, fit_rep])
      have HRep : Hid (Calls Try.prog 54 #[.string { data := #[88] }, .int .i64 n.size] w fun e w' => e = .returned (.string X) ∧ Below w.heap.size w w') := Lib.hid (by
        by_cases h3 : 2 ≤ n.size
        · rw [hX]
          exact Try.strings_Repeat_main { data := #[88] } n.size w h3 (by omega) (by show 1 * n.size ≤ _; omega) (by decide)
        · have h4 : n.size = 1 := by omega
          rw [hX, h4]
          refine (Try.strings_Repeat_one { data := #[88] } w).mono fun e w' hh => ⟨hh.1, by rw [hh.2]; exact Below.refl _ _⟩)
      have h3 : (1 : Int) ≤ (n.size : Int) := by omega
      have h4 : (n.size : Int) ≤ 20 := by omega
      clear hX hXl hXs hcc h1 h2
      go_enter Try.func37, Try.ntmps37
      go_wp2_with (first
        | (go_at_call 51; refine HMb.out.mono ?_; rintro e w1 ⟨rfl, rfl⟩)
        | (go_at_call 36; refine HC.out.mono ?_; rintro e w1 ⟨rfl, rfl⟩)
        | (go_at_call 54; refine HRep.out.mono ?_; rintro e w2 ⟨rfl, hb⟩; have HB := Lib.hid hb; clear hb)
        | (go_at_call 52; refine (HO.out w2).mono ?_; rintro e w3 ⟨rfl, hb3⟩))
      go_ret
      exact ⟨rfl, HB.out.trans (hb3.mono HB.out.size)⟩
end Go.Proofs.Ytjanhgekocpobaa
