/- Batches as they come in; not more than are looked at. -/
import Derived.Test.YtbbgmjfmpcbpbaaJ45
import Derived.Test.YtbbgmjfmpcbpbaaJ5
namespace Go.Proofs.Ytbbgmjfmpcbpbaa
open Go.RowKit Go.ChangeShapes Go.WideShapes
set_option maxRecDepth 100000
set_option linter.unusedSimpArgs false
set_option linter.unusedVariables false

def BatsAt (w : World) (A : Option Addr) (L : List Text) : Prop :=
  ∀ i (h : i < L.length), ∃ b off Ai ci, A = some ⟨b, off, none⟩ ∧ b < w.heap.size ∧ w.cell? ⟨b, off + i, none⟩ = some (.slice Ai L[i].length ci) ∧ L[i].length ≤ ci ∧ ci ≤ maxLen ∧ Txt w Ai L[i] ∧ (Ai = none → L[i] = [])
theorem BatsAt.below {w w' : World} {A : Option Addr} {L : List Text} (h : BatsAt w A L) (hb : Below w.heap.size w w') : BatsAt w' A L := fun i hi => by
  obtain ⟨b, off, Ai, ci, e, hbl, hc, h1, h2, hT, hn⟩ := h i hi
  exact ⟨b, off, Ai, ci, e, Nat.lt_of_lt_of_le hbl hb.size, (hb.cell (p := ⟨b, off + i, none⟩) hbl).trans hc, h1, h2, hT.below hb, hn⟩
section
variable {H : Type} {enc : TypeId × Value → H} {W : World} {base : Nat} {sp : Nat → Bool} {held : Bool}
theorem open_bats {r : Reach} {b0 : Nat} {v : Value} {d : DataW H} {p : List MemPlace} (hv : Value.okWide Try.prog W r b0 31 v) (h : DataW.Trod enc Try.prog W base sp held 31 v d p) :
    ∃ (A : Option Addr) (L : List Text) (c : Nat), v = .slice A L.length c ∧ BatsAt W A L ∧ L.length ≤ 9223372036854775807 := by
  obtain ⟨a, n, c, rfl⟩ := okWide_slice Try.underlying31 hv
  obtain ⟨fuel, hf⟩ := h
  rcases Go.Deep.open_slice1 Try.underlying31 (by kernel_rfl) (by simpa [Value.cells] using hf) with ⟨hcs, _⟩ | ⟨y, len, cap, m, k, V, D, Pl, hcs, _, hl, hm, hm', _, hi⟩
  · simp at hcs
    obtain ⟨rfl, rfl, rfl⟩ := hcs
    exact ⟨none, [], 0, rfl, fun i hi => by simp at hi, by simp⟩
  · simp at hcs
    obtain ⟨rfl, rfl, rfl⟩ := hcs
    have hnm : n ≤ m := by
      rw [hm']
      cases sp y.block
      · simp
      · simpa using hl
    by_cases hz : n = 0
    · subst hz
      exact ⟨some y, [], c, rfl, fun i hi => by simp at hi, by simp⟩
    have each : ∀ i : Fin n, ∃ l : Text, ∃ Ai ci, V i.val = .slice Ai l.length ci ∧ l.length ≤ ci ∧ ci ≤ maxLen ∧ Txt W Ai l ∧ (Ai = none → l = []) := fun i => by
      obtain ⟨A, l, c', h1, h2, h3, h4, h5⟩ := bytes_of (hi i.val (by omega)).2
      exact ⟨l, A, c', h1, h2, h3, h4, h5⟩
    obtain ⟨b, off, spot⟩ := y
    have hspot : spot = none := by
      have g0 := (hi 0 (by omega)).1
      simpa [Addr.add] using World.cell?_spot g0
    subst hspot
    have hL : (List.ofFn fun i => Classical.choose (each i)).length = n := List.length_ofFn
    refine ⟨some ⟨b, off, none⟩, List.ofFn fun i => Classical.choose (each i), c, by rw [hL], fun i hin => ?_, by rw [hL]; exact Nat.le_trans hl hm⟩
    have hin' : i < n := by rw [hL] at hin; exact hin
    obtain ⟨Ai, ci, h1, h2, h3, h4, h5⟩ := Classical.choose_spec (each ⟨i, hin'⟩)
    have hcell := (hi i (by omega)).1
    have hblk := block_lt_of_cell hcell
    rw [add_block] at hblk
    rw [Addr.add_mid] at hcell
    rw [List.getElem_ofFn]
    exact ⟨b, off, Ai, ci, rfl, hblk, hcell.trans (congrArg some h1), h2, h3, h4, h5⟩
end
def jlight (L : List Text) : Bool := decide ((∀ q (h : q < L.length), L[q].length ≤ 600) ∧ L.length ≤ 30)
set_option maxHeartbeats 1000000 in
theorem code_jlight (L : List Text) (A : Option Addr) (cap : Nat) (w : World) (hL : L.length ≤ 9223372036854775807) (hR : BatsAt w A L) :
    Calls Try.prog 31 #[.slice A L.length cap] w fun e w' => e = .returned (.bool (jlight L)) ∧ w = w' := by
  have HR := Lib.hid hR
  have HL := Lib.hid hL
  clear hR hL
  generalize hv : jlight L = v
  have HV := Lib.hid hv
  clear hv
  obtain ⟨ll, hll⟩ : ∃ ll, ll = L.length := ⟨_, rfl⟩
  rw [← hll]
  have HLl := Lib.hid hll
  clear hll
  go_enter Try.func31, Try.ntmps31
  go_wp2
  go_loopw [4, 7] (fun v4 i wr => ∃ k : Nat, k ≤ ll ∧ i = .int .i64 (k : Nat) ∧ wr = w ∧ Hid (∀ q (h : q < L.length), q < k → L[q].length ≤ 600)) (fun _ i _ => roundsLeft ll i)
  case atStart => exact ⟨0, Nat.zero_le _, rfl, rfl, Lib.hid (fun q _ h => absurd h (Nat.not_lt_zero q))⟩
  case round =>
    obtain ⟨k, hk, rfl, rfl, HS⟩ := hrel
    by_cases hlt : k < ll
    · have hlt' : (k : Int) < (ll : Int) := by omega
      have hge : ¬ ll ≤ k := by omega
      have HWk : Hid (wrap64 ((k : Int) + 1) = (k : Int) + 1) := Lib.hid (by have := HL.out; have := HLl.out; unfold wrap64; omega)
      have HMs : Hid (roundsLeft ll (.int .i64 ((k : Int) + 1)) < roundsLeft ll (.int .i64 (k : Int))) := Lib.hid (roundsLeft_next _ _ hlt)
      have hkL : k < L.length := by rw [← HLl.out]; exact hlt
      obtain ⟨b, off, Ai, ci, rfl, hbl, hc, _, _, _, _⟩ := HR.out k hkL
      obtain ⟨nl, hnl⟩ : ∃ nl, nl = L[k].length := ⟨_, rfl⟩
      rw [← hnl] at hc
      have HN := Lib.hid hnl
      clear hnl
      have hwk := HWk.out
      by_cases hbig : (600 : Int) < (nl : Int)
      · go_wp2
        go_ret
        refine ⟨ret_bool ?_, rfl⟩
        rw [← HV.out]
        exact (decide_eq_false (fun h => by have h1 := h.1 k hkL; rw [← HN.out] at h1; omega)).symm
      · have hbig' : ¬ (600 : Int) < (nl : Int) := hbig
        have HS2 : Hid (∀ q (h : q < L.length), q < k + 1 → L[q].length ≤ 600) := Lib.hid (fun q h hq => by
          by_cases e : q = k
          · subst e
            rw [← HN.out]
            omega
          · exact HS.out q h (by omega))
        clear hbig
        go_wp2
        go_roundw
        case rel => exact ⟨k + 1, by omega, congrArg (Value.int .i64) (by omega), trivial, HS2⟩
        case measure => first | exact HMs.out | (rw [hwk]; exact HMs.out)
    · obtain rfl : k = ll := by omega
      have HA : Hid (∀ q (h : q < L.length), L[q].length ≤ 600) := Lib.hid (fun q h => HS.out q h (by rw [HLl.out]; exact h))
      by_cases h30 : (k : Int) ≤ 30
      · go_wp2
        go_ret
        refine ⟨ret_bool ?_, rfl⟩
        rw [← HV.out]
        exact (decide_eq_true ⟨HA.out, by rw [← HLl.out]; omega⟩).symm
      · go_wp2
        go_ret
        refine ⟨ret_bool ?_, rfl⟩
        rw [← HV.out]
        exact (decide_eq_false (fun h => by have := h.2; rw [← HLl.out] at this; omega)).symm
end Go.Proofs.Ytbbgmjfmpcbpbaa
