/- A journal opened while power may go. Batches as they come in; not more than are looked at. When power goes, and what it tears, as it comes in: its numbers are ints. -/
import Derived.Test.YtfjejiapafdgeaaJ36
import Derived.Test.YtfjejiapafdgeaaJ42
import Derived.Test.YtfjejiapafdgeaaJ43
import Derived.Test.YtfjejiapafdgeaaJ5
import Derived.SizedLaws
import Derived.ArgAppend
namespace Go.Proofs.Ytfjejiapafdgeaa
open Go.RowKit
set_option maxRecDepth 100000
set_option linter.unusedSimpArgs false
set_option linter.unusedVariables false

/-- what opening leaves, and the error's number -/
def OX (d : DiskV) : DiskV × Nat × Int := if d.dead = true then (d, 0, 32) else WX d (findT d.S d.many).2
theorem jopen_dead (w : World) (B bm nn : Nat) (d : DiskV) (h : Dsk w B bm nn d) (hd : d.dead = true) :
    Calls Try.prog 33 #[.pointer (some ⟨B, 0, none⟩)] w fun e w' => e = .returned (.tuple #[.pointer none, .slice none 0 0, .int .i64 32]) ∧ w = w' := by
  have HF := Lib.hid (dead_find w B bm nn d h hd)
  clear h hd
  go_enter Try.func33, Try.ntmps33
  go_wp2_with (go_at_call 15; refine HF.out.mono ?_; rintro e w1 ⟨rfl, rfl⟩)
  go_ret3
  exact ⟨rfl, rfl⟩
/-- power goes while it is wiped -/
theorem jopen_cut (w : World) (B bm nn : Nat) (d : DiskV) (h : Dsk w B bm nn d) (hok : OkD d) (hd : d.dead = false) (hn : nn ≤ 1000000) (hw : d.writes ≤ 1000000) (hf : (WX d (findT d.S d.many).2).2.2 ≠ 0) :
    Calls Try.prog 33 #[.pointer (some ⟨B, 0, none⟩)] w fun e w' => ∃ n, e = .returned (.tuple #[.pointer none, .slice none 0 0, .int .i64 (WX d (findT d.S d.many).2).2.2]) ∧ Dsk w' B bm n (WX d (findT d.S d.many).2).1 ∧ n ≤ nn + d.many ∧ ChgD w w' B bm := by
  have HF := Lib.hid (find_any w B bm nn d h hd)
  have HW : Hid (∀ W, Below w.heap.size w W → Calls Try.prog 22 #[.pointer (some ⟨B, 0, none⟩), .int .i64 (findT d.S d.many).2] W fun e w' => ∃ n k, e = .returned (.tuple #[.int .i64 (k : Nat), .int .i64 (WX d (findT d.S d.many).2).2.2]) ∧ Dsk w' B bm n (WX d (findT d.S d.many).2).1 ∧ n ≤ nn + d.many ∧ ChgD W w' B bm) := Lib.hid (fun W hb => by
    refine (wipe_any W B bm nn d (findT d.S d.many).2 (h.below hb) hok hn hw).mono ?_
    rintro e w' ⟨rfl, ⟨n, h1, h2⟩, h3⟩
    exact ⟨n, _, rfl, h1, h2, h3⟩)
  generalize (WX d (findT d.S d.many).2).2.2 = f at *
  generalize (WX d (findT d.S d.many).2).1 = d2 at *
  generalize (findT d.S d.many).1 = X at *
  generalize (findT d.S d.many).2 = t at *
  have hq : (f == 0) = false := beq_false_of_ne hf
  have hq2 : (f != 0) = true := by simp [hf]
  clear h hok hd hn hw
  go_enter Try.func33, Try.ntmps33
  go_wp2_with (first
    | (go_at_call 15; refine HF.out.mono ?_; rintro e w1 ⟨A4, c4, rfl, hs1, hb1⟩; have HB1 := Lib.hid hb1; clear hs1 hb1; refine Stop.out ?_))
  unfold Stop
  go_wp2_with (first
    | (go_at_call 22; refine (HW.out _ HB1.out).mono ?_; rintro e w2 ⟨n, k, rfl, hd2, hn2, hc2⟩; have HD2 := Lib.hid (And.intro hd2 hn2); have HC2 := Lib.hid hc2; clear hd2 hn2 hc2; refine Stop.out ?_))
  unfold Stop
  go_wp2
  go_ret3
  exact ⟨n, rfl, HD2.out.1, HD2.out.2, (ChgD.of_below HB1.out).trans HC2.out⟩
end Go.Proofs.Ytfjejiapafdgeaa

namespace Go.Proofs.Ytfjejiapafdgeaa
open Go.RowKit Go.ChangeShapes Go.WideShapes
set_option maxRecDepth 100000
set_option linter.unusedSimpArgs false
set_option linter.unusedVariables false

def BatsAt (w : World) (A : Option Addr) (L : List Text) : Prop :=
  ∀ i (h : i < L.length), ∃ b off Ai ci, A = some ⟨b, off, none⟩ ∧ b < w.heap.size ∧ w.cell? ⟨b, off + i, none⟩ = some (.slice Ai L[i].length ci) ∧ L[i].length ≤ ci ∧ ci ≤ maxLen ∧ Txt w Ai L[i] ∧ (Ai = none → L[i] = [])
theorem BatsAt.below {w w' : World} {A : Option Addr} {L : List Text} (h : BatsAt w A L) (hb : Below w.heap.size w w') : BatsAt w' A L := fun i hi => by
  obtain ⟨b, off, Ai, ci, e, hbl, hc, h1, h2, hT, hn⟩ := h i hi
  exact ⟨b, off, Ai, ci, e, Nat.lt_of_lt_of_le hbl hb.size, (hb.cell (p := ⟨b, off + i, none⟩) hbl).trans hc, h1, h2, hT.below hb, hn⟩
section
variable {H : Type} {enc : TypeId × Value → H} {W : World} {base : Nat} {sp : Nat → Bool} {held : Bool}
theorem open_bats {r : Reach} {b0 : Nat} {v : Value} {d : DataW H} {p : List MemPlace} (hv : Value.okWide Try.prog W r b0 31 v) (h : DataW.Trod enc Try.prog W base sp held 31 v d p) :
    ∃ (A : Option Addr) (L : List Text) (c : Nat), v = .slice A L.length c ∧ BatsAt W A L ∧ L.length ≤ 9223372036854775807 := by
  obtain ⟨a, n, c, rfl⟩ := okWide_slice Try.underlying31 hv
  obtain ⟨fuel, hf⟩ := h
  rcases Go.Deep.open_slice1 Try.underlying31 (by kernel_rfl) (by simpa [Value.cells] using hf) with ⟨hcs, _⟩ | ⟨y, len, cap, m, k, V, D, Pl, hcs, _, hl, hm, hm', _, hi⟩
  · simp at hcs
    obtain ⟨rfl, rfl, rfl⟩ := hcs
    exact ⟨none, [], 0, rfl, fun i hi => by simp at hi, by simp⟩
  · simp at hcs
    obtain ⟨rfl, rfl, rfl⟩ := hcs
    have hnm : n ≤ m := by
      rw [hm']
      cases sp y.block
      · simp
      · simpa using hl
    by_cases hz : n = 0
    · subst hz
      exact ⟨some y, [], c, rfl, fun i hi => by simp at hi, by simp⟩
    have each : ∀ i : Fin n, ∃ l : Text, ∃ Ai ci, V i.val = .slice Ai l.length ci ∧ l.length ≤ ci ∧ ci ≤ maxLen ∧ Txt W Ai l ∧ (Ai = none → l = []) := fun i => by
      obtain ⟨A, l, c', h1, h2, h3, h4, h5⟩ := bytes_of (hi i.val (by omega)).2
      exact ⟨l, A, c', h1, h2, h3, h4, h5⟩
    obtain ⟨b, off, spot⟩ := y
    have hspot : spot = none := by
      have g0 := (hi 0 (by omega)).1
      simpa [Addr.add] using World.cell?_spot g0
    subst hspot
    have hL : (List.ofFn fun i => Classical.choose (each i)).length = n := List.length_ofFn
    refine ⟨some ⟨b, off, none⟩, List.ofFn fun i => Classical.choose (each i), c, by rw [hL], fun i hin => ?_, by rw [hL]; exact Nat.le_trans hl hm⟩
    have hin' : i < n := by rw [hL] at hin; exact hin
    obtain ⟨Ai, ci, h1, h2, h3, h4, h5⟩ := Classical.choose_spec (each ⟨i, hin'⟩)
    have hcell := (hi i (by omega)).1
    have hblk := block_lt_of_cell hcell
    rw [add_block] at hblk
    rw [Addr.add_mid] at hcell
    rw [List.getElem_ofFn]
    exact ⟨b, off, Ai, ci, rfl, hblk, hcell.trans (congrArg some h1), h2, h3, h4, h5⟩
end
def jlight (L : List Text) : Bool := decide ((∀ q (h : q < L.length), L[q].length ≤ 600) ∧ L.length ≤ 30)
set_option maxHeartbeats 1000000 in
theorem code_jlight (L : List Text) (A : Option Addr) (cap : Nat) (w : World) (hL : L.length ≤ 9223372036854775807) (hR : BatsAt w A L) :
    Calls Try.prog 31 #[.slice A L.length cap] w fun e w' => e = .returned (.bool (jlight L)) ∧ w = w' := by
  have HR := Lib.hid hR
  have HL := Lib.hid hL
  clear hR hL
  generalize hv : jlight L = v
  have HV := Lib.hid hv
  clear hv
  obtain ⟨ll, hll⟩ : ∃ ll, ll = L.length := ⟨_, rfl⟩
  rw [← hll]
  have HLl := Lib.hid hll
  clear hll
  go_enter Try.func31, Try.ntmps31
  go_wp2
  go_loopw [4, 7] (fun v4 i wr => ∃ k : Nat, k ≤ ll ∧ i = .int .i64 (k : Nat) ∧ wr = w ∧ Hid (∀ q (h : q < L.length), q < k → L[q].length ≤ 600)) (fun _ i _ => roundsLeft ll i)
  case atStart => exact ⟨0, Nat.zero_le _, rfl, rfl, Lib.hid (fun q _ h => absurd h (Nat.not_lt_zero q))⟩
  case round =>
    obtain ⟨k, hk, rfl, rfl, HS⟩ := hrel
    by_cases hlt : k < ll
    · have hlt' : (k : Int) < (ll : Int) := by omega
      have hge : ¬ ll ≤ k := by omega
      have HWk : Hid (wrap64 ((k : Int) + 1) = (k : Int) + 1) := Lib.hid (by have := HL.out; have := HLl.out; unfold wrap64; omega)
      have HMs : Hid (roundsLeft ll (.int .i64 ((k : Int) + 1)) < roundsLeft ll (.int .i64 (k : Int))) := Lib.hid (roundsLeft_next _ _ hlt)
      have hkL : k < L.length := by rw [← HLl.out]; exact hlt
      obtain ⟨b, off, Ai, ci, rfl, hbl, hc, _, _, _, _⟩ := HR.out k hkL
      obtain ⟨nl, hnl⟩ : ∃ nl, nl = L[k].length := ⟨_, rfl⟩
      rw [← hnl] at hc
      have HN := Lib.hid hnl
      clear hnl
      have hwk := HWk.out
      by_cases hbig : (600 : Int) < (nl : Int)
      · go_wp2
        go_ret
        refine ⟨ret_bool ?_, rfl⟩
        rw [← HV.out]
        exact (decide_eq_false (fun h => by have h1 := h.1 k hkL; rw [← HN.out] at h1; omega)).symm
      · have hbig' : ¬ (600 : Int) < (nl : Int) := hbig
        have HS2 : Hid (∀ q (h : q < L.length), q < k + 1 → L[q].length ≤ 600) := Lib.hid (fun q h hq => by
          by_cases e : q = k
          · subst e
            rw [← HN.out]
            omega
          · exact HS.out q h (by omega))
        clear hbig
        go_wp2
        go_roundw
        case rel => exact ⟨k + 1, by omega, congrArg (Value.int .i64) (by omega), trivial, HS2⟩
        case measure => first | exact HMs.out | (rw [hwk]; exact HMs.out)
    · obtain rfl : k = ll := by omega
      have HA : Hid (∀ q (h : q < L.length), L[q].length ≤ 600) := Lib.hid (fun q h => HS.out q h (by rw [HLl.out]; exact h))
      by_cases h30 : (k : Int) ≤ 30
      · go_wp2
        go_ret
        refine ⟨ret_bool ?_, rfl⟩
        rw [← HV.out]
        exact (decide_eq_true ⟨HA.out, by rw [← HLl.out]; omega⟩).symm
      · go_wp2
        go_ret
        refine ⟨ret_bool ?_, rfl⟩
        rw [← HV.out]
        exact (decide_eq_false (fun h => by have := h.2; rw [← HLl.out] at this; omega)).symm
end Go.Proofs.Ytfjejiapafdgeaa

namespace Go.Proofs.Ytfjejiapafdgeaa
open Go.ChangeShapes Go.WideShapes Go.ChangeAt Go.RowKit Go.Joins Go.Deep
set_option maxRecDepth 100000
set_option linter.unusedSimpArgs false
set_option linter.unusedVariables false

def IntB (q : Int) : Prop := -9223372036854775808 ≤ q ∧ q ≤ 9223372036854775807
theorem intB_of {q : Int} (h : (Lit.int .i64 q).wf = true) : IntB q := by
  have h2 : (decide (IntKind.i64.min ≤ q) && decide (q ≤ IntKind.i64.max)) = true := h
  rw [Bool.and_eq_true, decide_eq_true_eq, decide_eq_true_eq] at h2
  exact h2
abbrev CutV := Int × Int
def flatCutV (p : CutV) : List Value := [.int .i64 p.1, .int .i64 p.2]
def flatsCutV (L : List CutV) : List Value := L.flatMap flatCutV
theorem flatsCutV_len (L : List CutV) : (flatsCutV L).length = 2 * L.length := by
  induction L with
  | nil => rfl
  | cons p L ih =>
    have e : flatsCutV (p :: L) = flatCutV p ++ flatsCutV L := rfl
    rw [e, List.length_append, ih]
    simp [flatCutV]
    omega
theorem flatsCutV_append (L M : List CutV) : flatsCutV (L ++ M) = flatsCutV L ++ flatsCutV M := List.flatMap_append
theorem flatsCutV_one (M : List CutV) : ∀ u ∈ flatsCutV M, u.oneCell' = true := by
  intro u hu
  obtain ⟨p, _, hp⟩ := List.mem_flatMap.1 hu
  simp only [flatCutV, List.mem_cons, List.not_mem_nil, or_false] at hp
  rcases hp with rfl | rfl <;> rfl
theorem flatsCutV_at (L : List CutV) : ∀ (i : Nat) (h : i < L.length), (flatsCutV L)[2 * i]? = some (.int .i64 L[i].1) ∧ (flatsCutV L)[2 * i + 1]? = some (.int .i64 L[i].2) := by
  induction L with
  | nil => intro i h; simp at h
  | cons p L ih =>
    intro i h
    have e : flatsCutV (p :: L) = flatCutV p ++ flatsCutV L := rfl
    rw [e]
    cases i with
    | zero => exact ⟨rfl, rfl⟩
    | succ i =>
      obtain ⟨h0, h1⟩ := ih i (by simpa using h)
      have hl : (flatCutV p).length = 2 := rfl
      refine ⟨?_, ?_⟩
      · rw [List.getElem?_append_right (by rw [hl]; omega), hl, show 2 * (i + 1) - 2 = 2 * i by omega]; simpa using h0
      · rw [List.getElem?_append_right (by rw [hl]; omega), hl, show 2 * (i + 1) + 1 - 2 = 2 * i + 1 by omega]; simpa using h1
/-- at that address they lie, one behind the other; of none nothing is asked -/
def RowCutV (w : World) (A : Option Addr) (L : List CutV) : Prop :=
  L ≠ [] → ∃ b o, A = some ⟨b, o, none⟩ ∧ b < w.heap.size ∧ w.rangeAt b o (flatsCutV L)
theorem RowCutV.on {w W : World} {A : Option Addr} {L : List CutV} (h : RowCutV w A L) (hb : Below w.heap.size w W) : RowCutV W A L := fun hn => by
  obtain ⟨b, o, e, hl, hr⟩ := h hn
  exact ⟨b, o, e, Nat.lt_of_lt_of_le hl hb.size, fun j v hv => cell_on hb (hr j v hv)⟩
theorem RowCutV.nil {w : World} {A : Option Addr} : RowCutV w A [] := fun h => absurd rfl h
theorem RowCutV.at_ {w : World} {A : Option Addr} {L : List CutV} (h : RowCutV w A L) (i : Nat) (hi : i < L.length) : ∃ b o, A = some ⟨b, o, none⟩ ∧ b < w.heap.size ∧
    w.cell? ⟨b, o + i * 2, none⟩ = some (.int .i64 L[i].1) ∧ w.cell? ⟨b, o + i * 2 + 1, none⟩ = some (.int .i64 L[i].2) := by
  obtain ⟨b, o, e, hl, hr⟩ := h (by intro h0; subst h0; simp at hi)
  obtain ⟨h0, h1⟩ := flatsCutV_at L i hi
  have g0 := hr _ _ h0
  have g1 := hr _ _ h1
  rw [← Nat.add_assoc] at g1
  rw [Nat.mul_comm 2 i] at g0 g1
  exact ⟨b, o, e, hl, g0, g1⟩
theorem boxCutV {W : World} {g : Nat} {p : CutV} {t : TypeId} (h : W.heap[g]? = some (.cells #[.int .i64 p.1, .int .i64 p.2] t (0, 0))) : RowCutV W (some ⟨g, 0, none⟩) [p] := fun _ => ⟨g, 0, rfl, heapLt h, fun j v hv => by
  match j with
  | 0 => simp [flatsCutV, flatCutV] at hv; subst hv; rw [cell_of_row W g 0 _ _ _ h]; rfl
  | 1 => simp [flatsCutV, flatCutV] at hv; subst hv; rw [cell_of_row W g 1 _ _ _ h]; rfl
  | j + 2 => simp [flatsCutV, flatCutV] at hv⟩
theorem cellsCutV {W : World} {g : Nat} {v0 v1 : Value} {t : TypeId} (h : W.heap[g]? = some (.cells #[v0, v1] t (0, 0))) : W.cell? ⟨g, 0, none⟩ = some v0 ∧ W.cell? ⟨g, 1, none⟩ = some v1 :=
  ⟨cell_of_row W g 0 _ _ _ h, cell_of_row W g 1 _ _ _ h⟩
theorem cellsOfCutV : Try.prog.cellsOf 78 = 2 := by kernel_rfl
theorem bytesOfCutV : Try.prog.bytesOf 78 = 16 := by kernel_rfl
section
variable {H : Type} {enc : TypeId × Value → H} {W : World} {base : Nat} {sp : Nat → Bool} {held : Bool}
theorem ofCutV {fuel : Nat} {cs : List Value} {x : DataW H × List MemPlace} (h : DataW.trod enc Try.prog W base sp held fuel 78 cs = some x) (hl : cs.length = 2) : ∃ o : Int × Int, cs = [.int .i64 o.1, .int .i64 o.2] ∧ (IntB o.1 ∧ IntB o.2) := by
  match cs, hl with
  | [c0, c1], _ =>
    obtain ⟨y0, y1, n, _, _, h0, h1⟩ := trod_struct2 Try.underlying78 h
    have hcint : Try.prog.cellsOf 3 = 1 := by kernel_rfl
    obtain ⟨q0, e0, _, b0⟩ := DataW.trod_int Try.underlying3 h0
    rw [hcint] at e0
    obtain ⟨q1, e1, _, b1⟩ := DataW.trod_int Try.underlying3 h1
    rw [hcint] at e1
    simp at e0 e1
    subst e0
    subst e1
    exact ⟨(q0, q1), rfl, intB_of b0, intB_of b1⟩
theorem openCutV {r : Reach} {b0 : Nat} {v : Value} {d : DataW H} {p : List MemPlace} (hv : Value.okWide Try.prog W r b0 78 v)
    (h : DataW.Trod enc Try.prog W base sp held 78 v d p) : ∃ x : CutV, v = .agg #[.int .i64 x.1, .int .i64 x.2] ∧ (IntB (x.1) ∧ IntB (x.2)) := by
  obtain ⟨cs, rfl, hsz⟩ := okWide_struct Try.underlying78 hv
  obtain ⟨fuel, hf⟩ := h
  obtain ⟨o, ho, hw⟩ := ofCutV (cs := cs.toList) (by simpa [Value.cells] using hf) (by rw [Array.length_toList, hsz, cellsOfCutV])
  refine ⟨o, ?_, hw⟩
  congr 1
  apply Array.ext'
  rw [ho]
theorem openCutVs {r : Reach} {b0 : Nat} {v : Value} {d : DataW H} {p : List MemPlace} (hv : Value.okWide Try.prog W r b0 79 v) (h : DataW.Trod enc Try.prog W base (fun _ => true) held 79 v d p) :
    ∃ (A : Option Addr) (L : List CutV) (c : Nat), v = .slice A L.length c ∧ RowCutV W A L ∧ (A = none → L = [] ∧ c = 0) ∧ L.length ≤ c ∧ (∀ x ∈ L, IntB (x.1) ∧ IntB (x.2)) ∧ (d = .nil ∧ L = [] ∨ ∃ els spr, d = .slice els spr ∧ els.length = L.length) := by
  obtain ⟨a, n, c, rfl⟩ := okWide_slice Try.underlying79 hv
  obtain ⟨fuel, hf⟩ := h
  rcases open_slice Try.underlying79 (by simpa [Value.cells] using hf) with ⟨hcs, hx⟩ | ⟨y, len, cap, m, k, D, Pl, hcs, _, hl, hm, hm', hx, hi⟩
  · simp at hcs hx
    obtain ⟨rfl, rfl, rfl⟩ := hcs
    exact ⟨none, [], 0, rfl, RowCutV.nil, fun _ => ⟨rfl, rfl⟩, Nat.le_refl _, fun x hx => absurd hx (by simp), .inl ⟨hx.1, rfl⟩⟩
  · simp only [Prod.mk.injEq] at hx
    simp at hcs
    obtain ⟨rfl, rfl, rfl⟩ := hcs
    have hnm : n ≤ m := by
      rw [hm']
      simpa using hl
    rw [cellsOfCutV] at hi
    by_cases hz : n = 0
    · subst hz
      exact ⟨some y, [], c, rfl, RowCutV.nil, fun h => (by cases h), Nat.zero_le _, fun x hx => absurd hx (by simp), .inr ⟨_, _, hx.1, by simp⟩⟩
    have each0 : ∀ i : Nat, i < n → ∃ o : CutV, (W.cell? ((y.add (i * 2)).add 0) = some (.int .i64 o.1) ∧ W.cell? ((y.add (i * 2)).add 1) = some (.int .i64 o.2)) ∧ (IntB (o.1) ∧ IntB (o.2)) := fun i hin => by
      obtain ⟨cs', hc, ht⟩ := hi i (by omega)
      obtain ⟨_, hcl, hat⟩ := World.cells?_some hc
      obtain ⟨o, rfl, hw⟩ := ofCutV ht hcl
      exact ⟨o, ⟨hat 0 (by decide), hat 1 (by decide)⟩, hw⟩
    obtain ⟨b, off, spot⟩ := y
    have hspot : spot = none := by
      obtain ⟨o, ⟨g0, _⟩, _⟩ := each0 0 (by omega)
      simpa [Addr.add] using World.cell?_spot g0
    subst hspot
    have e : ∀ i j : Nat, ((⟨b, off, none⟩ : Addr).add (i * 2)).add j = ⟨b, off + i * 2 + j, none⟩ := fun i j => by
      rw [Addr.add_mid, Addr.add_mid]
    have each : ∀ i : Fin n, ∃ o : CutV, (W.cell? ⟨b, off + i.val * 2, none⟩ = some (.int .i64 o.1) ∧ W.cell? ⟨b, off + i.val * 2 + 1, none⟩ = some (.int .i64 o.2)) ∧ (IntB (o.1) ∧ IntB (o.2)) := fun i => by
      obtain ⟨o, ⟨h0, h1⟩, hw⟩ := each0 i.val i.isLt
      rw [e] at h0 h1
      exact ⟨o, ⟨h0, h1⟩, hw⟩
    have hL : (List.ofFn fun i => Classical.choose (each i)).length = n := List.length_ofFn
    refine ⟨some ⟨b, off, none⟩, List.ofFn fun i => Classical.choose (each i), c, by rw [hL], fun _ => ⟨b, off, rfl, ?_, ?_⟩, fun h => (by cases h), by rw [hL]; exact hl, ?_, .inr ⟨_, _, hx.1, by rw [hL]; simp⟩⟩
    · obtain ⟨o, ⟨h0, _⟩, _⟩ := each ⟨0, by omega⟩
      exact block_lt_of_cell h0
    · intro j v hv
      have hj := (List.getElem?_eq_some_iff.1 hv).1
      rw [flatsCutV_len, hL] at hj
      have hq : j / 2 < n := by omega
      obtain ⟨⟨h0, h1⟩, _⟩ := Classical.choose_spec (each ⟨j / 2, hq⟩)
      obtain ⟨g0, g1⟩ := flatsCutV_at (List.ofFn fun i => Classical.choose (each i)) (j / 2) (by rw [hL]; exact hq)
      rw [List.getElem_ofFn] at g0 g1
      have hr : j = 2 * (j / 2) ∨ j = 2 * (j / 2) + 1 := by omega
      rcases hr with hr | hr
      · rw [hr, g0] at hv
        injection hv with hv
        subst hv
        rw [show off + j = off + j / 2 * 2 by omega]
        exact h0
      · rw [hr, g1] at hv
        injection hv with hv
        subst hv
        rw [show off + j = off + j / 2 * 2 + 1 by omega]
        exact h1
    · intro x hx
      obtain ⟨i, rfl⟩ := List.mem_ofFn.1 hx
      exact (Classical.choose_spec (each i)).2
end
end Go.Proofs.Ytfjejiapafdgeaa
