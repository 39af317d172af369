/- Are parts not more than are looked at here. Parts, as they come in. -/
import Derived.Test.YthgakgjhcadajaaJ39
import Derived.Test.YthgakgjhcadajaaJ30
import Derived.Test.YthgakgjhcadajaaJ3
import Derived.Lib.SmallJoins
namespace Go.Proofs.Ythgakgjhcadajaa
open Go.RowKit
set_option maxRecDepth 100000
set_option linter.unusedSimpArgs false
set_option linter.unusedVariables false

def lightB (many : Int) (L : List PartV) : Bool := decide (1 ≤ many ∧ many ≤ 40 ∧ L.length ≤ 20 ∧ ∀ q (h : q < L.length), L[q].l.length ≤ 1000)
theorem light_far (many : Int) (n : Nat) (A : Option Addr) (cap : Nat) (w : World) (h : many < 1 ∨ 40 < many ∨ 20 < n) :
    Calls Try.prog 11 #[.int .i64 many, .slice A n cap] w fun e w' => e = .returned (.bool false) ∧ w = w' := by
  by_cases h1 : many < 1
  · go_enter Try.func11, Try.ntmps11
    go_wp2
    go_ret
    exact ⟨rfl, rfl⟩
  · have h1' : 1 ≤ many := by omega
    by_cases h2 : 40 < many
    · go_enter Try.func11, Try.ntmps11
      go_wp2
      go_ret
      exact ⟨rfl, rfl⟩
    · have h2' : many ≤ 40 := by omega
      have h3 : (20 : Int) < (n : Int) := by omega
      clear h h1 h2
      go_enter Try.func11, Try.ntmps11
      go_wp2
      go_ret
      exact ⟨rfl, rfl⟩
set_option maxHeartbeats 1000000 in
theorem light_near (many : Int) (L : List PartV) (A : Option Addr) (cap : Nat) (w : World) (h1 : 1 ≤ many) (h2 : many ≤ 40) (h3 : L.length ≤ 20) (hP : PartsAt w A L) :
    Calls Try.prog 11 #[.int .i64 many, .slice A L.length cap] w fun e w' => e = .returned (.bool (decide (∀ q (h : q < L.length), L[q].l.length ≤ 1000))) ∧ Below w.heap.size w w' := by
  have HP := Lib.hid hP
  have H3 := Lib.hid h3
  have i1 : ¬ many < 1 := by omega
  have i2 : ¬ 40 < many := by omega
  have i3 : ¬ (20 : Int) < (L.length : Int) := by omega
  have i4 : (L.length : Int) ≤ 20 := by omega
  clear hP h3
  generalize hv : decide (∀ q (h : q < L.length), L[q].l.length ≤ 1000) = v
  have HV := Lib.hid hv
  clear hv
  go_enter Try.func11, Try.ntmps11
  go_wp2
  clear i1 i2 i3 i4 h1 h2
  go_loopw [20] (fun i wr => ∃ k : Nat, k ≤ L.length ∧ i = .int .i64 (k : Nat) ∧ Hid (Below w.heap.size w wr) ∧ Hid (∀ q (h : q < L.length), q < k → L[q].l.length ≤ 1000)) (fun i _ => roundsLeft L.length i)
  case atStart => exact ⟨0, Nat.zero_le _, rfl, Lib.hid (Below.refl _ _), Lib.hid (fun q _ h => absurd h (Nat.not_lt_zero q))⟩
  case round =>
    obtain ⟨k, hk, rfl, HB, HS⟩ := hrel
    by_cases hlt : k < L.length
    · have hlt' : (k : Int) < (L.length : Int) := by omega
      have hwk : wrap64 ((k : Int) + 1) = (k : Int) + 1 := by have := H3.out; unfold wrap64; omega
      obtain ⟨b, off, rfl, hbl, s0, s1, s2, s3, hs⟩ := HP.out k hlt
      obtain ⟨o, ho⟩ : ∃ o, o = L[k] := ⟨_, rfl⟩
      rw [← ho] at s0 s1 s2 s3
      have HO := Lib.hid ho
      have hbw := HB.out
      replace s0 := (hbw.cell hbl).trans s0
      replace s1 := (hbw.cell hbl).trans s1
      replace s2 := (hbw.cell hbl).trans s2
      replace s3 := (hbw.cell hbl).trans s3
      have hbl' : b < wr.heap.size := Nat.lt_of_lt_of_le hbl hbw.size
      have HBa : Hid (∀ x, Below w.heap.size w (wr.alloc x)) := Lib.hid (fun x => hbw.trans ((below_alloc wr x).mono hbw.size))
      clear ho hs hbw hbl
      obtain ⟨nl, hnl⟩ : ∃ nl, nl = o.l.length := ⟨_, rfl⟩
      rw [← hnl] at s2
      have HN := Lib.hid hnl
      clear hnl
      by_cases hbig : (1000 : Int) < (nl : Int)
      · go_wp2
        go_ret
        refine ⟨ret_bool ?_, HBa.out _⟩
        rw [← HV.out]
        exact (decide_eq_false (fun h => by have h1 := h k hlt; rw [← HO.out, ← HN.out] at h1; omega)).symm
      · have hbig' : (nl : Int) ≤ 1000 := by omega
        have HS2 : Hid (∀ q (h : q < L.length), q < k + 1 → L[q].l.length ≤ 1000) := Lib.hid (fun q h hq => by
          by_cases e : q = k
          · subst e
            rw [← HO.out, ← HN.out]
            omega
          · exact HS.out q h (by omega))
        clear hbig
        go_wp2
        go_roundw
        case rel => exact ⟨k + 1, by omega, congrArg (Value.int .i64) (by omega), Lib.hid (HBa.out _), HS2⟩
        case measure => rw [hwk]; exact roundsLeft_next _ _ hlt
    · have hge : (L.length : Int) ≤ (k : Int) := by omega
      go_wp2
      go_ret
      refine ⟨ret_bool ?_, HB.out⟩
      rw [← HV.out]
      exact (decide_eq_true (fun q h => HS.out q h (by omega))).symm
theorem code_light (many : Int) (L : List PartV) (A : Option Addr) (cap : Nat) (w : World) (hP : PartsAt w A L) :
    Calls Try.prog 11 #[.int .i64 many, .slice A L.length cap] w fun e w' => e = .returned (.bool (lightB many L)) ∧ Below w.heap.size w w' := by
  by_cases h : many < 1 ∨ 40 < many ∨ 20 < L.length
  · refine (light_far many L.length A cap w h).mono ?_
    rintro e w' ⟨rfl, rfl⟩
    exact ⟨ret_bool (decide_eq_false (by omega)).symm, Below.refl _ _⟩
  · refine (light_near many L A cap w (by omega) (by omega) (by omega) hP).mono ?_
    rintro e w' ⟨rfl, hb⟩
    refine ⟨ret_bool ?_, hb⟩
    unfold lightB
    exact decide_eq_decide.2 ⟨fun h2 => ⟨by omega, by omega, by omega, h2⟩, fun h2 => h2.2.2.2⟩
end Go.Proofs.Ythgakgjhcadajaa

namespace Go.Proofs.Ythgakgjhcadajaa
open Go.ChangeShapes Go.WideShapes Go.ChangeAt Go.RowKit Go.Joins Go.Deep
set_option maxRecDepth 100000
set_option linter.unusedVariables false
theorem cellsPart : Try.prog.cellsOf 90 = 4 := by kernel_rfl
section
variable {H : Type} {enc : TypeId × Value → H} {W : World} {base : Nat} {sp : Nat → Bool} {held : Bool}
/-- what holds of a part beside its cells -/
def PartOk (w : World) (o : PartV) : Prop := o.l.length ≤ o.c ∧ o.c ≤ maxLen ∧ Txt w o.A o.l ∧ (o.A = none → o.l = [])
/-- one of them: four cells -/
theorem part_of {fuel : Nat} {cs : List Value} {x : DataW H × List MemPlace} (h : DataW.trod enc Try.prog W base sp held fuel 90 cs = some x) (hl : cs.length = 4) :
    ∃ o : PartV, cs = [.int .i64 o.s, .int .i64 o.m, .slice o.A o.l.length o.c, .bool o.r] ∧ PartOk W o := by
  match cs, hl with
  | [c0, c1, c2, c3], _ =>
    obtain ⟨y0, y1, y2, y3, n, _, _, h0, h1, h2, h3⟩ := trod_struct4 Try.underlying90 h
    have hi : Try.prog.cellsOf 3 = 1 := by kernel_rfl
    have hs : Try.prog.cellsOf 51 = 1 := by kernel_rfl
    have hb : Try.prog.cellsOf 4 = 1 := by kernel_rfl
    obtain ⟨k, e0, _, _⟩ := DataW.trod_int Try.underlying3 h0
    obtain ⟨m, e1, _, _⟩ := DataW.trod_int Try.underlying3 h1
    obtain ⟨r, e3, _⟩ := DataW.trod_bool Try.underlying4 h3
    rw [hs] at h2
    simp only [hi, hb] at h0 h1 h2 h3 e0 e1 e3
    obtain ⟨A, l, c, e2, g1, g2, g3, g4⟩ := bytes_of (v := c2) (by simpa using h2)
    simp at e0 e1 e3
    subst e0 e1 e2 e3
    exact ⟨⟨k, m, A, l, c, r⟩, rfl, g1, g2, g3, g4⟩
theorem open_parts {r : Reach} {b0 : Nat} {v : Value} {d : DataW H} {p : List MemPlace} (hv : Value.okWide Try.prog W r b0 22 v) (h : DataW.Trod enc Try.prog W base sp held 22 v d p) :
    ∃ (A : Option Addr) (L : List PartV) (c : Nat), v = .slice A L.length c ∧ PartsAt W A L := by
  obtain ⟨a, n, c, rfl⟩ := okWide_slice Try.underlying22 hv
  obtain ⟨fuel, hf⟩ := h
  rcases open_slice Try.underlying22 (by simpa [Value.cells] using hf) with ⟨hcs, _⟩ | ⟨y, len, cap, m, k, D, Pl, hcs, _, hl, hm, hm', _, hi⟩
  · simp at hcs
    obtain ⟨rfl, rfl, rfl⟩ := hcs
    exact ⟨none, [], 0, rfl, fun i hi => by simp at hi⟩
  · simp at hcs
    obtain ⟨rfl, rfl, rfl⟩ := hcs
    have hnm : n ≤ m := by
      rw [hm']
      cases sp y.block
      · simp
      · simpa using hl
    rw [cellsPart] at hi
    by_cases hz : n = 0
    · subst hz
      exact ⟨some y, [], c, rfl, fun i hi => by simp at hi⟩
    have each0 : ∀ i : Nat, i < n → ∃ o : PartV, W.cell? ((y.add (i * 4)).add 0) = some (.int .i64 o.s) ∧ W.cell? ((y.add (i * 4)).add 1) = some (.int .i64 o.m) ∧ W.cell? ((y.add (i * 4)).add 2) = some (.slice o.A o.l.length o.c) ∧ W.cell? ((y.add (i * 4)).add 3) = some (.bool o.r) ∧ PartOk W o := fun i hin => by
      obtain ⟨cs', hc, ht⟩ := hi i (by omega)
      obtain ⟨_, hcl, hat⟩ := World.cells?_some hc
      obtain ⟨o, rfl, hg⟩ := part_of ht hcl
      exact ⟨o, hat 0 (by omega), hat 1 (by omega), hat 2 (by omega), hat 3 (by omega), hg⟩
    obtain ⟨b, off, spot⟩ := y
    have hspot : spot = none := by
      obtain ⟨o, g0, _⟩ := each0 0 (by omega)
      simpa [Addr.add] using World.cell?_spot g0
    subst hspot
    have e : ∀ i j : Nat, ((⟨b, off, none⟩ : Addr).add (i * 4)).add j = ⟨b, off + i * 4 + j, none⟩ := fun i j => by
      rw [add_twice]
      unfold Addr.add
      by_cases hj : i * 4 + j = 0
      · have h1 : i = 0 := by omega
        have h2 : j = 0 := by omega
        subst h1 h2
        simp
      · rw [if_neg hj]; simp [Nat.add_assoc]
    have each : ∀ i : Fin n, ∃ o : PartV, W.cell? ⟨b, off + i.val * 4, none⟩ = some (.int .i64 o.s) ∧ W.cell? ⟨b, off + i.val * 4 + 1, none⟩ = some (.int .i64 o.m) ∧ W.cell? ⟨b, off + i.val * 4 + 2, none⟩ = some (.slice o.A o.l.length o.c) ∧ W.cell? ⟨b, off + i.val * 4 + 3, none⟩ = some (.bool o.r) ∧ PartOk W o := fun i => by
      obtain ⟨o, h0, h1, h2, h3, hg⟩ := each0 i.val i.isLt
      rw [e] at h0 h1 h2 h3
      exact ⟨o, h0, h1, h2, h3, hg⟩
    have hL : (List.ofFn fun i => Classical.choose (each i)).length = n := List.length_ofFn
    refine ⟨some ⟨b, off, none⟩, List.ofFn fun i => Classical.choose (each i), c, by rw [hL], fun i hin => ?_⟩
    have hin' : i < n := by rw [hL] at hin; exact hin
    obtain ⟨h0, h1, h2, h3, hg⟩ := Classical.choose_spec (each ⟨i, hin'⟩)
    rw [List.getElem_ofFn]
    exact ⟨b, off, rfl, block_lt_of_cell h0, h0, h1, h2, h3, hg⟩
end
end Go.Proofs.Ythgakgjhcadajaa
