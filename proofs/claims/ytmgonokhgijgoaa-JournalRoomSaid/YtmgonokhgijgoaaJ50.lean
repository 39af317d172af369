/- Sectors put behind a journal's tail. A batch appended to a journal. -/
import Derived.Test.YtmgonokhgijgoaaJ49
import Derived.Test.YtmgonokhgijgoaaJ48
namespace Go.Proofs.Ytmgonokhgijgoaa
open Go.RowKit
set_option maxRecDepth 100000
set_option linter.unusedSimpArgs false
set_option linter.unusedVariables false

/-- nothing but a journal and its disk was turned -/
structure ChgJ (w w' : World) (P B bm : Nat) : Prop where
  os : w'.os = w.os
  tape : w'.tape = w.tape
  output : w'.output = w.output
  size : w.heap.size ≤ w'.heap.size
  block : ∀ k, k < w.heap.size → k ≠ P → k ≠ B → k ≠ bm → w'.heap[k]? = w.heap[k]?
theorem ChgJ.refl (w : World) (P B bm : Nat) : ChgJ w w P B bm := ⟨rfl, rfl, rfl, Nat.le_refl _, fun _ _ _ _ _ => rfl⟩
theorem ChgJ.trans {w w' w'' : World} {P B bm : Nat} (h : ChgJ w w' P B bm) (k : ChgJ w' w'' P B bm) : ChgJ w w'' P B bm :=
  ⟨k.os.trans h.os, k.tape.trans h.tape, k.output.trans h.output, Nat.le_trans h.size k.size, fun j h0 h1 h2 h3 => (k.block j (Nat.lt_of_lt_of_le h0 h.size) h1 h2 h3).trans (h.block j h0 h1 h2 h3)⟩
theorem ChgJ.of_chg {w w' : World} {P B bm : Nat} (h : ChgD w w' B bm) : ChgJ w w' P B bm := ⟨h.os, h.tape, h.output, h.size, fun k h0 _ h2 h3 => h.block k h0 h2 h3⟩
theorem ChgJ.of_below {w w' : World} {P B bm : Nat} (h : Below w.heap.size w w') : ChgJ w w' P B bm := ChgJ.of_chg (ChgD.of_below h)
theorem ChgJ.setP {w w' : World} {P B bm : Nat} (h : ChgJ w w' P B bm) (i : Nat) (v : Value) : ChgJ w (w'.setCell ⟨P, i, none⟩ v) P B bm :=
  ⟨h.os, h.tape, h.output, by simpa using h.size, fun k h0 h1 h2 h3 => (heap_setCell_other _ _ _ _ h1).trans (h.block k h0 h1 h2 h3)⟩
theorem ChgJ.below {w w' : World} {P B bm base : Nat} (h : ChgJ w w' P B bm) (h0 : base ≤ w.heap.size) (h1 : base ≤ P) (h2 : base ≤ B) (h3 : base ≤ bm) : Below base w w' :=
  ⟨h.os, h.tape, h.output, h.size, fun k hk => h.block k (Nat.lt_of_lt_of_le hk h0) (Nat.ne_of_lt (Nat.lt_of_lt_of_le hk h1)) (Nat.ne_of_lt (Nat.lt_of_lt_of_le hk h2)) (Nat.ne_of_lt (Nat.lt_of_lt_of_le hk h3))⟩
theorem Dsk.setP {w : World} {B bm n P : Nat} {d : DiskV} (h : Dsk w B bm n d) (i : Nat) (v : Value) (h1 : P ≠ B) (h2 : P ≠ bm) : Dsk (w.setCell ⟨P, i, none⟩ v) B bm n d :=
  ⟨(heap_setCell_other _ _ _ _ h1.symm).trans h.1, h.2.1.kept (heap_setCell_other _ _ _ _ h2.symm), h.2.2⟩
/-- sectors written one behind the other, until one tells an error -/
def putF (d : DiskV) (t : Nat) : List Text → DiskV × Int
  | [] => (d, 0)
  | T :: L => if writeE d (t : Nat) T = 0 then putF (writeD d (t : Nat) T) (t + 1) L else (writeD d (t : Nat) T, writeE d (t : Nat) T)
/-- a disk on its way -/
structure OnP (d : DiskV) (t : Nat) (L : List Text) (k : Nat) (d1 : DiskV) : Prop where
  many : d1.many = d.many
  ok : OkD d1
  wr : d1.writes ≤ d.writes + k
  rest : putF d t L = putF d1 (t + k) (L.drop k)
theorem OnP.start {d : DiskV} {t : Nat} {L : List Text} (h : OkD d) : OnP d t L 0 d := ⟨rfl, h, by omega, rfl⟩
theorem OnP.step {d d1 : DiskV} {t k : Nat} {L : List Text} (h : OnP d t L k d1) (hk : k < L.length) (he : writeE d1 (t + k : Nat) L[k] = 0) : OnP d t L (k + 1) (writeD d1 (t + k : Nat) L[k]) := by
  refine ⟨by rw [writeD_many]; exact h.many, writeD_ok _ _ _ h.ok, ?_, ?_⟩
  · have h1 := writeD_writes d1 (t + k : Nat) L[k]
    have h2 := h.wr
    omega
  · rw [h.rest, List.drop_eq_getElem_cons hk]
    show (if writeE d1 ((t + k : Nat) : Int) L[k] = 0 then _ else _) = _
    rw [if_pos he]
    rfl
theorem OnP.cut {d d1 : DiskV} {t k : Nat} {L : List Text} (h : OnP d t L k d1) (hk : k < L.length) (he : writeE d1 (t + k : Nat) L[k] ≠ 0) : putF d t L = (writeD d1 (t + k : Nat) L[k], writeE d1 (t + k : Nat) L[k]) := by
  rw [h.rest, List.drop_eq_getElem_cons hk]
  show (if writeE d1 ((t + k : Nat) : Int) L[k] = 0 then _ else _) = _
  rw [if_neg he]
theorem OnP.done {d d1 : DiskV} {t : Nat} {L : List Text} (h : OnP d t L L.length d1) : putF d t L = (d1, 0) := by
  rw [h.rest, List.drop_length]
  rfl
def PutI (w : World) (P bm n : Nat) (j : JnV) (d : DiskV) (L : List Text) (A : Option Addr) (c k : Nat) (V : World) : Prop := ∃ n1 d1, Dsk V j.B bm n1 d1 ∧ n1 ≤ n + k ∧ JnAt V P j ∧ SecsAt V A c L ∧ ChgJ w V P j.B bm ∧ OnP d j.tail L k d1
/-- what put leaves -/
def PutP (w : World) (P bm n : Nat) (j : JnV) (L : List Text) (x : DiskV × Int) (e : Ending) (w' : World) : Prop :=
  e = .returned (.int .i64 x.2) ∧ (∃ n', Dsk w' j.B bm n' x.1 ∧ n' ≤ n + L.length) ∧ JnAt w' P (if x.2 = 0 then { j with tail := j.tail + L.length } else { j with cut := true }) ∧ ChgJ w w' P j.B bm
set_option maxHeartbeats 2000000 in
theorem code_jput (w : World) (P bm n : Nat) (j : JnV) (d : DiskV) (L : List Text) (A : Option Addr) (c : Nat) (hJ : JnAt w P j) (hD : Dsk w j.B bm n d) (hok : OkD d) (hn : n ≤ 1000000) (hw : d.writes ≤ 1000000)
    (hL : L.length ≤ 1000) (ht : j.tail ≤ 100000) (hA : SecsAt w A c L) (p1 : P ≠ j.B) (p2 : P ≠ bm) :
    Calls Try.prog 66 #[.pointer (some ⟨P, 0, none⟩), .slice A L.length c] w (PutP w P bm n j L (putF d j.tail L)) := by
  have HM := Lib.hid (And.intro hn (And.intro hw (And.intro hL ht)))
  have HPn := Lib.hid (And.intro p1 p2)
  have HI0 : Hid (PutI w P bm n j d L A c 0 w) := Lib.hid ⟨n, d, hD, Nat.le_refl _, hJ, hA, ChgJ.refl _ _ _ _, OnP.start hok⟩
  clear hJ hD hok hn hw hL ht hA p1 p2
  obtain ⟨X, hX⟩ : ∃ X, X = putF d j.tail L := ⟨_, rfl⟩
  rw [← hX]
  have HXx := Lib.hid hX
  clear hX
  obtain ⟨ll, hll⟩ : ∃ ll, ll = L.length := ⟨_, rfl⟩
  rw [← hll]
  have HLl := Lib.hid hll
  have HL1 : Hid (ll ≤ 1000) := Lib.hid (by rw [hll]; exact HM.out.2.2.1)
  clear hll
  go_enter Try.func66, Try.ntmps66
  go_wp2
  go_loopw [5, 6, 7, 10] (fun v5 v6 v7 v10 wr => ∃ k : Nat, k ≤ ll ∧ v10 = .int .i64 (k : Nat) ∧ Hid (PutI w P bm n j d L A c k wr)) (fun _ _ _ v10 _ => leftOf v10)
  case atStart => exact ⟨0, Nat.zero_le _, rfl, HI0⟩
  case round =>
    obtain ⟨k, hk, rfl, HI⟩ := hrel
    clear HI0
    obtain ⟨n1, d1, q1, q2, q3, q4, q5, q6⟩ := HI.out
    have HD := Lib.hid q1
    have hn1 := q2
    have HJ := Lib.hid q3
    have HA := Lib.hid q4
    have HX := Lib.hid q5
    have HO := Lib.hid q6
    clear q1 q2 q3 q4 q5 q6 HI
    obtain ⟨z0, z1, z2, z3⟩ := HJ.out.cells
    by_cases hlt : k < ll
    · have hlt' : (k : Int) < (ll : Int) := by omega
      have hge : ¬ ll ≤ k := by omega
      have hkL : k < L.length := by rw [← HLl.out]; exact hlt
      obtain ⟨g, hAg, hT, _⟩ : ∃ g, A = some ⟨g, 0, none⟩ ∧ TextsAt wr g L ∧ L.length ≤ c := by
        rcases HA.out with ⟨_, h0, _⟩ | h
        · rw [h0] at hkL; exact absurd hkL (Nat.not_lt_zero _)
        · exact h
      obtain ⟨b, cb, hcell, hcb, hcm, hrg, hbl, h0⟩ := hT k hkL
      obtain ⟨T, hTT⟩ : ∃ T, T = L[k] := ⟨_, rfl⟩
      rw [← hTT] at hcell hcb hrg h0
      have HTT := Lib.hid hTT
      have HTx := Lib.hid (And.intro hcb (And.intro hcm (mid_txt hrg)))
      obtain ⟨r, hr⟩ : ∃ r, r = j.tail + k := ⟨_, rfl⟩
      have HR := Lib.hid hr
      have HWi : Hid (IntKind.i64.wrap ((j.tail : Int) + (k : Int)) = (r : Int)) := Lib.hid ((IntWalk.i64_left _).trans (by have := HL1.out; have := HM.out.2.2.2; unfold wrap64; omega))
      have HWk : Hid (wrap64 ((k : Int) + 1) = (k : Int) + 1) := Lib.hid (by have := HL1.out; unfold wrap64; omega)
      have HMs : Hid (leftOf (.int .i64 (wrap64 ((k : Int) + 1))) < leftOf (.int .i64 (k : Int))) := Lib.hid (leftOf_next k (by have := HL1.out; omega))
      have HNq : Hid (n1 + 1 ≤ n + L.length ∧ n1 + 1 ≤ n + (k + 1)) := Lib.hid (by rw [← HLl.out]; omega)
      obtain ⟨d2, hd2⟩ : ∃ d2, d2 = writeD d1 (r : Nat) T := ⟨_, rfl⟩
      obtain ⟨ev, hev⟩ : ∃ ev, ev = writeE d1 (r : Nat) T := ⟨_, rfl⟩
      have HWr : Hid (Calls Try.prog 27 #[.pointer (some ⟨j.B, 0, none⟩), .int .i64 (r : Nat), .slice (some ⟨b, 0, none⟩) T.length cb] wr.drew fun e w' => e = .returned (.int .i64 ev) ∧ Dsk w' j.B bm (n1 + 1) d2 ∧ ChgD wr.drew w' j.B bm) := Lib.hid (by
        rw [hev, hd2]
        refine code_write wr.drew j.B bm n1 d1 r (HD.out.below (Below.refl _ _).drew) (by have := HL1.out; have := HM.out.1; unfold maxLen; omega) HO.out.ok (some ⟨b, 0, none⟩) cb T HTx.out.1 (HTx.out.2.2.below (Below.refl _ _).drew) ?_
        have h1 := HO.out.wr
        have h2 := HM.out.2.1
        have h3 := HL1.out
        omega)
      have HO2 : Hid (ev = 0 → OnP d j.tail L (k + 1) d2) := Lib.hid (fun e => by
        rw [hd2, HTT.out, HR.out]
        exact HO.out.step hkL (by rw [← HTT.out, ← HR.out, ← hev]; exact e))
      have HCt : Hid (ev ≠ 0 → X = (d2, ev)) := Lib.hid (fun e => by
        rw [HXx.out, hd2, hev, HTT.out, HR.out]
        exact HO.out.cut hkL (by rw [← HTT.out, ← HR.out, ← hev]; exact e))
      have HS0 : Hid ((fun V : World => V.cell? ⟨P, 0, none⟩ = some (.pointer (some ⟨j.B, 0, none⟩)) ∧ V.cell? ⟨P, 1, none⟩ = some (.int .i64 j.tail)) wr.drew) := Lib.hid ⟨cell_on (Below.refl _ _).drew z0, cell_on (Below.refl _ _).drew z1⟩
      have HJd := Lib.hid (HJ.out.below (Below.refl _ _).drew)
      have HAd := Lib.hid (HA.out.on (Below.refl _ _).drew)
      have HXd : Hid (ChgJ w wr.drew P j.B bm) := Lib.hid (HX.out.trans (ChgJ.of_below (Below.refl _ _).drew))
      have HDd := Lib.hid (HD.out.below (Below.refl _ _).drew)
      subst hAg
      generalize T.length = nT at hcell HWr
      clear hT hcb hcm hrg hbl h0 hTT hr hd2 hev HD HJ HA HX HO HTx HTT z0 z1 z2 z3 hkL
      go_wp2
      refine wp_region_held_drew (S := fun V : World => V.cell? ⟨P, 0, none⟩ = some (.pointer (some ⟨j.B, 0, none⟩)) ∧ V.cell? ⟨P, 1, none⟩ = some (.int .i64 j.tail)) (by kernel_rfl) HS0.out ?_
      intro hHeld
      clear HS0 hcell
      have hwi := HWi.out
      generalize wr.drew = wd at HWr HJd HAd HXd HDd hHeld ⊢
      (refine takeH (i := 0) (v := ?_) rfl (by kernel_rfl) (by kernel_rfl) (by kernel_rfl) (fun _ _ _ h => h) (Or.inl ⟨by rfl, ?_⟩) (by assumption) ?_; rotate_left; (focus ((intro wS hSw); (try dsimp only at hSw); obtain ⟨s0, s1⟩ := hSw; go_simp; (try with_reducible rfl); done)); (try simp only [Act.put, List.setIfInBounds_toArray, List.set_cons_zero, List.set_cons_succ]))
      (refine takeH (i := 1) (v := ?_) rfl (by kernel_rfl) (by kernel_rfl) (by kernel_rfl) (fun _ _ _ h => h) (Or.inl ⟨by rfl, ?_⟩) (by assumption) ?_; rotate_left; (focus ((intro wS hSw); (try dsimp only at hSw); obtain ⟨s0, s1⟩ := hSw; go_simp; (try with_reducible rfl); done)); (try simp only [Act.put, List.setIfInBounds_toArray, List.set_cons_zero, List.set_cons_succ]))
      (refine takeH (i := 2) (v := ?_) rfl (by kernel_rfl) (by kernel_rfl) (by kernel_rfl) (fun _ _ _ h => h) (Or.inl ⟨by rfl, ?_⟩) (by assumption) ?_; rotate_left; (focus ((intro wS hSw); (try dsimp only at hSw); obtain ⟨s0, s1⟩ := hSw; go_simp; (try with_reducible rfl); done)); (try simp only [Act.put, List.setIfInBounds_toArray, List.set_cons_zero, List.set_cons_succ]))
      (refine takeH (i := 3) (v := ?_) rfl (by kernel_rfl) (by kernel_rfl) (by kernel_rfl) (fun _ _ _ h => h) (Or.inl ⟨by rfl, ?_⟩) (by assumption) ?_; rotate_left; (focus ((intro wS hSw); (try dsimp only at hSw); obtain ⟨s0, s1⟩ := hSw; go_simp; (try with_reducible rfl); done)); (try simp only [Act.put, List.setIfInBounds_toArray, List.set_cons_zero, List.set_cons_succ]))
      (refine takeH (i := 4) (v := ?_) rfl (by kernel_rfl) (by kernel_rfl) (by kernel_rfl) (fun _ _ _ h => h) (Or.inl ⟨by rfl, ?_⟩) (by assumption) ?_; rotate_left; (focus ((intro wS hSw); (try dsimp only at hSw); obtain ⟨s0, s1⟩ := hSw; go_simp; (try with_reducible rfl); done)); (try simp only [Act.put, List.setIfInBounds_toArray, List.set_cons_zero, List.set_cons_succ]))
      (refine takeH (i := 5) (v := ?_) rfl (by kernel_rfl) (by kernel_rfl) (by kernel_rfl) (fun _ _ _ h => h) (Or.inl ⟨by rfl, ?_⟩) (by assumption) ?_; rotate_left; (focus ((intro wS hSw); (try dsimp only at hSw); obtain ⟨s0, s1⟩ := hSw; go_simp; (try with_reducible rfl); done)); (try simp only [Act.put, List.setIfInBounds_toArray, List.set_cons_zero, List.set_cons_succ]))
      (refine takeH (i := 6) (v := ?_) rfl (by kernel_rfl) (by kernel_rfl) (by kernel_rfl) (fun _ _ _ h => h) (Or.inl ⟨by rfl, ?_⟩) (by assumption) ?_; rotate_left; (focus ((intro wS hSw); (try dsimp only at hSw); obtain ⟨s0, s1⟩ := hSw; go_simp; (try with_reducible rfl); done)); (try simp only [Act.put, List.setIfInBounds_toArray, List.set_cons_zero, List.set_cons_succ]))
      (refine takeH (i := 7) (v := ?_) rfl (by kernel_rfl) (by kernel_rfl) (by kernel_rfl) (fun _ _ _ h => h) (Or.inl ⟨by rfl, ?_⟩) (by assumption) ?_; rotate_left; (focus ((intro wS hSw); (try dsimp only at hSw); obtain ⟨s0, s1⟩ := hSw; go_simp; (try with_reducible rfl); done)); (try simp only [Act.put, List.setIfInBounds_toArray, List.set_cons_zero, List.set_cons_succ]))
      (refine takeH (i := 8) (v := ?_) rfl (by kernel_rfl) (by kernel_rfl) (by kernel_rfl) (fun _ _ _ h => h) (Or.inl ⟨by rfl, ?_⟩) (by assumption) ?_; rotate_left; (focus ((intro wS hSw); (try dsimp only at hSw); obtain ⟨s0, s1⟩ := hSw; go_simp; (try with_reducible rfl); done)); (try simp only [Act.put, List.setIfInBounds_toArray, List.set_cons_zero, List.set_cons_succ]))
      (refine takeH (i := 9) (v := ?_) rfl (by kernel_rfl) (by kernel_rfl) (by kernel_rfl) (fun _ _ _ h => h) (Or.inl ⟨by rfl, ?_⟩) (by assumption) ?_; rotate_left; (focus ((intro wS hSw); (try dsimp only at hSw); obtain ⟨s0, s1⟩ := hSw; go_simp; (try with_reducible rfl); done)); (try simp only [Act.put, List.setIfInBounds_toArray, List.set_cons_zero, List.set_cons_succ]))
      (refine takeH (i := 10) (v := ?_) rfl (by kernel_rfl) (by kernel_rfl) (by kernel_rfl) (fun _ _ _ h => h) (Or.inl ⟨by rfl, ?_⟩) (by assumption) ?_; rotate_left; (focus ((intro wS hSw); (try dsimp only at hSw); obtain ⟨s0, s1⟩ := hSw; go_simp; (try with_reducible rfl); done)); (try simp only [Act.put, List.setIfInBounds_toArray, List.set_cons_zero, List.set_cons_succ]))
      refine aloneH (i := 11) rfl (by kernel_rfl) (fun K hK => ?_)
      rw [if_pos (by rfl)]
      go_simp; ((refine (HWr.out).mono ?_); (rintro e w1 ⟨rfl, hd2, hc2⟩); have HD2 := Lib.hid hd2; have HC2 := Lib.hid hc2; (try go_simp))
      refine hK.out _ _ (⟨(hc2.cell (a := ⟨P, 0, none⟩) (block_lt_of_cell hHeld.1) HPn.out.1 HPn.out.2).trans hHeld.1, (hc2.cell (a := ⟨P, 1, none⟩) (block_lt_of_cell hHeld.2) HPn.out.1 HPn.out.2).trans hHeld.2⟩) (fun hNew => ?_)
      clear hK K hHeld; (have hHeld := hNew); clear hNew; (try simp only [Act.put, List.setIfInBounds_toArray, List.set_cons_zero, List.set_cons_succ])
      (refine takeH (i := 12) (v := ?_) rfl (by kernel_rfl) (by kernel_rfl) (by kernel_rfl) (fun _ _ _ h => h) (Or.inl ⟨by rfl, ?_⟩) (by assumption) ?_; rotate_left; (focus ((intro wS hSw); (try dsimp only at hSw); obtain ⟨s0, s1⟩ := hSw; go_simp; (try with_reducible rfl); done)); (try simp only [Act.put, List.setIfInBounds_toArray, List.set_cons_zero, List.set_cons_succ]))
      refine wpAnyH_done (by kernel_rfl) ?_ _
      clear hHeld hc2 hwi HWi
      have hwk := HWk.out
      have HJ2 : Hid (JnAt w1 P j) := Lib.hid (HJd.out.chg HC2.out HPn.out.1 HPn.out.2)
      have HA2 : Hid (SecsAt w1 (some ⟨g, 0, none⟩) c L) := Lib.hid (HAd.out.chg HDd.out HC2.out)
      have HX2 : Hid (ChgJ w w1 P j.B bm) := Lib.hid (HXd.out.trans (ChgJ.of_chg HC2.out))
      clear HWr HJd HAd HXd HDd HC2
      by_cases he : ev = 0
      · subst he
        go_wp2
        go_roundw
        case rel => exact ⟨k + 1, by omega, congrArg (Value.int .i64) (by omega), Lib.hid ⟨n1 + 1, d2, HD2.out, HNq.out.2, HJ2.out, HA2.out, HX2.out, HO2.out rfl⟩⟩
        case measure => exact HMs.out
      · have hne : ¬ ev = 0 := he
        have hcut := Lib.hid (HCt.out he)
        obtain ⟨z0, z1, z2, z3⟩ := HJ2.out.cells
        have y2 := frozen_of_row w1 P 2 _ _ HJ2.out
        have hPl : Hid (P < w1.heap.size) := Lib.hid (heapLt HJ2.out)
        clear he HO2 HCt
        go_wp2
        go_ret
        unfold PutP
        rw [hcut.out, if_neg hne]
        refine ⟨rfl, ⟨n1 + 1, (HD2.out.setP _ _ HPn.out.1 HPn.out.2), HNq.out.1⟩, ?_, HX2.out.setP _ _⟩
        exact heap_setCell_same w1 P 2 _ _ (.bool true) HJ2.out
    · obtain rfl : k = ll := by omega
      have hdn : X = (d1, 0) := by
        rw [HXx.out]
        have h1 := HO.out
        rw [HLl.out] at h1
        exact h1.done
      have HDn := Lib.hid hdn
      have hwt : wrap64 ((j.tail : Int) + (k : Int)) = ((j.tail + k : Nat) : Int) := by have := HL1.out; have := HM.out.2.2.2; unfold wrap64; omega
      have y1 := frozen_of_row wr P 1 _ _ HJ.out
      clear hdn
      go_wp2
      go_ret
      unfold PutP
      rw [HDn.out, if_pos rfl, ← HLl.out]
      refine ⟨rfl, ⟨n1, (HD.out.setP _ _ HPn.out.1 HPn.out.2), hn1⟩, ?_, HX.out.setP _ _⟩
      exact heap_setCell_same wr P 1 _ _ (.int .i64 ((j.tail + k : Nat) : Int)) HJ.out
end Go.Proofs.Ytmgonokhgijgoaa

namespace Go.Proofs.Ytmgonokhgijgoaa
open Go.RowKit
set_option maxRecDepth 100000
set_option linter.unusedSimpArgs false
set_option linter.unusedVariables false

/-- what put and its count leave -/
def AppY (j : JnV) (m : Nat) (x : DiskV × Int) : DiskV × JnV × Int × Int := if x.2 = 0 then (x.1, { j with tail := j.tail + m, many := j.many + 1 }, (j.many + 1 : Nat), 0) else (x.1, { j with cut := true }, 0, x.2)
/-- what appending leaves: the disk, the journal, the batch's number, the error -/
def AppX (d : DiskV) (j : JnV) (b : Text) : DiskV × JnV × Int × Int :=
  if j.cut = true then (d, j, 0, 32) else if headOk (j.many + 1 : Nat) b.length = false then (d, j, 0, 2) else if d.many - j.tail < manyC b + 2 then (d, j, 0, 31) else AppY j (manyC b + 2) (putF d j.tail (pagesT (j.many + 1) b))
def AppP (w : World) (P bm n : Nat) (j : JnV) (x : DiskV × JnV × Int × Int) (e : Ending) (w' : World) : Prop :=
  e = .returned (.tuple #[.int .i64 x.2.2.1, .int .i64 x.2.2.2]) ∧ (∃ n', Dsk w' j.B bm n' x.1 ∧ n' ≤ n + 1000) ∧ JnAt w' P x.2.1 ∧ ChgJ w w' P j.B bm
theorem japp_cut (w : World) (P bm n : Nat) (j : JnV) (d : DiskV) (A : Option Addr) (l c : Nat) (hJ : JnAt w P j) (hD : Dsk w j.B bm n d) (hc : j.cut = true) :
    Calls Try.prog 36 #[.pointer (some ⟨P, 0, none⟩), .slice A l c] w (AppP w P bm n j (d, j, 0, 32)) := by
  have HMd := Lib.hid (code_jmade w P j hJ)
  have HJ := Lib.hid hJ
  have HD := Lib.hid hD
  obtain ⟨z0, z1, z2, z3⟩ := hJ.cells
  rw [hc] at z2
  clear hJ hD
  go_enter Try.func36, Try.ntmps36
  go_wp2_with (go_at_call 64; refine HMd.out.mono ?_; rintro e w1 ⟨rfl, rfl⟩)
  go_ret2
  exact ⟨rfl, ⟨n, HD.out, by omega⟩, HJ.out, ChgJ.refl _ _ _ _⟩
theorem japp_arg (w : World) (P bm n : Nat) (j : JnV) (d : DiskV) (b : Text) (A : Option Addr) (c : Nat) (hJ : JnAt w P j) (hD : Dsk w j.B bm n d) (hc : j.cut = false) (hm : j.many ≤ 100000) (hh : headOk (j.many + 1 : Nat) b.length = false) :
    Calls Try.prog 36 #[.pointer (some ⟨P, 0, none⟩), .slice A b.length c] w (AppP w P bm n j (d, j, 0, 2)) := by
  have HMd := Lib.hid (code_jmade w P j hJ)
  have HPg : Hid (Calls Try.prog 65 #[.int .i64 (j.many + 1 : Nat), .slice A b.length c] w fun e w' => e = .returned (.tuple #[.slice none 0 0, .int .i64 2]) ∧ Below w.heap.size w w') := Lib.hid (code_pages_no _ b A c w hh)
  have HJ := Lib.hid hJ
  have HD := Lib.hid hD
  obtain ⟨z0, z1, z2, z3⟩ := hJ.cells
  rw [hc] at z2
  obtain ⟨q, hq⟩ : ∃ q, q = j.many + 1 := ⟨_, rfl⟩
  have hw : wrap64 ((j.many : Int) + 1) = (q : Int) := by unfold wrap64; omega
  rw [← hq] at HPg
  generalize b.length = l at HPg ⊢
  clear hJ hD hm hq hh
  go_enter Try.func36, Try.ntmps36
  go_wp2_with (first
    | (go_at_call 64; refine HMd.out.mono ?_; rintro e w1 ⟨rfl, rfl⟩)
    | (go_at_call 65; refine HPg.out.mono ?_; rintro e w2 ⟨rfl, hb⟩; have HB2 := Lib.hid hb; clear hb))
  go_ret2
  exact ⟨rfl, ⟨n, HD.out.below HB2.out, by omega⟩, HJ.out.below HB2.out, ChgJ.of_below HB2.out⟩
set_option maxHeartbeats 1000000 in
theorem japp_full (w : World) (P bm n : Nat) (j : JnV) (d : DiskV) (b : Text) (A : Option Addr) (c : Nat) (hJ : JnAt w P j) (hD : Dsk w j.B bm n d) (hc : j.cut = false) (hm : j.many ≤ 100000) (ht : j.tail ≤ d.many) (h1 : 1 ≤ b.length) (h2 : b.length ≤ 131072) (hcc : b.length ≤ c) (hT : Txt w A b)
    (hf : d.many - j.tail < manyC b + 2) :
    Calls Try.prog 36 #[.pointer (some ⟨P, 0, none⟩), .slice A b.length c] w (AppP w P bm n j (d, j, 0, 31)) := by
  have HMd := Lib.hid (code_jmade w P j hJ)
  obtain ⟨q, hq⟩ : ∃ q, q = j.many + 1 := ⟨_, rfl⟩
  obtain ⟨m, hmm⟩ : ∃ m, m = manyC b + 2 := ⟨_, rfl⟩
  obtain ⟨rm, hrm⟩ : ∃ rm, rm = d.many - j.tail := ⟨_, rfl⟩
  have HPg : Hid (Calls Try.prog 65 #[.int .i64 (q : Nat), .slice A b.length c] w fun e w' => ∃ g c, e = .returned (.tuple #[.slice (some ⟨g, 0, none⟩) m c, .int .i64 0]) ∧ Below w.heap.size w w') := Lib.hid (by
    rw [hq, hmm]
    refine (code_pagesR (j.many + 1) b A c w (by omega) (by omega) h1 h2 hcc hT).mono ?_
    rintro e w' ⟨g, c, e1, _, _, hb⟩
    exact ⟨g, c, e1, hb⟩)
  have HRm : Hid (∀ V, Below w.heap.size w V → Calls Try.prog 40 #[.pointer (some ⟨P, 0, none⟩)] V fun e w' => e = .returned (.int .i64 (rm : Nat)) ∧ Below V.heap.size V w') := Lib.hid (fun V hV => by rw [hrm]; exact code_jroom V P bm n j d (hJ.below hV) (hD.below hV) ht)
  have HJ := Lib.hid hJ
  have HD := Lib.hid hD
  obtain ⟨z0, z1, z2, z3⟩ := hJ.cells
  rw [hc] at z2
  have hw : wrap64 ((j.many : Int) + 1) = (q : Int) := by unfold wrap64; omega
  have hlt : (rm : Int) < (m : Int) := by omega
  generalize b.length = l at HPg ⊢
  clear hJ hD hm hq h1 h2 hT hcc hmm hrm hf ht
  go_enter Try.func36, Try.ntmps36
  go_wp2_with (first
    | (go_at_call 64; refine HMd.out.mono ?_; rintro e w1 ⟨rfl, rfl⟩)
    | (go_at_call 65; refine HPg.out.mono ?_; rintro e w2 ⟨g2, c2, rfl, hb⟩; have HB2 := Lib.hid hb; clear hb)
    | (go_at_call 40; refine (HRm.out _ HB2.out).mono ?_; rintro e w3 ⟨rfl, hb⟩; have HB3 := Lib.hid (below_then HB2.out hb); clear hb))
  go_ret2
  exact ⟨rfl, ⟨n, HD.out.below HB3.out, by omega⟩, HJ.out.below HB3.out, ChgJ.of_below HB3.out⟩
set_option maxHeartbeats 1000000 in
theorem japp_put (w : World) (P bm n : Nat) (j : JnV) (d : DiskV) (b : Text) (A : Option Addr) (c : Nat) (hJ : JnAt w P j) (hD : Dsk w j.B bm n d) (hok : OkD d) (hn : n ≤ 1000000) (hwr : d.writes ≤ 1000000) (p1 : P ≠ j.B) (p2 : P ≠ bm) (hc : j.cut = false) (hm : j.many ≤ 100000) (ht : j.tail ≤ d.many) (h1 : 1 ≤ b.length) (h2 : b.length ≤ 1000) (hcc : b.length ≤ c) (hT : Txt w A b)
    (hf : manyC b + 2 ≤ d.many - j.tail) :
    Calls Try.prog 36 #[.pointer (some ⟨P, 0, none⟩), .slice A b.length c] w (AppP w P bm n j (AppY j (manyC b + 2) (putF d j.tail (pagesT (j.many + 1) b)))) := by
  have HMd := Lib.hid (code_jmade w P j hJ)
  obtain ⟨q, hq⟩ : ∃ q, q = j.many + 1 := ⟨_, rfl⟩
  obtain ⟨m, hmm⟩ : ∃ m, m = manyC b + 2 := ⟨_, rfl⟩
  have hmL : m ≤ 1000 := by rw [hmm]; unfold manyC; omega
  obtain ⟨rm, hrm⟩ : ∃ rm, rm = d.many - j.tail := ⟨_, rfl⟩
  obtain ⟨L, hLL⟩ : ∃ L, L = pagesT (j.many + 1) b := ⟨_, rfl⟩
  have hLl : L.length = m := by rw [hLL, pagesT_len, hmm]
  have HPg : Hid (Calls Try.prog 65 #[.int .i64 (q : Nat), .slice A b.length c] w fun e w' => ∃ g c, e = .returned (.tuple #[.slice (some ⟨g, 0, none⟩) m c, .int .i64 0]) ∧ SecsAt w' (some ⟨g, 0, none⟩) c L ∧ Below w.heap.size w w') := Lib.hid (by
    rw [hq]
    refine (code_pagesR (j.many + 1) b A c w (by omega) (by omega) h1 (by omega) hcc hT).mono ?_
    rw [← hmm]
    rintro e w' ⟨g, c, e1, ho, hcl, hb⟩
    refine ⟨g, c, e1, ?_, hb⟩
    obtain ⟨A4, c4, e4, hs⟩ := ho.secs
    injection e4 with e5 e6 e7
    subst e5 e7
    rw [hLL]
    exact hs)
  have HRm : Hid (∀ V, Below w.heap.size w V → Calls Try.prog 40 #[.pointer (some ⟨P, 0, none⟩)] V fun e w' => e = .returned (.int .i64 (rm : Nat)) ∧ Below V.heap.size V w') := Lib.hid (fun V hV => by rw [hrm]; exact code_jroom V P bm n j d (hJ.below hV) (hD.below hV) ht)
  rw [← hmm, ← hLL]
  have HPu : Hid (∀ V A c, Below w.heap.size w V → SecsAt V A c L → Calls Try.prog 66 #[.pointer (some ⟨P, 0, none⟩), .slice A m c] V (PutP V P bm n j L (putF d j.tail L))) := Lib.hid (fun V A c hV hs => by
    rw [← hLl]
    exact code_jput V P bm n j d L A c (hJ.below hV) (hD.below hV) hok hn hwr (by rw [hLl]; exact hmL) (by have := hD.2.2.1; omega) hs p1 p2)
  obtain ⟨z0, z1, z2, z3⟩ := hJ.cells
  rw [hc] at z2
  have hw : wrap64 ((j.many : Int) + 1) = (q : Int) := by unfold wrap64; omega
  have hlt : ¬ (rm : Int) < (m : Int) := by omega
  have HQ := Lib.hid (And.intro hq (And.intro hLl hmL))
  have HPn := Lib.hid (And.intro p1 p2)
  generalize b.length = l at HPg ⊢
  generalize putF d j.tail L = x at HPu ⊢
  clear hJ hD hm hq h1 h2 hT hcc hmm hrm hf ht hok hn hwr p1 p2 hLL hLl hmL
  go_enter Try.func36, Try.ntmps36
  go_wp2_with (first
    | (go_at_call 64; refine HMd.out.mono ?_; rintro e w1 ⟨rfl, rfl⟩)
    | (go_at_call 65; refine HPg.out.mono ?_; rintro e w2 ⟨g2, c2, rfl, hs, hb⟩; have HS2 := Lib.hid hs; have HB2 := Lib.hid hb; clear hb hs)
    | (go_at_call 40; refine (HRm.out _ HB2.out).mono ?_; rintro e w3 ⟨rfl, hb⟩; have HS3 := Lib.hid (HS2.out.on hb); have HB3 := Lib.hid (below_then HB2.out hb); clear hb)
    | (go_at_call 66; refine (HPu.out _ _ _ HB3.out HS3.out).mono ?_; rintro e w4 ⟨rfl, hd4, hj4, hc4⟩; have HD4 := Lib.hid hd4; have HJ4 := Lib.hid hj4; have HC4 : Hid (ChgJ w w4 P j.B bm) := Lib.hid ((ChgJ.of_below HB3.out).trans hc4); clear hd4 hj4 hc4; refine Stop.out ?_))
  unfold Stop
  clear z0 z1 z2 z3
  obtain ⟨x1, ev⟩ := x
  dsimp only at HD4 HJ4 ⊢
  by_cases he : ev = 0
  · subst he
    have HJ5 : Hid (JnAt w4 P { j with tail := j.tail + m }) := Lib.hid (by have := HJ4.out; rw [if_pos rfl, HQ.out.2.1] at this; exact this)
    obtain ⟨z0, z1, z2, z3⟩ := HJ5.out.cells
    have y3 := frozen_of_row w4 P 3 _ _ HJ5.out
    go_wp2
    go_ret2
    have e1 : AppY j m (x1, 0) = (x1, { j with tail := j.tail + m, many := q }, (q : Int), 0) := by unfold AppY; rw [if_pos rfl, HQ.out.1]
    rw [e1]
    obtain ⟨n', q1, q2⟩ := HD4.out
    exact ⟨rfl, ⟨n', q1.setP _ _ HPn.out.1 HPn.out.2, by have := HQ.out; omega⟩, heap_setCell_same w4 P 3 _ _ (.int .i64 (q : Int)) HJ5.out, HC4.out.setP _ _⟩
  · have hne : ¬ ev = 0 := he
    have HJ5 : Hid (JnAt w4 P { j with cut := true }) := Lib.hid (by have := HJ4.out; rw [if_neg he] at this; exact this)
    clear he
    go_wp2
    go_ret2
    have e1 : AppY j m (x1, ev) = (x1, { j with cut := true }, 0, ev) := by unfold AppY; rw [if_neg hne]
    rw [e1]
    obtain ⟨n', q1, q2⟩ := HD4.out
    exact ⟨rfl, ⟨n', q1, by have := HQ.out; omega⟩, HJ5.out, HC4.out⟩
theorem code_japp (w : World) (P bm n : Nat) (j : JnV) (d : DiskV) (b : Text) (A : Option Addr) (c : Nat) (hJ : JnAt w P j) (hD : Dsk w j.B bm n d) (hok : OkD d) (hn : n ≤ 1000000) (hwr : d.writes ≤ 1000000) (p1 : P ≠ j.B) (p2 : P ≠ bm) (hm : j.many ≤ 100000) (ht : j.tail ≤ d.many) (h2 : b.length ≤ 1000) (hcc : b.length ≤ c) (hT : Txt w A b) :
    Calls Try.prog 36 #[.pointer (some ⟨P, 0, none⟩), .slice A b.length c] w (AppP w P bm n j (AppX d j b)) := by
  unfold AppX
  by_cases hc0 : j.cut = true
  · rw [if_pos hc0]; exact japp_cut w P bm n j d A b.length c hJ hD hc0
  · rw [if_neg hc0]
    have hc : j.cut = false := by simpa using hc0
    cases hh : headOk (j.many + 1 : Nat) b.length with
    | false => rw [if_pos rfl]; exact japp_arg w P bm n j d b A c hJ hD hc hm hh
    | true =>
      rw [if_neg (by decide)]
      have h1 : 1 ≤ b.length := by have := headOk_len hh; omega
      by_cases hf : d.many - j.tail < manyC b + 2
      · rw [if_pos hf]; exact japp_full w P bm n j d b A c hJ hD hc hm ht h1 (by omega) hcc hT hf
      · rw [if_neg hf]
        exact japp_put w P bm n j d b A c hJ hD hok hn hwr p1 p2 hc hm ht h1 h2 hcc hT (by omega)
end Go.Proofs.Ytmgonokhgijgoaa
