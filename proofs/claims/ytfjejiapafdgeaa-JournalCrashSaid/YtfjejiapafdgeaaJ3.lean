/- A sector written, and read; the fuse; power. A range over a function whose rounds are handed what they may read: told by the iterator, not by the round. A page made and stored, in a fence. -/
import Derived.Test.YtfjejiapafdgeaaJ2
import Derived.Test.YtfjejiapafdgeaaJ1
import Derived.RangeFuncNested
import Derived.RangeFuncBound
import Derived.RangeFuncCalls
import Derived.RangeFuncLeaves
import Derived.Shelf.Abstract
import Derived.Shelf.RegionOpen
import Derived.OwnWalkIn
import Derived.TacticsInMore
import Derived.LoopNIn
import Derived.LoopIn
import Derived.Deep.RegionHeld3
namespace Go.Proofs.Ytfjejiapafdgeaa
open Go.RowKit
set_option maxRecDepth 100000

/-- what a write tells, and the disk behind it -/
def writeE (d : DiskV) (i : Int) (m : Text) : Int :=
  if reachV d i ≠ 0 then reachV d i else if m.length ≠ 64 then 2 else if d.set = true ∧ d.after = 0 then 32 else 0
def writeD (d : DiskV) (i : Int) (m : Text) : DiskV :=
  if reachV d i ≠ 0 then d else if m.length ≠ 64 then d else
    if d.set = true ∧ d.after = 0 then { d.lay i.toNat (m.take d.torn.toNat) with dead := true, set := false, after := 0, torn := 0 }
    else { d.lay i.toNat m with writes := d.writes + 1, after := if d.set = true then d.after - 1 else d.after }
/-- what the fuse and the counts may be -/
def OkD (d : DiskV) : Prop := 0 ≤ d.torn ∧ d.torn ≤ 64 ∧ 0 ≤ d.after ∧ d.after ≤ 9223372036854775807 ∧ 0 ≤ d.writes

theorem reach_ok {d : DiskV} {i : Int} (h : reachV d i = 0) : 0 ≤ i ∧ i < d.many ∧ d.dead = false := by
  unfold reachV at h
  by_cases h1 : d.dead = true
  · rw [if_pos h1] at h; omega
  · rw [if_neg h1] at h
    by_cases h2 : i < 0 ∨ (d.many : Int) ≤ i
    · rw [if_pos h2] at h; omega
    · exact ⟨by omega, by omega, by simpa using h1⟩

theorem Dsk.set {w : World} {B bm n : Nat} {d d' : DiskV} (h : Dsk w B bm n d) (j : Nat) (v : Value) (hc : (cellsD bm d).setIfInBounds j v = cellsD bm d') (hm : d'.many = d.many) (hS : d'.S = d.S) :
    Dsk (w.setCell ⟨B, j, none⟩ v) B bm n d' ∧ ChgD w (w.setCell ⟨B, j, none⟩ v) B bm := by
  obtain ⟨h1, ⟨D, h2, h3⟩, h4, h5, h6⟩ := h
  refine ⟨⟨?_, ⟨D, h2.setCell h5 v, fun i hi => by rw [hS]; exact h3 i (by rw [← hm]; exact hi)⟩, by rw [hm]; exact h4, h5, by rw [hm]; exact h6⟩, ⟨rfl, rfl, rfl, by simp, fun k hk h1 h2 => heap_setCell_other _ _ _ _ h1⟩⟩
  rw [heap_setCell_same w B j _ _ v h1, hc]

theorem code_fuse (w : World) (B bm n : Nat) (d : DiskV) (after torn : Int) (h : Dsk w B bm n d) (hok : 0 ≤ after ∧ 0 ≤ torn ∧ torn ≤ 64) :
    Calls Try.prog 20 #[.pointer (some ⟨B, 0, none⟩), .int .i64 after, .int .i64 torn] w fun e w' => e = .returned (.int .i64 0) ∧ Dsk w' B bm n { d with set := true, after := after, torn := torn } ∧ ChgD w w' B bm := by
  have HM := Lib.hid (code_dmade w B bm n d h)
  have H1 := h.set (d' := { d with set := true }) 3 (.bool true) rfl rfl rfl
  have H2 := H1.1.set (d' := { d with set := true, after := after }) 4 (.int .i64 after) rfl rfl rfl
  have H3 := H2.1.set (d' := { d with set := true, after := after, torn := torn }) 5 (.int .i64 torn) rfl rfl rfl
  have HF := Lib.hid (And.intro H3.1 ((H1.2.trans H2.2).trans H3.2))
  obtain ⟨_, _, _, c3, c4, c5, _⟩ := h.cells
  have f3 := h.frozen 3
  have f4 := h.frozen 4
  have f5 := h.frozen 5
  obtain ⟨o1, o2, o3⟩ := hok
  clear h H1 H2 H3
  go_enter Try.func20, Try.ntmps20
  go_wp2_with (go_at_call 54; refine HM.out.mono ?_; rintro e w1 ⟨rfl, rfl⟩)
  go_ret
  exact ⟨rfl, HF.out⟩
theorem code_fuse_bad (w : World) (B bm n : Nat) (d : DiskV) (after torn : Int) (h : Dsk w B bm n d) (hok : after < 0 ∨ torn < 0 ∨ 64 < torn) :
    Calls Try.prog 20 #[.pointer (some ⟨B, 0, none⟩), .int .i64 after, .int .i64 torn] w fun e w' => e = .returned (.int .i64 2) ∧ w = w' := by
  have HM := Lib.hid (code_dmade w B bm n d h)
  clear h
  by_cases h1 : after < 0
  · go_enter Try.func20, Try.ntmps20
    go_wp2_with (go_at_call 54; refine HM.out.mono ?_; rintro e w1 ⟨rfl, rfl⟩)
    go_ret
    exact ⟨rfl, rfl⟩
  · have h1' : 0 ≤ after := by omega
    by_cases h2 : torn < 0
    · go_enter Try.func20, Try.ntmps20
      go_wp2_with (go_at_call 54; refine HM.out.mono ?_; rintro e w1 ⟨rfl, rfl⟩)
      go_ret
      exact ⟨rfl, rfl⟩
    · have h2' : 0 ≤ torn := by omega
      have h3' : 64 < torn := by omega
      go_enter Try.func20, Try.ntmps20
      go_wp2_with (go_at_call 54; refine HM.out.mono ?_; rintro e w1 ⟨rfl, rfl⟩)
      go_ret
      exact ⟨rfl, rfl⟩
theorem code_power (w : World) (B bm n : Nat) (d : DiskV) (h : Dsk w B bm n d) :
    Calls Try.prog 28 #[.pointer (some ⟨B, 0, none⟩)] w fun e w' => e = .returned (.int .i64 0) ∧ Dsk w' B bm n { d with dead := false, set := false, after := 0, torn := 0 } ∧ ChgD w w' B bm := by
  have HM := Lib.hid (code_dmade w B bm n d h)
  have H0 := h.set (d' := { d with dead := false }) 2 (.bool false) rfl rfl rfl
  have H1 := H0.1.set (d' := { d with dead := false, set := false }) 3 (.bool false) rfl rfl rfl
  have H2 := H1.1.set (d' := { d with dead := false, set := false, after := 0 }) 4 (.int .i64 0) rfl rfl rfl
  have H3 := H2.1.set (d' := { d with dead := false, set := false, after := 0, torn := 0 }) 5 (.int .i64 0) rfl rfl rfl
  have HF := Lib.hid (And.intro H3.1 (((H0.2.trans H1.2).trans H2.2).trans H3.2))
  obtain ⟨_, _, c2, c3, c4, c5, _⟩ := h.cells
  have f2 := h.frozen 2
  have f3 := h.frozen 3
  have f4 := h.frozen 4
  have f5 := h.frozen 5
  clear h H0 H1 H2 H3
  go_enter Try.func28, Try.ntmps28
  go_wp2_with (go_at_call 54; refine HM.out.mono ?_; rintro e w1 ⟨rfl, rfl⟩)
  go_ret
  exact ⟨rfl, HF.out⟩

/-- a sector's bytes told in a block of their own -/
def ReadP (w : World) (d : DiskV) (i : Int) (e : Ending) (w' : World) : Prop :=
  (reachV d i ≠ 0 ∧ e = .returned (.tuple #[.slice none 0 0, .int .i64 (reachV d i)]) ∧ w = w') ∨
  (reachV d i = 0 ∧ e = .returned (.tuple #[.slice (some ⟨w.heap.size, 0, none⟩) 64 64, .int .i64 0]) ∧ Txt w' (some ⟨w.heap.size, 0, none⟩) (d.S i.toNat) ∧ Below w.heap.size w w')
set_option maxHeartbeats 800000 in
theorem code_read (w : World) (B bm n : Nat) (d : DiskV) (i : Int) (h : Dsk w B bm n d) :
    Calls Try.prog 47 #[.pointer (some ⟨B, 0, none⟩), .int .i64 i] w (ReadP w d i) := by
  have HR := Lib.hid (code_reach w B bm n d i h)
  by_cases hr : reachV d i = 0
  · obtain ⟨h1, h2, _⟩ := reach_ok hr
    obtain ⟨k, rfl⟩ : ∃ k : Nat, i = (k : Int) := ⟨i.toNat, by omega⟩
    have hk : k < d.many := by omega
    have hm := h.2.2.1
    obtain ⟨_, c1, _⟩ := h.cells
    obtain ⟨l, hl⟩ : ∃ l, l = d.S k := ⟨_, rfl⟩
    have hlen : l.length = 64 := by obtain ⟨_, ⟨D, _, h2⟩, _⟩ := h; rw [hl]; exact (h2 k hk).2
    have HL := Lib.hid hl
    have HP : Hid (PagesD w bm n d) := Lib.hid h.2.1
    have HZ := Lib.hid hr
    rw [hr] at HR
    clear h hr h1 h2 hl
    go_enter Try.func47, Try.ntmps47
    go_wp2_with (first
      | (go_at_call 62; refine HR.out.mono ?_; rintro e w1 ⟨rfl, rfl⟩)
      | (at_lookup; refine wpList_look_page rfl _ _ rfl HP.out k hk hm rfl rfl ?_; rw [← HL.out]; (try simp only [Act.put, List.setIfInBounds_toArray, List.set_cons_zero, List.set_cons_succ]))
      | ((with_reducible refine wpList_alloc_page pageS (o := ⟨some 7, _, _, _, _, _⟩) ?a1 ?a2 ?_); (case a1 => rfl); (case a2 => rfl); (try simp only [Act.put, List.setIfInBounds_toArray, List.set_cons_zero, List.set_cons_succ]))
      | ((with_reducible refine wpList_store_page pageS (o := ⟨none, _, _, _, _, _⟩) ?a1 (.tmp 7) (.tmp 19) ?a2 w.heap.size ?a3 l hlen ?a4 _ ?a5 _ (heap_alloc_new w _) ?_); (case a1 => rfl); (case a2 => rfl); (case a3 => rfl); (case a4 => rfl); (case a5 => simp [zeros]); (try simp only [Act.put])))
    go_ret2
    refine .inr ⟨HZ.out, rfl, ?_, below_setRow ((Below.refl _ w).alloc (Nat.le_refl _) _) (Nat.le_refl _) _⟩
    rw [Int.toNat_natCast, ← HL.out]
    exact txt_page (setRow_heap _ _ _ _ _ _ (heap_alloc_new w _))
  · have HZ := Lib.hid hr
    have hb : (reachV d i == 0) = false := by simpa using hr
    clear h hr
    generalize hv : reachV d i = v at *
    go_enter Try.func47, Try.ntmps47
    go_wp2_with (go_at_call 62; refine HR.out.mono ?_; rintro e w1 ⟨rfl, rfl⟩)
    go_ret2
    exact .inl ⟨by rw [hv]; exact HZ.out, by rw [hv]; rfl, rfl⟩

theorem write_post {w w' : World} {B bm n : Nat} {d : DiskV} {i : Nat} {m : Text} (h : Dsk w' B bm n (d.lay i m) ∧ ChgD w w' B bm) (j : Nat) (x : Value) (d' : DiskV) (hc : (cellsD bm (d.lay i m)).setIfInBounds j x = cellsD bm d')
    (hm : d'.many = d.many) (hS : d'.S = (d.lay i m).S) : Dsk (w'.setCell ⟨B, j, none⟩ x) B bm n d' ∧ ChgD w (w'.setCell ⟨B, j, none⟩ x) B bm := by
  have := h.1.set j x hc hm hS
  exact ⟨this.1, h.2.trans this.2⟩
set_option maxHeartbeats 1600000 in
theorem code_write (w : World) (B bm n : Nat) (d : DiskV) (i : Int) (h : Dsk w B bm n d) (hn : n < maxLen) (ho : OkD d) (A : Option Addr) (c : Nat) (m : Text) (hc : m.length ≤ c) (hT : Txt w A m) (hw63 : d.writes < 9223372036854775807) :
    Calls Try.prog 27 #[.pointer (some ⟨B, 0, none⟩), .int .i64 i, .slice A m.length c] w fun e w' => e = .returned (.int .i64 (writeE d i m)) ∧ Dsk w' B bm (n + 1) (writeD d i m) ∧ ChgD w w' B bm := by
  have HR := Lib.hid (code_reach w B bm n d i h)
  by_cases hr : reachV d i = 0
  · obtain ⟨h1, h2, hdead⟩ := reach_ok hr
    obtain ⟨k, rfl⟩ : ∃ k : Nat, i = (k : Int) := ⟨i.toNat, by omega⟩
    have hk : k < d.many := by omega
    by_cases hl : m.length = 64
    · have hl' : (m.length : Int) = 64 := by omega
      have HZ := Lib.hid hr
      have HE : Hid (writeE d k m = if d.set = true ∧ d.after = 0 then 32 else 0) := Lib.hid (by unfold writeE; rw [if_neg (by omega), if_neg (by omega)])
      have HW : Hid (writeD d k m = if d.set = true ∧ d.after = 0 then { d.lay k (m.take d.torn.toNat) with dead := true, set := false, after := 0, torn := 0 } else { d.lay k m with writes := d.writes + 1, after := if d.set = true then d.after - 1 else d.after }) :=
        Lib.hid (by unfold writeD; rw [if_neg (by omega), if_neg (by omega), Int.toNat_natCast])
      obtain ⟨o1, o2, o3, o4, o5⟩ := ho
      obtain ⟨t, htt⟩ : ∃ t : Nat, d.torn = (t : Int) := ⟨d.torn.toNat, by omega⟩
      have htl : t ≤ m.length := by omega
      obtain ⟨_, c1, c2, c3, c4, c5, c6⟩ := h.cells
      obtain ⟨a, rfl, _⟩ := hT.at_ (k := 0) (by omega)
      have HR0 : Hid (Calls Try.prog 62 #[.pointer (some ⟨B, 0, none⟩), .int .i64 k] w fun e w' => e = .returned (.int .i64 0) ∧ w = w') := by rw [hr] at HR; exact HR
      clear HR
      by_cases hs : d.set = true ∧ d.after = 0
      · obtain ⟨hs1, hs2⟩ := hs
        rw [if_pos ⟨hs1, hs2⟩] at HE HW
        have HP : Hid (Calls Try.prog 63 #[.pointer (some ⟨B, 0, none⟩), .int .i64 k, .slice (some a) t c] w fun e w' => (∃ v, e = .returned v) ∧ (Dsk w' B bm (n + 1) (d.lay k (m.take t)) ∧ ChgD w w' B bm) ∧
            (w'.cell? ⟨B, 2, none⟩ = some (.bool d.dead) ∧ w'.cell? ⟨B, 3, none⟩ = some (.bool d.set) ∧ w'.cell? ⟨B, 4, none⟩ = some (.int .i64 d.after) ∧ w'.cell? ⟨B, 5, none⟩ = some (.int .i64 d.torn)) ∧
            (w'.frozen? ⟨B, 2, none⟩ = false ∧ w'.frozen? ⟨B, 3, none⟩ = false ∧ w'.frozen? ⟨B, 4, none⟩ = false ∧ w'.frozen? ⟨B, 5, none⟩ = false)) := Lib.hid (by
          have hlt : (m.take t).length = t := by rw [List.length_take]; omega
          have := code_dput w B bm n d h k hk hn (some a) c (m.take t) (hT.take t)
          rw [hlt] at this
          refine this.mono fun e w' ⟨h1, h2, h3⟩ => ⟨h1, ⟨h2, h3⟩, ?_, ?_⟩
          · obtain ⟨_, _, x2, x3, x4, x5, _⟩ := h2.cells
            exact ⟨x2, x3, x4, x5⟩
          · exact ⟨h2.frozen 2, h2.frozen 3, h2.frozen 4, h2.frozen 5⟩)
        have htc : (t : Int) ≤ (c : Int) := by omega
        rw [htt] at c5
        rw [hs1] at c3
        rw [hs2] at c4
        clear hr h hT h1 h2 hs1 hs2
        go_enter Try.func27, Try.ntmps27
        go_wp2_with (first
          | (go_at_call 62; refine HR0.out.mono ?_; rintro e w1 ⟨rfl, rfl⟩)
          | (go_at_call 63; refine HP.out.mono ?_; rintro e w1 ⟨⟨v, rfl⟩, hq, ⟨y2, y3, y4, y5⟩, ⟨g2, g3, g4, g5⟩⟩; have HQ := Lib.hid hq; clear hq))
        go_ret
        have H2 := HQ.out.1.set (d' := { d.lay k (m.take t) with dead := true }) 2 (.bool true) rfl rfl rfl
        have H3 := H2.1.set (d' := { d.lay k (m.take t) with dead := true, set := false }) 3 (.bool false) rfl rfl rfl
        have H4 := H3.1.set (d' := { d.lay k (m.take t) with dead := true, set := false, after := 0 }) 4 (.int .i64 0) rfl rfl rfl
        have H5 := H4.1.set (d' := { d.lay k (m.take t) with dead := true, set := false, after := 0, torn := 0 }) 5 (.int .i64 0) rfl rfl rfl
        have e : d.torn.toNat = t := by omega
        refine ⟨ret_int HE.out.symm, ?_, (((HQ.out.2.trans H2.2).trans H3.2).trans H4.2).trans H5.2⟩
        rw [HW.out, e]
        exact H5.1
      · rw [if_neg hs] at HE HW
        rcases Bool.eq_false_or_eq_true d.set with hs1 | hs1
        · have ha : d.after ≠ 0 := fun h0 => hs ⟨hs1, h0⟩
          rw [if_pos hs1] at HW
          have HP : Hid (Calls Try.prog 63 #[.pointer (some ⟨B, 0, none⟩), .int .i64 k, .slice (some a) 64 c] w fun e w' => (∃ v, e = .returned v) ∧ (Dsk w' B bm (n + 1) (d.lay k m) ∧ ChgD w w' B bm) ∧
              (w'.cell? ⟨B, 3, none⟩ = some (.bool true) ∧ w'.cell? ⟨B, 4, none⟩ = some (.int .i64 d.after) ∧ w'.cell? ⟨B, 6, none⟩ = some (.int .i64 d.writes)) ∧
              (w'.frozen? ⟨B, 4, none⟩ = false ∧ w'.frozen? ⟨B, 6, none⟩ = false)) := Lib.hid (by
            have := code_dput w B bm n d h k hk hn (some a) c m hT
            rw [hl] at this
            refine this.mono fun e w' ⟨h1, h2, h3⟩ => ⟨h1, ⟨h2, h3⟩, ?_, ?_⟩
            · obtain ⟨_, _, x2, x3, x4, x5, x6⟩ := h2.cells
              have x3' : w'.cell? ⟨B, 3, none⟩ = some (.bool d.set) := x3
              rw [hs1] at x3'
              exact ⟨x3', x4, x6⟩
            · exact ⟨h2.frozen 4, h2.frozen 6⟩)
          rw [hs1] at c3
          have hb0 : (d.after == 0) = false := by simpa using ha
          have ha1 : 0 < d.after := by omega
          clear hr h hT h1 h2 hs hs1 ha
          go_enter Try.func27, Try.ntmps27
          go_wp2_with (first
            | (go_at_call 62; refine HR0.out.mono ?_; rintro e w1 ⟨rfl, rfl⟩)
            | (go_at_call 63; refine HP.out.mono ?_; rintro e w1 ⟨⟨v, rfl⟩, hq, ⟨y3, y4, y6⟩, ⟨g4, g6⟩⟩; have HQ := Lib.hid hq; clear hq))
          go_ret
          have H6 := HQ.out.1.set (d' := { d.lay k m with writes := d.writes + 1 }) 6 (.int .i64 (d.writes + 1)) rfl rfl rfl
          have H4 := H6.1.set (d' := { d.lay k m with writes := d.writes + 1, after := d.after - 1 }) 4 (.int .i64 (d.after - 1)) rfl rfl rfl
          refine ⟨ret_int HE.out.symm, ?_, (HQ.out.2.trans H6.2).trans H4.2⟩
          rw [HW.out]
          exact H4.1
        · rw [if_neg (by simp [hs1])] at HW
          have HP : Hid (Calls Try.prog 63 #[.pointer (some ⟨B, 0, none⟩), .int .i64 k, .slice (some a) 64 c] w fun e w' => (∃ v, e = .returned v) ∧ (Dsk w' B bm (n + 1) (d.lay k m) ∧ ChgD w w' B bm) ∧
              (w'.cell? ⟨B, 3, none⟩ = some (.bool false) ∧ w'.cell? ⟨B, 4, none⟩ = some (.int .i64 d.after) ∧ w'.cell? ⟨B, 6, none⟩ = some (.int .i64 d.writes)) ∧
              (w'.frozen? ⟨B, 4, none⟩ = false ∧ w'.frozen? ⟨B, 6, none⟩ = false)) := Lib.hid (by
            have := code_dput w B bm n d h k hk hn (some a) c m hT
            rw [hl] at this
            refine this.mono fun e w' ⟨h1, h2, h3⟩ => ⟨h1, ⟨h2, h3⟩, ?_, ?_⟩
            · obtain ⟨_, _, x2, x3, x4, x5, x6⟩ := h2.cells
              have x3' : w'.cell? ⟨B, 3, none⟩ = some (.bool d.set) := x3
              rw [hs1] at x3'
              exact ⟨x3', x4, x6⟩
            · exact ⟨h2.frozen 4, h2.frozen 6⟩)
          rw [hs1] at c3
          clear hr h hT h1 h2 hs hs1
          go_enter Try.func27, Try.ntmps27
          go_wp2_with (first
            | (go_at_call 62; refine HR0.out.mono ?_; rintro e w1 ⟨rfl, rfl⟩)
            | (go_at_call 63; refine HP.out.mono ?_; rintro e w1 ⟨⟨v, rfl⟩, hq, ⟨y3, y4, y6⟩, ⟨g4, g6⟩⟩; have HQ := Lib.hid hq; clear hq))
          go_ret
          have H6 := HQ.out.1.set (d' := { d.lay k m with writes := d.writes + 1 }) 6 (.int .i64 (d.writes + 1)) rfl rfl rfl
          refine ⟨ret_int HE.out.symm, ?_, HQ.out.2.trans H6.2⟩
          rw [HW.out]
          exact H6.1
    · have hl' : (m.length : Int) ≠ 64 := by omega
      have HE : Hid (writeE d k m = 2) := Lib.hid (by unfold writeE; rw [if_neg (by omega), if_pos hl])
      have HW : Hid (writeD d k m = d) := Lib.hid (by unfold writeD; rw [if_neg (by omega), if_pos hl])
      have hb : ((m.length : Int) == 64) = false := by simpa using hl'
      have HD := Lib.hid (And.intro h (ChgD.refl w B bm))
      rw [hr] at HR
      clear hr h hT h1 h2
      go_enter Try.func27, Try.ntmps27
      go_wp2_with (go_at_call 62; refine HR.out.mono ?_; rintro e w1 ⟨rfl, rfl⟩)
      go_ret
      exact ⟨ret_int HE.out.symm, by rw [HW.out]; exact ⟨HD.out.1.1, HD.out.1.2.1.mono (by omega), HD.out.1.2.2⟩, HD.out.2⟩
  · have HE : Hid (writeE d i m = reachV d i) := Lib.hid (by unfold writeE; rw [if_pos hr])
    have HW : Hid (writeD d i m = d) := Lib.hid (by unfold writeD; rw [if_pos hr])
    have hb : (reachV d i == 0) = false := by simpa using hr
    have HD := Lib.hid (And.intro h (ChgD.refl w B bm))
    clear h hr hT
    generalize reachV d i = v at *
    go_enter Try.func27, Try.ntmps27
    go_wp2_with (go_at_call 62; refine HR.out.mono ?_; rintro e w1 ⟨rfl, rfl⟩)
    go_ret
    exact ⟨ret_int HE.out.symm, by rw [HW.out]; exact ⟨HD.out.1.1, HD.out.1.2.1.mono (by omega), HD.out.1.2.2⟩, HD.out.2⟩
end Go.Proofs.Ytfjejiapafdgeaa

namespace Go.Proofs.Ytfjejiapafdgeaa
open Go.RowKit
set_option maxRecDepth 100000

section
variable {α : Type} {P : Program}
/-- the contract: of each value that comes, 'Fx' holds where it comes -/
def SeqTold (P : Program) (gf : Nat) (lb : Array Value) (encs : α → Array Value) (Fx : List α → α → World → Prop) (Kp : World → World → Prop) (S Sp : List α → Prop) (w : World) : Prop :=
  ∀ (l : Nat) (J Jx : List α → World → Prop) (W : World), Below w.heap.size w W → (∀ pre A B, J pre A → Below A.heap.size A B → J pre B) → (∀ pre A B, Jx pre A → Below A.heap.size A B → Jx pre B) →
    (∀ pre x A, J pre A → Fx pre x A → YieldAt Fence.wide 1 P l (encs x) A fun e B =>
      (e = .returned (.bool true) ∧ J (pre ++ [x]) B ∧ Kp A B) ∨ (e = .returned (.bool false) ∧ Jx (pre ++ [x]) B)) →
    J [] W → Calls P gf (#[.func (.yield l) #[] #[]] ++ lb) W fun e B => (∃ v, e = .returned v) ∧ ((∃ xs, S xs ∧ J xs B) ∨ (∃ pre, Sp pre ∧ Jx pre B))
/-- how a round is left -/
def jumpOf : Exit → Option (Option Code)
  | .normal => some none
  | .ret => some (some .ret)
  | .exit id => some (some (.exit id))
  | .goto t => some (some (.goto t))
  | _ => none
def roundP (Kp : World → World → Prop) (I : List α → World → Prop) (Ix : Code → List α → World → Prop) (xs : List α) (W : World) (ex : Exit) (_ : Act) (W' : World) : Prop :=
  match jumpOf ex with
  | some none => KeepsOthers W W' ∧ Kp W W' ∧ I xs W'
  | some (some c) => KeepsOthers W W' ∧ Ix c xs W'
  | none => False
theorem put_below {b : Nat} (W : World) {l : Nat} (o : Obj) (h : b ≤ l) : Below b W (W.putObj l o) :=
  ⟨rfl, rfl, rfl, by simp, fun k hk => World.putObj_heap_other (by omega)⟩

/-- the loop's record turned, and nothing else -/
structure Beg (l : Nat) (A B : World) : Prop where
  os : B.os = A.os
  tape : B.tape = A.tape
  output : B.output = A.output
  size : B.heap.size = A.heap.size
  block : ∀ k, k ≠ l → B.heap[k]? = A.heap[k]?
theorem Beg.below {l b : Nat} {A B : World} (h : Beg l A B) (hb : b ≤ l) : Below b A B := ⟨h.os, h.tape, h.output, by rw [h.size]; exact Nat.le_refl _, fun k hk => h.block k (by omega)⟩
theorem beg_put (l : Nat) (A : World) (o : Obj) : Beg l A (A.putObj l o) := ⟨rfl, rfl, rfl, by simp, fun k hk => World.putObj_heap_other hk⟩
theorem Txt.beg {A B : World} {l : Nat} {r : Loop} {p : Option Addr} {T : Text} (h : Txt A p T) (hl : A.heap[l]? = some (.loop r)) (hb : Beg l A B) : Txt B p T := fun hn => by
  obtain ⟨a, e, h1, h2⟩ := h hn
  have h0 : 0 < T.length := List.length_pos_iff.2 hn
  have hne : a.block ≠ l := fun e => by
    have := h2 0 h0
    unfold World.cell? at this
    rw [add_block, e, hl] at this
    simp at this
  exact ⟨a, e, by rw [hb.size]; exact h1, fun i hi => (World.cell?_of_block (hb.block _ (by rw [add_block]; exact hne))).trans (h2 i hi)⟩

theorem wp_rangeTold {g : Operand} {ps : Array Tmp} {assign body : Code} {Q : Exit → Act → World → Prop} {a : Act} {w : World} {gf : Nat} {lb : Array Value}
    (hg : a.eval g = .func (.func gf) #[] lb) (eg : ∀ args w, (callFunc gf args).run P w = .ok (.enter gf args) w) {encs : α → Array Value} {Fx : List α → α → World → Prop} {Kp : World → World → Prop} {S Sp : List α → Prop}
    (hseq : SeqTold P gf lb encs Fx Kp S Sp w) (hKt : ∀ {A B C : World}, Kp A B → Kp B C → Kp A C) (hKb : ∀ A B, Below w.heap.size A B → Kp A B)
    (hps : ∀ x, (encs x).size = ps.size)
    (I : List α → World → Prop) (Ix : Code → List α → World → Prop) (hI : ∀ pre A B, I pre A → Below w.heap.size A B → I pre B) (hIx : ∀ c pre A B, Ix c pre A → Below w.heap.size A B → Ix c pre B) (h0 : I [] w)
    (hround : ∀ (l : Nat) (r : Loop) (pre : List α) (x : α) (W : World), w.heap.size < l → W.heap[l]? = some (.loop r) → I pre W → Fx pre x W →
      assign.wpIn (Fence.wide.inRound l) 1 P (Exit.then (fun a₁ w₁ => Below W.heap.size W w₁ ∧ ∀ Wb, Beg l w₁ Wb → body.wpIn (Fence.wide.inRound l) 1 P (roundP Kp I Ix (pre ++ [x]) Wb) a₁ Wb) (fun _ _ _ => False))
        { tmps := (ps.zip (encs x)).foldl (fun t (p, v) => t.setIfInBounds p v) a.tmps, defers := [] } W)
    (hdone : ∀ (D : Nat) (xs : List α) (W : World), w.heap.size ≤ D → S xs → I xs W → W.heap[D]? = some (.deferred (some [])) → Q .normal { a with defers := { target := .collected D, args := #[] } :: a.defers } W)
    (hstop : ∀ (D : Nat) (c : Code) (pre : List α) (W : World), w.heap.size ≤ D → Sp pre → Ix c pre W → W.heap[D]? = some (.deferred (some [])) → c.wp P Q { a with defers := { target := .collected D, args := #[] } :: a.defers } W) :
    (Code.rangeFunc g ps assign body).wp P Q a w := by
  refine (wpIn_wide (n := 1)).1 (wpIn_rangeFunc fun fn hfn => ?_)
  -- the loop's record, in whatever state; the two blocks that are laid
  let rc : LoopState → Option Code → Loop := fun st pe => { state := st, pending := pe, fn := fn, tmps := a.tmps, params := ps, assign := assign, body := body, defers := w.heap.size }
  let L := w.heap.size + 1
  let W1 := (w.alloc (.deferred (some []))).alloc (.loop (rc .ready none))
  let At : LoopState → Option Code → World → Prop := fun st pe W => W.heap[L]? = some (.loop (rc st pe)) ∧ W.heap[w.heap.size]? = some (.deferred (some []))
  have hLlt : ∀ {st pe W}, At st pe W → L < W.heap.size := fun h => (Array.getElem?_eq_some_iff.1 h.1).1
  have atBelow : ∀ {st pe A B}, At st pe A → Below A.heap.size A B → At st pe B := fun h hb => ⟨(hb.block _ (hLlt h)).trans h.1, (hb.block _ (by have := hLlt h; omega)).trans h.2⟩
  have atPut : ∀ {st pe W} (st' pe'), At st pe W → At st' pe' (W.putObj L (.loop (rc st' pe'))) := fun st' pe' h => ⟨World.putObj_heap_same (hLlt h), (World.putObj_heap_other (by omega)).trans h.2⟩
  have hb1 : Below w.heap.size w W1 := ((Below.refl _ w).alloc (Nat.le_refl _) _).alloc (by simp) _
  have hA1 : At .ready none W1 := by
    refine ⟨?_, (Below.heap_alloc _ _ _ (by simp)).trans (World.alloc_heap_new w _)⟩
    have := World.alloc_heap_new (w.alloc (.deferred (some []))) (.loop (rc .ready none))
    rwa [World.size_alloc] at this
  refine ⟨L, [{ target := .collected w.heap.size, args := #[] }], W1, { target := .fn (.func gf) lb, args := #[.func (.yield L) #[] #[]] }, W1, gf, #[.func (.yield L) #[] #[]] ++ lb, W1, run_enterLoop_outer _ _ _ _ _, ?_, fun _ _ => trivial, ?_, fun h => (by simp [Fence.wide] at h), callsIn_wide.2 ?_⟩
  · simp only [resolve, hg]
    simp [go_sem]
  · simp [invoke, go_sem, eg]
  have hsz : w.heap.size ≤ W1.heap.size := hb1.size
  refine (hseq L (fun pre W => I pre W ∧ At .ready none W ∧ w.heap.size ≤ W.heap.size) (fun pre W => ∃ c, Ix c pre W ∧ At .done (some c) W ∧ w.heap.size ≤ W.heap.size) W1 hb1
    (fun pre A B h hb => ⟨hI _ _ _ h.1 (hb.mono h.2.2), atBelow h.2.1 hb, Nat.le_trans h.2.2 hb.size⟩)
    (fun pre A B ⟨c, h1, h2, h3⟩ hb => ⟨c, hIx _ _ _ _ h1 (hb.mono h3), atBelow h2 hb, Nat.le_trans h3 hb.size⟩) ?round ⟨hI _ _ _ h0 hb1, hA1, hsz⟩).mono ?behind
  case behind =>
    rintro e B ⟨⟨v, rfl⟩, ⟨xs, hS, hi, hA, _⟩ | ⟨pre, hSp, c, hi, hA, _⟩⟩
    · exact ⟨none, _, run_endLoop hA.1 (by simp [rc]), hdone _ xs _ (Nat.le_refl _) hS (hI _ _ _ hi (put_below _ _ (by omega))) ((World.putObj_heap_other (by omega)).trans hA.2)⟩
    · exact ⟨some c, _, run_endLoop hA.1 (by simp [rc]), wpIn_wide.2 (hstop _ c pre _ (Nat.le_refl _) hSp (hIx _ _ _ _ hi (put_below _ _ (by omega))) ((World.putObj_heap_other (by omega)).trans hA.2))⟩
  case round =>
    rintro pre x A ⟨hi, hA, hs⟩ hx
    refine ⟨fn, _, assign, body, run_yield hA.1 (hps x), roundIn_of_wpIn hfn (wpIn_mono (hround L _ pre x A (by omega) hA.1 hi hx) ?_)⟩
    intro ex0 a1 w1 hq
    cases ex0 with
    | exit id => exact hq
    | goto t => exact hq
    | ret => exact hq
    | panic ch => exact hq
    | outgrown => exact hq
    | normal =>
    obtain ⟨hw1, hbod⟩ := hq
    have hA1 : At .ready none w1 := atBelow hA hw1
    have hs1 : w.heap.size ≤ w1.heap.size := Nat.le_trans hs hw1.size
    refine ⟨_, run_beginRound hA1.1 rfl, ?_⟩
    have hA2 : At .busy none (w1.putObj L (.loop (rc .busy none))) := atPut _ _ hA1
    have hbl : Below w.heap.size A (w1.putObj L (.loop (rc .busy none))) := (hw1.mono hs).trans (put_below _ _ (by omega))
    refine wpIn_mono (hbod _ (beg_put _ _ _)) ?_
    intro ex a3 B hp
    have hend : ∀ (j : Option Code), KeepsOthers (w1.putObj L (.loop (rc .busy none))) B → (Instr.endRound L j).run P B = .ok (.bool j.isNone) (B.putObj L (.loop (rc (if j.isNone then .ready else .done) j))) ∧
        At (if j.isNone then .ready else .done) j (B.putObj L (.loop (rc (if j.isNone then .ready else .done) j))) ∧ Below w.heap.size B (B.putObj L (.loop (rc (if j.isNone then .ready else .done) j))) ∧ w.heap.size ≤ (B.putObj L (.loop (rc (if j.isNone then .ready else .done) j))).heap.size := fun j hk => by
      have hB : At .busy none B := ⟨hk.same _ _ hA2.1 rfl, hk.same _ _ hA2.2 rfl⟩
      have := hLlt hB
      exact ⟨run_endRound j hB.1, atPut _ _ hB, put_below _ _ (by omega), by simp; omega⟩
    have goOn : ∀ (c : Code), KeepsOthers (w1.putObj L (.loop (rc .busy none))) B → Ix c (pre ++ [x]) B → ∃ v B', (Instr.endRound L (some c)).run P B = .ok v B' ∧
        ((Ending.returned v = .returned (.bool true) ∧ (I (pre ++ [x]) B' ∧ At .ready none B' ∧ w.heap.size ≤ B'.heap.size) ∧ Kp A B') ∨ (Ending.returned v = .returned (.bool false) ∧ ∃ c, Ix c (pre ++ [x]) B' ∧ At .done (some c) B' ∧ w.heap.size ≤ B'.heap.size)) := fun c hk hc => by
      obtain ⟨h1, h2, h3, h4⟩ := hend (some c) hk
      exact ⟨_, _, h1, .inr ⟨rfl, c, hIx _ _ _ _ hc h3, h2, h4⟩⟩
    cases ex with
    | normal =>
      obtain ⟨hk, hkp, hi2⟩ := hp
      obtain ⟨h1, h2, h3, h4⟩ := hend none hk
      exact ⟨_, _, h1, .inl ⟨rfl, ⟨hI _ _ _ hi2 h3, h2, h4⟩, hKt (hKb _ _ hbl) (hKt hkp (hKb _ _ h3))⟩⟩
    | ret => exact goOn _ hp.1 hp.2
    | exit id => exact goOn _ hp.1 hp.2
    | goto t => exact goOn _ hp.1 hp.2
    | panic ch => exact hp.elim
    | outgrown => exact hp.elim
end
/-! ### a region that draws its order, in a round: as in a plain frame -/
section
variable {P : Program}
/-- Q where nothing else comes -/
def Only (Q : Exit → Act → World → Prop) : Exit → Act → World → Prop
  | .normal, a, w => Q .normal a w
  | _, _, _ => False
theorem only_out {Q : Exit → Act → World → Prop} (h : LetsOut (Only Q)) : False := by
  obtain ⟨a, w, h⟩ := h
  exact h
theorem only_normal {Q : Exit → Act → World → Prop} {a : Act} {w : World} (h : Q .normal a w) : Only Q .normal a w := h
theorem only_imp {Q : Exit → Act → World → Prop} : ∀ (e : Exit) (a : Act) (w : World), Only Q e a w → Q e a w := fun e a w h => by
  cases e <;> first | exact h | exact (h : False).elim
theorem op_in_round (l n : Nat) {o : Oper} {a : Act} {w : World} {K : Act → World → Prop} {Q : Exit → Act → World → Prop} (hnd : ∀ c, o.op ≠ .defer c)
    (h : o.wp P a w K (Only Q)) : o.wpIn (Fence.wide.inRound l) n P a w K (Only Q) := by
  refine ⟨fun _ _ => trivial, ?_⟩
  rw [Oper.semAt_eq _ _ _ hnd]
  unfold Oper.wp at h
  generalize (execOp a.eval o).run P w = r at *
  cases r with
  | halt x w' => cases x <;> first | exact h | exact (h : False).elim
  | ok x w' =>
    cases x with
    | enter f args => exact ⟨fun h' => (by simp [Fence.wide, Fence.inRound] at h'), CallsIn.inRound l (callsIn_wide.2 h)⟩
    | row row args => exact ⟨fun h' => (by simp [Fence.wide, Fence.inRound] at h'), fun c cs _ => let ⟨v, w', r, st⟩ := h c cs; ⟨v, w', r, stepsIn_wide.2 st⟩⟩
    | _ => first | exact h | exact (h : False).elim
theorem any_in_round (l n : Nat) {md : Region.Mode} {ops : Array Oper} {Q : Exit → Act → World → Prop} (hnd : ∀ (i : Nat) o c, ops[i]? = some o → o.op ≠ .defer c) : ∀ (fuel : Nat) (listed : Array Bool) (a : Act) (w : World),
    wpAny P md ops (Only Q) fuel listed a w → wpAnyIn (Fence.wide.inRound l) n P md ops (Only Q) fuel listed a w
  | 0, _, _, _, h => h
  | fuel + 1, listed, a, w, h => ⟨h.1, fun i hi => by
      have h1 := h.2 i hi
      unfold wpOp at h1
      unfold wpOpIn
      cases ho : ops[i]? with
      | none => simp only [ho] at h1 ⊢; exact any_in_round l n hnd fuel _ _ _ h1
      | some o =>
        simp only [ho] at h1 ⊢
        by_cases hw : Region.wanted o (yielded ops a.tmps) = true
        · rw [if_pos hw] at h1 ⊢
          rcases h1 with h1 | h1
          · exact Oper.wpIn_mono (fun a w h => any_in_round l n hnd fuel _ a w h) (op_in_round l n (hnd i o · ho) h1)
          · exact (only_out h1.2).elim
        · rw [if_neg hw] at h1 ⊢
          exact ⟨fun _ _ => trivial, any_in_round l n hnd fuel _ _ _ h1⟩⟩
theorem region_in_round {id l n : Nat} {ops : Array Oper} {Q : Exit → Act → World → Prop} {S : World → Prop} {a : Act} {w : World} (hm : P.follows .mixedOrders = true) (hnd : ops.all (fun o => !(o.op matches .defer _)) = true) (hS : S w.drew)
    (h : S w.drew → wpAnyH P .any ops (Only Q) S ops.size (Array.replicate ops.size false) a w.drew) : (Code.region id ops true).wpIn (Fence.wide.inRound l) n P Q a w := by
  have hnd' : ∀ (i : Nat) o c, ops[i]? = some o → o.op ≠ .defer c := fun i o c ho e => by
    have := Array.all_eq_true_iff_forall_mem.1 hnd o (Array.mem_of_getElem? ho)
    rw [e] at this
    simp at this
  exact wpIn_mono (wpIn_region_any hm (any_in_round l n hnd' _ _ _ _ (wpAny_of_held _ _ _ _ (h hS)))) only_imp
end
end Go.Proofs.Ytfjejiapafdgeaa

namespace Go.Proofs.Ytfjejiapafdgeaa
open Go.RowKit
set_option maxRecDepth 100000

section
variable {F : Fence} {nF : Nat} {w : World} {ops : Array Oper} {rest : List Oper} {o : Oper} {a : Act} {Q : Exit → Act → World → Prop}
theorem wpListIn_alloc_page {T : TypeId} (hT : IsPage T) (hgd : o.guard = none) (ho : o.op = .alloc T)
    (h : wpListIn F nF Try.prog ops Q rest (a.put o.dst (.pointer (some ⟨w.heap.size, 0, none⟩))) (w.alloc (.cells (zeros.map cellOf).toArray T))) : wpListIn F nF Try.prog ops Q (o :: rest) a w := by
  refine wpListIn_plain hgd fun K hK => ?_
  unfold Oper.wpIn
  refine ⟨by simp [Oper.about, ho], ?_⟩
  rw [Oper.semAt_plain F _ _ (by rw [ho]; intro c hc'; cases hc')]
  unfold execOp
  simp only [ho, Instr.alloc, Sem.run_bind, zero_page hT, Result.andThen_ok, newVar_page, Sem.run_pure]
  exact hK _ _ h
theorem wpListIn_store_page {T : TypeId} (hT : IsPage T) (hgd : o.guard = none) (x y : Operand) (ho : o.op = .store T x y) (g : Nat) (hx : a.eval x = .pointer (some ⟨g, 0, none⟩)) (l : Text) (hl : l.length = 64) (hy : a.eval y = pageV l)
    (cur : Array Value) (hc : cur.size = 64) (t : TypeId) (hg : w.heap[g]? = some (.cells cur t (0, 0)))
    (h : wpListIn F nF Try.prog ops Q rest (a.put o.dst undef) (w.setRow g (l.map cellOf).toArray)) : wpListIn F nF Try.prog ops Q (o :: rest) a w := by
  refine wpListIn_plain hgd fun K hK => ?_
  have hst := run_storeCells_at Try.prog g 0 t (l.map cellOf) 0 cur w hg (by simp [hl, hc]) (cells_one l)
  have e : (cur.toList.take (0 + 0) ++ l.map cellOf ++ cur.toList.drop (0 + 0 + (l.map cellOf).length)) = l.map cellOf := by
    rw [List.drop_eq_nil_of_le (by simp [hl, hc])]; simp
  rw [e] at hst
  unfold Oper.wpIn
  refine ⟨by simp [Oper.about, ho], ?_⟩
  rw [Oper.semAt_plain F _ _ (by rw [ho]; intro c hc'; cases hc')]
  unfold execOp
  simp only [ho, hx, hy, Instr.storeAt, Instr.sureAddr, Sem.run_bind, Sem.run_pure, Result.andThen_ok, storeVar, pageV, Value.cells, size_page hT, List.size_toArray, List.length_map, hl, ne_eq, not_true_eq_false, if_false, hst]
  exact hK _ _ h
end
end Go.Proofs.Ytfjejiapafdgeaa
