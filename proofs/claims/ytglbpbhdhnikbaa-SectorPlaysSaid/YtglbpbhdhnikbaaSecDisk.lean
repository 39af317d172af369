/- A disk in memory: its cells, its map of pages; the small calls on it. -/
import Derived.Test.YtglbpbhdhnikbaaPage
import Derived.Maps.OwnSet
import Derived.Lib.LazyBuf
namespace Go.Proofs.Ytglbpbhdhnikbaa
open Go.RowKit
set_option maxRecDepth 100000

theorem pageS : IsPage 103 := ⟨by kernel_rfl, by kernel_rfl, by kernel_rfl, by kernel_rfl⟩
theorem heapLt {w : World} {g : Nat} {o : Obj} (h : w.heap[g]? = some o) : g < w.heap.size := (Array.getElem?_eq_some_iff.1 h).1

open Classical in
/-- how a page reads -/
noncomputable def pageR (v : Value) : Option (DataW Unit × List MemPlace) := if h : ∃ l : Text, l.length = 64 ∧ v = pageV l then some (.lit (.string (Classical.choose h)), []) else none
theorem pageR_mk {l : Text} (hl : l.length = 64) : pageR (pageV l) = some (.lit (.string l), []) := by
  have h : ∃ m : Text, m.length = 64 ∧ pageV l = pageV m := ⟨l, hl, rfl⟩
  unfold pageR
  rw [dif_pos h]
  rw [← pageV_inj (Classical.choose_spec h).2]
theorem pageR_inv {v : Value} {l : Text} {ps : List MemPlace} (h : pageR v = some (.lit (.string l), ps)) : v = pageV l ∧ l.length = 64 := by
  unfold pageR at h
  split at h
  · rename_i hx
    simp only [Option.some.injEq, Prod.mk.injEq, DataW.lit.injEq, Lit.string.injEq] at h
    obtain ⟨h1, _⟩ := h
    have := Classical.choose_spec hx
    rw [h1] at this
    exact ⟨this.2, this.1⟩
  · cases h
theorem keyInt : Maps.Keyed Try.prog 3 := Maps.int_keyed Try.underlying3
theorem key_of (i : Nat) (hi : i < 9223372036854775808) : keyOf Try.prog 3 (.int .i64 i) = some (.int .i64 i) := Maps.keyOf_int_mk Try.underlying3 (WalkArith.wf_i64 (by omega))

structure DiskV where
  many : Nat
  S : Nat → Text
  dead : Bool
  set : Bool
  after : Int
  torn : Int
  writes : Int
def cellsD (bm : Nat) (d : DiskV) : Array Value := #[.int .i64 d.many, .map (some bm), .bool d.dead, .bool d.set, .int .i64 d.after, .int .i64 d.torn, .int .i64 d.writes]
def PagesD (w : World) (bm n : Nat) (d : DiskV) : Prop :=
  ∃ D : DataW Unit, w.ownsMap Try.prog 3 pageR bm n D ∧ ∀ i : Nat, i < d.many → D.atKey (.int .i64 i) (.lit (.string zeros)) = .lit (.string (d.S i)) ∧ (d.S i).length = 64
def Dsk (w : World) (B bm n : Nat) (d : DiskV) : Prop :=
  w.heap[B]? = some (.cells (cellsD bm d) 99 (0, 0)) ∧ PagesD w bm n d ∧ d.many ≤ 4096 ∧ bm ≠ B ∧ 0 < d.many
/-- nothing but block B and the map's was turned -/
structure ChgD (w w' : World) (B bm : Nat) : Prop where
  os : w'.os = w.os
  tape : w'.tape = w.tape
  output : w'.output = w.output
  size : w.heap.size ≤ w'.heap.size
  block : ∀ k, k < w.heap.size → k ≠ B → k ≠ bm → w'.heap[k]? = w.heap[k]?
section
variable {w w' w'' : World} {B bm n : Nat} {d : DiskV}
theorem ChgD.refl (w : World) (B bm : Nat) : ChgD w w B bm := ⟨rfl, rfl, rfl, Nat.le_refl _, fun _ _ _ _ => rfl⟩
theorem ChgD.trans (h : ChgD w w' B bm) (k : ChgD w' w'' B bm) : ChgD w w'' B bm :=
  ⟨k.os.trans h.os, k.tape.trans h.tape, k.output.trans h.output, Nat.le_trans h.size k.size, fun i hi h1 h2 => (k.block i (Nat.lt_of_lt_of_le hi h.size) h1 h2).trans (h.block i hi h1 h2)⟩
theorem ChgD.of_below (h : Below w.heap.size w w') : ChgD w w' B bm := ⟨h.os, h.tape, h.output, h.size, fun k hk _ _ => h.block k hk⟩
theorem ChgD.below (h : ChgD w w' B bm) {base : Nat} (h0 : base ≤ w.heap.size) (h1 : base ≤ B) (h2 : base ≤ bm) : Below base w w' :=
  ⟨h.os, h.tape, h.output, h.size, fun k hk => h.block k (by omega) (by omega) (by omega)⟩
theorem ChgD.cell (h : ChgD w w' B bm) {a : Addr} (h0 : a.block < w.heap.size) (h1 : a.block ≠ B) (h2 : a.block ≠ bm) : w'.cell? a = w.cell? a := World.cell?_of_block (h.block _ h0 h1 h2)
theorem ChgD.frozen (h : ChgD w w' B bm) {a : Addr} (h0 : a.block < w.heap.size) (h1 : a.block ≠ B) (h2 : a.block ≠ bm) : w'.frozen? a = w.frozen? a := World.frozen?_of_block (h.block _ h0 h1 h2)
theorem PagesD.lt (h : PagesD w bm n d) : bm < w.heap.size := let ⟨_, h, _⟩ := h; h.lt
theorem PagesD.kept (h : PagesD w bm n d) (hb : w'.heap[bm]? = w.heap[bm]?) : PagesD w' bm n d := by
  obtain ⟨D, h1, h2⟩ := h
  refine ⟨D, ?_, h2⟩
  obtain ⟨es, clock, hh, r⟩ := h1
  exact ⟨es, clock, hb.trans hh, r⟩
theorem Dsk.lt (h : Dsk w B bm n d) : B < w.heap.size := heapLt h.1
theorem Dsk.below (h : Dsk w B bm n d) (hb : Below w.heap.size w w') : Dsk w' B bm n d :=
  ⟨(hb.block B h.lt).trans h.1, h.2.1.kept (hb.block bm h.2.1.lt), h.2.2⟩
theorem Dsk.cells (h : Dsk w B bm n d) : w.cell? ⟨B, 0, none⟩ = some (.int .i64 d.many) ∧ w.cell? ⟨B, 1, none⟩ = some (.map (some bm)) ∧ w.cell? ⟨B, 2, none⟩ = some (.bool d.dead) ∧ w.cell? ⟨B, 3, none⟩ = some (.bool d.set) ∧
    w.cell? ⟨B, 4, none⟩ = some (.int .i64 d.after) ∧ w.cell? ⟨B, 5, none⟩ = some (.int .i64 d.torn) ∧ w.cell? ⟨B, 6, none⟩ = some (.int .i64 d.writes) := by
  have h0 := cell_of_row w B 0 _ _ _ h.1
  have h1 := cell_of_row w B 1 _ _ _ h.1
  have h2 := cell_of_row w B 2 _ _ _ h.1
  have h3 := cell_of_row w B 3 _ _ _ h.1
  have h4 := cell_of_row w B 4 _ _ _ h.1
  have h5 := cell_of_row w B 5 _ _ _ h.1
  have h6 := cell_of_row w B 6 _ _ _ h.1
  exact ⟨h0, h1, h2, h3, h4, h5, h6⟩
theorem Dsk.frozen (h : Dsk w B bm n d) (i : Nat) : w.frozen? ⟨B, i, none⟩ = false := frozen_of_row w B i _ _ h.1
end

theorem code_dlen (w : World) (B bm n : Nat) (d : DiskV) (h : Dsk w B bm n d) : Calls Try.prog 55 #[.pointer (some ⟨B, 0, none⟩)] w fun e w' => e = .returned (.int .i64 d.many) ∧ w = w' := by
  obtain ⟨h0, _⟩ := h.cells
  clear h
  go_enter Try.func55, Try.ntmps55
  go_wp2
  go_ret
  exact ⟨rfl, rfl⟩
theorem code_dmade (w : World) (B bm n : Nat) (d : DiskV) (h : Dsk w B bm n d) : Calls Try.prog 53 #[.pointer (some ⟨B, 0, none⟩)] w fun e w' => e = .returned (.bool true) ∧ w = w' := by
  have HL := Lib.hid (code_dlen w B bm n d h)
  have hp : (0 : Int) < (d.many : Int) := by have := h.2.2.2.2; omega
  clear h
  go_enter Try.func53, Try.ntmps53
  go_wp2_with (go_at_call 55; refine HL.out.mono ?_; rintro e w1 ⟨rfl, rfl⟩)
  go_ret
  exact ⟨ret_bool (by simpa using hp), rfl⟩
/-- why a sector can't be read -/
def reachV (d : DiskV) (i : Int) : Int := if d.dead = true then 32 else if i < 0 ∨ (d.many : Int) ≤ i then 30 else 0
theorem code_reach (w : World) (B bm n : Nat) (d : DiskV) (i : Int) (h : Dsk w B bm n d) : Calls Try.prog 51 #[.pointer (some ⟨B, 0, none⟩), .int .i64 i] w fun e w' => e = .returned (.int .i64 (reachV d i)) ∧ w = w' := by
  have HM := Lib.hid (code_dmade w B bm n d h)
  obtain ⟨h0, _, h2, _⟩ := h.cells
  clear h
  obtain ⟨m, hm⟩ : ∃ m : Int, m = (d.many : Int) := ⟨_, rfl⟩
  have HD : Hid (reachV d i = if d.dead = true then 32 else if i < 0 ∨ m ≤ i then 30 else 0) := Lib.hid (by rw [hm]; rfl)
  rw [← hm] at h0
  clear hm
  generalize d.dead = dd at *
  by_cases hd : dd = true
  · subst hd
    go_enter Try.func51, Try.ntmps51
    go_wp2_with (go_at_call 53; refine HM.out.mono ?_; rintro e w1 ⟨rfl, rfl⟩)
    go_ret
    exact ⟨ret_int (by rw [HD.out]; rfl), rfl⟩
  · obtain rfl : dd = false := by simpa using hd
    by_cases h1 : i < 0
    · go_enter Try.func51, Try.ntmps51
      go_wp2_with (go_at_call 53; refine HM.out.mono ?_; rintro e w1 ⟨rfl, rfl⟩)
      go_ret
      exact ⟨ret_int (by rw [HD.out, if_neg (by simp), if_pos (.inl h1)]), rfl⟩
    · have h1' : 0 ≤ i := by omega
      by_cases h3 : m ≤ i
      · go_enter Try.func51, Try.ntmps51
        go_wp2_with (go_at_call 53; refine HM.out.mono ?_; rintro e w1 ⟨rfl, rfl⟩)
        go_ret
        exact ⟨ret_int (by rw [HD.out, if_neg (by simp), if_pos (.inr h3)]), rfl⟩
      · have h3' : i < m := by omega
        go_enter Try.func51, Try.ntmps51
        go_wp2_with (go_at_call 53; refine HM.out.mono ?_; rintro e w1 ⟨rfl, rfl⟩)
        go_ret
        exact ⟨ret_int (by rw [HD.out, if_neg (by simp), if_neg (by omega)]), rfl⟩
theorem code_dead (w : World) (B bm n : Nat) (d : DiskV) (h : Dsk w B bm n d) : Calls Try.prog 50 #[.pointer (some ⟨B, 0, none⟩)] w fun e w' => e = .returned (.bool d.dead) ∧ w = w' := by
  obtain ⟨h0, _, h2, _⟩ := h.cells
  clear h
  go_enter Try.func50, Try.ntmps50
  go_wp2
  go_ret
  exact ⟨rfl, rfl⟩
theorem code_writes (w : World) (B bm n : Nat) (d : DiskV) (h : Dsk w B bm n d) : Calls Try.prog 30 #[.pointer (some ⟨B, 0, none⟩)] w fun e w' => e = .returned (.int .i64 d.writes) ∧ w = w' := by
  obtain ⟨_, _, _, _, _, _, h6⟩ := h.cells
  clear h
  go_enter Try.func30, Try.ntmps30
  go_wp2
  go_ret
  exact ⟨rfl, rfl⟩
end Go.Proofs.Ytglbpbhdhnikbaa
