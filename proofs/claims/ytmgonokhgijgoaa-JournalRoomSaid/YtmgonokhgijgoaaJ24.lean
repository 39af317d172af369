/- A disk in memory: its cells, its map of pages; the small calls on it. A disk made; a sector laid over; power. -/
import Derived.Test.YtmgonokhgijgoaaJ1
import Derived.Maps.OwnSet
import Derived.Lib.LazyBuf
import Derived.Deep.RegionHeld3
import Derived.Test.YtmgonokhgijgoaaJ7
namespace Go.Proofs.Ytmgonokhgijgoaa
open Go.RowKit
set_option maxRecDepth 100000

theorem pageS : IsPage 124 := ⟨by kernel_rfl, by kernel_rfl, by kernel_rfl, by kernel_rfl⟩

open Classical in
/-- how a page reads -/
noncomputable def pageR (v : Value) : Option (DataW Unit × List MemPlace) := if h : ∃ l : Text, l.length = 64 ∧ v = pageV l then some (.lit (.string (Classical.choose h)), []) else none
theorem pageR_mk {l : Text} (hl : l.length = 64) : pageR (pageV l) = some (.lit (.string l), []) := by
  have h : ∃ m : Text, m.length = 64 ∧ pageV l = pageV m := ⟨l, hl, rfl⟩
  unfold pageR
  rw [dif_pos h]
  rw [← pageV_inj (Classical.choose_spec h).2]
theorem pageR_inv {v : Value} {l : Text} {ps : List MemPlace} (h : pageR v = some (.lit (.string l), ps)) : v = pageV l ∧ l.length = 64 := by
  unfold pageR at h
  split at h
  · rename_i hx
    simp only [Option.some.injEq, Prod.mk.injEq, DataW.lit.injEq, Lit.string.injEq] at h
    obtain ⟨h1, _⟩ := h
    have := Classical.choose_spec hx
    rw [h1] at this
    exact ⟨this.2, this.1⟩
  · cases h
theorem keyInt : Maps.Keyed Try.prog 3 := Maps.int_keyed Try.underlying3
theorem key_of (i : Nat) (hi : i < 9223372036854775808) : keyOf Try.prog 3 (.int .i64 i) = some (.int .i64 i) := Maps.keyOf_int_mk Try.underlying3 (WalkArith.wf_i64 (by omega))

structure DiskV where
  many : Nat
  S : Nat → Text
  dead : Bool
  set : Bool
  after : Int
  torn : Int
  writes : Int
def cellsD (bm : Nat) (d : DiskV) : Array Value := #[.int .i64 d.many, .map (some bm), .bool d.dead, .bool d.set, .int .i64 d.after, .int .i64 d.torn, .int .i64 d.writes]
def PagesD (w : World) (bm n : Nat) (d : DiskV) : Prop :=
  ∃ D : DataW Unit, w.ownsMap Try.prog 3 pageR bm n D ∧ ∀ i : Nat, i < d.many → D.atKey (.int .i64 i) (.lit (.string zeros)) = .lit (.string (d.S i)) ∧ (d.S i).length = 64
def Dsk (w : World) (B bm n : Nat) (d : DiskV) : Prop :=
  w.heap[B]? = some (.cells (cellsD bm d) 60 (0, 0)) ∧ PagesD w bm n d ∧ d.many ≤ 4096 ∧ bm ≠ B ∧ 0 < d.many
/-- nothing but block B and the map's was turned -/
structure ChgD (w w' : World) (B bm : Nat) : Prop where
  os : w'.os = w.os
  tape : w'.tape = w.tape
  output : w'.output = w.output
  size : w.heap.size ≤ w'.heap.size
  block : ∀ k, k < w.heap.size → k ≠ B → k ≠ bm → w'.heap[k]? = w.heap[k]?
section
variable {w w' w'' : World} {B bm n : Nat} {d : DiskV}
theorem ChgD.refl (w : World) (B bm : Nat) : ChgD w w B bm := ⟨rfl, rfl, rfl, Nat.le_refl _, fun _ _ _ _ => rfl⟩
theorem ChgD.trans (h : ChgD w w' B bm) (k : ChgD w' w'' B bm) : ChgD w w'' B bm :=
  ⟨k.os.trans h.os, k.tape.trans h.tape, k.output.trans h.output, Nat.le_trans h.size k.size, fun i hi h1 h2 => (k.block i (Nat.lt_of_lt_of_le hi h.size) h1 h2).trans (h.block i hi h1 h2)⟩
theorem ChgD.of_below (h : Below w.heap.size w w') : ChgD w w' B bm := ⟨h.os, h.tape, h.output, h.size, fun k hk _ _ => h.block k hk⟩
theorem ChgD.below (h : ChgD w w' B bm) {base : Nat} (h0 : base ≤ w.heap.size) (h1 : base ≤ B) (h2 : base ≤ bm) : Below base w w' :=
  ⟨h.os, h.tape, h.output, h.size, fun k hk => h.block k (by omega) (by omega) (by omega)⟩
theorem ChgD.cell (h : ChgD w w' B bm) {a : Addr} (h0 : a.block < w.heap.size) (h1 : a.block ≠ B) (h2 : a.block ≠ bm) : w'.cell? a = w.cell? a := World.cell?_of_block (h.block _ h0 h1 h2)
theorem ChgD.frozen (h : ChgD w w' B bm) {a : Addr} (h0 : a.block < w.heap.size) (h1 : a.block ≠ B) (h2 : a.block ≠ bm) : w'.frozen? a = w.frozen? a := World.frozen?_of_block (h.block _ h0 h1 h2)
theorem PagesD.lt (h : PagesD w bm n d) : bm < w.heap.size := let ⟨_, h, _⟩ := h; h.lt
theorem PagesD.kept (h : PagesD w bm n d) (hb : w'.heap[bm]? = w.heap[bm]?) : PagesD w' bm n d := by
  obtain ⟨D, h1, h2⟩ := h
  refine ⟨D, ?_, h2⟩
  obtain ⟨es, clock, hh, r⟩ := h1
  exact ⟨es, clock, hb.trans hh, r⟩
theorem Dsk.lt (h : Dsk w B bm n d) : B < w.heap.size := heapLt h.1
theorem Dsk.below (h : Dsk w B bm n d) (hb : Below w.heap.size w w') : Dsk w' B bm n d :=
  ⟨(hb.block B h.lt).trans h.1, h.2.1.kept (hb.block bm h.2.1.lt), h.2.2⟩
theorem Dsk.cells (h : Dsk w B bm n d) : w.cell? ⟨B, 0, none⟩ = some (.int .i64 d.many) ∧ w.cell? ⟨B, 1, none⟩ = some (.map (some bm)) ∧ w.cell? ⟨B, 2, none⟩ = some (.bool d.dead) ∧ w.cell? ⟨B, 3, none⟩ = some (.bool d.set) ∧
    w.cell? ⟨B, 4, none⟩ = some (.int .i64 d.after) ∧ w.cell? ⟨B, 5, none⟩ = some (.int .i64 d.torn) ∧ w.cell? ⟨B, 6, none⟩ = some (.int .i64 d.writes) := by
  have h0 := cell_of_row w B 0 _ _ _ h.1
  have h1 := cell_of_row w B 1 _ _ _ h.1
  have h2 := cell_of_row w B 2 _ _ _ h.1
  have h3 := cell_of_row w B 3 _ _ _ h.1
  have h4 := cell_of_row w B 4 _ _ _ h.1
  have h5 := cell_of_row w B 5 _ _ _ h.1
  have h6 := cell_of_row w B 6 _ _ _ h.1
  exact ⟨h0, h1, h2, h3, h4, h5, h6⟩
theorem Dsk.frozen (h : Dsk w B bm n d) (i : Nat) : w.frozen? ⟨B, i, none⟩ = false := frozen_of_row w B i _ _ h.1
end

theorem code_dlen (w : World) (B bm n : Nat) (d : DiskV) (h : Dsk w B bm n d) : Calls Try.prog 46 #[.pointer (some ⟨B, 0, none⟩)] w fun e w' => e = .returned (.int .i64 d.many) ∧ w = w' := by
  obtain ⟨h0, _⟩ := h.cells
  clear h
  go_enter Try.func46, Try.ntmps46
  go_wp2
  go_ret
  exact ⟨rfl, rfl⟩
theorem code_dmade (w : World) (B bm n : Nat) (d : DiskV) (h : Dsk w B bm n d) : Calls Try.prog 54 #[.pointer (some ⟨B, 0, none⟩)] w fun e w' => e = .returned (.bool true) ∧ w = w' := by
  have HL := Lib.hid (code_dlen w B bm n d h)
  have hp : (0 : Int) < (d.many : Int) := by have := h.2.2.2.2; omega
  clear h
  go_enter Try.func54, Try.ntmps54
  go_wp2_with (go_at_call 46; refine HL.out.mono ?_; rintro e w1 ⟨rfl, rfl⟩)
  go_ret
  exact ⟨ret_bool (by simpa using hp), rfl⟩
/-- why a sector can't be read -/
def reachV (d : DiskV) (i : Int) : Int := if d.dead = true then 32 else if i < 0 ∨ (d.many : Int) ≤ i then 30 else 0
theorem code_reach (w : World) (B bm n : Nat) (d : DiskV) (i : Int) (h : Dsk w B bm n d) : Calls Try.prog 62 #[.pointer (some ⟨B, 0, none⟩), .int .i64 i] w fun e w' => e = .returned (.int .i64 (reachV d i)) ∧ w = w' := by
  have HM := Lib.hid (code_dmade w B bm n d h)
  obtain ⟨h0, _, h2, _⟩ := h.cells
  clear h
  obtain ⟨m, hm⟩ : ∃ m : Int, m = (d.many : Int) := ⟨_, rfl⟩
  have HD : Hid (reachV d i = if d.dead = true then 32 else if i < 0 ∨ m ≤ i then 30 else 0) := Lib.hid (by rw [hm]; rfl)
  rw [← hm] at h0
  clear hm
  generalize d.dead = dd at *
  by_cases hd : dd = true
  · subst hd
    go_enter Try.func62, Try.ntmps62
    go_wp2_with (go_at_call 54; refine HM.out.mono ?_; rintro e w1 ⟨rfl, rfl⟩)
    go_ret
    exact ⟨ret_int (by rw [HD.out]; rfl), rfl⟩
  · obtain rfl : dd = false := by simpa using hd
    by_cases h1 : i < 0
    · go_enter Try.func62, Try.ntmps62
      go_wp2_with (go_at_call 54; refine HM.out.mono ?_; rintro e w1 ⟨rfl, rfl⟩)
      go_ret
      exact ⟨ret_int (by rw [HD.out, if_neg (by simp), if_pos (.inl h1)]), rfl⟩
    · have h1' : 0 ≤ i := by omega
      by_cases h3 : m ≤ i
      · go_enter Try.func62, Try.ntmps62
        go_wp2_with (go_at_call 54; refine HM.out.mono ?_; rintro e w1 ⟨rfl, rfl⟩)
        go_ret
        exact ⟨ret_int (by rw [HD.out, if_neg (by simp), if_pos (.inr h3)]), rfl⟩
      · have h3' : i < m := by omega
        go_enter Try.func62, Try.ntmps62
        go_wp2_with (go_at_call 54; refine HM.out.mono ?_; rintro e w1 ⟨rfl, rfl⟩)
        go_ret
        exact ⟨ret_int (by rw [HD.out, if_neg (by simp), if_neg (by omega)]), rfl⟩
theorem code_dead (w : World) (B bm n : Nat) (d : DiskV) (h : Dsk w B bm n d) : Calls Try.prog 56 #[.pointer (some ⟨B, 0, none⟩)] w fun e w' => e = .returned (.bool d.dead) ∧ w = w' := by
  obtain ⟨h0, _, h2, _⟩ := h.cells
  clear h
  go_enter Try.func56, Try.ntmps56
  go_wp2
  go_ret
  exact ⟨rfl, rfl⟩
theorem code_writes (w : World) (B bm n : Nat) (d : DiskV) (h : Dsk w B bm n d) : Calls Try.prog 25 #[.pointer (some ⟨B, 0, none⟩)] w fun e w' => e = .returned (.int .i64 d.writes) ∧ w = w' := by
  obtain ⟨_, _, _, _, _, _, h6⟩ := h.cells
  clear h
  go_enter Try.func25, Try.ntmps25
  go_wp2
  go_ret
  exact ⟨rfl, rfl⟩
end Go.Proofs.Ytmgonokhgijgoaa

namespace Go.Proofs.Ytmgonokhgijgoaa
open Go.RowKit
set_option maxRecDepth 100000

theorem look_page {w : World} {bm n : Nat} {d : DiskV} (h : PagesD w bm n d) (i : Nat) (hi : i < d.many) (hm : d.many ≤ 4096) :
    (Instr.lookup 56 (.map (some bm)) (.int .i64 i) false).run Try.prog w = .ok (pageV (d.S i)) w := by
  obtain ⟨D, h1, h2⟩ := h
  obtain ⟨v, ps, hr, hv⟩ := h1.lookup keyInt Try.underlying56 (zero_page pageS w) (pageR_mk zeros_len) (key_of i (by omega))
  rw [(h2 i hi).1] at hv
  rw [hr, (pageR_inv hv).1]

theorem wpList_look_page {w : World} {ops : Array Oper} {rest : List Oper} {o : Oper} {a : Act} {Q : Exit → Act → World → Prop} (hgd : o.guard = none) (m x : Operand) (ho : o.op = .lookup 56 m x false)
    {bm n : Nat} {d : DiskV} (h : PagesD w bm n d) (i : Nat) (hi : i < d.many) (hm : d.many ≤ 4096) (hmv : a.eval m = .map (some bm)) (hx : a.eval x = .int .i64 i)
    (hK : wpList Try.prog ops Q rest (a.put o.dst (pageV (d.S i))) w) : wpList Try.prog ops Q (o :: rest) a w := by
  refine wpList_plain hgd fun K hK' => ?_
  have hr := look_page h i hi hm
  unfold Oper.wp execOp
  simp only [ho, hmv, hx, Sem.run_bind, hr, Result.andThen_ok, Sem.run_pure]
  exact hK' _ _ hK

/-- sector i laid over by a text -/
def DiskV.lay (d : DiskV) (i : Nat) (m : Text) : DiskV := { d with S := fun k => if k = i then overP (d.S i) m else d.S k }

theorem del_pages {w : World} {bm n : Nat} {d : DiskV} (h : PagesD w bm n d) (i : Nat) (hi : i < d.many) (hm : d.many ≤ 4096) (m : Text) (hz : overP (d.S i) m = zeros) (ty : TypeId) :
    ∃ w', (Builtin.delete_ #[56, 3] ty #[.map (some bm), .int .i64 i]).run Try.prog w = .ok (.tuple #[]) w' ∧ PagesD w' bm n (d.lay i m) ∧ w.mapTurned w' bm := by
  obtain ⟨D, h1, h2⟩ := h
  obtain ⟨w', hr, h3, h4⟩ := h1.drop keyInt Try.underlying56 (key_of i (by omega)) ty
  refine ⟨w', hr, ⟨_, h3, fun k hk => ?_⟩, h4⟩
  unfold DiskV.lay
  by_cases e : k = i
  · subst e
    simp only [if_true, hz]
    exact ⟨Maps.atKey_del_same _, zeros_len⟩
  · simp only [if_neg e]
    rw [Maps.atKey_del_other (by intro h; injection h with _ h; omega)]
    exact h2 k hk
theorem keyLit {i : Int} : WideAt.IsKeyLit (.int .i64 i) := by simp [WideAt.IsKeyLit]
theorem put_pages {w : World} {bm n : Nat} {d : DiskV} (h : PagesD w bm n d) (i : Nat) (hi : i < d.many) (hm : d.many ≤ 4096) (m : Text) (hn : n < maxLen) :
    ∃ w', (Instr.mapUpdate 56 (.map (some bm)) (.int .i64 i) (pageV (overP (d.S i) m))).run Try.prog w = .ok () w' ∧ PagesD w' bm (n + 1) (d.lay i m) ∧ w.mapTurned w' bm := by
  obtain ⟨D, h1, h2⟩ := h
  obtain ⟨w', hr, h3, h4⟩ := h1.store keyInt Try.underlying56 hn (key_of i (by omega)) (pageR_mk (overP_len (h2 i hi).2))
  refine ⟨w', hr, ⟨_, h3, fun k hk => ?_⟩, h4⟩
  unfold DiskV.lay
  by_cases e : k = i
  · subst e
    simp only [if_true]
    exact ⟨Maps.atKey_put_same h1.isMap keyLit _ _, overP_len (h2 k hk).2⟩
  · simp only [if_neg e]
    rw [Maps.atKey_put_other (by intro h; injection h with _ h; omega)]
    exact h2 k hk
theorem PagesD.mono {w : World} {bm n n' : Nat} {d : DiskV} (h : PagesD w bm n d) (hn : n ≤ n') : PagesD w bm n' d := let ⟨D, h1, h2⟩ := h; ⟨D, h1.mono hn, h2⟩

theorem turned_chg {w w' : World} {B bm : Nat} (h : w.mapTurned w' bm) : ChgD w w' B bm := by
  have hg := h.grown
  exact ⟨hg.os, hg.tape, hg.output, hg.size, fun k hk _ h2 => hg.block k hk (fun e => h2 (by injection e))⟩

theorem code_dnone (w : World) (many : Int) (h : many < 1 ∨ 4096 < many) : Calls Try.prog 29 #[.int .i64 many] w fun e w' => e = .returned (.pointer none) ∧ w = w' := by
  by_cases h1 : many < 1
  · go_enter Try.func29, Try.ntmps29
    go_wp2
    go_ret
    exact ⟨rfl, rfl⟩
  · have h2 : 4096 < many := by omega
    have h1' : 1 ≤ many := by omega
    go_enter Try.func29, Try.ntmps29
    go_wp2
    go_ret
    exact ⟨rfl, rfl⟩
/-- a new disk of so many sectors -/
def newD (many : Nat) : DiskV := ⟨many, fun _ => zeros, false, false, 0, 0, 0⟩
theorem code_dnew (w : World) (many : Int) (h1 : 1 ≤ many) (h2 : many ≤ 4096) : Calls Try.prog 29 #[.int .i64 many] w fun e w' =>
    e = .returned (.pointer (some ⟨w.heap.size + 1, 0, none⟩)) ∧ Dsk w' (w.heap.size + 1) w.heap.size 0 (newD many.toNat) ∧ Below w.heap.size w w' := by
  have hmm := @run_makeMap Try.prog
  go_enter Try.func29, Try.ntmps29
  go_wp2
  go_ret
  refine ⟨rfl, ⟨?_, ⟨.map [], (World.ownsMap_made w _ _ _).alloc _, fun i _ => ⟨rfl, zeros_len⟩⟩, ?_, ?_, ?_⟩, ?_⟩
  · have := heap_alloc_new (w.alloc (.map #[] 0)) (.cells (cellsD w.heap.size (newD many.toNat)) 60)
    rw [World.size_alloc] at this
    have e : cellsD w.heap.size (newD many.toNat) = #[.int .i64 many, .map (some w.heap.size), .bool false, .bool false, .int .i64 0, .int .i64 0, .int .i64 0] := by
      simp [cellsD, newD]; omega
    rw [e] at this
    simpa [e] using this
  · show many.toNat ≤ 4096
    omega
  · omega
  · show 0 < many.toNat
    omega
  · exact ((Below.refl _ w).alloc (Nat.le_refl _) _).alloc (by simp) _
end Go.Proofs.Ytmgonokhgijgoaa
