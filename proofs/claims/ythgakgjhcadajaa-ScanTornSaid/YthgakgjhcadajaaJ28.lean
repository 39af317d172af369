/- A disk in memory: its cells, its map of pages; the small calls on it. scan: a scope of three labels; a box turned beside a row; the bytes of a batch. -/
import Derived.Test.YthgakgjhcadajaaJ2
import Derived.Maps.OwnSet
import Derived.Lib.LazyBuf
import Derived.Test.YthgakgjhcadajaaJ1
import Derived.Test.YthgakgjhcadajaaJ27
import Derived.Test.YthgakgjhcadajaaJ17
namespace Go.Proofs.Ythgakgjhcadajaa
open Go.RowKit
set_option maxRecDepth 100000

theorem pageS : IsPage 124 := ⟨by kernel_rfl, by kernel_rfl, by kernel_rfl, by kernel_rfl⟩

open Classical in
/-- how a page reads -/
noncomputable def pageR (v : Value) : Option (DataW Unit × List MemPlace) := if h : ∃ l : Text, l.length = 64 ∧ v = pageV l then some (.lit (.string (Classical.choose h)), []) else none
theorem pageR_mk {l : Text} (hl : l.length = 64) : pageR (pageV l) = some (.lit (.string l), []) := by
  have h : ∃ m : Text, m.length = 64 ∧ pageV l = pageV m := ⟨l, hl, rfl⟩
  unfold pageR
  rw [dif_pos h]
  rw [← pageV_inj (Classical.choose_spec h).2]
theorem pageR_inv {v : Value} {l : Text} {ps : List MemPlace} (h : pageR v = some (.lit (.string l), ps)) : v = pageV l ∧ l.length = 64 := by
  unfold pageR at h
  split at h
  · rename_i hx
    simp only [Option.some.injEq, Prod.mk.injEq, DataW.lit.injEq, Lit.string.injEq] at h
    obtain ⟨h1, _⟩ := h
    have := Classical.choose_spec hx
    rw [h1] at this
    exact ⟨this.2, this.1⟩
  · cases h
theorem keyInt : Maps.Keyed Try.prog 3 := Maps.int_keyed Try.underlying3
theorem key_of (i : Nat) (hi : i < 9223372036854775808) : keyOf Try.prog 3 (.int .i64 i) = some (.int .i64 i) := Maps.keyOf_int_mk Try.underlying3 (WalkArith.wf_i64 (by omega))

structure DiskV where
  many : Nat
  S : Nat → Text
  dead : Bool
  set : Bool
  after : Int
  torn : Int
  writes : Int
def cellsD (bm : Nat) (d : DiskV) : Array Value := #[.int .i64 d.many, .map (some bm), .bool d.dead, .bool d.set, .int .i64 d.after, .int .i64 d.torn, .int .i64 d.writes]
def PagesD (w : World) (bm n : Nat) (d : DiskV) : Prop :=
  ∃ D : DataW Unit, w.ownsMap Try.prog 3 pageR bm n D ∧ ∀ i : Nat, i < d.many → D.atKey (.int .i64 i) (.lit (.string zeros)) = .lit (.string (d.S i)) ∧ (d.S i).length = 64
def Dsk (w : World) (B bm n : Nat) (d : DiskV) : Prop :=
  w.heap[B]? = some (.cells (cellsD bm d) 60 (0, 0)) ∧ PagesD w bm n d ∧ d.many ≤ 4096 ∧ bm ≠ B ∧ 0 < d.many
/-- nothing but block B and the map's was turned -/
structure ChgD (w w' : World) (B bm : Nat) : Prop where
  os : w'.os = w.os
  tape : w'.tape = w.tape
  output : w'.output = w.output
  size : w.heap.size ≤ w'.heap.size
  block : ∀ k, k < w.heap.size → k ≠ B → k ≠ bm → w'.heap[k]? = w.heap[k]?
section
variable {w w' w'' : World} {B bm n : Nat} {d : DiskV}
theorem ChgD.refl (w : World) (B bm : Nat) : ChgD w w B bm := ⟨rfl, rfl, rfl, Nat.le_refl _, fun _ _ _ _ => rfl⟩
theorem ChgD.trans (h : ChgD w w' B bm) (k : ChgD w' w'' B bm) : ChgD w w'' B bm :=
  ⟨k.os.trans h.os, k.tape.trans h.tape, k.output.trans h.output, Nat.le_trans h.size k.size, fun i hi h1 h2 => (k.block i (Nat.lt_of_lt_of_le hi h.size) h1 h2).trans (h.block i hi h1 h2)⟩
theorem ChgD.of_below (h : Below w.heap.size w w') : ChgD w w' B bm := ⟨h.os, h.tape, h.output, h.size, fun k hk _ _ => h.block k hk⟩
theorem ChgD.below (h : ChgD w w' B bm) {base : Nat} (h0 : base ≤ w.heap.size) (h1 : base ≤ B) (h2 : base ≤ bm) : Below base w w' :=
  ⟨h.os, h.tape, h.output, h.size, fun k hk => h.block k (by omega) (by omega) (by omega)⟩
theorem ChgD.cell (h : ChgD w w' B bm) {a : Addr} (h0 : a.block < w.heap.size) (h1 : a.block ≠ B) (h2 : a.block ≠ bm) : w'.cell? a = w.cell? a := World.cell?_of_block (h.block _ h0 h1 h2)
theorem ChgD.frozen (h : ChgD w w' B bm) {a : Addr} (h0 : a.block < w.heap.size) (h1 : a.block ≠ B) (h2 : a.block ≠ bm) : w'.frozen? a = w.frozen? a := World.frozen?_of_block (h.block _ h0 h1 h2)
theorem PagesD.lt (h : PagesD w bm n d) : bm < w.heap.size := let ⟨_, h, _⟩ := h; h.lt
theorem PagesD.kept (h : PagesD w bm n d) (hb : w'.heap[bm]? = w.heap[bm]?) : PagesD w' bm n d := by
  obtain ⟨D, h1, h2⟩ := h
  refine ⟨D, ?_, h2⟩
  obtain ⟨es, clock, hh, r⟩ := h1
  exact ⟨es, clock, hb.trans hh, r⟩
theorem Dsk.lt (h : Dsk w B bm n d) : B < w.heap.size := heapLt h.1
theorem Dsk.below (h : Dsk w B bm n d) (hb : Below w.heap.size w w') : Dsk w' B bm n d :=
  ⟨(hb.block B h.lt).trans h.1, h.2.1.kept (hb.block bm h.2.1.lt), h.2.2⟩
theorem Dsk.cells (h : Dsk w B bm n d) : w.cell? ⟨B, 0, none⟩ = some (.int .i64 d.many) ∧ w.cell? ⟨B, 1, none⟩ = some (.map (some bm)) ∧ w.cell? ⟨B, 2, none⟩ = some (.bool d.dead) ∧ w.cell? ⟨B, 3, none⟩ = some (.bool d.set) ∧
    w.cell? ⟨B, 4, none⟩ = some (.int .i64 d.after) ∧ w.cell? ⟨B, 5, none⟩ = some (.int .i64 d.torn) ∧ w.cell? ⟨B, 6, none⟩ = some (.int .i64 d.writes) := by
  have h0 := cell_of_row w B 0 _ _ _ h.1
  have h1 := cell_of_row w B 1 _ _ _ h.1
  have h2 := cell_of_row w B 2 _ _ _ h.1
  have h3 := cell_of_row w B 3 _ _ _ h.1
  have h4 := cell_of_row w B 4 _ _ _ h.1
  have h5 := cell_of_row w B 5 _ _ _ h.1
  have h6 := cell_of_row w B 6 _ _ _ h.1
  exact ⟨h0, h1, h2, h3, h4, h5, h6⟩
theorem Dsk.frozen (h : Dsk w B bm n d) (i : Nat) : w.frozen? ⟨B, i, none⟩ = false := frozen_of_row w B i _ _ h.1
end

theorem code_dlen (w : World) (B bm n : Nat) (d : DiskV) (h : Dsk w B bm n d) : Calls Try.prog 46 #[.pointer (some ⟨B, 0, none⟩)] w fun e w' => e = .returned (.int .i64 d.many) ∧ w = w' := by
  obtain ⟨h0, _⟩ := h.cells
  clear h
  go_enter Try.func46, Try.ntmps46
  go_wp2
  go_ret
  exact ⟨rfl, rfl⟩
theorem code_dmade (w : World) (B bm n : Nat) (d : DiskV) (h : Dsk w B bm n d) : Calls Try.prog 54 #[.pointer (some ⟨B, 0, none⟩)] w fun e w' => e = .returned (.bool true) ∧ w = w' := by
  have HL := Lib.hid (code_dlen w B bm n d h)
  have hp : (0 : Int) < (d.many : Int) := by have := h.2.2.2.2; omega
  clear h
  go_enter Try.func54, Try.ntmps54
  go_wp2_with (go_at_call 46; refine HL.out.mono ?_; rintro e w1 ⟨rfl, rfl⟩)
  go_ret
  exact ⟨ret_bool (by simpa using hp), rfl⟩
/-- why a sector can't be read -/
def reachV (d : DiskV) (i : Int) : Int := if d.dead = true then 32 else if i < 0 ∨ (d.many : Int) ≤ i then 30 else 0
theorem code_reach (w : World) (B bm n : Nat) (d : DiskV) (i : Int) (h : Dsk w B bm n d) : Calls Try.prog 62 #[.pointer (some ⟨B, 0, none⟩), .int .i64 i] w fun e w' => e = .returned (.int .i64 (reachV d i)) ∧ w = w' := by
  have HM := Lib.hid (code_dmade w B bm n d h)
  obtain ⟨h0, _, h2, _⟩ := h.cells
  clear h
  obtain ⟨m, hm⟩ : ∃ m : Int, m = (d.many : Int) := ⟨_, rfl⟩
  have HD : Hid (reachV d i = if d.dead = true then 32 else if i < 0 ∨ m ≤ i then 30 else 0) := Lib.hid (by rw [hm]; rfl)
  rw [← hm] at h0
  clear hm
  generalize d.dead = dd at *
  by_cases hd : dd = true
  · subst hd
    go_enter Try.func62, Try.ntmps62
    go_wp2_with (go_at_call 54; refine HM.out.mono ?_; rintro e w1 ⟨rfl, rfl⟩)
    go_ret
    exact ⟨ret_int (by rw [HD.out]; rfl), rfl⟩
  · obtain rfl : dd = false := by simpa using hd
    by_cases h1 : i < 0
    · go_enter Try.func62, Try.ntmps62
      go_wp2_with (go_at_call 54; refine HM.out.mono ?_; rintro e w1 ⟨rfl, rfl⟩)
      go_ret
      exact ⟨ret_int (by rw [HD.out, if_neg (by simp), if_pos (.inl h1)]), rfl⟩
    · have h1' : 0 ≤ i := by omega
      by_cases h3 : m ≤ i
      · go_enter Try.func62, Try.ntmps62
        go_wp2_with (go_at_call 54; refine HM.out.mono ?_; rintro e w1 ⟨rfl, rfl⟩)
        go_ret
        exact ⟨ret_int (by rw [HD.out, if_neg (by simp), if_pos (.inr h3)]), rfl⟩
      · have h3' : i < m := by omega
        go_enter Try.func62, Try.ntmps62
        go_wp2_with (go_at_call 54; refine HM.out.mono ?_; rintro e w1 ⟨rfl, rfl⟩)
        go_ret
        exact ⟨ret_int (by rw [HD.out, if_neg (by simp), if_neg (by omega)]), rfl⟩
theorem code_dead (w : World) (B bm n : Nat) (d : DiskV) (h : Dsk w B bm n d) : Calls Try.prog 56 #[.pointer (some ⟨B, 0, none⟩)] w fun e w' => e = .returned (.bool d.dead) ∧ w = w' := by
  obtain ⟨h0, _, h2, _⟩ := h.cells
  clear h
  go_enter Try.func56, Try.ntmps56
  go_wp2
  go_ret
  exact ⟨rfl, rfl⟩
theorem code_writes (w : World) (B bm n : Nat) (d : DiskV) (h : Dsk w B bm n d) : Calls Try.prog 25 #[.pointer (some ⟨B, 0, none⟩)] w fun e w' => e = .returned (.int .i64 d.writes) ∧ w = w' := by
  obtain ⟨_, _, _, _, _, _, h6⟩ := h.cells
  clear h
  go_enter Try.func25, Try.ntmps25
  go_wp2
  go_ret
  exact ⟨rfl, rfl⟩
end Go.Proofs.Ythgakgjhcadajaa

namespace Go.Proofs.Ythgakgjhcadajaa
open Go.RowKit
set_option maxRecDepth 100000
set_option linter.unusedSimpArgs false
set_option linter.unusedVariables false

section
variable {P : Program} {a : Act} {w : World} {Q : Exit → Act → World → Prop} {J0 J1 J2 : Act → World → Prop}
/-- by a goto to one of three labels: what is asked there; else Q -/
def jump3 (J0 J1 J2 : Act → World → Prop) (Q : Exit → Act → World → Prop) : Exit → Act → World → Prop
  | .goto l, a, w => (l = 0 ∧ J0 a w) ∨ (l = 1 ∧ J1 a w) ∨ (l = 2 ∧ J2 a w)
  | e, a, w => Q e a w
theorem jump3_normal : jump3 J0 J1 J2 Q .normal a w = Q .normal a w := rfl
theorem jump3_exit (id : Nat) : jump3 J0 J1 J2 Q (.exit id) a w = Q (.exit id) a w := rfl
theorem jump3_ret : jump3 J0 J1 J2 Q .ret a w = Q .ret a w := rfl
theorem jump3_panic (ch : List PanicEntry) : jump3 J0 J1 J2 Q (.panic ch) a w = Q (.panic ch) a w := rfl
theorem jump3_0 (h : J0 a w) : jump3 J0 J1 J2 Q (.goto 0) a w := .inl ⟨rfl, h⟩
theorem jump3_1 (h : J1 a w) : jump3 J0 J1 J2 Q (.goto 1) a w := .inr (.inl ⟨rfl, h⟩)
theorem jump3_2 (h : J2 a w) : jump3 J0 J1 J2 Q (.goto 2) a w := .inr (.inr ⟨rfl, h⟩)
theorem wp_scope3 {c : Code} (R0 R1 R2 : Nat → Act → World → Prop) {r0 r1 r2 : Code} (h0 : findLabel c 0 = some r0) (h1 : findLabel c 1 = some r1) (h2 : findLabel c 2 = some r2)
    (first : c.wp P (jump3 (fun a w => ∃ m, R0 m a w) (fun a w => ∃ m, R1 m a w) (fun a w => ∃ m, R2 m a w) Q) a w)
    (p0 : ∀ m a w, R0 m a w → r0.wp P (jump3 (fun a' w' => ∃ m', m' < m ∧ R0 m' a' w') (fun a' w' => ∃ m', m' < m ∧ R1 m' a' w') (fun a' w' => ∃ m', m' < m ∧ R2 m' a' w') Q) a w)
    (p1 : ∀ m a w, R1 m a w → r1.wp P (jump3 (fun a' w' => ∃ m', m' < m ∧ R0 m' a' w') (fun a' w' => ∃ m', m' < m ∧ R1 m' a' w') (fun a' w' => ∃ m', m' < m ∧ R2 m' a' w') Q) a w)
    (p2 : ∀ m a w, R2 m a w → r2.wp P (jump3 (fun a' w' => ∃ m', m' < m ∧ R0 m' a' w') (fun a' w' => ∃ m', m' < m ∧ R1 m' a' w') (fun a' w' => ∃ m', m' < m ∧ R2 m' a' w') Q) a w) : (Code.scope c).wp P Q a w := by
  intro b k cs
  have hg : ∀ l rest, findLabel c l = some rest → gotoIn l (.inScope c :: k) = some (.code rest :: .inScope c :: k) := fun l rest h => by simp [gotoIn, h]
  have key : ∀ m l a w, ((l = 0 ∧ R0 m a w) ∨ (l = 1 ∧ R1 m a w) ∨ (l = 2 ∧ R2 m a w)) → ∃ rest, findLabel c l = some rest ∧ ∃ e a' w', Q e a' w' ∧ Arrives P (lone (b.at a (.code rest :: .inScope c :: k)) cs w) b k cs e a' w' := by
    intro m
    induction m using Nat.strongRecOn with
    | _ m ih =>
      intro l a w hR
      obtain ⟨rest, hrest, hwp⟩ : ∃ rest, findLabel c l = some rest ∧ rest.wp P (jump3 (fun a' w' => ∃ m', m' < m ∧ R0 m' a' w') (fun a' w' => ∃ m', m' < m ∧ R1 m' a' w') (fun a' w' => ∃ m', m' < m ∧ R2 m' a' w') Q) a w := by
        rcases hR with ⟨rfl, hR⟩ | ⟨rfl, hR⟩ | ⟨rfl, hR⟩
        · exact ⟨r0, h0, p0 m a w hR⟩
        · exact ⟨r1, h1, p1 m a w hR⟩
        · exact ⟨r2, h2, p2 m a w hR⟩
      refine ⟨rest, hrest, ?_⟩
      obtain ⟨e, a₁, w₁, hq, harr⟩ := hwp b (.inScope c :: k) cs
      cases e with
      | normal => exact ⟨.normal, a₁, w₁, hq, Steps.trans harr (.one step_inScope)⟩
      | exit id => exact ⟨.exit id, a₁, w₁, hq, fun k' hk => harr k' (by simp [exitTo, hk])⟩
      | goto l' =>
        obtain ⟨m', hlt, hR'⟩ : ∃ m', m' < m ∧ ((l' = 0 ∧ R0 m' a₁ w₁) ∨ (l' = 1 ∧ R1 m' a₁ w₁) ∨ (l' = 2 ∧ R2 m' a₁ w₁)) := by
          rcases hq with ⟨e, m', hm, h⟩ | ⟨e, m', hm, h⟩ | ⟨e, m', hm, h⟩
          · exact ⟨m', hm, .inl ⟨e, h⟩⟩
          · exact ⟨m', hm, .inr (.inl ⟨e, h⟩)⟩
          · exact ⟨m', hm, .inr (.inr ⟨e, h⟩)⟩
        obtain ⟨rest', hr', e₂, a₂, w₂, hq₂, harr₂⟩ := ih m' hlt l' a₁ w₁ hR'
        exact ⟨e₂, a₂, w₂, hq₂, .of_steps (harr _ (hg l' rest' hr')) harr₂⟩
      | ret => exact ⟨_, a₁, w₁, hq, harr⟩
      | panic ch => exact ⟨_, a₁, w₁, hq, harr⟩
      | outgrown => exact ⟨_, a₁, w₁, hq, harr⟩
  obtain ⟨e, a₁, w₁, hq, harr⟩ := first b (.inScope c :: k) cs
  cases e with
  | normal => exact ⟨.normal, a₁, w₁, hq, .head step_scope (Steps.trans harr (.one step_inScope))⟩
  | exit id => exact ⟨.exit id, a₁, w₁, hq, fun k' hk => .head step_scope (harr k' (by simp [exitTo, hk]))⟩
  | goto l' =>
    obtain ⟨m', hR'⟩ : ∃ m', ((l' = 0 ∧ R0 m' a₁ w₁) ∨ (l' = 1 ∧ R1 m' a₁ w₁) ∨ (l' = 2 ∧ R2 m' a₁ w₁)) := by
      rcases hq with ⟨e, m', h⟩ | ⟨e, m', h⟩ | ⟨e, m', h⟩
      · exact ⟨m', .inl ⟨e, h⟩⟩
      · exact ⟨m', .inr (.inl ⟨e, h⟩)⟩
      · exact ⟨m', .inr (.inr ⟨e, h⟩)⟩
    obtain ⟨rest', hr', e₂, a₂, w₂, hq₂, harr₂⟩ := key m' l' a₁ w₁ hR'
    exact ⟨e₂, a₂, w₂, hq₂, .of_steps (.head step_scope (harr _ (hg l' rest' hr'))) harr₂⟩
  | ret => exact ⟨_, a₁, w₁, hq, .of_steps (.one step_scope) harr⟩
  | panic ch => exact ⟨_, a₁, w₁, hq, .of_steps (.one step_scope) harr⟩
  | outgrown => exact ⟨_, a₁, w₁, hq, .of_steps (.one step_scope) harr⟩
theorem wp_scope3f {A r4 r5 r6 r7 X Y0 Y1 : Code} (R0 R1 R2 : Nat → Act → World → Prop) (h0 : findLabel (A.seq (r4.seq (r5.seq (r6.seq (r7.seq ((Code.label 2).seq X)))))) 0 = some (Code.skip.seq Y0)) (h1 : findLabel (A.seq (r4.seq (r5.seq (r6.seq (r7.seq ((Code.label 2).seq X)))))) 1 = some (Code.skip.seq Y1)) (h2 : findLabel (A.seq (r4.seq (r5.seq (r6.seq (r7.seq ((Code.label 2).seq X)))))) 2 = some (Code.skip.seq X))
    (first : ∀ Z : Code, (∀ m a w, R2 m a w → Z.wp P (jump3 (fun a w => ∃ m, R0 m a w) (fun a w => ∃ m, R1 m a w) (fun a w => ∃ m, R2 m a w) Q) a w) → (A.seq (r4.seq (r5.seq (r6.seq (r7.seq Z))))).wp P (jump3 (fun a w => ∃ m, R0 m a w) (fun a w => ∃ m, R1 m a w) (fun a w => ∃ m, R2 m a w) Q) a w)
    (p0 : ∀ m a w, R0 m a w → Y0.wp P (jump3 (fun a' w' => ∃ m', m' < m ∧ R0 m' a' w') (fun a' w' => ∃ m', m' < m ∧ R1 m' a' w') (fun a' w' => ∃ m', m' < m ∧ R2 m' a' w') Q) a w)
    (p1 : ∀ m a w, R1 m a w → Y1.wp P (jump3 (fun a' w' => ∃ m', m' < m ∧ R0 m' a' w') (fun a' w' => ∃ m', m' < m ∧ R1 m' a' w') (fun a' w' => ∃ m', m' < m ∧ R2 m' a' w') Q) a w)
    (p2 : ∀ m a w, R2 m a w → X.wp P (jump3 (fun a' w' => ∃ m', m' < m ∧ R0 m' a' w') (fun a' w' => ∃ m', m' < m ∧ R1 m' a' w') (fun a' w' => ∃ m', m' < m ∧ R2 m' a' w') Q) a w) : (Code.scope (A.seq (r4.seq (r5.seq (r6.seq (r7.seq ((Code.label 2).seq X))))))).wp P Q a w :=
  wp_scope3 R0 R1 R2 h0 h1 h2 (first _ fun m a w h => wp_seq (wp_label (wp_mono (p2 m a w h) fun e a w hq => by
    cases e with
    | goto l =>
      rcases hq with ⟨e, m', _, h⟩ | ⟨e, m', _, h⟩ | ⟨e, m', _, h⟩
      · exact .inl ⟨e, m', h⟩
      · exact .inr (.inl ⟨e, m', h⟩)
      · exact .inr (.inr ⟨e, m', h⟩)
    | _ => exact hq)))
    (fun m a w h => wp_seq (wp_skip (p0 m a w h))) (fun m a w h => wp_seq (wp_skip (p1 m a w h))) (fun m a w h => wp_seq (wp_skip (p2 m a w h)))
end

theorem OwnT.head {B : Nat} {v : Value} {L : List Text} {W W' : World} {hb : Nat} {s n u : Int} (h : OwnT B v L W) (hlt : hb < B) (hH : W.heap[hb]? = some (headO s n u)) (hs : W.heap.size ≤ W'.heap.size) (hk : ∀ k, k < W.heap.size → k ≠ hb → W'.heap[k]? = W.heap[k]?) : OwnT B v L W' :=
  h.turn hb hs hk (fun e => by have := (h.base _ e).1; omega) (fun j hj b c xs q1 q2 q3 q4 e => by
    subst e
    have hc := q3 0 (cellOf (L[j][0]'q4)) (by simp [q4])
    unfold headO at hH
    rw [cell_of_row _ _ _ _ _ _ hH] at hc
    simp [cellOf] at hc)
theorem joinX_is {L : List Text} {s n u : Int} (h : joinQ L s n u = true) : joinX L s n u = joinT L n.toNat ∧ (joinT L n.toNat).length = n.toNat ∧ 0 < n.toNat := by
  have hx : joinX L s n u = joinT L n.toNat := by unfold joinX; rw [if_pos h]
  unfold joinQ at h
  simp only [Bool.and_eq_true, decide_eq_true_eq] at h
  have hn := headOk_len h.1.1.1
  have hl : L.flatten.length = 64 * L.length := flat_len L (fun i hi => h.1.2 i hi)
  refine ⟨hx, ?_, by omega⟩
  unfold joinT
  rw [List.length_take, hl, h.1.1.2]
  omega
theorem need_is {l : Text} (h : isB l = true) : needV (lenB l) = (needT l : Int) := by
  have := need_big h
  unfold needT at this ⊢
  omega
theorem someT_mid (S : Nat → Text) (i k : Nat) : midL (someT S i (k + 1)) k = someT S (i + 1) (k - 1) := by
  unfold midL
  refine List.ext_getElem ?_ fun j h1 h2 => ?_
  · rw [List.length_take, List.length_drop, someT_len, someT_len]
    omega
  · rw [List.getElem_take, List.getElem_drop, someT_get, someT_get]
    congr 1
    omega
theorem txt_range {w : World} {b : Nat} {T : Text} (h : Txt w (some ⟨b, 0, none⟩) T) : w.rangeAt b 0 (T.map cellOf) := fun j u hu => by
  have := h.news j u hu
  rwa [Addr.add_mid] at this
theorem OwnT.shape {B : Nat} {v : Value} {L : List Text} {W : World} (h : OwnT B v L W) : ∃ A c, v = .slice A L.length c := by
  obtain ⟨xs, h1, _⟩ := h
  rcases h1.2 with ⟨rfl, h0⟩ | ⟨g, c, cur, rfl, _⟩
  · exact ⟨none, 0, by rw [h0]⟩
  · exact ⟨_, _, rfl⟩
/-- a row grown, blocks below another base but one are as they were -/
theorem ChgD.grow {w a b : World} {hb : Nat} {row : Option Nat} (h : ChgD w a hb hb) (hg : a.grownBy b row) (hr : ∀ k, row = some k → w.heap.size ≤ k) : ChgD w b hb hb :=
  ⟨hg.os.trans h.os, hg.tape.trans h.tape, hg.output.trans h.output, Nat.le_trans h.size hg.size, fun k hk h1 h2 => (hg.block k (Nat.lt_of_lt_of_le hk h.size) (fun e => by have := hr k e.symm; omega)).trans (h.block k hk h1 h2)⟩
theorem ChgD.more {w a b : World} {hb : Nat} (h : ChgD w a hb hb) (k : Below a.heap.size a b) : ChgD w b hb hb := h.trans (ChgD.of_below k)
theorem ChgD.box {w a : World} {hb : Nat} (h : ChgD w a hb hb) (u : Array Value) : ChgD w (a.setRow hb u) hb hb :=
  ⟨h.os, h.tape, h.output, by simpa [World.setRow] using h.size, fun k hk h1 h2 => (setRow_other _ _ _ _ h1).trans (h.block k hk h1 h2)⟩
end Go.Proofs.Ythgakgjhcadajaa
