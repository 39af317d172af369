/- A disk and the document's, side by side. The statements' own pages, walked. A disk laid with pages, the program's and the document's. -/
import Derived.Test.YtfjejiapafdgeaaJ29
import Derived.Test.YtfjejiapafdgeaaJ31
import Derived.Test.YtfjejiapafdgeaaJ26
namespace Go.Proofs.Ytfjejiapafdgeaa
open Go.RowKit
set_option maxRecDepth 100000

theorem RefIs.chg {w w' : World} {g c B bm : Nat} {tr : Int} {d : DiskV} (h : RefIs w g c tr d) (hc : ChgD w w' B bm) (h1 : g ≠ B) (h2 : g ≠ bm) : RefIs w' g c tr d :=
  ⟨⟨Nat.lt_of_lt_of_le h.1.1 hc.size, fun i hi => (hc.cell h.1.1 h1 h2).trans (h.1.2 i hi)⟩, h.2⟩
theorem reach_big {d : DiskV} {i : Int} (h : reachV d i = 0) : ∃ k : Nat, i = (k : Int) ∧ k < d.many := by
  obtain ⟨h1, h2, _⟩ := reach_ok h
  exact ⟨i.toNat, by omega, by omega⟩
/-- a write of the document's, whatever is written -/
theorem ref_write_all (w : World) (g c : Nat) (tr : Int) (d : DiskV) (i : Int) (T : Text) (h : RefIs w g c tr d) (ho : OkD d) (hw : d.writes < 9223372036854775807) (hm : d.many ≤ 1000) (hS : ∀ k, k < d.many → (d.S k).length = 64) :
    Calls Try.prog 44 #[refV g c tr d, .int .i64 i, .string ⟨T.toArray⟩] w (WroteR w (writeD d i T) (writeE d i T)) := by
  have hsz : (ByteArray.mk T.toArray).size = T.length := rfl
  by_cases hr : reachV d i = 0
  · by_cases hl : T.length = 64
    · obtain ⟨k, rfl, hk⟩ := reach_big hr
      by_cases hf : d.set = true ∧ d.after = 0
      · have hE : writeE d k T = 32 := by unfold writeE; rw [if_neg (by omega), if_neg (by omega), if_pos hf]
        rw [hE]
        exact ref_write_cut w g c tr d k _ h ho hm hr (by rw [hsz, hl]) hf T rfl (hS k hk)
      · have hE : writeE d k T = 0 := by unfold writeE; rw [if_neg (by omega), if_neg (by omega), if_neg hf]
        rw [hE]
        exact ref_write_on w g c tr d k _ h ho hw hm hr (by rw [hsz, hl]) hf T rfl (hS k hk)
    · have hE : writeE d i T = 2 := by unfold writeE; rw [if_neg (by omega), if_pos hl]
      have hD : writeD d i T = d := by unfold writeD; rw [if_neg (by omega), if_pos hl]
      rw [hE, hD]
      exact ref_write_no w g c tr d i _ h (.inr ⟨hr, by rw [hsz]; exact hl⟩) 2 (by rw [if_neg (by omega)])
  · have hE : writeE d i T = reachV d i := by unfold writeE; rw [if_pos hr]
    have hD : writeD d i T = d := by unfold writeD; rw [if_pos hr]
    rw [hE, hD]
    exact ref_write_no w g c tr d i _ h (.inl hr) _ (by rw [if_pos hr])
theorem writeD_many (d : DiskV) (i : Int) (T : Text) : (writeD d i T).many = d.many := by
  unfold writeD
  split
  · rfl
  · split
    · rfl
    · split <;> rfl
theorem writeD_ok (d : DiskV) (i : Int) (T : Text) (h : OkD d) : OkD (writeD d i T) := by
  obtain ⟨o1, o2, o3, o4, o5⟩ := h
  unfold writeD
  split
  · exact ⟨o1, o2, o3, o4, o5⟩
  · split
    · exact ⟨o1, o2, o3, o4, o5⟩
    · split
      · exact ⟨by simp, by simp, by simp, by simp, o5⟩
      · rename_i h1 h2 h3
        refine ⟨o1, o2, ?_, ?_, ?_⟩
        · show 0 ≤ (if d.set = true then d.after - 1 else d.after)
          split
          · rename_i hs
            have : ¬ d.after = 0 := fun e => h3 ⟨hs, e⟩
            omega
          · exact o3
        · show (if d.set = true then d.after - 1 else d.after) ≤ 9223372036854775807
          split <;> omega
        · show 0 ≤ d.writes + 1
          omega
theorem writeD_writes (d : DiskV) (i : Int) (T : Text) : (writeD d i T).writes ≤ d.writes + 1 := by
  unfold writeD
  split
  · omega
  · split
    · omega
    · split
      · show d.writes ≤ d.writes + 1
        omega
      · exact Int.le_refl _
/-- side by side: the disk, the document's in its own box -/
structure Pair (w : World) (b6 B bm nn g c : Nat) (tr : Int) (d : DiskV) (N : Nat) (W : World) : Prop where
  dsk : Dsk W B bm nn d
  ref : RefIs W g c tr d
  box : W.heap[b6]? = some (.cells (refC g c d.many (aftR d) tr d.dead d.writes).toArray 28 (0, 0))
  ok : OkD d
  many : d.many ≤ 40
  many1 : 1 ≤ d.many
  nn : nn ≤ N
  wr : d.writes ≤ N
  hB : w.heap.size ≤ B
  hbm : w.heap.size ≤ bm
  h6 : w.heap.size ≤ b6
  n1 : g ≠ B
  n2 : g ≠ bm
  n3 : b6 ≠ B
  n4 : b6 ≠ bm
  n5 : g ≠ b6
  below : Below w.heap.size w W
theorem Pair.later {w W W' : World} {b6 B bm nn g c N N' : Nat} {tr : Int} {d : DiskV} (h : Pair w b6 B bm nn g c tr d N W) (hb : Below W.heap.size W W') (hN : N ≤ N') : Pair w b6 B bm nn g c tr d N' W' :=
  { h with dsk := h.dsk.below hb, ref := h.ref.below hb, box := (hb.block _ (heapLt h.box)).trans h.box, nn := Nat.le_trans h.nn hN, wr := by have := h.wr; omega, below := h.below.trans (hb.mono h.below.size) }
theorem Pair.len {w W : World} {b6 B bm nn g c N : Nat} {tr : Int} {d : DiskV} (h : Pair w b6 B bm nn g c tr d N W) : ∀ k, k < d.many → (d.S k).length = 64 := by
  obtain ⟨_, ⟨D, _, h2⟩, _⟩ := h.dsk
  exact fun k hk => (h2 k hk).2
theorem cells5 {W : World} {b : Nat} {v0 v1 v2 v3 v4 : Value} {t : TypeId} (h : W.heap[b]? = some (.cells #[v0, v1, v2, v3, v4] t (0, 0))) :
    (W.cell? ⟨b, 0, none⟩ = some v0 ∧ W.cell? ⟨b, 1, none⟩ = some v1 ∧ W.cell? ⟨b, 2, none⟩ = some v2 ∧ W.cell? ⟨b, 3, none⟩ = some v3 ∧ W.cell? ⟨b, 4, none⟩ = some v4) ∧
    (W.frozen? ⟨b, 0, none⟩ = false ∧ W.frozen? ⟨b, 1, none⟩ = false ∧ W.frozen? ⟨b, 2, none⟩ = false ∧ W.frozen? ⟨b, 3, none⟩ = false ∧ W.frozen? ⟨b, 4, none⟩ = false) :=
  ⟨⟨cell_of_row W b 0 _ _ _ h, cell_of_row W b 1 _ _ _ h, cell_of_row W b 2 _ _ _ h, cell_of_row W b 3 _ _ _ h, cell_of_row W b 4 _ _ _ h⟩, ⟨frozen_of_row W b 0 _ _ h, frozen_of_row W b 1 _ _ h, frozen_of_row W b 2 _ _ h, frozen_of_row W b 3 _ _ h, frozen_of_row W b 4 _ _ h⟩⟩
theorem cells4 {W : World} {b : Nat} {v0 v1 v2 v3 : Value} {t : TypeId} (h : W.heap[b]? = some (.cells #[v0, v1, v2, v3] t (0, 0))) :
    W.cell? ⟨b, 0, none⟩ = some v0 ∧ W.cell? ⟨b, 1, none⟩ = some v1 ∧ W.cell? ⟨b, 2, none⟩ = some v2 ∧ W.cell? ⟨b, 3, none⟩ = some v3 :=
  ⟨cell_of_row W b 0 _ _ _ h, cell_of_row W b 1 _ _ _ h, cell_of_row W b 2 _ _ _ h, cell_of_row W b 3 _ _ _ h⟩
/-- the document's row is none of the others' blocks -/
theorem ref_apart {W : World} {b6 B bm nn g c : Nat} {tr : Int} {d d' : DiskV} (hr : RefIs W g c tr d) (h1 : 1 ≤ d.many) (hd : Dsk W B bm nn d') {v0 v1 v2 v3 v4 : Value} {t : TypeId} (h6 : W.heap[b6]? = some (.cells #[v0, v1, v2, v3, v4] t (0, 0))) (hv : ∀ s, v0 ≠ .string s) :
    g ≠ B ∧ g ≠ bm ∧ g ≠ b6 := by
  have hc := hr.1.2 0 (by rw [pagesL_len]; omega)
  obtain ⟨c0, _⟩ := hd.cells
  obtain ⟨_, ⟨es, clock, hm, _⟩, _⟩ := hd.2.1
  refine ⟨?_, ?_, ?_⟩
  · rintro rfl
    rw [c0] at hc
    cases hc
  · rintro rfl
    simp [World.cell?, hm] at hc
  · rintro rfl
    rw [(cells5 h6).1.1] at hc
    exact hv _ (Option.some.inj hc)
/-- both go on, and the document's is laid in its box -/
theorem Pair.renew {w W0 W1 W2 : World} {b6 B bm nn g c N n1 g1 c1 N1 : Nat} {tr tr1 : Int} {d d1 : DiskV} (h : Pair w b6 B bm nn g c tr d N W0) (hd : Dsk W1 B bm n1 d1) (hc : ChgD W0 W1 B bm) (hr : RefIs W2 g1 c1 tr1 d1) (hb : Below W1.heap.size W1 W2)
    (ho : OkD d1) (hm : d1.many = d.many) (hn : n1 ≤ N1) (hw : d1.writes ≤ N1) :
    Pair w b6 B bm n1 g1 c1 tr1 d1 N1 (((((W2.setCell ⟨b6, 0, none⟩ (.slice (some ⟨g1, 0, none⟩) d1.many c1)).setCell ⟨b6, 1, none⟩ (.int .i64 (aftR d1))).setCell ⟨b6, 2, none⟩ (.int .i64 tr1)).setCell ⟨b6, 3, none⟩ (.bool d1.dead)).setCell ⟨b6, 4, none⟩ (.int .i64 d1.writes)) := by
  have hl0 := heapLt h.box
  have hx1 : W1.heap[b6]? = _ := (hc.block _ hl0 h.n3 h.n4).trans h.box
  have hx2 : W2.heap[b6]? = _ := (hb.block _ (heapLt hx1)).trans hx1
  have hd2 := hd.below hb
  have hm1 := h.many1
  obtain ⟨a1, a2, a3⟩ := ref_apart hr (by omega) hd2 hx2 (by intro s e; cases e)
  have hW1 : Below w.heap.size w W1 := h.below.trans (hc.below h.below.size h.hB h.hbm)
  have hW2 : Below w.heap.size w W2 := hW1.trans (hb.mono hW1.size)
  refine ⟨?_, hr.set5 a3 _ _ _ _ _, set_struct5 hx2 _ _ _ _ _, ho, by rw [hm]; exact h.many, by rw [hm]; exact h.many1, hn, hw, h.hB, h.hbm, h.h6, a1, a2, h.n3, h.n4, a3, set_below5 hW2 h.h6 _ _ _ _ _⟩
  have k1 : ∀ j, j ≠ b6 → (((((W2.setCell ⟨b6, 0, none⟩ (.slice (some ⟨g1, 0, none⟩) d1.many c1)).setCell ⟨b6, 1, none⟩ (.int .i64 (aftR d1))).setCell ⟨b6, 2, none⟩ (.int .i64 tr1)).setCell ⟨b6, 3, none⟩ (.bool d1.dead)).setCell ⟨b6, 4, none⟩ (.int .i64 d1.writes)).heap[j]? = W2.heap[j]? := fun j hj => by
    rw [heap_setCell_other _ _ _ _ hj, heap_setCell_other _ _ _ _ hj, heap_setCell_other _ _ _ _ hj, heap_setCell_other _ _ _ _ hj, heap_setCell_other _ _ _ _ hj]
  exact hd2.kp (Bs := B) ⟨fun _ => k1 _ (Ne.symm h.n3), fun _ => k1 _ (Ne.symm h.n3), fun _ => k1 _ (Ne.symm h.n4), by simp⟩
/-- a clone goes on; the old one stands beside -/
structure Twin (w : World) (b6 B bm B' bm' nn g c : Nat) (tr : Int) (d : DiskV) (N n1 : Nat) (d1 : DiskV) (W : World) : Prop where
  pair : Pair w b6 B' bm' nn g c tr d N W
  old : Dsk W B bm n1 d1
  ok : OkD d1
  nn : n1 ≤ N + 1
  wr : d1.writes ≤ N + 1
  n1 : B' ≠ B ∧ B' ≠ bm ∧ bm' ≠ B ∧ bm' ≠ bm
  n2 : g ≠ B ∧ g ≠ bm ∧ b6 ≠ B ∧ b6 ≠ bm
  lo : w.heap.size ≤ B ∧ w.heap.size ≤ bm
theorem Twin.later {w W W' : World} {b6 B bm B' bm' nn g c N n1 : Nat} {tr : Int} {d d1 : DiskV} (h : Twin w b6 B bm B' bm' nn g c tr d N n1 d1 W) (hb : Below W.heap.size W W') : Twin w b6 B bm B' bm' nn g c tr d N n1 d1 W' :=
  { h with pair := h.pair.later hb (Nat.le_refl _), old := h.old.below hb }
theorem Twin.chg {w W W' : World} {b6 B bm B' bm' nn g c N n1 n2 : Nat} {tr : Int} {d d1 d2 : DiskV} (h : Twin w b6 B bm B' bm' nn g c tr d N n1 d1 W) (hd : Dsk W' B bm n2 d2) (hc : ChgD W W' B bm) (ho : OkD d2) (hn : n2 ≤ N + 1) (hw : d2.writes ≤ N + 1) : Twin w b6 B bm B' bm' nn g c tr d N n2 d2 W' := by
  obtain ⟨a1, a2, a3, a4⟩ := h.n1
  obtain ⟨g1, g2, g3, g4⟩ := h.n2
  have p := h.pair
  have k : KpA B' B' bm' W W' := ⟨fun x => hc.block _ x a1 a2, fun x => hc.block _ x a1 a2, fun x => hc.block _ x a3 a4, hc.size⟩
  exact { h with pair := { p with dsk := p.dsk.kp k, ref := p.ref.chg hc g1 g2, box := (hc.block _ (heapLt p.box) g3 g4).trans p.box, below := p.below.trans (hc.below p.below.size h.lo.1 h.lo.2) }, old := hd, ok := ho, nn := hn, wr := hw }
/-- what the document's disk answers, spelt out -/
abbrev spelt (g c : Nat) (tr : Int) (d : DiskV) : Value := .agg #[.slice (some ⟨g, 0, none⟩) d.many c, .int .i64 (aftR d), .int .i64 tr, .bool d.dead, .int .i64 d.writes]
def offD (d : DiskV) : DiskV := { d with dead := false, set := false, after := 0, torn := 0 }
def fuseD (d : DiskV) (after torn : Int) : DiskV := { d with set := true, after := after, torn := torn }
theorem play_like (W : World) (B bm nn g c : Nat) (tr : Int) (d : DiskV) (h : Dsk W B bm nn d) (hr : RefIs W g c tr d) : Calls Try.prog 24 #[.pointer (some ⟨B, 0, none⟩), spelt g c tr d] W fun e w' => e = .returned (.bool true) ∧ Below W.heap.size W w' := code_like W B bm nn g c tr d h hr
theorem play_fuse (W : World) (g c : Nat) (tr : Int) (d : DiskV) (after torn : Int) (h : RefIs W g c tr d) (hok : 0 ≤ after ∧ 0 ≤ torn ∧ torn ≤ 64) :
    Calls Try.prog 21 #[spelt g c tr d, .int .i64 after, .int .i64 torn] W fun e w' => e = .returned (.tuple #[spelt g c torn (fuseD d after torn), .int .i64 0]) ∧ RefIs w' g c torn (fuseD d after torn) ∧ Below W.heap.size W w' := ref_fuse W g c tr d after torn h hok
theorem play_fuse_bad (W : World) (g c : Nat) (tr : Int) (d : DiskV) (after torn : Int) (h : RefIs W g c tr d) (hok : after < 0 ∨ torn < 0 ∨ 64 < torn) :
    Calls Try.prog 21 #[spelt g c tr d, .int .i64 after, .int .i64 torn] W fun e w' => e = .returned (.tuple #[spelt g c tr d, .int .i64 2]) ∧ RefIs w' g c tr d ∧ Below W.heap.size W w' :=
  (ref_fuse_bad W g c tr d after torn (by omega)).mono fun _ _ ⟨h1, h2⟩ => ⟨h1, h.below h2, h2⟩
theorem play_write (W : World) (g c : Nat) (tr : Int) (d : DiskV) (i : Int) (T : Text) (h : RefIs W g c tr d) (ho : OkD d) (hw : d.writes < 9223372036854775807) (hm : d.many ≤ 1000) (hS : ∀ k, k < d.many → (d.S k).length = 64) :
    Calls Try.prog 44 #[spelt g c tr d, .int .i64 i, .string ⟨T.toArray⟩] W fun e w' => ∃ g1 c1 tr1, e = .returned (.tuple #[spelt g1 c1 tr1 (writeD d i T), .int .i64 (writeE d i T)]) ∧ RefIs w' g1 c1 tr1 (writeD d i T) ∧ Below W.heap.size W w' := ref_write_all W g c tr d i T h ho hw hm hS
theorem offD_ok {d : DiskV} (h : OkD d) : OkD (offD d) := ⟨by simp [offD], by simp [offD], by simp [offD], by simp [offD], h.2.2.2.2⟩
theorem fuseD_ok {d : DiskV} {a t : Int} (h : OkD d) (h1 : 0 ≤ a ∧ 0 ≤ t ∧ t ≤ 64) (h2 : a ≤ 9223372036854775807) : OkD (fuseD d a t) := ⟨h1.2.1, h1.2.2, h1.1, h2, h.2.2.2.2⟩
theorem twin_write {w W : World} {b6 B bm B' bm' nn g c N n1 : Nat} {tr : Int} {d d1 : DiskV} (h : Twin w b6 B bm B' bm' nn g c tr d N n1 d1 W) (hn1 : n1 ≤ N) (hw1 : d1.writes ≤ N) (hN : N ≤ 200) (g4 c4 : Nat) (hc4 : 64 ≤ c4) (ht : Txt W (some ⟨g4, 0, none⟩) (fillT 7)) :
    Calls Try.prog 27 #[.pointer (some ⟨B, 0, none⟩), .int .i64 0, .slice (some ⟨g4, 0, none⟩) 64 c4] W fun e W' => ∃ v d2, e = .returned (.int .i64 v) ∧ Twin w b6 B bm B' bm' nn g c tr d N (n1 + 1) d2 W' := by
  have := code_write W B bm n1 d1 0 h.old (by unfold maxLen; omega) h.ok (some ⟨g4, 0, none⟩) c4 (fillT 7) (by rw [fillT_len]; exact hc4) ht (by omega)
  rw [fillT_len] at this
  exact this.mono fun _ _ ⟨h1, h2, h3⟩ => ⟨_, _, h1, h.chg h2 h3 (writeD_ok _ _ _ h.ok) (by omega) (by have := writeD_writes d1 0 (fillT 7); omega)⟩
theorem twin_power {w W : World} {b6 B bm B' bm' nn g c N n1 : Nat} {tr : Int} {d d1 : DiskV} (h : Twin w b6 B bm B' bm' nn g c tr d N n1 d1 W) :
    Calls Try.prog 28 #[.pointer (some ⟨B, 0, none⟩)] W fun e W' => e = .returned (.int .i64 0) ∧ Twin w b6 B bm B' bm' nn g c tr d N n1 (offD d1) W' :=
  (code_power W B bm n1 d1 h.old).mono fun _ _ ⟨h1, h2, h3⟩ => ⟨h1, h.chg h2 h3 (offD_ok h.ok) h.nn h.wr⟩
theorem Pair.boxOn {w W W' : World} {b6 B bm nn g c N : Nat} {tr : Int} {d : DiskV} (h : Pair w b6 B bm nn g c tr d N W) (hc : ChgD W W' B bm) :
    W'.heap[b6]? = some (.cells #[.slice (some ⟨g, 0, none⟩) d.many c, .int .i64 (aftR d), .int .i64 tr, .bool d.dead, .int .i64 d.writes] 28 (0, 0)) := (hc.block _ (heapLt h.box) h.n3 h.n4).trans h.box
theorem step_on {wr W' : World} {B bm : Nat} {o : Obj} (hc : ChgD (wr.alloc o) W' B bm) (h1 : B < wr.heap.size) (h2 : bm < wr.heap.size) : W'.heap[wr.heap.size]? = some o :=
  (hc.block _ (by simp) (by omega) (by omega)).trans (heap_alloc_new wr o)
theorem Pair.boxLast {W W' : World} {b6 : Nat} {o : Obj} (h : W.heap[b6]? = some o) (hb : Below W.heap.size W W') : W'.heap[b6]? = some o := (hb.block _ (heapLt h)).trans h
theorem Pair.on {w W W' : World} {b6 B bm nn g c N : Nat} {tr : Int} {d : DiskV} (h : Pair w b6 B bm nn g c tr d N W) (hc : ChgD W W' B bm) : Below w.heap.size w W' := h.below.trans (hc.below h.below.size h.hB h.hbm)
theorem ChgD.of_eq {W W' : World} {B bm : Nat} (h : W = W') : ChgD W W' B bm := h ▸ ChgD.refl _ _ _
theorem play_dfuse_bad (W : World) (B bm n : Nat) (d : DiskV) (after torn : Int) (h : Dsk W B bm n d) (hok : after < 0 ∨ torn < 0 ∨ 64 < torn) :
    Calls Try.prog 20 #[.pointer (some ⟨B, 0, none⟩), .int .i64 after, .int .i64 torn] W fun e w' => e = .returned (.int .i64 2) ∧ Dsk w' B bm n d ∧ ChgD W w' B bm :=
  (code_fuse_bad W B bm n d after torn h hok).mono fun _ _ ⟨h1, h2⟩ => ⟨h1, h2 ▸ h, ChgD.of_eq h2⟩
theorem play_dread (W : World) (B bm n : Nat) (d : DiskV) (i : Int) (h : Dsk W B bm n d) :
    Calls Try.prog 47 #[.pointer (some ⟨B, 0, none⟩), .int .i64 i] W fun e w' => ∃ A c T, e = .returned (.tuple #[.slice A (List.length T) c, .int .i64 (reachV d i)]) ∧ Dsk w' B bm n d ∧ ChgD W w' B bm ∧ Txt w' A T ∧ readS d i = ⟨T.toArray⟩ ∧ (A = none → T = []) := by
  refine (code_read W B bm n d i h).mono fun e w' hp => ?_
  rcases hp with ⟨h0, h1, h2⟩ | ⟨h0, h1, h2, h3⟩
  · exact ⟨none, 0, [], h1, h2 ▸ h, ChgD.of_eq h2, (fun h => absurd rfl h), readS_no h0, fun _ => rfl⟩
  · have hl : (d.S i.toNat).length = 64 := by
      obtain ⟨_, ⟨D, _, h2⟩, _⟩ := h
      obtain ⟨a, b, _⟩ := reach_ok h0
      exact (h2 i.toNat (by omega)).2
    refine ⟨some ⟨W.heap.size, 0, none⟩, 64, d.S i.toNat, ?_, h.below h3, ChgD.of_below h3, h2, readS_yes h0, fun e => by cases e⟩
    rw [h1, hl, h0]
theorem play_read (W : World) (g c : Nat) (tr : Int) (d : DiskV) (i : Int) (T : Text) (h : RefIs W g c tr d) (hT : readS d i = ⟨T.toArray⟩) :
    Calls Try.prog 67 #[spelt g c tr d, .int .i64 i] W fun e w' => e = .returned (.tuple #[.string ⟨T.toArray⟩, .int .i64 (reachV d i)]) ∧ Below W.heap.size W w' := by
  rw [← hT]
  exact ref_read W g c tr d i h
theorem Pair.still {w W W' : World} {b6 B bm nn g c N : Nat} {tr : Int} {d : DiskV} (h : Pair w b6 B bm nn g c tr d N W) (hd : Dsk W' B bm nn d) (hc : ChgD W W' B bm) : Pair w b6 B bm nn g c tr d N W' :=
  { h with dsk := hd, ref := h.ref.chg hc h.n1 h.n2, box := (hc.block _ (heapLt h.box) h.n3 h.n4).trans h.box, below := h.on hc }
end Go.Proofs.Ytfjejiapafdgeaa

namespace Go.Proofs.Ytfjejiapafdgeaa
open Go.RowKit
set_option maxRecDepth 100000
set_option linter.unusedSimpArgs false
set_option linter.unusedVariables false

/-- how many rounds are left -/
def roundsLeft (n : Nat) (i : Value) : Nat := n - (intOf i).toNat
theorem roundsLeft_next (n k : Nat) (h : k < n) : roundsLeft n (.int .i64 ((k : Int) + 1)) < roundsLeft n (.int .i64 (k : Int)) := by
  show n - ((k : Int) + 1).toNat < n - ((k : Int)).toNat
  omega
set_option maxHeartbeats 4000000 in
theorem code_lpages (L : List PartV) (A : Option Addr) (cap : Nat) (w : World) (hP : PartsAt w A L) (hL : L.length ≤ 20) (hl : ∀ q (hq : q < L.length), L[q].l.length ≤ 1000) :
    Calls Try.prog 14 #[.slice A L.length cap] w fun e w' => ∃ v, e = .returned v ∧ OwnT w.heap.size v (lawP L) w' ∧ (lawP L = [] → v = .slice none 0 0) ∧ Below w.heap.size w w' := by
  have HP := Lib.hid hP
  have HL := Lib.hid (And.intro hL hl)
  clear hP hL hl
  go_enter Try.func14, Try.ntmps14
  go_wp2
  go_loopw [3, 10] (fun v i wr => ∃ k : Nat, k ≤ L.length ∧ i = .int .i64 (k : Nat) ∧ Hid (OwnT w.heap.size v (lawP (L.take k)) wr) ∧ Hid (lawP (L.take k) = [] → v = .slice none 0 0) ∧ Hid (Below w.heap.size w wr)) (fun _ i _ => roundsLeft L.length i)
  case atStart => exact ⟨0, Nat.zero_le _, rfl, Lib.hid (OwnT.nil _ _), Lib.hid (fun _ => rfl), Lib.hid (Below.refl _ _)⟩
  case round =>
    obtain ⟨k, hk, rfl, HO, HZ, HB⟩ := hrel
    by_cases hlt : k < L.length
    · have hlt' : (k : Int) < (L.length : Int) := by omega
      obtain ⟨b, off, rfl, hbl, s0, s1, s2, s3, hs⟩ := HP.out k hlt
      have HPn : Hid (lawP (L.take (k + 1)) = lawP (L.take k) ++ L[k].pages) := Lib.hid (lawP_next L k hlt)
      have HPl : Hid ((lawP (L.take k)).length ≤ 360 ∧ L[k].pages.length ≤ 18 ∧ L[k].l.length ≤ 1000) := Lib.hid ⟨by have := lawP_len L HL.out.2 k (by omega); have := HL.out.1; omega, pages_len _ (HL.out.2 k hlt), HL.out.2 k hlt⟩
      obtain ⟨o, ho⟩ : ∃ o, o = L[k] := ⟨_, rfl⟩
      rw [← ho] at s0 s1 s2 s3 hs HPn HPl
      clear ho
      have hbw := HB.out
      replace s0 := (hbw.cell hbl).trans s0
      replace s1 := (hbw.cell hbl).trans s1
      replace s2 := (hbw.cell hbl).trans s2
      replace s3 := (hbw.cell hbl).trans s3
      have hbl' : b < wr.heap.size := Nat.lt_of_lt_of_le hbl hbw.size
      have HSt := Lib.hid hs
      have HT := Lib.hid (hs.2.2.1.below hbw)
      have HWs := Lib.hid hbw.size
      obtain ⟨Q, hQ⟩ : ∃ Q, Q = lawP (L.take k) := ⟨_, rfl⟩
      rw [← hQ] at HO HZ HPn HPl
      clear hQ hs hbw hbl
      have hwk : wrap64 ((k : Int) + 1) = (k : Int) + 1 := by have := HL.out.1; unfold wrap64; omega
      have HSo := Lib.hid (And.intro HSt.out.1 HSt.out.2.1)
      have HAn := Lib.hid HSt.out.2.2.2
      clear HSt
      cases hr : o.r with
      | true =>
        have HE : Hid (o.pages = [rawT o.l]) := Lib.hid (by unfold PartV.pages; rw [if_pos hr])
        rw [hr] at s3
        have HWb : Hid (Below wr.heap.size wr ((wr.alloc (.cells #[.int .i64 o.s, .int .i64 o.m, .slice o.A o.l.length o.c, .bool true] 90)).alloc (.cells #[] 5))) := Lib.hid (below_then (below_alloc _ _) (below_alloc _ _))
        have HOE : Hid (((wr.alloc (.cells #[.int .i64 o.s, .int .i64 o.m, .slice o.A o.l.length o.c, .bool true] 90)).alloc (.cells #[] 5)).ownsRow wr.heap.size 5 1 (.slice (some ⟨wr.heap.size + 1, 0, none⟩) 0 0) ([] : Text).length (([] : Text).map cellOf)) := Lib.hid (by
          have h := World.ownsRow_lit (base := wr.heap.size) (e := 5) (size := 1) (wr.alloc (.cells #[.int .i64 o.s, .int .i64 o.m, .slice o.A o.l.length o.c, .bool true] 90)) #[] 0 (by simp) (by unfold maxLen; omega) rfl
          rw [World.size_alloc] at h
          exact h)
        go_wp2_with (first
          | (at_builtin; refine wpList_append_own_text (o := ⟨some 20, _, _, _, _, _⟩) rfl (.tmp 17) (.tmp 19) rfl rfl wr.heap.size wr _ [] o.l o.l rfl ?o1 o.A o.c rfl ?o2 HAn.out ?o4 HWb.out HWb.out.size rfl ?_; (case o1 => exact HOE.out); (case o2 => exact HT.out.below HWb.out); (case o4 => (have := HPl.out.2.2; simp; omega)); intro v1 w1 ho1 hb1 hn1; have HO1 := Lib.hid ho1; have HB1 := Lib.hid hb1; clear ho1 hb1 hn1; refine Stop.out ?_))
        unfold Stop
        go_wp2_with (at_builtin; refine wpList_append_zeros (o := ⟨some 21, _, _, _, _, _⟩) rfl (.tmp 20) (.const (.int .i64 64)) rfl rfl wr.heap.size wr _ o.l rfl HO1.out 64 64 rfl rfl (by have := HPl.out.2.2; omega) HB1.out HB1.out.size ?_; intro v2 w2 ho2 hb2; have HO2 := Lib.hid ho2; have HB2 := Lib.hid hb2; clear ho2 hb2; refine Stop.out ?_)
        unfold Stop
        obtain ⟨g, c2, rfl, hc2, hcm2, ht2, hg2, hgl2⟩ := own_more HO2.out (by simp)
        have h64 : (64 : Int) ≤ (c2 : Int) := by rw [List.length_append, List.length_replicate] at hc2; omega
        have HC2 : Hid (64 ≤ c2 ∧ c2 ≤ maxLen ∧ wr.heap.size ≤ g ∧ g < w2.heap.size) := Lib.hid ⟨by omega, hcm2, hg2, hgl2⟩
        have HR2 : Hid (w2.rangeAt g 0 ((rawT o.l).map cellOf)) := Lib.hid (txt_range (ht2.take 64))
        generalize (o.l ++ List.replicate 64 (0 : UInt8)).length = n2 at *
        clear hc2 hcm2 ht2 hg2 hgl2 HO2 HO1 HB1 HT HAn HSo
        have HBX := Lib.hid (below_then HB2.out (below_alloc w2 (.cells #[.slice (some ⟨g, 0, none⟩) 64 c2] 51)))
        have HO5 := Lib.hid (HO.out.on HBX.out)
        have HNE : Hid (u3.ownBlock ≠ some g) := Lib.hid (fun e => by have h1 := (HO.out.base _ e).2; have h2 := HC2.out.2.2.1; omega)
        have HGL : Hid (g < (w2.alloc (.cells #[.slice (some ⟨g, 0, none⟩) 64 c2] 51)).heap.size) := Lib.hid (by have := HC2.out.2.2.2; rw [World.size_alloc]; omega)
        have HSB : Hid (w.heap.size ≤ (w2.alloc (.cells #[.slice (some ⟨g, 0, none⟩) 64 c2] 51)).heap.size) := Lib.hid (Nat.le_trans HWs.out HBX.out.size)
        go_wp2_with (at_builtin; refine wpList_append_rows (o := ⟨some 24, _, _, _, _, _⟩) rfl (.tmp 16) (.tmp 23) rfl rfl w.heap.size u3 Q rfl HO5.out w2.heap.size rfl g c2 _ (rawT o.l) _ _ (heap_alloc_new w2 _) (rawT_len _) (by decide) HC2.out.1 HC2.out.2.1 (range_on (below_alloc w2 _) HR2.out) HGL.out HNE.out (by have := HPl.out.1; omega) HSB.out ?_; intro v4 w6 hov hgv hvv; have HO6 := Lib.hid hov; have HG6 := Lib.hid hgv; clear hov hgv hvv; refine Stop.out ?_)
        unfold Stop
        have HB6 : Hid (Below w.heap.size w w6) := Lib.hid ((HB.out.trans (HBX.out.mono HWs.out)).grown HG6.out HSB.out (fun j hj => (HO.out.base _ hj).1))
        have HO7 : Hid (OwnT w.heap.size v4 (lawP (L.take (k + 1))) w6) := Lib.hid (by rw [HPn.out, HE.out]; exact HO6.out)
        have HZ7 : Hid (lawP (L.take (k + 1)) = [] → v4 = .slice none 0 0) := Lib.hid (fun e => by rw [HPn.out, HE.out] at e; simp at e)
        go_wp2
        go_roundw
        case rel => exact ⟨k + 1, by omega, congrArg (Value.int .i64) (by omega), HO7, HZ7, HB6⟩
        case measure => rw [hwk]; exact roundsLeft_next _ _ hlt
      | false =>
        rw [hr] at s3
        have HE : Hid (o.pages = cutM o.m (partP o.s o.l)) := Lib.hid (by unfold PartV.pages; rw [if_neg (by rw [hr]; decide)])
        have HPg : Hid (∀ W, Below wr.heap.size wr W → Calls Try.prog 26 #[.int .i64 o.s, .slice o.A o.l.length o.c] W fun e w' => ∃ B9 c9 x, e = .returned (.tuple #[.slice B9 (partP o.s o.l).length c9, .int .i64 x]) ∧ SecsAt w' B9 c9 (partP o.s o.l) ∧ Below W.heap.size W w') := Lib.hid fun W hb => ref_pagesA o.s o.l o.A o.c W HPl.out.2.2 HSo.out.1 (HT.out.below hb)
        have HBa : Hid (Below wr.heap.size wr (wr.alloc (.cells #[.int .i64 o.s, .int .i64 o.m, .slice o.A o.l.length o.c, .bool false] 90))) := Lib.hid (below_alloc _ _)
        have HX : Hid ((wr.alloc (.cells #[.int .i64 o.s, .int .i64 o.m, .slice o.A o.l.length o.c, .bool false] 90)).heap[wr.heap.size]? = some (.cells #[.int .i64 o.s, .int .i64 o.m, .slice o.A o.l.length o.c, .bool false] 90)) := Lib.hid (heap_alloc_new wr _)
        obtain ⟨M, hM⟩ : ∃ M, M = cutM o.m (partP o.s o.l) := ⟨_, rfl⟩
        have HPp : Hid (M.length ≤ 18) := Lib.hid (by rw [hM, ← HE.out]; exact HPl.out.2.1)
        have HMM := Lib.hid hM
        clear hM HT HSo HAn hr
        have HPlen := Lib.hid (rfl : (partP o.s o.l).length = (partP o.s o.l).length)
        obtain ⟨P, hP⟩ : ∃ P, P = partP o.s o.l := ⟨_, rfl⟩
        rw [← hP] at HPg HMM HPlen HE
        obtain ⟨pl, hpl⟩ : ∃ pl, pl = P.length := ⟨_, rfl⟩
        rw [← hpl] at HPg
        have HPL := Lib.hid hpl
        clear hP hpl HPlen
        go_wp2_with (go_at_call 26; refine (HPg.out _ HBa.out).mono ?_; rintro e w5 ⟨B9, c9, x, rfl, hs9, hb9⟩; have HS9 := Lib.hid hs9; have HB9 := Lib.hid (below_then HBa.out hb9); obtain ⟨z0, z1, z2, z3⟩ := cells4 (heap_on hb9 HX.out); clear hs9 hb9; refine Stop.out ?_)
        unfold Stop
        have HO9 := Lib.hid (HO.out.on HB9.out)
        have HSZ : Hid (w.heap.size ≤ w5.heap.size) := Lib.hid (Nat.le_trans HWs.out HB9.out.size)
        have HBw : Hid (Below w.heap.size w w5) := Lib.hid (HB.out.trans (HB9.out.mono HWs.out))
        clear HPg HX HBa HB9 HB
        have fin : ∀ (n9 : Nat), n9 = M.length → SecsAt w5 B9 c9 M → Hid (n9 = M.length ∧ SecsAt w5 B9 c9 M) := fun n9 h1 h2 => Lib.hid ⟨h1, h2⟩
        by_cases hm0 : 0 ≤ o.m
        · obtain ⟨mm, hmm⟩ : ∃ mm : Nat, o.m = (mm : Int) := ⟨o.m.toNat, by omega⟩
          rw [hmm] at z1 HMM ⊢
          clear hm0
          by_cases hmp : (mm : Int) < (pl : Int)
          · have HF : Hid (mm = M.length ∧ SecsAt w5 B9 c9 M ∧ mm ≤ c9) := Lib.hid (by
              have e : M = P.take mm := by rw [HMM.out]; unfold cutM; rw [if_pos ⟨by omega, by rw [← HPL.out]; omega⟩, Int.toNat_natCast]
              have hp := HPL.out
              rcases HS9.out with ⟨_, h0, _⟩ | ⟨g, e1, h1, h2⟩
              · rw [h0] at hp
                simp at hp
                omega
              · rw [e]
                exact ⟨by rw [List.length_take]; omega, .inr ⟨g, e1, h1.take mm, by rw [List.length_take]; omega⟩, by omega⟩)
            have hmc : (mm : Int) ≤ (c9 : Int) := by have := HF.out.2.2; omega
            clear fin HS9
            go_wp2_with (at_builtin; refine wpList_append_texts (o := ⟨some 49, _, _, _, _, _⟩) rfl (.tmp 47) (.tmp 48) rfl rfl w.heap.size u3 Q rfl HO9.out HZ.out B9 mm c9 rfl M HF.out.1 HF.out.2.1 (by have h1 := HPl.out.1; have h2 := HPp.out; omega) HSZ.out ?_; intro v4 w6 hov hgv hzv; have HO6 := Lib.hid hov; have HG6 := Lib.hid hgv; have HZ6 := Lib.hid hzv; clear hov hgv hzv; refine Stop.out ?_)
            unfold Stop
            have HB6 : Hid (Below w.heap.size w w6) := Lib.hid (HBw.out.grown HG6.out HSZ.out (fun j hj => (HO.out.base _ hj).1))
            have HO7 : Hid (OwnT w.heap.size v4 (lawP (L.take (k + 1))) w6) := Lib.hid (by rw [HPn.out, HE.out, hmm, ← HMM.out]; exact HO6.out)
            have HZ7 : Hid (lawP (L.take (k + 1)) = [] → v4 = .slice none 0 0) := Lib.hid (by rw [HPn.out, HE.out, hmm, ← HMM.out]; exact HZ6.out)
            go_wp2
            go_roundw
            case rel => exact ⟨k + 1, by omega, congrArg (Value.int .i64) (by omega), HO7, HZ7, HB6⟩
            case measure => rw [hwk]; exact roundsLeft_next _ _ hlt
          · have hmp' : (pl : Int) ≤ (mm : Int) := by omega
            have HF : Hid (pl = M.length ∧ SecsAt w5 B9 c9 M) := Lib.hid (by
              have e : M = P := by rw [HMM.out]; unfold cutM; rw [if_neg (by have := HPL.out; omega)]
              rw [e]
              exact ⟨HPL.out, HS9.out⟩)
            clear fin HS9
            go_wp2_with (at_builtin; refine wpList_append_texts (o := ⟨some 49, _, _, _, _, _⟩) rfl (.tmp 47) (.tmp 48) rfl rfl w.heap.size u3 Q rfl HO9.out HZ.out B9 pl c9 rfl M HF.out.1 HF.out.2 (by have h1 := HPl.out.1; have h2 := HPp.out; omega) HSZ.out ?_; intro v4 w6 hov hgv hzv; have HO6 := Lib.hid hov; have HG6 := Lib.hid hgv; have HZ6 := Lib.hid hzv; clear hov hgv hzv; refine Stop.out ?_)
            unfold Stop
            have HB6 : Hid (Below w.heap.size w w6) := Lib.hid (HBw.out.grown HG6.out HSZ.out (fun j hj => (HO.out.base _ hj).1))
            have HO7 : Hid (OwnT w.heap.size v4 (lawP (L.take (k + 1))) w6) := Lib.hid (by rw [HPn.out, HE.out, hmm, ← HMM.out]; exact HO6.out)
            have HZ7 : Hid (lawP (L.take (k + 1)) = [] → v4 = .slice none 0 0) := Lib.hid (by rw [HPn.out, HE.out, hmm, ← HMM.out]; exact HZ6.out)
            go_wp2
            go_roundw
            case rel => exact ⟨k + 1, by omega, congrArg (Value.int .i64) (by omega), HO7, HZ7, HB6⟩
            case measure => rw [hwk]; exact roundsLeft_next _ _ hlt
        · have hm1 : o.m < 0 := by omega
          have HF : Hid (pl = M.length ∧ SecsAt w5 B9 c9 M) := Lib.hid (by
            have e : M = P := by rw [HMM.out]; unfold cutM; rw [if_neg (by omega)]
            rw [e]
            exact ⟨HPL.out, HS9.out⟩)
          clear fin HS9
          go_wp2_with (at_builtin; refine wpList_append_texts (o := ⟨some 49, _, _, _, _, _⟩) rfl (.tmp 47) (.tmp 48) rfl rfl w.heap.size u3 Q rfl HO9.out HZ.out B9 pl c9 rfl M HF.out.1 HF.out.2 (by have h1 := HPl.out.1; have h2 := HPp.out; omega) HSZ.out ?_; intro v4 w6 hov hgv hzv; have HO6 := Lib.hid hov; have HG6 := Lib.hid hgv; have HZ6 := Lib.hid hzv; clear hov hgv hzv; refine Stop.out ?_)
          unfold Stop
          have HB6 : Hid (Below w.heap.size w w6) := Lib.hid (HBw.out.grown HG6.out HSZ.out (fun j hj => (HO.out.base _ hj).1))
          have HO7 : Hid (OwnT w.heap.size v4 (lawP (L.take (k + 1))) w6) := Lib.hid (by rw [HPn.out, HE.out, ← HMM.out]; exact HO6.out)
          have HZ7 : Hid (lawP (L.take (k + 1)) = [] → v4 = .slice none 0 0) := Lib.hid (by rw [HPn.out, HE.out, ← HMM.out]; exact HZ6.out)
          go_wp2
          go_roundw
          case rel => exact ⟨k + 1, by omega, congrArg (Value.int .i64) (by omega), HO7, HZ7, HB6⟩
          case measure => rw [hwk]; exact roundsLeft_next _ _ hlt
    · have hge : (L.length : Int) ≤ (k : Int) := by omega
      obtain rfl : k = L.length := by omega
      go_wp2
      go_ret
      rw [List.take_length] at HO HZ
      exact ⟨_, rfl, HO.out, HZ.out, HB.out⟩
end Go.Proofs.Ytfjejiapafdgeaa

namespace Go.Proofs.Ytfjejiapafdgeaa
open Go.RowKit
set_option maxRecDepth 100000
set_option linter.unusedSimpArgs false
set_option linter.unusedVariables false

/-- a disk with so many pages laid -/
def laidD (m : Nat) (L : List Text) : Nat → DiskV
  | 0 => newD m
  | k + 1 => writeD (laidD m L k) k (L.getD k [])
theorem writeD_plain {d : DiskV} {k : Nat} {T : Text} (hk : k < d.many) (hd : d.dead = false) (hs : d.set = false) (hT : T.length = 64) :
    writeD d k T = { d.lay k T with writes := d.writes + 1, after := d.after } ∧ writeE d k T = 0 := by
  have hz : reachV d k = 0 := by unfold reachV; rw [hd, if_neg (by decide), if_neg (by omega)]
  constructor
  · unfold writeD
    rw [if_neg (by omega), if_neg (by omega), if_neg (by rw [hs]; simp), hs, Int.toNat_natCast]
    rfl
  · unfold writeE
    rw [if_neg (by omega), if_neg (by omega), if_neg (by rw [hs]; simp)]
theorem overP_full {l T : Text} (hl : l.length = 64) (hT : T.length = 64) : overP l T = T := by
  unfold overP
  rw [List.take_of_length_le (by omega), List.drop_of_length_le (by omega), List.append_nil]
theorem laid_facts (m : Nat) (L : List Text) (h64 : ∀ T ∈ L, T.length = 64) : ∀ k, k ≤ m → k ≤ L.length → (laidD m L k).many = m ∧ (laidD m L k).dead = false ∧ (laidD m L k).set = false ∧ (laidD m L k).after = 0 ∧ (laidD m L k).torn = 0 ∧ (laidD m L k).writes = k ∧ ∀ j, (laidD m L k).S j = if j < k then L.getD j [] else zeros := by
  intro k
  induction k with
  | zero => intro _ _; exact ⟨rfl, rfl, rfl, rfl, rfl, rfl, fun j => by rw [if_neg (by omega)]; rfl⟩
  | succ k ih =>
    intro h1 h2
    obtain ⟨a1, a2, a3, a4, a5, a6, a7⟩ := ih (by omega) (by omega)
    have hT : (L.getD k []).length = 64 := by
      rw [List.getD_eq_getElem?_getD, List.getElem?_eq_getElem (by omega)]
      exact h64 _ (List.getElem_mem _)
    obtain ⟨e, _⟩ := writeD_plain (d := laidD m L k) (k := k) (T := L.getD k []) (by rw [a1]; omega) a2 a3 hT
    have e' : laidD m L (k + 1) = _ := e
    rw [e']
    refine ⟨a1, a2, a3, a4, a5, ?_, fun j => ?_⟩
    · show (laidD m L k).writes + 1 = _
      rw [a6]
      rfl
    · show (if j = k then overP ((laidD m L k).S k) (L.getD k []) else (laidD m L k).S j) = _
      by_cases hj : j = k
      · subst hj
        rw [if_pos rfl, if_pos (by omega), overP_full ?_ hT]
        rw [a7, if_neg (by omega)]
        exact zeros_len
      · rw [if_neg hj, a7]
        by_cases hjk : j < k
        · rw [if_pos hjk, if_pos (by omega)]
        · rw [if_neg hjk, if_neg (by omega)]
theorem partP_64 (s : Int) (l : Text) : ∀ T ∈ partP s l, T.length = 64 := by
  intro T hT
  unfold partP at hT
  split at hT
  · unfold pagesT at hT
    rcases List.mem_cons.1 hT with rfl | hT
    · exact headP_len _ _ _
    · rcases List.mem_append.1 hT with hT | hT
      · unfold cutP cutsT at hT
        obtain ⟨x, hx, rfl⟩ := List.mem_map.1 hT
        obtain ⟨i, _, rfl⟩ := List.mem_map.1 hx
        exact cutT_len _ _
      · rw [List.mem_singleton.1 hT]
        exact endP_len _ _
  · cases hT
theorem lawP_64 (L : List PartV) : ∀ T ∈ lawP L, T.length = 64 := by
  intro T hT
  unfold lawP at hT
  obtain ⟨l, hl, hTl⟩ := List.mem_flatten.1 hT
  obtain ⟨o, _, rfl⟩ := List.mem_map.1 hl
  unfold PartV.pages at hTl
  split at hTl
  · rw [List.mem_singleton.1 hTl]
    exact rawT_len _
  · unfold cutM at hTl
    split at hTl
    · exact partP_64 _ _ T (List.mem_of_mem_take hTl)
    · exact partP_64 _ _ T hTl
/-- three answers, the middle one a disk in a cell of its own -/
theorem results_disk {T : TypeId} (hu : ∃ fs, Try.prog.underlying T = some (.struct fs)) (hi : (Try.prog.info? T).map (·.size) = some 5) {fn : Func} {p q r : Tmp} (h : fn.results = #[.tmp q, .cell p T, .tmp r]) (tmps : Array Value) (W : World) (g : Nat) (x0 x1 x2 x3 x4 b c : Value) (hp : tmps.getD p undef = .pointer (some ⟨g, 0, none⟩)) (hq : tmps.getD q undef = b) (hr : tmps.getD r undef = c) (t : TypeId) (fr : Nat × Nat)
    (hc : W.heap[g]? = some (.cells #[x0, x1, x2, x3, x4] t fr)) : (results fn tmps).run Try.prog W = .ok (.tuple #[b, .agg #[x0, x1, x2, x3, x4], c]) W := by
  obtain ⟨fs, hu⟩ := hu
  have hr2 := run_loadVar_mid (P := Try.prog) W g 0 T [x0, x1, x2, x3, x4] _ (by
    have := World.rangeAt_of_block hc 0 5
    simpa using this) hu rfl hi
  have hp' : tmps[p]?.getD undef = .pointer (some ⟨g, 0, none⟩) := by simpa [Array.getD_eq_getD_getElem?] using hp
  have hq' : tmps[q]?.getD undef = b := by simpa [Array.getD_eq_getD_getElem?] using hq
  have hr' : tmps[r]?.getD undef = c := by simpa [Array.getD_eq_getD_getElem?] using hr
  have ha : (asAddr (tmps[p]?.getD undef)).run Try.prog W = .ok ⟨g, 0, none⟩ W := by rw [hp']; rfl
  simp [results, h, Sem.run_bind, ha, hr2, hq', hr']
end Go.Proofs.Ytfjejiapafdgeaa
