/- What a wipe keeps; where the document's disk can't lie. -/
import Derived.Test.YtbbgmjfmpcbpbaaJ49
namespace Go.Proofs.Ytbbgmjfmpcbpbaa
open Go.RowKit
set_option maxRecDepth 100000
set_option linter.unusedSimpArgs false
set_option linter.unusedVariables false

theorem wipeL_keeps : ∀ (L : List Nat) (d : DiskV) (n : Nat), OkD d → (∀ k, k < d.many → (d.S k).length = 64) →
    OkD (wipeL d n L).1 ∧ (wipeL d n L).1.writes ≤ d.writes + L.length ∧ (∀ k, k < (wipeL d n L).1.many → ((wipeL d n L).1.S k).length = 64)
  | [], d, n, h, h64 => ⟨h, by show d.writes ≤ d.writes + ((0 : Nat) : Int); omega, h64⟩
  | i :: L, d, n, h, h64 => by
    have hw := writeD_writes d (i : Nat) zeros
    by_cases he : writeE d (i : Nat) zeros = 0
    · have e : wipeL d n (i :: L) = wipeL (writeD d (i : Nat) zeros) (n + 1) L := if_pos he
      rw [e]
      obtain ⟨q2, q3, q4⟩ := wipeL_keeps L (writeD d (i : Nat) zeros) (n + 1) (writeD_ok _ _ _ h) (writeD_64 h64)
      refine ⟨q2, ?_, q4⟩
      rw [List.length_cons]
      omega
    · have e : wipeL d n (i :: L) = (writeD d (i : Nat) zeros, 0, writeE d (i : Nat) zeros) := if_neg he
      rw [e]
      refine ⟨writeD_ok _ _ _ h, ?_, writeD_64 h64⟩
      rw [List.length_cons]
      show (writeD d (i : Nat) zeros).writes ≤ _
      omega
theorem WX_keeps (d : DiskV) (t : Int) (hok : OkD d) (h64 : ∀ k, k < d.many → (d.S k).length = 64) :
    OkD (WX d t).1 ∧ (WX d t).1.writes ≤ d.writes + d.many ∧ (∀ k, k < (WX d t).1.many → ((WX d t).1.S k).length = 64) := by
  unfold WX
  by_cases h : sreachV d t = 0
  · rw [if_pos h]
    obtain ⟨q1, q2, q3⟩ := wipeL_keeps (dirtyL d.S t.toNat d.many) d 0 hok h64
    have := dirtyL_len d.S t.toNat d.many
    exact ⟨q1, by omega, q3⟩
  · rw [if_neg h]
    exact ⟨hok, by show d.writes ≤ _; omega, h64⟩
/-- the document's sectors lie in no block of the program's disk -/
theorem RefIs.apart {W : World} {g c B bm n : Nat} {tr : Int} {d : DiskV} (hr : RefIs W g c tr d) (hd : Dsk W B bm n d) : g ≠ B ∧ g ≠ bm := by
  have hm : 0 < d.many := hd.2.2.2.2
  refine ⟨ref_boxG hr hm hd.1 (v0 := .int .i64 d.many) rfl (fun s e => by cases e), ?_⟩
  obtain ⟨D, ⟨es, clock, hmap, _⟩, _⟩ := hd.2.1
  have hc := hr.1.2 0 (by rw [pagesL_len]; exact hm)
  rintro rfl
  simp [World.cell?, hmap] at hc
/-- sectors laid in rows lie in no box of the document's disk -/
theorem SecsAt.box {w : World} {A : Option Addr} {c G0 g cc : Nat} {X : List Text} {tr tr' af wv : Int} {dd : Bool} {d : DiskV} {T : TypeId} (h : SecsAt w A c X) (hx : w.heap[G0]? = some (.cells (refC g cc d.many af tr' dd wv).toArray T (0, 0))) (hr : RefIs w g cc tr d) (hm : 1 ≤ d.many) (u : Array Value) : SecsAt (w.setRow G0 u) A c X := by
  rcases h with h | ⟨g4, e, h, h'⟩
  · exact .inl h
  · by_cases h0 : X.length = 0
    · exact .inr ⟨g4, e, fun j hj => absurd hj (by omega), h'⟩
    · have hne : g4 ≠ G0 := by
        rintro rfl
        obtain ⟨b, cb, q1, _, _, q4, _, q6⟩ := h 0 (by omega)
        have hx0 : w.cell? ⟨g4, 0, none⟩ = some (.slice (some ⟨g, 0, none⟩) d.many cc) := (cell_of_row _ _ 0 _ _ _ hx).trans rfl
        rw [hx0] at q1
        injection q1 with q1
        injection q1 with q1
        injection q1 with q1
        injection q1 with q1
        subst q1
        have hc := hr.1.2 0 (by rw [pagesL_len]; exact hm)
        have hy := q4 0 (cellOf X[0][0]) (by rw [List.getElem?_map, List.getElem?_eq_getElem q6]; rfl)
        rw [Nat.zero_add, hc] at hy
        cases hy
      exact SecsAt.row (.inr ⟨g4, e, h, h'⟩) (fun g e2 => by rw [e] at e2; injection e2 with e2; injection e2 with e2; rw [← e2]; exact hne) hx (v0 := .slice (some ⟨g, 0, none⟩) d.many cc) rfl (fun k x e => by cases e)
theorem RefIs.chgJ {w w' : World} {g c P B bm : Nat} {tr : Int} {d : DiskV} (h : RefIs w g c tr d) (hc : ChgJ w w' P B bm) (h0 : g ≠ P) (h1 : g ≠ B) (h2 : g ≠ bm) : RefIs w' g c tr d :=
  ⟨⟨Nat.lt_of_lt_of_le h.1.1 hc.size, fun i hi => (World.cell?_of_block (hc.block g h.1.1 h0 h1 h2)).trans (h.1.2 i hi)⟩, h.2⟩
/-- what the rounds keep: the journal and the document's one side by side -/
structure PlayJ (w : World) (G B bm P m k : Nat) (j : JnV) (d : DiskV) (n g c : Nat) (tr : Int) (W : World) : Prop where
  at_ : JnAt W P j
  dsk : Dsk W B bm n d
  box : W.heap[G]? = some (.cells (jQ g c d.many (aftR d) tr d.dead d.writes j.many j.tail j.cut).toArray 70 (0, 0))
  ref : RefIs W g c tr d
  jb : j.B = B
  ok : OkD d
  h64 : ∀ i, i < d.many → (d.S i).length = 64
  mm : d.many = m
  wr : d.writes ≤ 2000 + 1000 * (k : Int)
  nn : n ≤ 80 + 1000 * k
  tail : j.tail ≤ d.many
  few : j.many ≤ 40 + k
  low : Below w.heap.size w W
end Go.Proofs.Ytbbgmjfmpcbpbaa
