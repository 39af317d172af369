/- The document's Append: what it refuses at once. Sectors put behind a journal's tail. -/
import Derived.Test.YtbbgmjfmpcbpbaaJ43
import Derived.Test.YtbbgmjfmpcbpbaaJ36
import Derived.Test.YtbbgmjfmpcbpbaaJ42
namespace Go.Proofs.Ytbbgmjfmpcbpbaa
open Go.RowKit
set_option maxRecDepth 100000
set_option linter.unusedSimpArgs false
set_option linter.unusedVariables false

/-- the cells of a journal of the document's, dead or not -/
def jQ (g c m : Nat) (af tr : Int) (dead : Bool) (wr : Int) (n t : Nat) (q : Bool) : List Value := [.slice (some ⟨g, 0, none⟩) m c, .int .i64 af, .int .i64 tr, .bool dead, .int .i64 wr, .int .i64 n, .int .i64 t, .bool q]
theorem one8Q (g c m : Nat) (af tr : Int) (dead : Bool) (wr : Int) (n t : Nat) (q : Bool) : ∀ v ∈ jQ g c m af tr dead wr n t q, v.oneCell' = true := by
  intro v hv
  simp only [jQ, List.mem_cons, List.not_mem_nil, or_false] at hv
  rcases hv with rfl | rfl | rfl | rfl | rfl | rfl | rfl | rfl <;> rfl
set_option maxHeartbeats 2000000 in
theorem ref_japp_dead (w : World) (g c m : Nat) (af tr : Int) (dd : Bool) (wr : Int) (n t : Nat) (A : Option Addr) (ln cp : Nat) :
    Calls Try.prog 37 #[.agg (jQ g c m af tr dd wr n t true).toArray, .slice A ln cp] w fun e w' => e = .returned (.tuple #[.agg (jQ g c m af tr dd wr n t true).toArray, .int .i64 0, .int .i64 32]) ∧ Below w.heap.size w w' := by
  have e7 : (jQ g c m af tr dd wr n t true)[7]? = some (.bool true) := rfl
  have q1 := heap_alloc_new w (.cells (jQ g c m af tr dd wr n t true).toArray 70)
  have q2 := heap_alloc_new (w.alloc (.cells (jQ g c m af tr dd wr n t true).toArray 70)) (.cells #[Value.slice none 0 0, Value.int IntKind.i64 0, Value.int IntKind.i64 0, Value.bool false, Value.int IntKind.i64 0, Value.int IntKind.i64 0, Value.int IntKind.i64 0, Value.bool false] 70)
  rw [World.size_alloc] at q2
  have HX1 := Lib.hid (heap_on (below_alloc _ (.cells #[Value.slice none 0 0, Value.int IntKind.i64 0, Value.int IntKind.i64 0, Value.bool false, Value.int IntKind.i64 0, Value.int IntKind.i64 0, Value.int IntKind.i64 0, Value.bool false] 70)) q1)
  have HX2 := Lib.hid q2
  have HB0 := Lib.hid (below_then (below_alloc w (.cells (jQ g c m af tr dd wr n t true).toArray 70)) (below_alloc _ (.cells #[Value.slice none 0 0, Value.int IntKind.i64 0, Value.int IntKind.i64 0, Value.bool false, Value.int IntKind.i64 0, Value.int IntKind.i64 0, Value.int IntKind.i64 0, Value.bool false] 70)))
  clear q1 q2
  go_enter Try.func37, Try.ntmps37
  go_wp2_with (first
    | ((with_reducible refine wpList_load_row (o := ⟨some 14, _, _, _, _, _⟩) ?a1 70 (.tmp 2) ?a2 w.heap.size ?a3 70 (jQ g c m af tr dd wr n t true).toArray (0, 0) _ HX1.out Try.underlying70 ?a4 ?a5 ?_); (case a1 => rfl); (case a2 => rfl); (case a3 => rfl); (case a4 => rfl); (case a5 => kernel_rfl); refine Stop.out ?_))
  unfold Stop
  go_wp2_with (first
    | ((with_reducible refine wpList_store_rowK 70 (o := ⟨none, _, _, _, _, _⟩) ?b1 (.tmp 4) (.tmp 14) ?b2 (w.heap.size + 1) ?b3 (jQ g c m af tr dd wr n t true) ?b4 ?b7 ?b5 #[Value.slice none 0 0, Value.int IntKind.i64 0, Value.int IntKind.i64 0, Value.bool false, Value.int IntKind.i64 0, Value.int IntKind.i64 0, Value.int IntKind.i64 0, Value.bool false] ?b6 _ HX2.out ?_); (case b1 => rfl); (case b2 => rfl); (case b3 => rfl); (case b4 => kernel_rfl); (case b5 => rfl); (case b6 => rfl); (case b7 => exact one8Q _ _ _ _ _ _ _ _ _ _); refine Stop.out ?_))
  unfold Stop
  have hJ := setRow_heap _ _ _ (jQ g c m af tr dd wr n t true).toArray _ _ HX2.out
  go_wp2
  refine bodyPost_ret (results_cell_of3 rfl _ _ (w.heap.size + 1) _ _ _ rfl rfl rfl (load_J _ _ (jQ g c m af tr dd wr n t true) rfl _ _ hJ)) rfl ?_
  exact ⟨rfl, below_setRow HB0.out (by omega) _⟩
set_option maxHeartbeats 2000000 in
theorem ref_japp_arg (w : World) (g c m : Nat) (af tr : Int) (dd : Bool) (wr : Int) (n t : Nat) (b : Text) (A : Option Addr) (cp : Nat) (hn : n ≤ 100000) (hb : b.length ≤ 1000) (hT : Txt w A b) (hh : headOk (n + 1 : Nat) b.length = false) :
    Calls Try.prog 37 #[.agg (jQ g c m af tr dd wr n t false).toArray, .slice A b.length cp] w fun e w' => e = .returned (.tuple #[.agg (jQ g c m af tr dd wr n t false).toArray, .int .i64 0, .int .i64 2]) ∧ Below w.heap.size w w' := by
  have HP : Hid (∀ W, Below w.heap.size w W → Calls Try.prog 26 #[.int .i64 ((n : Int) + 1), .slice A b.length cp] W fun e w' => e = .returned (.tuple #[.slice none 0 0, .int .i64 2]) ∧ Below W.heap.size W w') := Lib.hid (fun W hb2 => ref_pages_no ((n + 1 : Nat) : Int) b A cp W (by omega) (hT.below hb2) hh)
  have hn1 : (n : Int) ≤ 100000 := by omega
  have e7 : (jQ g c m af tr dd wr n t false)[7]? = some (.bool false) := rfl
  have e5 : (jQ g c m af tr dd wr n t false)[5]? = some (.int .i64 n) := rfl
  clear hb hT hh hn
  have q1 := heap_alloc_new w (.cells (jQ g c m af tr dd wr n t false).toArray 70)
  have q2 := heap_alloc_new (w.alloc (.cells (jQ g c m af tr dd wr n t false).toArray 70)) (.cells #[Value.slice none 0 0, Value.int IntKind.i64 0, Value.int IntKind.i64 0, Value.bool false, Value.int IntKind.i64 0, Value.int IntKind.i64 0, Value.int IntKind.i64 0, Value.bool false] 70)
  rw [World.size_alloc] at q2
  have HX1 := Lib.hid (heap_on (below_alloc _ (.cells #[Value.slice none 0 0, Value.int IntKind.i64 0, Value.int IntKind.i64 0, Value.bool false, Value.int IntKind.i64 0, Value.int IntKind.i64 0, Value.int IntKind.i64 0, Value.bool false] 70)) q1)
  have HX2 := Lib.hid q2
  have HB0 := Lib.hid (below_then (below_alloc w (.cells (jQ g c m af tr dd wr n t false).toArray 70)) (below_alloc _ (.cells #[Value.slice none 0 0, Value.int IntKind.i64 0, Value.int IntKind.i64 0, Value.bool false, Value.int IntKind.i64 0, Value.int IntKind.i64 0, Value.int IntKind.i64 0, Value.bool false] 70)))
  clear q1 q2
  go_enter Try.func37, Try.ntmps37
  go_wp2_with (first
    | (go_at_call 26; refine (HP.out _ HB0.out).mono ?_; rintro e w1 ⟨rfl, hb⟩; have HY1 := Lib.hid (heap_on hb HX1.out); have HY2 := Lib.hid (heap_on hb HX2.out); have HB1 := Lib.hid (below_then HB0.out hb); clear hb; refine Stop.out ?_))
  unfold Stop
  clear e7 e5 HX1 HX2
  go_wp2_with (first
    | ((with_reducible refine wpList_load_row (o := ⟨some 25, _, _, _, _, _⟩) ?a1 70 (.tmp 2) ?a2 w.heap.size ?a3 70 (jQ g c m af tr dd wr n t false).toArray (0, 0) _ HY1.out Try.underlying70 ?a4 ?a5 ?_); (case a1 => rfl); (case a2 => rfl); (case a3 => rfl); (case a4 => rfl); (case a5 => kernel_rfl); refine Stop.out ?_))
  unfold Stop
  go_wp2_with (first
    | ((with_reducible refine wpList_store_rowK 70 (o := ⟨none, _, _, _, _, _⟩) ?b1 (.tmp 4) (.tmp 25) ?b2 (w.heap.size + 1) ?b3 (jQ g c m af tr dd wr n t false) ?b4 ?b7 ?b5 #[Value.slice none 0 0, Value.int IntKind.i64 0, Value.int IntKind.i64 0, Value.bool false, Value.int IntKind.i64 0, Value.int IntKind.i64 0, Value.int IntKind.i64 0, Value.bool false] ?b6 _ HY2.out ?_); (case b1 => rfl); (case b2 => rfl); (case b3 => rfl); (case b4 => kernel_rfl); (case b5 => rfl); (case b6 => rfl); (case b7 => exact one8Q _ _ _ _ _ _ _ _ _ _); refine Stop.out ?_))
  unfold Stop
  have hJ := setRow_heap _ _ _ (jQ g c m af tr dd wr n t false).toArray _ _ HY2.out
  go_wp2
  refine bodyPost_ret (results_cell_of3 rfl _ _ (w.heap.size + 1) _ _ _ rfl rfl rfl (load_J _ _ (jQ g c m af tr dd wr n t false) rfl _ _ hJ)) rfl ?_
  exact ⟨rfl, below_setRow HB1.out (by omega) _⟩
set_option maxHeartbeats 2000000 in
theorem ref_japp_full (w : World) (g c m : Nat) (af tr : Int) (dd : Bool) (wr : Int) (n t : Nat) (b : Text) (A : Option Addr) (cp : Nat) (hn : n ≤ 100000) (hm : m ≤ 100000) (ht : t ≤ m) (h1 : 1 ≤ b.length) (hb : b.length ≤ 1000) (hcc : b.length ≤ cp) (hT : Txt w A b) (hfull : m - t < (pagesT (n + 1) b).length) :
    Calls Try.prog 37 #[.agg (jQ g c m af tr dd wr n t false).toArray, .slice A b.length cp] w fun e w' => e = .returned (.tuple #[.agg (jQ g c m af tr dd wr n t false).toArray, .int .i64 0, .int .i64 31]) ∧ Below w.heap.size w w' := by
  obtain ⟨lp, hlp⟩ : ∃ lp, lp = (pagesT (n + 1) b).length := ⟨_, rfl⟩
  have HP : Hid (∀ W, Below w.heap.size w W → Calls Try.prog 26 #[.int .i64 ((n : Int) + 1), .slice A b.length cp] W fun e w' => ∃ g6 c6, e = .returned (.tuple #[.slice (some ⟨g6, 0, none⟩) lp c6, .int .i64 0]) ∧ Below W.heap.size W w') := Lib.hid (fun W hb2 => by
    refine (ref_pages_yes (n + 1) b A cp W (by omega) (by omega) h1 (by omega) hcc (hT.below hb2)).mono ?_
    rintro e w' ⟨g6, c6, h, _, h3⟩
    exact ⟨g6, c6, by rw [hlp]; exact h, h3⟩)
  have hn1 : (n : Int) ≤ 100000 := by omega
  have hw1 : wrap64 ((m : Int) - (t : Int)) = (m : Int) - (t : Int) := by unfold wrap64; omega
  have hgt : (m : Int) - (t : Int) < (lp : Int) := by omega
  have e7 : (jQ g c m af tr dd wr n t false)[7]? = some (.bool false) := rfl
  have e5 : (jQ g c m af tr dd wr n t false)[5]? = some (.int .i64 n) := rfl
  clear hb hT hn hm ht hfull hlp h1 hcc
  have q1 := heap_alloc_new w (.cells (jQ g c m af tr dd wr n t false).toArray 70)
  have q2 := heap_alloc_new (w.alloc (.cells (jQ g c m af tr dd wr n t false).toArray 70)) (.cells #[Value.slice none 0 0, Value.int IntKind.i64 0, Value.int IntKind.i64 0, Value.bool false, Value.int IntKind.i64 0, Value.int IntKind.i64 0, Value.int IntKind.i64 0, Value.bool false] 70)
  rw [World.size_alloc] at q2
  have HX1 := Lib.hid (heap_on (below_alloc _ (.cells #[Value.slice none 0 0, Value.int IntKind.i64 0, Value.int IntKind.i64 0, Value.bool false, Value.int IntKind.i64 0, Value.int IntKind.i64 0, Value.int IntKind.i64 0, Value.bool false] 70)) q1)
  have HX2 := Lib.hid q2
  have HB0 := Lib.hid (below_then (below_alloc w (.cells (jQ g c m af tr dd wr n t false).toArray 70)) (below_alloc _ (.cells #[Value.slice none 0 0, Value.int IntKind.i64 0, Value.int IntKind.i64 0, Value.bool false, Value.int IntKind.i64 0, Value.int IntKind.i64 0, Value.int IntKind.i64 0, Value.bool false] 70)))
  clear q1 q2
  go_enter Try.func37, Try.ntmps37
  go_wp2_with (first
    | (go_at_call 26; refine (HP.out _ HB0.out).mono ?_; rintro e w1 ⟨g6, c6, rfl, hb⟩; have HY1 := Lib.hid (heap_on hb HX1.out); have HY2 := Lib.hid (heap_on hb HX2.out); have HB1 := Lib.hid (below_then HB0.out hb); clear hb; refine Stop.out ?_))
  unfold Stop
  clear e7 e5 HX1 HX2
  have c0 : w1.cell? ⟨w.heap.size, 0, none⟩ = some (.slice (some ⟨g, 0, none⟩) m c) := (cell_of_row w1 w.heap.size 0 _ _ _ HY1.out).trans rfl
  have c6' : w1.cell? ⟨w.heap.size, 6, none⟩ = some (.int .i64 t) := (cell_of_row w1 w.heap.size 6 _ _ _ HY1.out).trans rfl
  go_wp2_with (first
    | ((with_reducible refine wpList_load_row (o := ⟨some 36, _, _, _, _, _⟩) ?a1 70 (.tmp 2) ?a2 w.heap.size ?a3 70 (jQ g c m af tr dd wr n t false).toArray (0, 0) _ HY1.out Try.underlying70 ?a4 ?a5 ?_); (case a1 => rfl); (case a2 => rfl); (case a3 => rfl); (case a4 => rfl); (case a5 => kernel_rfl); refine Stop.out ?_))
  unfold Stop
  go_wp2_with (first
    | ((with_reducible refine wpList_store_rowK 70 (o := ⟨none, _, _, _, _, _⟩) ?b1 (.tmp 4) (.tmp 36) ?b2 (w.heap.size + 1) ?b3 (jQ g c m af tr dd wr n t false) ?b4 ?b7 ?b5 #[Value.slice none 0 0, Value.int IntKind.i64 0, Value.int IntKind.i64 0, Value.bool false, Value.int IntKind.i64 0, Value.int IntKind.i64 0, Value.int IntKind.i64 0, Value.bool false] ?b6 _ HY2.out ?_); (case b1 => rfl); (case b2 => rfl); (case b3 => rfl); (case b4 => kernel_rfl); (case b5 => rfl); (case b6 => rfl); (case b7 => exact one8Q _ _ _ _ _ _ _ _ _ _); refine Stop.out ?_))
  unfold Stop
  have hJ := setRow_heap _ _ _ (jQ g c m af tr dd wr n t false).toArray _ _ HY2.out
  go_wp2
  refine bodyPost_ret (results_cell_of3 rfl _ _ (w.heap.size + 1) _ _ _ rfl rfl rfl (load_J _ _ (jQ g c m af tr dd wr n t false) rfl _ _ hJ)) rfl ?_
  exact ⟨rfl, below_setRow HB1.out (by omega) _⟩
end Go.Proofs.Ytbbgmjfmpcbpbaa

namespace Go.Proofs.Ytbbgmjfmpcbpbaa
open Go.RowKit
set_option maxRecDepth 100000
set_option linter.unusedSimpArgs false
set_option linter.unusedVariables false

/-- nothing but a journal and its disk was turned -/
structure ChgJ (w w' : World) (P B bm : Nat) : Prop where
  os : w'.os = w.os
  tape : w'.tape = w.tape
  output : w'.output = w.output
  size : w.heap.size ≤ w'.heap.size
  block : ∀ k, k < w.heap.size → k ≠ P → k ≠ B → k ≠ bm → w'.heap[k]? = w.heap[k]?
theorem ChgJ.refl (w : World) (P B bm : Nat) : ChgJ w w P B bm := ⟨rfl, rfl, rfl, Nat.le_refl _, fun _ _ _ _ _ => rfl⟩
theorem ChgJ.trans {w w' w'' : World} {P B bm : Nat} (h : ChgJ w w' P B bm) (k : ChgJ w' w'' P B bm) : ChgJ w w'' P B bm :=
  ⟨k.os.trans h.os, k.tape.trans h.tape, k.output.trans h.output, Nat.le_trans h.size k.size, fun j h0 h1 h2 h3 => (k.block j (Nat.lt_of_lt_of_le h0 h.size) h1 h2 h3).trans (h.block j h0 h1 h2 h3)⟩
theorem ChgJ.of_chg {w w' : World} {P B bm : Nat} (h : ChgD w w' B bm) : ChgJ w w' P B bm := ⟨h.os, h.tape, h.output, h.size, fun k h0 _ h2 h3 => h.block k h0 h2 h3⟩
theorem ChgJ.of_below {w w' : World} {P B bm : Nat} (h : Below w.heap.size w w') : ChgJ w w' P B bm := ChgJ.of_chg (ChgD.of_below h)
theorem ChgJ.setP {w w' : World} {P B bm : Nat} (h : ChgJ w w' P B bm) (i : Nat) (v : Value) : ChgJ w (w'.setCell ⟨P, i, none⟩ v) P B bm :=
  ⟨h.os, h.tape, h.output, by simpa using h.size, fun k h0 h1 h2 h3 => (heap_setCell_other _ _ _ _ h1).trans (h.block k h0 h1 h2 h3)⟩
theorem ChgJ.below {w w' : World} {P B bm base : Nat} (h : ChgJ w w' P B bm) (h0 : base ≤ w.heap.size) (h1 : base ≤ P) (h2 : base ≤ B) (h3 : base ≤ bm) : Below base w w' :=
  ⟨h.os, h.tape, h.output, h.size, fun k hk => h.block k (Nat.lt_of_lt_of_le hk h0) (Nat.ne_of_lt (Nat.lt_of_lt_of_le hk h1)) (Nat.ne_of_lt (Nat.lt_of_lt_of_le hk h2)) (Nat.ne_of_lt (Nat.lt_of_lt_of_le hk h3))⟩
theorem Dsk.setP {w : World} {B bm n P : Nat} {d : DiskV} (h : Dsk w B bm n d) (i : Nat) (v : Value) (h1 : P ≠ B) (h2 : P ≠ bm) : Dsk (w.setCell ⟨P, i, none⟩ v) B bm n d :=
  ⟨(heap_setCell_other _ _ _ _ h1.symm).trans h.1, h.2.1.kept (heap_setCell_other _ _ _ _ h2.symm), h.2.2⟩
/-- sectors written one behind the other, until one tells an error -/
def putF (d : DiskV) (t : Nat) : List Text → DiskV × Int
  | [] => (d, 0)
  | T :: L => if writeE d (t : Nat) T = 0 then putF (writeD d (t : Nat) T) (t + 1) L else (writeD d (t : Nat) T, writeE d (t : Nat) T)
/-- a disk on its way -/
structure OnP (d : DiskV) (t : Nat) (L : List Text) (k : Nat) (d1 : DiskV) : Prop where
  many : d1.many = d.many
  ok : OkD d1
  wr : d1.writes ≤ d.writes + k
  rest : putF d t L = putF d1 (t + k) (L.drop k)
theorem OnP.start {d : DiskV} {t : Nat} {L : List Text} (h : OkD d) : OnP d t L 0 d := ⟨rfl, h, by omega, rfl⟩
theorem OnP.step {d d1 : DiskV} {t k : Nat} {L : List Text} (h : OnP d t L k d1) (hk : k < L.length) (he : writeE d1 (t + k : Nat) L[k] = 0) : OnP d t L (k + 1) (writeD d1 (t + k : Nat) L[k]) := by
  refine ⟨by rw [writeD_many]; exact h.many, writeD_ok _ _ _ h.ok, ?_, ?_⟩
  · have h1 := writeD_writes d1 (t + k : Nat) L[k]
    have h2 := h.wr
    omega
  · rw [h.rest, List.drop_eq_getElem_cons hk]
    show (if writeE d1 ((t + k : Nat) : Int) L[k] = 0 then _ else _) = _
    rw [if_pos he]
    rfl
theorem OnP.cut {d d1 : DiskV} {t k : Nat} {L : List Text} (h : OnP d t L k d1) (hk : k < L.length) (he : writeE d1 (t + k : Nat) L[k] ≠ 0) : putF d t L = (writeD d1 (t + k : Nat) L[k], writeE d1 (t + k : Nat) L[k]) := by
  rw [h.rest, List.drop_eq_getElem_cons hk]
  show (if writeE d1 ((t + k : Nat) : Int) L[k] = 0 then _ else _) = _
  rw [if_neg he]
theorem OnP.done {d d1 : DiskV} {t : Nat} {L : List Text} (h : OnP d t L L.length d1) : putF d t L = (d1, 0) := by
  rw [h.rest, List.drop_length]
  rfl
def PutI (w : World) (P bm n : Nat) (j : JnV) (d : DiskV) (L : List Text) (A : Option Addr) (c k : Nat) (V : World) : Prop := ∃ n1 d1, Dsk V j.B bm n1 d1 ∧ n1 ≤ n + k ∧ JnAt V P j ∧ SecsAt V A c L ∧ ChgJ w V P j.B bm ∧ OnP d j.tail L k d1
/-- what put leaves -/
def PutP (w : World) (P bm n : Nat) (j : JnV) (L : List Text) (x : DiskV × Int) (e : Ending) (w' : World) : Prop :=
  e = .returned (.int .i64 x.2) ∧ (∃ n', Dsk w' j.B bm n' x.1 ∧ n' ≤ n + L.length) ∧ JnAt w' P (if x.2 = 0 then { j with tail := j.tail + L.length } else { j with cut := true }) ∧ ChgJ w w' P j.B bm
set_option maxHeartbeats 2000000 in
theorem code_jput (w : World) (P bm n : Nat) (j : JnV) (d : DiskV) (L : List Text) (A : Option Addr) (c : Nat) (hJ : JnAt w P j) (hD : Dsk w j.B bm n d) (hok : OkD d) (hn : n ≤ 1000000) (hw : d.writes ≤ 1000000)
    (hL : L.length ≤ 1000) (ht : j.tail ≤ 100000) (hA : SecsAt w A c L) (p1 : P ≠ j.B) (p2 : P ≠ bm) :
    Calls Try.prog 66 #[.pointer (some ⟨P, 0, none⟩), .slice A L.length c] w (PutP w P bm n j L (putF d j.tail L)) := by
  have HM := Lib.hid (And.intro hn (And.intro hw (And.intro hL ht)))
  have HPn := Lib.hid (And.intro p1 p2)
  have HI0 : Hid (PutI w P bm n j d L A c 0 w) := Lib.hid ⟨n, d, hD, Nat.le_refl _, hJ, hA, ChgJ.refl _ _ _ _, OnP.start hok⟩
  clear hJ hD hok hn hw hL ht hA p1 p2
  obtain ⟨X, hX⟩ : ∃ X, X = putF d j.tail L := ⟨_, rfl⟩
  rw [← hX]
  have HXx := Lib.hid hX
  clear hX
  obtain ⟨ll, hll⟩ : ∃ ll, ll = L.length := ⟨_, rfl⟩
  rw [← hll]
  have HLl := Lib.hid hll
  have HL1 : Hid (ll ≤ 1000) := Lib.hid (by rw [hll]; exact HM.out.2.2.1)
  clear hll
  go_enter Try.func66, Try.ntmps66
  go_wp2
  go_loopw [5, 6, 7, 10] (fun v5 v6 v7 v10 wr => ∃ k : Nat, k ≤ ll ∧ v10 = .int .i64 (k : Nat) ∧ Hid (PutI w P bm n j d L A c k wr)) (fun _ _ _ v10 _ => leftOf v10)
  case atStart => exact ⟨0, Nat.zero_le _, rfl, HI0⟩
  case round =>
    obtain ⟨k, hk, rfl, HI⟩ := hrel
    clear HI0
    obtain ⟨n1, d1, q1, q2, q3, q4, q5, q6⟩ := HI.out
    have HD := Lib.hid q1
    have hn1 := q2
    have HJ := Lib.hid q3
    have HA := Lib.hid q4
    have HX := Lib.hid q5
    have HO := Lib.hid q6
    clear q1 q2 q3 q4 q5 q6 HI
    obtain ⟨z0, z1, z2, z3⟩ := HJ.out.cells
    by_cases hlt : k < ll
    · have hlt' : (k : Int) < (ll : Int) := by omega
      have hge : ¬ ll ≤ k := by omega
      have hkL : k < L.length := by rw [← HLl.out]; exact hlt
      obtain ⟨g, hAg, hT, _⟩ : ∃ g, A = some ⟨g, 0, none⟩ ∧ TextsAt wr g L ∧ L.length ≤ c := by
        rcases HA.out with ⟨_, h0, _⟩ | h
        · rw [h0] at hkL; exact absurd hkL (Nat.not_lt_zero _)
        · exact h
      obtain ⟨b, cb, hcell, hcb, hcm, hrg, hbl, h0⟩ := hT k hkL
      obtain ⟨T, hTT⟩ : ∃ T, T = L[k] := ⟨_, rfl⟩
      rw [← hTT] at hcell hcb hrg h0
      have HTT := Lib.hid hTT
      have HTx := Lib.hid (And.intro hcb (And.intro hcm (mid_txt hrg)))
      obtain ⟨r, hr⟩ : ∃ r, r = j.tail + k := ⟨_, rfl⟩
      have HR := Lib.hid hr
      have HWi : Hid (IntKind.i64.wrap ((j.tail : Int) + (k : Int)) = (r : Int)) := Lib.hid ((IntWalk.i64_left _).trans (by have := HL1.out; have := HM.out.2.2.2; unfold wrap64; omega))
      have HWk : Hid (wrap64 ((k : Int) + 1) = (k : Int) + 1) := Lib.hid (by have := HL1.out; unfold wrap64; omega)
      have HMs : Hid (leftOf (.int .i64 (wrap64 ((k : Int) + 1))) < leftOf (.int .i64 (k : Int))) := Lib.hid (leftOf_next k (by have := HL1.out; omega))
      have HNq : Hid (n1 + 1 ≤ n + L.length ∧ n1 + 1 ≤ n + (k + 1)) := Lib.hid (by rw [← HLl.out]; omega)
      obtain ⟨d2, hd2⟩ : ∃ d2, d2 = writeD d1 (r : Nat) T := ⟨_, rfl⟩
      obtain ⟨ev, hev⟩ : ∃ ev, ev = writeE d1 (r : Nat) T := ⟨_, rfl⟩
      have HWr : Hid (Calls Try.prog 27 #[.pointer (some ⟨j.B, 0, none⟩), .int .i64 (r : Nat), .slice (some ⟨b, 0, none⟩) T.length cb] wr.drew fun e w' => e = .returned (.int .i64 ev) ∧ Dsk w' j.B bm (n1 + 1) d2 ∧ ChgD wr.drew w' j.B bm) := Lib.hid (by
        rw [hev, hd2]
        refine code_write wr.drew j.B bm n1 d1 r (HD.out.below (Below.refl _ _).drew) (by have := HL1.out; have := HM.out.1; unfold maxLen; omega) HO.out.ok (some ⟨b, 0, none⟩) cb T HTx.out.1 (HTx.out.2.2.below (Below.refl _ _).drew) ?_
        have h1 := HO.out.wr
        have h2 := HM.out.2.1
        have h3 := HL1.out
        omega)
      have HO2 : Hid (ev = 0 → OnP d j.tail L (k + 1) d2) := Lib.hid (fun e => by
        rw [hd2, HTT.out, HR.out]
        exact HO.out.step hkL (by rw [← HTT.out, ← HR.out, ← hev]; exact e))
      have HCt : Hid (ev ≠ 0 → X = (d2, ev)) := Lib.hid (fun e => by
        rw [HXx.out, hd2, hev, HTT.out, HR.out]
        exact HO.out.cut hkL (by rw [← HTT.out, ← HR.out, ← hev]; exact e))
      have HS0 : Hid ((fun V : World => V.cell? ⟨P, 0, none⟩ = some (.pointer (some ⟨j.B, 0, none⟩)) ∧ V.cell? ⟨P, 1, none⟩ = some (.int .i64 j.tail)) wr.drew) := Lib.hid ⟨cell_on (Below.refl _ _).drew z0, cell_on (Below.refl _ _).drew z1⟩
      have HJd := Lib.hid (HJ.out.below (Below.refl _ _).drew)
      have HAd := Lib.hid (HA.out.on (Below.refl _ _).drew)
      have HXd : Hid (ChgJ w wr.drew P j.B bm) := Lib.hid (HX.out.trans (ChgJ.of_below (Below.refl _ _).drew))
      have HDd := Lib.hid (HD.out.below (Below.refl _ _).drew)
      subst hAg
      generalize T.length = nT at hcell HWr
      clear hT hcb hcm hrg hbl h0 hTT hr hd2 hev HD HJ HA HX HO HTx HTT z0 z1 z2 z3 hkL
      go_wp2
      refine wp_region_held_drew (S := fun V : World => V.cell? ⟨P, 0, none⟩ = some (.pointer (some ⟨j.B, 0, none⟩)) ∧ V.cell? ⟨P, 1, none⟩ = some (.int .i64 j.tail)) (by kernel_rfl) HS0.out ?_
      intro hHeld
      clear HS0 hcell
      have hwi := HWi.out
      generalize wr.drew = wd at HWr HJd HAd HXd HDd hHeld ⊢
      (refine takeH (i := 0) (v := ?_) rfl (by kernel_rfl) (by kernel_rfl) (by kernel_rfl) (fun _ _ _ h => h) (Or.inl ⟨by rfl, ?_⟩) (by assumption) ?_; rotate_left; (focus ((intro wS hSw); (try dsimp only at hSw); obtain ⟨s0, s1⟩ := hSw; go_simp; (try with_reducible rfl); done)); (try simp only [Act.put, List.setIfInBounds_toArray, List.set_cons_zero, List.set_cons_succ]))
      (refine takeH (i := 1) (v := ?_) rfl (by kernel_rfl) (by kernel_rfl) (by kernel_rfl) (fun _ _ _ h => h) (Or.inl ⟨by rfl, ?_⟩) (by assumption) ?_; rotate_left; (focus ((intro wS hSw); (try dsimp only at hSw); obtain ⟨s0, s1⟩ := hSw; go_simp; (try with_reducible rfl); done)); (try simp only [Act.put, List.setIfInBounds_toArray, List.set_cons_zero, List.set_cons_succ]))
      (refine takeH (i := 2) (v := ?_) rfl (by kernel_rfl) (by kernel_rfl) (by kernel_rfl) (fun _ _ _ h => h) (Or.inl ⟨by rfl, ?_⟩) (by assumption) ?_; rotate_left; (focus ((intro wS hSw); (try dsimp only at hSw); obtain ⟨s0, s1⟩ := hSw; go_simp; (try with_reducible rfl); done)); (try simp only [Act.put, List.setIfInBounds_toArray, List.set_cons_zero, List.set_cons_succ]))
      (refine takeH (i := 3) (v := ?_) rfl (by kernel_rfl) (by kernel_rfl) (by kernel_rfl) (fun _ _ _ h => h) (Or.inl ⟨by rfl, ?_⟩) (by assumption) ?_; rotate_left; (focus ((intro wS hSw); (try dsimp only at hSw); obtain ⟨s0, s1⟩ := hSw; go_simp; (try with_reducible rfl); done)); (try simp only [Act.put, List.setIfInBounds_toArray, List.set_cons_zero, List.set_cons_succ]))
      (refine takeH (i := 4) (v := ?_) rfl (by kernel_rfl) (by kernel_rfl) (by kernel_rfl) (fun _ _ _ h => h) (Or.inl ⟨by rfl, ?_⟩) (by assumption) ?_; rotate_left; (focus ((intro wS hSw); (try dsimp only at hSw); obtain ⟨s0, s1⟩ := hSw; go_simp; (try with_reducible rfl); done)); (try simp only [Act.put, List.setIfInBounds_toArray, List.set_cons_zero, List.set_cons_succ]))
      (refine takeH (i := 5) (v := ?_) rfl (by kernel_rfl) (by kernel_rfl) (by kernel_rfl) (fun _ _ _ h => h) (Or.inl ⟨by rfl, ?_⟩) (by assumption) ?_; rotate_left; (focus ((intro wS hSw); (try dsimp only at hSw); obtain ⟨s0, s1⟩ := hSw; go_simp; (try with_reducible rfl); done)); (try simp only [Act.put, List.setIfInBounds_toArray, List.set_cons_zero, List.set_cons_succ]))
      (refine takeH (i := 6) (v := ?_) rfl (by kernel_rfl) (by kernel_rfl) (by kernel_rfl) (fun _ _ _ h => h) (Or.inl ⟨by rfl, ?_⟩) (by assumption) ?_; rotate_left; (focus ((intro wS hSw); (try dsimp only at hSw); obtain ⟨s0, s1⟩ := hSw; go_simp; (try with_reducible rfl); done)); (try simp only [Act.put, List.setIfInBounds_toArray, List.set_cons_zero, List.set_cons_succ]))
      (refine takeH (i := 7) (v := ?_) rfl (by kernel_rfl) (by kernel_rfl) (by kernel_rfl) (fun _ _ _ h => h) (Or.inl ⟨by rfl, ?_⟩) (by assumption) ?_; rotate_left; (focus ((intro wS hSw); (try dsimp only at hSw); obtain ⟨s0, s1⟩ := hSw; go_simp; (try with_reducible rfl); done)); (try simp only [Act.put, List.setIfInBounds_toArray, List.set_cons_zero, List.set_cons_succ]))
      (refine takeH (i := 8) (v := ?_) rfl (by kernel_rfl) (by kernel_rfl) (by kernel_rfl) (fun _ _ _ h => h) (Or.inl ⟨by rfl, ?_⟩) (by assumption) ?_; rotate_left; (focus ((intro wS hSw); (try dsimp only at hSw); obtain ⟨s0, s1⟩ := hSw; go_simp; (try with_reducible rfl); done)); (try simp only [Act.put, List.setIfInBounds_toArray, List.set_cons_zero, List.set_cons_succ]))
      (refine takeH (i := 9) (v := ?_) rfl (by kernel_rfl) (by kernel_rfl) (by kernel_rfl) (fun _ _ _ h => h) (Or.inl ⟨by rfl, ?_⟩) (by assumption) ?_; rotate_left; (focus ((intro wS hSw); (try dsimp only at hSw); obtain ⟨s0, s1⟩ := hSw; go_simp; (try with_reducible rfl); done)); (try simp only [Act.put, List.setIfInBounds_toArray, List.set_cons_zero, List.set_cons_succ]))
      (refine takeH (i := 10) (v := ?_) rfl (by kernel_rfl) (by kernel_rfl) (by kernel_rfl) (fun _ _ _ h => h) (Or.inl ⟨by rfl, ?_⟩) (by assumption) ?_; rotate_left; (focus ((intro wS hSw); (try dsimp only at hSw); obtain ⟨s0, s1⟩ := hSw; go_simp; (try with_reducible rfl); done)); (try simp only [Act.put, List.setIfInBounds_toArray, List.set_cons_zero, List.set_cons_succ]))
      refine aloneH (i := 11) rfl (by kernel_rfl) (fun K hK => ?_)
      rw [if_pos (by rfl)]
      go_simp; ((refine (HWr.out).mono ?_); (rintro e w1 ⟨rfl, hd2, hc2⟩); have HD2 := Lib.hid hd2; have HC2 := Lib.hid hc2; (try go_simp))
      refine hK.out _ _ (⟨(hc2.cell (a := ⟨P, 0, none⟩) (block_lt_of_cell hHeld.1) HPn.out.1 HPn.out.2).trans hHeld.1, (hc2.cell (a := ⟨P, 1, none⟩) (block_lt_of_cell hHeld.2) HPn.out.1 HPn.out.2).trans hHeld.2⟩) (fun hNew => ?_)
      clear hK K hHeld; (have hHeld := hNew); clear hNew; (try simp only [Act.put, List.setIfInBounds_toArray, List.set_cons_zero, List.set_cons_succ])
      (refine takeH (i := 12) (v := ?_) rfl (by kernel_rfl) (by kernel_rfl) (by kernel_rfl) (fun _ _ _ h => h) (Or.inl ⟨by rfl, ?_⟩) (by assumption) ?_; rotate_left; (focus ((intro wS hSw); (try dsimp only at hSw); obtain ⟨s0, s1⟩ := hSw; go_simp; (try with_reducible rfl); done)); (try simp only [Act.put, List.setIfInBounds_toArray, List.set_cons_zero, List.set_cons_succ]))
      refine wpAnyH_done (by kernel_rfl) ?_ _
      clear hHeld hc2 hwi HWi
      have hwk := HWk.out
      have HJ2 : Hid (JnAt w1 P j) := Lib.hid (HJd.out.chg HC2.out HPn.out.1 HPn.out.2)
      have HA2 : Hid (SecsAt w1 (some ⟨g, 0, none⟩) c L) := Lib.hid (HAd.out.chg HDd.out HC2.out)
      have HX2 : Hid (ChgJ w w1 P j.B bm) := Lib.hid (HXd.out.trans (ChgJ.of_chg HC2.out))
      clear HWr HJd HAd HXd HDd HC2
      by_cases he : ev = 0
      · subst he
        go_wp2
        go_roundw
        case rel => exact ⟨k + 1, by omega, congrArg (Value.int .i64) (by omega), Lib.hid ⟨n1 + 1, d2, HD2.out, HNq.out.2, HJ2.out, HA2.out, HX2.out, HO2.out rfl⟩⟩
        case measure => exact HMs.out
      · have hne : ¬ ev = 0 := he
        have hcut := Lib.hid (HCt.out he)
        obtain ⟨z0, z1, z2, z3⟩ := HJ2.out.cells
        have y2 := frozen_of_row w1 P 2 _ _ HJ2.out
        have hPl : Hid (P < w1.heap.size) := Lib.hid (heapLt HJ2.out)
        clear he HO2 HCt
        go_wp2
        go_ret
        unfold PutP
        rw [hcut.out, if_neg hne]
        refine ⟨rfl, ⟨n1 + 1, (HD2.out.setP _ _ HPn.out.1 HPn.out.2), HNq.out.1⟩, ?_, HX2.out.setP _ _⟩
        exact heap_setCell_same w1 P 2 _ _ (.bool true) HJ2.out
    · obtain rfl : k = ll := by omega
      have hdn : X = (d1, 0) := by
        rw [HXx.out]
        have h1 := HO.out
        rw [HLl.out] at h1
        exact h1.done
      have HDn := Lib.hid hdn
      have hwt : wrap64 ((j.tail : Int) + (k : Int)) = ((j.tail + k : Nat) : Int) := by have := HL1.out; have := HM.out.2.2.2; unfold wrap64; omega
      have y1 := frozen_of_row wr P 1 _ _ HJ.out
      clear hdn
      go_wp2
      go_ret
      unfold PutP
      rw [HDn.out, if_pos rfl, ← HLl.out]
      refine ⟨rfl, ⟨n1, (HD.out.setP _ _ HPn.out.1 HPn.out.2), hn1⟩, ?_, HX.out.setP _ _⟩
      exact heap_setCell_same wr P 1 _ _ (.int .i64 ((j.tail + k : Nat) : Int)) HJ.out
end Go.Proofs.Ytbbgmjfmpcbpbaa
