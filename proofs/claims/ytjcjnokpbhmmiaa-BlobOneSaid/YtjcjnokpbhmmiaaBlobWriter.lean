/- A writer: what is put behind what it has, and its bytes told. -/
import Derived.Test.YtjcjnokpbhmmiaaBlobText
import Derived.Lib.LazyBuf
namespace Go.Proofs.Ytjcjnokpbhmmiaa
open Go.RowKit
set_option maxRecDepth 100000

/-- a writer in block g: what was written, or nothing, if it is spoilt; v: its bytes as they lie -/
def Wrt (w : World) (B g : Nat) (S : Option Text) (v : Value) : Prop :=
  w.heap[g]? = some (.cells #[.bool true, .bool S.isNone, v] 74 (0, 0)) ∧ B ≤ g ∧ w.ownsRow B 5 1 v (S.getD []).length ((S.getD []).map cellOf) ∧ v.ownBlock ≠ some g
/-- nothing but block g and the row of v was turned -/
structure Chg (w w' : World) (g : Nat) (v : Value) : Prop where
  os : w'.os = w.os
  tape : w'.tape = w.tape
  output : w'.output = w.output
  size : w.heap.size ≤ w'.heap.size
  block : ∀ k, k < w.heap.size → k ≠ g → some k ≠ v.ownBlock → w'.heap[k]? = w.heap[k]?
theorem heap_lt {w : World} {g : Nat} {o : Obj} (h : w.heap[g]? = some o) : g < w.heap.size := (Array.getElem?_eq_some_iff.1 h).1
theorem Wrt.lt {w : World} {B g : Nat} {S : Option Text} {v : Value} (h : Wrt w B g S v) : g < w.heap.size := heap_lt h.1
theorem Wrt.below {w w' : World} {B g : Nat} {S : Option Text} {v : Value} (h : Wrt w B g S v) (hb : Below w.heap.size w w') : Wrt w' B g S v :=
  ⟨(hb.block g h.lt).trans h.1, h.2.1, own_below h.2.2.1 hb, h.2.2.2⟩
theorem Chg.of_below {w w' : World} {g : Nat} {v : Value} (hb : Below w.heap.size w w') : Chg w w' g v := ⟨hb.os, hb.tape, hb.output, hb.size, fun k hk _ _ => hb.block k hk⟩
theorem Chg.trans {a b c : World} {g : Nat} {v : Value} (h : Chg a b g v) (k : Chg b c g v) : Chg a c g v :=
  ⟨k.os.trans h.os, k.tape.trans h.tape, k.output.trans h.output, Nat.le_trans h.size k.size, fun i hi h1 h2 => (k.block i (Nat.lt_of_lt_of_le hi h.size) h1 h2).trans (h.block i hi h1 h2)⟩
theorem Chg.below {w w' : World} {B g : Nat} {S : Option Text} {v : Value} (h : Chg w w' g v) (hw : Wrt w B g S v) (hB : B ≤ w.heap.size) : Below B w w' :=
  ⟨h.os, h.tape, h.output, h.size, fun k hk => h.block k (by omega) (by have := hw.2.1; omega) (fun e => by have := (hw.2.2.1.lt k e.symm).1; omega)⟩
theorem own_set_far {w : World} {base : Nat} {v : Value} {n : Nat} {xs : List Value} (h : w.ownsRow base 5 1 v n xs) (a : Addr) (u : Value) (hne : v.ownBlock ≠ some a.block) : (w.setCell a u).ownsRow base 5 1 v n xs :=
  h.kept (row := some a.block) ⟨rfl, rfl, rfl, by simp, fun k _ hk => heap_setCell_other w a k u (fun e => hk (by rw [e]))⟩ (.inr hne)

theorem own_slice {w : World} {B n : Nat} {v : Value} {xs : List Value} (h : w.ownsRow B 5 1 v n xs) : ∃ A k c, v = .slice A k c := by
  rcases h.2 with ⟨rfl, _⟩ | ⟨g, c, cur, rfl, _⟩
  · exact ⟨_, _, _, rfl⟩
  · exact ⟨_, _, _, rfl⟩
/-- what is written behind what there is -/
def nextS (S d : Option Text) : Option Text := match S, d with
  | some T, some l => some (T ++ l)
  | _, _ => none
/-- what a writer's call leaves -/
def Put (w : World) (B g : Nat) (S : Option Text) (v : Value) (d : Option Text) (e : Ending) (w' : World) : Prop :=
  e = .returned (.pointer (some ⟨g, 0, none⟩)) ∧ ∃ v', Wrt w' B g (nextS S d) v' ∧ Chg w w' g v ∧ (v'.ownBlock = v.ownBlock ∨ v'.ownBlock = none ∨ ∃ k, v'.ownBlock = some k ∧ w.heap.size ≤ k)

theorem new_any (w : World) : Calls Try.prog 22 #[] w fun e w' => e = .returned (.pointer (some ⟨w.heap.size, 0, none⟩)) ∧ w' = w.alloc (.cells #[.bool true, .bool false, .slice none 0 0] 74) := by
  go_enter Try.func22, Try.ntmps22
  go_wp2
  go_ret
  exact ⟨rfl, rfl⟩
theorem new_wrt (w : World) (B : Nat) (hB : B ≤ w.heap.size) : Wrt (w.alloc (.cells #[.bool true, .bool false, .slice none 0 0] 74)) B w.heap.size (some []) (.slice none 0 0) :=
  ⟨heap_alloc_new w _, hB, World.ownsRow_nil _ _ _ _, by simp [Value.ownBlock]⟩

theorem spoil_post {w : World} {B g : Nat} {S : Option Text} {v : Value} {d : Option Text} (hw : Wrt w B g S v) (hd : nextS S d = none) :
    Put w B g S v d (.returned (.pointer (some ⟨g, 0, none⟩))) ((w.setCell ⟨g, 1, none⟩ (.bool true)).setCell ⟨g, 2, none⟩ (.slice none 0 0)) := by
  refine ⟨rfl, .slice none 0 0, ⟨?_, hw.2.1, ?_, by simp [Value.ownBlock]⟩, ⟨rfl, rfl, rfl, by simp, fun k _ h1 _ => ?_⟩, .inr (.inl rfl)⟩
  · have h1 := heap_setCell_same w g 1 _ _ (.bool true) hw.1
    have h2 := heap_setCell_same _ g 2 _ _ (.slice none 0 0) h1
    rw [h2, hd]
    rfl
  · rw [hd]; exact World.ownsRow_nil _ _ _ _
  · rw [heap_setCell_other _ _ _ _ h1, heap_setCell_other _ _ _ _ h1]

set_option maxHeartbeats 1000000 in
theorem put_bad (w : World) (B g : Nat) (S : Option Text) (v : Value) (A : Option Addr) (n c : Nat) (are : Bool) (hw : Wrt w B g S v) (h : S = none ∨ are = false) (d : Option Text) (hd : nextS S d = none) :
    Calls Try.prog 65 #[.pointer (some ⟨g, 0, none⟩), .slice A n c, .bool are] w (Put w B g S v d) := by
  have HP := Lib.hid (spoil_post hw hd)
  have h0 := cell_of_row w g 0 _ _ _ hw.1
  have h1 := cell_of_row w g 1 _ _ _ hw.1
  have f1 := frozen_of_row w g 1 _ _ hw.1
  have f2 := frozen_of_row w g 2 _ _ hw.1
  have h2 := cell_of_row w g 2 _ _ _ hw.1
  simp only [List.getElem?_toArray, List.getElem?_cons_zero, List.getElem?_cons_succ] at h0 h1 h2
  clear hw hd
  by_cases hs : S = none
  · subst hs
    simp only [Option.isNone_none] at h1
    go_enter Try.func65, Try.ntmps65
    go_wp2
    go_ret
    exact HP.out
  · obtain rfl : are = false := by rcases h with h | h; exact absurd h hs; exact h
    cases S with
    | none => exact absurd rfl hs
    | some T =>
      simp only [Option.isNone_some] at h1
      clear hs h
      go_enter Try.func65, Try.ntmps65
      go_wp2
      go_ret
      exact HP.out

theorem put_post {w w1 : World} {B g : Nat} {T l : Text} {v v' : Value} (hw : Wrt w B g (some T) v) (ho : w1.ownsRow B 5 1 v' (T.length + l.length) (T.map cellOf ++ l.map cellOf)) (hg : w.grownBy w1 v.ownBlock)
    (ha : v'.ownBlock = v.ownBlock ∨ v'.ownBlock = some w.heap.size) : Put w B g (some T) v (some l) (.returned (.pointer (some ⟨g, 0, none⟩))) (w1.setCell ⟨g, 2, none⟩ v') := by
  have hne : v'.ownBlock ≠ some g := by
    have := hw.lt
    rcases ha with h | h
    · rw [h]; exact hw.2.2.2
    · rw [h]; simp; omega
  have hh : w1.heap[g]? = some (.cells #[.bool true, .bool false, v] 74 (0, 0)) := by
    rw [hg.block g hw.lt (fun e => hw.2.2.2 e.symm)]; exact hw.1
  refine ⟨rfl, v', ⟨?_, hw.2.1, ?_, hne⟩, ⟨hg.os, hg.tape, hg.output, Nat.le_trans hg.size (by simp), fun k hk h1 h2 => ?_⟩, ?_⟩
  · rw [heap_setCell_same w1 g 2 _ _ v' hh]; rfl
  · have := own_set_far ho ⟨g, 2, none⟩ v' hne
    simpa [nextS] using this
  · rw [heap_setCell_other _ _ _ _ h1]; exact hg.block k hk h2
  · rcases ha with h | h
    · exact .inl h
    · exact .inr (.inr ⟨_, h, Nat.le_refl _⟩)

set_option maxHeartbeats 1000000 in
theorem put_ok (w : World) (B g : Nat) (T l : Text) (v : Value) (A : Option Addr) (c : Nat) (hw : Wrt w B g (some T) v) (hB : B ≤ w.heap.size) (hT : Txt w A l) (hA : A = none → l = []) (h63 : T.length + l.length ≤ 140737488355328) :
    Calls Try.prog 65 #[.pointer (some ⟨g, 0, none⟩), .slice A l.length c, .bool true] w (Put w B g (some T) v (some l)) := by
  have HP : Hid (∀ v' w1, w1.ownsRow B 5 1 v' (T.length + l.length) (T.map cellOf ++ l.map cellOf) → w.grownBy w1 v.ownBlock → (v'.ownBlock = v.ownBlock ∨ v'.ownBlock = some w.heap.size) → Put w B g (some T) v (some l) (.returned (.pointer (some ⟨g, 0, none⟩))) (w1.setCell ⟨g, 2, none⟩ v')) :=
    Lib.hid (fun v' w1 h1 h2 h3 => put_post hw h1 h2 h3)
  have h0 := cell_of_row w g 0 _ _ _ hw.1
  have h1 := cell_of_row w g 1 _ _ _ hw.1
  have h2 := cell_of_row w g 2 _ _ _ hw.1
  simp only [List.getElem?_toArray, List.getElem?_cons_zero, List.getElem?_cons_succ, Option.isNone_some] at h0 h1 h2
  have HO := Lib.hid hw.2.2.1
  have HT := Lib.hid hT
  have HA := Lib.hid hA
  have HF : Hid (∀ w1, w.grownBy w1 v.ownBlock → w1.frozen? ⟨g, 2, none⟩ = false ∧ w1.cell? ⟨g, 2, none⟩ = some v) := Lib.hid (fun w1 hg => by
    have hh : w1.heap[g]? = some (.cells #[.bool true, .bool false, v] 74 (0, 0)) := by
      rw [hg.block g hw.lt (fun e => hw.2.2.2 e.symm)]; exact hw.1
    exact ⟨frozen_of_row w1 g 2 _ _ hh, by rw [cell_of_row w1 g 2 _ _ _ hh]; rfl⟩)
  clear hT hA hw
  go_enter Try.func65, Try.ntmps65
  go_wp2_with (refine wpList_append_text (o := ⟨some 37, _, _, _, _, _⟩) rfl _ _ rfl rfl B v T.length (T.map cellOf) rfl HO.out A c l rfl HT.out HA.out h63 hB ?_; intro v1 w1 hown1 hg1 hat1; obtain ⟨hf1, hc1⟩ := HF.out w1 hg1; have HQ := Lib.hid (HP.out v1 w1 hown1 hg1 hat1); obtain ⟨A1, n1, c1, rfl⟩ := own_slice hown1; clear hown1 hg1 hat1)
  go_ret
  exact HQ.out
end Go.Proofs.Ytjcjnokpbhmmiaa
