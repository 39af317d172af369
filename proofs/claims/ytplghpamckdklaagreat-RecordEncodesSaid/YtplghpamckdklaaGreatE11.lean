/- A writer: what is put behind what it has, and its bytes told. What a writer's calls leave; its bytes told; the statements' example. A writer's bytes told; the statements' example. -/
import Derived.Test.YtplghpamckdklaaGreatE1
import Derived.Test.YtplghpamckdklaaGreatE10
import Derived.Lib.LazyBuf
namespace Go.Proofs.YtplghpamckdklaaGreat
open Go.RowKit
set_option maxRecDepth 100000

/-- a writer in block g: what was written, or nothing, if it is spoilt; v: its bytes as they lie -/
def Wrt (w : World) (B g : Nat) (S : Option Text) (v : Value) : Prop :=
 w.heap[g]? = some (.cells #[.bool true, .bool S.isNone, v] 84 (0, 0)) ∧ B ≤ g ∧ w.ownsRow B 5 1 v (S.getD []).length ((S.getD []).map cellOf) ∧ v.ownBlock ≠ some g
/-- nothing but block g and the row of v was turned -/
structure Chg (w w' : World) (g : Nat) (v : Value) : Prop where
 os : w'.os = w.os
 tape : w'.tape = w.tape
 output : w'.output = w.output
 size : w.heap.size ≤ w'.heap.size
 block : ∀ k, k < w.heap.size → k ≠ g → some k ≠ v.ownBlock → w'.heap[k]? = w.heap[k]?
theorem heap_lt {w : World} {g : Nat} {o : Obj} (h : w.heap[g]? = some o) : g < w.heap.size := (Array.getElem?_eq_some_iff.1 h).1
theorem Wrt.lt {w : World} {B g : Nat} {S : Option Text} {v : Value} (h : Wrt w B g S v) : g < w.heap.size := heap_lt h.1
theorem Wrt.below {w w' : World} {B g : Nat} {S : Option Text} {v : Value} (h : Wrt w B g S v) (hb : Below w.heap.size w w') : Wrt w' B g S v :=
 ⟨(hb.block g h.lt).trans h.1, h.2.1, own_below h.2.2.1 hb, h.2.2.2⟩
theorem Chg.of_below {w w' : World} {g : Nat} {v : Value} (hb : Below w.heap.size w w') : Chg w w' g v := ⟨hb.os, hb.tape, hb.output, hb.size, fun k hk _ _ => hb.block k hk⟩
theorem Chg.trans {a b c : World} {g : Nat} {v : Value} (h : Chg a b g v) (k : Chg b c g v) : Chg a c g v :=
 ⟨k.os.trans h.os, k.tape.trans h.tape, k.output.trans h.output, Nat.le_trans h.size k.size, fun i hi h1 h2 => (k.block i (Nat.lt_of_lt_of_le hi h.size) h1 h2).trans (h.block i hi h1 h2)⟩
theorem Chg.below {w w' : World} {B g : Nat} {S : Option Text} {v : Value} (h : Chg w w' g v) (hw : Wrt w B g S v) (hB : B ≤ w.heap.size) : Below B w w' :=
 ⟨h.os, h.tape, h.output, h.size, fun k hk => h.block k (by omega) (by have := hw.2.1; omega) (fun e => by have := (hw.2.2.1.lt k e.symm).1; omega)⟩
theorem own_set_far {w : World} {base : Nat} {v : Value} {n : Nat} {xs : List Value} (h : w.ownsRow base 5 1 v n xs) (a : Addr) (u : Value) (hne : v.ownBlock ≠ some a.block) : (w.setCell a u).ownsRow base 5 1 v n xs :=
 h.kept (row := some a.block) ⟨rfl, rfl, rfl, by simp, fun k _ hk => heap_setCell_other w a k u (fun e => hk (by rw [e]))⟩ (.inr hne)

theorem own_slice {w : World} {B n : Nat} {v : Value} {xs : List Value} (h : w.ownsRow B 5 1 v n xs) : ∃ A k c, v = .slice A k c := by
 rcases h.2 with ⟨rfl, _⟩ | ⟨g, c, cur, rfl, _⟩
 · exact ⟨_, _, _, rfl⟩
 · exact ⟨_, _, _, rfl⟩
/-- what is written behind what there is -/
def nextS (S d : Option Text) : Option Text := match S, d with
 | some T, some l => some (T ++ l)
 | _, _ => none
/-- what a writer's call leaves -/
def Put (w : World) (B g : Nat) (S : Option Text) (v : Value) (d : Option Text) (e : Ending) (w' : World) : Prop :=
 e = .returned (.pointer (some ⟨g, 0, none⟩)) ∧ ∃ v', Wrt w' B g (nextS S d) v' ∧ Chg w w' g v ∧ (v'.ownBlock = v.ownBlock ∨ v'.ownBlock = none ∨ ∃ k, v'.ownBlock = some k ∧ w.heap.size ≤ k)

theorem new_any (w : World) : Calls Tryz.prog 38 #[] w fun e w' => e = .returned (.pointer (some ⟨w.heap.size, 0, none⟩)) ∧ w' = w.alloc (.cells #[.bool true, .bool false, .slice none 0 0] 84) := by
 go_enter Tryz.func38, Tryz.ntmps38
 go_wp2
 go_ret
 exact ⟨rfl, rfl⟩
theorem new_wrt (w : World) (B : Nat) (hB : B ≤ w.heap.size) : Wrt (w.alloc (.cells #[.bool true, .bool false, .slice none 0 0] 84)) B w.heap.size (some []) (.slice none 0 0) :=
 ⟨heap_alloc_new w _, hB, World.ownsRow_nil _ _ _ _, by simp [Value.ownBlock]⟩

theorem spoil_post {w : World} {B g : Nat} {S : Option Text} {v : Value} {d : Option Text} (hw : Wrt w B g S v) (hd : nextS S d = none) :
 Put w B g S v d (.returned (.pointer (some ⟨g, 0, none⟩))) ((w.setCell ⟨g, 1, none⟩ (.bool true)).setCell ⟨g, 2, none⟩ (.slice none 0 0)) := by
 refine ⟨rfl, .slice none 0 0, ⟨?_, hw.2.1, ?_, by simp [Value.ownBlock]⟩, ⟨rfl, rfl, rfl, by simp, fun k _ h1 _ => ?_⟩, .inr (.inl rfl)⟩
 · have h1 := heap_setCell_same w g 1 _ _ (.bool true) hw.1
   have h2 := heap_setCell_same _ g 2 _ _ (.slice none 0 0) h1
   rw [h2, hd]
   rfl
 · rw [hd]; exact World.ownsRow_nil _ _ _ _
 · rw [heap_setCell_other _ _ _ _ h1, heap_setCell_other _ _ _ _ h1]

set_option maxHeartbeats 1000000 in
theorem put_bad (w : World) (B g : Nat) (S : Option Text) (v : Value) (A : Option Addr) (n c : Nat) (are : Bool) (hw : Wrt w B g S v) (h : S = none ∨ are = false) (d : Option Text) (hd : nextS S d = none) :
 Calls Tryz.prog 92 #[.pointer (some ⟨g, 0, none⟩), .slice A n c, .bool are] w (Put w B g S v d) := by
 have HP := Lib.hid (spoil_post hw hd)
 have h0 := cell_of_row w g 0 _ _ _ hw.1
 have h1 := cell_of_row w g 1 _ _ _ hw.1
 have f1 := frozen_of_row w g 1 _ _ hw.1
 have f2 := frozen_of_row w g 2 _ _ hw.1
 have h2 := cell_of_row w g 2 _ _ _ hw.1
 simp only [List.getElem?_toArray, List.getElem?_cons_zero, List.getElem?_cons_succ] at h0 h1 h2
 clear hw hd
 by_cases hs : S = none
 · subst hs
   simp only [Option.isNone_none] at h1
   go_enter Tryz.func92, Tryz.ntmps92
   go_wp2
   go_ret
   exact HP.out
 · obtain rfl : are = false := by rcases h with h | h; exact absurd h hs; exact h
   cases S with
   | none => exact absurd rfl hs
   | some T =>
     simp only [Option.isNone_some] at h1
     clear hs h
     go_enter Tryz.func92, Tryz.ntmps92
     go_wp2
     go_ret
     exact HP.out

theorem put_post {w w1 : World} {B g : Nat} {T l : Text} {v v' : Value} (hw : Wrt w B g (some T) v) (ho : w1.ownsRow B 5 1 v' (T.length + l.length) (T.map cellOf ++ l.map cellOf)) (hg : w.grownBy w1 v.ownBlock)
 (ha : v'.ownBlock = v.ownBlock ∨ v'.ownBlock = some w.heap.size) : Put w B g (some T) v (some l) (.returned (.pointer (some ⟨g, 0, none⟩))) (w1.setCell ⟨g, 2, none⟩ v') := by
 have hne : v'.ownBlock ≠ some g := by
  have := hw.lt
  rcases ha with h | h
  · rw [h]; exact hw.2.2.2
  · rw [h]; simp; omega
 have hh : w1.heap[g]? = some (.cells #[.bool true, .bool false, v] 84 (0, 0)) := by
  rw [hg.block g hw.lt (fun e => hw.2.2.2 e.symm)]; exact hw.1
 refine ⟨rfl, v', ⟨?_, hw.2.1, ?_, hne⟩, ⟨hg.os, hg.tape, hg.output, Nat.le_trans hg.size (by simp), fun k hk h1 h2 => ?_⟩, ?_⟩
 · rw [heap_setCell_same w1 g 2 _ _ v' hh]; rfl
 · have := own_set_far ho ⟨g, 2, none⟩ v' hne
   simpa [nextS] using this
 · rw [heap_setCell_other _ _ _ _ h1]; exact hg.block k hk h2
 · rcases ha with h | h
   · exact .inl h
   · exact .inr (.inr ⟨_, h, Nat.le_refl _⟩)

set_option maxHeartbeats 1000000 in
theorem put_ok (w : World) (B g : Nat) (T l : Text) (v : Value) (A : Option Addr) (c : Nat) (hw : Wrt w B g (some T) v) (hB : B ≤ w.heap.size) (hT : Txt w A l) (hA : A = none → l = []) (h63 : T.length + l.length ≤ 140737488355328) :
 Calls Tryz.prog 92 #[.pointer (some ⟨g, 0, none⟩), .slice A l.length c, .bool true] w (Put w B g (some T) v (some l)) := by
 have HP : Hid (∀ v' w1, w1.ownsRow B 5 1 v' (T.length + l.length) (T.map cellOf ++ l.map cellOf) → w.grownBy w1 v.ownBlock → (v'.ownBlock = v.ownBlock ∨ v'.ownBlock = some w.heap.size) → Put w B g (some T) v (some l) (.returned (.pointer (some ⟨g, 0, none⟩))) (w1.setCell ⟨g, 2, none⟩ v')) :=
  Lib.hid (fun v' w1 h1 h2 h3 => put_post hw h1 h2 h3)
 have h0 := cell_of_row w g 0 _ _ _ hw.1
 have h1 := cell_of_row w g 1 _ _ _ hw.1
 have h2 := cell_of_row w g 2 _ _ _ hw.1
 simp only [List.getElem?_toArray, List.getElem?_cons_zero, List.getElem?_cons_succ, Option.isNone_some] at h0 h1 h2
 have HO := Lib.hid hw.2.2.1
 have HT := Lib.hid hT
 have HA := Lib.hid hA
 have HF : Hid (∀ w1, w.grownBy w1 v.ownBlock → w1.frozen? ⟨g, 2, none⟩ = false ∧ w1.cell? ⟨g, 2, none⟩ = some v) := Lib.hid (fun w1 hg => by
  have hh : w1.heap[g]? = some (.cells #[.bool true, .bool false, v] 84 (0, 0)) := by
   rw [hg.block g hw.lt (fun e => hw.2.2.2 e.symm)]; exact hw.1
  exact ⟨frozen_of_row w1 g 2 _ _ hh, by rw [cell_of_row w1 g 2 _ _ _ hh]; rfl⟩)
 clear hT hA hw
 go_enter Tryz.func92, Tryz.ntmps92
 go_wp2_with (refine wpList_append_text (o := ⟨some 37, _, _, _, _, _⟩) rfl _ _ rfl rfl B v T.length (T.map cellOf) rfl HO.out A c l rfl HT.out HA.out h63 hB ?_; intro v1 w1 hown1 hg1 hat1; obtain ⟨hf1, hc1⟩ := HF.out w1 hg1; have HQ := Lib.hid (HP.out v1 w1 hown1 hg1 hat1); obtain ⟨A1, n1, c1, rfl⟩ := own_slice hown1; clear hown1 hg1 hat1)
 go_ret
 exact HQ.out
end Go.Proofs.YtplghpamckdklaaGreat

namespace Go.Proofs.YtplghpamckdklaaGreat
open Go.RowKit
set_option maxRecDepth 100000

/-- a number's bytes; the least has none -/
def docN (n : Int) : Option Text := if n = -9223372036854775808 then none else some (if n < 0 then Blob.numT 128 (-n).toNat else Blob.numT 0 n.toNat)
/-- a text's bytes; too long a one has none -/
def docS (s : ByteArray) : Option Text := if 65536 < s.size then none else some (textT s)
/-- what a call for bytes leaves -/
def Doc (w : World) (d : Option Text) (e : Ending) (w' : World) : Prop := match d with
 | some l => MadeB w l e w'
 | none => e = .returned (.tuple #[.slice none 0 0, .bool false]) ∧ w = w'

theorem code_numD (n : Int) (w : World) (h1 : -9223372036854775808 ≤ n) (h2 : n ≤ 9223372036854775807) : Calls Tryz.prog 93 #[.int .i64 n] w (Doc w (docN n)) := by
 unfold docN
 by_cases h : n = -9223372036854775808
 · rw [if_pos h, h]; exact code_num_min w
 · rw [if_neg h]
   by_cases h0 : n < 0
   · rw [if_pos h0]
     have := code_num_neg (-n).toNat w (by omega) (by omega)
     rw [show -(((-n).toNat : Nat) : Int) = n by omega] at this
     exact this
   · rw [if_neg h0]
     have := code_num_pos n.toNat w (by omega)
     rw [show ((n.toNat : Nat) : Int) = n by omega] at this
     exact this
theorem code_textD (s : ByteArray) (w : World) (h : s.size ≤ 9223372036854775807) : Calls Tryz.prog 94 #[.string s] w (Doc w (docS s)) := by
 unfold docS
 by_cases h0 : 65536 < s.size
 · rw [if_pos h0]; exact code_text_no s w h0 h
 · rw [if_neg h0]; exact code_text s w (by omega)
theorem docN_len (n : Int) (h1 : -9223372036854775808 ≤ n) (h2 : n ≤ 9223372036854775807) : ((docN n).getD []).length ≤ 70000 := by
 unfold docN
 by_cases h : n = -9223372036854775808
 · rw [if_pos h]; simp
 · rw [if_neg h]
   by_cases h0 : n < 0
   · rw [if_pos h0]; have := num_len 128 (-n).toNat (by omega); simp only [Option.getD_some]; omega
   · rw [if_neg h0]; have := num_len 0 n.toNat (by omega); simp only [Option.getD_some]; omega
theorem docS_len (s : ByteArray) : ((docS s).getD []).length ≤ 70000 := by
 unfold docS
 by_cases h0 : 65536 < s.size
 · rw [if_pos h0]; simp
 · rw [if_neg h0]
   have := num_len 0 s.size (by omega)
   simp only [Option.getD_some, textT, List.length_append, strT_length]; omega

theorem Put.later {w w1 w' : World} {B g : Nat} {S d : Option Text} {v : Value} {e : Ending} (h : Put w1 B g S v d e w') (hb : Below w.heap.size w w1) : Put w B g S v d e w' := by
 obtain ⟨h1, v', h2, h3, h4⟩ := h
 refine ⟨h1, v', h2, (Chg.of_below hb).trans h3, ?_⟩
 rcases h4 with h | h | ⟨k, h, hk⟩
 · exact .inl h
 · exact .inr (.inl h)
 · exact .inr (.inr ⟨k, h, Nat.le_trans hb.size hk⟩)
/-- whatever bytes there are, or none, a writer puts them so -/
theorem put_any (w : World) (B g : Nat) (S : Option Text) (v : Value) (l : Text) (A : Option Addr) (c : Nat) (hw : Wrt w B g S v) (hB : B ≤ w.heap.size) (hT : Txt w A l) (hA : A = none → l = []) (h63 : (S.getD []).length + l.length ≤ 140737488355328) :
 Calls Tryz.prog 92 #[.pointer (some ⟨g, 0, none⟩), .slice A l.length c, .bool true] w (Put w B g S v (some l)) := by
 cases S with
 | none => exact put_bad w B g none v A l.length c true hw (.inl rfl) (some l) rfl
 | some T => exact put_ok w B g T l v A c hw hB hT hA h63
theorem put_none (w : World) (B g : Nat) (S : Option Text) (v : Value) (hw : Wrt w B g S v) :
 Calls Tryz.prog 92 #[.pointer (some ⟨g, 0, none⟩), .slice none 0 0, .bool false] w (Put w B g S v none) :=
 put_bad w B g S v none 0 0 false hw (.inr rfl) none (by cases S <;> rfl)

set_option maxHeartbeats 1000000 in
theorem code_wnum (n : Int) (w : World) (B g : Nat) (S : Option Text) (v : Value) (hw : Wrt w B g S v) (hB : B ≤ w.heap.size) (h1 : -9223372036854775808 ≤ n) (h2 : n ≤ 9223372036854775807) (hS : (S.getD []).length ≤ 140737488000000) :
 Calls Tryz.prog 66 #[.pointer (some ⟨g, 0, none⟩), .int .i64 n] w (Put w B g S v (docN n)) := by
 have HC := code_numD n w h1 h2
 have hl := docN_len n h1 h2
 clear h1 h2
 cases hd : docN n with
 | none =>
   rw [hd] at HC
   have HC := Lib.hid HC
   have HP := Lib.hid (put_none w B g S v hw)
   clear hd hl hS hw
   go_enter Tryz.func66, Tryz.ntmps66
   go_wp2_with (first
    | (go_at_call 93; refine HC.out.mono ?_; rintro e w1 ⟨rfl, rfl⟩)
    | (go_at_call 92; refine HP.out.mono ?_; rintro e w2 hput; obtain ⟨rfl, hput2⟩ := id hput; have HQ := Lib.hid hput; clear hput hput2))
   go_ret
   exact HQ.out
 | some l =>
   rw [hd] at HC hl
   have HC := Lib.hid HC
   have HP : Hid (∀ w1 A c, Below w.heap.size w w1 → Txt w1 A l → (A = none → l = []) → Calls Tryz.prog 92 #[.pointer (some ⟨g, 0, none⟩), .slice A l.length c, .bool true] w1 (Put w B g S v (some l))) := Lib.hid (fun w1 A c hb hT hA =>
    (put_any w1 B g S v l A c (hw.below hb) (Nat.le_trans hB hb.size) hT hA (by simp only [Option.getD_some] at hl; omega)).mono fun e w' h => h.later hb)
   clear hd hl hS hw
   go_enter Tryz.func66, Tryz.ntmps66
   go_wp2_with (first
    | (go_at_call 93; refine HC.out.mono ?_; rintro e w1 ⟨g1, c1, rfl, ho1, hb1⟩; have HO1 := Lib.hid ho1; have HB1 := Lib.hid hb1; clear ho1 hb1)
    | (go_at_call 92; refine (HP.out w1 _ _ HB1.out (.of_own HO1.out) (by simp)).mono ?_; rintro e w2 hput; obtain ⟨rfl, hput2⟩ := id hput; have HQ := Lib.hid hput; clear hput hput2))
   go_ret
   exact HQ.out
set_option maxHeartbeats 1000000 in
theorem code_wtext (s : ByteArray) (w : World) (B g : Nat) (S : Option Text) (v : Value) (hw : Wrt w B g S v) (hB : B ≤ w.heap.size) (h1 : s.size ≤ 9223372036854775807) (hS : (S.getD []).length ≤ 140737488000000) :
 Calls Tryz.prog 67 #[.pointer (some ⟨g, 0, none⟩), .string s] w (Put w B g S v (docS s)) := by
 have HC := code_textD s w h1
 have hl := docS_len s
 clear h1
 cases hd : docS s with
 | none =>
   rw [hd] at HC
   have HC := Lib.hid HC
   have HP := Lib.hid (put_none w B g S v hw)
   clear hd hl hS hw
   go_enter Tryz.func67, Tryz.ntmps67
   go_wp2_with (first
    | (go_at_call 94; refine HC.out.mono ?_; rintro e w1 ⟨rfl, rfl⟩)
    | (go_at_call 92; refine HP.out.mono ?_; rintro e w2 hput; obtain ⟨rfl, hput2⟩ := id hput; have HQ := Lib.hid hput; clear hput hput2))
   go_ret
   exact HQ.out
 | some l =>
   rw [hd] at HC hl
   have HC := Lib.hid HC
   have HP : Hid (∀ w1 A c, Below w.heap.size w w1 → Txt w1 A l → (A = none → l = []) → Calls Tryz.prog 92 #[.pointer (some ⟨g, 0, none⟩), .slice A l.length c, .bool true] w1 (Put w B g S v (some l))) := Lib.hid (fun w1 A c hb hT hA =>
    (put_any w1 B g S v l A c (hw.below hb) (Nat.le_trans hB hb.size) hT hA (by simp only [Option.getD_some] at hl; omega)).mono fun e w' h => h.later hb)
   clear hd hl hS hw
   go_enter Tryz.func67, Tryz.ntmps67
   go_wp2_with (first
    | (go_at_call 94; refine HC.out.mono ?_; rintro e w1 ⟨g1, c1, rfl, ho1, hb1⟩; have HO1 := Lib.hid ho1; have HB1 := Lib.hid hb1; clear ho1 hb1)
    | (go_at_call 92; refine (HP.out w1 _ _ HB1.out (.of_own HO1.out) (by simp)).mono ?_; rintro e w2 hput; obtain ⟨rfl, hput2⟩ := id hput; have HQ := Lib.hid hput; clear hput hput2))
   go_ret
   exact HQ.out
theorem flag_len (b : Bool) : (flagT b).length = 1 := by cases b <;> rfl
set_option maxHeartbeats 1000000 in
theorem code_wflag (b : Bool) (w : World) (B g : Nat) (S : Option Text) (v : Value) (hw : Wrt w B g S v) (hB : B ≤ w.heap.size) (hS : (S.getD []).length ≤ 140737488000000) :
 Calls Tryz.prog 95 #[.pointer (some ⟨g, 0, none⟩), .bool b] w (Put w B g S v (some (flagT b))) := by
 have HC := Lib.hid (code_flag b w)
 obtain ⟨l, hl⟩ : ∃ l, l = flagT b := ⟨_, rfl⟩
 have hll : l.length = 1 := by rw [hl, flag_len]
 rw [← hl] at HC ⊢
 have HP : Hid (∀ w1 A c, Below w.heap.size w w1 → Txt w1 A l → (A = none → l = []) → Calls Tryz.prog 92 #[.pointer (some ⟨g, 0, none⟩), .slice A l.length c, .bool true] w1 (Put w B g S v (some l))) := Lib.hid (fun w1 A c hb hT hA =>
  (put_any w1 B g S v l A c (hw.below hb) (Nat.le_trans hB hb.size) hT hA (by omega)).mono fun e w' h => h.later hb)
 clear hl hS hw hll
 go_enter Tryz.func95, Tryz.ntmps95
 go_wp2_with (first
  | (go_at_call 114; refine HC.out.mono ?_; rintro e w1 ⟨g1, c1, rfl, ho1, hb1⟩; have HO1 := Lib.hid ho1; have HB1 := Lib.hid hb1; clear ho1 hb1)
  | (go_at_call 92; refine (HP.out w1 _ _ HB1.out (.of_own HO1.out) (by simp)).mono ?_; rintro e w2 hput; obtain ⟨rfl, hput2⟩ := id hput; have HQ := Lib.hid hput; clear hput hput2))
 go_ret
 exact HQ.out
end Go.Proofs.YtplghpamckdklaaGreat

namespace Go.Proofs.YtplghpamckdklaaGreat
open Go.RowKit
set_option maxRecDepth 100000

/-- a text told, wherever it lies -/
def Told (w : World) (T : Text) (e : Ending) (w' : World) : Prop := ∃ A c, e = .returned (.slice A T.length c) ∧ Txt w' A T ∧ (A = none → T = []) ∧ Below w.heap.size w w'
set_option maxHeartbeats 1000000 in
theorem code_clone (T : Text) (A : Option Addr) (cap : Nat) (w : World) (hm : T.length ≤ 140737488351232) (hT : Txt w A T) (hA : A = none → T = []) :
 Calls Tryz.prog 69 #[.slice A T.length cap] w (Told w T) := by
 have hnil := fun (W : World) (A : Option Addr) => Lib.run_eql_slice_nil (P := Tryz.prog) W 36 5 A T.length cap 0 0 Tryz.underlying36
 cases A with
 | none =>
   have HA : Hid (T = []) := Lib.hid (hA rfl)
   clear hT hA
   go_enter Tryz.func69, Tryz.ntmps69
   go_wp2
   go_ret
   exact ⟨none, 0, by rw [HA.out]; rfl, by rw [HA.out]; exact Txt.none_, fun _ => HA.out, Below.refl _ _⟩
 | some a =>
   have HT := Lib.hid (hT.alloc (.cells #[] 5))
   have HO := Lib.hid (empty_own w)
   have HB0 := Lib.hid ((Below.refl w.heap.size w).alloc (Nat.le_refl _) (.cells #[] 5))
   clear hT hA
   go_enter Tryz.func69, Tryz.ntmps69
   go_wp2_with (refine wpList_append_own_text (o := ⟨some 7, _, _, _, _, _⟩) rfl _ _ rfl rfl w.heap.size w _ [] T T rfl HO.out (some a) cap rfl HT.out ?c0 ?c1 HB0.out ?c2 rfl ?_; (case c0 => simp); (case c1 => simp; omega); (case c2 => simp); intro v1 w1 hown1 hb1 hv1; obtain ⟨A1, c1, rfl, ht1, hn1⟩ := own_txt hown1; have HT1 := Lib.hid ht1; have HN1 := Lib.hid hn1; have HB1 := Lib.hid hb1; clear hown1 hb1 hv1 ht1 hn1)
   go_ret
   exact ⟨A1, c1, rfl, HT1.out, HN1.out, HB1.out⟩

/-- what Bytes tells of a writer -/
def Bytes (w : World) (S : Option Text) (e : Ending) (w' : World) : Prop :=
 Below w.heap.size w w' ∧ ∃ A c, e = .returned (.tuple #[.slice A (S.getD []).length c, .int .i64 (if S.isNone then 2 else 0)]) ∧ Txt w' A (S.getD []) ∧ (A = none → S.getD [] = [])
set_option maxHeartbeats 1000000 in
theorem code_bytes (w : World) (B g : Nat) (S : Option Text) (v : Value) (hw : Wrt w B g S v) (hS : (S.getD []).length ≤ 140737488000000) :
 Calls Tryz.prog 40 #[.pointer (some ⟨g, 0, none⟩)] w (Bytes w S) := by
 have h0 := cell_of_row w g 0 _ _ _ hw.1
 have h1 := cell_of_row w g 1 _ _ _ hw.1
 have h2 := cell_of_row w g 2 _ _ _ hw.1
 simp only [List.getElem?_toArray, List.getElem?_cons_zero, List.getElem?_cons_succ] at h0 h1 h2
 cases S with
 | none =>
   simp only [Option.isNone_none] at h1
   clear hw hS
   go_enter Tryz.func40, Tryz.ntmps40
   go_wp2
   go_ret2
   exact ⟨Below.refl _ _, none, 0, rfl, Txt.none_, fun _ => rfl⟩
 | some T =>
   simp only [Option.isNone_some] at h1
   obtain ⟨A1, c1, rfl, ht1, hn1⟩ := own_txt hw.2.2.1
   have HC := Lib.hid (code_clone T A1 c1 w (by simp only [Option.getD_some] at hS; omega) ht1 hn1)
   simp only [Option.getD_some] at h2
   clear hw hS ht1 hn1
   go_enter Tryz.func40, Tryz.ntmps40
   go_wp2_with (go_at_call 69; refine HC.out.mono ?_; rintro e w1 ⟨A2, c2, rfl, ht2, hn2, hb2⟩; have HT2 := Lib.hid ht2; have HN2 := Lib.hid hn2; have HB2 := Lib.hid hb2; clear ht2 hn2 hb2)
   go_ret2
   exact ⟨HB2.out, A2, c2, rfl, HT2.out, HN2.out⟩

def s1 : Option Text := nextS (some []) (docN 300)
def s2 : Option Text := nextS s1 (docN (-1))
def s3 : Option Text := nextS s2 (docN 0)
def abS : ByteArray := { data := #[97, 98] }
def s4 : Option Text := nextS s3 (docS abS)
def livesT : Text := [2, 1, 44, 129, 1, 0, 1, 2, 97, 98]
theorem s1_eq : s1 = some [2, 1, 44] := by decide +kernel
theorem s2_eq : s2 = some [2, 1, 44, 129, 1] := by decide +kernel
theorem s3_eq : s3 = some [2, 1, 44, 129, 1, 0] := by decide +kernel
theorem s4_eq : s4 = some livesT := by decide +kernel

end Go.Proofs.YtplghpamckdklaaGreat
