/- Commands and documents: not longer than is looked at. Small facts on bytes that lie in memory. What is written, as bytes: the program's texts and flags. A writer: what is put behind what it has, and its bytes told. -/
import Derived.Test.YtmjjenemokojjaaGreatD3
import Derived.Test.YtmjjenemokojjaaGreatD1
import Derived.Lib.LazyBuf
namespace Go.Proofs.YtmjjenemokojjaaGreat
open Go.RowKit
set_option maxRecDepth 100000
attribute [local go_sem] Oper.semAt_some

def lineB (l : LineV) : Bool := decide (l.2.2.1.size + l.2.2.2.1.size + l.2.2.2.2.1.size ≤ 300)
def linesB (L : List LineV) : Bool := L.all lineB
def lightC (x : CmdV) : Bool := decide (x.text.size ≤ 5000) && decide (x.state.size ≤ 200) && decide (x.id.size + x.refers.size ≤ 500) && decide (x.country.size + x.number.size + x.currency.size ≤ 500) && decide (x.lines.length ≤ 70) && linesB x.lines
theorem lines_next {L : List LineV} {k : Nat} (hk : k < L.length) (h : linesB (L.take k) = true) (hs : lineB L[k] = true) : linesB (L.take (k + 1)) = true := by
 rw [List.take_succ_eq_append_getElem hk]
 unfold linesB at *
 rw [List.all_append, h]
 simp [hs]
theorem lines_not {L : List LineV} {k : Nat} (hk : k < L.length) (hs : lineB L[k] = false) : linesB L = false := by
 unfold linesB
 rw [List.all_eq_false]
 exact ⟨L[k], List.getElem_mem hk, by simp [hs]⟩
set_option maxHeartbeats 4000000 in
theorem code_light (x : CmdV) (w : World) (hx : CmdVOk w x) (V : Bool) (hV : lightC x = V) :
 Calls Tryz.prog 6 #[.agg #[.int .i64 x.kind, .string x.state, .string x.text, .int .i64 x.category, .int .i64 x.bp, .int .i64 x.from_, .int .i64 x.until_, .int .i64 x.num, .int .i64 x.den, .int .i64 x.index, .int .i64 x.pk, .int .i64 x.py, .int .i64 x.pi, .string x.id, .bool x.sale, .bool x.credit, .string x.refers, .int .i64 x.day, .string x.country, .string x.number, .string x.currency, .slice x.linesA x.lines.length x.linesC]] w fun e w' => e = .returned (.bool V) ∧ Below w.heap.size w w' := by
 obtain ⟨hx1, hx2, hx3, hx4, hx5, hx6, hx7, hr, hA, hlc, hcm, hg⟩ := hx
 have HR := Lib.hid hr
 have HAn := Lib.hid hA
 have HG := Lib.hid hg
 have HV := Lib.hid hV
 have HC := Lib.hid hlc
 have HM := Lib.hid hcm
 have HBD := Lib.hid (below_alloc w (.cells #[.int .i64 x.kind, .string x.state, .string x.text, .int .i64 x.category, .int .i64 x.bp, .int .i64 x.from_, .int .i64 x.until_, .int .i64 x.num, .int .i64 x.den, .int .i64 x.index, .int .i64 x.pk, .int .i64 x.py, .int .i64 x.pi, .string x.id, .bool x.sale, .bool x.credit, .string x.refers, .int .i64 x.day, .string x.country, .string x.number, .string x.currency, .slice x.linesA x.lines.length x.linesC] 28))
 clear hr hA hg hV hlc hcm
 have j1 : (x.state.size : Int) ≤ 140737488351232 := by omega
 have j2 : (x.text.size : Int) ≤ 140737488351232 := by omega
 have j3 : (x.id.size : Int) ≤ 140737488351232 := by omega
 have j4 : (x.refers.size : Int) ≤ 140737488351232 := by omega
 have j5 : (x.country.size : Int) ≤ 140737488351232 := by omega
 have j6 : (x.number.size : Int) ≤ 140737488351232 := by omega
 have j7 : (x.currency.size : Int) ≤ 140737488351232 := by omega
 clear hx1 hx2 hx3 hx4 hx5 hx6 hx7
 by_cases c0 : x.text.size ≤ 5000
 · have i0 : (x.text.size : Int) ≤ 5000 := by omega
   by_cases c1 : x.state.size ≤ 200
   · have i1 : (x.state.size : Int) ≤ 200 := by omega
     by_cases c2 : x.id.size + x.refers.size ≤ 500
     · have i2 : (x.id.size : Int) + (x.refers.size : Int) ≤ 500 := by omega
       by_cases c3 : x.country.size + x.number.size + x.currency.size ≤ 500
       · have i3 : (x.country.size : Int) + (x.number.size : Int) + (x.currency.size : Int) ≤ 500 := by omega
         by_cases c4 : x.lines.length ≤ 70
         · have i4 : (x.lines.length : Int) ≤ 70 := by omega
           generalize x.linesA = A at HR HAn HBD ⊢
           go_enter Tryz.func6, Tryz.ntmps6
           go_wp2
           generalize hw2 : World.alloc w _ = w2 at HBD ⊢
           clear hw2
           have hl4 : (x.lines.length : Int) ≤ 4000000000000000000 := by omega
           have e : lightC x = linesB x.lines := by unfold lightC; rw [decide_eq_true c0, decide_eq_true c1, decide_eq_true c2, decide_eq_true c3, decide_eq_true c4]; rfl
           rw [e] at HV
           clear e c0 c1 c2 c3 c4 i0 i1 i2 i3 i4 j1 j2 j3 j4 j5 j6 j7
           go_loopw [55] (fun i wr => ∃ (k : Nat), k ≤ x.lines.length ∧ i = .int .i64 k ∧ Hid (linesB (x.lines.take k) = true) ∧ Hid (Below w2.heap.size w2 wr)) (fun i _ => x.lines.length - (intOf i).toNat)
           case atStart => exact ⟨0, Nat.zero_le _, rfl, Lib.hid rfl, Lib.hid (Below.refl _ _)⟩
           case round =>
            obtain ⟨k, hk, rfl, HS, HB⟩ := hrel
            by_cases hlt : k < x.lines.length
            · have hlt' : (k : Int) < (x.lines.length : Int) := by omega
              obtain ⟨b, o, rfl, hbl, y0, y1, y2, y3, y4, y5, y6, y7, y8⟩ := (HR.out.on (below_then HBD.out HB.out)).at_ k hlt
              obtain ⟨g1, g2, g3⟩ := HG.out _ (List.getElem_mem hlt)
              have HB1 := Lib.hid (fun o => below_alloc wr o)
              have hD : lineB x.lines[k] = decide (x.lines[k].2.2.1.size + x.lines[k].2.2.2.1.size + x.lines[k].2.2.2.2.1.size ≤ 300) := rfl
              have m1 : (x.lines[k].2.2.1.size : Int) ≤ 140737488351232 := by omega
              have m2 : (x.lines[k].2.2.2.1.size : Int) ≤ 140737488351232 := by omega
              have m3 : (x.lines[k].2.2.2.2.1.size : Int) ≤ 140737488351232 := by omega
              clear g1 g2 g3
              by_cases h1 : x.lines[k].2.2.1.size + x.lines[k].2.2.2.1.size + x.lines[k].2.2.2.2.1.size ≤ 300
              · have i1 : (x.lines[k].2.2.1.size : Int) + (x.lines[k].2.2.2.1.size : Int) + (x.lines[k].2.2.2.2.1.size : Int) ≤ 300 := by omega
                rw [decide_eq_true h1] at hD
                have HN := Lib.hid (lines_next hlt HS.out hD)
                clear h1 hbl hD
                go_wp2
                go_roundw
                case rel => exact ⟨k + 1, by omega, by go_num, HN, Lib.hid (below_then HB.out (HB1.out _))⟩
                case measure => simp [intOf]; omega
              · have i1 : (300 : Int) < (x.lines[k].2.2.1.size : Int) + (x.lines[k].2.2.2.1.size : Int) + (x.lines[k].2.2.2.2.1.size : Int) := by omega
                rw [decide_eq_false h1] at hD
                have HN := Lib.hid (lines_not hlt hD)
                clear h1 hbl hD
                go_wp2
                go_ret
                exact ⟨by rw [← HV.out, HN.out]; rfl, below_then HBD.out (below_then HB.out (HB1.out _))⟩
            · obtain rfl : k = x.lines.length := by omega
              have hS : linesB x.lines = true := by have := HS.out; rwa [List.take_length] at this
              have e := HV.out
              rw [hS] at e
              subst e
              clear HS HV
              go_wp2
              go_ret
              exact ⟨rfl, below_then HBD.out HB.out⟩
         · have i4 : (70 : Int) < (x.lines.length : Int) := by omega
           have HN : Hid (lightC x = false) := Lib.hid (by unfold lightC; rw [decide_eq_true c0, decide_eq_true c1, decide_eq_true c2, decide_eq_true c3, decide_eq_false c4]; simp)
           clear c0 c1 c2 c3 c4
           go_enter Tryz.func6, Tryz.ntmps6
           go_wp2
           go_ret
           exact ⟨by rw [← HV.out, HN.out]; rfl, HBD.out⟩
       · have i3 : (500 : Int) < (x.country.size : Int) + (x.number.size : Int) + (x.currency.size : Int) := by omega
         have HN : Hid (lightC x = false) := Lib.hid (by unfold lightC; rw [decide_eq_true c0, decide_eq_true c1, decide_eq_true c2, decide_eq_false c3]; simp)
         clear c0 c1 c2 c3
         go_enter Tryz.func6, Tryz.ntmps6
         go_wp2
         go_ret
         exact ⟨by rw [← HV.out, HN.out]; rfl, HBD.out⟩
     · have i2 : (500 : Int) < (x.id.size : Int) + (x.refers.size : Int) := by omega
       have HN : Hid (lightC x = false) := Lib.hid (by unfold lightC; rw [decide_eq_true c0, decide_eq_true c1, decide_eq_false c2]; simp)
       clear c0 c1 c2
       go_enter Tryz.func6, Tryz.ntmps6
       go_wp2
       go_ret
       exact ⟨by rw [← HV.out, HN.out]; rfl, HBD.out⟩
   · have i1 : (200 : Int) < (x.state.size : Int) := by omega
     have HN : Hid (lightC x = false) := Lib.hid (by unfold lightC; rw [decide_eq_true c0, decide_eq_false c1]; simp)
     clear c0 c1
     go_enter Tryz.func6, Tryz.ntmps6
     go_wp2
     go_ret
     exact ⟨by rw [← HV.out, HN.out]; rfl, HBD.out⟩
 · have i0 : (5000 : Int) < (x.text.size : Int) := by omega
   have HN : Hid (lightC x = false) := Lib.hid (by unfold lightC; rw [decide_eq_false c0]; simp)
   clear c0
   go_enter Tryz.func6, Tryz.ntmps6
   go_wp2
   go_ret
   exact ⟨by rw [← HV.out, HN.out]; rfl, HBD.out⟩
end Go.Proofs.YtmjjenemokojjaaGreat

namespace Go.Proofs.YtmjjenemokojjaaGreat
open Go.RowKit
set_option maxRecDepth 100000

theorem own_base {w : World} {B B' : Nat} {v : Value} {n : Nat} {xs : List Value} (h : w.ownsRow B 5 1 v n xs) (hB : B' ≤ B) : w.ownsRow B' 5 1 v n xs := by
 refine ⟨h.1, ?_⟩
 rcases h.2 with h | ⟨g, c, cur, h1, h2, h3⟩
 · exact .inl h
 · exact .inr ⟨g, c, cur, h1, Nat.le_trans hB h2, h3⟩
theorem le_get (k : Nat) : ∀ m i : Nat, i < k → (Blob.le k m)[i]? = some (UInt8.ofNat (m / 256 ^ i % 256)) := by
 induction k with
 | zero => intro m i h; omega
 | succ k ih =>
   intro m i h
   cases i with
   | zero => simp [Blob.le]
   | succ i =>
     have := ih (m / 256) i (by omega)
     simp only [Blob.le, List.getElem?_cons_succ]
     rw [this, Nat.div_div_eq_div_mul, show 256 * 256 ^ i = 256 ^ (i + 1) by rw [Nat.pow_succ, Nat.mul_comm]]

end Go.Proofs.YtmjjenemokojjaaGreat

namespace Go.Proofs.YtmjjenemokojjaaGreat
open Go.RowKit
set_option maxRecDepth 100000
/-- a text's bytes, behind how many there are -/
def textT (s : ByteArray) : Text := Blob.numT 0 s.size ++ strT s
def flagT (b : Bool) : Text := if b then [1] else [0]

theorem num_len (h m : Nat) (hm : m < 9223372036854775808) : (Blob.numT h m).length ≤ 9 := by
 rw [Blob.numT_length]; have := Blob.nb_8 m hm; omega

set_option maxHeartbeats 1000000 in
theorem code_text (s : ByteArray) (w : World) (hs : s.size ≤ 65536) :
 Calls Tryz.prog 94 #[.string s] w (MadeB w (textT s)) := by
 have hsz : ((s.size : Nat) : Int) ≤ 65536 := by omega
 have hn : (Blob.numT 0 s.size).length ≤ 9 := num_len 0 s.size (by omega)
 have HC : Hid (Calls Tryz.prog 93 #[.int .i64 s.size] w (MadeB w (Blob.numT 0 s.size))) := Lib.hid (code_num_pos s.size w (by omega))
 obtain ⟨J, hJ⟩ : ∃ J, J = Blob.numT 0 s.size := ⟨_, rfl⟩
 rw [← hJ] at HC hn
 have HT : Hid (textT s = J ++ strT s) := Lib.hid (by rw [hJ]; rfl)
 have HP : Hid (0 < (textT s).length) := Lib.hid (by unfold textT; rw [List.length_append, Blob.numT_length]; omega)
 clear hJ
 go_enter Tryz.func94, Tryz.ntmps94
 go_wp2_with (first
  | (go_at_call 93; refine HC.out.mono ?_; rintro e w1 ⟨g1, c1, rfl, ho1, hb1⟩; have HO1 := Lib.hid ho1; have HB1 := Lib.hid hb1; clear ho1 hb1)
  | (refine wpList_append_own_str (o := ⟨some 17, _, _, _, _, _⟩) rfl _ _ rfl w.heap.size w _ J (textT s) rfl HO1.out s rfl ?o1 HB1.out HB1.out.size HT.out ?_; (case o1 => omega); intro v2 w2 hown2 hb2; have HO2 := Lib.hid hown2; have HB2 := Lib.hid hb2; clear hown2 hb2))
 obtain ⟨g, c, hv, _, _⟩ := HO2.out.form HP.out
 subst hv
 go_ret2
 exact ⟨g, c, rfl, HO2.out, HB2.out⟩
set_option maxHeartbeats 400000 in
theorem code_text_no (s : ByteArray) (w : World) (hs : 65536 < s.size) (hm : s.size ≤ 9223372036854775807) :
 Calls Tryz.prog 94 #[.string s] w fun e w' => e = .returned (.tuple #[.slice none 0 0, .bool false]) ∧ w = w' := by
 have hsz : 65536 < ((s.size : Nat) : Int) := by omega
 go_enter Tryz.func94, Tryz.ntmps94
 go_wp2
 go_ret2
 exact ⟨rfl, rfl⟩

theorem code_flag (b : Bool) (w : World) : Calls Tryz.prog 114 #[.bool b] w (MadeB w (flagT b)) := by
 cases b
 all_goals
  go_enter Tryz.func114, Tryz.ntmps114
  go_wp2
  go_ret2
  exact ⟨_, 1, rfl, one_own w rfl, (Below.refl _ _).alloc (Nat.le_refl _) _⟩
end Go.Proofs.YtmjjenemokojjaaGreat

namespace Go.Proofs.YtmjjenemokojjaaGreat
open Go.RowKit
set_option maxRecDepth 100000

/-- a writer in block g: what was written, or nothing, if it is spoilt; v: its bytes as they lie -/
def Wrt (w : World) (B g : Nat) (S : Option Text) (v : Value) : Prop :=
 w.heap[g]? = some (.cells #[.bool true, .bool S.isNone, v] 84 (0, 0)) ∧ B ≤ g ∧ w.ownsRow B 5 1 v (S.getD []).length ((S.getD []).map cellOf) ∧ v.ownBlock ≠ some g
/-- nothing but block g and the row of v was turned -/
structure Chg (w w' : World) (g : Nat) (v : Value) : Prop where
 os : w'.os = w.os
 tape : w'.tape = w.tape
 output : w'.output = w.output
 size : w.heap.size ≤ w'.heap.size
 block : ∀ k, k < w.heap.size → k ≠ g → some k ≠ v.ownBlock → w'.heap[k]? = w.heap[k]?
theorem heap_lt {w : World} {g : Nat} {o : Obj} (h : w.heap[g]? = some o) : g < w.heap.size := (Array.getElem?_eq_some_iff.1 h).1
theorem Wrt.lt {w : World} {B g : Nat} {S : Option Text} {v : Value} (h : Wrt w B g S v) : g < w.heap.size := heap_lt h.1
theorem Wrt.below {w w' : World} {B g : Nat} {S : Option Text} {v : Value} (h : Wrt w B g S v) (hb : Below w.heap.size w w') : Wrt w' B g S v :=
 ⟨(hb.block g h.lt).trans h.1, h.2.1, own_below h.2.2.1 hb, h.2.2.2⟩
theorem Chg.of_below {w w' : World} {g : Nat} {v : Value} (hb : Below w.heap.size w w') : Chg w w' g v := ⟨hb.os, hb.tape, hb.output, hb.size, fun k hk _ _ => hb.block k hk⟩
theorem Chg.trans {a b c : World} {g : Nat} {v : Value} (h : Chg a b g v) (k : Chg b c g v) : Chg a c g v :=
 ⟨k.os.trans h.os, k.tape.trans h.tape, k.output.trans h.output, Nat.le_trans h.size k.size, fun i hi h1 h2 => (k.block i (Nat.lt_of_lt_of_le hi h.size) h1 h2).trans (h.block i hi h1 h2)⟩
theorem Chg.below {w w' : World} {B g : Nat} {S : Option Text} {v : Value} (h : Chg w w' g v) (hw : Wrt w B g S v) (hB : B ≤ w.heap.size) : Below B w w' :=
 ⟨h.os, h.tape, h.output, h.size, fun k hk => h.block k (by omega) (by have := hw.2.1; omega) (fun e => by have := (hw.2.2.1.lt k e.symm).1; omega)⟩
theorem own_set_far {w : World} {base : Nat} {v : Value} {n : Nat} {xs : List Value} (h : w.ownsRow base 5 1 v n xs) (a : Addr) (u : Value) (hne : v.ownBlock ≠ some a.block) : (w.setCell a u).ownsRow base 5 1 v n xs :=
 h.kept (row := some a.block) ⟨rfl, rfl, rfl, by simp, fun k _ hk => heap_setCell_other w a k u (fun e => hk (by rw [e]))⟩ (.inr hne)

theorem own_slice {w : World} {B n : Nat} {v : Value} {xs : List Value} (h : w.ownsRow B 5 1 v n xs) : ∃ A k c, v = .slice A k c := by
 rcases h.2 with ⟨rfl, _⟩ | ⟨g, c, cur, rfl, _⟩
 · exact ⟨_, _, _, rfl⟩
 · exact ⟨_, _, _, rfl⟩
/-- what is written behind what there is -/
def nextS (S d : Option Text) : Option Text := match S, d with
 | some T, some l => some (T ++ l)
 | _, _ => none
/-- what a writer's call leaves -/
def Put (w : World) (B g : Nat) (S : Option Text) (v : Value) (d : Option Text) (e : Ending) (w' : World) : Prop :=
 e = .returned (.pointer (some ⟨g, 0, none⟩)) ∧ ∃ v', Wrt w' B g (nextS S d) v' ∧ Chg w w' g v ∧ (v'.ownBlock = v.ownBlock ∨ v'.ownBlock = none ∨ ∃ k, v'.ownBlock = some k ∧ w.heap.size ≤ k)

theorem new_any (w : World) : Calls Tryz.prog 38 #[] w fun e w' => e = .returned (.pointer (some ⟨w.heap.size, 0, none⟩)) ∧ w' = w.alloc (.cells #[.bool true, .bool false, .slice none 0 0] 84) := by
 go_enter Tryz.func38, Tryz.ntmps38
 go_wp2
 go_ret
 exact ⟨rfl, rfl⟩
theorem new_wrt (w : World) (B : Nat) (hB : B ≤ w.heap.size) : Wrt (w.alloc (.cells #[.bool true, .bool false, .slice none 0 0] 84)) B w.heap.size (some []) (.slice none 0 0) :=
 ⟨heap_alloc_new w _, hB, World.ownsRow_nil _ _ _ _, by simp [Value.ownBlock]⟩

theorem spoil_post {w : World} {B g : Nat} {S : Option Text} {v : Value} {d : Option Text} (hw : Wrt w B g S v) (hd : nextS S d = none) :
 Put w B g S v d (.returned (.pointer (some ⟨g, 0, none⟩))) ((w.setCell ⟨g, 1, none⟩ (.bool true)).setCell ⟨g, 2, none⟩ (.slice none 0 0)) := by
 refine ⟨rfl, .slice none 0 0, ⟨?_, hw.2.1, ?_, by simp [Value.ownBlock]⟩, ⟨rfl, rfl, rfl, by simp, fun k _ h1 _ => ?_⟩, .inr (.inl rfl)⟩
 · have h1 := heap_setCell_same w g 1 _ _ (.bool true) hw.1
   have h2 := heap_setCell_same _ g 2 _ _ (.slice none 0 0) h1
   rw [h2, hd]
   rfl
 · rw [hd]; exact World.ownsRow_nil _ _ _ _
 · rw [heap_setCell_other _ _ _ _ h1, heap_setCell_other _ _ _ _ h1]

set_option maxHeartbeats 1000000 in
theorem put_bad (w : World) (B g : Nat) (S : Option Text) (v : Value) (A : Option Addr) (n c : Nat) (are : Bool) (hw : Wrt w B g S v) (h : S = none ∨ are = false) (d : Option Text) (hd : nextS S d = none) :
 Calls Tryz.prog 92 #[.pointer (some ⟨g, 0, none⟩), .slice A n c, .bool are] w (Put w B g S v d) := by
 have HP := Lib.hid (spoil_post hw hd)
 have h0 := cell_of_row w g 0 _ _ _ hw.1
 have h1 := cell_of_row w g 1 _ _ _ hw.1
 have f1 := frozen_of_row w g 1 _ _ hw.1
 have f2 := frozen_of_row w g 2 _ _ hw.1
 have h2 := cell_of_row w g 2 _ _ _ hw.1
 simp only [List.getElem?_toArray, List.getElem?_cons_zero, List.getElem?_cons_succ] at h0 h1 h2
 clear hw hd
 by_cases hs : S = none
 · subst hs
   simp only [Option.isNone_none] at h1
   go_enter Tryz.func92, Tryz.ntmps92
   go_wp2
   go_ret
   exact HP.out
 · obtain rfl : are = false := by rcases h with h | h; exact absurd h hs; exact h
   cases S with
   | none => exact absurd rfl hs
   | some T =>
     simp only [Option.isNone_some] at h1
     clear hs h
     go_enter Tryz.func92, Tryz.ntmps92
     go_wp2
     go_ret
     exact HP.out

theorem put_post {w w1 : World} {B g : Nat} {T l : Text} {v v' : Value} (hw : Wrt w B g (some T) v) (ho : w1.ownsRow B 5 1 v' (T.length + l.length) (T.map cellOf ++ l.map cellOf)) (hg : w.grownBy w1 v.ownBlock)
 (ha : v'.ownBlock = v.ownBlock ∨ v'.ownBlock = some w.heap.size) : Put w B g (some T) v (some l) (.returned (.pointer (some ⟨g, 0, none⟩))) (w1.setCell ⟨g, 2, none⟩ v') := by
 have hne : v'.ownBlock ≠ some g := by
  have := hw.lt
  rcases ha with h | h
  · rw [h]; exact hw.2.2.2
  · rw [h]; simp; omega
 have hh : w1.heap[g]? = some (.cells #[.bool true, .bool false, v] 84 (0, 0)) := by
  rw [hg.block g hw.lt (fun e => hw.2.2.2 e.symm)]; exact hw.1
 refine ⟨rfl, v', ⟨?_, hw.2.1, ?_, hne⟩, ⟨hg.os, hg.tape, hg.output, Nat.le_trans hg.size (by simp), fun k hk h1 h2 => ?_⟩, ?_⟩
 · rw [heap_setCell_same w1 g 2 _ _ v' hh]; rfl
 · have := own_set_far ho ⟨g, 2, none⟩ v' hne
   simpa [nextS] using this
 · rw [heap_setCell_other _ _ _ _ h1]; exact hg.block k hk h2
 · rcases ha with h | h
   · exact .inl h
   · exact .inr (.inr ⟨_, h, Nat.le_refl _⟩)

set_option maxHeartbeats 1000000 in
theorem put_ok (w : World) (B g : Nat) (T l : Text) (v : Value) (A : Option Addr) (c : Nat) (hw : Wrt w B g (some T) v) (hB : B ≤ w.heap.size) (hT : Txt w A l) (hA : A = none → l = []) (h63 : T.length + l.length ≤ 140737488355328) :
 Calls Tryz.prog 92 #[.pointer (some ⟨g, 0, none⟩), .slice A l.length c, .bool true] w (Put w B g (some T) v (some l)) := by
 have HP : Hid (∀ v' w1, w1.ownsRow B 5 1 v' (T.length + l.length) (T.map cellOf ++ l.map cellOf) → w.grownBy w1 v.ownBlock → (v'.ownBlock = v.ownBlock ∨ v'.ownBlock = some w.heap.size) → Put w B g (some T) v (some l) (.returned (.pointer (some ⟨g, 0, none⟩))) (w1.setCell ⟨g, 2, none⟩ v')) :=
  Lib.hid (fun v' w1 h1 h2 h3 => put_post hw h1 h2 h3)
 have h0 := cell_of_row w g 0 _ _ _ hw.1
 have h1 := cell_of_row w g 1 _ _ _ hw.1
 have h2 := cell_of_row w g 2 _ _ _ hw.1
 simp only [List.getElem?_toArray, List.getElem?_cons_zero, List.getElem?_cons_succ, Option.isNone_some] at h0 h1 h2
 have HO := Lib.hid hw.2.2.1
 have HT := Lib.hid hT
 have HA := Lib.hid hA
 have HF : Hid (∀ w1, w.grownBy w1 v.ownBlock → w1.frozen? ⟨g, 2, none⟩ = false ∧ w1.cell? ⟨g, 2, none⟩ = some v) := Lib.hid (fun w1 hg => by
  have hh : w1.heap[g]? = some (.cells #[.bool true, .bool false, v] 84 (0, 0)) := by
   rw [hg.block g hw.lt (fun e => hw.2.2.2 e.symm)]; exact hw.1
  exact ⟨frozen_of_row w1 g 2 _ _ hh, by rw [cell_of_row w1 g 2 _ _ _ hh]; rfl⟩)
 clear hT hA hw
 go_enter Tryz.func92, Tryz.ntmps92
 go_wp2_with (refine wpList_append_text (o := ⟨some 37, _, _, _, _, _⟩) rfl _ _ rfl rfl B v T.length (T.map cellOf) rfl HO.out A c l rfl HT.out HA.out h63 hB ?_; intro v1 w1 hown1 hg1 hat1; obtain ⟨hf1, hc1⟩ := HF.out w1 hg1; have HQ := Lib.hid (HP.out v1 w1 hown1 hg1 hat1); obtain ⟨A1, n1, c1, rfl⟩ := own_slice hown1; clear hown1 hg1 hat1)
 go_ret
 exact HQ.out
end Go.Proofs.YtmjjenemokojjaaGreat
