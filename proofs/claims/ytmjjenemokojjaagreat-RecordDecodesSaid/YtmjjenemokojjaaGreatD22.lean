/- Currencies: the document's. Contracts of the library, as they are at this program: laid by the guide's tool, in plain words. Is a number right: the program's. Currencies: which texts are one: what the closure's search says, and the program's. -/
import Derived.Test.YtmjjenemokojjaaGreatD9
import Derived.Shelf.GgClosure.StringsIndexFunc
import Derived.Ground.GgwProg
import Derived.Shelf.GgClosure.StringsIndexFuncTop
import Derived.Test.YtmjjenemokojjaaGreatProg
import Derived.Test.YtmjjenemokojjaaGreatD20
import Derived.WalkMore
namespace Go.Proofs.YtmjjenemokojjaaGreat
open Go.RowKit
set_option maxRecDepth 100000

/-- three letters -/
def currT : List Nat → Bool
 | [a, b, c] => Vat.letter a && (Vat.letter b && Vat.letter c)
 | _ => false
def currB (s : ByteArray) : Bool := currT (s.data.toList.map (·.toNat))
theorem curr_three {s : ByteArray} (h : s.size = 3) : currB s = (Vat.letter (s[0]'(by omega)).toNat && (Vat.letter (s[1]'(by omega)).toNat && Vat.letter (s[2]'(by omega)).toNat)) := by
 obtain ⟨⟨l⟩⟩ := s
 match l, h with
 | [a, b, c], _ => rfl
theorem curr_not {s : ByteArray} (h : s.size ≠ 3) : currB s = false := by
 obtain ⟨⟨l⟩⟩ := s
 match l, h with
 | [], _ => rfl
 | [_], _ => rfl
 | [_, _], _ => rfl
 | [_, _, _], h => exact absurd rfl h
 | _ :: _ :: _ :: _ :: _, _ => rfl
theorem ref_currency (s : ByteArray) (w : World) (h : s.size ≤ 9223372036854775807) : Calls Tryz.prog 28 #[.string s] w fun e w' => e = .returned (.bool (currB s)) ∧ w = w' := by
 have h2 : (s.size : Int) ≤ 9223372036854775807 := by omega
 by_cases h0 : s.size = 3
 · rw [curr_three h0]
   have h3 : (s.size : Int) = 3 := by omega
   cases h4 : Vat.letter (s[0]'(by omega)).toNat <;> cases h5 : Vat.letter (s[1]'(by omega)).toNat
   all_goals
    go_enter Tryz.func28, Tryz.ntmps28
    go_wp2_with (go_at_call 55; refine (ref_letter _ w (byte_le _)).mono ?_; rintro e w1 ⟨rfl, rfl⟩)
    go_ret
    exact ⟨by simp, rfl⟩
 · rw [curr_not h0]
   have h3 : ((s.size : Int) == 3) = false := beq_false_of_ne (by omega)
   clear h0
   go_enter Tryz.func28, Tryz.ntmps28
   go_wp2
   go_ret
   exact ⟨rfl, rfl⟩
end Go.Proofs.YtmjjenemokojjaaGreat

namespace Go.Proofs
open Go.Shelf
def Tryz.laysGw17_ren : Go.Shelf.Ren := ⟨fun | 17 => 63 | 15 => 91 | 20 => 112 | n => n, fun | 9 => 9 | 23 => 81 | 4 => 4 | 3 => 3 | 0 => 0 | 21 => 21 | n => n, fun | n => n⟩
theorem Tryz.laysGw17 : Go.Proofs.LaysGw.n17 Tryz.prog Tryz.laysGw17_ren := {
 mixed := by kernel_rfl
 f15 := Tryz.func91.trans (congrArg some (by kernel_rfl))
 f17 := Tryz.func63.trans (congrArg some (by kernel_rfl))
 f20 := Tryz.func112.trans (congrArg some (by kernel_rfl))
 t0 := Tryz.underlying0
 a0 := Tryz.isAgg0
 z0 := Tryz.sizeOf0
 v0 := Tryz.zeroValue0
 i0 := by kernel_rfl
 t3 := Tryz.underlying3
 a3 := Tryz.isAgg3
 z3 := Tryz.sizeOf3
 v3 := Tryz.zeroValue3
 i3 := by kernel_rfl
 t4 := Tryz.underlying4
 a4 := Tryz.isAgg4
 z4 := Tryz.sizeOf4
 v4 := Tryz.zeroValue4
 i4 := by kernel_rfl
 t9 := Tryz.underlying9
 a9 := Tryz.isAgg9
 z9 := Tryz.sizeOf9
 v9 := Tryz.zeroValue9
 i9 := by kernel_rfl
 t21 := Tryz.underlying21
 a21 := Tryz.isAgg21
 z21 := Tryz.sizeOf21
 v21 := Tryz.zeroValue21
 i21 := by kernel_rfl
 t23 := Tryz.underlying81
 a23 := Tryz.isAgg81
 z23 := Tryz.sizeOf81
 v23 := Tryz.zeroValue81
 i23 := by kernel_rfl }
open Go.RowKit Go.Lib in
theorem Tryz.strings_ContainsFunc (g : Nat) (lb : Array Value) (eg : ∀ args w, (callFunc g args).run Tryz.prog w = .ok (.enter g args) w) (p : Nat → Bool) (s : ByteArray) (w : World) (hp : PredAt Tryz.prog g lb encR p w) :
 Calls Tryz.prog 63 #[.string s, .func (.func g) #[] lb] w fun e w' => e = .returned (.bool (decide (0 ≤ Lib.idxFunc p true s))) ∧ Below w.heap.size w w' := Any.strings_ContainsFunc Tryz.laysGw17 g lb eg p s w hp
end Go.Proofs

namespace Go.Proofs.YtmjjenemokojjaaGreat
open Go.RowKit Go.Maps
set_option maxRecDepth 1000000

def plainB (b : UInt8) : Bool := Vat.letter b.toNat || Vat.digit b.toNat
def roomN (c n : ByteArray) : Bool := Vat.country (strT c) && decide (1 ≤ n.size) && decide (n.size ≤ 20)
/-- a right number -/
def rightP (c n : ByteArray) : Bool := if isMem c then (formsOf c).any fun f => Vat.fitT (strT f) (strT n) else roomN c n && (strT n).all plainB
theorem fit_rep : ∀ t : List UInt8, Vat.fitT (Lib.repeatL [88] t.length) t = t.all plainB
 | [] => rfl
 | b :: t => by
   show Vat.fitT (88 :: Lib.repeatL [88] t.length) (b :: t) = _
   rw [Vat.fitT, fit_rep t, List.all_cons]
   rfl
/-- a text in a block of its own, as a slice of one -/
theorem strs_one (w : World) (s : ByteArray) (h : s.size ≤ 1000) : Strs (w.alloc (.cells #[.string s] 9)) (some ⟨w.heap.size, 0, none⟩) [s] := fun i hi => by
 have h0 : i = 0 := by simpa using hi
 subst h0
 refine ⟨_, rfl, by simp, ?_, h⟩
 have h7 : (⟨w.heap.size, 0, none⟩ : Addr).add 0 = ⟨w.heap.size, 0, none⟩ := by simp [Addr.add]
 rw [h7, cell_of_row _ w.heap.size 0 _ _ _ (heap_alloc_new w (.cells #[.string s] 9))]
 rfl
theorem formsOf_len (c : ByteArray) : (formsOf c).length ≤ 1000 := by
 unfold formsOf
 cases h : tabL.find? (fun p => decide (p.1 = c)) with
 | none => simp
 | some p =>
   have h1 : ∀ p ∈ tabL, p.2.length ≤ 1000 := by decide +kernel
   exact h1 p (List.mem_of_find?_eq_some h)
set_option maxHeartbeats 1000000 in
theorem code_right (c n : ByteArray) (w : World) (hc : c.size ≤ 140737488351232) (hn : n.size ≤ 9223372036854775807) (hM : MaxL w) :
 Calls Tryz.prog 32 #[.string c, .string n] w fun e w' => e = .returned (.bool (rightP c n)) ∧ Below w.heap.size w w' := by
 have HMb := Lib.hid (code_member c w (by omega) hM)
 have hn2 : (n.size : Int) ≤ 9223372036854775807 := by omega
 cases h : isMem c with
 | true =>
   have HR : Hid (rightP c n = (formsOf c).any fun f => Vat.fitT (strT f) (strT n)) := Lib.hid (by unfold rightP; rw [if_pos h])
   rw [h] at HMb
   have HF := Lib.hid (code_forms c w (by unfold maxLen; omega))
   have HO : Hid (∀ W A k, Strs W A (formsOf c) → Calls Tryz.prog 60 #[.slice A (formsOf c).length k, .string n] W fun e w' => e = .returned (.bool (rightP c n)) ∧ Below W.heap.size W w') := Lib.hid (fun W A k hS => by
    rw [HR.out]; exact code_isOneOf (formsOf c) A k n W (formsOf_len c) hn hS)
   clear h
   go_enter Tryz.func32, Tryz.ntmps32
   go_wp2_with (first
    | (go_at_call 49; refine HMb.out.mono ?_; rintro e w1 ⟨rfl, rfl⟩)
    | (go_at_call 61; refine HF.out.mono ?_; rintro e w2 ⟨A, k, rfl, hs, hb⟩; have HS := Lib.hid hs; have HB := Lib.hid hb; clear hs hb)
    | (go_at_call 60; refine (HO.out w2 A k HS.out).mono ?_; rintro e w3 ⟨rfl, hb3⟩))
   go_ret
   exact ⟨rfl, HB.out.trans (hb3.mono HB.out.size)⟩
 | false =>
   rw [h] at HMb
   have HC := Lib.hid (code_country c w (by omega))
   have HR : Hid (rightP c n = (roomN c n && (strT n).all plainB)) := Lib.hid (by unfold rightP; rw [h]; rfl)
   clear h
   cases hr : roomN c n with
   | false =>
     rw [HR.out, hr, Bool.false_and]
     unfold roomN at hr
     cases hcc : Vat.country (strT c) with
     | false =>
       rw [hcc] at HC
       clear hcc hr
       go_enter Tryz.func32, Tryz.ntmps32
       go_wp2_with (first
        | (go_at_call 49; refine HMb.out.mono ?_; rintro e w1 ⟨rfl, rfl⟩)
        | (go_at_call 31; refine HC.out.mono ?_; rintro e w1 ⟨rfl, rfl⟩))
       go_ret
       exact ⟨rfl, Below.refl _ _⟩
     | true =>
       rw [hcc] at HC hr
       rw [Bool.true_and] at hr
       clear hcc
       by_cases h1 : 1 ≤ n.size
       · have h2 : ¬ n.size ≤ 20 := fun h2 => by rw [decide_eq_true h1, decide_eq_true h2] at hr; cases hr
         have h3 : (1 : Int) ≤ (n.size : Int) := by omega
         have h4 : (20 : Int) < (n.size : Int) := by omega
         clear hr h1 h2
         go_enter Tryz.func32, Tryz.ntmps32
         go_wp2_with (first
          | (go_at_call 49; refine HMb.out.mono ?_; rintro e w1 ⟨rfl, rfl⟩)
          | (go_at_call 31; refine HC.out.mono ?_; rintro e w1 ⟨rfl, rfl⟩))
         go_ret
         exact ⟨rfl, Below.refl _ _⟩
       · have h3 : (n.size : Int) < 1 := by omega
         clear hr h1
         go_enter Tryz.func32, Tryz.ntmps32
         go_wp2_with (first
          | (go_at_call 49; refine HMb.out.mono ?_; rintro e w1 ⟨rfl, rfl⟩)
          | (go_at_call 31; refine HC.out.mono ?_; rintro e w1 ⟨rfl, rfl⟩))
         go_ret
         exact ⟨rfl, Below.refl _ _⟩
   | true =>
     unfold roomN at hr
     simp only [Bool.and_eq_true, decide_eq_true_iff] at hr
     obtain ⟨⟨hcc, h1⟩, h2⟩ := hr
     rw [hcc] at HC
     have HR2 : Hid (rightP c n = (strT n).all plainB) := Lib.hid (by rw [HR.out]; unfold roomN; rw [hcc, decide_eq_true h1, decide_eq_true h2]; rfl)
     obtain ⟨X, hX⟩ : ∃ X : ByteArray, X = ⟨(Lib.repeatL [88] n.size).toArray⟩ := ⟨_, rfl⟩
     have hXl : strT X = Lib.repeatL [88] (strT n).length := by rw [hX]; rfl
     have hXs : X.size ≤ 1000 := by
      have : (strT X).length = n.size := by
       rw [hXl]
       show (Lib.repeatL [88] n.size).length = n.size
       have hg : ∀ k : Nat, (Lib.repeatL [(88 : UInt8)] k).length = k := by
        intro k
        induction k with
        | zero => rfl
        | succ k ih => show (88 :: Lib.repeatL [88] k).length = _; rw [List.length_cons, ih]
       exact hg _
      rw [strT_length] at this
      omega
     have HO : Hid (∀ W : World, Calls Tryz.prog 60 #[.slice (some ⟨W.heap.size, 0, none⟩) 1 1, .string n] (W.alloc (.cells #[.string X] 9)) fun e w' => e = .returned (.bool (rightP c n)) ∧ Below W.heap.size W w') := Lib.hid (fun W => by
      have h := code_isOneOf [X] (some ⟨W.heap.size, 0, none⟩) 1 n (W.alloc (.cells #[.string X] 9)) (by simp) hn (strs_one W X hXs)
      refine h.mono fun e w' hh => ⟨?_, ((Below.refl W.heap.size W).alloc (Nat.le_refl _) _).trans (hh.2.mono (by simp))⟩
      rw [hh.1, HR2.out]
      simp only [List.any_cons, List.any_nil, Bool.or_false]
      rw [hXl, fit_rep])
     have HRep : Hid (Calls Tryz.prog 62 #[.string { data := #[88] }, .int .i64 n.size] w fun e w' => e = .returned (.string X) ∧ Below w.heap.size w w') := Lib.hid (by
      by_cases h3 : 2 ≤ n.size
      · rw [hX]
        exact Tryz.strings_Repeat_main { data := #[88] } n.size w h3 (by omega) (by show 1 * n.size ≤ _; omega) (by decide)
      · have h4 : n.size = 1 := by omega
        rw [hX, h4]
        refine (Tryz.strings_Repeat_one { data := #[88] } w).mono fun e w' hh => ⟨hh.1, by rw [hh.2]; exact Below.refl _ _⟩)
     have h3 : (1 : Int) ≤ (n.size : Int) := by omega
     have h4 : (n.size : Int) ≤ 20 := by omega
     clear hX hXl hXs hcc h1 h2
     go_enter Tryz.func32, Tryz.ntmps32
     go_wp2_with (first
      | (go_at_call 49; refine HMb.out.mono ?_; rintro e w1 ⟨rfl, rfl⟩)
      | (go_at_call 31; refine HC.out.mono ?_; rintro e w1 ⟨rfl, rfl⟩)
      | (go_at_call 62; refine HRep.out.mono ?_; rintro e w2 ⟨rfl, hb⟩; have HB := Lib.hid hb; clear hb)
      | (go_at_call 60; refine (HO.out w2).mono ?_; rintro e w3 ⟨rfl, hb3⟩))
     go_ret
     exact ⟨rfl, HB.out.trans (hb3.mono HB.out.size)⟩
end Go.Proofs.YtmjjenemokojjaaGreat

namespace Go.Proofs.YtmjjenemokojjaaGreat
open Go.RowKit
set_option maxRecDepth 100000
set_option linter.unusedSimpArgs false
set_option linter.unusedVariables false

theorem decode_letter (s : ByteArray) (i : Nat) : Vat.letter (Utf8.decode s i).1 = Vat.letter (s.get! i).toNat ∧ (Vat.letter (s.get! i).toNat = true → (Utf8.decode s i).2 = 1) := by
 unfold Utf8.decode
 simp only [Nat.add_zero]
 by_cases h : (s.get! i).toNat < 128
 · rw [if_pos h]
   exact ⟨rfl, fun _ => rfl⟩
 · rw [if_neg h]
   have hn : Vat.letter (s.get! i).toNat = false := by
    unfold Vat.letter
    simp only [Bool.and_eq_false_iff, decide_eq_false_iff_not]
    right
    omega
   rw [hn]
   have big : ∀ c : Nat, 128 ≤ c → Vat.letter c = false := fun c hc => by
    unfold Vat.letter
    simp only [Bool.and_eq_false_iff, decide_eq_false_iff_not]
    right
    omega
   refine ⟨?_, fun h => absurd h (by simp)⟩
   repeat' split
   all_goals
    refine big _ ?_
    first
     | (simp only [Utf8.runeError]; omega)
     | (simp only [ge_iff_le, Bool.and_eq_true, decide_eq_true_eq] at *; omega)
/-- the search of currency's closure finds nothing in three signs just if they are letters -/
theorem cur_find {s : ByteArray} (h : s.size = 3) : decide (0 ≤ Lib.idxFunc (fun r => !Vat.letter r) true s) = !currB s := by
 obtain ⟨⟨l⟩⟩ := s
 match l, h with
 | [a, b, c], _ =>
   have d0 := decode_letter ⟨⟨[a, b, c]⟩⟩ 0
   have d1 := decode_letter ⟨⟨[a, b, c]⟩⟩ 1
   have d2 := decode_letter ⟨⟨[a, b, c]⟩⟩ 2
   rw [show (⟨⟨[a, b, c]⟩⟩ : ByteArray).get! 0 = a from rfl] at d0
   rw [show (⟨⟨[a, b, c]⟩⟩ : ByteArray).get! 1 = b from rfl] at d1
   rw [show (⟨⟨[a, b, c]⟩⟩ : ByteArray).get! 2 = c from rfl] at d2
   have hv : currB ⟨⟨[a, b, c]⟩⟩ = (Vat.letter a.toNat && (Vat.letter b.toNat && Vat.letter c.toNat)) := rfl
   have hz : (⟨⟨[a, b, c]⟩⟩ : ByteArray).size = 3 := rfl
   rw [hv]
   unfold Lib.idxFunc
   rw [hz]
   generalize (⟨⟨[a, b, c]⟩⟩ : ByteArray) = s at d0 d1 d2 hz
   clear hv
   unfold Lib.idxFuncFrom
   rw [if_pos (by omega), d0.1]
   cases h0 : Vat.letter a.toNat with
   | false => simp
   | true =>
     rw [if_neg (by simp), d0.2 h0]
     unfold Lib.idxFuncFrom
     rw [if_pos (by omega), Nat.zero_add, d1.1]
     cases h1 : Vat.letter b.toNat with
     | false => simp
     | true =>
       rw [if_neg (by simp), d1.2 h1]
       unfold Lib.idxFuncFrom
       rw [if_pos (by omega), show 1 + 1 = 2 from rfl, d2.1]
       cases h2 : Vat.letter c.toNat with
       | false => simp
       | true =>
         rw [if_neg (by simp)]
         simp [Lib.idxFuncFrom]
theorem code_cur1 (r : Nat) (w : World) : Calls Tryz.prog 64 #[.int .i32 (r : Int)] w fun e w' => e = .returned (.bool (!Vat.letter r)) ∧ w = w' := by
 go_enter Tryz.func64, Tryz.ntmps64
 go_wp2
 all_goals
  go_ret
  refine ⟨ret_bool ?_, rfl⟩
  unfold Vat.letter
  rw [Bool.eq_iff_iff]
  simp
  try omega
theorem cur_pred (w : World) : PredAt Tryz.prog 64 #[] encR (fun r => !Vat.letter r) w := fun W x _ => (code_cur1 x W).mono fun e w' h => ⟨h.1, 0, h.2.symm⟩
theorem code_isCurrency (s : ByteArray) (w : World) (h : s.size ≤ 9223372036854775807) : Calls Tryz.prog 33 #[.string s] w fun e w' => e = .returned (.bool (currB s)) ∧ Below w.heap.size w w' := by
 have h2 : (s.size : Int) ≤ 9223372036854775807 := by omega
 by_cases h0 : s.size = 3
 · have HF := cur_find h0
   have h3 : (s.size : Int) = 3 := by omega
   have HC : Hid (∀ W, Calls Tryz.prog 63 #[.string s, .func (.func 64) #[] #[]] W fun e w' => e = .returned (.bool (!currB s)) ∧ Below W.heap.size W w') := Lib.hid (fun W => by rw [← HF]; exact Tryz.strings_ContainsFunc 64 #[] (fun _ _ => rfl) _ s W (cur_pred W))
   clear HF h0
   go_enter Tryz.func33, Tryz.ntmps33
   go_wp2_with (go_at_call 63; refine (HC.out _).mono ?_; rintro e w1 ⟨rfl, hb⟩; have HB := Lib.hid hb; clear hb)
   go_ret
   exact ⟨ret_bool (by simp), HB.out⟩
 · rw [curr_not h0]
   have h3 : ((s.size : Int) == 3) = false := beq_false_of_ne (by omega)
   clear h0
   go_enter Tryz.func33, Tryz.ntmps33
   go_wp2
   go_ret
   exact ⟨rfl, Below.refl _ _⟩
end Go.Proofs.YtmjjenemokojjaaGreat
