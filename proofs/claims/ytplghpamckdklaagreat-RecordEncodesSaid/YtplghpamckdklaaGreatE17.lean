/- Commands: what may be: the program's, by what it calls. Currencies: the document's. Contracts of the library, as they are at this program: laid by the guide's tool, in plain words. -/
import Derived.Test.YtplghpamckdklaaGreatE9
import Derived.WalkMore
import Derived.Test.YtplghpamckdklaaGreatE5
import Derived.Shelf.GgClosure.StringsIndexFunc
import Derived.Ground.GgwProg
import Derived.Shelf.GgClosure.StringsIndexFuncTop
import Derived.Test.YtplghpamckdklaaGreatProg
namespace Go.Proofs.YtplghpamckdklaaGreat
open Go.RowKit
set_option maxRecDepth 100000
set_option linter.unusedSimpArgs false
set_option linter.unusedVariables false

theorem good_any (cs : Array Value) (k : Int) (u : Array Value) (a s : Bool) (w : World) (hs : cs.size = 22) (hk : cs[0]? = some (.int .i64 k)) (HA : Hid (∀ W, Below w.heap.size w W → Calls Tryz.prog 20 #[.agg cs] W fun e w1 => e = .returned (.bool a) ∧ Below W.heap.size W w1)) (HU : Hid (∀ W, Calls Tryz.prog 22 #[.agg cs] W fun e w1 => e = .returned (.agg u) ∧ Below W.heap.size W w1)) (HSm : Hid (∀ W, Below w.heap.size w W → Calls Tryz.prog 21 #[.agg u, .agg #[.int .i64 k, .string ⟨#[]⟩, .string ⟨#[]⟩, .int .i64 0, .int .i64 0, .int .i64 0, .int .i64 0, .int .i64 0, .int .i64 0, .int .i64 0, .int .i64 0, .int .i64 0, .int .i64 0, .string ⟨#[]⟩, .bool false, .bool false, .string ⟨#[]⟩, .int .i64 0, .string ⟨#[]⟩, .string ⟨#[]⟩, .string ⟨#[]⟩, .slice none 0 0]] W fun e w1 => e = .returned (.bool s) ∧ Below W.heap.size W w1)) : Calls Tryz.prog 8 #[.agg cs] w fun e w1 => e = .returned (.bool (a && s)) ∧ Below w.heap.size w w1 := by
 cases a
 · exact good_no cs k w hs hk HA
 · rw [Bool.true_and]
   exact good_yes cs k u s w hs hk HA HU HSm
end Go.Proofs.YtplghpamckdklaaGreat

namespace Go.Proofs.YtplghpamckdklaaGreat
open Go.RowKit
set_option maxRecDepth 100000

/-- three letters -/
def currT : List Nat → Bool
 | [a, b, c] => Vat.letter a && (Vat.letter b && Vat.letter c)
 | _ => false
def currB (s : ByteArray) : Bool := currT (s.data.toList.map (·.toNat))
theorem curr_three {s : ByteArray} (h : s.size = 3) : currB s = (Vat.letter (s[0]'(by omega)).toNat && (Vat.letter (s[1]'(by omega)).toNat && Vat.letter (s[2]'(by omega)).toNat)) := by
 obtain ⟨⟨l⟩⟩ := s
 match l, h with
 | [a, b, c], _ => rfl
theorem curr_not {s : ByteArray} (h : s.size ≠ 3) : currB s = false := by
 obtain ⟨⟨l⟩⟩ := s
 match l, h with
 | [], _ => rfl
 | [_], _ => rfl
 | [_, _], _ => rfl
 | [_, _, _], h => exact absurd rfl h
 | _ :: _ :: _ :: _ :: _, _ => rfl
theorem ref_currency (s : ByteArray) (w : World) (h : s.size ≤ 9223372036854775807) : Calls Tryz.prog 28 #[.string s] w fun e w' => e = .returned (.bool (currB s)) ∧ w = w' := by
 have h2 : (s.size : Int) ≤ 9223372036854775807 := by omega
 by_cases h0 : s.size = 3
 · rw [curr_three h0]
   have h3 : (s.size : Int) = 3 := by omega
   cases h4 : Vat.letter (s[0]'(by omega)).toNat <;> cases h5 : Vat.letter (s[1]'(by omega)).toNat
   all_goals
    go_enter Tryz.func28, Tryz.ntmps28
    go_wp2_with (go_at_call 55; refine (ref_letter _ w (byte_le _)).mono ?_; rintro e w1 ⟨rfl, rfl⟩)
    go_ret
    exact ⟨by simp, rfl⟩
 · rw [curr_not h0]
   have h3 : ((s.size : Int) == 3) = false := beq_false_of_ne (by omega)
   clear h0
   go_enter Tryz.func28, Tryz.ntmps28
   go_wp2
   go_ret
   exact ⟨rfl, rfl⟩
end Go.Proofs.YtplghpamckdklaaGreat

namespace Go.Proofs
open Go.Shelf
def Tryz.laysGw17_ren : Go.Shelf.Ren := ⟨fun | 17 => 63 | 15 => 91 | 20 => 112 | n => n, fun | 9 => 9 | 23 => 81 | 4 => 4 | 3 => 3 | 0 => 0 | 21 => 21 | n => n, fun | n => n⟩
theorem Tryz.laysGw17 : Go.Proofs.LaysGw.n17 Tryz.prog Tryz.laysGw17_ren := {
 mixed := by kernel_rfl
 f15 := Tryz.func91.trans (congrArg some (by kernel_rfl))
 f17 := Tryz.func63.trans (congrArg some (by kernel_rfl))
 f20 := Tryz.func112.trans (congrArg some (by kernel_rfl))
 t0 := Tryz.underlying0
 a0 := Tryz.isAgg0
 z0 := Tryz.sizeOf0
 v0 := Tryz.zeroValue0
 i0 := by kernel_rfl
 t3 := Tryz.underlying3
 a3 := Tryz.isAgg3
 z3 := Tryz.sizeOf3
 v3 := Tryz.zeroValue3
 i3 := by kernel_rfl
 t4 := Tryz.underlying4
 a4 := Tryz.isAgg4
 z4 := Tryz.sizeOf4
 v4 := Tryz.zeroValue4
 i4 := by kernel_rfl
 t9 := Tryz.underlying9
 a9 := Tryz.isAgg9
 z9 := Tryz.sizeOf9
 v9 := Tryz.zeroValue9
 i9 := by kernel_rfl
 t21 := Tryz.underlying21
 a21 := Tryz.isAgg21
 z21 := Tryz.sizeOf21
 v21 := Tryz.zeroValue21
 i21 := by kernel_rfl
 t23 := Tryz.underlying81
 a23 := Tryz.isAgg81
 z23 := Tryz.sizeOf81
 v23 := Tryz.zeroValue81
 i23 := by kernel_rfl }
open Go.RowKit Go.Lib in
theorem Tryz.strings_ContainsFunc (g : Nat) (lb : Array Value) (eg : ∀ args w, (callFunc g args).run Tryz.prog w = .ok (.enter g args) w) (p : Nat → Bool) (s : ByteArray) (w : World) (hp : PredAt Tryz.prog g lb encR p w) :
 Calls Tryz.prog 63 #[.string s, .func (.func g) #[] lb] w fun e w' => e = .returned (.bool (decide (0 ≤ Lib.idxFunc p true s))) ∧ Below w.heap.size w w' := Any.strings_ContainsFunc Tryz.laysGw17 g lb eg p s w hp
end Go.Proofs
