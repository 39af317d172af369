/- Contracts of the library, as they are at this program: laid by the guide's tool, in plain words. The program's own: is a country a member state; is a number right. -/
import Derived.Shelf.Strings.Builder1
import Derived.Shelf.Strings.Builder2
import Derived.Shelf.Small.Bits
import Derived.Shelf.Strings.Search1
import Derived.Shelf.Strings.Search2
import Derived.Shelf.Strings.Search3
import Derived.Shelf.LaysM
import Derived.Shelf.Strings.Shaped
import Derived.Shelf.Strings.Prefix
import Derived.Shelf.Bits.Mul64
import Derived.Shelf.Strings.Repeat
import Derived.Test.YtmjjenemokojjaaGreatProg
import Derived.Test.YtmjjenemokojjaaGreatD18
namespace Go.Proofs
open Go.Shelf
def Tryz.lays144_ren : Go.Shelf.Ren := ⟨fun | 144 => 80 | 143 => 103 | 219 => 122 | 217 => 128 | 225 => 129 | 224 => 130 | 267 => 131 | 266 => 132 | 314 => 133 | n => n, fun | 9 => 9 | 4 => 4 | 3 => 3 | 5 => 5 | 46 => 106 | 146 => 125 | 51 => 124 | n => n, fun | 1 => 0 | n => n⟩
theorem Tryz.lays144 : Go.Proofs.Lays.n144 Tryz.prog Tryz.lays144_ren := {
 mixed := by kernel_rfl
 f143 := Tryz.func103.trans (congrArg some (by kernel_rfl))
 f144 := Tryz.func80.trans (congrArg some (by kernel_rfl))
 f217 := Tryz.func128.trans (congrArg some (by kernel_rfl))
 f219 := Tryz.func122.trans (congrArg some (by kernel_rfl))
 f224 := Tryz.func130.trans (congrArg some (by kernel_rfl))
 f225 := Tryz.func129.trans (congrArg some (by kernel_rfl))
 f266 := Tryz.func132.trans (congrArg some (by kernel_rfl))
 f267 := Tryz.func131.trans (congrArg some (by kernel_rfl))
 f314 := Tryz.func133.trans (congrArg some (by kernel_rfl))
 t3 := Tryz.underlying3
 a3 := Tryz.isAgg3
 z3 := Tryz.sizeOf3
 v3 := Tryz.zeroValue3
 t4 := Tryz.underlying4
 a4 := Tryz.isAgg4
 z4 := Tryz.sizeOf4
 v4 := Tryz.zeroValue4
 t5 := Tryz.underlying5
 a5 := Tryz.isAgg5
 z5 := Tryz.sizeOf5
 v5 := Tryz.zeroValue5
 t9 := Tryz.underlying9
 a9 := Tryz.isAgg9
 z9 := Tryz.sizeOf9
 v9 := Tryz.zeroValue9
 t46 := Tryz.underlying106
 a46 := Tryz.isAgg106
 z46 := Tryz.sizeOf106
 v46 := Tryz.zeroValue106
 t51 := Tryz.underlying124
 a51 := Tryz.isAgg124
 z51 := Tryz.sizeOf124
 v51 := Tryz.zeroValue124
 t146 := Tryz.underlying125
 a146 := Tryz.isAgg125
 z146 := Tryz.sizeOf125
 v146 := Tryz.zeroValue125
 g1 := by kernel_rfl }
open Go.RowKit Go.Lib in
theorem Tryz.strings_Contains (s sub : ByteArray) (m : Int) (w : World) (hs : s.size < 4294967281) (hm : w.cell? ⟨0, 0, none⟩ = some (.int .i64 m)) :
 Calls Tryz.prog 80 #[.string s, .string sub] w fun e w' => e = .returned (.bool (Lib.contains s.data.toList sub.data.toList)) ∧ w' = w := Any.strings_Contains Tryz.lays144 s sub m w hs hm
def Tryz.lays105_ren : Go.Shelf.Ren := ⟨fun | 105 => 62 | 212 => 85 | 99 => 86 | 165 => 87 | 166 => 88 | 170 => 89 | 169 => 90 | 263 => 107 | 264 => 108 | 206 => 109 | 240 => 110 | 241 => 111 | 276 => 123 | 277 => 124 | n => n, fun | 9 => 9 | 3 => 3 | 4 => 4 | 20 => 20 | 0 => 0 | 46 => 106 | 109 => 107 | 5 => 5 | 72 => 111 | 76 => 115 | 51 => 124 | 146 => 125 | 53 => 127 | 148 => 128 | 70 => 109 | 37 => 36 | 75 => 114 | 127 => 130 | 164 => 137 | 80 => 96 | n => n, fun | n => n⟩
theorem Tryz.lays105 : Go.Proofs.Lays.n105 Tryz.prog Tryz.lays105_ren := {
 mixed := by kernel_rfl
 f99 := Tryz.func86.trans (congrArg some (by kernel_rfl))
 f105 := Tryz.func62.trans (congrArg some (by kernel_rfl))
 f165 := Tryz.func87.trans (congrArg some (by kernel_rfl))
 f166 := Tryz.func88.trans (congrArg some (by kernel_rfl))
 f169 := Tryz.func90.trans (congrArg some (by kernel_rfl))
 f170 := Tryz.func89.trans (congrArg some (by kernel_rfl))
 f206 := Tryz.func109.trans (congrArg some (by kernel_rfl))
 f212 := Tryz.func85.trans (congrArg some (by kernel_rfl))
 f240 := Tryz.func110.trans (congrArg some (by kernel_rfl))
 f241 := Tryz.func111.trans (congrArg some (by kernel_rfl))
 f263 := Tryz.func107.trans (congrArg some (by kernel_rfl))
 f264 := Tryz.func108.trans (congrArg some (by kernel_rfl))
 f276 := Tryz.func123.trans (congrArg some (by kernel_rfl))
 f277 := Tryz.func124.trans (congrArg some (by kernel_rfl))
 t0 := Tryz.underlying0
 a0 := Tryz.isAgg0
 z0 := Tryz.sizeOf0
 v0 := Tryz.zeroValue0
 t3 := Tryz.underlying3
 a3 := Tryz.isAgg3
 z3 := Tryz.sizeOf3
 v3 := Tryz.zeroValue3
 t4 := Tryz.underlying4
 a4 := Tryz.isAgg4
 z4 := Tryz.sizeOf4
 v4 := Tryz.zeroValue4
 t5 := Tryz.underlying5
 a5 := Tryz.isAgg5
 z5 := Tryz.sizeOf5
 v5 := Tryz.zeroValue5
 t9 := Tryz.underlying9
 a9 := Tryz.isAgg9
 z9 := Tryz.sizeOf9
 v9 := Tryz.zeroValue9
 t20 := Tryz.underlying20
 a20 := Tryz.isAgg20
 z20 := Tryz.sizeOf20
 v20 := Tryz.zeroValue20
 t37 := Tryz.underlying36
 a37 := Tryz.isAgg36
 z37 := Tryz.sizeOf36
 v37 := Tryz.zeroValue36
 t46 := Tryz.underlying106
 a46 := Tryz.isAgg106
 z46 := Tryz.sizeOf106
 v46 := Tryz.zeroValue106
 t51 := Tryz.underlying124
 a51 := Tryz.isAgg124
 z51 := Tryz.sizeOf124
 v51 := Tryz.zeroValue124
 t53 := Tryz.underlying127
 a53 := Tryz.isAgg127
 z53 := Tryz.sizeOf127
 v53 := Tryz.zeroValue127
 t70 := Tryz.underlying109
 a70 := Tryz.isAgg109
 z70 := Tryz.sizeOf109
 v70 := Tryz.zeroValue109
 t72 := Tryz.underlying111
 a72 := Tryz.isAgg111
 z72 := Tryz.sizeOf111
 v72 := Tryz.zeroValue111
 t75 := Tryz.underlying114
 a75 := Tryz.isAgg114
 z75 := Tryz.sizeOf114
 v75 := Tryz.zeroValue114
 t76 := Tryz.underlying115
 a76 := Tryz.isAgg115
 z76 := Tryz.sizeOf115
 v76 := Tryz.zeroValue115
 t109 := Tryz.underlying107
 a109 := Tryz.isAgg107
 z109 := Tryz.sizeOf107
 v109 := Tryz.zeroValue107
 t127 := Tryz.underlying130
 a127 := Tryz.isAgg130
 z127 := Tryz.sizeOf130
 v127 := Tryz.zeroValue130
 t146 := Tryz.underlying125
 a146 := Tryz.isAgg125
 z146 := Tryz.sizeOf125
 v146 := Tryz.zeroValue125
 t148 := Tryz.underlying128
 a148 := Tryz.isAgg128
 z148 := Tryz.sizeOf128
 v148 := Tryz.zeroValue128
 t164 := Tryz.underlying137
 a164 := Tryz.isAgg137
 z164 := Tryz.sizeOf137
 v164 := Tryz.zeroValue137 }
theorem Tryz.Builder_Extra_105 : Builder.Extra Tryz.prog Tryz.lays105_ren := {
 sizeBuilder := by kernel_rfl
 liesBuilder := by kernel_rfl
 t5 := Tryz.underlying5
 a5 := Tryz.isAgg5
 z5 := Tryz.sizeOf5
 v5 := Tryz.zeroValue5
 infoByte := by kernel_rfl
 cellsByte := by kernel_rfl
 sizeByte := by kernel_rfl
 neB5 := by decide }
open Go.RowKit Go.Lib in
theorem Tryz.strings_Repeat_main (s : ByteArray) (c : Nat) (w : World) (hc2 : 2 ≤ c) (hc : c ≤ 9223372036854775807) (hlen : s.size * c ≤ 140737488355328) (h0 : 0 < s.size) :
 Calls Tryz.prog 62 #[.string s, .int .i64 c] w fun e w' => e = .returned (.string ⟨(Lib.repeatL s.data.toList c).toArray⟩) ∧ Below w.heap.size w w' := Any.strings_Repeat_main Tryz.lays105 Tryz.Builder_Extra_105 s c w hc2 hc hlen h0
open Go.RowKit Go.Lib in
theorem Tryz.strings_Repeat_one (s : ByteArray) (w : World) :
 Calls Tryz.prog 62 #[.string s, .int .i64 1] w fun e w' => e = .returned (.string s) ∧ w' = w := Any.strings_Repeat_one Tryz.lays105 s w
end Go.Proofs

namespace Go.Proofs.YtmjjenemokojjaaGreat
open Go.RowKit Go.Maps
set_option maxRecDepth 1000000

/-- the program's list of them -/
def memsB : ByteArray := ({ data := #[65, 84, 32, 66, 69, 32, 66, 71, 32, 67, 89, 32, 67, 90, 32, 68, 69, 32, 68, 75, 32, 69, 69, 32, 69, 76, 32, 69, 83, 32, 70, 73, 32, 70, 82, 32, 72, 82, 32, 72, 85, 32, 73, 69, 32, 73, 84, 32, 76, 84, 32, 76, 85, 32, 76, 86, 32, 77, 84, 32, 78, 76, 32, 80, 76, 32, 80, 84, 32, 82, 79, 32, 83, 69, 32, 83, 73, 32, 83, 75] } : ByteArray)
def memL (t : List UInt8) : Bool := (tabL.map fun p => strT p.1).any fun k => decide (k = t)
theorem isMem_memL (c : ByteArray) : isMem c = memL (strT c) := by
 unfold isMem memL
 rw [List.any_map, List.any_map, Bool.eq_iff_iff, List.any_eq_true, List.any_eq_true]
 constructor
 · rintro ⟨p, h1, h2⟩
   exact ⟨p, h1, by simp only [Function.comp, decide_eq_true_iff] at *; rw [h2]⟩
 · rintro ⟨p, h1, h2⟩
   exact ⟨p, h1, by simp only [Function.comp, decide_eq_true_iff] at *; exact strT_inj h2⟩
theorem mem_pairs : ((List.range 26).all fun i => (List.range 26).all fun j => memL [UInt8.ofNat (65 + i), UInt8.ofNat (65 + j)] == Lib.contains memsB.data.toList [UInt8.ofNat (65 + i), UInt8.ofNat (65 + j)]) = true := by decide +kernel
theorem letter_of {a : UInt8} (h : Vat.letter a.toNat = true) : ∃ i ∈ List.range 26, a = UInt8.ofNat (65 + i) := by
 unfold Vat.letter at h
 simp only [Bool.and_eq_true, decide_eq_true_iff] at h
 refine ⟨a.toNat - 65, List.mem_range.2 (by omega), UInt8.toNat_inj.1 ?_⟩
 rw [UInt8.toNat_ofNat']; omega
theorem mem_contains {c : ByteArray} (h : Vat.country (strT c) = true) : Lib.contains memsB.data.toList c.data.toList = isMem c := by
 rw [isMem_memL]
 show Lib.contains memsB.data.toList (strT c) = _
 generalize strT c = t at *
 match t, h with
 | [a, b], h =>
   simp only [Vat.country, Bool.and_eq_true] at h
   obtain ⟨i, hi, rfl⟩ := letter_of h.1
   obtain ⟨j, hj, rfl⟩ := letter_of h.2
   have := List.all_eq_true.1 (List.all_eq_true.1 mem_pairs i hi) j hj
   exact (beq_iff_eq.1 this).symm
theorem mem_country : ∀ p ∈ tabL, Vat.country (strT p.1) = true := by decide +kernel
theorem not_mem {c : ByteArray} (h : Vat.country (strT c) = false) : isMem c = false := by
 unfold isMem
 rw [List.any_map, List.any_eq_false]
 intro p hp
 simp only [Function.comp, decide_eq_true_iff]
 intro e
 have := mem_country p hp
 rw [e, h] at this
 cases this
/-- the library's variable is a number -/
def MaxL (w : World) : Prop := 0 < w.heap.size ∧ ∃ m, w.cell? ⟨0, 0, none⟩ = some (.int .i64 m)
theorem MaxL.below {w w' : World} (h : MaxL w) (hb : Below w.heap.size w w') : MaxL w' := by
 obtain ⟨h1, m, h2⟩ := h
 exact ⟨Nat.lt_of_lt_of_le h1 hb.size, m, (hb.cell (p := ⟨0, 0, none⟩) h1).trans h2⟩
theorem code_member (c : ByteArray) (w : World) (hc : c.size ≤ 9223372036854775807) (hM : MaxL w) : Calls Tryz.prog 49 #[.string c] w fun e w' => e = .returned (.bool (isMem c)) ∧ w = w' := by
 have HC := Lib.hid (code_country c w hc)
 cases h : Vat.country (strT c) with
 | false =>
   rw [h] at HC
   rw [not_mem h]
   go_enter Tryz.func49, Tryz.ntmps49
   go_wp2_with (go_at_call 31; refine HC.out.mono ?_; rintro e w1 ⟨rfl, rfl⟩)
   go_ret
   exact ⟨rfl, rfl⟩
 | true =>
   rw [h] at HC
   obtain ⟨_, m, hm⟩ := hM
   have HS : Hid (Calls Tryz.prog 80 #[.string ({ data := #[65, 84, 32, 66, 69, 32, 66, 71, 32, 67, 89, 32, 67, 90, 32, 68, 69, 32, 68, 75, 32, 69, 69, 32, 69, 76, 32, 69, 83, 32, 70, 73, 32, 70, 82, 32, 72, 82, 32, 72, 85, 32, 73, 69, 32, 73, 84, 32, 76, 84, 32, 76, 85, 32, 76, 86, 32, 77, 84, 32, 78, 76, 32, 80, 76, 32, 80, 84, 32, 82, 79, 32, 83, 69, 32, 83, 73, 32, 83, 75] } : ByteArray), .string c] w fun e w' => e = .returned (.bool (isMem c)) ∧ w' = w) := Lib.hid (by
    have := Tryz.strings_Contains memsB c m w (by decide +kernel) hm
    rw [mem_contains h] at this
    exact this)
   clear h hm
   go_enter Tryz.func49, Tryz.ntmps49
   go_wp2_with (first
    | (go_at_call 31; refine HC.out.mono ?_; rintro e w1 ⟨rfl, rfl⟩)
    | (go_at_call 80; refine HS.out.mono ?_; rintro e w1 ⟨rfl, rfl⟩))
   go_ret
   exact ⟨rfl, rfl⟩
end Go.Proofs.YtmjjenemokojjaaGreat
