/- The chapter's examples may be: the program's. Commands as bytes: Encode, by what it calls. The chapter's document as bytes: Encode. -/
import Derived.Test.YtplghpamckdklaaGreatQ9
import Derived.Test.YtplghpamckdklaaGreatQ13
import Derived.Test.YtplghpamckdklaaGreatQ14
import Derived.WalkMore
import Derived.Test.YtplghpamckdklaaGreatQ12
import Derived.Laws.Rows
namespace Go.Proofs.YtplghpamckdklaaGreat
open Go.RowKit
set_option maxRecDepth 100000
set_option linter.unusedSimpArgs false
set_option linter.unusedVariables false

theorem nil_size : (⟨#[]⟩ : ByteArray).size ≤ 140737488351232 := by decide
def kindX (k : Int) : CmdV := ⟨k, ⟨#[]⟩, ⟨#[]⟩, 0, 0, 0, 0, 0, 0, 0, 0, 0, 0, ⟨#[]⟩, false, false, ⟨#[]⟩, 0, ⟨#[]⟩, ⟨#[]⟩, ⟨#[]⟩, none, [], 0⟩
theorem kindX_ok (k : Int) (W : World) : CmdVOk W (kindX k) :=
  ⟨nil_size, nil_size, nil_size, nil_size, nil_size, nil_size, nil_size, RowLineV.nil, fun _ => ⟨rfl, rfl⟩, Nat.le_refl _, Nat.zero_le _, fun r hr => absurd hr (by simp [kindX])⟩
theorem same_kind (k : Int) (W : World) : Calls Tryz.prog 21 #[.agg #[.int .i64 k, .string ⟨#[]⟩, .string ⟨#[]⟩, .int .i64 0, .int .i64 0, .int .i64 0, .int .i64 0, .int .i64 0, .int .i64 0, .int .i64 0, .int .i64 0, .int .i64 0, .int .i64 0, .string ⟨#[]⟩, .bool false, .bool false, .string ⟨#[]⟩, .int .i64 0, .string ⟨#[]⟩, .string ⟨#[]⟩, .string ⟨#[]⟩, .slice none 0 0], .agg #[.int .i64 k, .string ⟨#[]⟩, .string ⟨#[]⟩, .int .i64 0, .int .i64 0, .int .i64 0, .int .i64 0, .int .i64 0, .int .i64 0, .int .i64 0, .int .i64 0, .int .i64 0, .int .i64 0, .string ⟨#[]⟩, .bool false, .bool false, .string ⟨#[]⟩, .int .i64 0, .string ⟨#[]⟩, .string ⟨#[]⟩, .string ⟨#[]⟩, .slice none 0 0]] W fun e w1 => e = .returned (.bool true) ∧ Below W.heap.size W w1 :=
  code_same (kindX k) (kindX k) W (kindX_ok k W) (kindX_ok k W) (Nat.zero_le _) true (by simp [sameC, kindX, sameD, docOf, likes])
def yearX : CmdV := ⟨11, ⟨#[]⟩, ⟨#[]⟩, 0, 0, 0, 0, 0, 0, 0, 3, 2024, 1, ⟨#[]⟩, false, false, ⟨#[]⟩, 0, ⟨#[]⟩, ⟨#[]⟩, ⟨#[]⟩, none, [], 0⟩
theorem bare_year : bare11 #[.int .i64 11, .string ⟨#[]⟩, .string ⟨#[]⟩, .int .i64 0, .int .i64 0, .int .i64 0, .int .i64 0, .int .i64 0, .int .i64 0, .int .i64 0, .int .i64 3, .int .i64 2024, .int .i64 1, .string ⟨#[]⟩, .bool false, .bool false, .string ⟨#[]⟩, .int .i64 0, .string ⟨#[]⟩, .string ⟨#[]⟩, .string ⟨#[]⟩, .slice none 0 0] = #[.int .i64 11, .string ⟨#[]⟩, .string ⟨#[]⟩, .int .i64 0, .int .i64 0, .int .i64 0, .int .i64 0, .int .i64 0, .int .i64 0, .int .i64 0, .int .i64 0, .int .i64 0, .int .i64 0, .string ⟨#[]⟩, .bool false, .bool false, .string ⟨#[]⟩, .int .i64 0, .string ⟨#[]⟩, .string ⟨#[]⟩, .string ⟨#[]⟩, .slice none 0 0] := by simp [bare11]
theorem one_kind (k : Int) : (#[.int .i64 k, .string ⟨#[]⟩, .string ⟨#[]⟩, .int .i64 0, .int .i64 0, .int .i64 0, .int .i64 0, .int .i64 0, .int .i64 0, .int .i64 0, .int .i64 0, .int .i64 0, .int .i64 0, .string ⟨#[]⟩, .bool false, .bool false, .string ⟨#[]⟩, .int .i64 0, .string ⟨#[]⟩, .string ⟨#[]⟩, .string ⟨#[]⟩, .slice none 0 0] : Array Value).all (·.oneCell') = true := by simp [Value.oneCell']
theorem good_year (W : World) : Calls Tryz.prog 8 #[.agg #[.int .i64 11, .string ⟨#[]⟩, .string ⟨#[]⟩, .int .i64 0, .int .i64 0, .int .i64 0, .int .i64 0, .int .i64 0, .int .i64 0, .int .i64 0, .int .i64 3, .int .i64 2024, .int .i64 1, .string ⟨#[]⟩, .bool false, .bool false, .string ⟨#[]⟩, .int .i64 0, .string ⟨#[]⟩, .string ⟨#[]⟩, .string ⟨#[]⟩, .slice none 0 0]] W fun e w1 => e = .returned (.bool true) ∧ Below W.heap.size W w1 :=
  good_yes #[.int .i64 11, .string ⟨#[]⟩, .string ⟨#[]⟩, .int .i64 0, .int .i64 0, .int .i64 0, .int .i64 0, .int .i64 0, .int .i64 0, .int .i64 0, .int .i64 3, .int .i64 2024, .int .i64 1, .string ⟨#[]⟩, .bool false, .bool false, .string ⟨#[]⟩, .int .i64 0, .string ⟨#[]⟩, .string ⟨#[]⟩, .string ⟨#[]⟩, .slice none 0 0] 11 #[.int .i64 11, .string ⟨#[]⟩, .string ⟨#[]⟩, .int .i64 0, .int .i64 0, .int .i64 0, .int .i64 0, .int .i64 0, .int .i64 0, .int .i64 0, .int .i64 0, .int .i64 0, .int .i64 0, .string ⟨#[]⟩, .bool false, .bool false, .string ⟨#[]⟩, .int .i64 0, .string ⟨#[]⟩, .string ⟨#[]⟩, .string ⟨#[]⟩, .slice none 0 0] true W rfl rfl
    (Lib.hid (fun W' _ => areGood_11 yearX W' rfl))
    (Lib.hid (fun W' => by have h := unnamed_11 #[.int .i64 11, .string ⟨#[]⟩, .string ⟨#[]⟩, .int .i64 0, .int .i64 0, .int .i64 0, .int .i64 0, .int .i64 0, .int .i64 0, .int .i64 0, .int .i64 3, .int .i64 2024, .int .i64 1, .string ⟨#[]⟩, .bool false, .bool false, .string ⟨#[]⟩, .int .i64 0, .string ⟨#[]⟩, .string ⟨#[]⟩, .string ⟨#[]⟩, .slice none 0 0] W' rfl rfl (by rw [bare_year]; exact one_kind 11); rw [bare_year] at h; exact h))
    (Lib.hid (fun W' _ => same_kind 11 W'))
def simpleL : LineV := (2, 1, ⟨#[]⟩, ⟨#[]⟩, ⟨#[]⟩, 1000, false, 0, false)
def simpleD (A : Addr) (c : Nat) : DocV := ⟨⟨#[97]⟩, true, false, ⟨#[]⟩, 19000, ⟨#[68, 69]⟩, ⟨#[]⟩, ⟨#[]⟩, some A, [simpleL], c⟩
def simpleX (A : Addr) (c : Nat) : CmdV := ⟨8, ⟨#[]⟩, ⟨#[]⟩, 0, 0, 0, 0, 0, 0, 0, 0, 0, 0, ⟨#[97]⟩, true, false, ⟨#[]⟩, 19000, ⟨#[68, 69]⟩, ⟨#[]⟩, ⟨#[]⟩, some A, [simpleL], c⟩
theorem simpleD_ok {A : Addr} {c : Nat} {W : World} (h : RowLineV W (some A) [simpleL]) (h1 : 1 ≤ c) (h2 : c ≤ maxLen) : DocVOk W (simpleD A c) :=
  ⟨show (⟨#[97]⟩ : ByteArray).size ≤ _ by decide, show (⟨#[]⟩ : ByteArray).size ≤ _ by decide, show (⟨#[68, 69]⟩ : ByteArray).size ≤ _ by decide, show (⟨#[]⟩ : ByteArray).size ≤ _ by decide, show (⟨#[]⟩ : ByteArray).size ≤ _ by decide, h, fun e => absurd e (by simp [simpleD]), h1, h2, fun r hr => by
    have : r = simpleL := by simpa [simpleD] using hr
    subst this
    exact ⟨by decide, by decide, by decide⟩⟩
theorem simple_doc (A : Addr) (c : Nat) (W : World) (h : RowLineV W (some A) [simpleL]) (h1 : 1 ≤ c) (h2 : c ≤ maxLen) : Calls Tryz.prog 10 #[.agg #[.string ⟨#[97]⟩, .bool true, .bool false, .string ⟨#[]⟩, .int .i64 19000, .string ⟨#[68, 69]⟩, .string ⟨#[]⟩, .string ⟨#[]⟩, .slice (some A) 1 c]] W fun e w1 => e = .returned (.bool true) ∧ Below W.heap.size W w1 :=
  goodDoc_bare (simpleD A c) true W (simpleD_ok h h1 h2) (show ([simpleL] : List LineV).length ≤ _ by decide) (show (⟨#[]⟩ : ByteArray).toList.isEmpty = true by decide +kernel) (show (⟨#[]⟩ : ByteArray).toList.isEmpty = true by decide +kernel) (by
    show docGood (simpleD A c) true true = true
    have e : docGood (simpleD A c) true true = docGood (simpleD ⟨0, 0, none⟩ 1) true true := rfl
    rw [e]
    decide +kernel)
theorem bare_simple (A : Addr) (c : Nat) : bare8 #[.int .i64 8, .string ⟨#[]⟩, .string ⟨#[]⟩, .int .i64 0, .int .i64 0, .int .i64 0, .int .i64 0, .int .i64 0, .int .i64 0, .int .i64 0, .int .i64 0, .int .i64 0, .int .i64 0, .string ⟨#[97]⟩, .bool true, .bool false, .string ⟨#[]⟩, .int .i64 19000, .string ⟨#[68, 69]⟩, .string ⟨#[]⟩, .string ⟨#[]⟩, .slice (some A) 1 c] = #[.int .i64 8, .string ⟨#[]⟩, .string ⟨#[]⟩, .int .i64 0, .int .i64 0, .int .i64 0, .int .i64 0, .int .i64 0, .int .i64 0, .int .i64 0, .int .i64 0, .int .i64 0, .int .i64 0, .string ⟨#[]⟩, .bool false, .bool false, .string ⟨#[]⟩, .int .i64 0, .string ⟨#[]⟩, .string ⟨#[]⟩, .string ⟨#[]⟩, .slice none 0 0] := by simp [bare8]
theorem good_simple (A : Addr) (c : Nat) (W : World) (h : RowLineV W (some A) [simpleL]) (h1 : 1 ≤ c) (h2 : c ≤ maxLen) : Calls Tryz.prog 8 #[.agg #[.int .i64 8, .string ⟨#[]⟩, .string ⟨#[]⟩, .int .i64 0, .int .i64 0, .int .i64 0, .int .i64 0, .int .i64 0, .int .i64 0, .int .i64 0, .int .i64 0, .int .i64 0, .int .i64 0, .string ⟨#[97]⟩, .bool true, .bool false, .string ⟨#[]⟩, .int .i64 19000, .string ⟨#[68, 69]⟩, .string ⟨#[]⟩, .string ⟨#[]⟩, .slice (some A) 1 c]] W fun e w1 => e = .returned (.bool true) ∧ Below W.heap.size W w1 :=
  good_yes #[.int .i64 8, .string ⟨#[]⟩, .string ⟨#[]⟩, .int .i64 0, .int .i64 0, .int .i64 0, .int .i64 0, .int .i64 0, .int .i64 0, .int .i64 0, .int .i64 0, .int .i64 0, .int .i64 0, .string ⟨#[97]⟩, .bool true, .bool false, .string ⟨#[]⟩, .int .i64 19000, .string ⟨#[68, 69]⟩, .string ⟨#[]⟩, .string ⟨#[]⟩, .slice (some A) 1 c] 8 #[.int .i64 8, .string ⟨#[]⟩, .string ⟨#[]⟩, .int .i64 0, .int .i64 0, .int .i64 0, .int .i64 0, .int .i64 0, .int .i64 0, .int .i64 0, .int .i64 0, .int .i64 0, .int .i64 0, .string ⟨#[]⟩, .bool false, .bool false, .string ⟨#[]⟩, .int .i64 0, .string ⟨#[]⟩, .string ⟨#[]⟩, .string ⟨#[]⟩, .slice none 0 0] true W rfl rfl
    (Lib.hid (fun W' hb => areGood_8 (simpleX A c) true W' rfl (Lib.hid (fun W2 hb2 => simple_doc A c W2 (h.on (below_then hb hb2)) h1 h2))))
    (Lib.hid (fun W' => by have h := unnamed_8 #[.int .i64 8, .string ⟨#[]⟩, .string ⟨#[]⟩, .int .i64 0, .int .i64 0, .int .i64 0, .int .i64 0, .int .i64 0, .int .i64 0, .int .i64 0, .int .i64 0, .int .i64 0, .int .i64 0, .string ⟨#[97]⟩, .bool true, .bool false, .string ⟨#[]⟩, .int .i64 19000, .string ⟨#[68, 69]⟩, .string ⟨#[]⟩, .string ⟨#[]⟩, .slice (some A) 1 c] W' rfl rfl (by rw [bare_simple]; exact one_kind 8); rw [bare_simple] at h; exact h))
    (Lib.hid (fun W' _ => same_kind 8 W'))
end Go.Proofs.YtplghpamckdklaaGreat

namespace Go.Proofs.YtplghpamckdklaaGreat
open Go.RowKit
set_option maxRecDepth 100000
set_option linter.unusedSimpArgs false
set_option linter.unusedVariables false

def EncP (w : World) (T : Text) (e : Ending) (w1 : World) : Prop := Below w.heap.size w w1 ∧ ∃ A c, e = .returned (.tuple #[.slice A T.length c, .int .i64 0]) ∧ Txt w1 A T ∧ (A = none → T = [])
set_option maxHeartbeats 1000000 in
theorem encode_ok (cs : Array Value) (T : Text) (w : World) (hs : cs.size = 22) (HGd : Hid (∀ W, Below w.heap.size w W → Calls Tryz.prog 8 #[.agg cs] W fun e w1 => e = .returned (.bool true) ∧ Below W.heap.size W w1)) (HWt : Hid (∀ (W : World) (g : Nat) (v : Value), Below w.heap.size w W → Wrt W (w.heap.size + 1) g (some []) v → w.heap.size + 1 ≤ W.heap.size → Calls Tryz.prog 39 #[.pointer (some ⟨g, 0, none⟩), .agg cs] W (Wrote W (w.heap.size + 1) g (some T)))) (hT : T.length ≤ 140737488000000) : Calls Tryz.prog 14 #[.agg cs] w fun e w1 => EncP w T e w1 := by
  have HX := Lib.hid (heap_alloc_new w (.cells cs 28))
  have HB0 := Lib.hid (below_alloc w (.cells cs 28))
  have HI := Lib.hid (cmd_info hs)
  have HT := Lib.hid hT
  have hsz : w.heap.size + 1 = (w.alloc (.cells cs 28)).heap.size := by simp
  clear hs hT
  go_enter Tryz.func14, Tryz.ntmps14
  go_wp2_with ((with_reducible refine wpList_load_row (o := ⟨some 5, _, _, _, _, _⟩) ?a1 28 (.tmp 1) ?a2 w.heap.size ?a3 28 cs (0, 0) _ HX.out Tryz.underlying28 ?a4 HI.out ?_); (case a1 => rfl); (case a2 => rfl); (case a3 => rfl); (case a4 => rfl); refine Stop.out ?_)
  unfold Stop
  go_wp2_with (go_at_call 8; refine (HGd.out _ HB0.out).mono ?_; rintro e w1 ⟨rfl, hb⟩; have HX1 := Lib.hid (heap_on hb HX.out); have HB1 := Lib.hid (below_then HB0.out hb); have HN : Hid (w.heap.size + 1 ≤ w1.heap.size) := Lib.hid (by have := hb.size; simp at this; omega); clear hb hsz; refine Stop.out ?_)
  unfold Stop
  have HW2 := Lib.hid (new_wrt w1 (w.heap.size + 1) HN.out)
  have HX2 := Lib.hid (heap_on (below_alloc w1 (.cells #[.bool true, .bool false, .slice none 0 0] 84)) HX1.out)
  have HB2 := Lib.hid (below_then HB1.out (below_alloc w1 (.cells #[.bool true, .bool false, .slice none 0 0] 84)))
  have HN2 : Hid (w.heap.size + 1 ≤ (w1.alloc (.cells #[.bool true, .bool false, .slice none 0 0] 84)).heap.size) := Lib.hid (by have := HN.out; simp; omega)
  go_wp2_with (go_at_call 38; refine (new_any w1).mono ?_; rintro e w2 ⟨rfl, rfl⟩; refine Stop.out ?_)
  unfold Stop
  generalize hx : World.alloc w1 (.cells #[.bool true, .bool false, .slice none 0 0] 84) = w2 at HW2 HX2 HB2 HN2 ⊢
  clear hx
  generalize w1.heap.size = g at HW2 ⊢
  go_wp2_with ((with_reducible refine wpList_load_row (o := ⟨some 10, _, _, _, _, _⟩) ?a1 28 (.tmp 1) ?a2 w.heap.size ?a3 28 cs (0, 0) _ HX2.out Tryz.underlying28 ?a4 HI.out ?_); (case a1 => rfl); (case a2 => rfl); (case a3 => rfl); (case a4 => rfl); refine Stop.out ?_)
  unfold Stop
  go_wp2_with (go_at_call 39; refine (HWt.out w2 g _ HB2.out HW2.out HN2.out).mono ?_; rintro e w3 ⟨rfl, ⟨v3, hw3⟩, hb⟩; have HW3 := Lib.hid hw3; have HB3 := Lib.hid (HB2.out.trans (hb.mono (Nat.le_succ _))); clear hw3 hb; refine Stop.out ?_)
  unfold Stop
  go_wp2_with (go_at_call 40; refine (code_bytes _ _ _ _ _ HW3.out HT.out).mono ?_; rintro e w4 ⟨hb, A, c, rfl, ht, hn⟩; have HB4 := Lib.hid (below_then HB3.out hb); have HQ := Lib.hid (And.intro ht hn); clear hb ht hn)
  go_ret2
  exact ⟨HB4.out, A, c, rfl, HQ.out⟩
theorem year_bytes : nextS (nextS (some []) (docN 11)) (docN 2024) = some [1, 11, 2, 7, 232] := by decide +kernel
theorem encode_year (w : World) : Calls Tryz.prog 14 #[.agg #[.int .i64 11, .string ⟨#[]⟩, .string ⟨#[]⟩, .int .i64 0, .int .i64 0, .int .i64 0, .int .i64 0, .int .i64 0, .int .i64 0, .int .i64 0, .int .i64 3, .int .i64 2024, .int .i64 1, .string ⟨#[]⟩, .bool false, .bool false, .string ⟨#[]⟩, .int .i64 0, .string ⟨#[]⟩, .string ⟨#[]⟩, .string ⟨#[]⟩, .slice none 0 0]] w (EncP w [1, 11, 2, 7, 232]) :=
  encode_ok #[.int .i64 11, .string ⟨#[]⟩, .string ⟨#[]⟩, .int .i64 0, .int .i64 0, .int .i64 0, .int .i64 0, .int .i64 0, .int .i64 0, .int .i64 0, .int .i64 3, .int .i64 2024, .int .i64 1, .string ⟨#[]⟩, .bool false, .bool false, .string ⟨#[]⟩, .int .i64 0, .string ⟨#[]⟩, .string ⟨#[]⟩, .string ⟨#[]⟩, .slice none 0 0] [1, 11, 2, 7, 232] w rfl (Lib.hid (fun W _ => good_year W))
    (Lib.hid (fun W g v _ hw hB => by
      have h := write_11 #[.int .i64 11, .string ⟨#[]⟩, .string ⟨#[]⟩, .int .i64 0, .int .i64 0, .int .i64 0, .int .i64 0, .int .i64 0, .int .i64 0, .int .i64 0, .int .i64 3, .int .i64 2024, .int .i64 1, .string ⟨#[]⟩, .bool false, .bool false, .string ⟨#[]⟩, .int .i64 0, .string ⟨#[]⟩, .string ⟨#[]⟩, .string ⟨#[]⟩, .slice none 0 0] 2024 (w.heap.size + 1) g (some []) v W hw hB rfl rfl (by decide) (by decide) (by decide) (by decide +kernel)
      rw [year_bytes] at h
      exact h)) (by decide)
end Go.Proofs.YtplghpamckdklaaGreat

namespace Go.Proofs.YtplghpamckdklaaGreat
open Go.RowKit
set_option maxRecDepth 100000
set_option linter.unusedSimpArgs false
set_option linter.unusedVariables false

set_option maxHeartbeats 2000000 in
theorem write_8 (cs : Array Value) (d : DocV) (B g : Nat) (S S2 : Option Text) (v : Value) (w : World) (hw : Wrt w B g S v) (hB : B ≤ w.heap.size) (hk : cs[0]? = some (.int .i64 8)) (hy : cs[13]? = some (.string d.id) ∧ cs[14]? = some (.bool d.sale) ∧ cs[15]? = some (.bool d.credit) ∧ cs[16]? = some (.string d.refers) ∧ cs[17]? = some (.int .i64 d.day) ∧ cs[18]? = some (.string d.country) ∧ cs[19]? = some (.string d.number) ∧ cs[20]? = some (.string d.currency) ∧ cs[21]? = some (.slice d.linesA d.lines.length d.linesC)) (hS : (S.getD []).length ≤ 140737488000000) (HWd : Hid (∀ (W : World) (v : Value), Below B w W → Wrt W B g (nextS S (docN 8)) v → B ≤ W.heap.size → Calls Tryz.prog 68 #[.pointer (some ⟨g, 0, none⟩), .agg #[.string d.id, .bool d.sale, .bool d.credit, .string d.refers, .int .i64 d.day, .string d.country, .string d.number, .string d.currency, .slice d.linesA d.lines.length d.linesC]] W (Wrote W B g S2))) : Calls Tryz.prog 39 #[.pointer (some ⟨g, 0, none⟩), .agg cs] w fun e w1 => Wrote w B g S2 e w1 := by
  have HS := Lib.hid (WB.start hw hB (.cells cs 28 (0, 0)))
  have HB0 := Lib.hid (show Below B w (w.alloc (.cells cs 28 (0, 0))) from (Below.refl _ _).alloc hB _)
  have HKs := Lib.hid (And.intro hk hy)
  have HL := Lib.hid hS
  clear hw hS
  have k0 := (cell_of_row _ _ 0 _ _ _ HS.out.box).trans hk
  clear hk hy
  go_enter Tryz.func39, Tryz.ntmps39
  go_wp2_with (go_at_call 66; refine (HS.out.num 8 (by decide) (by decide) HL.out).mono ?_; rintro e w1 ⟨rfl, hs1, hb⟩; have HS1 := Lib.hid hs1; have HB1 := Lib.hid (HB0.out.trans hb); clear hs1 hb k0; have k0 := (cell_of_row _ _ 0 _ _ _ HS1.out.box).trans HKs.out.1; refine Stop.out ?_)
  unfold Stop
  have k13 := (cell_of_row _ _ 13 _ _ _ HS1.out.box).trans HKs.out.2.1
  have k14 := (cell_of_row _ _ 14 _ _ _ HS1.out.box).trans HKs.out.2.2.1
  have k15 := (cell_of_row _ _ 15 _ _ _ HS1.out.box).trans HKs.out.2.2.2.1
  have k16 := (cell_of_row _ _ 16 _ _ _ HS1.out.box).trans HKs.out.2.2.2.2.1
  have k17 := (cell_of_row _ _ 17 _ _ _ HS1.out.box).trans HKs.out.2.2.2.2.2.1
  have k18 := (cell_of_row _ _ 18 _ _ _ HS1.out.box).trans HKs.out.2.2.2.2.2.2.1
  have k19 := (cell_of_row _ _ 19 _ _ _ HS1.out.box).trans HKs.out.2.2.2.2.2.2.2.1
  have k20 := (cell_of_row _ _ 20 _ _ _ HS1.out.box).trans HKs.out.2.2.2.2.2.2.2.2.1
  have k21 := (cell_of_row _ _ 21 _ _ _ HS1.out.box).trans HKs.out.2.2.2.2.2.2.2.2.2
  obtain ⟨v1, hv1, hv2, _⟩ := HS1.out
  have HV := Lib.hid (And.intro hv1 hv2)
  clear hv1 hv2
  go_wp2_with (go_at_call 68; refine (HWd.out _ _ HB1.out HV.out.1 HV.out.2).mono ?_; rintro e w2 ⟨rfl, hw2, hb⟩; have HW2 := Lib.hid hw2; have HB2 := Lib.hid (HB1.out.trans hb); clear hw2 hb)
  go_end0
  exact ⟨rfl, HW2.out, HB2.out⟩
def simpleT : Text := (linesT (headT (nextS (some []) (docN 8)) (simpleD ⟨0, 0, none⟩ 1)) [simpleL]).getD []
theorem simple_bytes (A : Addr) (c : Nat) : linesT (headT (nextS (some []) (docN 8)) (simpleD A c)) (simpleD A c).lines = some simpleT := by
  have e : linesT (headT (nextS (some []) (docN 8)) (simpleD A c)) (simpleD A c).lines = linesT (headT (nextS (some []) (docN 8)) (simpleD ⟨0, 0, none⟩ 1)) [simpleL] := rfl
  rw [e]
  decide +kernel
theorem simpleT_len : simpleT.length ≤ 140737488000000 := by decide +kernel
theorem simple_row {A : Addr} {W W' : World} {B : Nat} (h : RowLineV W (some A) [simpleL]) (hA : A.block < B) (hb : Below B W W') : RowLineV W' (some A) [simpleL] := fun hn => by
  obtain ⟨b, o, e, hl, hr⟩ := h hn
  have e2 : A = ⟨b, o, none⟩ := Option.some.inj e
  subst e2
  exact ⟨b, o, rfl, Nat.lt_of_lt_of_le hl hb.size, fun j v hv => (hb.cell (p := ⟨b, o + j, none⟩) hA).trans (hr j v hv)⟩
set_option maxHeartbeats 1000000 in
theorem encode_simple (A : Addr) (c : Nat) (w : World) (h : RowLineV w (some A) [simpleL]) (hA : A.block < w.heap.size) (h1 : 1 ≤ c) (h2 : c ≤ maxLen) : Calls Tryz.prog 14 #[.agg #[.int .i64 8, .string ⟨#[]⟩, .string ⟨#[]⟩, .int .i64 0, .int .i64 0, .int .i64 0, .int .i64 0, .int .i64 0, .int .i64 0, .int .i64 0, .int .i64 0, .int .i64 0, .int .i64 0, .string ⟨#[97]⟩, .bool true, .bool false, .string ⟨#[]⟩, .int .i64 19000, .string ⟨#[68, 69]⟩, .string ⟨#[]⟩, .string ⟨#[]⟩, .slice (some A) 1 c]] w (EncP w simpleT) :=
  encode_ok #[.int .i64 8, .string ⟨#[]⟩, .string ⟨#[]⟩, .int .i64 0, .int .i64 0, .int .i64 0, .int .i64 0, .int .i64 0, .int .i64 0, .int .i64 0, .int .i64 0, .int .i64 0, .int .i64 0, .string ⟨#[97]⟩, .bool true, .bool false, .string ⟨#[]⟩, .int .i64 19000, .string ⟨#[68, 69]⟩, .string ⟨#[]⟩, .string ⟨#[]⟩, .slice (some A) 1 c] simpleT w rfl (Lib.hid (fun W hb => good_simple A c W (h.on hb) h1 h2))
    (Lib.hid (fun W g v hb hw hB => write_8 #[.int .i64 8, .string ⟨#[]⟩, .string ⟨#[]⟩, .int .i64 0, .int .i64 0, .int .i64 0, .int .i64 0, .int .i64 0, .int .i64 0, .int .i64 0, .int .i64 0, .int .i64 0, .int .i64 0, .string ⟨#[97]⟩, .bool true, .bool false, .string ⟨#[]⟩, .int .i64 19000, .string ⟨#[68, 69]⟩, .string ⟨#[]⟩, .string ⟨#[]⟩, .slice (some A) 1 c] (simpleD A c) (w.heap.size + 1) g (some []) (some simpleT) v W hw hB rfl ⟨rfl, rfl, rfl, rfl, rfl, rfl, rfl, rfl, rfl⟩ (by decide)
      (Lib.hid (fun W2 v2 hb2 hw2 hB2 => by
        have hx := write_doc (simpleD A c) (w.heap.size + 1) g 70000 (nextS (some []) (docN 8)) v2 W2 hw2 hB2 (by decide +kernel) (by decide) (show ([simpleL] : List LineV).length ≤ 1000 by decide) h1 (show (⟨#[97]⟩ : ByteArray).size ≤ _ by decide) (show (⟨#[]⟩ : ByteArray).size ≤ _ by decide) ⟨show (-9223372036854775808 : Int) ≤ 19000 by decide, show (19000 : Int) ≤ 9223372036854775807 by decide, show (⟨#[68, 69]⟩ : ByteArray).size ≤ _ by decide, show (⟨#[]⟩ : ByteArray).size ≤ _ by decide, show (⟨#[]⟩ : ByteArray).size ≤ _ by decide⟩
          (Lib.hid (fun W3 hb3 => simple_row ((h.on hb).on ((Below.refl _ _))) (Nat.lt_succ_of_lt hA) (hb2.trans hb3)))
          (Lib.hid (fun l hl => by
            have : l = simpleL := by simpa [simpleD] using hl
            subst this
            unfold lineR simpleL
            decide))
        rw [simple_bytes] at hx
        exact hx)))) simpleT_len
end Go.Proofs.YtplghpamckdklaaGreat
