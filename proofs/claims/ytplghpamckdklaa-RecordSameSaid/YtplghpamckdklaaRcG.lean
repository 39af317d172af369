/- The chapter's examples may be: the program's. -/
import Derived.Test.YtplghpamckdklaaRcE
import Derived.Test.YtplghpamckdklaaRcC
import Derived.Test.YtplghpamckdklaaDocI
import Derived.WalkMore
namespace Go.Proofs.Ytplghpamckdklaa
open Go.RowKit
set_option maxRecDepth 100000
set_option linter.unusedSimpArgs false
set_option linter.unusedVariables false

theorem nil_size : (⟨#[]⟩ : ByteArray).size ≤ 140737488351232 := by decide
def kindX (k : Int) : CmdV := ⟨k, ⟨#[]⟩, ⟨#[]⟩, 0, 0, 0, 0, 0, 0, 0, 0, 0, 0, ⟨#[]⟩, false, false, ⟨#[]⟩, 0, ⟨#[]⟩, ⟨#[]⟩, ⟨#[]⟩, none, [], 0⟩
theorem kindX_ok (k : Int) (W : World) : CmdVOk W (kindX k) :=
  ⟨nil_size, nil_size, nil_size, nil_size, nil_size, nil_size, nil_size, RowLineV.nil, fun _ => ⟨rfl, rfl⟩, Nat.le_refl _, Nat.zero_le _, fun r hr => absurd hr (by simp [kindX])⟩
theorem same_kind (k : Int) (W : World) : Calls Try.prog 8 #[.agg #[.int .i64 k, .string ⟨#[]⟩, .string ⟨#[]⟩, .int .i64 0, .int .i64 0, .int .i64 0, .int .i64 0, .int .i64 0, .int .i64 0, .int .i64 0, .int .i64 0, .int .i64 0, .int .i64 0, .string ⟨#[]⟩, .bool false, .bool false, .string ⟨#[]⟩, .int .i64 0, .string ⟨#[]⟩, .string ⟨#[]⟩, .string ⟨#[]⟩, .slice none 0 0], .agg #[.int .i64 k, .string ⟨#[]⟩, .string ⟨#[]⟩, .int .i64 0, .int .i64 0, .int .i64 0, .int .i64 0, .int .i64 0, .int .i64 0, .int .i64 0, .int .i64 0, .int .i64 0, .int .i64 0, .string ⟨#[]⟩, .bool false, .bool false, .string ⟨#[]⟩, .int .i64 0, .string ⟨#[]⟩, .string ⟨#[]⟩, .string ⟨#[]⟩, .slice none 0 0]] W fun e w1 => e = .returned (.bool true) ∧ Below W.heap.size W w1 :=
  code_same (kindX k) (kindX k) W (kindX_ok k W) (kindX_ok k W) (Nat.zero_le _) true (by simp [sameC, kindX, sameD, docOf, likes])
def yearX : CmdV := ⟨11, ⟨#[]⟩, ⟨#[]⟩, 0, 0, 0, 0, 0, 0, 0, 3, 2024, 1, ⟨#[]⟩, false, false, ⟨#[]⟩, 0, ⟨#[]⟩, ⟨#[]⟩, ⟨#[]⟩, none, [], 0⟩
theorem bare_year : bare11 #[.int .i64 11, .string ⟨#[]⟩, .string ⟨#[]⟩, .int .i64 0, .int .i64 0, .int .i64 0, .int .i64 0, .int .i64 0, .int .i64 0, .int .i64 0, .int .i64 3, .int .i64 2024, .int .i64 1, .string ⟨#[]⟩, .bool false, .bool false, .string ⟨#[]⟩, .int .i64 0, .string ⟨#[]⟩, .string ⟨#[]⟩, .string ⟨#[]⟩, .slice none 0 0] = #[.int .i64 11, .string ⟨#[]⟩, .string ⟨#[]⟩, .int .i64 0, .int .i64 0, .int .i64 0, .int .i64 0, .int .i64 0, .int .i64 0, .int .i64 0, .int .i64 0, .int .i64 0, .int .i64 0, .string ⟨#[]⟩, .bool false, .bool false, .string ⟨#[]⟩, .int .i64 0, .string ⟨#[]⟩, .string ⟨#[]⟩, .string ⟨#[]⟩, .slice none 0 0] := by simp [bare11]
theorem one_kind (k : Int) : (#[.int .i64 k, .string ⟨#[]⟩, .string ⟨#[]⟩, .int .i64 0, .int .i64 0, .int .i64 0, .int .i64 0, .int .i64 0, .int .i64 0, .int .i64 0, .int .i64 0, .int .i64 0, .int .i64 0, .string ⟨#[]⟩, .bool false, .bool false, .string ⟨#[]⟩, .int .i64 0, .string ⟨#[]⟩, .string ⟨#[]⟩, .string ⟨#[]⟩, .slice none 0 0] : Array Value).all (·.oneCell') = true := by simp [Value.oneCell']
theorem good_year (W : World) : Calls Try.prog 33 #[.agg #[.int .i64 11, .string ⟨#[]⟩, .string ⟨#[]⟩, .int .i64 0, .int .i64 0, .int .i64 0, .int .i64 0, .int .i64 0, .int .i64 0, .int .i64 0, .int .i64 3, .int .i64 2024, .int .i64 1, .string ⟨#[]⟩, .bool false, .bool false, .string ⟨#[]⟩, .int .i64 0, .string ⟨#[]⟩, .string ⟨#[]⟩, .string ⟨#[]⟩, .slice none 0 0]] W fun e w1 => e = .returned (.bool true) ∧ Below W.heap.size W w1 :=
  good_yes #[.int .i64 11, .string ⟨#[]⟩, .string ⟨#[]⟩, .int .i64 0, .int .i64 0, .int .i64 0, .int .i64 0, .int .i64 0, .int .i64 0, .int .i64 0, .int .i64 3, .int .i64 2024, .int .i64 1, .string ⟨#[]⟩, .bool false, .bool false, .string ⟨#[]⟩, .int .i64 0, .string ⟨#[]⟩, .string ⟨#[]⟩, .string ⟨#[]⟩, .slice none 0 0] 11 #[.int .i64 11, .string ⟨#[]⟩, .string ⟨#[]⟩, .int .i64 0, .int .i64 0, .int .i64 0, .int .i64 0, .int .i64 0, .int .i64 0, .int .i64 0, .int .i64 0, .int .i64 0, .int .i64 0, .string ⟨#[]⟩, .bool false, .bool false, .string ⟨#[]⟩, .int .i64 0, .string ⟨#[]⟩, .string ⟨#[]⟩, .string ⟨#[]⟩, .slice none 0 0] true W rfl rfl
    (Lib.hid (fun W' _ => areGood_11 yearX W' rfl))
    (Lib.hid (fun W' => by have h := unnamed_11 #[.int .i64 11, .string ⟨#[]⟩, .string ⟨#[]⟩, .int .i64 0, .int .i64 0, .int .i64 0, .int .i64 0, .int .i64 0, .int .i64 0, .int .i64 0, .int .i64 3, .int .i64 2024, .int .i64 1, .string ⟨#[]⟩, .bool false, .bool false, .string ⟨#[]⟩, .int .i64 0, .string ⟨#[]⟩, .string ⟨#[]⟩, .string ⟨#[]⟩, .slice none 0 0] W' rfl rfl (by rw [bare_year]; exact one_kind 11); rw [bare_year] at h; exact h))
    (Lib.hid (fun W' _ => same_kind 11 W'))
def simpleL : LineV := (2, 1, ⟨#[]⟩, ⟨#[]⟩, ⟨#[]⟩, 1000, false, 0, false)
def simpleD (A : Addr) (c : Nat) : DocV := ⟨⟨#[97]⟩, true, false, ⟨#[]⟩, 19000, ⟨#[68, 69]⟩, ⟨#[]⟩, ⟨#[]⟩, some A, [simpleL], c⟩
def simpleX (A : Addr) (c : Nat) : CmdV := ⟨8, ⟨#[]⟩, ⟨#[]⟩, 0, 0, 0, 0, 0, 0, 0, 0, 0, 0, ⟨#[97]⟩, true, false, ⟨#[]⟩, 19000, ⟨#[68, 69]⟩, ⟨#[]⟩, ⟨#[]⟩, some A, [simpleL], c⟩
theorem simpleD_ok {A : Addr} {c : Nat} {W : World} (h : RowLineV W (some A) [simpleL]) (h1 : 1 ≤ c) (h2 : c ≤ maxLen) : DocVOk W (simpleD A c) :=
  ⟨show (⟨#[97]⟩ : ByteArray).size ≤ _ by decide, show (⟨#[]⟩ : ByteArray).size ≤ _ by decide, show (⟨#[68, 69]⟩ : ByteArray).size ≤ _ by decide, show (⟨#[]⟩ : ByteArray).size ≤ _ by decide, show (⟨#[]⟩ : ByteArray).size ≤ _ by decide, h, fun e => absurd e (by simp [simpleD]), h1, h2, fun r hr => by
    have : r = simpleL := by simpa [simpleD] using hr
    subst this
    exact ⟨by decide, by decide, by decide⟩⟩
theorem simple_doc (A : Addr) (c : Nat) (W : World) (h : RowLineV W (some A) [simpleL]) (h1 : 1 ≤ c) (h2 : c ≤ maxLen) : Calls Try.prog 68 #[.agg #[.string ⟨#[97]⟩, .bool true, .bool false, .string ⟨#[]⟩, .int .i64 19000, .string ⟨#[68, 69]⟩, .string ⟨#[]⟩, .string ⟨#[]⟩, .slice (some A) 1 c]] W fun e w1 => e = .returned (.bool true) ∧ Below W.heap.size W w1 :=
  goodDoc_bare (simpleD A c) true W (simpleD_ok h h1 h2) (show ([simpleL] : List LineV).length ≤ _ by decide) (show (⟨#[]⟩ : ByteArray).toList.isEmpty = true by decide +kernel) (show (⟨#[]⟩ : ByteArray).toList.isEmpty = true by decide +kernel) (by
    show docGood (simpleD A c) true true = true
    have e : docGood (simpleD A c) true true = docGood (simpleD ⟨0, 0, none⟩ 1) true true := rfl
    rw [e]
    decide +kernel)
theorem bare_simple (A : Addr) (c : Nat) : bare8 #[.int .i64 8, .string ⟨#[]⟩, .string ⟨#[]⟩, .int .i64 0, .int .i64 0, .int .i64 0, .int .i64 0, .int .i64 0, .int .i64 0, .int .i64 0, .int .i64 0, .int .i64 0, .int .i64 0, .string ⟨#[97]⟩, .bool true, .bool false, .string ⟨#[]⟩, .int .i64 19000, .string ⟨#[68, 69]⟩, .string ⟨#[]⟩, .string ⟨#[]⟩, .slice (some A) 1 c] = #[.int .i64 8, .string ⟨#[]⟩, .string ⟨#[]⟩, .int .i64 0, .int .i64 0, .int .i64 0, .int .i64 0, .int .i64 0, .int .i64 0, .int .i64 0, .int .i64 0, .int .i64 0, .int .i64 0, .string ⟨#[]⟩, .bool false, .bool false, .string ⟨#[]⟩, .int .i64 0, .string ⟨#[]⟩, .string ⟨#[]⟩, .string ⟨#[]⟩, .slice none 0 0] := by simp [bare8]
theorem good_simple (A : Addr) (c : Nat) (W : World) (h : RowLineV W (some A) [simpleL]) (h1 : 1 ≤ c) (h2 : c ≤ maxLen) : Calls Try.prog 33 #[.agg #[.int .i64 8, .string ⟨#[]⟩, .string ⟨#[]⟩, .int .i64 0, .int .i64 0, .int .i64 0, .int .i64 0, .int .i64 0, .int .i64 0, .int .i64 0, .int .i64 0, .int .i64 0, .int .i64 0, .string ⟨#[97]⟩, .bool true, .bool false, .string ⟨#[]⟩, .int .i64 19000, .string ⟨#[68, 69]⟩, .string ⟨#[]⟩, .string ⟨#[]⟩, .slice (some A) 1 c]] W fun e w1 => e = .returned (.bool true) ∧ Below W.heap.size W w1 :=
  good_yes #[.int .i64 8, .string ⟨#[]⟩, .string ⟨#[]⟩, .int .i64 0, .int .i64 0, .int .i64 0, .int .i64 0, .int .i64 0, .int .i64 0, .int .i64 0, .int .i64 0, .int .i64 0, .int .i64 0, .string ⟨#[97]⟩, .bool true, .bool false, .string ⟨#[]⟩, .int .i64 19000, .string ⟨#[68, 69]⟩, .string ⟨#[]⟩, .string ⟨#[]⟩, .slice (some A) 1 c] 8 #[.int .i64 8, .string ⟨#[]⟩, .string ⟨#[]⟩, .int .i64 0, .int .i64 0, .int .i64 0, .int .i64 0, .int .i64 0, .int .i64 0, .int .i64 0, .int .i64 0, .int .i64 0, .int .i64 0, .string ⟨#[]⟩, .bool false, .bool false, .string ⟨#[]⟩, .int .i64 0, .string ⟨#[]⟩, .string ⟨#[]⟩, .string ⟨#[]⟩, .slice none 0 0] true W rfl rfl
    (Lib.hid (fun W' hb => areGood_8 (simpleX A c) true W' rfl (Lib.hid (fun W2 hb2 => simple_doc A c W2 (h.on (below_then hb hb2)) h1 h2))))
    (Lib.hid (fun W' => by have h := unnamed_8 #[.int .i64 8, .string ⟨#[]⟩, .string ⟨#[]⟩, .int .i64 0, .int .i64 0, .int .i64 0, .int .i64 0, .int .i64 0, .int .i64 0, .int .i64 0, .int .i64 0, .int .i64 0, .int .i64 0, .string ⟨#[97]⟩, .bool true, .bool false, .string ⟨#[]⟩, .int .i64 19000, .string ⟨#[68, 69]⟩, .string ⟨#[]⟩, .string ⟨#[]⟩, .slice (some A) 1 c] W' rfl rfl (by rw [bare_simple]; exact one_kind 8); rw [bare_simple] at h; exact h))
    (Lib.hid (fun W' _ => same_kind 8 W'))
end Go.Proofs.Ytplghpamckdklaa
