/- Small words of the lexer: what runes and bytes are. How far runes of a kind stand at a text's beginning. -/
import Derived.Test.YtpapcnogbmjpjaaGreatDoorK1
namespace Go.Proofs.YtpapcnogbmjpjaaGreatDoor
open Go.RowKit
set_option maxRecDepth 100000
set_option linter.unusedSimpArgs false
set_option linter.unusedVariables false

def isLr (r : Int) : Bool := decide (97 ≤ r) && decide (r ≤ 122)
def isDr (r : Int) : Bool := decide (48 ≤ r) && decide (r ≤ 57)
def isRr (r : Int) : Bool := decide (r ≠ 10)
def isBr (r : Int) : Bool := decide (r = 32 ∨ r = 9 ∨ r = 13 ∨ r = 10)
def isSr (r : Int) : Bool := decide (r = 43 ∨ r = 45 ∨ r = 40 ∨ r = 41 ∨ r = 44 ∨ r = 59 ∨ r = 61 ∨ r = 60 ∨ r = 62)
theorem code_isLetter (r : Int) (w : World) : Calls Tryz.prog 70 #[.int .i32 r] w fun e w' => e = .returned (.bool (isLr r)) ∧ w = w' := by
  go_enter Tryz.func70, Tryz.ntmps70
  go_wp2
  all_goals (
    go_ret
    exact ⟨ret_bool (by rw [Bool.eq_iff_iff]; simp [isLr]; try omega), rfl⟩)
theorem code_isDigit (r : Int) (w : World) : Calls Tryz.prog 71 #[.int .i32 r] w fun e w' => e = .returned (.bool (isDr r)) ∧ w = w' := by
  go_enter Tryz.func71, Tryz.ntmps71
  go_wp2
  all_goals (
    go_ret
    exact ⟨ret_bool (by rw [Bool.eq_iff_iff]; simp [isDr]; try omega), rfl⟩)
theorem code_isRemark (r : Int) (w : World) : Calls Tryz.prog 52 #[.int .i32 r] w fun e w' => e = .returned (.bool (isRr r)) ∧ w = w' := by
  go_enter Tryz.func52, Tryz.ntmps52
  go_wp2
  all_goals (
    go_ret
    exact ⟨ret_bool (by unfold isRr; by_cases h : r = 10 <;> simp [h]), rfl⟩)
theorem code_isBlank (r : Int) (w : World) : Calls Tryz.prog 50 #[.int .i32 r] w fun e w' => e = .returned (.bool (isBr r)) ∧ w = w' := by
  go_enter Tryz.func50, Tryz.ntmps50
  go_wp2
  all_goals (
    go_ret
    exact ⟨ret_bool (by simp_all [isBr]), rfl⟩)
theorem code_isSign (r : Int) (w : World) : Calls Tryz.prog 73 #[.int .i32 r] w fun e w' => e = .returned (.bool (isSr r)) ∧ w = w' := by
  go_enter Tryz.func73, Tryz.ntmps73
  go_wp2
  all_goals (
    go_ret
    exact ⟨ret_bool (by simp_all [isSr]), rfl⟩)
/-- a word, whatever it is -/
def kwB (w : ByteArray) : Bool := decide (w.toList = [98, 111, 120] ∨ w.toList = [115, 117, 109] ∨ w.toList = [109, 105, 110] ∨ w.toList = [109, 97, 120] ∨ w.toList = [99, 108, 97, 109, 112])
theorem str_is (w : ByteArray) (l : List UInt8) : (w.toList == l) = decide (w.toList = l) := by
  rw [Bool.eq_iff_iff]
  simp
set_option maxHeartbeats 1000000 in
theorem code_Keyword (s : ByteArray) (w : World) : Calls Tryz.prog 107 #[.string s] w fun e w' => e = .returned (.bool (kwB s)) ∧ w = w' := by
  unfold kwB
  go_enter Tryz.func107, Tryz.ntmps107
  go_wp2
  all_goals (
    go_ret
    exact ⟨ret_bool (by simp_all), rfl⟩)
set_option maxHeartbeats 1000000 in
theorem ref_Keyword (s : ByteArray) (w : World) : Calls Tryz.prog 81 #[.string s] w fun e w' => e = .returned (.bool (kwB s)) ∧ w = w' := by
  unfold kwB
  go_enter Tryz.func81, Tryz.ntmps81
  go_wp2
  all_goals (
    go_ret
    exact ⟨ret_bool (by rw [Bool.eq_iff_iff]; simp_all), rfl⟩)
end Go.Proofs.YtpapcnogbmjpjaaGreatDoor

namespace Go.Proofs.YtpapcnogbmjpjaaGreatDoor
open Go.RowKit
set_option maxRecDepth 100000
set_option linter.unusedSimpArgs false
set_option linter.unusedVariables false

/-- a rune and its bytes are of one kind -/
theorem dec_any {t : ByteArray} {pos : Nat} {P : Int → Bool} {p : UInt8 → Bool} (hlow : ∀ b : UInt8, b.toNat < 128 → P b.toNat = p b) (hhigh : ∀ (r : Int) (b : UInt8), 128 ≤ r → 128 ≤ b.toNat → P r = p b) (hp : pos < t.size) :
    ∃ r wd : Nat, Utf8.decode t pos = (r, wd) ∧ 1 ≤ wd ∧ pos + wd ≤ t.size ∧ P r = p (bt t pos) ∧ ∀ j, pos ≤ j → j < pos + wd → p (bt t j) = p (bt t pos) := by
  by_cases hb : (bt t pos).toNat < 128
  · refine ⟨_, 1, dec_low hp hb, Nat.le_refl _, hp, hlow _ hb, fun j h1 h2 => ?_⟩
    obtain rfl : j = pos := by omega
    rfl
  · obtain ⟨q1, q2, q3, q4⟩ := dec_high hp (by omega)
    refine ⟨(Utf8.decode t pos).1, (Utf8.decode t pos).2, rfl, q2, q3, hhigh _ _ (by omega) (by omega), fun j h1 h2 => ?_⟩
    have h3 := q4 (j - pos) (by omega)
    rw [show pos + (j - pos) = j by omega] at h3
    rw [← hhigh 128 (bt t j) (by omega) h3, hhigh 128 (bt t pos) (by omega) (by omega)]
theorem low_l (b : UInt8) (h : b.toNat < 128) : isLr b.toNat = isLb b := by
  unfold isLr isLb
  rw [Bool.eq_iff_iff]
  simp
  try omega
theorem high_l (r : Int) (b : UInt8) (h1 : 128 ≤ r) (h2 : 128 ≤ b.toNat) : isLr r = isLb b := by
  unfold isLr isLb
  rw [Bool.eq_iff_iff]
  simp
  try omega
set_option maxHeartbeats 1000000 in
theorem code_lead_l (t : ByteArray) (w : World) (ht : t.size ≤ 9223372036854775807) : Calls Tryz.prog 51 #[.string t, .func (.func 70) #[] #[]] w fun e w' => e = .returned (.int .i64 (runE isLb t 0)) ∧ Below w.heap.size w w' := by
  have HT := Lib.hid ht
  clear ht
  go_enter Tryz.func51, Tryz.ntmps51
  go_wp2
  go_loopw [5, 6] (fun v5 v6 wr => ∃ pos : Nat, Hid (pos ≤ t.size ∧ runE isLb t 0 = runE isLb t pos) ∧ wr = w.iter t pos) (fun _ _ wr => t.size - wr.iterPos w.heap.size)
  case atStart => exact ⟨0, Lib.hid ⟨Nat.zero_le _, rfl⟩, rfl⟩
  case round =>
    obtain ⟨pos, HP, rfl⟩ := hrel
    by_cases hp : pos < t.size
    · obtain ⟨r, wd, hd, h1, h2, h3, h4⟩ := dec_any low_l high_l hp
      have hnx : ∀ ty, (Instr.next (.pointer (some ⟨w.heap.size, 0, none⟩)) true ty).run Tryz.prog (w.iter t pos) = .ok (.tuple #[.bool true, .int .i64 pos, .int .i32 (r : Nat)]) (w.iter t (pos + wd)) := fun ty => by
        rw [run_next_any w t pos ty hp, hd]
      have HF : Hid (∀ W, Calls Tryz.prog 70 #[.int .i32 (r : Nat)] W fun e w' => e = .returned (.bool (isLb (bt t pos))) ∧ W = w') := Lib.hid fun W => by rw [← h3]; exact code_isLetter r W
      have HH := Lib.hid (And.intro hp (And.intro h1 (And.intro h2 h4)))
      clear hp hd h1 h2 h3 h4
      cases hb : isLb (bt t pos) with
      | true =>
        rw [hb] at HF
        have HB := Lib.hid hb
        clear hb
        go_wp2_with (first
          | (go_at_call 70; refine (HF.out _).mono ?_; rintro e w1 ⟨rfl, rfl⟩))
        go_roundw
        case rel =>
          obtain ⟨a1, a2, a3, a4⟩ := HH.out
          exact ⟨pos + wd, Lib.hid ⟨a3, HP.out.2.trans (runE_skip (Nat.le_add_right _ _) a3 fun j b1 b2 => (a4 j b1 b2).trans HB.out)⟩, rfl⟩
        case measure =>
          have := HH.out
          simp
          omega
      | false =>
        rw [hb] at HF
        have HB := Lib.hid hb
        clear hb
        go_wp2_with (first
          | (go_at_call 70; refine (HF.out _).mono ?_; rintro e w1 ⟨rfl, rfl⟩))
        go_ret
        refine ⟨ret_int ?_, below_alloc _ _⟩
        rw [HP.out.2, runE_stop HP.out.1 fun _ => HB.out]
    · have hnx : ∀ ty, (Instr.next (.pointer (some ⟨w.heap.size, 0, none⟩)) true ty).run Tryz.prog (w.iter t pos) = _ := fun ty => run_next_end w t pos ty hp
      have HQ := Lib.hid hp
      clear hp
      go_wp2
      go_ret
      refine ⟨ret_int ?_, below_alloc _ _⟩
      have h1 := HP.out
      have h2 := HQ.out
      rw [h1.2, runE_stop h1.1 fun h => absurd h h2]
      omega
theorem low_d (b : UInt8) (h : b.toNat < 128) : isDr b.toNat = isDb b := by
  unfold isDr isDb
  rw [Bool.eq_iff_iff]
  simp
  try omega
theorem high_d (r : Int) (b : UInt8) (h1 : 128 ≤ r) (h2 : 128 ≤ b.toNat) : isDr r = isDb b := by
  unfold isDr isDb
  rw [Bool.eq_iff_iff]
  simp
  try omega
set_option maxHeartbeats 1000000 in
theorem code_lead_d (t : ByteArray) (w : World) (ht : t.size ≤ 9223372036854775807) : Calls Tryz.prog 51 #[.string t, .func (.func 71) #[] #[]] w fun e w' => e = .returned (.int .i64 (runE isDb t 0)) ∧ Below w.heap.size w w' := by
  have HT := Lib.hid ht
  clear ht
  go_enter Tryz.func51, Tryz.ntmps51
  go_wp2
  go_loopw [5, 6] (fun v5 v6 wr => ∃ pos : Nat, Hid (pos ≤ t.size ∧ runE isDb t 0 = runE isDb t pos) ∧ wr = w.iter t pos) (fun _ _ wr => t.size - wr.iterPos w.heap.size)
  case atStart => exact ⟨0, Lib.hid ⟨Nat.zero_le _, rfl⟩, rfl⟩
  case round =>
    obtain ⟨pos, HP, rfl⟩ := hrel
    by_cases hp : pos < t.size
    · obtain ⟨r, wd, hd, h1, h2, h3, h4⟩ := dec_any low_d high_d hp
      have hnx : ∀ ty, (Instr.next (.pointer (some ⟨w.heap.size, 0, none⟩)) true ty).run Tryz.prog (w.iter t pos) = .ok (.tuple #[.bool true, .int .i64 pos, .int .i32 (r : Nat)]) (w.iter t (pos + wd)) := fun ty => by
        rw [run_next_any w t pos ty hp, hd]
      have HF : Hid (∀ W, Calls Tryz.prog 71 #[.int .i32 (r : Nat)] W fun e w' => e = .returned (.bool (isDb (bt t pos))) ∧ W = w') := Lib.hid fun W => by rw [← h3]; exact code_isDigit r W
      have HH := Lib.hid (And.intro hp (And.intro h1 (And.intro h2 h4)))
      clear hp hd h1 h2 h3 h4
      cases hb : isDb (bt t pos) with
      | true =>
        rw [hb] at HF
        have HB := Lib.hid hb
        clear hb
        go_wp2_with (first
          | (go_at_call 71; refine (HF.out _).mono ?_; rintro e w1 ⟨rfl, rfl⟩))
        go_roundw
        case rel =>
          obtain ⟨a1, a2, a3, a4⟩ := HH.out
          exact ⟨pos + wd, Lib.hid ⟨a3, HP.out.2.trans (runE_skip (Nat.le_add_right _ _) a3 fun j b1 b2 => (a4 j b1 b2).trans HB.out)⟩, rfl⟩
        case measure =>
          have := HH.out
          simp
          omega
      | false =>
        rw [hb] at HF
        have HB := Lib.hid hb
        clear hb
        go_wp2_with (first
          | (go_at_call 71; refine (HF.out _).mono ?_; rintro e w1 ⟨rfl, rfl⟩))
        go_ret
        refine ⟨ret_int ?_, below_alloc _ _⟩
        rw [HP.out.2, runE_stop HP.out.1 fun _ => HB.out]
    · have hnx : ∀ ty, (Instr.next (.pointer (some ⟨w.heap.size, 0, none⟩)) true ty).run Tryz.prog (w.iter t pos) = _ := fun ty => run_next_end w t pos ty hp
      have HQ := Lib.hid hp
      clear hp
      go_wp2
      go_ret
      refine ⟨ret_int ?_, below_alloc _ _⟩
      have h1 := HP.out
      have h2 := HQ.out
      rw [h1.2, runE_stop h1.1 fun h => absurd h h2]
      omega
theorem low_r (b : UInt8) (h : b.toNat < 128) : isRr b.toNat = isRb b := by
  unfold isRr isRb
  rw [Bool.eq_iff_iff]
  simp
  try omega
theorem high_r (r : Int) (b : UInt8) (h1 : 128 ≤ r) (h2 : 128 ≤ b.toNat) : isRr r = isRb b := by
  unfold isRr isRb
  rw [Bool.eq_iff_iff]
  simp
  try omega
set_option maxHeartbeats 1000000 in
theorem code_lead_r (t : ByteArray) (w : World) (ht : t.size ≤ 9223372036854775807) : Calls Tryz.prog 51 #[.string t, .func (.func 52) #[] #[]] w fun e w' => e = .returned (.int .i64 (runE isRb t 0)) ∧ Below w.heap.size w w' := by
  have HT := Lib.hid ht
  clear ht
  go_enter Tryz.func51, Tryz.ntmps51
  go_wp2
  go_loopw [5, 6] (fun v5 v6 wr => ∃ pos : Nat, Hid (pos ≤ t.size ∧ runE isRb t 0 = runE isRb t pos) ∧ wr = w.iter t pos) (fun _ _ wr => t.size - wr.iterPos w.heap.size)
  case atStart => exact ⟨0, Lib.hid ⟨Nat.zero_le _, rfl⟩, rfl⟩
  case round =>
    obtain ⟨pos, HP, rfl⟩ := hrel
    by_cases hp : pos < t.size
    · obtain ⟨r, wd, hd, h1, h2, h3, h4⟩ := dec_any low_r high_r hp
      have hnx : ∀ ty, (Instr.next (.pointer (some ⟨w.heap.size, 0, none⟩)) true ty).run Tryz.prog (w.iter t pos) = .ok (.tuple #[.bool true, .int .i64 pos, .int .i32 (r : Nat)]) (w.iter t (pos + wd)) := fun ty => by
        rw [run_next_any w t pos ty hp, hd]
      have HF : Hid (∀ W, Calls Tryz.prog 52 #[.int .i32 (r : Nat)] W fun e w' => e = .returned (.bool (isRb (bt t pos))) ∧ W = w') := Lib.hid fun W => by rw [← h3]; exact code_isRemark r W
      have HH := Lib.hid (And.intro hp (And.intro h1 (And.intro h2 h4)))
      clear hp hd h1 h2 h3 h4
      cases hb : isRb (bt t pos) with
      | true =>
        rw [hb] at HF
        have HB := Lib.hid hb
        clear hb
        go_wp2_with (first
          | (go_at_call 52; refine (HF.out _).mono ?_; rintro e w1 ⟨rfl, rfl⟩))
        go_roundw
        case rel =>
          obtain ⟨a1, a2, a3, a4⟩ := HH.out
          exact ⟨pos + wd, Lib.hid ⟨a3, HP.out.2.trans (runE_skip (Nat.le_add_right _ _) a3 fun j b1 b2 => (a4 j b1 b2).trans HB.out)⟩, rfl⟩
        case measure =>
          have := HH.out
          simp
          omega
      | false =>
        rw [hb] at HF
        have HB := Lib.hid hb
        clear hb
        go_wp2_with (first
          | (go_at_call 52; refine (HF.out _).mono ?_; rintro e w1 ⟨rfl, rfl⟩))
        go_ret
        refine ⟨ret_int ?_, below_alloc _ _⟩
        rw [HP.out.2, runE_stop HP.out.1 fun _ => HB.out]
    · have hnx : ∀ ty, (Instr.next (.pointer (some ⟨w.heap.size, 0, none⟩)) true ty).run Tryz.prog (w.iter t pos) = _ := fun ty => run_next_end w t pos ty hp
      have HQ := Lib.hid hp
      clear hp
      go_wp2
      go_ret
      refine ⟨ret_int ?_, below_alloc _ _⟩
      have h1 := HP.out
      have h2 := HQ.out
      rw [h1.2, runE_stop h1.1 fun h => absurd h h2]
      omega
end Go.Proofs.YtpapcnogbmjpjaaGreatDoor
