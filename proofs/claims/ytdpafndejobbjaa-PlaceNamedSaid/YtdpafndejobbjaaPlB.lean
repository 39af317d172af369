/- Where a line is supplied: the closure that tells zones. -/
import Derived.Test.YtdpafndejobbjaaPlA
namespace Go.Proofs.Ytdpafndejobbjaa
open Go.RowKit
set_option maxRecDepth 100000
set_option linter.unusedSimpArgs false
set_option linter.unusedVariables false

theorem below_set {w v : World} {b o : Nat} {x : Value} (hb : w.heap.size ≤ b) (h : Below w.heap.size w v) : Below w.heap.size w (v.setCell ⟨b, o, none⟩ x) := h.setCell hb x
theorem below_drew (w : World) : Below w.heap.size w w.drew := (Below.refl _ _).drew
def zn (h c : ByteArray) : Int := if c = h then 0 else if isMem c then 1 else 2
def zoneOk (h c : ByteArray) : Bool := isMem h && placeB c
theorem zone_yes {h c : ByteArray} (H : zoneOk h c = true) : zoneV h c = zT (zn h c) 0 := by
  unfold zoneOk placeB at H
  unfold zoneV zn
  rw [if_pos H]
  split
  · rfl
  · split <;> rfl
theorem zone_no {h c : ByteArray} (H : zoneOk h c = false) : zoneV h c = zT 0 40 := by
  unfold zoneOk placeB at H
  unfold zoneV
  rw [if_neg (by rw [H]; simp)]
set_option maxHeartbeats 1000000 in
theorem zone_off (c : ByteArray) (be bh : Nat) (w : World) : Calls Try.prog 26 #[.bool false, .string c, .pointer (some ⟨be, 0, none⟩), .pointer (some ⟨bh, 0, none⟩)] w fun e w1 => e = .returned (.int .i64 0) ∧ w = w1 := by
  go_enter Try.func26, Try.ntmps26
  go_wp2
  go_ret
  exact ⟨rfl, rfl⟩
set_option maxHeartbeats 1000000 in
theorem zone_bad (nm : Bool) (c : ByteArray) (be bh : Nat) (er : Int) (w : World) (he : er ≠ 0) (hc : w.cell? ⟨be, 0, none⟩ = some (.int .i64 er)) : Calls Try.prog 26 #[.bool nm, .string c, .pointer (some ⟨be, 0, none⟩), .pointer (some ⟨bh, 0, none⟩)] w fun e w1 => e = .returned (.int .i64 0) ∧ w = w1 := by
  have h1 : (er != 0) = true := bne_iff_ne.2 he
  clear he
  cases nm
  all_goals
    go_enter Try.func26, Try.ntmps26
    go_wp2
    go_ret
    exact ⟨rfl, rfl⟩
set_option maxHeartbeats 1000000 in
theorem zone_on (h c : ByteArray) (be bh : Nat) (z er : Int) (w : World) (he : w.cell? ⟨be, 0, none⟩ = some (.int .i64 0)) (hf : w.frozen? ⟨be, 0, none⟩ = false) (hh : w.cell? ⟨bh, 0, none⟩ = some (.string h)) (h1 : h.size ≤ 1000) (h2 : c.size ≤ 1000) (hM : MaxL w) (hV : zoneV h c = zT z er) : Calls Try.prog 26 #[.bool true, .string c, .pointer (some ⟨be, 0, none⟩), .pointer (some ⟨bh, 0, none⟩)] w fun e w1 => e = .returned (.int .i64 z) ∧ w1 = w.setCell ⟨be, 0, none⟩ (.int .i64 er) := by
  have HZ := Lib.hid (code_zone h c w h1 h2 hM)
  rw [hV] at HZ
  unfold zT at HZ
  clear hV hM h1 h2
  go_enter Try.func26, Try.ntmps26
  go_wp2_with (go_at_call 27; refine HZ.out.mono ?_; rintro e w1 ⟨rfl, rfl⟩)
  go_ret
  exact ⟨rfl, rfl⟩
end Go.Proofs.Ytdpafndejobbjaa
