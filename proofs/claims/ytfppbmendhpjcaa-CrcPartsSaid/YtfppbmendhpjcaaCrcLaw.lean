/- The statements on check sums, walked: the examples; sums; joins. -/
import Derived.Test.YtfppbmendhpjcaaCrcUnwrap
import Derived.Lib.SlBytesConst
namespace Go.Proofs.Ytfppbmendhpjcaa
open Go.RowKit

def ab : Text := [97, 98]
def digits : Text := [49, 50, 51, 52, 53, 54, 55, 56, 57]
theorem digits_sum : reg (Crc.sumT digits) = 3421780262 := by decide +kernel
theorem txt_lit (w : World) (l : Text) (fr : Nat × Nat) : Txt (w.alloc (.cells (l.map cellOf).toArray 5 fr)) (some ⟨w.heap.size, 0, none⟩) l := fun _ =>
  ⟨_, rfl, by simp, fun i hi => by
    have e : (⟨w.heap.size, 0, none⟩ : Addr).add i = ⟨w.heap.size, i, none⟩ := by
      unfold Addr.add
      by_cases h : i = 0
      · rw [if_pos h, h]
      · rw [if_neg h]; simp
    rw [e, World.cell?_alloc_mark]
    simp [hi, cellOf]⟩
/-- what was wrapped, taken off again -/
def Took (w : World) (l : Text) (e : Ending) (w' : World) : Prop :=
  ∃ A c, e = .returned (.tuple #[.slice A l.length c, .int .i64 0]) ∧ Txt w' A l ∧ (A = none → l = []) ∧ Below w.heap.size w w'
theorem code_took (l : Text) (A : Option Addr) (cap : Nat) (w : World) (hm : l.length ≤ 140737488351000) (hc : (wrapT l).length ≤ cap) (hT : Txt w A (wrapT l)) (hA : A = none → wrapT l = []) :
    Calls Try.prog 41 #[.slice A (wrapT l).length cap] w (Took w l) := by
  have hl := wrapT_length l
  have hd : (wrapT l).drop 4 = l := List.drop_left' rfl
  have ht : (wrapT l).take 4 = Crc.four (Crc.sumT l) := List.take_left' rfl
  refine (code_unwrap (wrapT l) A cap w (by omega) hc hT hA).mono fun e w' ⟨hb, h⟩ => ?_
  rw [hd, ht] at h
  rcases h with ⟨h, _⟩ | ⟨_, _, A', c, h1, h2, h3⟩ | ⟨_, h, _⟩
  · omega
  · exact ⟨A', c, h1, h2, h3, hb⟩
  · exact absurd rfl h
theorem own_cap {w : World} {B n m c : Nat} {A : Option Addr} {xs : List Value} (h : w.ownsRow B 5 1 (.slice A n c) m xs) (hn : 0 < n) : n ≤ c := by
  rcases h.2 with ⟨h0, _⟩ | ⟨g, cap, cur, hv, _, _, hc, _⟩
  · injection h0 with _ h1; omega
  · injection hv with h1 h2 h3; omega

set_option maxHeartbeats 1000000 in
theorem lives_any (w : World) : Calls Try.prog 33 #[] w fun e w' => e = .returned (.bool true) ∧ Below w.heap.size w w' := by
  have kc := fun (w : World) (C : Array Value) (n c : Nat) => Lib.run_convert_bytes_const (P := Try.prog) w 27 5 C n c Try.underlying27 Try.underlying5
  have HW := Lib.hid (code_wrap ab (some ⟨w.heap.size, 0, none⟩) 2 (w.alloc (.cells (ab.map cellOf).toArray 5 (2, 3))) (by decide) (txt_lit _ _ _) (by simp))
  have HB0 := Lib.hid ((Below.refl w.heap.size w).alloc (Nat.le_refl _) (.cells (ab.map cellOf).toArray 5 (2, 3)))
  go_enter Try.func33, Try.ntmps33
  go_wp2_with (first
    | (go_at_call 40; refine HW.out.mono ?_; rintro e w1 ⟨g1, c1, rfl, ho1, hb1⟩; have HO1 := Lib.hid ho1; have HB1 := Lib.hid (HB0.out.trans (hb1.mono HB0.out.size)); clear ho1 hb1)
    | (go_at_call 41; refine (code_took ab _ c1 w1 (by decide) (own_cap HO1.out (by decide)) (.of_own HO1.out) (by simp)).mono ?_; rintro e w2 ⟨A2, c2, rfl, ht2, hn2, hb2⟩; have HT2 := Lib.hid ht2; have HN2 := Lib.hid hn2; have HB2 := Lib.hid (HB1.out.trans (hb2.mono HB1.out.size)); clear ht2 hn2 hb2)
    | (go_at_call 36; refine (code_sum digits (some ⟨w2.heap.size, 0, none⟩) 9 _ (by decide) (txt_lit _ _ _)).mono ?_; rintro e w3 ⟨rfl, hb3⟩; have HS := digits_sum; have hs3 := text_run w3 A2 c2 ab ((HT2.out.alloc _).below hb3) HN2.out; have HB3 := Lib.hid ((HB2.out.alloc HB2.out.size _).trans (hb3.mono (Nat.le_trans HB2.out.size (by simp)))); clear hb3))
  go_ret
  exact ⟨ret_bool (by decide), HB3.out⟩
end Go.Proofs.Ytfppbmendhpjcaa
