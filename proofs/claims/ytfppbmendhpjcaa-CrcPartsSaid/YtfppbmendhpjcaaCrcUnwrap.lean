/- Two slices compared; what is wrapped taken off: the program's, and the document's own. -/
import Derived.Test.YtfppbmendhpjcaaCrcCode
import Derived.BigQuiet
import Derived.Deep.QuietTactic
import Derived.Deep.RegionWith
namespace Go.Proofs.Ytfppbmendhpjcaa
open Go.RowKit

theorem below_drewN {B : Nat} {a w : World} (h : Below B a w) (n : Nat) : Below B a (w.drewN n) := ⟨h.os, h.tape, h.output, h.size, h.block⟩

set_option maxHeartbeats 1000000 in
theorem code_equal (l m : Text) (A B : Option Addr) (c d : Nat) (w : World) (hl : l.length ≤ 140737488355328) (hm : m.length ≤ 140737488355328) (hT : Txt w A l) (hU : Txt w B m) :
    Calls Try.prog 62 #[.slice A l.length c, .slice B m.length d] w fun e w' => e = .returned (.bool (decide (l = m))) ∧ ∃ n, w' = w.drewN n := by
  by_cases hlen : l.length = m.length
  · have HL := Lib.hid hlen
    have HT := Lib.hid hT
    have HU := Lib.hid hU
    have ht : (((l.length : Nat) : Int) != ((m.length : Nat) : Int)) = false := by rw [hlen]; simp
    clear hlen hT hU
    go_enter Try.func62, Try.ntmps62
    go_wp2
    go_loopw [13] (fun i wr => ∃ k n : Nat, k ≤ l.length ∧ i = .int .i64 k ∧ wr = w.drewN n ∧ Hid (l.take k = m.take k)) (fun i _ => l.length - (intOf i).toNat)
    case atStart => exact ⟨0, 0, Nat.zero_le _, rfl, rfl, Lib.hid rfl⟩
    case round =>
      obtain ⟨k, n, hk, rfl, rfl, HE⟩ := hrel
      by_cases hlt : k < l.length
      · have hlt2 : k < m.length := by have := HL.out; omega
        obtain ⟨a, rfl, _, hca⟩ := HT.out.at_ hlt
        obtain ⟨b, rfl, _, hcb⟩ := HU.out.at_ hlt2
        have hca' : (w.drewN n).cell? (a.add k) = some (.int .u8 ((l[k].toNat : Nat) : Int)) := hca
        have hcb' : (w.drewN n).cell? (b.add k) = some (.int .u8 ((m[k].toNat : Nat) : Int)) := hcb
        have hi1 : (k : Int) < (l.length : Int) := by omega
        have hi2 : (k : Int) < (m.length : Int) := by omega
        by_cases hxy : l[k] = m[k]
        · have HS : Hid (l.take (k + 1) = m.take (k + 1)) := Lib.hid (by rw [take_next l k hlt, take_next m k hlt2, HE.out, hxy])
          have htt : (((l[k].toNat : Nat) : Int) != ((m[k].toNat : Nat) : Int)) = false := by rw [hxy]; simp
          generalize l[k] = x at *
          generalize m[k] = y at *
          clear hxy
          go_wp2
          go_quiet (fail)
          go_wp2
          go_roundw
          case rel => exact ⟨k + 1, _, by omega, by go_num, rfl, HS⟩
          case measure => simp [intOf]; omega
        · have hd : decide (l = m) = false := by
            rw [decide_eq_false_iff_not]
            intro h
            subst h
            exact hxy rfl
          have HD := Lib.hid hd
          have htt : (((l[k].toNat : Nat) : Int) != ((m[k].toNat : Nat) : Int)) = true := by
            have : ¬ ((l[k].toNat : Nat) : Int) = ((m[k].toNat : Nat) : Int) := fun h => hxy (UInt8.toNat_inj.1 (by omega))
            simp [this]
          generalize l[k] = x at *
          generalize m[k] = y at *
          clear hxy hd
          go_wp2
          go_quiet (fail)
          go_wp2
          go_ret
          exact ⟨ret_bool HD.out.symm, _, World.drewN_drewN _ _ _⟩
      · obtain rfl : k = l.length := by omega
        have HD : Hid (decide (l = m) = true) := Lib.hid (by
          have h := HE.out
          have hl := HL.out
          rw [List.take_length, hl, List.take_length] at h
          simp [h])
        go_wp2
        go_ret
        exact ⟨ret_bool HD.out.symm, _, rfl⟩
  · have ht : (((l.length : Nat) : Int) != ((m.length : Nat) : Int)) = true := by simp; omega
    have hd : decide (l = m) = false := by
      rw [decide_eq_false_iff_not]
      intro h
      exact hlen (by rw [h])
    clear hlen hT hU
    go_enter Try.func62, Try.ntmps62
    go_wp2
    go_ret
    exact ⟨ret_bool hd.symm, 0, rfl⟩

/-- what Unwrap tells -/
def Unwrapped (w : World) (l : Text) (e : Ending) (w' : World) : Prop :=
  Below w.heap.size w w' ∧ ((l.length < 4 ∧ e = .returned (.tuple #[.slice none 0 0, .int .i64 10])) ∨
    (4 ≤ l.length ∧ l.take 4 = Crc.four (Crc.sumT (l.drop 4)) ∧ ∃ A c, e = .returned (.tuple #[.slice A (l.drop 4).length c, .int .i64 0]) ∧ Txt w' A (l.drop 4) ∧ (A = none → l.drop 4 = [])) ∨
    (4 ≤ l.length ∧ l.take 4 ≠ Crc.four (Crc.sumT (l.drop 4)) ∧ e = .returned (.tuple #[.slice none 0 0, .int .i64 12])))

theorem code_unwrap_short (l : Text) (A : Option Addr) (cap : Nat) (w : World) (h : l.length < 4) :
    Calls Try.prog 41 #[.slice A l.length cap] w (Unwrapped w l) := by
  go_enter Try.func41, Try.ntmps41
  go_wp2
  go_ret2
  exact ⟨Below.refl _ _, .inl ⟨h, rfl⟩⟩

def Sum4 (W : World) (x : Crc.Reg) (e : Ending) (w' : World) : Prop := ∃ g c, e = .returned (.slice (some ⟨g, 0, none⟩) 4 c) ∧ Txt w' (some ⟨g, 0, none⟩) (Crc.four x) ∧ Below W.heap.size W w'

set_option maxHeartbeats 4000000 in
theorem code_unwrap_far (l : Text) (a : Addr) (cap : Nat) (w : World) (hm : l.length ≤ 140737488351232) (hc : l.length ≤ cap) (h : 4 ≤ l.length) (h4 : cap ≠ 4) (b : Bool)
    (HS : Hid (∀ W, Below w.heap.size w W → Calls Try.prog 61 #[.slice (some ⟨a.block, a.off + 4, none⟩) (l.length - 4) (cap - 4)] W (Sum4 W (Crc.sumT (l.drop 4)))))
    (HE : Hid (∀ (W : World) (B : Option Addr) (d : Nat), Below w.heap.size w W → Txt W B (Crc.four (Crc.sumT (l.drop 4))) → Calls Try.prog 62 #[.slice (some a) 4 cap, .slice B 4 d] W fun e w' => e = .returned (.bool b) ∧ ∃ n, w' = W.drewN n))
    (HC : Hid (∀ W, Below w.heap.size w W → Calls Try.prog 47 #[.slice (some ⟨a.block, a.off + 4, none⟩) (l.length - 4) (cap - 4)] W (Made W (l.drop 4))))
    (hb : Hid (decide (l.take 4 = Crc.four (Crc.sumT (l.drop 4))) = b)) (HL : Hid ((l.drop 4).length = l.length - 4)) :
    Calls Try.prog 41 #[.slice (some a) l.length cap] w (Unwrapped w l) := by
  cases b
  · go_enter Try.func41, Try.ntmps41
    go_wp2
    go_region_with (first
      | (go_at_call 61; refine (HS.out _ (Below.refl _ _).drew).mono ?_; rintro e w1 ⟨g1, c1, rfl, ht1, hb1⟩; have HB := Lib.hid (((Below.refl w.heap.size w).drew).trans hb1); have HT1 := Lib.hid ht1; clear ht1 hb1)
      | (go_at_call 62; refine (HE.out _ _ _ HB.out HT1.out).mono ?_; rintro e w2 ⟨rfl, n2, rfl⟩))
    all_goals go_wp2
    all_goals go_ret2
    all_goals exact ⟨below_drewN HB.out _, .inr (.inr ⟨h, of_decide_eq_false hb.out, rfl⟩)⟩
  · go_enter Try.func41, Try.ntmps41
    go_wp2
    go_region_with (first
      | (go_at_call 61; refine (HS.out _ (Below.refl _ _).drew).mono ?_; rintro e w1 ⟨g1, c1, rfl, ht1, hb1⟩; have HB := Lib.hid (((Below.refl w.heap.size w).drew).trans hb1); have HT1 := Lib.hid ht1; clear ht1 hb1)
      | (go_at_call 62; refine (HE.out _ _ _ HB.out HT1.out).mono ?_; rintro e w2 ⟨rfl, n2, rfl⟩))
    all_goals go_wp2_with (go_at_call 47; refine (HC.out _ (below_drewN HB.out n2)).mono ?_; rintro e w3 ⟨g3, c3, rfl, ho3, hb3⟩)
    all_goals go_ret2
    all_goals exact ⟨(below_drewN HB.out n2).trans (hb3.mono HB.out.size), .inr (.inl ⟨h, of_decide_eq_true hb.out, _, c3, by rw [HL.out]; rfl, .of_own ho3, fun hno => by simp at hno⟩)⟩

set_option maxHeartbeats 4000000 in
theorem code_unwrap_near (l : Text) (a : Addr) (w : World) (h : Hid (l.length = 4)) (b : Bool)
    (HS : Hid (∀ W, Below w.heap.size w W → Calls Try.prog 61 #[.slice (some a) 0 0] W (Sum4 W (Crc.sumT (l.drop 4)))))
    (HE : Hid (∀ (W : World) (B : Option Addr) (d : Nat), Below w.heap.size w W → Txt W B (Crc.four (Crc.sumT (l.drop 4))) → Calls Try.prog 62 #[.slice (some a) 4 4, .slice B 4 d] W fun e w' => e = .returned (.bool b) ∧ ∃ n, w' = W.drewN n))
    (HC : Hid (∀ W, Below w.heap.size w W → Calls Try.prog 47 #[.slice (some a) 0 0] W (Made W (l.drop 4))))
    (hb : Hid (decide (l.take 4 = Crc.four (Crc.sumT (l.drop 4))) = b)) (HL : Hid ((l.drop 4).length = l.length - 4)) :
    Calls Try.prog 41 #[.slice (some a) 4 4] w (Unwrapped w l) := by
  cases b
  · go_enter Try.func41, Try.ntmps41
    go_wp2
    go_region_with (first
      | (go_at_call 61; refine (HS.out _ (Below.refl _ _).drew).mono ?_; rintro e w1 ⟨g1, c1, rfl, ht1, hb1⟩; have HB := Lib.hid (((Below.refl w.heap.size w).drew).trans hb1); have HT1 := Lib.hid ht1; clear ht1 hb1)
      | (go_at_call 62; refine (HE.out _ _ _ HB.out HT1.out).mono ?_; rintro e w2 ⟨rfl, n2, rfl⟩))
    all_goals go_wp2
    all_goals go_ret2
    all_goals exact ⟨below_drewN HB.out _, .inr (.inr ⟨Nat.le_of_eq h.out.symm, of_decide_eq_false hb.out, rfl⟩)⟩
  · go_enter Try.func41, Try.ntmps41
    go_wp2
    go_region_with (first
      | (go_at_call 61; refine (HS.out _ (Below.refl _ _).drew).mono ?_; rintro e w1 ⟨g1, c1, rfl, ht1, hb1⟩; have HB := Lib.hid (((Below.refl w.heap.size w).drew).trans hb1); have HT1 := Lib.hid ht1; clear ht1 hb1)
      | (go_at_call 62; refine (HE.out _ _ _ HB.out HT1.out).mono ?_; rintro e w2 ⟨rfl, n2, rfl⟩))
    all_goals go_wp2_with (go_at_call 47; refine (HC.out _ (below_drewN HB.out n2)).mono ?_; rintro e w3 ⟨g3, c3, rfl, ho3, hb3⟩)
    all_goals go_ret2
    all_goals exact ⟨(below_drewN HB.out n2).trans (hb3.mono HB.out.size), .inr (.inl ⟨Nat.le_of_eq h.out.symm, of_decide_eq_true hb.out, _, c3, by rw [HL.out]; rfl, .of_own ho3, fun hno => by simp at hno⟩)⟩

theorem code_unwrap (l : Text) (A : Option Addr) (cap : Nat) (w : World) (hm : l.length ≤ 140737488351232) (hc : l.length ≤ cap) (hT : Txt w A l) (hA : A = none → l = []) :
    Calls Try.prog 41 #[.slice A l.length cap] w (Unwrapped w l) := by
  rcases Nat.lt_or_ge l.length 4 with h | h
  · exact code_unwrap_short l A cap w h
  obtain ⟨a, rfl⟩ : ∃ a, A = some a := by
    cases A with
    | none => have := hA rfl; subst this; simp at h
    | some a => exact ⟨a, rfl⟩
  have hd0 : (l.drop 4).length = l.length - 4 := List.length_drop
  have ht0 : (l.take 4).length = 4 := by rw [List.length_take]; omega
  have sum : ∀ (A4 : Addr) (C : Nat), Txt w (some A4) (l.drop 4) → ∀ W, Below w.heap.size w W → Calls Try.prog 61 #[.slice (some A4) (l.length - 4) C] W (Sum4 W (Crc.sumT (l.drop 4))) := fun A4 C hA4 W hW => by
    have := code_sumBytes (l.drop 4) (some A4) C W (by omega) (hA4.below hW)
    rw [hd0] at this
    exact this.mono fun e w' ⟨g, c, h1, h2, h3⟩ => ⟨g, c, h1, .of_own h2, h3⟩
  have clone : ∀ (A4 : Addr) (C : Nat), Txt w (some A4) (l.drop 4) → ∀ W, Below w.heap.size w W → Calls Try.prog 47 #[.slice (some A4) (l.length - 4) C] W (Made W (l.drop 4)) := fun A4 C hA4 W hW => by
    have := code_clone (l.drop 4) A4 C W (by omega) (hA4.below hW)
    rw [hd0] at this
    exact this
  have equal : ∀ (W : World) (B : Option Addr) (d : Nat), Below w.heap.size w W → Txt W B (Crc.four (Crc.sumT (l.drop 4))) → Calls Try.prog 62 #[.slice (some a) 4 cap, .slice B 4 d] W fun e w' => e = .returned (.bool (decide (l.take 4 = Crc.four (Crc.sumT (l.drop 4))))) ∧ ∃ n, w' = W.drewN n := fun W B d hW hB => by
    have := code_equal (l.take 4) (Crc.four (Crc.sumT (l.drop 4))) (some a) B cap d W (by omega) (by rw [four_length]; omega) ((hT.below hW).take 4) hB
    rw [ht0] at this
    exact this
  by_cases h4 : cap = 4
  · subst h4
    have h0 : l.drop 4 = [] := List.drop_eq_nil_of_le hc
    have h5 : l.length = 4 := by omega
    have e0 : l.length - 4 = 0 := by omega
    have s0 := sum a 0 (by rw [h0]; exact Txt.none_)
    have c0 := clone a 0 (by rw [h0]; exact Txt.none_)
    rw [e0] at s0 c0
    rw [h5]
    exact code_unwrap_near l a w (Lib.hid h5) _ (Lib.hid s0) (Lib.hid equal) (Lib.hid c0) (Lib.hid rfl) (Lib.hid hd0)
  · exact code_unwrap_far l a cap w hm hc h h4 _ (Lib.hid (sum _ _ (hT.drop 4))) (Lib.hid equal) (Lib.hid (clone _ _ (hT.drop 4))) (Lib.hid rfl) (Lib.hid hd0)
end Go.Proofs.Ytfppbmendhpjcaa
