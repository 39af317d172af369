/- What the document's own answer for what is wrapped gives. -/
import Derived.Test.YtfppbmendhpjcaaCrcRef
import Derived.Deep.RegionWith
namespace Go.Proofs.Ytfppbmendhpjcaa
open Go.RowKit

/-- what the document's Unwrap tells -/
def RefUnwrapped (w : World) (l : Text) (e : Ending) (w' : World) : Prop :=
  Below w.heap.size w w' ∧ ((l.length < 4 ∧ e = .returned (.tuple #[.slice none 0 0, .int .i64 10])) ∨
    (4 ≤ l.length ∧ l.take 4 = Crc.four (Crc.sumT (l.drop 4)) ∧ ∃ A c, e = .returned (.tuple #[.slice A (l.drop 4).length c, .int .i64 0]) ∧ Txt w' A (l.drop 4) ∧ (A = none → l.drop 4 = [])) ∨
    (4 ≤ l.length ∧ l.take 4 ≠ Crc.four (Crc.sumT (l.drop 4)) ∧ e = .returned (.tuple #[.slice none 0 0, .int .i64 12])))

theorem ref_unwrap_short (l : Text) (A : Option Addr) (cap : Nat) (w : World) (h : l.length < 4) :
    Calls Try.prog 42 #[.slice A l.length cap] w (RefUnwrapped w l) := by
  go_enter Try.func42, Try.ntmps42
  go_wp2
  go_ret2
  exact ⟨Below.refl _ _, .inl ⟨h, rfl⟩⟩
/-- a string that is told by a text -/
def strOf (l : Text) : ByteArray := ⟨l.toArray⟩
theorem strOf_inj {l m : Text} (h : strOf l = strOf m) : l = m := by
  have := congrArg (fun b : ByteArray => b.data.toList) h
  simpa [strOf] using this

set_option maxHeartbeats 4000000 in
theorem ref_unwrap_far (l : Text) (a : Addr) (cap : Nat) (w : World) (h : 4 ≤ l.length) (h4 : cap ≠ 4) (b : Bool) (m0 m1 : Text) (n : Nat)
    (HW : Hid (∀ W, Below w.heap.size w W → Calls Try.prog 43 #[.slice (some ⟨a.block, a.off + 4, none⟩) (l.length - 4) (cap - 4)] W fun e w' => ∃ g c, e = .returned (.slice (some ⟨g, 0, none⟩) n c) ∧ Below W.heap.size W w' ∧ (convert 27 9 (.slice (some ⟨g, 0, none⟩) n c)).run Try.prog w' = .ok (.string ⟨m0.toArray⟩) w'))
    (HB : Hid (∀ W, Below w.heap.size w W → (convert 27 9 (.slice (some a) l.length cap)).run Try.prog W = .ok (.string ⟨m1.toArray⟩) W))
    (hb : (m0 != m1) = b) (QT : Hid (∀ w', Below w.heap.size w w' → b = false → RefUnwrapped w l (.returned (.tuple #[.slice (some ⟨a.block, a.off + 4, none⟩) (l.length - 4) (cap - 4), .int .i64 0])) w'))
    (QF : Hid (∀ w', Below w.heap.size w w' → b = true → RefUnwrapped w l (.returned (.tuple #[.slice none 0 0, .int .i64 12])) w')) :
    Calls Try.prog 42 #[.slice (some a) l.length cap] w (RefUnwrapped w l) := by
  have c0 := HB.out w.drew (Below.refl _ _).drew
  have hb2 : (m0 == m1) = !b := by rw [← hb]; cases h : m0 == m1 <;> simp [bne, h]
  cases b
  · go_enter Try.func42, Try.ntmps42
    go_wp2
    go_region_with (go_at_call 43; refine (HW.out _ (Below.refl _ _).drew).mono ?_; rintro e w1 ⟨g1, c1, rfl, hb1, hv1⟩; have c1 := HB.out w1 (((Below.refl w.heap.size w).drew).trans hb1); have HB1 := Lib.hid (((Below.refl w.heap.size w).drew).trans hb1); clear hb1)
    all_goals go_wp2
    all_goals go_ret2
    all_goals exact QT.out _ HB1.out (by first | exact trivial | rfl)
  · go_enter Try.func42, Try.ntmps42
    go_wp2
    go_region_with (go_at_call 43; refine (HW.out _ (Below.refl _ _).drew).mono ?_; rintro e w1 ⟨g1, c1, rfl, hb1, hv1⟩; have c1 := HB.out w1 (((Below.refl w.heap.size w).drew).trans hb1); have HB1 := Lib.hid (((Below.refl w.heap.size w).drew).trans hb1); clear hb1)
    all_goals go_wp2
    all_goals go_ret2
    all_goals exact QF.out _ HB1.out (by first | exact trivial | rfl)

set_option maxHeartbeats 4000000 in
theorem ref_unwrap_near (l : Text) (a : Addr) (w : World) (b : Bool) (m0 m1 : Text) (n : Nat)
    (HW : Hid (∀ W, Below w.heap.size w W → Calls Try.prog 43 #[.slice (some a) 0 0] W fun e w' => ∃ g c, e = .returned (.slice (some ⟨g, 0, none⟩) n c) ∧ Below W.heap.size W w' ∧ (convert 27 9 (.slice (some ⟨g, 0, none⟩) n c)).run Try.prog w' = .ok (.string ⟨m0.toArray⟩) w'))
    (HB : Hid (∀ W, Below w.heap.size w W → (convert 27 9 (.slice (some a) 4 4)).run Try.prog W = .ok (.string ⟨m1.toArray⟩) W))
    (hb : (m0 != m1) = b) (QT : Hid (∀ w', Below w.heap.size w w' → b = false → RefUnwrapped w l (.returned (.tuple #[.slice (some a) 0 0, .int .i64 0])) w'))
    (QF : Hid (∀ w', Below w.heap.size w w' → b = true → RefUnwrapped w l (.returned (.tuple #[.slice none 0 0, .int .i64 12])) w')) :
    Calls Try.prog 42 #[.slice (some a) 4 4] w (RefUnwrapped w l) := by
  have c0 := HB.out w.drew (Below.refl _ _).drew
  have hb2 : (m0 == m1) = !b := by rw [← hb]; cases h : m0 == m1 <;> simp [bne, h]
  cases b
  · go_enter Try.func42, Try.ntmps42
    go_wp2
    go_region_with (go_at_call 43; refine (HW.out _ (Below.refl _ _).drew).mono ?_; rintro e w1 ⟨g1, c1, rfl, hb1, hv1⟩; have c1 := HB.out w1 (((Below.refl w.heap.size w).drew).trans hb1); have HB1 := Lib.hid (((Below.refl w.heap.size w).drew).trans hb1); clear hb1)
    all_goals go_wp2
    all_goals go_ret2
    all_goals exact QT.out _ HB1.out (by first | exact trivial | rfl)
  · go_enter Try.func42, Try.ntmps42
    go_wp2
    go_region_with (go_at_call 43; refine (HW.out _ (Below.refl _ _).drew).mono ?_; rintro e w1 ⟨g1, c1, rfl, hb1, hv1⟩; have c1 := HB.out w1 (((Below.refl w.heap.size w).drew).trans hb1); have HB1 := Lib.hid (((Below.refl w.heap.size w).drew).trans hb1); clear hb1)
    all_goals go_wp2
    all_goals go_ret2
    all_goals exact QF.out _ HB1.out (by first | exact trivial | rfl)

theorem wrap_same (l : Text) : (wrapT (l.drop 4) != l) = false ↔ l.take 4 = Crc.four (Crc.sumT (l.drop 4)) := by
  constructor
  · intro hs
    have : wrapT (l.drop 4) = l := by simpa using hs
    have h2 := congrArg (List.take 4) this
    unfold wrapT at h2
    rw [List.take_left' (by rfl)] at h2
    exact h2.symm
  · intro hs
    have : wrapT (l.drop 4) = l := by
      unfold wrapT
      rw [← hs, List.take_append_drop]
    rw [this]; simp
theorem ref_unwrap (l : Text) (A : Option Addr) (cap : Nat) (w : World) (hm : l.length ≤ 140737488351232) (hc : l.length ≤ cap) (hT : Txt w A l) (hA : A = none → l = []) :
    Calls Try.prog 42 #[.slice A l.length cap] w (RefUnwrapped w l) := by
  rcases Nat.lt_or_ge l.length 4 with h | h
  · exact ref_unwrap_short l A cap w h
  obtain ⟨a, rfl⟩ : ∃ a, A = some a := by
    cases A with
    | none => have := hA rfl; subst this; simp at h
    | some a => exact ⟨a, rfl⟩
  have hd0 : (l.drop 4).length = l.length - 4 := List.length_drop
  have wrap : ∀ (A4 : Addr) (C : Nat), Txt w (some A4) (l.drop 4) → ∀ W, Below w.heap.size w W → Calls Try.prog 43 #[.slice (some A4) (l.length - 4) C] W fun e w' => ∃ g c, e = .returned (.slice (some ⟨g, 0, none⟩) (wrapT (l.drop 4)).length c) ∧ Below W.heap.size W w' ∧ (convert 27 9 (.slice (some ⟨g, 0, none⟩) (wrapT (l.drop 4)).length c)).run Try.prog w' = .ok (.string ⟨(wrapT (l.drop 4)).toArray⟩) w' := fun A4 C hA4 W hW => by
    have := ref_wrap (l.drop 4) (some A4) C W (by omega) (hA4.below hW) (by simp)
    rw [hd0] at this
    exact this.mono fun e w' ⟨g, c, h1, h2, h3⟩ => ⟨g, c, h1, h3, text_run w' _ c _ (.of_own h2) (by simp)⟩
  have text : ∀ W, Below w.heap.size w W → (convert 27 9 (.slice (some a) l.length cap)).run Try.prog W = .ok (.string ⟨l.toArray⟩) W := fun W hW => text_run W _ cap l (hT.below hW) (by simp)
  have qf : ∀ w', Below w.heap.size w w' → (wrapT (l.drop 4) != l) = true → RefUnwrapped w l (.returned (.tuple #[.slice none 0 0, .int .i64 12])) w' := fun w' hw' hb =>
    ⟨hw', .inr (.inr ⟨h, (fun he => by rw [(wrap_same l).2 he] at hb; exact Bool.noConfusion hb), rfl⟩)⟩
  have qt : ∀ (A4 : Addr) (C : Nat), Txt w (some A4) (l.drop 4) → ∀ w', Below w.heap.size w w' → (wrapT (l.drop 4) != l) = false → RefUnwrapped w l (.returned (.tuple #[.slice (some A4) (l.length - 4) C, .int .i64 0])) w' := fun A4 C hA4 w' hw' hb =>
    ⟨hw', .inr (.inl ⟨h, (wrap_same l).1 hb, some A4, C, by rw [hd0], hA4.below hw', by simp⟩)⟩
  by_cases h4 : cap = 4
  · subst h4
    have h0 : l.drop 4 = [] := List.drop_eq_nil_of_le hc
    have h5 : l.length = 4 := by omega
    have e0 : l.length - 4 = 0 := by omega
    have w0 := wrap a 0 (by rw [h0]; exact Txt.none_)
    have q0 := qt a 0 (by rw [h0]; exact Txt.none_)
    rw [e0] at w0 q0
    rw [h5] at text ⊢
    exact ref_unwrap_near l a w _ _ _ _ (Lib.hid w0) (Lib.hid text) rfl (Lib.hid q0) (Lib.hid qf)
  · exact ref_unwrap_far l a cap w h h4 _ _ _ _ (Lib.hid (wrap _ _ (hT.drop 4))) (Lib.hid text) rfl (Lib.hid (qt _ _ (hT.drop 4))) (Lib.hid qf)
end Go.Proofs.Ytfppbmendhpjcaa
