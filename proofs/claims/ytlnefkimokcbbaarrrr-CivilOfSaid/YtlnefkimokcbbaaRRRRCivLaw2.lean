/- The statement on a period: its days, the next ones, and whether a day is in it. -/
import Derived.Test.YtlnefkimokcbbaaRRRRCivLaw
import Derived.Deep.RegionHeld3
namespace Go.Proofs.YtlnefkimokcbbaaRRRR
open Go.RowKit

/-- three cells of a block hold a period -/
def per (w : World) (b : Nat) (k y i : Int) : Prop := w.cell? ⟨b, 0, none⟩ = some (.int .i64 k) ∧ w.cell? ⟨b, 1, none⟩ = some (.int .i64 y) ∧ w.cell? ⟨b, 2, none⟩ = some (.int .i64 i)
theorem per_lt {w : World} {b : Nat} {k y i : Int} (h : per w b k y i) : b < w.heap.size := World.block_lt_of_cell? w _ h.1
theorem per_later {w w' : World} {b : Nat} {k y i : Int} (h : per w b k y i) (hb : Below w.heap.size w w') : per w' b k y i := by
  obtain ⟨hc, _⟩ := bcell hb
  have hl := per_lt h
  exact ⟨(hc _ _ hl).trans h.1, (hc _ _ hl).trans h.2.1, (hc _ _ hl).trans h.2.2⟩
theorem per_drew {w : World} {b : Nat} {k y i : Int} (h : per w b k y i) : per w.drew b k y i := h

/-- two periods in their blocks, and all that was there ahead -/
theorem two_later {w0 w w' : World} {p q : Nat} {a b c d e f : Int} (h : (w.cell? ⟨p, 0, none⟩ = some (.int .i64 a) ∧ w.cell? ⟨p, 1, none⟩ = some (.int .i64 b) ∧ w.cell? ⟨p, 2, none⟩ = some (.int .i64 c)) ∧ (w.cell? ⟨q, 0, none⟩ = some (.int .i64 d) ∧ w.cell? ⟨q, 1, none⟩ = some (.int .i64 e) ∧ w.cell? ⟨q, 2, none⟩ = some (.int .i64 f)) ∧ Below w0.heap.size w0 w) (hb : Below w.heap.size w w') :
    (w'.cell? ⟨p, 0, none⟩ = some (.int .i64 a) ∧ w'.cell? ⟨p, 1, none⟩ = some (.int .i64 b) ∧ w'.cell? ⟨p, 2, none⟩ = some (.int .i64 c)) ∧ (w'.cell? ⟨q, 0, none⟩ = some (.int .i64 d) ∧ w'.cell? ⟨q, 1, none⟩ = some (.int .i64 e) ∧ w'.cell? ⟨q, 2, none⟩ = some (.int .i64 f)) ∧ Below w0.heap.size w0 w' :=
  ⟨per_later h.1 hb, per_later h.2.1 hb, below_tr h.2.2 hb (Nat.le_refl _)⟩
theorem three_later {w0 w w' : World} {p q r : Nat} {a b c d e f g h i : Int} (hh : (w.cell? ⟨p, 0, none⟩ = some (.int .i64 a) ∧ w.cell? ⟨p, 1, none⟩ = some (.int .i64 b) ∧ w.cell? ⟨p, 2, none⟩ = some (.int .i64 c)) ∧ (w.cell? ⟨q, 0, none⟩ = some (.int .i64 d) ∧ w.cell? ⟨q, 1, none⟩ = some (.int .i64 e) ∧ w.cell? ⟨q, 2, none⟩ = some (.int .i64 f)) ∧ (w.cell? ⟨r, 0, none⟩ = some (.int .i64 g) ∧ w.cell? ⟨r, 1, none⟩ = some (.int .i64 h) ∧ w.cell? ⟨r, 2, none⟩ = some (.int .i64 i)) ∧ Below w0.heap.size w0 w) (hb : Below w.heap.size w w') :
    (w'.cell? ⟨p, 0, none⟩ = some (.int .i64 a) ∧ w'.cell? ⟨p, 1, none⟩ = some (.int .i64 b) ∧ w'.cell? ⟨p, 2, none⟩ = some (.int .i64 c)) ∧ (w'.cell? ⟨q, 0, none⟩ = some (.int .i64 d) ∧ w'.cell? ⟨q, 1, none⟩ = some (.int .i64 e) ∧ w'.cell? ⟨q, 2, none⟩ = some (.int .i64 f)) ∧ (w'.cell? ⟨r, 0, none⟩ = some (.int .i64 g) ∧ w'.cell? ⟨r, 1, none⟩ = some (.int .i64 h) ∧ w'.cell? ⟨r, 2, none⟩ = some (.int .i64 i)) ∧ Below w0.heap.size w0 w' :=
  ⟨per_later hh.1 hb, per_later hh.2.1 hb, per_later hh.2.2.1 hb, below_tr hh.2.2.2 hb (Nat.le_refl _)⟩

set_option maxHeartbeats 4000000 in
theorem civilPeriods_any (k y i b n : Int) (w : World) : Calls Try.prog 5 #[.agg #[.int .i64 k, .int .i64 y, .int .i64 i], .int .i64 b, .int .i64 n] w fun e w' => e = .returned (.bool true) ∧ Below w.heap.size w w' := by
  go_enter Try.func5, Try.ntmps5
  go_wp2_with (first | (go_at_call 17; refine (code_first _ _ _ _).mono ?_; rintro e w1 ⟨rfl, hb1⟩; obtain ⟨hc1, hf1⟩ := bcell hb1; have hz1 : w.heap.size < w1.heap.size := (by have := hb1.size; (try simp at this); omega)) | (go_at_call 18; refine (ref_first _ _ _ _).mono ?_; rintro e w2 ⟨rfl, hb2⟩; obtain ⟨hc2, hf2⟩ := bcell hb2; have hz2 : w.heap.size < w2.heap.size := (by have := hb2.size; (try simp at this); omega)) | (go_at_call 19; refine (code_last _ _ _ _).mono ?_; rintro e w3 ⟨rfl, hb3⟩; obtain ⟨hc3, hf3⟩ := bcell hb3; have hz3 : w.heap.size < w3.heap.size := (by have := hb3.size; (try simp at this); omega)) | (go_at_call 20; refine (ref_last _ _ _ _).mono ?_; rintro e w4 ⟨rfl, hb4⟩; obtain ⟨hc4, hf4⟩ := bcell hb4; have hz4 : w.heap.size < w4.heap.size := (by have := hb4.size; (try simp at this); omega)) | (go_at_call 21; refine (code_next _ _ _ _ _).mono ?_; rintro e w5 ⟨rfl, hb5⟩; obtain ⟨hc5, hf5⟩ := bcell hb5; have hz5 : w.heap.size < w5.heap.size := (by have := hb5.size; (try simp at this); omega)) | (go_at_call 22; refine (ref_next _ _ _ _ _).mono ?_; rintro e w6 ⟨rfl, hb6⟩; obtain ⟨hc6, hf6⟩ := bcell hb6; have hz6 : w.heap.size < w6.heap.size := (by have := hb6.size; (try simp at this); omega)))
  have hS : (per (w6.alloc (.cells #[.int .i64 (nextK k y i b), .int .i64 (nextY k y i b), .int .i64 (nextI k y i b)] 36)) w.heap.size k y i ∧
      per (w6.alloc (.cells #[.int .i64 (nextK k y i b), .int .i64 (nextY k y i b), .int .i64 (nextI k y i b)] 36)) w5.heap.size (nextK k y i b) (nextY k y i b) (nextI k y i b) ∧
      per (w6.alloc (.cells #[.int .i64 (nextK k y i b), .int .i64 (nextY k y i b), .int .i64 (nextI k y i b)] 36)) w6.heap.size (nextK k y i b) (nextY k y i b) (nextI k y i b) ∧
      Below w.heap.size w (w6.alloc (.cells #[.int .i64 (nextK k y i b), .int .i64 (nextY k y i b), .int .i64 (nextI k y i b)] 36))) := by
    have h1 : per (w.alloc (.cells #[.int .i64 k, .int .i64 y, .int .i64 i] 36)) w.heap.size k y i := ⟨by simp [go_sem], by simp [go_sem], by simp [go_sem]⟩
    have h5 := per_later (per_later (per_later (per_later (per_later h1 hb1) hb2) hb3) hb4) hb5
    have h5' : per (w5.alloc (.cells #[.int .i64 (nextK k y i b), .int .i64 (nextY k y i b), .int .i64 (nextI k y i b)] 36)) w5.heap.size (nextK k y i b) (nextY k y i b) (nextI k y i b) := ⟨by simp [go_sem], by simp [go_sem], by simp [go_sem]⟩
    have ba : ∀ (W : World) (o : Obj), Below W.heap.size W (W.alloc o) := fun W o => (Below.refl _ _).alloc (Nat.le_refl _) _
    refine ⟨per_later (per_later (per_later h5 (ba _ _)) hb6) (ba _ _), per_later (per_later h5' hb6) (ba _ _), ⟨by simp [go_sem], by simp [go_sem], by simp [go_sem]⟩, ?_⟩
    have hB := below_tr (below_tr (below_tr (below_tr (below_two hb1) hb2 (Nat.le_refl _)) hb3 (Nat.le_refl _)) hb4 (Nat.le_refl _)) hb5 (Nat.le_refl _)
    exact below_tr (below_tr (below_tr hB (ba _ _) (Nat.le_refl _)) hb6 (Nat.le_refl _)) (ba _ _) (Nat.le_refl _)
  generalize w6.alloc (.cells #[.int .i64 (nextK k y i b), .int .i64 (nextY k y i b), .int .i64 (nextI k y i b)] 36) = W at hS ⊢
  generalize w5.heap.size = p5 at hS ⊢
  generalize w6.heap.size = p6 at hS ⊢
  clear hb1 hb2 hb3 hb4 hb5 hb6 hc1 hc2 hc3 hc4 hc5 hc6 hf1 hf2 hf3 hf4 hf5 hf6 hz1 hz2 hz3 hz4 hz5 hz6
  unfold per at hS
  go_region_held3 (fun w' => (w'.cell? ⟨w.heap.size, 0, none⟩ = some (.int .i64 k) ∧ w'.cell? ⟨w.heap.size, 1, none⟩ = some (.int .i64 y) ∧ w'.cell? ⟨w.heap.size, 2, none⟩ = some (.int .i64 i)) ∧ (w'.cell? ⟨p5, 0, none⟩ = some (.int .i64 (nextK k y i b)) ∧ w'.cell? ⟨p5, 1, none⟩ = some (.int .i64 (nextY k y i b)) ∧ w'.cell? ⟨p5, 2, none⟩ = some (.int .i64 (nextI k y i b))) ∧ (w'.cell? ⟨p6, 0, none⟩ = some (.int .i64 (nextK k y i b)) ∧ w'.cell? ⟨p6, 1, none⟩ = some (.int .i64 (nextY k y i b)) ∧ w'.cell? ⟨p6, 2, none⟩ = some (.int .i64 (nextI k y i b))) ∧ Below w.heap.size w w')
    (first | exact three_later (by assumption) hb7 | exact ⟨hS.1, hS.2.1, hS.2.2.1, hS.2.2.2.drew⟩)
    (first | (go_at_call 23; refine (code_good _ _ _ _).mono ?_; rintro e w7 ⟨rfl, hb7⟩) | (go_at_call 24; refine (ref_good _ _ _ _).mono ?_; rintro e w7 ⟨rfl, hb7⟩) | (go_at_call 25; refine (code_within _ _ _ _ _).mono ?_; rintro e w7 ⟨rfl, hb7⟩) | (go_at_call 26; refine (ref_within _ _ _ _ _).mono ?_; rintro e w7 ⟨rfl, hb7⟩) | (go_at_call 14; refine (lives_any _).mono ?_; rintro e w7 ⟨rfl, hb7⟩))
  have hH := ‹(_ ∧ _ ∧ _) ∧ (_ ∧ _ ∧ _) ∧ (_ ∧ _ ∧ _) ∧ Below w.heap.size w w7›
  go_wp2
  go_ret
  exact ⟨rfl, hH.2.2.2⟩
end Go.Proofs.YtlnefkimokcbbaaRRRR
