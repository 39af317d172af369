/- The day of a number that has one, as the program tells it. -/
import Derived.Test.YtdacpiegfobhbaaCivCodeE
namespace Go.Proofs.Ytdacpiegfobhbaa
open Go.RowKit
set_option maxRecDepth 100000

theorem set_at {w : World} {b : Nat} {v u : Value} (h : w.cell? ⟨b, 0, none⟩ = some v) : (w.setCell ⟨b, 0, none⟩ u).cell? ⟨b, 0, none⟩ = some u := by simp [go_sem, h]
theorem set_far {w : World} {a b : Nat} {v u : Value} (h : w.cell? ⟨b, 0, none⟩ = some v) (hne : b ≠ a) : (w.setCell ⟨a, 0, none⟩ u).cell? ⟨b, 0, none⟩ = some v := by
  rw [World.cell?_setCell_far _ _ _ _ (by simpa using Ne.symm hne)]; exact h
def Keeps (w : World) (n : Int) (A : Nat) (w' : World) : Prop := w'.cell? ⟨w.heap.size, 0, none⟩ = some (.int .i64 n) ∧ w'.cell? ⟨w.heap.size + 1, 0, none⟩ = some (.int .i64 (1970 + A)) ∧ w'.frozen? ⟨w.heap.size + 1, 0, none⟩ = false ∧ w.heap.size + 1 < w'.heap.size ∧ Below w.heap.size w w'
theorem keeps_later {w w1 w2 : World} {n : Int} {A : Nat} (h : Keeps w n A w1) (hb : Below w1.heap.size w1 w2) : Keeps w n A w2 := by
  obtain ⟨c0, c1, f1, g, B⟩ := h
  exact ⟨by rw [hb.cell (p := ⟨w.heap.size, 0, none⟩) (by simp; omega)]; exact c0, by rw [hb.cell (p := ⟨w.heap.size + 1, 0, none⟩) g]; exact c1, by rw [hb.frozen (p := ⟨w.heap.size + 1, 0, none⟩) g]; exact f1, Nat.lt_of_lt_of_le g hb.size, B.trans (hb.mono (by omega))⟩
theorem keeps_drew {w w1 : World} {n : Int} {A : Nat} (h : Keeps w n A w1) : Keeps w n A w1.drew := ⟨h.1, h.2.1, h.2.2.1, h.2.2.2.1, h.2.2.2.2.drew⟩
theorem keeps_set {w w1 : World} {n : Int} {A : Nat} (h : Keeps w n A w1) : Keeps w n A (w1.setCell ⟨w.heap.size + 1, 0, none⟩ (.int .i64 (1970 + A))) := by
  obtain ⟨c0, c1, f1, g, B⟩ := h
  exact ⟨set_far c0 (by omega), set_at c1, by simpa [go_sem] using f1, by simpa using g, B.setCell (by simp) _⟩
set_option maxHeartbeats 2000000 in
theorem date_walk (n Z : Int) (A B : Nat) (w : World) (n0 : 0 ≤ n) (n1 : n ≤ 2932896) (z1 : 0 ≤ Z) (z2 : Z ≤ 2940000) (hA : A ≤ 8029) (hB : B ≤ 11)
    (S1 : Hid (∀ W : World, w.heap.size < W.heap.size → W.cell? ⟨w.heap.size, 0, none⟩ = some (.int .i64 n) →
      Calls Try.prog 52 #[.int .i64 8029, .func (Fn.func 53) #[] #[.pointer (some ⟨w.heap.size, 0, none⟩)]] W fun e w' => e = .returned (.int .i64 A) ∧ Below W.heap.size W w'))
    (S2 : Hid (∀ W : World, w.heap.size + 1 < W.heap.size → W.cell? ⟨w.heap.size + 1, 0, none⟩ = some (.int .i64 (1970 + A)) → W.cell? ⟨w.heap.size, 0, none⟩ = some (.int .i64 n) →
      Calls Try.prog 52 #[.int .i64 11, .func (Fn.func 55) #[] #[.pointer (some ⟨w.heap.size + 1, 0, none⟩), .pointer (some ⟨w.heap.size, 0, none⟩)]] W fun e w' => e = .returned (.int .i64 B) ∧ Below W.heap.size W w'))
    (BG : Hid (∀ W : World, Calls Try.prog 54 #[.int .i64 (1970 + A), .int .i64 B] W fun e w' => e = .returned (.int .i64 Z) ∧ Below W.heap.size W w')) :
    Calls Try.prog 43 #[.int .i64 n] w fun e w' => e = .returned (.tuple #[.int .i64 (1970 + A), .int .i64 (1 + B), .int .i64 (n - Z + 1), .int .i64 0]) ∧ Below w.heap.size w w' := by
  go_enter Try.func43, Try.ntmps43
  go_wp2_with fail
  refine (S1.out _ (by simp; omega) (by simp [go_sem])).mono ?_
  rintro e w1 ⟨rfl, hb1⟩
  have c0 : w1.cell? ⟨w.heap.size, 0, none⟩ = some (.int .i64 n) := by rw [hb1.cell (p := ⟨w.heap.size, 0, none⟩) (by simp; omega)]; simp [go_sem]
  have c1 : w1.cell? ⟨w.heap.size + 1, 0, none⟩ = some (.int .i64 0) := by rw [hb1.cell (p := ⟨w.heap.size + 1, 0, none⟩) (by simp)]; simp [go_sem]
  have f1 : w1.frozen? ⟨w.heap.size + 1, 0, none⟩ = false := by rw [hb1.frozen (p := ⟨w.heap.size + 1, 0, none⟩) (by simp)]; simp [go_sem]
  have g1 : w.heap.size + 1 < w1.heap.size := by have := hb1.size; simp at this; omega
  have B1 : Below w.heap.size w w1 := (((Below.refl _ _).alloc (Nat.le_refl _) _).alloc (by simp) _).trans (hb1.mono (by simp; omega))
  clear hb1 S1
  go_wp2_with fail
  have ec := set_at c1 (u := .int .i64 (1970 + (A : Int)))
  have en := set_far c0 (a := w.heap.size + 1) (by omega) (u := .int .i64 (1970 + (A : Int)))
  have B2 : Below w.heap.size w (w1.setCell ⟨w.heap.size + 1, 0, none⟩ (.int .i64 (1970 + A))) := B1.setCell (by simp) _
  have g2 : w.heap.size + 1 < (w1.setCell ⟨w.heap.size + 1, 0, none⟩ (.int .i64 (1970 + A))).heap.size := by simpa using g1
  have f2 : (w1.setCell ⟨w.heap.size + 1, 0, none⟩ (.int .i64 (1970 + A))).frozen? ⟨w.heap.size + 1, 0, none⟩ = false := by simpa [go_sem] using f1
  generalize w1.setCell ⟨w.heap.size + 1, 0, none⟩ (.int .i64 (1970 + A)) = W at *
  clear c0 c1 f1 B1 g1 w1
  refine (S2.out _ g2 ec en).mono ?_
  rintro e w2 ⟨rfl, hb2⟩
  have c0 : w2.cell? ⟨w.heap.size, 0, none⟩ = some (.int .i64 n) := by rw [hb2.cell (p := ⟨w.heap.size, 0, none⟩) (by simp; omega)]; exact en
  have c1 : w2.cell? ⟨w.heap.size + 1, 0, none⟩ = some (.int .i64 (1970 + A)) := by rw [hb2.cell (p := ⟨w.heap.size + 1, 0, none⟩) g2]; exact ec
  have f1 : w2.frozen? ⟨w.heap.size + 1, 0, none⟩ = false := by rw [hb2.frozen (p := ⟨w.heap.size + 1, 0, none⟩) g2]; exact f2
  have g3 : w.heap.size + 1 < w2.heap.size := Nat.lt_of_lt_of_le g2 hb2.size
  have B3 : Below w.heap.size w w2 := B2.trans (hb2.mono (by omega))
  clear hb2 S2 ec en f2 g2 B2 W
  go_wp2
  have e1 : IntKind.i64.wrap (1 + (B : Int) - 1) = (B : Int) := by rw [IntWalk.i64_in _ (by omega)]; omega
  have e2 : IntKind.i64.wrap (n - Z) = n - Z := IntWalk.i64_in _ (by omega)
  have e3 : IntKind.i64.wrap (n - Z + 1) = n - Z + 1 := IntWalk.i64_in _ (by omega)
  have hS : Keeps w n A w2 := ⟨c0, c1, f1, g3, B3⟩
  clear c0 c1 f1 g3 B3
  unfold Keeps at hS
  go_region_held3 (fun w' => w'.cell? ⟨w.heap.size, 0, none⟩ = some (.int .i64 n) ∧ w'.cell? ⟨w.heap.size + 1, 0, none⟩ = some (.int .i64 (1970 + A)) ∧ w'.frozen? ⟨w.heap.size + 1, 0, none⟩ = false ∧ w.heap.size + 1 < w'.heap.size ∧ Below w.heap.size w w')
    (first | exact keeps_later (by assumption) hb | exact keeps_set (by assumption) | exact keeps_drew (by assumption))
    (first | (go_at_call 54; refine (BG.out _).mono ?_; rintro e w3 ⟨rfl, hb⟩))
  rename_i hH
  obtain ⟨_, k1, _, _, k2⟩ := hH
  generalize w3.setCell ⟨w.heap.size + 1, 0, none⟩ (.int .i64 (1970 + (A : Int))) = W at *
  go_wp2
  exact bodyPost_ret (v := .tuple #[.int .i64 (1970 + A), .int .i64 (1 + B), .int .i64 (n - Z + 1), .int .i64 0]) (by simp [results, Try.results43, go_sem, k1]) rfl ⟨rfl, k2⟩

theorem code_date_ok (y m d : Int) (w : World) (hv : Civ.valid y m d) :
    Calls Try.prog 43 #[.int .i64 (Civ.number y m d)] w fun e w' => e = .returned (.tuple #[.int .i64 y, .int .i64 m, .int .i64 d, .int .i64 0]) ∧ Below w.heap.size w w' := by
  obtain ⟨n0, n1⟩ := Civ.number_bd hv
  obtain ⟨h1, h2, h3, h4⟩ := Civ.valid_bd hv
  obtain ⟨A, rfl⟩ : ∃ A : Nat, y = 1970 + A := ⟨(y - 1970).toNat, by omega⟩
  obtain ⟨B, rfl⟩ : ∃ B : Nat, m = 1 + B := ⟨(m - 1).toNat, by omega⟩
  have Y := year_at hv
  have M := month_at hv
  have eA : (1970 + (A : Int) - 1970).toNat = A := by omega
  have eB : (1 + (B : Int) - 1).toNat = B := by omega
  rw [eA] at Y M
  rw [eB] at M
  have yb := Civ.years_bd A (by omega)
  have mb := Civ.months_bd (1970 + (A : Int)) B
  have D : d = Civ.number (1970 + A) (1 + B) d - (Civ.years A + Civ.months (1970 + A) B) + 1 := by unfold Civ.number; rw [eA, eB]; omega
  have S := date_walk (Civ.number (1970 + A) (1 + B) d) (Civ.years A + Civ.months (1970 + A) B) A B w n0 n1 (by omega) (by omega) (by omega) (by omega)
    (fun W hW c => search1 w.heap.size 8029 A (by omega) (by omega) W (fun h hh w' hb => by
      rw [← Y h]
      exact code_date1 _ _ h w' hh (Nat.lt_of_lt_of_le hW hb.size) (by rw [hb.cell (p := ⟨w.heap.size, 0, none⟩) hW]; exact c)))
    (fun W hW ca c => search2 (w.heap.size + 1) w.heap.size 11 B (by omega) (by omega) W (fun h hh w' hb => by
      rw [← M h]
      have := code_date2 _ _ _ _ h w' hh h1 h2 (Nat.lt_of_lt_of_le hW hb.size) (Nat.lt_of_lt_of_le (Nat.lt_of_succ_lt hW) hb.size) (by rw [hb.cell (p := ⟨w.heap.size + 1, 0, none⟩) hW]; exact ca) (by rw [hb.cell (p := ⟨w.heap.size, 0, none⟩) (Nat.lt_of_succ_lt hW)]; exact c)
      rw [eA] at this
      exact this))
    (fun W => by
      have := begin_at (1970 + (A : Int)) B W h1 h2 (by omega) (by omega)
      rw [eA, Int.toNat_natCast] at this
      exact this)
  rw [← D] at S
  exact S
end Go.Proofs.Ytdacpiegfobhbaa
