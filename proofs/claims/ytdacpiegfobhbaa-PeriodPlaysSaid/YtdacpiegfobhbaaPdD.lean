/- A clock of the program's: what is read, what is made. -/
import Derived.Test.YtdacpiegfobhbaaPdC
namespace Go.Proofs.Ytdacpiegfobhbaa
open Go.RowKit
set_option maxRecDepth 100000
set_option linter.unusedSimpArgs false
set_option linter.unusedVariables false

theorem Ck.Ok.made {c : Ck} (ok : c.Ok) {w : World} {P : Nat} (h : CkAt w P c) : Calls Try.prog 37 #[.pointer (some ⟨P, 0, none⟩)] w fun e w' => e = .returned (.bool true) ∧ w = w' := code_made w P _ _ _ h.c3 ok.k0
theorem code_first_ (w : World) (P : Nat) (c : Ck) (h : CkAt w P c) (ok : c.Ok) :
    Calls Try.prog 21 #[.pointer (some ⟨P, 0, none⟩)] w fun e w' => e = .returned (.agg #[.int .i64 (Civ.perK c.k c.A), .int .i64 (Civ.perY c.k c.A), .int .i64 (Civ.perI c.k c.A)]) ∧ Below w.heap.size w w' := by
  have HM : Hid (∀ W, Below w.heap.size w W → Calls Try.prog 37 #[.pointer (some ⟨P, 0, none⟩)] W fun e w' => e = .returned (.bool true) ∧ W = w') := Lib.hid (fun W hb => ok.made (h.on hb))
  obtain ⟨c0, c1, c2⟩ := h.n0
  have n0 := block_lt_of_cell c0
  have HR := Lib.hid (heap_alloc_new w (.cells #[.int .i64 0, .int .i64 0, .int .i64 0] 24))
  clear h ok
  generalize Civ.perK c.k c.A = k' at *
  generalize Civ.perY c.k c.A = y' at *
  generalize Civ.perI c.k c.A = i' at *
  go_enter Try.func21, Try.ntmps21
  go_wp2_with (go_at_call 37; refine (HM.out _ (below_alloc _ _)).mono ?_; rintro e w1 ⟨rfl, rfl⟩)
  first
    | (have h4 := put3_row (.int .i64 k') (.int .i64 y') (.int .i64 i') HR.out
       exact bodyPost_ret (results_cell_of rfl _ _ w.heap.size _ rfl (load_per _ _ _ _ _ _ h4)) rfl ⟨rfl, (((below_alloc _ _).setCell (by simp) _).setCell (by simp) _).setCell (by simp) _⟩)
    | (have h4 := heap_alloc_new w (.cells #[.int .i64 k', .int .i64 y', .int .i64 i'] 24)
       exact bodyPost_ret (results_cell_of rfl _ _ w.heap.size _ rfl (load_per _ _ _ _ _ _ h4)) rfl ⟨rfl, below_alloc _ _⟩)
theorem code_kind_ (w : World) (P : Nat) (c : Ck) (h : CkAt w P c) (ok : c.Ok) :
    Calls Try.prog 22 #[.pointer (some ⟨P, 0, none⟩)] w fun e w' => e = .returned (.int .i64 c.k) ∧ w = w' := by
  have HM := Lib.hid (ok.made h)
  obtain ⟨c0, c1, c2⟩ := h.c3
  clear h ok
  go_enter Try.func22, Try.ntmps22
  go_wp2_with (go_at_call 37; refine HM.out.mono ?_; rintro e w1 ⟨rfl, rfl⟩)
  go_ret
  exact ⟨rfl, rfl⟩
theorem code_clone (w : World) (P : Nat) (c : Ck) (h : CkAt w P c) (ok : c.Ok) :
    Calls Try.prog 16 #[.pointer (some ⟨P, 0, none⟩)] w fun e w' => e = .returned (.pointer (some ⟨w.heap.size, 0, none⟩)) ∧ CkAt w' w.heap.size c ∧ Below w.heap.size w w' := by
  have HM := Lib.hid (ok.made h)
  obtain ⟨c0, c1, c2⟩ := h.c3
  obtain ⟨c3, c4, c5⟩ := h.n0
  obtain ⟨c6, c7, c8⟩ := h.n1
  have HN : Hid (ckRow c = #[.int .i64 c.k, .int .i64 (Civ.perY c.k c.F), .int .i64 (Civ.perI c.k c.F), .int .i64 (Civ.perK c.k c.A), .int .i64 (Civ.perY c.k c.A), .int .i64 (Civ.perI c.k c.A), .int .i64 (Civ.perK c.k c.B), .int .i64 (Civ.perY c.k c.B), .int .i64 (Civ.perI c.k c.B)]) := Lib.hid rfl
  clear h ok
  unfold CkAt
  rw [HN.out]
  clear HN
  generalize Civ.perK c.k c.A = a0 at *
  generalize Civ.perY c.k c.A = a1 at *
  generalize Civ.perI c.k c.A = a2 at *
  generalize Civ.perK c.k c.B = b0 at *
  generalize Civ.perY c.k c.B = b1 at *
  generalize Civ.perI c.k c.B = b2 at *
  generalize Civ.perY c.k c.F = f1 at *
  generalize Civ.perI c.k c.F = f2 at *
  go_enter Try.func16, Try.ntmps16
  go_wp2_with (go_at_call 37; refine HM.out.mono ?_; rintro e w1 ⟨rfl, rfl⟩)
  go_ret
  exact ⟨rfl, heap_alloc_new _ _, below_alloc _ _⟩
/-- the period of a kind that has a day: the program's and the document's -/
theorem of_both (n k : Int) (hk : Civ.isKind k) (h1 : 0 ≤ n) (h2 : n ≤ 2932896) : ∃ pl : Int, 0 ≤ pl ∧ pl < 8030 * Civ.many k ∧ Civ.within k (Civ.perY k pl) (Civ.perI k pl) n = true ∧
    (∀ w, Calls Try.prog 28 #[.int .i64 n, .int .i64 k] w fun e w' => e = .returned (.tuple #[.agg #[.int .i64 k, .int .i64 (Civ.perY k pl), .int .i64 (Civ.perI k pl)], .int .i64 0]) ∧ Below w.heap.size w w') ∧
    (∀ w, Calls Try.prog 29 #[.int .i64 n, .int .i64 k] w fun e w' => e = .returned (.tuple #[.agg #[.int .i64 k, .int .i64 (Civ.perY k pl), .int .i64 (Civ.perI k pl)], .int .i64 0]) ∧ Below w.heap.size w w') := by
  obtain ⟨y, m, d, hv, rfl⟩ := number_all h1 h2
  have hm : ¬ Civ.many k = 0 := by rcases hk.many with e | e <;> omega
  have hw := Civ.within_of hv hm
  obtain ⟨q1, q2, q3, q4, q5⟩ := Civ.per_place hw.1
  refine ⟨Civ.place k y ((m - 1) / Civ.each k + 1), q4, q5, ?_, ?_, ?_⟩
  · rw [q2, q3]; exact hw.2
  · rw [q2, q3]; exact fun w => code_of_ok y m d k w hv hm
  · rw [q2, q3]
    refine fun w => (ref_of_ok _ k w h1 h2 hm).mono ?_
    rintro e w' ⟨⟨y', m', d', ⟨hv', hn'⟩, rfl⟩, hb⟩
    obtain ⟨rfl, rfl, rfl⟩ := Civ.number_inj hv' hv hn'
    exact ⟨rfl, hb⟩
/-- a clock as it is made -/
def Ck.new (k F : Int) : Ck := ⟨k, F, F, F⟩
theorem Ck.new_ok {k F : Int} (hk : Civ.isKind k) (h0 : 0 ≤ F) (h : F < 8030 * Civ.many k) : (Ck.new k F).Ok := ⟨hk, h0, Int.le_refl _, Int.le_refl _, h, Int.le_of_lt h⟩
theorem new_kind (k n : Int) (w : World) (hk : ¬ Civ.isKind k) :
    Calls Try.prog 8 #[.int .i64 k, .int .i64 n] w fun e w' => e = .returned (.pointer none) ∧ Below w.heap.size w w' := by
  have h1 : (k != 1) = true := bne_t (fun e => hk (.inl e))
  have h2 : (k != 2) = true := bne_t (fun e => hk (.inr e))
  clear hk
  go_enter Try.func8, Try.ntmps8
  go_wp2
  go_ret
  exact ⟨rfl, Below.refl _ _⟩
theorem new_day (k n : Int) (w : World) (hk : Civ.isKind k) (h : n < 0 ∨ 2932896 < n) :
    Calls Try.prog 8 #[.int .i64 k, .int .i64 n] w fun e w' => e = .returned (.pointer none) ∧ Below w.heap.size w w' := by
  have HO := Lib.hid (fun w => code_of_no n k w h)
  clear h
  rcases hk with rfl | rfl
  all_goals
    go_enter Try.func8, Try.ntmps8
    go_wp2_with (go_at_call 28; refine (HO.out _).mono ?_; rintro e w1 ⟨rfl, hb⟩; have HB1 := Lib.hid hb; clear hb)
    go_ret
    exact ⟨rfl, below_then HB1.out (below_alloc _ _)⟩
theorem new_ok (k n F : Int) (w : World) (hk : Civ.isKind k) (h0 : 0 ≤ F) (hF : F < 8030 * Civ.many k) (ho : ∀ w, Calls Try.prog 28 #[.int .i64 n, .int .i64 k] w fun e w' => e = .returned (.tuple #[.agg #[.int .i64 k, .int .i64 (Civ.perY k F), .int .i64 (Civ.perI k F)], .int .i64 0]) ∧ Below w.heap.size w w') :
    Calls Try.prog 8 #[.int .i64 k, .int .i64 n] w fun e w' => ∃ P, e = .returned (.pointer (some ⟨P, 0, none⟩)) ∧ w.heap.size ≤ P ∧ CkAt w' P (Ck.new k F) ∧ Below w.heap.size w w' := by
  have HO := Lib.hid ho
  have HN : Hid (ckRow (Ck.new k F) = #[.int .i64 k, .int .i64 (Civ.perY k F), .int .i64 (Civ.perI k F), .int .i64 k, .int .i64 (Civ.perY k F), .int .i64 (Civ.perI k F), .int .i64 k, .int .i64 (Civ.perY k F), .int .i64 (Civ.perI k F)]) := Lib.hid (by
    have e : Civ.perK k F = k := (Civ.per_good hk h0 hF).2.2
    unfold ckRow Ck.new
    simp only [e])
  clear ho h0 hF
  unfold CkAt
  rw [HN.out]
  clear HN
  generalize Civ.perY k F = y at *
  generalize Civ.perI k F = i at *
  rcases hk with rfl | rfl
  all_goals
    go_enter Try.func8, Try.ntmps8
    go_wp2_with (go_at_call 28; refine (HO.out _).mono ?_; rintro e w1 ⟨rfl, hb⟩; have HB1 := Lib.hid hb; clear hb)
    go_ret
    exact ⟨_, rfl, Nat.le_trans HB1.out.size (by simp), heap_alloc_new2 _ _ _, below_then HB1.out (below_then (below_alloc _ _) (below_alloc _ _))⟩
end Go.Proofs.Ytdacpiegfobhbaa
