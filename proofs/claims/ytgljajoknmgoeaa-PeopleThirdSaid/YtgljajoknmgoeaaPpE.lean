/- People in memory: who is made, what they tell at once. -/
import Derived.Test.YtgljajoknmgoeaaPpC
namespace Go.Proofs.Ytgljajoknmgoeaa
open Go.RowKit
set_option maxRecDepth 100000
attribute [local go_sem] Oper.semAt_some

/-- people that a call made: their block, the line of the choice, the map, the home state, what stands on the line, what on each number's -/
def PpAt (w : World) (base P B0 bm n : Nat) (h : ByteArray) (O : List Sp) (F : Lns) : Prop :=
  w.heap[P]? = some (.cells #[.pointer (some ⟨B0, 0, none⟩), .string h, .map (some bm)] 45 (0, 0)) ∧ PmAt w base bm n F ∧ Lin w B0 256 O ∧ base ≤ B0 ∧ (∀ s L, F s ≠ some (B0, L)) ∧ base ≤ P ∧ isMem h = true
theorem row3a {W : World} {g : Nat} {a b c : Value} {t : TypeId} (h : W.heap[g]? = some (.cells #[a, b, c] t (0, 0))) : W.cell? ⟨g, 0, none⟩ = some a ∧ W.cell? ⟨g, 1, none⟩ = some b ∧ W.cell? ⟨g, 2, none⟩ = some c :=
  ⟨cell_of_row W g 0 _ _ _ h, cell_of_row W g 1 _ _ _ h, cell_of_row W g 2 _ _ _ h⟩
section
variable {w w' : World} {base P B0 bm n : Nat} {h : ByteArray} {O : List Sp} {F : Lns}
theorem PpAt.on (H : PpAt w base P B0 bm n h O F) (hb : Below w.heap.size w w') : PpAt w' base P B0 bm n h O F :=
  ⟨heap_on hb H.1, H.2.1.on hb, H.2.2.1.on hb, H.2.2.2⟩
theorem PpAt.mono (H : PpAt w base P B0 bm n h O F) {m : Nat} (hm : n ≤ m) : PpAt w base P B0 bm m h O F := ⟨H.1, H.2.1.mono hm, H.2.2⟩
theorem mem_size {c : ByteArray} (h : isMem c = true) : c.size = 2 := by
  unfold isMem at h
  rw [List.any_eq_true] at h
  obtain ⟨k, hk, e⟩ := h
  have e := of_decide_eq_true e
  subst e
  have : ∀ k ∈ tabL.map (·.1), k.size = 2 := by decide +kernel
  exact this k hk
theorem str_ne {c : ByteArray} (h : c.size = 2) : c.toList.isEmpty = false := by
  rw [ByteArray.toList_eq]
  obtain ⟨⟨l⟩⟩ := c
  match l, h with
  | [a, b], _ => rfl
theorem code_pmade (H : PpAt w base P B0 bm n h O F) : Calls Try.prog 20 #[.pointer (some ⟨P, 0, none⟩)] w fun e w' => e = .returned (.bool true) ∧ w = w' := by
  obtain ⟨c0, c1, c2⟩ := row3a H.1
  have hne := str_ne (mem_size H.2.2.2.2.2.2)
  clear H
  go_enter Try.func20, Try.ntmps20
  go_wp2
  go_ret
  exact ⟨rfl, rfl⟩
theorem code_pmade_nil (w : World) : Calls Try.prog 20 #[.pointer none] w fun e w' => e = .returned (.bool false) ∧ w = w' := by
  go_enter Try.func20, Try.ntmps20
  go_wp2
  go_ret
  exact ⟨rfl, rfl⟩
theorem code_pmade_bare (w : World) (P : Nat) (c1 : w.cell? ⟨P, 1, none⟩ = some (.string { data := #[] })) : Calls Try.prog 20 #[.pointer (some ⟨P, 0, none⟩)] w fun e w' => e = .returned (.bool false) ∧ w = w' := by
  go_enter Try.func20, Try.ntmps20
  go_wp2
  go_ret
  exact ⟨rfl, rfl⟩
theorem code_home (H : PpAt w base P B0 bm n h O F) : Calls Try.prog 13 #[.pointer (some ⟨P, 0, none⟩)] w fun e w' => e = .returned (.string h) ∧ w = w' := by
  have HM := Lib.hid (code_pmade H)
  obtain ⟨c0, c1, c2⟩ := row3a H.1
  clear H
  go_enter Try.func13, Try.ntmps13
  go_wp2_with (go_at_call 20; refine HM.out.mono ?_; rintro e w1 ⟨rfl, rfl⟩)
  go_ret
  exact ⟨rfl, rfl⟩
set_option maxHeartbeats 400000 in
theorem code_opted (H : PpAt w base P B0 bm n h O F) (day : Int) : Calls Try.prog 15 #[.pointer (some ⟨P, 0, none⟩), .int .i64 day] w fun e w' => e = .returned (.bool (atB O day)) ∧ Below w.heap.size w w' := by
  have HM := Lib.hid (code_pmade H)
  have HO := Lib.hid (code_holds w B0 O day H.2.2.1)
  obtain ⟨c0, c1, c2⟩ := row3a H.1
  clear H
  go_enter Try.func15, Try.ntmps15
  go_wp2_with (first | (go_at_call 20; refine HM.out.mono ?_; rintro e w1 ⟨rfl, rfl⟩) | (go_at_call 30; refine HO.out.mono ?_; rintro e w1 ⟨rfl, hb⟩; have HB := Lib.hid hb; clear hb))
  go_ret
  exact ⟨rfl, HB.out⟩
/-- not made by a call -/
def NotMade (p : Value) (w : World) : Prop := ∀ W, Below w.heap.size w W → Calls Try.prog 20 #[p] W fun e w' => e = .returned (.bool false) ∧ W = w'
theorem NotMade.on {p : Value} (h : NotMade p w) (hb : Below w.heap.size w w') : NotMade p w' := fun W hW => h W (below_then hb hW)
theorem home_not {p : Value} (h : NotMade p w) : Calls Try.prog 13 #[p] w fun e w' => e = .returned (.string { data := #[] }) ∧ w = w' := by
  have HM := Lib.hid (h w (below_same w))
  clear h
  go_enter Try.func13, Try.ntmps13
  go_wp2_with (go_at_call 20; refine HM.out.mono ?_; rintro e w1 ⟨rfl, rfl⟩)
  go_ret
  exact ⟨rfl, rfl⟩
theorem opted_not {p : Value} (h : NotMade p w) (day : Int) : Calls Try.prog 15 #[p, .int .i64 day] w fun e w' => e = .returned (.bool false) ∧ w = w' := by
  have HM := Lib.hid (h w (below_same w))
  clear h
  go_enter Try.func15, Try.ntmps15
  go_wp2_with (go_at_call 20; refine HM.out.mono ?_; rintro e w1 ⟨rfl, rfl⟩)
  go_ret
  exact ⟨rfl, rfl⟩
theorem opt_not {p : Value} (h : NotMade p w) (f u : Int) : Calls Try.prog 14 #[p, .agg #[.int .i64 f, .int .i64 u]] w fun e w' => e = .returned (.int .i64 1) ∧ Below w.heap.size w w' := by
  have HM := Lib.hid (fun o => h (w.alloc o) (below_alloc w o))
  have HB := Lib.hid (fun o => below_alloc w o)
  clear h
  go_enter Try.func14, Try.ntmps14
  go_wp2_with (go_at_call 20; refine (HM.out _).mono ?_; rintro e w1 ⟨rfl, rfl⟩)
  go_ret
  exact ⟨rfl, HB.out _⟩
theorem status_not {p : Value} (h : NotMade p w) (c m : ByteArray) (f u : Int) : Calls Try.prog 9 #[p, .string c, .string m, .agg #[.int .i64 f, .int .i64 u]] w fun e w' => e = .returned (.int .i64 1) ∧ Below w.heap.size w w' := by
  have HM := Lib.hid (fun o => h (w.alloc o) (below_alloc w o))
  have HB := Lib.hid (fun o => below_alloc w o)
  clear h
  go_enter Try.func9, Try.ntmps9
  go_wp2_with (go_at_call 20; refine (HM.out _).mono ?_; rintro e w1 ⟨rfl, rfl⟩)
  go_ret
  exact ⟨rfl, HB.out _⟩
theorem business_not {p : Value} (h : NotMade p w) (c m : ByteArray) (day : Int) : Calls Try.prog 10 #[p, .string c, .string m, .int .i64 day] w fun e w' => e = .returned (.bool false) ∧ w = w' := by
  have HM := Lib.hid (h w (below_same w))
  clear h
  go_enter Try.func10, Try.ntmps10
  go_wp2_with (go_at_call 20; refine HM.out.mono ?_; rintro e w1 ⟨rfl, rfl⟩)
  go_ret
  exact ⟨rfl, rfl⟩
theorem known_not {p : Value} (h : NotMade p w) : Calls Try.prog 16 #[p] w fun e w' => e = .returned (.slice none 0 0) ∧ w = w' := by
  have HM := Lib.hid (h w (below_same w))
  clear h
  go_enter Try.func16, Try.ntmps16
  go_wp2_with (go_at_call 20; refine HM.out.mono ?_; rintro e w1 ⟨rfl, rfl⟩)
  go_ret
  exact ⟨rfl, rfl⟩
theorem pclone_not {p : Value} (h : NotMade p w) : Calls Try.prog 12 #[p] w fun e w' => e = .returned (.pointer none) ∧ w = w' := by
  have HM := Lib.hid (h w (below_same w))
  clear h
  go_enter Try.func12, Try.ntmps12
  go_wp2_with (go_at_call 20; refine HM.out.mono ?_; rintro e w1 ⟨rfl, rfl⟩)
  go_ret
  exact ⟨rfl, rfl⟩
end
end Go.Proofs.Ytgljajoknmgoeaa
