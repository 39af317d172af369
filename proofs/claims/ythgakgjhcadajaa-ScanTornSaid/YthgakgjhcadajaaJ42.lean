/- scan: why the sectors of a disk can't be read. How many sectors are not blank. -/
import Derived.Test.YthgakgjhcadajaaJ28
import Derived.Test.YthgakgjhcadajaaJ41
namespace Go.Proofs.Ythgakgjhcadajaa
open Go.RowKit
set_option maxRecDepth 100000
set_option linter.unusedSimpArgs false
set_option linter.unusedVariables false

def sreachV (d : DiskV) (f : Int) : Int := if f < 0 ∨ (d.many : Int) < f then 2 else if d.dead = true then 32 else 0
set_option maxHeartbeats 1000000 in
theorem code_sreach (w : World) (B bm n : Nat) (d : DiskV) (f : Int) (h : Dsk w B bm n d) : Calls Try.prog 45 #[.pointer (some ⟨B, 0, none⟩), .int .i64 f] w fun e w' => e = .returned (.int .i64 (sreachV d f)) ∧ w = w' := by
  have HL := Lib.hid (code_dlen w B bm n d h)
  have HDd := Lib.hid (code_dead w B bm n d h)
  obtain ⟨m, hm⟩ : ∃ m : Int, m = (d.many : Int) := ⟨_, rfl⟩
  have hp : 0 < m := by have := h.2.2.2.2; omega
  have HD : Hid (sreachV d f = if f < 0 ∨ m < f then 2 else if d.dead = true then 32 else 0) := Lib.hid (by rw [hm]; rfl)
  rw [← hm] at HL
  clear hm h
  generalize d.dead = dd at *
  have hz : (m == 0) = false := beq_false_of_ne (by omega)
  by_cases h1 : f < 0
  · go_enter Try.func45, Try.ntmps45
    go_wp2_with (go_at_call 46; refine HL.out.mono ?_; rintro e w1 ⟨rfl, rfl⟩)
    go_ret
    exact ⟨ret_int (by rw [HD.out, if_pos (.inl h1)]), rfl⟩
  · have h1' : 0 ≤ f := by omega
    by_cases h3 : m < f
    · go_enter Try.func45, Try.ntmps45
      go_wp2_with (go_at_call 46; refine HL.out.mono ?_; rintro e w1 ⟨rfl, rfl⟩)
      go_ret
      exact ⟨ret_int (by rw [HD.out, if_pos (.inr h3)]), rfl⟩
    · have h3' : f ≤ m := by omega
      cases dd
      all_goals (
        go_enter Try.func45, Try.ntmps45
        go_wp2_with (first | (go_at_call 46; refine HL.out.mono ?_; rintro e w1 ⟨rfl, rfl⟩) | (go_at_call 56; refine HDd.out.mono ?_; rintro e w1 ⟨rfl, rfl⟩))
        go_ret
        exact ⟨ret_int (by rw [HD.out, if_neg (by omega)]; rfl), rfl⟩)
end Go.Proofs.Ythgakgjhcadajaa

namespace Go.Proofs.Ythgakgjhcadajaa
open Go.RowKit
attribute [local go_sem] Oper.semAt_some
set_option maxRecDepth 100000
set_option linter.unusedSimpArgs false
set_option linter.unusedVariables false

theorem dirtyL_len (S : Nat → Text) (tail m : Nat) : (dirtyL S tail m).length ≤ m := by
  have := List.length_filter_le (dirtyQ S tail) (List.range m)
  rw [List.length_range] at this
  exact this
theorem code_dirtyF (w : World) (B : Nat) (tail : Int) : Calls Try.prog 52 #[.pointer (some ⟨B, 0, none⟩), .int .i64 tail] w fun e w' => e = .returned (.func (.func 78) #[] #[.pointer (some ⟨w.heap.size, 0, none⟩), .pointer (some ⟨w.heap.size + 1, 0, none⟩)]) ∧
    w' = (w.alloc (.cells #[.pointer (some ⟨B, 0, none⟩)] 25)).alloc (.cells #[.int .i64 tail] 3) := by
  have hmf : ∀ (fn : Fn) (first cap : Array Value) (w : World), (Instr.makeFunc fn first cap).run Try.prog w = .ok (.func fn first cap) w := fun _ _ _ _ => rfl
  go_enter Try.func52, Try.ntmps52
  go_wp2
  go_ret
  exact ⟨rfl, rfl⟩
/-- what stands while they are counted -/
def InC (w : World) (B bm n : Nat) (d : DiskV) (tail : Nat) (pre : List Nat) (V : World) : Prop :=
  V.heap[w.heap.size]? = some (.cells #[.int .i64 pre.length] 3 (0, 0)) ∧ V.heap[w.heap.size + 1]? = some (.cells #[.pointer (some ⟨B, 0, none⟩)] 25 (0, 0)) ∧ V.heap[w.heap.size + 1 + 1]? = some (.cells #[.int .i64 tail] 3 (0, 0)) ∧ Below w.heap.size w V
theorem code_dirty_bad (w : World) (B bm n : Nat) (d : DiskV) (tail : Int) (h : Dsk w B bm n d) (hz : sreachV d tail ≠ 0) :
    Calls Try.prog 17 #[.pointer (some ⟨B, 0, none⟩), .int .i64 tail] w fun e w' => e = .returned (.tuple #[.int .i64 0, .int .i64 (sreachV d tail)]) ∧ w = w' := by
  have HR := Lib.hid (code_sreach w B bm n d tail h)
  generalize sreachV d tail = v at *
  have hv : (v != 0) = true := by simpa using hz
  clear h
  go_enter Try.func17, Try.ntmps17
  go_wp2_with (go_at_call 45; refine HR.out.mono ?_; rintro e w1 ⟨rfl, rfl⟩)
  go_ret2
  exact ⟨rfl, rfl⟩
set_option maxHeartbeats 2000000 in
theorem code_dirty (w : World) (B bm n : Nat) (d : DiskV) (tail : Nat) (h : Dsk w B bm n d) (hd : d.dead = false) (ht : tail ≤ d.many) :
    Calls Try.prog 17 #[.pointer (some ⟨B, 0, none⟩), .int .i64 tail] w fun e w' => e = .returned (.tuple #[.int .i64 (dirtyL d.S tail d.many).length, .int .i64 0]) ∧ Below w.heap.size w w' := by
  have HR : Hid (Calls Try.prog 45 #[.pointer (some ⟨B, 0, none⟩), .int .i64 tail] w fun e w' => e = .returned (.int .i64 0) ∧ w = w') := Lib.hid (by
    have h1 := code_sreach w B bm n d tail h
    have h2 : sreachV d tail = 0 := by unfold sreachV; rw [hd, if_neg (by omega), if_neg (by decide)]
    rwa [h2] at h1)
  have HF := Lib.hid (fun W => code_dirtyF W B tail)
  have HD := Lib.hid h
  have HM := Lib.hid h.2.2.1
  have hBl := h.lt
  have hbl := h.2.1.lt
  clear h hd
  refine callsIn_wide.1 (callsIn_of_wp_marks (n := 0) (F := Fence.wide) Try.func17 rfl trivial (wpIn_wide.2 ?_) rfl)
  simp only [Try.ntmps17, List.size_toArray, List.length_cons, List.length_nil, Nat.reduceAdd, Nat.reduceSub, Array.replicate_succ, Array.replicate_zero, List.push_toArray, List.append_toArray, List.nil_append, List.cons_append]
  go_wp2_with (first
    | (go_at_call 45; refine HR.out.mono ?_; rintro e w1 ⟨rfl, rfl⟩)
    | (go_at_call 52; refine (HF.out _).mono ?_; rintro e w2 ⟨rfl, rfl⟩))
  obtain ⟨W9, hW9⟩ : ∃ W9, W9 = ((w.alloc (.cells #[.int .i64 0] 3)).alloc (.cells #[.pointer (some ⟨B, 0, none⟩)] 25)).alloc (.cells #[.int .i64 tail] 3) := ⟨_, rfl⟩
  have e1 := heap_alloc_new w (.cells #[.int .i64 0] 3)
  have e2 := heap_alloc_new (w.alloc (.cells #[.int .i64 0] 3)) (.cells #[.pointer (some ⟨B, 0, none⟩)] 25)
  have e3 := heap_alloc_new ((w.alloc (.cells #[.int .i64 0] 3)).alloc (.cells #[.pointer (some ⟨B, 0, none⟩)] 25)) (.cells #[.int .i64 tail] 3)
  simp only [World.size_alloc] at e1 e2 e3
  have hB9 : Below w.heap.size w W9 := by rw [hW9]; exact ((((Below.refl _ w).alloc (Nat.le_refl _) _).alloc (by simp) _).alloc (by simp <;> omega) _)
  have hz9 : W9.heap.size = w.heap.size + 3 := by rw [hW9]; simp
  have hI9 : InC w B bm n d tail [] W9 := by
    refine ⟨?_, ?_, ?_, hB9⟩
    · rw [hW9, Below.heap_alloc _ _ _ (by simp <;> omega), Below.heap_alloc _ _ _ (by simp)]; exact e1
    · rw [hW9, Below.heap_alloc _ _ _ (by simp)]; exact e2
    · rw [hW9]; exact e3
  rw [← hW9]
  clear hW9 e1 e2 e3 hB9
  refine wp_rangeToldW (gf := 78) (lb := #[.pointer (some ⟨w.heap.size + 1, 0, none⟩), .pointer (some ⟨w.heap.size + 1 + 1, 0, none⟩)]) rfl (enters_of Try.func78 (by kernel_rfl) rfl) (dirty_toldW (w.heap.size + 1) (w.heap.size + 1 + 1) B bm d.many tail d.S) (fun _ => rfl)
    (InC w B bm n d tail) (fun _ _ _ => False) (fun pre A C h hb => ⟨(hb.block _ (by omega)).trans h.1, (hb.block _ (by omega)).trans h.2.1, (hb.block _ (by omega)).trans h.2.2.1, h.2.2.2.trans (hb.mono (by omega))⟩) (fun _ _ _ _ h _ => h.elim) ?dk hI9 ?round ?done ?stop
  case dk =>
    intro pre A h
    exact ⟨n, d, HD.out.below h.2.2.2, rfl, fun _ _ _ => rfl, h.2.1, h.2.2.1⟩
  case stop =>
    rintro D c pre V hD _ h hK
    exact h.elim
  case done =>
    intro D xs V hD hxl hI hK
    have hx : xs = dirtyL d.S tail d.many := hxl
    rw [hx] at hI
    have q := cell_of_row V _ 0 _ _ _ hI.1
    simp only [List.getElem?_toArray, List.getElem?_cons_zero] at q
    have HI := Lib.hid hI
    have HK := Lib.hid hK
    clear hI hK hx hxl
    go_wp2
    refine ⟨by simp, .inl ⟨_, _, rfl, run_takeDeferred HK.out, ?_⟩⟩
    exact ⟨_, results_tmp2 rfl _ _ _, rfl, HI.out.2.2.2.trans (put_below _ _ (by omega))⟩
  case round =>
    rintro L r pre i V hL hr hI ⟨hj, hq, hpre⟩
    have HL : Hid (pre.length ≤ 4096) := Lib.hid (by rw [hpre]; have := dirtyL_len d.S tail i; have := HM.out; omega)
    obtain ⟨k, hk⟩ : ∃ k, k = pre.length := ⟨_, rfl⟩
    have HKk := Lib.hid hk
    clear hI hr hpre hq hj
    dsimp only [encN]
    gi_wp2
    refine ⟨Below.refl _ _, fun Wb hB hIb => ?_⟩
    have q := cell_of_row Wb _ 0 _ _ _ hIb.1
    have qf := frozen_of_row Wb _ 0 _ _ hIb.1
    simp only [List.getElem?_toArray, List.getElem?_cons_zero] at q
    rw [← hk] at q
    have hw : wrap64 ((k : Int) + 1) = (k : Int) + 1 := by have := HL.out; rw [← hk] at this; unfold wrap64; omega
    have HIb := Lib.hid hIb
    clear hIb hB hk
    gi_wp2
    have hI := HIb.out
    have he : ((pre ++ [i]).length : Int) = (k : Int) + 1 := by rw [List.length_append, ← HKk.out]; rfl
    refine ⟨⟨by simp, fun j h1 h2 => heap_setCell_other _ _ _ _ (by simp; omega)⟩, ?_, (heap_setCell_other _ _ _ _ (by simp)).trans hI.2.1, (heap_setCell_other _ _ _ _ (by simp; omega)).trans hI.2.2.1, hI.2.2.2.setCell (p := ⟨w.heap.size, 0, none⟩) (Nat.le_refl _) _⟩
    rw [he]
    exact heap_setCell_same Wb w.heap.size 0 _ _ _ hI.1
end Go.Proofs.Ythgakgjhcadajaa
