/- Rates: a rate set. -/
import Derived.Test.YtlnpflfkkjcopaaRtG
namespace Go.Proofs.Ytlnpflfkkjcopaa
open Go.RowKit
set_option maxRecDepth 100000
attribute [local go_sem] Oper.semAt_some

theorem upd_idem {F : Lns} {s : ByteArray} {c : Int} {x y : Option (Nat × List Sp)} : upd (upd F s c x) s c y = upd F s c y := by
  funext s' c'
  by_cases h : s' = s ∧ c' = c
  · obtain ⟨rfl, rfl⟩ := h
    rw [upd_same, upd_same]
  · rw [upd_other h, upd_other h, upd_other h]
theorem upd_self {F : Lns} {s : ByteArray} {c : Int} {x : Option (Nat × List Sp)} (h : F s c = x) : upd F s c x = F := by
  funext s' c'
  by_cases e : s' = s ∧ c' = c
  · obtain ⟨rfl, rfl⟩ := e
    rw [upd_same, h]
  · rw [upd_other e]
/-- what a setting leaves -/
def Stp (F : Lns) (s : ByteArray) (c : Int) (p : Sp) (F' : Lns) : Prop :=
  (setE 256 (Ln F s c) p.1 p.2.1 ≠ 0 ∧ F' = F) ∨ (setE 256 (Ln F s c) p.1 p.2.1 = 0 ∧ ∃ B, F' = upd F s c (some (B, setL 256 (Ln F s c) p)))
/-- a key's line was turned, be it among them or not -/
theorem rt_after {w2 w3 : World} {base R bm n B : Nat} {F : Lns} {s : ByteArray} {c : Int} {L L2 : List Sp} (h2 : RtAt w2 base R bm n F) (hl : Lin w2 B 256 L) (hc : Chg w2 w3 B) (hl3 : Lin w3 B 256 L2) (hor : F s c = some (B, L) ∨ (∀ s' c' L', F s' c' ≠ some (B, L'))) :
    ∃ F3, RtAt w3 base R bm n F3 ∧ (F3 s c = some (B, L2) ∨ (∀ s' c' L', F3 s' c' ≠ some (B, L'))) ∧ upd F3 s c (some (B, L2)) = upd F s c (some (B, L2)) ∧ (L2 = L → F3 = F) := by
  rcases hor with hF | hF
  · refine ⟨_, h2.chgOne hF hc hl3, .inl upd_same, upd_idem, fun e => ?_⟩
    subst e
    exact upd_self hF
  · exact ⟨F, h2.chgNo hl hF hc, .inr hF, rfl, fun _ => rfl⟩
theorem setL_no {most : Nat} {L : List Sp} {p : Sp} (h : setE most L p.1 p.2.1 ≠ 0) : setL most L p = L := by
  unfold setL
  rw [if_neg h]
theorem below_lift {w w1 w' : World} {b : Nat} (h : Below w.heap.size w w1) (k : Below b w1 w') (hb : b ≤ w.heap.size) : Below b w w' := (h.mono hb).trans k
set_option maxHeartbeats 2000000 in
theorem rset_main {w : World} {base R bm n : Nat} {F : Lns} (h : RtAt w base R bm n F) (s : ByteArray) (c f u x : Int) (hs : s.size ≤ 9223372036854775807) (hM : MaxL w) (hm : isMem s = true) (hr : ratB c = true) (hx : 0 ≤ x) (hx2 : x ≤ 10000) (hn : n < maxLen) (E : Int) (hE : E = setE 256 (Ln F s c) f u) :
    Calls Try.prog 26 #[.pointer (some ⟨R, 0, none⟩), .string s, .int .i64 c, .agg #[.int .i64 f, .int .i64 u], .int .i64 x] w fun e w' =>
      e = .returned (.int .i64 E) ∧ Below base w w' ∧ ∃ F', RtAt w' base R bm (n + 1) F' ∧ Stp F s c (f, u, x) F' := by
  have hk := mem_ok hm hr
  have HMade := Lib.hid (fun o => code_rmade (h.on (below_alloc w o)))
  have HMem := Lib.hid (fun o => code_member s (w.alloc o) hs (hM.below (below_alloc w o) (Nat.le_refl _)))
  have HR := Lib.hid (fun o => code_isRated c (w.alloc o))
  rw [hm] at HMem
  rw [hr] at HR
  have HH := Lib.hid (And.intro h (And.intro hk hn))
  have hW0 : Below w.heap.size w ((w.alloc (.cells #[.int .i64 f, .int .i64 u] 24)).alloc (.cells #[.string s, .int .i64 c] 90)) := below_then (below_alloc _ _) (below_alloc _ _)
  have HW : Hid (∀ W, Below ((w.alloc (.cells #[.int .i64 f, .int .i64 u] 24)).alloc (.cells #[.string s, .int .i64 c] 90)).heap.size ((w.alloc (.cells #[.int .i64 f, .int .i64 u] 24)).alloc (.cells #[.string s, .int .i64 c] 90)) W →
      W.heap[w.heap.size]? = some (.cells #[.int .i64 f, .int .i64 u] 24 (0, 0)) ∧ W.heap[w.heap.size + 1]? = some (.cells #[.string s, .int .i64 c] 90 (0, 0)) ∧ Below w.heap.size w W) := Lib.hid (fun W hb => by
    have e1 := heap_alloc_new w (.cells #[.int .i64 f, .int .i64 u] 24)
    have e2 := heap_alloc_new (w.alloc (.cells #[.int .i64 f, .int .i64 u] 24)) (.cells #[.string s, .int .i64 c] 90)
    simp only [World.size_alloc] at e2
    exact ⟨heap_on hb (heap_on (below_alloc _ _) e1), heap_on hb e2, below_then (below_then (below_alloc _ _) (below_alloc _ _)) hb⟩)
  clear hW0 h hM hm hr hk hn
  go_enter Try.func26, Try.ntmps26
  go_wp2_with (first | (go_at_call 44; refine (HMade.out _).mono ?_; rintro e w1 ⟨rfl, rfl⟩) | (go_at_call 45; refine (HMem.out _).mono ?_; rintro e w1 ⟨rfl, rfl⟩) | (go_at_call 46; refine (HR.out _).mono ?_; rintro e w1 ⟨rfl, rfl⟩) | (go_at_call 47; refine Stop.out ?_))
  unfold Stop
  have hW1 := HW.out _ (below_same _)
  have HLo := Lib.hid (code_lineOf (HH.out.1.on hW1.2.2) HH.out.2.1)
  have HS1 := Lib.hid hW1.2.2.size
  clear hW1 HMade HMem HR
  refine HLo.out.mono ?_
  rintro e w2 ⟨B, rfl, hb, hl, hB, hor⟩
  have hW2 := HW.out w2 hb
  have H2 : Hid (RtAt w2 base R bm n F ∧ Lin w2 B 256 (Ln F s c) ∧ base ≤ B ∧ (F s c = some (B, Ln F s c) ∨ (∀ s' c' L', F s' c' ≠ some (B, L')))) := Lib.hid ⟨HH.out.1.on hW2.2.2, hl, hB, hor.imp id (fun h s' c' L' e => by
    have := ((HH.out.1).2.2.1 s' c' B L' e).1.lt
    have := HS1.out
    have := h.2
    omega)⟩
  have HNe : Hid (w.heap.size + 1 ≠ B) := Lib.hid (fun e => by
    obtain ⟨A, cc, g0, _⟩ := hl
    have := hW2.2.1
    rw [e, g0] at this
    injection this with this
    injection this with this
    simp only [Array.mk.injEq, List.cons.injEq] at this
    exact absurd this.1 (by simp))
  have HW2 := Lib.hid hW2
  obtain ⟨a0, a1, _, _⟩ := row2 hW2.1
  have hST := code_set w2 B 256 (Ln F s c) f u x H2.out.2.1
  rw [← hE] at hST
  have HST := Lib.hid hST
  have HE := Lib.hid hE
  clear hW2 hl hB hor hb HLo hST hE
  by_cases hE0 : E = 0
  · subst hE0
    go_wp2_with (go_at_call 12; refine HST.out.mono ?_; rintro e w3 ⟨rfl, h3, hc⟩; have H3 := Lib.hid (And.intro h3 hc); clear h3 hc; refine Stop.out ?_)
    unfold Stop
    clear a0 a1
    obtain ⟨F3, h3, hor, hu, _⟩ := rt_after H2.out.1 H2.out.2.1 H3.out.2 H3.out.1 H2.out.2.2.2
    have hkb := H3.out.2.heap HW2.out.2.1 HNe.out
    have HB3 : Hid (Below base w w3) := Lib.hid (below_lift HW2.out.2.2 (H3.out.2.below (Nat.le_trans HH.out.1.2.2.2.2.2.2 HW2.out.2.2.size) H2.out.2.2.1) HH.out.1.2.2.2.2.2.2)
    have hd := h3.on (below_drew w3)
    have hkd := heap_on (below_drew w3) hkb
    have hlt : w3.heap.size ≤ w3.drew.heap.size := (below_drew w3).size
    obtain ⟨w4, hr4, hp, hg, hblk⟩ := hd.put HH.out.2.2 HH.out.2.1 (H3.out.1.on (below_drew w3)) H2.out.2.2.1 hor
    rw [hu] at hp
    have c0 := hd.cell
    obtain ⟨k0, k1, _, _⟩ := row2 hkd
    have hkne : w.heap.size + 1 ≠ bm := fun e => by have := HH.out.1.bmlt; omega
    have HKeep : Hid (w4.cell? ⟨R, 0, none⟩ = some (.map (some bm)) ∧ w4.cell? ⟨w.heap.size + 1, 0, none⟩ = some (.string s) ∧ w4.cell? ⟨w.heap.size + 1, 1, none⟩ = some (.int .i64 c)) := Lib.hid (by
      obtain ⟨q0, q1, _, _⟩ := row2 ((hblk _ hkne).trans hkd)
      exact ⟨hp.cell, q0, q1⟩)
    have HF : Hid (Below base w w4 ∧ ∃ F', RtAt w4 base R bm (n + 1) F' ∧ Stp F s c (f, u, x) F') := Lib.hid (by
      refine ⟨?_, _, hp, .inr ⟨HE.out.symm, B, rfl⟩⟩
      have b1 := (below_drew w3).mono (Nat.le_trans HH.out.1.2.2.2.2.2.2 HB3.out.size)
      have b2 : Below base w3.drew w4 := ⟨hg.os, hg.tape, hg.output, hg.size, fun k hk => hblk k (by have := HH.out.1.2.2.2.2.2.1; omega)⟩
      exact (HB3.out.trans b1).trans b2)
    have hru : (Instr.mapUpdate 69 (.map (some bm)) (.agg #[.string s, .int .i64 c]) (.pointer (some ⟨B, 0, none⟩))).run Try.prog w3.drew = .ok () w4 := hr4
    clear hd hkd hp hg hblk h3 hor hu hkb hr4
    go_wp2
    refine wp_region_held_drew (S := fun V => V.cell? ⟨R, 0, none⟩ = some (.map (some bm)) ∧ V.cell? ⟨w.heap.size + 1, 0, none⟩ = some (.string s) ∧ V.cell? ⟨w.heap.size + 1, 1, none⟩ = some (.int .i64 c)) (by kernel_rfl) ⟨c0, k0, k1⟩ ?_
    intro hHeld
    clear c0 k0 k1
    generalize w3.drew = wd at hHeld hru ⊢
    (refine takeH (i := 0) (v := ?_) rfl (by kernel_rfl) (by kernel_rfl) (by kernel_rfl) (fun _ _ _ h => h) (Or.inl ⟨by rfl, ?_⟩) (by assumption) ?_; rotate_left; (focus ((intro wS hSw); (try dsimp only at hSw); obtain ⟨s0, s1, s2⟩ := hSw; go_simp; (try with_reducible rfl); done)); (try simp only [Act.put, List.setIfInBounds_toArray, List.set_cons_zero, List.set_cons_succ]))
    (refine takeH (i := 1) (v := ?_) rfl (by kernel_rfl) (by kernel_rfl) (by kernel_rfl) (fun _ _ _ h => h) (Or.inl ⟨by rfl, ?_⟩) (by assumption) ?_; rotate_left; (focus ((intro wS hSw); (try dsimp only at hSw); obtain ⟨s0, s1, s2⟩ := hSw; go_simp; (try with_reducible rfl); done)); (try simp only [Act.put, List.setIfInBounds_toArray, List.set_cons_zero, List.set_cons_succ]))
    (refine takeH (i := 2) (v := ?_) rfl (by kernel_rfl) (by kernel_rfl) (by kernel_rfl) (fun _ _ _ h => h) (Or.inl ⟨by rfl, ?_⟩) (by assumption) ?_; rotate_left; (focus ((intro wS hSw); (try dsimp only at hSw); obtain ⟨s0, s1, s2⟩ := hSw; go_simp; (try with_reducible rfl); done)); (try simp only [Act.put, List.setIfInBounds_toArray, List.set_cons_zero, List.set_cons_succ]))
    (refine takeH (i := 3) (v := ?_) rfl (by kernel_rfl) (by kernel_rfl) (by kernel_rfl) (fun _ _ _ h => h) (Or.inl ⟨by rfl, ?_⟩) (by assumption) ?_; rotate_left; (focus ((intro wS hSw); (try dsimp only at hSw); obtain ⟨s0, s1, s2⟩ := hSw; go_simp; (try with_reducible rfl); done)); (try simp only [Act.put, List.setIfInBounds_toArray, List.set_cons_zero, List.set_cons_succ]))
    (refine takeH (i := 4) (v := ?_) rfl (by kernel_rfl) (by kernel_rfl) (by kernel_rfl) (fun _ _ _ h => h) (Or.inl ⟨by rfl, ?_⟩) (by assumption) ?_; rotate_left; (focus ((intro wS hSw); (try dsimp only at hSw); obtain ⟨s0, s1, s2⟩ := hSw; go_simp; (try with_reducible rfl); done)); (try simp only [Act.put, List.setIfInBounds_toArray, List.set_cons_zero, List.set_cons_succ]))
    (refine takeH (i := 5) (v := ?_) rfl (by kernel_rfl) (by kernel_rfl) (by kernel_rfl) (fun _ _ _ h => h) (Or.inl ⟨by rfl, ?_⟩) (by assumption) ?_; rotate_left; (focus ((intro wS hSw); (try dsimp only at hSw); obtain ⟨s0, s1, s2⟩ := hSw; go_simp; (try with_reducible rfl); done)); (try simp only [Act.put, List.setIfInBounds_toArray, List.set_cons_zero, List.set_cons_succ]))
    refine aloneH (i := 6) rfl (by kernel_rfl) (fun K hK => ?_)
    rw [if_pos (by rfl)]
    go_simp
    refine hK.out _ _ (HKeep.out) (fun hNew => ?_)
    clear hK K hHeld; (have hHeld := hNew); clear hNew; (try simp only [Act.put])
    refine wpAnyH_done (by kernel_rfl) ?_ _
    clear hHeld
    go_wp2
    go_ret
    exact ⟨rfl, HF.out⟩
  · have bE := beq_no hE0
    go_wp2_with (go_at_call 12; refine HST.out.mono ?_; rintro e w3 ⟨rfl, h3, hc⟩; have H3 := Lib.hid (And.intro h3 hc); clear h3 hc; refine Stop.out ?_)
    unfold Stop
    go_wp2
    go_ret
    obtain ⟨F3, h3, _, _, hu⟩ := rt_after H2.out.1 H2.out.2.1 H3.out.2 H3.out.1 H2.out.2.2.2
    have hne : setE 256 (Ln F s c) f u ≠ 0 := by rw [← HE.out]; exact hE0
    have e3 : F3 = F := hu (setL_no hne)
    subst e3
    exact ⟨rfl, below_lift HW2.out.2.2 (H3.out.2.below (Nat.le_trans HH.out.1.2.2.2.2.2.2 HW2.out.2.2.size) H2.out.2.2.1) HH.out.1.2.2.2.2.2.2, F3, h3.mono (by omega), .inl ⟨hne, rfl⟩⟩
end Go.Proofs.Ytlnpflfkkjcopaa
