/- People: a status set. -/
import Derived.Test.YtgljajoknmgoeaaGreatPpH
namespace Go.Proofs.YtgljajoknmgoeaaGreat
open Go.RowKit
set_option maxRecDepth 100000
attribute [local go_sem] Oper.semAt_some

/-- what a setting leaves -/
def Stp (F : Lns) (s : ByteArray) (p : Sp) (F' : Lns) : Prop :=
  (setE 256 (Ln F s) p.1 p.2.1 ≠ 0 ∧ F' = F) ∨ (setE 256 (Ln F s) p.1 p.2.1 = 0 ∧ ∃ B, F' = upd F s (some (B, setL 256 (Ln F s) p)))
theorem setL_no {most : Nat} {L : List Sp} {p : Sp} (h : setE most L p.1 p.2.1 ≠ 0) : setL most L p = L := by
  unfold setL
  rw [if_neg h]
section
variable {w w' : World} {base P B0 bm n : Nat} {h : ByteArray} {O : List Sp} {F : Lns}
theorem PpAt.baseLe (H : PpAt w base P B0 bm n h O F) : base ≤ w.heap.size := H.2.1.2.2.2.2
/-- a line of the map's own was turned, or one that is not among them -/
theorem PpAt.after {B : Nat} {s : ByteArray} {L L2 : List Sp} (H : PpAt w base P B0 bm n h O F) (hl : Lin w B 256 L) (hc : Chg w w' B) (hl2 : Lin w' B 256 L2) (hB0 : B ≠ B0) (hor : F s = some (B, L) ∨ (∀ s' L', F s' ≠ some (B, L'))) :
    ∃ F3, PpAt w' base P B0 bm n h O F3 ∧ (F3 s = some (B, L2) ∨ (∀ s' L', F3 s' ≠ some (B, L'))) ∧ upd F3 s (some (B, L2)) = upd F s (some (B, L2)) ∧ (L2 = L → F3 = F) := by
  have hP : P ≠ B := fun e => by
    obtain ⟨A, c, g0, _⟩ := hl
    have := H.1
    rw [e, g0] at this
    injection this with this
    injection this with this
    have := congrArg Array.size this
    simp at this
  have hcell := hc.heap H.1 hP
  have hl0 := H.2.2.1.chg hl hc hB0.symm
  rcases hor with hF | hF
  · refine ⟨_, ⟨hcell, H.2.1.chgOne hF hc hl2, hl0, H.2.2.2.1, fun s' L' e => ?_, H.2.2.2.2.2⟩, .inl upd_same, upd_idem, fun e => ?_⟩
    · obtain ⟨M, e'⟩ := upd_line hF e
      exact H.2.2.2.2.1 s' M e'
    · subst e
      exact upd_self hF
  · exact ⟨F, ⟨hcell, H.2.1.chgNo hl hF hc, hl0, H.2.2.2⟩, .inr hF, rfl, fun _ => rfl⟩
theorem PpAt.put {B : Nat} {L : List Sp} {s : ByteArray} (H : PpAt w base P B0 bm n h O F) (hn : n < maxLen) (hk : okKey s) (hl : Lin w B 256 L) (hB : base ≤ B) (hB0 : B ≠ B0) (hf : F s = some (B, L) ∨ (∀ s' L', F s' ≠ some (B, L'))) :
    ∃ w', (Instr.mapUpdate 56 (.map (some bm)) (.string s) (.agg #[.pointer (some ⟨B, 0, none⟩)])).run Tryz.prog w = .ok () w' ∧ PpAt w' base P B0 bm (n + 1) h O (upd F s (some (B, L))) ∧ w.grownBy w' (some bm) ∧ ∀ k, k ≠ bm → w'.heap[k]? = w.heap[k]? := by
  obtain ⟨w', hr, h1, hg, hblk⟩ := H.2.1.put hn hk hl hB hf
  have hPb : P ≠ bm := fun e => by
    obtain ⟨⟨D, ⟨es, clock, hb, _⟩, _⟩, _⟩ := H.2.1
    rw [← e, H.1] at hb
    injection hb with hb
    cases hb
  refine ⟨w', hr, ⟨(hblk P hPb).trans H.1, h1, H.2.2.1.map_kept H.2.1 hblk hg.size, H.2.2.2.1, fun s' L' e => ?_, H.2.2.2.2.2⟩, hg, hblk⟩
  by_cases hs : s' = s
  · obtain rfl := hs
    rw [upd_same] at e
    injection e with e
    injection e with e1 e2
    exact hB0 e1
  · rw [upd_other hs] at e
    exact H.2.2.2.2.1 s' L' e
theorem status_name (H : PpAt w base P B0 bm n h O F) (hM : MaxL w) (c m : ByteArray) (f u : Int) (hc : c.size ≤ 500) (hm : m.size ≤ 500) (hr : rightP c m = false) : Calls Tryz.prog 12 #[.pointer (some ⟨P, 0, none⟩), .string c, .string m, .agg #[.int .i64 f, .int .i64 u]] w fun e w' => e = .returned (.int .i64 40) ∧ Below w.heap.size w w' := by
  have HB := Lib.hid (fun o => below_alloc w o)
  have HMade := Lib.hid (fun o => code_pmade (H.on (below_alloc w o)))
  have HR := Lib.hid (fun o => code_right c m (w.alloc o) (by omega) (by omega) (hM.below (below_alloc w o)))
  rw [hr] at HR
  clear H hM
  go_enter Tryz.func12, Tryz.ntmps12
  go_wp2_with (first | (go_at_call 24; refine (HMade.out _).mono ?_; rintro e w1 ⟨rfl, rfl⟩) | (go_at_call 30; refine (HR.out _).mono ?_; rintro e w1 ⟨rfl, hb⟩; have HBr := Lib.hid hb; clear hb))
  go_ret
  exact ⟨rfl, below_then (HB.out _) HBr.out⟩
set_option maxHeartbeats 2000000 in
theorem status_some (H : PpAt w base P B0 bm n h O F) (hM : MaxL w) (c m : ByteArray) (f u x : Int) (hc : c.size ≤ 500) (hm : m.size ≤ 500) (hr : rightP c m = true) (hn : n < maxLen) (E : Int) (hE : E = setE 256 (Ln F (c ++ m)) f u) (B : Nat) (L : List Sp) (hF : F (c ++ m) = some (B, L)) :
    Calls Tryz.prog 12 #[.pointer (some ⟨P, 0, none⟩), .string c, .string m, .agg #[.int .i64 f, .int .i64 u]] w fun e w' => e = .returned (.int .i64 E) ∧ Below base w w' ∧ (∀ k, k < w.heap.size → k ≠ bm → (∀ s L, F s ≠ some (k, L)) → w'.heap[k]? = w.heap[k]?) ∧ ∃ F', PpAt w' base P B0 bm (n + 1) h O F' ∧ Stp F (c ++ m) (f, u, x) F' := by
  have hk : okKey (c ++ m) := by unfold okKey; rw [ByteArray.size_append]; omega
  have hle : ¬ 9223372036854775807 < c.size + m.size := by omega
  obtain ⟨s, hs⟩ : ∃ s, s = c ++ m := ⟨_, rfl⟩
  have HSs := Lib.hid hs
  rw [← hs] at hk hE hF ⊢
  have HMade := Lib.hid (fun o => code_pmade (H.on (below_alloc w o)))
  have HR := Lib.hid (fun o => code_right c m (w.alloc o) (by omega) (by omega) (hM.below (below_alloc w o)))
  rw [hr] at HR
  obtain ⟨s0, s1, _, _⟩ := row2 (heap_alloc_new w (.cells #[.int .i64 f, .int .i64 u] 39))
  have HS := Lib.hid (And.intro (heap_alloc_new w (.cells #[.int .i64 f, .int .i64 u] 39)) (below_alloc w (.cells #[.int .i64 f, .int .i64 u] 39)))
  have HH := Lib.hid (And.intro H (And.intro hk hn))
  have HE := Lib.hid hE
  clear H hM hr hn hk hE s0 s1
  go_enter Tryz.func12, Tryz.ntmps12
  go_wp2_with (first | (go_at_call 24; refine (HMade.out _).mono ?_; rintro e w1 ⟨rfl, rfl⟩) | (go_at_call 30; refine (HR.out _).mono ?_; rintro e w1 ⟨rfl, hb⟩; have HB := Lib.hid hb; clear hb; refine Stop.out ?_))
  unfold Stop
  have hb1 : Below w.heap.size w w1 := below_then HS.out.2 HB.out
  have h1 := HH.out.1.on hb1
  obtain ⟨c0, c1, c2⟩ := row3a h1.1
  have hLk := h1.2.1.look HH.out.2.1 true
  rw [if_pos rfl] at hLk
  have hz1 : w.heap.size < w1.heap.size := by have := HB.out.size; rw [World.size_alloc] at this; omega
  have hn1 := fun o => heap_alloc_new w1 o
  have H1 := Lib.hid (And.intro h1 (And.intro hb1 hz1))
  have HSp : Hid (∀ V, Below w1.heap.size w1 V → V.heap[w.heap.size]? = some (.cells #[.int .i64 f, .int .i64 u] 39 (0, 0))) := Lib.hid (fun V hV => heap_on (below_then HB.out hV) HS.out.1)
  clear h1 hb1 HMade HR
  rw [hs] at hLk
  rw [← hs] at hLk
  rw [hF] at hLk
  have hLk2 : (Instr.lookup 56 (.map (some bm)) (.string (c ++ m)) true).run Tryz.prog w1 = .ok (.tuple #[.agg #[.pointer (some ⟨B, 0, none⟩)], .bool true]) w1 := by rw [← hs]; exact hLk
  have hL : Ln F s = L := by unfold Ln; rw [hF]
  have HOld : Hid (∀ k, k < w.heap.size → (∀ s L, F s ≠ some (k, L)) → k ≠ B) := Lib.hid (fun k _ hkf e => hkf s L (by rw [e]; exact hF))
  have hW : (PpAt (w1.alloc (.cells #[.pointer (some ⟨B, 0, none⟩)] 54)) base P B0 bm n h O F ∧ Lin (w1.alloc (.cells #[.pointer (some ⟨B, 0, none⟩)] 54)) B 256 L ∧ base ≤ B ∧ B ≠ B0 ∧ (F s = some (B, L) ∨ (∀ s' L', F s' ≠ some (B, L')))) ∧ (w1.alloc (.cells #[.pointer (some ⟨B, 0, none⟩)] 54)).heap[w1.heap.size]? = some (.cells #[.pointer (some ⟨B, 0, none⟩)] 54 (0, 0)) ∧ w1.heap.size ≠ B ∧ w.heap.size ≠ B ∧ Below w.heap.size w (w1.alloc (.cells #[.pointer (some ⟨B, 0, none⟩)] 54)) ∧ (w1.alloc (.cells #[.pointer (some ⟨B, 0, none⟩)] 54)).heap[w.heap.size]? = some (.cells #[.int .i64 f, .int .i64 u] 39 (0, 0)) := by
    have hb := below_alloc w1 (.cells #[.pointer (some ⟨B, 0, none⟩)] 54)
    have h2 := H1.out.1.on hb
    have hl := h2.2.1.2.1 _ _ _ hF
    have hlw := (HH.out.1.2.1.2.1 _ _ _ hF).1.lt
    exact ⟨⟨h2, hl.1, hl.2.1, fun e => h2.2.2.2.2.1 _ L (e ▸ hF), .inl hF⟩, hn1 _, by have := H1.out.2.2; omega, by omega, below_then H1.out.2.1 hb, HSp.out _ hb⟩
  clear hF hs
  rw [hL] at HE
  have HLn := Lib.hid hL
  have HW := Lib.hid hW
  have q0 := (one_cell hW.2.1).1
  obtain ⟨p0, p1, _, _⟩ := row2 hW.2.2.2.2.2
  clear hL hn1 hW hLk
  go_wp2_with (go_at_call 28; refine Stop.out ?_)
  unfold Stop
  generalize hwW : World.alloc w1 (.cells #[.pointer (some ⟨B, 0, none⟩)] 54) = W at HW p0 p1 q0 ⊢
  clear hwW
  have hST := code_hold W B L f u x HW.out.1.2.1
  rw [← HE.out] at hST
  have HST := Lib.hid hST
  clear hST p0 p1 q0
  by_cases hE0 : E = 0
  · subst hE0
    refine HST.out.mono ?_
    rintro e w3 ⟨rfl, h3, hc3⟩
    have H3 := Lib.hid (And.intro h3 hc3)
    clear h3 hc3
    obtain ⟨F3, h3, hor, hu, _⟩ := HW.out.1.1.after HW.out.1.2.1 H3.out.2 H3.out.1 HW.out.1.2.2.2.1 HW.out.1.2.2.2.2
    have hqb := H3.out.2.heap HW.out.2.1 HW.out.2.2.1
    have HB3 : Hid (Below base w w3) := Lib.hid ((HW.out.2.2.2.2.1.mono HH.out.1.baseLe).trans (H3.out.2.below (Nat.le_trans HH.out.1.baseLe HW.out.2.2.2.2.1.size) HW.out.1.2.2.1))
    have hd := h3.on (below_drew w3)
    have hqd := heap_on (below_drew w3) hqb
    obtain ⟨w4, hr4, hp, hg, hblk⟩ := hd.put HH.out.2.2 HH.out.2.1 (H3.out.1.on (below_drew w3)) HW.out.1.2.2.1 HW.out.1.2.2.2.1 hor
    rw [hu] at hp
    obtain ⟨d0, d1, d2⟩ := row3a hd.1
    have e0 := (one_cell hqd).1
    have hbmlt := HH.out.1.2.1.bmlt
    have hqne : w1.heap.size ≠ bm := by have := H1.out.2.2; omega
    have HKeep : Hid (w4.cell? ⟨P, 2, none⟩ = some (.map (some bm)) ∧ w4.cell? ⟨w1.heap.size, 0, none⟩ = some (.pointer (some ⟨B, 0, none⟩))) := Lib.hid ⟨(row3a hp.1).2.2, (one_cell ((hblk _ hqne).trans hqd)).1⟩
    have HF : Hid (Below base w w4 ∧ (∀ k, k < w.heap.size → k ≠ bm → (∀ s L, F s ≠ some (k, L)) → w4.heap[k]? = w.heap[k]?) ∧ ∃ F', PpAt w4 base P B0 bm (n + 1) h O F' ∧ Stp F s (f, u, x) F') := Lib.hid (by
      refine ⟨?_, fun k hk hkb hkf => (hblk k hkb).trans (((below_drew w3).block k (Nat.lt_of_lt_of_le hk (Nat.le_trans HW.out.2.2.2.2.1.size H3.out.2.size))).trans ((H3.out.2.block k (Nat.lt_of_lt_of_le hk HW.out.2.2.2.2.1.size) (HOld.out k hk hkf)).trans (HW.out.2.2.2.2.1.block k hk))), _, hp, .inr ⟨by rw [HLn.out]; exact HE.out.symm, B, by rw [HLn.out]⟩⟩
      have b1 := (below_drew w3).mono (Nat.le_trans HH.out.1.baseLe HB3.out.size)
      have b2 : Below base w3.drew w4 := ⟨hg.os, hg.tape, hg.output, hg.size, fun k hk => hblk k (by have := HH.out.1.2.1.2.2.2.1; omega)⟩
      exact (HB3.out.trans b1).trans b2)
    have hru : (Instr.mapUpdate 56 (.map (some bm)) (.string (c ++ m)) (.agg #[.pointer (some ⟨B, 0, none⟩)])).run Tryz.prog w3.drew = .ok () w4 := by
      rw [← HSs.out]; exact hr4
    clear hd hqd hp hg hblk h3 hor hu hqb hr4 c0 c1 c2 hLk2 d0 d1 hbmlt hqne
    go_wp2
    refine wp_region_held_drew (S := fun V => V.cell? ⟨P, 2, none⟩ = some (.map (some bm)) ∧ V.cell? ⟨w1.heap.size, 0, none⟩ = some (.pointer (some ⟨B, 0, none⟩))) (by kernel_rfl) ⟨d2, e0⟩ ?_
    intro hHeld
    clear d2 e0
    generalize w3.drew = wd at hHeld hru ⊢
    (refine takeH (i := 0) (v := ?_) rfl (by kernel_rfl) (by kernel_rfl) (by kernel_rfl) (fun _ _ _ h => h) (Or.inl ⟨by rfl, ?_⟩) (by assumption) ?_; rotate_left; (focus ((intro wS hSw); (try dsimp only at hSw); obtain ⟨s0, s1⟩ := hSw; go_simp; (try with_reducible rfl); done)); (try simp only [Act.put, List.setIfInBounds_toArray, List.set_cons_zero, List.set_cons_succ]))
    (refine takeH (i := 1) (v := ?_) rfl (by kernel_rfl) (by kernel_rfl) (by kernel_rfl) (fun _ _ _ h => h) (Or.inl ⟨by rfl, ?_⟩) (by assumption) ?_; rotate_left; (focus ((intro wS hSw); (try dsimp only at hSw); obtain ⟨s0, s1⟩ := hSw; go_simp; (try with_reducible rfl); done)); (try simp only [Act.put, List.setIfInBounds_toArray, List.set_cons_zero, List.set_cons_succ]))
    (refine takeH (i := 2) (v := ?_) rfl (by kernel_rfl) (by kernel_rfl) (by kernel_rfl) (fun _ _ _ h => h) (Or.inl ⟨by rfl, ?_⟩) (by assumption) ?_; rotate_left; (focus ((intro wS hSw); (try dsimp only at hSw); obtain ⟨s0, s1⟩ := hSw; go_simp; (try with_reducible rfl); done)); (try simp only [Act.put, List.setIfInBounds_toArray, List.set_cons_zero, List.set_cons_succ]))
    (refine takeH (i := 3) (v := ?_) rfl (by kernel_rfl) (by kernel_rfl) (by kernel_rfl) (fun _ _ _ h => h) (Or.inl ⟨by rfl, ?_⟩) (by assumption) ?_; rotate_left; (focus ((intro wS hSw); (try dsimp only at hSw); obtain ⟨s0, s1⟩ := hSw; go_simp; (try with_reducible rfl); done)); (try simp only [Act.put, List.setIfInBounds_toArray, List.set_cons_zero, List.set_cons_succ]))
    (refine takeH (i := 4) (v := ?_) rfl (by kernel_rfl) (by kernel_rfl) (by kernel_rfl) (fun _ _ _ h => h) (Or.inl ⟨by rfl, ?_⟩) (by assumption) ?_; rotate_left; (focus ((intro wS hSw); (try dsimp only at hSw); obtain ⟨s0, s1⟩ := hSw; go_simp; (try with_reducible rfl); done)); (try simp only [Act.put, List.setIfInBounds_toArray, List.set_cons_zero, List.set_cons_succ]))
    (refine takeH (i := 5) (v := ?_) rfl (by kernel_rfl) (by kernel_rfl) (by kernel_rfl) (fun _ _ _ h => h) (Or.inl ⟨by rfl, ?_⟩) (by assumption) ?_; rotate_left; (focus ((intro wS hSw); (try dsimp only at hSw); obtain ⟨s0, s1⟩ := hSw; go_simp; (try with_reducible rfl); done)); (try simp only [Act.put, List.setIfInBounds_toArray, List.set_cons_zero, List.set_cons_succ]))
    refine aloneH (i := 6) rfl (by kernel_rfl) (fun K hK => ?_)
    rw [if_pos (by rfl)]
    go_simp
    refine hK.out _ _ (HKeep.out) (fun hNew => ?_)
    clear hK K hHeld; (have hHeld := hNew); clear hNew; (try simp only [Act.put])
    refine wpAnyH_done (by kernel_rfl) ?_ _
    clear hHeld
    go_wp2
    go_ret
    exact ⟨rfl, HF.out⟩
  · have bE : (E == 0) = false := beq_false_of_ne hE0
    refine HST.out.mono ?_
    rintro e w3 ⟨rfl, h3, hc3⟩
    have H3 := Lib.hid (And.intro h3 hc3)
    clear h3 hc3 c0 c1 c2 hLk2
    go_wp2
    go_ret
    obtain ⟨F3, h3, _, _, hu⟩ := HW.out.1.1.after HW.out.1.2.1 H3.out.2 H3.out.1 HW.out.1.2.2.2.1 HW.out.1.2.2.2.2
    have hne : setE 256 L f u ≠ 0 := by rw [← HE.out]; exact hE0
    have e3 : F3 = F := hu (setL_no hne)
    subst e3
    exact ⟨rfl, (HW.out.2.2.2.2.1.mono HH.out.1.baseLe).trans (H3.out.2.below (Nat.le_trans HH.out.1.baseLe HW.out.2.2.2.2.1.size) HW.out.1.2.2.1), fun k hk hkb hkf => (H3.out.2.block k (Nat.lt_of_lt_of_le hk HW.out.2.2.2.2.1.size) (HOld.out k hk hkf)).trans (HW.out.2.2.2.2.1.block k hk), F3, h3.mono (by omega), .inl ⟨by rw [HLn.out]; exact hne, rfl⟩⟩
set_option maxHeartbeats 2000000 in
theorem status_none (H : PpAt w base P B0 bm n h O F) (hM : MaxL w) (c m : ByteArray) (f u x : Int) (hc : c.size ≤ 500) (hm : m.size ≤ 500) (hr : rightP c m = true) (hn : n < maxLen) (E : Int) (hE : E = setE 256 (Ln F (c ++ m)) f u) (hF : F (c ++ m) = none) :
    Calls Tryz.prog 12 #[.pointer (some ⟨P, 0, none⟩), .string c, .string m, .agg #[.int .i64 f, .int .i64 u]] w fun e w' => e = .returned (.int .i64 E) ∧ Below base w w' ∧ (∀ k, k < w.heap.size → k ≠ bm → (∀ s L, F s ≠ some (k, L)) → w'.heap[k]? = w.heap[k]?) ∧ ∃ F', PpAt w' base P B0 bm (n + 1) h O F' ∧ Stp F (c ++ m) (f, u, x) F' := by
  have hk : okKey (c ++ m) := by unfold okKey; rw [ByteArray.size_append]; omega
  have hle : ¬ 9223372036854775807 < c.size + m.size := by omega
  obtain ⟨s, hs⟩ : ∃ s, s = c ++ m := ⟨_, rfl⟩
  have HSs := Lib.hid hs
  rw [← hs] at hk hE hF ⊢
  have HMade := Lib.hid (fun o => code_pmade (H.on (below_alloc w o)))
  have HR := Lib.hid (fun o => code_right c m (w.alloc o) (by omega) (by omega) (hM.below (below_alloc w o)))
  rw [hr] at HR
  obtain ⟨s0, s1, _, _⟩ := row2 (heap_alloc_new w (.cells #[.int .i64 f, .int .i64 u] 39))
  have HS := Lib.hid (And.intro (heap_alloc_new w (.cells #[.int .i64 f, .int .i64 u] 39)) (below_alloc w (.cells #[.int .i64 f, .int .i64 u] 39)))
  have HH := Lib.hid (And.intro H (And.intro hk hn))
  have HE := Lib.hid hE
  clear H hM hr hn hk hE s0 s1
  go_enter Tryz.func12, Tryz.ntmps12
  go_wp2_with (first | (go_at_call 24; refine (HMade.out _).mono ?_; rintro e w1 ⟨rfl, rfl⟩) | (go_at_call 30; refine (HR.out _).mono ?_; rintro e w1 ⟨rfl, hb⟩; have HB := Lib.hid hb; clear hb; refine Stop.out ?_))
  unfold Stop
  have hb1 : Below w.heap.size w w1 := below_then HS.out.2 HB.out
  have h1 := HH.out.1.on hb1
  obtain ⟨c0, c1, c2⟩ := row3a h1.1
  have hLk := h1.2.1.look HH.out.2.1 true
  rw [if_pos rfl] at hLk
  have hz1 : w.heap.size < w1.heap.size := by have := HB.out.size; rw [World.size_alloc] at this; omega
  have hn1 := fun o => heap_alloc_new w1 o
  have H1 := Lib.hid (And.intro h1 (And.intro hb1 hz1))
  have HSp : Hid (∀ V, Below w1.heap.size w1 V → V.heap[w.heap.size]? = some (.cells #[.int .i64 f, .int .i64 u] 39 (0, 0))) := Lib.hid (fun V hV => heap_on (below_then HB.out hV) HS.out.1)
  clear h1 hb1 HMade HR
  rw [hs] at hLk
  rw [← hs] at hLk
  rw [hF] at hLk
  have hLk2 : (Instr.lookup 56 (.map (some bm)) (.string (c ++ m)) true).run Tryz.prog w1 = .ok (.tuple #[.agg #[.pointer none], .bool false]) w1 := by rw [← hs]; exact hLk
  have hL : Ln F s = [] := by unfold Ln; rw [hF]
  have HNl := Lib.hid (code_newLine (w1.alloc (.cells #[.pointer none] 54)))
  have HFn := Lib.hid hF
  clear hF hs hLk
  go_wp2_with (go_at_call 22; refine HNl.out.mono ?_; rintro e w2 ⟨B, rfl, g1, g2, g3⟩; have HG := Lib.hid (And.intro g1 (And.intro g2 g3)); obtain ⟨k0, z0⟩ := one_cell (heap_on g2 (hn1 (.cells #[.pointer none] 54))); clear g1 g2 g3; refine Stop.out ?_)
  unfold Stop
  obtain ⟨W, hWe⟩ : ∃ W, W = w2.setCell ⟨w1.heap.size, 0, none⟩ (.pointer (some ⟨B, 0, none⟩)) := ⟨_, rfl⟩
  have hW : (PpAt W base P B0 bm n h O F ∧ Lin W B 256 [] ∧ base ≤ B ∧ B ≠ B0 ∧ (F s = some (B, []) ∨ (∀ s' L', F s' ≠ some (B, L')))) ∧ W.heap[w1.heap.size]? = some (.cells #[.pointer (some ⟨B, 0, none⟩)] 54 (0, 0)) ∧ w1.heap.size ≠ B ∧ w.heap.size ≠ B ∧ Below w.heap.size w W ∧ W.heap[w.heap.size]? = some (.cells #[.int .i64 f, .int .i64 u] 39 (0, 0)) := by
    have hb : Below w1.heap.size w1 w2 := below_then (below_alloc w1 (.cells #[.pointer none] 54)) HG.out.2.1
    have hbW : Below w1.heap.size w1 W := by rw [hWe]; exact hb.setCell (p := ⟨w1.heap.size, 0, none⟩) (by simp) _
    have h2 := H1.out.1.on hbW
    have hB := HG.out.2.2
    rw [World.size_alloc] at hB
    have hlB0 := H1.out.1.2.2.1.lt
    have hbs := HH.out.1.baseLe
    have hlin : Lin W B 256 [] := by
      obtain ⟨A, cc, g0, g1, g2⟩ := HG.out.1
      rw [hWe]
      exact ⟨A, cc, (heap_setCell_other _ _ _ _ (by simp; omega)).trans g0, fun hnn => absurd rfl hnn, g2⟩
    refine ⟨⟨h2, hlin, by have := H1.out.2.2; omega, by omega, .inr fun s' L' e => ?_⟩, ?_, by omega, by have := H1.out.2.2; omega, below_then H1.out.2.1 hbW, HSp.out _ hbW⟩
    · have := (H1.out.1.2.1.2.1 _ _ _ e).1.lt
      omega
    · rw [hWe]
      exact heap_setCell_same w2 w1.heap.size 0 _ _ _ (heap_on HG.out.2.1 (hn1 _))
  obtain ⟨L, hLe⟩ : ∃ L : List Sp, L = [] := ⟨_, rfl⟩
  rw [← hLe] at hL hW
  rw [hL] at HE
  have HLn := Lib.hid hL
  have HW := Lib.hid hW
  have HOld : Hid (∀ k, k < w.heap.size → (∀ s L, F s ≠ some (k, L)) → k ≠ B) := Lib.hid (fun k hk _ e => by
    have h1 := HG.out.2.2
    have h2 := H1.out.2.2
    rw [World.size_alloc] at h1
    omega)
  have q0 := (one_cell hW.2.1).1
  obtain ⟨p0, p1, _, _⟩ := row2 hW.2.2.2.2.2
  clear hL hW hLe
  rw [hWe] at p0 p1 q0
  go_wp2_with (go_at_call 28; refine Stop.out ?_)
  unfold Stop
  rw [← hWe] at p0 p1 q0
  rw [← hWe]
  clear hWe k0 z0 hn1
  have hST := code_hold W B L f u x HW.out.1.2.1
  rw [← HE.out] at hST
  have HST := Lib.hid hST
  clear hST p0 p1 q0
  by_cases hE0 : E = 0
  · subst hE0
    refine HST.out.mono ?_
    rintro e w3 ⟨rfl, h3, hc3⟩
    have H3 := Lib.hid (And.intro h3 hc3)
    clear h3 hc3
    obtain ⟨F3, h3, hor, hu, _⟩ := HW.out.1.1.after HW.out.1.2.1 H3.out.2 H3.out.1 HW.out.1.2.2.2.1 HW.out.1.2.2.2.2
    have hqb := H3.out.2.heap HW.out.2.1 HW.out.2.2.1
    have HB3 : Hid (Below base w w3) := Lib.hid ((HW.out.2.2.2.2.1.mono HH.out.1.baseLe).trans (H3.out.2.below (Nat.le_trans HH.out.1.baseLe HW.out.2.2.2.2.1.size) HW.out.1.2.2.1))
    have hd := h3.on (below_drew w3)
    have hqd := heap_on (below_drew w3) hqb
    obtain ⟨w4, hr4, hp, hg, hblk⟩ := hd.put HH.out.2.2 HH.out.2.1 (H3.out.1.on (below_drew w3)) HW.out.1.2.2.1 HW.out.1.2.2.2.1 hor
    rw [hu] at hp
    obtain ⟨d0, d1, d2⟩ := row3a hd.1
    have e0 := (one_cell hqd).1
    have hbmlt := HH.out.1.2.1.bmlt
    have hqne : w1.heap.size ≠ bm := by have := H1.out.2.2; omega
    have HKeep : Hid (w4.cell? ⟨P, 2, none⟩ = some (.map (some bm)) ∧ w4.cell? ⟨w1.heap.size, 0, none⟩ = some (.pointer (some ⟨B, 0, none⟩))) := Lib.hid ⟨(row3a hp.1).2.2, (one_cell ((hblk _ hqne).trans hqd)).1⟩
    have HF : Hid (Below base w w4 ∧ (∀ k, k < w.heap.size → k ≠ bm → (∀ s L, F s ≠ some (k, L)) → w4.heap[k]? = w.heap[k]?) ∧ ∃ F', PpAt w4 base P B0 bm (n + 1) h O F' ∧ Stp F s (f, u, x) F') := Lib.hid (by
      refine ⟨?_, fun k hk hkb hkf => (hblk k hkb).trans (((below_drew w3).block k (Nat.lt_of_lt_of_le hk (Nat.le_trans HW.out.2.2.2.2.1.size H3.out.2.size))).trans ((H3.out.2.block k (Nat.lt_of_lt_of_le hk HW.out.2.2.2.2.1.size) (HOld.out k hk hkf)).trans (HW.out.2.2.2.2.1.block k hk))), _, hp, .inr ⟨by rw [HLn.out]; exact HE.out.symm, B, by rw [HLn.out]⟩⟩
      have b1 := (below_drew w3).mono (Nat.le_trans HH.out.1.baseLe HB3.out.size)
      have b2 : Below base w3.drew w4 := ⟨hg.os, hg.tape, hg.output, hg.size, fun k hk => hblk k (by have := HH.out.1.2.1.2.2.2.1; omega)⟩
      exact (HB3.out.trans b1).trans b2)
    have hru : (Instr.mapUpdate 56 (.map (some bm)) (.string (c ++ m)) (.agg #[.pointer (some ⟨B, 0, none⟩)])).run Tryz.prog w3.drew = .ok () w4 := by
      rw [← HSs.out]; exact hr4
    clear hd hqd hp hg hblk h3 hor hu hqb hr4 c0 c1 c2 hLk2 d0 d1 hbmlt hqne
    go_wp2
    refine wp_region_held_drew (S := fun V => V.cell? ⟨P, 2, none⟩ = some (.map (some bm)) ∧ V.cell? ⟨w1.heap.size, 0, none⟩ = some (.pointer (some ⟨B, 0, none⟩))) (by kernel_rfl) ⟨d2, e0⟩ ?_
    intro hHeld
    clear d2 e0
    generalize w3.drew = wd at hHeld hru ⊢
    (refine takeH (i := 0) (v := ?_) rfl (by kernel_rfl) (by kernel_rfl) (by kernel_rfl) (fun _ _ _ h => h) (Or.inl ⟨by rfl, ?_⟩) (by assumption) ?_; rotate_left; (focus ((intro wS hSw); (try dsimp only at hSw); obtain ⟨s0, s1⟩ := hSw; go_simp; (try with_reducible rfl); done)); (try simp only [Act.put, List.setIfInBounds_toArray, List.set_cons_zero, List.set_cons_succ]))
    (refine takeH (i := 1) (v := ?_) rfl (by kernel_rfl) (by kernel_rfl) (by kernel_rfl) (fun _ _ _ h => h) (Or.inl ⟨by rfl, ?_⟩) (by assumption) ?_; rotate_left; (focus ((intro wS hSw); (try dsimp only at hSw); obtain ⟨s0, s1⟩ := hSw; go_simp; (try with_reducible rfl); done)); (try simp only [Act.put, List.setIfInBounds_toArray, List.set_cons_zero, List.set_cons_succ]))
    (refine takeH (i := 2) (v := ?_) rfl (by kernel_rfl) (by kernel_rfl) (by kernel_rfl) (fun _ _ _ h => h) (Or.inl ⟨by rfl, ?_⟩) (by assumption) ?_; rotate_left; (focus ((intro wS hSw); (try dsimp only at hSw); obtain ⟨s0, s1⟩ := hSw; go_simp; (try with_reducible rfl); done)); (try simp only [Act.put, List.setIfInBounds_toArray, List.set_cons_zero, List.set_cons_succ]))
    (refine takeH (i := 3) (v := ?_) rfl (by kernel_rfl) (by kernel_rfl) (by kernel_rfl) (fun _ _ _ h => h) (Or.inl ⟨by rfl, ?_⟩) (by assumption) ?_; rotate_left; (focus ((intro wS hSw); (try dsimp only at hSw); obtain ⟨s0, s1⟩ := hSw; go_simp; (try with_reducible rfl); done)); (try simp only [Act.put, List.setIfInBounds_toArray, List.set_cons_zero, List.set_cons_succ]))
    (refine takeH (i := 4) (v := ?_) rfl (by kernel_rfl) (by kernel_rfl) (by kernel_rfl) (fun _ _ _ h => h) (Or.inl ⟨by rfl, ?_⟩) (by assumption) ?_; rotate_left; (focus ((intro wS hSw); (try dsimp only at hSw); obtain ⟨s0, s1⟩ := hSw; go_simp; (try with_reducible rfl); done)); (try simp only [Act.put, List.setIfInBounds_toArray, List.set_cons_zero, List.set_cons_succ]))
    (refine takeH (i := 5) (v := ?_) rfl (by kernel_rfl) (by kernel_rfl) (by kernel_rfl) (fun _ _ _ h => h) (Or.inl ⟨by rfl, ?_⟩) (by assumption) ?_; rotate_left; (focus ((intro wS hSw); (try dsimp only at hSw); obtain ⟨s0, s1⟩ := hSw; go_simp; (try with_reducible rfl); done)); (try simp only [Act.put, List.setIfInBounds_toArray, List.set_cons_zero, List.set_cons_succ]))
    refine aloneH (i := 6) rfl (by kernel_rfl) (fun K hK => ?_)
    rw [if_pos (by rfl)]
    go_simp
    refine hK.out _ _ (HKeep.out) (fun hNew => ?_)
    clear hK K hHeld; (have hHeld := hNew); clear hNew; (try simp only [Act.put])
    refine wpAnyH_done (by kernel_rfl) ?_ _
    clear hHeld
    go_wp2
    go_ret
    exact ⟨rfl, HF.out⟩
  · have bE : (E == 0) = false := beq_false_of_ne hE0
    refine HST.out.mono ?_
    rintro e w3 ⟨rfl, h3, hc3⟩
    have H3 := Lib.hid (And.intro h3 hc3)
    clear h3 hc3 c0 c1 c2 hLk2
    go_wp2
    go_ret
    obtain ⟨F3, h3, _, _, hu⟩ := HW.out.1.1.after HW.out.1.2.1 H3.out.2 H3.out.1 HW.out.1.2.2.2.1 HW.out.1.2.2.2.2
    have hne : setE 256 L f u ≠ 0 := by rw [← HE.out]; exact hE0
    have e3 : F3 = F := hu (setL_no hne)
    subst e3
    exact ⟨rfl, (HW.out.2.2.2.2.1.mono HH.out.1.baseLe).trans (H3.out.2.below (Nat.le_trans HH.out.1.baseLe HW.out.2.2.2.2.1.size) HW.out.1.2.2.1), fun k hk hkb hkf => (H3.out.2.block k (Nat.lt_of_lt_of_le hk HW.out.2.2.2.2.1.size) (HOld.out k hk hkf)).trans (HW.out.2.2.2.2.1.block k hk), F3, h3.mono (by omega), .inl ⟨by rw [HLn.out]; exact hne, rfl⟩⟩
theorem code_status_k (H : PpAt w base P B0 bm n h O F) (hM : MaxL w) (c m : ByteArray) (f u x : Int) (hc : c.size ≤ 500) (hm : m.size ≤ 500) (hr : rightP c m = true) (hn : n < maxLen) :
    Calls Tryz.prog 12 #[.pointer (some ⟨P, 0, none⟩), .string c, .string m, .agg #[.int .i64 f, .int .i64 u]] w fun e w' => e = .returned (.int .i64 (setE 256 (Ln F (c ++ m)) f u)) ∧ Below base w w' ∧ (∀ k, k < w.heap.size → k ≠ bm → (∀ s L, F s ≠ some (k, L)) → w'.heap[k]? = w.heap[k]?) ∧ ∃ F', PpAt w' base P B0 bm (n + 1) h O F' ∧ Stp F (c ++ m) (f, u, x) F' := by
  cases hF : F (c ++ m) with
  | none => exact status_none H hM c m f u x hc hm hr hn _ rfl hF
  | some y => exact status_some H hM c m f u x hc hm hr hn _ rfl y.1 y.2 hF
theorem code_status (H : PpAt w base P B0 bm n h O F) (hM : MaxL w) (c m : ByteArray) (f u x : Int) (hc : c.size ≤ 500) (hm : m.size ≤ 500) (hr : rightP c m = true) (hn : n < maxLen) :
    Calls Tryz.prog 12 #[.pointer (some ⟨P, 0, none⟩), .string c, .string m, .agg #[.int .i64 f, .int .i64 u]] w fun e w' => e = .returned (.int .i64 (setE 256 (Ln F (c ++ m)) f u)) ∧ Below base w w' ∧ ∃ F', PpAt w' base P B0 bm (n + 1) h O F' ∧ Stp F (c ++ m) (f, u, x) F' :=
  (code_status_k H hM c m f u x hc hm hr hn).mono fun _ _ ⟨a, b, _, d⟩ => ⟨a, b, d⟩
end
end Go.Proofs.YtgljajoknmgoeaaGreat
