/- Each at a leaf: the predicate that tells whether an expression may be. Whether a leaf may be. -/
import Derived.Test.YtpapcnogbmjpjaaGreatDoorK20
namespace Go.Proofs.YtpapcnogbmjpjaaGreatDoor
open Go.RowKit
set_option maxRecDepth 100000
set_option linter.unusedSimpArgs false
set_option linter.unusedVariables false
attribute [local go_sem] Oper.semAt_some

set_option maxHeartbeats 2000000 in
theorem each2_stands (Is Ka Fa m R : Nat) (Oa : Nat) (tI tK tF : TypeId) (t0 t1 : Int) (t2 : ByteArray) (fA : Option Addr) (fn fc : Nat) (w : World) (Q : World → Prop)
    (hIs : ∀ W, Below w.heap.size w W → Calls Tryz.prog 67 #[.agg #[.int .i64 t0, .int .i64 t1, .string t2, .slice fA fn fc, .slice none 0 0]] W fun e w' => e = .returned (.bool true) ∧ Chg R W w' ∧ Q w') (hQ : ∀ a b, Q a → a.heap[m]? = some (.map #[] 0) → Chg m a b → Q b) (hR : R ≠ w.heap.size) (hKR : Ka ≠ R) (hFR : Fa ≠ R) (hmR : m ≠ R)
    (hI : w.heap[Is]? = some (.cells #[.func (.func 67) #[] #[]] tI (0, 0))) (hK : w.heap[Ka]? = some (.cells #[.map (some m)] tK (0, 0))) (hF : w.heap[Fa]? = some (.cells #[.func (.func 89) #[] #[.pointer (some ⟨Oa, 0, none⟩)]] tF (0, 0))) (hM : MapAt w m []) :
    Calls Tryz.prog 90 #[.agg #[.int .i64 t0, .int .i64 t1, .string t2, .slice fA fn fc, .slice none 0 0], .pointer (some ⟨Is, 0, none⟩), .pointer (some ⟨Ka, 0, none⟩), .pointer (some ⟨Fa, 0, none⟩)] w fun e w' => e = .returned (.bool true) ∧ Chg2 R m w w' ∧ Q w' := by
  have HLo := Lib.hid (fun W => code_listOf 0 0 [] (Nat.zero_le _) W)
  have HIs := Lib.hid (fun W hW => hIs W hW)
  have H0 := Lib.hid (heap_alloc_new w (.cells #[.int .i64 t0, .int .i64 t1, .string t2, .slice fA fn fc, .slice none 0 0] 32))
  have HB0 := Lib.hid (below_alloc w (.cells #[.int .i64 t0, .int .i64 t1, .string t2, .slice fA fn fc, .slice none 0 0] 32))
  have HI := Lib.hid hI
  have HK := Lib.hid hK
  have HF := Lib.hid hF
  have HM := Lib.hid hM
  have HKR := Lib.hid hKR
  have HFR := Lib.hid hFR
  have HmR := Lib.hid hmR
  have HRl := Lib.hid hR
  have HQ := Lib.hid hQ
  have hw1 : IntKind.i64.wrap 1 = 1 := by first | rfl | decide
  have hnot : ∀ (x : Bool) (w : World), (Op.unary .not (.bool x)).run Tryz.prog w = .ok (.bool (!x)) w := fun _ _ => rfl
  obtain ⟨i0, _⟩ := one_cell (heap_on HB0.out HI.out)
  clear hIs hI hK hF hM hQ hR hKR hFR hmR
  go_enter Tryz.func90, Tryz.ntmps90
  go_wp2_with (go_at_call 67; refine (HIs.out _ HB0.out).mono ?_; rintro e w2 ⟨rfl, hb, hq⟩; refine Stop.out ?_)
  unfold Stop
  have HR2 : Hid (Chg R w w2) := Lib.hid (Chg.trans (Chg.of HB0.out) hb)
  have H2 := Lib.hid ((hb.heap (heapLt H0.out) (fun e => HRl.out e.symm)).trans H0.out)
  obtain ⟨g, hg⟩ : ∃ g, g = w.heap.size := ⟨_, rfl⟩
  have HGs := Lib.hid hg
  rw [← hg] at H2 ⊢
  clear hg hb i0 H0 HB0
  have HK2 := Lib.hid ((HR2.out.heap (heapLt HK.out) HKR.out).trans HK.out)
  have HF2 := Lib.hid ((HR2.out.heap (heapLt HF.out) HFR.out).trans HF.out)
  have HM2 : Hid (MapAt w2 m []) := Lib.hid ⟨(HR2.out.heap (heapLt HM.out.1) HmR.out).trans HM.out.1, fun p hp => by cases hp⟩
  have HQ2 := Lib.hid (And.intro hq (And.intro (show w2.heap[m]? = some (.map #[] 0) from HM2.out.1) HQ.out))
  clear hq HK HF HM HKR HFR HmR
  obtain ⟨e0, e1, e2, e3, e4⟩ := row5c H2.out
  go_wp2_with (go_at_call 88; refine (HLo.out _).mono ?_; rintro e w3 ⟨rfl, hb⟩; refine Stop.out ?_)
  unfold Stop
  have HB3 := Lib.hid hb
  have H3 := Lib.hid (heap_on hb H2.out)
  clear e0 e1 e2 e3 e4 hb H2
  have HN := Lib.hid (heap_alloc_new w3 (.cells #[.pointer none, .int .i64 0] 122))
  have HBF := Lib.hid (box_row w3 #[.pointer none, .int .i64 0] #[.pointer none, .int .i64 0] 122 rfl)
  have hkv : kV (keyOf 0 []) = .agg #[.pointer none, .int .i64 0] := rfl
  rw [hkv]
  clear hkv
  go_wp2_with ((with_reducible refine wpList_store_row (o := ⟨none, _, _, _, _, _⟩) 122 ?b0 (.tmp 6) (.tmp 13) ?b1 w3.heap.size ?b2 [.pointer none, .int .i64 0] ?b3 ?b4 ?b5 #[.pointer none, .int .i64 0] ?b6 122 ?b7 ?_); (case b0 => rfl); (case b1 => rfl); (case b2 => rfl); (case b3 => exact list_info); (case b4 => simp [Value.oneCell']); (case b5 => rfl); (case b6 => rfl); (case b7 => exact HN.out); (try simp only [Act.put]); refine Stop.out ?_)
  unfold Stop
  clear HN
  generalize World.setRow _ _ _ = w4 at HBF ⊢
  have HB4 := Lib.hid (below_then HB3.out HBF.out.1)
  have H4 := Lib.hid (heap_on HBF.out.1 H3.out)
  obtain ⟨gl, hgl⟩ : ∃ g, g = w3.heap.size := ⟨_, rfl⟩
  have HGl := Lib.hid hgl
  rw [← hgl] at HBF ⊢
  clear hgl H3 HB3
  go_wp2
  have HM0 := Lib.hid (HM2.out.on (below_then HB4.out (below_drew w4)))
  refine wp_region_held_drew (S := fun V : World => V.heap[Ka]? = some (.cells #[.map (some m)] tK (0, 0)) ∧ V.heap[gl]? = some (.cells #[.pointer none, .int .i64 0] 122 (0, 0))) (by kernel_rfl) ⟨heap_on (below_then HB4.out (below_drew w4)) HK2.out, heap_on (below_drew w4) HBF.out.2⟩ ?_
  intro hHeld
  have HW := Lib.hid (Chg.of (R := m) (below_then HB4.out (below_drew w4)))
  have HFd := Lib.hid (heap_on (below_then HB4.out (below_drew w4)) HF2.out)
  have HKm : Hid (Ka ≠ m) := Lib.hid (fun e => HM2.out.not _ _ (e ▸ HK2.out))
  have HLm : Hid (gl ≠ m) := Lib.hid (fun e => HM0.out.not _ _ (e ▸ hHeld.2))
  have HL4 := Lib.hid (heap_on (below_drew w4) H4.out)
  have HFm : Hid (Fa ≠ m) := Lib.hid (fun e => HM2.out.not _ _ (e ▸ HF2.out))
  have Hgm : Hid (g ≠ m) := Lib.hid (fun e => HM0.out.not _ _ (e ▸ HL4.out))
  have HC0 := Lib.hid (Chg.refl m w4.drew)
  clear H4 HBF HB4 HGl
  generalize w4.drew = wd at hHeld HC0 HM0 HL4 HW HFd ⊢
  (refine takeH (i := 0) (v := ?_) rfl (by kernel_rfl) (by kernel_rfl) (by kernel_rfl) (fun _ _ _ h => h) (Or.inl ⟨by rfl, ?_⟩) (by assumption) ?_; rotate_left; (focus ((intro wS hSw); (try dsimp only at hSw); obtain ⟨s0, _⟩ := one_cell hSw.1; go_simp; (try with_reducible rfl); done)); (try simp only [Act.put, List.setIfInBounds_toArray, List.set_cons_zero, List.set_cons_succ]))
  (refine takeH (i := 1) (v := (.agg #[.pointer none, .int .i64 0])) rfl (by kernel_rfl) (by kernel_rfl) (by kernel_rfl) (fun _ _ _ h => h) (yieldsIf_load_rowE (by rfl) 122 (.tmp 6) rfl gl rfl 122 #[.pointer none, .int .i64 0] (0, 0) _ (fun W h => h.2) Tryz.underlying122 rfl list_info) (by assumption) ?_; (try simp only [Act.put, List.setIfInBounds_toArray, List.set_cons_zero, List.set_cons_succ]))
  refine twoH (i := 2) (i2 := 4) rfl rfl (by kernel_rfl) (fun K hK => ?_) (fun K hK => ?_)
  · rw [if_pos (by rfl)]
    have hlk : (Instr.lookup 117 (.map (some m)) (.agg #[.pointer none, .int .i64 0]) false).run Tryz.prog wd = .ok (.int .i64 0) wd := run_look1 wd m ((none, 0) : Key) (PlainK.nil _) [] HM0.out
    go_simp
    refine hK.out _ _ (hHeld) (fun hNew => ?_)
    clear hK K hHeld; (have hHeld := hNew); clear hNew; (try simp only [Act.put, List.setIfInBounds_toArray, List.set_cons_zero, List.set_cons_succ])
    (refine takeH (i := 3) (v := ?_) rfl (by kernel_rfl) (by kernel_rfl) (by kernel_rfl) (fun _ _ _ h => h) (Or.inl ⟨by rfl, ?_⟩) (by assumption) ?_; rotate_left; (focus ((intro wS hSw); (try dsimp only at hSw); obtain ⟨s0, _⟩ := one_cell hSw.1; go_simp; (try with_reducible rfl); done)); (try simp only [Act.put, List.setIfInBounds_toArray, List.set_cons_zero, List.set_cons_succ]))
    refine aloneH (i := 4) rfl (by kernel_rfl) (fun K hK => ?_)
    rw [if_pos (by rfl)]
    have hen : (Instr.mapEntry 117 (.map (some m)) (.agg #[.pointer none, .int .i64 0])).run Tryz.prog wd = .ok (.tuple #[.int .i64 0, .int .i64 0]) (putW wd m [(((none, 0) : Key), 0)]) := run_entry wd m ((none, 0) : Key) (PlainK.nil _) [] HM0.out
    have hk1 := ((putW_chg wd m [(((none, 0) : Key), 0)]).heap (heapLt hHeld.1) HKm.out).trans hHeld.1
    have hk2 := ((putW_chg wd m [(((none, 0) : Key), 0)]).heap (heapLt hHeld.2) HLm.out).trans hHeld.2
    have HM2 : Hid (MapAt (putW wd m [(((none, 0) : Key), 0)]) m [(((none, 0) : Key), 0)]) := Lib.hid (HM0.out.put (PlainK.nil _) 0)
    have HC2 := Lib.hid (Chg.trans HC0.out (putW_chg wd m [(((none, 0) : Key), 0)]))
    go_simp
    clear hen
    generalize putW wd m [(((none, 0) : Key), 0)] = w2 at hk1 hk2 HM2 HC2 ⊢
    refine hK.out _ _ (⟨hk1, hk2⟩) (fun hNew => ?_)
    clear hK K hHeld; (have hHeld := hNew); clear hNew; (try simp only [Act.put, List.setIfInBounds_toArray, List.set_cons_zero, List.set_cons_succ])
    (refine takeH (i := 5) (v := ?_) rfl (by kernel_rfl) (by kernel_rfl) (by kernel_rfl) (fun _ _ _ h => h) (Or.inl ⟨by rfl, ?_⟩) (by assumption) ?_; rotate_left; (focus ((intro wS hSw); (try dsimp only at hSw); obtain ⟨s0, _⟩ := one_cell hSw.1; go_simp; (try with_reducible rfl); done)); (try simp only [Act.put, List.setIfInBounds_toArray, List.set_cons_zero, List.set_cons_succ]))
    refine aloneH (i := 6) rfl (by kernel_rfl) (fun K hK => ?_)
    rw [if_pos (by rfl)]
    have hen : (Instr.entryStore 117 (.map (some m)) (.int .i64 0) (.int .i64 1)).run Tryz.prog w2 = .ok () (putW w2 m [(((none, 0) : Key), 1)]) := run_store w2 m ((none, 0) : Key) 1 [(((none, 0) : Key), 0)] HM2.out 0 0 rfl
    have hk1 := ((putW_chg w2 m [(((none, 0) : Key), 1)]).heap (heapLt hHeld.1) HKm.out).trans hHeld.1
    have hk2 := ((putW_chg w2 m [(((none, 0) : Key), 1)]).heap (heapLt hHeld.2) HLm.out).trans hHeld.2
    have HM3 : Hid (MapAt (putW w2 m [(((none, 0) : Key), 1)]) m [(((none, 0) : Key), 1)]) := Lib.hid (HM2.out.put (PlainK.nil _) 1)
    have HC3 := Lib.hid (Chg.trans HC2.out (putW_chg w2 m [(((none, 0) : Key), 1)]))
    go_simp
    clear hen
    generalize putW w2 m [(((none, 0) : Key), 1)] = w3 at hk1 hk2 HM3 HC3 ⊢
    refine hK.out _ _ (⟨hk1, hk2⟩) (fun hNew => ?_)
    clear hK K hHeld; (have hHeld := hNew); clear hNew; (try simp only [Act.put])
    refine wpAnyH_done (by kernel_rfl) ?_ _
    have hMf : (Instr.lookup 117 (.map (some m)) (.agg #[.pointer none, .int .i64 0]) false).run Tryz.prog w3 = .ok (.int .i64 1) w3 := run_look1 w3 m ((none, 0) : Key) (PlainK.nil _) [(((none, 0) : Key), 1)] HM3.out
    obtain ⟨k0, _⟩ := one_cell hHeld.1
    obtain ⟨l0, l1⟩ := row2c hHeld.2
    have HCl := Lib.hid HC3.out
    obtain ⟨f0, _⟩ := one_cell ((HCl.out.heap (heapLt HFd.out) HFm.out).trans HFd.out)
    obtain ⟨e0, e1, e2, e3, e4⟩ := row5c ((HCl.out.heap (heapLt HL4.out) Hgm.out).trans HL4.out)
    go_wp2_with (go_at_call 91; refine (code_none_nil _ _).mono ?_; rintro e wz ⟨rfl, hb⟩; refine Stop.out ?_)
    unfold Stop
    have HQz := Lib.hid (HQ2.out.2.2 _ _ (HQ2.out.1) HQ2.out.2.1 (Chg.trans HW.out (Chg.trans HCl.out (Chg.of (R := m) hb))))
    have HCz := Lib.hid (HR2.out.and (Chg.trans HW.out (Chg.trans HCl.out (Chg.of (R := m) hb))))
    clear k0 l0 l1 f0 e0 e1 e2 e3 e4 hHeld hMf hb
    go_wp2
    go_ret
    exact ⟨rfl, HCz.out, HQz.out⟩
  · rw [if_pos (by rfl)]
    have hen : (Instr.mapEntry 117 (.map (some m)) (.agg #[.pointer none, .int .i64 0])).run Tryz.prog wd = .ok (.tuple #[.int .i64 0, .int .i64 0]) (putW wd m [(((none, 0) : Key), 0)]) := run_entry wd m ((none, 0) : Key) (PlainK.nil _) [] HM0.out
    have hk1 := ((putW_chg wd m [(((none, 0) : Key), 0)]).heap (heapLt hHeld.1) HKm.out).trans hHeld.1
    have hk2 := ((putW_chg wd m [(((none, 0) : Key), 0)]).heap (heapLt hHeld.2) HLm.out).trans hHeld.2
    have HM1 : Hid (MapAt (putW wd m [(((none, 0) : Key), 0)]) m [(((none, 0) : Key), 0)]) := Lib.hid (HM0.out.put (PlainK.nil _) 0)
    have HC1 := Lib.hid (Chg.trans HC0.out (putW_chg wd m [(((none, 0) : Key), 0)]))
    go_simp
    clear hen
    generalize putW wd m [(((none, 0) : Key), 0)] = w1 at hk1 hk2 HM1 HC1 ⊢
    refine hK.out _ _ (⟨hk1, hk2⟩) (fun hNew => ?_)
    clear hK K hHeld; (have hHeld := hNew); clear hNew; (try simp only [Act.put, List.setIfInBounds_toArray, List.set_cons_zero, List.set_cons_succ])
    (refine takeH (i := 5) (v := ?_) rfl (by kernel_rfl) (by kernel_rfl) (by kernel_rfl) (fun _ _ _ h => h) (Or.inl ⟨by rfl, ?_⟩) (by assumption) ?_; rotate_left; (focus ((intro wS hSw); (try dsimp only at hSw); obtain ⟨s0, _⟩ := one_cell hSw.1; go_simp; (try with_reducible rfl); done)); (try simp only [Act.put, List.setIfInBounds_toArray, List.set_cons_zero, List.set_cons_succ]))
    refine aloneH (i := 2) rfl (by kernel_rfl) (fun K hK => ?_)
    rw [if_pos (by rfl)]
    have hlk : (Instr.lookup 117 (.map (some m)) (.agg #[.pointer none, .int .i64 0]) false).run Tryz.prog w1 = .ok (.int .i64 0) w1 := run_look1 w1 m ((none, 0) : Key) (PlainK.nil _) [(((none, 0) : Key), 0)] HM1.out
    go_simp
    refine hK.out _ _ (hHeld) (fun hNew => ?_)
    clear hK K hHeld; (have hHeld := hNew); clear hNew; (try simp only [Act.put, List.setIfInBounds_toArray, List.set_cons_zero, List.set_cons_succ])
    (refine takeH (i := 3) (v := ?_) rfl (by kernel_rfl) (by kernel_rfl) (by kernel_rfl) (fun _ _ _ h => h) (Or.inl ⟨by rfl, ?_⟩) (by assumption) ?_; rotate_left; (focus ((intro wS hSw); (try dsimp only at hSw); obtain ⟨s0, _⟩ := one_cell hSw.1; go_simp; (try with_reducible rfl); done)); (try simp only [Act.put, List.setIfInBounds_toArray, List.set_cons_zero, List.set_cons_succ]))
    refine aloneH (i := 6) rfl (by kernel_rfl) (fun K hK => ?_)
    rw [if_pos (by rfl)]
    have hen : (Instr.entryStore 117 (.map (some m)) (.int .i64 0) (.int .i64 1)).run Tryz.prog w1 = .ok () (putW w1 m [(((none, 0) : Key), 1)]) := run_store w1 m ((none, 0) : Key) 1 [(((none, 0) : Key), 0)] HM1.out 0 0 rfl
    have hk1 := ((putW_chg w1 m [(((none, 0) : Key), 1)]).heap (heapLt hHeld.1) HKm.out).trans hHeld.1
    have hk2 := ((putW_chg w1 m [(((none, 0) : Key), 1)]).heap (heapLt hHeld.2) HLm.out).trans hHeld.2
    have HM3 : Hid (MapAt (putW w1 m [(((none, 0) : Key), 1)]) m [(((none, 0) : Key), 1)]) := Lib.hid (HM1.out.put (PlainK.nil _) 1)
    have HC3 := Lib.hid (Chg.trans HC1.out (putW_chg w1 m [(((none, 0) : Key), 1)]))
    go_simp
    clear hen
    generalize putW w1 m [(((none, 0) : Key), 1)] = w3 at hk1 hk2 HM3 HC3 ⊢
    refine hK.out _ _ (⟨hk1, hk2⟩) (fun hNew => ?_)
    clear hK K hHeld; (have hHeld := hNew); clear hNew; (try simp only [Act.put])
    refine wpAnyH_done (by kernel_rfl) ?_ _
    have hMf : (Instr.lookup 117 (.map (some m)) (.agg #[.pointer none, .int .i64 0]) false).run Tryz.prog w3 = .ok (.int .i64 1) w3 := run_look1 w3 m ((none, 0) : Key) (PlainK.nil _) [(((none, 0) : Key), 1)] HM3.out
    obtain ⟨k0, _⟩ := one_cell hHeld.1
    obtain ⟨l0, l1⟩ := row2c hHeld.2
    have HCl := Lib.hid HC3.out
    obtain ⟨f0, _⟩ := one_cell ((HCl.out.heap (heapLt HFd.out) HFm.out).trans HFd.out)
    obtain ⟨e0, e1, e2, e3, e4⟩ := row5c ((HCl.out.heap (heapLt HL4.out) Hgm.out).trans HL4.out)
    go_wp2_with (go_at_call 91; refine (code_none_nil _ _).mono ?_; rintro e wz ⟨rfl, hb⟩; refine Stop.out ?_)
    unfold Stop
    have HQz := Lib.hid (HQ2.out.2.2 _ _ (HQ2.out.1) HQ2.out.2.1 (Chg.trans HW.out (Chg.trans HCl.out (Chg.of (R := m) hb))))
    have HCz := Lib.hid (HR2.out.and (Chg.trans HW.out (Chg.trans HCl.out (Chg.of (R := m) hb))))
    clear k0 l0 l1 f0 e0 e1 e2 e3 e4 hHeld hMf hb
    go_wp2
    go_ret
    exact ⟨rfl, HCz.out, HQz.out⟩
end Go.Proofs.YtpapcnogbmjpjaaGreatDoor

namespace Go.Proofs.YtpapcnogbmjpjaaGreatDoor
open Go.RowKit
set_option maxRecDepth 100000
set_option linter.unusedSimpArgs false
set_option linter.unusedVariables false
attribute [local go_sem] Oper.semAt_some

theorem code_isBox_yes (n : Int) (h1 : 1 ≤ n) (h2 : n ≤ 9999) (w : World) : Calls Tryz.prog 41 #[.int .i64 n] w fun e w' => e = .returned (.bool true) ∧ w' = w := by
  go_enter Tryz.func41, Tryz.ntmps41
  go_wp2
  go_ret
  simp [h1, h2]
theorem code_isNumber_yes (n : Int) (h1 : 0 ≤ n) (h2 : n ≤ 999999999999999999) (w : World) : Calls Tryz.prog 110 #[.int .i64 n] w fun e w' => e = .returned (.bool true) ∧ w' = w := by
  go_enter Tryz.func110, Tryz.ntmps110
  go_wp2
  go_ret
  simp [h1, h2]
theorem code_kidsOf1q (w : World) : Calls Tryz.prog 92 #[.int .i64 1] w fun e w' => e = .returned (.int .i64 0) ∧ w = w' := by
  go_enter Tryz.func92, Tryz.ntmps92
  go_wp2
  go_ret
  exact ⟨rfl, rfl⟩
theorem code_goodN1 (n : Int) (h1 : 0 ≤ n) (h2 : n ≤ 999999999999999999) (w : World) : Calls Tryz.prog 96 #[.int .i64 1, .int .i64 n] w fun e w' => e = .returned (.bool true) ∧ w' = w := by
  have HB := Lib.hid (code_isNumber_yes n h1 h2)
  clear h1 h2
  go_enter Tryz.func96, Tryz.ntmps96
  go_wp2_with (go_at_call 110; refine (HB.out _).mono ?_; rintro e w2 ⟨rfl, rfl⟩)
  go_ret
  exact ⟨rfl, rfl⟩
set_option maxHeartbeats 2000000 in
theorem code_stands1 (n : Int) (h1 : 0 ≤ n) (h2 : n ≤ 999999999999999999) (w : World) : Calls Tryz.prog 67 #[.agg #[.int .i64 1, .int .i64 n, .string ⟨#[]⟩, .slice none 0 0, .slice none 0 0]] w fun e w' => e = .returned (.bool true) ∧ Below w.heap.size w w' := by
  have HG := Lib.hid (code_goodN1 n h1 h2)
  clear h1 h2
  have H0 := Lib.hid (heap_alloc_new w (.cells #[.int .i64 1, .int .i64 n, .string ⟨#[]⟩, .slice none 0 0, .slice none 0 0] 32))
  have HW0 := Lib.hid (below_alloc w (.cells #[.int .i64 1, .int .i64 n, .string ⟨#[]⟩, .slice none 0 0, .slice none 0 0] 32))
  go_enter Tryz.func67, Tryz.ntmps67
  go_wp2
  generalize w.alloc (.cells #[.int .i64 1, .int .i64 n, .string ⟨#[]⟩, .slice none 0 0, .slice none 0 0] 32) = w1 at H0 HW0 ⊢
  obtain ⟨g, hg⟩ : ∃ g, g = w.heap.size := ⟨_, rfl⟩
  have HGs := Lib.hid hg
  rw [← hg] at H0 ⊢
  clear hg
  refine wp_region_held_drew (S := fun V : World => V.heap[g]? = some (.cells #[.int .i64 1, .int .i64 n, .string ⟨#[]⟩, .slice none 0 0, .slice none 0 0] 32 (0, 0))) (by kernel_rfl) (heap_on (below_drew w1) H0.out) ?_
  intro hHeld
  have HW := Lib.hid (below_then HW0.out (below_drew w1))
  clear H0 HW0
  generalize w1.drew = wd at hHeld HW ⊢
  (refine takeH (i := 0) (v := ?_) rfl (by kernel_rfl) (by kernel_rfl) (by kernel_rfl) (fun _ _ _ h => h) (Or.inl ⟨by rfl, ?_⟩) (by assumption) ?_; rotate_left; (focus ((intro wS hSw); (try dsimp only at hSw); obtain ⟨s0, s1, s2, s3, s4⟩ := row5c hSw; go_simp; (try with_reducible rfl); done)); (try simp only [Act.put, List.setIfInBounds_toArray, List.set_cons_zero, List.set_cons_succ]))
  (refine takeH (i := 1) (v := ?_) rfl (by kernel_rfl) (by kernel_rfl) (by kernel_rfl) (fun _ _ _ h => h) (Or.inl ⟨by rfl, ?_⟩) (by assumption) ?_; rotate_left; (focus ((intro wS hSw); (try dsimp only at hSw); obtain ⟨s0, s1, s2, s3, s4⟩ := row5c hSw; go_simp; (try with_reducible rfl); done)); (try simp only [Act.put, List.setIfInBounds_toArray, List.set_cons_zero, List.set_cons_succ]))
  (refine takeH (i := 2) (v := ?_) rfl (by kernel_rfl) (by kernel_rfl) (by kernel_rfl) (fun _ _ _ h => h) (Or.inl ⟨by rfl, ?_⟩) (by assumption) ?_; rotate_left; (focus ((intro wS hSw); (try dsimp only at hSw); obtain ⟨s0, s1, s2, s3, s4⟩ := row5c hSw; go_simp; (try with_reducible rfl); done)); (try simp only [Act.put, List.setIfInBounds_toArray, List.set_cons_zero, List.set_cons_succ]))
  (refine takeH (i := 3) (v := ?_) rfl (by kernel_rfl) (by kernel_rfl) (by kernel_rfl) (fun _ _ _ h => h) (Or.inl ⟨by rfl, ?_⟩) (by assumption) ?_; rotate_left; (focus ((intro wS hSw); (try dsimp only at hSw); obtain ⟨s0, s1, s2, s3, s4⟩ := row5c hSw; go_simp; (try with_reducible rfl); done)); (try simp only [Act.put, List.setIfInBounds_toArray, List.set_cons_zero, List.set_cons_succ]))
  (refine takeH (i := 4) (v := ?_) rfl (by kernel_rfl) (by kernel_rfl) (by kernel_rfl) (fun _ _ _ h => h) (Or.inl ⟨by rfl, ?_⟩) (by assumption) ?_; rotate_left; (focus ((intro wS hSw); (try dsimp only at hSw); obtain ⟨s0, s1, s2, s3, s4⟩ := row5c hSw; go_simp; (try with_reducible rfl); done)); (try simp only [Act.put, List.setIfInBounds_toArray, List.set_cons_zero, List.set_cons_succ]))
  refine aloneH (i := 5) rfl (by kernel_rfl) (fun K hK => ?_)
  rw [if_pos (by rfl)]
  go_simp; ((refine (code_kidsOf1q wd).mono ?_); (rintro e w1 ⟨rfl, rfl⟩); (try go_simp))
  have HB1 : Hid (Below wd.heap.size wd wd) := Lib.hid (Below.refl _ _)
  refine hK.out _ _ (hHeld) (fun hNew => ?_)
  clear hK K hHeld; (have hHeld := hNew); clear hNew; (try simp only [Act.put, List.setIfInBounds_toArray, List.set_cons_zero, List.set_cons_succ])
  (refine takeH (i := 6) (v := ?_) rfl (by kernel_rfl) (by kernel_rfl) (by kernel_rfl) (fun _ _ _ h => h) (Or.inl ⟨by rfl, ?_⟩) (by assumption) ?_; rotate_left; (focus ((intro wS hSw); (try dsimp only at hSw); obtain ⟨s0, s1, s2, s3, s4⟩ := row5c hSw; go_simp; (try with_reducible rfl); done)); (try simp only [Act.put, List.setIfInBounds_toArray, List.set_cons_zero, List.set_cons_succ]))
  (refine takeH (i := 7) (v := ?_) rfl (by kernel_rfl) (by kernel_rfl) (by kernel_rfl) (fun _ _ _ h => h) (Or.inl ⟨by rfl, ?_⟩) (by assumption) ?_; rotate_left; (focus ((intro wS hSw); (try dsimp only at hSw); obtain ⟨s0, s1, s2, s3, s4⟩ := row5c hSw; go_simp; (try with_reducible rfl); done)); (try simp only [Act.put, List.setIfInBounds_toArray, List.set_cons_zero, List.set_cons_succ]))
  refine wpAnyH_done (by kernel_rfl) ?_ _
  clear HB1
  obtain ⟨s0, s1, s2, s3, s4⟩ := row5c hHeld
  clear hHeld
  have hem : ((⟨#[]⟩ : ByteArray).toList == (⟨#[]⟩ : ByteArray).toList) = true := by simp
  go_wp2_with (go_at_call 96; refine (HG.out _).mono ?_; rintro e w2 ⟨rfl, rfl⟩; refine Stop.out ?_)
  unfold Stop
  clear HG
  go_wp2
  go_ret
  exact ⟨rfl, HW.out⟩
theorem code_kidsOf2q (w : World) : Calls Tryz.prog 92 #[.int .i64 2] w fun e w' => e = .returned (.int .i64 0) ∧ w = w' := by
  go_enter Tryz.func92, Tryz.ntmps92
  go_wp2
  go_ret
  exact ⟨rfl, rfl⟩
theorem code_goodN2 (n : Int) (h1 : 1 ≤ n) (h2 : n ≤ 9999) (w : World) : Calls Tryz.prog 96 #[.int .i64 2, .int .i64 n] w fun e w' => e = .returned (.bool true) ∧ w' = w := by
  have HB := Lib.hid (code_isBox_yes n h1 h2)
  clear h1 h2
  go_enter Tryz.func96, Tryz.ntmps96
  go_wp2_with (go_at_call 41; refine (HB.out _).mono ?_; rintro e w2 ⟨rfl, rfl⟩)
  go_ret
  exact ⟨rfl, rfl⟩
set_option maxHeartbeats 2000000 in
theorem code_stands2 (n : Int) (h1 : 1 ≤ n) (h2 : n ≤ 9999) (w : World) : Calls Tryz.prog 67 #[.agg #[.int .i64 2, .int .i64 n, .string ⟨#[]⟩, .slice none 0 0, .slice none 0 0]] w fun e w' => e = .returned (.bool true) ∧ Below w.heap.size w w' := by
  have HG := Lib.hid (code_goodN2 n h1 h2)
  clear h1 h2
  have H0 := Lib.hid (heap_alloc_new w (.cells #[.int .i64 2, .int .i64 n, .string ⟨#[]⟩, .slice none 0 0, .slice none 0 0] 32))
  have HW0 := Lib.hid (below_alloc w (.cells #[.int .i64 2, .int .i64 n, .string ⟨#[]⟩, .slice none 0 0, .slice none 0 0] 32))
  go_enter Tryz.func67, Tryz.ntmps67
  go_wp2
  generalize w.alloc (.cells #[.int .i64 2, .int .i64 n, .string ⟨#[]⟩, .slice none 0 0, .slice none 0 0] 32) = w1 at H0 HW0 ⊢
  obtain ⟨g, hg⟩ : ∃ g, g = w.heap.size := ⟨_, rfl⟩
  have HGs := Lib.hid hg
  rw [← hg] at H0 ⊢
  clear hg
  refine wp_region_held_drew (S := fun V : World => V.heap[g]? = some (.cells #[.int .i64 2, .int .i64 n, .string ⟨#[]⟩, .slice none 0 0, .slice none 0 0] 32 (0, 0))) (by kernel_rfl) (heap_on (below_drew w1) H0.out) ?_
  intro hHeld
  have HW := Lib.hid (below_then HW0.out (below_drew w1))
  clear H0 HW0
  generalize w1.drew = wd at hHeld HW ⊢
  (refine takeH (i := 0) (v := ?_) rfl (by kernel_rfl) (by kernel_rfl) (by kernel_rfl) (fun _ _ _ h => h) (Or.inl ⟨by rfl, ?_⟩) (by assumption) ?_; rotate_left; (focus ((intro wS hSw); (try dsimp only at hSw); obtain ⟨s0, s1, s2, s3, s4⟩ := row5c hSw; go_simp; (try with_reducible rfl); done)); (try simp only [Act.put, List.setIfInBounds_toArray, List.set_cons_zero, List.set_cons_succ]))
  (refine takeH (i := 1) (v := ?_) rfl (by kernel_rfl) (by kernel_rfl) (by kernel_rfl) (fun _ _ _ h => h) (Or.inl ⟨by rfl, ?_⟩) (by assumption) ?_; rotate_left; (focus ((intro wS hSw); (try dsimp only at hSw); obtain ⟨s0, s1, s2, s3, s4⟩ := row5c hSw; go_simp; (try with_reducible rfl); done)); (try simp only [Act.put, List.setIfInBounds_toArray, List.set_cons_zero, List.set_cons_succ]))
  (refine takeH (i := 2) (v := ?_) rfl (by kernel_rfl) (by kernel_rfl) (by kernel_rfl) (fun _ _ _ h => h) (Or.inl ⟨by rfl, ?_⟩) (by assumption) ?_; rotate_left; (focus ((intro wS hSw); (try dsimp only at hSw); obtain ⟨s0, s1, s2, s3, s4⟩ := row5c hSw; go_simp; (try with_reducible rfl); done)); (try simp only [Act.put, List.setIfInBounds_toArray, List.set_cons_zero, List.set_cons_succ]))
  (refine takeH (i := 3) (v := ?_) rfl (by kernel_rfl) (by kernel_rfl) (by kernel_rfl) (fun _ _ _ h => h) (Or.inl ⟨by rfl, ?_⟩) (by assumption) ?_; rotate_left; (focus ((intro wS hSw); (try dsimp only at hSw); obtain ⟨s0, s1, s2, s3, s4⟩ := row5c hSw; go_simp; (try with_reducible rfl); done)); (try simp only [Act.put, List.setIfInBounds_toArray, List.set_cons_zero, List.set_cons_succ]))
  (refine takeH (i := 4) (v := ?_) rfl (by kernel_rfl) (by kernel_rfl) (by kernel_rfl) (fun _ _ _ h => h) (Or.inl ⟨by rfl, ?_⟩) (by assumption) ?_; rotate_left; (focus ((intro wS hSw); (try dsimp only at hSw); obtain ⟨s0, s1, s2, s3, s4⟩ := row5c hSw; go_simp; (try with_reducible rfl); done)); (try simp only [Act.put, List.setIfInBounds_toArray, List.set_cons_zero, List.set_cons_succ]))
  refine aloneH (i := 5) rfl (by kernel_rfl) (fun K hK => ?_)
  rw [if_pos (by rfl)]
  go_simp; ((refine (code_kidsOf2q wd).mono ?_); (rintro e w1 ⟨rfl, rfl⟩); (try go_simp))
  have HB1 : Hid (Below wd.heap.size wd wd) := Lib.hid (Below.refl _ _)
  refine hK.out _ _ (hHeld) (fun hNew => ?_)
  clear hK K hHeld; (have hHeld := hNew); clear hNew; (try simp only [Act.put, List.setIfInBounds_toArray, List.set_cons_zero, List.set_cons_succ])
  (refine takeH (i := 6) (v := ?_) rfl (by kernel_rfl) (by kernel_rfl) (by kernel_rfl) (fun _ _ _ h => h) (Or.inl ⟨by rfl, ?_⟩) (by assumption) ?_; rotate_left; (focus ((intro wS hSw); (try dsimp only at hSw); obtain ⟨s0, s1, s2, s3, s4⟩ := row5c hSw; go_simp; (try with_reducible rfl); done)); (try simp only [Act.put, List.setIfInBounds_toArray, List.set_cons_zero, List.set_cons_succ]))
  (refine takeH (i := 7) (v := ?_) rfl (by kernel_rfl) (by kernel_rfl) (by kernel_rfl) (fun _ _ _ h => h) (Or.inl ⟨by rfl, ?_⟩) (by assumption) ?_; rotate_left; (focus ((intro wS hSw); (try dsimp only at hSw); obtain ⟨s0, s1, s2, s3, s4⟩ := row5c hSw; go_simp; (try with_reducible rfl); done)); (try simp only [Act.put, List.setIfInBounds_toArray, List.set_cons_zero, List.set_cons_succ]))
  refine wpAnyH_done (by kernel_rfl) ?_ _
  clear HB1
  obtain ⟨s0, s1, s2, s3, s4⟩ := row5c hHeld
  clear hHeld
  have hem : ((⟨#[]⟩ : ByteArray).toList == (⟨#[]⟩ : ByteArray).toList) = true := by simp
  go_wp2_with (go_at_call 96; refine (HG.out _).mono ?_; rintro e w2 ⟨rfl, rfl⟩; refine Stop.out ?_)
  unfold Stop
  clear HG
  go_wp2
  go_ret
  exact ⟨rfl, HW.out⟩
end Go.Proofs.YtpapcnogbmjpjaaGreatDoor
