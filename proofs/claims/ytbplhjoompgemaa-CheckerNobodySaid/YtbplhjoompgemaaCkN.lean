/- The boxes that a leaf names, told. -/
import Derived.Test.YtbplhjoompgemaaCkL
namespace Go.Proofs.Ytbplhjoompgemaa
open Go.RowKit
set_option maxRecDepth 100000
set_option linter.unusedSimpArgs false
set_option linter.unusedVariables false
attribute [local go_sem] Oper.semAt_some

set_option maxHeartbeats 2000000 in
theorem each2_refs (Is Ka Fa m R : Nat) (Oa : Nat) (tI tK tF : TypeId) (t0 t1 : Int) (t2 : ByteArray) (fA : Option Addr) (fn fc : Nat) (w : World) (Q : World → Prop)
    (hIs : ∀ W, Below w.heap.size w W → Calls Try.prog 44 #[.agg #[.int .i64 t0, .int .i64 t1, .string t2, .slice fA fn fc, .slice none 0 0], .pointer (some ⟨R, 0, none⟩)] W fun e w' => e = .returned (.bool true) ∧ Chg R W w' ∧ Q w') (hQ : ∀ a b, Q a → a.heap[m]? = some (.map #[] 0) → Chg m a b → Q b) (hR : R ≠ w.heap.size) (hKR : Ka ≠ R) (hFR : Fa ≠ R) (hmR : m ≠ R)
    (hI : w.heap[Is]? = some (.cells #[.func (.func 44) #[] #[.pointer (some ⟨R, 0, none⟩)]] tI (0, 0))) (hK : w.heap[Ka]? = some (.cells #[.map (some m)] tK (0, 0))) (hF : w.heap[Fa]? = some (.cells #[.func (.func 61) #[] #[.pointer (some ⟨Oa, 0, none⟩)]] tF (0, 0))) (hM : MapAt w m []) :
    Calls Try.prog 62 #[.agg #[.int .i64 t0, .int .i64 t1, .string t2, .slice fA fn fc, .slice none 0 0], .pointer (some ⟨Is, 0, none⟩), .pointer (some ⟨Ka, 0, none⟩), .pointer (some ⟨Fa, 0, none⟩)] w fun e w' => e = .returned (.bool true) ∧ Chg2 R m w w' ∧ Q w' := by
  have HLo := Lib.hid (fun W => code_listOf 0 0 [] (Nat.zero_le _) W)
  have HIs := Lib.hid (fun W hW => hIs W hW)
  have H0 := Lib.hid (heap_alloc_new w (.cells #[.int .i64 t0, .int .i64 t1, .string t2, .slice fA fn fc, .slice none 0 0] 41))
  have HB0 := Lib.hid (below_alloc w (.cells #[.int .i64 t0, .int .i64 t1, .string t2, .slice fA fn fc, .slice none 0 0] 41))
  have HI := Lib.hid hI
  have HK := Lib.hid hK
  have HF := Lib.hid hF
  have HM := Lib.hid hM
  have HKR := Lib.hid hKR
  have HFR := Lib.hid hFR
  have HmR := Lib.hid hmR
  have HRl := Lib.hid hR
  have HQ := Lib.hid hQ
  have hw1 : IntKind.i64.wrap 1 = 1 := by first | rfl | decide
  have hnot : ∀ (x : Bool) (w : World), (Op.unary .not (.bool x)).run Try.prog w = .ok (.bool (!x)) w := fun _ _ => rfl
  obtain ⟨i0, _⟩ := one_cell (heap_on HB0.out HI.out)
  clear hIs hI hK hF hM hQ hR hKR hFR hmR
  go_enter Try.func62, Try.ntmps62
  go_wp2_with (go_at_call 44; refine (HIs.out _ HB0.out).mono ?_; rintro e w2 ⟨rfl, hb, hq⟩; refine Stop.out ?_)
  unfold Stop
  have HR2 : Hid (Chg R w w2) := Lib.hid (Chg.trans (Chg.of HB0.out) hb)
  have H2 := Lib.hid ((hb.heap (heapLt H0.out) (fun e => HRl.out e.symm)).trans H0.out)
  obtain ⟨g, hg⟩ : ∃ g, g = w.heap.size := ⟨_, rfl⟩
  have HGs := Lib.hid hg
  rw [← hg] at H2 ⊢
  clear hg hb i0 H0 HB0
  have HK2 := Lib.hid ((HR2.out.heap (heapLt HK.out) HKR.out).trans HK.out)
  have HF2 := Lib.hid ((HR2.out.heap (heapLt HF.out) HFR.out).trans HF.out)
  have HM2 : Hid (MapAt w2 m []) := Lib.hid ⟨(HR2.out.heap (heapLt HM.out.1) HmR.out).trans HM.out.1, fun p hp => by cases hp⟩
  have HQ2 := Lib.hid (And.intro hq (And.intro (show w2.heap[m]? = some (.map #[] 0) from HM2.out.1) HQ.out))
  clear hq HK HF HM HKR HFR HmR
  obtain ⟨e0, e1, e2, e3, e4⟩ := row5c H2.out
  go_wp2_with (go_at_call 41; refine (HLo.out _).mono ?_; rintro e w3 ⟨rfl, hb⟩; refine Stop.out ?_)
  unfold Stop
  have HB3 := Lib.hid hb
  have H3 := Lib.hid (heap_on hb H2.out)
  clear e0 e1 e2 e3 e4 hb H2
  have HN := Lib.hid (heap_alloc_new w3 (.cells #[.pointer none, .int .i64 0] 68))
  have HBF := Lib.hid (box_row w3 #[.pointer none, .int .i64 0] #[.pointer none, .int .i64 0] 68 rfl)
  have hkv : kV (keyOf 0 []) = .agg #[.pointer none, .int .i64 0] := rfl
  rw [hkv]
  clear hkv
  go_wp2_with ((with_reducible refine wpList_store_row (o := ⟨none, _, _, _, _, _⟩) 68 ?b0 (.tmp 6) (.tmp 13) ?b1 w3.heap.size ?b2 [.pointer none, .int .i64 0] ?b3 ?b4 ?b5 #[.pointer none, .int .i64 0] ?b6 68 ?b7 ?_); (case b0 => rfl); (case b1 => rfl); (case b2 => rfl); (case b3 => exact list_info); (case b4 => simp [Value.oneCell']); (case b5 => rfl); (case b6 => rfl); (case b7 => exact HN.out); (try simp only [Act.put]); refine Stop.out ?_)
  unfold Stop
  clear HN
  generalize World.setRow _ _ _ = w4 at HBF ⊢
  have HB4 := Lib.hid (below_then HB3.out HBF.out.1)
  have H4 := Lib.hid (heap_on HBF.out.1 H3.out)
  obtain ⟨gl, hgl⟩ : ∃ g, g = w3.heap.size := ⟨_, rfl⟩
  have HGl := Lib.hid hgl
  rw [← hgl] at HBF ⊢
  clear hgl H3 HB3
  go_wp2
  have HM0 := Lib.hid (HM2.out.on (below_then HB4.out (below_drew w4)))
  refine wp_region_held_drew (S := fun V : World => V.heap[Ka]? = some (.cells #[.map (some m)] tK (0, 0)) ∧ V.heap[gl]? = some (.cells #[.pointer none, .int .i64 0] 68 (0, 0))) (by kernel_rfl) ⟨heap_on (below_then HB4.out (below_drew w4)) HK2.out, heap_on (below_drew w4) HBF.out.2⟩ ?_
  intro hHeld
  have HW := Lib.hid (Chg.of (R := m) (below_then HB4.out (below_drew w4)))
  have HFd := Lib.hid (heap_on (below_then HB4.out (below_drew w4)) HF2.out)
  have HKm : Hid (Ka ≠ m) := Lib.hid (fun e => HM2.out.not _ _ (e ▸ HK2.out))
  have HLm : Hid (gl ≠ m) := Lib.hid (fun e => HM0.out.not _ _ (e ▸ hHeld.2))
  have HL4 := Lib.hid (heap_on (below_drew w4) H4.out)
  have HFm : Hid (Fa ≠ m) := Lib.hid (fun e => HM2.out.not _ _ (e ▸ HF2.out))
  have Hgm : Hid (g ≠ m) := Lib.hid (fun e => HM0.out.not _ _ (e ▸ HL4.out))
  have HC0 := Lib.hid (Chg.refl m w4.drew)
  clear H4 HBF HB4 HGl
  generalize w4.drew = wd at hHeld HC0 HM0 HL4 HW HFd ⊢
  (refine takeH (i := 0) (v := ?_) rfl (by kernel_rfl) (by kernel_rfl) (by kernel_rfl) (fun _ _ _ h => h) (Or.inl ⟨by rfl, ?_⟩) (by assumption) ?_; rotate_left; (focus ((intro wS hSw); (try dsimp only at hSw); obtain ⟨s0, _⟩ := one_cell hSw.1; go_simp; (try with_reducible rfl); done)); (try simp only [Act.put, List.setIfInBounds_toArray, List.set_cons_zero, List.set_cons_succ]))
  (refine takeH (i := 1) (v := (.agg #[.pointer none, .int .i64 0])) rfl (by kernel_rfl) (by kernel_rfl) (by kernel_rfl) (fun _ _ _ h => h) (yieldsIf_load_rowE (by rfl) 68 (.tmp 6) rfl gl rfl 68 #[.pointer none, .int .i64 0] (0, 0) _ (fun W h => h.2) Try.underlying68 rfl list_info) (by assumption) ?_; (try simp only [Act.put, List.setIfInBounds_toArray, List.set_cons_zero, List.set_cons_succ]))
  refine twoH (i := 2) (i2 := 4) rfl rfl (by kernel_rfl) (fun K hK => ?_) (fun K hK => ?_)
  · rw [if_pos (by rfl)]
    have hlk : (Instr.lookup 83 (.map (some m)) (.agg #[.pointer none, .int .i64 0]) false).run Try.prog wd = .ok (.int .i64 0) wd := run_look1 wd m ((none, 0) : Key) (PlainK.nil _) [] HM0.out
    go_simp
    refine hK.out _ _ (hHeld) (fun hNew => ?_)
    clear hK K hHeld; (have hHeld := hNew); clear hNew; (try simp only [Act.put, List.setIfInBounds_toArray, List.set_cons_zero, List.set_cons_succ])
    (refine takeH (i := 3) (v := ?_) rfl (by kernel_rfl) (by kernel_rfl) (by kernel_rfl) (fun _ _ _ h => h) (Or.inl ⟨by rfl, ?_⟩) (by assumption) ?_; rotate_left; (focus ((intro wS hSw); (try dsimp only at hSw); obtain ⟨s0, _⟩ := one_cell hSw.1; go_simp; (try with_reducible rfl); done)); (try simp only [Act.put, List.setIfInBounds_toArray, List.set_cons_zero, List.set_cons_succ]))
    refine aloneH (i := 4) rfl (by kernel_rfl) (fun K hK => ?_)
    rw [if_pos (by rfl)]
    have hen : (Instr.mapEntry 83 (.map (some m)) (.agg #[.pointer none, .int .i64 0])).run Try.prog wd = .ok (.tuple #[.int .i64 0, .int .i64 0]) (putW wd m [(((none, 0) : Key), 0)]) := run_entry wd m ((none, 0) : Key) (PlainK.nil _) [] HM0.out
    have hk1 := ((putW_chg wd m [(((none, 0) : Key), 0)]).heap (heapLt hHeld.1) HKm.out).trans hHeld.1
    have hk2 := ((putW_chg wd m [(((none, 0) : Key), 0)]).heap (heapLt hHeld.2) HLm.out).trans hHeld.2
    have HM2 : Hid (MapAt (putW wd m [(((none, 0) : Key), 0)]) m [(((none, 0) : Key), 0)]) := Lib.hid (HM0.out.put (PlainK.nil _) 0)
    have HC2 := Lib.hid (Chg.trans HC0.out (putW_chg wd m [(((none, 0) : Key), 0)]))
    go_simp
    clear hen
    generalize putW wd m [(((none, 0) : Key), 0)] = w2 at hk1 hk2 HM2 HC2 ⊢
    refine hK.out _ _ (⟨hk1, hk2⟩) (fun hNew => ?_)
    clear hK K hHeld; (have hHeld := hNew); clear hNew; (try simp only [Act.put, List.setIfInBounds_toArray, List.set_cons_zero, List.set_cons_succ])
    (refine takeH (i := 5) (v := ?_) rfl (by kernel_rfl) (by kernel_rfl) (by kernel_rfl) (fun _ _ _ h => h) (Or.inl ⟨by rfl, ?_⟩) (by assumption) ?_; rotate_left; (focus ((intro wS hSw); (try dsimp only at hSw); obtain ⟨s0, _⟩ := one_cell hSw.1; go_simp; (try with_reducible rfl); done)); (try simp only [Act.put, List.setIfInBounds_toArray, List.set_cons_zero, List.set_cons_succ]))
    refine aloneH (i := 6) rfl (by kernel_rfl) (fun K hK => ?_)
    rw [if_pos (by rfl)]
    have hen : (Instr.entryStore 83 (.map (some m)) (.int .i64 0) (.int .i64 1)).run Try.prog w2 = .ok () (putW w2 m [(((none, 0) : Key), 1)]) := run_store w2 m ((none, 0) : Key) 1 [(((none, 0) : Key), 0)] HM2.out 0 0 rfl
    have hk1 := ((putW_chg w2 m [(((none, 0) : Key), 1)]).heap (heapLt hHeld.1) HKm.out).trans hHeld.1
    have hk2 := ((putW_chg w2 m [(((none, 0) : Key), 1)]).heap (heapLt hHeld.2) HLm.out).trans hHeld.2
    have HM3 : Hid (MapAt (putW w2 m [(((none, 0) : Key), 1)]) m [(((none, 0) : Key), 1)]) := Lib.hid (HM2.out.put (PlainK.nil _) 1)
    have HC3 := Lib.hid (Chg.trans HC2.out (putW_chg w2 m [(((none, 0) : Key), 1)]))
    go_simp
    clear hen
    generalize putW w2 m [(((none, 0) : Key), 1)] = w3 at hk1 hk2 HM3 HC3 ⊢
    refine hK.out _ _ (⟨hk1, hk2⟩) (fun hNew => ?_)
    clear hK K hHeld; (have hHeld := hNew); clear hNew; (try simp only [Act.put])
    refine wpAnyH_done (by kernel_rfl) ?_ _
    have hMf : (Instr.lookup 83 (.map (some m)) (.agg #[.pointer none, .int .i64 0]) false).run Try.prog w3 = .ok (.int .i64 1) w3 := run_look1 w3 m ((none, 0) : Key) (PlainK.nil _) [(((none, 0) : Key), 1)] HM3.out
    obtain ⟨k0, _⟩ := one_cell hHeld.1
    obtain ⟨l0, l1⟩ := row2c hHeld.2
    have HCl := Lib.hid HC3.out
    obtain ⟨f0, _⟩ := one_cell ((HCl.out.heap (heapLt HFd.out) HFm.out).trans HFd.out)
    obtain ⟨e0, e1, e2, e3, e4⟩ := row5c ((HCl.out.heap (heapLt HL4.out) Hgm.out).trans HL4.out)
    go_wp2_with (go_at_call 63; refine (code_none_nil _ _).mono ?_; rintro e wz ⟨rfl, hb⟩; refine Stop.out ?_)
    unfold Stop
    have HQz := Lib.hid (HQ2.out.2.2 _ _ (HQ2.out.1) HQ2.out.2.1 (Chg.trans HW.out (Chg.trans HCl.out (Chg.of (R := m) hb))))
    have HCz := Lib.hid (HR2.out.and (Chg.trans HW.out (Chg.trans HCl.out (Chg.of (R := m) hb))))
    clear k0 l0 l1 f0 e0 e1 e2 e3 e4 hHeld hMf hb
    go_wp2
    go_ret
    exact ⟨rfl, HCz.out, HQz.out⟩
  · rw [if_pos (by rfl)]
    have hen : (Instr.mapEntry 83 (.map (some m)) (.agg #[.pointer none, .int .i64 0])).run Try.prog wd = .ok (.tuple #[.int .i64 0, .int .i64 0]) (putW wd m [(((none, 0) : Key), 0)]) := run_entry wd m ((none, 0) : Key) (PlainK.nil _) [] HM0.out
    have hk1 := ((putW_chg wd m [(((none, 0) : Key), 0)]).heap (heapLt hHeld.1) HKm.out).trans hHeld.1
    have hk2 := ((putW_chg wd m [(((none, 0) : Key), 0)]).heap (heapLt hHeld.2) HLm.out).trans hHeld.2
    have HM1 : Hid (MapAt (putW wd m [(((none, 0) : Key), 0)]) m [(((none, 0) : Key), 0)]) := Lib.hid (HM0.out.put (PlainK.nil _) 0)
    have HC1 := Lib.hid (Chg.trans HC0.out (putW_chg wd m [(((none, 0) : Key), 0)]))
    go_simp
    clear hen
    generalize putW wd m [(((none, 0) : Key), 0)] = w1 at hk1 hk2 HM1 HC1 ⊢
    refine hK.out _ _ (⟨hk1, hk2⟩) (fun hNew => ?_)
    clear hK K hHeld; (have hHeld := hNew); clear hNew; (try simp only [Act.put, List.setIfInBounds_toArray, List.set_cons_zero, List.set_cons_succ])
    (refine takeH (i := 5) (v := ?_) rfl (by kernel_rfl) (by kernel_rfl) (by kernel_rfl) (fun _ _ _ h => h) (Or.inl ⟨by rfl, ?_⟩) (by assumption) ?_; rotate_left; (focus ((intro wS hSw); (try dsimp only at hSw); obtain ⟨s0, _⟩ := one_cell hSw.1; go_simp; (try with_reducible rfl); done)); (try simp only [Act.put, List.setIfInBounds_toArray, List.set_cons_zero, List.set_cons_succ]))
    refine aloneH (i := 2) rfl (by kernel_rfl) (fun K hK => ?_)
    rw [if_pos (by rfl)]
    have hlk : (Instr.lookup 83 (.map (some m)) (.agg #[.pointer none, .int .i64 0]) false).run Try.prog w1 = .ok (.int .i64 0) w1 := run_look1 w1 m ((none, 0) : Key) (PlainK.nil _) [(((none, 0) : Key), 0)] HM1.out
    go_simp
    refine hK.out _ _ (hHeld) (fun hNew => ?_)
    clear hK K hHeld; (have hHeld := hNew); clear hNew; (try simp only [Act.put, List.setIfInBounds_toArray, List.set_cons_zero, List.set_cons_succ])
    (refine takeH (i := 3) (v := ?_) rfl (by kernel_rfl) (by kernel_rfl) (by kernel_rfl) (fun _ _ _ h => h) (Or.inl ⟨by rfl, ?_⟩) (by assumption) ?_; rotate_left; (focus ((intro wS hSw); (try dsimp only at hSw); obtain ⟨s0, _⟩ := one_cell hSw.1; go_simp; (try with_reducible rfl); done)); (try simp only [Act.put, List.setIfInBounds_toArray, List.set_cons_zero, List.set_cons_succ]))
    refine aloneH (i := 6) rfl (by kernel_rfl) (fun K hK => ?_)
    rw [if_pos (by rfl)]
    have hen : (Instr.entryStore 83 (.map (some m)) (.int .i64 0) (.int .i64 1)).run Try.prog w1 = .ok () (putW w1 m [(((none, 0) : Key), 1)]) := run_store w1 m ((none, 0) : Key) 1 [(((none, 0) : Key), 0)] HM1.out 0 0 rfl
    have hk1 := ((putW_chg w1 m [(((none, 0) : Key), 1)]).heap (heapLt hHeld.1) HKm.out).trans hHeld.1
    have hk2 := ((putW_chg w1 m [(((none, 0) : Key), 1)]).heap (heapLt hHeld.2) HLm.out).trans hHeld.2
    have HM3 : Hid (MapAt (putW w1 m [(((none, 0) : Key), 1)]) m [(((none, 0) : Key), 1)]) := Lib.hid (HM1.out.put (PlainK.nil _) 1)
    have HC3 := Lib.hid (Chg.trans HC1.out (putW_chg w1 m [(((none, 0) : Key), 1)]))
    go_simp
    clear hen
    generalize putW w1 m [(((none, 0) : Key), 1)] = w3 at hk1 hk2 HM3 HC3 ⊢
    refine hK.out _ _ (⟨hk1, hk2⟩) (fun hNew => ?_)
    clear hK K hHeld; (have hHeld := hNew); clear hNew; (try simp only [Act.put])
    refine wpAnyH_done (by kernel_rfl) ?_ _
    have hMf : (Instr.lookup 83 (.map (some m)) (.agg #[.pointer none, .int .i64 0]) false).run Try.prog w3 = .ok (.int .i64 1) w3 := run_look1 w3 m ((none, 0) : Key) (PlainK.nil _) [(((none, 0) : Key), 1)] HM3.out
    obtain ⟨k0, _⟩ := one_cell hHeld.1
    obtain ⟨l0, l1⟩ := row2c hHeld.2
    have HCl := Lib.hid HC3.out
    obtain ⟨f0, _⟩ := one_cell ((HCl.out.heap (heapLt HFd.out) HFm.out).trans HFd.out)
    obtain ⟨e0, e1, e2, e3, e4⟩ := row5c ((HCl.out.heap (heapLt HL4.out) Hgm.out).trans HL4.out)
    go_wp2_with (go_at_call 63; refine (code_none_nil _ _).mono ?_; rintro e wz ⟨rfl, hb⟩; refine Stop.out ?_)
    unfold Stop
    have HQz := Lib.hid (HQ2.out.2.2 _ _ (HQ2.out.1) HQ2.out.2.1 (Chg.trans HW.out (Chg.trans HCl.out (Chg.of (R := m) hb))))
    have HCz := Lib.hid (HR2.out.and (Chg.trans HW.out (Chg.trans HCl.out (Chg.of (R := m) hb))))
    clear k0 l0 l1 f0 e0 e1 e2 e3 e4 hHeld hMf hb
    go_wp2
    go_ret
    exact ⟨rfl, HCz.out, HQz.out⟩
set_option maxHeartbeats 2000000 in
theorem each_refs (R : Nat) (t0 t1 : Int) (t2 : ByteArray) (fA : Option Addr) (fn fc : Nat) (w : World) (Q : World → Prop)
    (hIs : ∀ W, Below w.heap.size w W → Calls Try.prog 44 #[.agg #[.int .i64 t0, .int .i64 t1, .string t2, .slice fA fn fc, .slice none 0 0], .pointer (some ⟨R, 0, none⟩)] W fun e w' => e = .returned (.bool true) ∧ Chg R W w' ∧ Q w') (hQ : ∀ m a b, w.heap.size ≤ m → Q a → a.heap[m]? = some (.map #[] 0) → Chg m a b → Q b) (hR : R < w.heap.size ∨ w.heap.size + 7 ≤ R) :
    Calls Try.prog 43 #[.agg #[.int .i64 t0, .int .i64 t1, .string t2, .slice fA fn fc, .slice none 0 0], .func (.func 44) #[] #[.pointer (some ⟨R, 0, none⟩)]] w fun e w' => e = .returned (.bool true) ∧ Chg R w w' ∧ Q w' := by
  have hmf : ∀ (fn : Fn) (first cap : Array Value) (w : World), (Instr.makeFunc fn first cap).run Try.prog w = .ok (.func fn first cap) w := fun _ _ _ _ => rfl
  have hmm := @run_makeMap Try.prog
  have HIs := Lib.hid (fun W hW => hIs W hW)
  have HQ := Lib.hid hQ
  have HR := Lib.hid hR
  clear hIs hQ hR
  go_enter Try.func43, Try.ntmps43
  go_wp2_with (go_at_call 62; refine Stop.out ?_)
  unfold Stop
  have H6 := Lib.hid (six w (.cells #[.int .i64 t0, .int .i64 t1, .string t2, .slice fA fn fc, .slice none 0 0] 41) (.cells #[.func (.func 44) #[] #[.pointer (some ⟨R, 0, none⟩)]] 50) (.map #[] 0) (.cells #[.map (some (w.heap.size + 1 + 1))] 83) (.cells #[.func (.func 62) #[] #[.pointer (some ⟨w.heap.size + 1, 0, none⟩), .pointer (some ⟨w.heap.size + 1 + 1 + 1, 0, none⟩), .pointer (some ⟨w.heap.size + 1 + 1 + 1 + 1 + 1, 0, none⟩)]] 50) (.cells #[.func (.func 61) #[] #[.pointer (some ⟨w.heap.size + 1 + 1 + 1 + 1, 0, none⟩)]] 50))
  have hsz : (World.alloc (((((w.alloc (.cells #[.int .i64 t0, .int .i64 t1, .string t2, .slice fA fn fc, .slice none 0 0] 41)).alloc (.cells #[.func (.func 44) #[] #[.pointer (some ⟨R, 0, none⟩)]] 50)).alloc (.map #[] 0)).alloc (.cells #[.map (some (w.heap.size + 1 + 1))] 83)).alloc (.cells #[.func (.func 62) #[] #[.pointer (some ⟨w.heap.size + 1, 0, none⟩), .pointer (some ⟨w.heap.size + 1 + 1 + 1, 0, none⟩), .pointer (some ⟨w.heap.size + 1 + 1 + 1 + 1 + 1, 0, none⟩)]] 50)) (.cells #[.func (.func 61) #[] #[.pointer (some ⟨w.heap.size + 1 + 1 + 1 + 1, 0, none⟩)]] 50)).heap.size = w.heap.size + 6 := by
    rw [World.size_alloc, World.size_alloc, World.size_alloc, World.size_alloc, World.size_alloc, World.size_alloc]
  generalize World.alloc _ _ = wE at H6 hsz ⊢
  obtain ⟨hB, hI, hM, hK, hO, hF⟩ := H6.out
  have HBE := Lib.hid hB
  have HSz := Lib.hid hsz
  have HC := Lib.hid (each2_refs (w.heap.size + 1) (w.heap.size + 1 + 1 + 1) (w.heap.size + 1 + 1 + 1 + 1 + 1) (w.heap.size + 1 + 1) R (w.heap.size + 1 + 1 + 1 + 1) _ _ _ t0 t1 t2 fA fn fc wE Q (fun W hW => HIs.out W (below_then hB hW)) (fun a b => HQ.out _ a b (by omega))
    (by have := HR.out; have := HSz.out; omega) (by have := HR.out; omega) (by have := HR.out; omega) (by have := HR.out; omega) hI hK hF ⟨hM, by simp⟩)
  clear hB hI hM hK hO hF H6 HIs hsz
  refine HC.out.mono ?_
  rintro e w3 ⟨rfl, hc3, hq3⟩
  have HCw := Lib.hid (And.intro (hc3.one HBE.out (by omega)) hq3)
  clear hc3 hq3
  go_wp2
  go_ret
  exact ⟨rfl, HCw.out⟩
theorem code_each_refs (R : Nat) (k n : Int) (hk : k = 1 ∨ k = 2) (w : World) (hR : w.heap[R]? = some (.cells #[.slice none 0 0] 30 (0, 0))) :
    Calls Try.prog 43 #[lfV k n, .func (.func 44) #[] #[.pointer (some ⟨R, 0, none⟩)]] w fun e w' => e = .returned (.bool true) ∧ Chg R w w' ∧ RefQ R w.heap.size (refL k n) w' :=
  each_refs R k n ⟨#[]⟩ none 0 0 w (RefQ R w.heap.size (refL k n))
    (fun W hW => refs1 R k n W hk (heap_on hW hR) w.heap.size hW.size)
    (fun m a b hm hq hM hc => by
      obtain ⟨v, h1, h2⟩ := hq
      have hlt := heapLt hR
      exact ⟨v, (hc.heap (heapLt h1) (by omega)).trans h1, h2.chg hc (h2.notMap hM)⟩)
    (Or.inl (heapLt hR))
set_option maxHeartbeats 4000000 in
theorem code_Refs (k n : Int) (h : LeafOk k n) (w : World) : Calls Try.prog 30 #[lfV k n] w fun e w' => ∃ v, e = .returned v ∧ Below w.heap.size w w' ∧ OwnI w' w.heap.size v (refL k n) := by
  have HG := Lib.hid (code_GoodExpr k n h)
  have HE := Lib.hid (fun (R : Nat) => code_each_refs R k n (by rcases h with h | h; exact .inl h.1; exact .inr h.1))
  have hmf : ∀ (fn : Fn) (first cap : Array Value) (w : World), (Instr.makeFunc fn first cap).run Try.prog w = .ok (.func fn first cap) w := fun _ _ _ _ => rfl
  have H0 := Lib.hid (heap_alloc_new w (.cells #[.int .i64 k, .int .i64 n, .string ⟨#[]⟩, .slice none 0 0, .slice none 0 0] 41))
  have HB0 := Lib.hid (below_alloc w (.cells #[.int .i64 k, .int .i64 n, .string ⟨#[]⟩, .slice none 0 0, .slice none 0 0] 41))
  have hk : k = 1 ∨ k = 2 := by rcases h with h | h; exact .inl h.1; exact .inr h.1
  have HKk := Lib.hid hk
  unfold lfV at HE HG ⊢
  clear h hk
  go_enter Try.func30, Try.ntmps30
  go_wp2_with (go_at_call 38; refine (HG.out _).mono ?_; rintro e w2 ⟨rfl, hb⟩; refine Stop.out ?_)
  unfold Stop
  have HB2 := Lib.hid (below_then HB0.out hb)
  have hs2 : w.heap.size ≤ w2.heap.size := HB2.out.size
  have HS2 := Lib.hid hs2
  have hR := heap_alloc_new w2 (.cells #[.slice none 0 0] 30)
  have HB3 := Lib.hid (below_then HB2.out (below_alloc w2 (.cells #[.slice none 0 0] 30)))
  have HEc := Lib.hid (HE.out w2.heap.size (w2.alloc (.cells #[.slice none 0 0] 30)) hR)
  have hsz : (w2.alloc (.cells #[.slice none 0 0] 30)).heap.size = w2.heap.size + 1 := World.size_alloc _ _
  have HSz := Lib.hid hsz
  obtain ⟨e0, e1, e2, e3, e4⟩ := row5c (heap_on (below_then hb (below_alloc w2 (.cells #[.slice none 0 0] 30))) H0.out)
  clear hb H0 HB0 hR hsz hs2 HE HG
  go_wp2_with (go_at_call 43; refine HEc.out.mono ?_; rintro e w4 ⟨rfl, hc, v, hv1, hv2⟩; refine Stop.out ?_)
  unfold Stop
  have HB4 : Hid (Below w.heap.size w w4) := Lib.hid (HB3.out.trans (hc.low HS2.out (by rw [HSz.out]; have := HS2.out; omega)))
  have HV1 := Lib.hid hv1
  have HV2 := Lib.hid (hv2.less (B' := w.heap.size) (by rw [HSz.out]; have := HS2.out; omega))
  obtain ⟨q0, q1⟩ := one_cell hv1
  clear hc hv1 hv2 HEc HB3 HB2 HSz e0 e1 e2 e3 e4
  rcases HKk.out with hk | hk
  · have HX := Lib.hid hk
    obtain ⟨A0, c0, hv⟩ : ∃ A c, v = .slice A 0 c := by
      have hl : refL k n = [] := by unfold refL; rw [hk]; rfl
      have h0 := HV2.out
      rw [hl] at h0
      rcases h0.form with ⟨h1, _⟩ | ⟨g, c, h1, _⟩
      · exact ⟨_, _, h1⟩
      · exact ⟨_, c, h1⟩
    subst hv
    clear hk
    go_wp2_with (go_at_call 31; refine (code_Sort0 A0 c0 _).mono ?_; rintro e w5 ⟨rfl, rfl⟩; refine Stop.out ?_)
    unfold Stop
    go_wp2_with (go_at_call 45; refine (code_Compact0 A0 c0 _).mono ?_; rintro e w6 ⟨rfl, rfl⟩; refine Stop.out ?_)
    unfold Stop
    go_wp2
    go_ret
    exact ⟨_, rfl, HB4.out, HV2.out⟩
  · have HX := Lib.hid hk
    obtain ⟨g, c, hv⟩ : ∃ g c, v = .slice (some ⟨g, 0, none⟩) 1 c := by
      have hl : refL k n = [n] := by unfold refL; rw [hk]; rfl
      have h0 := HV2.out
      rw [hl] at h0
      rcases h0.form with ⟨_, h1⟩ | ⟨g, c, h1, _⟩
      · cases h1
      · exact ⟨g, c, h1⟩
    subst hv
    clear hk
    go_wp2_with (go_at_call 31; refine (code_Sort1 _ c _).mono ?_; rintro e w5 ⟨rfl, rfl⟩; refine Stop.out ?_)
    unfold Stop
    go_wp2_with (go_at_call 45; refine (code_Compact1 _ c _).mono ?_; rintro e w6 ⟨rfl, rfl⟩; refine Stop.out ?_)
    unfold Stop
    go_wp2
    go_ret
    exact ⟨_, rfl, HB4.out, HV2.out⟩
end Go.Proofs.Ytbplhjoompgemaa
