/- A leaf names nothing. -/
import Derived.Test.YtbplhjoompgemaaCkN
namespace Go.Proofs.Ytbplhjoompgemaa
open Go.RowKit
set_option maxRecDepth 100000
set_option linter.unusedSimpArgs false
set_option linter.unusedVariables false
attribute [local go_sem] Oper.semAt_some

set_option maxHeartbeats 2000000 in
theorem each2_names (Is Ka Fa m R : Nat) (Oa : Nat) (Sa : Nat) (Sb : Nat) (tI tK tF : TypeId) (t0 t1 : Int) (t2 : ByteArray) (fA : Option Addr) (fn fc : Nat) (w : World) (Q : World → Prop)
    (hIs : ∀ W, Below w.heap.size w W → Calls Try.prog 52 #[.agg #[.int .i64 t0, .int .i64 t1, .string t2, .slice fA fn fc, .slice none 0 0], .pointer (some ⟨Sa, 0, none⟩), .pointer (some ⟨Sb, 0, none⟩)] W fun e w' => e = .returned (.bool true) ∧ Chg R W w' ∧ Q w') (hQ : ∀ a b, Q a → a.heap[m]? = some (.map #[] 0) → Chg m a b → Q b) (hR : R ≠ w.heap.size) (hKR : Ka ≠ R) (hFR : Fa ≠ R) (hmR : m ≠ R)
    (hI : w.heap[Is]? = some (.cells #[.func (.func 52) #[] #[.pointer (some ⟨Sa, 0, none⟩), .pointer (some ⟨Sb, 0, none⟩)]] tI (0, 0))) (hK : w.heap[Ka]? = some (.cells #[.map (some m)] tK (0, 0))) (hF : w.heap[Fa]? = some (.cells #[.func (.func 61) #[] #[.pointer (some ⟨Oa, 0, none⟩)]] tF (0, 0))) (hM : MapAt w m []) :
    Calls Try.prog 62 #[.agg #[.int .i64 t0, .int .i64 t1, .string t2, .slice fA fn fc, .slice none 0 0], .pointer (some ⟨Is, 0, none⟩), .pointer (some ⟨Ka, 0, none⟩), .pointer (some ⟨Fa, 0, none⟩)] w fun e w' => e = .returned (.bool true) ∧ Chg2 R m w w' ∧ Q w' := by
  have HLo := Lib.hid (fun W => code_listOf 0 0 [] (Nat.zero_le _) W)
  have HIs := Lib.hid (fun W hW => hIs W hW)
  have H0 := Lib.hid (heap_alloc_new w (.cells #[.int .i64 t0, .int .i64 t1, .string t2, .slice fA fn fc, .slice none 0 0] 41))
  have HB0 := Lib.hid (below_alloc w (.cells #[.int .i64 t0, .int .i64 t1, .string t2, .slice fA fn fc, .slice none 0 0] 41))
  have HI := Lib.hid hI
  have HK := Lib.hid hK
  have HF := Lib.hid hF
  have HM := Lib.hid hM
  have HKR := Lib.hid hKR
  have HFR := Lib.hid hFR
  have HmR := Lib.hid hmR
  have HRl := Lib.hid hR
  have HQ := Lib.hid hQ
  have hw1 : IntKind.i64.wrap 1 = 1 := by first | rfl | decide
  have hnot : ∀ (x : Bool) (w : World), (Op.unary .not (.bool x)).run Try.prog w = .ok (.bool (!x)) w := fun _ _ => rfl
  obtain ⟨i0, _⟩ := one_cell (heap_on HB0.out HI.out)
  clear hIs hI hK hF hM hQ hR hKR hFR hmR
  go_enter Try.func62, Try.ntmps62
  go_wp2_with (go_at_call 52; refine (HIs.out _ HB0.out).mono ?_; rintro e w2 ⟨rfl, hb, hq⟩; refine Stop.out ?_)
  unfold Stop
  have HR2 : Hid (Chg R w w2) := Lib.hid (Chg.trans (Chg.of HB0.out) hb)
  have H2 := Lib.hid ((hb.heap (heapLt H0.out) (fun e => HRl.out e.symm)).trans H0.out)
  obtain ⟨g, hg⟩ : ∃ g, g = w.heap.size := ⟨_, rfl⟩
  have HGs := Lib.hid hg
  rw [← hg] at H2 ⊢
  clear hg hb i0 H0 HB0
  have HK2 := Lib.hid ((HR2.out.heap (heapLt HK.out) HKR.out).trans HK.out)
  have HF2 := Lib.hid ((HR2.out.heap (heapLt HF.out) HFR.out).trans HF.out)
  have HM2 : Hid (MapAt w2 m []) := Lib.hid ⟨(HR2.out.heap (heapLt HM.out.1) HmR.out).trans HM.out.1, fun p hp => by cases hp⟩
  have HQ2 := Lib.hid (And.intro hq (And.intro (show w2.heap[m]? = some (.map #[] 0) from HM2.out.1) HQ.out))
  clear hq HK HF HM HKR HFR HmR
  obtain ⟨e0, e1, e2, e3, e4⟩ := row5c H2.out
  go_wp2_with (go_at_call 41; refine (HLo.out _).mono ?_; rintro e w3 ⟨rfl, hb⟩; refine Stop.out ?_)
  unfold Stop
  have HB3 := Lib.hid hb
  have H3 := Lib.hid (heap_on hb H2.out)
  clear e0 e1 e2 e3 e4 hb H2
  have HN := Lib.hid (heap_alloc_new w3 (.cells #[.pointer none, .int .i64 0] 68))
  have HBF := Lib.hid (box_row w3 #[.pointer none, .int .i64 0] #[.pointer none, .int .i64 0] 68 rfl)
  have hkv : kV (keyOf 0 []) = .agg #[.pointer none, .int .i64 0] := rfl
  rw [hkv]
  clear hkv
  go_wp2_with ((with_reducible refine wpList_store_row (o := ⟨none, _, _, _, _, _⟩) 68 ?b0 (.tmp 6) (.tmp 13) ?b1 w3.heap.size ?b2 [.pointer none, .int .i64 0] ?b3 ?b4 ?b5 #[.pointer none, .int .i64 0] ?b6 68 ?b7 ?_); (case b0 => rfl); (case b1 => rfl); (case b2 => rfl); (case b3 => exact list_info); (case b4 => simp [Value.oneCell']); (case b5 => rfl); (case b6 => rfl); (case b7 => exact HN.out); (try simp only [Act.put]); refine Stop.out ?_)
  unfold Stop
  clear HN
  generalize World.setRow _ _ _ = w4 at HBF ⊢
  have HB4 := Lib.hid (below_then HB3.out HBF.out.1)
  have H4 := Lib.hid (heap_on HBF.out.1 H3.out)
  obtain ⟨gl, hgl⟩ : ∃ g, g = w3.heap.size := ⟨_, rfl⟩
  have HGl := Lib.hid hgl
  rw [← hgl] at HBF ⊢
  clear hgl H3 HB3
  go_wp2
  have HM0 := Lib.hid (HM2.out.on (below_then HB4.out (below_drew w4)))
  refine wp_region_held_drew (S := fun V : World => V.heap[Ka]? = some (.cells #[.map (some m)] tK (0, 0)) ∧ V.heap[gl]? = some (.cells #[.pointer none, .int .i64 0] 68 (0, 0))) (by kernel_rfl) ⟨heap_on (below_then HB4.out (below_drew w4)) HK2.out, heap_on (below_drew w4) HBF.out.2⟩ ?_
  intro hHeld
  have HW := Lib.hid (Chg.of (R := m) (below_then HB4.out (below_drew w4)))
  have HFd := Lib.hid (heap_on (below_then HB4.out (below_drew w4)) HF2.out)
  have HKm : Hid (Ka ≠ m) := Lib.hid (fun e => HM2.out.not _ _ (e ▸ HK2.out))
  have HLm : Hid (gl ≠ m) := Lib.hid (fun e => HM0.out.not _ _ (e ▸ hHeld.2))
  have HL4 := Lib.hid (heap_on (below_drew w4) H4.out)
  have HFm : Hid (Fa ≠ m) := Lib.hid (fun e => HM2.out.not _ _ (e ▸ HF2.out))
  have Hgm : Hid (g ≠ m) := Lib.hid (fun e => HM0.out.not _ _ (e ▸ HL4.out))
  have HC0 := Lib.hid (Chg.refl m w4.drew)
  clear H4 HBF HB4 HGl
  generalize w4.drew = wd at hHeld HC0 HM0 HL4 HW HFd ⊢
  (refine takeH (i := 0) (v := ?_) rfl (by kernel_rfl) (by kernel_rfl) (by kernel_rfl) (fun _ _ _ h => h) (Or.inl ⟨by rfl, ?_⟩) (by assumption) ?_; rotate_left; (focus ((intro wS hSw); (try dsimp only at hSw); obtain ⟨s0, _⟩ := one_cell hSw.1; go_simp; (try with_reducible rfl); done)); (try simp only [Act.put, List.setIfInBounds_toArray, List.set_cons_zero, List.set_cons_succ]))
  (refine takeH (i := 1) (v := (.agg #[.pointer none, .int .i64 0])) rfl (by kernel_rfl) (by kernel_rfl) (by kernel_rfl) (fun _ _ _ h => h) (yieldsIf_load_rowE (by rfl) 68 (.tmp 6) rfl gl rfl 68 #[.pointer none, .int .i64 0] (0, 0) _ (fun W h => h.2) Try.underlying68 rfl list_info) (by assumption) ?_; (try simp only [Act.put, List.setIfInBounds_toArray, List.set_cons_zero, List.set_cons_succ]))
  refine twoH (i := 2) (i2 := 4) rfl rfl (by kernel_rfl) (fun K hK => ?_) (fun K hK => ?_)
  · rw [if_pos (by rfl)]
    have hlk : (Instr.lookup 83 (.map (some m)) (.agg #[.pointer none, .int .i64 0]) false).run Try.prog wd = .ok (.int .i64 0) wd := run_look1 wd m ((none, 0) : Key) (PlainK.nil _) [] HM0.out
    go_simp
    refine hK.out _ _ (hHeld) (fun hNew => ?_)
    clear hK K hHeld; (have hHeld := hNew); clear hNew; (try simp only [Act.put, List.setIfInBounds_toArray, List.set_cons_zero, List.set_cons_succ])
    (refine takeH (i := 3) (v := ?_) rfl (by kernel_rfl) (by kernel_rfl) (by kernel_rfl) (fun _ _ _ h => h) (Or.inl ⟨by rfl, ?_⟩) (by assumption) ?_; rotate_left; (focus ((intro wS hSw); (try dsimp only at hSw); obtain ⟨s0, _⟩ := one_cell hSw.1; go_simp; (try with_reducible rfl); done)); (try simp only [Act.put, List.setIfInBounds_toArray, List.set_cons_zero, List.set_cons_succ]))
    refine aloneH (i := 4) rfl (by kernel_rfl) (fun K hK => ?_)
    rw [if_pos (by rfl)]
    have hen : (Instr.mapEntry 83 (.map (some m)) (.agg #[.pointer none, .int .i64 0])).run Try.prog wd = .ok (.tuple #[.int .i64 0, .int .i64 0]) (putW wd m [(((none, 0) : Key), 0)]) := run_entry wd m ((none, 0) : Key) (PlainK.nil _) [] HM0.out
    have hk1 := ((putW_chg wd m [(((none, 0) : Key), 0)]).heap (heapLt hHeld.1) HKm.out).trans hHeld.1
    have hk2 := ((putW_chg wd m [(((none, 0) : Key), 0)]).heap (heapLt hHeld.2) HLm.out).trans hHeld.2
    have HM2 : Hid (MapAt (putW wd m [(((none, 0) : Key), 0)]) m [(((none, 0) : Key), 0)]) := Lib.hid (HM0.out.put (PlainK.nil _) 0)
    have HC2 := Lib.hid (Chg.trans HC0.out (putW_chg wd m [(((none, 0) : Key), 0)]))
    go_simp
    clear hen
    generalize putW wd m [(((none, 0) : Key), 0)] = w2 at hk1 hk2 HM2 HC2 ⊢
    refine hK.out _ _ (⟨hk1, hk2⟩) (fun hNew => ?_)
    clear hK K hHeld; (have hHeld := hNew); clear hNew; (try simp only [Act.put, List.setIfInBounds_toArray, List.set_cons_zero, List.set_cons_succ])
    (refine takeH (i := 5) (v := ?_) rfl (by kernel_rfl) (by kernel_rfl) (by kernel_rfl) (fun _ _ _ h => h) (Or.inl ⟨by rfl, ?_⟩) (by assumption) ?_; rotate_left; (focus ((intro wS hSw); (try dsimp only at hSw); obtain ⟨s0, _⟩ := one_cell hSw.1; go_simp; (try with_reducible rfl); done)); (try simp only [Act.put, List.setIfInBounds_toArray, List.set_cons_zero, List.set_cons_succ]))
    refine aloneH (i := 6) rfl (by kernel_rfl) (fun K hK => ?_)
    rw [if_pos (by rfl)]
    have hen : (Instr.entryStore 83 (.map (some m)) (.int .i64 0) (.int .i64 1)).run Try.prog w2 = .ok () (putW w2 m [(((none, 0) : Key), 1)]) := run_store w2 m ((none, 0) : Key) 1 [(((none, 0) : Key), 0)] HM2.out 0 0 rfl
    have hk1 := ((putW_chg w2 m [(((none, 0) : Key), 1)]).heap (heapLt hHeld.1) HKm.out).trans hHeld.1
    have hk2 := ((putW_chg w2 m [(((none, 0) : Key), 1)]).heap (heapLt hHeld.2) HLm.out).trans hHeld.2
    have HM3 : Hid (MapAt (putW w2 m [(((none, 0) : Key), 1)]) m [(((none, 0) : Key), 1)]) := Lib.hid (HM2.out.put (PlainK.nil _) 1)
    have HC3 := Lib.hid (Chg.trans HC2.out (putW_chg w2 m [(((none, 0) : Key), 1)]))
    go_simp
    clear hen
    generalize putW w2 m [(((none, 0) : Key), 1)] = w3 at hk1 hk2 HM3 HC3 ⊢
    refine hK.out _ _ (⟨hk1, hk2⟩) (fun hNew => ?_)
    clear hK K hHeld; (have hHeld := hNew); clear hNew; (try simp only [Act.put])
    refine wpAnyH_done (by kernel_rfl) ?_ _
    have hMf : (Instr.lookup 83 (.map (some m)) (.agg #[.pointer none, .int .i64 0]) false).run Try.prog w3 = .ok (.int .i64 1) w3 := run_look1 w3 m ((none, 0) : Key) (PlainK.nil _) [(((none, 0) : Key), 1)] HM3.out
    obtain ⟨k0, _⟩ := one_cell hHeld.1
    obtain ⟨l0, l1⟩ := row2c hHeld.2
    have HCl := Lib.hid HC3.out
    obtain ⟨f0, _⟩ := one_cell ((HCl.out.heap (heapLt HFd.out) HFm.out).trans HFd.out)
    obtain ⟨e0, e1, e2, e3, e4⟩ := row5c ((HCl.out.heap (heapLt HL4.out) Hgm.out).trans HL4.out)
    go_wp2_with (go_at_call 63; refine (code_none_nil _ _).mono ?_; rintro e wz ⟨rfl, hb⟩; refine Stop.out ?_)
    unfold Stop
    have HQz := Lib.hid (HQ2.out.2.2 _ _ (HQ2.out.1) HQ2.out.2.1 (Chg.trans HW.out (Chg.trans HCl.out (Chg.of (R := m) hb))))
    have HCz := Lib.hid (HR2.out.and (Chg.trans HW.out (Chg.trans HCl.out (Chg.of (R := m) hb))))
    clear k0 l0 l1 f0 e0 e1 e2 e3 e4 hHeld hMf hb
    go_wp2
    go_ret
    exact ⟨rfl, HCz.out, HQz.out⟩
  · rw [if_pos (by rfl)]
    have hen : (Instr.mapEntry 83 (.map (some m)) (.agg #[.pointer none, .int .i64 0])).run Try.prog wd = .ok (.tuple #[.int .i64 0, .int .i64 0]) (putW wd m [(((none, 0) : Key), 0)]) := run_entry wd m ((none, 0) : Key) (PlainK.nil _) [] HM0.out
    have hk1 := ((putW_chg wd m [(((none, 0) : Key), 0)]).heap (heapLt hHeld.1) HKm.out).trans hHeld.1
    have hk2 := ((putW_chg wd m [(((none, 0) : Key), 0)]).heap (heapLt hHeld.2) HLm.out).trans hHeld.2
    have HM1 : Hid (MapAt (putW wd m [(((none, 0) : Key), 0)]) m [(((none, 0) : Key), 0)]) := Lib.hid (HM0.out.put (PlainK.nil _) 0)
    have HC1 := Lib.hid (Chg.trans HC0.out (putW_chg wd m [(((none, 0) : Key), 0)]))
    go_simp
    clear hen
    generalize putW wd m [(((none, 0) : Key), 0)] = w1 at hk1 hk2 HM1 HC1 ⊢
    refine hK.out _ _ (⟨hk1, hk2⟩) (fun hNew => ?_)
    clear hK K hHeld; (have hHeld := hNew); clear hNew; (try simp only [Act.put, List.setIfInBounds_toArray, List.set_cons_zero, List.set_cons_succ])
    (refine takeH (i := 5) (v := ?_) rfl (by kernel_rfl) (by kernel_rfl) (by kernel_rfl) (fun _ _ _ h => h) (Or.inl ⟨by rfl, ?_⟩) (by assumption) ?_; rotate_left; (focus ((intro wS hSw); (try dsimp only at hSw); obtain ⟨s0, _⟩ := one_cell hSw.1; go_simp; (try with_reducible rfl); done)); (try simp only [Act.put, List.setIfInBounds_toArray, List.set_cons_zero, List.set_cons_succ]))
    refine aloneH (i := 2) rfl (by kernel_rfl) (fun K hK => ?_)
    rw [if_pos (by rfl)]
    have hlk : (Instr.lookup 83 (.map (some m)) (.agg #[.pointer none, .int .i64 0]) false).run Try.prog w1 = .ok (.int .i64 0) w1 := run_look1 w1 m ((none, 0) : Key) (PlainK.nil _) [(((none, 0) : Key), 0)] HM1.out
    go_simp
    refine hK.out _ _ (hHeld) (fun hNew => ?_)
    clear hK K hHeld; (have hHeld := hNew); clear hNew; (try simp only [Act.put, List.setIfInBounds_toArray, List.set_cons_zero, List.set_cons_succ])
    (refine takeH (i := 3) (v := ?_) rfl (by kernel_rfl) (by kernel_rfl) (by kernel_rfl) (fun _ _ _ h => h) (Or.inl ⟨by rfl, ?_⟩) (by assumption) ?_; rotate_left; (focus ((intro wS hSw); (try dsimp only at hSw); obtain ⟨s0, _⟩ := one_cell hSw.1; go_simp; (try with_reducible rfl); done)); (try simp only [Act.put, List.setIfInBounds_toArray, List.set_cons_zero, List.set_cons_succ]))
    refine aloneH (i := 6) rfl (by kernel_rfl) (fun K hK => ?_)
    rw [if_pos (by rfl)]
    have hen : (Instr.entryStore 83 (.map (some m)) (.int .i64 0) (.int .i64 1)).run Try.prog w1 = .ok () (putW w1 m [(((none, 0) : Key), 1)]) := run_store w1 m ((none, 0) : Key) 1 [(((none, 0) : Key), 0)] HM1.out 0 0 rfl
    have hk1 := ((putW_chg w1 m [(((none, 0) : Key), 1)]).heap (heapLt hHeld.1) HKm.out).trans hHeld.1
    have hk2 := ((putW_chg w1 m [(((none, 0) : Key), 1)]).heap (heapLt hHeld.2) HLm.out).trans hHeld.2
    have HM3 : Hid (MapAt (putW w1 m [(((none, 0) : Key), 1)]) m [(((none, 0) : Key), 1)]) := Lib.hid (HM1.out.put (PlainK.nil _) 1)
    have HC3 := Lib.hid (Chg.trans HC1.out (putW_chg w1 m [(((none, 0) : Key), 1)]))
    go_simp
    clear hen
    generalize putW w1 m [(((none, 0) : Key), 1)] = w3 at hk1 hk2 HM3 HC3 ⊢
    refine hK.out _ _ (⟨hk1, hk2⟩) (fun hNew => ?_)
    clear hK K hHeld; (have hHeld := hNew); clear hNew; (try simp only [Act.put])
    refine wpAnyH_done (by kernel_rfl) ?_ _
    have hMf : (Instr.lookup 83 (.map (some m)) (.agg #[.pointer none, .int .i64 0]) false).run Try.prog w3 = .ok (.int .i64 1) w3 := run_look1 w3 m ((none, 0) : Key) (PlainK.nil _) [(((none, 0) : Key), 1)] HM3.out
    obtain ⟨k0, _⟩ := one_cell hHeld.1
    obtain ⟨l0, l1⟩ := row2c hHeld.2
    have HCl := Lib.hid HC3.out
    obtain ⟨f0, _⟩ := one_cell ((HCl.out.heap (heapLt HFd.out) HFm.out).trans HFd.out)
    obtain ⟨e0, e1, e2, e3, e4⟩ := row5c ((HCl.out.heap (heapLt HL4.out) Hgm.out).trans HL4.out)
    go_wp2_with (go_at_call 63; refine (code_none_nil _ _).mono ?_; rintro e wz ⟨rfl, hb⟩; refine Stop.out ?_)
    unfold Stop
    have HQz := Lib.hid (HQ2.out.2.2 _ _ (HQ2.out.1) HQ2.out.2.1 (Chg.trans HW.out (Chg.trans HCl.out (Chg.of (R := m) hb))))
    have HCz := Lib.hid (HR2.out.and (Chg.trans HW.out (Chg.trans HCl.out (Chg.of (R := m) hb))))
    clear k0 l0 l1 f0 e0 e1 e2 e3 e4 hHeld hMf hb
    go_wp2
    go_ret
    exact ⟨rfl, HCz.out, HQz.out⟩
set_option maxHeartbeats 2000000 in
theorem each_names (R : Nat) (Sa : Nat) (Sb : Nat) (t0 t1 : Int) (t2 : ByteArray) (fA : Option Addr) (fn fc : Nat) (w : World) (Q : World → Prop)
    (hIs : ∀ W, Below w.heap.size w W → Calls Try.prog 52 #[.agg #[.int .i64 t0, .int .i64 t1, .string t2, .slice fA fn fc, .slice none 0 0], .pointer (some ⟨Sa, 0, none⟩), .pointer (some ⟨Sb, 0, none⟩)] W fun e w' => e = .returned (.bool true) ∧ Chg R W w' ∧ Q w') (hQ : ∀ m a b, w.heap.size ≤ m → Q a → a.heap[m]? = some (.map #[] 0) → Chg m a b → Q b) (hR : R < w.heap.size ∨ w.heap.size + 7 ≤ R) :
    Calls Try.prog 43 #[.agg #[.int .i64 t0, .int .i64 t1, .string t2, .slice fA fn fc, .slice none 0 0], .func (.func 52) #[] #[.pointer (some ⟨Sa, 0, none⟩), .pointer (some ⟨Sb, 0, none⟩)]] w fun e w' => e = .returned (.bool true) ∧ Chg R w w' ∧ Q w' := by
  have hmf : ∀ (fn : Fn) (first cap : Array Value) (w : World), (Instr.makeFunc fn first cap).run Try.prog w = .ok (.func fn first cap) w := fun _ _ _ _ => rfl
  have hmm := @run_makeMap Try.prog
  have HIs := Lib.hid (fun W hW => hIs W hW)
  have HQ := Lib.hid hQ
  have HR := Lib.hid hR
  clear hIs hQ hR
  go_enter Try.func43, Try.ntmps43
  go_wp2_with (go_at_call 62; refine Stop.out ?_)
  unfold Stop
  have H6 := Lib.hid (six w (.cells #[.int .i64 t0, .int .i64 t1, .string t2, .slice fA fn fc, .slice none 0 0] 41) (.cells #[.func (.func 52) #[] #[.pointer (some ⟨Sa, 0, none⟩), .pointer (some ⟨Sb, 0, none⟩)]] 50) (.map #[] 0) (.cells #[.map (some (w.heap.size + 1 + 1))] 83) (.cells #[.func (.func 62) #[] #[.pointer (some ⟨w.heap.size + 1, 0, none⟩), .pointer (some ⟨w.heap.size + 1 + 1 + 1, 0, none⟩), .pointer (some ⟨w.heap.size + 1 + 1 + 1 + 1 + 1, 0, none⟩)]] 50) (.cells #[.func (.func 61) #[] #[.pointer (some ⟨w.heap.size + 1 + 1 + 1 + 1, 0, none⟩)]] 50))
  have hsz : (World.alloc (((((w.alloc (.cells #[.int .i64 t0, .int .i64 t1, .string t2, .slice fA fn fc, .slice none 0 0] 41)).alloc (.cells #[.func (.func 52) #[] #[.pointer (some ⟨Sa, 0, none⟩), .pointer (some ⟨Sb, 0, none⟩)]] 50)).alloc (.map #[] 0)).alloc (.cells #[.map (some (w.heap.size + 1 + 1))] 83)).alloc (.cells #[.func (.func 62) #[] #[.pointer (some ⟨w.heap.size + 1, 0, none⟩), .pointer (some ⟨w.heap.size + 1 + 1 + 1, 0, none⟩), .pointer (some ⟨w.heap.size + 1 + 1 + 1 + 1 + 1, 0, none⟩)]] 50)) (.cells #[.func (.func 61) #[] #[.pointer (some ⟨w.heap.size + 1 + 1 + 1 + 1, 0, none⟩)]] 50)).heap.size = w.heap.size + 6 := by
    rw [World.size_alloc, World.size_alloc, World.size_alloc, World.size_alloc, World.size_alloc, World.size_alloc]
  generalize World.alloc _ _ = wE at H6 hsz ⊢
  obtain ⟨hB, hI, hM, hK, hO, hF⟩ := H6.out
  have HBE := Lib.hid hB
  have HSz := Lib.hid hsz
  have HC := Lib.hid (each2_names (w.heap.size + 1) (w.heap.size + 1 + 1 + 1) (w.heap.size + 1 + 1 + 1 + 1 + 1) (w.heap.size + 1 + 1) R (w.heap.size + 1 + 1 + 1 + 1) Sa Sb _ _ _ t0 t1 t2 fA fn fc wE Q (fun W hW => HIs.out W (below_then hB hW)) (fun a b => HQ.out _ a b (by omega))
    (by have := HR.out; have := HSz.out; omega) (by have := HR.out; omega) (by have := HR.out; omega) (by have := HR.out; omega) hI hK hF ⟨hM, by simp⟩)
  clear hB hI hM hK hO hF H6 HIs hsz
  refine HC.out.mono ?_
  rintro e w3 ⟨rfl, hc3, hq3⟩
  have HCw := Lib.hid (And.intro (hc3.one HBE.out (by omega)) hq3)
  clear hc3 hq3
  go_wp2
  go_ret
  exact ⟨rfl, HCw.out⟩
theorem code_Fields (w : World) : Calls Try.prog 48 #[] w fun e w' => (∃ A c, e = .returned (.slice A 4 c)) ∧ Below w.heap.size w w' := by
  go_enter Try.func48, Try.ntmps48
  go_wp2
  go_ret
  exact ⟨⟨_, _, rfl⟩, below_alloc _ _⟩
theorem code_Tags (w : World) : Calls Try.prog 49 #[] w fun e w' => (∃ A c, e = .returned (.slice A 6 c)) ∧ Below w.heap.size w w' := by
  go_enter Try.func49, Try.ntmps49
  go_wp2
  go_ret
  exact ⟨⟨_, _, rfl⟩, below_alloc _ _⟩
set_option maxHeartbeats 2000000 in
theorem names2 (Sa Sb : Nat) (k n : Int) (hk : k = 1 ∨ k = 2) (w : World) : Calls Try.prog 52 #[lfV k n, .pointer (some ⟨Sa, 0, none⟩), .pointer (some ⟨Sb, 0, none⟩)] w fun e w' => e = .returned (.bool true) ∧ Below w.heap.size w w' := by
  have HB0 := Lib.hid (below_alloc w (.cells #[.int .i64 k, .int .i64 n, .string ⟨#[]⟩, .slice none 0 0, .slice none 0 0] 41))
  unfold lfV
  have hne : (k != 3) = true := by rcases hk with rfl | rfl <;> rfl
  clear hk
  go_enter Try.func52, Try.ntmps52
  go_wp2
  go_ret
  exact ⟨rfl, HB0.out⟩
theorem code_each_names (Sa Sb : Nat) (k n : Int) (hk : k = 1 ∨ k = 2) (w : World) :
    Calls Try.prog 43 #[lfV k n, .func (.func 52) #[] #[.pointer (some ⟨Sa, 0, none⟩), .pointer (some ⟨Sb, 0, none⟩)]] w fun e w' => e = .returned (.bool true) ∧ Below w.heap.size w w' := by
  have hs := each_names (w.heap.size + 100) Sa Sb k n ⟨#[]⟩ none 0 0 w (fun _ => True) (fun W _ => (names2 Sa Sb k n hk W).mono fun _ _ h => ⟨h.1, Chg.of h.2, trivial⟩) (fun _ _ _ _ _ _ _ => trivial) (Or.inr (by omega))
  exact hs.mono fun _ _ h => ⟨h.1, h.2.1.low (by omega) (Nat.le_refl _)⟩
set_option maxHeartbeats 2000000 in
theorem code_Names (k n : Int) (hk : k = 1 ∨ k = 2) (w : World) : Calls Try.prog 33 #[lfV k n] w fun e w' => e = .returned (.bool true) ∧ Below w.heap.size w w' := by
  have HE := Lib.hid (fun (Sa Sb : Nat) => code_each_names Sa Sb k n hk)
  have hmf : ∀ (fn : Fn) (first cap : Array Value) (w : World), (Instr.makeFunc fn first cap).run Try.prog w = .ok (.func fn first cap) w := fun _ _ _ _ => rfl
  have H0 := Lib.hid (heap_alloc_new w (.cells #[.int .i64 k, .int .i64 n, .string ⟨#[]⟩, .slice none 0 0, .slice none 0 0] 41))
  have HB0 := Lib.hid (below_alloc w (.cells #[.int .i64 k, .int .i64 n, .string ⟨#[]⟩, .slice none 0 0, .slice none 0 0] 41))
  unfold lfV at HE ⊢
  clear hk
  go_enter Try.func33, Try.ntmps33
  go_wp2_with (go_at_call 48; refine (code_Fields _).mono ?_; rintro e w2 ⟨⟨Af, cf, rfl⟩, hb⟩; refine Stop.out ?_)
  unfold Stop
  have HB2 := Lib.hid (below_then HB0.out hb)
  have H2 := Lib.hid (heap_on hb H0.out)
  clear hb H0 HB0
  go_wp2_with (go_at_call 49; refine (code_Tags _).mono ?_; rintro e w3 ⟨⟨Ag, cg, rfl⟩, hb⟩; refine Stop.out ?_)
  unfold Stop
  have HB3 := Lib.hid (below_then HB2.out hb)
  have H3 := Lib.hid (heap_on hb H2.out)
  clear hb H2 HB2
  go_wp2_with (with_reducible show wpList _ _ _ (({ dst := some 9, op := Op.load _ _, .. } : Oper) :: _) _ _; refine Stop.out ?_)
  unfold Stop
  have hb := below_then (below_alloc w3 (.cells #[.slice Af 4 cf] 76)) (below_then (below_alloc (w3.alloc (.cells #[.slice Af 4 cf] 76)) (.cells #[.slice Ag 6 cg] 76)) (below_alloc ((w3.alloc (.cells #[.slice Af 4 cf] 76)).alloc (.cells #[.slice Ag 6 cg] 76)) (.cells #[.func (.func 50) #[] #[.pointer (some ⟨w3.heap.size + 1, 0, none⟩)]] 79)))
  have HB4 := Lib.hid (below_then HB3.out hb)
  obtain ⟨e0, e1, e2, e3, e4⟩ := row5c (heap_on hb H3.out)
  generalize World.alloc _ _ = w4 at hb HB4 e0 e1 e2 e3 e4 ⊢
  clear hb H3 HB3
  go_wp2_with (go_at_call 43; refine (HE.out _ _ _).mono ?_; rintro e w5 ⟨rfl, hb⟩; refine Stop.out ?_)
  unfold Stop
  have HB5 := Lib.hid (below_then HB4.out hb)
  clear hb e0 e1 e2 e3 e4
  go_wp2
  go_ret
  exact ⟨rfl, HB5.out⟩
set_option maxHeartbeats 2000000 in
theorem code_isUnnamed (b : LB) (hk : b.2.1 = 1 ∨ b.2.1 = 2) (w : World) : Calls Try.prog 20 #[.agg (lbC b).toArray] w fun e w' => e = .returned (.bool false) ∧ Below w.heap.size w w' := by
  obtain ⟨n0, n1, n2⟩ := b
  have HG := Lib.hid (code_Names n1 n2 hk)
  have hx : (lbC (n0, n1, n2)).toArray = #[.int .i64 n0, .int .i64 n1, .int .i64 n2, .string ⟨#[]⟩, .slice none 0 0, .slice none 0 0] := rfl
  rw [hx]
  unfold lfV at HG
  have H0 := Lib.hid (heap_alloc_new w (.cells #[.int .i64 n0, .int .i64 n1, .int .i64 n2, .string ⟨#[]⟩, .slice none 0 0, .slice none 0 0] 43))
  have HB0 := Lib.hid (below_alloc w (.cells #[.int .i64 n0, .int .i64 n1, .int .i64 n2, .string ⟨#[]⟩, .slice none 0 0, .slice none 0 0] 43))
  clear hk hx
  go_enter Try.func20, Try.ntmps20
  obtain ⟨e0, e1, e2, e3, e4, e5⟩ := row6c H0.out
  go_wp2_with (go_at_call 33; refine (HG.out _).mono ?_; rintro e w3 ⟨rfl, hb⟩; refine Stop.out ?_)
  unfold Stop
  have HB3 := Lib.hid (below_then HB0.out hb)
  clear hb e0 e1 e2 e3 e4 e5
  go_wp2
  go_ret
  exact ⟨rfl, HB3.out⟩
set_option maxHeartbeats 4000000 in
theorem code_index_boxes (b c : Nat) (l : List LB) (w : World) (hl : l.length ≤ 20) (hr : RowB w b l) (hok : ∀ x ∈ l, x.2.1 = 1 ∨ x.2.1 = 2) : Calls Try.prog 32 #[.slice (some ⟨b, 0, none⟩) l.length c, .func (.func 20) #[] #[]] w fun e w' => e = .returned (.int .i64 (-1)) ∧ Below w.heap.size w w' := by
  have HR := Lib.hid hr
  have HOk := Lib.hid hok
  have hln : (l.length : Int) ≤ 20 := by omega
  clear hr hok hl
  go_enter Try.func32, Try.ntmps32
  go_wp2
  go_loopw [8] (fun v8 wr => ∃ k : Nat, k ≤ l.length ∧ v8 = .int .i64 (k : Nat) ∧ Hid (Below w.heap.size w wr)) (fun v8 _ => l.length - (intOf v8).toNat)
  case atStart => exact ⟨0, Nat.zero_le _, rfl, Lib.hid (Below.refl _ _)⟩
  case round =>
    obtain ⟨k, hk, rfl, HB⟩ := hrel
    by_cases hlt : k < l.length
    · have HRow := Lib.hid (HR.out.on HB.out)
      obtain ⟨tk, htk⟩ : ∃ t, t = l[k] := ⟨_, rfl⟩
      have HC := Lib.hid (HRow.out.cells k hlt)
      have hOk := HOk.out l[k] (List.getElem_mem _)
      rw [← htk] at HC hOk
      have HG := Lib.hid (fun W => code_isUnnamed tk hOk W)
      obtain ⟨n0, n1, n2⟩ := tk
      have hx : (lbC (n0, n1, n2)).toArray = #[.int .i64 n0, .int .i64 n1, .int .i64 n2, .string ⟨#[]⟩, .slice none 0 0, .slice none 0 0] := rfl
      rw [hx] at HG
      clear htk hx hOk
      have u0 := HC.out 0 _ rfl
      rw [Nat.add_zero] at u0
      have u1 := HC.out 1 _ rfl
      have u2 := HC.out 2 _ rfl
      have u3 := HC.out 3 _ rfl
      have u4 := HC.out 4 _ rfl
      have u5 := HC.out 5 _ rfl
      clear HC
      go_wp2_with (go_at_call 20; refine (HG.out _).mono ?_; rintro e w3 ⟨rfl, hb⟩; refine Stop.out ?_)
      unfold Stop
      have HB6 := Lib.hid (below_then HB.out hb)
      clear hb u0 u1 u2 u3 u4 u5
      go_wp2
      exact ⟨⟨k + 1, by omega, by simp, HB6⟩, by simp [intOf]; omega⟩
    · obtain rfl : k = l.length := by omega
      go_wp2
      go_ret
      exact ⟨rfl, HB.out⟩
theorem code_unnamed (b c : Nat) (l : List LB) (w : World) (hl : l.length ≤ 20) (hr : RowB w b l) (hok : ∀ x ∈ l, x.2.1 = 1 ∨ x.2.1 = 2) : Calls Try.prog 19 #[.slice (some ⟨b, 0, none⟩) l.length c, .func (.func 20) #[] #[]] w fun e w' => e = .returned (.bool false) ∧ Below w.heap.size w w' := by
  have HI := Lib.hid (code_index_boxes b c l w hl hr hok)
  clear hl hr hok
  go_enter Try.func19, Try.ntmps19
  go_wp2_with (go_at_call 32; refine HI.out.mono ?_; rintro e wz ⟨rfl, hb⟩; refine Stop.out ?_)
  unfold Stop
  have HB := Lib.hid hb
  clear hb
  go_wp2
  go_ret
  exact ⟨rfl, HB.out⟩
end Go.Proofs.Ytbplhjoompgemaa
