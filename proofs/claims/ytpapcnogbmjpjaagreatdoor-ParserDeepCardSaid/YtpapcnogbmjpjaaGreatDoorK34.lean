/- A program that is read. -/
import Derived.Test.YtpapcnogbmjpjaaGreatDoorK33
namespace Go.Proofs.YtpapcnogbmjpjaaGreatDoor
open Go.RowKit
set_option maxRecDepth 100000
set_option linter.unusedSimpArgs false
set_option linter.unusedVariables false
attribute [local go_sem] Oper.semAt_some

set_option maxHeartbeats 8000000 in
theorem code_read_program (s : ByteArray) (w : World) (hs : s.size ≤ 65536) (hF : ∀ (R : Nat) (en : Int) (s : Rd) (w : World), RdAt w R en s → Calls Tryz.prog 14 #[.pointer (some ⟨R, 0, none⟩)] w (OutB R en w (programP en s))) (hO : ∀ en s, programP en s ≠ .out) : Calls Tryz.prog 13 #[.string s, .func (.func 14) #[] #[]] w (OutR w (readP programP s)) := by
  have hmf : ∀ (fn : Fn) (first cap : Array Value) (w : World), (Instr.makeFunc fn first cap).run Tryz.prog w = .ok (.func fn first cap) w := fun _ _ _ _ => rfl
  have hbr := build_rd
  have HF := Lib.hid hF
  obtain ⟨hB, hc, hz⟩ := three_alloc w
  have HLx := Lib.hid (code_lex s (((w.alloc (.cells #[.slice none 0 0] 23)).alloc (.cells #[.int .i64 0] 3)).alloc (.cells #[.int .i64 0] 24)) hs)
  have HTl : Hid ((lexI s 0 []).1.length ≤ 65536) := Lib.hid (Nat.le_trans (lex_bound (s := s) 0 [] (Nat.zero_le _) (Nat.le_refl _) (Nat.le_refl _)).1 hs)
  have HC0 := Lib.hid hc
  have HB0 := Lib.hid hB
  have HZ0 := Lib.hid hz
  have hsz : (s.size : Int) ≤ 65536 := by omega
  obtain ⟨r, hr⟩ : ∃ r, readP programP s = r := ⟨_, rfl⟩
  rw [hr]
  unfold readP at hr
  obtain ⟨X, hX⟩ : ∃ X, lexI s 0 [] = X := ⟨_, rfl⟩
  rw [hX] at HLx hr HTl
  obtain ⟨T, a', k⟩ := X
  dsimp only at HLx hr HTl
  obtain ⟨a, ha⟩ : ∃ a : Int, a = ((a' : Nat) : Int) := ⟨_, rfl⟩
  rw [← ha] at HLx hr
  have HRr := Lib.hid hr
  obtain ⟨en, hen⟩ : ∃ en : Int, en = ((s.size : Nat) : Int) := ⟨_, rfl⟩
  rw [← hen] at HRr
  have HEn := Lib.hid hen
  have HNo : Hid (∀ en s, programP en s ≠ .out) := Lib.hid hO
  clear hF hB hc hz hr hX ha hen hs hO
  go_enter_defers Tryz.func13, Tryz.ntmps13
  go_wp2_with (go_at_call 27; refine HLx.out.mono ?_; rintro e w4 ⟨v, rfl, hown, hb⟩; refine Stop.out ?_)
  unfold Stop
  have HC4 := Lib.hid (HC0.out.on hb)
  have HB4 := Lib.hid (below_then HB0.out hb)
  have HO4 := Lib.hid hown
  clear hown hb HLx
  obtain ⟨e0, e1, e2, z0, z1, z2⟩ := HC4.out.cells
  go_wp2_with (with_reducible show wpList _ _ _ (({ dst := some 15, op := Op.load _ _, .. } : Oper) :: _) _ _; refine Stop.out ?_)
  unfold Stop
  have HC3 := Lib.hid ((HC4.out.put1 (.int .i64 a)).put2 (.int .i64 k))
  have HCg : Hid (Chg3 w.heap.size w4 ((w4.setCell ⟨w.heap.size + 1, 0, none⟩ (.int .i64 a)).setCell ⟨w.heap.size + 2, 0, none⟩ (.int .i64 k))) := Lib.hid ((Chg3.one w4 w.heap.size 1 (by decide) (.int .i64 a)).trans (Chg3.one _ w.heap.size 2 (by decide) (.int .i64 k)))
  clear e0 e1 e2 z0 z1 z2 HC4
  generalize World.setCell (World.setCell _ _ _) _ _ = w5 at HC3 HCg ⊢
  have HLo := Lib.hid ((Chg3.of HB4.out).trans HCg.out)
  have HO5 : Hid (OwnTokV w5 (w.heap.size + 3) v T) := Lib.hid (own_chg3 (own_less HO4.out (Nat.le_of_eq HZ0.out.symm)) (by omega) HCg.out)
  clear HCg HO4 HB4 HB0 HC0
  obtain ⟨e0, e1, e2, z0, z1, z2⟩ := HC3.out.cells
  by_cases hk : k = 0
  · subst hk
    have hr1 : (match programP en ⟨T, false, false⟩ with | .flt a k => RR.err a k | .out => RR.err 0 0 | .ok l sx => if chkS sx l ≠ 0 then RR.err 0 (chkS sx l) else RR.ok l) = r := by have := HRr.out; rw [if_neg (by simp)] at this; exact this
    have HRr1 := Lib.hid hr1
    obtain ⟨A, c, rfl, _⟩ := HO5.out.form
    have HA6 := Lib.hid (heap_alloc_new w5 (.cells #[.slice A T.length c, .int .i64 en, .bool false, .bool false] 79))
    have HB6 := Lib.hid (below_alloc w5 (.cells #[.slice A T.length c, .int .i64 en, .bool false, .bool false] 79))
    have HR6 := Lib.hid (rd_fresh (OwnTokV.on HO5.out HB6.out) HA6.out (by have := HTl.out; omega))
    have HN := Lib.hid (HF.out _ en _ _ HR6.out)
    clear hr1 HRr HF
    have hen2 := HEn.out
    rw [hen2] at HN HA6 HB6 HR6 HRr1
    cases hp : programP ((s.size : Nat) : Int) ⟨T, false, false⟩ with
    | out => exact (HNo.out _ _ hp).elim
    | flt b kk =>
      rw [hp] at HN
      have hr2 := HRr1.out
      rw [hp] at hr2
      dsimp only at hr2
      subst hr2
      clear hp HRr1
      go_wp2_with (go_at_call 14; refine HN.out.mono ?_; rintro e w7 ⟨rfl, hc⟩; refine Stop.out ?_)
      unfold Stop
      have HC7 : Hid (C3 w7 w.heap.size (.slice none 0 0) (.int .i64 a) (.int .i64 0)) := Lib.hid (have h6 := HC3.out.on HB6.out; ⟨cell_far hc h6.h0 (by have := heapLt HC3.out.h2; omega), cell_far hc h6.h1 (by have := heapLt HC3.out.h2; omega), cell_far hc h6.h2 (by have := heapLt HC3.out.h2; omega)⟩)
      have HLo7 : Hid (Below w.heap.size w w7) := Lib.hid (((HLo.out.trans (Chg3.of HB6.out)).low (Nat.le_refl _) (Nat.le_refl _)).trans (hc.low (by have := HLo.out.2.2.2.1; omega) (by have := HLo.out.2.2.2.1; have := HB6.out.size; omega)))
      clear hc
      (try go_wp2)
      refine leaves_cons (f := 28) (args := #[.pointer (some ⟨w.heap.size, 0, none⟩), .pointer (some ⟨w.heap.size + 1, 0, none⟩), .pointer (some ⟨w.heap.size + 2, 0, none⟩)]) (by simp) (by simp [go_sem]) ?_
      refine (catch_read w.heap.size _ _ _ w7 b kk [] HC7.out).mono ?_
      rintro e u' w'' ⟨rfl, rfl, hc3, hl⟩
      show Leaves _ _ _ _ [] .returning _
      exact ⟨_, results_c3 rfl _ _ w.heap.size _ _ _ rfl rfl rfl hc3, rfl, HLo7.out.trans (hl.low (Nat.le_refl _) HLo7.out.size)⟩
    | ok l sx =>
      rw [hp] at HN
      have hr2 := HRr1.out
      rw [hp] at hr2
      dsimp only at hr2
      clear hp HRr1
      go_wp2_with (go_at_call 14; refine HN.out.mono ?_; rintro e w7 ⟨v, lt, rfl, ho, hbq, hrd, hc⟩; refine Stop.out ?_)
      unfold Stop
      obtain ⟨LA, LC, rfl, _⟩ := own_rowx ho
      have HC7 : Hid (C3 w7 w.heap.size (.slice none 0 0) (.int .i64 a) (.int .i64 0)) := Lib.hid (have h6 := HC3.out.on HB6.out; ⟨cell_far hc h6.h0 (by have := heapLt HC3.out.h2; omega), cell_far hc h6.h1 (by have := heapLt HC3.out.h2; omega), cell_far hc h6.h2 (by have := heapLt HC3.out.h2; omega)⟩)
      have HLo7 : Hid (Below w.heap.size w w7) := Lib.hid (((HLo.out.trans (Chg3.of HB6.out)).low (Nat.le_refl _) (Nat.le_refl _)).trans (hc.low (by have := HLo.out.2.2.2.1; omega) (by have := HLo.out.2.2.2.1; have := HB6.out.size; omega)))
      have HGb : Hid (w.heap.size + 2 < (w5.alloc (.cells #[.slice A T.length c, .int .i64 ((s.size : Nat) : Int), .bool false, .bool false] 79)).heap.size) := Lib.hid (by have := heapLt HC3.out.h2; have := HB6.out.size; omega)
      have HOw := Lib.hid ho
      have HBq := Lib.hid hbq
      have HRd := Lib.hid hrd
      have HCr := Lib.hid hc
      have HRn : Hid (w5.heap.size ≠ w.heap.size) := Lib.hid (by have := heapLt HC3.out.h2; omega)
      clear e0 e1 e2 z0 z1 z2 ho hbq hrd hc HN HR6 HA6
      obtain ⟨e0, e1, e2, z0, z1, z2⟩ := HC7.out.cells
      go_wp2_with (with_reducible show wpList _ _ _ (({ dst := some 29, op := Op.load _ _, .. } : Oper) :: _) _ _; refine Stop.out ?_)
      unfold Stop
      have HC8 := Lib.hid (HC7.out.put0 (.slice LA lt.length LC))
      have HG8 := Lib.hid (Chg3.one w7 w.heap.size 0 (by decide) (.slice LA lt.length LC))
      have HO8 := Lib.hid (own_chg3 HOw.out HGb.out HG8.out)
      have HQ8 := Lib.hid (HBq.out.chg3 HGb.out HC7.out HG8.out)
      have HR8 := Lib.hid (HRd.out.chg3 HC7.out HG8.out)
      have HL8 := Lib.hid (HLo7.out.trans (HG8.out.low (Nat.le_refl _) HLo7.out.size))
      clear e0 e1 e2 z0 z1 z2 HC7 HG8 HOw HBq HRd HLo7
      generalize World.setCell w7 _ _ = w8 at HC8 HO8 HQ8 HR8 HL8 ⊢
      have HCk := Lib.hid (code_check HR8.out HO8.out HQ8.out.trees)
      rw [chk_same HQ8.out] at HCk
      obtain ⟨x, hx⟩ : ∃ x, chkS sx l = x := ⟨_, rfl⟩
      rw [hx] at HCk hr2
      clear hx HR8
      obtain ⟨e0, e1, e2, z0, z1, z2⟩ := HC8.out.cells
      go_wp2_with (go_at_call 29; refine HCk.out.mono ?_; rintro e w9 ⟨rfl, hb⟩; refine Stop.out ?_)
      unfold Stop
      clear e0 e1 e2 z0 z1 z2
      have HC9 := Lib.hid (HC8.out.on hb)
      have HO9 := Lib.hid (own_on HO8.out hb)
      have HQ9 := Lib.hid (HQ8.out.on hb)
      have HL9 := Lib.hid (HL8.out.trans (hb.mono HL8.out.size))
      clear hb HC8 HO8 HQ8 HL8 HCk
      obtain ⟨e0, e1, e2, z0, z1, z2⟩ := HC9.out.cells
      go_wp2_with (with_reducible show wpList _ _ _ (({ dst := some 31, op := Op.load _ _, .. } : Oper) :: _) _ _; refine Stop.out ?_)
      unfold Stop
      have HC3 := Lib.hid (HC9.out.put2 (.int .i64 x))
      have HG10 := Lib.hid (Chg3.one w9 w.heap.size 2 (by decide) (.int .i64 x))
      have HO10 := Lib.hid (own_chg3 HO9.out HGb.out HG10.out)
      have HQ10 := Lib.hid (HQ9.out.chg3 HGb.out HC9.out HG10.out)
      have HL10 := Lib.hid (HL9.out.trans (HG10.out.low (Nat.le_refl _) HL9.out.size))
      clear e0 e1 e2 z0 z1 z2 HC9 HG10 HO9 HQ9 HL9
      generalize World.setCell w9 _ _ = w10 at HC3 HO10 HQ10 HL10 ⊢
      obtain ⟨e0, e1, e2, z0, z1, z2⟩ := HC3.out.cells
      by_cases hx0 : x = 0
      · subst hx0
        rw [if_neg (by simp)] at hr2
        subst hr2
        go_wp2
        have HG11 := Lib.hid (((Chg3.one w10 w.heap.size 0 (by decide) (.slice LA lt.length LC)).trans (Chg3.one _ w.heap.size 1 (by decide) (.int .i64 0))).trans (Chg3.one _ w.heap.size 2 (by decide) (.int .i64 0)))
        have HC11 := Lib.hid (((HC3.out.put0 (.slice LA lt.length LC)).put1 (.int .i64 0)).put2 (.int .i64 0))
        have hq2 := HQ10.out.chg3 HGb.out HC3.out HG11.out
        have ho2 := own_chg3 HO10.out HGb.out HG11.out
        refine leaves_cons (f := 28) (args := #[.pointer (some ⟨w.heap.size, 0, none⟩), .pointer (some ⟨w.heap.size + 1, 0, none⟩), .pointer (some ⟨w.heap.size + 2, 0, none⟩)]) (by simp) (by simp [go_sem]) ?_
        refine (idle_read w.heap.size _).mono ?_
        rintro e u' w'' ⟨rfl, rfl, rfl⟩
        show Leaves _ _ _ _ [] .returning _
        exact ⟨_, results_c3 rfl _ _ w.heap.size _ _ _ rfl rfl rfl HC11.out, _, lt, rfl, own_less ho2 (by have := HGb.out; omega), hq2.less (by have := HGb.out; omega), HL10.out.trans (HG11.out.low (Nat.le_refl _) HL10.out.size)⟩
      · rw [if_pos (by exact hx0)] at hr2
        subst hr2
        have hxn : (x != 0) = true := by simpa using hx0
        have HLo := Lib.hid HL10.out
        go_wp2
        refine wp_region_noPanic (wp_region_held_drew (S := fun V : World => V.heap[w.heap.size + 2]? = some (.cells #[.int .i64 x] 24 (0, 0))) (by kernel_rfl) (heap_on (below_drew w10) HC3.out.h2) ?_)
        intro hHeld
        have HC3d := Lib.hid (HC3.out.on (below_drew w10))
        have HLod := Lib.hid (Chg3.of (g := w.heap.size) (HL10.out.trans ((below_drew w10).mono HL10.out.size)))
        clear HC3 HLo e0 e1 e2 z0 z1 z2 HO10 HQ10 HL10
        have HC3 := HC3d
        have HLo := HLod
        clear HC3d HLod
        generalize w10.drew = wd at hHeld HC3 HLo ⊢
        (refine takeH (i := 0) (v := ?_) rfl (by kernel_rfl) (by kernel_rfl) (by kernel_rfl) (fun _ _ _ h => h) (Or.inl ⟨by rfl, ?_⟩) (by assumption) ?_; rotate_left; (focus ((intro wS hSw); (try dsimp only at hSw); have r0 := cell_of_row wS (w.heap.size + 2) 0 _ _ _ hSw; go_simp; (try with_reducible rfl); done)); (try simp only [Act.put, List.setIfInBounds_toArray, List.set_cons_zero, List.set_cons_succ]))
        refine aloneH (i := 1) rfl (by kernel_rfl) (fun K hK => ?_)
        rw [if_pos (by rfl)]
        obtain ⟨e0, e1, e2, z0, z1, z2⟩ := HC3.out.cells
        go_simp
        clear e0 e1 e2 z0 z1 z2
        have HC31 := Lib.hid (HC3.out.put0 (.slice none 0 0))
        have HLo1 := Lib.hid (HLo.out.trans (Chg3.one wd w.heap.size 0 (by decide) (.slice none 0 0)))
        generalize World.setCell wd _ _ = q1 at HC31 HLo1 ⊢
        refine hK.out _ _ (HC31.out.h2) (fun hNew => ?_)
        clear hK K hHeld; (have hHeld := hNew); clear hNew; (try simp only [Act.put])
        refine aloneH (i := 2) rfl (by kernel_rfl) (fun K hK => ?_)
        rw [if_pos (by rfl)]
        obtain ⟨e0, e1, e2, z0, z1, z2⟩ := HC31.out.cells
        go_simp
        clear e0 e1 e2 z0 z1 z2
        have HC32 := Lib.hid (HC31.out.put1 (.int .i64 0))
        have HLo2 := Lib.hid (HLo1.out.trans (Chg3.one q1 w.heap.size 1 (by decide) (.int .i64 0)))
        generalize World.setCell q1 _ _ = q2 at HC32 HLo2 ⊢
        refine hK.out _ _ (HC32.out.h2) (fun hNew => ?_)
        clear hK K hHeld; (have hHeld := hNew); clear hNew; (try simp only [Act.put])
        refine aloneH (i := 3) rfl (by kernel_rfl) (fun K hK => ?_)
        rw [if_pos (by rfl)]
        obtain ⟨e0, e1, e2, z0, z1, z2⟩ := HC32.out.cells
        go_simp
        clear e0 e1 e2 z0 z1 z2
        have HC33 := Lib.hid (HC32.out.put2 (.int .i64 x))
        have HLo3 := Lib.hid (HLo2.out.trans (Chg3.one q2 w.heap.size 2 (by decide) (.int .i64 x)))
        generalize World.setCell q2 _ _ = q3 at HC33 HLo3 ⊢
        refine hK.out _ _ (HC33.out.h2) (fun hNew => ?_)
        clear hK K hHeld; (have hHeld := hNew); clear hNew; (try simp only [Act.put])
        refine wpAnyH_done (by kernel_rfl) ?_ _
        clear hHeld
        refine NoPanic.normal ?_
        go_wp2
        refine leaves_cons (f := 28) (args := #[.pointer (some ⟨w.heap.size, 0, none⟩), .pointer (some ⟨w.heap.size + 1, 0, none⟩), .pointer (some ⟨w.heap.size + 2, 0, none⟩)]) (by simp) (by simp [go_sem]) ?_
        refine (idle_read w.heap.size _).mono ?_
        rintro e u' w'' ⟨rfl, rfl, rfl⟩
        show Leaves _ _ _ _ [] .returning _
        exact ⟨_, results_c3 rfl _ _ w.heap.size _ _ _ rfl rfl rfl HC33.out, rfl, HLo3.out.low (Nat.le_refl _) (Nat.le_refl _)⟩
  · have hr1 : RR.err a k = r := by have := HRr.out; rw [if_pos (by exact hk)] at this; exact this
    subst hr1
    have hkn : (k != 0) = true := by simpa using hk
    clear HRr hk HF
    go_wp2
    refine wp_region_noPanic (wp_region_held_drew (S := fun V : World => V.heap[w.heap.size + 1]? = some (.cells #[.int .i64 a] 3 (0, 0)) ∧ V.heap[w.heap.size + 2]? = some (.cells #[.int .i64 k] 24 (0, 0))) (by kernel_rfl) ⟨heap_on (below_drew w5) HC3.out.h1, heap_on (below_drew w5) HC3.out.h2⟩ ?_)
    intro hHeld
    have HC3d := Lib.hid (HC3.out.on (below_drew w5))
    have HLod := Lib.hid (HLo.out.trans (Chg3.of (below_drew w5)))
    clear HC3 HLo e0 e1 e2 z0 z1 z2 HO5
    have HC3 := HC3d
    have HLo := HLod
    clear HC3d HLod
    generalize w5.drew = w5 at hHeld HC3 HLo ⊢
    (refine takeH (i := 0) (v := ?_) rfl (by kernel_rfl) (by kernel_rfl) (by kernel_rfl) (fun _ _ _ h => h) (Or.inl ⟨by rfl, ?_⟩) (by assumption) ?_; rotate_left; (focus ((intro wS hSw); (try dsimp only at hSw); obtain ⟨r0, r1⟩ := And.intro (cell_of_row wS (w.heap.size + 1) 0 _ _ _ hSw.1) (cell_of_row wS (w.heap.size + 2) 0 _ _ _ hSw.2); go_simp; (try with_reducible rfl); done)); (try simp only [Act.put, List.setIfInBounds_toArray, List.set_cons_zero, List.set_cons_succ]))
    (refine takeH (i := 1) (v := ?_) rfl (by kernel_rfl) (by kernel_rfl) (by kernel_rfl) (fun _ _ _ h => h) (Or.inl ⟨by rfl, ?_⟩) (by assumption) ?_; rotate_left; (focus ((intro wS hSw); (try dsimp only at hSw); obtain ⟨r0, r1⟩ := And.intro (cell_of_row wS (w.heap.size + 1) 0 _ _ _ hSw.1) (cell_of_row wS (w.heap.size + 2) 0 _ _ _ hSw.2); go_simp; (try with_reducible rfl); done)); (try simp only [Act.put, List.setIfInBounds_toArray, List.set_cons_zero, List.set_cons_succ]))
    refine aloneH (i := 2) rfl (by kernel_rfl) (fun K hK => ?_)
    rw [if_pos (by rfl)]
    obtain ⟨e0, e1, e2, z0, z1, z2⟩ := HC3.out.cells
    go_simp
    clear e0 e1 e2 z0 z1 z2
    have HC31 := Lib.hid (HC3.out.put0 (.slice none 0 0))
    have HLo1 := Lib.hid (HLo.out.trans (Chg3.one w5 w.heap.size 0 (by decide) (.slice none 0 0)))
    generalize World.setCell w5 _ _ = q1 at HC31 HLo1 ⊢
    refine hK.out _ _ (⟨HC31.out.h1, HC31.out.h2⟩) (fun hNew => ?_)
    clear hK K hHeld; (have hHeld := hNew); clear hNew; (try simp only [Act.put])
    refine aloneH (i := 3) rfl (by kernel_rfl) (fun K hK => ?_)
    rw [if_pos (by rfl)]
    obtain ⟨e0, e1, e2, z0, z1, z2⟩ := HC31.out.cells
    go_simp
    clear e0 e1 e2 z0 z1 z2
    have HC32 := Lib.hid (HC31.out.put1 (.int .i64 a))
    have HLo2 := Lib.hid (HLo1.out.trans (Chg3.one q1 w.heap.size 1 (by decide) (.int .i64 a)))
    generalize World.setCell q1 _ _ = q2 at HC32 HLo2 ⊢
    refine hK.out _ _ (⟨HC32.out.h1, HC32.out.h2⟩) (fun hNew => ?_)
    clear hK K hHeld; (have hHeld := hNew); clear hNew; (try simp only [Act.put])
    refine aloneH (i := 4) rfl (by kernel_rfl) (fun K hK => ?_)
    rw [if_pos (by rfl)]
    obtain ⟨e0, e1, e2, z0, z1, z2⟩ := HC32.out.cells
    go_simp
    clear e0 e1 e2 z0 z1 z2
    have HC33 := Lib.hid (HC32.out.put2 (.int .i64 k))
    have HLo3 := Lib.hid (HLo2.out.trans (Chg3.one q2 w.heap.size 2 (by decide) (.int .i64 k)))
    generalize World.setCell q2 _ _ = q3 at HC33 HLo3 ⊢
    refine hK.out _ _ (⟨HC33.out.h1, HC33.out.h2⟩) (fun hNew => ?_)
    clear hK K hHeld; (have hHeld := hNew); clear hNew; (try simp only [Act.put])
    refine wpAnyH_done (by kernel_rfl) ?_ _
    clear hHeld
    refine NoPanic.normal ?_
    go_wp2
    exact ⟨_, results_c3 rfl _ _ w.heap.size _ _ _ rfl rfl rfl HC33.out, rfl, HLo3.out.low (Nat.le_refl _) (Nat.le_refl _)⟩
set_option maxHeartbeats 4000000 in
theorem code_Parse (s : ByteArray) (w : World) (hs : s.size ≤ 65536) : Calls Tryz.prog 6 #[.string s] w (OutR w (readP programP s)) := by
  have HRd := Lib.hid (code_read_program s w hs (fun R en s w h => code_program h) programP_out)
  obtain ⟨r, hr⟩ : ∃ r, readP programP s = r := ⟨_, rfl⟩
  rw [hr] at HRd ⊢
  clear hr hs
  cases r with
  | err a k =>
    go_enter Tryz.func6, Tryz.ntmps6
    go_wp2_with (go_at_call 13; refine HRd.out.mono ?_; rintro e w3 ⟨rfl, hb⟩; refine Stop.out ?_)
    unfold Stop
    have HB := Lib.hid hb
    clear hb
    go_wp2
    go_ret3
    exact ⟨rfl, HB.out⟩
  | ok l =>
    go_enter Tryz.func6, Tryz.ntmps6
    go_wp2_with (go_at_call 13; refine HRd.out.mono ?_; rintro e w3 ⟨v, lt, rfl, ho, hq, hb⟩; refine Stop.out ?_)
    unfold Stop
    have HB := Lib.hid hb
    have HO := Lib.hid ho
    have HQ := Lib.hid hq
    clear hb ho hq
    go_wp2
    go_ret3
    exact ⟨_, lt, rfl, HO.out, HQ.out, HB.out⟩
end Go.Proofs.YtpapcnogbmjpjaaGreatDoor
