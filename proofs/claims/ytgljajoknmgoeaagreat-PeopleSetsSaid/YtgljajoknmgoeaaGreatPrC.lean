/- Other people, the same in all. -/
import Derived.Test.YtgljajoknmgoeaaGreatPrW
namespace Go.Proofs.YtgljajoknmgoeaaGreat
open Go.RowKit
set_option maxRecDepth 100000
attribute [local go_sem] Oper.semAt_some

/-- the same lines, wherever they lie -/
def Cp (F F2 : Lns) : Prop := ∀ s, (F2 s).map (·.2) = (F s).map (·.2)
open Classical in
/-- the same lines of the keys that were met -/
def CpT (F F2 : Lns) (T : Ks) : Prop := ∀ s, (F2 s).map (·.2) = if s ∈ T then (F s).map (·.2) else none
theorem CpT.next {F F2 : Lns} {T : Ks} {s : ByteArray} {B B2 : Nat} {L : List Sp} (h : CpT F F2 T) (hF : F s = some (B, L)) : CpT F (upd F2 s (some (B2, L))) (s :: T) := by
  intro s'
  by_cases hsc : s' = s
  · obtain rfl := hsc
    rw [upd_same, if_pos (List.mem_cons_self ..), hF]
    rfl
  · rw [upd_other hsc, h s']
    by_cases hT : s' ∈ T
    · rw [if_pos hT, if_pos (List.mem_cons_of_mem _ hT)]
    · rw [if_neg hT, if_neg (fun hm => by
        rcases List.mem_cons.1 hm with e | e
        · exact hsc e
        · exact hT e)]
theorem CpT.all {F F2 : Lns} {T : Ks} (h : CpT F F2 T) (hall : ∀ s, (F s).isSome = true → s ∈ T) : Cp F F2 := by
  intro s
  rw [h s]
  by_cases hT : s ∈ T
  · rw [if_pos hT]
  · rw [if_neg hT]
    cases hF : F s with
    | none => rfl
    | some y => exact absurd (hall s (by rw [hF]; rfl)) hT
theorem pm_made {W : World} {b : Nat} (hb : b ≤ W.heap.size) : PmAt (W.alloc (.map #[] 0)) b W.heap.size 0 (fun _ => none) :=
  ⟨⟨.map [], World.ownsMap_made W _ _ _, fun s _ => ⟨rfl, rfl⟩, fun kl h => (by cases h)⟩, fun s B L h => (by cases h), fun s s' B L L' h => (by cases h), hb, by simp; omega⟩
theorem pp_laid {W : World} {b B bm : Nat} {h : ByteArray} {O : List Sp} (hm : PmAt W b bm 0 (fun _ => none)) (hl : Lin W B 256 O) (hB : b ≤ B) (hW : b ≤ W.heap.size) (hmem : isMem h = true) :
    PpAt (W.alloc (.cells #[.pointer (some ⟨B, 0, none⟩), .string h, .map (some bm)] 58)) b W.heap.size B bm 0 h O (fun _ => none) :=
  ⟨heap_alloc_new _ _, hm.on (below_alloc _ _), hl.on (below_alloc _ _), hB, fun s L h => (by cases h), hW, hmem⟩
set_option maxHeartbeats 2000000 in
theorem code_pclone {w : World} {base P B0 bm n : Nat} {h : ByteArray} {O : List Sp} {F : Lns} (H : PpAt w base P B0 bm n h O F) (hbd : ∀ T, KsOk F T → T.length ≤ 1000) :
    Calls Tryz.prog 8 #[.pointer (some ⟨P, 0, none⟩)] w fun e w' => ∃ P2 B2 bm2 n2 F2, e = .returned (.pointer (some ⟨P2, 0, none⟩)) ∧ PpAt w' w.heap.size P2 B2 bm2 n2 h O F2 ∧ n2 ≤ 1000 ∧ Cp F F2 ∧ Below w.heap.size w w' := by
  have HMade := Lib.hid (code_pmade H)
  have HH := Lib.hid H
  have HBd := Lib.hid hbd
  have HMem := Lib.hid H.2.2.2.2.2.2
  have hmm := @run_makeMap Tryz.prog
  obtain ⟨c0, c1, c2⟩ := row3a H.1
  clear H hbd
  go_enter Tryz.func8, Tryz.ntmps8
  go_wp2_with (go_at_call 24; refine HMade.out.mono ?_; rintro e w1 ⟨rfl, rfl⟩; refine Stop.out ?_)
  unfold Stop
  go_wp2
  refine wp_region_held_drew (S := fun V => V.cell? ⟨P, 0, none⟩ = some (.pointer (some ⟨B0, 0, none⟩)) ∧ V.cell? ⟨P, 1, none⟩ = some (.string h)) (by kernel_rfl) ⟨cell_on (below_drew _) c0, cell_on (below_drew _) c1⟩ ?_
  intro hHeld
  have HCo : Hid (∀ V, Below w.drew.heap.size w.drew V → Calls Tryz.prog 25 #[.agg #[.pointer (some ⟨B0, 0, none⟩)]] V fun e w' => ∃ B', e = .returned (.agg #[.pointer (some ⟨B', 0, none⟩)]) ∧ Lin w' B' 256 O ∧ V.heap.size ≤ B' ∧ Below V.heap.size V w') := Lib.hid (fun V hV => code_copied V B0 O (HH.out.on (below_then (below_drew w) hV)).2.2.1)
  have HWd := Lib.hid (below_drew w)
  clear c0 c1 c2
  generalize w.drew = wd at HCo HWd hHeld ⊢
  (refine takeH (i := 0) (v := ?_) rfl (by kernel_rfl) (by kernel_rfl) (by kernel_rfl) (fun _ _ _ h => h) (Or.inl ⟨by rfl, ?_⟩) (by assumption) ?_; rotate_left; (focus ((intro wS hSw); (try dsimp only at hSw); obtain ⟨s0, s1⟩ := hSw; go_simp; (try with_reducible rfl); done)); (try simp only [Act.put, List.setIfInBounds_toArray, List.set_cons_zero, List.set_cons_succ]))
  (refine takeH (i := 1) (v := ?_) rfl (by kernel_rfl) (by kernel_rfl) (by kernel_rfl) (fun _ _ _ h => h) (Or.inl ⟨by rfl, ?_⟩) (by assumption) ?_; rotate_left; (focus ((intro wS hSw); (try dsimp only at hSw); obtain ⟨s0, s1⟩ := hSw; go_simp; (try with_reducible rfl); done)); (try simp only [Act.put, List.setIfInBounds_toArray, List.set_cons_zero, List.set_cons_succ]))
  (refine takeH (i := 2) (v := ?_) rfl (by kernel_rfl) (by kernel_rfl) (by kernel_rfl) (fun _ _ _ h => h) (Or.inl ⟨by rfl, ?_⟩) (by assumption) ?_; rotate_left; (focus ((intro wS hSw); (try dsimp only at hSw); obtain ⟨s0, s1⟩ := hSw; go_simp; (try with_reducible rfl); done)); (try simp only [Act.put, List.setIfInBounds_toArray, List.set_cons_zero, List.set_cons_succ]))
  (refine takeH (i := 3) (v := ?_) rfl (by kernel_rfl) (by kernel_rfl) (by kernel_rfl) (fun _ _ _ h => h) (Or.inl ⟨by rfl, ?_⟩) (by assumption) ?_; rotate_left; (focus ((intro wS hSw); (try dsimp only at hSw); obtain ⟨s0, s1⟩ := hSw; go_simp; (try with_reducible rfl); done)); (try simp only [Act.put, List.setIfInBounds_toArray, List.set_cons_zero, List.set_cons_succ]))
  (refine takeH (i := 5) (v := ?_) rfl (by kernel_rfl) (by kernel_rfl) (by kernel_rfl) (fun _ _ _ h => h) (Or.inl ⟨by rfl, ?_⟩) (by assumption) ?_; rotate_left; (focus ((intro wS hSw); (try dsimp only at hSw); obtain ⟨s0, s1⟩ := hSw; go_simp; (try with_reducible rfl); done)); (try simp only [Act.put, List.setIfInBounds_toArray, List.set_cons_zero, List.set_cons_succ]))
  (refine takeH (i := 6) (v := ?_) rfl (by kernel_rfl) (by kernel_rfl) (by kernel_rfl) (fun _ _ _ h => h) (Or.inl ⟨by rfl, ?_⟩) (by assumption) ?_; rotate_left; (focus ((intro wS hSw); (try dsimp only at hSw); obtain ⟨s0, s1⟩ := hSw; go_simp; (try with_reducible rfl); done)); (try simp only [Act.put, List.setIfInBounds_toArray, List.set_cons_zero, List.set_cons_succ]))
  (refine takeH (i := 7) (v := ?_) rfl (by kernel_rfl) (by kernel_rfl) (by kernel_rfl) (fun _ _ _ h => h) (Or.inl ⟨by rfl, ?_⟩) (by assumption) ?_; rotate_left; (focus ((intro wS hSw); (try dsimp only at hSw); obtain ⟨s0, s1⟩ := hSw; go_simp; (try with_reducible rfl); done)); (try simp only [Act.put, List.setIfInBounds_toArray, List.set_cons_zero, List.set_cons_succ]))
  (refine takeH (i := 8) (v := ?_) rfl (by kernel_rfl) (by kernel_rfl) (by kernel_rfl) (fun _ _ _ h => h) (Or.inl ⟨by rfl, ?_⟩) (by assumption) ?_; rotate_left; (focus ((intro wS hSw); (try dsimp only at hSw); obtain ⟨s0, s1⟩ := hSw; go_simp; (try with_reducible rfl); done)); (try simp only [Act.put, List.setIfInBounds_toArray, List.set_cons_zero, List.set_cons_succ]))
  refine twoH (i := 4) (i2 := 9) rfl rfl (by kernel_rfl) (fun K hK => ?_) (fun K hK => ?_)
  · rw [if_pos (by rfl)]
    go_simp; ((refine (HCo.out wd (below_same wd)).mono ?_); (rintro e w1 ⟨B2, rfl, hl, hB, hb⟩); have HL := Lib.hid (And.intro hl hB); have HB1 := Lib.hid hb; clear hl hB hb; (try go_simp))
    refine hK.out _ _ (⟨cell_on HB1.out hHeld.1, cell_on HB1.out hHeld.2⟩) (fun hNew => ?_)
    clear hK K hHeld; (have hHeld := hNew); clear hNew; (try simp only [Act.put, List.setIfInBounds_toArray, List.set_cons_zero, List.set_cons_succ])
    refine aloneH (i := 9) rfl (by kernel_rfl) (fun K hK => ?_)
    rw [if_pos (by rfl)]
    go_simp
    have HMp := Lib.hid (pm_made (b := w.heap.size) (W := w1) (Nat.le_trans HWd.out.size (HB1.out).size))
    have HB2 := Lib.hid (below_alloc w1 (.map #[] 0))
    generalize hx : World.alloc w1 (.map #[] 0) = w2 at HMp HB2 ⊢
    clear hx
    refine hK.out _ _ (⟨cell_on HB2.out hHeld.1, cell_on HB2.out hHeld.2⟩) (fun hNew => ?_)
    clear hK K hHeld; (have hHeld := hNew); clear hNew; (try simp only [Act.put, List.setIfInBounds_toArray, List.set_cons_zero, List.set_cons_succ])
    (refine takeH (i := 10) (v := ?_) rfl (by kernel_rfl) (by kernel_rfl) (by kernel_rfl) (fun _ _ _ h => h) (Or.inl ⟨by rfl, ?_⟩) (by assumption) ?_; rotate_left; (focus ((intro wS hSw); (try dsimp only at hSw); obtain ⟨s0, s1⟩ := hSw; go_simp; (try with_reducible rfl); done)); (try simp only [Act.put, List.setIfInBounds_toArray, List.set_cons_zero, List.set_cons_succ]))
    refine aloneH (i := 11) rfl (by kernel_rfl) (fun K hK => ?_)
    rw [if_pos (by rfl)]
    go_simp
    have HP := Lib.hid (pp_laid (b := w.heap.size) (HMp.out.on (below_same w2)) (HL.out.1.on HB2.out) (Nat.le_trans (Nat.le_trans HWd.out.size ((below_same wd)).size) HL.out.2) (Nat.le_trans HWd.out.size ((below_then HB1.out HB2.out)).size) HMem.out)
    have HB3 := Lib.hid (below_alloc w2 (.cells #[.pointer (some ⟨B2, 0, none⟩), .string h, .map (some w1.heap.size)] 58))
    generalize hx : World.alloc w2 (.cells #[.pointer (some ⟨B2, 0, none⟩), .string h, .map (some w1.heap.size)] 58) = w3 at HP HB3 ⊢
    clear hx
    obtain ⟨bm2, hbm2⟩ : ∃ bm2, bm2 = w1.heap.size := ⟨_, rfl⟩
    obtain ⟨P2, hP2⟩ : ∃ P2, P2 = w2.heap.size := ⟨_, rfl⟩
    rw [← hbm2, ← hP2] at HP
    rw [← hP2]
    clear hbm2 hP2
    refine hK.out _ _ (⟨cell_on HB3.out hHeld.1, cell_on HB3.out hHeld.2⟩) (fun hNew => ?_)
    clear hK K hHeld; (have hHeld := hNew); clear hNew; (try simp only [Act.put, List.setIfInBounds_toArray, List.set_cons_zero, List.set_cons_succ])
    (refine takeH (i := 12) (v := ?_) rfl (by kernel_rfl) (by kernel_rfl) (by kernel_rfl) (fun _ _ _ h => h) (Or.inl ⟨by rfl, ?_⟩) (by assumption) ?_; rotate_left; (focus ((intro wS hSw); (try dsimp only at hSw); obtain ⟨s0, s1⟩ := hSw; go_simp; (try with_reducible rfl); done)); (try simp only [Act.put, List.setIfInBounds_toArray, List.set_cons_zero, List.set_cons_succ]))
    refine wpAnyH_done (by kernel_rfl) ?_ _
    clear hHeld
    have HB3 := Lib.hid (below_then HWd.out (below_then (below_then HB1.out HB2.out) HB3.out))
    have HH3 := Lib.hid (HH.out.on HB3.out)
    obtain ⟨d0, d1, d2⟩ := row3a HH3.out.1
    go_wp2_with (at_range; refine wpList_range_pp rfl _ rfl HH3.out.2.1 rfl ?_; intro w4 cnt1 hrg hb2; have HRg := Lib.hid hrg; have HN2 := Lib.hid (HP.out.on hb2); have HB4 := Lib.hid (below_then HB3.out hb2); clear hrg hb2)
    go_frame
    have HR0 : Hid (w.heap.size ≤ w3.heap.size ∧ bm2 < w3.heap.size) := Lib.hid ⟨HB3.out.size, HP.out.2.1.bmlt⟩
    clear HMade HP HH3 d0 d1 d2 HB3
    generalize hr0 : w3.heap.size = r at HRg HR0 ⊢
    clear hr0
    go_loopw [] (fun wr => ∃ (T : Ks) (cnt : Nat) (F2 : Lns), Hid (Rng wr base bm n F r T cnt) ∧ Hid (PpAt wr w.heap.size P2 B2 bm2 T.length h O F2) ∧ Hid (CpT F F2 T) ∧ Hid (Below w.heap.size w wr)) (fun wr => wr.rangeLeft bm r)
    case atStart => exact ⟨[], cnt1, _, HRg, HN2, Lib.hid (fun _ => by simp), HB4⟩
    case round =>
      clear HRg HN2 HB4
      obtain ⟨T, cnt, F2, HRg, HN, HCp, HB⟩ := hrel
      go_wp2_with (first | (at_next; refine wpList_next_pp rfl _ _ rfl HRg.out rfl rfl ?_ ?_))
      · intro hall
        go_wp2
        go_ret
        exact ⟨P2, B2, bm2, T.length, F2, rfl, HN.out, HBd.out _ HRg.out.ks, HCp.out.all (fun s hs => by
          obtain ⟨y, hy⟩ := Option.isSome_iff_exists.1 hs
          exact hall s (HRg.out.1.2.1 s y.1 y.2 hy).2.2 hs), HB.out⟩
      · intro s B L w6 cnt' hF hT hk hrg hlt hg hsz hen
        have hrw : r < wr.heap.size := by
          obtain ⟨_, _, _, _, hi⟩ := HRg.out.iter
          exact heapLt hi
        have hb3 : Below w.heap.size wr w6 := ⟨hg.os, hg.tape, hg.output, hg.size, fun k hk2 => hg.block k (by have := HB.out.size; omega) (fun e => by have e2 : k = r := Option.some.inj e; have := HR0.out.1; omega)⟩
        have HW6 : Hid (Below w.heap.size w w6) := Lib.hid (HB.out.trans hb3)
        obtain ⟨i0, i1, i2, i3, hir⟩ := HRg.out.iter
        have HN6 := Lib.hid (HN.out.but hg hir)
        have HRg6 := Lib.hid hrg
        have HM : Hid (cnt' < cnt ∧ r < w6.heap.size) := Lib.hid ⟨hlt, by rw [hsz]; exact hrw⟩
        have HKs : Hid (T.length + 1 ≤ 1000) := Lib.hid (HBd.out _ hrg.ks)
        have HK := Lib.hid hk
        have HF := Lib.hid hF
        have HLn := Lib.hid (hrg.1.2.1 s B L hF).1
        clear hb3 hrg hlt hg hsz hF hT hk hir hrw
        go_wp2
        have hkx := heap_alloc_new w6 (.cells #[.pointer (some ⟨B, 0, none⟩)] 54)
        have hba := below_then (below_alloc w6 (.cells #[.pointer (some ⟨B, 0, none⟩)] 54)) (below_drew _)
        have HKx := Lib.hid (heap_on (below_drew _) hkx)
        have HNd := Lib.hid (HN6.out.on hba)
        have HRgd := Lib.hid (HRg6.out.on hba)
        have HLc := Lib.hid (code_copied _ B L (HLn.out.on hba))
        have HWd5 := Lib.hid (below_then HW6.out hba)
        have HKb := Lib.hid HN6.out.2.1.bmlt
        obtain ⟨c0, c1, c2⟩ := row3a HNd.out.1
        obtain ⟨k0, z0⟩ := one_cell HKx.out
        clear hkx hba HN6 HRg6 HLn
        refine wp_region_held_drew (S := fun V => V.cell? ⟨P2, 2, none⟩ = some (.map (some bm2)) ∧ V.cell? ⟨w6.heap.size, 0, none⟩ = some (.pointer (some ⟨B, 0, none⟩))) (by kernel_rfl) ⟨c2, k0⟩ ?_
        intro hHeld
        clear c0 c1 c2 k0 z0
        generalize World.drew _ = wd5 at HKx HNd HRgd HLc HWd5 hHeld ⊢
        generalize hkb : w6.heap.size = kb at HKx HKb hHeld ⊢
        clear hkb
        (refine takeH (i := 0) (v := ?_) rfl (by kernel_rfl) (by kernel_rfl) (by kernel_rfl) (fun _ _ _ h => h) (Or.inl ⟨by rfl, ?_⟩) (by assumption) ?_; rotate_left; (focus ((intro wS hSw); (try dsimp only at hSw); obtain ⟨s0, s1⟩ := hSw; go_simp; (try with_reducible rfl); done)); (try simp only [Act.put, List.setIfInBounds_toArray, List.set_cons_zero, List.set_cons_succ]))
        (refine takeH (i := 1) (v := ?_) rfl (by kernel_rfl) (by kernel_rfl) (by kernel_rfl) (fun _ _ _ h => h) (Or.inl ⟨by rfl, ?_⟩) (by assumption) ?_; rotate_left; (focus ((intro wS hSw); (try dsimp only at hSw); obtain ⟨s0, s1⟩ := hSw; go_simp; (try with_reducible rfl); done)); (try simp only [Act.put, List.setIfInBounds_toArray, List.set_cons_zero, List.set_cons_succ]))
        (refine takeH (i := 2) (v := ?_) rfl (by kernel_rfl) (by kernel_rfl) (by kernel_rfl) (fun _ _ _ h => h) (Or.inl ⟨by rfl, ?_⟩) (by assumption) ?_; rotate_left; (focus ((intro wS hSw); (try dsimp only at hSw); obtain ⟨s0, s1⟩ := hSw; go_simp; (try with_reducible rfl); done)); (try simp only [Act.put, List.setIfInBounds_toArray, List.set_cons_zero, List.set_cons_succ]))
        (refine takeH (i := 3) (v := ?_) rfl (by kernel_rfl) (by kernel_rfl) (by kernel_rfl) (fun _ _ _ h => h) (Or.inl ⟨by rfl, ?_⟩) (by assumption) ?_; rotate_left; (focus ((intro wS hSw); (try dsimp only at hSw); obtain ⟨s0, s1⟩ := hSw; go_simp; (try with_reducible rfl); done)); (try simp only [Act.put, List.setIfInBounds_toArray, List.set_cons_zero, List.set_cons_succ]))
        (refine takeH (i := 4) (v := ?_) rfl (by kernel_rfl) (by kernel_rfl) (by kernel_rfl) (fun _ _ _ h => h) (Or.inl ⟨by rfl, ?_⟩) (by assumption) ?_; rotate_left; (focus ((intro wS hSw); (try dsimp only at hSw); obtain ⟨s0, s1⟩ := hSw; go_simp; (try with_reducible rfl); done)); (try simp only [Act.put, List.setIfInBounds_toArray, List.set_cons_zero, List.set_cons_succ]))
        (refine takeH (i := 5) (v := ?_) rfl (by kernel_rfl) (by kernel_rfl) (by kernel_rfl) (fun _ _ _ h => h) (Or.inl ⟨by rfl, ?_⟩) (by assumption) ?_; rotate_left; (focus ((intro wS hSw); (try dsimp only at hSw); obtain ⟨s0, s1⟩ := hSw; go_simp; (try with_reducible rfl); done)); (try simp only [Act.put, List.setIfInBounds_toArray, List.set_cons_zero, List.set_cons_succ]))
        refine aloneH (i := 6) rfl (by kernel_rfl) (fun K hK => ?_)
        rw [if_pos (by rfl)]
        go_simp; ((refine HLc.out.mono ?_); (rintro e w1 ⟨B3, rfl, hl, hB, hb⟩); have HL1 := Lib.hid (And.intro hl hB); have HB1 := Lib.hid hb; clear hl hB hb; (try go_simp))
        refine hK.out _ _ (⟨cell_on HB1.out hHeld.1, cell_on HB1.out hHeld.2⟩) (fun hNew => ?_)
        clear hK K hHeld; (have hHeld := hNew); clear hNew; (try simp only [Act.put, List.setIfInBounds_toArray, List.set_cons_zero, List.set_cons_succ])
        refine aloneH (i := 7) rfl (by kernel_rfl) (fun K hK => ?_)
        rw [if_pos (by rfl)]
        obtain ⟨w5, hr4, hp, hg4, hblk⟩ := (HNd.out.on HB1.out).put (by have := HKs.out; unfold maxLen; omega) HK.out HL1.out.1 (Nat.le_trans HWd5.out.size HL1.out.2) (fun e => by
          have h7 := HNd.out.2.2.1.lt
          have h8 := HL1.out.2
          omega) (.inr fun s' L' e => by
          have h7 := (HNd.out.2.1.2.1 s' B3 L' e).1.lt
          have h8 := HL1.out.2
          omega)
        have hru : (Instr.mapUpdate 56 (.map (some bm2)) (.string s) (.agg #[.pointer (some ⟨B3, 0, none⟩)])).run Tryz.prog w1 = .ok () w5 := hr4
        have HKeep : Hid (w5.cell? ⟨P2, 2, none⟩ = some (.map (some bm2)) ∧ w5.cell? ⟨kb, 0, none⟩ = some (.pointer (some ⟨B, 0, none⟩))) := Lib.hid ⟨(row3a hp.1).2.2, (one_cell ((hblk kb (Nat.ne_of_gt HKb.out)).trans (heap_on HB1.out HKx.out))).1⟩
        have HP5 := Lib.hid (And.intro hp (And.intro hg4 hblk))
        clear hp hg4 hblk hr4
        go_simp
        refine hK.out _ _ (HKeep.out) (fun hNew => ?_)
        clear hK K hHeld; (have hHeld := hNew); clear hNew; (try simp only [Act.put])
        refine wpAnyH_done (by kernel_rfl) ?_ _
        clear hHeld
        have HBF : Hid (Below w.heap.size w w5) := Lib.hid ((below_then HWd5.out HB1.out).trans ⟨HP5.out.2.1.os, HP5.out.2.1.tape, HP5.out.2.1.output, HP5.out.2.1.size, fun k hk => HP5.out.2.2 k (Nat.ne_of_lt (Nat.lt_of_lt_of_le hk HNd.out.2.1.2.2.2.1))⟩)
        have HRgF : Hid (Rng w5 base bm n F r (s :: T) cnt') := Lib.hid ((HRgd.out.on HB1.out).put (HH.out.on HBF.out).2.1 HP5.out.2.1 (Nat.ne_of_lt (Nat.lt_of_lt_of_le HH.out.2.1.bmlt HNd.out.2.1.2.2.2.1)) (by have := HR0.out.2; omega))
        have HML : Hid (w5.rangeLeft bm r < wr.rangeLeft bm r) := Lib.hid (by rw [HRgF.out.left, HRg.out.left]; exact HM.out.1)
        have HCp2 := Lib.hid (HCp.out.next (B2 := B3) HF.out)
        have HN2 := Lib.hid HP5.out.1
        go_wp2
        go_roundw
        case rel => exact ⟨s :: T, cnt', _, HRgF, HN2, HCp2, HBF⟩
        case measure => exact HML.out
  · rw [if_pos (by rfl)]
    go_simp
    have HMp := Lib.hid (pm_made (b := w.heap.size) (W := wd) (Nat.le_trans HWd.out.size ((below_same wd)).size))
    have HB1 := Lib.hid (below_alloc wd (.map #[] 0))
    generalize hx : World.alloc wd (.map #[] 0) = w1 at HMp HB1 ⊢
    clear hx
    refine hK.out _ _ (⟨cell_on HB1.out hHeld.1, cell_on HB1.out hHeld.2⟩) (fun hNew => ?_)
    clear hK K hHeld; (have hHeld := hNew); clear hNew; (try simp only [Act.put, List.setIfInBounds_toArray, List.set_cons_zero, List.set_cons_succ])
    refine aloneH (i := 4) rfl (by kernel_rfl) (fun K hK => ?_)
    rw [if_pos (by rfl)]
    go_simp; ((refine (HCo.out w1 HB1.out).mono ?_); (rintro e w2 ⟨B2, rfl, hl, hB, hb⟩); have HL := Lib.hid (And.intro hl hB); have HB2 := Lib.hid hb; clear hl hB hb; (try go_simp))
    refine hK.out _ _ (⟨cell_on HB2.out hHeld.1, cell_on HB2.out hHeld.2⟩) (fun hNew => ?_)
    clear hK K hHeld; (have hHeld := hNew); clear hNew; (try simp only [Act.put, List.setIfInBounds_toArray, List.set_cons_zero, List.set_cons_succ])
    (refine takeH (i := 10) (v := ?_) rfl (by kernel_rfl) (by kernel_rfl) (by kernel_rfl) (fun _ _ _ h => h) (Or.inl ⟨by rfl, ?_⟩) (by assumption) ?_; rotate_left; (focus ((intro wS hSw); (try dsimp only at hSw); obtain ⟨s0, s1⟩ := hSw; go_simp; (try with_reducible rfl); done)); (try simp only [Act.put, List.setIfInBounds_toArray, List.set_cons_zero, List.set_cons_succ]))
    refine aloneH (i := 11) rfl (by kernel_rfl) (fun K hK => ?_)
    rw [if_pos (by rfl)]
    go_simp
    have HP := Lib.hid (pp_laid (b := w.heap.size) (HMp.out.on HB2.out) (HL.out.1.on (below_same w2)) (Nat.le_trans (Nat.le_trans HWd.out.size (HB1.out).size) HL.out.2) (Nat.le_trans HWd.out.size ((below_then HB1.out HB2.out)).size) HMem.out)
    have HB3 := Lib.hid (below_alloc w2 (.cells #[.pointer (some ⟨B2, 0, none⟩), .string h, .map (some wd.heap.size)] 58))
    generalize hx : World.alloc w2 (.cells #[.pointer (some ⟨B2, 0, none⟩), .string h, .map (some wd.heap.size)] 58) = w3 at HP HB3 ⊢
    clear hx
    obtain ⟨bm2, hbm2⟩ : ∃ bm2, bm2 = wd.heap.size := ⟨_, rfl⟩
    obtain ⟨P2, hP2⟩ : ∃ P2, P2 = w2.heap.size := ⟨_, rfl⟩
    rw [← hbm2, ← hP2] at HP
    rw [← hP2]
    clear hbm2 hP2
    refine hK.out _ _ (⟨cell_on HB3.out hHeld.1, cell_on HB3.out hHeld.2⟩) (fun hNew => ?_)
    clear hK K hHeld; (have hHeld := hNew); clear hNew; (try simp only [Act.put, List.setIfInBounds_toArray, List.set_cons_zero, List.set_cons_succ])
    (refine takeH (i := 12) (v := ?_) rfl (by kernel_rfl) (by kernel_rfl) (by kernel_rfl) (fun _ _ _ h => h) (Or.inl ⟨by rfl, ?_⟩) (by assumption) ?_; rotate_left; (focus ((intro wS hSw); (try dsimp only at hSw); obtain ⟨s0, s1⟩ := hSw; go_simp; (try with_reducible rfl); done)); (try simp only [Act.put, List.setIfInBounds_toArray, List.set_cons_zero, List.set_cons_succ]))
    refine wpAnyH_done (by kernel_rfl) ?_ _
    clear hHeld
    have HB3 := Lib.hid (below_then HWd.out (below_then (below_then HB1.out HB2.out) HB3.out))
    have HH3 := Lib.hid (HH.out.on HB3.out)
    obtain ⟨d0, d1, d2⟩ := row3a HH3.out.1
    go_wp2_with (at_range; refine wpList_range_pp rfl _ rfl HH3.out.2.1 rfl ?_; intro w4 cnt1 hrg hb2; have HRg := Lib.hid hrg; have HN2 := Lib.hid (HP.out.on hb2); have HB4 := Lib.hid (below_then HB3.out hb2); clear hrg hb2)
    go_frame
    have HR0 : Hid (w.heap.size ≤ w3.heap.size ∧ bm2 < w3.heap.size) := Lib.hid ⟨HB3.out.size, HP.out.2.1.bmlt⟩
    clear HMade HP HH3 d0 d1 d2 HB3
    generalize hr0 : w3.heap.size = r at HRg HR0 ⊢
    clear hr0
    go_loopw [] (fun wr => ∃ (T : Ks) (cnt : Nat) (F2 : Lns), Hid (Rng wr base bm n F r T cnt) ∧ Hid (PpAt wr w.heap.size P2 B2 bm2 T.length h O F2) ∧ Hid (CpT F F2 T) ∧ Hid (Below w.heap.size w wr)) (fun wr => wr.rangeLeft bm r)
    case atStart => exact ⟨[], cnt1, _, HRg, HN2, Lib.hid (fun _ => by simp), HB4⟩
    case round =>
      clear HRg HN2 HB4
      obtain ⟨T, cnt, F2, HRg, HN, HCp, HB⟩ := hrel
      go_wp2_with (first | (at_next; refine wpList_next_pp rfl _ _ rfl HRg.out rfl rfl ?_ ?_))
      · intro hall
        go_wp2
        go_ret
        exact ⟨P2, B2, bm2, T.length, F2, rfl, HN.out, HBd.out _ HRg.out.ks, HCp.out.all (fun s hs => by
          obtain ⟨y, hy⟩ := Option.isSome_iff_exists.1 hs
          exact hall s (HRg.out.1.2.1 s y.1 y.2 hy).2.2 hs), HB.out⟩
      · intro s B L w6 cnt' hF hT hk hrg hlt hg hsz hen
        have hrw : r < wr.heap.size := by
          obtain ⟨_, _, _, _, hi⟩ := HRg.out.iter
          exact heapLt hi
        have hb3 : Below w.heap.size wr w6 := ⟨hg.os, hg.tape, hg.output, hg.size, fun k hk2 => hg.block k (by have := HB.out.size; omega) (fun e => by have e2 : k = r := Option.some.inj e; have := HR0.out.1; omega)⟩
        have HW6 : Hid (Below w.heap.size w w6) := Lib.hid (HB.out.trans hb3)
        obtain ⟨i0, i1, i2, i3, hir⟩ := HRg.out.iter
        have HN6 := Lib.hid (HN.out.but hg hir)
        have HRg6 := Lib.hid hrg
        have HM : Hid (cnt' < cnt ∧ r < w6.heap.size) := Lib.hid ⟨hlt, by rw [hsz]; exact hrw⟩
        have HKs : Hid (T.length + 1 ≤ 1000) := Lib.hid (HBd.out _ hrg.ks)
        have HK := Lib.hid hk
        have HF := Lib.hid hF
        have HLn := Lib.hid (hrg.1.2.1 s B L hF).1
        clear hb3 hrg hlt hg hsz hF hT hk hir hrw
        go_wp2
        have hkx := heap_alloc_new w6 (.cells #[.pointer (some ⟨B, 0, none⟩)] 54)
        have hba := below_then (below_alloc w6 (.cells #[.pointer (some ⟨B, 0, none⟩)] 54)) (below_drew _)
        have HKx := Lib.hid (heap_on (below_drew _) hkx)
        have HNd := Lib.hid (HN6.out.on hba)
        have HRgd := Lib.hid (HRg6.out.on hba)
        have HLc := Lib.hid (code_copied _ B L (HLn.out.on hba))
        have HWd5 := Lib.hid (below_then HW6.out hba)
        have HKb := Lib.hid HN6.out.2.1.bmlt
        obtain ⟨c0, c1, c2⟩ := row3a HNd.out.1
        obtain ⟨k0, z0⟩ := one_cell HKx.out
        clear hkx hba HN6 HRg6 HLn
        refine wp_region_held_drew (S := fun V => V.cell? ⟨P2, 2, none⟩ = some (.map (some bm2)) ∧ V.cell? ⟨w6.heap.size, 0, none⟩ = some (.pointer (some ⟨B, 0, none⟩))) (by kernel_rfl) ⟨c2, k0⟩ ?_
        intro hHeld
        clear c0 c1 c2 k0 z0
        generalize World.drew _ = wd5 at HKx HNd HRgd HLc HWd5 hHeld ⊢
        generalize hkb : w6.heap.size = kb at HKx HKb hHeld ⊢
        clear hkb
        (refine takeH (i := 0) (v := ?_) rfl (by kernel_rfl) (by kernel_rfl) (by kernel_rfl) (fun _ _ _ h => h) (Or.inl ⟨by rfl, ?_⟩) (by assumption) ?_; rotate_left; (focus ((intro wS hSw); (try dsimp only at hSw); obtain ⟨s0, s1⟩ := hSw; go_simp; (try with_reducible rfl); done)); (try simp only [Act.put, List.setIfInBounds_toArray, List.set_cons_zero, List.set_cons_succ]))
        (refine takeH (i := 1) (v := ?_) rfl (by kernel_rfl) (by kernel_rfl) (by kernel_rfl) (fun _ _ _ h => h) (Or.inl ⟨by rfl, ?_⟩) (by assumption) ?_; rotate_left; (focus ((intro wS hSw); (try dsimp only at hSw); obtain ⟨s0, s1⟩ := hSw; go_simp; (try with_reducible rfl); done)); (try simp only [Act.put, List.setIfInBounds_toArray, List.set_cons_zero, List.set_cons_succ]))
        (refine takeH (i := 2) (v := ?_) rfl (by kernel_rfl) (by kernel_rfl) (by kernel_rfl) (fun _ _ _ h => h) (Or.inl ⟨by rfl, ?_⟩) (by assumption) ?_; rotate_left; (focus ((intro wS hSw); (try dsimp only at hSw); obtain ⟨s0, s1⟩ := hSw; go_simp; (try with_reducible rfl); done)); (try simp only [Act.put, List.setIfInBounds_toArray, List.set_cons_zero, List.set_cons_succ]))
        (refine takeH (i := 3) (v := ?_) rfl (by kernel_rfl) (by kernel_rfl) (by kernel_rfl) (fun _ _ _ h => h) (Or.inl ⟨by rfl, ?_⟩) (by assumption) ?_; rotate_left; (focus ((intro wS hSw); (try dsimp only at hSw); obtain ⟨s0, s1⟩ := hSw; go_simp; (try with_reducible rfl); done)); (try simp only [Act.put, List.setIfInBounds_toArray, List.set_cons_zero, List.set_cons_succ]))
        (refine takeH (i := 4) (v := ?_) rfl (by kernel_rfl) (by kernel_rfl) (by kernel_rfl) (fun _ _ _ h => h) (Or.inl ⟨by rfl, ?_⟩) (by assumption) ?_; rotate_left; (focus ((intro wS hSw); (try dsimp only at hSw); obtain ⟨s0, s1⟩ := hSw; go_simp; (try with_reducible rfl); done)); (try simp only [Act.put, List.setIfInBounds_toArray, List.set_cons_zero, List.set_cons_succ]))
        (refine takeH (i := 5) (v := ?_) rfl (by kernel_rfl) (by kernel_rfl) (by kernel_rfl) (fun _ _ _ h => h) (Or.inl ⟨by rfl, ?_⟩) (by assumption) ?_; rotate_left; (focus ((intro wS hSw); (try dsimp only at hSw); obtain ⟨s0, s1⟩ := hSw; go_simp; (try with_reducible rfl); done)); (try simp only [Act.put, List.setIfInBounds_toArray, List.set_cons_zero, List.set_cons_succ]))
        refine aloneH (i := 6) rfl (by kernel_rfl) (fun K hK => ?_)
        rw [if_pos (by rfl)]
        go_simp; ((refine HLc.out.mono ?_); (rintro e w1 ⟨B3, rfl, hl, hB, hb⟩); have HL1 := Lib.hid (And.intro hl hB); have HB1 := Lib.hid hb; clear hl hB hb; (try go_simp))
        refine hK.out _ _ (⟨cell_on HB1.out hHeld.1, cell_on HB1.out hHeld.2⟩) (fun hNew => ?_)
        clear hK K hHeld; (have hHeld := hNew); clear hNew; (try simp only [Act.put, List.setIfInBounds_toArray, List.set_cons_zero, List.set_cons_succ])
        refine aloneH (i := 7) rfl (by kernel_rfl) (fun K hK => ?_)
        rw [if_pos (by rfl)]
        obtain ⟨w5, hr4, hp, hg4, hblk⟩ := (HNd.out.on HB1.out).put (by have := HKs.out; unfold maxLen; omega) HK.out HL1.out.1 (Nat.le_trans HWd5.out.size HL1.out.2) (fun e => by
          have h7 := HNd.out.2.2.1.lt
          have h8 := HL1.out.2
          omega) (.inr fun s' L' e => by
          have h7 := (HNd.out.2.1.2.1 s' B3 L' e).1.lt
          have h8 := HL1.out.2
          omega)
        have hru : (Instr.mapUpdate 56 (.map (some bm2)) (.string s) (.agg #[.pointer (some ⟨B3, 0, none⟩)])).run Tryz.prog w1 = .ok () w5 := hr4
        have HKeep : Hid (w5.cell? ⟨P2, 2, none⟩ = some (.map (some bm2)) ∧ w5.cell? ⟨kb, 0, none⟩ = some (.pointer (some ⟨B, 0, none⟩))) := Lib.hid ⟨(row3a hp.1).2.2, (one_cell ((hblk kb (Nat.ne_of_gt HKb.out)).trans (heap_on HB1.out HKx.out))).1⟩
        have HP5 := Lib.hid (And.intro hp (And.intro hg4 hblk))
        clear hp hg4 hblk hr4
        go_simp
        refine hK.out _ _ (HKeep.out) (fun hNew => ?_)
        clear hK K hHeld; (have hHeld := hNew); clear hNew; (try simp only [Act.put])
        refine wpAnyH_done (by kernel_rfl) ?_ _
        clear hHeld
        have HBF : Hid (Below w.heap.size w w5) := Lib.hid ((below_then HWd5.out HB1.out).trans ⟨HP5.out.2.1.os, HP5.out.2.1.tape, HP5.out.2.1.output, HP5.out.2.1.size, fun k hk => HP5.out.2.2 k (Nat.ne_of_lt (Nat.lt_of_lt_of_le hk HNd.out.2.1.2.2.2.1))⟩)
        have HRgF : Hid (Rng w5 base bm n F r (s :: T) cnt') := Lib.hid ((HRgd.out.on HB1.out).put (HH.out.on HBF.out).2.1 HP5.out.2.1 (Nat.ne_of_lt (Nat.lt_of_lt_of_le HH.out.2.1.bmlt HNd.out.2.1.2.2.2.1)) (by have := HR0.out.2; omega))
        have HML : Hid (w5.rangeLeft bm r < wr.rangeLeft bm r) := Lib.hid (by rw [HRgF.out.left, HRg.out.left]; exact HM.out.1)
        have HCp2 := Lib.hid (HCp.out.next (B2 := B3) HF.out)
        have HN2 := Lib.hid HP5.out.1
        go_wp2
        go_roundw
        case rel => exact ⟨s :: T, cnt', _, HRgF, HN2, HCp2, HBF⟩
        case measure => exact HML.out
end Go.Proofs.YtgljajoknmgoeaaGreat
