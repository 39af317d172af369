/- The document's Wipe. Dirty, Wipe and the fuse of both, whatever comes in. -/
import Derived.Test.YtfjejiapafdgeaaJ40
import Derived.Test.YtfjejiapafdgeaaJ33
import Derived.Test.YtfjejiapafdgeaaJ32
import Derived.Test.YtfjejiapafdgeaaJ22
import Derived.Test.YtfjejiapafdgeaaJ25
import Derived.Test.YtfjejiapafdgeaaJ35
namespace Go.Proofs.Ytfjejiapafdgeaa
open Go.RowKit
set_option maxRecDepth 100000
set_option linter.unusedSimpArgs false
set_option linter.unusedVariables false

set_option maxHeartbeats 4000000 in
/-- the document's Wipe -/
theorem ref_wipe (w : World) (g c : Nat) (tr : Int) (d : DiskV) (tail : Nat) (h : RefIs w g c tr d) (hok : OkD d) (hd : d.dead = false) (ht : tail ≤ d.many) (hm1 : 1 ≤ d.many) (hm : d.many ≤ 1000) (hw : d.writes ≤ 1000000) (h64 : ∀ k, k < d.many → (d.S k).length = 64) :
    Calls Try.prog 23 #[spelt g c tr d, .int .i64 tail] w (WipeRR w (wipeL d 0 (dirtyL d.S tail d.many))) := by
  obtain ⟨wa, hwa⟩ : ∃ wa, wa = (w.alloc (.cells #[.slice (some ⟨g, 0, none⟩) d.many c, .int .i64 (aftR d), .int .i64 tr, .bool d.dead, .int .i64 d.writes] 28)).alloc zBox := ⟨_, rfl⟩
  have HBa : Hid (Below w.heap.size w wa) := Lib.hid (by rw [hwa]; exact below_then (below_alloc _ _) (below_alloc _ _))
  have HDi : Hid (∀ V, V = wa → Calls Try.prog 18 #[spelt g c tr d, .int .i64 tail] V fun e w' => e = .returned (.tuple #[.int .i64 ((dirtyL d.S tail d.many).length : Nat), .int .i64 0]) ∧ Below V.heap.size V w') := Lib.hid (fun V hV => by rw [hV]; exact ref_dirty wa g c tr d tail (h.below HBa.out) hd ht hm h64)
  have HI0 : Hid (WipeI w d tail tail 0 wa) := Lib.hid ⟨d, g, c, tr, by
      rw [hwa]
      exact heap_on (below_alloc _ _) (heap_alloc_new w _), by
      rw [hwa]
      have := heap_alloc_new (w.alloc (.cells #[.slice (some ⟨g, 0, none⟩) d.many c, .int .i64 (aftR d), .int .i64 tr, .bool d.dead, .int .i64 d.writes] 28)) zBox
      rwa [World.size_alloc] at this, h.below HBa.out, HBa.out, OnR.start hok hd h64⟩
  have HM := Lib.hid (And.intro hm1 (And.intro hm hw))
  have HWA := Lib.hid hwa
  clear h hok hw h64 hm hm1 HBa hwa hd
  obtain ⟨cn, hcn⟩ : ∃ cn, cn = (dirtyL d.S tail d.many).length := ⟨_, rfl⟩
  rw [← hcn] at HDi
  clear hcn
  obtain ⟨R, hR⟩ : ∃ R, R = wipeL d 0 (dirtyL d.S tail d.many) := ⟨_, rfl⟩
  rw [← hR]
  have HRr := Lib.hid hR
  clear hR
  obtain ⟨m, hmm⟩ : ∃ m, m = d.many := ⟨_, rfl⟩
  have HMm := Lib.hid hmm
  rw [← hmm] at ht
  clear hmm
  go_enter Try.func23, Try.ntmps23
  go_wp2_with (go_at_call 18; refine (HDi.out _ HWA.out.symm).mono ?_; rintro e w1 ⟨rfl, hb1⟩; have HB1 : Hid (Below wa.heap.size wa w1) := Lib.hid (by rw [HWA.out]; exact hb1); clear hb1; refine Stop.out ?_)
  unfold Stop
  have HI1 : Hid (WipeI w d tail tail 0 w1) := Lib.hid (by
    obtain ⟨d1, g1, c1, tr1, q1, q2, q3, q4, q5⟩ := HI0.out
    exact ⟨d1, g1, c1, tr1, heap_on HB1.out q1, heap_on HB1.out q2, q3.below HB1.out, below_then q4 HB1.out, q5⟩)
  clear HI0 HDi HB1 HWA
  go_wp2
  go_loopw [9, 10] (fun v i wr => ∃ k n : Nat, k ≤ m ∧ n ≤ k ∧ i = .int .i64 (k : Nat) ∧ v = .int .i64 (n : Nat) ∧ Hid (tail ≤ k ∧ WipeI w d tail k n wr)) (fun _ i _ => leftOf i)
  case atStart => exact ⟨tail, 0, ht, Nat.zero_le _, rfl, rfl, Lib.hid ⟨Nat.le_refl _, HI1.out⟩⟩
  case round =>
    obtain ⟨k, n, hk2, hnk, rfl, rfl, HI⟩ := hrel
    clear HI1
    have hk1 := HI.out.1
    obtain ⟨d1, g1, c1, tr1, q1, q2, q3, q4, q5⟩ := HI.out.2
    have HX := Lib.hid q1
    have HZ := Lib.hid q2
    have HRf := Lib.hid q3
    have HB := Lib.hid q4
    have HO := Lib.hid q5
    have HD1 : Hid (d1.many = m) := Lib.hid (by rw [q5.many, HMm.out])
    clear q1 q2 q3 q4 q5 HI
    obtain ⟨⟨z0, z1, z2, z3, z4⟩, _⟩ := cells5 HX.out
    rw [HD1.out] at z0
    by_cases hlt : k < m
    · have hge : ¬ m ≤ k := by omega
      have hlt' : (k : Int) < (m : Int) := by omega
      obtain ⟨S2, hS2⟩ : ∃ S : ByteArray, S = ⟨(d.S k).toArray⟩ := ⟨_, rfl⟩
      have hck : wr.cell? ⟨g1, k, none⟩ = some (.string S2) := by
        have h1 := HRf.out.1.2 k (by rw [pagesL_len, HD1.out]; exact hlt)
        rw [pagesL_at, HO.out.S k (Nat.le_refl _) (by rw [← HMm.out]; exact hlt), ← hS2] at h1
        exact h1
      have HS2 := Lib.hid hS2
      have HTl : Hid ((d.S k).length ≤ 100000) := Lib.hid (by
        have h1 := HO.out.len k (by rw [← HMm.out]; exact hlt)
        rw [HO.out.S k (Nat.le_refl _) (by rw [← HMm.out]; exact hlt)] at h1
        rw [h1]; decide)
      obtain ⟨qb, hqb⟩ : ∃ qb, qb = decide (d.S k = zeros) := ⟨_, rfl⟩
      have HBk : Hid (∀ A cc W, Txt W A (d.S k) → (A = none → d.S k = []) → Calls Try.prog 53 #[.slice A (d.S k).length cc] W fun e w' => e = .returned (.bool qb) ∧ Below W.heap.size W w') := Lib.hid (fun A cc W q1 q2 => by rw [hqb]; exact ref_blank (d.S k) A cc W q1 q2)
      have HQk : Hid (dirtyQ d.S tail k = !qb) := Lib.hid (by
        unfold dirtyQ
        rw [decide_eq_true hk1, hqb]
        rfl)
      have hwk : wrap64 ((k : Int) + 1) = (k : Int) + 1 := by have := HM.out.2.1; rw [← HMm.out] at this; unfold wrap64; omega
      have hwn : wrap64 ((n : Int) + 1) = (n : Int) + 1 := by have := HM.out.2.1; rw [← HMm.out] at this; unfold wrap64; omega
      have HMs : Hid (leftOf (.int .i64 (wrap64 ((k : Int) + 1))) < leftOf (.int .i64 (k : Int))) := Lib.hid (leftOf_next k (by have := HM.out.2.1; rw [← HMm.out] at this; omega))
      clear hS2 hqb
      go_wp2_with (refine wpList_conv (o := ⟨some 34, _, _, _, _, _⟩) rfl (.tmp 33) rfl S2 (d.S k) HS2.out HTl.out rfl ?_; (try simp only [Act.put, List.setIfInBounds_toArray, List.set_cons_zero, List.set_cons_succ]); refine Stop.out ?_)
      unfold Stop
      rintro v w5 ⟨c5, rfl, hc5, hm5, hr5, hs5, hb5⟩
      have HT5 := Lib.hid (mid_txt hr5)
      have HB5 := Lib.hid (below_then HB.out hb5)
      have HX5 := Lib.hid (heap_on hb5 HX.out)
      have HZ5 := Lib.hid (heap_on hb5 HZ.out)
      have HR5 := Lib.hid (HRf.out.below hb5)
      clear hc5 hm5 hr5 hs5 hb5 hck HB HX HZ HRf z0 z1 z2 z3 z4
      go_wp2_with (go_at_call 53; refine (HBk.out _ _ _ HT5.out (fun e => by cases e)).mono ?_; rintro e w6 ⟨rfl, hb6⟩; have HB6 := Lib.hid (below_then HB5.out hb6); have HX6 := Lib.hid (heap_on hb6 HX5.out); have HZ6 := Lib.hid (heap_on hb6 HZ5.out); have HR6 := Lib.hid (HR5.out.below hb6); clear hb6; refine Stop.out ?_)
      unfold Stop
      clear HBk HT5 HB5 HX5 HZ5 HR5
      cases qb
      · have HBd : Hid (Below w.heap.size w w6.drew) := Lib.hid HB6.out.drew
        have HXd : Hid (w6.drew.heap[w.heap.size]? = some (.cells (refC g1 c1 d1.many (aftR d1) tr1 d1.dead d1.writes).toArray 28 (0, 0))) := Lib.hid (heap_on (Below.refl _ _).drew HX6.out)
        have HZd : Hid (w6.drew.heap[w.heap.size + 1]? = some zBox) := Lib.hid (heap_on (Below.refl _ _).drew HZ6.out)
        obtain ⟨d2, hd2⟩ : ∃ d2, d2 = writeD d1 k zeros := ⟨_, rfl⟩
        obtain ⟨ev, hev⟩ : ∃ ev, ev = writeE d1 k zeros := ⟨_, rfl⟩
        have HWr : Hid (∀ V, Below w6.drew.heap.size w6.drew V → Calls Try.prog 44 #[spelt g1 c1 tr1 d1, .int .i64 (k : Nat), .string ⟨zeros.toArray⟩] V fun e V' => ∃ g2 c2 tr2, e = .returned (.tuple #[spelt g2 c2 tr2 d2, .int .i64 ev]) ∧ RefIs V' g2 c2 tr2 d2 ∧ Below V.heap.size V V') := Lib.hid (fun V hV => by
          rw [hd2, hev]
          refine play_write V g1 c1 tr1 d1 k zeros ((HR6.out.below (Below.refl _ _).drew).below hV) HO.out.ok ?_ ?_ ?_
          · have h1 := HO.out.wr
            have h2 := HM.out.2.2
            have h3 := HM.out.2.1
            rw [← HMm.out] at h3
            omega
          · rw [HD1.out, HMm.out]
            exact HM.out.2.1
          · intro j hj
            exact HO.out.len j (by rw [← HMm.out, ← HD1.out]; exact hj))
        have HD2 : Hid (1 ≤ d2.many ∧ d2.many = m) := Lib.hid (by rw [hd2, writeD_many, HD1.out]; exact ⟨by omega, rfl⟩)
        have HO2 : Hid (ev = 0 → OnR d tail (k + 1) (n + 1) d2) := Lib.hid (fun e => by
          rw [hd2]
          exact HO.out.wrote (by rw [← HMm.out]; exact hlt) HQk.out (by rw [← hev]; exact e))
        have HCt : Hid (ev ≠ 0 → R = (d2, 0, ev)) := Lib.hid (fun e => by
          rw [HRr.out, hd2, hev]
          exact HO.out.cut (by rw [← HMm.out]; exact hlt) HQk.out (by rw [← hev]; exact e))
        clear hd2 hev HO HRr HX6 HZ6 HR6 HB6 HD1
        go_wp2
        refine wp_region_held_drew (S := fun _ => True) (by kernel_rfl) trivial ?_
        intro hHeld
        generalize w6.drew = wd at HBd HXd HZd HWr hHeld ⊢
        (refine takeH (i := 1) (v := ?_) rfl (by kernel_rfl) (by kernel_rfl) (by kernel_rfl) (fun _ _ _ h => h) (Or.inl ⟨by rfl, ?_⟩) (by assumption) ?_; rotate_left; (focus ((intro wS hSw); (try dsimp only at hSw); skip; go_simp; (try with_reducible rfl); done)); (try simp only [Act.put, List.setIfInBounds_toArray, List.set_cons_zero, List.set_cons_succ]))
        refine twoH (i := 0) (i2 := 2) rfl rfl (by kernel_rfl) (fun K hK => ?_) (fun K hK => ?_)
        · rw [if_pos (by rfl)]
          obtain ⟨⟨z0, z1, z2, z3, z4⟩, _⟩ := cells5 (heap_on (below_same wd) HXd.out)
          go_simp
          clear z0 z1 z2 z3 z4
          have HB1 : Hid (Below wd.heap.size wd wd) := Lib.hid (Below.refl _ _)
          refine hK.out _ _ (trivial) (fun hNew => ?_)
          clear hK K hHeld; (have hHeld := hNew); clear hNew; (try simp only [Act.put, List.setIfInBounds_toArray, List.set_cons_zero, List.set_cons_succ])
          refine aloneH (i := 2) rfl (by kernel_rfl) (fun K hK => ?_)
          rw [if_pos (by rfl)]
          have hmk := make64
          go_simp
          clear hmk
          have HB2 : Hid (Below wd.heap.size wd (wd.alloc (.cells (zeros.map cellOf).toArray 5))) := Lib.hid (below_alloc _ _)
          have HTz : Hid (Txt (wd.alloc (.cells (zeros.map cellOf).toArray 5)) (some ⟨wd.heap.size, 0, none⟩) zeros) := Lib.hid (mid_txt (range_cells (heap_alloc_new wd _)))
          generalize (wd.alloc (.cells (zeros.map cellOf).toArray 5)) = w2 at HB2 HTz ⊢
          refine hK.out _ _ (trivial) (fun hNew => ?_)
          clear hK K hHeld; (have hHeld := hNew); clear hNew; (try simp only [Act.put, List.setIfInBounds_toArray, List.set_cons_zero, List.set_cons_succ])
          refine aloneH (i := 3) rfl (by kernel_rfl) (fun K hK => ?_)
          rw [if_pos (by rfl)]
          refine wp_text (.tmp 39) rfl (some ⟨wd.heap.size, 0, none⟩) 64 64 zeros zeros_len rfl (HTz.out.below (below_same w2)) (fun e => by cases e) ?_
          have HB3 : Hid (Below w2.heap.size w2 w2) := Lib.hid (Below.refl _ _)
          refine hK.out _ _ (trivial) (fun hNew => ?_)
          clear hK K hHeld; (have hHeld := hNew); clear hNew; (try simp only [Act.put, List.setIfInBounds_toArray, List.set_cons_zero, List.set_cons_succ])
          refine aloneH (i := 4) rfl (by kernel_rfl) (fun K hK => ?_)
          rw [if_pos (by rfl)]
          go_simp; ((refine (HWr.out w2 (below_then (below_then HB1.out HB2.out) HB3.out)).mono ?_); (rintro e w4 ⟨g2, c2, tr2, rfl, hr2, hb⟩); have HB4 := Lib.hid hb; have HR2 := Lib.hid hr2; clear hb hr2; (try go_simp))
          refine hK.out _ _ (trivial) (fun hNew => ?_)
          clear hK K hHeld; (have hHeld := hNew); clear hNew; (try simp only [Act.put, List.setIfInBounds_toArray, List.set_cons_zero, List.set_cons_succ])
          (refine takeH (i := 5) (v := ?_) rfl (by kernel_rfl) (by kernel_rfl) (by kernel_rfl) (fun _ _ _ h => h) (Or.inl ⟨by rfl, ?_⟩) (by assumption) ?_; rotate_left; (focus ((intro wS hSw); (try dsimp only at hSw); skip; go_simp; (try with_reducible rfl); done)); (try simp only [Act.put, List.setIfInBounds_toArray, List.set_cons_zero, List.set_cons_succ]))
          (refine takeH (i := 6) (v := ?_) rfl (by kernel_rfl) (by kernel_rfl) (by kernel_rfl) (fun _ _ _ h => h) (Or.inl ⟨by rfl, ?_⟩) (by assumption) ?_; rotate_left; (focus ((intro wS hSw); (try dsimp only at hSw); skip; go_simp; (try with_reducible rfl); done)); (try simp only [Act.put, List.setIfInBounds_toArray, List.set_cons_zero, List.set_cons_succ]))
          (refine takeH (i := 7) (v := ?_) rfl (by kernel_rfl) (by kernel_rfl) (by kernel_rfl) (fun _ _ _ h => h) (Or.inl ⟨by rfl, ?_⟩) (by assumption) ?_; rotate_left; (focus ((intro wS hSw); (try dsimp only at hSw); skip; go_simp; (try with_reducible rfl); done)); (try simp only [Act.put, List.setIfInBounds_toArray, List.set_cons_zero, List.set_cons_succ]))
          refine aloneH (i := 8) rfl (by kernel_rfl) (fun K hK => ?_)
          rw [if_pos (by rfl)]
          have HG : Hid (w4.heap[w.heap.size]? = some (.cells (refC g1 c1 d1.many (aftR d1) tr1 d1.dead d1.writes).toArray 28)) := Lib.hid (heap_on (below_then (below_then (below_then HB1.out HB2.out) HB3.out) HB4.out) HXd.out)
          refine wp_store_row 28 (.tmp 2) (.tmp 42) rfl w.heap.size rfl (refC g2 c2 d2.many (aftR d2) tr2 d2.dead d2.writes) (by kernel_rfl) (one5 _ _ _ _ _ _ _) rfl (refC g1 c1 d1.many (aftR d1) tr1 d1.dead d1.writes).toArray rfl _ HG.out ?_
          refine hK.out _ _ (trivial) (fun hNew => ?_)
          clear hK K hHeld; (have hHeld := hNew); clear hNew; (try simp only [Act.put])
          (refine takeH (i := 9) (v := ?_) rfl (by kernel_rfl) (by kernel_rfl) (by kernel_rfl) (fun _ _ _ h => h) (Or.inl ⟨by rfl, ?_⟩) (by assumption) ?_; rotate_left; (focus ((intro wS hSw); (try dsimp only at hSw); skip; go_simp; (try with_reducible rfl); done)); (try simp only [Act.put, List.setIfInBounds_toArray, List.set_cons_zero, List.set_cons_succ]))
          refine wpAnyH_done (by kernel_rfl) ?_ _
          clear hHeld
          have HX3 : Hid ((w4.setRow w.heap.size (refC g2 c2 d2.many (aftR d2) tr2 d2.dead d2.writes).toArray).heap[w.heap.size]? = some (.cells (refC g2 c2 d2.many (aftR d2) tr2 d2.dead d2.writes).toArray 28)) := Lib.hid (setRow_heap _ _ _ _ _ _ HG.out)
          have HZ3 : Hid ((w4.setRow w.heap.size (refC g2 c2 d2.many (aftR d2) tr2 d2.dead d2.writes).toArray).heap[w.heap.size + 1]? = some zBox) := Lib.hid ((setRow_other _ _ _ _ (by omega)).trans (heap_on (below_then (below_then (below_then HB1.out HB2.out) HB3.out) HB4.out) HZd.out))
          have HR3 : Hid (RefIs (w4.setRow w.heap.size (refC g2 c2 d2.many (aftR d2) tr2 d2.dead d2.writes).toArray) g2 c2 tr2 d2) := Lib.hid (HR2.out.setRow _ (ref_box HR2.out HD2.out.1 HG.out (fun s e => by cases e)))
          have HB3 : Hid (Below w.heap.size w (w4.setRow w.heap.size (refC g2 c2 d2.many (aftR d2) tr2 d2.dead d2.writes).toArray)) := Lib.hid (below_setRow (HBd.out.trans ((below_then (below_then (below_then HB1.out HB2.out) HB3.out) HB4.out).mono HBd.out.size)) (Nat.le_refl _) _)
          generalize w4.setRow w.heap.size (refC g2 c2 d2.many (aftR d2) tr2 d2.dead d2.writes).toArray = w9 at HX3 HZ3 HR3 HB3 ⊢
          clear HG HR2 HTz HWr HXd HZd HBd
          by_cases he : ev = 0
          · subst he
            go_wp2
            go_roundw
            case rel => exact ⟨k + 1, n + 1, by omega, by omega, congrArg (Value.int .i64) (by omega), congrArg (Value.int .i64) (by omega), Lib.hid ⟨by omega, d2, g2, c2, tr2, HX3.out, HZ3.out, HR3.out, HB3.out, HO2.out rfl⟩⟩
            case measure => exact HMs.out
          · have hne : ¬ ev = 0 := he
            have hcut := Lib.hid (HCt.out he)
            clear he HO2 HCt
            obtain ⟨⟨z0, z1, z2, z3, z4⟩, _⟩ := cells5 HX3.out
            obtain ⟨⟨y0, y1, y2, y3, y4⟩, ⟨x0, x1, x2, x3, x4⟩⟩ := cells5 HZ3.out
            go_wp2
            have hx := set_struct5 HZ3.out (.slice (some ⟨g2, 0, none⟩) d2.many c2) (.int .i64 (aftR d2)) (.int .i64 tr2) (.bool d2.dead) (.int .i64 d2.writes)
            refine bodyPost_ret (results_cell_of3 rfl _ _ (w.heap.size + 1) _ _ _ rfl rfl rfl (load_ref _ _ (refC g2 c2 d2.many (aftR d2) tr2 d2.dead d2.writes) rfl _ _ hx)) rfl ?_
            unfold WipeRR
            rw [hcut.out]
            exact ⟨g2, c2, tr2, rfl, HR3.out.set5 (ref_box HR3.out HD2.out.1 HZ3.out (fun s e => by cases e)) _ _ _ _ _, set_below5 HB3.out (by omega) _ _ _ _ _⟩
        · rw [if_pos (by rfl)]
          have hmk := make64
          go_simp
          clear hmk
          have HB1 : Hid (Below wd.heap.size wd (wd.alloc (.cells (zeros.map cellOf).toArray 5))) := Lib.hid (below_alloc _ _)
          have HTz : Hid (Txt (wd.alloc (.cells (zeros.map cellOf).toArray 5)) (some ⟨wd.heap.size, 0, none⟩) zeros) := Lib.hid (mid_txt (range_cells (heap_alloc_new wd _)))
          generalize (wd.alloc (.cells (zeros.map cellOf).toArray 5)) = w1 at HB1 HTz ⊢
          refine hK.out _ _ (trivial) (fun hNew => ?_)
          clear hK K hHeld; (have hHeld := hNew); clear hNew; (try simp only [Act.put, List.setIfInBounds_toArray, List.set_cons_zero, List.set_cons_succ])
          refine twoH (i := 0) (i2 := 3) rfl rfl (by kernel_rfl) (fun K hK => ?_) (fun K hK => ?_)
          · rw [if_pos (by rfl)]
            obtain ⟨⟨z0, z1, z2, z3, z4⟩, _⟩ := cells5 (heap_on HB1.out HXd.out)
            go_simp
            clear z0 z1 z2 z3 z4
            have HB2 : Hid (Below w1.heap.size w1 w1) := Lib.hid (Below.refl _ _)
            refine hK.out _ _ (trivial) (fun hNew => ?_)
            clear hK K hHeld; (have hHeld := hNew); clear hNew; (try simp only [Act.put, List.setIfInBounds_toArray, List.set_cons_zero, List.set_cons_succ])
            refine aloneH (i := 3) rfl (by kernel_rfl) (fun K hK => ?_)
            rw [if_pos (by rfl)]
            refine wp_text (.tmp 39) rfl (some ⟨wd.heap.size, 0, none⟩) 64 64 zeros zeros_len rfl (HTz.out.below HB2.out) (fun e => by cases e) ?_
            have HB3 : Hid (Below w1.heap.size w1 w1) := Lib.hid (Below.refl _ _)
            refine hK.out _ _ (trivial) (fun hNew => ?_)
            clear hK K hHeld; (have hHeld := hNew); clear hNew; (try simp only [Act.put, List.setIfInBounds_toArray, List.set_cons_zero, List.set_cons_succ])
            refine aloneH (i := 4) rfl (by kernel_rfl) (fun K hK => ?_)
            rw [if_pos (by rfl)]
            go_simp; ((refine (HWr.out w1 (below_then (below_then HB1.out HB2.out) HB3.out)).mono ?_); (rintro e w4 ⟨g2, c2, tr2, rfl, hr2, hb⟩); have HB4 := Lib.hid hb; have HR2 := Lib.hid hr2; clear hb hr2; (try go_simp))
            refine hK.out _ _ (trivial) (fun hNew => ?_)
            clear hK K hHeld; (have hHeld := hNew); clear hNew; (try simp only [Act.put, List.setIfInBounds_toArray, List.set_cons_zero, List.set_cons_succ])
            (refine takeH (i := 5) (v := ?_) rfl (by kernel_rfl) (by kernel_rfl) (by kernel_rfl) (fun _ _ _ h => h) (Or.inl ⟨by rfl, ?_⟩) (by assumption) ?_; rotate_left; (focus ((intro wS hSw); (try dsimp only at hSw); skip; go_simp; (try with_reducible rfl); done)); (try simp only [Act.put, List.setIfInBounds_toArray, List.set_cons_zero, List.set_cons_succ]))
            (refine takeH (i := 6) (v := ?_) rfl (by kernel_rfl) (by kernel_rfl) (by kernel_rfl) (fun _ _ _ h => h) (Or.inl ⟨by rfl, ?_⟩) (by assumption) ?_; rotate_left; (focus ((intro wS hSw); (try dsimp only at hSw); skip; go_simp; (try with_reducible rfl); done)); (try simp only [Act.put, List.setIfInBounds_toArray, List.set_cons_zero, List.set_cons_succ]))
            (refine takeH (i := 7) (v := ?_) rfl (by kernel_rfl) (by kernel_rfl) (by kernel_rfl) (fun _ _ _ h => h) (Or.inl ⟨by rfl, ?_⟩) (by assumption) ?_; rotate_left; (focus ((intro wS hSw); (try dsimp only at hSw); skip; go_simp; (try with_reducible rfl); done)); (try simp only [Act.put, List.setIfInBounds_toArray, List.set_cons_zero, List.set_cons_succ]))
            refine aloneH (i := 8) rfl (by kernel_rfl) (fun K hK => ?_)
            rw [if_pos (by rfl)]
            have HG : Hid (w4.heap[w.heap.size]? = some (.cells (refC g1 c1 d1.many (aftR d1) tr1 d1.dead d1.writes).toArray 28)) := Lib.hid (heap_on (below_then (below_then (below_then HB1.out HB2.out) HB3.out) HB4.out) HXd.out)
            refine wp_store_row 28 (.tmp 2) (.tmp 42) rfl w.heap.size rfl (refC g2 c2 d2.many (aftR d2) tr2 d2.dead d2.writes) (by kernel_rfl) (one5 _ _ _ _ _ _ _) rfl (refC g1 c1 d1.many (aftR d1) tr1 d1.dead d1.writes).toArray rfl _ HG.out ?_
            refine hK.out _ _ (trivial) (fun hNew => ?_)
            clear hK K hHeld; (have hHeld := hNew); clear hNew; (try simp only [Act.put])
            (refine takeH (i := 9) (v := ?_) rfl (by kernel_rfl) (by kernel_rfl) (by kernel_rfl) (fun _ _ _ h => h) (Or.inl ⟨by rfl, ?_⟩) (by assumption) ?_; rotate_left; (focus ((intro wS hSw); (try dsimp only at hSw); skip; go_simp; (try with_reducible rfl); done)); (try simp only [Act.put, List.setIfInBounds_toArray, List.set_cons_zero, List.set_cons_succ]))
            refine wpAnyH_done (by kernel_rfl) ?_ _
            clear hHeld
            have HX3 : Hid ((w4.setRow w.heap.size (refC g2 c2 d2.many (aftR d2) tr2 d2.dead d2.writes).toArray).heap[w.heap.size]? = some (.cells (refC g2 c2 d2.many (aftR d2) tr2 d2.dead d2.writes).toArray 28)) := Lib.hid (setRow_heap _ _ _ _ _ _ HG.out)
            have HZ3 : Hid ((w4.setRow w.heap.size (refC g2 c2 d2.many (aftR d2) tr2 d2.dead d2.writes).toArray).heap[w.heap.size + 1]? = some zBox) := Lib.hid ((setRow_other _ _ _ _ (by omega)).trans (heap_on (below_then (below_then (below_then HB1.out HB2.out) HB3.out) HB4.out) HZd.out))
            have HR3 : Hid (RefIs (w4.setRow w.heap.size (refC g2 c2 d2.many (aftR d2) tr2 d2.dead d2.writes).toArray) g2 c2 tr2 d2) := Lib.hid (HR2.out.setRow _ (ref_box HR2.out HD2.out.1 HG.out (fun s e => by cases e)))
            have HB3 : Hid (Below w.heap.size w (w4.setRow w.heap.size (refC g2 c2 d2.many (aftR d2) tr2 d2.dead d2.writes).toArray)) := Lib.hid (below_setRow (HBd.out.trans ((below_then (below_then (below_then HB1.out HB2.out) HB3.out) HB4.out).mono HBd.out.size)) (Nat.le_refl _) _)
            generalize w4.setRow w.heap.size (refC g2 c2 d2.many (aftR d2) tr2 d2.dead d2.writes).toArray = w9 at HX3 HZ3 HR3 HB3 ⊢
            clear HG HR2 HTz HWr HXd HZd HBd
            by_cases he : ev = 0
            · subst he
              go_wp2
              go_roundw
              case rel => exact ⟨k + 1, n + 1, by omega, by omega, congrArg (Value.int .i64) (by omega), congrArg (Value.int .i64) (by omega), Lib.hid ⟨by omega, d2, g2, c2, tr2, HX3.out, HZ3.out, HR3.out, HB3.out, HO2.out rfl⟩⟩
              case measure => exact HMs.out
            · have hne : ¬ ev = 0 := he
              have hcut := Lib.hid (HCt.out he)
              clear he HO2 HCt
              obtain ⟨⟨z0, z1, z2, z3, z4⟩, _⟩ := cells5 HX3.out
              obtain ⟨⟨y0, y1, y2, y3, y4⟩, ⟨x0, x1, x2, x3, x4⟩⟩ := cells5 HZ3.out
              go_wp2
              have hx := set_struct5 HZ3.out (.slice (some ⟨g2, 0, none⟩) d2.many c2) (.int .i64 (aftR d2)) (.int .i64 tr2) (.bool d2.dead) (.int .i64 d2.writes)
              refine bodyPost_ret (results_cell_of3 rfl _ _ (w.heap.size + 1) _ _ _ rfl rfl rfl (load_ref _ _ (refC g2 c2 d2.many (aftR d2) tr2 d2.dead d2.writes) rfl _ _ hx)) rfl ?_
              unfold WipeRR
              rw [hcut.out]
              exact ⟨g2, c2, tr2, rfl, HR3.out.set5 (ref_box HR3.out HD2.out.1 HZ3.out (fun s e => by cases e)) _ _ _ _ _, set_below5 HB3.out (by omega) _ _ _ _ _⟩
          · rw [if_pos (by rfl)]
            refine wp_text (.tmp 39) rfl (some ⟨wd.heap.size, 0, none⟩) 64 64 zeros zeros_len rfl (HTz.out.below (below_same w1)) (fun e => by cases e) ?_
            have HB2 : Hid (Below w1.heap.size w1 w1) := Lib.hid (Below.refl _ _)
            refine hK.out _ _ (trivial) (fun hNew => ?_)
            clear hK K hHeld; (have hHeld := hNew); clear hNew; (try simp only [Act.put, List.setIfInBounds_toArray, List.set_cons_zero, List.set_cons_succ])
            refine aloneH (i := 0) rfl (by kernel_rfl) (fun K hK => ?_)
            rw [if_pos (by rfl)]
            obtain ⟨⟨z0, z1, z2, z3, z4⟩, _⟩ := cells5 (heap_on (below_then HB1.out HB2.out) HXd.out)
            go_simp
            clear z0 z1 z2 z3 z4
            have HB3 : Hid (Below w1.heap.size w1 w1) := Lib.hid (Below.refl _ _)
            refine hK.out _ _ (trivial) (fun hNew => ?_)
            clear hK K hHeld; (have hHeld := hNew); clear hNew; (try simp only [Act.put, List.setIfInBounds_toArray, List.set_cons_zero, List.set_cons_succ])
            refine aloneH (i := 4) rfl (by kernel_rfl) (fun K hK => ?_)
            rw [if_pos (by rfl)]
            go_simp; ((refine (HWr.out w1 (below_then (below_then HB1.out HB2.out) HB3.out)).mono ?_); (rintro e w4 ⟨g2, c2, tr2, rfl, hr2, hb⟩); have HB4 := Lib.hid hb; have HR2 := Lib.hid hr2; clear hb hr2; (try go_simp))
            refine hK.out _ _ (trivial) (fun hNew => ?_)
            clear hK K hHeld; (have hHeld := hNew); clear hNew; (try simp only [Act.put, List.setIfInBounds_toArray, List.set_cons_zero, List.set_cons_succ])
            (refine takeH (i := 5) (v := ?_) rfl (by kernel_rfl) (by kernel_rfl) (by kernel_rfl) (fun _ _ _ h => h) (Or.inl ⟨by rfl, ?_⟩) (by assumption) ?_; rotate_left; (focus ((intro wS hSw); (try dsimp only at hSw); skip; go_simp; (try with_reducible rfl); done)); (try simp only [Act.put, List.setIfInBounds_toArray, List.set_cons_zero, List.set_cons_succ]))
            (refine takeH (i := 6) (v := ?_) rfl (by kernel_rfl) (by kernel_rfl) (by kernel_rfl) (fun _ _ _ h => h) (Or.inl ⟨by rfl, ?_⟩) (by assumption) ?_; rotate_left; (focus ((intro wS hSw); (try dsimp only at hSw); skip; go_simp; (try with_reducible rfl); done)); (try simp only [Act.put, List.setIfInBounds_toArray, List.set_cons_zero, List.set_cons_succ]))
            (refine takeH (i := 7) (v := ?_) rfl (by kernel_rfl) (by kernel_rfl) (by kernel_rfl) (fun _ _ _ h => h) (Or.inl ⟨by rfl, ?_⟩) (by assumption) ?_; rotate_left; (focus ((intro wS hSw); (try dsimp only at hSw); skip; go_simp; (try with_reducible rfl); done)); (try simp only [Act.put, List.setIfInBounds_toArray, List.set_cons_zero, List.set_cons_succ]))
            refine aloneH (i := 8) rfl (by kernel_rfl) (fun K hK => ?_)
            rw [if_pos (by rfl)]
            have HG : Hid (w4.heap[w.heap.size]? = some (.cells (refC g1 c1 d1.many (aftR d1) tr1 d1.dead d1.writes).toArray 28)) := Lib.hid (heap_on (below_then (below_then (below_then HB1.out HB2.out) HB3.out) HB4.out) HXd.out)
            refine wp_store_row 28 (.tmp 2) (.tmp 42) rfl w.heap.size rfl (refC g2 c2 d2.many (aftR d2) tr2 d2.dead d2.writes) (by kernel_rfl) (one5 _ _ _ _ _ _ _) rfl (refC g1 c1 d1.many (aftR d1) tr1 d1.dead d1.writes).toArray rfl _ HG.out ?_
            refine hK.out _ _ (trivial) (fun hNew => ?_)
            clear hK K hHeld; (have hHeld := hNew); clear hNew; (try simp only [Act.put])
            (refine takeH (i := 9) (v := ?_) rfl (by kernel_rfl) (by kernel_rfl) (by kernel_rfl) (fun _ _ _ h => h) (Or.inl ⟨by rfl, ?_⟩) (by assumption) ?_; rotate_left; (focus ((intro wS hSw); (try dsimp only at hSw); skip; go_simp; (try with_reducible rfl); done)); (try simp only [Act.put, List.setIfInBounds_toArray, List.set_cons_zero, List.set_cons_succ]))
            refine wpAnyH_done (by kernel_rfl) ?_ _
            clear hHeld
            have HX3 : Hid ((w4.setRow w.heap.size (refC g2 c2 d2.many (aftR d2) tr2 d2.dead d2.writes).toArray).heap[w.heap.size]? = some (.cells (refC g2 c2 d2.many (aftR d2) tr2 d2.dead d2.writes).toArray 28)) := Lib.hid (setRow_heap _ _ _ _ _ _ HG.out)
            have HZ3 : Hid ((w4.setRow w.heap.size (refC g2 c2 d2.many (aftR d2) tr2 d2.dead d2.writes).toArray).heap[w.heap.size + 1]? = some zBox) := Lib.hid ((setRow_other _ _ _ _ (by omega)).trans (heap_on (below_then (below_then (below_then HB1.out HB2.out) HB3.out) HB4.out) HZd.out))
            have HR3 : Hid (RefIs (w4.setRow w.heap.size (refC g2 c2 d2.many (aftR d2) tr2 d2.dead d2.writes).toArray) g2 c2 tr2 d2) := Lib.hid (HR2.out.setRow _ (ref_box HR2.out HD2.out.1 HG.out (fun s e => by cases e)))
            have HB3 : Hid (Below w.heap.size w (w4.setRow w.heap.size (refC g2 c2 d2.many (aftR d2) tr2 d2.dead d2.writes).toArray)) := Lib.hid (below_setRow (HBd.out.trans ((below_then (below_then (below_then HB1.out HB2.out) HB3.out) HB4.out).mono HBd.out.size)) (Nat.le_refl _) _)
            generalize w4.setRow w.heap.size (refC g2 c2 d2.many (aftR d2) tr2 d2.dead d2.writes).toArray = w9 at HX3 HZ3 HR3 HB3 ⊢
            clear HG HR2 HTz HWr HXd HZd HBd
            by_cases he : ev = 0
            · subst he
              go_wp2
              go_roundw
              case rel => exact ⟨k + 1, n + 1, by omega, by omega, congrArg (Value.int .i64) (by omega), congrArg (Value.int .i64) (by omega), Lib.hid ⟨by omega, d2, g2, c2, tr2, HX3.out, HZ3.out, HR3.out, HB3.out, HO2.out rfl⟩⟩
              case measure => exact HMs.out
            · have hne : ¬ ev = 0 := he
              have hcut := Lib.hid (HCt.out he)
              clear he HO2 HCt
              obtain ⟨⟨z0, z1, z2, z3, z4⟩, _⟩ := cells5 HX3.out
              obtain ⟨⟨y0, y1, y2, y3, y4⟩, ⟨x0, x1, x2, x3, x4⟩⟩ := cells5 HZ3.out
              go_wp2
              have hx := set_struct5 HZ3.out (.slice (some ⟨g2, 0, none⟩) d2.many c2) (.int .i64 (aftR d2)) (.int .i64 tr2) (.bool d2.dead) (.int .i64 d2.writes)
              refine bodyPost_ret (results_cell_of3 rfl _ _ (w.heap.size + 1) _ _ _ rfl rfl rfl (load_ref _ _ (refC g2 c2 d2.many (aftR d2) tr2 d2.dead d2.writes) rfl _ _ hx)) rfl ?_
              unfold WipeRR
              rw [hcut.out]
              exact ⟨g2, c2, tr2, rfl, HR3.out.set5 (ref_box HR3.out HD2.out.1 HZ3.out (fun s e => by cases e)) _ _ _ _ _, set_below5 HB3.out (by omega) _ _ _ _ _⟩
      · go_wp2
        go_roundw
        case rel => exact ⟨k + 1, n, by omega, by omega, congrArg (Value.int .i64) (by omega), rfl, Lib.hid ⟨by omega, d1, g1, c1, tr1, HX6.out, HZ6.out, HR6.out, HB6.out, HO.out.blank HQk.out⟩⟩
        case measure => exact HMs.out
    · obtain rfl : k = m := by omega
      have hdn : R = (d1, n, 0) := by
        rw [HRr.out]
        have h1 := HO.out
        rw [HMm.out] at h1
        exact h1.done
      have HDn := Lib.hid hdn
      clear hdn
      obtain ⟨⟨y0, y1, y2, y3, y4⟩, ⟨x0, x1, x2, x3, x4⟩⟩ := cells5 HZ.out
      go_wp2
      have hx := set_struct5 HZ.out (.slice (some ⟨g1, 0, none⟩) k c1) (.int .i64 (aftR d1)) (.int .i64 tr1) (.bool d1.dead) (.int .i64 d1.writes)
      refine bodyPost_ret (results_cell_of3 rfl _ _ (w.heap.size + 1) _ _ _ rfl rfl rfl (load_ref _ _ (refC g1 c1 k (aftR d1) tr1 d1.dead d1.writes) rfl _ _ hx)) rfl ?_
      unfold WipeRR
      rw [HDn.out]
      exact ⟨g1, c1, tr1, by rw [← HD1.out]; rfl, HRf.out.set5 (ref_box HRf.out (by rw [HD1.out, HMm.out]; exact HM.out.1) HZ.out (fun s e => by cases e)) _ _ _ _ _, set_below5 HB.out (by omega) _ _ _ _ _⟩
end Go.Proofs.Ytfjejiapafdgeaa

namespace Go.Proofs.Ytfjejiapafdgeaa
open Go.RowKit
set_option maxRecDepth 100000
set_option linter.unusedSimpArgs false
set_option linter.unusedVariables false

theorem sreach_ok {d : DiskV} {tail : Int} (h : sreachV d tail = 0) : ∃ t : Nat, tail = t ∧ t ≤ d.many ∧ d.dead = false := by
  unfold sreachV at h
  by_cases h1 : tail < 0 ∨ (d.many : Int) < tail
  · rw [if_pos h1] at h; omega
  · rw [if_neg h1] at h
    cases hd : d.dead with
    | true => rw [hd, if_pos rfl] at h; omega
    | false => exact ⟨tail.toNat, by omega, by omega, rfl⟩
/-- how many are dirty -/
def DX (d : DiskV) (tail : Int) : Nat := if sreachV d tail = 0 then (dirtyL d.S tail.toNat d.many).length else 0
/-- what wiping leaves, how many, the error -/
def WX (d : DiskV) (tail : Int) : DiskV × Nat × Int := if sreachV d tail = 0 then wipeL d 0 (dirtyL d.S tail.toNat d.many) else (d, 0, sreachV d tail)
/-- what the fuse leaves, the error -/
def FX (d : DiskV) (a t : Int) : DiskV × Int := if 0 ≤ a ∧ 0 ≤ t ∧ t ≤ 64 then (fuseD d a t, 0) else (d, 2)
theorem dirty_any (w : World) (B bm n : Nat) (d : DiskV) (tail : Int) (h : Dsk w B bm n d) :
    Calls Try.prog 17 #[.pointer (some ⟨B, 0, none⟩), .int .i64 tail] w fun e w' => e = .returned (.tuple #[.int .i64 (DX d tail : Nat), .int .i64 (sreachV d tail)]) ∧ Below w.heap.size w w' := by
  by_cases hz : sreachV d tail = 0
  · obtain ⟨t, rfl, ht, hd⟩ := sreach_ok hz
    have h1 := code_dirty w B bm n d t h hd ht
    unfold DX
    rw [if_pos hz, hz, Int.toNat_natCast]
    exact h1
  · unfold DX
    rw [if_neg hz]
    refine (code_dirty_bad w B bm n d tail h hz).mono ?_
    rintro e w' ⟨h1, rfl⟩
    exact ⟨h1, Below.refl _ _⟩
theorem rdirty_any (w : World) (g c : Nat) (tr : Int) (d : DiskV) (tail : Int) (h : RefIs w g c tr d) (hm : d.many ≤ 1000) (h64 : ∀ k, k < d.many → (d.S k).length = 64) :
    Calls Try.prog 18 #[spelt g c tr d, .int .i64 tail] w fun e w' => e = .returned (.tuple #[.int .i64 (DX d tail : Nat), .int .i64 (sreachV d tail)]) ∧ Below w.heap.size w w' := by
  by_cases hz : sreachV d tail = 0
  · obtain ⟨t, rfl, ht, hd⟩ := sreach_ok hz
    have h1 := ref_dirty w g c tr d t h hd ht hm h64
    unfold DX
    rw [if_pos hz, hz, Int.toNat_natCast]
    exact h1
  · unfold DX
    rw [if_neg hz]
    exact ref_dirty_bad w g c tr d tail hz
theorem wipe_any (w : World) (B bm nn : Nat) (d : DiskV) (tail : Int) (h : Dsk w B bm nn d) (hok : OkD d) (hn : nn ≤ 1000000) (hw : d.writes ≤ 1000000) :
    Calls Try.prog 22 #[.pointer (some ⟨B, 0, none⟩), .int .i64 tail] w fun e w' => e = .returned (.tuple #[.int .i64 ((WX d tail).2.1 : Nat), .int .i64 (WX d tail).2.2]) ∧ (∃ n, Dsk w' B bm n (WX d tail).1 ∧ n ≤ nn + d.many) ∧ ChgD w w' B bm := by
  by_cases hz : sreachV d tail = 0
  · obtain ⟨t, rfl, ht, hd⟩ := sreach_ok hz
    have h1 := code_wipe w B bm nn d t h hok hd ht hn hw
    unfold WX
    rw [if_pos hz, Int.toNat_natCast]
    exact h1
  · unfold WX
    rw [if_neg hz]
    refine (wipe_bad w (some ⟨B, 0, none⟩) tail (sreachV d tail) hz (fun V hV => code_sreach V B bm nn d tail (h.below hV))).mono ?_
    rintro e w' ⟨h1, hb⟩
    exact ⟨h1, ⟨nn, h.below hb, by omega⟩, ChgD.of_below hb⟩
set_option maxHeartbeats 1000000 in
theorem ref_wipe_bad (w : World) (g c : Nat) (tr : Int) (d : DiskV) (tail : Int) (h : RefIs w g c tr d) (hm1 : 1 ≤ d.many) (hz : sreachV d tail ≠ 0) :
    Calls Try.prog 23 #[spelt g c tr d, .int .i64 tail] w (WipeRR w (d, 0, sreachV d tail)) := by
  obtain ⟨wa, hwa⟩ : ∃ wa, wa = (w.alloc (.cells #[.slice (some ⟨g, 0, none⟩) d.many c, .int .i64 (aftR d), .int .i64 tr, .bool d.dead, .int .i64 d.writes] 28)).alloc zBox := ⟨_, rfl⟩
  have HBa : Hid (Below w.heap.size w wa) := Lib.hid (by rw [hwa]; exact below_then (below_alloc _ _) (below_alloc _ _))
  obtain ⟨z, hzz⟩ : ∃ z, z = sreachV d tail := ⟨_, rfl⟩
  have HDi : Hid (∀ V, V = wa → Calls Try.prog 18 #[spelt g c tr d, .int .i64 tail] V fun e w' => e = .returned (.tuple #[.int .i64 0, .int .i64 z]) ∧ Below V.heap.size V w') := Lib.hid (fun V hV => by rw [hV, hzz]; exact ref_dirty_bad wa g c tr d tail hz)
  rw [← hzz] at hz ⊢
  have HX : Hid (wa.heap[w.heap.size]? = some (.cells (refC g c d.many (aftR d) tr d.dead d.writes).toArray 28 (0, 0))) := Lib.hid (by
    rw [hwa]
    exact heap_on (below_alloc _ _) (heap_alloc_new w _))
  have HZ : Hid (wa.heap[w.heap.size + 1]? = some zBox) := Lib.hid (by
    rw [hwa]
    have := heap_alloc_new (w.alloc (.cells #[.slice (some ⟨g, 0, none⟩) d.many c, .int .i64 (aftR d), .int .i64 tr, .bool d.dead, .int .i64 d.writes] 28)) zBox
    rwa [World.size_alloc] at this)
  have HR := Lib.hid h
  have HM := Lib.hid hm1
  have HWA := Lib.hid hwa
  have hne : ¬ z = 0 := hz
  clear h hm1 hwa hz hzz
  go_enter Try.func23, Try.ntmps23
  go_wp2_with (go_at_call 18; refine (HDi.out _ HWA.out.symm).mono ?_; rintro e w1 ⟨rfl, hb1⟩; have HB1 : Hid (Below wa.heap.size wa w1) := Lib.hid (by rw [HWA.out]; exact hb1); clear hb1; refine Stop.out ?_)
  unfold Stop
  have HX1 := Lib.hid (heap_on HB1.out HX.out)
  have HZ1 := Lib.hid (heap_on HB1.out HZ.out)
  have HR1 := Lib.hid ((HR.out.below HBa.out).below HB1.out)
  have HBw := Lib.hid (below_then HBa.out HB1.out)
  clear HX HZ HDi HB1 HWA
  obtain ⟨⟨z0, z1, z2, z3, z4⟩, _⟩ := cells5 HX1.out
  obtain ⟨⟨y0, y1, y2, y3, y4⟩, ⟨x0, x1, x2, x3, x4⟩⟩ := cells5 HZ1.out
  go_wp2
  have hx := set_struct5 HZ1.out (.slice (some ⟨g, 0, none⟩) d.many c) (.int .i64 (aftR d)) (.int .i64 tr) (.bool d.dead) (.int .i64 d.writes)
  refine bodyPost_ret (results_cell_of3 rfl _ _ (w.heap.size + 1) _ _ _ rfl rfl rfl (load_ref _ _ (refC g c d.many (aftR d) tr d.dead d.writes) rfl _ _ hx)) rfl ?_
  exact ⟨g, c, tr, rfl, HR1.out.set5 (ref_box HR1.out HM.out HZ1.out (fun s e => by cases e)) _ _ _ _ _, set_below5 HBw.out (by omega) _ _ _ _ _⟩
theorem rwipe_any (w : World) (g c : Nat) (tr : Int) (d : DiskV) (tail : Int) (h : RefIs w g c tr d) (hok : OkD d) (hm1 : 1 ≤ d.many) (hm : d.many ≤ 1000) (hw : d.writes ≤ 1000000) (h64 : ∀ k, k < d.many → (d.S k).length = 64) :
    Calls Try.prog 23 #[spelt g c tr d, .int .i64 tail] w (WipeRR w (WX d tail)) := by
  by_cases hz : sreachV d tail = 0
  · obtain ⟨t, rfl, ht, hd⟩ := sreach_ok hz
    unfold WX
    rw [if_pos hz, Int.toNat_natCast]
    exact ref_wipe w g c tr d t h hok hd ht hm1 hm hw h64
  · unfold WX
    rw [if_neg hz]
    exact ref_wipe_bad w g c tr d tail h hm1 hz
theorem fuse_any (w : World) (B bm n : Nat) (d : DiskV) (a t : Int) (h : Dsk w B bm n d) :
    Calls Try.prog 20 #[.pointer (some ⟨B, 0, none⟩), .int .i64 a, .int .i64 t] w fun e w' => e = .returned (.int .i64 (FX d a t).2) ∧ Dsk w' B bm n (FX d a t).1 ∧ ChgD w w' B bm := by
  unfold FX
  by_cases hz : 0 ≤ a ∧ 0 ≤ t ∧ t ≤ 64
  · rw [if_pos hz]
    exact code_fuse w B bm n d a t h hz
  · rw [if_neg hz]
    exact play_dfuse_bad w B bm n d a t h (by omega)
theorem rfuse_any (w : World) (g c : Nat) (tr : Int) (d : DiskV) (a t : Int) (h : RefIs w g c tr d) :
    Calls Try.prog 21 #[spelt g c tr d, .int .i64 a, .int .i64 t] w fun e w' => ∃ tr2, e = .returned (.tuple #[spelt g c tr2 (FX d a t).1, .int .i64 (FX d a t).2]) ∧ RefIs w' g c tr2 (FX d a t).1 ∧ Below w.heap.size w w' := by
  unfold FX
  by_cases hz : 0 ≤ a ∧ 0 ≤ t ∧ t ≤ 64
  · rw [if_pos hz]
    refine (play_fuse w g c tr d a t h hz).mono ?_
    rintro e w' ⟨h1, h2, h3⟩
    exact ⟨t, h1, h2, h3⟩
  · rw [if_neg hz]
    refine (play_fuse_bad w g c tr d a t h (by omega)).mono ?_
    rintro e w' ⟨h1, h2, h3⟩
    exact ⟨tr, h1, h2, h3⟩
theorem FX_facts {d : DiskV} {a t : Int} (hok : OkD d) (ha : a ≤ 9223372036854775807) : OkD (FX d a t).1 ∧ (FX d a t).1.many = d.many ∧ (FX d a t).1.S = d.S ∧ (FX d a t).1.writes = d.writes ∧ (FX d a t).1.dead = d.dead := by
  unfold FX
  by_cases hz : 0 ≤ a ∧ 0 ≤ t ∧ t ≤ 64
  · rw [if_pos hz]
    exact ⟨fuseD_ok hok hz ha, rfl, rfl, rfl, rfl⟩
  · rw [if_neg hz]
    exact ⟨hok, rfl, rfl, rfl, rfl⟩
theorem Dsk.setRow {w : World} {B bm n b : Nat} {d : DiskV} (h : Dsk w B bm n d) (u : Array Value) (h1 : B ≠ b) (h2 : bm ≠ b) : Dsk (w.setRow b u) B bm n d :=
  ⟨(setRow_other _ _ _ _ h1).trans h.1, h.2.1.kept (setRow_other _ _ _ _ h2), h.2.2⟩
end Go.Proofs.Ytfjejiapafdgeaa
