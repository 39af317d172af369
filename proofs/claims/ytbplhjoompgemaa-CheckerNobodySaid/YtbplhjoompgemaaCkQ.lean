/- A plan takes boxes in. -/
import Derived.Test.YtbplhjoompgemaaCkP
namespace Go.Proofs.Ytbplhjoompgemaa
open Go.RowKit
set_option maxRecDepth 100000
set_option linter.unusedSimpArgs false
set_option linter.unusedVariables false
attribute [local go_sem] Oper.semAt_some

theorem rd_set {w : World} {R : Nat} {a b c d : Value} {T : TypeId} (h : w.heap[R]? = some (.cells #[a, b, c, d] T (0, 0))) (v : Value) : (w.setCell ⟨R, 0, none⟩ v).heap[R]? = some (.cells #[v, b, c, d] T (0, 0)) := by
  simpa using heap_setCell_same w R 0 _ _ v h
theorem Chg2.refl (R S : Nat) (w : World) : Chg2 R S w w := ⟨rfl, rfl, rfl, Nat.le_refl _, fun _ _ _ _ => rfl⟩
theorem Chg2.trans {R S : Nat} {a b c : World} (h : Chg2 R S a b) (k : Chg2 R S b c) : Chg2 R S a c :=
  ⟨k.os.trans h.os, k.tape.trans h.tape, k.output.trans h.output, Nat.le_trans h.size k.size, fun i hi hr hs => (k.block i (Nat.lt_of_lt_of_le hi h.size) hr hs).trans (h.block i hi hr hs)⟩
theorem Chg2.left {R S : Nat} {a b : World} (h : Chg R a b) : Chg2 R S a b := ⟨h.os, h.tape, h.output, h.size, fun i hi hr _ => h.heap hi hr⟩
theorem Chg2.right {R S : Nat} {a b : World} (h : Chg S a b) : Chg2 R S a b := ⟨h.os, h.tape, h.output, h.size, fun i hi _ hs => h.heap hi hs⟩
theorem Chg2.of {R S : Nat} {a b : World} (h : Below a.heap.size a b) : Chg2 R S a b := ⟨h.os, h.tape, h.output, h.size, fun i hi _ _ => h.block i hi⟩
/-- where numbers stand, at last -/
def plcs (L : List LB) : List (Int × Int) := L.zipIdx.foldl (fun E p => putI p.1.1 ((p.2 : Nat) : Int) E) []
theorem plcs_take (L : List LB) (k : Nat) (h : k < L.length) : plcs (L.take (k + 1)) = putI L[k].1 (k : Nat) (plcs (L.take k)) := by
  unfold plcs
  rw [List.take_succ_eq_append_getElem h, List.zipIdx_append, List.foldl_append]
  simp [List.length_take, Nat.min_eq_left (Nat.le_of_lt h)]
theorem lbCs_take (L : List LB) (k : Nat) (h : k < L.length) : lbCs (L.take (k + 1)) = lbCs (L.take k) ++ lbC L[k] := by
  rw [List.take_succ_eq_append_getElem h, lbCs_append]
  simp [lbCs]
/-- a plan that has taken boxes in -/
structure NumAt (w0 w : World) (P m B : Nat) (L : List LB) (E : List (Int × Int)) : Prop where
  chg : Chg2 P m w0 w
  box : ∃ A c, w.heap[P]? = some (.cells #[.slice A L.length c, .map (some m), .slice none 0 0, .slice none 0 0] 36 (0, 0)) ∧ w.ownsRow B 43 6 (.slice A L.length c) L.length (lbCs L)
  map : MapI w m E
theorem num_mid {w wr p qa qf : World} {P m B n : Nat} {L : List LB} {E : List (Int × Int)} {v : Value} {xs : List Value} {pc : Array Value} (h : NumAt w wr P m B L E) (hB : B = w.heap.size) (hb : Below wr.heap.size wr p) (ho : p.ownsRow B 43 6 v n xs)
    (hg : p.grownBy qa v.ownBlock) (hc : Chg P qa qf) (hP : p.heap[P]? = some (.cells pc 36 (0, 0))) (hPm : P ≠ m) : Chg2 P m w qf ∧ MapI qf m E := by
  have hm := h.map.on hb
  constructor
  · refine ⟨hc.os.trans (hg.os.trans (hb.os.trans h.chg.os)), hc.tape.trans (hg.tape.trans (hb.tape.trans h.chg.tape)), hc.output.trans (hg.output.trans (hb.output.trans h.chg.output)), Nat.le_trans h.chg.size (Nat.le_trans hb.size (Nat.le_trans hg.size hc.size)), fun i hi h1 h2 => ?_⟩
    have hi2 := Nat.lt_of_lt_of_le hi h.chg.size
    have hi3 := Nat.lt_of_lt_of_le hi2 hb.size
    have hne : some i ≠ v.ownBlock := fun e => by
      have := (own_block ho i e.symm).1
      omega
    exact (hc.heap (Nat.lt_of_lt_of_le hi3 hg.size) h1).trans ((hg.block i hi3 hne).trans ((hb.block i hi2).trans (h.chg.block i hi h1 h2)))
  · exact ((hm.to (hg.block m (heapLt hm) (Ne.symm (own_offMap ho hm)))).to (hc.heap (Nat.lt_of_lt_of_le (heapLt hm) hg.size) (Ne.symm hPm)))
set_option maxHeartbeats 4000000 in
theorem code_number (P m b c : Nat) (l : List LB) (w : World) (hl : l.length ≤ 20) (hr : RowB w b l) (hP : w.heap[P]? = some (.cells #[.slice none 0 0, .map (some m), .slice none 0 0, .slice none 0 0] 36 (0, 0))) (hM : MapI w m []) :
    Calls Try.prog 17 #[.pointer (some ⟨P, 0, none⟩), .slice (some ⟨b, 0, none⟩) l.length c] w fun e w' => e = .returned (.bool (decide ((plcs l).length = l.length))) ∧ NumAt w w' P m w.heap.size l (plcs l) := by
  have HR := Lib.hid hr
  have hln : (l.length : Int) ≤ 20 := by omega
  have HLn := Lib.hid hl
  have HPm : Hid (P ≠ m) := Lib.hid (fun e => hM.not _ _ _ (e ▸ hP))
  have Hbm : Hid (b ≠ m) := Lib.hid (fun e => by
    obtain ⟨cs, h1, _⟩ := hr
    exact hM.not _ _ _ (e ▸ h1))
  have HbP : Hid (b ≠ P) := Lib.hid (fun e => by
    obtain ⟨cs, h1, _⟩ := hr
    rw [e, hP] at h1
    injection h1 with h1
    injection h1 with _ h1 _
    exact absurd h1 (by decide))
  have HN0 : Hid (NumAt w w P m w.heap.size [] []) := Lib.hid ⟨Chg2.refl _ _ _, ⟨none, 0, hP, World.ownsRow_nil w _ _ 6⟩, hM⟩
  obtain ⟨B, hB⟩ : ∃ B, B = w.heap.size := ⟨_, rfl⟩
  rw [← hB] at HN0 ⊢
  have HBw := Lib.hid hB
  clear hr hl hP hM hB
  go_enter Try.func17, Try.ntmps17
  go_wp2
  go_loopw [9] (fun v9 wr => ∃ k : Nat, k ≤ l.length ∧ v9 = .int .i64 (k : Nat) ∧ Hid (NumAt w wr P m B (l.take k) (plcs (l.take k)))) (fun v9 _ => l.length - (intOf v9).toNat)
  case atStart => exact ⟨0, Nat.zero_le _, rfl, HN0⟩
  case round =>
    obtain ⟨k, hk, rfl, HN⟩ := hrel
    by_cases hlt : k < l.length
    · have HRow := Lib.hid (HR.out.to (HN.out.chg.block b HR.out.lt HbP.out Hbm.out))
      obtain ⟨tk, htk⟩ : ∃ t, t = l[k] := ⟨_, rfl⟩
      have HTk := Lib.hid htk
      have HC := Lib.hid (HRow.out.cells k hlt)
      rw [← htk] at HC
      obtain ⟨n0, n1, n2⟩ := tk
      clear htk
      have u0 := HC.out 0 _ rfl
      rw [Nat.add_zero] at u0
      have u1 := HC.out 1 _ rfl
      have u2 := HC.out 2 _ rfl
      have u3 := HC.out 3 _ rfl
      have u4 := HC.out 4 _ rfl
      have u5 := HC.out 5 _ rfl
      clear HC
      have HZ := Lib.hid (heap_alloc_new wr (.cells #[.int .i64 0, .int .i64 0, .int .i64 0, .string ⟨#[]⟩, .slice none 0 0, .slice none 0 0] 43))
      have HBF := Lib.hid (box_row wr #[.int .i64 0, .int .i64 0, .int .i64 0, .string ⟨#[]⟩, .slice none 0 0, .slice none 0 0] #[.int .i64 n0, .int .i64 n1, .int .i64 n2, .string ⟨#[]⟩, .slice none 0 0, .slice none 0 0] 43 rfl)
      go_wp2_with ((with_reducible refine wpList_store_row (o := ⟨none, _, _, _, _, _⟩) 43 ?b0 (.tmp 6) (.tmp 13) ?b1 wr.heap.size ?b2 [.int .i64 n0, .int .i64 n1, .int .i64 n2, .string ⟨#[]⟩, .slice none 0 0, .slice none 0 0] ?b3 ?b4 ?b5 #[.int .i64 0, .int .i64 0, .int .i64 0, .string ⟨#[]⟩, .slice none 0 0, .slice none 0 0] ?b6 43 ?b7 ?_); (case b0 => rfl); (case b1 => rfl); (case b2 => rfl); (case b3 => exact box_info); (case b4 => simp [Value.oneCell']); (case b5 => rfl); (case b6 => rfl); (case b7 => exact HZ.out); (try simp only [Act.put]); refine Stop.out ?_)
      unfold Stop
      clear u0 u1 u2 u3 u4 u5 HZ
      generalize World.setRow _ _ _ = ws at HBF ⊢
      obtain ⟨g, hg⟩ : ∃ g, g = wr.heap.size := ⟨_, rfl⟩
      have HB5 : Hid (Below wr.heap.size wr ws) := Lib.hid HBF.out.1
      have HGs := Lib.hid hg
      rw [← hg] at HBF ⊢
      clear hg
      obtain ⟨Ab, cb, hbx, hbo⟩ := HN.out.box
      have hlk : (l.take k).length = k := by rw [List.length_take]; omega
      rw [hlk] at hbx hbo
      have HO := Lib.hid hbo
      have HBb : Hid (B ≤ wr.heap.size) := Lib.hid (by rw [HBw.out]; exact HN.out.chg.size)
      have HDr := Lib.hid (below_then HB5.out (below_drew ws))
      have HPw : Hid (∀ W, Below wr.heap.size wr W → W.heap[P]? = some (.cells #[.slice Ab k cb, .map (some m), .slice none 0 0, .slice none 0 0] 36 (0, 0))) := Lib.hid (fun W hW => heap_on hW hbx)
      have HHe := Lib.hid (heap_on (below_drew ws) HBF.out.2)
      clear hbx hbo hlk
      go_wp2
      refine wp_region_held_drew (S := fun V : World => V.heap[g]? = some (.cells #[.int .i64 n0, .int .i64 n1, .int .i64 n2, .string ⟨#[]⟩, .slice none 0 0, .slice none 0 0] 43 (0, 0))) (by kernel_rfl) HHe.out ?_
      intro hHeld
      clear HHe
      generalize ws.drew = wd at hHeld HDr ⊢
      (refine takeH (i := 0) (v := ?_) rfl (by kernel_rfl) (by kernel_rfl) (by kernel_rfl) (fun _ _ _ h => h) (Or.inl ⟨by rfl, ?_⟩) (by assumption) ?_; rotate_left; (focus ((intro wS hSw); (try dsimp only at hSw); obtain ⟨s0, s1, s2, s3, s4, s5⟩ := row6c hSw; go_simp; (try with_reducible rfl); done)); (try simp only [Act.put, List.setIfInBounds_toArray, List.set_cons_zero, List.set_cons_succ]))
      (refine takeH (i := 1) (v := ?_) rfl (by kernel_rfl) (by kernel_rfl) (by kernel_rfl) (fun _ _ _ h => h) (Or.inl ⟨by rfl, ?_⟩) (by assumption) ?_; rotate_left; (focus ((intro wS hSw); (try dsimp only at hSw); obtain ⟨s0, s1, s2, s3, s4, s5⟩ := row6c hSw; go_simp; (try with_reducible rfl); done)); (try simp only [Act.put, List.setIfInBounds_toArray, List.set_cons_zero, List.set_cons_succ]))
      (refine takeH (i := 2) (v := ?_) rfl (by kernel_rfl) (by kernel_rfl) (by kernel_rfl) (fun _ _ _ h => h) (Or.inl ⟨by rfl, ?_⟩) (by assumption) ?_; rotate_left; (focus ((intro wS hSw); (try dsimp only at hSw); obtain ⟨s0, s1, s2, s3, s4, s5⟩ := row6c hSw; go_simp; (try with_reducible rfl); done)); (try simp only [Act.put, List.setIfInBounds_toArray, List.set_cons_zero, List.set_cons_succ]))
      (refine takeH (i := 3) (v := ?_) rfl (by kernel_rfl) (by kernel_rfl) (by kernel_rfl) (fun _ _ _ h => h) (Or.inl ⟨by rfl, ?_⟩) (by assumption) ?_; rotate_left; (focus ((intro wS hSw); (try dsimp only at hSw); obtain ⟨s0, s1, s2, s3, s4, s5⟩ := row6c hSw; go_simp; (try with_reducible rfl); done)); (try simp only [Act.put, List.setIfInBounds_toArray, List.set_cons_zero, List.set_cons_succ]))
      (refine takeH (i := 5) (v := ?_) rfl (by kernel_rfl) (by kernel_rfl) (by kernel_rfl) (fun _ _ _ h => h) (Or.inl ⟨by rfl, ?_⟩) (by assumption) ?_; rotate_left; (focus ((intro wS hSw); (try dsimp only at hSw); obtain ⟨s0, s1, s2, s3, s4, s5⟩ := row6c hSw; go_simp; (try with_reducible rfl); done)); (try simp only [Act.put, List.setIfInBounds_toArray, List.set_cons_zero, List.set_cons_succ]))
      (refine takeH (i := 6) (v := ?_) rfl (by kernel_rfl) (by kernel_rfl) (by kernel_rfl) (fun _ _ _ h => h) (Or.inl ⟨by rfl, ?_⟩) (by assumption) ?_; rotate_left; (focus ((intro wS hSw); (try dsimp only at hSw); obtain ⟨s0, s1, s2, s3, s4, s5⟩ := row6c hSw; go_simp; (try with_reducible rfl); done)); (try simp only [Act.put, List.setIfInBounds_toArray, List.set_cons_zero, List.set_cons_succ]))
      (refine takeH (i := 7) (v := ?_) rfl (by kernel_rfl) (by kernel_rfl) (by kernel_rfl) (fun _ _ _ h => h) (Or.inl ⟨by rfl, ?_⟩) (by assumption) ?_; rotate_left; (focus ((intro wS hSw); (try dsimp only at hSw); obtain ⟨s0, s1, s2, s3, s4, s5⟩ := row6c hSw; go_simp; (try with_reducible rfl); done)); (try simp only [Act.put, List.setIfInBounds_toArray, List.set_cons_zero, List.set_cons_succ]))
      (refine takeH (i := 8) (v := ?_) rfl (by kernel_rfl) (by kernel_rfl) (by kernel_rfl) (fun _ _ _ h => h) (Or.inl ⟨by rfl, ?_⟩) (by assumption) ?_; rotate_left; (focus ((intro wS hSw); (try dsimp only at hSw); obtain ⟨s0, s1, s2, s3, s4, s5⟩ := row6c hSw; go_simp; (try with_reducible rfl); done)); (try simp only [Act.put, List.setIfInBounds_toArray, List.set_cons_zero, List.set_cons_succ]))
      refine twoH (i := 4) (i2 := 9) rfl rfl (by kernel_rfl) (fun K hK => ?_) (fun K hK => ?_)
      · rw [if_pos (by rfl)]
        have HB1 : Hid (Below wd.heap.size wd wd) := Lib.hid (Below.refl _ _)
        obtain ⟨r0, r1, r2, r3⟩ := row4c (HPw.out wd (below_then HDr.out (below_same wd)))
        go_simp
        clear r0 r1 r2 r3
        refine hK.out _ _ (hHeld) (fun hNew => ?_)
        clear hK K hHeld; (have hHeld := hNew); clear hNew; (try simp only [Act.put, List.setIfInBounds_toArray, List.set_cons_zero, List.set_cons_succ])
        refine aloneH (i := 9) rfl (by kernel_rfl) (fun K hK => ?_)
        rw [if_pos (by rfl)]
        go_simp; ((refine (code_Copy n1 n2 wd).mono ?_); (rintro e w2 ⟨rfl, hb⟩); have HB2 := Lib.hid hb; clear hb; (try unfold lfV); (try go_simp))
        refine hK.out _ _ (heap_on HB2.out hHeld) (fun hNew => ?_)
        clear hK K hHeld; (have hHeld := hNew); clear hNew; (try simp only [Act.put, List.setIfInBounds_toArray, List.set_cons_zero, List.set_cons_succ])
        (refine takeH (i := 10) (v := ?_) rfl (by kernel_rfl) (by kernel_rfl) (by kernel_rfl) (fun _ _ _ h => h) (Or.inl ⟨by rfl, ?_⟩) (by assumption) ?_; rotate_left; (focus ((intro wS hSw); (try dsimp only at hSw); obtain ⟨s0, s1, s2, s3, s4, s5⟩ := row6c hSw; go_simp; (try with_reducible rfl); done)); (try simp only [Act.put, List.setIfInBounds_toArray, List.set_cons_zero, List.set_cons_succ]))
        refine aloneH (i := 11) rfl (by kernel_rfl) (fun K hK => ?_)
        rw [if_pos (by rfl)]
        go_simp
        obtain ⟨gS, hgS⟩ : ∃ gS, gS = w2.heap.size := ⟨_, rfl⟩
        obtain ⟨q3, hq⟩ : ∃ q, q = w2.alloc (.cells #[.int .i64 n0, .int .i64 n1, .int .i64 n2, .string ⟨#[]⟩, .slice none 0 0, .slice none 0 0] 43) := ⟨_, rfl⟩
        have HB3 : Hid (Below w2.heap.size w2 q3) := Lib.hid (by rw [hq]; exact below_alloc _ _)
        have HA : Hid (q3.heap[gS]? = some (.cells #[.int .i64 n0, .int .i64 n1, .int .i64 n2, .string ⟨#[]⟩, .slice none 0 0, .slice none 0 0] 43 (0, 0))) := Lib.hid (by rw [hq, hgS]; exact heap_alloc_new _ _)
        rw [← hq, ← hgS]
        clear hq hgS
        refine hK.out _ _ (heap_on HB3.out hHeld) (fun hNew => ?_)
        clear hK K hHeld; (have hHeld := hNew); clear hNew; (try simp only [Act.put, List.setIfInBounds_toArray, List.set_cons_zero, List.set_cons_succ])
        refine aloneH (i := 12) rfl (by kernel_rfl) (fun K hK => ?_)
        rw [if_pos (by rfl)]
        have HBx : Hid (Below wd.heap.size wd q3) := Lib.hid (below_then (below_then HB1.out HB2.out) HB3.out)
        have HPx := Lib.hid (HPw.out _ (below_then HDr.out HBx.out))
        have HOx := Lib.hid (own_on HO.out (below_then HDr.out HBx.out))
        refine wp_app (S := 22) (T := 43) Try.underlying22 factB rfl (by decide) (by decide) (.tmp 18) (.tmp 25) rfl B (.slice Ab k cb) k (lbCs (l.take k)) [.int .i64 n0, .int .i64 n1, .int .i64 n2, .string ⟨#[]⟩, .slice none 0 0, .slice none 0 0] rfl HOx.out gS rfl HA.out rfl (by simp [Value.oneCell']) (by have := HLn.out; omega) (Nat.le_trans HBb.out (Nat.le_trans HDr.out.size HBx.out.size)) ?_
        intro v' q4 ho hg hat
        obtain ⟨A', c', rfl, _, _⟩ := own_form ho
        have HO12 := Lib.hid ho
        have HG12 := Lib.hid hg
        have hk1 := (hg.block P (heapLt HPx.out) (Ne.symm (own_off HOx.out HPx.out (by decide)))).trans HPx.out
        have hk2 := (hg.block g (heapLt hHeld) (fun e => by
          obtain ⟨_, cur, hc⟩ := own_block HO.out g e.symm
          have := heapLt hc
          have := HGs.out
          omega)).trans hHeld
        have HP12 := Lib.hid hk1
        have HK12 := Lib.hid hk2
        have HS12 : Hid (q3.heap.size ≤ q4.heap.size) := Lib.hid hg.size
        clear ho hg hat hk1 hk2
        (try go_simp)
        refine hK.out _ _ (HK12.out) (fun hNew => ?_)
        clear hK K hHeld; (have hHeld := hNew); clear hNew; (try simp only [Act.put, List.setIfInBounds_toArray, List.set_cons_zero, List.set_cons_succ])
        (refine takeH (i := 13) (v := ?_) rfl (by kernel_rfl) (by kernel_rfl) (by kernel_rfl) (fun _ _ _ h => h) (Or.inl ⟨by rfl, ?_⟩) (by assumption) ?_; rotate_left; (focus ((intro wS hSw); (try dsimp only at hSw); obtain ⟨s0, s1, s2, s3, s4, s5⟩ := row6c hSw; go_simp; (try with_reducible rfl); done)); (try simp only [Act.put, List.setIfInBounds_toArray, List.set_cons_zero, List.set_cons_succ]))
        (refine takeH (i := 14) (v := ?_) rfl (by kernel_rfl) (by kernel_rfl) (by kernel_rfl) (fun _ _ _ h => h) (Or.inl ⟨by rfl, ?_⟩) (by assumption) ?_; rotate_left; (focus ((intro wS hSw); (try dsimp only at hSw); obtain ⟨s0, s1, s2, s3, s4, s5⟩ := row6c hSw; go_simp; (try with_reducible rfl); done)); (try simp only [Act.put, List.setIfInBounds_toArray, List.set_cons_zero, List.set_cons_succ]))
        refine aloneH (i := 15) rfl (by kernel_rfl) (fun K hK => ?_)
        rw [if_pos (by rfl)]
        obtain ⟨s0, s1, s2, s3⟩ := row4c HP12.out
        have hz0 := frozen_of_row q4 P 0 _ _ HP12.out
        go_simp
        have hst := rd_set HP12.out (.slice A' (k + 1) c')
        have hst2 := (heap_setCell_other q4 ⟨P, 0, none⟩ g (.slice A' (k + 1) c') (fun e => by
          have h1 := HP12.out
          have h2 := hHeld
          rw [← show g = P from e, h2] at h1
          injection h1 with h1
          injection h1 with _ h1 _
          exact absurd h1 (by decide))).trans hHeld
        have HC15 := Lib.hid (Chg.one (R := P) q4 0 (.slice A' (k + 1) c'))
        have HOf := Lib.hid (own_off HO12.out HP12.out (by decide))
        clear s0 s1 s2 s3 hz0
        generalize World.setCell q4 _ _ = q5 at hst hst2 HC15 ⊢
        have HP15 := Lib.hid hst
        have HK15 := Lib.hid hst2
        clear hst hst2
        refine hK.out _ _ (HK15.out) (fun hNew => ?_)
        clear hK K hHeld; (have hHeld := hNew); clear hNew; (try simp only [Act.put])
        refine wpAnyH_done (by kernel_rfl) ?_ _
        have HMid := Lib.hid (num_mid HN.out HBw.out (below_then HDr.out HBx.out) HOx.out HG12.out HC15.out HPx.out HPm.out)
        have HOq := Lib.hid (own_chg HO12.out HC15.out HOf.out)
        have hHB := HK15.out
        clear hHeld HK12 HK15 HOf HC15 HO12 HG12 HP12 HOx HPx HBx HA
        have HMd : Hid (MapI q5.drew m (plcs (l.take k))) := Lib.hid (HMid.out.2.on (below_drew q5))
        have HCd : Hid (Chg2 P m w q5.drew) := Lib.hid (HMid.out.1.trans (Chg2.of (below_drew q5)))
        have HOd := Lib.hid (own_on HOq.out (below_drew q5))
        have HHe := Lib.hid (And.intro (heap_on (below_drew q5) HP15.out) (heap_on (below_drew q5) hHB))
        have hl1 : (l.take (k + 1)).length = k + 1 := by rw [List.length_take]; omega
        clear hHB HMid HOq HP15
        go_wp2
        refine wp_region_held_drew (S := fun V : World => V.heap[P]? = some (.cells #[.slice A' (k + 1) c', .map (some m), .slice none 0 0, .slice none 0 0] 36 (0, 0)) ∧ V.heap[g]? = some (.cells #[.int .i64 n0, .int .i64 n1, .int .i64 n2, .string ⟨#[]⟩, .slice none 0 0, .slice none 0 0] 43 (0, 0))) (by kernel_rfl) HHe.out ?_
        intro hHeld
        clear HHe
        generalize q5.drew = xd at hHeld HMd HCd HOd ⊢
        (refine takeH (i := 0) (v := ?_) rfl (by kernel_rfl) (by kernel_rfl) (by kernel_rfl) (fun _ _ _ h => h) (Or.inl ⟨by rfl, ?_⟩) (by assumption) ?_; rotate_left; (focus ((intro wS hSw); (try dsimp only at hSw); obtain ⟨⟨r0, r1, r2, r3⟩, s0, s1, s2, s3, s4, s5⟩ := And.intro (row4c hSw.1) (row6c hSw.2); go_simp; (try with_reducible rfl); done)); (try simp only [Act.put, List.setIfInBounds_toArray, List.set_cons_zero, List.set_cons_succ]))
        (refine takeH (i := 1) (v := ?_) rfl (by kernel_rfl) (by kernel_rfl) (by kernel_rfl) (fun _ _ _ h => h) (Or.inl ⟨by rfl, ?_⟩) (by assumption) ?_; rotate_left; (focus ((intro wS hSw); (try dsimp only at hSw); obtain ⟨⟨r0, r1, r2, r3⟩, s0, s1, s2, s3, s4, s5⟩ := And.intro (row4c hSw.1) (row6c hSw.2); go_simp; (try with_reducible rfl); done)); (try simp only [Act.put, List.setIfInBounds_toArray, List.set_cons_zero, List.set_cons_succ]))
        (refine takeH (i := 2) (v := ?_) rfl (by kernel_rfl) (by kernel_rfl) (by kernel_rfl) (fun _ _ _ h => h) (Or.inl ⟨by rfl, ?_⟩) (by assumption) ?_; rotate_left; (focus ((intro wS hSw); (try dsimp only at hSw); obtain ⟨⟨r0, r1, r2, r3⟩, s0, s1, s2, s3, s4, s5⟩ := And.intro (row4c hSw.1) (row6c hSw.2); go_simp; (try with_reducible rfl); done)); (try simp only [Act.put, List.setIfInBounds_toArray, List.set_cons_zero, List.set_cons_succ]))
        (refine takeH (i := 3) (v := ?_) rfl (by kernel_rfl) (by kernel_rfl) (by kernel_rfl) (fun _ _ _ h => h) (Or.inl ⟨by rfl, ?_⟩) (by assumption) ?_; rotate_left; (focus ((intro wS hSw); (try dsimp only at hSw); obtain ⟨⟨r0, r1, r2, r3⟩, s0, s1, s2, s3, s4, s5⟩ := And.intro (row4c hSw.1) (row6c hSw.2); go_simp; (try with_reducible rfl); done)); (try simp only [Act.put, List.setIfInBounds_toArray, List.set_cons_zero, List.set_cons_succ]))
        (refine takeH (i := 4) (v := ?_) rfl (by kernel_rfl) (by kernel_rfl) (by kernel_rfl) (fun _ _ _ h => h) (Or.inl ⟨by rfl, ?_⟩) (by assumption) ?_; rotate_left; (focus ((intro wS hSw); (try dsimp only at hSw); obtain ⟨⟨r0, r1, r2, r3⟩, s0, s1, s2, s3, s4, s5⟩ := And.intro (row4c hSw.1) (row6c hSw.2); go_simp; (try with_reducible rfl); done)); (try simp only [Act.put, List.setIfInBounds_toArray, List.set_cons_zero, List.set_cons_succ]))
        (refine takeH (i := 5) (v := ?_) rfl (by kernel_rfl) (by kernel_rfl) (by kernel_rfl) (fun _ _ _ h => h) (Or.inl ⟨by rfl, ?_⟩) (by assumption) ?_; rotate_left; (focus ((intro wS hSw); (try dsimp only at hSw); obtain ⟨⟨r0, r1, r2, r3⟩, s0, s1, s2, s3, s4, s5⟩ := And.intro (row4c hSw.1) (row6c hSw.2); go_simp; (try with_reducible rfl); done)); (try simp only [Act.put, List.setIfInBounds_toArray, List.set_cons_zero, List.set_cons_succ]))
        (refine takeH (i := 6) (v := ?_) rfl (by kernel_rfl) (by kernel_rfl) (by kernel_rfl) (fun _ _ _ h => h) (Or.inl ⟨by rfl, ?_⟩) (by assumption) ?_; rotate_left; (focus ((intro wS hSw); (try dsimp only at hSw); obtain ⟨⟨r0, r1, r2, r3⟩, s0, s1, s2, s3, s4, s5⟩ := And.intro (row4c hSw.1) (row6c hSw.2); go_simp; (try with_reducible rfl); done)); (try simp only [Act.put, List.setIfInBounds_toArray, List.set_cons_zero, List.set_cons_succ]))
        refine aloneH (i := 7) rfl (by kernel_rfl) (fun K hK => ?_)
        rw [if_pos (by rfl)]
        have hup := run_updI xd m n0 (k : Nat) (plcs (l.take k)) HMd.out
        go_simp
        have hst1 := ((putWI_chg xd m (putI n0 (k : Nat) (plcs (l.take k)))).heap (heapLt hHeld.1) HPm.out).trans hHeld.1
        have hst2 := ((putWI_chg xd m (putI n0 (k : Nat) (plcs (l.take k)))).heap (heapLt hHeld.2) (fun e => HMd.out.not _ _ _ (e ▸ hHeld.2))).trans hHeld.2
        have HC7 := Lib.hid (putWI_chg xd m (putI n0 (k : Nat) (plcs (l.take k))))
        have HM7 := Lib.hid (HMd.out.put (putI n0 (k : Nat) (plcs (l.take k))))
        have HO7 := Lib.hid (own_chg HOd.out HC7.out (own_offMap HOd.out HMd.out))
        clear hup
        generalize putWI xd m _ = x1 at hst1 hst2 HC7 HM7 HO7 ⊢
        have HK7 := Lib.hid (And.intro hst1 hst2)
        clear hst1 hst2
        refine hK.out _ _ (HK7.out) (fun hNew => ?_)
        clear hK K hHeld; (have hHeld := hNew); clear hNew; (try simp only [Act.put])
        refine wpAnyH_done (by kernel_rfl) ?_ _
        have HFin : Hid (NumAt w x1 P m B (l.take (k + 1)) (plcs (l.take (k + 1)))) := Lib.hid ⟨HCd.out.trans (Chg2.right HC7.out), ⟨A', c', by rw [hl1]; exact hHeld.1, by rw [hl1, lbCs_take l k hlt, ← HTk.out]; exact HO7.out⟩, by rw [plcs_take l k hlt, ← HTk.out]; exact HM7.out⟩
        clear hHeld hl1 HCd HC7 HM7 HO7 HOd HMd
        go_wp2
        exact ⟨⟨k + 1, by omega, by simp, HFin⟩, by simp [intOf]; omega⟩
      · rw [if_pos (by rfl)]
        go_simp; ((refine (code_Copy n1 n2 wd).mono ?_); (rintro e w1 ⟨rfl, hb⟩); have HB1 := Lib.hid hb; clear hb; (try unfold lfV); (try go_simp))
        refine hK.out _ _ (heap_on HB1.out hHeld) (fun hNew => ?_)
        clear hK K hHeld; (have hHeld := hNew); clear hNew; (try simp only [Act.put, List.setIfInBounds_toArray, List.set_cons_zero, List.set_cons_succ])
        (refine takeH (i := 10) (v := ?_) rfl (by kernel_rfl) (by kernel_rfl) (by kernel_rfl) (fun _ _ _ h => h) (Or.inl ⟨by rfl, ?_⟩) (by assumption) ?_; rotate_left; (focus ((intro wS hSw); (try dsimp only at hSw); obtain ⟨s0, s1, s2, s3, s4, s5⟩ := row6c hSw; go_simp; (try with_reducible rfl); done)); (try simp only [Act.put, List.setIfInBounds_toArray, List.set_cons_zero, List.set_cons_succ]))
        refine twoH (i := 4) (i2 := 11) rfl rfl (by kernel_rfl) (fun K hK => ?_) (fun K hK => ?_)
        · rw [if_pos (by rfl)]
          have HB2 : Hid (Below w1.heap.size w1 w1) := Lib.hid (Below.refl _ _)
          obtain ⟨r0, r1, r2, r3⟩ := row4c (HPw.out w1 (below_then HDr.out HB1.out))
          go_simp
          clear r0 r1 r2 r3
          refine hK.out _ _ (hHeld) (fun hNew => ?_)
          clear hK K hHeld; (have hHeld := hNew); clear hNew; (try simp only [Act.put, List.setIfInBounds_toArray, List.set_cons_zero, List.set_cons_succ])
          refine aloneH (i := 11) rfl (by kernel_rfl) (fun K hK => ?_)
          rw [if_pos (by rfl)]
          go_simp
          obtain ⟨gS, hgS⟩ : ∃ gS, gS = w1.heap.size := ⟨_, rfl⟩
          obtain ⟨q3, hq⟩ : ∃ q, q = w1.alloc (.cells #[.int .i64 n0, .int .i64 n1, .int .i64 n2, .string ⟨#[]⟩, .slice none 0 0, .slice none 0 0] 43) := ⟨_, rfl⟩
          have HB3 : Hid (Below w1.heap.size w1 q3) := Lib.hid (by rw [hq]; exact below_alloc _ _)
          have HA : Hid (q3.heap[gS]? = some (.cells #[.int .i64 n0, .int .i64 n1, .int .i64 n2, .string ⟨#[]⟩, .slice none 0 0, .slice none 0 0] 43 (0, 0))) := Lib.hid (by rw [hq, hgS]; exact heap_alloc_new _ _)
          rw [← hq, ← hgS]
          clear hq hgS
          refine hK.out _ _ (heap_on HB3.out hHeld) (fun hNew => ?_)
          clear hK K hHeld; (have hHeld := hNew); clear hNew; (try simp only [Act.put, List.setIfInBounds_toArray, List.set_cons_zero, List.set_cons_succ])
          refine aloneH (i := 12) rfl (by kernel_rfl) (fun K hK => ?_)
          rw [if_pos (by rfl)]
          have HBx : Hid (Below wd.heap.size wd q3) := Lib.hid (below_then (below_then HB1.out HB2.out) HB3.out)
          have HPx := Lib.hid (HPw.out _ (below_then HDr.out HBx.out))
          have HOx := Lib.hid (own_on HO.out (below_then HDr.out HBx.out))
          refine wp_app (S := 22) (T := 43) Try.underlying22 factB rfl (by decide) (by decide) (.tmp 18) (.tmp 25) rfl B (.slice Ab k cb) k (lbCs (l.take k)) [.int .i64 n0, .int .i64 n1, .int .i64 n2, .string ⟨#[]⟩, .slice none 0 0, .slice none 0 0] rfl HOx.out gS rfl HA.out rfl (by simp [Value.oneCell']) (by have := HLn.out; omega) (Nat.le_trans HBb.out (Nat.le_trans HDr.out.size HBx.out.size)) ?_
          intro v' q4 ho hg hat
          obtain ⟨A', c', rfl, _, _⟩ := own_form ho
          have HO12 := Lib.hid ho
          have HG12 := Lib.hid hg
          have hk1 := (hg.block P (heapLt HPx.out) (Ne.symm (own_off HOx.out HPx.out (by decide)))).trans HPx.out
          have hk2 := (hg.block g (heapLt hHeld) (fun e => by
            obtain ⟨_, cur, hc⟩ := own_block HO.out g e.symm
            have := heapLt hc
            have := HGs.out
            omega)).trans hHeld
          have HP12 := Lib.hid hk1
          have HK12 := Lib.hid hk2
          have HS12 : Hid (q3.heap.size ≤ q4.heap.size) := Lib.hid hg.size
          clear ho hg hat hk1 hk2
          (try go_simp)
          refine hK.out _ _ (HK12.out) (fun hNew => ?_)
          clear hK K hHeld; (have hHeld := hNew); clear hNew; (try simp only [Act.put, List.setIfInBounds_toArray, List.set_cons_zero, List.set_cons_succ])
          (refine takeH (i := 13) (v := ?_) rfl (by kernel_rfl) (by kernel_rfl) (by kernel_rfl) (fun _ _ _ h => h) (Or.inl ⟨by rfl, ?_⟩) (by assumption) ?_; rotate_left; (focus ((intro wS hSw); (try dsimp only at hSw); obtain ⟨s0, s1, s2, s3, s4, s5⟩ := row6c hSw; go_simp; (try with_reducible rfl); done)); (try simp only [Act.put, List.setIfInBounds_toArray, List.set_cons_zero, List.set_cons_succ]))
          (refine takeH (i := 14) (v := ?_) rfl (by kernel_rfl) (by kernel_rfl) (by kernel_rfl) (fun _ _ _ h => h) (Or.inl ⟨by rfl, ?_⟩) (by assumption) ?_; rotate_left; (focus ((intro wS hSw); (try dsimp only at hSw); obtain ⟨s0, s1, s2, s3, s4, s5⟩ := row6c hSw; go_simp; (try with_reducible rfl); done)); (try simp only [Act.put, List.setIfInBounds_toArray, List.set_cons_zero, List.set_cons_succ]))
          refine aloneH (i := 15) rfl (by kernel_rfl) (fun K hK => ?_)
          rw [if_pos (by rfl)]
          obtain ⟨s0, s1, s2, s3⟩ := row4c HP12.out
          have hz0 := frozen_of_row q4 P 0 _ _ HP12.out
          go_simp
          have hst := rd_set HP12.out (.slice A' (k + 1) c')
          have hst2 := (heap_setCell_other q4 ⟨P, 0, none⟩ g (.slice A' (k + 1) c') (fun e => by
            have h1 := HP12.out
            have h2 := hHeld
            rw [← show g = P from e, h2] at h1
            injection h1 with h1
            injection h1 with _ h1 _
            exact absurd h1 (by decide))).trans hHeld
          have HC15 := Lib.hid (Chg.one (R := P) q4 0 (.slice A' (k + 1) c'))
          have HOf := Lib.hid (own_off HO12.out HP12.out (by decide))
          clear s0 s1 s2 s3 hz0
          generalize World.setCell q4 _ _ = q5 at hst hst2 HC15 ⊢
          have HP15 := Lib.hid hst
          have HK15 := Lib.hid hst2
          clear hst hst2
          refine hK.out _ _ (HK15.out) (fun hNew => ?_)
          clear hK K hHeld; (have hHeld := hNew); clear hNew; (try simp only [Act.put])
          refine wpAnyH_done (by kernel_rfl) ?_ _
          have HMid := Lib.hid (num_mid HN.out HBw.out (below_then HDr.out HBx.out) HOx.out HG12.out HC15.out HPx.out HPm.out)
          have HOq := Lib.hid (own_chg HO12.out HC15.out HOf.out)
          have hHB := HK15.out
          clear hHeld HK12 HK15 HOf HC15 HO12 HG12 HP12 HOx HPx HBx HA
          have HMd : Hid (MapI q5.drew m (plcs (l.take k))) := Lib.hid (HMid.out.2.on (below_drew q5))
          have HCd : Hid (Chg2 P m w q5.drew) := Lib.hid (HMid.out.1.trans (Chg2.of (below_drew q5)))
          have HOd := Lib.hid (own_on HOq.out (below_drew q5))
          have HHe := Lib.hid (And.intro (heap_on (below_drew q5) HP15.out) (heap_on (below_drew q5) hHB))
          have hl1 : (l.take (k + 1)).length = k + 1 := by rw [List.length_take]; omega
          clear hHB HMid HOq HP15
          go_wp2
          refine wp_region_held_drew (S := fun V : World => V.heap[P]? = some (.cells #[.slice A' (k + 1) c', .map (some m), .slice none 0 0, .slice none 0 0] 36 (0, 0)) ∧ V.heap[g]? = some (.cells #[.int .i64 n0, .int .i64 n1, .int .i64 n2, .string ⟨#[]⟩, .slice none 0 0, .slice none 0 0] 43 (0, 0))) (by kernel_rfl) HHe.out ?_
          intro hHeld
          clear HHe
          generalize q5.drew = xd at hHeld HMd HCd HOd ⊢
          (refine takeH (i := 0) (v := ?_) rfl (by kernel_rfl) (by kernel_rfl) (by kernel_rfl) (fun _ _ _ h => h) (Or.inl ⟨by rfl, ?_⟩) (by assumption) ?_; rotate_left; (focus ((intro wS hSw); (try dsimp only at hSw); obtain ⟨⟨r0, r1, r2, r3⟩, s0, s1, s2, s3, s4, s5⟩ := And.intro (row4c hSw.1) (row6c hSw.2); go_simp; (try with_reducible rfl); done)); (try simp only [Act.put, List.setIfInBounds_toArray, List.set_cons_zero, List.set_cons_succ]))
          (refine takeH (i := 1) (v := ?_) rfl (by kernel_rfl) (by kernel_rfl) (by kernel_rfl) (fun _ _ _ h => h) (Or.inl ⟨by rfl, ?_⟩) (by assumption) ?_; rotate_left; (focus ((intro wS hSw); (try dsimp only at hSw); obtain ⟨⟨r0, r1, r2, r3⟩, s0, s1, s2, s3, s4, s5⟩ := And.intro (row4c hSw.1) (row6c hSw.2); go_simp; (try with_reducible rfl); done)); (try simp only [Act.put, List.setIfInBounds_toArray, List.set_cons_zero, List.set_cons_succ]))
          (refine takeH (i := 2) (v := ?_) rfl (by kernel_rfl) (by kernel_rfl) (by kernel_rfl) (fun _ _ _ h => h) (Or.inl ⟨by rfl, ?_⟩) (by assumption) ?_; rotate_left; (focus ((intro wS hSw); (try dsimp only at hSw); obtain ⟨⟨r0, r1, r2, r3⟩, s0, s1, s2, s3, s4, s5⟩ := And.intro (row4c hSw.1) (row6c hSw.2); go_simp; (try with_reducible rfl); done)); (try simp only [Act.put, List.setIfInBounds_toArray, List.set_cons_zero, List.set_cons_succ]))
          (refine takeH (i := 3) (v := ?_) rfl (by kernel_rfl) (by kernel_rfl) (by kernel_rfl) (fun _ _ _ h => h) (Or.inl ⟨by rfl, ?_⟩) (by assumption) ?_; rotate_left; (focus ((intro wS hSw); (try dsimp only at hSw); obtain ⟨⟨r0, r1, r2, r3⟩, s0, s1, s2, s3, s4, s5⟩ := And.intro (row4c hSw.1) (row6c hSw.2); go_simp; (try with_reducible rfl); done)); (try simp only [Act.put, List.setIfInBounds_toArray, List.set_cons_zero, List.set_cons_succ]))
          (refine takeH (i := 4) (v := ?_) rfl (by kernel_rfl) (by kernel_rfl) (by kernel_rfl) (fun _ _ _ h => h) (Or.inl ⟨by rfl, ?_⟩) (by assumption) ?_; rotate_left; (focus ((intro wS hSw); (try dsimp only at hSw); obtain ⟨⟨r0, r1, r2, r3⟩, s0, s1, s2, s3, s4, s5⟩ := And.intro (row4c hSw.1) (row6c hSw.2); go_simp; (try with_reducible rfl); done)); (try simp only [Act.put, List.setIfInBounds_toArray, List.set_cons_zero, List.set_cons_succ]))
          (refine takeH (i := 5) (v := ?_) rfl (by kernel_rfl) (by kernel_rfl) (by kernel_rfl) (fun _ _ _ h => h) (Or.inl ⟨by rfl, ?_⟩) (by assumption) ?_; rotate_left; (focus ((intro wS hSw); (try dsimp only at hSw); obtain ⟨⟨r0, r1, r2, r3⟩, s0, s1, s2, s3, s4, s5⟩ := And.intro (row4c hSw.1) (row6c hSw.2); go_simp; (try with_reducible rfl); done)); (try simp only [Act.put, List.setIfInBounds_toArray, List.set_cons_zero, List.set_cons_succ]))
          (refine takeH (i := 6) (v := ?_) rfl (by kernel_rfl) (by kernel_rfl) (by kernel_rfl) (fun _ _ _ h => h) (Or.inl ⟨by rfl, ?_⟩) (by assumption) ?_; rotate_left; (focus ((intro wS hSw); (try dsimp only at hSw); obtain ⟨⟨r0, r1, r2, r3⟩, s0, s1, s2, s3, s4, s5⟩ := And.intro (row4c hSw.1) (row6c hSw.2); go_simp; (try with_reducible rfl); done)); (try simp only [Act.put, List.setIfInBounds_toArray, List.set_cons_zero, List.set_cons_succ]))
          refine aloneH (i := 7) rfl (by kernel_rfl) (fun K hK => ?_)
          rw [if_pos (by rfl)]
          have hup := run_updI xd m n0 (k : Nat) (plcs (l.take k)) HMd.out
          go_simp
          have hst1 := ((putWI_chg xd m (putI n0 (k : Nat) (plcs (l.take k)))).heap (heapLt hHeld.1) HPm.out).trans hHeld.1
          have hst2 := ((putWI_chg xd m (putI n0 (k : Nat) (plcs (l.take k)))).heap (heapLt hHeld.2) (fun e => HMd.out.not _ _ _ (e ▸ hHeld.2))).trans hHeld.2
          have HC7 := Lib.hid (putWI_chg xd m (putI n0 (k : Nat) (plcs (l.take k))))
          have HM7 := Lib.hid (HMd.out.put (putI n0 (k : Nat) (plcs (l.take k))))
          have HO7 := Lib.hid (own_chg HOd.out HC7.out (own_offMap HOd.out HMd.out))
          clear hup
          generalize putWI xd m _ = x1 at hst1 hst2 HC7 HM7 HO7 ⊢
          have HK7 := Lib.hid (And.intro hst1 hst2)
          clear hst1 hst2
          refine hK.out _ _ (HK7.out) (fun hNew => ?_)
          clear hK K hHeld; (have hHeld := hNew); clear hNew; (try simp only [Act.put])
          refine wpAnyH_done (by kernel_rfl) ?_ _
          have HFin : Hid (NumAt w x1 P m B (l.take (k + 1)) (plcs (l.take (k + 1)))) := Lib.hid ⟨HCd.out.trans (Chg2.right HC7.out), ⟨A', c', by rw [hl1]; exact hHeld.1, by rw [hl1, lbCs_take l k hlt, ← HTk.out]; exact HO7.out⟩, by rw [plcs_take l k hlt, ← HTk.out]; exact HM7.out⟩
          clear hHeld hl1 HCd HC7 HM7 HO7 HOd HMd
          go_wp2
          exact ⟨⟨k + 1, by omega, by simp, HFin⟩, by simp [intOf]; omega⟩
        · rw [if_pos (by rfl)]
          go_simp
          obtain ⟨gS, hgS⟩ : ∃ gS, gS = w1.heap.size := ⟨_, rfl⟩
          obtain ⟨q2, hq⟩ : ∃ q, q = w1.alloc (.cells #[.int .i64 n0, .int .i64 n1, .int .i64 n2, .string ⟨#[]⟩, .slice none 0 0, .slice none 0 0] 43) := ⟨_, rfl⟩
          have HB2 : Hid (Below w1.heap.size w1 q2) := Lib.hid (by rw [hq]; exact below_alloc _ _)
          have HA : Hid (q2.heap[gS]? = some (.cells #[.int .i64 n0, .int .i64 n1, .int .i64 n2, .string ⟨#[]⟩, .slice none 0 0, .slice none 0 0] 43 (0, 0))) := Lib.hid (by rw [hq, hgS]; exact heap_alloc_new _ _)
          rw [← hq, ← hgS]
          clear hq hgS
          refine hK.out _ _ (heap_on HB2.out hHeld) (fun hNew => ?_)
          clear hK K hHeld; (have hHeld := hNew); clear hNew; (try simp only [Act.put, List.setIfInBounds_toArray, List.set_cons_zero, List.set_cons_succ])
          refine aloneH (i := 4) rfl (by kernel_rfl) (fun K hK => ?_)
          rw [if_pos (by rfl)]
          have HB3 : Hid (Below q2.heap.size q2 q2) := Lib.hid (Below.refl _ _)
          obtain ⟨r0, r1, r2, r3⟩ := row4c (HPw.out q2 (below_then HDr.out (below_then HB1.out HB2.out)))
          go_simp
          clear r0 r1 r2 r3
          refine hK.out _ _ (hHeld) (fun hNew => ?_)
          clear hK K hHeld; (have hHeld := hNew); clear hNew; (try simp only [Act.put, List.setIfInBounds_toArray, List.set_cons_zero, List.set_cons_succ])
          refine aloneH (i := 12) rfl (by kernel_rfl) (fun K hK => ?_)
          rw [if_pos (by rfl)]
          have HBx : Hid (Below wd.heap.size wd q2) := Lib.hid (below_then (below_then HB1.out HB2.out) HB3.out)
          have HPx := Lib.hid (HPw.out _ (below_then HDr.out HBx.out))
          have HOx := Lib.hid (own_on HO.out (below_then HDr.out HBx.out))
          refine wp_app (S := 22) (T := 43) Try.underlying22 factB rfl (by decide) (by decide) (.tmp 18) (.tmp 25) rfl B (.slice Ab k cb) k (lbCs (l.take k)) [.int .i64 n0, .int .i64 n1, .int .i64 n2, .string ⟨#[]⟩, .slice none 0 0, .slice none 0 0] rfl HOx.out gS rfl HA.out rfl (by simp [Value.oneCell']) (by have := HLn.out; omega) (Nat.le_trans HBb.out (Nat.le_trans HDr.out.size HBx.out.size)) ?_
          intro v' q4 ho hg hat
          obtain ⟨A', c', rfl, _, _⟩ := own_form ho
          have HO12 := Lib.hid ho
          have HG12 := Lib.hid hg
          have hk1 := (hg.block P (heapLt HPx.out) (Ne.symm (own_off HOx.out HPx.out (by decide)))).trans HPx.out
          have hk2 := (hg.block g (heapLt hHeld) (fun e => by
            obtain ⟨_, cur, hc⟩ := own_block HO.out g e.symm
            have := heapLt hc
            have := HGs.out
            omega)).trans hHeld
          have HP12 := Lib.hid hk1
          have HK12 := Lib.hid hk2
          have HS12 : Hid (q2.heap.size ≤ q4.heap.size) := Lib.hid hg.size
          clear ho hg hat hk1 hk2
          (try go_simp)
          refine hK.out _ _ (HK12.out) (fun hNew => ?_)
          clear hK K hHeld; (have hHeld := hNew); clear hNew; (try simp only [Act.put, List.setIfInBounds_toArray, List.set_cons_zero, List.set_cons_succ])
          (refine takeH (i := 13) (v := ?_) rfl (by kernel_rfl) (by kernel_rfl) (by kernel_rfl) (fun _ _ _ h => h) (Or.inl ⟨by rfl, ?_⟩) (by assumption) ?_; rotate_left; (focus ((intro wS hSw); (try dsimp only at hSw); obtain ⟨s0, s1, s2, s3, s4, s5⟩ := row6c hSw; go_simp; (try with_reducible rfl); done)); (try simp only [Act.put, List.setIfInBounds_toArray, List.set_cons_zero, List.set_cons_succ]))
          (refine takeH (i := 14) (v := ?_) rfl (by kernel_rfl) (by kernel_rfl) (by kernel_rfl) (fun _ _ _ h => h) (Or.inl ⟨by rfl, ?_⟩) (by assumption) ?_; rotate_left; (focus ((intro wS hSw); (try dsimp only at hSw); obtain ⟨s0, s1, s2, s3, s4, s5⟩ := row6c hSw; go_simp; (try with_reducible rfl); done)); (try simp only [Act.put, List.setIfInBounds_toArray, List.set_cons_zero, List.set_cons_succ]))
          refine aloneH (i := 15) rfl (by kernel_rfl) (fun K hK => ?_)
          rw [if_pos (by rfl)]
          obtain ⟨s0, s1, s2, s3⟩ := row4c HP12.out
          have hz0 := frozen_of_row q4 P 0 _ _ HP12.out
          go_simp
          have hst := rd_set HP12.out (.slice A' (k + 1) c')
          have hst2 := (heap_setCell_other q4 ⟨P, 0, none⟩ g (.slice A' (k + 1) c') (fun e => by
            have h1 := HP12.out
            have h2 := hHeld
            rw [← show g = P from e, h2] at h1
            injection h1 with h1
            injection h1 with _ h1 _
            exact absurd h1 (by decide))).trans hHeld
          have HC15 := Lib.hid (Chg.one (R := P) q4 0 (.slice A' (k + 1) c'))
          have HOf := Lib.hid (own_off HO12.out HP12.out (by decide))
          clear s0 s1 s2 s3 hz0
          generalize World.setCell q4 _ _ = q5 at hst hst2 HC15 ⊢
          have HP15 := Lib.hid hst
          have HK15 := Lib.hid hst2
          clear hst hst2
          refine hK.out _ _ (HK15.out) (fun hNew => ?_)
          clear hK K hHeld; (have hHeld := hNew); clear hNew; (try simp only [Act.put])
          refine wpAnyH_done (by kernel_rfl) ?_ _
          have HMid := Lib.hid (num_mid HN.out HBw.out (below_then HDr.out HBx.out) HOx.out HG12.out HC15.out HPx.out HPm.out)
          have HOq := Lib.hid (own_chg HO12.out HC15.out HOf.out)
          have hHB := HK15.out
          clear hHeld HK12 HK15 HOf HC15 HO12 HG12 HP12 HOx HPx HBx HA
          have HMd : Hid (MapI q5.drew m (plcs (l.take k))) := Lib.hid (HMid.out.2.on (below_drew q5))
          have HCd : Hid (Chg2 P m w q5.drew) := Lib.hid (HMid.out.1.trans (Chg2.of (below_drew q5)))
          have HOd := Lib.hid (own_on HOq.out (below_drew q5))
          have HHe := Lib.hid (And.intro (heap_on (below_drew q5) HP15.out) (heap_on (below_drew q5) hHB))
          have hl1 : (l.take (k + 1)).length = k + 1 := by rw [List.length_take]; omega
          clear hHB HMid HOq HP15
          go_wp2
          refine wp_region_held_drew (S := fun V : World => V.heap[P]? = some (.cells #[.slice A' (k + 1) c', .map (some m), .slice none 0 0, .slice none 0 0] 36 (0, 0)) ∧ V.heap[g]? = some (.cells #[.int .i64 n0, .int .i64 n1, .int .i64 n2, .string ⟨#[]⟩, .slice none 0 0, .slice none 0 0] 43 (0, 0))) (by kernel_rfl) HHe.out ?_
          intro hHeld
          clear HHe
          generalize q5.drew = xd at hHeld HMd HCd HOd ⊢
          (refine takeH (i := 0) (v := ?_) rfl (by kernel_rfl) (by kernel_rfl) (by kernel_rfl) (fun _ _ _ h => h) (Or.inl ⟨by rfl, ?_⟩) (by assumption) ?_; rotate_left; (focus ((intro wS hSw); (try dsimp only at hSw); obtain ⟨⟨r0, r1, r2, r3⟩, s0, s1, s2, s3, s4, s5⟩ := And.intro (row4c hSw.1) (row6c hSw.2); go_simp; (try with_reducible rfl); done)); (try simp only [Act.put, List.setIfInBounds_toArray, List.set_cons_zero, List.set_cons_succ]))
          (refine takeH (i := 1) (v := ?_) rfl (by kernel_rfl) (by kernel_rfl) (by kernel_rfl) (fun _ _ _ h => h) (Or.inl ⟨by rfl, ?_⟩) (by assumption) ?_; rotate_left; (focus ((intro wS hSw); (try dsimp only at hSw); obtain ⟨⟨r0, r1, r2, r3⟩, s0, s1, s2, s3, s4, s5⟩ := And.intro (row4c hSw.1) (row6c hSw.2); go_simp; (try with_reducible rfl); done)); (try simp only [Act.put, List.setIfInBounds_toArray, List.set_cons_zero, List.set_cons_succ]))
          (refine takeH (i := 2) (v := ?_) rfl (by kernel_rfl) (by kernel_rfl) (by kernel_rfl) (fun _ _ _ h => h) (Or.inl ⟨by rfl, ?_⟩) (by assumption) ?_; rotate_left; (focus ((intro wS hSw); (try dsimp only at hSw); obtain ⟨⟨r0, r1, r2, r3⟩, s0, s1, s2, s3, s4, s5⟩ := And.intro (row4c hSw.1) (row6c hSw.2); go_simp; (try with_reducible rfl); done)); (try simp only [Act.put, List.setIfInBounds_toArray, List.set_cons_zero, List.set_cons_succ]))
          (refine takeH (i := 3) (v := ?_) rfl (by kernel_rfl) (by kernel_rfl) (by kernel_rfl) (fun _ _ _ h => h) (Or.inl ⟨by rfl, ?_⟩) (by assumption) ?_; rotate_left; (focus ((intro wS hSw); (try dsimp only at hSw); obtain ⟨⟨r0, r1, r2, r3⟩, s0, s1, s2, s3, s4, s5⟩ := And.intro (row4c hSw.1) (row6c hSw.2); go_simp; (try with_reducible rfl); done)); (try simp only [Act.put, List.setIfInBounds_toArray, List.set_cons_zero, List.set_cons_succ]))
          (refine takeH (i := 4) (v := ?_) rfl (by kernel_rfl) (by kernel_rfl) (by kernel_rfl) (fun _ _ _ h => h) (Or.inl ⟨by rfl, ?_⟩) (by assumption) ?_; rotate_left; (focus ((intro wS hSw); (try dsimp only at hSw); obtain ⟨⟨r0, r1, r2, r3⟩, s0, s1, s2, s3, s4, s5⟩ := And.intro (row4c hSw.1) (row6c hSw.2); go_simp; (try with_reducible rfl); done)); (try simp only [Act.put, List.setIfInBounds_toArray, List.set_cons_zero, List.set_cons_succ]))
          (refine takeH (i := 5) (v := ?_) rfl (by kernel_rfl) (by kernel_rfl) (by kernel_rfl) (fun _ _ _ h => h) (Or.inl ⟨by rfl, ?_⟩) (by assumption) ?_; rotate_left; (focus ((intro wS hSw); (try dsimp only at hSw); obtain ⟨⟨r0, r1, r2, r3⟩, s0, s1, s2, s3, s4, s5⟩ := And.intro (row4c hSw.1) (row6c hSw.2); go_simp; (try with_reducible rfl); done)); (try simp only [Act.put, List.setIfInBounds_toArray, List.set_cons_zero, List.set_cons_succ]))
          (refine takeH (i := 6) (v := ?_) rfl (by kernel_rfl) (by kernel_rfl) (by kernel_rfl) (fun _ _ _ h => h) (Or.inl ⟨by rfl, ?_⟩) (by assumption) ?_; rotate_left; (focus ((intro wS hSw); (try dsimp only at hSw); obtain ⟨⟨r0, r1, r2, r3⟩, s0, s1, s2, s3, s4, s5⟩ := And.intro (row4c hSw.1) (row6c hSw.2); go_simp; (try with_reducible rfl); done)); (try simp only [Act.put, List.setIfInBounds_toArray, List.set_cons_zero, List.set_cons_succ]))
          refine aloneH (i := 7) rfl (by kernel_rfl) (fun K hK => ?_)
          rw [if_pos (by rfl)]
          have hup := run_updI xd m n0 (k : Nat) (plcs (l.take k)) HMd.out
          go_simp
          have hst1 := ((putWI_chg xd m (putI n0 (k : Nat) (plcs (l.take k)))).heap (heapLt hHeld.1) HPm.out).trans hHeld.1
          have hst2 := ((putWI_chg xd m (putI n0 (k : Nat) (plcs (l.take k)))).heap (heapLt hHeld.2) (fun e => HMd.out.not _ _ _ (e ▸ hHeld.2))).trans hHeld.2
          have HC7 := Lib.hid (putWI_chg xd m (putI n0 (k : Nat) (plcs (l.take k))))
          have HM7 := Lib.hid (HMd.out.put (putI n0 (k : Nat) (plcs (l.take k))))
          have HO7 := Lib.hid (own_chg HOd.out HC7.out (own_offMap HOd.out HMd.out))
          clear hup
          generalize putWI xd m _ = x1 at hst1 hst2 HC7 HM7 HO7 ⊢
          have HK7 := Lib.hid (And.intro hst1 hst2)
          clear hst1 hst2
          refine hK.out _ _ (HK7.out) (fun hNew => ?_)
          clear hK K hHeld; (have hHeld := hNew); clear hNew; (try simp only [Act.put])
          refine wpAnyH_done (by kernel_rfl) ?_ _
          have HFin : Hid (NumAt w x1 P m B (l.take (k + 1)) (plcs (l.take (k + 1)))) := Lib.hid ⟨HCd.out.trans (Chg2.right HC7.out), ⟨A', c', by rw [hl1]; exact hHeld.1, by rw [hl1, lbCs_take l k hlt, ← HTk.out]; exact HO7.out⟩, by rw [plcs_take l k hlt, ← HTk.out]; exact HM7.out⟩
          clear hHeld hl1 HCd HC7 HM7 HO7 HOd HMd
          go_wp2
          exact ⟨⟨k + 1, by omega, by simp, HFin⟩, by simp [intOf]; omega⟩
    · obtain rfl : k = l.length := by omega
      rw [List.take_length] at HN
      obtain ⟨Ab, cb, hbx, hbo⟩ := HN.out.box
      obtain ⟨r0, r1, r2, r3⟩ := row4c hbx
      have hmp : wr.heap[m]? = some (.map (entsI 0 (plcs l)).toArray (plcs l).length) := HN.out.map
      have hlm : (Builtin.len_ #[33] 3 #[.map (some m)]).run Try.prog wr = .ok (.int .i64 ((plcs l).length : Nat)) wr := by
        have := run_len_map (P := Try.prog) (w := wr) 33 3 m _ _ Try.underlying33 hmp
        rw [this]
        simp [entsI_len, goInt]
      clear hbx hbo
      go_wp2
      go_ret
      refine ⟨ret_bool ?_, HN.out⟩
      first | rfl | (rw [Bool.eq_iff_iff]; simp; omega) | (rw [Bool.eq_iff_iff]; simp)
end Go.Proofs.Ytbplhjoompgemaa
