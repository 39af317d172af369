/- Sums and differences: the walk. -/
import Derived.Test.YtpapcnogbmjpjaaGreatDoorK17
namespace Go.Proofs.YtpapcnogbmjpjaaGreatDoor
open Go.RowKit
set_option maxRecDepth 100000
set_option linter.unusedSimpArgs false
set_option linter.unusedVariables false
attribute [local go_sem] Oper.semAt_some

theorem row5c {W : World} {g : Nat} {a b c d e : Value} {t : TypeId} (h : W.heap[g]? = some (.cells #[a, b, c, d, e] t (0, 0))) : W.cell? ⟨g, 0, none⟩ = some a ∧ W.cell? ⟨g, 1, none⟩ = some b ∧ W.cell? ⟨g, 2, none⟩ = some c ∧ W.cell? ⟨g, 3, none⟩ = some d ∧ W.cell? ⟨g, 4, none⟩ = some e :=
  ⟨cell_of_row W g 0 _ _ _ h, cell_of_row W g 1 _ _ _ h, cell_of_row W g 2 _ _ _ h, cell_of_row W g 3 _ _ _ h, cell_of_row W g 4 _ _ _ h⟩
theorem end_tree {R B g5 : Nat} {en : Int} {w0 wr wy : World} {t : Tr} {X : Sh} {s : Rd} (h : LoopQ R en B g5 w0 wr t X s) (hR : R < B) (hc : Chg R wr wy) : TreeQ B wy t X := by
  obtain ⟨cs, hrd⟩ := rd_block h.rd
  exact h.tree.chg hR hrd hc
theorem kids_slice {kv : Value} {kb kc : Nat} {ks : List Tr} (h : kv = kidsV kb kc ks) : ∃ A n k, kv = .slice A n k := by
  rw [h]
  cases ks <;> exact ⟨_, _, _, rfl⟩
def ExprC (G : Gr) (R f : Nat) : Prop := ∀ (d : Nat) (s : Rd) (w : World), d ≤ 64 → RdAt w R G.en s → exprP G f d s ≠ .out → Calls Tryz.prog 38 #[.pointer (some ⟨R, 0, none⟩), .int .i64 (d : Nat)] w (OutQ R G.en w (exprP G f d s))
set_option maxHeartbeats 8000000 in
theorem expr_step (G : Gr) (R f : Nat) (hT : (∀ j, j ≤ f → TermC G R j) ∧ (∀ j d s x s1, termP G j d s = .ok x s1 → s1.T.length ≤ s.T.length)) : ExprC G R (f + 1) := by
  intro d s w hd hr hne
  have HTc := Lib.hid hT
  have HD := Lib.hid hd
  have hB0 := below_alloc w (.cells #[.int .i64 0, .int .i64 0, .string ⟨#[]⟩, .slice none 0 0, .slice none 0 0] 32)
  have H0 := Lib.hid (heap_alloc_new w (.cells #[.int .i64 0, .int .i64 0, .string ⟨#[]⟩, .slice none 0 0, .slice none 0 0] 32))
  have HR0 := Lib.hid (hr.on hB0)
  have HB0 := Lib.hid hB0
  have HRl := Lib.hid hr.lt
  clear hT hr hB0 hd
  unfold exprP at hne ⊢
  cases ht : termP G f d s with
  | out => rw [ht] at hne; exact absurd rfl hne
  | flt a k =>
    simp only [ht] at hne ⊢
    have hcall := HTc.out.1 f (Nat.le_refl _) d s _ HD.out HR0.out (by rw [ht]; exact fun e => by cases e)
    rw [ht] at hcall
    have HCl := Lib.hid hcall
    clear hcall hne ht
    go_enter Tryz.func38, Tryz.ntmps38
    go_wp2_with (go_at_call 62; refine HCl.out.mono ?_; rintro e w3 ⟨rfl, hc⟩; refine Stop.out ?_)
    unfold Stop
    first | exact ⟨rfl, OutQ.fault rfl ((Chg.of HB0.out).trans hc)⟩ | (go_wp2; exact ⟨rfl, OutQ.fault rfl ((Chg.of HB0.out).trans hc)⟩)
  | ok x0 s1 =>
    simp only [ht] at hne ⊢
    have hcall := HTc.out.1 f (Nat.le_refl _) d s _ HD.out HR0.out (by rw [ht]; exact fun e => by cases e)
    rw [ht] at hcall
    have HCl := Lib.hid hcall
    obtain ⟨r, hrr⟩ : ∃ r, loopP G f d x0 s1 = r := ⟨_, rfl⟩
    rw [hrr] at hne ⊢
    have HRr := Lib.hid hrr
    have HNo := Lib.hid hne
    clear hcall hne ht hrr
    go_enter Tryz.func38, Tryz.ntmps38
    go_wp2_with (go_at_call 62; refine HCl.out.mono ?_; rintro e w3 ⟨k, n, fd, fA, fn, fc, kv, kb, kc, ks, rfl, hkv, ht, hr, hc⟩; refine Stop.out ?_)
    unfold Stop
    have HTq := Lib.hid ht
    have HRd := Lib.hid hr
    have HC3 := Lib.hid hc
    have hone := kids_one kb kc ks
    rw [← hkv.out] at hone
    have HKv := hkv
    have hall := all5 (k := k) (n := n) (fd := fd) (fA := fA) (fn := fn) (fc := fc) hone
    have HN0 := Lib.hid (heap_alloc_new w3 (.cells #[.int .i64 0, .int .i64 0, .string ⟨#[]⟩, .slice none 0 0, .slice none 0 0] 32))
    have HBF := Lib.hid (box_row w3 #[.int .i64 0, .int .i64 0, .string ⟨#[]⟩, .slice none 0 0, .slice none 0 0] #[.int .i64 k, .int .i64 n, .string fd, .slice fA fn fc, kv] 32 rfl)
    have HG4 := Lib.hid (cell_far hc H0.out (by have := HRl.out; omega))
    clear ht hr hc hkv HCl hone
    go_wp2_with ((with_reducible refine wpList_store_row (o := ⟨none, _, _, _, _, _⟩) 32 ?b0 (.tmp 5) (.tmp 8) ?b1 w3.heap.size ?b2 [.int .i64 k, .int .i64 n, .string fd, .slice fA fn fc, kv] ?b3 ?b4 ?b5 #[.int .i64 0, .int .i64 0, .string ⟨#[]⟩, .slice none 0 0, .slice none 0 0] ?b6 32 ?b7 ?_); (case b0 => rfl); (case b1 => rfl); (case b2 => rfl); (case b3 => exact expr_info); (case b4 => exact hall); (case b5 => rfl); (case b6 => rfl); (case b7 => exact HN0.out); (try simp only [Act.put]); refine Stop.out ?_)
    unfold Stop
    clear HN0 hall
    generalize World.setRow _ _ _ = w5 at HBF ⊢
    have HB5 : Hid (Below w3.heap.size w3 w5) := Lib.hid HBF.out.1
    obtain ⟨g5, hg5⟩ : ∃ g, g = w3.heap.size := ⟨_, rfl⟩
    have HG5e := Lib.hid hg5
    have HX5 : Hid (w5.heap[g5]? = some (.cells #[.int .i64 k, .int .i64 n, .string fd, .slice fA fn fc, kv] 32 (0, 0))) := Lib.hid (by rw [hg5]; exact HBF.out.2)
    rw [← hg5]
    clear hg5 HBF
    obtain ⟨w0, hw0⟩ : ∃ v, v = w.alloc (.cells #[.int .i64 0, .int .i64 0, .string ⟨#[]⟩, .slice none 0 0, .slice none 0 0] 32) := ⟨_, rfl⟩
    have HW := Lib.hid hw0
    rw [← hw0] at HTq HC3 HB0
    have HBw : Hid (w0.heap.size = w.heap.size + 1) := Lib.hid (by rw [hw0]; exact World.size_alloc _ _)
    have HLq0 : Hid (LoopQ R G.en w0.heap.size g5 w0 w5 (.mk k n fd fA fn fc kb kc ks) x0 s1) := Lib.hid ⟨HTq.out.on HB5.out, fun hm => by have := AtT.lt _ HTq.out.at_ _ hm; have := HG5e.out; omega, HRd.out.on HB5.out, HC3.out.trans (Chg.of HB5.out)⟩
    have HG45 := Lib.hid (heap_on HB5.out HG4.out)
    have HW0 : Hid (w0.heap.size ≤ g5) := Lib.hid (by rw [HG5e.out]; exact HC3.out.size)
    have HG5l : Hid (g5 < w5.heap.size) := Lib.hid (heapLt HX5.out)
    have H0w := H0
    clear HTq HC3 HRd HG4 hw0 H0 HR0
    go_wp2
    go_loopw [10] (fun v10 wr => ∃ (j : Nat) (Xx : Sh) (sx : Rd) (k n : Int) (fd : ByteArray) (fA : Option Addr) (fn fc : Nat) (kv : Value) (kb kc : Nat) (ks : List Tr), Hid (loopP G j d Xx sx = r ∧ j ≤ f) ∧ Hid (kv = kidsV kb kc ks) ∧ Hid (LoopQ R G.en w0.heap.size g5 w0 wr (.mk k n fd fA fn fc kb kc ks) Xx sx) ∧ Hid (wr.heap[g5]? = some (.cells #[.int .i64 k, .int .i64 n, .string fd, .slice fA fn fc, kv] 32 (0, 0)))) (fun _ wr => leftR R wr)
    case atStart => exact ⟨f, x0, s1, k, n, fd, fA, fn, fc, kv, kb, kc, ks, Lib.hid ⟨HRr.out, Nat.le_refl _⟩, HKv, HLq0, HX5⟩
    case round =>
      clear HLq0 HX5 HKv HRr HB5
      obtain ⟨j, Xx, sx, k, n, fd, fA, fn, fc, kv, kb, kc, ks, HJ, HKv, HLq, HX⟩ := hrel
      obtain ⟨hje, hjf⟩ := HJ.out
      have HSr : Hid (r ≠ .out) := HNo
      cases j with
      | zero => unfold loopP at hje; exact absurd hje.symm HSr.out
      | succ f'' =>
      have HTl := Lib.hid (And.intro (HTc.out.1 f'' (by omega)) (HTc.out.2 f''))
      have HLf : Hid (leftR R wr = sx.T.length) := Lib.hid HLq.out.rd.left
      have HRx := Lib.hid HLq.out.rd
      have HFl : Hid (f'' + 1 ≤ f) := Lib.hid hjf
      have HNe : Hid (g5 ≠ R) := Lib.hid (by have := HRl.out; have := HW0.out; have := HBw.out; omega)
      have HGl5 : Hid (g5 < wr.heap.size) := Lib.hid (heapLt HX.out)
      have hone := kids_one kb kc ks
      rw [← HKv.out] at hone
      clear hjf HJ HTc
      unfold loopP at hje
      cases hp : skipP plB sx with
      | some s2 =>
        simp only [hp] at hje
        have HSl : Hid (s2.T.length < sx.T.length) := Lib.hid (skip_len hp)
        cases ht : termP G f'' d s2 with
        | out => simp only [ht] at hje; exact absurd hje.symm HSr.out
        | flt a k =>
          simp only [ht] at hje
          subst hje
          have HSk := Lib.hid (skip_t HRx.out plB (by decide) hp)
          clear hp
          go_wp2_with (go_at_call 56; refine HSk.out.mono ?_; rintro e wy ⟨rfl, hr, hc⟩; refine Stop.out ?_)
          unfold Stop
          have HRw := Lib.hid (hr.on (below_drew wy))
          have HCw1 := Lib.hid (hc.trans (Chg.of (below_drew wy)))
          have HXd := Lib.hid (cell_far HCw1.out HX.out HNe.out)
          clear hr hc HSk HX
          have HX := HXd
          clear HXd
          go_wp2
          refine wp_region_held_drew (S := fun _ : World => True) (by kernel_rfl) trivial ?_
          intro hHeld
          generalize wy.drew = wd at HRw HCw1 HX ⊢
          have HRw0 := HRw
          clear HRw
          have hcall := HTl.out.1 d s2 wd HD.out HRw0.out (by rw [ht]; exact fun e => by cases e)
          rw [ht] at hcall
          have HCl := Lib.hid hcall
          clear hcall ht
          have HCw := Lib.hid ((Chg.of HB0.out).trans (HLq.out.chg.trans HCw1.out))
          (refine takeH (i := 1) (v := ?_) rfl (by kernel_rfl) (by kernel_rfl) (by kernel_rfl) (fun _ _ _ h => h) (Or.inl ⟨by rfl, ?_⟩) (by assumption) ?_; rotate_left; (focus ((intro wS hSw); (try dsimp only at hSw); skip; go_simp; (try with_reducible rfl); done)); (try simp only [Act.put, List.setIfInBounds_toArray, List.set_cons_zero, List.set_cons_succ]))
          (refine takeH (i := 2) (v := ?_) rfl (by kernel_rfl) (by kernel_rfl) (by kernel_rfl) (fun _ _ _ h => h) (Or.inl ⟨by rfl, ?_⟩) (by assumption) ?_; rotate_left; (focus ((intro wS hSw); (try dsimp only at hSw); skip; go_simp; (try with_reducible rfl); done)); (try simp only [Act.put, List.setIfInBounds_toArray, List.set_cons_zero, List.set_cons_succ]))
          refine twoH (i := 0) (i2 := 3) rfl rfl (by kernel_rfl) (fun K hK => ?_) (fun K hK => ?_)
          · rw [if_pos (by rfl)]
            obtain ⟨e0, e1, e2, e3, e4⟩ := row5c HX.out
            go_simp
            clear e0 e1 e2 e3 e4
            refine hK.out _ _ (trivial) (fun hNew => ?_)
            clear hK K hHeld; (have hHeld := hNew); clear hNew; (try simp only [Act.put, List.setIfInBounds_toArray, List.set_cons_zero, List.set_cons_succ])
            refine aloneH (i := 3) rfl (by kernel_rfl) (fun K hK => ?_)
            rw [if_pos (by rfl)]
            go_simp
            refine HCl.out.mono ?_
            rintro e w2 ⟨rfl, hc⟩
            exact ⟨rfl, OutQ.fault rfl (HCw.out.trans hc)⟩
          · rw [if_pos (by rfl)]
            go_simp
            refine HCl.out.mono ?_
            rintro e w1 ⟨rfl, hc⟩
            exact ⟨rfl, OutQ.fault rfl (HCw.out.trans hc)⟩
        | ok y s3 =>
          simp only [ht] at hje
          have HRe := Lib.hid hje
          have HSk := Lib.hid (skip_t HRx.out plB (by decide) hp)
          have HTe := Lib.hid ht
          clear hp hje
          go_wp2_with (go_at_call 56; refine HSk.out.mono ?_; rintro e wy ⟨rfl, hr, hc⟩; refine Stop.out ?_)
          unfold Stop
          have HRw := Lib.hid (hr.on (below_drew wy))
          have HCw1 := Lib.hid (hc.trans (Chg.of (below_drew wy)))
          have HXd := Lib.hid (cell_far HCw1.out HX.out HNe.out)
          clear hr hc HSk HX
          have HX := HXd
          clear HXd
          go_wp2
          refine wp_region_held_drew (S := fun _ : World => True) (by kernel_rfl) trivial ?_
          intro hHeld
          generalize wy.drew = wd at HRw HCw1 HX ⊢
          have HRw0 := HRw
          clear HRw
          have hcall := HTl.out.1 d s2 wd HD.out HRw0.out (by rw [ht]; exact fun e => by cases e)
          rw [ht] at hcall
          have HCl := Lib.hid hcall
          clear hcall ht
          (refine takeH (i := 1) (v := ?_) rfl (by kernel_rfl) (by kernel_rfl) (by kernel_rfl) (fun _ _ _ h => h) (Or.inl ⟨by rfl, ?_⟩) (by assumption) ?_; rotate_left; (focus ((intro wS hSw); (try dsimp only at hSw); skip; go_simp; (try with_reducible rfl); done)); (try simp only [Act.put, List.setIfInBounds_toArray, List.set_cons_zero, List.set_cons_succ]))
          (refine takeH (i := 2) (v := ?_) rfl (by kernel_rfl) (by kernel_rfl) (by kernel_rfl) (fun _ _ _ h => h) (Or.inl ⟨by rfl, ?_⟩) (by assumption) ?_; rotate_left; (focus ((intro wS hSw); (try dsimp only at hSw); skip; go_simp; (try with_reducible rfl); done)); (try simp only [Act.put, List.setIfInBounds_toArray, List.set_cons_zero, List.set_cons_succ]))
          refine twoH (i := 0) (i2 := 3) rfl rfl (by kernel_rfl) (fun K hK => ?_) (fun K hK => ?_)
          · rw [if_pos (by rfl)]
            obtain ⟨e0, e1, e2, e3, e4⟩ := row5c HX.out
            go_simp
            clear e0 e1 e2 e3 e4
            refine hK.out _ _ (trivial) (fun hNew => ?_)
            clear hK K hHeld; (have hHeld := hNew); clear hNew; (try simp only [Act.put, List.setIfInBounds_toArray, List.set_cons_zero, List.set_cons_succ])
            refine aloneH (i := 3) rfl (by kernel_rfl) (fun K hK => ?_)
            rw [if_pos (by rfl)]
            go_simp
            refine HCl.out.mono ?_
            rintro e w2 ⟨k2, n2, fd2, fA2, fn2, fc2, kv2, kb2, kc2, ks2, rfl, hkv2, ht2, hr2, hc2⟩
            have HT2 := Lib.hid ht2
            have HR2 := Lib.hid hr2
            have HCy := Lib.hid hc2
            have hone2 := kids_one kb2 kc2 ks2
            rw [← hkv2.out] at hone2
            have HKv2 := hkv2
            have HX2 := Lib.hid (cell_far hc2 HX.out HNe.out)
            clear hkv2 ht2 hr2 hc2
            go_simp
            refine hK.out _ _ (trivial) (fun hNew => ?_)
            clear hK K hHeld; (have hHeld := hNew); clear hNew; (try simp only [Act.put, List.setIfInBounds_toArray, List.set_cons_zero, List.set_cons_succ])
            refine aloneH (i := 4) rfl (by kernel_rfl) (fun K hK => ?_)
            rw [if_pos (by rfl)]
            have hall := ten_one hone hone2 (k := k) (n := n) (fd := fd) (fA := fA) (fn := fn) (fc := fc) (k2 := k2) (n2 := n2) (fd2 := fd2) (fA2 := fA2) (fn2 := fn2) (fc2 := fc2)
            go_simp
            obtain ⟨gS, hgS⟩ : ∃ gS, gS = w2.heap.size := ⟨_, rfl⟩
            obtain ⟨q3, hq⟩ : ∃ q, q = w2.alloc (.cells #[.int .i64 k, .int .i64 n, .string fd, .slice fA fn fc, kv, .int .i64 k2, .int .i64 n2, .string fd2, .slice fA2 fn2 fc2, kv2] 32) := ⟨_, rfl⟩
            have HBs : Hid (Below w2.heap.size w2 q3) := Lib.hid (by rw [hq]; exact below_alloc _ _)
            have HAs : Hid (q3.heap[gS]? = some (.cells #[.int .i64 k, .int .i64 n, .string fd, .slice fA fn fc, kv, .int .i64 k2, .int .i64 n2, .string fd2, .slice fA2 fn2 fc2, kv2] 32 (0, 0))) := Lib.hid (by rw [hq, hgS]; exact heap_alloc_new _ _)
            have HGS := Lib.hid hgS
            rw [← hq, ← hgS]
            clear hq hgS hall
            refine hK.out _ _ (trivial) (fun hNew => ?_)
            clear hK K hHeld; (have hHeld := hNew); clear hNew; (try simp only [Act.put, List.setIfInBounds_toArray, List.set_cons_zero, List.set_cons_succ])
            refine aloneH (i := 5) rfl (by kernel_rfl) (fun K hK => ?_)
            rw [if_pos (by rfl)]
            go_simp
            refine (code_node q3 4 (some ⟨gS, 0, none⟩) 2 2).mono ?_
            rintro e w4 ⟨rfl, hb⟩
            have HBn := Lib.hid hb
            clear hb
            go_simp
            refine hK.out _ _ (trivial) (fun hNew => ?_)
            clear hK K hHeld; (have hHeld := hNew); clear hNew; (try simp only [Act.put, List.setIfInBounds_toArray, List.set_cons_zero, List.set_cons_succ])
            refine aloneH (i := 6) rfl (by kernel_rfl) (fun K hK => ?_)
            rw [if_pos (by rfl)]
            have HXl := Lib.hid (heap_on (below_then HBs.out HBn.out) HX2.out)
            refine wp_store_row 32 (.tmp 5) (.tmp 18) rfl g5 rfl [.int .i64 4, .int .i64 0, .string ⟨#[]⟩, .slice none 0 0, .slice (some ⟨gS, 0, none⟩) 2 2] expr_info (by simp [Value.oneCell']) rfl #[.int .i64 k, .int .i64 n, .string fd, .slice fA fn fc, kv] rfl 32 HXl.out ?_
            have HRw := Lib.hid (row_then (g := g5) (new := #[.int .i64 4, .int .i64 0, .string ⟨#[]⟩, .slice none 0 0, .slice (some ⟨gS, 0, none⟩) 2 2]) HXl.out rfl rfl)
            have HCg := Lib.hid (setRow_chg w4 g5 #[.int .i64 4, .int .i64 0, .string ⟨#[]⟩, .slice none 0 0, .slice (some ⟨gS, 0, none⟩) 2 2])
            generalize World.setRow _ _ _ = x5 at HRw HCg ⊢
            refine hK.out _ _ (trivial) (fun hNew => ?_)
            clear hK K hHeld; (have hHeld := hNew); clear hNew; (try simp only [Act.put])
            refine wpAnyH_done (by kernel_rfl) ?_ _
            have HNx := Lib.hid (loopQ_next HLq.out HKv HKv2 (by have := HRl.out; have := HBw.out; omega) HLq.out.chg.size HW0.out (by have := HRl.out; have := HBw.out; omega) HRw0.out HCw1.out HGl5.out HT2.out HR2.out HCy.out HGS.out HBs.out HAs.out HBn.out HXl.out HCg.out 4)
            have HLs := Lib.hid (HTl.out.2 _ _ _ _ HTe.out)
            clear hHeld HT2 HCy HBs HAs HBn HXl HLq HCw1 HCl HX
            go_wp2
            refine ⟨⟨f'', nodeS 4 [Xx, y], s3, _, _, _, _, _, _, _, _, _, _, Lib.hid ⟨HRe.out, by have := HFl.out; omega⟩, Lib.hid rfl, HNx, HRw⟩, ?_⟩
            rw [HNx.out.rd.left, HLf.out]
            have := HLs.out
            have := HSl.out
            omega
          · rw [if_pos (by rfl)]
            go_simp
            refine HCl.out.mono ?_
            rintro e w1 ⟨k2, n2, fd2, fA2, fn2, fc2, kv2, kb2, kc2, ks2, rfl, hkv2, ht2, hr2, hc2⟩
            have HT2 := Lib.hid ht2
            have HR2 := Lib.hid hr2
            have HCy := Lib.hid hc2
            have hone2 := kids_one kb2 kc2 ks2
            rw [← hkv2.out] at hone2
            have HKv2 := hkv2
            have HX1 := Lib.hid (cell_far hc2 HX.out HNe.out)
            clear hkv2 ht2 hr2 hc2
            go_simp
            refine hK.out _ _ (trivial) (fun hNew => ?_)
            clear hK K hHeld; (have hHeld := hNew); clear hNew; (try simp only [Act.put, List.setIfInBounds_toArray, List.set_cons_zero, List.set_cons_succ])
            refine aloneH (i := 0) rfl (by kernel_rfl) (fun K hK => ?_)
            rw [if_pos (by rfl)]
            obtain ⟨e0, e1, e2, e3, e4⟩ := row5c HX1.out
            go_simp
            clear e0 e1 e2 e3 e4
            refine hK.out _ _ (trivial) (fun hNew => ?_)
            clear hK K hHeld; (have hHeld := hNew); clear hNew; (try simp only [Act.put, List.setIfInBounds_toArray, List.set_cons_zero, List.set_cons_succ])
            refine aloneH (i := 4) rfl (by kernel_rfl) (fun K hK => ?_)
            rw [if_pos (by rfl)]
            have hall := ten_one hone hone2 (k := k) (n := n) (fd := fd) (fA := fA) (fn := fn) (fc := fc) (k2 := k2) (n2 := n2) (fd2 := fd2) (fA2 := fA2) (fn2 := fn2) (fc2 := fc2)
            go_simp
            obtain ⟨gS, hgS⟩ : ∃ gS, gS = w1.heap.size := ⟨_, rfl⟩
            obtain ⟨q3, hq⟩ : ∃ q, q = w1.alloc (.cells #[.int .i64 k, .int .i64 n, .string fd, .slice fA fn fc, kv, .int .i64 k2, .int .i64 n2, .string fd2, .slice fA2 fn2 fc2, kv2] 32) := ⟨_, rfl⟩
            have HBs : Hid (Below w1.heap.size w1 q3) := Lib.hid (by rw [hq]; exact below_alloc _ _)
            have HAs : Hid (q3.heap[gS]? = some (.cells #[.int .i64 k, .int .i64 n, .string fd, .slice fA fn fc, kv, .int .i64 k2, .int .i64 n2, .string fd2, .slice fA2 fn2 fc2, kv2] 32 (0, 0))) := Lib.hid (by rw [hq, hgS]; exact heap_alloc_new _ _)
            have HGS := Lib.hid hgS
            rw [← hq, ← hgS]
            clear hq hgS hall
            refine hK.out _ _ (trivial) (fun hNew => ?_)
            clear hK K hHeld; (have hHeld := hNew); clear hNew; (try simp only [Act.put, List.setIfInBounds_toArray, List.set_cons_zero, List.set_cons_succ])
            refine aloneH (i := 5) rfl (by kernel_rfl) (fun K hK => ?_)
            rw [if_pos (by rfl)]
            go_simp
            refine (code_node q3 4 (some ⟨gS, 0, none⟩) 2 2).mono ?_
            rintro e w4 ⟨rfl, hb⟩
            have HBn := Lib.hid hb
            clear hb
            go_simp
            refine hK.out _ _ (trivial) (fun hNew => ?_)
            clear hK K hHeld; (have hHeld := hNew); clear hNew; (try simp only [Act.put, List.setIfInBounds_toArray, List.set_cons_zero, List.set_cons_succ])
            refine aloneH (i := 6) rfl (by kernel_rfl) (fun K hK => ?_)
            rw [if_pos (by rfl)]
            have HXl := Lib.hid (heap_on (below_then HBs.out HBn.out) HX1.out)
            refine wp_store_row 32 (.tmp 5) (.tmp 18) rfl g5 rfl [.int .i64 4, .int .i64 0, .string ⟨#[]⟩, .slice none 0 0, .slice (some ⟨gS, 0, none⟩) 2 2] expr_info (by simp [Value.oneCell']) rfl #[.int .i64 k, .int .i64 n, .string fd, .slice fA fn fc, kv] rfl 32 HXl.out ?_
            have HRw := Lib.hid (row_then (g := g5) (new := #[.int .i64 4, .int .i64 0, .string ⟨#[]⟩, .slice none 0 0, .slice (some ⟨gS, 0, none⟩) 2 2]) HXl.out rfl rfl)
            have HCg := Lib.hid (setRow_chg w4 g5 #[.int .i64 4, .int .i64 0, .string ⟨#[]⟩, .slice none 0 0, .slice (some ⟨gS, 0, none⟩) 2 2])
            generalize World.setRow _ _ _ = x5 at HRw HCg ⊢
            refine hK.out _ _ (trivial) (fun hNew => ?_)
            clear hK K hHeld; (have hHeld := hNew); clear hNew; (try simp only [Act.put])
            refine wpAnyH_done (by kernel_rfl) ?_ _
            have HNx := Lib.hid (loopQ_next HLq.out HKv HKv2 (by have := HRl.out; have := HBw.out; omega) HLq.out.chg.size HW0.out (by have := HRl.out; have := HBw.out; omega) HRw0.out HCw1.out HGl5.out HT2.out HR2.out HCy.out HGS.out HBs.out HAs.out HBn.out HXl.out HCg.out 4)
            have HLs := Lib.hid (HTl.out.2 _ _ _ _ HTe.out)
            clear hHeld HT2 HCy HBs HAs HBn HXl HLq HCw1 HCl HX
            go_wp2
            refine ⟨⟨f'', nodeS 4 [Xx, y], s3, _, _, _, _, _, _, _, _, _, _, Lib.hid ⟨HRe.out, by have := HFl.out; omega⟩, Lib.hid rfl, HNx, HRw⟩, ?_⟩
            rw [HNx.out.rd.left, HLf.out]
            have := HLs.out
            have := HSl.out
            omega
      | none =>
        simp only [hp] at hje
        have HSk0 := Lib.hid (skip_f HRx.out plB (by decide) hp)
        clear hp
        cases hm : skipP miB sx with
        | some s2 =>
          simp only [hm] at hje
          have HSl : Hid (s2.T.length < sx.T.length) := Lib.hid (skip_len hm)
          cases ht : termP G f'' d s2 with
          | out => simp only [ht] at hje; exact absurd hje.symm HSr.out
          | flt a k =>
            simp only [ht] at hje
            subst hje
            go_wp2_with (go_at_call 56; refine HSk0.out.mono ?_; rintro e wv ⟨rfl, hr, hc⟩; refine Stop.out ?_)
            unfold Stop
            have HR1 := Lib.hid hr
            have HC1 := Lib.hid hc
            have HX1 := Lib.hid (cell_far hc HX.out HNe.out)
            clear hr hc HSk0 HX
            have HSk := Lib.hid (skip_t HR1.out miB (by decide) hm)
            clear hm
            go_wp2_with (go_at_call 56; refine HSk.out.mono ?_; rintro e wy ⟨rfl, hr, hc⟩; refine Stop.out ?_)
            unfold Stop
            have HRw := Lib.hid (hr.on (below_drew wy))
            have HCw1 := Lib.hid (HC1.out.trans (hc.trans (Chg.of (below_drew wy))))
            have HXd := Lib.hid (cell_far (hc.trans (Chg.of (below_drew wy))) HX1.out HNe.out)
            clear hr hc HSk HX1 HC1
            have HX := HXd
            clear HXd
            go_wp2
            refine wp_region_held_drew (S := fun _ : World => True) (by kernel_rfl) trivial ?_
            intro hHeld
            generalize wy.drew = wd at HRw HCw1 HX ⊢
            have HRw0 := HRw
            clear HRw
            have hcall := HTl.out.1 d s2 wd HD.out HRw0.out (by rw [ht]; exact fun e => by cases e)
            rw [ht] at hcall
            have HCl := Lib.hid hcall
            clear hcall ht
            have HCw := Lib.hid ((Chg.of HB0.out).trans (HLq.out.chg.trans HCw1.out))
            (refine takeH (i := 1) (v := ?_) rfl (by kernel_rfl) (by kernel_rfl) (by kernel_rfl) (fun _ _ _ h => h) (Or.inl ⟨by rfl, ?_⟩) (by assumption) ?_; rotate_left; (focus ((intro wS hSw); (try dsimp only at hSw); skip; go_simp; (try with_reducible rfl); done)); (try simp only [Act.put, List.setIfInBounds_toArray, List.set_cons_zero, List.set_cons_succ]))
            (refine takeH (i := 2) (v := ?_) rfl (by kernel_rfl) (by kernel_rfl) (by kernel_rfl) (fun _ _ _ h => h) (Or.inl ⟨by rfl, ?_⟩) (by assumption) ?_; rotate_left; (focus ((intro wS hSw); (try dsimp only at hSw); skip; go_simp; (try with_reducible rfl); done)); (try simp only [Act.put, List.setIfInBounds_toArray, List.set_cons_zero, List.set_cons_succ]))
            refine twoH (i := 0) (i2 := 3) rfl rfl (by kernel_rfl) (fun K hK => ?_) (fun K hK => ?_)
            · rw [if_pos (by rfl)]
              obtain ⟨e0, e1, e2, e3, e4⟩ := row5c HX.out
              go_simp
              clear e0 e1 e2 e3 e4
              refine hK.out _ _ (trivial) (fun hNew => ?_)
              clear hK K hHeld; (have hHeld := hNew); clear hNew; (try simp only [Act.put, List.setIfInBounds_toArray, List.set_cons_zero, List.set_cons_succ])
              refine aloneH (i := 3) rfl (by kernel_rfl) (fun K hK => ?_)
              rw [if_pos (by rfl)]
              go_simp
              refine HCl.out.mono ?_
              rintro e w2 ⟨rfl, hc⟩
              exact ⟨rfl, OutQ.fault rfl (HCw.out.trans hc)⟩
            · rw [if_pos (by rfl)]
              go_simp
              refine HCl.out.mono ?_
              rintro e w1 ⟨rfl, hc⟩
              exact ⟨rfl, OutQ.fault rfl (HCw.out.trans hc)⟩
          | ok y s3 =>
            simp only [ht] at hje
            have HRe := Lib.hid hje
            have HTe := Lib.hid ht
            go_wp2_with (go_at_call 56; refine HSk0.out.mono ?_; rintro e wv ⟨rfl, hr, hc⟩; refine Stop.out ?_)
            unfold Stop
            have HR1 := Lib.hid hr
            have HC1 := Lib.hid hc
            have HX1 := Lib.hid (cell_far hc HX.out HNe.out)
            clear hr hc HSk0 HX
            have HSk := Lib.hid (skip_t HR1.out miB (by decide) hm)
            clear hm hje
            go_wp2_with (go_at_call 56; refine HSk.out.mono ?_; rintro e wy ⟨rfl, hr, hc⟩; refine Stop.out ?_)
            unfold Stop
            have HRw := Lib.hid (hr.on (below_drew wy))
            have HCw1 := Lib.hid (HC1.out.trans (hc.trans (Chg.of (below_drew wy))))
            have HXd := Lib.hid (cell_far (hc.trans (Chg.of (below_drew wy))) HX1.out HNe.out)
            clear hr hc HSk HX1 HC1
            have HX := HXd
            clear HXd
            go_wp2
            refine wp_region_held_drew (S := fun _ : World => True) (by kernel_rfl) trivial ?_
            intro hHeld
            generalize wy.drew = wd at HRw HCw1 HX ⊢
            have HRw0 := HRw
            clear HRw
            have hcall := HTl.out.1 d s2 wd HD.out HRw0.out (by rw [ht]; exact fun e => by cases e)
            rw [ht] at hcall
            have HCl := Lib.hid hcall
            clear hcall ht
            (refine takeH (i := 1) (v := ?_) rfl (by kernel_rfl) (by kernel_rfl) (by kernel_rfl) (fun _ _ _ h => h) (Or.inl ⟨by rfl, ?_⟩) (by assumption) ?_; rotate_left; (focus ((intro wS hSw); (try dsimp only at hSw); skip; go_simp; (try with_reducible rfl); done)); (try simp only [Act.put, List.setIfInBounds_toArray, List.set_cons_zero, List.set_cons_succ]))
            (refine takeH (i := 2) (v := ?_) rfl (by kernel_rfl) (by kernel_rfl) (by kernel_rfl) (fun _ _ _ h => h) (Or.inl ⟨by rfl, ?_⟩) (by assumption) ?_; rotate_left; (focus ((intro wS hSw); (try dsimp only at hSw); skip; go_simp; (try with_reducible rfl); done)); (try simp only [Act.put, List.setIfInBounds_toArray, List.set_cons_zero, List.set_cons_succ]))
            refine twoH (i := 0) (i2 := 3) rfl rfl (by kernel_rfl) (fun K hK => ?_) (fun K hK => ?_)
            · rw [if_pos (by rfl)]
              obtain ⟨e0, e1, e2, e3, e4⟩ := row5c HX.out
              go_simp
              clear e0 e1 e2 e3 e4
              refine hK.out _ _ (trivial) (fun hNew => ?_)
              clear hK K hHeld; (have hHeld := hNew); clear hNew; (try simp only [Act.put, List.setIfInBounds_toArray, List.set_cons_zero, List.set_cons_succ])
              refine aloneH (i := 3) rfl (by kernel_rfl) (fun K hK => ?_)
              rw [if_pos (by rfl)]
              go_simp
              refine HCl.out.mono ?_
              rintro e w2 ⟨k2, n2, fd2, fA2, fn2, fc2, kv2, kb2, kc2, ks2, rfl, hkv2, ht2, hr2, hc2⟩
              have HT2 := Lib.hid ht2
              have HR2 := Lib.hid hr2
              have HCy := Lib.hid hc2
              have hone2 := kids_one kb2 kc2 ks2
              rw [← hkv2.out] at hone2
              have HKv2 := hkv2
              have HX2 := Lib.hid (cell_far hc2 HX.out HNe.out)
              clear hkv2 ht2 hr2 hc2
              go_simp
              refine hK.out _ _ (trivial) (fun hNew => ?_)
              clear hK K hHeld; (have hHeld := hNew); clear hNew; (try simp only [Act.put, List.setIfInBounds_toArray, List.set_cons_zero, List.set_cons_succ])
              refine aloneH (i := 4) rfl (by kernel_rfl) (fun K hK => ?_)
              rw [if_pos (by rfl)]
              have hall := ten_one hone hone2 (k := k) (n := n) (fd := fd) (fA := fA) (fn := fn) (fc := fc) (k2 := k2) (n2 := n2) (fd2 := fd2) (fA2 := fA2) (fn2 := fn2) (fc2 := fc2)
              go_simp
              obtain ⟨gS, hgS⟩ : ∃ gS, gS = w2.heap.size := ⟨_, rfl⟩
              obtain ⟨q3, hq⟩ : ∃ q, q = w2.alloc (.cells #[.int .i64 k, .int .i64 n, .string fd, .slice fA fn fc, kv, .int .i64 k2, .int .i64 n2, .string fd2, .slice fA2 fn2 fc2, kv2] 32) := ⟨_, rfl⟩
              have HBs : Hid (Below w2.heap.size w2 q3) := Lib.hid (by rw [hq]; exact below_alloc _ _)
              have HAs : Hid (q3.heap[gS]? = some (.cells #[.int .i64 k, .int .i64 n, .string fd, .slice fA fn fc, kv, .int .i64 k2, .int .i64 n2, .string fd2, .slice fA2 fn2 fc2, kv2] 32 (0, 0))) := Lib.hid (by rw [hq, hgS]; exact heap_alloc_new _ _)
              have HGS := Lib.hid hgS
              rw [← hq, ← hgS]
              clear hq hgS hall
              refine hK.out _ _ (trivial) (fun hNew => ?_)
              clear hK K hHeld; (have hHeld := hNew); clear hNew; (try simp only [Act.put, List.setIfInBounds_toArray, List.set_cons_zero, List.set_cons_succ])
              refine aloneH (i := 5) rfl (by kernel_rfl) (fun K hK => ?_)
              rw [if_pos (by rfl)]
              go_simp
              refine (code_node q3 5 (some ⟨gS, 0, none⟩) 2 2).mono ?_
              rintro e w4 ⟨rfl, hb⟩
              have HBn := Lib.hid hb
              clear hb
              go_simp
              refine hK.out _ _ (trivial) (fun hNew => ?_)
              clear hK K hHeld; (have hHeld := hNew); clear hNew; (try simp only [Act.put, List.setIfInBounds_toArray, List.set_cons_zero, List.set_cons_succ])
              refine aloneH (i := 6) rfl (by kernel_rfl) (fun K hK => ?_)
              rw [if_pos (by rfl)]
              have HXl := Lib.hid (heap_on (below_then HBs.out HBn.out) HX2.out)
              refine wp_store_row 32 (.tmp 5) (.tmp 27) rfl g5 rfl [.int .i64 5, .int .i64 0, .string ⟨#[]⟩, .slice none 0 0, .slice (some ⟨gS, 0, none⟩) 2 2] expr_info (by simp [Value.oneCell']) rfl #[.int .i64 k, .int .i64 n, .string fd, .slice fA fn fc, kv] rfl 32 HXl.out ?_
              have HRw := Lib.hid (row_then (g := g5) (new := #[.int .i64 5, .int .i64 0, .string ⟨#[]⟩, .slice none 0 0, .slice (some ⟨gS, 0, none⟩) 2 2]) HXl.out rfl rfl)
              have HCg := Lib.hid (setRow_chg w4 g5 #[.int .i64 5, .int .i64 0, .string ⟨#[]⟩, .slice none 0 0, .slice (some ⟨gS, 0, none⟩) 2 2])
              generalize World.setRow _ _ _ = x5 at HRw HCg ⊢
              refine hK.out _ _ (trivial) (fun hNew => ?_)
              clear hK K hHeld; (have hHeld := hNew); clear hNew; (try simp only [Act.put])
              refine wpAnyH_done (by kernel_rfl) ?_ _
              have HNx := Lib.hid (loopQ_next HLq.out HKv HKv2 (by have := HRl.out; have := HBw.out; omega) HLq.out.chg.size HW0.out (by have := HRl.out; have := HBw.out; omega) HRw0.out HCw1.out HGl5.out HT2.out HR2.out HCy.out HGS.out HBs.out HAs.out HBn.out HXl.out HCg.out 5)
              have HLs := Lib.hid (HTl.out.2 _ _ _ _ HTe.out)
              clear hHeld HT2 HCy HBs HAs HBn HXl HLq HCw1 HCl HX
              go_wp2
              refine ⟨⟨f'', nodeS 5 [Xx, y], s3, _, _, _, _, _, _, _, _, _, _, Lib.hid ⟨HRe.out, by have := HFl.out; omega⟩, Lib.hid rfl, HNx, HRw⟩, ?_⟩
              rw [HNx.out.rd.left, HLf.out]
              have := HLs.out
              have := HSl.out
              omega
            · rw [if_pos (by rfl)]
              go_simp
              refine HCl.out.mono ?_
              rintro e w1 ⟨k2, n2, fd2, fA2, fn2, fc2, kv2, kb2, kc2, ks2, rfl, hkv2, ht2, hr2, hc2⟩
              have HT2 := Lib.hid ht2
              have HR2 := Lib.hid hr2
              have HCy := Lib.hid hc2
              have hone2 := kids_one kb2 kc2 ks2
              rw [← hkv2.out] at hone2
              have HKv2 := hkv2
              have HX1 := Lib.hid (cell_far hc2 HX.out HNe.out)
              clear hkv2 ht2 hr2 hc2
              go_simp
              refine hK.out _ _ (trivial) (fun hNew => ?_)
              clear hK K hHeld; (have hHeld := hNew); clear hNew; (try simp only [Act.put, List.setIfInBounds_toArray, List.set_cons_zero, List.set_cons_succ])
              refine aloneH (i := 0) rfl (by kernel_rfl) (fun K hK => ?_)
              rw [if_pos (by rfl)]
              obtain ⟨e0, e1, e2, e3, e4⟩ := row5c HX1.out
              go_simp
              clear e0 e1 e2 e3 e4
              refine hK.out _ _ (trivial) (fun hNew => ?_)
              clear hK K hHeld; (have hHeld := hNew); clear hNew; (try simp only [Act.put, List.setIfInBounds_toArray, List.set_cons_zero, List.set_cons_succ])
              refine aloneH (i := 4) rfl (by kernel_rfl) (fun K hK => ?_)
              rw [if_pos (by rfl)]
              have hall := ten_one hone hone2 (k := k) (n := n) (fd := fd) (fA := fA) (fn := fn) (fc := fc) (k2 := k2) (n2 := n2) (fd2 := fd2) (fA2 := fA2) (fn2 := fn2) (fc2 := fc2)
              go_simp
              obtain ⟨gS, hgS⟩ : ∃ gS, gS = w1.heap.size := ⟨_, rfl⟩
              obtain ⟨q3, hq⟩ : ∃ q, q = w1.alloc (.cells #[.int .i64 k, .int .i64 n, .string fd, .slice fA fn fc, kv, .int .i64 k2, .int .i64 n2, .string fd2, .slice fA2 fn2 fc2, kv2] 32) := ⟨_, rfl⟩
              have HBs : Hid (Below w1.heap.size w1 q3) := Lib.hid (by rw [hq]; exact below_alloc _ _)
              have HAs : Hid (q3.heap[gS]? = some (.cells #[.int .i64 k, .int .i64 n, .string fd, .slice fA fn fc, kv, .int .i64 k2, .int .i64 n2, .string fd2, .slice fA2 fn2 fc2, kv2] 32 (0, 0))) := Lib.hid (by rw [hq, hgS]; exact heap_alloc_new _ _)
              have HGS := Lib.hid hgS
              rw [← hq, ← hgS]
              clear hq hgS hall
              refine hK.out _ _ (trivial) (fun hNew => ?_)
              clear hK K hHeld; (have hHeld := hNew); clear hNew; (try simp only [Act.put, List.setIfInBounds_toArray, List.set_cons_zero, List.set_cons_succ])
              refine aloneH (i := 5) rfl (by kernel_rfl) (fun K hK => ?_)
              rw [if_pos (by rfl)]
              go_simp
              refine (code_node q3 5 (some ⟨gS, 0, none⟩) 2 2).mono ?_
              rintro e w4 ⟨rfl, hb⟩
              have HBn := Lib.hid hb
              clear hb
              go_simp
              refine hK.out _ _ (trivial) (fun hNew => ?_)
              clear hK K hHeld; (have hHeld := hNew); clear hNew; (try simp only [Act.put, List.setIfInBounds_toArray, List.set_cons_zero, List.set_cons_succ])
              refine aloneH (i := 6) rfl (by kernel_rfl) (fun K hK => ?_)
              rw [if_pos (by rfl)]
              have HXl := Lib.hid (heap_on (below_then HBs.out HBn.out) HX1.out)
              refine wp_store_row 32 (.tmp 5) (.tmp 27) rfl g5 rfl [.int .i64 5, .int .i64 0, .string ⟨#[]⟩, .slice none 0 0, .slice (some ⟨gS, 0, none⟩) 2 2] expr_info (by simp [Value.oneCell']) rfl #[.int .i64 k, .int .i64 n, .string fd, .slice fA fn fc, kv] rfl 32 HXl.out ?_
              have HRw := Lib.hid (row_then (g := g5) (new := #[.int .i64 5, .int .i64 0, .string ⟨#[]⟩, .slice none 0 0, .slice (some ⟨gS, 0, none⟩) 2 2]) HXl.out rfl rfl)
              have HCg := Lib.hid (setRow_chg w4 g5 #[.int .i64 5, .int .i64 0, .string ⟨#[]⟩, .slice none 0 0, .slice (some ⟨gS, 0, none⟩) 2 2])
              generalize World.setRow _ _ _ = x5 at HRw HCg ⊢
              refine hK.out _ _ (trivial) (fun hNew => ?_)
              clear hK K hHeld; (have hHeld := hNew); clear hNew; (try simp only [Act.put])
              refine wpAnyH_done (by kernel_rfl) ?_ _
              have HNx := Lib.hid (loopQ_next HLq.out HKv HKv2 (by have := HRl.out; have := HBw.out; omega) HLq.out.chg.size HW0.out (by have := HRl.out; have := HBw.out; omega) HRw0.out HCw1.out HGl5.out HT2.out HR2.out HCy.out HGS.out HBs.out HAs.out HBn.out HXl.out HCg.out 5)
              have HLs := Lib.hid (HTl.out.2 _ _ _ _ HTe.out)
              clear hHeld HT2 HCy HBs HAs HBn HXl HLq HCw1 HCl HX
              go_wp2
              refine ⟨⟨f'', nodeS 5 [Xx, y], s3, _, _, _, _, _, _, _, _, _, _, Lib.hid ⟨HRe.out, by have := HFl.out; omega⟩, Lib.hid rfl, HNx, HRw⟩, ?_⟩
              rw [HNx.out.rd.left, HLf.out]
              have := HLs.out
              have := HSl.out
              omega
        | none =>
          simp only [hm] at hje
          subst hje
          go_wp2_with (go_at_call 56; refine HSk0.out.mono ?_; rintro e wv ⟨rfl, hr, hc⟩; refine Stop.out ?_)
          unfold Stop
          have HR1 := Lib.hid hr
          have HC1 := Lib.hid hc
          have HX1 := Lib.hid (cell_far hc HX.out HNe.out)
          clear hr hc HSk0 HX
          have HSk := Lib.hid (skip_f HR1.out miB (by decide) hm)
          clear hm
          go_wp2_with (go_at_call 56; refine HSk.out.mono ?_; rintro e wy ⟨rfl, hr, hc⟩; refine Stop.out ?_)
          unfold Stop
          have HRy := Lib.hid hr
          have HCy := Lib.hid (HC1.out.trans hc)
          have HXy := Lib.hid (cell_far hc HX1.out HNe.out)
          clear hr hc HSk HX1
          have HTy := Lib.hid (end_tree HLq.out (by have := HRl.out; have := HBw.out; omega) HCy.out)
          have HGy := Lib.hid (cell_far (HLq.out.chg.trans HCy.out) (HW.out ▸ H0w.out) (by have := HRl.out; omega))
          have hall := all5 (k := k) (n := n) (fd := fd) (fA := fA) (fn := fn) (fc := fc) hone
          have HCe := Lib.hid (HLq.out.chg.trans HCy.out)
          obtain ⟨e0, e1, e2, e3, e4⟩ := row5c HXy.out
          clear HLq HC1 HCy hone
          go_wp2_with ((with_reducible refine wpList_store_row (o := ⟨none, _, _, _, _, _⟩) 32 ?b0 (.tmp 4) (.tmp 9) ?b1 w.heap.size ?b2 [.int .i64 k, .int .i64 n, .string fd, .slice fA fn fc, kv] ?b3 ?b4 ?b5 #[.int .i64 0, .int .i64 0, .string ⟨#[]⟩, .slice none 0 0, .slice none 0 0] ?b6 32 ?b7 ?_); (case b0 => rfl); (case b1 => rfl); (case b2 => rfl); (case b3 => exact expr_info); (case b4 => exact hall); (case b5 => rfl); (case b6 => rfl); (case b7 => exact HGy.out); (try simp only [Act.put]); refine Stop.out ?_)
          unfold Stop
          have HRw := Lib.hid (row_then (g := w.heap.size) (new := #[.int .i64 k, .int .i64 n, .string fd, .slice fA fn fc, kv]) HGy.out rfl rfl)
          have HCg := Lib.hid (setRow_chg wy w.heap.size #[.int .i64 k, .int .i64 n, .string fd, .slice fA fn fc, kv])
          generalize World.setRow _ _ _ = wz at HRw HCg ⊢
          have HFin := Lib.hid (out_tree (w := w) (B := w0.heap.size) ⟨_, _, _, rfl⟩ ⟨_, _, _, rfl⟩ HKv HTy.out (by have := HBw.out; omega) rfl (by have := HBw.out; omega) HRy.out HRl.out HGy.out ((Chg.of HB0.out).trans HCe.out) HCg.out)
          clear HGy HCg hall e0 e1 e2 e3 e4
          go_wp2
          exact bodyPost_ret (results_cell_row Tryz.results38 _ _ w.heap.size 32 #[.int .i64 k, .int .i64 n, .string fd, .slice fA fn fc, kv] (0, 0) _ rfl HRw.out Tryz.underlying32 rfl expr_info) rfl HFin.out
end Go.Proofs.YtpapcnogbmjpjaaGreatDoor
