/- Commands as bytes: the document's, by kinds. Commands as bytes: the document's, by kinds. -/
import Derived.Test.YtmjjenemokojjaaGreatD49
import Derived.WalkMore
namespace Go.Proofs.YtmjjenemokojjaaGreat
open Go.RowKit
set_option maxRecDepth 100000
set_option linter.unusedSimpArgs false
set_option linter.unusedVariables false

theorem encTL_5 {x : CmdV} (hk : x.kind = 5) : (((((([] ++ nB 5) ++ sB x.text) ++ nB x.py) ++ nB x.pi) ++ nB x.num) ++ nB x.den) = encT x := by
 unfold encT
 rw [bodyT_5 hk, hk]
 simp only [List.append_assoc, List.append_nil, List.nil_append]
set_option maxHeartbeats 4000000 in
theorem refEnc_5 (cs : Array Value) (x : CmdV) (w : World) (hkx : x.kind = 5) (hs : cs.size = 22) (HGd : Hid (∀ W, Below w.heap.size w W → Calls Tryz.prog 9 #[.agg cs] W fun e w1 => e = .returned (.bool true) ∧ Below W.heap.size W w1)) (hk : cs[0]? = some (.int .i64 5)) (h2 : cs[2]? = some (.string x.text)) (h7 : cs[7]? = some (.int .i64 x.num)) (h8 : cs[8]? = some (.int .i64 x.den)) (h11 : cs[11]? = some (.int .i64 x.py)) (h12 : cs[12]? = some (.int .i64 x.pi)) (b2 : x.text.size ≤ 65536) (b7 : NR x.num) (b8 : NR x.den) (b11 : NR x.py) (b12 : NR x.pi) : Calls Tryz.prog 15 #[.agg cs] w fun e w1 => EncR w (encT x) e w1 := by
 have HX := Lib.hid (heap_alloc_new w (.cells cs 28))
 have HB0 := Lib.hid (below_alloc w (.cells cs 28))
 have HI := Lib.hid (cmd_info hs)
 have HK := Lib.hid hk
 have HH := Lib.hid (And.intro h2 (And.intro h7 (And.intro h8 (And.intro h11 h12))))
 have HR := Lib.hid (And.intro b2 (And.intro b7 (And.intro b8 (And.intro b11 b12))))
 clear hs hk h2 h7 h8 h11 h12 b2 b7 b8 b11 b12
 go_enter Tryz.func15, Tryz.ntmps15
 go_wp2_with ((with_reducible refine wpList_load_row (o := ⟨some 5, _, _, _, _, _⟩) ?a1 28 (.tmp 1) ?a2 w.heap.size ?a3 28 cs (0, 0) _ HX.out Tryz.underlying28 ?a4 HI.out ?_); (case a1 => rfl); (case a2 => rfl); (case a3 => rfl); (case a4 => rfl); refine Stop.out ?_)
 unfold Stop
 go_wp2_with (go_at_call 9; refine (HGd.out _ HB0.out).mono ?_; rintro e w1 ⟨rfl, hb⟩; have HWa := Lib.hid (below_then HB0.out hb); have hx1 := heap_on hb HX.out; have HSa : Hid (OY w1 w.heap.size (.slice none 0 0) [] [(w.heap.size, (.cells cs 28 (0, 0)))] 0) := Lib.hid ⟨OB.nil _ _, fun p hp => (by have e := List.mem_singleton.1 hp; subst e; exact ⟨hx1, by simp [Value.ownBlock]⟩), HWa.out.size, Nat.le_refl _⟩; clear hb hx1; have k0 := (cell_of_row _ _ 0 _ _ _ HSa.out.box).trans HK.out; refine Stop.out ?_)
 unfold Stop
 clear HX HB0 HI HGd
 go_wp2_with (go_at_call 41; refine (HSa.out.num 5 ⟨by omega, by omega⟩ (by omega)).mono ?_; rintro e w2 ⟨v2, rfl, hs, hb⟩; have HSb := Lib.hid hs; have HWb := Lib.hid (HWa.out.trans hb); clear hs hb k0; have k0 := (cell_of_row _ _ 0 _ _ _ HSb.out.box).trans HK.out; refine Stop.out ?_)
 unfold Stop
 go_wp2
 have HScd := Lib.hid HSb.out.drew
 have HWcd := Lib.hid (HWb.out.trans ((Below.refl _ _).drew))
 (try clear k0)
 have HFs := Lib.hid (fun (wS : World) (hSw : wS.heap[w.heap.size]? = some (.cells cs 28 (0, 0))) => And.intro ((cell_of_row wS w.heap.size 2 _ _ _ hSw).trans HH.out.1) (And.intro ((cell_of_row wS w.heap.size 7 _ _ _ hSw).trans HH.out.2.1) (And.intro ((cell_of_row wS w.heap.size 8 _ _ _ hSw).trans HH.out.2.2.1) (And.intro ((cell_of_row wS w.heap.size 11 _ _ _ hSw).trans HH.out.2.2.2.1) ((cell_of_row wS w.heap.size 12 _ _ _ hSw).trans HH.out.2.2.2.2)))))
 refine wp_region_held_drew (S := fun V => V.heap[w.heap.size]? = some (.cells cs 28 (0, 0))) (by kernel_rfl) HScd.out.box ?_
 intro hHeld
 generalize World.drew _ = wdc at HScd HWcd hHeld ⊢
 (refine takeP (i := 0) ?_ rfl (.inl ⟨by rfl, ?_⟩) ?_; rotate_left; (focus ((intro wS hSw); (try dsimp only at hSw); obtain ⟨s0, s1, s2, s3, s4⟩ := HFs.out wS hSw; go_simp; (try with_reducible rfl); done)); (try simp only [Act.put, pA, pB, pC]))
 (refine takeP (i := 1) ?_ rfl (.inl ⟨by rfl, ?_⟩) ?_; rotate_left; (focus ((intro wS hSw); (try dsimp only at hSw); obtain ⟨s0, s1, s2, s3, s4⟩ := HFs.out wS hSw; go_simp; (try with_reducible rfl); done)); (try simp only [Act.put, pA, pB, pC]))
 (refine takeP (i := 2) ?_ rfl (.inl ⟨by rfl, ?_⟩) ?_; rotate_left; (focus ((intro wS hSw); (try dsimp only at hSw); obtain ⟨s0, s1, s2, s3, s4⟩ := HFs.out wS hSw; go_simp; (try with_reducible rfl); done)); (try simp only [Act.put, pA, pB, pC]))
 (refine takeP (i := 4) ?_ rfl (.inl ⟨by rfl, ?_⟩) ?_; rotate_left; (focus ((intro wS hSw); (try dsimp only at hSw); obtain ⟨s0, s1, s2, s3, s4⟩ := HFs.out wS hSw; go_simp; (try with_reducible rfl); done)); (try simp only [Act.put, pA, pB, pC]))
 (refine takeP (i := 5) ?_ rfl (.inl ⟨by rfl, ?_⟩) ?_; rotate_left; (focus ((intro wS hSw); (try dsimp only at hSw); obtain ⟨s0, s1, s2, s3, s4⟩ := HFs.out wS hSw; go_simp; (try with_reducible rfl); done)); (try simp only [Act.put, pA, pB, pC]))
 (refine takeP (i := 6) ?_ rfl (.inl ⟨by rfl, ?_⟩) ?_; rotate_left; (focus ((intro wS hSw); (try dsimp only at hSw); obtain ⟨s0, s1, s2, s3, s4⟩ := HFs.out wS hSw; go_simp; (try with_reducible rfl); done)); (try simp only [Act.put, pA, pB, pC]))
 (refine takeP (i := 8) ?_ rfl (.inl ⟨by rfl, ?_⟩) ?_; rotate_left; (focus ((intro wS hSw); (try dsimp only at hSw); obtain ⟨s0, s1, s2, s3, s4⟩ := HFs.out wS hSw; go_simp; (try with_reducible rfl); done)); (try simp only [Act.put, pA, pB, pC]))
 (refine takeP (i := 9) ?_ rfl (.inl ⟨by rfl, ?_⟩) ?_; rotate_left; (focus ((intro wS hSw); (try dsimp only at hSw); obtain ⟨s0, s1, s2, s3, s4⟩ := HFs.out wS hSw; go_simp; (try with_reducible rfl); done)); (try simp only [Act.put, pA, pB, pC]))
 (refine takeP (i := 10) ?_ rfl (.inl ⟨by rfl, ?_⟩) ?_; rotate_left; (focus ((intro wS hSw); (try dsimp only at hSw); obtain ⟨s0, s1, s2, s3, s4⟩ := HFs.out wS hSw; go_simp; (try with_reducible rfl); done)); (try simp only [Act.put, pA, pB, pC]))
 (refine takeP (i := 12) ?_ rfl (.inl ⟨by rfl, ?_⟩) ?_; rotate_left; (focus ((intro wS hSw); (try dsimp only at hSw); obtain ⟨s0, s1, s2, s3, s4⟩ := HFs.out wS hSw; go_simp; (try with_reducible rfl); done)); (try simp only [Act.put, pA, pB, pC]))
 (refine takeP (i := 13) ?_ rfl (.inl ⟨by rfl, ?_⟩) ?_; rotate_left; (focus ((intro wS hSw); (try dsimp only at hSw); obtain ⟨s0, s1, s2, s3, s4⟩ := HFs.out wS hSw; go_simp; (try with_reducible rfl); done)); (try simp only [Act.put, pA, pB, pC]))
 (refine takeP (i := 15) ?_ rfl (.inl ⟨by rfl, ?_⟩) ?_; rotate_left; (focus ((intro wS hSw); (try dsimp only at hSw); obtain ⟨s0, s1, s2, s3, s4⟩ := HFs.out wS hSw; go_simp; (try with_reducible rfl); done)); (try simp only [Act.put, pA, pB, pC]))
 (refine takeP (i := 16) ?_ rfl (.inl ⟨by rfl, ?_⟩) ?_; rotate_left; (focus ((intro wS hSw); (try dsimp only at hSw); obtain ⟨s0, s1, s2, s3, s4⟩ := HFs.out wS hSw; go_simp; (try with_reducible rfl); done)); (try simp only [Act.put, pA, pB, pC]))
 refine aloneH (i := 3) rfl (by kernel_rfl) (fun K hK => ?_)
 rw [if_pos (by rfl)]
 go_simp; ((refine (HScd.out.text x.text (HR.out.1) (by omega)).mono ?_); (rintro e wc1 ⟨vc1, rfl, hs, hb⟩); have HSc1 := Lib.hid hs; have HWc1 := Lib.hid (HWcd.out.trans hb); clear hs hb; (try go_simp))
 refine hK.out _ _ (HSc1.out.box) ?_
 clear hK K hHeld; intro hHeld; (try simp only [Act.put, pA, pB, pC])
 refine aloneH (i := 7) rfl (by kernel_rfl) (fun K hK => ?_)
 rw [if_pos (by rfl)]
 go_simp; ((refine (HSc1.out.num x.py (HR.out.2.2.2.1) (by omega)).mono ?_); (rintro e wc2 ⟨vc2, rfl, hs, hb⟩); have HSc2 := Lib.hid hs; have HWc2 := Lib.hid (HWc1.out.trans hb); clear hs hb; (try go_simp))
 refine hK.out _ _ (HSc2.out.box) ?_
 clear hK K hHeld; intro hHeld; (try simp only [Act.put, pA, pB, pC])
 refine aloneH (i := 11) rfl (by kernel_rfl) (fun K hK => ?_)
 rw [if_pos (by rfl)]
 go_simp; ((refine (HSc2.out.num x.pi (HR.out.2.2.2.2) (by omega)).mono ?_); (rintro e wc3 ⟨vc3, rfl, hs, hb⟩); have HSc3 := Lib.hid hs; have HWc3 := Lib.hid (HWc2.out.trans hb); clear hs hb; (try go_simp))
 refine hK.out _ _ (HSc3.out.box) ?_
 clear hK K hHeld; intro hHeld; (try simp only [Act.put, pA, pB, pC])
 refine aloneH (i := 14) rfl (by kernel_rfl) (fun K hK => ?_)
 rw [if_pos (by rfl)]
 go_simp; ((refine (HSc3.out.num x.num (HR.out.2.1) (by omega)).mono ?_); (rintro e wc4 ⟨vc4, rfl, hs, hb⟩); have HSc4 := Lib.hid hs; have HWc4 := Lib.hid (HWc3.out.trans hb); clear hs hb; (try go_simp))
 refine hK.out _ _ (HSc4.out.box) ?_
 clear hK K hHeld; intro hHeld; (try simp only [Act.put, pA, pB, pC])
 refine aloneH (i := 17) rfl (by kernel_rfl) (fun K hK => ?_)
 rw [if_pos (by rfl)]
 go_simp; ((refine (HSc4.out.num x.den (HR.out.2.2.1) (by omega)).mono ?_); (rintro e wc5 ⟨vc5, rfl, hs, hb⟩); have HSc5 := Lib.hid hs; have HWc5 := Lib.hid (HWc4.out.trans hb); clear hs hb; (try go_simp))
 refine hK.out _ _ (HSc5.out.box) ?_
 clear hK K hHeld; intro hHeld; (try simp only [Act.put, pA, pB, pC])
 (refine takeP (i := 18) ?_ rfl (.inl ⟨by rfl, ?_⟩) ?_; rotate_left; (focus ((intro wS hSw); (try dsimp only at hSw); obtain ⟨s0, s1, s2, s3, s4⟩ := HFs.out wS hSw; go_simp; (try with_reducible rfl); done)); (try simp only [Act.put, pA, pB, pC]))
 refine wpAnyH_done (by kernel_rfl) ?_ _
 clear hHeld
 go_wp2
 go_ret2
 exact ⟨vc5, rfl, by rw [← encTL_5 hkx]; exact HSc5.out.1, HWc5.out⟩
theorem encTL_6 {x : CmdV} (hk : x.kind = 6) : (([] ++ nB 6) ++ sB x.text) = encT x := by
 unfold encT
 rw [bodyT_6 hk, hk]
 simp only [List.append_assoc, List.append_nil, List.nil_append]
set_option maxHeartbeats 4000000 in
theorem refEnc_6 (cs : Array Value) (x : CmdV) (w : World) (hkx : x.kind = 6) (hs : cs.size = 22) (HGd : Hid (∀ W, Below w.heap.size w W → Calls Tryz.prog 9 #[.agg cs] W fun e w1 => e = .returned (.bool true) ∧ Below W.heap.size W w1)) (hk : cs[0]? = some (.int .i64 6)) (h2 : cs[2]? = some (.string x.text)) (b2 : x.text.size ≤ 65536) : Calls Tryz.prog 15 #[.agg cs] w fun e w1 => EncR w (encT x) e w1 := by
 have HX := Lib.hid (heap_alloc_new w (.cells cs 28))
 have HB0 := Lib.hid (below_alloc w (.cells cs 28))
 have HI := Lib.hid (cmd_info hs)
 have HK := Lib.hid hk
 have HH := Lib.hid h2
 have HR := Lib.hid b2
 clear hs hk h2 b2
 go_enter Tryz.func15, Tryz.ntmps15
 go_wp2_with ((with_reducible refine wpList_load_row (o := ⟨some 5, _, _, _, _, _⟩) ?a1 28 (.tmp 1) ?a2 w.heap.size ?a3 28 cs (0, 0) _ HX.out Tryz.underlying28 ?a4 HI.out ?_); (case a1 => rfl); (case a2 => rfl); (case a3 => rfl); (case a4 => rfl); refine Stop.out ?_)
 unfold Stop
 go_wp2_with (go_at_call 9; refine (HGd.out _ HB0.out).mono ?_; rintro e w1 ⟨rfl, hb⟩; have HWa := Lib.hid (below_then HB0.out hb); have hx1 := heap_on hb HX.out; have HSa : Hid (OY w1 w.heap.size (.slice none 0 0) [] [(w.heap.size, (.cells cs 28 (0, 0)))] 0) := Lib.hid ⟨OB.nil _ _, fun p hp => (by have e := List.mem_singleton.1 hp; subst e; exact ⟨hx1, by simp [Value.ownBlock]⟩), HWa.out.size, Nat.le_refl _⟩; clear hb hx1; have k0 := (cell_of_row _ _ 0 _ _ _ HSa.out.box).trans HK.out; refine Stop.out ?_)
 unfold Stop
 clear HX HB0 HI HGd
 go_wp2_with (go_at_call 41; refine (HSa.out.num 6 ⟨by omega, by omega⟩ (by omega)).mono ?_; rintro e w2 ⟨v2, rfl, hs, hb⟩; have HSb := Lib.hid hs; have HWb := Lib.hid (HWa.out.trans hb); clear hs hb k0; have k0 := (cell_of_row _ _ 0 _ _ _ HSb.out.box).trans HK.out; have k2 := (cell_of_row _ _ 2 _ _ _ HSb.out.box).trans HH.out; refine Stop.out ?_)
 unfold Stop
 go_wp2_with (go_at_call 42; refine (HSb.out.text x.text (HR.out) (by omega)).mono ?_; rintro e w3 ⟨v3, rfl, hs, hb⟩; have HSc := Lib.hid hs; have HWc := Lib.hid (HWb.out.trans hb); clear hs hb; refine Stop.out ?_)
 unfold Stop
 go_wp2
 go_ret2
 exact ⟨v3, rfl, by rw [← encTL_6 hkx]; exact HSc.out.1, HWc.out⟩
theorem encTL_7 {x : CmdV} (hk : x.kind = 7) : ((([] ++ nB 7) ++ nB x.py) ++ nB x.num) = encT x := by
 unfold encT
 rw [bodyT_7 hk, hk]
 simp only [List.append_assoc, List.append_nil, List.nil_append]
set_option maxHeartbeats 4000000 in
theorem refEnc_7 (cs : Array Value) (x : CmdV) (w : World) (hkx : x.kind = 7) (hs : cs.size = 22) (HGd : Hid (∀ W, Below w.heap.size w W → Calls Tryz.prog 9 #[.agg cs] W fun e w1 => e = .returned (.bool true) ∧ Below W.heap.size W w1)) (hk : cs[0]? = some (.int .i64 7)) (h7 : cs[7]? = some (.int .i64 x.num)) (h11 : cs[11]? = some (.int .i64 x.py)) (b7 : NR x.num) (b11 : NR x.py) : Calls Tryz.prog 15 #[.agg cs] w fun e w1 => EncR w (encT x) e w1 := by
 have HX := Lib.hid (heap_alloc_new w (.cells cs 28))
 have HB0 := Lib.hid (below_alloc w (.cells cs 28))
 have HI := Lib.hid (cmd_info hs)
 have HK := Lib.hid hk
 have HH := Lib.hid (And.intro h7 h11)
 have HR := Lib.hid (And.intro b7 b11)
 clear hs hk h7 h11 b7 b11
 go_enter Tryz.func15, Tryz.ntmps15
 go_wp2_with ((with_reducible refine wpList_load_row (o := ⟨some 5, _, _, _, _, _⟩) ?a1 28 (.tmp 1) ?a2 w.heap.size ?a3 28 cs (0, 0) _ HX.out Tryz.underlying28 ?a4 HI.out ?_); (case a1 => rfl); (case a2 => rfl); (case a3 => rfl); (case a4 => rfl); refine Stop.out ?_)
 unfold Stop
 go_wp2_with (go_at_call 9; refine (HGd.out _ HB0.out).mono ?_; rintro e w1 ⟨rfl, hb⟩; have HWa := Lib.hid (below_then HB0.out hb); have hx1 := heap_on hb HX.out; have HSa : Hid (OY w1 w.heap.size (.slice none 0 0) [] [(w.heap.size, (.cells cs 28 (0, 0)))] 0) := Lib.hid ⟨OB.nil _ _, fun p hp => (by have e := List.mem_singleton.1 hp; subst e; exact ⟨hx1, by simp [Value.ownBlock]⟩), HWa.out.size, Nat.le_refl _⟩; clear hb hx1; have k0 := (cell_of_row _ _ 0 _ _ _ HSa.out.box).trans HK.out; refine Stop.out ?_)
 unfold Stop
 clear HX HB0 HI HGd
 go_wp2_with (go_at_call 41; refine (HSa.out.num 7 ⟨by omega, by omega⟩ (by omega)).mono ?_; rintro e w2 ⟨v2, rfl, hs, hb⟩; have HSb := Lib.hid hs; have HWb := Lib.hid (HWa.out.trans hb); clear hs hb k0; have k0 := (cell_of_row _ _ 0 _ _ _ HSb.out.box).trans HK.out; refine Stop.out ?_)
 unfold Stop
 go_wp2
 have HScd := Lib.hid HSb.out.drew
 have HWcd := Lib.hid (HWb.out.trans ((Below.refl _ _).drew))
 (try clear k0)
 have HFs := Lib.hid (fun (wS : World) (hSw : wS.heap[w.heap.size]? = some (.cells cs 28 (0, 0))) => And.intro ((cell_of_row wS w.heap.size 7 _ _ _ hSw).trans HH.out.1) ((cell_of_row wS w.heap.size 11 _ _ _ hSw).trans HH.out.2))
 refine wp_region_held_drew (S := fun V => V.heap[w.heap.size]? = some (.cells cs 28 (0, 0))) (by kernel_rfl) HScd.out.box ?_
 intro hHeld
 generalize World.drew _ = wdc at HScd HWcd hHeld ⊢
 (refine takeP (i := 0) ?_ rfl (.inl ⟨by rfl, ?_⟩) ?_; rotate_left; (focus ((intro wS hSw); (try dsimp only at hSw); obtain ⟨s0, s1⟩ := HFs.out wS hSw; go_simp; (try with_reducible rfl); done)); (try simp only [Act.put, pA, pB, pC]))
 (refine takeP (i := 1) ?_ rfl (.inl ⟨by rfl, ?_⟩) ?_; rotate_left; (focus ((intro wS hSw); (try dsimp only at hSw); obtain ⟨s0, s1⟩ := HFs.out wS hSw; go_simp; (try with_reducible rfl); done)); (try simp only [Act.put, pA, pB, pC]))
 (refine takeP (i := 2) ?_ rfl (.inl ⟨by rfl, ?_⟩) ?_; rotate_left; (focus ((intro wS hSw); (try dsimp only at hSw); obtain ⟨s0, s1⟩ := HFs.out wS hSw; go_simp; (try with_reducible rfl); done)); (try simp only [Act.put, pA, pB, pC]))
 (refine takeP (i := 3) ?_ rfl (.inl ⟨by rfl, ?_⟩) ?_; rotate_left; (focus ((intro wS hSw); (try dsimp only at hSw); obtain ⟨s0, s1⟩ := HFs.out wS hSw; go_simp; (try with_reducible rfl); done)); (try simp only [Act.put, pA, pB, pC]))
 (refine takeP (i := 5) ?_ rfl (.inl ⟨by rfl, ?_⟩) ?_; rotate_left; (focus ((intro wS hSw); (try dsimp only at hSw); obtain ⟨s0, s1⟩ := HFs.out wS hSw; go_simp; (try with_reducible rfl); done)); (try simp only [Act.put, pA, pB, pC]))
 (refine takeP (i := 6) ?_ rfl (.inl ⟨by rfl, ?_⟩) ?_; rotate_left; (focus ((intro wS hSw); (try dsimp only at hSw); obtain ⟨s0, s1⟩ := HFs.out wS hSw; go_simp; (try with_reducible rfl); done)); (try simp only [Act.put, pA, pB, pC]))
 refine aloneH (i := 4) rfl (by kernel_rfl) (fun K hK => ?_)
 rw [if_pos (by rfl)]
 go_simp; ((refine (HScd.out.num x.py (HR.out.2) (by omega)).mono ?_); (rintro e wc1 ⟨vc1, rfl, hs, hb⟩); have HSc1 := Lib.hid hs; have HWc1 := Lib.hid (HWcd.out.trans hb); clear hs hb; (try go_simp))
 refine hK.out _ _ (HSc1.out.box) ?_
 clear hK K hHeld; intro hHeld; (try simp only [Act.put, pA, pB, pC])
 refine aloneH (i := 7) rfl (by kernel_rfl) (fun K hK => ?_)
 rw [if_pos (by rfl)]
 go_simp; ((refine (HSc1.out.num x.num (HR.out.1) (by omega)).mono ?_); (rintro e wc2 ⟨vc2, rfl, hs, hb⟩); have HSc2 := Lib.hid hs; have HWc2 := Lib.hid (HWc1.out.trans hb); clear hs hb; (try go_simp))
 refine hK.out _ _ (HSc2.out.box) ?_
 clear hK K hHeld; intro hHeld; (try simp only [Act.put, pA, pB, pC])
 (refine takeP (i := 8) ?_ rfl (.inl ⟨by rfl, ?_⟩) ?_; rotate_left; (focus ((intro wS hSw); (try dsimp only at hSw); obtain ⟨s0, s1⟩ := HFs.out wS hSw; go_simp; (try with_reducible rfl); done)); (try simp only [Act.put, pA, pB, pC]))
 refine wpAnyH_done (by kernel_rfl) ?_ _
 clear hHeld
 go_wp2
 go_ret2
 exact ⟨vc2, rfl, by rw [← encTL_7 hkx]; exact HSc2.out.1, HWc2.out⟩
theorem encTL_8 {x : CmdV} (hk : x.kind = 8) : ([] ++ nB 8 ++ headW (docOf x) [] ++ linesW (docOf x).lines []) = encT x := by
 unfold encT
 rw [bodyT_8 hk, hk]
 rw [headW_app (docOf x) (linesW x.lines [])]
 simp only [List.append_assoc, List.append_nil, List.nil_append]
 rfl
set_option maxHeartbeats 4000000 in
theorem refEnc_8 (cs : Array Value) (x : CmdV) (w : World) (hkx : x.kind = 8) (hs : cs.size = 22) (HGd : Hid (∀ W, Below w.heap.size w W → Calls Tryz.prog 9 #[.agg cs] W fun e w1 => e = .returned (.bool true) ∧ Below W.heap.size W w1)) (hk : cs[0]? = some (.int .i64 8)) (h13 : cs[13]? = some (.string x.id)) (h14 : cs[14]? = some (.bool x.sale)) (h15 : cs[15]? = some (.bool x.credit)) (h16 : cs[16]? = some (.string x.refers)) (h17 : cs[17]? = some (.int .i64 x.day)) (h18 : cs[18]? = some (.string x.country)) (h19 : cs[19]? = some (.string x.number)) (h20 : cs[20]? = some (.string x.currency)) (h21 : cs[21]? = some (.slice x.linesA x.lines.length x.linesC)) (hf : DF (docOf x)) (hlc : x.lines.length ≤ x.linesC) (hr : ∀ W, Below w.heap.size w W → RowLineV W x.linesA x.lines) : Calls Tryz.prog 15 #[.agg cs] w fun e w1 => EncR w (encT x) e w1 := by
 have HX := Lib.hid (heap_alloc_new w (.cells cs 28))
 have HB0 := Lib.hid (below_alloc w (.cells cs 28))
 have HI := Lib.hid (cmd_info hs)
 have HK := Lib.hid hk
 have HH := Lib.hid (And.intro h13 (And.intro h14 (And.intro h15 (And.intro h16 (And.intro h17 (And.intro h18 (And.intro h19 (And.intro h20 h21))))))))
 have HF := Lib.hid hf
 have HRow := Lib.hid hr
 have HLC := Lib.hid hlc
 clear hs hk h13 h14 h15 h16 h17 h18 h19 h20 h21 hf hr hlc
 go_enter Tryz.func15, Tryz.ntmps15
 go_wp2_with ((with_reducible refine wpList_load_row (o := ⟨some 5, _, _, _, _, _⟩) ?a1 28 (.tmp 1) ?a2 w.heap.size ?a3 28 cs (0, 0) _ HX.out Tryz.underlying28 ?a4 HI.out ?_); (case a1 => rfl); (case a2 => rfl); (case a3 => rfl); (case a4 => rfl); refine Stop.out ?_)
 unfold Stop
 go_wp2_with (go_at_call 9; refine (HGd.out _ HB0.out).mono ?_; rintro e w1 ⟨rfl, hb⟩; have HWa := Lib.hid (below_then HB0.out hb); have hx1 := heap_on hb HX.out; have HSa : Hid (OY w1 w.heap.size (.slice none 0 0) [] [(w.heap.size, (.cells cs 28 (0, 0)))] 0) := Lib.hid ⟨OB.nil _ _, fun p hp => (by have e := List.mem_singleton.1 hp; subst e; exact ⟨hx1, by simp [Value.ownBlock]⟩), HWa.out.size, Nat.le_refl _⟩; clear hb hx1; have k0 := (cell_of_row _ _ 0 _ _ _ HSa.out.box).trans HK.out; refine Stop.out ?_)
 unfold Stop
 clear HX HB0 HI HGd
 go_wp2_with (go_at_call 41; refine (HSa.out.num 8 ⟨by omega, by omega⟩ (by omega)).mono ?_; rintro e w2 ⟨v2, rfl, hs, hb⟩; have HSb := Lib.hid hs; have HWb := Lib.hid (HWa.out.trans hb); clear hs hb k0; have k0 := (cell_of_row _ _ 0 _ _ _ HSb.out.box).trans HK.out; have k13 := (cell_of_row _ _ 13 _ _ _ HSb.out.box).trans HH.out.1; have k14 := (cell_of_row _ _ 14 _ _ _ HSb.out.box).trans HH.out.2.1; have k15 := (cell_of_row _ _ 15 _ _ _ HSb.out.box).trans HH.out.2.2.1; have k16 := (cell_of_row _ _ 16 _ _ _ HSb.out.box).trans HH.out.2.2.2.1; have k17 := (cell_of_row _ _ 17 _ _ _ HSb.out.box).trans HH.out.2.2.2.2.1; have k18 := (cell_of_row _ _ 18 _ _ _ HSb.out.box).trans HH.out.2.2.2.2.2.1; have k19 := (cell_of_row _ _ 19 _ _ _ HSb.out.box).trans HH.out.2.2.2.2.2.2.1; have k20 := (cell_of_row _ _ 20 _ _ _ HSb.out.box).trans HH.out.2.2.2.2.2.2.2.1; have k21 := (cell_of_row _ _ 21 _ _ _ HSb.out.box).trans HH.out.2.2.2.2.2.2.2.2; refine Stop.out ?_)
 unfold Stop
 go_wp2_with (go_at_call 43; refine (add_doc (docOf x) x.linesA _ _ _ _ _ (show OY w2 w.heap.size v2 ([] ++ nB 8) [] 70000 from HSb.out.drop) (by omega) HF.out HLC.out (fun W hb => HRow.out W (HWb.out.trans hb))).mono ?_; rintro e w3 ⟨v3, rfl, hs, hb⟩; have HSc := Lib.hid hs; have HWc := Lib.hid (HWb.out.trans hb); clear hs hb; refine Stop.out ?_)
 unfold Stop
 go_wp2
 go_ret2
 exact ⟨v3, rfl, by rw [← encTL_8 hkx]; exact HSc.out.1, HWc.out⟩
end Go.Proofs.YtmjjenemokojjaaGreat

namespace Go.Proofs.YtmjjenemokojjaaGreat
open Go.RowKit
set_option maxRecDepth 100000
set_option linter.unusedSimpArgs false
set_option linter.unusedVariables false

theorem encTL_9 {x : CmdV} (hk : x.kind = 9) : (((([] ++ nB 9) ++ nB x.pk) ++ nB x.py) ++ nB x.pi) = encT x := by
 unfold encT
 rw [bodyT_9 hk, hk]
 simp only [List.append_assoc, List.append_nil, List.nil_append]
set_option maxHeartbeats 4000000 in
theorem refEnc_9 (cs : Array Value) (x : CmdV) (w : World) (hkx : x.kind = 9) (hs : cs.size = 22) (HGd : Hid (∀ W, Below w.heap.size w W → Calls Tryz.prog 9 #[.agg cs] W fun e w1 => e = .returned (.bool true) ∧ Below W.heap.size W w1)) (hk : cs[0]? = some (.int .i64 9)) (h10 : cs[10]? = some (.int .i64 x.pk)) (h11 : cs[11]? = some (.int .i64 x.py)) (h12 : cs[12]? = some (.int .i64 x.pi)) (b10 : NR x.pk) (b11 : NR x.py) (b12 : NR x.pi) : Calls Tryz.prog 15 #[.agg cs] w fun e w1 => EncR w (encT x) e w1 := by
 have HX := Lib.hid (heap_alloc_new w (.cells cs 28))
 have HB0 := Lib.hid (below_alloc w (.cells cs 28))
 have HI := Lib.hid (cmd_info hs)
 have HK := Lib.hid hk
 have HH := Lib.hid (And.intro h10 (And.intro h11 h12))
 have HR := Lib.hid (And.intro b10 (And.intro b11 b12))
 clear hs hk h10 h11 h12 b10 b11 b12
 go_enter Tryz.func15, Tryz.ntmps15
 go_wp2_with ((with_reducible refine wpList_load_row (o := ⟨some 5, _, _, _, _, _⟩) ?a1 28 (.tmp 1) ?a2 w.heap.size ?a3 28 cs (0, 0) _ HX.out Tryz.underlying28 ?a4 HI.out ?_); (case a1 => rfl); (case a2 => rfl); (case a3 => rfl); (case a4 => rfl); refine Stop.out ?_)
 unfold Stop
 go_wp2_with (go_at_call 9; refine (HGd.out _ HB0.out).mono ?_; rintro e w1 ⟨rfl, hb⟩; have HWa := Lib.hid (below_then HB0.out hb); have hx1 := heap_on hb HX.out; have HSa : Hid (OY w1 w.heap.size (.slice none 0 0) [] [(w.heap.size, (.cells cs 28 (0, 0)))] 0) := Lib.hid ⟨OB.nil _ _, fun p hp => (by have e := List.mem_singleton.1 hp; subst e; exact ⟨hx1, by simp [Value.ownBlock]⟩), HWa.out.size, Nat.le_refl _⟩; clear hb hx1; have k0 := (cell_of_row _ _ 0 _ _ _ HSa.out.box).trans HK.out; refine Stop.out ?_)
 unfold Stop
 clear HX HB0 HI HGd
 go_wp2_with (go_at_call 41; refine (HSa.out.num 9 ⟨by omega, by omega⟩ (by omega)).mono ?_; rintro e w2 ⟨v2, rfl, hs, hb⟩; have HSb := Lib.hid hs; have HWb := Lib.hid (HWa.out.trans hb); clear hs hb k0; have k0 := (cell_of_row _ _ 0 _ _ _ HSb.out.box).trans HK.out; refine Stop.out ?_)
 unfold Stop
 go_wp2
 have HScd := Lib.hid HSb.out.drew
 have HWcd := Lib.hid (HWb.out.trans ((Below.refl _ _).drew))
 (try clear k0)
 have HFs := Lib.hid (fun (wS : World) (hSw : wS.heap[w.heap.size]? = some (.cells cs 28 (0, 0))) => And.intro ((cell_of_row wS w.heap.size 10 _ _ _ hSw).trans HH.out.1) (And.intro ((cell_of_row wS w.heap.size 11 _ _ _ hSw).trans HH.out.2.1) ((cell_of_row wS w.heap.size 12 _ _ _ hSw).trans HH.out.2.2)))
 refine wp_region_held_drew (S := fun V => V.heap[w.heap.size]? = some (.cells cs 28 (0, 0))) (by kernel_rfl) HScd.out.box ?_
 intro hHeld
 generalize World.drew _ = wdc at HScd HWcd hHeld ⊢
 (refine takeP (i := 0) ?_ rfl (.inl ⟨by rfl, ?_⟩) ?_; rotate_left; (focus ((intro wS hSw); (try dsimp only at hSw); obtain ⟨s0, s1, s2⟩ := HFs.out wS hSw; go_simp; (try with_reducible rfl); done)); (try simp only [Act.put, pA, pB, pC]))
 (refine takeP (i := 1) ?_ rfl (.inl ⟨by rfl, ?_⟩) ?_; rotate_left; (focus ((intro wS hSw); (try dsimp only at hSw); obtain ⟨s0, s1, s2⟩ := HFs.out wS hSw; go_simp; (try with_reducible rfl); done)); (try simp only [Act.put, pA, pB, pC]))
 (refine takeP (i := 2) ?_ rfl (.inl ⟨by rfl, ?_⟩) ?_; rotate_left; (focus ((intro wS hSw); (try dsimp only at hSw); obtain ⟨s0, s1, s2⟩ := HFs.out wS hSw; go_simp; (try with_reducible rfl); done)); (try simp only [Act.put, pA, pB, pC]))
 (refine takeP (i := 3) ?_ rfl (.inl ⟨by rfl, ?_⟩) ?_; rotate_left; (focus ((intro wS hSw); (try dsimp only at hSw); obtain ⟨s0, s1, s2⟩ := HFs.out wS hSw; go_simp; (try with_reducible rfl); done)); (try simp only [Act.put, pA, pB, pC]))
 (refine takeP (i := 5) ?_ rfl (.inl ⟨by rfl, ?_⟩) ?_; rotate_left; (focus ((intro wS hSw); (try dsimp only at hSw); obtain ⟨s0, s1, s2⟩ := HFs.out wS hSw; go_simp; (try with_reducible rfl); done)); (try simp only [Act.put, pA, pB, pC]))
 (refine takeP (i := 6) ?_ rfl (.inl ⟨by rfl, ?_⟩) ?_; rotate_left; (focus ((intro wS hSw); (try dsimp only at hSw); obtain ⟨s0, s1, s2⟩ := HFs.out wS hSw; go_simp; (try with_reducible rfl); done)); (try simp only [Act.put, pA, pB, pC]))
 (refine takeP (i := 7) ?_ rfl (.inl ⟨by rfl, ?_⟩) ?_; rotate_left; (focus ((intro wS hSw); (try dsimp only at hSw); obtain ⟨s0, s1, s2⟩ := HFs.out wS hSw; go_simp; (try with_reducible rfl); done)); (try simp only [Act.put, pA, pB, pC]))
 (refine takeP (i := 9) ?_ rfl (.inl ⟨by rfl, ?_⟩) ?_; rotate_left; (focus ((intro wS hSw); (try dsimp only at hSw); obtain ⟨s0, s1, s2⟩ := HFs.out wS hSw; go_simp; (try with_reducible rfl); done)); (try simp only [Act.put, pA, pB, pC]))
 (refine takeP (i := 10) ?_ rfl (.inl ⟨by rfl, ?_⟩) ?_; rotate_left; (focus ((intro wS hSw); (try dsimp only at hSw); obtain ⟨s0, s1, s2⟩ := HFs.out wS hSw; go_simp; (try with_reducible rfl); done)); (try simp only [Act.put, pA, pB, pC]))
 (refine takeP (i := 11) ?_ rfl (.inl ⟨by rfl, ?_⟩) ?_; rotate_left; (focus ((intro wS hSw); (try dsimp only at hSw); obtain ⟨s0, s1, s2⟩ := HFs.out wS hSw; go_simp; (try with_reducible rfl); done)); (try simp only [Act.put, pA, pB, pC]))
 refine aloneH (i := 4) rfl (by kernel_rfl) (fun K hK => ?_)
 rw [if_pos (by rfl)]
 go_simp; ((refine (HScd.out.num x.pk (HR.out.1) (by omega)).mono ?_); (rintro e wc1 ⟨vc1, rfl, hs, hb⟩); have HSc1 := Lib.hid hs; have HWc1 := Lib.hid (HWcd.out.trans hb); clear hs hb; (try go_simp))
 refine hK.out _ _ (HSc1.out.box) ?_
 clear hK K hHeld; intro hHeld; (try simp only [Act.put, pA, pB, pC])
 refine aloneH (i := 8) rfl (by kernel_rfl) (fun K hK => ?_)
 rw [if_pos (by rfl)]
 go_simp; ((refine (HSc1.out.num x.py (HR.out.2.1) (by omega)).mono ?_); (rintro e wc2 ⟨vc2, rfl, hs, hb⟩); have HSc2 := Lib.hid hs; have HWc2 := Lib.hid (HWc1.out.trans hb); clear hs hb; (try go_simp))
 refine hK.out _ _ (HSc2.out.box) ?_
 clear hK K hHeld; intro hHeld; (try simp only [Act.put, pA, pB, pC])
 refine aloneH (i := 12) rfl (by kernel_rfl) (fun K hK => ?_)
 rw [if_pos (by rfl)]
 go_simp; ((refine (HSc2.out.num x.pi (HR.out.2.2) (by omega)).mono ?_); (rintro e wc3 ⟨vc3, rfl, hs, hb⟩); have HSc3 := Lib.hid hs; have HWc3 := Lib.hid (HWc2.out.trans hb); clear hs hb; (try go_simp))
 refine hK.out _ _ (HSc3.out.box) ?_
 clear hK K hHeld; intro hHeld; (try simp only [Act.put, pA, pB, pC])
 (refine takeP (i := 13) ?_ rfl (.inl ⟨by rfl, ?_⟩) ?_; rotate_left; (focus ((intro wS hSw); (try dsimp only at hSw); obtain ⟨s0, s1, s2⟩ := HFs.out wS hSw; go_simp; (try with_reducible rfl); done)); (try simp only [Act.put, pA, pB, pC]))
 refine wpAnyH_done (by kernel_rfl) ?_ _
 clear hHeld
 go_wp2
 go_ret2
 exact ⟨vc3, rfl, by rw [← encTL_9 hkx]; exact HSc3.out.1, HWc3.out⟩
theorem encTL_10 {x : CmdV} (hk : x.kind = 10) : (((([] ++ nB 10) ++ nB x.pk) ++ nB x.py) ++ nB x.pi) = encT x := by
 unfold encT
 rw [bodyT_10 hk, hk]
 simp only [List.append_assoc, List.append_nil, List.nil_append]
set_option maxHeartbeats 4000000 in
theorem refEnc_10 (cs : Array Value) (x : CmdV) (w : World) (hkx : x.kind = 10) (hs : cs.size = 22) (HGd : Hid (∀ W, Below w.heap.size w W → Calls Tryz.prog 9 #[.agg cs] W fun e w1 => e = .returned (.bool true) ∧ Below W.heap.size W w1)) (hk : cs[0]? = some (.int .i64 10)) (h10 : cs[10]? = some (.int .i64 x.pk)) (h11 : cs[11]? = some (.int .i64 x.py)) (h12 : cs[12]? = some (.int .i64 x.pi)) (b10 : NR x.pk) (b11 : NR x.py) (b12 : NR x.pi) : Calls Tryz.prog 15 #[.agg cs] w fun e w1 => EncR w (encT x) e w1 := by
 have HX := Lib.hid (heap_alloc_new w (.cells cs 28))
 have HB0 := Lib.hid (below_alloc w (.cells cs 28))
 have HI := Lib.hid (cmd_info hs)
 have HK := Lib.hid hk
 have HH := Lib.hid (And.intro h10 (And.intro h11 h12))
 have HR := Lib.hid (And.intro b10 (And.intro b11 b12))
 clear hs hk h10 h11 h12 b10 b11 b12
 go_enter Tryz.func15, Tryz.ntmps15
 go_wp2_with ((with_reducible refine wpList_load_row (o := ⟨some 5, _, _, _, _, _⟩) ?a1 28 (.tmp 1) ?a2 w.heap.size ?a3 28 cs (0, 0) _ HX.out Tryz.underlying28 ?a4 HI.out ?_); (case a1 => rfl); (case a2 => rfl); (case a3 => rfl); (case a4 => rfl); refine Stop.out ?_)
 unfold Stop
 go_wp2_with (go_at_call 9; refine (HGd.out _ HB0.out).mono ?_; rintro e w1 ⟨rfl, hb⟩; have HWa := Lib.hid (below_then HB0.out hb); have hx1 := heap_on hb HX.out; have HSa : Hid (OY w1 w.heap.size (.slice none 0 0) [] [(w.heap.size, (.cells cs 28 (0, 0)))] 0) := Lib.hid ⟨OB.nil _ _, fun p hp => (by have e := List.mem_singleton.1 hp; subst e; exact ⟨hx1, by simp [Value.ownBlock]⟩), HWa.out.size, Nat.le_refl _⟩; clear hb hx1; have k0 := (cell_of_row _ _ 0 _ _ _ HSa.out.box).trans HK.out; refine Stop.out ?_)
 unfold Stop
 clear HX HB0 HI HGd
 go_wp2_with (go_at_call 41; refine (HSa.out.num 10 ⟨by omega, by omega⟩ (by omega)).mono ?_; rintro e w2 ⟨v2, rfl, hs, hb⟩; have HSb := Lib.hid hs; have HWb := Lib.hid (HWa.out.trans hb); clear hs hb k0; have k0 := (cell_of_row _ _ 0 _ _ _ HSb.out.box).trans HK.out; refine Stop.out ?_)
 unfold Stop
 go_wp2
 have HScd := Lib.hid HSb.out.drew
 have HWcd := Lib.hid (HWb.out.trans ((Below.refl _ _).drew))
 (try clear k0)
 have HFs := Lib.hid (fun (wS : World) (hSw : wS.heap[w.heap.size]? = some (.cells cs 28 (0, 0))) => And.intro ((cell_of_row wS w.heap.size 10 _ _ _ hSw).trans HH.out.1) (And.intro ((cell_of_row wS w.heap.size 11 _ _ _ hSw).trans HH.out.2.1) ((cell_of_row wS w.heap.size 12 _ _ _ hSw).trans HH.out.2.2)))
 refine wp_region_held_drew (S := fun V => V.heap[w.heap.size]? = some (.cells cs 28 (0, 0))) (by kernel_rfl) HScd.out.box ?_
 intro hHeld
 generalize World.drew _ = wdc at HScd HWcd hHeld ⊢
 (refine takeP (i := 0) ?_ rfl (.inl ⟨by rfl, ?_⟩) ?_; rotate_left; (focus ((intro wS hSw); (try dsimp only at hSw); obtain ⟨s0, s1, s2⟩ := HFs.out wS hSw; go_simp; (try with_reducible rfl); done)); (try simp only [Act.put, pA, pB, pC]))
 (refine takeP (i := 1) ?_ rfl (.inl ⟨by rfl, ?_⟩) ?_; rotate_left; (focus ((intro wS hSw); (try dsimp only at hSw); obtain ⟨s0, s1, s2⟩ := HFs.out wS hSw; go_simp; (try with_reducible rfl); done)); (try simp only [Act.put, pA, pB, pC]))
 (refine takeP (i := 2) ?_ rfl (.inl ⟨by rfl, ?_⟩) ?_; rotate_left; (focus ((intro wS hSw); (try dsimp only at hSw); obtain ⟨s0, s1, s2⟩ := HFs.out wS hSw; go_simp; (try with_reducible rfl); done)); (try simp only [Act.put, pA, pB, pC]))
 (refine takeP (i := 3) ?_ rfl (.inl ⟨by rfl, ?_⟩) ?_; rotate_left; (focus ((intro wS hSw); (try dsimp only at hSw); obtain ⟨s0, s1, s2⟩ := HFs.out wS hSw; go_simp; (try with_reducible rfl); done)); (try simp only [Act.put, pA, pB, pC]))
 (refine takeP (i := 5) ?_ rfl (.inl ⟨by rfl, ?_⟩) ?_; rotate_left; (focus ((intro wS hSw); (try dsimp only at hSw); obtain ⟨s0, s1, s2⟩ := HFs.out wS hSw; go_simp; (try with_reducible rfl); done)); (try simp only [Act.put, pA, pB, pC]))
 (refine takeP (i := 6) ?_ rfl (.inl ⟨by rfl, ?_⟩) ?_; rotate_left; (focus ((intro wS hSw); (try dsimp only at hSw); obtain ⟨s0, s1, s2⟩ := HFs.out wS hSw; go_simp; (try with_reducible rfl); done)); (try simp only [Act.put, pA, pB, pC]))
 (refine takeP (i := 7) ?_ rfl (.inl ⟨by rfl, ?_⟩) ?_; rotate_left; (focus ((intro wS hSw); (try dsimp only at hSw); obtain ⟨s0, s1, s2⟩ := HFs.out wS hSw; go_simp; (try with_reducible rfl); done)); (try simp only [Act.put, pA, pB, pC]))
 (refine takeP (i := 9) ?_ rfl (.inl ⟨by rfl, ?_⟩) ?_; rotate_left; (focus ((intro wS hSw); (try dsimp only at hSw); obtain ⟨s0, s1, s2⟩ := HFs.out wS hSw; go_simp; (try with_reducible rfl); done)); (try simp only [Act.put, pA, pB, pC]))
 (refine takeP (i := 10) ?_ rfl (.inl ⟨by rfl, ?_⟩) ?_; rotate_left; (focus ((intro wS hSw); (try dsimp only at hSw); obtain ⟨s0, s1, s2⟩ := HFs.out wS hSw; go_simp; (try with_reducible rfl); done)); (try simp only [Act.put, pA, pB, pC]))
 (refine takeP (i := 11) ?_ rfl (.inl ⟨by rfl, ?_⟩) ?_; rotate_left; (focus ((intro wS hSw); (try dsimp only at hSw); obtain ⟨s0, s1, s2⟩ := HFs.out wS hSw; go_simp; (try with_reducible rfl); done)); (try simp only [Act.put, pA, pB, pC]))
 refine aloneH (i := 4) rfl (by kernel_rfl) (fun K hK => ?_)
 rw [if_pos (by rfl)]
 go_simp; ((refine (HScd.out.num x.pk (HR.out.1) (by omega)).mono ?_); (rintro e wc1 ⟨vc1, rfl, hs, hb⟩); have HSc1 := Lib.hid hs; have HWc1 := Lib.hid (HWcd.out.trans hb); clear hs hb; (try go_simp))
 refine hK.out _ _ (HSc1.out.box) ?_
 clear hK K hHeld; intro hHeld; (try simp only [Act.put, pA, pB, pC])
 refine aloneH (i := 8) rfl (by kernel_rfl) (fun K hK => ?_)
 rw [if_pos (by rfl)]
 go_simp; ((refine (HSc1.out.num x.py (HR.out.2.1) (by omega)).mono ?_); (rintro e wc2 ⟨vc2, rfl, hs, hb⟩); have HSc2 := Lib.hid hs; have HWc2 := Lib.hid (HWc1.out.trans hb); clear hs hb; (try go_simp))
 refine hK.out _ _ (HSc2.out.box) ?_
 clear hK K hHeld; intro hHeld; (try simp only [Act.put, pA, pB, pC])
 refine aloneH (i := 12) rfl (by kernel_rfl) (fun K hK => ?_)
 rw [if_pos (by rfl)]
 go_simp; ((refine (HSc2.out.num x.pi (HR.out.2.2) (by omega)).mono ?_); (rintro e wc3 ⟨vc3, rfl, hs, hb⟩); have HSc3 := Lib.hid hs; have HWc3 := Lib.hid (HWc2.out.trans hb); clear hs hb; (try go_simp))
 refine hK.out _ _ (HSc3.out.box) ?_
 clear hK K hHeld; intro hHeld; (try simp only [Act.put, pA, pB, pC])
 (refine takeP (i := 13) ?_ rfl (.inl ⟨by rfl, ?_⟩) ?_; rotate_left; (focus ((intro wS hSw); (try dsimp only at hSw); obtain ⟨s0, s1, s2⟩ := HFs.out wS hSw; go_simp; (try with_reducible rfl); done)); (try simp only [Act.put, pA, pB, pC]))
 refine wpAnyH_done (by kernel_rfl) ?_ _
 clear hHeld
 go_wp2
 go_ret2
 exact ⟨vc3, rfl, by rw [← encTL_10 hkx]; exact HSc3.out.1, HWc3.out⟩
theorem encTL_11 {x : CmdV} (hk : x.kind = 11) : (([] ++ nB 11) ++ nB x.py) = encT x := by
 unfold encT
 rw [bodyT_11 hk, hk]
 simp only [List.append_assoc, List.append_nil, List.nil_append]
set_option maxHeartbeats 4000000 in
theorem refEnc_11 (cs : Array Value) (x : CmdV) (w : World) (hkx : x.kind = 11) (hs : cs.size = 22) (HGd : Hid (∀ W, Below w.heap.size w W → Calls Tryz.prog 9 #[.agg cs] W fun e w1 => e = .returned (.bool true) ∧ Below W.heap.size W w1)) (hk : cs[0]? = some (.int .i64 11)) (h11 : cs[11]? = some (.int .i64 x.py)) (b11 : NR x.py) : Calls Tryz.prog 15 #[.agg cs] w fun e w1 => EncR w (encT x) e w1 := by
 have HX := Lib.hid (heap_alloc_new w (.cells cs 28))
 have HB0 := Lib.hid (below_alloc w (.cells cs 28))
 have HI := Lib.hid (cmd_info hs)
 have HK := Lib.hid hk
 have HH := Lib.hid h11
 have HR := Lib.hid b11
 clear hs hk h11 b11
 go_enter Tryz.func15, Tryz.ntmps15
 go_wp2_with ((with_reducible refine wpList_load_row (o := ⟨some 5, _, _, _, _, _⟩) ?a1 28 (.tmp 1) ?a2 w.heap.size ?a3 28 cs (0, 0) _ HX.out Tryz.underlying28 ?a4 HI.out ?_); (case a1 => rfl); (case a2 => rfl); (case a3 => rfl); (case a4 => rfl); refine Stop.out ?_)
 unfold Stop
 go_wp2_with (go_at_call 9; refine (HGd.out _ HB0.out).mono ?_; rintro e w1 ⟨rfl, hb⟩; have HWa := Lib.hid (below_then HB0.out hb); have hx1 := heap_on hb HX.out; have HSa : Hid (OY w1 w.heap.size (.slice none 0 0) [] [(w.heap.size, (.cells cs 28 (0, 0)))] 0) := Lib.hid ⟨OB.nil _ _, fun p hp => (by have e := List.mem_singleton.1 hp; subst e; exact ⟨hx1, by simp [Value.ownBlock]⟩), HWa.out.size, Nat.le_refl _⟩; clear hb hx1; have k0 := (cell_of_row _ _ 0 _ _ _ HSa.out.box).trans HK.out; refine Stop.out ?_)
 unfold Stop
 clear HX HB0 HI HGd
 go_wp2_with (go_at_call 41; refine (HSa.out.num 11 ⟨by omega, by omega⟩ (by omega)).mono ?_; rintro e w2 ⟨v2, rfl, hs, hb⟩; have HSb := Lib.hid hs; have HWb := Lib.hid (HWa.out.trans hb); clear hs hb k0; have k0 := (cell_of_row _ _ 0 _ _ _ HSb.out.box).trans HK.out; have k11 := (cell_of_row _ _ 11 _ _ _ HSb.out.box).trans HH.out; refine Stop.out ?_)
 unfold Stop
 go_wp2_with (go_at_call 41; refine (HSb.out.num x.py (HR.out) (by omega)).mono ?_; rintro e w3 ⟨v3, rfl, hs, hb⟩; have HSc := Lib.hid hs; have HWc := Lib.hid (HWb.out.trans hb); clear hs hb; refine Stop.out ?_)
 unfold Stop
 go_wp2
 go_ret2
 exact ⟨v3, rfl, by rw [← encTL_11 hkx]; exact HSc.out.1, HWc.out⟩
end Go.Proofs.YtmjjenemokojjaaGreat
