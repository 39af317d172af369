/- Commands as bytes, written, by kinds. Bytes behind bytes: the document's. A document, and a command, is the same as itself. -/
import Derived.Test.YtmjjenemokojjaaGreatD28
import Derived.Test.YtmjjenemokojjaaGreatD42
import Derived.Test.YtmjjenemokojjaaGreatD29
import Derived.WalkMore
import Derived.Test.YtmjjenemokojjaaGreatD40
import Derived.Test.YtmjjenemokojjaaGreatD45
import Derived.Test.YtmjjenemokojjaaGreatD10
namespace Go.Proofs.YtmjjenemokojjaaGreat
open Go.RowKit
set_option maxRecDepth 100000
set_option linter.unusedSimpArgs false
set_option linter.unusedVariables false

set_option maxHeartbeats 4000000 in
theorem write_1 (cs : Array Value) (x : CmdV) (B g N : Nat) (S : Option Text) (v : Value) (w : World) (hw : Wrt w B g S v) (hB : B ≤ w.heap.size) (hl : (S.getD []).length ≤ N) (hN : N ≤ 1000000000) (hk : cs[0]? = some (.int .i64 1)) (h1 : cs[1]? = some (.string x.state)) (h5 : cs[5]? = some (.int .i64 x.from_)) (h9 : cs[9]? = some (.int .i64 x.index)) (b1 : x.state.size ≤ 9223372036854775807) (b5 : -9223372036854775808 ≤ x.from_ ∧ x.from_ ≤ 9223372036854775807) (b9 : -9223372036854775808 ≤ x.index ∧ x.index ≤ 9223372036854775807) : Calls Tryz.prog 39 #[.pointer (some ⟨g, 0, none⟩), .agg cs] w fun e w1 => Wrote w B g (nextS (nextS (nextS (nextS S (docN 1)) (docS x.state)) (docN x.index)) (docN x.from_)) e w1 := by
 have HSa := Lib.hid (WN.start hw hB hl (.cells cs 28 (0, 0)))
 have HWa := Lib.hid ((Below.refl B w).alloc hB (.cells cs 28 (0, 0)))
 have HN := Lib.hid hN
 have HH := Lib.hid (And.intro h1 (And.intro h5 h9))
 have HR := Lib.hid (And.intro b1 (And.intro b5 b9))
 have HK := Lib.hid hk
 have k0 := (cell_of_row _ _ 0 _ _ _ HSa.out.box).trans hk
 clear hw hB hl hN hk h1 h5 h9 b1 b5 b9
 go_enter Tryz.func39, Tryz.ntmps39
 go_wp2_with (go_at_call 66; refine (HSa.out.num 1 (by decide) (by decide) (by have := HN.out; omega)).mono ?_; rintro e w1 ⟨rfl, hs, hb⟩; have HSb := Lib.hid hs; have HWb := Lib.hid (HWa.out.trans hb); clear hs hb k0; have k0 := (cell_of_row _ _ 0 _ _ _ HSb.out.box).trans HK.out; refine Stop.out ?_)
 unfold Stop
 go_wp2
 have HScd := Lib.hid HSb.out.drew
 have HWcd := Lib.hid (HWb.out.trans ((Below.refl _ _).drew))
 (try clear k0)
 have HFs := Lib.hid (fun (wS : World) (hSw : wS.heap[w.heap.size]? = some (.cells cs 28 (0, 0))) => And.intro ((cell_of_row wS w.heap.size 1 _ _ _ hSw).trans HH.out.1) (And.intro ((cell_of_row wS w.heap.size 5 _ _ _ hSw).trans HH.out.2.1) ((cell_of_row wS w.heap.size 9 _ _ _ hSw).trans HH.out.2.2)))
 refine wp_region_held_drew (S := fun V => V.heap[w.heap.size]? = some (.cells cs 28 (0, 0))) (by kernel_rfl) HScd.out.box ?_
 intro hHeld
 generalize World.drew _ = wdc at HScd HWcd hHeld ⊢
 (refine takeP (i := 0) ?_ rfl (.inl ⟨by rfl, ?_⟩) ?_; rotate_left; (focus ((intro wS hSw); (try dsimp only at hSw); obtain ⟨s0, s1, s2⟩ := HFs.out wS hSw; go_simp; (try with_reducible rfl); done)); (try simp only [Act.put, pA, pB, pC]))
 (refine takeP (i := 1) ?_ rfl (.inl ⟨by rfl, ?_⟩) ?_; rotate_left; (focus ((intro wS hSw); (try dsimp only at hSw); obtain ⟨s0, s1, s2⟩ := HFs.out wS hSw; go_simp; (try with_reducible rfl); done)); (try simp only [Act.put, pA, pB, pC]))
 (refine takeP (i := 2) ?_ rfl (.inl ⟨by rfl, ?_⟩) ?_; rotate_left; (focus ((intro wS hSw); (try dsimp only at hSw); obtain ⟨s0, s1, s2⟩ := HFs.out wS hSw; go_simp; (try with_reducible rfl); done)); (try simp only [Act.put, pA, pB, pC]))
 (refine takeP (i := 4) ?_ rfl (.inl ⟨by rfl, ?_⟩) ?_; rotate_left; (focus ((intro wS hSw); (try dsimp only at hSw); obtain ⟨s0, s1, s2⟩ := HFs.out wS hSw; go_simp; (try with_reducible rfl); done)); (try simp only [Act.put, pA, pB, pC]))
 (refine takeP (i := 5) ?_ rfl (.inl ⟨by rfl, ?_⟩) ?_; rotate_left; (focus ((intro wS hSw); (try dsimp only at hSw); obtain ⟨s0, s1, s2⟩ := HFs.out wS hSw; go_simp; (try with_reducible rfl); done)); (try simp only [Act.put, pA, pB, pC]))
 (refine takeP (i := 7) ?_ rfl (.inl ⟨by rfl, ?_⟩) ?_; rotate_left; (focus ((intro wS hSw); (try dsimp only at hSw); obtain ⟨s0, s1, s2⟩ := HFs.out wS hSw; go_simp; (try with_reducible rfl); done)); (try simp only [Act.put, pA, pB, pC]))
 (refine takeP (i := 8) ?_ rfl (.inl ⟨by rfl, ?_⟩) ?_; rotate_left; (focus ((intro wS hSw); (try dsimp only at hSw); obtain ⟨s0, s1, s2⟩ := HFs.out wS hSw; go_simp; (try with_reducible rfl); done)); (try simp only [Act.put, pA, pB, pC]))
 refine aloneH (i := 3) rfl (by kernel_rfl) (fun K hK => ?_)
 rw [if_pos (by rfl)]
 go_simp; ((refine (HScd.out.text x.state HR.out.1 (by have := HN.out; omega)).mono ?_); (rintro e wc1 ⟨rfl, hs, hb⟩); have HSc1 := Lib.hid hs; have HWc1 := Lib.hid (HWcd.out.trans hb); clear hs hb; (try go_simp))
 refine hK.out _ _ (HSc1.out.box) ?_
 clear hK K hHeld; intro hHeld; (try simp only [Act.put, pA, pB, pC])
 refine aloneH (i := 6) rfl (by kernel_rfl) (fun K hK => ?_)
 rw [if_pos (by rfl)]
 go_simp; ((refine (HSc1.out.num x.index HR.out.2.2.1 HR.out.2.2.2 (by have := HN.out; omega)).mono ?_); (rintro e wc2 ⟨rfl, hs, hb⟩); have HSc2 := Lib.hid hs; have HWc2 := Lib.hid (HWc1.out.trans hb); clear hs hb; (try go_simp))
 refine hK.out _ _ (HSc2.out.box) ?_
 clear hK K hHeld; intro hHeld; (try simp only [Act.put, pA, pB, pC])
 refine aloneH (i := 9) rfl (by kernel_rfl) (fun K hK => ?_)
 rw [if_pos (by rfl)]
 go_simp; ((refine (HSc2.out.num x.from_ HR.out.2.1.1 HR.out.2.1.2 (by have := HN.out; omega)).mono ?_); (rintro e wc3 ⟨rfl, hs, hb⟩); have HSc3 := Lib.hid hs; have HWc3 := Lib.hid (HWc2.out.trans hb); clear hs hb; (try go_simp))
 refine hK.out _ _ (HSc3.out.box) ?_
 clear hK K hHeld; intro hHeld; (try simp only [Act.put, pA, pB, pC])
 refine wpAnyH_done (by kernel_rfl) ?_ _
 clear hHeld
 go_wp2
 go_end0
 obtain ⟨⟨v9, q1, _⟩, _⟩ := HSc3.out
 exact ⟨rfl, ⟨v9, q1⟩, HWc3.out⟩
set_option maxHeartbeats 4000000 in
theorem write_2 (cs : Array Value) (x : CmdV) (B g N : Nat) (S : Option Text) (v : Value) (w : World) (hw : Wrt w B g S v) (hB : B ≤ w.heap.size) (hl : (S.getD []).length ≤ N) (hN : N ≤ 1000000000) (hk : cs[0]? = some (.int .i64 2)) (h1 : cs[1]? = some (.string x.state)) (h3 : cs[3]? = some (.int .i64 x.category)) (h4 : cs[4]? = some (.int .i64 x.bp)) (h5 : cs[5]? = some (.int .i64 x.from_)) (h6 : cs[6]? = some (.int .i64 x.until_)) (b1 : x.state.size ≤ 9223372036854775807) (b3 : -9223372036854775808 ≤ x.category ∧ x.category ≤ 9223372036854775807) (b4 : -9223372036854775808 ≤ x.bp ∧ x.bp ≤ 9223372036854775807) (b5 : -9223372036854775808 ≤ x.from_ ∧ x.from_ ≤ 9223372036854775807) (b6 : -9223372036854775808 ≤ x.until_ ∧ x.until_ ≤ 9223372036854775807) : Calls Tryz.prog 39 #[.pointer (some ⟨g, 0, none⟩), .agg cs] w fun e w1 => Wrote w B g (nextS (nextS (nextS (nextS (nextS (nextS S (docN 2)) (docS x.state)) (docN x.category)) (docN x.from_)) (docN x.until_)) (docN x.bp)) e w1 := by
 have HSa := Lib.hid (WN.start hw hB hl (.cells cs 28 (0, 0)))
 have HWa := Lib.hid ((Below.refl B w).alloc hB (.cells cs 28 (0, 0)))
 have HN := Lib.hid hN
 have HH := Lib.hid (And.intro h1 (And.intro h3 (And.intro h4 (And.intro h5 h6))))
 have HR := Lib.hid (And.intro b1 (And.intro b3 (And.intro b4 (And.intro b5 b6))))
 have HK := Lib.hid hk
 have k0 := (cell_of_row _ _ 0 _ _ _ HSa.out.box).trans hk
 clear hw hB hl hN hk h1 h3 h4 h5 h6 b1 b3 b4 b5 b6
 go_enter Tryz.func39, Tryz.ntmps39
 go_wp2_with (go_at_call 66; refine (HSa.out.num 2 (by decide) (by decide) (by have := HN.out; omega)).mono ?_; rintro e w1 ⟨rfl, hs, hb⟩; have HSb := Lib.hid hs; have HWb := Lib.hid (HWa.out.trans hb); clear hs hb k0; have k0 := (cell_of_row _ _ 0 _ _ _ HSb.out.box).trans HK.out; refine Stop.out ?_)
 unfold Stop
 go_wp2
 have HScd := Lib.hid HSb.out.drew
 have HWcd := Lib.hid (HWb.out.trans ((Below.refl _ _).drew))
 (try clear k0)
 have HFs := Lib.hid (fun (wS : World) (hSw : wS.heap[w.heap.size]? = some (.cells cs 28 (0, 0))) => And.intro ((cell_of_row wS w.heap.size 1 _ _ _ hSw).trans HH.out.1) (And.intro ((cell_of_row wS w.heap.size 3 _ _ _ hSw).trans HH.out.2.1) (And.intro ((cell_of_row wS w.heap.size 4 _ _ _ hSw).trans HH.out.2.2.1) (And.intro ((cell_of_row wS w.heap.size 5 _ _ _ hSw).trans HH.out.2.2.2.1) ((cell_of_row wS w.heap.size 6 _ _ _ hSw).trans HH.out.2.2.2.2)))))
 refine wp_region_held_drew (S := fun V => V.heap[w.heap.size]? = some (.cells cs 28 (0, 0))) (by kernel_rfl) HScd.out.box ?_
 intro hHeld
 generalize World.drew _ = wdc at HScd HWcd hHeld ⊢
 (refine takeP (i := 0) ?_ rfl (.inl ⟨by rfl, ?_⟩) ?_; rotate_left; (focus ((intro wS hSw); (try dsimp only at hSw); obtain ⟨s0, s1, s2, s3, s4⟩ := HFs.out wS hSw; go_simp; (try with_reducible rfl); done)); (try simp only [Act.put, pA, pB, pC]))
 (refine takeP (i := 1) ?_ rfl (.inl ⟨by rfl, ?_⟩) ?_; rotate_left; (focus ((intro wS hSw); (try dsimp only at hSw); obtain ⟨s0, s1, s2, s3, s4⟩ := HFs.out wS hSw; go_simp; (try with_reducible rfl); done)); (try simp only [Act.put, pA, pB, pC]))
 (refine takeP (i := 2) ?_ rfl (.inl ⟨by rfl, ?_⟩) ?_; rotate_left; (focus ((intro wS hSw); (try dsimp only at hSw); obtain ⟨s0, s1, s2, s3, s4⟩ := HFs.out wS hSw; go_simp; (try with_reducible rfl); done)); (try simp only [Act.put, pA, pB, pC]))
 (refine takeP (i := 4) ?_ rfl (.inl ⟨by rfl, ?_⟩) ?_; rotate_left; (focus ((intro wS hSw); (try dsimp only at hSw); obtain ⟨s0, s1, s2, s3, s4⟩ := HFs.out wS hSw; go_simp; (try with_reducible rfl); done)); (try simp only [Act.put, pA, pB, pC]))
 (refine takeP (i := 5) ?_ rfl (.inl ⟨by rfl, ?_⟩) ?_; rotate_left; (focus ((intro wS hSw); (try dsimp only at hSw); obtain ⟨s0, s1, s2, s3, s4⟩ := HFs.out wS hSw; go_simp; (try with_reducible rfl); done)); (try simp only [Act.put, pA, pB, pC]))
 (refine takeP (i := 7) ?_ rfl (.inl ⟨by rfl, ?_⟩) ?_; rotate_left; (focus ((intro wS hSw); (try dsimp only at hSw); obtain ⟨s0, s1, s2, s3, s4⟩ := HFs.out wS hSw; go_simp; (try with_reducible rfl); done)); (try simp only [Act.put, pA, pB, pC]))
 (refine takeP (i := 8) ?_ rfl (.inl ⟨by rfl, ?_⟩) ?_; rotate_left; (focus ((intro wS hSw); (try dsimp only at hSw); obtain ⟨s0, s1, s2, s3, s4⟩ := HFs.out wS hSw; go_simp; (try with_reducible rfl); done)); (try simp only [Act.put, pA, pB, pC]))
 (refine takeP (i := 10) ?_ rfl (.inl ⟨by rfl, ?_⟩) ?_; rotate_left; (focus ((intro wS hSw); (try dsimp only at hSw); obtain ⟨s0, s1, s2, s3, s4⟩ := HFs.out wS hSw; go_simp; (try with_reducible rfl); done)); (try simp only [Act.put, pA, pB, pC]))
 (refine takeP (i := 11) ?_ rfl (.inl ⟨by rfl, ?_⟩) ?_; rotate_left; (focus ((intro wS hSw); (try dsimp only at hSw); obtain ⟨s0, s1, s2, s3, s4⟩ := HFs.out wS hSw; go_simp; (try with_reducible rfl); done)); (try simp only [Act.put, pA, pB, pC]))
 (refine takeP (i := 13) ?_ rfl (.inl ⟨by rfl, ?_⟩) ?_; rotate_left; (focus ((intro wS hSw); (try dsimp only at hSw); obtain ⟨s0, s1, s2, s3, s4⟩ := HFs.out wS hSw; go_simp; (try with_reducible rfl); done)); (try simp only [Act.put, pA, pB, pC]))
 (refine takeP (i := 14) ?_ rfl (.inl ⟨by rfl, ?_⟩) ?_; rotate_left; (focus ((intro wS hSw); (try dsimp only at hSw); obtain ⟨s0, s1, s2, s3, s4⟩ := HFs.out wS hSw; go_simp; (try with_reducible rfl); done)); (try simp only [Act.put, pA, pB, pC]))
 refine aloneH (i := 3) rfl (by kernel_rfl) (fun K hK => ?_)
 rw [if_pos (by rfl)]
 go_simp; ((refine (HScd.out.text x.state HR.out.1 (by have := HN.out; omega)).mono ?_); (rintro e wc1 ⟨rfl, hs, hb⟩); have HSc1 := Lib.hid hs; have HWc1 := Lib.hid (HWcd.out.trans hb); clear hs hb; (try go_simp))
 refine hK.out _ _ (HSc1.out.box) ?_
 clear hK K hHeld; intro hHeld; (try simp only [Act.put, pA, pB, pC])
 refine aloneH (i := 6) rfl (by kernel_rfl) (fun K hK => ?_)
 rw [if_pos (by rfl)]
 go_simp; ((refine (HSc1.out.num x.category HR.out.2.1.1 HR.out.2.1.2 (by have := HN.out; omega)).mono ?_); (rintro e wc2 ⟨rfl, hs, hb⟩); have HSc2 := Lib.hid hs; have HWc2 := Lib.hid (HWc1.out.trans hb); clear hs hb; (try go_simp))
 refine hK.out _ _ (HSc2.out.box) ?_
 clear hK K hHeld; intro hHeld; (try simp only [Act.put, pA, pB, pC])
 refine aloneH (i := 9) rfl (by kernel_rfl) (fun K hK => ?_)
 rw [if_pos (by rfl)]
 go_simp; ((refine (HSc2.out.num x.from_ HR.out.2.2.2.1.1 HR.out.2.2.2.1.2 (by have := HN.out; omega)).mono ?_); (rintro e wc3 ⟨rfl, hs, hb⟩); have HSc3 := Lib.hid hs; have HWc3 := Lib.hid (HWc2.out.trans hb); clear hs hb; (try go_simp))
 refine hK.out _ _ (HSc3.out.box) ?_
 clear hK K hHeld; intro hHeld; (try simp only [Act.put, pA, pB, pC])
 refine aloneH (i := 12) rfl (by kernel_rfl) (fun K hK => ?_)
 rw [if_pos (by rfl)]
 go_simp; ((refine (HSc3.out.num x.until_ HR.out.2.2.2.2.1 HR.out.2.2.2.2.2 (by have := HN.out; omega)).mono ?_); (rintro e wc4 ⟨rfl, hs, hb⟩); have HSc4 := Lib.hid hs; have HWc4 := Lib.hid (HWc3.out.trans hb); clear hs hb; (try go_simp))
 refine hK.out _ _ (HSc4.out.box) ?_
 clear hK K hHeld; intro hHeld; (try simp only [Act.put, pA, pB, pC])
 refine aloneH (i := 15) rfl (by kernel_rfl) (fun K hK => ?_)
 rw [if_pos (by rfl)]
 go_simp; ((refine (HSc4.out.num x.bp HR.out.2.2.1.1 HR.out.2.2.1.2 (by have := HN.out; omega)).mono ?_); (rintro e wc5 ⟨rfl, hs, hb⟩); have HSc5 := Lib.hid hs; have HWc5 := Lib.hid (HWc4.out.trans hb); clear hs hb; (try go_simp))
 refine hK.out _ _ (HSc5.out.box) ?_
 clear hK K hHeld; intro hHeld; (try simp only [Act.put, pA, pB, pC])
 refine wpAnyH_done (by kernel_rfl) ?_ _
 clear hHeld
 go_wp2
 go_end0
 obtain ⟨⟨v9, q1, _⟩, _⟩ := HSc5.out
 exact ⟨rfl, ⟨v9, q1⟩, HWc5.out⟩
set_option maxHeartbeats 4000000 in
theorem write_3 (cs : Array Value) (x : CmdV) (B g N : Nat) (S : Option Text) (v : Value) (w : World) (hw : Wrt w B g S v) (hB : B ≤ w.heap.size) (hl : (S.getD []).length ≤ N) (hN : N ≤ 1000000000) (hk : cs[0]? = some (.int .i64 3)) (h5 : cs[5]? = some (.int .i64 x.from_)) (h6 : cs[6]? = some (.int .i64 x.until_)) (b5 : -9223372036854775808 ≤ x.from_ ∧ x.from_ ≤ 9223372036854775807) (b6 : -9223372036854775808 ≤ x.until_ ∧ x.until_ ≤ 9223372036854775807) : Calls Tryz.prog 39 #[.pointer (some ⟨g, 0, none⟩), .agg cs] w fun e w1 => Wrote w B g (nextS (nextS (nextS S (docN 3)) (docN x.from_)) (docN x.until_)) e w1 := by
 have HSa := Lib.hid (WN.start hw hB hl (.cells cs 28 (0, 0)))
 have HWa := Lib.hid ((Below.refl B w).alloc hB (.cells cs 28 (0, 0)))
 have HN := Lib.hid hN
 have HH := Lib.hid (And.intro h5 h6)
 have HR := Lib.hid (And.intro b5 b6)
 have HK := Lib.hid hk
 have k0 := (cell_of_row _ _ 0 _ _ _ HSa.out.box).trans hk
 clear hw hB hl hN hk h5 h6 b5 b6
 go_enter Tryz.func39, Tryz.ntmps39
 go_wp2_with (go_at_call 66; refine (HSa.out.num 3 (by decide) (by decide) (by have := HN.out; omega)).mono ?_; rintro e w1 ⟨rfl, hs, hb⟩; have HSb := Lib.hid hs; have HWb := Lib.hid (HWa.out.trans hb); clear hs hb k0; have k0 := (cell_of_row _ _ 0 _ _ _ HSb.out.box).trans HK.out; refine Stop.out ?_)
 unfold Stop
 go_wp2
 have HScd := Lib.hid HSb.out.drew
 have HWcd := Lib.hid (HWb.out.trans ((Below.refl _ _).drew))
 (try clear k0)
 have HFs := Lib.hid (fun (wS : World) (hSw : wS.heap[w.heap.size]? = some (.cells cs 28 (0, 0))) => And.intro ((cell_of_row wS w.heap.size 5 _ _ _ hSw).trans HH.out.1) ((cell_of_row wS w.heap.size 6 _ _ _ hSw).trans HH.out.2))
 refine wp_region_held_drew (S := fun V => V.heap[w.heap.size]? = some (.cells cs 28 (0, 0))) (by kernel_rfl) HScd.out.box ?_
 intro hHeld
 generalize World.drew _ = wdc at HScd HWcd hHeld ⊢
 (refine takeP (i := 0) ?_ rfl (.inl ⟨by rfl, ?_⟩) ?_; rotate_left; (focus ((intro wS hSw); (try dsimp only at hSw); obtain ⟨s0, s1⟩ := HFs.out wS hSw; go_simp; (try with_reducible rfl); done)); (try simp only [Act.put, pA, pB, pC]))
 (refine takeP (i := 1) ?_ rfl (.inl ⟨by rfl, ?_⟩) ?_; rotate_left; (focus ((intro wS hSw); (try dsimp only at hSw); obtain ⟨s0, s1⟩ := HFs.out wS hSw; go_simp; (try with_reducible rfl); done)); (try simp only [Act.put, pA, pB, pC]))
 (refine takeP (i := 2) ?_ rfl (.inl ⟨by rfl, ?_⟩) ?_; rotate_left; (focus ((intro wS hSw); (try dsimp only at hSw); obtain ⟨s0, s1⟩ := HFs.out wS hSw; go_simp; (try with_reducible rfl); done)); (try simp only [Act.put, pA, pB, pC]))
 (refine takeP (i := 4) ?_ rfl (.inl ⟨by rfl, ?_⟩) ?_; rotate_left; (focus ((intro wS hSw); (try dsimp only at hSw); obtain ⟨s0, s1⟩ := HFs.out wS hSw; go_simp; (try with_reducible rfl); done)); (try simp only [Act.put, pA, pB, pC]))
 (refine takeP (i := 5) ?_ rfl (.inl ⟨by rfl, ?_⟩) ?_; rotate_left; (focus ((intro wS hSw); (try dsimp only at hSw); obtain ⟨s0, s1⟩ := HFs.out wS hSw; go_simp; (try with_reducible rfl); done)); (try simp only [Act.put, pA, pB, pC]))
 refine aloneH (i := 3) rfl (by kernel_rfl) (fun K hK => ?_)
 rw [if_pos (by rfl)]
 go_simp; ((refine (HScd.out.num x.from_ HR.out.1.1 HR.out.1.2 (by have := HN.out; omega)).mono ?_); (rintro e wc1 ⟨rfl, hs, hb⟩); have HSc1 := Lib.hid hs; have HWc1 := Lib.hid (HWcd.out.trans hb); clear hs hb; (try go_simp))
 refine hK.out _ _ (HSc1.out.box) ?_
 clear hK K hHeld; intro hHeld; (try simp only [Act.put, pA, pB, pC])
 refine aloneH (i := 6) rfl (by kernel_rfl) (fun K hK => ?_)
 rw [if_pos (by rfl)]
 go_simp; ((refine (HSc1.out.num x.until_ HR.out.2.1 HR.out.2.2 (by have := HN.out; omega)).mono ?_); (rintro e wc2 ⟨rfl, hs, hb⟩); have HSc2 := Lib.hid hs; have HWc2 := Lib.hid (HWc1.out.trans hb); clear hs hb; (try go_simp))
 refine hK.out _ _ (HSc2.out.box) ?_
 clear hK K hHeld; intro hHeld; (try simp only [Act.put, pA, pB, pC])
 refine wpAnyH_done (by kernel_rfl) ?_ _
 clear hHeld
 go_wp2
 go_end0
 obtain ⟨⟨v9, q1, _⟩, _⟩ := HSc2.out
 exact ⟨rfl, ⟨v9, q1⟩, HWc2.out⟩
set_option maxHeartbeats 4000000 in
theorem write_4 (cs : Array Value) (x : CmdV) (B g N : Nat) (S : Option Text) (v : Value) (w : World) (hw : Wrt w B g S v) (hB : B ≤ w.heap.size) (hl : (S.getD []).length ≤ N) (hN : N ≤ 1000000000) (hk : cs[0]? = some (.int .i64 4)) (h1 : cs[1]? = some (.string x.state)) (h2 : cs[2]? = some (.string x.text)) (h5 : cs[5]? = some (.int .i64 x.from_)) (h6 : cs[6]? = some (.int .i64 x.until_)) (b1 : x.state.size ≤ 9223372036854775807) (b2 : x.text.size ≤ 9223372036854775807) (b5 : -9223372036854775808 ≤ x.from_ ∧ x.from_ ≤ 9223372036854775807) (b6 : -9223372036854775808 ≤ x.until_ ∧ x.until_ ≤ 9223372036854775807) : Calls Tryz.prog 39 #[.pointer (some ⟨g, 0, none⟩), .agg cs] w fun e w1 => Wrote w B g (nextS (nextS (nextS (nextS (nextS S (docN 4)) (docS x.state)) (docS x.text)) (docN x.from_)) (docN x.until_)) e w1 := by
 have HSa := Lib.hid (WN.start hw hB hl (.cells cs 28 (0, 0)))
 have HWa := Lib.hid ((Below.refl B w).alloc hB (.cells cs 28 (0, 0)))
 have HN := Lib.hid hN
 have HH := Lib.hid (And.intro h1 (And.intro h2 (And.intro h5 h6)))
 have HR := Lib.hid (And.intro b1 (And.intro b2 (And.intro b5 b6)))
 have HK := Lib.hid hk
 have k0 := (cell_of_row _ _ 0 _ _ _ HSa.out.box).trans hk
 clear hw hB hl hN hk h1 h2 h5 h6 b1 b2 b5 b6
 go_enter Tryz.func39, Tryz.ntmps39
 go_wp2_with (go_at_call 66; refine (HSa.out.num 4 (by decide) (by decide) (by have := HN.out; omega)).mono ?_; rintro e w1 ⟨rfl, hs, hb⟩; have HSb := Lib.hid hs; have HWb := Lib.hid (HWa.out.trans hb); clear hs hb k0; have k0 := (cell_of_row _ _ 0 _ _ _ HSb.out.box).trans HK.out; refine Stop.out ?_)
 unfold Stop
 go_wp2
 have HScd := Lib.hid HSb.out.drew
 have HWcd := Lib.hid (HWb.out.trans ((Below.refl _ _).drew))
 (try clear k0)
 have HFs := Lib.hid (fun (wS : World) (hSw : wS.heap[w.heap.size]? = some (.cells cs 28 (0, 0))) => And.intro ((cell_of_row wS w.heap.size 1 _ _ _ hSw).trans HH.out.1) (And.intro ((cell_of_row wS w.heap.size 2 _ _ _ hSw).trans HH.out.2.1) (And.intro ((cell_of_row wS w.heap.size 5 _ _ _ hSw).trans HH.out.2.2.1) ((cell_of_row wS w.heap.size 6 _ _ _ hSw).trans HH.out.2.2.2))))
 refine wp_region_held_drew (S := fun V => V.heap[w.heap.size]? = some (.cells cs 28 (0, 0))) (by kernel_rfl) HScd.out.box ?_
 intro hHeld
 generalize World.drew _ = wdc at HScd HWcd hHeld ⊢
 (refine takeP (i := 0) ?_ rfl (.inl ⟨by rfl, ?_⟩) ?_; rotate_left; (focus ((intro wS hSw); (try dsimp only at hSw); obtain ⟨s0, s1, s2, s3⟩ := HFs.out wS hSw; go_simp; (try with_reducible rfl); done)); (try simp only [Act.put, pA, pB, pC]))
 (refine takeP (i := 1) ?_ rfl (.inl ⟨by rfl, ?_⟩) ?_; rotate_left; (focus ((intro wS hSw); (try dsimp only at hSw); obtain ⟨s0, s1, s2, s3⟩ := HFs.out wS hSw; go_simp; (try with_reducible rfl); done)); (try simp only [Act.put, pA, pB, pC]))
 (refine takeP (i := 2) ?_ rfl (.inl ⟨by rfl, ?_⟩) ?_; rotate_left; (focus ((intro wS hSw); (try dsimp only at hSw); obtain ⟨s0, s1, s2, s3⟩ := HFs.out wS hSw; go_simp; (try with_reducible rfl); done)); (try simp only [Act.put, pA, pB, pC]))
 (refine takeP (i := 4) ?_ rfl (.inl ⟨by rfl, ?_⟩) ?_; rotate_left; (focus ((intro wS hSw); (try dsimp only at hSw); obtain ⟨s0, s1, s2, s3⟩ := HFs.out wS hSw; go_simp; (try with_reducible rfl); done)); (try simp only [Act.put, pA, pB, pC]))
 (refine takeP (i := 5) ?_ rfl (.inl ⟨by rfl, ?_⟩) ?_; rotate_left; (focus ((intro wS hSw); (try dsimp only at hSw); obtain ⟨s0, s1, s2, s3⟩ := HFs.out wS hSw; go_simp; (try with_reducible rfl); done)); (try simp only [Act.put, pA, pB, pC]))
 refine aloneH (i := 3) rfl (by kernel_rfl) (fun K hK => ?_)
 rw [if_pos (by rfl)]
 go_simp; ((refine (HScd.out.text x.state HR.out.1 (by have := HN.out; omega)).mono ?_); (rintro e wc1 ⟨rfl, hs, hb⟩); have HSc1 := Lib.hid hs; have HWc1 := Lib.hid (HWcd.out.trans hb); clear hs hb; (try go_simp))
 refine hK.out _ _ (HSc1.out.box) ?_
 clear hK K hHeld; intro hHeld; (try simp only [Act.put, pA, pB, pC])
 refine aloneH (i := 6) rfl (by kernel_rfl) (fun K hK => ?_)
 rw [if_pos (by rfl)]
 go_simp; ((refine (HSc1.out.text x.text HR.out.2.1 (by have := HN.out; omega)).mono ?_); (rintro e wc2 ⟨rfl, hs, hb⟩); have HSc2 := Lib.hid hs; have HWc2 := Lib.hid (HWc1.out.trans hb); clear hs hb; (try go_simp))
 refine hK.out _ _ (HSc2.out.box) ?_
 clear hK K hHeld; intro hHeld; (try simp only [Act.put, pA, pB, pC])
 refine wpAnyH_done (by kernel_rfl) ?_ _
 clear hHeld
 go_wp2
 have HSdd := Lib.hid HSc2.out.drew
 have HWdd := Lib.hid (HWc2.out.trans ((Below.refl _ _).drew))
 (try clear k0)
 refine wp_region_held_drew (S := fun V => V.heap[w.heap.size]? = some (.cells cs 28 (0, 0))) (by kernel_rfl) HSdd.out.box ?_
 intro hHeld
 generalize World.drew _ = wdd at HSdd HWdd hHeld ⊢
 (refine takeP (i := 0) ?_ rfl (.inl ⟨by rfl, ?_⟩) ?_; rotate_left; (focus ((intro wS hSw); (try dsimp only at hSw); obtain ⟨s0, s1, s2, s3⟩ := HFs.out wS hSw; go_simp; (try with_reducible rfl); done)); (try simp only [Act.put, pA, pB, pC]))
 (refine takeP (i := 1) ?_ rfl (.inl ⟨by rfl, ?_⟩) ?_; rotate_left; (focus ((intro wS hSw); (try dsimp only at hSw); obtain ⟨s0, s1, s2, s3⟩ := HFs.out wS hSw; go_simp; (try with_reducible rfl); done)); (try simp only [Act.put, pA, pB, pC]))
 (refine takeP (i := 2) ?_ rfl (.inl ⟨by rfl, ?_⟩) ?_; rotate_left; (focus ((intro wS hSw); (try dsimp only at hSw); obtain ⟨s0, s1, s2, s3⟩ := HFs.out wS hSw; go_simp; (try with_reducible rfl); done)); (try simp only [Act.put, pA, pB, pC]))
 (refine takeP (i := 4) ?_ rfl (.inl ⟨by rfl, ?_⟩) ?_; rotate_left; (focus ((intro wS hSw); (try dsimp only at hSw); obtain ⟨s0, s1, s2, s3⟩ := HFs.out wS hSw; go_simp; (try with_reducible rfl); done)); (try simp only [Act.put, pA, pB, pC]))
 (refine takeP (i := 5) ?_ rfl (.inl ⟨by rfl, ?_⟩) ?_; rotate_left; (focus ((intro wS hSw); (try dsimp only at hSw); obtain ⟨s0, s1, s2, s3⟩ := HFs.out wS hSw; go_simp; (try with_reducible rfl); done)); (try simp only [Act.put, pA, pB, pC]))
 refine aloneH (i := 3) rfl (by kernel_rfl) (fun K hK => ?_)
 rw [if_pos (by rfl)]
 go_simp; ((refine (HSdd.out.num x.from_ HR.out.2.2.1.1 HR.out.2.2.1.2 (by have := HN.out; omega)).mono ?_); (rintro e wd1 ⟨rfl, hs, hb⟩); have HSd1 := Lib.hid hs; have HWd1 := Lib.hid (HWdd.out.trans hb); clear hs hb; (try go_simp))
 refine hK.out _ _ (HSd1.out.box) ?_
 clear hK K hHeld; intro hHeld; (try simp only [Act.put, pA, pB, pC])
 refine aloneH (i := 6) rfl (by kernel_rfl) (fun K hK => ?_)
 rw [if_pos (by rfl)]
 go_simp; ((refine (HSd1.out.num x.until_ HR.out.2.2.2.1 HR.out.2.2.2.2 (by have := HN.out; omega)).mono ?_); (rintro e wd2 ⟨rfl, hs, hb⟩); have HSd2 := Lib.hid hs; have HWd2 := Lib.hid (HWd1.out.trans hb); clear hs hb; (try go_simp))
 refine hK.out _ _ (HSd2.out.box) ?_
 clear hK K hHeld; intro hHeld; (try simp only [Act.put, pA, pB, pC])
 refine wpAnyH_done (by kernel_rfl) ?_ _
 clear hHeld
 go_wp2
 go_end0
 obtain ⟨⟨v9, q1, _⟩, _⟩ := HSd2.out
 exact ⟨rfl, ⟨v9, q1⟩, HWd2.out⟩
end Go.Proofs.YtmjjenemokojjaaGreat

namespace Go.Proofs.YtmjjenemokojjaaGreat
open Go.RowKit
set_option maxRecDepth 100000
set_option linter.unusedSimpArgs false
set_option linter.unusedVariables false

/-- a row of bytes of the call's own -/
def OB (w : World) (B : Nat) (v : Value) (T : Text) : Prop := w.ownsRow B 5 1 v T.length (T.map cellOf)
/-- a call that tells bytes of the call's own: other blocks stay as they were -/
def AddB (w : World) (B : Nat) (v0 : Value) (T : Text) (e : Ending) (w1 : World) : Prop :=
 ∃ v, e = .returned v ∧ OB w1 B v T ∧ Below B w w1 ∧ ∀ b o, w.heap[b]? = some o → v0.ownBlock ≠ some b → w1.heap[b]? = some o ∧ v.ownBlock ≠ some b
theorem AddB.of {w w1 w2 : World} {B : Nat} {v0 v : Value} {m D : Text} (hb : Below w.heap.size w w1) (hB : B ≤ w.heap.size) (ho : w1.ownsRow B 5 1 v0 m.length (m.map cellOf)) (h : w2.ownsRow B 5 1 v (m.length + D.length) (m.map cellOf ++ D.map cellOf)) (hg : w1.grownBy w2 v0.ownBlock) (hv : v.ownBlock = v0.ownBlock ∨ v.ownBlock = some w1.heap.size) : AddB w B v0 (m ++ D) (.returned v) w2 := by
 refine ⟨v, rfl, by unfold OB; simpa using h, (hb.mono hB).grown hg (Nat.le_trans hB hb.size) fun k hk => (ho.lt k hk).1, fun b o hbo hn => ?_⟩
 have hlt := heapLt hbo
 refine ⟨(hg.block b (Nat.lt_of_lt_of_le hlt hb.size) (fun e => hn e.symm)).trans ((hb.block b hlt).trans hbo), ?_⟩
 rcases hv with hv | hv
 · rw [hv]; exact hn
 · rw [hv]
   intro e
   have e2 : w1.heap.size = b := Option.some.inj e
   have := hb.size
   omega
theorem OB.on {w w1 : World} {B : Nat} {v : Value} {T : Text} (h : OB w B v T) (hb : Below w.heap.size w w1) : OB w1 B v T := own_below h hb
theorem OB.nil (w : World) (B : Nat) : OB w B (.slice none 0 0) [] := World.ownsRow_nil _ _ _ _
theorem ref_nB {n : Int} (h : NR n) (w : World) : Calls Tryz.prog 70 #[.int .i64 n] w (MadeB w (nB n)) := by
 have e := docN_some h
 unfold docN at e
 rw [if_neg (by have := h.1; omega)] at e
 have e2 := Option.some.inj e
 by_cases h0 : n < 0
 · rw [if_pos h0] at e2
   have hx := ref_num_neg (-n).toNat w (by omega) (by have := h.1; omega)
   rw [← e2]
   have en : -(((-n).toNat : Nat) : Int) = n := by omega
   rw [en] at hx
   exact hx
 · rw [if_neg h0] at e2
   have hx := ref_num_pos n.toNat w (by have := h.2; omega)
   rw [← e2]
   have en : ((n.toNat : Nat) : Int) = n := by omega
   rw [en] at hx
   exact hx
theorem ref_sB {s : ByteArray} (h : s.size ≤ 65536) (w : World) : Calls Tryz.prog 71 #[.string s] w (MadeB w (sB s)) := by
 have e := docS_some h
 unfold docS at e
 rw [if_neg (by omega)] at e
 rw [← Option.some.inj e]
 exact ref_text s w h
set_option maxHeartbeats 1000000 in
theorem add_num (v : Value) (T : Text) (n : Int) (B : Nat) (w : World) (ho : OB w B v T) (hB : B ≤ w.heap.size) (hn : NR n) (hl : T.length ≤ 1000000000) : Calls Tryz.prog 41 #[v, .int .i64 n] w (AddB w B v (T ++ nB n)) := by
 have HN := Lib.hid (ref_nB hn w)
 have HO := Lib.hid ho
 have HL := Lib.hid (And.intro hB (And.intro hl (nB_len hn)))
 generalize nB n = D at HN HL ⊢
 clear ho hB hn hl
 go_enter Tryz.func41, Tryz.ntmps41
 go_wp2_with (go_at_call 70; refine HN.out.mono ?_; rintro e w1 ⟨g, c, rfl, hown, hb⟩; have HD := Lib.hid hown; have HB := Lib.hid hb; clear hown hb; refine Stop.out ?_)
 unfold Stop
 go_wp2_with (refine wpList_append_text (o := ⟨some 14, _, _, _, _, _⟩) rfl _ _ rfl rfl B v T.length (T.map cellOf) rfl ?o1 (some ⟨g, 0, none⟩) c D rfl ?o2 ?o3 ?o4 ?o6 ?_; (case o1 => exact own_below HO.out HB.out); (case o2 => exact .of_own HD.out); (case o3 => simp); (case o4 => have := HL.out; omega); (case o6 => exact Nat.le_trans HL.out.1 HB.out.size); intro v2 w2 hown2 hg2 hv2; have HA2 := Lib.hid (AddB.of HB.out HL.out.1 (own_below HO.out HB.out) hown2 hg2 hv2); clear hown2 hg2 hv2; refine Stop.out ?_)
 unfold Stop
 go_wp2
 go_ret
 exact HA2.out
set_option maxHeartbeats 1000000 in
theorem add_text (v : Value) (T : Text) (s : ByteArray) (B : Nat) (w : World) (ho : OB w B v T) (hB : B ≤ w.heap.size) (hn : s.size ≤ 65536) (hl : T.length ≤ 1000000000) : Calls Tryz.prog 42 #[v, .string s] w (AddB w B v (T ++ sB s)) := by
 have HN := Lib.hid (ref_sB hn w)
 have HO := Lib.hid ho
 have HL := Lib.hid (And.intro hB (And.intro hl (sB_len s)))
 generalize sB s = D at HN HL ⊢
 clear ho hB hn hl
 go_enter Tryz.func42, Tryz.ntmps42
 go_wp2_with (go_at_call 71; refine HN.out.mono ?_; rintro e w1 ⟨g, c, rfl, hown, hb⟩; have HD := Lib.hid hown; have HB := Lib.hid hb; clear hown hb; refine Stop.out ?_)
 unfold Stop
 go_wp2_with (refine wpList_append_text (o := ⟨some 14, _, _, _, _, _⟩) rfl _ _ rfl rfl B v T.length (T.map cellOf) rfl ?o1 (some ⟨g, 0, none⟩) c D rfl ?o2 ?o3 ?o4 ?o6 ?_; (case o1 => exact own_below HO.out HB.out); (case o2 => exact .of_own HD.out); (case o3 => simp); (case o4 => have := HL.out; omega); (case o6 => exact Nat.le_trans HL.out.1 HB.out.size); intro v2 w2 hown2 hg2 hv2; have HA2 := Lib.hid (AddB.of HB.out HL.out.1 (own_below HO.out HB.out) hown2 hg2 hv2); clear hown2 hg2 hv2; refine Stop.out ?_)
 unfold Stop
 go_wp2
 go_ret
 exact HA2.out
set_option maxHeartbeats 1000000 in
theorem add_flag (v : Value) (T : Text) (f : Bool) (B : Nat) (w : World) (ho : OB w B v T) (hB : B ≤ w.heap.size) (hl : T.length ≤ 1000000000) : Calls Tryz.prog 72 #[v, .bool f] w (AddB w B v (T ++ flagT f)) := by
 have HN := Lib.hid (ref_flag f w)
 have HO := Lib.hid ho
 have HL := Lib.hid (And.intro hB (And.intro hl (flagT_len f)))
 generalize flagT f = D at HN HL ⊢
 clear ho hB hl
 go_enter Tryz.func72, Tryz.ntmps72
 go_wp2_with (go_at_call 96; refine HN.out.mono ?_; rintro e w1 ⟨g, c, rfl, hown, hb⟩; have HD := Lib.hid hown; have HB := Lib.hid hb; clear hown hb; refine Stop.out ?_)
 unfold Stop
 go_wp2_with (refine wpList_append_text (o := ⟨some 8, _, _, _, _, _⟩) rfl _ _ rfl rfl B v T.length (T.map cellOf) rfl ?o1 (some ⟨g, 0, none⟩) c D rfl ?o2 ?o3 ?o4 ?o6 ?_; (case o1 => exact own_below HO.out HB.out); (case o2 => exact .of_own HD.out); (case o3 => simp); (case o4 => have := HL.out; omega); (case o6 => exact Nat.le_trans HL.out.1 HB.out.size); intro v2 w2 hown2 hg2 hv2; have HA2 := Lib.hid (AddB.of HB.out HL.out.1 (own_below HO.out HB.out) hown2 hg2 hv2); clear hown2 hg2 hv2; refine Stop.out ?_)
 unfold Stop
 go_wp2
 go_ret
 exact HA2.out
/-- bytes of the call's own beside some boxes, and how many they are at most -/
def OY (w : World) (B : Nat) (v : Value) (T : Text) (L : List (Nat × Obj)) (N : Nat) : Prop := OB w B v T ∧ (∀ p ∈ L, w.heap[p.1]? = some p.2 ∧ v.ownBlock ≠ some p.1) ∧ B ≤ w.heap.size ∧ T.length ≤ N
theorem OY.of {w w1 : World} {B N : Nat} {v0 : Value} {T0 D : Text} {L : List (Nat × Obj)} {e : Ending} (h : OY w B v0 T0 L N) (ha : AddB w B v0 (T0 ++ D) e w1) (hD : D.length ≤ 70000) : ∃ v, e = .returned v ∧ OY w1 B v (T0 ++ D) L (N + 70000) ∧ Below B w w1 := by
 obtain ⟨v, he, ho, hb, hf⟩ := ha
 refine ⟨v, he, ⟨ho, fun p hp => hf p.1 p.2 (h.2.1 p hp).1 (h.2.1 p hp).2, Nat.le_trans h.2.2.1 hb.size, ?_⟩, hb⟩
 rw [List.length_append]
 have := h.2.2.2
 omega
theorem OY.num {w : World} {B N : Nat} {v : Value} {T : Text} {L : List (Nat × Obj)} (h : OY w B v T L N) (n : Int) (hn : NR n) (hl : N ≤ 1000000000) :
 Calls Tryz.prog 41 #[v, .int .i64 n] w fun e w1 => ∃ v1, e = .returned v1 ∧ OY w1 B v1 (T ++ nB n) L (N + 70000) ∧ Below B w w1 := (add_num v T n B w h.1 h.2.2.1 hn (Nat.le_trans h.2.2.2 hl)).mono fun e w1 ha => h.of ha (nB_len hn)
theorem OY.text {w : World} {B N : Nat} {v : Value} {T : Text} {L : List (Nat × Obj)} (h : OY w B v T L N) (s : ByteArray) (hn : s.size ≤ 65536) (hl : N ≤ 1000000000) :
 Calls Tryz.prog 42 #[v, .string s] w fun e w1 => ∃ v1, e = .returned v1 ∧ OY w1 B v1 (T ++ sB s) L (N + 70000) ∧ Below B w w1 := (add_text v T s B w h.1 h.2.2.1 hn (Nat.le_trans h.2.2.2 hl)).mono fun e w1 ha => h.of ha (sB_len s)
theorem OY.flag {w : World} {B N : Nat} {v : Value} {T : Text} {L : List (Nat × Obj)} (h : OY w B v T L N) (f : Bool) (hl : N ≤ 1000000000) :
 Calls Tryz.prog 72 #[v, .bool f] w fun e w1 => ∃ v1, e = .returned v1 ∧ OY w1 B v1 (T ++ flagT f) L (N + 70000) ∧ Below B w w1 := (add_flag v T f B w h.1 h.2.2.1 (Nat.le_trans h.2.2.2 hl)).mono fun e w1 ha => h.of ha (flagT_len f)
theorem OY.start {w : World} {B N : Nat} {v : Value} {T : Text} {L : List (Nat × Obj)} (h : OY w B v T L N) (o : Obj) : OY (w.alloc o) B v T ((w.heap.size, o) :: L) N := by
 refine ⟨h.1.on (below_alloc w o), fun p hp => ?_, by have := h.2.2.1; simp; omega, h.2.2.2⟩
 rcases List.mem_cons.1 hp with rfl | hp
 · exact ⟨heap_alloc_new w o, fun e => by have := (h.1.lt w.heap.size e).2; omega⟩
 · exact ⟨heap_on (below_alloc w o) (h.2.1 p hp).1, (h.2.1 p hp).2⟩
theorem OY.drop {w : World} {B N : Nat} {v : Value} {T : Text} {p : Nat × Obj} {L : List (Nat × Obj)} (h : OY w B v T (p :: L) N) : OY w B v T L N := ⟨h.1, fun q hq => h.2.1 q (List.mem_cons_of_mem _ hq), h.2.2⟩
theorem OY.box {w : World} {B N b : Nat} {v : Value} {T : Text} {o : Obj} {L : List (Nat × Obj)} (h : OY w B v T ((b, o) :: L) N) : w.heap[b]? = some o := (h.2.1 (b, o) (List.mem_cons_self ..)).1
theorem OY.box2 {w : World} {B N b : Nat} {v : Value} {T : Text} {o : Obj} {p : Nat × Obj} {L : List (Nat × Obj)} (h : OY w B v T (p :: (b, o) :: L) N) : w.heap[b]? = some o := h.drop.box
theorem OY.drew {w : World} {B N : Nat} {v : Value} {T : Text} {L : List (Nat × Obj)} (h : OY w B v T L N) : OY w.drew B v T L N := ⟨h.1.on (below_drew w), h.2.1, h.2.2⟩
theorem OY.to {w : World} {B N N' : Nat} {v : Value} {T T' : Text} {L : List (Nat × Obj)} (h : OY w B v T L N) (hT : T = T') (hN : N ≤ N') : OY w B v T' L N' := by
 subst hT
 exact ⟨h.1, h.2.1, h.2.2.1, Nat.le_trans h.2.2.2 hN⟩
end Go.Proofs.YtmjjenemokojjaaGreat

namespace Go.Proofs.YtmjjenemokojjaaGreat

theorem likeL_self (p : LineV) : likeL p p = true := by
 unfold likeL
 simp
theorem likes_self (L : List LineV) : likes L L = true := by
 unfold likes
 rw [beq_self_eq_true, Bool.true_and, List.all_eq_true]
 intro z hz
 obtain ⟨i, hi, rfl⟩ := List.getElem_of_mem hz
 rw [List.getElem_zip]
 exact likeL_self _
theorem sameD_self (x : DocV) : sameD x x = true := by
 unfold sameD
 simp [likes_self]
theorem sameC_self (x : CmdV) : sameC x x = true := by
 unfold sameC
 simp [sameD_self]
end Go.Proofs.YtmjjenemokojjaaGreat
