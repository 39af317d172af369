/- Commands as bytes, written, by kinds. -/
import Derived.Test.YtplghpamckdklaaGreatE12
import Derived.Test.YtplghpamckdklaaGreatE36
import Derived.Test.YtplghpamckdklaaGreatE25
import Derived.WalkMore
namespace Go.Proofs.YtplghpamckdklaaGreat
open Go.RowKit
set_option maxRecDepth 100000
set_option linter.unusedSimpArgs false
set_option linter.unusedVariables false

set_option maxHeartbeats 4000000 in
theorem write_1 (cs : Array Value) (x : CmdV) (B g N : Nat) (S : Option Text) (v : Value) (w : World) (hw : Wrt w B g S v) (hB : B ≤ w.heap.size) (hl : (S.getD []).length ≤ N) (hN : N ≤ 1000000000) (hk : cs[0]? = some (.int .i64 1)) (h1 : cs[1]? = some (.string x.state)) (h5 : cs[5]? = some (.int .i64 x.from_)) (h9 : cs[9]? = some (.int .i64 x.index)) (b1 : x.state.size ≤ 9223372036854775807) (b5 : -9223372036854775808 ≤ x.from_ ∧ x.from_ ≤ 9223372036854775807) (b9 : -9223372036854775808 ≤ x.index ∧ x.index ≤ 9223372036854775807) : Calls Tryz.prog 39 #[.pointer (some ⟨g, 0, none⟩), .agg cs] w fun e w1 => Wrote w B g (nextS (nextS (nextS (nextS S (docN 1)) (docS x.state)) (docN x.index)) (docN x.from_)) e w1 := by
 have HSa := Lib.hid (WN.start hw hB hl (.cells cs 28 (0, 0)))
 have HWa := Lib.hid ((Below.refl B w).alloc hB (.cells cs 28 (0, 0)))
 have HN := Lib.hid hN
 have HH := Lib.hid (And.intro h1 (And.intro h5 h9))
 have HR := Lib.hid (And.intro b1 (And.intro b5 b9))
 have HK := Lib.hid hk
 have k0 := (cell_of_row _ _ 0 _ _ _ HSa.out.box).trans hk
 clear hw hB hl hN hk h1 h5 h9 b1 b5 b9
 go_enter Tryz.func39, Tryz.ntmps39
 go_wp2_with (go_at_call 66; refine (HSa.out.num 1 (by decide) (by decide) (by have := HN.out; omega)).mono ?_; rintro e w1 ⟨rfl, hs, hb⟩; have HSb := Lib.hid hs; have HWb := Lib.hid (HWa.out.trans hb); clear hs hb k0; have k0 := (cell_of_row _ _ 0 _ _ _ HSb.out.box).trans HK.out; refine Stop.out ?_)
 unfold Stop
 go_wp2
 have HScd := Lib.hid HSb.out.drew
 have HWcd := Lib.hid (HWb.out.trans ((Below.refl _ _).drew))
 (try clear k0)
 refine wp_region_held_drew (S := fun V => V.heap[w.heap.size]? = some (.cells cs 28 (0, 0))) (by kernel_rfl) HScd.out.box ?_
 intro hHeld
 generalize World.drew _ = wdc at HScd HWcd hHeld ⊢
 (refine takeP (i := 0) ?_ rfl (.inl ⟨by rfl, ?_⟩) ?_; rotate_left; (focus ((intro wS hSw); (try dsimp only at hSw); have s0 := (cell_of_row wS w.heap.size 1 _ _ _ hSw).trans HH.out.1; have s1 := (cell_of_row wS w.heap.size 5 _ _ _ hSw).trans HH.out.2.1; have s2 := (cell_of_row wS w.heap.size 9 _ _ _ hSw).trans HH.out.2.2; go_simp; (try with_reducible rfl); done)); (try simp only [Act.put, pA, pB, pC]))
 (refine takeP (i := 1) ?_ rfl (.inl ⟨by rfl, ?_⟩) ?_; rotate_left; (focus ((intro wS hSw); (try dsimp only at hSw); have s0 := (cell_of_row wS w.heap.size 1 _ _ _ hSw).trans HH.out.1; have s1 := (cell_of_row wS w.heap.size 5 _ _ _ hSw).trans HH.out.2.1; have s2 := (cell_of_row wS w.heap.size 9 _ _ _ hSw).trans HH.out.2.2; go_simp; (try with_reducible rfl); done)); (try simp only [Act.put, pA, pB, pC]))
 (refine takeP (i := 2) ?_ rfl (.inl ⟨by rfl, ?_⟩) ?_; rotate_left; (focus ((intro wS hSw); (try dsimp only at hSw); have s0 := (cell_of_row wS w.heap.size 1 _ _ _ hSw).trans HH.out.1; have s1 := (cell_of_row wS w.heap.size 5 _ _ _ hSw).trans HH.out.2.1; have s2 := (cell_of_row wS w.heap.size 9 _ _ _ hSw).trans HH.out.2.2; go_simp; (try with_reducible rfl); done)); (try simp only [Act.put, pA, pB, pC]))
 (refine takeP (i := 4) ?_ rfl (.inl ⟨by rfl, ?_⟩) ?_; rotate_left; (focus ((intro wS hSw); (try dsimp only at hSw); have s0 := (cell_of_row wS w.heap.size 1 _ _ _ hSw).trans HH.out.1; have s1 := (cell_of_row wS w.heap.size 5 _ _ _ hSw).trans HH.out.2.1; have s2 := (cell_of_row wS w.heap.size 9 _ _ _ hSw).trans HH.out.2.2; go_simp; (try with_reducible rfl); done)); (try simp only [Act.put, pA, pB, pC]))
 (refine takeP (i := 5) ?_ rfl (.inl ⟨by rfl, ?_⟩) ?_; rotate_left; (focus ((intro wS hSw); (try dsimp only at hSw); have s0 := (cell_of_row wS w.heap.size 1 _ _ _ hSw).trans HH.out.1; have s1 := (cell_of_row wS w.heap.size 5 _ _ _ hSw).trans HH.out.2.1; have s2 := (cell_of_row wS w.heap.size 9 _ _ _ hSw).trans HH.out.2.2; go_simp; (try with_reducible rfl); done)); (try simp only [Act.put, pA, pB, pC]))
 (refine takeP (i := 7) ?_ rfl (.inl ⟨by rfl, ?_⟩) ?_; rotate_left; (focus ((intro wS hSw); (try dsimp only at hSw); have s0 := (cell_of_row wS w.heap.size 1 _ _ _ hSw).trans HH.out.1; have s1 := (cell_of_row wS w.heap.size 5 _ _ _ hSw).trans HH.out.2.1; have s2 := (cell_of_row wS w.heap.size 9 _ _ _ hSw).trans HH.out.2.2; go_simp; (try with_reducible rfl); done)); (try simp only [Act.put, pA, pB, pC]))
 (refine takeP (i := 8) ?_ rfl (.inl ⟨by rfl, ?_⟩) ?_; rotate_left; (focus ((intro wS hSw); (try dsimp only at hSw); have s0 := (cell_of_row wS w.heap.size 1 _ _ _ hSw).trans HH.out.1; have s1 := (cell_of_row wS w.heap.size 5 _ _ _ hSw).trans HH.out.2.1; have s2 := (cell_of_row wS w.heap.size 9 _ _ _ hSw).trans HH.out.2.2; go_simp; (try with_reducible rfl); done)); (try simp only [Act.put, pA, pB, pC]))
 refine aloneH (i := 3) rfl (by kernel_rfl) (fun K hK => ?_)
 rw [if_pos (by rfl)]
 go_simp; ((refine (HScd.out.text x.state HR.out.1 (by have := HN.out; omega)).mono ?_); (rintro e wc1 ⟨rfl, hs, hb⟩); have HSc1 := Lib.hid hs; have HWc1 := Lib.hid (HWcd.out.trans hb); clear hs hb; (try go_simp))
 refine hK.out _ _ (HSc1.out.box) ?_
 clear hK K hHeld; intro hHeld; (try simp only [Act.put, pA, pB, pC])
 refine aloneH (i := 6) rfl (by kernel_rfl) (fun K hK => ?_)
 rw [if_pos (by rfl)]
 go_simp; ((refine (HSc1.out.num x.index HR.out.2.2.1 HR.out.2.2.2 (by have := HN.out; omega)).mono ?_); (rintro e wc2 ⟨rfl, hs, hb⟩); have HSc2 := Lib.hid hs; have HWc2 := Lib.hid (HWc1.out.trans hb); clear hs hb; (try go_simp))
 refine hK.out _ _ (HSc2.out.box) ?_
 clear hK K hHeld; intro hHeld; (try simp only [Act.put, pA, pB, pC])
 refine aloneH (i := 9) rfl (by kernel_rfl) (fun K hK => ?_)
 rw [if_pos (by rfl)]
 go_simp; ((refine (HSc2.out.num x.from_ HR.out.2.1.1 HR.out.2.1.2 (by have := HN.out; omega)).mono ?_); (rintro e wc3 ⟨rfl, hs, hb⟩); have HSc3 := Lib.hid hs; have HWc3 := Lib.hid (HWc2.out.trans hb); clear hs hb; (try go_simp))
 refine hK.out _ _ (HSc3.out.box) ?_
 clear hK K hHeld; intro hHeld; (try simp only [Act.put, pA, pB, pC])
 refine wpAnyH_done (by kernel_rfl) ?_ _
 clear hHeld
 go_wp2
 go_end0
 obtain ⟨⟨v9, q1, _⟩, _⟩ := HSc3.out
 exact ⟨rfl, ⟨v9, q1⟩, HWc3.out⟩
set_option maxHeartbeats 4000000 in
theorem write_2 (cs : Array Value) (x : CmdV) (B g N : Nat) (S : Option Text) (v : Value) (w : World) (hw : Wrt w B g S v) (hB : B ≤ w.heap.size) (hl : (S.getD []).length ≤ N) (hN : N ≤ 1000000000) (hk : cs[0]? = some (.int .i64 2)) (h1 : cs[1]? = some (.string x.state)) (h3 : cs[3]? = some (.int .i64 x.category)) (h4 : cs[4]? = some (.int .i64 x.bp)) (h5 : cs[5]? = some (.int .i64 x.from_)) (h6 : cs[6]? = some (.int .i64 x.until_)) (b1 : x.state.size ≤ 9223372036854775807) (b3 : -9223372036854775808 ≤ x.category ∧ x.category ≤ 9223372036854775807) (b4 : -9223372036854775808 ≤ x.bp ∧ x.bp ≤ 9223372036854775807) (b5 : -9223372036854775808 ≤ x.from_ ∧ x.from_ ≤ 9223372036854775807) (b6 : -9223372036854775808 ≤ x.until_ ∧ x.until_ ≤ 9223372036854775807) : Calls Tryz.prog 39 #[.pointer (some ⟨g, 0, none⟩), .agg cs] w fun e w1 => Wrote w B g (nextS (nextS (nextS (nextS (nextS (nextS S (docN 2)) (docS x.state)) (docN x.category)) (docN x.from_)) (docN x.until_)) (docN x.bp)) e w1 := by
 have HSa := Lib.hid (WN.start hw hB hl (.cells cs 28 (0, 0)))
 have HWa := Lib.hid ((Below.refl B w).alloc hB (.cells cs 28 (0, 0)))
 have HN := Lib.hid hN
 have HH := Lib.hid (And.intro h1 (And.intro h3 (And.intro h4 (And.intro h5 h6))))
 have HR := Lib.hid (And.intro b1 (And.intro b3 (And.intro b4 (And.intro b5 b6))))
 have HK := Lib.hid hk
 have k0 := (cell_of_row _ _ 0 _ _ _ HSa.out.box).trans hk
 clear hw hB hl hN hk h1 h3 h4 h5 h6 b1 b3 b4 b5 b6
 go_enter Tryz.func39, Tryz.ntmps39
 go_wp2_with (go_at_call 66; refine (HSa.out.num 2 (by decide) (by decide) (by have := HN.out; omega)).mono ?_; rintro e w1 ⟨rfl, hs, hb⟩; have HSb := Lib.hid hs; have HWb := Lib.hid (HWa.out.trans hb); clear hs hb k0; have k0 := (cell_of_row _ _ 0 _ _ _ HSb.out.box).trans HK.out; refine Stop.out ?_)
 unfold Stop
 go_wp2
 have HScd := Lib.hid HSb.out.drew
 have HWcd := Lib.hid (HWb.out.trans ((Below.refl _ _).drew))
 (try clear k0)
 refine wp_region_held_drew (S := fun V => V.heap[w.heap.size]? = some (.cells cs 28 (0, 0))) (by kernel_rfl) HScd.out.box ?_
 intro hHeld
 generalize World.drew _ = wdc at HScd HWcd hHeld ⊢
 (refine takeP (i := 0) ?_ rfl (.inl ⟨by rfl, ?_⟩) ?_; rotate_left; (focus ((intro wS hSw); (try dsimp only at hSw); have s0 := (cell_of_row wS w.heap.size 1 _ _ _ hSw).trans HH.out.1; have s1 := (cell_of_row wS w.heap.size 3 _ _ _ hSw).trans HH.out.2.1; have s2 := (cell_of_row wS w.heap.size 4 _ _ _ hSw).trans HH.out.2.2.1; have s3 := (cell_of_row wS w.heap.size 5 _ _ _ hSw).trans HH.out.2.2.2.1; have s4 := (cell_of_row wS w.heap.size 6 _ _ _ hSw).trans HH.out.2.2.2.2; go_simp; (try with_reducible rfl); done)); (try simp only [Act.put, pA, pB, pC]))
 (refine takeP (i := 1) ?_ rfl (.inl ⟨by rfl, ?_⟩) ?_; rotate_left; (focus ((intro wS hSw); (try dsimp only at hSw); have s0 := (cell_of_row wS w.heap.size 1 _ _ _ hSw).trans HH.out.1; have s1 := (cell_of_row wS w.heap.size 3 _ _ _ hSw).trans HH.out.2.1; have s2 := (cell_of_row wS w.heap.size 4 _ _ _ hSw).trans HH.out.2.2.1; have s3 := (cell_of_row wS w.heap.size 5 _ _ _ hSw).trans HH.out.2.2.2.1; have s4 := (cell_of_row wS w.heap.size 6 _ _ _ hSw).trans HH.out.2.2.2.2; go_simp; (try with_reducible rfl); done)); (try simp only [Act.put, pA, pB, pC]))
 (refine takeP (i := 2) ?_ rfl (.inl ⟨by rfl, ?_⟩) ?_; rotate_left; (focus ((intro wS hSw); (try dsimp only at hSw); have s0 := (cell_of_row wS w.heap.size 1 _ _ _ hSw).trans HH.out.1; have s1 := (cell_of_row wS w.heap.size 3 _ _ _ hSw).trans HH.out.2.1; have s2 := (cell_of_row wS w.heap.size 4 _ _ _ hSw).trans HH.out.2.2.1; have s3 := (cell_of_row wS w.heap.size 5 _ _ _ hSw).trans HH.out.2.2.2.1; have s4 := (cell_of_row wS w.heap.size 6 _ _ _ hSw).trans HH.out.2.2.2.2; go_simp; (try with_reducible rfl); done)); (try simp only [Act.put, pA, pB, pC]))
 (refine takeP (i := 4) ?_ rfl (.inl ⟨by rfl, ?_⟩) ?_; rotate_left; (focus ((intro wS hSw); (try dsimp only at hSw); have s0 := (cell_of_row wS w.heap.size 1 _ _ _ hSw).trans HH.out.1; have s1 := (cell_of_row wS w.heap.size 3 _ _ _ hSw).trans HH.out.2.1; have s2 := (cell_of_row wS w.heap.size 4 _ _ _ hSw).trans HH.out.2.2.1; have s3 := (cell_of_row wS w.heap.size 5 _ _ _ hSw).trans HH.out.2.2.2.1; have s4 := (cell_of_row wS w.heap.size 6 _ _ _ hSw).trans HH.out.2.2.2.2; go_simp; (try with_reducible rfl); done)); (try simp only [Act.put, pA, pB, pC]))
 (refine takeP (i := 5) ?_ rfl (.inl ⟨by rfl, ?_⟩) ?_; rotate_left; (focus ((intro wS hSw); (try dsimp only at hSw); have s0 := (cell_of_row wS w.heap.size 1 _ _ _ hSw).trans HH.out.1; have s1 := (cell_of_row wS w.heap.size 3 _ _ _ hSw).trans HH.out.2.1; have s2 := (cell_of_row wS w.heap.size 4 _ _ _ hSw).trans HH.out.2.2.1; have s3 := (cell_of_row wS w.heap.size 5 _ _ _ hSw).trans HH.out.2.2.2.1; have s4 := (cell_of_row wS w.heap.size 6 _ _ _ hSw).trans HH.out.2.2.2.2; go_simp; (try with_reducible rfl); done)); (try simp only [Act.put, pA, pB, pC]))
 (refine takeP (i := 7) ?_ rfl (.inl ⟨by rfl, ?_⟩) ?_; rotate_left; (focus ((intro wS hSw); (try dsimp only at hSw); have s0 := (cell_of_row wS w.heap.size 1 _ _ _ hSw).trans HH.out.1; have s1 := (cell_of_row wS w.heap.size 3 _ _ _ hSw).trans HH.out.2.1; have s2 := (cell_of_row wS w.heap.size 4 _ _ _ hSw).trans HH.out.2.2.1; have s3 := (cell_of_row wS w.heap.size 5 _ _ _ hSw).trans HH.out.2.2.2.1; have s4 := (cell_of_row wS w.heap.size 6 _ _ _ hSw).trans HH.out.2.2.2.2; go_simp; (try with_reducible rfl); done)); (try simp only [Act.put, pA, pB, pC]))
 (refine takeP (i := 8) ?_ rfl (.inl ⟨by rfl, ?_⟩) ?_; rotate_left; (focus ((intro wS hSw); (try dsimp only at hSw); have s0 := (cell_of_row wS w.heap.size 1 _ _ _ hSw).trans HH.out.1; have s1 := (cell_of_row wS w.heap.size 3 _ _ _ hSw).trans HH.out.2.1; have s2 := (cell_of_row wS w.heap.size 4 _ _ _ hSw).trans HH.out.2.2.1; have s3 := (cell_of_row wS w.heap.size 5 _ _ _ hSw).trans HH.out.2.2.2.1; have s4 := (cell_of_row wS w.heap.size 6 _ _ _ hSw).trans HH.out.2.2.2.2; go_simp; (try with_reducible rfl); done)); (try simp only [Act.put, pA, pB, pC]))
 (refine takeP (i := 10) ?_ rfl (.inl ⟨by rfl, ?_⟩) ?_; rotate_left; (focus ((intro wS hSw); (try dsimp only at hSw); have s0 := (cell_of_row wS w.heap.size 1 _ _ _ hSw).trans HH.out.1; have s1 := (cell_of_row wS w.heap.size 3 _ _ _ hSw).trans HH.out.2.1; have s2 := (cell_of_row wS w.heap.size 4 _ _ _ hSw).trans HH.out.2.2.1; have s3 := (cell_of_row wS w.heap.size 5 _ _ _ hSw).trans HH.out.2.2.2.1; have s4 := (cell_of_row wS w.heap.size 6 _ _ _ hSw).trans HH.out.2.2.2.2; go_simp; (try with_reducible rfl); done)); (try simp only [Act.put, pA, pB, pC]))
 (refine takeP (i := 11) ?_ rfl (.inl ⟨by rfl, ?_⟩) ?_; rotate_left; (focus ((intro wS hSw); (try dsimp only at hSw); have s0 := (cell_of_row wS w.heap.size 1 _ _ _ hSw).trans HH.out.1; have s1 := (cell_of_row wS w.heap.size 3 _ _ _ hSw).trans HH.out.2.1; have s2 := (cell_of_row wS w.heap.size 4 _ _ _ hSw).trans HH.out.2.2.1; have s3 := (cell_of_row wS w.heap.size 5 _ _ _ hSw).trans HH.out.2.2.2.1; have s4 := (cell_of_row wS w.heap.size 6 _ _ _ hSw).trans HH.out.2.2.2.2; go_simp; (try with_reducible rfl); done)); (try simp only [Act.put, pA, pB, pC]))
 (refine takeP (i := 13) ?_ rfl (.inl ⟨by rfl, ?_⟩) ?_; rotate_left; (focus ((intro wS hSw); (try dsimp only at hSw); have s0 := (cell_of_row wS w.heap.size 1 _ _ _ hSw).trans HH.out.1; have s1 := (cell_of_row wS w.heap.size 3 _ _ _ hSw).trans HH.out.2.1; have s2 := (cell_of_row wS w.heap.size 4 _ _ _ hSw).trans HH.out.2.2.1; have s3 := (cell_of_row wS w.heap.size 5 _ _ _ hSw).trans HH.out.2.2.2.1; have s4 := (cell_of_row wS w.heap.size 6 _ _ _ hSw).trans HH.out.2.2.2.2; go_simp; (try with_reducible rfl); done)); (try simp only [Act.put, pA, pB, pC]))
 (refine takeP (i := 14) ?_ rfl (.inl ⟨by rfl, ?_⟩) ?_; rotate_left; (focus ((intro wS hSw); (try dsimp only at hSw); have s0 := (cell_of_row wS w.heap.size 1 _ _ _ hSw).trans HH.out.1; have s1 := (cell_of_row wS w.heap.size 3 _ _ _ hSw).trans HH.out.2.1; have s2 := (cell_of_row wS w.heap.size 4 _ _ _ hSw).trans HH.out.2.2.1; have s3 := (cell_of_row wS w.heap.size 5 _ _ _ hSw).trans HH.out.2.2.2.1; have s4 := (cell_of_row wS w.heap.size 6 _ _ _ hSw).trans HH.out.2.2.2.2; go_simp; (try with_reducible rfl); done)); (try simp only [Act.put, pA, pB, pC]))
 refine aloneH (i := 3) rfl (by kernel_rfl) (fun K hK => ?_)
 rw [if_pos (by rfl)]
 go_simp; ((refine (HScd.out.text x.state HR.out.1 (by have := HN.out; omega)).mono ?_); (rintro e wc1 ⟨rfl, hs, hb⟩); have HSc1 := Lib.hid hs; have HWc1 := Lib.hid (HWcd.out.trans hb); clear hs hb; (try go_simp))
 refine hK.out _ _ (HSc1.out.box) ?_
 clear hK K hHeld; intro hHeld; (try simp only [Act.put, pA, pB, pC])
 refine aloneH (i := 6) rfl (by kernel_rfl) (fun K hK => ?_)
 rw [if_pos (by rfl)]
 go_simp; ((refine (HSc1.out.num x.category HR.out.2.1.1 HR.out.2.1.2 (by have := HN.out; omega)).mono ?_); (rintro e wc2 ⟨rfl, hs, hb⟩); have HSc2 := Lib.hid hs; have HWc2 := Lib.hid (HWc1.out.trans hb); clear hs hb; (try go_simp))
 refine hK.out _ _ (HSc2.out.box) ?_
 clear hK K hHeld; intro hHeld; (try simp only [Act.put, pA, pB, pC])
 refine aloneH (i := 9) rfl (by kernel_rfl) (fun K hK => ?_)
 rw [if_pos (by rfl)]
 go_simp; ((refine (HSc2.out.num x.from_ HR.out.2.2.2.1.1 HR.out.2.2.2.1.2 (by have := HN.out; omega)).mono ?_); (rintro e wc3 ⟨rfl, hs, hb⟩); have HSc3 := Lib.hid hs; have HWc3 := Lib.hid (HWc2.out.trans hb); clear hs hb; (try go_simp))
 refine hK.out _ _ (HSc3.out.box) ?_
 clear hK K hHeld; intro hHeld; (try simp only [Act.put, pA, pB, pC])
 refine aloneH (i := 12) rfl (by kernel_rfl) (fun K hK => ?_)
 rw [if_pos (by rfl)]
 go_simp; ((refine (HSc3.out.num x.until_ HR.out.2.2.2.2.1 HR.out.2.2.2.2.2 (by have := HN.out; omega)).mono ?_); (rintro e wc4 ⟨rfl, hs, hb⟩); have HSc4 := Lib.hid hs; have HWc4 := Lib.hid (HWc3.out.trans hb); clear hs hb; (try go_simp))
 refine hK.out _ _ (HSc4.out.box) ?_
 clear hK K hHeld; intro hHeld; (try simp only [Act.put, pA, pB, pC])
 refine aloneH (i := 15) rfl (by kernel_rfl) (fun K hK => ?_)
 rw [if_pos (by rfl)]
 go_simp; ((refine (HSc4.out.num x.bp HR.out.2.2.1.1 HR.out.2.2.1.2 (by have := HN.out; omega)).mono ?_); (rintro e wc5 ⟨rfl, hs, hb⟩); have HSc5 := Lib.hid hs; have HWc5 := Lib.hid (HWc4.out.trans hb); clear hs hb; (try go_simp))
 refine hK.out _ _ (HSc5.out.box) ?_
 clear hK K hHeld; intro hHeld; (try simp only [Act.put, pA, pB, pC])
 refine wpAnyH_done (by kernel_rfl) ?_ _
 clear hHeld
 go_wp2
 go_end0
 obtain ⟨⟨v9, q1, _⟩, _⟩ := HSc5.out
 exact ⟨rfl, ⟨v9, q1⟩, HWc5.out⟩
set_option maxHeartbeats 4000000 in
theorem write_3 (cs : Array Value) (x : CmdV) (B g N : Nat) (S : Option Text) (v : Value) (w : World) (hw : Wrt w B g S v) (hB : B ≤ w.heap.size) (hl : (S.getD []).length ≤ N) (hN : N ≤ 1000000000) (hk : cs[0]? = some (.int .i64 3)) (h5 : cs[5]? = some (.int .i64 x.from_)) (h6 : cs[6]? = some (.int .i64 x.until_)) (b5 : -9223372036854775808 ≤ x.from_ ∧ x.from_ ≤ 9223372036854775807) (b6 : -9223372036854775808 ≤ x.until_ ∧ x.until_ ≤ 9223372036854775807) : Calls Tryz.prog 39 #[.pointer (some ⟨g, 0, none⟩), .agg cs] w fun e w1 => Wrote w B g (nextS (nextS (nextS S (docN 3)) (docN x.from_)) (docN x.until_)) e w1 := by
 have HSa := Lib.hid (WN.start hw hB hl (.cells cs 28 (0, 0)))
 have HWa := Lib.hid ((Below.refl B w).alloc hB (.cells cs 28 (0, 0)))
 have HN := Lib.hid hN
 have HH := Lib.hid (And.intro h5 h6)
 have HR := Lib.hid (And.intro b5 b6)
 have HK := Lib.hid hk
 have k0 := (cell_of_row _ _ 0 _ _ _ HSa.out.box).trans hk
 clear hw hB hl hN hk h5 h6 b5 b6
 go_enter Tryz.func39, Tryz.ntmps39
 go_wp2_with (go_at_call 66; refine (HSa.out.num 3 (by decide) (by decide) (by have := HN.out; omega)).mono ?_; rintro e w1 ⟨rfl, hs, hb⟩; have HSb := Lib.hid hs; have HWb := Lib.hid (HWa.out.trans hb); clear hs hb k0; have k0 := (cell_of_row _ _ 0 _ _ _ HSb.out.box).trans HK.out; refine Stop.out ?_)
 unfold Stop
 go_wp2
 have HScd := Lib.hid HSb.out.drew
 have HWcd := Lib.hid (HWb.out.trans ((Below.refl _ _).drew))
 (try clear k0)
 refine wp_region_held_drew (S := fun V => V.heap[w.heap.size]? = some (.cells cs 28 (0, 0))) (by kernel_rfl) HScd.out.box ?_
 intro hHeld
 generalize World.drew _ = wdc at HScd HWcd hHeld ⊢
 (refine takeP (i := 0) ?_ rfl (.inl ⟨by rfl, ?_⟩) ?_; rotate_left; (focus ((intro wS hSw); (try dsimp only at hSw); have s0 := (cell_of_row wS w.heap.size 5 _ _ _ hSw).trans HH.out.1; have s1 := (cell_of_row wS w.heap.size 6 _ _ _ hSw).trans HH.out.2; go_simp; (try with_reducible rfl); done)); (try simp only [Act.put, pA, pB, pC]))
 (refine takeP (i := 1) ?_ rfl (.inl ⟨by rfl, ?_⟩) ?_; rotate_left; (focus ((intro wS hSw); (try dsimp only at hSw); have s0 := (cell_of_row wS w.heap.size 5 _ _ _ hSw).trans HH.out.1; have s1 := (cell_of_row wS w.heap.size 6 _ _ _ hSw).trans HH.out.2; go_simp; (try with_reducible rfl); done)); (try simp only [Act.put, pA, pB, pC]))
 (refine takeP (i := 2) ?_ rfl (.inl ⟨by rfl, ?_⟩) ?_; rotate_left; (focus ((intro wS hSw); (try dsimp only at hSw); have s0 := (cell_of_row wS w.heap.size 5 _ _ _ hSw).trans HH.out.1; have s1 := (cell_of_row wS w.heap.size 6 _ _ _ hSw).trans HH.out.2; go_simp; (try with_reducible rfl); done)); (try simp only [Act.put, pA, pB, pC]))
 (refine takeP (i := 4) ?_ rfl (.inl ⟨by rfl, ?_⟩) ?_; rotate_left; (focus ((intro wS hSw); (try dsimp only at hSw); have s0 := (cell_of_row wS w.heap.size 5 _ _ _ hSw).trans HH.out.1; have s1 := (cell_of_row wS w.heap.size 6 _ _ _ hSw).trans HH.out.2; go_simp; (try with_reducible rfl); done)); (try simp only [Act.put, pA, pB, pC]))
 (refine takeP (i := 5) ?_ rfl (.inl ⟨by rfl, ?_⟩) ?_; rotate_left; (focus ((intro wS hSw); (try dsimp only at hSw); have s0 := (cell_of_row wS w.heap.size 5 _ _ _ hSw).trans HH.out.1; have s1 := (cell_of_row wS w.heap.size 6 _ _ _ hSw).trans HH.out.2; go_simp; (try with_reducible rfl); done)); (try simp only [Act.put, pA, pB, pC]))
 refine aloneH (i := 3) rfl (by kernel_rfl) (fun K hK => ?_)
 rw [if_pos (by rfl)]
 go_simp; ((refine (HScd.out.num x.from_ HR.out.1.1 HR.out.1.2 (by have := HN.out; omega)).mono ?_); (rintro e wc1 ⟨rfl, hs, hb⟩); have HSc1 := Lib.hid hs; have HWc1 := Lib.hid (HWcd.out.trans hb); clear hs hb; (try go_simp))
 refine hK.out _ _ (HSc1.out.box) ?_
 clear hK K hHeld; intro hHeld; (try simp only [Act.put, pA, pB, pC])
 refine aloneH (i := 6) rfl (by kernel_rfl) (fun K hK => ?_)
 rw [if_pos (by rfl)]
 go_simp; ((refine (HSc1.out.num x.until_ HR.out.2.1 HR.out.2.2 (by have := HN.out; omega)).mono ?_); (rintro e wc2 ⟨rfl, hs, hb⟩); have HSc2 := Lib.hid hs; have HWc2 := Lib.hid (HWc1.out.trans hb); clear hs hb; (try go_simp))
 refine hK.out _ _ (HSc2.out.box) ?_
 clear hK K hHeld; intro hHeld; (try simp only [Act.put, pA, pB, pC])
 refine wpAnyH_done (by kernel_rfl) ?_ _
 clear hHeld
 go_wp2
 go_end0
 obtain ⟨⟨v9, q1, _⟩, _⟩ := HSc2.out
 exact ⟨rfl, ⟨v9, q1⟩, HWc2.out⟩
set_option maxHeartbeats 4000000 in
theorem write_4 (cs : Array Value) (x : CmdV) (B g N : Nat) (S : Option Text) (v : Value) (w : World) (hw : Wrt w B g S v) (hB : B ≤ w.heap.size) (hl : (S.getD []).length ≤ N) (hN : N ≤ 1000000000) (hk : cs[0]? = some (.int .i64 4)) (h1 : cs[1]? = some (.string x.state)) (h2 : cs[2]? = some (.string x.text)) (h5 : cs[5]? = some (.int .i64 x.from_)) (h6 : cs[6]? = some (.int .i64 x.until_)) (b1 : x.state.size ≤ 9223372036854775807) (b2 : x.text.size ≤ 9223372036854775807) (b5 : -9223372036854775808 ≤ x.from_ ∧ x.from_ ≤ 9223372036854775807) (b6 : -9223372036854775808 ≤ x.until_ ∧ x.until_ ≤ 9223372036854775807) : Calls Tryz.prog 39 #[.pointer (some ⟨g, 0, none⟩), .agg cs] w fun e w1 => Wrote w B g (nextS (nextS (nextS (nextS (nextS S (docN 4)) (docS x.state)) (docS x.text)) (docN x.from_)) (docN x.until_)) e w1 := by
 have HSa := Lib.hid (WN.start hw hB hl (.cells cs 28 (0, 0)))
 have HWa := Lib.hid ((Below.refl B w).alloc hB (.cells cs 28 (0, 0)))
 have HN := Lib.hid hN
 have HH := Lib.hid (And.intro h1 (And.intro h2 (And.intro h5 h6)))
 have HR := Lib.hid (And.intro b1 (And.intro b2 (And.intro b5 b6)))
 have HK := Lib.hid hk
 have k0 := (cell_of_row _ _ 0 _ _ _ HSa.out.box).trans hk
 clear hw hB hl hN hk h1 h2 h5 h6 b1 b2 b5 b6
 go_enter Tryz.func39, Tryz.ntmps39
 go_wp2_with (go_at_call 66; refine (HSa.out.num 4 (by decide) (by decide) (by have := HN.out; omega)).mono ?_; rintro e w1 ⟨rfl, hs, hb⟩; have HSb := Lib.hid hs; have HWb := Lib.hid (HWa.out.trans hb); clear hs hb k0; have k0 := (cell_of_row _ _ 0 _ _ _ HSb.out.box).trans HK.out; refine Stop.out ?_)
 unfold Stop
 go_wp2
 have HScd := Lib.hid HSb.out.drew
 have HWcd := Lib.hid (HWb.out.trans ((Below.refl _ _).drew))
 (try clear k0)
 refine wp_region_held_drew (S := fun V => V.heap[w.heap.size]? = some (.cells cs 28 (0, 0))) (by kernel_rfl) HScd.out.box ?_
 intro hHeld
 generalize World.drew _ = wdc at HScd HWcd hHeld ⊢
 (refine takeP (i := 0) ?_ rfl (.inl ⟨by rfl, ?_⟩) ?_; rotate_left; (focus ((intro wS hSw); (try dsimp only at hSw); have s0 := (cell_of_row wS w.heap.size 1 _ _ _ hSw).trans HH.out.1; have s1 := (cell_of_row wS w.heap.size 2 _ _ _ hSw).trans HH.out.2.1; have s2 := (cell_of_row wS w.heap.size 5 _ _ _ hSw).trans HH.out.2.2.1; have s3 := (cell_of_row wS w.heap.size 6 _ _ _ hSw).trans HH.out.2.2.2; go_simp; (try with_reducible rfl); done)); (try simp only [Act.put, pA, pB, pC]))
 (refine takeP (i := 1) ?_ rfl (.inl ⟨by rfl, ?_⟩) ?_; rotate_left; (focus ((intro wS hSw); (try dsimp only at hSw); have s0 := (cell_of_row wS w.heap.size 1 _ _ _ hSw).trans HH.out.1; have s1 := (cell_of_row wS w.heap.size 2 _ _ _ hSw).trans HH.out.2.1; have s2 := (cell_of_row wS w.heap.size 5 _ _ _ hSw).trans HH.out.2.2.1; have s3 := (cell_of_row wS w.heap.size 6 _ _ _ hSw).trans HH.out.2.2.2; go_simp; (try with_reducible rfl); done)); (try simp only [Act.put, pA, pB, pC]))
 (refine takeP (i := 2) ?_ rfl (.inl ⟨by rfl, ?_⟩) ?_; rotate_left; (focus ((intro wS hSw); (try dsimp only at hSw); have s0 := (cell_of_row wS w.heap.size 1 _ _ _ hSw).trans HH.out.1; have s1 := (cell_of_row wS w.heap.size 2 _ _ _ hSw).trans HH.out.2.1; have s2 := (cell_of_row wS w.heap.size 5 _ _ _ hSw).trans HH.out.2.2.1; have s3 := (cell_of_row wS w.heap.size 6 _ _ _ hSw).trans HH.out.2.2.2; go_simp; (try with_reducible rfl); done)); (try simp only [Act.put, pA, pB, pC]))
 (refine takeP (i := 4) ?_ rfl (.inl ⟨by rfl, ?_⟩) ?_; rotate_left; (focus ((intro wS hSw); (try dsimp only at hSw); have s0 := (cell_of_row wS w.heap.size 1 _ _ _ hSw).trans HH.out.1; have s1 := (cell_of_row wS w.heap.size 2 _ _ _ hSw).trans HH.out.2.1; have s2 := (cell_of_row wS w.heap.size 5 _ _ _ hSw).trans HH.out.2.2.1; have s3 := (cell_of_row wS w.heap.size 6 _ _ _ hSw).trans HH.out.2.2.2; go_simp; (try with_reducible rfl); done)); (try simp only [Act.put, pA, pB, pC]))
 (refine takeP (i := 5) ?_ rfl (.inl ⟨by rfl, ?_⟩) ?_; rotate_left; (focus ((intro wS hSw); (try dsimp only at hSw); have s0 := (cell_of_row wS w.heap.size 1 _ _ _ hSw).trans HH.out.1; have s1 := (cell_of_row wS w.heap.size 2 _ _ _ hSw).trans HH.out.2.1; have s2 := (cell_of_row wS w.heap.size 5 _ _ _ hSw).trans HH.out.2.2.1; have s3 := (cell_of_row wS w.heap.size 6 _ _ _ hSw).trans HH.out.2.2.2; go_simp; (try with_reducible rfl); done)); (try simp only [Act.put, pA, pB, pC]))
 refine aloneH (i := 3) rfl (by kernel_rfl) (fun K hK => ?_)
 rw [if_pos (by rfl)]
 go_simp; ((refine (HScd.out.text x.state HR.out.1 (by have := HN.out; omega)).mono ?_); (rintro e wc1 ⟨rfl, hs, hb⟩); have HSc1 := Lib.hid hs; have HWc1 := Lib.hid (HWcd.out.trans hb); clear hs hb; (try go_simp))
 refine hK.out _ _ (HSc1.out.box) ?_
 clear hK K hHeld; intro hHeld; (try simp only [Act.put, pA, pB, pC])
 refine aloneH (i := 6) rfl (by kernel_rfl) (fun K hK => ?_)
 rw [if_pos (by rfl)]
 go_simp; ((refine (HSc1.out.text x.text HR.out.2.1 (by have := HN.out; omega)).mono ?_); (rintro e wc2 ⟨rfl, hs, hb⟩); have HSc2 := Lib.hid hs; have HWc2 := Lib.hid (HWc1.out.trans hb); clear hs hb; (try go_simp))
 refine hK.out _ _ (HSc2.out.box) ?_
 clear hK K hHeld; intro hHeld; (try simp only [Act.put, pA, pB, pC])
 refine wpAnyH_done (by kernel_rfl) ?_ _
 clear hHeld
 go_wp2
 have HSdd := Lib.hid HSc2.out.drew
 have HWdd := Lib.hid (HWc2.out.trans ((Below.refl _ _).drew))
 (try clear k0)
 refine wp_region_held_drew (S := fun V => V.heap[w.heap.size]? = some (.cells cs 28 (0, 0))) (by kernel_rfl) HSdd.out.box ?_
 intro hHeld
 generalize World.drew _ = wdd at HSdd HWdd hHeld ⊢
 (refine takeP (i := 0) ?_ rfl (.inl ⟨by rfl, ?_⟩) ?_; rotate_left; (focus ((intro wS hSw); (try dsimp only at hSw); have s0 := (cell_of_row wS w.heap.size 1 _ _ _ hSw).trans HH.out.1; have s1 := (cell_of_row wS w.heap.size 2 _ _ _ hSw).trans HH.out.2.1; have s2 := (cell_of_row wS w.heap.size 5 _ _ _ hSw).trans HH.out.2.2.1; have s3 := (cell_of_row wS w.heap.size 6 _ _ _ hSw).trans HH.out.2.2.2; go_simp; (try with_reducible rfl); done)); (try simp only [Act.put, pA, pB, pC]))
 (refine takeP (i := 1) ?_ rfl (.inl ⟨by rfl, ?_⟩) ?_; rotate_left; (focus ((intro wS hSw); (try dsimp only at hSw); have s0 := (cell_of_row wS w.heap.size 1 _ _ _ hSw).trans HH.out.1; have s1 := (cell_of_row wS w.heap.size 2 _ _ _ hSw).trans HH.out.2.1; have s2 := (cell_of_row wS w.heap.size 5 _ _ _ hSw).trans HH.out.2.2.1; have s3 := (cell_of_row wS w.heap.size 6 _ _ _ hSw).trans HH.out.2.2.2; go_simp; (try with_reducible rfl); done)); (try simp only [Act.put, pA, pB, pC]))
 (refine takeP (i := 2) ?_ rfl (.inl ⟨by rfl, ?_⟩) ?_; rotate_left; (focus ((intro wS hSw); (try dsimp only at hSw); have s0 := (cell_of_row wS w.heap.size 1 _ _ _ hSw).trans HH.out.1; have s1 := (cell_of_row wS w.heap.size 2 _ _ _ hSw).trans HH.out.2.1; have s2 := (cell_of_row wS w.heap.size 5 _ _ _ hSw).trans HH.out.2.2.1; have s3 := (cell_of_row wS w.heap.size 6 _ _ _ hSw).trans HH.out.2.2.2; go_simp; (try with_reducible rfl); done)); (try simp only [Act.put, pA, pB, pC]))
 (refine takeP (i := 4) ?_ rfl (.inl ⟨by rfl, ?_⟩) ?_; rotate_left; (focus ((intro wS hSw); (try dsimp only at hSw); have s0 := (cell_of_row wS w.heap.size 1 _ _ _ hSw).trans HH.out.1; have s1 := (cell_of_row wS w.heap.size 2 _ _ _ hSw).trans HH.out.2.1; have s2 := (cell_of_row wS w.heap.size 5 _ _ _ hSw).trans HH.out.2.2.1; have s3 := (cell_of_row wS w.heap.size 6 _ _ _ hSw).trans HH.out.2.2.2; go_simp; (try with_reducible rfl); done)); (try simp only [Act.put, pA, pB, pC]))
 (refine takeP (i := 5) ?_ rfl (.inl ⟨by rfl, ?_⟩) ?_; rotate_left; (focus ((intro wS hSw); (try dsimp only at hSw); have s0 := (cell_of_row wS w.heap.size 1 _ _ _ hSw).trans HH.out.1; have s1 := (cell_of_row wS w.heap.size 2 _ _ _ hSw).trans HH.out.2.1; have s2 := (cell_of_row wS w.heap.size 5 _ _ _ hSw).trans HH.out.2.2.1; have s3 := (cell_of_row wS w.heap.size 6 _ _ _ hSw).trans HH.out.2.2.2; go_simp; (try with_reducible rfl); done)); (try simp only [Act.put, pA, pB, pC]))
 refine aloneH (i := 3) rfl (by kernel_rfl) (fun K hK => ?_)
 rw [if_pos (by rfl)]
 go_simp; ((refine (HSdd.out.num x.from_ HR.out.2.2.1.1 HR.out.2.2.1.2 (by have := HN.out; omega)).mono ?_); (rintro e wd1 ⟨rfl, hs, hb⟩); have HSd1 := Lib.hid hs; have HWd1 := Lib.hid (HWdd.out.trans hb); clear hs hb; (try go_simp))
 refine hK.out _ _ (HSd1.out.box) ?_
 clear hK K hHeld; intro hHeld; (try simp only [Act.put, pA, pB, pC])
 refine aloneH (i := 6) rfl (by kernel_rfl) (fun K hK => ?_)
 rw [if_pos (by rfl)]
 go_simp; ((refine (HSd1.out.num x.until_ HR.out.2.2.2.1 HR.out.2.2.2.2 (by have := HN.out; omega)).mono ?_); (rintro e wd2 ⟨rfl, hs, hb⟩); have HSd2 := Lib.hid hs; have HWd2 := Lib.hid (HWd1.out.trans hb); clear hs hb; (try go_simp))
 refine hK.out _ _ (HSd2.out.box) ?_
 clear hK K hHeld; intro hHeld; (try simp only [Act.put, pA, pB, pC])
 refine wpAnyH_done (by kernel_rfl) ?_ _
 clear hHeld
 go_wp2
 go_end0
 obtain ⟨⟨v9, q1, _⟩, _⟩ := HSd2.out
 exact ⟨rfl, ⟨v9, q1⟩, HWd2.out⟩
end Go.Proofs.YtplghpamckdklaaGreat
