/- Commands as bytes, written, by kinds. -/
import Derived.Test.YtmjjenemokojjaaGreatD28
import Derived.Test.YtmjjenemokojjaaGreatD42
import Derived.Test.YtmjjenemokojjaaGreatD29
import Derived.WalkMore
namespace Go.Proofs.YtmjjenemokojjaaGreat
open Go.RowKit
set_option maxRecDepth 100000
set_option linter.unusedSimpArgs false
set_option linter.unusedVariables false

set_option maxHeartbeats 4000000 in
theorem write_5 (cs : Array Value) (x : CmdV) (B g N : Nat) (S : Option Text) (v : Value) (w : World) (hw : Wrt w B g S v) (hB : B ≤ w.heap.size) (hl : (S.getD []).length ≤ N) (hN : N ≤ 1000000000) (hk : cs[0]? = some (.int .i64 5)) (h2 : cs[2]? = some (.string x.text)) (h7 : cs[7]? = some (.int .i64 x.num)) (h8 : cs[8]? = some (.int .i64 x.den)) (h11 : cs[11]? = some (.int .i64 x.py)) (h12 : cs[12]? = some (.int .i64 x.pi)) (b2 : x.text.size ≤ 9223372036854775807) (b7 : -9223372036854775808 ≤ x.num ∧ x.num ≤ 9223372036854775807) (b8 : -9223372036854775808 ≤ x.den ∧ x.den ≤ 9223372036854775807) (b11 : -9223372036854775808 ≤ x.py ∧ x.py ≤ 9223372036854775807) (b12 : -9223372036854775808 ≤ x.pi ∧ x.pi ≤ 9223372036854775807) : Calls Tryz.prog 39 #[.pointer (some ⟨g, 0, none⟩), .agg cs] w fun e w1 => Wrote w B g (nextS (nextS (nextS (nextS (nextS (nextS S (docN 5)) (docS x.text)) (docN x.py)) (docN x.pi)) (docN x.num)) (docN x.den)) e w1 := by
 have HSa := Lib.hid (WN.start hw hB hl (.cells cs 28 (0, 0)))
 have HWa := Lib.hid ((Below.refl B w).alloc hB (.cells cs 28 (0, 0)))
 have HN := Lib.hid hN
 have HH := Lib.hid (And.intro h2 (And.intro h7 (And.intro h8 (And.intro h11 h12))))
 have HR := Lib.hid (And.intro b2 (And.intro b7 (And.intro b8 (And.intro b11 b12))))
 have HK := Lib.hid hk
 have k0 := (cell_of_row _ _ 0 _ _ _ HSa.out.box).trans hk
 clear hw hB hl hN hk h2 h7 h8 h11 h12 b2 b7 b8 b11 b12
 go_enter Tryz.func39, Tryz.ntmps39
 go_wp2_with (go_at_call 66; refine (HSa.out.num 5 (by decide) (by decide) (by have := HN.out; omega)).mono ?_; rintro e w1 ⟨rfl, hs, hb⟩; have HSb := Lib.hid hs; have HWb := Lib.hid (HWa.out.trans hb); clear hs hb k0; have k0 := (cell_of_row _ _ 0 _ _ _ HSb.out.box).trans HK.out; refine Stop.out ?_)
 unfold Stop
 go_wp2
 have HScd := Lib.hid HSb.out.drew
 have HWcd := Lib.hid (HWb.out.trans ((Below.refl _ _).drew))
 (try clear k0)
 have HFs := Lib.hid (fun (wS : World) (hSw : wS.heap[w.heap.size]? = some (.cells cs 28 (0, 0))) => And.intro ((cell_of_row wS w.heap.size 2 _ _ _ hSw).trans HH.out.1) (And.intro ((cell_of_row wS w.heap.size 7 _ _ _ hSw).trans HH.out.2.1) (And.intro ((cell_of_row wS w.heap.size 8 _ _ _ hSw).trans HH.out.2.2.1) (And.intro ((cell_of_row wS w.heap.size 11 _ _ _ hSw).trans HH.out.2.2.2.1) ((cell_of_row wS w.heap.size 12 _ _ _ hSw).trans HH.out.2.2.2.2)))))
 refine wp_region_held_drew (S := fun V => V.heap[w.heap.size]? = some (.cells cs 28 (0, 0))) (by kernel_rfl) HScd.out.box ?_
 intro hHeld
 generalize World.drew _ = wdc at HScd HWcd hHeld ⊢
 (refine takeP (i := 0) ?_ rfl (.inl ⟨by rfl, ?_⟩) ?_; rotate_left; (focus ((intro wS hSw); (try dsimp only at hSw); obtain ⟨s0, s1, s2, s3, s4⟩ := HFs.out wS hSw; go_simp; (try with_reducible rfl); done)); (try simp only [Act.put, pA, pB, pC]))
 (refine takeP (i := 1) ?_ rfl (.inl ⟨by rfl, ?_⟩) ?_; rotate_left; (focus ((intro wS hSw); (try dsimp only at hSw); obtain ⟨s0, s1, s2, s3, s4⟩ := HFs.out wS hSw; go_simp; (try with_reducible rfl); done)); (try simp only [Act.put, pA, pB, pC]))
 (refine takeP (i := 2) ?_ rfl (.inl ⟨by rfl, ?_⟩) ?_; rotate_left; (focus ((intro wS hSw); (try dsimp only at hSw); obtain ⟨s0, s1, s2, s3, s4⟩ := HFs.out wS hSw; go_simp; (try with_reducible rfl); done)); (try simp only [Act.put, pA, pB, pC]))
 (refine takeP (i := 4) ?_ rfl (.inl ⟨by rfl, ?_⟩) ?_; rotate_left; (focus ((intro wS hSw); (try dsimp only at hSw); obtain ⟨s0, s1, s2, s3, s4⟩ := HFs.out wS hSw; go_simp; (try with_reducible rfl); done)); (try simp only [Act.put, pA, pB, pC]))
 (refine takeP (i := 5) ?_ rfl (.inl ⟨by rfl, ?_⟩) ?_; rotate_left; (focus ((intro wS hSw); (try dsimp only at hSw); obtain ⟨s0, s1, s2, s3, s4⟩ := HFs.out wS hSw; go_simp; (try with_reducible rfl); done)); (try simp only [Act.put, pA, pB, pC]))
 (refine takeP (i := 6) ?_ rfl (.inl ⟨by rfl, ?_⟩) ?_; rotate_left; (focus ((intro wS hSw); (try dsimp only at hSw); obtain ⟨s0, s1, s2, s3, s4⟩ := HFs.out wS hSw; go_simp; (try with_reducible rfl); done)); (try simp only [Act.put, pA, pB, pC]))
 (refine takeP (i := 8) ?_ rfl (.inl ⟨by rfl, ?_⟩) ?_; rotate_left; (focus ((intro wS hSw); (try dsimp only at hSw); obtain ⟨s0, s1, s2, s3, s4⟩ := HFs.out wS hSw; go_simp; (try with_reducible rfl); done)); (try simp only [Act.put, pA, pB, pC]))
 (refine takeP (i := 9) ?_ rfl (.inl ⟨by rfl, ?_⟩) ?_; rotate_left; (focus ((intro wS hSw); (try dsimp only at hSw); obtain ⟨s0, s1, s2, s3, s4⟩ := HFs.out wS hSw; go_simp; (try with_reducible rfl); done)); (try simp only [Act.put, pA, pB, pC]))
 (refine takeP (i := 10) ?_ rfl (.inl ⟨by rfl, ?_⟩) ?_; rotate_left; (focus ((intro wS hSw); (try dsimp only at hSw); obtain ⟨s0, s1, s2, s3, s4⟩ := HFs.out wS hSw; go_simp; (try with_reducible rfl); done)); (try simp only [Act.put, pA, pB, pC]))
 (refine takeP (i := 12) ?_ rfl (.inl ⟨by rfl, ?_⟩) ?_; rotate_left; (focus ((intro wS hSw); (try dsimp only at hSw); obtain ⟨s0, s1, s2, s3, s4⟩ := HFs.out wS hSw; go_simp; (try with_reducible rfl); done)); (try simp only [Act.put, pA, pB, pC]))
 (refine takeP (i := 13) ?_ rfl (.inl ⟨by rfl, ?_⟩) ?_; rotate_left; (focus ((intro wS hSw); (try dsimp only at hSw); obtain ⟨s0, s1, s2, s3, s4⟩ := HFs.out wS hSw; go_simp; (try with_reducible rfl); done)); (try simp only [Act.put, pA, pB, pC]))
 (refine takeP (i := 15) ?_ rfl (.inl ⟨by rfl, ?_⟩) ?_; rotate_left; (focus ((intro wS hSw); (try dsimp only at hSw); obtain ⟨s0, s1, s2, s3, s4⟩ := HFs.out wS hSw; go_simp; (try with_reducible rfl); done)); (try simp only [Act.put, pA, pB, pC]))
 (refine takeP (i := 16) ?_ rfl (.inl ⟨by rfl, ?_⟩) ?_; rotate_left; (focus ((intro wS hSw); (try dsimp only at hSw); obtain ⟨s0, s1, s2, s3, s4⟩ := HFs.out wS hSw; go_simp; (try with_reducible rfl); done)); (try simp only [Act.put, pA, pB, pC]))
 refine aloneH (i := 3) rfl (by kernel_rfl) (fun K hK => ?_)
 rw [if_pos (by rfl)]
 go_simp; ((refine (HScd.out.text x.text HR.out.1 (by have := HN.out; omega)).mono ?_); (rintro e wc1 ⟨rfl, hs, hb⟩); have HSc1 := Lib.hid hs; have HWc1 := Lib.hid (HWcd.out.trans hb); clear hs hb; (try go_simp))
 refine hK.out _ _ (HSc1.out.box) ?_
 clear hK K hHeld; intro hHeld; (try simp only [Act.put, pA, pB, pC])
 refine aloneH (i := 7) rfl (by kernel_rfl) (fun K hK => ?_)
 rw [if_pos (by rfl)]
 go_simp; ((refine (HSc1.out.num x.py HR.out.2.2.2.1.1 HR.out.2.2.2.1.2 (by have := HN.out; omega)).mono ?_); (rintro e wc2 ⟨rfl, hs, hb⟩); have HSc2 := Lib.hid hs; have HWc2 := Lib.hid (HWc1.out.trans hb); clear hs hb; (try go_simp))
 refine hK.out _ _ (HSc2.out.box) ?_
 clear hK K hHeld; intro hHeld; (try simp only [Act.put, pA, pB, pC])
 refine aloneH (i := 11) rfl (by kernel_rfl) (fun K hK => ?_)
 rw [if_pos (by rfl)]
 go_simp; ((refine (HSc2.out.num x.pi HR.out.2.2.2.2.1 HR.out.2.2.2.2.2 (by have := HN.out; omega)).mono ?_); (rintro e wc3 ⟨rfl, hs, hb⟩); have HSc3 := Lib.hid hs; have HWc3 := Lib.hid (HWc2.out.trans hb); clear hs hb; (try go_simp))
 refine hK.out _ _ (HSc3.out.box) ?_
 clear hK K hHeld; intro hHeld; (try simp only [Act.put, pA, pB, pC])
 refine aloneH (i := 14) rfl (by kernel_rfl) (fun K hK => ?_)
 rw [if_pos (by rfl)]
 go_simp; ((refine (HSc3.out.num x.num HR.out.2.1.1 HR.out.2.1.2 (by have := HN.out; omega)).mono ?_); (rintro e wc4 ⟨rfl, hs, hb⟩); have HSc4 := Lib.hid hs; have HWc4 := Lib.hid (HWc3.out.trans hb); clear hs hb; (try go_simp))
 refine hK.out _ _ (HSc4.out.box) ?_
 clear hK K hHeld; intro hHeld; (try simp only [Act.put, pA, pB, pC])
 refine aloneH (i := 17) rfl (by kernel_rfl) (fun K hK => ?_)
 rw [if_pos (by rfl)]
 go_simp; ((refine (HSc4.out.num x.den HR.out.2.2.1.1 HR.out.2.2.1.2 (by have := HN.out; omega)).mono ?_); (rintro e wc5 ⟨rfl, hs, hb⟩); have HSc5 := Lib.hid hs; have HWc5 := Lib.hid (HWc4.out.trans hb); clear hs hb; (try go_simp))
 refine hK.out _ _ (HSc5.out.box) ?_
 clear hK K hHeld; intro hHeld; (try simp only [Act.put, pA, pB, pC])
 refine wpAnyH_done (by kernel_rfl) ?_ _
 clear hHeld
 go_wp2
 go_end0
 obtain ⟨⟨v9, q1, _⟩, _⟩ := HSc5.out
 exact ⟨rfl, ⟨v9, q1⟩, HWc5.out⟩
set_option maxHeartbeats 4000000 in
theorem write_6 (cs : Array Value) (x : CmdV) (B g N : Nat) (S : Option Text) (v : Value) (w : World) (hw : Wrt w B g S v) (hB : B ≤ w.heap.size) (hl : (S.getD []).length ≤ N) (hN : N ≤ 1000000000) (hk : cs[0]? = some (.int .i64 6)) (h2 : cs[2]? = some (.string x.text)) (b2 : x.text.size ≤ 9223372036854775807) : Calls Tryz.prog 39 #[.pointer (some ⟨g, 0, none⟩), .agg cs] w fun e w1 => Wrote w B g (nextS (nextS S (docN 6)) (docS x.text)) e w1 := by
 have HSa := Lib.hid (WN.start hw hB hl (.cells cs 28 (0, 0)))
 have HWa := Lib.hid ((Below.refl B w).alloc hB (.cells cs 28 (0, 0)))
 have HN := Lib.hid hN
 have HH := Lib.hid h2
 have HR := Lib.hid b2
 have HK := Lib.hid hk
 have k0 := (cell_of_row _ _ 0 _ _ _ HSa.out.box).trans hk
 clear hw hB hl hN hk h2 b2
 go_enter Tryz.func39, Tryz.ntmps39
 go_wp2_with (go_at_call 66; refine (HSa.out.num 6 (by decide) (by decide) (by have := HN.out; omega)).mono ?_; rintro e w1 ⟨rfl, hs, hb⟩; have HSb := Lib.hid hs; have HWb := Lib.hid (HWa.out.trans hb); clear hs hb k0; have k0 := (cell_of_row _ _ 0 _ _ _ HSb.out.box).trans HK.out; have k2 := (cell_of_row _ _ 2 _ _ _ HSb.out.box).trans HH.out; refine Stop.out ?_)
 unfold Stop
 go_wp2_with (go_at_call 67; refine (HSb.out.text x.text HR.out (by have := HN.out; omega)).mono ?_; rintro e w2 ⟨rfl, hs, hb⟩; have HSc := Lib.hid hs; have HWc := Lib.hid (HWb.out.trans hb); clear hs hb)
 go_end0
 obtain ⟨⟨v9, q1, _⟩, _⟩ := HSc.out
 exact ⟨rfl, ⟨v9, q1⟩, HWc.out⟩
set_option maxHeartbeats 4000000 in
theorem write_7 (cs : Array Value) (x : CmdV) (B g N : Nat) (S : Option Text) (v : Value) (w : World) (hw : Wrt w B g S v) (hB : B ≤ w.heap.size) (hl : (S.getD []).length ≤ N) (hN : N ≤ 1000000000) (hk : cs[0]? = some (.int .i64 7)) (h7 : cs[7]? = some (.int .i64 x.num)) (h11 : cs[11]? = some (.int .i64 x.py)) (b7 : -9223372036854775808 ≤ x.num ∧ x.num ≤ 9223372036854775807) (b11 : -9223372036854775808 ≤ x.py ∧ x.py ≤ 9223372036854775807) : Calls Tryz.prog 39 #[.pointer (some ⟨g, 0, none⟩), .agg cs] w fun e w1 => Wrote w B g (nextS (nextS (nextS S (docN 7)) (docN x.py)) (docN x.num)) e w1 := by
 have HSa := Lib.hid (WN.start hw hB hl (.cells cs 28 (0, 0)))
 have HWa := Lib.hid ((Below.refl B w).alloc hB (.cells cs 28 (0, 0)))
 have HN := Lib.hid hN
 have HH := Lib.hid (And.intro h7 h11)
 have HR := Lib.hid (And.intro b7 b11)
 have HK := Lib.hid hk
 have k0 := (cell_of_row _ _ 0 _ _ _ HSa.out.box).trans hk
 clear hw hB hl hN hk h7 h11 b7 b11
 go_enter Tryz.func39, Tryz.ntmps39
 go_wp2_with (go_at_call 66; refine (HSa.out.num 7 (by decide) (by decide) (by have := HN.out; omega)).mono ?_; rintro e w1 ⟨rfl, hs, hb⟩; have HSb := Lib.hid hs; have HWb := Lib.hid (HWa.out.trans hb); clear hs hb k0; have k0 := (cell_of_row _ _ 0 _ _ _ HSb.out.box).trans HK.out; refine Stop.out ?_)
 unfold Stop
 go_wp2
 have HScd := Lib.hid HSb.out.drew
 have HWcd := Lib.hid (HWb.out.trans ((Below.refl _ _).drew))
 (try clear k0)
 have HFs := Lib.hid (fun (wS : World) (hSw : wS.heap[w.heap.size]? = some (.cells cs 28 (0, 0))) => And.intro ((cell_of_row wS w.heap.size 7 _ _ _ hSw).trans HH.out.1) ((cell_of_row wS w.heap.size 11 _ _ _ hSw).trans HH.out.2))
 refine wp_region_held_drew (S := fun V => V.heap[w.heap.size]? = some (.cells cs 28 (0, 0))) (by kernel_rfl) HScd.out.box ?_
 intro hHeld
 generalize World.drew _ = wdc at HScd HWcd hHeld ⊢
 (refine takeP (i := 0) ?_ rfl (.inl ⟨by rfl, ?_⟩) ?_; rotate_left; (focus ((intro wS hSw); (try dsimp only at hSw); obtain ⟨s0, s1⟩ := HFs.out wS hSw; go_simp; (try with_reducible rfl); done)); (try simp only [Act.put, pA, pB, pC]))
 (refine takeP (i := 1) ?_ rfl (.inl ⟨by rfl, ?_⟩) ?_; rotate_left; (focus ((intro wS hSw); (try dsimp only at hSw); obtain ⟨s0, s1⟩ := HFs.out wS hSw; go_simp; (try with_reducible rfl); done)); (try simp only [Act.put, pA, pB, pC]))
 (refine takeP (i := 2) ?_ rfl (.inl ⟨by rfl, ?_⟩) ?_; rotate_left; (focus ((intro wS hSw); (try dsimp only at hSw); obtain ⟨s0, s1⟩ := HFs.out wS hSw; go_simp; (try with_reducible rfl); done)); (try simp only [Act.put, pA, pB, pC]))
 (refine takeP (i := 3) ?_ rfl (.inl ⟨by rfl, ?_⟩) ?_; rotate_left; (focus ((intro wS hSw); (try dsimp only at hSw); obtain ⟨s0, s1⟩ := HFs.out wS hSw; go_simp; (try with_reducible rfl); done)); (try simp only [Act.put, pA, pB, pC]))
 (refine takeP (i := 5) ?_ rfl (.inl ⟨by rfl, ?_⟩) ?_; rotate_left; (focus ((intro wS hSw); (try dsimp only at hSw); obtain ⟨s0, s1⟩ := HFs.out wS hSw; go_simp; (try with_reducible rfl); done)); (try simp only [Act.put, pA, pB, pC]))
 (refine takeP (i := 6) ?_ rfl (.inl ⟨by rfl, ?_⟩) ?_; rotate_left; (focus ((intro wS hSw); (try dsimp only at hSw); obtain ⟨s0, s1⟩ := HFs.out wS hSw; go_simp; (try with_reducible rfl); done)); (try simp only [Act.put, pA, pB, pC]))
 refine aloneH (i := 4) rfl (by kernel_rfl) (fun K hK => ?_)
 rw [if_pos (by rfl)]
 go_simp; ((refine (HScd.out.num x.py HR.out.2.1 HR.out.2.2 (by have := HN.out; omega)).mono ?_); (rintro e wc1 ⟨rfl, hs, hb⟩); have HSc1 := Lib.hid hs; have HWc1 := Lib.hid (HWcd.out.trans hb); clear hs hb; (try go_simp))
 refine hK.out _ _ (HSc1.out.box) ?_
 clear hK K hHeld; intro hHeld; (try simp only [Act.put, pA, pB, pC])
 refine aloneH (i := 7) rfl (by kernel_rfl) (fun K hK => ?_)
 rw [if_pos (by rfl)]
 go_simp; ((refine (HSc1.out.num x.num HR.out.1.1 HR.out.1.2 (by have := HN.out; omega)).mono ?_); (rintro e wc2 ⟨rfl, hs, hb⟩); have HSc2 := Lib.hid hs; have HWc2 := Lib.hid (HWc1.out.trans hb); clear hs hb; (try go_simp))
 refine hK.out _ _ (HSc2.out.box) ?_
 clear hK K hHeld; intro hHeld; (try simp only [Act.put, pA, pB, pC])
 refine wpAnyH_done (by kernel_rfl) ?_ _
 clear hHeld
 go_wp2
 go_end0
 obtain ⟨⟨v9, q1, _⟩, _⟩ := HSc2.out
 exact ⟨rfl, ⟨v9, q1⟩, HWc2.out⟩
set_option maxHeartbeats 4000000 in
theorem write_9 (cs : Array Value) (x : CmdV) (B g N : Nat) (S : Option Text) (v : Value) (w : World) (hw : Wrt w B g S v) (hB : B ≤ w.heap.size) (hl : (S.getD []).length ≤ N) (hN : N ≤ 1000000000) (hk : cs[0]? = some (.int .i64 9)) (h10 : cs[10]? = some (.int .i64 x.pk)) (h11 : cs[11]? = some (.int .i64 x.py)) (h12 : cs[12]? = some (.int .i64 x.pi)) (b10 : -9223372036854775808 ≤ x.pk ∧ x.pk ≤ 9223372036854775807) (b11 : -9223372036854775808 ≤ x.py ∧ x.py ≤ 9223372036854775807) (b12 : -9223372036854775808 ≤ x.pi ∧ x.pi ≤ 9223372036854775807) : Calls Tryz.prog 39 #[.pointer (some ⟨g, 0, none⟩), .agg cs] w fun e w1 => Wrote w B g (nextS (nextS (nextS (nextS S (docN 9)) (docN x.pk)) (docN x.py)) (docN x.pi)) e w1 := by
 have HSa := Lib.hid (WN.start hw hB hl (.cells cs 28 (0, 0)))
 have HWa := Lib.hid ((Below.refl B w).alloc hB (.cells cs 28 (0, 0)))
 have HN := Lib.hid hN
 have HH := Lib.hid (And.intro h10 (And.intro h11 h12))
 have HR := Lib.hid (And.intro b10 (And.intro b11 b12))
 have HK := Lib.hid hk
 have k0 := (cell_of_row _ _ 0 _ _ _ HSa.out.box).trans hk
 clear hw hB hl hN hk h10 h11 h12 b10 b11 b12
 go_enter Tryz.func39, Tryz.ntmps39
 go_wp2_with (go_at_call 66; refine (HSa.out.num 9 (by decide) (by decide) (by have := HN.out; omega)).mono ?_; rintro e w1 ⟨rfl, hs, hb⟩; have HSb := Lib.hid hs; have HWb := Lib.hid (HWa.out.trans hb); clear hs hb k0; have k0 := (cell_of_row _ _ 0 _ _ _ HSb.out.box).trans HK.out; refine Stop.out ?_)
 unfold Stop
 go_wp2
 have HScd := Lib.hid HSb.out.drew
 have HWcd := Lib.hid (HWb.out.trans ((Below.refl _ _).drew))
 (try clear k0)
 have HFs := Lib.hid (fun (wS : World) (hSw : wS.heap[w.heap.size]? = some (.cells cs 28 (0, 0))) => And.intro ((cell_of_row wS w.heap.size 10 _ _ _ hSw).trans HH.out.1) (And.intro ((cell_of_row wS w.heap.size 11 _ _ _ hSw).trans HH.out.2.1) ((cell_of_row wS w.heap.size 12 _ _ _ hSw).trans HH.out.2.2)))
 refine wp_region_held_drew (S := fun V => V.heap[w.heap.size]? = some (.cells cs 28 (0, 0))) (by kernel_rfl) HScd.out.box ?_
 intro hHeld
 generalize World.drew _ = wdc at HScd HWcd hHeld ⊢
 (refine takeP (i := 0) ?_ rfl (.inl ⟨by rfl, ?_⟩) ?_; rotate_left; (focus ((intro wS hSw); (try dsimp only at hSw); obtain ⟨s0, s1, s2⟩ := HFs.out wS hSw; go_simp; (try with_reducible rfl); done)); (try simp only [Act.put, pA, pB, pC]))
 (refine takeP (i := 1) ?_ rfl (.inl ⟨by rfl, ?_⟩) ?_; rotate_left; (focus ((intro wS hSw); (try dsimp only at hSw); obtain ⟨s0, s1, s2⟩ := HFs.out wS hSw; go_simp; (try with_reducible rfl); done)); (try simp only [Act.put, pA, pB, pC]))
 (refine takeP (i := 2) ?_ rfl (.inl ⟨by rfl, ?_⟩) ?_; rotate_left; (focus ((intro wS hSw); (try dsimp only at hSw); obtain ⟨s0, s1, s2⟩ := HFs.out wS hSw; go_simp; (try with_reducible rfl); done)); (try simp only [Act.put, pA, pB, pC]))
 (refine takeP (i := 3) ?_ rfl (.inl ⟨by rfl, ?_⟩) ?_; rotate_left; (focus ((intro wS hSw); (try dsimp only at hSw); obtain ⟨s0, s1, s2⟩ := HFs.out wS hSw; go_simp; (try with_reducible rfl); done)); (try simp only [Act.put, pA, pB, pC]))
 (refine takeP (i := 5) ?_ rfl (.inl ⟨by rfl, ?_⟩) ?_; rotate_left; (focus ((intro wS hSw); (try dsimp only at hSw); obtain ⟨s0, s1, s2⟩ := HFs.out wS hSw; go_simp; (try with_reducible rfl); done)); (try simp only [Act.put, pA, pB, pC]))
 (refine takeP (i := 6) ?_ rfl (.inl ⟨by rfl, ?_⟩) ?_; rotate_left; (focus ((intro wS hSw); (try dsimp only at hSw); obtain ⟨s0, s1, s2⟩ := HFs.out wS hSw; go_simp; (try with_reducible rfl); done)); (try simp only [Act.put, pA, pB, pC]))
 (refine takeP (i := 7) ?_ rfl (.inl ⟨by rfl, ?_⟩) ?_; rotate_left; (focus ((intro wS hSw); (try dsimp only at hSw); obtain ⟨s0, s1, s2⟩ := HFs.out wS hSw; go_simp; (try with_reducible rfl); done)); (try simp only [Act.put, pA, pB, pC]))
 (refine takeP (i := 9) ?_ rfl (.inl ⟨by rfl, ?_⟩) ?_; rotate_left; (focus ((intro wS hSw); (try dsimp only at hSw); obtain ⟨s0, s1, s2⟩ := HFs.out wS hSw; go_simp; (try with_reducible rfl); done)); (try simp only [Act.put, pA, pB, pC]))
 (refine takeP (i := 10) ?_ rfl (.inl ⟨by rfl, ?_⟩) ?_; rotate_left; (focus ((intro wS hSw); (try dsimp only at hSw); obtain ⟨s0, s1, s2⟩ := HFs.out wS hSw; go_simp; (try with_reducible rfl); done)); (try simp only [Act.put, pA, pB, pC]))
 (refine takeP (i := 11) ?_ rfl (.inl ⟨by rfl, ?_⟩) ?_; rotate_left; (focus ((intro wS hSw); (try dsimp only at hSw); obtain ⟨s0, s1, s2⟩ := HFs.out wS hSw; go_simp; (try with_reducible rfl); done)); (try simp only [Act.put, pA, pB, pC]))
 refine aloneH (i := 4) rfl (by kernel_rfl) (fun K hK => ?_)
 rw [if_pos (by rfl)]
 go_simp; ((refine (HScd.out.num x.pk HR.out.1.1 HR.out.1.2 (by have := HN.out; omega)).mono ?_); (rintro e wc1 ⟨rfl, hs, hb⟩); have HSc1 := Lib.hid hs; have HWc1 := Lib.hid (HWcd.out.trans hb); clear hs hb; (try go_simp))
 refine hK.out _ _ (HSc1.out.box) ?_
 clear hK K hHeld; intro hHeld; (try simp only [Act.put, pA, pB, pC])
 refine aloneH (i := 8) rfl (by kernel_rfl) (fun K hK => ?_)
 rw [if_pos (by rfl)]
 go_simp; ((refine (HSc1.out.num x.py HR.out.2.1.1 HR.out.2.1.2 (by have := HN.out; omega)).mono ?_); (rintro e wc2 ⟨rfl, hs, hb⟩); have HSc2 := Lib.hid hs; have HWc2 := Lib.hid (HWc1.out.trans hb); clear hs hb; (try go_simp))
 refine hK.out _ _ (HSc2.out.box) ?_
 clear hK K hHeld; intro hHeld; (try simp only [Act.put, pA, pB, pC])
 refine aloneH (i := 12) rfl (by kernel_rfl) (fun K hK => ?_)
 rw [if_pos (by rfl)]
 go_simp; ((refine (HSc2.out.num x.pi HR.out.2.2.1 HR.out.2.2.2 (by have := HN.out; omega)).mono ?_); (rintro e wc3 ⟨rfl, hs, hb⟩); have HSc3 := Lib.hid hs; have HWc3 := Lib.hid (HWc2.out.trans hb); clear hs hb; (try go_simp))
 refine hK.out _ _ (HSc3.out.box) ?_
 clear hK K hHeld; intro hHeld; (try simp only [Act.put, pA, pB, pC])
 refine wpAnyH_done (by kernel_rfl) ?_ _
 clear hHeld
 go_wp2
 go_end0
 obtain ⟨⟨v9, q1, _⟩, _⟩ := HSc3.out
 exact ⟨rfl, ⟨v9, q1⟩, HWc3.out⟩
set_option maxHeartbeats 4000000 in
theorem write_10 (cs : Array Value) (x : CmdV) (B g N : Nat) (S : Option Text) (v : Value) (w : World) (hw : Wrt w B g S v) (hB : B ≤ w.heap.size) (hl : (S.getD []).length ≤ N) (hN : N ≤ 1000000000) (hk : cs[0]? = some (.int .i64 10)) (h10 : cs[10]? = some (.int .i64 x.pk)) (h11 : cs[11]? = some (.int .i64 x.py)) (h12 : cs[12]? = some (.int .i64 x.pi)) (b10 : -9223372036854775808 ≤ x.pk ∧ x.pk ≤ 9223372036854775807) (b11 : -9223372036854775808 ≤ x.py ∧ x.py ≤ 9223372036854775807) (b12 : -9223372036854775808 ≤ x.pi ∧ x.pi ≤ 9223372036854775807) : Calls Tryz.prog 39 #[.pointer (some ⟨g, 0, none⟩), .agg cs] w fun e w1 => Wrote w B g (nextS (nextS (nextS (nextS S (docN 10)) (docN x.pk)) (docN x.py)) (docN x.pi)) e w1 := by
 have HSa := Lib.hid (WN.start hw hB hl (.cells cs 28 (0, 0)))
 have HWa := Lib.hid ((Below.refl B w).alloc hB (.cells cs 28 (0, 0)))
 have HN := Lib.hid hN
 have HH := Lib.hid (And.intro h10 (And.intro h11 h12))
 have HR := Lib.hid (And.intro b10 (And.intro b11 b12))
 have HK := Lib.hid hk
 have k0 := (cell_of_row _ _ 0 _ _ _ HSa.out.box).trans hk
 clear hw hB hl hN hk h10 h11 h12 b10 b11 b12
 go_enter Tryz.func39, Tryz.ntmps39
 go_wp2_with (go_at_call 66; refine (HSa.out.num 10 (by decide) (by decide) (by have := HN.out; omega)).mono ?_; rintro e w1 ⟨rfl, hs, hb⟩; have HSb := Lib.hid hs; have HWb := Lib.hid (HWa.out.trans hb); clear hs hb k0; have k0 := (cell_of_row _ _ 0 _ _ _ HSb.out.box).trans HK.out; refine Stop.out ?_)
 unfold Stop
 go_wp2
 have HScd := Lib.hid HSb.out.drew
 have HWcd := Lib.hid (HWb.out.trans ((Below.refl _ _).drew))
 (try clear k0)
 have HFs := Lib.hid (fun (wS : World) (hSw : wS.heap[w.heap.size]? = some (.cells cs 28 (0, 0))) => And.intro ((cell_of_row wS w.heap.size 10 _ _ _ hSw).trans HH.out.1) (And.intro ((cell_of_row wS w.heap.size 11 _ _ _ hSw).trans HH.out.2.1) ((cell_of_row wS w.heap.size 12 _ _ _ hSw).trans HH.out.2.2)))
 refine wp_region_held_drew (S := fun V => V.heap[w.heap.size]? = some (.cells cs 28 (0, 0))) (by kernel_rfl) HScd.out.box ?_
 intro hHeld
 generalize World.drew _ = wdc at HScd HWcd hHeld ⊢
 (refine takeP (i := 0) ?_ rfl (.inl ⟨by rfl, ?_⟩) ?_; rotate_left; (focus ((intro wS hSw); (try dsimp only at hSw); obtain ⟨s0, s1, s2⟩ := HFs.out wS hSw; go_simp; (try with_reducible rfl); done)); (try simp only [Act.put, pA, pB, pC]))
 (refine takeP (i := 1) ?_ rfl (.inl ⟨by rfl, ?_⟩) ?_; rotate_left; (focus ((intro wS hSw); (try dsimp only at hSw); obtain ⟨s0, s1, s2⟩ := HFs.out wS hSw; go_simp; (try with_reducible rfl); done)); (try simp only [Act.put, pA, pB, pC]))
 (refine takeP (i := 2) ?_ rfl (.inl ⟨by rfl, ?_⟩) ?_; rotate_left; (focus ((intro wS hSw); (try dsimp only at hSw); obtain ⟨s0, s1, s2⟩ := HFs.out wS hSw; go_simp; (try with_reducible rfl); done)); (try simp only [Act.put, pA, pB, pC]))
 (refine takeP (i := 3) ?_ rfl (.inl ⟨by rfl, ?_⟩) ?_; rotate_left; (focus ((intro wS hSw); (try dsimp only at hSw); obtain ⟨s0, s1, s2⟩ := HFs.out wS hSw; go_simp; (try with_reducible rfl); done)); (try simp only [Act.put, pA, pB, pC]))
 (refine takeP (i := 5) ?_ rfl (.inl ⟨by rfl, ?_⟩) ?_; rotate_left; (focus ((intro wS hSw); (try dsimp only at hSw); obtain ⟨s0, s1, s2⟩ := HFs.out wS hSw; go_simp; (try with_reducible rfl); done)); (try simp only [Act.put, pA, pB, pC]))
 (refine takeP (i := 6) ?_ rfl (.inl ⟨by rfl, ?_⟩) ?_; rotate_left; (focus ((intro wS hSw); (try dsimp only at hSw); obtain ⟨s0, s1, s2⟩ := HFs.out wS hSw; go_simp; (try with_reducible rfl); done)); (try simp only [Act.put, pA, pB, pC]))
 (refine takeP (i := 7) ?_ rfl (.inl ⟨by rfl, ?_⟩) ?_; rotate_left; (focus ((intro wS hSw); (try dsimp only at hSw); obtain ⟨s0, s1, s2⟩ := HFs.out wS hSw; go_simp; (try with_reducible rfl); done)); (try simp only [Act.put, pA, pB, pC]))
 (refine takeP (i := 9) ?_ rfl (.inl ⟨by rfl, ?_⟩) ?_; rotate_left; (focus ((intro wS hSw); (try dsimp only at hSw); obtain ⟨s0, s1, s2⟩ := HFs.out wS hSw; go_simp; (try with_reducible rfl); done)); (try simp only [Act.put, pA, pB, pC]))
 (refine takeP (i := 10) ?_ rfl (.inl ⟨by rfl, ?_⟩) ?_; rotate_left; (focus ((intro wS hSw); (try dsimp only at hSw); obtain ⟨s0, s1, s2⟩ := HFs.out wS hSw; go_simp; (try with_reducible rfl); done)); (try simp only [Act.put, pA, pB, pC]))
 (refine takeP (i := 11) ?_ rfl (.inl ⟨by rfl, ?_⟩) ?_; rotate_left; (focus ((intro wS hSw); (try dsimp only at hSw); obtain ⟨s0, s1, s2⟩ := HFs.out wS hSw; go_simp; (try with_reducible rfl); done)); (try simp only [Act.put, pA, pB, pC]))
 refine aloneH (i := 4) rfl (by kernel_rfl) (fun K hK => ?_)
 rw [if_pos (by rfl)]
 go_simp; ((refine (HScd.out.num x.pk HR.out.1.1 HR.out.1.2 (by have := HN.out; omega)).mono ?_); (rintro e wc1 ⟨rfl, hs, hb⟩); have HSc1 := Lib.hid hs; have HWc1 := Lib.hid (HWcd.out.trans hb); clear hs hb; (try go_simp))
 refine hK.out _ _ (HSc1.out.box) ?_
 clear hK K hHeld; intro hHeld; (try simp only [Act.put, pA, pB, pC])
 refine aloneH (i := 8) rfl (by kernel_rfl) (fun K hK => ?_)
 rw [if_pos (by rfl)]
 go_simp; ((refine (HSc1.out.num x.py HR.out.2.1.1 HR.out.2.1.2 (by have := HN.out; omega)).mono ?_); (rintro e wc2 ⟨rfl, hs, hb⟩); have HSc2 := Lib.hid hs; have HWc2 := Lib.hid (HWc1.out.trans hb); clear hs hb; (try go_simp))
 refine hK.out _ _ (HSc2.out.box) ?_
 clear hK K hHeld; intro hHeld; (try simp only [Act.put, pA, pB, pC])
 refine aloneH (i := 12) rfl (by kernel_rfl) (fun K hK => ?_)
 rw [if_pos (by rfl)]
 go_simp; ((refine (HSc2.out.num x.pi HR.out.2.2.1 HR.out.2.2.2 (by have := HN.out; omega)).mono ?_); (rintro e wc3 ⟨rfl, hs, hb⟩); have HSc3 := Lib.hid hs; have HWc3 := Lib.hid (HWc2.out.trans hb); clear hs hb; (try go_simp))
 refine hK.out _ _ (HSc3.out.box) ?_
 clear hK K hHeld; intro hHeld; (try simp only [Act.put, pA, pB, pC])
 refine wpAnyH_done (by kernel_rfl) ?_ _
 clear hHeld
 go_wp2
 go_end0
 obtain ⟨⟨v9, q1, _⟩, _⟩ := HSc3.out
 exact ⟨rfl, ⟨v9, q1⟩, HWc3.out⟩
end Go.Proofs.YtmjjenemokojjaaGreat
