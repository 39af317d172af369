/- Documents as bytes, written: the walk. -/
import Derived.Test.YtmjjenemokojjaaGreatD28
import Derived.WalkMore
namespace Go.Proofs.YtmjjenemokojjaaGreat
open Go.RowKit
set_option maxRecDepth 100000
set_option linter.unusedSimpArgs false
set_option linter.unusedVariables false

set_option maxHeartbeats 8000000 in
theorem write_doc (d : DocV) (B g N : Nat) (S : Option Text) (v : Value) (w : World) (hw : Wrt w B g S v) (hB : B ≤ w.heap.size) (hl : (S.getD []).length ≤ N) (hN : N ≤ 1000000000) (hm : d.lines.length ≤ 1000) (hlc : d.lines.length ≤ d.linesC) (hid : d.id.size ≤ 9223372036854775807) (hrf : d.refers.size ≤ 9223372036854775807) (hd : -9223372036854775808 ≤ d.day ∧ d.day ≤ 9223372036854775807 ∧ d.country.size ≤ 9223372036854775807 ∧ d.number.size ≤ 9223372036854775807 ∧ d.currency.size ≤ 9223372036854775807) (HRow : Hid (∀ W, Below B w W → RowLineV W d.linesA d.lines)) (HLr : Hid (∀ l ∈ d.lines, lineR l)) : Calls Tryz.prog 68 #[.pointer (some ⟨g, 0, none⟩), .agg #[.string d.id, .bool d.sale, .bool d.credit, .string d.refers, .int .i64 d.day, .string d.country, .string d.number, .string d.currency, .slice d.linesA d.lines.length d.linesC]] w fun e w1 => Wrote w B g (linesT (headT S d) d.lines) e w1 := by
 have HSa := Lib.hid (WN.start hw hB hl (.cells #[.string d.id, .bool d.sale, .bool d.credit, .string d.refers, .int .i64 d.day, .string d.country, .string d.number, .string d.currency, .slice d.linesA d.lines.length d.linesC] 26))
 have HWa := Lib.hid ((Below.refl B w).alloc hB (.cells #[.string d.id, .bool d.sale, .bool d.credit, .string d.refers, .int .i64 d.day, .string d.country, .string d.number, .string d.currency, .slice d.linesA d.lines.length d.linesC] 26))
 have HN := Lib.hid (And.intro hN hm)
 have HD := Lib.hid hd
 have HI := Lib.hid hid
 have HR := Lib.hid hrf
 have hl4 : (d.lines.length : Int) ≤ 1000 := by omega
 have hlc' : (d.lines.length : Int) ≤ (d.linesC : Int) := by omega
 clear hw hB hl hN hd hid hrf
 go_enter Tryz.func68, Tryz.ntmps68
 go_wp2
 generalize hx : World.alloc w (.cells #[.string d.id, .bool d.sale, .bool d.credit, .string d.refers, .int .i64 d.day, .string d.country, .string d.number, .string d.currency, .slice d.linesA d.lines.length d.linesC] 26) = wz at HSa HWa ⊢
 clear hx
 have HSad := Lib.hid HSa.out.drew
 have HWad := Lib.hid (HWa.out.trans ((Below.refl _ _).drew))
 refine wp_region_held_drew (S := fun V => V.heap[w.heap.size]? = some (.cells #[.string d.id, .bool d.sale, .bool d.credit, .string d.refers, .int .i64 d.day, .string d.country, .string d.number, .string d.currency, .slice d.linesA d.lines.length d.linesC] 26 (0, 0))) (by kernel_rfl) HSad.out.box ?_
 intro hHeld
 generalize World.drew _ = wd at HSad HWad hHeld ⊢
 (refine takeP (i := 0) ?_ rfl (.inl ⟨by rfl, ?_⟩) ?_; rotate_left; (focus ((intro wS hSw); (try dsimp only at hSw); obtain ⟨s0, s1, s2, s3, s4, s5, s6, s7, s8⟩ := cellsLineV hSw; go_simp; (try with_reducible rfl); done)); (try simp only [Act.put, pA, pB, pC]))
 (refine takeP (i := 1) ?_ rfl (.inl ⟨by rfl, ?_⟩) ?_; rotate_left; (focus ((intro wS hSw); (try dsimp only at hSw); obtain ⟨s0, s1, s2, s3, s4, s5, s6, s7, s8⟩ := cellsLineV hSw; go_simp; (try with_reducible rfl); done)); (try simp only [Act.put, pA, pB, pC]))
 (refine takeP (i := 2) ?_ rfl (.inl ⟨by rfl, ?_⟩) ?_; rotate_left; (focus ((intro wS hSw); (try dsimp only at hSw); obtain ⟨s0, s1, s2, s3, s4, s5, s6, s7, s8⟩ := cellsLineV hSw; go_simp; (try with_reducible rfl); done)); (try simp only [Act.put, pA, pB, pC]))
 (refine takeP (i := 4) ?_ rfl (.inl ⟨by rfl, ?_⟩) ?_; rotate_left; (focus ((intro wS hSw); (try dsimp only at hSw); obtain ⟨s0, s1, s2, s3, s4, s5, s6, s7, s8⟩ := cellsLineV hSw; go_simp; (try with_reducible rfl); done)); (try simp only [Act.put, pA, pB, pC]))
 (refine takeP (i := 5) ?_ rfl (.inl ⟨by rfl, ?_⟩) ?_; rotate_left; (focus ((intro wS hSw); (try dsimp only at hSw); obtain ⟨s0, s1, s2, s3, s4, s5, s6, s7, s8⟩ := cellsLineV hSw; go_simp; (try with_reducible rfl); done)); (try simp only [Act.put, pA, pB, pC]))
 (refine takeP (i := 7) ?_ rfl (.inl ⟨by rfl, ?_⟩) ?_; rotate_left; (focus ((intro wS hSw); (try dsimp only at hSw); obtain ⟨s0, s1, s2, s3, s4, s5, s6, s7, s8⟩ := cellsLineV hSw; go_simp; (try with_reducible rfl); done)); (try simp only [Act.put, pA, pB, pC]))
 (refine takeP (i := 8) ?_ rfl (.inl ⟨by rfl, ?_⟩) ?_; rotate_left; (focus ((intro wS hSw); (try dsimp only at hSw); obtain ⟨s0, s1, s2, s3, s4, s5, s6, s7, s8⟩ := cellsLineV hSw; go_simp; (try with_reducible rfl); done)); (try simp only [Act.put, pA, pB, pC]))
 (refine takeP (i := 10) ?_ rfl (.inl ⟨by rfl, ?_⟩) ?_; rotate_left; (focus ((intro wS hSw); (try dsimp only at hSw); obtain ⟨s0, s1, s2, s3, s4, s5, s6, s7, s8⟩ := cellsLineV hSw; go_simp; (try with_reducible rfl); done)); (try simp only [Act.put, pA, pB, pC]))
 (refine takeP (i := 11) ?_ rfl (.inl ⟨by rfl, ?_⟩) ?_; rotate_left; (focus ((intro wS hSw); (try dsimp only at hSw); obtain ⟨s0, s1, s2, s3, s4, s5, s6, s7, s8⟩ := cellsLineV hSw; go_simp; (try with_reducible rfl); done)); (try simp only [Act.put, pA, pB, pC]))
 refine aloneH (i := 3) rfl (by kernel_rfl) (fun K hK => ?_)
 rw [if_pos (by rfl)]
 go_simp; ((refine (HSad.out.text _ HI.out (by have := HN.out; omega)).mono ?_); (rintro e w1 ⟨rfl, hs, hb⟩); have HSa1 := Lib.hid hs; have HWa1 := Lib.hid (HWad.out.trans hb); clear hs hb; (try go_simp))
 refine hK.out _ _ (HSa1.out.box) ?_
 clear hK K hHeld; intro hHeld; (try simp only [Act.put, pA, pB, pC])
 refine aloneH (i := 6) rfl (by kernel_rfl) (fun K hK => ?_)
 rw [if_pos (by rfl)]
 go_simp; ((refine (HSa1.out.flag _ (by have := HN.out; omega)).mono ?_); (rintro e w2 ⟨rfl, hs, hb⟩); have HSa2 := Lib.hid hs; have HWa2 := Lib.hid (HWa1.out.trans hb); clear hs hb; (try go_simp))
 refine hK.out _ _ (HSa2.out.box) ?_
 clear hK K hHeld; intro hHeld; (try simp only [Act.put, pA, pB, pC])
 refine aloneH (i := 9) rfl (by kernel_rfl) (fun K hK => ?_)
 rw [if_pos (by rfl)]
 go_simp; ((refine (HSa2.out.flag _ (by have := HN.out; omega)).mono ?_); (rintro e w3 ⟨rfl, hs, hb⟩); have HSa3 := Lib.hid hs; have HWa3 := Lib.hid (HWa2.out.trans hb); clear hs hb; (try go_simp))
 refine hK.out _ _ (HSa3.out.box) ?_
 clear hK K hHeld; intro hHeld; (try simp only [Act.put, pA, pB, pC])
 refine aloneH (i := 12) rfl (by kernel_rfl) (fun K hK => ?_)
 rw [if_pos (by rfl)]
 go_simp; ((refine (HSa3.out.text _ HR.out (by have := HN.out; omega)).mono ?_); (rintro e w4 ⟨rfl, hs, hb⟩); have HSa4 := Lib.hid hs; have HWa4 := Lib.hid (HWa3.out.trans hb); clear hs hb; (try go_simp))
 refine hK.out _ _ (HSa4.out.box) ?_
 clear hK K hHeld; intro hHeld; (try simp only [Act.put, pA, pB, pC])
 refine wpAnyH_done (by kernel_rfl) ?_ _
 clear hHeld
 go_wp2
 have HSbd := Lib.hid HSa4.out.drew
 have HWbd := Lib.hid (HWa4.out.trans ((Below.refl _ _).drew))
 refine wp_region_held_drew (S := fun V => V.heap[w.heap.size]? = some (.cells #[.string d.id, .bool d.sale, .bool d.credit, .string d.refers, .int .i64 d.day, .string d.country, .string d.number, .string d.currency, .slice d.linesA d.lines.length d.linesC] 26 (0, 0))) (by kernel_rfl) HSbd.out.box ?_
 intro hHeld
 generalize World.drew _ = wd at HSbd HWbd hHeld ⊢
 (refine takeP (i := 0) ?_ rfl (.inl ⟨by rfl, ?_⟩) ?_; rotate_left; (focus ((intro wS hSw); (try dsimp only at hSw); obtain ⟨s0, s1, s2, s3, s4, s5, s6, s7, s8⟩ := cellsLineV hSw; go_simp; (try with_reducible rfl); done)); (try simp only [Act.put, pA, pB, pC]))
 (refine takeP (i := 1) ?_ rfl (.inl ⟨by rfl, ?_⟩) ?_; rotate_left; (focus ((intro wS hSw); (try dsimp only at hSw); obtain ⟨s0, s1, s2, s3, s4, s5, s6, s7, s8⟩ := cellsLineV hSw; go_simp; (try with_reducible rfl); done)); (try simp only [Act.put, pA, pB, pC]))
 (refine takeP (i := 2) ?_ rfl (.inl ⟨by rfl, ?_⟩) ?_; rotate_left; (focus ((intro wS hSw); (try dsimp only at hSw); obtain ⟨s0, s1, s2, s3, s4, s5, s6, s7, s8⟩ := cellsLineV hSw; go_simp; (try with_reducible rfl); done)); (try simp only [Act.put, pA, pB, pC]))
 (refine takeP (i := 4) ?_ rfl (.inl ⟨by rfl, ?_⟩) ?_; rotate_left; (focus ((intro wS hSw); (try dsimp only at hSw); obtain ⟨s0, s1, s2, s3, s4, s5, s6, s7, s8⟩ := cellsLineV hSw; go_simp; (try with_reducible rfl); done)); (try simp only [Act.put, pA, pB, pC]))
 (refine takeP (i := 5) ?_ rfl (.inl ⟨by rfl, ?_⟩) ?_; rotate_left; (focus ((intro wS hSw); (try dsimp only at hSw); obtain ⟨s0, s1, s2, s3, s4, s5, s6, s7, s8⟩ := cellsLineV hSw; go_simp; (try with_reducible rfl); done)); (try simp only [Act.put, pA, pB, pC]))
 (refine takeP (i := 7) ?_ rfl (.inl ⟨by rfl, ?_⟩) ?_; rotate_left; (focus ((intro wS hSw); (try dsimp only at hSw); obtain ⟨s0, s1, s2, s3, s4, s5, s6, s7, s8⟩ := cellsLineV hSw; go_simp; (try with_reducible rfl); done)); (try simp only [Act.put, pA, pB, pC]))
 (refine takeP (i := 8) ?_ rfl (.inl ⟨by rfl, ?_⟩) ?_; rotate_left; (focus ((intro wS hSw); (try dsimp only at hSw); obtain ⟨s0, s1, s2, s3, s4, s5, s6, s7, s8⟩ := cellsLineV hSw; go_simp; (try with_reducible rfl); done)); (try simp only [Act.put, pA, pB, pC]))
 (refine takeP (i := 10) ?_ rfl (.inl ⟨by rfl, ?_⟩) ?_; rotate_left; (focus ((intro wS hSw); (try dsimp only at hSw); obtain ⟨s0, s1, s2, s3, s4, s5, s6, s7, s8⟩ := cellsLineV hSw; go_simp; (try with_reducible rfl); done)); (try simp only [Act.put, pA, pB, pC]))
 (refine takeP (i := 11) ?_ rfl (.inl ⟨by rfl, ?_⟩) ?_; rotate_left; (focus ((intro wS hSw); (try dsimp only at hSw); obtain ⟨s0, s1, s2, s3, s4, s5, s6, s7, s8⟩ := cellsLineV hSw; go_simp; (try with_reducible rfl); done)); (try simp only [Act.put, pA, pB, pC]))
 refine aloneH (i := 3) rfl (by kernel_rfl) (fun K hK => ?_)
 rw [if_pos (by rfl)]
 go_simp; ((refine (HSbd.out.num _ HD.out.1 HD.out.2.1 (by have := HN.out; omega)).mono ?_); (rintro e w1 ⟨rfl, hs, hb⟩); have HSb1 := Lib.hid hs; have HWb1 := Lib.hid (HWbd.out.trans hb); clear hs hb; (try go_simp))
 refine hK.out _ _ (HSb1.out.box) ?_
 clear hK K hHeld; intro hHeld; (try simp only [Act.put, pA, pB, pC])
 refine aloneH (i := 6) rfl (by kernel_rfl) (fun K hK => ?_)
 rw [if_pos (by rfl)]
 go_simp; ((refine (HSb1.out.text _ HD.out.2.2.1 (by have := HN.out; omega)).mono ?_); (rintro e w2 ⟨rfl, hs, hb⟩); have HSb2 := Lib.hid hs; have HWb2 := Lib.hid (HWb1.out.trans hb); clear hs hb; (try go_simp))
 refine hK.out _ _ (HSb2.out.box) ?_
 clear hK K hHeld; intro hHeld; (try simp only [Act.put, pA, pB, pC])
 refine aloneH (i := 9) rfl (by kernel_rfl) (fun K hK => ?_)
 rw [if_pos (by rfl)]
 go_simp; ((refine (HSb2.out.text _ HD.out.2.2.2.1 (by have := HN.out; omega)).mono ?_); (rintro e w3 ⟨rfl, hs, hb⟩); have HSb3 := Lib.hid hs; have HWb3 := Lib.hid (HWb2.out.trans hb); clear hs hb; (try go_simp))
 refine hK.out _ _ (HSb3.out.box) ?_
 clear hK K hHeld; intro hHeld; (try simp only [Act.put, pA, pB, pC])
 refine aloneH (i := 12) rfl (by kernel_rfl) (fun K hK => ?_)
 rw [if_pos (by rfl)]
 go_simp; ((refine (HSb3.out.text _ HD.out.2.2.2.2 (by have := HN.out; omega)).mono ?_); (rintro e w4 ⟨rfl, hs, hb⟩); have HSb4 := Lib.hid hs; have HWb4 := Lib.hid (HWb3.out.trans hb); clear hs hb; (try go_simp))
 refine hK.out _ _ (HSb4.out.box) ?_
 clear hK K hHeld; intro hHeld; (try simp only [Act.put, pA, pB, pC])
 refine wpAnyH_done (by kernel_rfl) ?_ _
 clear hHeld
 obtain ⟨d0, d1, d2, d3, d4, d5, d6, d7, d8⟩ := cellsLineV HSb4.out.box
 go_wp2_with (go_at_call 66; refine (HSb4.out.num d.lines.length (by omega) (by omega) (by have := HN.out; omega)).mono ?_; rintro e w5 ⟨rfl, hs, hb⟩; have HS5 := Lib.hid hs; have HW5 := Lib.hid (HWb4.out.trans hb); clear hs hb d0 d1 d2 d3 d4 d5 d6 d7 d8; obtain ⟨d0, d1, d2, d3, d4, d5, d6, d7, d8⟩ := cellsLineV HS5.out.box; refine Stop.out ?_)
 unfold Stop
 go_wp2
 go_loopw [40] (fun i wr => ∃ (k : Nat), k ≤ d.lines.length ∧ i = .int .i64 k ∧ ∃ v, Hid (Wrt wr B g (linesT (headT S d) (d.lines.take k)) v) ∧ Hid (B ≤ wr.heap.size ∧ ((linesT (headT S d) (d.lines.take k)).getD []).length ≤ N + 630000 + k * 630000) ∧ Hid (Below B w wr)) (fun i _ => d.lines.length - (intOf i).toNat)
 case atStart =>
  obtain ⟨⟨v9, q1, q2, _⟩, q3⟩ := HS5.out
  exact ⟨0, Nat.zero_le _, rfl, v9, Lib.hid q1, Lib.hid (And.intro q2 (by simpa [linesT, headT] using q3)), HW5⟩
 case round =>
  obtain ⟨k, hk, rfl, v9, HQ1, HQ2, HQ3⟩ := hrel
  clear d0 d1 d2 d3 d4 d5 d6 d7 d8
  by_cases hlt : k < d.lines.length
  · have hlt' : (k : Int) < (d.lines.length : Int) := by omega
    have HLk := Lib.hid (HLr.out _ (List.getElem_mem hlt))
    obtain ⟨a, o, ha, hbl, y0, y1, y2, y3, y4, y5, y6, y7, y8⟩ := (HRow.out _ HQ3.out).at_ k hlt
    rw [ha]
    have HSc := Lib.hid (WN.start HQ1.out HQ2.out.1 HQ2.out.2 (.cells #[.int .i64 d.lines[k].1, .int .i64 d.lines[k].2.1, .string d.lines[k].2.2.1, .string d.lines[k].2.2.2.1, .string d.lines[k].2.2.2.2.1, .int .i64 d.lines[k].2.2.2.2.2.1, .bool d.lines[k].2.2.2.2.2.2.1, .int .i64 d.lines[k].2.2.2.2.2.2.2.1, .bool d.lines[k].2.2.2.2.2.2.2.2] 30))
    have HWc := Lib.hid (HQ3.out.trans ((Below.refl B wr).alloc HQ2.out.1 (.cells #[.int .i64 d.lines[k].1, .int .i64 d.lines[k].2.1, .string d.lines[k].2.2.1, .string d.lines[k].2.2.2.1, .string d.lines[k].2.2.2.2.1, .int .i64 d.lines[k].2.2.2.2.2.1, .bool d.lines[k].2.2.2.2.2.2.1, .int .i64 d.lines[k].2.2.2.2.2.2.2.1, .bool d.lines[k].2.2.2.2.2.2.2.2] 30)))
    go_wp2
    generalize hx : World.alloc wr (.cells #[.int .i64 d.lines[k].1, .int .i64 d.lines[k].2.1, .string d.lines[k].2.2.1, .string d.lines[k].2.2.2.1, .string d.lines[k].2.2.2.2.1, .int .i64 d.lines[k].2.2.2.2.2.1, .bool d.lines[k].2.2.2.2.2.2.1, .int .i64 d.lines[k].2.2.2.2.2.2.2.1, .bool d.lines[k].2.2.2.2.2.2.2.2] 30) = wz at HSc HWc ⊢
    clear hx y0 y1 y2 y3 y4 y5 y6 y7 y8
    have HScd := Lib.hid HSc.out.drew
    have HWcd := Lib.hid (HWc.out.trans ((Below.refl _ _).drew))
    refine wp_region_held_drew (S := fun V => V.heap[wr.heap.size]? = some (.cells #[.int .i64 d.lines[k].1, .int .i64 d.lines[k].2.1, .string d.lines[k].2.2.1, .string d.lines[k].2.2.2.1, .string d.lines[k].2.2.2.2.1, .int .i64 d.lines[k].2.2.2.2.2.1, .bool d.lines[k].2.2.2.2.2.2.1, .int .i64 d.lines[k].2.2.2.2.2.2.2.1, .bool d.lines[k].2.2.2.2.2.2.2.2] 30 (0, 0))) (by kernel_rfl) HScd.out.box ?_
    intro hHeld
    generalize World.drew _ = wd at HScd HWcd hHeld ⊢
    (refine takeP (i := 0) ?_ rfl (.inl ⟨by rfl, ?_⟩) ?_; rotate_left; (focus ((intro wS hSw); (try dsimp only at hSw); obtain ⟨s0, s1, s2, s3, s4, s5, s6, s7, s8⟩ := cellsLineV hSw; go_simp; (try with_reducible rfl); done)); (try simp only [Act.put, pA, pB, pC]))
    (refine takeP (i := 1) ?_ rfl (.inl ⟨by rfl, ?_⟩) ?_; rotate_left; (focus ((intro wS hSw); (try dsimp only at hSw); obtain ⟨s0, s1, s2, s3, s4, s5, s6, s7, s8⟩ := cellsLineV hSw; go_simp; (try with_reducible rfl); done)); (try simp only [Act.put, pA, pB, pC]))
    (refine takeP (i := 2) ?_ rfl (.inl ⟨by rfl, ?_⟩) ?_; rotate_left; (focus ((intro wS hSw); (try dsimp only at hSw); obtain ⟨s0, s1, s2, s3, s4, s5, s6, s7, s8⟩ := cellsLineV hSw; go_simp; (try with_reducible rfl); done)); (try simp only [Act.put, pA, pB, pC]))
    (refine takeP (i := 4) ?_ rfl (.inl ⟨by rfl, ?_⟩) ?_; rotate_left; (focus ((intro wS hSw); (try dsimp only at hSw); obtain ⟨s0, s1, s2, s3, s4, s5, s6, s7, s8⟩ := cellsLineV hSw; go_simp; (try with_reducible rfl); done)); (try simp only [Act.put, pA, pB, pC]))
    (refine takeP (i := 5) ?_ rfl (.inl ⟨by rfl, ?_⟩) ?_; rotate_left; (focus ((intro wS hSw); (try dsimp only at hSw); obtain ⟨s0, s1, s2, s3, s4, s5, s6, s7, s8⟩ := cellsLineV hSw; go_simp; (try with_reducible rfl); done)); (try simp only [Act.put, pA, pB, pC]))
    (refine takeP (i := 7) ?_ rfl (.inl ⟨by rfl, ?_⟩) ?_; rotate_left; (focus ((intro wS hSw); (try dsimp only at hSw); obtain ⟨s0, s1, s2, s3, s4, s5, s6, s7, s8⟩ := cellsLineV hSw; go_simp; (try with_reducible rfl); done)); (try simp only [Act.put, pA, pB, pC]))
    (refine takeP (i := 8) ?_ rfl (.inl ⟨by rfl, ?_⟩) ?_; rotate_left; (focus ((intro wS hSw); (try dsimp only at hSw); obtain ⟨s0, s1, s2, s3, s4, s5, s6, s7, s8⟩ := cellsLineV hSw; go_simp; (try with_reducible rfl); done)); (try simp only [Act.put, pA, pB, pC]))
    (refine takeP (i := 10) ?_ rfl (.inl ⟨by rfl, ?_⟩) ?_; rotate_left; (focus ((intro wS hSw); (try dsimp only at hSw); obtain ⟨s0, s1, s2, s3, s4, s5, s6, s7, s8⟩ := cellsLineV hSw; go_simp; (try with_reducible rfl); done)); (try simp only [Act.put, pA, pB, pC]))
    (refine takeP (i := 11) ?_ rfl (.inl ⟨by rfl, ?_⟩) ?_; rotate_left; (focus ((intro wS hSw); (try dsimp only at hSw); obtain ⟨s0, s1, s2, s3, s4, s5, s6, s7, s8⟩ := cellsLineV hSw; go_simp; (try with_reducible rfl); done)); (try simp only [Act.put, pA, pB, pC]))
    (refine takeP (i := 13) ?_ rfl (.inl ⟨by rfl, ?_⟩) ?_; rotate_left; (focus ((intro wS hSw); (try dsimp only at hSw); obtain ⟨s0, s1, s2, s3, s4, s5, s6, s7, s8⟩ := cellsLineV hSw; go_simp; (try with_reducible rfl); done)); (try simp only [Act.put, pA, pB, pC]))
    (refine takeP (i := 14) ?_ rfl (.inl ⟨by rfl, ?_⟩) ?_; rotate_left; (focus ((intro wS hSw); (try dsimp only at hSw); obtain ⟨s0, s1, s2, s3, s4, s5, s6, s7, s8⟩ := cellsLineV hSw; go_simp; (try with_reducible rfl); done)); (try simp only [Act.put, pA, pB, pC]))
    refine aloneH (i := 3) rfl (by kernel_rfl) (fun K hK => ?_)
    rw [if_pos (by rfl)]
    go_simp; ((refine (HScd.out.num _ HLk.out.1.1 HLk.out.1.2 (by have := HN.out; omega)).mono ?_); (rintro e w1 ⟨rfl, hs, hb⟩); have HSc1 := Lib.hid hs; have HWc1 := Lib.hid (HWcd.out.trans hb); clear hs hb; (try go_simp))
    refine hK.out _ _ (HSc1.out.box) ?_
    clear hK K hHeld; intro hHeld; (try simp only [Act.put, pA, pB, pC])
    refine aloneH (i := 6) rfl (by kernel_rfl) (fun K hK => ?_)
    rw [if_pos (by rfl)]
    go_simp; ((refine (HSc1.out.num _ HLk.out.2.1.1 HLk.out.2.1.2 (by have := HN.out; omega)).mono ?_); (rintro e w2 ⟨rfl, hs, hb⟩); have HSc2 := Lib.hid hs; have HWc2 := Lib.hid (HWc1.out.trans hb); clear hs hb; (try go_simp))
    refine hK.out _ _ (HSc2.out.box) ?_
    clear hK K hHeld; intro hHeld; (try simp only [Act.put, pA, pB, pC])
    refine aloneH (i := 9) rfl (by kernel_rfl) (fun K hK => ?_)
    rw [if_pos (by rfl)]
    go_simp; ((refine (HSc2.out.text _ (by have := HLk.out.2.2.2.2.1; omega) (by have := HN.out; omega)).mono ?_); (rintro e w3 ⟨rfl, hs, hb⟩); have HSc3 := Lib.hid hs; have HWc3 := Lib.hid (HWc2.out.trans hb); clear hs hb; (try go_simp))
    refine hK.out _ _ (HSc3.out.box) ?_
    clear hK K hHeld; intro hHeld; (try simp only [Act.put, pA, pB, pC])
    refine aloneH (i := 12) rfl (by kernel_rfl) (fun K hK => ?_)
    rw [if_pos (by rfl)]
    go_simp; ((refine (HSc3.out.text _ (by have := HLk.out.2.2.2.2.2.1; omega) (by have := HN.out; omega)).mono ?_); (rintro e w4 ⟨rfl, hs, hb⟩); have HSc4 := Lib.hid hs; have HWc4 := Lib.hid (HWc3.out.trans hb); clear hs hb; (try go_simp))
    refine hK.out _ _ (HSc4.out.box) ?_
    clear hK K hHeld; intro hHeld; (try simp only [Act.put, pA, pB, pC])
    refine aloneH (i := 15) rfl (by kernel_rfl) (fun K hK => ?_)
    rw [if_pos (by rfl)]
    go_simp; ((refine (HSc4.out.text _ (by have := HLk.out.2.2.2.2.2.2; omega) (by have := HN.out; omega)).mono ?_); (rintro e w5 ⟨rfl, hs, hb⟩); have HSc5 := Lib.hid hs; have HWc5 := Lib.hid (HWc4.out.trans hb); clear hs hb; (try go_simp))
    refine hK.out _ _ (HSc5.out.box) ?_
    clear hK K hHeld; intro hHeld; (try simp only [Act.put, pA, pB, pC])
    refine wpAnyH_done (by kernel_rfl) ?_ _
    clear hHeld
    go_wp2
    have HSed := Lib.hid HSc5.out.drew
    have HWed := Lib.hid (HWc5.out.trans ((Below.refl _ _).drew))
    refine wp_region_held_drew (S := fun V => V.heap[wr.heap.size]? = some (.cells #[.int .i64 d.lines[k].1, .int .i64 d.lines[k].2.1, .string d.lines[k].2.2.1, .string d.lines[k].2.2.2.1, .string d.lines[k].2.2.2.2.1, .int .i64 d.lines[k].2.2.2.2.2.1, .bool d.lines[k].2.2.2.2.2.2.1, .int .i64 d.lines[k].2.2.2.2.2.2.2.1, .bool d.lines[k].2.2.2.2.2.2.2.2] 30 (0, 0))) (by kernel_rfl) HSed.out.box ?_
    intro hHeld
    generalize World.drew _ = wd at HSed HWed hHeld ⊢
    (refine takeP (i := 0) ?_ rfl (.inl ⟨by rfl, ?_⟩) ?_; rotate_left; (focus ((intro wS hSw); (try dsimp only at hSw); obtain ⟨s0, s1, s2, s3, s4, s5, s6, s7, s8⟩ := cellsLineV hSw; go_simp; (try with_reducible rfl); done)); (try simp only [Act.put, pA, pB, pC]))
    (refine takeP (i := 1) ?_ rfl (.inl ⟨by rfl, ?_⟩) ?_; rotate_left; (focus ((intro wS hSw); (try dsimp only at hSw); obtain ⟨s0, s1, s2, s3, s4, s5, s6, s7, s8⟩ := cellsLineV hSw; go_simp; (try with_reducible rfl); done)); (try simp only [Act.put, pA, pB, pC]))
    (refine takeP (i := 2) ?_ rfl (.inl ⟨by rfl, ?_⟩) ?_; rotate_left; (focus ((intro wS hSw); (try dsimp only at hSw); obtain ⟨s0, s1, s2, s3, s4, s5, s6, s7, s8⟩ := cellsLineV hSw; go_simp; (try with_reducible rfl); done)); (try simp only [Act.put, pA, pB, pC]))
    (refine takeP (i := 4) ?_ rfl (.inl ⟨by rfl, ?_⟩) ?_; rotate_left; (focus ((intro wS hSw); (try dsimp only at hSw); obtain ⟨s0, s1, s2, s3, s4, s5, s6, s7, s8⟩ := cellsLineV hSw; go_simp; (try with_reducible rfl); done)); (try simp only [Act.put, pA, pB, pC]))
    (refine takeP (i := 5) ?_ rfl (.inl ⟨by rfl, ?_⟩) ?_; rotate_left; (focus ((intro wS hSw); (try dsimp only at hSw); obtain ⟨s0, s1, s2, s3, s4, s5, s6, s7, s8⟩ := cellsLineV hSw; go_simp; (try with_reducible rfl); done)); (try simp only [Act.put, pA, pB, pC]))
    (refine takeP (i := 7) ?_ rfl (.inl ⟨by rfl, ?_⟩) ?_; rotate_left; (focus ((intro wS hSw); (try dsimp only at hSw); obtain ⟨s0, s1, s2, s3, s4, s5, s6, s7, s8⟩ := cellsLineV hSw; go_simp; (try with_reducible rfl); done)); (try simp only [Act.put, pA, pB, pC]))
    (refine takeP (i := 8) ?_ rfl (.inl ⟨by rfl, ?_⟩) ?_; rotate_left; (focus ((intro wS hSw); (try dsimp only at hSw); obtain ⟨s0, s1, s2, s3, s4, s5, s6, s7, s8⟩ := cellsLineV hSw; go_simp; (try with_reducible rfl); done)); (try simp only [Act.put, pA, pB, pC]))
    (refine takeP (i := 10) ?_ rfl (.inl ⟨by rfl, ?_⟩) ?_; rotate_left; (focus ((intro wS hSw); (try dsimp only at hSw); obtain ⟨s0, s1, s2, s3, s4, s5, s6, s7, s8⟩ := cellsLineV hSw; go_simp; (try with_reducible rfl); done)); (try simp only [Act.put, pA, pB, pC]))
    (refine takeP (i := 11) ?_ rfl (.inl ⟨by rfl, ?_⟩) ?_; rotate_left; (focus ((intro wS hSw); (try dsimp only at hSw); obtain ⟨s0, s1, s2, s3, s4, s5, s6, s7, s8⟩ := cellsLineV hSw; go_simp; (try with_reducible rfl); done)); (try simp only [Act.put, pA, pB, pC]))
    refine aloneH (i := 3) rfl (by kernel_rfl) (fun K hK => ?_)
    rw [if_pos (by rfl)]
    go_simp; ((refine (HSed.out.num _ HLk.out.2.2.1.1 HLk.out.2.2.1.2 (by have := HN.out; omega)).mono ?_); (rintro e w1 ⟨rfl, hs, hb⟩); have HSe1 := Lib.hid hs; have HWe1 := Lib.hid (HWed.out.trans hb); clear hs hb; (try go_simp))
    refine hK.out _ _ (HSe1.out.box) ?_
    clear hK K hHeld; intro hHeld; (try simp only [Act.put, pA, pB, pC])
    refine aloneH (i := 6) rfl (by kernel_rfl) (fun K hK => ?_)
    rw [if_pos (by rfl)]
    go_simp; ((refine (HSe1.out.flag _ (by have := HN.out; omega)).mono ?_); (rintro e w2 ⟨rfl, hs, hb⟩); have HSe2 := Lib.hid hs; have HWe2 := Lib.hid (HWe1.out.trans hb); clear hs hb; (try go_simp))
    refine hK.out _ _ (HSe2.out.box) ?_
    clear hK K hHeld; intro hHeld; (try simp only [Act.put, pA, pB, pC])
    refine aloneH (i := 9) rfl (by kernel_rfl) (fun K hK => ?_)
    rw [if_pos (by rfl)]
    go_simp; ((refine (HSe2.out.num _ HLk.out.2.2.2.1.1 HLk.out.2.2.2.1.2 (by have := HN.out; omega)).mono ?_); (rintro e w3 ⟨rfl, hs, hb⟩); have HSe3 := Lib.hid hs; have HWe3 := Lib.hid (HWe2.out.trans hb); clear hs hb; (try go_simp))
    refine hK.out _ _ (HSe3.out.box) ?_
    clear hK K hHeld; intro hHeld; (try simp only [Act.put, pA, pB, pC])
    refine aloneH (i := 12) rfl (by kernel_rfl) (fun K hK => ?_)
    rw [if_pos (by rfl)]
    go_simp; ((refine (HSe3.out.flag _ (by have := HN.out; omega)).mono ?_); (rintro e w4 ⟨rfl, hs, hb⟩); have HSe4 := Lib.hid hs; have HWe4 := Lib.hid (HWe3.out.trans hb); clear hs hb; (try go_simp))
    refine hK.out _ _ (HSe4.out.box) ?_
    clear hK K hHeld; intro hHeld; (try simp only [Act.put, pA, pB, pC])
    refine wpAnyH_done (by kernel_rfl) ?_ _
    clear hHeld
    have HF := Lib.hid (show WN w4 B g (linesT (headT S d) (d.lines.take (k + 1))) wr.heap.size (.cells #[.int .i64 d.lines[k].1, .int .i64 d.lines[k].2.1, .string d.lines[k].2.2.1, .string d.lines[k].2.2.2.1, .string d.lines[k].2.2.2.2.1, .int .i64 d.lines[k].2.2.2.2.2.1, .bool d.lines[k].2.2.2.2.2.2.1, .int .i64 d.lines[k].2.2.2.2.2.2.2.1, .bool d.lines[k].2.2.2.2.2.2.2.2] 30 (0, 0)) _ from by rw [linesT_next hlt]; exact HSe4.out)
    go_wp2
    go_roundw
    case rel =>
     obtain ⟨⟨v9, q1, q2, _⟩, q3⟩ := HF.out
     exact ⟨k + 1, by omega, by go_num, v9, Lib.hid q1, Lib.hid (And.intro q2 (by omega)), HWe4⟩
    case measure => simp [intOf]; omega
  · obtain rfl : k = d.lines.length := by omega
    go_wp2
    go_end0
    exact ⟨rfl, ⟨v9, by have := HQ1.out; rwa [List.take_length] at this⟩, HQ3.out⟩
end Go.Proofs.YtmjjenemokojjaaGreat
