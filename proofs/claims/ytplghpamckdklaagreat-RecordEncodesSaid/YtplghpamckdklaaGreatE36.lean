/- Documents as bytes, written: the walk. Commands as bytes: Encode, by what it calls. The chapter's document as bytes: Encode. -/
import Derived.Test.YtplghpamckdklaaGreatE12
import Derived.WalkMore
import Derived.Test.YtplghpamckdklaaGreatE25
import Derived.Laws.Rows
namespace Go.Proofs.YtplghpamckdklaaGreat
open Go.RowKit
set_option maxRecDepth 100000
set_option linter.unusedSimpArgs false
set_option linter.unusedVariables false

set_option maxHeartbeats 8000000 in
theorem write_doc (d : DocV) (B g N : Nat) (S : Option Text) (v : Value) (w : World) (hw : Wrt w B g S v) (hB : B ≤ w.heap.size) (hl : (S.getD []).length ≤ N) (hN : N ≤ 1000000000) (hm : d.lines.length ≤ 1000) (hlc : d.lines.length ≤ d.linesC) (hid : d.id.size ≤ 9223372036854775807) (hrf : d.refers.size ≤ 9223372036854775807) (hd : -9223372036854775808 ≤ d.day ∧ d.day ≤ 9223372036854775807 ∧ d.country.size ≤ 9223372036854775807 ∧ d.number.size ≤ 9223372036854775807 ∧ d.currency.size ≤ 9223372036854775807) (HRow : Hid (∀ W, Below B w W → RowLineV W d.linesA d.lines)) (HLr : Hid (∀ l ∈ d.lines, lineR l)) : Calls Tryz.prog 68 #[.pointer (some ⟨g, 0, none⟩), .agg #[.string d.id, .bool d.sale, .bool d.credit, .string d.refers, .int .i64 d.day, .string d.country, .string d.number, .string d.currency, .slice d.linesA d.lines.length d.linesC]] w fun e w1 => Wrote w B g (linesT (headT S d) d.lines) e w1 := by
 have HSa := Lib.hid (WN.start hw hB hl (.cells #[.string d.id, .bool d.sale, .bool d.credit, .string d.refers, .int .i64 d.day, .string d.country, .string d.number, .string d.currency, .slice d.linesA d.lines.length d.linesC] 26))
 have HWa := Lib.hid ((Below.refl B w).alloc hB (.cells #[.string d.id, .bool d.sale, .bool d.credit, .string d.refers, .int .i64 d.day, .string d.country, .string d.number, .string d.currency, .slice d.linesA d.lines.length d.linesC] 26))
 have HN := Lib.hid (And.intro hN hm)
 have HD := Lib.hid hd
 have HI := Lib.hid hid
 have HR := Lib.hid hrf
 have hl4 : (d.lines.length : Int) ≤ 1000 := by omega
 have hlc' : (d.lines.length : Int) ≤ (d.linesC : Int) := by omega
 clear hw hB hl hN hd hid hrf
 go_enter Tryz.func68, Tryz.ntmps68
 go_wp2
 generalize hx : World.alloc w (.cells #[.string d.id, .bool d.sale, .bool d.credit, .string d.refers, .int .i64 d.day, .string d.country, .string d.number, .string d.currency, .slice d.linesA d.lines.length d.linesC] 26) = wz at HSa HWa ⊢
 clear hx
 have HSad := Lib.hid HSa.out.drew
 have HWad := Lib.hid (HWa.out.trans ((Below.refl _ _).drew))
 refine wp_region_held_drew (S := fun V => V.heap[w.heap.size]? = some (.cells #[.string d.id, .bool d.sale, .bool d.credit, .string d.refers, .int .i64 d.day, .string d.country, .string d.number, .string d.currency, .slice d.linesA d.lines.length d.linesC] 26 (0, 0))) (by kernel_rfl) HSad.out.box ?_
 intro hHeld
 generalize World.drew _ = wd at HSad HWad hHeld ⊢
 (refine takeP (i := 0) ?_ rfl (.inl ⟨by rfl, ?_⟩) ?_; rotate_left; (focus ((intro wS hSw); (try dsimp only at hSw); obtain ⟨s0, s1, s2, s3, s4, s5, s6, s7, s8⟩ := cellsLineV hSw; go_simp; (try with_reducible rfl); done)); (try simp only [Act.put, pA, pB, pC]))
 (refine takeP (i := 1) ?_ rfl (.inl ⟨by rfl, ?_⟩) ?_; rotate_left; (focus ((intro wS hSw); (try dsimp only at hSw); obtain ⟨s0, s1, s2, s3, s4, s5, s6, s7, s8⟩ := cellsLineV hSw; go_simp; (try with_reducible rfl); done)); (try simp only [Act.put, pA, pB, pC]))
 (refine takeP (i := 2) ?_ rfl (.inl ⟨by rfl, ?_⟩) ?_; rotate_left; (focus ((intro wS hSw); (try dsimp only at hSw); obtain ⟨s0, s1, s2, s3, s4, s5, s6, s7, s8⟩ := cellsLineV hSw; go_simp; (try with_reducible rfl); done)); (try simp only [Act.put, pA, pB, pC]))
 (refine takeP (i := 4) ?_ rfl (.inl ⟨by rfl, ?_⟩) ?_; rotate_left; (focus ((intro wS hSw); (try dsimp only at hSw); obtain ⟨s0, s1, s2, s3, s4, s5, s6, s7, s8⟩ := cellsLineV hSw; go_simp; (try with_reducible rfl); done)); (try simp only [Act.put, pA, pB, pC]))
 (refine takeP (i := 5) ?_ rfl (.inl ⟨by rfl, ?_⟩) ?_; rotate_left; (focus ((intro wS hSw); (try dsimp only at hSw); obtain ⟨s0, s1, s2, s3, s4, s5, s6, s7, s8⟩ := cellsLineV hSw; go_simp; (try with_reducible rfl); done)); (try simp only [Act.put, pA, pB, pC]))
 (refine takeP (i := 7) ?_ rfl (.inl ⟨by rfl, ?_⟩) ?_; rotate_left; (focus ((intro wS hSw); (try dsimp only at hSw); obtain ⟨s0, s1, s2, s3, s4, s5, s6, s7, s8⟩ := cellsLineV hSw; go_simp; (try with_reducible rfl); done)); (try simp only [Act.put, pA, pB, pC]))
 (refine takeP (i := 8) ?_ rfl (.inl ⟨by rfl, ?_⟩) ?_; rotate_left; (focus ((intro wS hSw); (try dsimp only at hSw); obtain ⟨s0, s1, s2, s3, s4, s5, s6, s7, s8⟩ := cellsLineV hSw; go_simp; (try with_reducible rfl); done)); (try simp only [Act.put, pA, pB, pC]))
 (refine takeP (i := 10) ?_ rfl (.inl ⟨by rfl, ?_⟩) ?_; rotate_left; (focus ((intro wS hSw); (try dsimp only at hSw); obtain ⟨s0, s1, s2, s3, s4, s5, s6, s7, s8⟩ := cellsLineV hSw; go_simp; (try with_reducible rfl); done)); (try simp only [Act.put, pA, pB, pC]))
 (refine takeP (i := 11) ?_ rfl (.inl ⟨by rfl, ?_⟩) ?_; rotate_left; (focus ((intro wS hSw); (try dsimp only at hSw); obtain ⟨s0, s1, s2, s3, s4, s5, s6, s7, s8⟩ := cellsLineV hSw; go_simp; (try with_reducible rfl); done)); (try simp only [Act.put, pA, pB, pC]))
 refine aloneH (i := 3) rfl (by kernel_rfl) (fun K hK => ?_)
 rw [if_pos (by rfl)]
 go_simp; ((refine (HSad.out.text _ HI.out (by have := HN.out; omega)).mono ?_); (rintro e w1 ⟨rfl, hs, hb⟩); have HSa1 := Lib.hid hs; have HWa1 := Lib.hid (HWad.out.trans hb); clear hs hb; (try go_simp))
 refine hK.out _ _ (HSa1.out.box) ?_
 clear hK K hHeld; intro hHeld; (try simp only [Act.put, pA, pB, pC])
 refine aloneH (i := 6) rfl (by kernel_rfl) (fun K hK => ?_)
 rw [if_pos (by rfl)]
 go_simp; ((refine (HSa1.out.flag _ (by have := HN.out; omega)).mono ?_); (rintro e w2 ⟨rfl, hs, hb⟩); have HSa2 := Lib.hid hs; have HWa2 := Lib.hid (HWa1.out.trans hb); clear hs hb; (try go_simp))
 refine hK.out _ _ (HSa2.out.box) ?_
 clear hK K hHeld; intro hHeld; (try simp only [Act.put, pA, pB, pC])
 refine aloneH (i := 9) rfl (by kernel_rfl) (fun K hK => ?_)
 rw [if_pos (by rfl)]
 go_simp; ((refine (HSa2.out.flag _ (by have := HN.out; omega)).mono ?_); (rintro e w3 ⟨rfl, hs, hb⟩); have HSa3 := Lib.hid hs; have HWa3 := Lib.hid (HWa2.out.trans hb); clear hs hb; (try go_simp))
 refine hK.out _ _ (HSa3.out.box) ?_
 clear hK K hHeld; intro hHeld; (try simp only [Act.put, pA, pB, pC])
 refine aloneH (i := 12) rfl (by kernel_rfl) (fun K hK => ?_)
 rw [if_pos (by rfl)]
 go_simp; ((refine (HSa3.out.text _ HR.out (by have := HN.out; omega)).mono ?_); (rintro e w4 ⟨rfl, hs, hb⟩); have HSa4 := Lib.hid hs; have HWa4 := Lib.hid (HWa3.out.trans hb); clear hs hb; (try go_simp))
 refine hK.out _ _ (HSa4.out.box) ?_
 clear hK K hHeld; intro hHeld; (try simp only [Act.put, pA, pB, pC])
 refine wpAnyH_done (by kernel_rfl) ?_ _
 clear hHeld
 go_wp2
 have HSbd := Lib.hid HSa4.out.drew
 have HWbd := Lib.hid (HWa4.out.trans ((Below.refl _ _).drew))
 refine wp_region_held_drew (S := fun V => V.heap[w.heap.size]? = some (.cells #[.string d.id, .bool d.sale, .bool d.credit, .string d.refers, .int .i64 d.day, .string d.country, .string d.number, .string d.currency, .slice d.linesA d.lines.length d.linesC] 26 (0, 0))) (by kernel_rfl) HSbd.out.box ?_
 intro hHeld
 generalize World.drew _ = wd at HSbd HWbd hHeld ⊢
 (refine takeP (i := 0) ?_ rfl (.inl ⟨by rfl, ?_⟩) ?_; rotate_left; (focus ((intro wS hSw); (try dsimp only at hSw); obtain ⟨s0, s1, s2, s3, s4, s5, s6, s7, s8⟩ := cellsLineV hSw; go_simp; (try with_reducible rfl); done)); (try simp only [Act.put, pA, pB, pC]))
 (refine takeP (i := 1) ?_ rfl (.inl ⟨by rfl, ?_⟩) ?_; rotate_left; (focus ((intro wS hSw); (try dsimp only at hSw); obtain ⟨s0, s1, s2, s3, s4, s5, s6, s7, s8⟩ := cellsLineV hSw; go_simp; (try with_reducible rfl); done)); (try simp only [Act.put, pA, pB, pC]))
 (refine takeP (i := 2) ?_ rfl (.inl ⟨by rfl, ?_⟩) ?_; rotate_left; (focus ((intro wS hSw); (try dsimp only at hSw); obtain ⟨s0, s1, s2, s3, s4, s5, s6, s7, s8⟩ := cellsLineV hSw; go_simp; (try with_reducible rfl); done)); (try simp only [Act.put, pA, pB, pC]))
 (refine takeP (i := 4) ?_ rfl (.inl ⟨by rfl, ?_⟩) ?_; rotate_left; (focus ((intro wS hSw); (try dsimp only at hSw); obtain ⟨s0, s1, s2, s3, s4, s5, s6, s7, s8⟩ := cellsLineV hSw; go_simp; (try with_reducible rfl); done)); (try simp only [Act.put, pA, pB, pC]))
 (refine takeP (i := 5) ?_ rfl (.inl ⟨by rfl, ?_⟩) ?_; rotate_left; (focus ((intro wS hSw); (try dsimp only at hSw); obtain ⟨s0, s1, s2, s3, s4, s5, s6, s7, s8⟩ := cellsLineV hSw; go_simp; (try with_reducible rfl); done)); (try simp only [Act.put, pA, pB, pC]))
 (refine takeP (i := 7) ?_ rfl (.inl ⟨by rfl, ?_⟩) ?_; rotate_left; (focus ((intro wS hSw); (try dsimp only at hSw); obtain ⟨s0, s1, s2, s3, s4, s5, s6, s7, s8⟩ := cellsLineV hSw; go_simp; (try with_reducible rfl); done)); (try simp only [Act.put, pA, pB, pC]))
 (refine takeP (i := 8) ?_ rfl (.inl ⟨by rfl, ?_⟩) ?_; rotate_left; (focus ((intro wS hSw); (try dsimp only at hSw); obtain ⟨s0, s1, s2, s3, s4, s5, s6, s7, s8⟩ := cellsLineV hSw; go_simp; (try with_reducible rfl); done)); (try simp only [Act.put, pA, pB, pC]))
 (refine takeP (i := 10) ?_ rfl (.inl ⟨by rfl, ?_⟩) ?_; rotate_left; (focus ((intro wS hSw); (try dsimp only at hSw); obtain ⟨s0, s1, s2, s3, s4, s5, s6, s7, s8⟩ := cellsLineV hSw; go_simp; (try with_reducible rfl); done)); (try simp only [Act.put, pA, pB, pC]))
 (refine takeP (i := 11) ?_ rfl (.inl ⟨by rfl, ?_⟩) ?_; rotate_left; (focus ((intro wS hSw); (try dsimp only at hSw); obtain ⟨s0, s1, s2, s3, s4, s5, s6, s7, s8⟩ := cellsLineV hSw; go_simp; (try with_reducible rfl); done)); (try simp only [Act.put, pA, pB, pC]))
 refine aloneH (i := 3) rfl (by kernel_rfl) (fun K hK => ?_)
 rw [if_pos (by rfl)]
 go_simp; ((refine (HSbd.out.num _ HD.out.1 HD.out.2.1 (by have := HN.out; omega)).mono ?_); (rintro e w1 ⟨rfl, hs, hb⟩); have HSb1 := Lib.hid hs; have HWb1 := Lib.hid (HWbd.out.trans hb); clear hs hb; (try go_simp))
 refine hK.out _ _ (HSb1.out.box) ?_
 clear hK K hHeld; intro hHeld; (try simp only [Act.put, pA, pB, pC])
 refine aloneH (i := 6) rfl (by kernel_rfl) (fun K hK => ?_)
 rw [if_pos (by rfl)]
 go_simp; ((refine (HSb1.out.text _ HD.out.2.2.1 (by have := HN.out; omega)).mono ?_); (rintro e w2 ⟨rfl, hs, hb⟩); have HSb2 := Lib.hid hs; have HWb2 := Lib.hid (HWb1.out.trans hb); clear hs hb; (try go_simp))
 refine hK.out _ _ (HSb2.out.box) ?_
 clear hK K hHeld; intro hHeld; (try simp only [Act.put, pA, pB, pC])
 refine aloneH (i := 9) rfl (by kernel_rfl) (fun K hK => ?_)
 rw [if_pos (by rfl)]
 go_simp; ((refine (HSb2.out.text _ HD.out.2.2.2.1 (by have := HN.out; omega)).mono ?_); (rintro e w3 ⟨rfl, hs, hb⟩); have HSb3 := Lib.hid hs; have HWb3 := Lib.hid (HWb2.out.trans hb); clear hs hb; (try go_simp))
 refine hK.out _ _ (HSb3.out.box) ?_
 clear hK K hHeld; intro hHeld; (try simp only [Act.put, pA, pB, pC])
 refine aloneH (i := 12) rfl (by kernel_rfl) (fun K hK => ?_)
 rw [if_pos (by rfl)]
 go_simp; ((refine (HSb3.out.text _ HD.out.2.2.2.2 (by have := HN.out; omega)).mono ?_); (rintro e w4 ⟨rfl, hs, hb⟩); have HSb4 := Lib.hid hs; have HWb4 := Lib.hid (HWb3.out.trans hb); clear hs hb; (try go_simp))
 refine hK.out _ _ (HSb4.out.box) ?_
 clear hK K hHeld; intro hHeld; (try simp only [Act.put, pA, pB, pC])
 refine wpAnyH_done (by kernel_rfl) ?_ _
 clear hHeld
 obtain ⟨d0, d1, d2, d3, d4, d5, d6, d7, d8⟩ := cellsLineV HSb4.out.box
 go_wp2_with (go_at_call 66; refine (HSb4.out.num d.lines.length (by omega) (by omega) (by have := HN.out; omega)).mono ?_; rintro e w5 ⟨rfl, hs, hb⟩; have HS5 := Lib.hid hs; have HW5 := Lib.hid (HWb4.out.trans hb); clear hs hb d0 d1 d2 d3 d4 d5 d6 d7 d8; obtain ⟨d0, d1, d2, d3, d4, d5, d6, d7, d8⟩ := cellsLineV HS5.out.box; refine Stop.out ?_)
 unfold Stop
 go_wp2
 go_loopw [40] (fun i wr => ∃ (k : Nat), k ≤ d.lines.length ∧ i = .int .i64 k ∧ ∃ v, Hid (Wrt wr B g (linesT (headT S d) (d.lines.take k)) v) ∧ Hid (B ≤ wr.heap.size ∧ ((linesT (headT S d) (d.lines.take k)).getD []).length ≤ N + 630000 + k * 630000) ∧ Hid (Below B w wr)) (fun i _ => d.lines.length - (intOf i).toNat)
 case atStart =>
  obtain ⟨⟨v9, q1, q2, _⟩, q3⟩ := HS5.out
  exact ⟨0, Nat.zero_le _, rfl, v9, Lib.hid q1, Lib.hid (And.intro q2 (by simpa [linesT, headT] using q3)), HW5⟩
 case round =>
  obtain ⟨k, hk, rfl, v9, HQ1, HQ2, HQ3⟩ := hrel
  clear d0 d1 d2 d3 d4 d5 d6 d7 d8
  by_cases hlt : k < d.lines.length
  · have hlt' : (k : Int) < (d.lines.length : Int) := by omega
    have HLk := Lib.hid (HLr.out _ (List.getElem_mem hlt))
    obtain ⟨a, o, ha, hbl, y0, y1, y2, y3, y4, y5, y6, y7, y8⟩ := (HRow.out _ HQ3.out).at_ k hlt
    rw [ha]
    have HSc := Lib.hid (WN.start HQ1.out HQ2.out.1 HQ2.out.2 (.cells #[.int .i64 d.lines[k].1, .int .i64 d.lines[k].2.1, .string d.lines[k].2.2.1, .string d.lines[k].2.2.2.1, .string d.lines[k].2.2.2.2.1, .int .i64 d.lines[k].2.2.2.2.2.1, .bool d.lines[k].2.2.2.2.2.2.1, .int .i64 d.lines[k].2.2.2.2.2.2.2.1, .bool d.lines[k].2.2.2.2.2.2.2.2] 30))
    have HWc := Lib.hid (HQ3.out.trans ((Below.refl B wr).alloc HQ2.out.1 (.cells #[.int .i64 d.lines[k].1, .int .i64 d.lines[k].2.1, .string d.lines[k].2.2.1, .string d.lines[k].2.2.2.1, .string d.lines[k].2.2.2.2.1, .int .i64 d.lines[k].2.2.2.2.2.1, .bool d.lines[k].2.2.2.2.2.2.1, .int .i64 d.lines[k].2.2.2.2.2.2.2.1, .bool d.lines[k].2.2.2.2.2.2.2.2] 30)))
    go_wp2
    generalize hx : World.alloc wr (.cells #[.int .i64 d.lines[k].1, .int .i64 d.lines[k].2.1, .string d.lines[k].2.2.1, .string d.lines[k].2.2.2.1, .string d.lines[k].2.2.2.2.1, .int .i64 d.lines[k].2.2.2.2.2.1, .bool d.lines[k].2.2.2.2.2.2.1, .int .i64 d.lines[k].2.2.2.2.2.2.2.1, .bool d.lines[k].2.2.2.2.2.2.2.2] 30) = wz at HSc HWc ⊢
    clear hx y0 y1 y2 y3 y4 y5 y6 y7 y8
    have HScd := Lib.hid HSc.out.drew
    have HWcd := Lib.hid (HWc.out.trans ((Below.refl _ _).drew))
    refine wp_region_held_drew (S := fun V => V.heap[wr.heap.size]? = some (.cells #[.int .i64 d.lines[k].1, .int .i64 d.lines[k].2.1, .string d.lines[k].2.2.1, .string d.lines[k].2.2.2.1, .string d.lines[k].2.2.2.2.1, .int .i64 d.lines[k].2.2.2.2.2.1, .bool d.lines[k].2.2.2.2.2.2.1, .int .i64 d.lines[k].2.2.2.2.2.2.2.1, .bool d.lines[k].2.2.2.2.2.2.2.2] 30 (0, 0))) (by kernel_rfl) HScd.out.box ?_
    intro hHeld
    generalize World.drew _ = wd at HScd HWcd hHeld ⊢
    (refine takeP (i := 0) ?_ rfl (.inl ⟨by rfl, ?_⟩) ?_; rotate_left; (focus ((intro wS hSw); (try dsimp only at hSw); obtain ⟨s0, s1, s2, s3, s4, s5, s6, s7, s8⟩ := cellsLineV hSw; go_simp; (try with_reducible rfl); done)); (try simp only [Act.put, pA, pB, pC]))
    (refine takeP (i := 1) ?_ rfl (.inl ⟨by rfl, ?_⟩) ?_; rotate_left; (focus ((intro wS hSw); (try dsimp only at hSw); obtain ⟨s0, s1, s2, s3, s4, s5, s6, s7, s8⟩ := cellsLineV hSw; go_simp; (try with_reducible rfl); done)); (try simp only [Act.put, pA, pB, pC]))
    (refine takeP (i := 2) ?_ rfl (.inl ⟨by rfl, ?_⟩) ?_; rotate_left; (focus ((intro wS hSw); (try dsimp only at hSw); obtain ⟨s0, s1, s2, s3, s4, s5, s6, s7, s8⟩ := cellsLineV hSw; go_simp; (try with_reducible rfl); done)); (try simp only [Act.put, pA, pB, pC]))
    (refine takeP (i := 4) ?_ rfl (.inl ⟨by rfl, ?_⟩) ?_; rotate_left; (focus ((intro wS hSw); (try dsimp only at hSw); obtain ⟨s0, s1, s2, s3, s4, s5, s6, s7, s8⟩ := cellsLineV hSw; go_simp; (try with_reducible rfl); done)); (try simp only [Act.put, pA, pB, pC]))
    (refine takeP (i := 5) ?_ rfl (.inl ⟨by rfl, ?_⟩) ?_; rotate_left; (focus ((intro wS hSw); (try dsimp only at hSw); obtain ⟨s0, s1, s2, s3, s4, s5, s6, s7, s8⟩ := cellsLineV hSw; go_simp; (try with_reducible rfl); done)); (try simp only [Act.put, pA, pB, pC]))
    (refine takeP (i := 7) ?_ rfl (.inl ⟨by rfl, ?_⟩) ?_; rotate_left; (focus ((intro wS hSw); (try dsimp only at hSw); obtain ⟨s0, s1, s2, s3, s4, s5, s6, s7, s8⟩ := cellsLineV hSw; go_simp; (try with_reducible rfl); done)); (try simp only [Act.put, pA, pB, pC]))
    (refine takeP (i := 8) ?_ rfl (.inl ⟨by rfl, ?_⟩) ?_; rotate_left; (focus ((intro wS hSw); (try dsimp only at hSw); obtain ⟨s0, s1, s2, s3, s4, s5, s6, s7, s8⟩ := cellsLineV hSw; go_simp; (try with_reducible rfl); done)); (try simp only [Act.put, pA, pB, pC]))
    (refine takeP (i := 10) ?_ rfl (.inl ⟨by rfl, ?_⟩) ?_; rotate_left; (focus ((intro wS hSw); (try dsimp only at hSw); obtain ⟨s0, s1, s2, s3, s4, s5, s6, s7, s8⟩ := cellsLineV hSw; go_simp; (try with_reducible rfl); done)); (try simp only [Act.put, pA, pB, pC]))
    (refine takeP (i := 11) ?_ rfl (.inl ⟨by rfl, ?_⟩) ?_; rotate_left; (focus ((intro wS hSw); (try dsimp only at hSw); obtain ⟨s0, s1, s2, s3, s4, s5, s6, s7, s8⟩ := cellsLineV hSw; go_simp; (try with_reducible rfl); done)); (try simp only [Act.put, pA, pB, pC]))
    (refine takeP (i := 13) ?_ rfl (.inl ⟨by rfl, ?_⟩) ?_; rotate_left; (focus ((intro wS hSw); (try dsimp only at hSw); obtain ⟨s0, s1, s2, s3, s4, s5, s6, s7, s8⟩ := cellsLineV hSw; go_simp; (try with_reducible rfl); done)); (try simp only [Act.put, pA, pB, pC]))
    (refine takeP (i := 14) ?_ rfl (.inl ⟨by rfl, ?_⟩) ?_; rotate_left; (focus ((intro wS hSw); (try dsimp only at hSw); obtain ⟨s0, s1, s2, s3, s4, s5, s6, s7, s8⟩ := cellsLineV hSw; go_simp; (try with_reducible rfl); done)); (try simp only [Act.put, pA, pB, pC]))
    refine aloneH (i := 3) rfl (by kernel_rfl) (fun K hK => ?_)
    rw [if_pos (by rfl)]
    go_simp; ((refine (HScd.out.num _ HLk.out.1.1 HLk.out.1.2 (by have := HN.out; omega)).mono ?_); (rintro e w1 ⟨rfl, hs, hb⟩); have HSc1 := Lib.hid hs; have HWc1 := Lib.hid (HWcd.out.trans hb); clear hs hb; (try go_simp))
    refine hK.out _ _ (HSc1.out.box) ?_
    clear hK K hHeld; intro hHeld; (try simp only [Act.put, pA, pB, pC])
    refine aloneH (i := 6) rfl (by kernel_rfl) (fun K hK => ?_)
    rw [if_pos (by rfl)]
    go_simp; ((refine (HSc1.out.num _ HLk.out.2.1.1 HLk.out.2.1.2 (by have := HN.out; omega)).mono ?_); (rintro e w2 ⟨rfl, hs, hb⟩); have HSc2 := Lib.hid hs; have HWc2 := Lib.hid (HWc1.out.trans hb); clear hs hb; (try go_simp))
    refine hK.out _ _ (HSc2.out.box) ?_
    clear hK K hHeld; intro hHeld; (try simp only [Act.put, pA, pB, pC])
    refine aloneH (i := 9) rfl (by kernel_rfl) (fun K hK => ?_)
    rw [if_pos (by rfl)]
    go_simp; ((refine (HSc2.out.text _ (by have := HLk.out.2.2.2.2.1; omega) (by have := HN.out; omega)).mono ?_); (rintro e w3 ⟨rfl, hs, hb⟩); have HSc3 := Lib.hid hs; have HWc3 := Lib.hid (HWc2.out.trans hb); clear hs hb; (try go_simp))
    refine hK.out _ _ (HSc3.out.box) ?_
    clear hK K hHeld; intro hHeld; (try simp only [Act.put, pA, pB, pC])
    refine aloneH (i := 12) rfl (by kernel_rfl) (fun K hK => ?_)
    rw [if_pos (by rfl)]
    go_simp; ((refine (HSc3.out.text _ (by have := HLk.out.2.2.2.2.2.1; omega) (by have := HN.out; omega)).mono ?_); (rintro e w4 ⟨rfl, hs, hb⟩); have HSc4 := Lib.hid hs; have HWc4 := Lib.hid (HWc3.out.trans hb); clear hs hb; (try go_simp))
    refine hK.out _ _ (HSc4.out.box) ?_
    clear hK K hHeld; intro hHeld; (try simp only [Act.put, pA, pB, pC])
    refine aloneH (i := 15) rfl (by kernel_rfl) (fun K hK => ?_)
    rw [if_pos (by rfl)]
    go_simp; ((refine (HSc4.out.text _ (by have := HLk.out.2.2.2.2.2.2; omega) (by have := HN.out; omega)).mono ?_); (rintro e w5 ⟨rfl, hs, hb⟩); have HSc5 := Lib.hid hs; have HWc5 := Lib.hid (HWc4.out.trans hb); clear hs hb; (try go_simp))
    refine hK.out _ _ (HSc5.out.box) ?_
    clear hK K hHeld; intro hHeld; (try simp only [Act.put, pA, pB, pC])
    refine wpAnyH_done (by kernel_rfl) ?_ _
    clear hHeld
    go_wp2
    have HSed := Lib.hid HSc5.out.drew
    have HWed := Lib.hid (HWc5.out.trans ((Below.refl _ _).drew))
    refine wp_region_held_drew (S := fun V => V.heap[wr.heap.size]? = some (.cells #[.int .i64 d.lines[k].1, .int .i64 d.lines[k].2.1, .string d.lines[k].2.2.1, .string d.lines[k].2.2.2.1, .string d.lines[k].2.2.2.2.1, .int .i64 d.lines[k].2.2.2.2.2.1, .bool d.lines[k].2.2.2.2.2.2.1, .int .i64 d.lines[k].2.2.2.2.2.2.2.1, .bool d.lines[k].2.2.2.2.2.2.2.2] 30 (0, 0))) (by kernel_rfl) HSed.out.box ?_
    intro hHeld
    generalize World.drew _ = wd at HSed HWed hHeld ⊢
    (refine takeP (i := 0) ?_ rfl (.inl ⟨by rfl, ?_⟩) ?_; rotate_left; (focus ((intro wS hSw); (try dsimp only at hSw); obtain ⟨s0, s1, s2, s3, s4, s5, s6, s7, s8⟩ := cellsLineV hSw; go_simp; (try with_reducible rfl); done)); (try simp only [Act.put, pA, pB, pC]))
    (refine takeP (i := 1) ?_ rfl (.inl ⟨by rfl, ?_⟩) ?_; rotate_left; (focus ((intro wS hSw); (try dsimp only at hSw); obtain ⟨s0, s1, s2, s3, s4, s5, s6, s7, s8⟩ := cellsLineV hSw; go_simp; (try with_reducible rfl); done)); (try simp only [Act.put, pA, pB, pC]))
    (refine takeP (i := 2) ?_ rfl (.inl ⟨by rfl, ?_⟩) ?_; rotate_left; (focus ((intro wS hSw); (try dsimp only at hSw); obtain ⟨s0, s1, s2, s3, s4, s5, s6, s7, s8⟩ := cellsLineV hSw; go_simp; (try with_reducible rfl); done)); (try simp only [Act.put, pA, pB, pC]))
    (refine takeP (i := 4) ?_ rfl (.inl ⟨by rfl, ?_⟩) ?_; rotate_left; (focus ((intro wS hSw); (try dsimp only at hSw); obtain ⟨s0, s1, s2, s3, s4, s5, s6, s7, s8⟩ := cellsLineV hSw; go_simp; (try with_reducible rfl); done)); (try simp only [Act.put, pA, pB, pC]))
    (refine takeP (i := 5) ?_ rfl (.inl ⟨by rfl, ?_⟩) ?_; rotate_left; (focus ((intro wS hSw); (try dsimp only at hSw); obtain ⟨s0, s1, s2, s3, s4, s5, s6, s7, s8⟩ := cellsLineV hSw; go_simp; (try with_reducible rfl); done)); (try simp only [Act.put, pA, pB, pC]))
    (refine takeP (i := 7) ?_ rfl (.inl ⟨by rfl, ?_⟩) ?_; rotate_left; (focus ((intro wS hSw); (try dsimp only at hSw); obtain ⟨s0, s1, s2, s3, s4, s5, s6, s7, s8⟩ := cellsLineV hSw; go_simp; (try with_reducible rfl); done)); (try simp only [Act.put, pA, pB, pC]))
    (refine takeP (i := 8) ?_ rfl (.inl ⟨by rfl, ?_⟩) ?_; rotate_left; (focus ((intro wS hSw); (try dsimp only at hSw); obtain ⟨s0, s1, s2, s3, s4, s5, s6, s7, s8⟩ := cellsLineV hSw; go_simp; (try with_reducible rfl); done)); (try simp only [Act.put, pA, pB, pC]))
    (refine takeP (i := 10) ?_ rfl (.inl ⟨by rfl, ?_⟩) ?_; rotate_left; (focus ((intro wS hSw); (try dsimp only at hSw); obtain ⟨s0, s1, s2, s3, s4, s5, s6, s7, s8⟩ := cellsLineV hSw; go_simp; (try with_reducible rfl); done)); (try simp only [Act.put, pA, pB, pC]))
    (refine takeP (i := 11) ?_ rfl (.inl ⟨by rfl, ?_⟩) ?_; rotate_left; (focus ((intro wS hSw); (try dsimp only at hSw); obtain ⟨s0, s1, s2, s3, s4, s5, s6, s7, s8⟩ := cellsLineV hSw; go_simp; (try with_reducible rfl); done)); (try simp only [Act.put, pA, pB, pC]))
    refine aloneH (i := 3) rfl (by kernel_rfl) (fun K hK => ?_)
    rw [if_pos (by rfl)]
    go_simp; ((refine (HSed.out.num _ HLk.out.2.2.1.1 HLk.out.2.2.1.2 (by have := HN.out; omega)).mono ?_); (rintro e w1 ⟨rfl, hs, hb⟩); have HSe1 := Lib.hid hs; have HWe1 := Lib.hid (HWed.out.trans hb); clear hs hb; (try go_simp))
    refine hK.out _ _ (HSe1.out.box) ?_
    clear hK K hHeld; intro hHeld; (try simp only [Act.put, pA, pB, pC])
    refine aloneH (i := 6) rfl (by kernel_rfl) (fun K hK => ?_)
    rw [if_pos (by rfl)]
    go_simp; ((refine (HSe1.out.flag _ (by have := HN.out; omega)).mono ?_); (rintro e w2 ⟨rfl, hs, hb⟩); have HSe2 := Lib.hid hs; have HWe2 := Lib.hid (HWe1.out.trans hb); clear hs hb; (try go_simp))
    refine hK.out _ _ (HSe2.out.box) ?_
    clear hK K hHeld; intro hHeld; (try simp only [Act.put, pA, pB, pC])
    refine aloneH (i := 9) rfl (by kernel_rfl) (fun K hK => ?_)
    rw [if_pos (by rfl)]
    go_simp; ((refine (HSe2.out.num _ HLk.out.2.2.2.1.1 HLk.out.2.2.2.1.2 (by have := HN.out; omega)).mono ?_); (rintro e w3 ⟨rfl, hs, hb⟩); have HSe3 := Lib.hid hs; have HWe3 := Lib.hid (HWe2.out.trans hb); clear hs hb; (try go_simp))
    refine hK.out _ _ (HSe3.out.box) ?_
    clear hK K hHeld; intro hHeld; (try simp only [Act.put, pA, pB, pC])
    refine aloneH (i := 12) rfl (by kernel_rfl) (fun K hK => ?_)
    rw [if_pos (by rfl)]
    go_simp; ((refine (HSe3.out.flag _ (by have := HN.out; omega)).mono ?_); (rintro e w4 ⟨rfl, hs, hb⟩); have HSe4 := Lib.hid hs; have HWe4 := Lib.hid (HWe3.out.trans hb); clear hs hb; (try go_simp))
    refine hK.out _ _ (HSe4.out.box) ?_
    clear hK K hHeld; intro hHeld; (try simp only [Act.put, pA, pB, pC])
    refine wpAnyH_done (by kernel_rfl) ?_ _
    clear hHeld
    have HF := Lib.hid (show WN w4 B g (linesT (headT S d) (d.lines.take (k + 1))) wr.heap.size (.cells #[.int .i64 d.lines[k].1, .int .i64 d.lines[k].2.1, .string d.lines[k].2.2.1, .string d.lines[k].2.2.2.1, .string d.lines[k].2.2.2.2.1, .int .i64 d.lines[k].2.2.2.2.2.1, .bool d.lines[k].2.2.2.2.2.2.1, .int .i64 d.lines[k].2.2.2.2.2.2.2.1, .bool d.lines[k].2.2.2.2.2.2.2.2] 30 (0, 0)) _ from by rw [linesT_next hlt]; exact HSe4.out)
    go_wp2
    go_roundw
    case rel =>
     obtain ⟨⟨v9, q1, q2, _⟩, q3⟩ := HF.out
     exact ⟨k + 1, by omega, by go_num, v9, Lib.hid q1, Lib.hid (And.intro q2 (by omega)), HWe4⟩
    case measure => simp [intOf]; omega
  · obtain rfl : k = d.lines.length := by omega
    go_wp2
    go_end0
    exact ⟨rfl, ⟨v9, by have := HQ1.out; rwa [List.take_length] at this⟩, HQ3.out⟩
end Go.Proofs.YtplghpamckdklaaGreat

namespace Go.Proofs.YtplghpamckdklaaGreat
open Go.RowKit
set_option maxRecDepth 100000
set_option linter.unusedSimpArgs false
set_option linter.unusedVariables false

def EncP (w : World) (T : Text) (e : Ending) (w1 : World) : Prop := Below w.heap.size w w1 ∧ ∃ A c, e = .returned (.tuple #[.slice A T.length c, .int .i64 0]) ∧ Txt w1 A T ∧ (A = none → T = [])
set_option maxHeartbeats 1000000 in
theorem encode_ok (cs : Array Value) (T : Text) (w : World) (hs : cs.size = 22) (HGd : Hid (∀ W, Below w.heap.size w W → Calls Tryz.prog 8 #[.agg cs] W fun e w1 => e = .returned (.bool true) ∧ Below W.heap.size W w1)) (HWt : Hid (∀ (W : World) (g : Nat) (v : Value), Below w.heap.size w W → Wrt W (w.heap.size + 1) g (some []) v → w.heap.size + 1 ≤ W.heap.size → Calls Tryz.prog 39 #[.pointer (some ⟨g, 0, none⟩), .agg cs] W (Wrote W (w.heap.size + 1) g (some T)))) (hT : T.length ≤ 140737488000000) : Calls Tryz.prog 14 #[.agg cs] w fun e w1 => EncP w T e w1 := by
 have HX := Lib.hid (heap_alloc_new w (.cells cs 28))
 have HB0 := Lib.hid (below_alloc w (.cells cs 28))
 have HI := Lib.hid (cmd_info hs)
 have HT := Lib.hid hT
 have hsz : w.heap.size + 1 = (w.alloc (.cells cs 28)).heap.size := by simp
 clear hs hT
 go_enter Tryz.func14, Tryz.ntmps14
 go_wp2_with ((with_reducible refine wpList_load_row (o := ⟨some 5, _, _, _, _, _⟩) ?a1 28 (.tmp 1) ?a2 w.heap.size ?a3 28 cs (0, 0) _ HX.out Tryz.underlying28 ?a4 HI.out ?_); (case a1 => rfl); (case a2 => rfl); (case a3 => rfl); (case a4 => rfl); refine Stop.out ?_)
 unfold Stop
 go_wp2_with (go_at_call 8; refine (HGd.out _ HB0.out).mono ?_; rintro e w1 ⟨rfl, hb⟩; have HX1 := Lib.hid (heap_on hb HX.out); have HB1 := Lib.hid (below_then HB0.out hb); have HN : Hid (w.heap.size + 1 ≤ w1.heap.size) := Lib.hid (by have := hb.size; simp at this; omega); clear hb hsz; refine Stop.out ?_)
 unfold Stop
 have HW2 := Lib.hid (new_wrt w1 (w.heap.size + 1) HN.out)
 have HX2 := Lib.hid (heap_on (below_alloc w1 (.cells #[.bool true, .bool false, .slice none 0 0] 84)) HX1.out)
 have HB2 := Lib.hid (below_then HB1.out (below_alloc w1 (.cells #[.bool true, .bool false, .slice none 0 0] 84)))
 have HN2 : Hid (w.heap.size + 1 ≤ (w1.alloc (.cells #[.bool true, .bool false, .slice none 0 0] 84)).heap.size) := Lib.hid (by have := HN.out; simp; omega)
 go_wp2_with (go_at_call 38; refine (new_any w1).mono ?_; rintro e w2 ⟨rfl, rfl⟩; refine Stop.out ?_)
 unfold Stop
 generalize hx : World.alloc w1 (.cells #[.bool true, .bool false, .slice none 0 0] 84) = w2 at HW2 HX2 HB2 HN2 ⊢
 clear hx
 generalize w1.heap.size = g at HW2 ⊢
 go_wp2_with ((with_reducible refine wpList_load_row (o := ⟨some 10, _, _, _, _, _⟩) ?a1 28 (.tmp 1) ?a2 w.heap.size ?a3 28 cs (0, 0) _ HX2.out Tryz.underlying28 ?a4 HI.out ?_); (case a1 => rfl); (case a2 => rfl); (case a3 => rfl); (case a4 => rfl); refine Stop.out ?_)
 unfold Stop
 go_wp2_with (go_at_call 39; refine (HWt.out w2 g _ HB2.out HW2.out HN2.out).mono ?_; rintro e w3 ⟨rfl, ⟨v3, hw3⟩, hb⟩; have HW3 := Lib.hid hw3; have HB3 := Lib.hid (HB2.out.trans (hb.mono (Nat.le_succ _))); clear hw3 hb; refine Stop.out ?_)
 unfold Stop
 go_wp2_with (go_at_call 40; refine (code_bytes _ _ _ _ _ HW3.out HT.out).mono ?_; rintro e w4 ⟨hb, A, c, rfl, ht, hn⟩; have HB4 := Lib.hid (below_then HB3.out hb); have HQ := Lib.hid (And.intro ht hn); clear hb ht hn)
 go_ret2
 exact ⟨HB4.out, A, c, rfl, HQ.out⟩
theorem year_bytes : nextS (nextS (some []) (docN 11)) (docN 2024) = some [1, 11, 2, 7, 232] := by decide +kernel
theorem encode_year (w : World) : Calls Tryz.prog 14 #[.agg #[.int .i64 11, .string ⟨#[]⟩, .string ⟨#[]⟩, .int .i64 0, .int .i64 0, .int .i64 0, .int .i64 0, .int .i64 0, .int .i64 0, .int .i64 0, .int .i64 3, .int .i64 2024, .int .i64 1, .string ⟨#[]⟩, .bool false, .bool false, .string ⟨#[]⟩, .int .i64 0, .string ⟨#[]⟩, .string ⟨#[]⟩, .string ⟨#[]⟩, .slice none 0 0]] w (EncP w [1, 11, 2, 7, 232]) :=
 encode_ok #[.int .i64 11, .string ⟨#[]⟩, .string ⟨#[]⟩, .int .i64 0, .int .i64 0, .int .i64 0, .int .i64 0, .int .i64 0, .int .i64 0, .int .i64 0, .int .i64 3, .int .i64 2024, .int .i64 1, .string ⟨#[]⟩, .bool false, .bool false, .string ⟨#[]⟩, .int .i64 0, .string ⟨#[]⟩, .string ⟨#[]⟩, .string ⟨#[]⟩, .slice none 0 0] [1, 11, 2, 7, 232] w rfl (Lib.hid (fun W _ => good_year W))
  (Lib.hid (fun W g v _ hw hB => by
   have h := write_11 #[.int .i64 11, .string ⟨#[]⟩, .string ⟨#[]⟩, .int .i64 0, .int .i64 0, .int .i64 0, .int .i64 0, .int .i64 0, .int .i64 0, .int .i64 0, .int .i64 3, .int .i64 2024, .int .i64 1, .string ⟨#[]⟩, .bool false, .bool false, .string ⟨#[]⟩, .int .i64 0, .string ⟨#[]⟩, .string ⟨#[]⟩, .string ⟨#[]⟩, .slice none 0 0] 2024 (w.heap.size + 1) g (some []) v W hw hB rfl rfl (by decide) (by decide) (by decide) (by decide +kernel)
   rw [year_bytes] at h
   exact h)) (by decide)
end Go.Proofs.YtplghpamckdklaaGreat

namespace Go.Proofs.YtplghpamckdklaaGreat
open Go.RowKit
set_option maxRecDepth 100000
set_option linter.unusedSimpArgs false
set_option linter.unusedVariables false

set_option maxHeartbeats 2000000 in
theorem write_8 (cs : Array Value) (d : DocV) (B g : Nat) (S S2 : Option Text) (v : Value) (w : World) (hw : Wrt w B g S v) (hB : B ≤ w.heap.size) (hk : cs[0]? = some (.int .i64 8)) (hy : cs[13]? = some (.string d.id) ∧ cs[14]? = some (.bool d.sale) ∧ cs[15]? = some (.bool d.credit) ∧ cs[16]? = some (.string d.refers) ∧ cs[17]? = some (.int .i64 d.day) ∧ cs[18]? = some (.string d.country) ∧ cs[19]? = some (.string d.number) ∧ cs[20]? = some (.string d.currency) ∧ cs[21]? = some (.slice d.linesA d.lines.length d.linesC)) (hS : (S.getD []).length ≤ 140737488000000) (HWd : Hid (∀ (W : World) (v : Value), Below B w W → Wrt W B g (nextS S (docN 8)) v → B ≤ W.heap.size → Calls Tryz.prog 68 #[.pointer (some ⟨g, 0, none⟩), .agg #[.string d.id, .bool d.sale, .bool d.credit, .string d.refers, .int .i64 d.day, .string d.country, .string d.number, .string d.currency, .slice d.linesA d.lines.length d.linesC]] W (Wrote W B g S2))) : Calls Tryz.prog 39 #[.pointer (some ⟨g, 0, none⟩), .agg cs] w fun e w1 => Wrote w B g S2 e w1 := by
 have HS := Lib.hid (WB.start hw hB (.cells cs 28 (0, 0)))
 have HB0 := Lib.hid (show Below B w (w.alloc (.cells cs 28 (0, 0))) from (Below.refl _ _).alloc hB _)
 have HKs := Lib.hid (And.intro hk hy)
 have HL := Lib.hid hS
 clear hw hS
 have k0 := (cell_of_row _ _ 0 _ _ _ HS.out.box).trans hk
 clear hk hy
 go_enter Tryz.func39, Tryz.ntmps39
 go_wp2_with (go_at_call 66; refine (HS.out.num 8 (by decide) (by decide) HL.out).mono ?_; rintro e w1 ⟨rfl, hs1, hb⟩; have HS1 := Lib.hid hs1; have HB1 := Lib.hid (HB0.out.trans hb); clear hs1 hb k0; have k0 := (cell_of_row _ _ 0 _ _ _ HS1.out.box).trans HKs.out.1; refine Stop.out ?_)
 unfold Stop
 have k13 := (cell_of_row _ _ 13 _ _ _ HS1.out.box).trans HKs.out.2.1
 have k14 := (cell_of_row _ _ 14 _ _ _ HS1.out.box).trans HKs.out.2.2.1
 have k15 := (cell_of_row _ _ 15 _ _ _ HS1.out.box).trans HKs.out.2.2.2.1
 have k16 := (cell_of_row _ _ 16 _ _ _ HS1.out.box).trans HKs.out.2.2.2.2.1
 have k17 := (cell_of_row _ _ 17 _ _ _ HS1.out.box).trans HKs.out.2.2.2.2.2.1
 have k18 := (cell_of_row _ _ 18 _ _ _ HS1.out.box).trans HKs.out.2.2.2.2.2.2.1
 have k19 := (cell_of_row _ _ 19 _ _ _ HS1.out.box).trans HKs.out.2.2.2.2.2.2.2.1
 have k20 := (cell_of_row _ _ 20 _ _ _ HS1.out.box).trans HKs.out.2.2.2.2.2.2.2.2.1
 have k21 := (cell_of_row _ _ 21 _ _ _ HS1.out.box).trans HKs.out.2.2.2.2.2.2.2.2.2
 obtain ⟨v1, hv1, hv2, _⟩ := HS1.out
 have HV := Lib.hid (And.intro hv1 hv2)
 clear hv1 hv2
 go_wp2_with (go_at_call 68; refine (HWd.out _ _ HB1.out HV.out.1 HV.out.2).mono ?_; rintro e w2 ⟨rfl, hw2, hb⟩; have HW2 := Lib.hid hw2; have HB2 := Lib.hid (HB1.out.trans hb); clear hw2 hb)
 go_end0
 exact ⟨rfl, HW2.out, HB2.out⟩
def simpleT : Text := (linesT (headT (nextS (some []) (docN 8)) (simpleD ⟨0, 0, none⟩ 1)) [simpleL]).getD []
theorem simple_bytes (A : Addr) (c : Nat) : linesT (headT (nextS (some []) (docN 8)) (simpleD A c)) (simpleD A c).lines = some simpleT := by
 have e : linesT (headT (nextS (some []) (docN 8)) (simpleD A c)) (simpleD A c).lines = linesT (headT (nextS (some []) (docN 8)) (simpleD ⟨0, 0, none⟩ 1)) [simpleL] := rfl
 rw [e]
 decide +kernel
theorem simpleT_len : simpleT.length ≤ 140737488000000 := by decide +kernel
theorem simple_row {A : Addr} {W W' : World} {B : Nat} (h : RowLineV W (some A) [simpleL]) (hA : A.block < B) (hb : Below B W W') : RowLineV W' (some A) [simpleL] := fun hn => by
 obtain ⟨b, o, e, hl, hr⟩ := h hn
 have e2 : A = ⟨b, o, none⟩ := Option.some.inj e
 subst e2
 exact ⟨b, o, rfl, Nat.lt_of_lt_of_le hl hb.size, fun j v hv => (hb.cell (p := ⟨b, o + j, none⟩) hA).trans (hr j v hv)⟩
set_option maxHeartbeats 1000000 in
theorem encode_simple (A : Addr) (c : Nat) (w : World) (h : RowLineV w (some A) [simpleL]) (hA : A.block < w.heap.size) (h1 : 1 ≤ c) (h2 : c ≤ maxLen) : Calls Tryz.prog 14 #[.agg #[.int .i64 8, .string ⟨#[]⟩, .string ⟨#[]⟩, .int .i64 0, .int .i64 0, .int .i64 0, .int .i64 0, .int .i64 0, .int .i64 0, .int .i64 0, .int .i64 0, .int .i64 0, .int .i64 0, .string ⟨#[97]⟩, .bool true, .bool false, .string ⟨#[]⟩, .int .i64 19000, .string ⟨#[68, 69]⟩, .string ⟨#[]⟩, .string ⟨#[]⟩, .slice (some A) 1 c]] w (EncP w simpleT) :=
 encode_ok #[.int .i64 8, .string ⟨#[]⟩, .string ⟨#[]⟩, .int .i64 0, .int .i64 0, .int .i64 0, .int .i64 0, .int .i64 0, .int .i64 0, .int .i64 0, .int .i64 0, .int .i64 0, .int .i64 0, .string ⟨#[97]⟩, .bool true, .bool false, .string ⟨#[]⟩, .int .i64 19000, .string ⟨#[68, 69]⟩, .string ⟨#[]⟩, .string ⟨#[]⟩, .slice (some A) 1 c] simpleT w rfl (Lib.hid (fun W hb => good_simple A c W (h.on hb) h1 h2))
  (Lib.hid (fun W g v hb hw hB => write_8 #[.int .i64 8, .string ⟨#[]⟩, .string ⟨#[]⟩, .int .i64 0, .int .i64 0, .int .i64 0, .int .i64 0, .int .i64 0, .int .i64 0, .int .i64 0, .int .i64 0, .int .i64 0, .int .i64 0, .string ⟨#[97]⟩, .bool true, .bool false, .string ⟨#[]⟩, .int .i64 19000, .string ⟨#[68, 69]⟩, .string ⟨#[]⟩, .string ⟨#[]⟩, .slice (some A) 1 c] (simpleD A c) (w.heap.size + 1) g (some []) (some simpleT) v W hw hB rfl ⟨rfl, rfl, rfl, rfl, rfl, rfl, rfl, rfl, rfl⟩ (by decide)
   (Lib.hid (fun W2 v2 hb2 hw2 hB2 => by
    have hx := write_doc (simpleD A c) (w.heap.size + 1) g 70000 (nextS (some []) (docN 8)) v2 W2 hw2 hB2 (by decide +kernel) (by decide) (show ([simpleL] : List LineV).length ≤ 1000 by decide) h1 (show (⟨#[97]⟩ : ByteArray).size ≤ _ by decide) (show (⟨#[]⟩ : ByteArray).size ≤ _ by decide) ⟨show (-9223372036854775808 : Int) ≤ 19000 by decide, show (19000 : Int) ≤ 9223372036854775807 by decide, show (⟨#[68, 69]⟩ : ByteArray).size ≤ _ by decide, show (⟨#[]⟩ : ByteArray).size ≤ _ by decide, show (⟨#[]⟩ : ByteArray).size ≤ _ by decide⟩
     (Lib.hid (fun W3 hb3 => simple_row ((h.on hb).on ((Below.refl _ _))) (Nat.lt_succ_of_lt hA) (hb2.trans hb3)))
     (Lib.hid (fun l hl => by
      have : l = simpleL := by simpa [simpleD] using hl
      subst this
      unfold lineR simpleL
      decide))
    rw [simple_bytes] at hx
    exact hx)))) simpleT_len
end Go.Proofs.YtplghpamckdklaaGreat
