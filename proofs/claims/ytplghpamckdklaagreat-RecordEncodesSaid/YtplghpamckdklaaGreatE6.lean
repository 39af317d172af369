/- Rows of lines: are they the same? Documents: are they the same? Commands: what it is to be the same. -/
import Derived.Test.YtplghpamckdklaaGreatE3
import Derived.Test.YtplghpamckdklaaGreatE5
namespace Go.Proofs.YtplghpamckdklaaGreat
open Go.RowKit
set_option maxRecDepth 100000
attribute [local go_sem] Oper.semAt_some

theorem below_drawn (w : World) : Below w.heap.size w w.drew := (Below.refl _ w).drew
/-- lines held against each other, field by field -/
def likeL (p q : LineV) : Bool := decide (p.1 = q.1 ∧ p.2.1 = q.2.1 ∧ p.2.2.1.toList = q.2.2.1.toList ∧ p.2.2.2.1.toList = q.2.2.2.1.toList ∧ p.2.2.2.2.1.toList = q.2.2.2.2.1.toList ∧ p.2.2.2.2.2.1 = q.2.2.2.2.2.1 ∧ p.2.2.2.2.2.2.1 = q.2.2.2.2.2.2.1 ∧ p.2.2.2.2.2.2.2.1 = q.2.2.2.2.2.2.2.1 ∧ p.2.2.2.2.2.2.2.2 = q.2.2.2.2.2.2.2.2)
def likes (L M : List LineV) : Bool := L.length == M.length && (L.zip M).all fun x => likeL x.1 x.2
theorem likes_next {L M : List LineV} {k : Nat} (hk : k < L.length) (hm : k < M.length) (h : ((L.zip M).take k).all (fun x => likeL x.1 x.2) = true) (hs : likeL L[k] M[k] = true) : ((L.zip M).take (k + 1)).all (fun x => likeL x.1 x.2) = true := by
 rw [List.take_succ_eq_append_getElem (by rw [List.length_zip]; omega), List.all_append, h]
 simp [hs]
theorem likes_not {L M : List LineV} {k : Nat} (hk : k < L.length) (hm : k < M.length) (hs : likeL L[k] M[k] = false) : likes L M = false := by
 unfold likes
 have h : (L.zip M).all (fun x => likeL x.1 x.2) = false := by
  rw [List.all_eq_false]
  exact ⟨(L.zip M)[k]'(by rw [List.length_zip]; omega), List.getElem_mem _, by simp [hs]⟩
 rw [h, Bool.and_false]
set_option maxHeartbeats 4000000 in
theorem code_equal (A1 : Option Addr) (c1 : Nat) (L : List LineV) (A2 : Option Addr) (c2 : Nat) (M : List LineV) (w : World) (hr1 : RowLineV w A1 L) (hr2 : RowLineV w A2 M) (hl1 : L.length ≤ 140737488351232) (V : Bool) (hV : likes L M = V) :
 Calls Tryz.prog 82 #[.slice A1 L.length c1, .slice A2 M.length c2] w fun e w' => e = .returned (.bool V) ∧ Below w.heap.size w w' := by
 have HR1 := Lib.hid hr1
 have HR2 := Lib.hid hr2
 have HV := Lib.hid hV
 have hli : (L.length : Int) ≤ 140737488351232 := by omega
 clear hr1 hr2 hV
 by_cases hlen : L.length = M.length
 · have hlm : (M.length : Int) = (L.length : Int) := by omega
   have hlm2 : ((L.length : Int) != (M.length : Int)) = false := by simp [hlm]
   have HL := Lib.hid hlen
   clear hlen
   go_enter Tryz.func82, Tryz.ntmps82
   go_wp2
   go_loopw [13] (fun i wr => ∃ (k : Nat), k ≤ L.length ∧ i = .int .i64 k ∧ Hid (((L.zip M).take k).all (fun x => likeL x.1 x.2) = true) ∧ Hid (Below w.heap.size w wr)) (fun i _ => L.length - (intOf i).toNat)
   case atStart => exact ⟨0, Nat.zero_le _, rfl, Lib.hid rfl, Lib.hid (Below.refl _ _)⟩
   case round =>
    obtain ⟨k, hk, rfl, HS, HB⟩ := hrel
    by_cases hlt : k < L.length
    · have hlt' : (k : Int) < (L.length : Int) := by omega
      have hltm : k < M.length := by have := HL.out; omega
      have hltm' : (k : Int) < (M.length : Int) := by omega
      obtain ⟨b1, o1, rfl, hb1, y0, y1, y2, y3, y4, y5, y6, y7, y8⟩ := (HR1.out.on HB.out).at_ k hlt
      obtain ⟨b2, o2, rfl, hb2, z0, z1, z2, z3, z4, z5, z6, z7, z8⟩ := (HR2.out.on HB.out).at_ k hltm
      obtain ⟨p, hp⟩ : ∃ p, p = L[k] := ⟨_, rfl⟩
      obtain ⟨q, hq⟩ : ∃ q, q = M[k] := ⟨_, rfl⟩
      rw [← hp] at y0 y1 y2 y3 y4 y5 y6 y7 y8
      rw [← hq] at z0 z1 z2 z3 z4 z5 z6 z7 z8
      have HP := Lib.hid (And.intro hp hq)
      clear hp hq
      go_wp2
      have HBD := Lib.hid (below_then HB.out (below_drawn _))
      refine wp_region_held_drew (S := fun V => V.cell? ⟨b1, o1 + k * 9, none⟩ = some (.int .i64 p.1) ∧ V.cell? ⟨b1, o1 + k * 9 + 1, none⟩ = some (.int .i64 p.2.1) ∧ V.cell? ⟨b1, o1 + k * 9 + 2, none⟩ = some (.string p.2.2.1) ∧ V.cell? ⟨b1, o1 + k * 9 + 3, none⟩ = some (.string p.2.2.2.1) ∧ V.cell? ⟨b1, o1 + k * 9 + 4, none⟩ = some (.string p.2.2.2.2.1) ∧ V.cell? ⟨b1, o1 + k * 9 + 5, none⟩ = some (.int .i64 p.2.2.2.2.2.1) ∧ V.cell? ⟨b1, o1 + k * 9 + 6, none⟩ = some (.bool p.2.2.2.2.2.2.1) ∧ V.cell? ⟨b1, o1 + k * 9 + 7, none⟩ = some (.int .i64 p.2.2.2.2.2.2.2.1) ∧ V.cell? ⟨b1, o1 + k * 9 + 8, none⟩ = some (.bool p.2.2.2.2.2.2.2.2) ∧ V.cell? ⟨b2, o2 + k * 9, none⟩ = some (.int .i64 q.1) ∧ V.cell? ⟨b2, o2 + k * 9 + 1, none⟩ = some (.int .i64 q.2.1) ∧ V.cell? ⟨b2, o2 + k * 9 + 2, none⟩ = some (.string q.2.2.1) ∧ V.cell? ⟨b2, o2 + k * 9 + 3, none⟩ = some (.string q.2.2.2.1) ∧ V.cell? ⟨b2, o2 + k * 9 + 4, none⟩ = some (.string q.2.2.2.2.1) ∧ V.cell? ⟨b2, o2 + k * 9 + 5, none⟩ = some (.int .i64 q.2.2.2.2.2.1) ∧ V.cell? ⟨b2, o2 + k * 9 + 6, none⟩ = some (.bool q.2.2.2.2.2.2.1) ∧ V.cell? ⟨b2, o2 + k * 9 + 7, none⟩ = some (.int .i64 q.2.2.2.2.2.2.2.1) ∧ V.cell? ⟨b2, o2 + k * 9 + 8, none⟩ = some (.bool q.2.2.2.2.2.2.2.2)) (by kernel_rfl) ⟨y0, y1, y2, y3, y4, y5, y6, y7, y8, z0, z1, z2, z3, z4, z5, z6, z7, z8⟩ ?_
      intro hHeld
      clear y0 y1 y2 y3 y4 y5 y6 y7 y8 z0 z1 z2 z3 z4 z5 z6 z7 z8
      generalize World.drew _ = wd at HBD hHeld ⊢
      (refine takeP (i := 0) ?_ rfl (.inl ⟨by rfl, ?_⟩) ?_; rotate_left; (focus ((intro wS hSw); (try dsimp only at hSw); obtain ⟨s0, s1, s2, s3, s4, s5, s6, s7, s8, s9, s10, s11, s12, s13, s14, s15, s16, s17⟩ := hSw; go_simp; (try with_reducible rfl); done)); (try simp only [Act.put, pA, pB, pC]))
      (refine takeP (i := 1) ?_ rfl (.inl ⟨by rfl, ?_⟩) ?_; rotate_left; (focus ((intro wS hSw); (try dsimp only at hSw); obtain ⟨s0, s1, s2, s3, s4, s5, s6, s7, s8, s9, s10, s11, s12, s13, s14, s15, s16, s17⟩ := hSw; go_simp; (try with_reducible rfl); done)); (try simp only [Act.put, pA, pB, pC]))
      (refine takeP (i := 2) ?_ rfl (.inl ⟨by rfl, ?_⟩) ?_; rotate_left; (focus ((intro wS hSw); (try dsimp only at hSw); obtain ⟨s0, s1, s2, s3, s4, s5, s6, s7, s8, s9, s10, s11, s12, s13, s14, s15, s16, s17⟩ := hSw; go_simp; (try with_reducible rfl); done)); (try simp only [Act.put, pA, pB, pC]))
      (refine takeP (i := 3) ?_ rfl (.inl ⟨by rfl, ?_⟩) ?_; rotate_left; (focus ((intro wS hSw); (try dsimp only at hSw); obtain ⟨s0, s1, s2, s3, s4, s5, s6, s7, s8, s9, s10, s11, s12, s13, s14, s15, s16, s17⟩ := hSw; go_simp; (try with_reducible rfl); done)); (try simp only [Act.put, pA, pB, pC]))
      (refine takeP (i := 4) ?_ rfl (.inl ⟨by rfl, ?_⟩) ?_; rotate_left; (focus ((intro wS hSw); (try dsimp only at hSw); obtain ⟨s0, s1, s2, s3, s4, s5, s6, s7, s8, s9, s10, s11, s12, s13, s14, s15, s16, s17⟩ := hSw; go_simp; (try with_reducible rfl); done)); (try simp only [Act.put, pA, pB, pC]))
      (refine takeP (i := 5) ?_ rfl (.inl ⟨by rfl, ?_⟩) ?_; rotate_left; (focus ((intro wS hSw); (try dsimp only at hSw); obtain ⟨s0, s1, s2, s3, s4, s5, s6, s7, s8, s9, s10, s11, s12, s13, s14, s15, s16, s17⟩ := hSw; go_simp; (try with_reducible rfl); done)); (try simp only [Act.put, pA, pB, pC]))
      (refine takeP (i := 6) ?_ rfl (.inl ⟨by rfl, ?_⟩) ?_; rotate_left; (focus ((intro wS hSw); (try dsimp only at hSw); obtain ⟨s0, s1, s2, s3, s4, s5, s6, s7, s8, s9, s10, s11, s12, s13, s14, s15, s16, s17⟩ := hSw; go_simp; (try with_reducible rfl); done)); (try simp only [Act.put, pA, pB, pC]))
      (refine takeP (i := 7) ?_ rfl (.inl ⟨by rfl, ?_⟩) ?_; rotate_left; (focus ((intro wS hSw); (try dsimp only at hSw); obtain ⟨s0, s1, s2, s3, s4, s5, s6, s7, s8, s9, s10, s11, s12, s13, s14, s15, s16, s17⟩ := hSw; go_simp; (try with_reducible rfl); done)); (try simp only [Act.put, pA, pB, pC]))
      (refine takeH (i := 8) (v := (.bool (!likeL p q))) rfl (by kernel_rfl) (by kernel_rfl) (by kernel_rfl) (fun _ _ _ h => h) (Or.inl ⟨by rfl, by (intro wS hSw); (try dsimp only at hSw); (obtain ⟨s0, s1, s2, s3, s4, s5, s6, s7, s8, s9, s10, s11, s12, s13, s14, s15, s16, s17⟩ := hSw); go_simp; clear s0 s1 s2 s3 s4 s5 s6 s7 s8 s9 s10 s11 s12 s13 s14 s15 s16 s17 HP HR1 HR2 HB HBD hHeld HS HL HV; unfold likeL; (repeat' split) <;> simp_all⟩) (by assumption) ?_; (try simp only [Act.put, pA, pB, pC]))
      refine wpAnyH_done (by kernel_rfl) ?_ _
      clear hHeld
      cases hlk : likeL p q with
      | false =>
        have HN := Lib.hid (likes_not hlt hltm (by rw [← HP.out.1, ← HP.out.2]; exact hlk))
        go_wp2
        go_ret
        exact ⟨by rw [← HV.out, HN.out]; rfl, HBD.out⟩
      | true =>
        have HN := Lib.hid (likes_next hlt hltm HS.out (by rw [← HP.out.1, ← HP.out.2]; exact hlk))
        go_wp2
        go_roundw
        case rel => exact ⟨k + 1, by omega, by go_num, HN, HBD⟩
        case measure => simp [intOf]; omega
    · obtain rfl : k = L.length := by omega
      have HN : Hid (likes L M = true) := Lib.hid (by
       unfold likes
       have h := HS.out
       rw [List.take_of_length_le (by rw [List.length_zip]; omega)] at h
       rw [h, HL.out]
       simp)
      go_wp2
      go_ret
      exact ⟨by rw [← HV.out, HN.out]; rfl, HB.out⟩
 · have hlm2 : ((L.length : Int) != (M.length : Int)) = true := bne_iff_ne.2 (by omega)
   have HN : Hid (likes L M = false) := Lib.hid (by
    unfold likes
    rw [beq_false_of_ne hlen, Bool.false_and])
   clear hlen
   go_enter Tryz.func82, Tryz.ntmps82
   go_wp2
   go_ret
   exact ⟨by rw [← HV.out, HN.out]; rfl, below_same _⟩
end Go.Proofs.YtplghpamckdklaaGreat

namespace Go.Proofs.YtplghpamckdklaaGreat
open Go.RowKit
set_option maxRecDepth 100000
set_option linter.unusedSimpArgs false

def sameD (x y : DocV) : Bool := (x.id.toList == y.id.toList) && ((x.sale == y.sale) && ((x.credit == y.credit) && ((x.refers.toList == y.refers.toList) && ((x.day == y.day) && ((x.country.toList == y.country.toList) && ((x.number.toList == y.number.toList) && ((x.currency.toList == y.currency.toList) && likes x.lines y.lines)))))))
set_option maxHeartbeats 4000000 in
theorem code_sameDoc (x y : DocV) (w : World) (hx : DocVOk w x) (hy : DocVOk w y) (hn : x.lines.length ≤ 140737488351232) (V : Bool) (hV : sameD x y = V) :
 Calls Tryz.prog 52 #[.agg #[.string x.id, .bool x.sale, .bool x.credit, .string x.refers, .int .i64 x.day, .string x.country, .string x.number, .string x.currency, .slice x.linesA x.lines.length x.linesC], .agg #[.string y.id, .bool y.sale, .bool y.credit, .string y.refers, .int .i64 y.day, .string y.country, .string y.number, .string y.currency, .slice y.linesA y.lines.length y.linesC]] w fun e w' => e = .returned (.bool V) ∧ Below w.heap.size w w' := by
 obtain ⟨_, _, _, _, _, rx, _⟩ := hx
 obtain ⟨_, _, _, _, _, ry, _⟩ := hy
 have HE := Lib.hid (fun W (hb : Below w.heap.size w W) => code_equal x.linesA x.linesC x.lines y.linesA y.linesC y.lines W (rx.on hb) (ry.on hb) hn _ rfl)
 have HBB := Lib.hid (below_then (below_alloc w (.cells #[.string x.id, .bool x.sale, .bool x.credit, .string x.refers, .int .i64 x.day, .string x.country, .string x.number, .string x.currency, .slice x.linesA x.lines.length x.linesC] 26)) (below_alloc (w.alloc (.cells #[.string x.id, .bool x.sale, .bool x.credit, .string x.refers, .int .i64 x.day, .string x.country, .string x.number, .string x.currency, .slice x.linesA x.lines.length x.linesC] 26)) (.cells #[.string y.id, .bool y.sale, .bool y.credit, .string y.refers, .int .i64 y.day, .string y.country, .string y.number, .string y.currency, .slice y.linesA y.lines.length y.linesC] 26)))
 clear rx ry hn
 unfold sameD at hV
 cases e0 : (x.id.toList == y.id.toList) with
 | false =>
   rw [e0] at hV
   simp only [Bool.false_and] at hV
   subst hV
   go_enter Tryz.func52, Tryz.ntmps52
   go_wp2
   go_ret
   exact ⟨rfl, HBB.out⟩
 | true =>
   rw [e0] at hV
   simp only [Bool.true_and] at hV
   cases e1 : (x.sale == y.sale) with
   | false =>
     rw [e1] at hV
     simp only [Bool.false_and] at hV
     subst hV
     go_enter Tryz.func52, Tryz.ntmps52
     go_wp2
     go_ret
     exact ⟨rfl, HBB.out⟩
   | true =>
     rw [e1] at hV
     simp only [Bool.true_and] at hV
     cases e2 : (x.credit == y.credit) with
     | false =>
       rw [e2] at hV
       simp only [Bool.false_and] at hV
       subst hV
       go_enter Tryz.func52, Tryz.ntmps52
       go_wp2
       go_ret
       exact ⟨rfl, HBB.out⟩
     | true =>
       rw [e2] at hV
       simp only [Bool.true_and] at hV
       cases e3 : (x.refers.toList == y.refers.toList) with
       | false =>
         rw [e3] at hV
         simp only [Bool.false_and] at hV
         subst hV
         go_enter Tryz.func52, Tryz.ntmps52
         go_wp2
         go_ret
         exact ⟨rfl, HBB.out⟩
       | true =>
         rw [e3] at hV
         simp only [Bool.true_and] at hV
         cases e4 : (x.day == y.day) with
         | false =>
           rw [e4] at hV
           simp only [Bool.false_and] at hV
           subst hV
           go_enter Tryz.func52, Tryz.ntmps52
           go_wp2
           go_ret
           exact ⟨rfl, HBB.out⟩
         | true =>
           rw [e4] at hV
           simp only [Bool.true_and] at hV
           cases e5 : (x.country.toList == y.country.toList) with
           | false =>
             rw [e5] at hV
             simp only [Bool.false_and] at hV
             subst hV
             go_enter Tryz.func52, Tryz.ntmps52
             go_wp2
             go_ret
             exact ⟨rfl, HBB.out⟩
           | true =>
             rw [e5] at hV
             simp only [Bool.true_and] at hV
             cases e6 : (x.number.toList == y.number.toList) with
             | false =>
               rw [e6] at hV
               simp only [Bool.false_and] at hV
               subst hV
               go_enter Tryz.func52, Tryz.ntmps52
               go_wp2
               go_ret
               exact ⟨rfl, HBB.out⟩
             | true =>
               rw [e6] at hV
               simp only [Bool.true_and] at hV
               cases e7 : (x.currency.toList == y.currency.toList) with
               | false =>
                 rw [e7] at hV
                 simp only [Bool.false_and] at hV
                 subst hV
                 go_enter Tryz.func52, Tryz.ntmps52
                 go_wp2
                 go_ret
                 exact ⟨rfl, HBB.out⟩
               | true =>
                 rw [e7] at hV
                 simp only [Bool.true_and] at hV
                 subst hV
                 go_enter Tryz.func52, Tryz.ntmps52
                 go_wp2_with (go_at_call 82; refine (HE.out _ HBB.out).mono ?_; rintro e w1 ⟨rfl, hb⟩; have HB := Lib.hid (below_then HBB.out hb); clear hb)
                 go_ret
                 exact ⟨rfl, HB.out⟩
end Go.Proofs.YtplghpamckdklaaGreat

namespace Go.Proofs.YtplghpamckdklaaGreat
open Go.RowKit
set_option maxRecDepth 100000
set_option linter.unusedSimpArgs false

/-- a command's document -/
def docOf (x : CmdV) : DocV := ⟨x.id, x.sale, x.credit, x.refers, x.day, x.country, x.number, x.currency, x.linesA, x.lines, x.linesC⟩
theorem DocVOk.on {w W : World} {d : DocV} (h : DocVOk w d) (hb : Below w.heap.size w W) : DocVOk W d := by
 obtain ⟨h1, h2, h3, h4, h5, hr, h6⟩ := h
 exact ⟨h1, h2, h3, h4, h5, hr.on hb, h6⟩
theorem docOf_ok {w : World} {x : CmdV} (h : CmdVOk w x) : DocVOk w (docOf x) := by
 obtain ⟨_, _, h⟩ := h
 exact h
def sameC (x y : CmdV) : Bool := (x.kind == y.kind) && ((x.state.toList == y.state.toList) && ((x.text.toList == y.text.toList) && ((x.category == y.category) && ((x.bp == y.bp) && ((x.from_ == y.from_) && ((x.until_ == y.until_) && ((x.num == y.num) && ((x.den == y.den) && ((x.index == y.index) && ((x.pk == y.pk) && ((x.py == y.py) && ((x.pi == y.pi) && sameD (docOf x) (docOf y)))))))))))))
end Go.Proofs.YtplghpamckdklaaGreat
