/- Commands: are they the same? -/
import Derived.Test.YtmjjenemokojjaaGreatD10
namespace Go.Proofs.YtmjjenemokojjaaGreat
open Go.RowKit
set_option maxRecDepth 100000
set_option linter.unusedSimpArgs false

set_option maxHeartbeats 16000000 in
theorem code_same (x y : CmdV) (w : World) (hx : CmdVOk w x) (hy : CmdVOk w y) (hn : x.lines.length ≤ 140737488351232) (V : Bool) (hV : sameC x y = V) :
 Calls Tryz.prog 21 #[.agg #[.int .i64 x.kind, .string x.state, .string x.text, .int .i64 x.category, .int .i64 x.bp, .int .i64 x.from_, .int .i64 x.until_, .int .i64 x.num, .int .i64 x.den, .int .i64 x.index, .int .i64 x.pk, .int .i64 x.py, .int .i64 x.pi, .string x.id, .bool x.sale, .bool x.credit, .string x.refers, .int .i64 x.day, .string x.country, .string x.number, .string x.currency, .slice x.linesA x.lines.length x.linesC], .agg #[.int .i64 y.kind, .string y.state, .string y.text, .int .i64 y.category, .int .i64 y.bp, .int .i64 y.from_, .int .i64 y.until_, .int .i64 y.num, .int .i64 y.den, .int .i64 y.index, .int .i64 y.pk, .int .i64 y.py, .int .i64 y.pi, .string y.id, .bool y.sale, .bool y.credit, .string y.refers, .int .i64 y.day, .string y.country, .string y.number, .string y.currency, .slice y.linesA y.lines.length y.linesC]] w fun e w' => e = .returned (.bool V) ∧ Below w.heap.size w w' := by
 have HE : Hid (∀ W, Below w.heap.size w W → Calls Tryz.prog 52 #[.agg #[.string x.id, .bool x.sale, .bool x.credit, .string x.refers, .int .i64 x.day, .string x.country, .string x.number, .string x.currency, .slice x.linesA x.lines.length x.linesC], .agg #[.string y.id, .bool y.sale, .bool y.credit, .string y.refers, .int .i64 y.day, .string y.country, .string y.number, .string y.currency, .slice y.linesA y.lines.length y.linesC]] W fun e w' => e = .returned (.bool (sameD (docOf x) (docOf y))) ∧ Below W.heap.size W w') :=
  Lib.hid (fun W hb => code_sameDoc (docOf x) (docOf y) W ((docOf_ok hx).on hb) ((docOf_ok hy).on hb) hn _ rfl)
 have HBB := Lib.hid (fun o1 o2 => below_then (below_alloc w o1) (below_alloc (w.alloc o1) o2))
 clear hx hy hn
 unfold sameC at hV
 cases e0 : (x.kind == y.kind) with
 | false =>
   rw [e0] at hV
   simp only [Bool.false_and] at hV
   subst hV
   go_enter Tryz.func21, Tryz.ntmps21
   go_wp2
   go_ret
   exact ⟨rfl, HBB.out _ _⟩
 | true =>
   rw [e0] at hV
   simp only [Bool.true_and] at hV
   cases e1 : (x.state.toList == y.state.toList) with
   | false =>
     rw [e1] at hV
     simp only [Bool.false_and] at hV
     subst hV
     go_enter Tryz.func21, Tryz.ntmps21
     go_wp2
     go_ret
     exact ⟨rfl, HBB.out _ _⟩
   | true =>
     rw [e1] at hV
     simp only [Bool.true_and] at hV
     cases e2 : (x.text.toList == y.text.toList) with
     | false =>
       rw [e2] at hV
       simp only [Bool.false_and] at hV
       subst hV
       go_enter Tryz.func21, Tryz.ntmps21
       go_wp2
       go_ret
       exact ⟨rfl, HBB.out _ _⟩
     | true =>
       rw [e2] at hV
       simp only [Bool.true_and] at hV
       cases e3 : (x.category == y.category) with
       | false =>
         rw [e3] at hV
         simp only [Bool.false_and] at hV
         subst hV
         go_enter Tryz.func21, Tryz.ntmps21
         go_wp2
         go_ret
         exact ⟨rfl, HBB.out _ _⟩
       | true =>
         rw [e3] at hV
         simp only [Bool.true_and] at hV
         cases e4 : (x.bp == y.bp) with
         | false =>
           rw [e4] at hV
           simp only [Bool.false_and] at hV
           subst hV
           go_enter Tryz.func21, Tryz.ntmps21
           go_wp2
           go_ret
           exact ⟨rfl, HBB.out _ _⟩
         | true =>
           rw [e4] at hV
           simp only [Bool.true_and] at hV
           cases e5 : (x.from_ == y.from_) with
           | false =>
             rw [e5] at hV
             simp only [Bool.false_and] at hV
             subst hV
             go_enter Tryz.func21, Tryz.ntmps21
             go_wp2
             go_ret
             exact ⟨rfl, HBB.out _ _⟩
           | true =>
             rw [e5] at hV
             simp only [Bool.true_and] at hV
             cases e6 : (x.until_ == y.until_) with
             | false =>
               rw [e6] at hV
               simp only [Bool.false_and] at hV
               subst hV
               go_enter Tryz.func21, Tryz.ntmps21
               go_wp2
               go_ret
               exact ⟨rfl, HBB.out _ _⟩
             | true =>
               rw [e6] at hV
               simp only [Bool.true_and] at hV
               cases e7 : (x.num == y.num) with
               | false =>
                 rw [e7] at hV
                 simp only [Bool.false_and] at hV
                 subst hV
                 go_enter Tryz.func21, Tryz.ntmps21
                 go_wp2
                 go_ret
                 exact ⟨rfl, HBB.out _ _⟩
               | true =>
                 rw [e7] at hV
                 simp only [Bool.true_and] at hV
                 cases e8 : (x.den == y.den) with
                 | false =>
                   rw [e8] at hV
                   simp only [Bool.false_and] at hV
                   subst hV
                   go_enter Tryz.func21, Tryz.ntmps21
                   go_wp2
                   go_ret
                   exact ⟨rfl, HBB.out _ _⟩
                 | true =>
                   rw [e8] at hV
                   simp only [Bool.true_and] at hV
                   cases e9 : (x.index == y.index) with
                   | false =>
                     rw [e9] at hV
                     simp only [Bool.false_and] at hV
                     subst hV
                     go_enter Tryz.func21, Tryz.ntmps21
                     go_wp2
                     go_ret
                     exact ⟨rfl, HBB.out _ _⟩
                   | true =>
                     rw [e9] at hV
                     simp only [Bool.true_and] at hV
                     by_cases p10 : ¬ x.pk = y.pk
                     · rw [beq_false_of_ne p10] at hV
                       simp only [Bool.false_and] at hV
                       subst hV
                       go_enter Tryz.func21, Tryz.ntmps21
                       go_wp2
                       go_ret
                       exact ⟨rfl, HBB.out _ _⟩
                     have q10 : x.pk = y.pk := Decidable.not_not.1 p10
                     clear p10
                     rw [show (x.pk == y.pk) = true from beq_iff_eq.2 q10] at hV
                     simp only [Bool.true_and] at hV
                     by_cases p11 : ¬ x.py = y.py
                     · rw [beq_false_of_ne p11] at hV
                       simp only [Bool.false_and] at hV
                       subst hV
                       go_enter Tryz.func21, Tryz.ntmps21
                       go_wp2
                       go_ret
                       exact ⟨rfl, HBB.out _ _⟩
                     have q11 : x.py = y.py := Decidable.not_not.1 p11
                     clear p11
                     rw [show (x.py == y.py) = true from beq_iff_eq.2 q11] at hV
                     simp only [Bool.true_and] at hV
                     by_cases p12 : ¬ x.pi = y.pi
                     · rw [beq_false_of_ne p12] at hV
                       simp only [Bool.false_and] at hV
                       subst hV
                       go_enter Tryz.func21, Tryz.ntmps21
                       go_wp2
                       go_ret
                       exact ⟨rfl, HBB.out _ _⟩
                     have q12 : x.pi = y.pi := Decidable.not_not.1 p12
                     clear p12
                     rw [show (x.pi == y.pi) = true from beq_iff_eq.2 q12] at hV
                     simp only [Bool.true_and] at hV
                     subst hV
                     go_enter Tryz.func21, Tryz.ntmps21
                     go_wp2_with (go_at_call 52; refine (HE.out _ (HBB.out _ _)).mono ?_; rintro e w1 ⟨rfl, hb⟩; have HB := Lib.hid (below_then (HBB.out _ _) hb); clear hb)
                     go_ret
                     exact ⟨rfl, HB.out⟩
end Go.Proofs.YtmjjenemokojjaaGreat
