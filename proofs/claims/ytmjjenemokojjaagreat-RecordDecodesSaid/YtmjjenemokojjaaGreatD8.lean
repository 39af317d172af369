/- A text and a flag read, or refused. Lines that may be: both sides. What reads, and catches what is raised. Plain numbers of the calendar: what the document's own answers for days say. Nothing of the program is imported. -/
import Derived.Test.YtmjjenemokojjaaGreatD7
import Derived.Test.YtmjjenemokojjaaGreatD5
namespace Go.Proofs.YtmjjenemokojjaaGreat
open Go.RowKit
set_option maxRecDepth 100000

/-- a text, and what is left -/
noncomputable def textP (rest : Text) : Option (ByteArray × Text) := match numP rest with
 | none => none
 | some (n, r) => if 0 ≤ n ∧ n ≤ 65536 ∧ n.toNat ≤ r.length then some (⟨(r.take n.toNat).toArray⟩, r.drop n.toNat) else none
def flagP (rest : Text) : Option (Bool × Text) := match rest with
 | [] => none
 | h :: r => if h.toNat ≤ 1 then some (decide (h.toNat = 1), r) else none

set_option maxRecDepth 100000 in
set_option maxHeartbeats 2000000 in
theorem code_textR (w : World) (g : Nat) (b : Bool) (rest : Text) (hr : Rdr w g b rest) :
 Calls Tryz.prog 100 #[.pointer (some ⟨g, 0, none⟩)] w (Res w g b ((textP rest).map fun p => (.string p.1, p.2))) := by
 have HN := Lib.hid (code_num w g b rest hr)
 obtain ⟨D, hD⟩ : ∃ D, D = (textP rest).map fun p => (Value.string p.1, p.2) := ⟨_, rfl⟩
 rw [← hD]
 clear hr
 cases hs : numP rest with
 | none =>
   have HD : Hid (D = none) := Lib.hid (by rw [hD]; unfold textP; rw [hs]; rfl)
   rw [hs] at HN
   clear hs hD
   go_enter Tryz.func100, Tryz.ntmps100
   go_wp2_with (go_at_call 98; refine HN.out.mono ?_; rintro e w2 hp; obtain ⟨rfl, hp2⟩ := hp; have HP := Lib.hid hp2; clear hp2)
   exact ⟨rfl, by rw [HD.out]; exact ⟨rfl, HP.out⟩⟩
 | some p =>
   obtain ⟨n, r⟩ := p
   have HN2 : Hid (Calls Tryz.prog 98 #[.pointer (some ⟨g, 0, none⟩)] w fun e w' => e = .returned (.int .i64 n) ∧ Hid (Rdr w' g b r ∧ Only w w' g)) := Lib.hid (by
    have := HN.out
    rw [hs] at this
    exact this.mono fun e w' h => ⟨h.1, Lib.hid h.2⟩)
   clear HN
   by_cases h1 : 0 ≤ n ∧ n ≤ 65536
   · obtain ⟨h1, h2⟩ := h1
     obtain ⟨m, rfl⟩ : ∃ m : Nat, n = (m : Int) := ⟨n.toNat, by omega⟩
     by_cases h3 : m ≤ r.length
     · have HD : Hid (D = some (.string ⟨(r.take m).toArray⟩, r.drop m)) := Lib.hid (by rw [hD]; unfold textP; rw [hs]; simp only; rw [if_pos ⟨h1, h2, by simpa using h3⟩]; simp)
       have HT : Hid (∀ W, Rdr W g b r → Calls Tryz.prog 116 #[.pointer (some ⟨g, 0, none⟩), .int .i64 m] W fun e w' => ∃ A c, e = .returned (.slice A m c) ∧ (convert 36 9 (.slice A m c)).run Tryz.prog w' = .ok (.string ⟨(r.take m).toArray⟩) w' ∧ Hid (Rdr w' g b (r.drop m) ∧ Only W w' g)) := Lib.hid (fun W hW => by
        refine (take_yes W g b r m hW h3).mono fun e w' ⟨A, c, k3, k4, k5, k6, k7⟩ => ?_
        have hl : (r.take m).length = m := by rw [List.length_take]; omega
        have hx := text_run w' A c (r.take m) k4 k5
        rw [hl] at k3 hx
        exact ⟨A, c, k3, hx, Lib.hid ⟨k6, k7⟩⟩)
       clear hs hD h3
       go_enter Tryz.func100, Tryz.ntmps100
       go_wp2_with (first
        | (go_at_call 98; refine HN2.out.mono ?_; rintro e w2 ⟨rfl, HR2⟩)
        | (go_at_call 118; (with_reducible refine (must_yes _).mono ?_); rintro e w' ⟨rfl, rfl⟩)
        | (go_at_call 116; refine (HT.out w2 HR2.out.1).mono ?_; rintro e w3 ⟨A, c, rfl, hx, HR3⟩))
       go_ret
       rw [HD.out]
       exact ⟨rfl, HR3.out.1, HR2.out.2.trans HR3.out.2⟩
     · have HD : Hid (D = none) := Lib.hid (by rw [hD]; unfold textP; rw [hs]; simp only; rw [if_neg (fun h => h3 (by simpa using h.2.2))]; rfl)
       have HT : Hid (∀ W, Rdr W g b r → Calls Tryz.prog 116 #[.pointer (some ⟨g, 0, none⟩), .int .i64 m] W fun e w' => e = .panicked raise ∧ W = w') := Lib.hid (fun W hW => take_no W g b r m hW (by omega))
       clear hs hD h3
       go_enter Tryz.func100, Tryz.ntmps100
       go_wp2_with (first
        | (go_at_call 98; refine HN2.out.mono ?_; rintro e w2 ⟨rfl, HR2⟩)
        | (go_at_call 118; (with_reducible refine (must_yes _).mono ?_); rintro e w' ⟨rfl, rfl⟩)
        | (go_at_call 116; refine (HT.out w2 HR2.out.1).mono ?_; rintro e w' ⟨rfl, rfl⟩))
       exact ⟨rfl, by rw [HD.out]; exact ⟨rfl, HR2.out.2, _, _, HR2.out.1⟩⟩
   · have HD : Hid (D = none) := Lib.hid (by rw [hD]; unfold textP; rw [hs]; simp only; rw [if_neg (fun h => h1 ⟨h.1, h.2.1⟩)]; rfl)
     clear hs hD
     by_cases h2 : n < 0
     · clear h1
       go_enter Tryz.func100, Tryz.ntmps100
       go_wp2_with (first
        | (go_at_call 98; refine HN2.out.mono ?_; rintro e w2 ⟨rfl, HR2⟩)
        | (go_at_call 118; (with_reducible refine (must_no _).mono ?_); rintro e w' ⟨rfl, rfl⟩))
       exact ⟨rfl, by rw [HD.out]; exact ⟨rfl, HR2.out.2, _, _, HR2.out.1⟩⟩
     · have h3 : 65536 < n := by omega
       have h4 : 0 ≤ n := by omega
       clear h1 h2
       go_enter Tryz.func100, Tryz.ntmps100
       go_wp2_with (first
        | (go_at_call 98; refine HN2.out.mono ?_; rintro e w2 ⟨rfl, HR2⟩)
        | (go_at_call 118; refine (must_n (decide_eq_false (by omega)) _).mono ?_; rintro e w' ⟨rfl, rfl⟩))
       exact ⟨rfl, by rw [HD.out]; exact ⟨rfl, HR2.out.2, _, _, HR2.out.1⟩⟩

set_option maxRecDepth 100000 in
set_option maxHeartbeats 2000000 in
theorem code_flagR (w : World) (g : Nat) (b : Bool) (rest : Text) (hr : Rdr w g b rest) :
 Calls Tryz.prog 121 #[.pointer (some ⟨g, 0, none⟩)] w (Res w g b ((flagP rest).map fun p => (.bool p.1, p.2))) := by
 cases rest with
 | nil =>
   have HT := Lib.hid (take_no w g b [] 1 hr (by simp))
   have HR := Lib.hid hr
   clear hr
   go_enter Tryz.func121, Tryz.ntmps121
   go_wp2_with (go_at_call 116; refine HT.out.mono ?_; rintro e w' ⟨rfl, rfl⟩)
   exact ⟨rfl, rfl, Only.refl _ _, _, _, HR.out⟩
 | cons h r =>
   have HT := Lib.hid (take_one w g b h r hr)
   obtain ⟨D, hD⟩ : ∃ D, D = (flagP (h :: r)).map fun p => (Value.bool p.1, p.2) := ⟨_, rfl⟩
   rw [← hD]
   clear hr
   by_cases h1 : h.toNat ≤ 1
   · have HD : Hid (D = some (.bool (decide (h.toNat = 1)), r)) := Lib.hid (by rw [hD]; unfold flagP; simp only; rw [if_pos h1]; rfl)
     have hi : ((h.toNat : Nat) : Int) ≤ 1 := by omega
     have HB : Hid ((((h.toNat : Nat) : Int) == 1) = decide (h.toNat = 1)) := Lib.hid (by rw [Bool.eq_iff_iff]; simp; omega)
     clear hD h1
     go_enter Tryz.func121, Tryz.ntmps121
     go_wp2_with (first
      | (go_at_call 116; refine HT.out.mono ?_; rintro e w1 ⟨a, c, rfl, hc, HR1⟩)
      | (go_at_call 118; (with_reducible refine (must_yes _).mono ?_); rintro e w' ⟨rfl, rfl⟩))
     go_ret
     rw [HD.out]
     exact ⟨ret_bool HB.out, HR1.out.1, HR1.out.2⟩
   · have HD : Hid (D = none) := Lib.hid (by rw [hD]; unfold flagP; simp only; rw [if_neg h1]; rfl)
     have hi : 1 < ((h.toNat : Nat) : Int) := by omega
     clear hD h1
     go_enter Tryz.func121, Tryz.ntmps121
     go_wp2_with (first
      | (go_at_call 116; refine HT.out.mono ?_; rintro e w1 ⟨a, c, rfl, hc, HR1⟩)
      | (go_at_call 118; refine (must_n (decide_eq_false (by omega)) _).mono ?_; rintro e w' ⟨rfl, rfl⟩))
     exact ⟨rfl, by rw [HD.out]; exact ⟨rfl, HR1.out.2, _, _, HR1.out.1⟩⟩
end Go.Proofs.YtmjjenemokojjaaGreat

namespace Go.Proofs.YtmjjenemokojjaaGreat
open Go.RowKit
set_option maxRecDepth 100000
set_option linter.unusedSimpArgs false

set_option maxHeartbeats 4000000 in
theorem code_goodLine (su ca : Int) (fr to_ pl : ByteArray) (am : Int) (gr : Bool) (co : Int) (mi : Bool) (sale : Bool) (w : World) (hf : fr.size ≤ 140737488351232) (ht : to_.size ≤ 140737488351232) (hp : pl.size ≤ 140737488351232) (V : Bool) (hV : (supB su fr to_ pl gr co && inB ca 1 5 && inB am 0 1099511627776 && inB co 0 1099511627776 && !(sale && mi)) = V) :
 Calls Tryz.prog 12 #[.agg #[.int .i64 su, .int .i64 ca, .string fr, .string to_, .string pl, .int .i64 am, .bool gr, .int .i64 co, .bool mi], .bool sale] w fun e w' => e = .returned (.bool V) ∧ Below w.heap.size w w' := by
 have HS := Lib.hid (fun W => code_isSupplied su ca fr to_ pl am gr co mi W hf ht hp _ rfl)
 have HX := Lib.hid (And.intro (heap_alloc_new w (.cells #[.int .i64 su, .int .i64 ca, .string fr, .string to_, .string pl, .int .i64 am, .bool gr, .int .i64 co, .bool mi] 30)) (below_alloc w (.cells #[.int .i64 su, .int .i64 ca, .string fr, .string to_, .string pl, .int .i64 am, .bool gr, .int .i64 co, .bool mi] 30)))
 clear hf ht hp
 generalize supB su fr to_ pl gr co = b0 at HS hV
 cases b0 with
 | false =>
   simp only [Bool.false_and, Bool.true_and, Bool.and_false, Bool.and_true] at hV
   subst hV
   go_enter Tryz.func12, Tryz.ntmps12
   go_wp2_with (first
    | (go_at_call 37; refine (HS.out _).mono ?_; rintro e w1 ⟨rfl, hb⟩; obtain ⟨x0, x1, x2, x3, x4, x5, x6, x7, x8⟩ := cellsLineV (heap_on hb HX.out.1); have HB := Lib.hid (below_then HX.out.2 hb); clear hb)
    | (go_at_call 29; refine (code_isFrom _ _ _ _).mono ?_; rintro e w2 ⟨rfl, rfl⟩))
   go_ret
   exact ⟨by first | rfl | simp, HB.out⟩
 | true =>
   cases h1 : inB ca 1 5 with
   | false =>
     rw [h1] at hV
     simp only [Bool.false_and, Bool.true_and, Bool.and_false, Bool.and_true] at hV
     subst hV
     go_enter Tryz.func12, Tryz.ntmps12
     go_wp2_with (first
      | (go_at_call 37; refine (HS.out _).mono ?_; rintro e w1 ⟨rfl, hb⟩; obtain ⟨x0, x1, x2, x3, x4, x5, x6, x7, x8⟩ := cellsLineV (heap_on hb HX.out.1); have HB := Lib.hid (below_then HX.out.2 hb); clear hb)
      | (go_at_call 29; refine (code_isFrom _ _ _ _).mono ?_; rintro e w2 ⟨rfl, rfl⟩))
     go_ret
     exact ⟨by first | rfl | simp, HB.out⟩
   | true =>
     rw [h1] at hV
     cases h2 : inB am 0 1099511627776 with
     | false =>
       rw [h2] at hV
       simp only [Bool.false_and, Bool.true_and, Bool.and_false, Bool.and_true] at hV
       subst hV
       go_enter Tryz.func12, Tryz.ntmps12
       go_wp2_with (first
        | (go_at_call 37; refine (HS.out _).mono ?_; rintro e w1 ⟨rfl, hb⟩; obtain ⟨x0, x1, x2, x3, x4, x5, x6, x7, x8⟩ := cellsLineV (heap_on hb HX.out.1); have HB := Lib.hid (below_then HX.out.2 hb); clear hb)
        | (go_at_call 29; refine (code_isFrom _ _ _ _).mono ?_; rintro e w2 ⟨rfl, rfl⟩))
       go_ret
       exact ⟨by first | rfl | simp, HB.out⟩
     | true =>
       rw [h2] at hV
       cases h3 : inB co 0 1099511627776 with
       | false =>
         rw [h3] at hV
         simp only [Bool.false_and, Bool.true_and, Bool.and_false, Bool.and_true] at hV
         subst hV
         go_enter Tryz.func12, Tryz.ntmps12
         go_wp2_with (first
          | (go_at_call 37; refine (HS.out _).mono ?_; rintro e w1 ⟨rfl, hb⟩; obtain ⟨x0, x1, x2, x3, x4, x5, x6, x7, x8⟩ := cellsLineV (heap_on hb HX.out.1); have HB := Lib.hid (below_then HX.out.2 hb); clear hb)
          | (go_at_call 29; refine (code_isFrom _ _ _ _).mono ?_; rintro e w2 ⟨rfl, rfl⟩))
         go_ret
         exact ⟨by first | rfl | simp, HB.out⟩
       | true =>
         rw [h3] at hV
         simp only [Bool.false_and, Bool.true_and, Bool.and_false, Bool.and_true] at hV
         cases sale
         all_goals
          simp only [Bool.false_and, Bool.true_and, Bool.not_false] at hV
          subst hV
          go_enter Tryz.func12, Tryz.ntmps12
          go_wp2_with (first
           | (go_at_call 37; refine (HS.out _).mono ?_; rintro e w1 ⟨rfl, hb⟩; obtain ⟨x0, x1, x2, x3, x4, x5, x6, x7, x8⟩ := cellsLineV (heap_on hb HX.out.1); have HB := Lib.hid (below_then HX.out.2 hb); clear hb)
           | (go_at_call 29; refine (code_isFrom _ _ _ _).mono ?_; rintro e w2 ⟨rfl, rfl⟩))
          go_ret
          exact ⟨by first | rfl | simp, HB.out⟩
end Go.Proofs.YtmjjenemokojjaaGreat

namespace Go.Proofs.YtmjjenemokojjaaGreat
open Go.RowKit
set_option maxRecDepth 100000

theorem catch_int (p : Nat) (g : Nat) (b x : Value) (w : World) (u : TypeId) (pv : Value) (older : List PanicEntry) (hp : w.cell? ⟨p, 0, none⟩ = some (.pointer (some ⟨g, 0, none⟩)))
 (h1 : w.cell? ⟨g, 1, none⟩ = some b) (h2 : (w.setCell ⟨g, 1, none⟩ (.bool true)).cell? ⟨g, 2, none⟩ = some x) (f1 : w.frozen? ⟨g, 1, none⟩ = false) (f2 : w.frozen? ⟨g, 2, none⟩ = false) :
 CallsD Tryz.prog 115 #[.pointer (some ⟨p, 0, none⟩)] (.panicking ({ v := .iface u pv, recovered := false } :: older)) w fun e u' w' =>
  e = .returned (.tuple #[]) ∧ u' = .panicking ({ v := .iface u pv, recovered := true } :: older) ∧ w' = (w.setCell ⟨g, 1, none⟩ (.bool true)).setCell ⟨g, 2, none⟩ (.slice none 0 0) := by
 refine callsD_of_wpS Tryz.func115 rfl fun c₀ cs hu => ?_
 apply wpS_seq
 apply wpS_region
 simp [wpOpsS, go_sem, recoverD, hu, Tryz.ntmps115, Exit.thenS]
 refine wpS_cond (t := true) (by simp [Act.eval, Array.replicate]) ?_
 simp only [if_true]
 refine wpS_of_wp ?_
 cases c₀
 go_wp2
 simp [bodyPostS, results, Tryz.results115]

theorem idle_int (p : Nat) (w : World) :
 CallsD Tryz.prog 115 #[.pointer (some ⟨p, 0, none⟩)] .returning w fun e u' w' => e = .returned (.tuple #[]) ∧ u' = .returning ∧ w' = w := by
 refine callsD_of_wpS Tryz.func115 rfl fun c₀ cs hu => ?_
 apply wpS_seq
 apply wpS_region
 simp [wpOpsS, go_sem, recoverD, hu, Tryz.ntmps115, Exit.thenS]
 refine wpS_cond (t := false) (by simp [Act.eval, Array.replicate]) ?_
 simp only [Bool.false_eq_true, if_false]
 refine wpS_of_wp (wp_skip ?_)
 cases c₀
 simp_all [bodyPostS, results, Tryz.results115]

/-- what a reading call leaves, once what was raised is caught -/
def Got (w : World) (g : Nat) (b : Bool) (z : Value) (d : Option (Value × Text)) (e : Ending) (w' : World) : Prop := match d with
 | some (v, r) => e = .returned v ∧ Rdr w' g b r ∧ Only w w' g
 | none => e = .returned z ∧ Rdr w' g true [] ∧ Only w w' g
/-- a reader in whose block what was raised left something, spoilt -/
theorem spoilt {w w2 : World} {g : Nat} (ho : Only w w2 g) (hr : ∃ b rest, Rdr w2 g b rest) :
 Rdr ((w2.setCell ⟨g, 1, none⟩ (.bool true)).setCell ⟨g, 2, none⟩ (.slice none 0 0)) g true [] ∧ Only w ((w2.setCell ⟨g, 1, none⟩ (.bool true)).setCell ⟨g, 2, none⟩ (.slice none 0 0)) g := by
 obtain ⟨b, rest, A, c, hh, _⟩ := hr
 have h1 := heap_setCell_same w2 g 1 _ _ (.bool true) hh
 have h2 := heap_setCell_same _ g 2 _ _ (.slice none 0 0) h1
 exact ⟨⟨none, 0, by rw [h2]; rfl, Nat.le_refl _, Nat.zero_le _, Txt.none_, fun _ => rfl, by simp⟩, ho.trans ((Only.set _ _ _ _).trans (Only.set _ _ _ _))⟩

set_option maxHeartbeats 2000000 in
theorem read_int_any (w : World) (g : Nat) (b : Bool) (rest : Text) (hr : Rdr w g b rest) :
 Calls Tryz.prog 97 #[.pointer (some ⟨g, 0, none⟩), .func (Fn.func 98) #[.pointer (some ⟨g, 0, none⟩)] #[]] w (Got w g b (.int .i64 0) ((numP rest).map fun p => (.int .i64 p.1, p.2))) := by
 have hmf : ∀ (fn : Fn) (first cap : Array Value) (w : World), (Instr.makeFunc fn first cap).run Tryz.prog w = .ok (.func fn first cap) w := fun _ _ _ _ => rfl
 obtain ⟨D, hD⟩ : ∃ D, D = (numP rest).map fun p => (Value.int .i64 p.1, p.2) := ⟨_, rfl⟩
 rw [← hD]
 have hb : Below w.heap.size w (w.alloc (.cells #[.pointer (some ⟨g, 0, none⟩)] 64)) := (Below.refl _ _).alloc (Nat.le_refl _) _
 have hr1 : Rdr (w.alloc (.cells #[.pointer (some ⟨g, 0, none⟩)] 64)) g b rest := by
  obtain ⟨A, c, h1, h2, h3, h4, h5, h6⟩ := hr
  exact ⟨A, c, (hb.block g (heap_lt h1)).trans h1, h2, h3, h4.below hb, h5, h6⟩
 have hlt : g < w.heap.size := by obtain ⟨A, c, h1, _⟩ := hr; exact heap_lt h1
 have h0 : w.cell? ⟨g, 0, none⟩ = some (.bool true) := by
  obtain ⟨A, c, h1, _⟩ := hr
  rw [cell_of_row w g 0 _ _ _ h1]; rfl
 have HN := Lib.hid (code_num _ g b rest hr1)
 rw [← hD] at HN
 have HB := Lib.hid hb
 clear hr hr1 hD hb
 cases D with
 | some p =>
   obtain ⟨v, r⟩ := p
   go_enter_defers Tryz.func97, Tryz.ntmps97
   go_wp2_with (go_at_call 98; refine HN.out.mono ?_; rintro e w2 ⟨rfl, hrr, hoo⟩; have HR := Lib.hid hrr; have HO := Lib.hid hoo; clear hrr hoo)
   refine leaves_cons (f := 115) (args := #[.pointer (some ⟨w.heap.size, 0, none⟩)]) (by simp) (by simp [go_sem]) ?_
   refine (idle_int _ _).mono ?_
   rintro e u' w'' ⟨rfl, rfl, rfl⟩
   exact ⟨_, results_tmp rfl _ _ _, rfl, HR.out, (Only.of_below HB.out).trans HO.out⟩
 | none =>
   go_enter_defers Tryz.func97, Tryz.ntmps97
   go_wp2_with (go_at_call 98; refine HN.out.mono ?_; rintro e w2 ⟨rfl, hoo, hrr⟩; have HR := Lib.hid hrr; have HO := Lib.hid hoo; clear hrr hoo)
   obtain ⟨b2, rest2, A2, c2, hh, _⟩ := HR.out
   have hpp : w2.cell? ⟨w.heap.size, 0, none⟩ = some (.pointer (some ⟨g, 0, none⟩)) := by
    have := (HO.out.block w.heap.size (by simp) (by omega)).trans (heap_alloc_new w (.cells #[.pointer (some ⟨g, 0, none⟩)] 64))
    rw [cell_of_row w2 _ 0 _ _ _ this]; rfl
   have g1 : w2.cell? ⟨g, 1, none⟩ = some (.bool b2) := by rw [cell_of_row w2 g 1 _ _ _ hh]; rfl
   have hh1 := heap_setCell_same w2 g 1 _ _ (.bool true) hh
   have g2 : (w2.setCell ⟨g, 1, none⟩ (.bool true)).cell? ⟨g, 2, none⟩ = some (.slice A2 rest2.length c2) := by rw [cell_of_row _ g 2 _ _ _ hh1]; rfl
   refine leaves_cons (f := 115) (args := #[.pointer (some ⟨w.heap.size, 0, none⟩)]) (by simp) (by simp [go_sem]) ?_
   refine (catch_int w.heap.size g _ _ w2 _ _ [] hpp g1 g2 (frozen_of_row w2 g 1 _ _ hh) (frozen_of_row w2 g 2 _ _ hh)).mono ?_
   rintro e u' w'' ⟨rfl, rfl, rfl⟩
   have HS := Lib.hid (spoilt ((Only.of_below HB.out).trans HO.out) HR.out)
   show Leaves _ _ _ _ [] .returning _
   exact ⟨_, results_tmp rfl _ _ _, rfl, HS.out⟩
end Go.Proofs.YtmjjenemokojjaaGreat

namespace Go.Proofs.YtmjjenemokojjaaGreat.Civ
set_option maxRecDepth 100000

def leap (y : Int) : Bool := decide (1970 ≤ y) && decide (y ≤ 9999) && decide (y % 4 = 0) && (!decide (y % 100 = 0) || decide (y % 400 = 0))

def len (y m : Int) : Int :=
 if y < 1970 ∨ 9999 < y ∨ m < 1 ∨ 12 < m then 0
 else if m = 2 then (if leap y then 29 else 28)
 else if m = 4 ∨ m = 6 ∨ m = 9 ∨ m = 11 then 30 else 31

def days (y : Int) : Int := if leap y then 366 else 365

/-- the days of so many years from the first one on -/
def years : Nat → Int
 | 0 => 0
 | k + 1 => years k + days (1970 + k)

/-- the days of so many months of a year -/
def months (y : Int) : Nat → Int
 | 0 => 0
 | k + 1 => months y k + len y (k + 1)


/-- a day's number -/
def number (y m d : Int) : Int := years (y - 1970).toNat + months y (m - 1).toNat + d - 1

theorem days_bd (y : Int) : 365 ≤ days y ∧ days y ≤ 366 := by unfold days; split <;> omega
theorem len_bd (y m : Int) : 0 ≤ len y m ∧ len y m ≤ 31 := by unfold len; repeat' split <;> omega
theorem len_lo {y m : Int} (h1 : 1970 ≤ y) (h2 : y ≤ 9999) (h3 : 1 ≤ m) (h4 : m ≤ 12) : 28 ≤ len y m := by
 unfold len; rw [if_neg (by omega)]; repeat' split <;> omega
theorem years_bd' (k : Nat) : 365 * (k : Int) ≤ years k ∧ years k ≤ 366 * (k : Int) := by
 induction k with
 | zero => simp [years]
 | succ k ih => have := days_bd (1970 + k); simp only [years]; omega
theorem years_bd (k : Nat) (h : (k : Int) ≤ 8030) : 0 ≤ years k ∧ years k ≤ 2938980 := by have := years_bd' k; omega
theorem months_bd (y : Int) (k : Nat) : 0 ≤ months y k ∧ months y k ≤ 31 * (k : Int) := by
 induction k with
 | zero => simp [months]
 | succ k ih => have := len_bd y (k + 1); simp only [months]; omega

theorem years_eq (k : Nat) (h : k ≤ 8030) : years k = 365 * (k : Int) + ((1969 + (k : Int)) / 4 - 492) - ((1969 + (k : Int)) / 100 - 19) + ((1969 + (k : Int)) / 400 - 4) := by
 induction k with
 | zero => simp [years]
 | succ k ih =>
   have ih' := ih (by omega)
   simp only [years, ih', days]
   by_cases hl : leap (1970 + (k : Int)) = true
   · have hl' := hl
     simp only [leap, Bool.and_eq_true, Bool.or_eq_true, Bool.not_eq_true', decide_eq_true_eq, decide_eq_false_iff_not] at hl'
     rw [if_pos hl]; omega
   · have hl' := hl
     simp only [leap, Bool.and_eq_true, Bool.or_eq_true, Bool.not_eq_true', decide_eq_true_eq, decide_eq_false_iff_not] at hl'
     rw [if_neg hl]; omega
theorem years_end : years 8030 = 2932897 := by rw [years_eq 8030 (by omega)]; decide
theorem years_up (a b : Nat) (h : a ≤ b) : years a + 365 * ((b : Int) - a) ≤ years b := by
 induction b with
 | zero => have : a = 0 := by omega
           subst this; simp
 | succ b ih =>
   by_cases e : a = b + 1
   · subst e; simp
   · have := ih (by omega); have := days_bd (1970 + b); simp only [years]; omega
theorem months_12 {y : Int} (h1 : 1970 ≤ y) (h2 : y ≤ 9999) : months y 12 = days y := by
 have e : ∀ m : Int, 1 ≤ m → m ≤ 12 → len y m = if m = 2 then (if leap y then 29 else 28) else if m = 4 ∨ m = 6 ∨ m = 9 ∨ m = 11 then 30 else 31 := by
  intro m a b; unfold len; rw [if_neg (by omega)]
 simp only [months]
 simp [e, days]
 split <;> rfl
theorem months_up (y : Int) (a b : Nat) (h : a ≤ b) : months y a ≤ months y b := by
 induction b with
 | zero => have : a = 0 := by omega
           subst this; simp
 | succ b ih =>
   by_cases e : a = b + 1
   · subst e; simp
   · have := ih (by omega); have := len_bd y (b + 1); simp only [months]; omega
theorem months_succ (y : Int) (j : Nat) : months y (j + 1) = months y j + len y (1 + j) := by
 have : months y (j + 1) = months y j + len y (j + 1) := rfl
 rw [this, Int.add_comm (j : Int) 1]

/-- a day that is one -/
def valid (y m d : Int) : Prop := 1 ≤ len y m ∧ 1 ≤ d ∧ d ≤ len y m
theorem valid_bd {y m d : Int} (h : valid y m d) : 1970 ≤ y ∧ y ≤ 9999 ∧ 1 ≤ m ∧ m ≤ 12 := by
 obtain ⟨h, _, _⟩ := h
 unfold len at h
 by_cases h0 : y < 1970 ∨ 9999 < y ∨ m < 1 ∨ 12 < m
 · rw [if_pos h0] at h; omega
 · omega
/-- where a day stands: its year's days, and its month's -/
theorem number_in {y m d : Int} (h : valid y m d) :
 years (y - 1970).toNat ≤ number y m d ∧ number y m d < years ((y - 1970).toNat + 1) ∧
 months y (m - 1).toNat ≤ number y m d - years (y - 1970).toNat ∧ number y m d - years (y - 1970).toNat < months y ((m - 1).toNat + 1) := by
 obtain ⟨h1, h2, h3, h4⟩ := valid_bd h
 obtain ⟨_, h5, h6⟩ := h
 have e1 : years ((y - 1970).toNat + 1) = years (y - 1970).toNat + days y := by
  show _ + days (1970 + ((y - 1970).toNat : Int)) = _
  rw [show 1970 + ((y - 1970).toNat : Int) = y by omega]
 have e2 : months y ((m - 1).toNat + 1) = months y (m - 1).toNat + len y m := by
  rw [months_succ, show 1 + ((m - 1).toNat : Int) = m by omega]
 have e3 := months_up y ((m - 1).toNat + 1) 12 (by omega)
 rw [months_12 h1 h2] at e3
 have e4 := months_bd y (m - 1).toNat
 unfold number
 omega
theorem number_bd {y m d : Int} (h : valid y m d) : 0 ≤ number y m d ∧ number y m d ≤ 2932896 := by
 obtain ⟨h1, h2, h3, h4⟩ := valid_bd h
 obtain ⟨a, b, _, _⟩ := number_in h
 have c := years_up ((y - 1970).toNat + 1) 8030 (by omega)
 have := years_bd (y - 1970).toNat (by omega)
 rw [years_end] at c
 omega
theorem number_inj {y m d y' m' d' : Int} (h : valid y m d) (h' : valid y' m' d') (e : number y m d = number y' m' d') : y = y' ∧ m = m' ∧ d = d' := by
 have b1 := valid_bd h
 have b2 := valid_bd h'
 have n1 := number_in h
 have n2 := number_in h'
 rw [e] at n1
 have hy : y = y' := by
  by_cases c : (y - 1970).toNat + 1 ≤ (y' - 1970).toNat
  · have := years_up _ _ c; omega
  · by_cases c' : (y' - 1970).toNat + 1 ≤ (y - 1970).toNat
    · have := years_up _ _ c'; omega
    · omega
 subst hy
 have hm : m = m' := by
  by_cases c : (m - 1).toNat + 1 ≤ (m' - 1).toNat
  · have := months_up y _ _ c; omega
  · by_cases c' : (m' - 1).toNat + 1 ≤ (m - 1).toNat
    · have := months_up y _ _ c'; omega
    · omega
 subst hm
 unfold number at e
 exact ⟨rfl, rfl, by omega⟩

/-- how many periods of a kind a year has -/
def many (k : Int) : Int := if k = 1 then 12 else if k = 2 then 4 else if k = 3 then 1 else 0
def good (k y i : Int) : Bool := decide (1970 ≤ y) && decide (y ≤ 9999) && decide (1 ≤ i) && decide (i ≤ many k)
/-- how many months a period of a kind has -/
def each (k : Int) : Int := if k = 1 then 1 else if k = 2 then 3 else 12
def first (k y i : Int) : Int := number y ((i - 1) * each k + 1) 1
def last (k y i : Int) : Int := number y (i * each k) (len y (i * each k))
def within (k y i n : Int) : Bool := good k y i && decide (first k y i ≤ n) && decide (n ≤ last k y i)
def cmp (k y i k' y' i' : Int) : Int :=
 if good k y i = true ∧ good k' y' i' = true then
  (if first k y i = first k' y' i' then (if last k y i < last k' y' i' then -1 else if last k' y' i' < last k y i then 1 else 0)
   else if first k y i < first k' y' i' then -1 else if first k' y' i' < first k y i then 1 else 0)
 else 0
/-- a period's place among those of its kind -/
def place (k y i : Int) : Int := (y - 1970) * many k + i - 1

end Go.Proofs.YtmjjenemokojjaaGreat.Civ
