/- Right periods, as the program tells them (the civil texts' own, for a program that holds no more of civil). Lines that may not be, looked for in a row: the program's. What reads, and catches what is raised: text. Days and stretches of days: the record's. -/
import Derived.Test.YtmjjenemokojjaaGreatD2
import Derived.Test.YtmjjenemokojjaaGreatD8
import Derived.BigQuiet
import Derived.Deep.QuietTactic
import Derived.WalkMore
import Derived.Test.YtmjjenemokojjaaGreatD5
namespace Go.Proofs.YtmjjenemokojjaaGreat.Civs
open Go.RowKit
set_option maxRecDepth 100000
theorem quiet_left {P : Program} {f : FuncId} {args : Array Value} {w : World} {n : Nat} {v : Value}
 (h : Calls P f args (w.drewN n) fun e w' => e = .returned v ∧ w.drewN n = w') : Calls P f args (w.drewN n) fun e w'' => e = .returned v ∧ ∃ m, w'' = w.drewN m :=
 h.mono fun _ _ ⟨he, hm⟩ => ⟨he, n, hm.symm⟩
theorem below_drewN {B : Nat} {a w : World} (h : Below B a w) (n : Nat) : Below B a (w.drewN n) := ⟨h.os, h.tape, h.output, h.size, h.block⟩
set_option maxHeartbeats 400000 in
theorem code_isYear (y : Int) (w : World) :
 Calls Tryz.prog 105 #[.int .i64 y] w fun e w' => e = .returned (.bool (decide (1970 ≤ y) && decide (y ≤ 9999))) ∧ w = w' := by
 by_cases h1 : 1970 ≤ y
 · by_cases h2 : y ≤ 9999
   · go_enter Tryz.func105, Tryz.ntmps105
     go_wp2
     all_goals go_ret
     all_goals exact ⟨ret_bool (by rw [Bool.eq_iff_iff]; simp_all; try omega), rfl⟩
   · go_enter Tryz.func105, Tryz.ntmps105
     go_wp2
     all_goals go_ret
     all_goals exact ⟨ret_bool (by rw [Bool.eq_iff_iff]; simp_all; try omega), rfl⟩
 · go_enter Tryz.func105, Tryz.ntmps105
   go_wp2
   all_goals go_ret
   all_goals exact ⟨ret_bool (by rw [Bool.eq_iff_iff]; simp_all; try omega), rfl⟩
theorem code_isYear_at {y : Int} {b : Bool} (h : (decide (1970 ≤ y) && decide (y ≤ 9999)) = b) (w : World) :
 Calls Tryz.prog 105 #[.int .i64 y] w fun e w' => e = .returned (.bool b) ∧ w = w' := by
 have := code_isYear y w
 rw [h] at this
 exact this
theorem isYear_t {y : Int} (h1 : 1970 ≤ y) (h2 : y ≤ 9999) : (decide (1970 ≤ y) && decide (y ≤ 9999)) = true := by simp [h1, h2]
theorem isYear_f {y : Int} (h : y < 1970 ∨ 9999 < y) : (decide (1970 ≤ y) && decide (y ≤ 9999)) = false := by
 rw [Bool.and_eq_false_iff]
 rcases h with h | h
 · exact .inl (decide_eq_false (by omega))
 · exact .inr (decide_eq_false (by omega))
/-- how many months a period of a kind has, or 0 -/
def kM (k : Int) : Int := if k = 1 then 1 else if k = 2 then 3 else if k = 3 then 12 else 0
set_option maxHeartbeats 400000 in
theorem code_kind (k : Int) (w : World) :
 Calls Tryz.prog 104 #[.int .i64 k] w fun e w' => e = .returned (.int .i64 (kM k)) ∧ w = w' := by
 go_enter Tryz.func104, Tryz.ntmps104
 go_wp2
 all_goals go_ret
 all_goals exact ⟨ret_int (by simp_all [kM]), rfl⟩
theorem code_kind_at {k K : Int} (h : kM k = K) (w : World) :
 Calls Tryz.prog 104 #[.int .i64 k] w fun e w' => e = .returned (.int .i64 K) ∧ w = w' := by
 have := code_kind k w
 rw [h] at this
 exact this
theorem kM_cases (k : Int) : k = 1 ∧ kM k = 1 ∧ Civ.many k = 12 ∨ k = 2 ∧ kM k = 3 ∧ Civ.many k = 4 ∨ k = 3 ∧ kM k = 12 ∧ Civ.many k = 1 ∨ kM k = 0 ∧ Civ.many k = 0 := by
 unfold kM Civ.many
 by_cases a : k = 1
 · left; simp [a]
 · by_cases b : k = 2
   · right; left; simp [b]
   · by_cases c : k = 3
     · right; right; left; simp [c]
     · right; right; right; simp [a, b, c]
theorem code_isYear_q {y : Int} {b : Bool} (h : (decide (1970 ≤ y) && decide (y ≤ 9999)) = b) (w : World) (n : Nat) :
 Calls Tryz.prog 105 #[.int .i64 y] (w.drewN n) fun e w' => e = .returned (.bool b) ∧ ∃ m, w' = w.drewN m :=
 quiet_left (code_isYear_at h _)
theorem good_no1 {k y i : Int} (h : Civ.many k = 0) : Civ.good k y i = false := by
 unfold Civ.good; rw [h, Bool.and_assoc]
 simp; omega
theorem good_form {k m : Int} (y i : Int) (h : Civ.many k = m) : Civ.good k y i = (decide (1 ≤ i) && decide (i ≤ m) && (decide (1970 ≤ y) && decide (y ≤ 9999))) := by
 unfold Civ.good; rw [h, Bool.eq_iff_iff]; simp; omega
set_option maxHeartbeats 2000000 in
theorem code_good (k y i : Int) (w : World) :
 Calls Tryz.prog 81 #[.agg #[.int .i64 k, .int .i64 y, .int .i64 i]] w fun e w' => e = .returned (.bool (Civ.good k y i)) ∧ Below w.heap.size w w' := by
 rcases kM_cases k with ⟨rfl, hk, hm⟩ | ⟨rfl, hk, hm⟩ | ⟨rfl, hk, hm⟩ | ⟨hk, hm⟩
 case inr.inr.inr =>
  have E := Lib.hid (good_no1 (y := y) (i := i) hm)
  have K := Lib.hid hk
  clear hk hm
  go_enter Tryz.func81, Tryz.ntmps81
  go_wp2_with (go_at_call 104; refine (code_kind_at K.out _).mono ?_; rintro e w' ⟨rfl, rfl⟩)
  go_quiet ((go_at_call 105; exact code_isYear_q (by assumption) _ _))
  go_wp2
  go_ret
  exact ⟨ret_bool (by rw [E.out]), below_drewN ((Below.refl _ _).alloc (Nat.le_refl _) _) _⟩
 all_goals
  have E : Hid (Civ.good _ y i = (decide (1 ≤ i) && decide (i ≤ _) && (decide (1970 ≤ y) && decide (y ≤ 9999)))) := Lib.hid (good_form y i hm)
  have K := Lib.hid hk
  clear hk hm
  by_cases hy : 1970 ≤ y ∧ y ≤ 9999
  · obtain ⟨h1, h2⟩ := hy
    have Y := Lib.hid (isYear_t h1 h2)
    clear h1 h2
    by_cases h3 : 1 ≤ i
    · go_enter Tryz.func81, Tryz.ntmps81
      go_wp2_with (go_at_call 104; refine (code_kind_at K.out _).mono ?_; rintro e w' ⟨rfl, rfl⟩)
      go_quiet ((go_at_call 105; exact code_isYear_q Y.out _ _))
      go_wp2
      go_ret
      exact ⟨ret_bool (by rw [E.out, Y.out]; simp [h3]), below_drewN ((Below.refl _ _).alloc (Nat.le_refl _) _) _⟩
    · have hd : decide (1 ≤ i) = false := by simpa using h3
      go_enter Tryz.func81, Tryz.ntmps81
      go_wp2_with (go_at_call 104; refine (code_kind_at K.out _).mono ?_; rintro e w' ⟨rfl, rfl⟩)
      go_quiet ((go_at_call 105; exact code_isYear_q Y.out _ _))
      go_wp2
      go_ret
      exact ⟨ret_bool (by rw [E.out, hd]; simp), below_drewN ((Below.refl _ _).alloc (Nat.le_refl _) _) _⟩
  · have Y := Lib.hid (isYear_f (y := y) (by omega))
    clear hy
    go_enter Tryz.func81, Tryz.ntmps81
    go_wp2_with (go_at_call 104; refine (code_kind_at K.out _).mono ?_; rintro e w' ⟨rfl, rfl⟩)
    go_quiet ((go_at_call 105; exact code_isYear_q Y.out _ _))
    go_wp2
    go_ret
    exact ⟨ret_bool (by rw [E.out, Y.out]; simp), below_drewN ((Below.refl _ _).alloc (Nat.le_refl _) _) _⟩
end Go.Proofs.YtmjjenemokojjaaGreat.Civs

namespace Go.Proofs.YtmjjenemokojjaaGreat
open Go.RowKit
set_option maxRecDepth 100000
set_option linter.unusedSimpArgs false
set_option linter.unusedVariables false

theorem below_more {w v : World} {o : Obj} (h : Below w.heap.size w v) : Below w.heap.size w (v.alloc o) := h.alloc h.size o
def badAny (L : List LineV) (sale : Bool) : Bool := L.any fun l => !lineGood l sale
theorem bad_next {L : List LineV} {sale : Bool} {k : Nat} (hk : k < L.length) (h : badAny (L.take k) sale = false) (hs : lineGood L[k] sale = true) : badAny (L.take (k + 1)) sale = false := by
 rw [List.take_succ_eq_append_getElem hk]
 unfold badAny at *
 rw [List.any_append, h]
 simp [hs]
theorem bad_found {L : List LineV} {sale : Bool} {k : Nat} (hk : k < L.length) (hs : lineGood L[k] sale = false) : badAny L sale = true := by
 unfold badAny
 rw [List.any_eq_true]
 exact ⟨L[k], List.getElem_mem hk, by simp [hs]⟩
set_option maxHeartbeats 2000000 in
theorem code_goodDoc1 (l : LineV) (b : Nat) (sale : Bool) (w : World) (hb : b < w.heap.size) (hc : w.cell? ⟨b, 1, none⟩ = some (.bool sale)) (hz : l.2.2.1.size ≤ 140737488351232 ∧ l.2.2.2.1.size ≤ 140737488351232 ∧ l.2.2.2.2.1.size ≤ 140737488351232) : Calls Tryz.prog 35 #[.agg #[.int .i64 l.1, .int .i64 l.2.1, .string l.2.2.1, .string l.2.2.2.1, .string l.2.2.2.2.1, .int .i64 l.2.2.2.2.2.1, .bool l.2.2.2.2.2.2.1, .int .i64 l.2.2.2.2.2.2.2.1, .bool l.2.2.2.2.2.2.2.2], .pointer (some ⟨b, 0, none⟩)] w fun e w1 => e = .returned (.bool (!lineGood l sale)) ∧ Below w.heap.size w w1 := by
 have HG : Hid (∀ W, Calls Tryz.prog 12 #[.agg #[.int .i64 l.1, .int .i64 l.2.1, .string l.2.2.1, .string l.2.2.2.1, .string l.2.2.2.2.1, .int .i64 l.2.2.2.2.2.1, .bool l.2.2.2.2.2.2.1, .int .i64 l.2.2.2.2.2.2.2.1, .bool l.2.2.2.2.2.2.2.2], .bool sale] W fun e w1 => e = .returned (.bool (lineGood l sale)) ∧ Below W.heap.size W w1) := Lib.hid (fun W => code_goodLine _ _ _ _ _ _ _ _ _ sale W hz.1 hz.2.1 hz.2.2 _ rfl)
 generalize lineGood l sale = g at HG
 have HB0 := Lib.hid (below_alloc w (.cells #[.int .i64 l.1, .int .i64 l.2.1, .string l.2.2.1, .string l.2.2.2.1, .string l.2.2.2.2.1, .int .i64 l.2.2.2.2.2.1, .bool l.2.2.2.2.2.2.1, .int .i64 l.2.2.2.2.2.2.2.1, .bool l.2.2.2.2.2.2.2.2] 30))
 clear hz
 go_enter Tryz.func35, Tryz.ntmps35
 go_wp2_with (go_at_call 12; refine (HG.out _).mono ?_; rintro e w2 ⟨rfl, hb⟩; have HB := Lib.hid (below_then HB0.out hb); clear hb)
 go_ret
 exact ⟨rfl, HB.out⟩
def IdxP (L : List LineV) (sale : Bool) (w : World) (e : Ending) (w1 : World) : Prop := ∃ r : Int, e = .returned (.int .i64 r) ∧ decide (0 ≤ r) = badAny L sale ∧ -1 ≤ r ∧ Below w.heap.size w w1
set_option maxHeartbeats 2000000 in
theorem code_indexLine (A : Option Addr) (L : List LineV) (c : Nat) (b : Nat) (sale : Bool) (w : World) (hr : RowLineV w A L) (hlc : L.length ≤ c) (hln : L.length ≤ 140737488351232) (hg : ∀ r ∈ L, r.2.2.1.size ≤ 140737488351232 ∧ r.2.2.2.1.size ≤ 140737488351232 ∧ r.2.2.2.2.1.size ≤ 140737488351232) (hb : b < w.heap.size) (hc : w.cell? ⟨b, 1, none⟩ = some (.bool sale)) : Calls Tryz.prog 65 #[.slice A L.length c, .func (Fn.func 35) #[] #[.pointer (some ⟨b, 0, none⟩)]] w fun e w1 => IdxP L sale w e w1 := by
 have HR := Lib.hid hr
 have HG := Lib.hid hg
 have HC := Lib.hid (And.intro hb hc)
 have hl4 : (L.length : Int) ≤ 4000000000000000000 := by omega
 clear hr hg hb hc hln
 go_enter Tryz.func65, Tryz.ntmps65
 go_wp2
 go_loopw [8] (fun i wr => ∃ (k : Nat), k ≤ L.length ∧ i = .int .i64 k ∧ Hid (badAny (L.take k) sale = false) ∧ Hid (Below w.heap.size w wr)) (fun i _ => L.length - (intOf i).toNat)
 case atStart => exact ⟨0, Nat.zero_le _, rfl, Lib.hid rfl, Lib.hid (Below.refl _ _)⟩
 case round =>
  obtain ⟨k, hk, rfl, HS, HB⟩ := hrel
  by_cases hlt : k < L.length
  · have hlt' : (k : Int) < (L.length : Int) := by omega
    have hlc' : (k : Int) < (c : Int) := by omega
    obtain ⟨a, o, rfl, hbl, y0, y1, y2, y3, y4, y5, y6, y7, y8⟩ := (HR.out.on HB.out).at_ k hlt
    have HD : Hid (∀ W, Below wr.heap.size wr W → Calls Tryz.prog 35 #[.agg #[.int .i64 L[k].1, .int .i64 L[k].2.1, .string L[k].2.2.1, .string L[k].2.2.2.1, .string L[k].2.2.2.2.1, .int .i64 L[k].2.2.2.2.2.1, .bool L[k].2.2.2.2.2.2.1, .int .i64 L[k].2.2.2.2.2.2.2.1, .bool L[k].2.2.2.2.2.2.2.2], .pointer (some ⟨b, 0, none⟩)] W fun e w1 => e = .returned (.bool (!lineGood L[k] sale)) ∧ Below W.heap.size W w1) := Lib.hid (fun W hb2 => code_goodDoc1 L[k] b sale W (Nat.lt_of_lt_of_le HC.out.1 (below_then HB.out hb2).size) (cell_on (below_then HB.out hb2) HC.out.2) (HG.out _ (List.getElem_mem hlt)))
    cases hG : lineGood L[k] sale with
    | true =>
      have HN := Lib.hid (bad_next hlt HS.out hG)
      rw [hG] at HD
      clear hG hbl
      go_wp2_with (go_at_call 35; refine (HD.out _ (Below.refl _ _)).mono ?_; rintro e w2 ⟨rfl, hb2⟩; have HB2 := Lib.hid (below_then HB.out hb2); clear hb2)
      go_roundw
      case rel => exact ⟨k + 1, by omega, by go_num, HN, HB2⟩
      case measure => simp [intOf]; omega
    | false =>
      have HN := Lib.hid (bad_found hlt hG)
      rw [hG] at HD
      clear hG hbl
      go_wp2_with (go_at_call 35; refine (HD.out _ (Below.refl _ _)).mono ?_; rintro e w2 ⟨rfl, hb2⟩; have HB2 := Lib.hid (below_then HB.out hb2); clear hb2)
      go_ret
      exact ⟨k, rfl, by rw [HN.out]; simp, by omega, HB2.out⟩
  · obtain rfl : k = L.length := by omega
    have HE : Hid (badAny L sale = false) := Lib.hid (by have := HS.out; rwa [List.take_length] at this)
    clear HS
    go_wp2
    go_ret
    exact ⟨-1, rfl, by rw [HE.out]; rfl, by omega, HB.out⟩
set_option maxHeartbeats 2000000 in
theorem code_containsLine (A : Option Addr) (L : List LineV) (c : Nat) (b : Nat) (sale : Bool) (w : World) (hr : RowLineV w A L) (hlc : L.length ≤ c) (hln : L.length ≤ 140737488351232) (hg : ∀ r ∈ L, r.2.2.1.size ≤ 140737488351232 ∧ r.2.2.2.1.size ≤ 140737488351232 ∧ r.2.2.2.2.1.size ≤ 140737488351232) (hb : b < w.heap.size) (hc : w.cell? ⟨b, 1, none⟩ = some (.bool sale)) : Calls Tryz.prog 34 #[.slice A L.length c, .func (Fn.func 35) #[] #[.pointer (some ⟨b, 0, none⟩)]] w fun e w1 => e = .returned (.bool (badAny L sale)) ∧ Below w.heap.size w w1 := by
 have HI := Lib.hid (code_indexLine A L c b sale w hr hlc hln hg hb hc)
 clear hr hlc hln hg hb hc
 go_enter Tryz.func34, Tryz.ntmps34
 go_wp2_with (go_at_call 65; refine (HI.out).mono ?_; rintro e w2 ⟨r, rfl, hd, h1, hb⟩; have HB := Lib.hid hb; have HD := Lib.hid hd; clear hb hd)
 all_goals
  go_ret
  exact ⟨ret_bool (by rw [← HD.out]), HB.out⟩
end Go.Proofs.YtmjjenemokojjaaGreat

namespace Go.Proofs.YtmjjenemokojjaaGreat
open Go.RowKit
set_option maxRecDepth 100000

theorem catch_string (p : Nat) (g : Nat) (b x : Value) (w : World) (u : TypeId) (pv : Value) (older : List PanicEntry) (hp : w.cell? ⟨p, 0, none⟩ = some (.pointer (some ⟨g, 0, none⟩)))
 (h1 : w.cell? ⟨g, 1, none⟩ = some b) (h2 : (w.setCell ⟨g, 1, none⟩ (.bool true)).cell? ⟨g, 2, none⟩ = some x) (f1 : w.frozen? ⟨g, 1, none⟩ = false) (f2 : w.frozen? ⟨g, 2, none⟩ = false) :
 CallsD Tryz.prog 119 #[.pointer (some ⟨p, 0, none⟩)] (.panicking ({ v := .iface u pv, recovered := false } :: older)) w fun e u' w' =>
  e = .returned (.tuple #[]) ∧ u' = .panicking ({ v := .iface u pv, recovered := true } :: older) ∧ w' = (w.setCell ⟨g, 1, none⟩ (.bool true)).setCell ⟨g, 2, none⟩ (.slice none 0 0) := by
 refine callsD_of_wpS Tryz.func119 rfl fun c₀ cs hu => ?_
 apply wpS_seq
 apply wpS_region
 simp [wpOpsS, go_sem, recoverD, hu, Tryz.ntmps119, Exit.thenS]
 refine wpS_cond (t := true) (by simp [Act.eval, Array.replicate]) ?_
 simp only [if_true]
 refine wpS_of_wp ?_
 cases c₀
 go_wp2
 simp [bodyPostS, results, Tryz.results119]

theorem idle_string (p : Nat) (w : World) :
 CallsD Tryz.prog 119 #[.pointer (some ⟨p, 0, none⟩)] .returning w fun e u' w' => e = .returned (.tuple #[]) ∧ u' = .returning ∧ w' = w := by
 refine callsD_of_wpS Tryz.func119 rfl fun c₀ cs hu => ?_
 apply wpS_seq
 apply wpS_region
 simp [wpOpsS, go_sem, recoverD, hu, Tryz.ntmps119, Exit.thenS]
 refine wpS_cond (t := false) (by simp [Act.eval, Array.replicate]) ?_
 simp only [Bool.false_eq_true, if_false]
 refine wpS_of_wp (wp_skip ?_)
 cases c₀
 simp_all [bodyPostS, results, Tryz.results119]

set_option maxHeartbeats 2000000 in
theorem read_string_any (w : World) (g : Nat) (b : Bool) (rest : Text) (hr : Rdr w g b rest) :
 Calls Tryz.prog 99 #[.pointer (some ⟨g, 0, none⟩), .func (Fn.func 100) #[.pointer (some ⟨g, 0, none⟩)] #[]] w (Got w g b (.string {data:=#[]}) ((textP rest).map fun p => (.string p.1, p.2))) := by
 have hmf : ∀ (fn : Fn) (first cap : Array Value) (w : World), (Instr.makeFunc fn first cap).run Tryz.prog w = .ok (.func fn first cap) w := fun _ _ _ _ => rfl
 obtain ⟨D, hD⟩ : ∃ D, D = (textP rest).map fun p => (Value.string p.1, p.2) := ⟨_, rfl⟩
 rw [← hD]
 have hb : Below w.heap.size w (w.alloc (.cells #[.pointer (some ⟨g, 0, none⟩)] 64)) := (Below.refl _ _).alloc (Nat.le_refl _) _
 have hr1 : Rdr (w.alloc (.cells #[.pointer (some ⟨g, 0, none⟩)] 64)) g b rest := by
  obtain ⟨A, c, h1, h2, h3, h4, h5, h6⟩ := hr
  exact ⟨A, c, (hb.block g (heap_lt h1)).trans h1, h2, h3, h4.below hb, h5, h6⟩
 have hlt : g < w.heap.size := by obtain ⟨A, c, h1, _⟩ := hr; exact heap_lt h1
 have h0 : w.cell? ⟨g, 0, none⟩ = some (.bool true) := by
  obtain ⟨A, c, h1, _⟩ := hr
  rw [cell_of_row w g 0 _ _ _ h1]; rfl
 have HN := Lib.hid (code_textR _ g b rest hr1)
 rw [← hD] at HN
 have HB := Lib.hid hb
 clear hr hr1 hD hb
 cases D with
 | some p =>
   obtain ⟨v, r⟩ := p
   go_enter_defers Tryz.func99, Tryz.ntmps99
   go_wp2_with (go_at_call 100; refine HN.out.mono ?_; rintro e w2 ⟨rfl, hrr, hoo⟩; have HR := Lib.hid hrr; have HO := Lib.hid hoo; clear hrr hoo)
   refine leaves_cons (f := 119) (args := #[.pointer (some ⟨w.heap.size, 0, none⟩)]) (by simp) (by simp [go_sem]) ?_
   refine (idle_string _ _).mono ?_
   rintro e u' w'' ⟨rfl, rfl, rfl⟩
   exact ⟨_, results_tmp rfl _ _ _, rfl, HR.out, (Only.of_below HB.out).trans HO.out⟩
 | none =>
   go_enter_defers Tryz.func99, Tryz.ntmps99
   go_wp2_with (go_at_call 100; refine HN.out.mono ?_; rintro e w2 ⟨rfl, hoo, hrr⟩; have HR := Lib.hid hrr; have HO := Lib.hid hoo; clear hrr hoo)
   obtain ⟨b2, rest2, A2, c2, hh, _⟩ := HR.out
   have hpp : w2.cell? ⟨w.heap.size, 0, none⟩ = some (.pointer (some ⟨g, 0, none⟩)) := by
    have := (HO.out.block w.heap.size (by simp) (by omega)).trans (heap_alloc_new w (.cells #[.pointer (some ⟨g, 0, none⟩)] 64))
    rw [cell_of_row w2 _ 0 _ _ _ this]; rfl
   have g1 : w2.cell? ⟨g, 1, none⟩ = some (.bool b2) := by rw [cell_of_row w2 g 1 _ _ _ hh]; rfl
   have hh1 := heap_setCell_same w2 g 1 _ _ (.bool true) hh
   have g2 : (w2.setCell ⟨g, 1, none⟩ (.bool true)).cell? ⟨g, 2, none⟩ = some (.slice A2 rest2.length c2) := by rw [cell_of_row _ g 2 _ _ _ hh1]; rfl
   refine leaves_cons (f := 119) (args := #[.pointer (some ⟨w.heap.size, 0, none⟩)]) (by simp) (by simp [go_sem]) ?_
   refine (catch_string w.heap.size g _ _ w2 _ _ [] hpp g1 g2 (frozen_of_row w2 g 1 _ _ hh) (frozen_of_row w2 g 2 _ _ hh)).mono ?_
   rintro e u' w'' ⟨rfl, rfl, rfl⟩
   have HS := Lib.hid (spoilt ((Only.of_below HB.out).trans HO.out) HR.out)
   show Leaves _ _ _ _ [] .returning _
   exact ⟨_, results_tmp rfl _ _ _, rfl, HS.out⟩
end Go.Proofs.YtmjjenemokojjaaGreat

namespace Go.Proofs.YtmjjenemokojjaaGreat
open Go.RowKit
set_option maxRecDepth 100000

theorem code_isDay (n : Int) (w : World) : Calls Tryz.prog 30 #[.int .i64 n] w fun e w' => e = .returned (.bool (inB n 0 2932896)) ∧ w = w' := by
 go_enter Tryz.func30, Tryz.ntmps30
 go_wp2_with (go_at_call 29; refine (code_isFrom _ _ _ _).mono ?_; rintro e w2 ⟨rfl, rfl⟩)
 go_ret
 exact ⟨rfl, rfl⟩
/-- days of a stretch -/
def stretchB (d u : Int) : Bool := inB d 0 2932896 && (inB u 0 2932896 && decide (d ≤ u))
theorem code_isStretch (d u : Int) (w : World) : Calls Tryz.prog 50 #[.int .i64 d, .int .i64 u] w fun e w' => e = .returned (.bool (stretchB d u)) ∧ w = w' := by
 unfold stretchB
 cases h1 : inB d 0 2932896 <;> cases h2 : inB u 0 2932896
 all_goals
  go_enter Tryz.func50, Tryz.ntmps50
  go_wp2_with (go_at_call 30; refine (code_isDay _ _).mono ?_; rintro e w2 ⟨rfl, rfl⟩)
  go_ret
  exact ⟨by simp, rfl⟩
end Go.Proofs.YtmjjenemokojjaaGreat
