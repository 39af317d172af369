/- Commands: what it is to be the same. Commands: fields that a kind names are what they may be: the program's. What reads, and catches what is raised: flag. A reader as it is called: opened, read from, asked. -/
import Derived.Test.YtmjjenemokojjaaGreatD7
import Derived.Test.YtmjjenemokojjaaGreatD9
import Derived.WalkMore
namespace Go.Proofs.YtmjjenemokojjaaGreat
open Go.RowKit
set_option maxRecDepth 100000
set_option linter.unusedSimpArgs false

/-- a command's document -/
def docOf (x : CmdV) : DocV := ⟨x.id, x.sale, x.credit, x.refers, x.day, x.country, x.number, x.currency, x.linesA, x.lines, x.linesC⟩
theorem DocVOk.on {w W : World} {d : DocV} (h : DocVOk w d) (hb : Below w.heap.size w W) : DocVOk W d := by
 obtain ⟨h1, h2, h3, h4, h5, hr, h6⟩ := h
 exact ⟨h1, h2, h3, h4, h5, hr.on hb, h6⟩
theorem docOf_ok {w : World} {x : CmdV} (h : CmdVOk w x) : DocVOk w (docOf x) := by
 obtain ⟨_, _, h⟩ := h
 exact h
def sameC (x y : CmdV) : Bool := (x.kind == y.kind) && ((x.state.toList == y.state.toList) && ((x.text.toList == y.text.toList) && ((x.category == y.category) && ((x.bp == y.bp) && ((x.from_ == y.from_) && ((x.until_ == y.until_) && ((x.num == y.num) && ((x.den == y.den) && ((x.index == y.index) && ((x.pk == y.pk) && ((x.py == y.py) && ((x.pi == y.pi) && sameD (docOf x) (docOf y)))))))))))))
end Go.Proofs.YtmjjenemokojjaaGreat

namespace Go.Proofs.YtmjjenemokojjaaGreat
open Go.RowKit
set_option maxRecDepth 100000
set_option linter.unusedSimpArgs false
set_option linter.unusedVariables false

theorem cells22 {W : World} {g : Nat} {v0 v1 v2 v3 v4 v5 v6 v7 v8 v9 v10 v11 v12 v13 v14 v15 v16 v17 v18 v19 v20 v21 : Value} {t : TypeId} (h : W.heap[g]? = some (.cells #[v0, v1, v2, v3, v4, v5, v6, v7, v8, v9, v10, v11, v12, v13, v14, v15, v16, v17, v18, v19, v20, v21] t (0, 0))) : W.cell? ⟨g, 0, none⟩ = some v0 ∧ W.cell? ⟨g, 1, none⟩ = some v1 ∧ W.cell? ⟨g, 2, none⟩ = some v2 ∧ W.cell? ⟨g, 3, none⟩ = some v3 ∧ W.cell? ⟨g, 4, none⟩ = some v4 ∧ W.cell? ⟨g, 5, none⟩ = some v5 ∧ W.cell? ⟨g, 6, none⟩ = some v6 ∧ W.cell? ⟨g, 7, none⟩ = some v7 ∧ W.cell? ⟨g, 8, none⟩ = some v8 ∧ W.cell? ⟨g, 9, none⟩ = some v9 ∧ W.cell? ⟨g, 10, none⟩ = some v10 ∧ W.cell? ⟨g, 11, none⟩ = some v11 ∧ W.cell? ⟨g, 12, none⟩ = some v12 ∧ W.cell? ⟨g, 13, none⟩ = some v13 ∧ W.cell? ⟨g, 14, none⟩ = some v14 ∧ W.cell? ⟨g, 15, none⟩ = some v15 ∧ W.cell? ⟨g, 16, none⟩ = some v16 ∧ W.cell? ⟨g, 17, none⟩ = some v17 ∧ W.cell? ⟨g, 18, none⟩ = some v18 ∧ W.cell? ⟨g, 19, none⟩ = some v19 ∧ W.cell? ⟨g, 20, none⟩ = some v20 ∧ W.cell? ⟨g, 21, none⟩ = some v21 :=
 ⟨cell_of_row W g 0 _ _ _ h, cell_of_row W g 1 _ _ _ h, cell_of_row W g 2 _ _ _ h, cell_of_row W g 3 _ _ _ h, cell_of_row W g 4 _ _ _ h, cell_of_row W g 5 _ _ _ h, cell_of_row W g 6 _ _ _ h, cell_of_row W g 7 _ _ _ h, cell_of_row W g 8 _ _ _ h, cell_of_row W g 9 _ _ _ h, cell_of_row W g 10 _ _ _ h, cell_of_row W g 11 _ _ _ h, cell_of_row W g 12 _ _ _ h, cell_of_row W g 13 _ _ _ h, cell_of_row W g 14 _ _ _ h, cell_of_row W g 15 _ _ _ h, cell_of_row W g 16 _ _ _ h, cell_of_row W g 17 _ _ _ h, cell_of_row W g 18 _ _ _ h, cell_of_row W g 19 _ _ _ h, cell_of_row W g 20 _ _ _ h, cell_of_row W g 21 _ _ _ h⟩
def perB (kind k y i : Int) : Bool := (k == kind) && Civ.good k y i
set_option maxHeartbeats 1000000 in
theorem code_isPeriod (k y i kind : Int) (w : World) : Calls Tryz.prog 51 #[.agg #[.int .i64 k, .int .i64 y, .int .i64 i], .int .i64 kind] w fun e w1 => e = .returned (.bool (perB kind k y i)) ∧ Below w.heap.size w w1 := by
 unfold perB
 cases hk : (k == kind)
 · go_enter Tryz.func51, Tryz.ntmps51
   go_wp2
   go_ret
   exact ⟨rfl, below_alloc _ _⟩
 · go_enter Tryz.func51, Tryz.ntmps51
   go_wp2_with (go_at_call 81; refine (Civs.code_good _ _ _ _).mono ?_; rintro e w2 ⟨rfl, hb⟩; have HB := Lib.hid (below_then (below_alloc w _) hb); clear hb)
   go_ret
   exact ⟨by simp, HB.out⟩
set_option maxHeartbeats 4000000 in
theorem areGood_11 (x : CmdV) (w : World) (hk : x.kind = 11) : Calls Tryz.prog 20 #[.agg #[.int .i64 x.kind, .string x.state, .string x.text, .int .i64 x.category, .int .i64 x.bp, .int .i64 x.from_, .int .i64 x.until_, .int .i64 x.num, .int .i64 x.den, .int .i64 x.index, .int .i64 x.pk, .int .i64 x.py, .int .i64 x.pi, .string x.id, .bool x.sale, .bool x.credit, .string x.refers, .int .i64 x.day, .string x.country, .string x.number, .string x.currency, .slice x.linesA x.lines.length x.linesC]] w fun e w1 => e = .returned (.bool (perB 3 x.pk x.py x.pi)) ∧ Below w.heap.size w w1 := by
 go_enter Tryz.func20, Tryz.ntmps20
 go_wp2_with (go_at_call 51; refine (code_isPeriod _ _ _ _ _).mono ?_; rintro e w2 ⟨rfl, hb⟩; have HB := Lib.hid (below_then (below_alloc w _) hb); clear hb)
 go_ret
 exact ⟨rfl, HB.out⟩
set_option maxHeartbeats 4000000 in
theorem areGood_8 (x : CmdV) (g : Bool) (w : World) (hk : x.kind = 8) (HG : Hid (∀ W, Below w.heap.size w W → Calls Tryz.prog 10 #[.agg #[.string x.id, .bool x.sale, .bool x.credit, .string x.refers, .int .i64 x.day, .string x.country, .string x.number, .string x.currency, .slice x.linesA x.lines.length x.linesC]] W fun e w1 => e = .returned (.bool g) ∧ Below W.heap.size W w1)) : Calls Tryz.prog 20 #[.agg #[.int .i64 x.kind, .string x.state, .string x.text, .int .i64 x.category, .int .i64 x.bp, .int .i64 x.from_, .int .i64 x.until_, .int .i64 x.num, .int .i64 x.den, .int .i64 x.index, .int .i64 x.pk, .int .i64 x.py, .int .i64 x.pi, .string x.id, .bool x.sale, .bool x.credit, .string x.refers, .int .i64 x.day, .string x.country, .string x.number, .string x.currency, .slice x.linesA x.lines.length x.linesC]] w fun e w1 => e = .returned (.bool g) ∧ Below w.heap.size w w1 := by
 go_enter Tryz.func20, Tryz.ntmps20
 go_wp2_with (go_at_call 10; refine (HG.out _ (below_alloc _ _)).mono ?_; rintro e w2 ⟨rfl, hb⟩; have HB := Lib.hid (below_then (below_alloc w _) hb); clear hb)
 go_ret
 exact ⟨rfl, HB.out⟩
end Go.Proofs.YtmjjenemokojjaaGreat

namespace Go.Proofs.YtmjjenemokojjaaGreat
open Go.RowKit
set_option maxRecDepth 100000

theorem catch_bool (p : Nat) (g : Nat) (b x : Value) (w : World) (u : TypeId) (pv : Value) (older : List PanicEntry) (hp : w.cell? ⟨p, 0, none⟩ = some (.pointer (some ⟨g, 0, none⟩)))
 (h1 : w.cell? ⟨g, 1, none⟩ = some b) (h2 : (w.setCell ⟨g, 1, none⟩ (.bool true)).cell? ⟨g, 2, none⟩ = some x) (f1 : w.frozen? ⟨g, 1, none⟩ = false) (f2 : w.frozen? ⟨g, 2, none⟩ = false) :
 CallsD Tryz.prog 127 #[.pointer (some ⟨p, 0, none⟩)] (.panicking ({ v := .iface u pv, recovered := false } :: older)) w fun e u' w' =>
  e = .returned (.tuple #[]) ∧ u' = .panicking ({ v := .iface u pv, recovered := true } :: older) ∧ w' = (w.setCell ⟨g, 1, none⟩ (.bool true)).setCell ⟨g, 2, none⟩ (.slice none 0 0) := by
 refine callsD_of_wpS Tryz.func127 rfl fun c₀ cs hu => ?_
 apply wpS_seq
 apply wpS_region
 simp [wpOpsS, go_sem, recoverD, hu, Tryz.ntmps127, Exit.thenS]
 refine wpS_cond (t := true) (by simp [Act.eval, Array.replicate]) ?_
 simp only [if_true]
 refine wpS_of_wp ?_
 cases c₀
 go_wp2
 simp [bodyPostS, results, Tryz.results127]

theorem idle_bool (p : Nat) (w : World) :
 CallsD Tryz.prog 127 #[.pointer (some ⟨p, 0, none⟩)] .returning w fun e u' w' => e = .returned (.tuple #[]) ∧ u' = .returning ∧ w' = w := by
 refine callsD_of_wpS Tryz.func127 rfl fun c₀ cs hu => ?_
 apply wpS_seq
 apply wpS_region
 simp [wpOpsS, go_sem, recoverD, hu, Tryz.ntmps127, Exit.thenS]
 refine wpS_cond (t := false) (by simp [Act.eval, Array.replicate]) ?_
 simp only [Bool.false_eq_true, if_false]
 refine wpS_of_wp (wp_skip ?_)
 cases c₀
 simp_all [bodyPostS, results, Tryz.results127]

set_option maxHeartbeats 2000000 in
theorem read_bool_any (w : World) (g : Nat) (b : Bool) (rest : Text) (hr : Rdr w g b rest) :
 Calls Tryz.prog 120 #[.pointer (some ⟨g, 0, none⟩), .func (Fn.func 121) #[.pointer (some ⟨g, 0, none⟩)] #[]] w (Got w g b (.bool false) ((flagP rest).map fun p => (.bool p.1, p.2))) := by
 have hmf : ∀ (fn : Fn) (first cap : Array Value) (w : World), (Instr.makeFunc fn first cap).run Tryz.prog w = .ok (.func fn first cap) w := fun _ _ _ _ => rfl
 obtain ⟨D, hD⟩ : ∃ D, D = (flagP rest).map fun p => (Value.bool p.1, p.2) := ⟨_, rfl⟩
 rw [← hD]
 have hb : Below w.heap.size w (w.alloc (.cells #[.pointer (some ⟨g, 0, none⟩)] 64)) := (Below.refl _ _).alloc (Nat.le_refl _) _
 have hr1 : Rdr (w.alloc (.cells #[.pointer (some ⟨g, 0, none⟩)] 64)) g b rest := by
  obtain ⟨A, c, h1, h2, h3, h4, h5, h6⟩ := hr
  exact ⟨A, c, (hb.block g (heap_lt h1)).trans h1, h2, h3, h4.below hb, h5, h6⟩
 have hlt : g < w.heap.size := by obtain ⟨A, c, h1, _⟩ := hr; exact heap_lt h1
 have h0 : w.cell? ⟨g, 0, none⟩ = some (.bool true) := by
  obtain ⟨A, c, h1, _⟩ := hr
  rw [cell_of_row w g 0 _ _ _ h1]; rfl
 have HN := Lib.hid (code_flagR _ g b rest hr1)
 rw [← hD] at HN
 have HB := Lib.hid hb
 clear hr hr1 hD hb
 cases D with
 | some p =>
   obtain ⟨v, r⟩ := p
   go_enter_defers Tryz.func120, Tryz.ntmps120
   go_wp2_with (go_at_call 121; refine HN.out.mono ?_; rintro e w2 ⟨rfl, hrr, hoo⟩; have HR := Lib.hid hrr; have HO := Lib.hid hoo; clear hrr hoo)
   refine leaves_cons (f := 127) (args := #[.pointer (some ⟨w.heap.size, 0, none⟩)]) (by simp) (by simp [go_sem]) ?_
   refine (idle_bool _ _).mono ?_
   rintro e u' w'' ⟨rfl, rfl, rfl⟩
   exact ⟨_, results_tmp rfl _ _ _, rfl, HR.out, (Only.of_below HB.out).trans HO.out⟩
 | none =>
   go_enter_defers Tryz.func120, Tryz.ntmps120
   go_wp2_with (go_at_call 121; refine HN.out.mono ?_; rintro e w2 ⟨rfl, hoo, hrr⟩; have HR := Lib.hid hrr; have HO := Lib.hid hoo; clear hrr hoo)
   obtain ⟨b2, rest2, A2, c2, hh, _⟩ := HR.out
   have hpp : w2.cell? ⟨w.heap.size, 0, none⟩ = some (.pointer (some ⟨g, 0, none⟩)) := by
    have := (HO.out.block w.heap.size (by simp) (by omega)).trans (heap_alloc_new w (.cells #[.pointer (some ⟨g, 0, none⟩)] 64))
    rw [cell_of_row w2 _ 0 _ _ _ this]; rfl
   have g1 : w2.cell? ⟨g, 1, none⟩ = some (.bool b2) := by rw [cell_of_row w2 g 1 _ _ _ hh]; rfl
   have hh1 := heap_setCell_same w2 g 1 _ _ (.bool true) hh
   have g2 : (w2.setCell ⟨g, 1, none⟩ (.bool true)).cell? ⟨g, 2, none⟩ = some (.slice A2 rest2.length c2) := by rw [cell_of_row _ g 2 _ _ _ hh1]; rfl
   refine leaves_cons (f := 127) (args := #[.pointer (some ⟨w.heap.size, 0, none⟩)]) (by simp) (by simp [go_sem]) ?_
   refine (catch_bool w.heap.size g _ _ w2 _ _ [] hpp g1 g2 (frozen_of_row w2 g 1 _ _ hh) (frozen_of_row w2 g 2 _ _ hh)).mono ?_
   rintro e u' w'' ⟨rfl, rfl, rfl⟩
   have HS := Lib.hid (spoilt ((Only.of_below HB.out).trans HO.out) HR.out)
   show Leaves _ _ _ _ [] .returning _
   exact ⟨_, results_tmp rfl _ _ _, rfl, HS.out⟩
end Go.Proofs.YtmjjenemokojjaaGreat

namespace Go.Proofs.YtmjjenemokojjaaGreat
open Go.RowKit
set_option maxRecDepth 100000

theorem got_ret {w : World} {g : Nat} {b : Bool} {z : Value} {d : Option (Value × Text)} {e : Ending} {w' : World} (h : Got w g b z d e w') : ∃ v, e = .returned v := by
 cases d with
 | none => exact ⟨_, h.1⟩
 | some p => exact ⟨_, h.1⟩

theorem code_rnum (w : World) (g : Nat) (b : Bool) (rest : Text) (hr : Rdr w g b rest) :
 Calls Tryz.prog 73 #[.pointer (some ⟨g, 0, none⟩)] w (Got w g b (.int .i64 0) ((numP rest).map fun p => (.int .i64 p.1, p.2))) := by
 have hmf : ∀ (fn : Fn) (first cap : Array Value) (w : World), (Instr.makeFunc fn first cap).run Tryz.prog w = .ok (.func fn first cap) w := fun _ _ _ _ => rfl
 have HR := Lib.hid (read_int_any w g b rest hr)
 clear hr
 go_enter Tryz.func73, Tryz.ntmps73
 go_wp2_with (go_at_call 97; refine HR.out.mono ?_; intro e w1 hg; obtain ⟨v, rfl⟩ := got_ret hg; have HG := Lib.hid hg; clear hg)
 go_ret
 exact HG.out

theorem code_rtext (w : World) (g : Nat) (b : Bool) (rest : Text) (hr : Rdr w g b rest) :
 Calls Tryz.prog 74 #[.pointer (some ⟨g, 0, none⟩)] w (Got w g b (.string {data:=#[]}) ((textP rest).map fun p => (.string p.1, p.2))) := by
 have hmf : ∀ (fn : Fn) (first cap : Array Value) (w : World), (Instr.makeFunc fn first cap).run Tryz.prog w = .ok (.func fn first cap) w := fun _ _ _ _ => rfl
 have HR := Lib.hid (read_string_any w g b rest hr)
 clear hr
 go_enter Tryz.func74, Tryz.ntmps74
 go_wp2_with (go_at_call 99; refine HR.out.mono ?_; intro e w1 hg; obtain ⟨v, rfl⟩ := got_ret hg; have HG := Lib.hid hg; clear hg)
 go_ret
 exact HG.out

theorem code_rflag (w : World) (g : Nat) (b : Bool) (rest : Text) (hr : Rdr w g b rest) :
 Calls Tryz.prog 101 #[.pointer (some ⟨g, 0, none⟩)] w (Got w g b (.bool false) ((flagP rest).map fun p => (.bool p.1, p.2))) := by
 have hmf : ∀ (fn : Fn) (first cap : Array Value) (w : World), (Instr.makeFunc fn first cap).run Tryz.prog w = .ok (.func fn first cap) w := fun _ _ _ _ => rfl
 have HR := Lib.hid (read_bool_any w g b rest hr)
 clear hr
 go_enter Tryz.func101, Tryz.ntmps101
 go_wp2_with (go_at_call 120; refine HR.out.mono ?_; intro e w1 hg; obtain ⟨v, rfl⟩ := got_ret hg; have HG := Lib.hid hg; clear hg)
 go_ret
 exact HG.out

theorem code_done (w : World) (g : Nat) (b : Bool) (rest : Text) (hr : Rdr w g b rest) :
 Calls Tryz.prog 46 #[.pointer (some ⟨g, 0, none⟩)] w fun e w' => e = .returned (.int .i64 (if b = true ∨ rest ≠ [] then 10 else 0)) ∧ w = w' := by
 obtain ⟨A, c, hh, hc, _, _, _, _⟩ := hr
 have h0 := cell_of_row w g 0 _ _ _ hh
 have h1 := cell_of_row w g 1 _ _ _ hh
 have h2 := cell_of_row w g 2 _ _ _ hh
 simp only [List.getElem?_toArray, List.getElem?_cons_zero, List.getElem?_cons_succ] at h0 h1 h2
 clear hh
 go_enter Tryz.func46, Tryz.ntmps46
 cases b with
 | true =>
   go_wp2
   go_ret
   exact ⟨by simp, rfl⟩
 | false =>
   cases rest with
   | nil =>
     go_wp2
     go_ret
     exact ⟨by simp, rfl⟩
   | cons x l =>
     go_wp2
     all_goals first | (exfalso; simp at *; done) | skip
     go_ret
     exact ⟨by simp, rfl⟩

theorem own_full {w : World} {B : Nat} {v : Value} {l : Text} (h : w.ownsRow B 5 1 v l.length (l.map cellOf)) :
 ∃ A c, v = .slice A l.length c ∧ Txt w A l ∧ (A = none → l = []) ∧ l.length ≤ c ∧ c ≤ maxLen ∧ ∀ a, A = some a → a.block < w.heap.size := by
 rcases h.2 with ⟨rfl, h0⟩ | ⟨g, c, cur, rfl, _, hh, hc, hm, _⟩
 · have : l = [] := List.eq_nil_of_length_eq_zero h0
   subst this
   exact ⟨none, 0, rfl, Txt.none_, fun _ => rfl, Nat.le_refl _, Nat.zero_le _, by simp⟩
 · exact ⟨_, c, rfl, .of_own h, by simp, hc, hm, fun a ha => by injection ha with ha; rw [← ha]; exact heap_lt hh⟩

/-- a text told in a block of its own -/
def ToldO (w : World) (T : Text) (e : Ending) (w' : World) : Prop := ∃ A c, e = .returned (.slice A T.length c) ∧ Txt w' A T ∧ (A = none → T = []) ∧ T.length ≤ c ∧ c ≤ maxLen ∧ (∀ a, A = some a → a.block < w'.heap.size) ∧ Below w.heap.size w w'
set_option maxHeartbeats 1000000 in
theorem code_cloneO (T : Text) (A : Option Addr) (cap : Nat) (w : World) (hm : T.length ≤ 140737488351232) (hT : Txt w A T) (hA : A = none → T = []) :
 Calls Tryz.prog 69 #[.slice A T.length cap] w (ToldO w T) := by
 have hnil := fun (W : World) (A : Option Addr) => Lib.run_eql_slice_nil (P := Tryz.prog) W 36 5 A T.length cap 0 0 Tryz.underlying36
 cases A with
 | none =>
   have HA : Hid (T = []) := Lib.hid (hA rfl)
   clear hT hA
   go_enter Tryz.func69, Tryz.ntmps69
   go_wp2
   go_ret
   exact ⟨none, 0, by rw [HA.out]; rfl, by rw [HA.out]; exact Txt.none_, fun _ => HA.out, by rw [HA.out]; exact Nat.le_refl _, Nat.zero_le _, by simp, Below.refl _ _⟩
 | some a =>
   have HT := Lib.hid (hT.alloc (.cells #[] 5))
   have HO := Lib.hid (empty_own w)
   have HB0 := Lib.hid ((Below.refl w.heap.size w).alloc (Nat.le_refl _) (.cells #[] 5))
   clear hT hA
   go_enter Tryz.func69, Tryz.ntmps69
   go_wp2_with (refine wpList_append_own_text (o := ⟨some 7, _, _, _, _, _⟩) rfl _ _ rfl rfl w.heap.size w _ [] T T rfl HO.out (some a) cap rfl HT.out ?c0 ?c1 HB0.out ?c2 rfl ?_; (case c0 => simp); (case c1 => simp; omega); (case c2 => simp); intro v1 w1 hown1 hb1 hv1; obtain ⟨A1, c1, rfl, ht1, hn1, hc1, hm1, hl1⟩ := own_full hown1; have HT1 := Lib.hid ht1; have HN1 := Lib.hid hn1; have HB1 := Lib.hid hb1; have HX1 := Lib.hid (And.intro hc1 (And.intro hm1 hl1)); clear hown1 hb1 hv1 ht1 hn1 hc1 hm1 hl1)
   go_ret
   exact ⟨A1, c1, rfl, HT1.out, HN1.out, HX1.out.1, HX1.out.2.1, HX1.out.2.2, HB1.out⟩

theorem code_open (T : Text) (A : Option Addr) (cap : Nat) (w : World) (hm : T.length ≤ 140737488351232) (hT : Txt w A T) (hA : A = none → T = []) :
 Calls Tryz.prog 44 #[.slice A T.length cap] w fun e w' => ∃ g, w.heap.size ≤ g ∧ g < w'.heap.size ∧ e = .returned (.pointer (some ⟨g, 0, none⟩)) ∧ Rdr w' g false T ∧ Below w.heap.size w w' := by
 have HC := Lib.hid (code_cloneO T A cap w hm hT hA)
 clear hT hA
 go_enter Tryz.func44, Tryz.ntmps44
 go_wp2_with (go_at_call 69; refine HC.out.mono ?_; rintro e w1 ⟨A2, c2, rfl, ht2, hn2, hc2, hm2, hl2, hb2⟩; have HT2 := Lib.hid ht2; have HN2 := Lib.hid hn2; have HB2 := Lib.hid hb2; have HX2 := Lib.hid (And.intro hc2 (And.intro hm2 hl2)); clear ht2 hn2 hb2 hc2 hm2 hl2)
 go_ret
 refine ⟨w1.heap.size, HB2.out.size, by simp, rfl, ⟨A2, c2, heap_alloc_new w1 _, HX2.out.1, HX2.out.2.1, HT2.out.alloc _, HN2.out, fun a ha => ?_⟩, HB2.out.alloc HB2.out.size _⟩
 have := HX2.out.2.2 a ha
 omega
end Go.Proofs.YtmjjenemokojjaaGreat
