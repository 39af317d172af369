/- A reader as it is called: opened, read from, asked. Rows of lines of the call's own: an append behind a row that is full. A reader of any bytes: what it tells, and what it is then. -/
import Derived.Test.YtplghpamckdklaaGreatE14
import Derived.Test.YtplghpamckdklaaGreatE3
import Derived.Laws.OwnMore
import Derived.WalkMore
namespace Go.Proofs.YtplghpamckdklaaGreat
open Go.RowKit
set_option maxRecDepth 100000

theorem got_ret {w : World} {g : Nat} {b : Bool} {z : Value} {d : Option (Value × Text)} {e : Ending} {w' : World} (h : Got w g b z d e w') : ∃ v, e = .returned v := by
 cases d with
 | none => exact ⟨_, h.1⟩
 | some p => exact ⟨_, h.1⟩

theorem code_rnum (w : World) (g : Nat) (b : Bool) (rest : Text) (hr : Rdr w g b rest) :
 Calls Tryz.prog 73 #[.pointer (some ⟨g, 0, none⟩)] w (Got w g b (.int .i64 0) ((numP rest).map fun p => (.int .i64 p.1, p.2))) := by
 have hmf : ∀ (fn : Fn) (first cap : Array Value) (w : World), (Instr.makeFunc fn first cap).run Tryz.prog w = .ok (.func fn first cap) w := fun _ _ _ _ => rfl
 have HR := Lib.hid (read_int_any w g b rest hr)
 clear hr
 go_enter Tryz.func73, Tryz.ntmps73
 go_wp2_with (go_at_call 97; refine HR.out.mono ?_; intro e w1 hg; obtain ⟨v, rfl⟩ := got_ret hg; have HG := Lib.hid hg; clear hg)
 go_ret
 exact HG.out

theorem code_rtext (w : World) (g : Nat) (b : Bool) (rest : Text) (hr : Rdr w g b rest) :
 Calls Tryz.prog 74 #[.pointer (some ⟨g, 0, none⟩)] w (Got w g b (.string {data:=#[]}) ((textP rest).map fun p => (.string p.1, p.2))) := by
 have hmf : ∀ (fn : Fn) (first cap : Array Value) (w : World), (Instr.makeFunc fn first cap).run Tryz.prog w = .ok (.func fn first cap) w := fun _ _ _ _ => rfl
 have HR := Lib.hid (read_string_any w g b rest hr)
 clear hr
 go_enter Tryz.func74, Tryz.ntmps74
 go_wp2_with (go_at_call 99; refine HR.out.mono ?_; intro e w1 hg; obtain ⟨v, rfl⟩ := got_ret hg; have HG := Lib.hid hg; clear hg)
 go_ret
 exact HG.out

theorem code_rflag (w : World) (g : Nat) (b : Bool) (rest : Text) (hr : Rdr w g b rest) :
 Calls Tryz.prog 101 #[.pointer (some ⟨g, 0, none⟩)] w (Got w g b (.bool false) ((flagP rest).map fun p => (.bool p.1, p.2))) := by
 have hmf : ∀ (fn : Fn) (first cap : Array Value) (w : World), (Instr.makeFunc fn first cap).run Tryz.prog w = .ok (.func fn first cap) w := fun _ _ _ _ => rfl
 have HR := Lib.hid (read_bool_any w g b rest hr)
 clear hr
 go_enter Tryz.func101, Tryz.ntmps101
 go_wp2_with (go_at_call 120; refine HR.out.mono ?_; intro e w1 hg; obtain ⟨v, rfl⟩ := got_ret hg; have HG := Lib.hid hg; clear hg)
 go_ret
 exact HG.out

theorem code_done (w : World) (g : Nat) (b : Bool) (rest : Text) (hr : Rdr w g b rest) :
 Calls Tryz.prog 46 #[.pointer (some ⟨g, 0, none⟩)] w fun e w' => e = .returned (.int .i64 (if b = true ∨ rest ≠ [] then 10 else 0)) ∧ w = w' := by
 obtain ⟨A, c, hh, hc, _, _, _, _⟩ := hr
 have h0 := cell_of_row w g 0 _ _ _ hh
 have h1 := cell_of_row w g 1 _ _ _ hh
 have h2 := cell_of_row w g 2 _ _ _ hh
 simp only [List.getElem?_toArray, List.getElem?_cons_zero, List.getElem?_cons_succ] at h0 h1 h2
 clear hh
 go_enter Tryz.func46, Tryz.ntmps46
 cases b with
 | true =>
   go_wp2
   go_ret
   exact ⟨by simp, rfl⟩
 | false =>
   cases rest with
   | nil =>
     go_wp2
     go_ret
     exact ⟨by simp, rfl⟩
   | cons x l =>
     go_wp2
     all_goals first | (exfalso; simp at *; done) | skip
     go_ret
     exact ⟨by simp, rfl⟩

theorem own_full {w : World} {B : Nat} {v : Value} {l : Text} (h : w.ownsRow B 5 1 v l.length (l.map cellOf)) :
 ∃ A c, v = .slice A l.length c ∧ Txt w A l ∧ (A = none → l = []) ∧ l.length ≤ c ∧ c ≤ maxLen ∧ ∀ a, A = some a → a.block < w.heap.size := by
 rcases h.2 with ⟨rfl, h0⟩ | ⟨g, c, cur, rfl, _, hh, hc, hm, _⟩
 · have : l = [] := List.eq_nil_of_length_eq_zero h0
   subst this
   exact ⟨none, 0, rfl, Txt.none_, fun _ => rfl, Nat.le_refl _, Nat.zero_le _, by simp⟩
 · exact ⟨_, c, rfl, .of_own h, by simp, hc, hm, fun a ha => by injection ha with ha; rw [← ha]; exact heap_lt hh⟩

/-- a text told in a block of its own -/
def ToldO (w : World) (T : Text) (e : Ending) (w' : World) : Prop := ∃ A c, e = .returned (.slice A T.length c) ∧ Txt w' A T ∧ (A = none → T = []) ∧ T.length ≤ c ∧ c ≤ maxLen ∧ (∀ a, A = some a → a.block < w'.heap.size) ∧ Below w.heap.size w w'
set_option maxHeartbeats 1000000 in
theorem code_cloneO (T : Text) (A : Option Addr) (cap : Nat) (w : World) (hm : T.length ≤ 140737488351232) (hT : Txt w A T) (hA : A = none → T = []) :
 Calls Tryz.prog 69 #[.slice A T.length cap] w (ToldO w T) := by
 have hnil := fun (W : World) (A : Option Addr) => Lib.run_eql_slice_nil (P := Tryz.prog) W 36 5 A T.length cap 0 0 Tryz.underlying36
 cases A with
 | none =>
   have HA : Hid (T = []) := Lib.hid (hA rfl)
   clear hT hA
   go_enter Tryz.func69, Tryz.ntmps69
   go_wp2
   go_ret
   exact ⟨none, 0, by rw [HA.out]; rfl, by rw [HA.out]; exact Txt.none_, fun _ => HA.out, by rw [HA.out]; exact Nat.le_refl _, Nat.zero_le _, by simp, Below.refl _ _⟩
 | some a =>
   have HT := Lib.hid (hT.alloc (.cells #[] 5))
   have HO := Lib.hid (empty_own w)
   have HB0 := Lib.hid ((Below.refl w.heap.size w).alloc (Nat.le_refl _) (.cells #[] 5))
   clear hT hA
   go_enter Tryz.func69, Tryz.ntmps69
   go_wp2_with (refine wpList_append_own_text (o := ⟨some 7, _, _, _, _, _⟩) rfl _ _ rfl rfl w.heap.size w _ [] T T rfl HO.out (some a) cap rfl HT.out ?c0 ?c1 HB0.out ?c2 rfl ?_; (case c0 => simp); (case c1 => simp; omega); (case c2 => simp); intro v1 w1 hown1 hb1 hv1; obtain ⟨A1, c1, rfl, ht1, hn1, hc1, hm1, hl1⟩ := own_full hown1; have HT1 := Lib.hid ht1; have HN1 := Lib.hid hn1; have HB1 := Lib.hid hb1; have HX1 := Lib.hid (And.intro hc1 (And.intro hm1 hl1)); clear hown1 hb1 hv1 ht1 hn1 hc1 hm1 hl1)
   go_ret
   exact ⟨A1, c1, rfl, HT1.out, HN1.out, HX1.out.1, HX1.out.2.1, HX1.out.2.2, HB1.out⟩

theorem code_open (T : Text) (A : Option Addr) (cap : Nat) (w : World) (hm : T.length ≤ 140737488351232) (hT : Txt w A T) (hA : A = none → T = []) :
 Calls Tryz.prog 44 #[.slice A T.length cap] w fun e w' => ∃ g, w.heap.size ≤ g ∧ g < w'.heap.size ∧ e = .returned (.pointer (some ⟨g, 0, none⟩)) ∧ Rdr w' g false T ∧ Below w.heap.size w w' := by
 have HC := Lib.hid (code_cloneO T A cap w hm hT hA)
 clear hT hA
 go_enter Tryz.func44, Tryz.ntmps44
 go_wp2_with (go_at_call 69; refine HC.out.mono ?_; rintro e w1 ⟨A2, c2, rfl, ht2, hn2, hc2, hm2, hl2, hb2⟩; have HT2 := Lib.hid ht2; have HN2 := Lib.hid hn2; have HB2 := Lib.hid hb2; have HX2 := Lib.hid (And.intro hc2 (And.intro hm2 hl2)); clear ht2 hn2 hb2 hc2 hm2 hl2)
 go_ret
 refine ⟨w1.heap.size, HB2.out.size, by simp, rfl, ⟨A2, c2, heap_alloc_new w1 _, HX2.out.1, HX2.out.2.1, HT2.out.alloc _, HN2.out, fun a ha => ?_⟩, HB2.out.alloc HB2.out.size _⟩
 have := HX2.out.2.2 a ha
 omega
end Go.Proofs.YtplghpamckdklaaGreat

namespace Go.Proofs.YtplghpamckdklaaGreat
open Go.ChangeShapes Go.WideShapes Go.ChangeAt Go.RowKit Go.Joins Go.Deep
set_option maxRecDepth 100000
theorem factLineV : (Tryz.prog.info? 30).map (fun i => (i.zero, i.size, i.bytes)) = some (some (.agg #[.int .i64 0, .int .i64 0, .string ⟨#[]⟩, .string ⟨#[]⟩, .string ⟨#[]⟩, .int .i64 0, .bool false, .int .i64 0, .bool false]), 9, 96) := by kernel_rfl
/-- a row of the call's own -/
def OwnLineV (w : World) (base : Nat) (v : Value) (L : List LineV) : Prop := w.ownsRow base 30 9 v L.length (flatsLineV L)
theorem OwnLineV.on {w W : World} {B : Nat} {v : Value} {L : List LineV} (h : OwnLineV w B v L) (hb : Below w.heap.size w W) : OwnLineV W B v L :=
 World.ownsRow.kept (row := none) h ⟨hb.os, hb.tape, hb.output, hb.size, fun k hk _ => hb.block k hk⟩ (by
  rcases h.2 with ⟨rfl, _⟩ | ⟨g, c, cur, rfl, _⟩
  · exact .inl rfl
  · exact .inr (by simp [Value.ownBlock]))
theorem OwnLineV.less {w : World} {B B' : Nat} {v : Value} {L : List LineV} (h : OwnLineV w B v L) (hB : B' ≤ B) : OwnLineV w B' v L := by
 refine ⟨h.1, ?_⟩
 rcases h.2 with h | ⟨g, c, cur, h1, h2, h3⟩
 · exact .inl h
 · exact .inr ⟨g, c, cur, h1, Nat.le_trans hB h2, h3⟩
theorem OwnLineV.form {w : World} {B : Nat} {v : Value} {L : List LineV} (h : OwnLineV w B v L) : ∃ A c, v = .slice A L.length c ∧ RowLineV w A L ∧ (A = none → L = []) := by
 rcases h.2 with ⟨rfl, h0⟩ | ⟨g, c, cur, rfl, hB, hh, hc, hm, hcs, ht⟩
 · have : L = [] := List.eq_nil_of_length_eq_zero h0
   subst this
   exact ⟨none, 0, rfl, RowLineV.nil, fun _ => rfl⟩
 · refine ⟨_, c, rfl, fun hn => ⟨g, 0, rfl, heapLt hh, fun j v hv => ?_⟩, fun e => by cases e⟩
   have := World.ownsRow.cells (g := g) h rfl j v hv
   rwa [Addr.add_mid] at this
theorem RowLineV.range {w : World} {a : Addr} {L : List LineV} (hr : RowLineV w (some a) L) : ∀ j u, (flatsLineV L)[j]? = some u → w.cell? (a.add j) = some u := fun j u hu => by
 have hne : L ≠ [] := by
  intro e; subst e; simp [flatsLineV] at hu
 obtain ⟨b, o, e, _, hra⟩ := hr hne
 injection e with e
 subst e
 rw [Addr.add_mid]
 exact hra j u hu
/-- to a row that is full -/
theorem appendLineV_full (w : World) (A : Option Addr) (L M : List LineV) (hr : RowLineV w A L) (hA : A = none → L = []) (a : Addr) (c : Nat) (hm : RowLineV w (some a) M) (hM : M ≠ []) (hl : (L.length + M.length) * 96 ≤ 140737488355328) :
 ∃ v' w', (Builtin.append_ #[24, 24] 24 #[.slice A L.length L.length, .slice (some a) M.length c]).run Tryz.prog w = .ok v' w' ∧ OwnLineV w' w.heap.size v' (L ++ M) ∧ w.grownBy w' none := by
 obtain ⟨i0, hi, hz0, hz1, hz2⟩ := info_parts factLineV
 have hMl : 0 < M.length := List.length_pos_iff.2 hM
 have e : OwnLineV = fun w base v L => w.ownsRow base 30 9 v L.length (flatsLineV L) := rfl
 rw [e]
 simp only [flatsLineV_append, List.length_append]
 cases A with
 | none =>
   obtain rfl := hA rfl
   obtain ⟨v', w', h1, h2, h3, _⟩ := run_append_own (P := Tryz.prog) w w.heap.size 24 24 30 i0 _ 9 96 Tryz.underlying24 hi hz0 hz1 hz2 rfl (by decide) (.slice none 0 0) 0 [] (World.ownsRow_nil w _ _ 9) a M.length c (flatsLineV M) (by rw [flatsLineV_len]; omega) hm.range (flatsLineV_one M) (by unfold maxLen; omega) (by simpa using hl) (Nat.le_refl _)
   exact ⟨v', w', h1, h2, h3⟩
 | some b =>
   obtain ⟨v', w', h1, h2, h3⟩ := run_append_arg_grows (P := Tryz.prog) w 24 24 30 i0 _ 9 96 Tryz.underlying24 hi hz0 hz1 hz2 rfl (by decide) b L.length L.length (flatsLineV L) (by rw [flatsLineV_len]; omega) hr.range a M.length c (flatsLineV M) (by rw [flatsLineV_len]; omega) hm.range (by omega) (by unfold maxLen; omega) hl
   exact ⟨v', w', h1, h2, h3⟩
theorem wp_appendLineV_full (w : World) {o : Oper} {a : Act} {K : Act → World → Prop} {Q : Exit → Act → World → Prop} (s x : Operand)
 (ho : o.op = .call { callee := .builtin .append, args := #[s, x], argTypes := #[24, 24] }) (hty : o.type = 24) (A : Option Addr) (L : List LineV) (hs : a.eval s = .slice A L.length L.length) (hr : RowLineV w A L) (hA : A = none → L = [])
 (p : Addr) (n c : Nat) (M : List LineV) (hx : a.eval x = .slice (some p) n c) (hn : M.length = n) (hm : RowLineV w (some p) M) (hM : M ≠ []) (hl : (L.length + M.length) * 96 ≤ 140737488355328)
 (h : ∀ A' c' w', RowLineV w' A' (L ++ M) → Below w.heap.size w w' → K (a.put o.dst (.slice A' (L.length + n) c')) w') : o.wp Tryz.prog a w K Q := by
 subst hn
 obtain ⟨v', w', hrun, h2, h3⟩ := appendLineV_full w A L M hr hA p c hm hM hl
 obtain ⟨A', c', rfl, hr', _⟩ := h2.form
 rw [List.length_append] at hrun
 have hb : Below w.heap.size w w' := (Below.refl _ _).grown h3 (Nat.le_refl _) (by simp)
 unfold Oper.wp execOp
 simp only [ho, hty, resolve, invoke, builtin, Sem.run_bind, Sem.run_pure, Result.andThen_ok, List.map_toArray, List.map_cons, List.map_nil, hs, hx, hrun]
 exact h A' c' w' hr' hb
end Go.Proofs.YtplghpamckdklaaGreat

namespace Go.Proofs.YtplghpamckdklaaGreat
open Go.RowKit Go.ChangeShapes
set_option maxRecDepth 100000
set_option linter.unusedSimpArgs false
set_option linter.unusedVariables false

noncomputable def numV (s : Bool × Text) : Int := match numP s.2 with | some p => p.1 | none => 0
noncomputable def numS (s : Bool × Text) : Bool × Text := match numP s.2 with | some p => (s.1, p.2) | none => (true, [])
noncomputable def textV (s : Bool × Text) : ByteArray := match textP s.2 with | some p => p.1 | none => ⟨#[]⟩
noncomputable def textS (s : Bool × Text) : Bool × Text := match textP s.2 with | some p => (s.1, p.2) | none => (true, [])
noncomputable def flagV (s : Bool × Text) : Bool := match flagP s.2 with | some p => p.1 | none => false
noncomputable def flagS (s : Bool × Text) : Bool × Text := match flagP s.2 with | some p => (s.1, p.2) | none => (true, [])
/-- a reader at g, which was made ahead of the worlds that are looked at -/
def RS (w0 w : World) (g : Nat) (s : Bool × Text) : Prop := Rdr w g s.1 s.2 ∧ Only w0 w g ∧ g < w0.heap.size
theorem RS.start {w : World} {g : Nat} {s : Bool × Text} (h : Rdr w g s.1 s.2) : RS w w g s := by
 obtain ⟨A, c, hh, hr⟩ := h
 exact ⟨⟨A, c, hh, hr⟩, Only.refl _ _, heapLt hh⟩
theorem Rdr.on {w w1 : World} {g : Nat} {b : Bool} {T : Text} (h : Rdr w g b T) (hb : Below w.heap.size w w1) : Rdr w1 g b T := by
 obtain ⟨A, c, hh, h1, h2, h3, h4, h5⟩ := h
 exact ⟨A, c, heap_on hb hh, h1, h2, h3.below hb, h4, h5⟩
theorem RS.on {w0 w w1 : World} {g : Nat} {s : Bool × Text} (h : RS w0 w g s) (hb : Below w.heap.size w w1) : RS w0 w1 g s := ⟨h.1.on hb, h.2.1.trans (Only.of_below hb), h.2.2⟩
theorem RS.drew {w0 w : World} {g : Nat} {s : Bool × Text} (h : RS w0 w g s) : RS w0 w.drew g s := h.on ((Below.refl _ _).drew)
theorem RS.below {w0 w : World} {g : Nat} {s : Bool × Text} (h : RS w0 w g s) {B : Nat} (hB : B ≤ g) : Below B w0 w := h.2.1.below hB (Nat.le_of_lt (Nat.lt_of_le_of_lt hB h.2.2))
theorem RS.num {w0 w : World} {g : Nat} {s : Bool × Text} (h : RS w0 w g s) :
 Calls Tryz.prog 73 #[.pointer (some ⟨g, 0, none⟩)] w fun e w1 => e = .returned (.int .i64 (numV s)) ∧ RS w0 w1 g (numS s) ∧ Only w w1 g := by
 refine (code_rnum w g s.1 s.2 h.1).mono fun e w1 hg => ?_
 unfold Got at hg
 unfold numV numS
 cases hp : numP s.2 with
 | none => rw [hp] at hg; exact ⟨hg.1, ⟨hg.2.1, h.2.1.trans hg.2.2, h.2.2⟩, hg.2.2⟩
 | some p => rw [hp] at hg; exact ⟨hg.1, ⟨hg.2.1, h.2.1.trans hg.2.2, h.2.2⟩, hg.2.2⟩
theorem RS.text {w0 w : World} {g : Nat} {s : Bool × Text} (h : RS w0 w g s) :
 Calls Tryz.prog 74 #[.pointer (some ⟨g, 0, none⟩)] w fun e w1 => e = .returned (.string (textV s)) ∧ RS w0 w1 g (textS s) ∧ Only w w1 g := by
 refine (code_rtext w g s.1 s.2 h.1).mono fun e w1 hg => ?_
 unfold Got at hg
 unfold textV textS
 cases hp : textP s.2 with
 | none => rw [hp] at hg; exact ⟨hg.1, ⟨hg.2.1, h.2.1.trans hg.2.2, h.2.2⟩, hg.2.2⟩
 | some p => rw [hp] at hg; exact ⟨hg.1, ⟨hg.2.1, h.2.1.trans hg.2.2, h.2.2⟩, hg.2.2⟩
theorem RS.flag {w0 w : World} {g : Nat} {s : Bool × Text} (h : RS w0 w g s) :
 Calls Tryz.prog 101 #[.pointer (some ⟨g, 0, none⟩)] w fun e w1 => e = .returned (.bool (flagV s)) ∧ RS w0 w1 g (flagS s) ∧ Only w w1 g := by
 refine (code_rflag w g s.1 s.2 h.1).mono fun e w1 hg => ?_
 unfold Got at hg
 unfold flagV flagS
 cases hp : flagP s.2 with
 | none => rw [hp] at hg; exact ⟨hg.1, ⟨hg.2.1, h.2.1.trans hg.2.2, h.2.2⟩, hg.2.2⟩
 | some p => rw [hp] at hg; exact ⟨hg.1, ⟨hg.2.1, h.2.1.trans hg.2.2, h.2.2⟩, hg.2.2⟩
theorem appendLineV_own (w : World) (base : Nat) (v : Value) (L M : List LineV) (hown : OwnLineV w base v L) (a : Addr) (c : Nat) (hm : RowLineV w (some a) M) (hM : M ≠ []) (hl : (L.length + M.length) * 96 ≤ 140737488355328) (hb : base ≤ w.heap.size) :
 ∃ v' w', (Builtin.append_ #[24, 24] 24 #[v, .slice (some a) M.length c]).run Tryz.prog w = .ok v' w' ∧ OwnLineV w' base v' (L ++ M) ∧ w.grownBy w' v.ownBlock := by
 obtain ⟨i0, hi, hz0, hz1, hz2⟩ := info_parts factLineV
 have e : OwnLineV = fun w base v L => w.ownsRow base 30 9 v L.length (flatsLineV L) := rfl
 rw [e] at hown ⊢
 simp only [flatsLineV_append, List.length_append] at hown ⊢
 obtain ⟨v', w', h1, h2, h3, _⟩ := run_append_own (P := Tryz.prog) w base 24 24 30 i0 _ 9 96 Tryz.underlying24 hi hz0 hz1 hz2 rfl (by decide) v L.length (flatsLineV L) hown a M.length c (flatsLineV M) (by rw [flatsLineV_len]; omega) hm.range (flatsLineV_one M) (by unfold maxLen; omega) hl hb
 exact ⟨v', w', h1, h2, h3⟩
theorem OwnLineV.bounds {w : World} {B : Nat} {v : Value} {L : List LineV} (h : OwnLineV w B v L) : ∃ A c, v = .slice A L.length c ∧ RowLineV w A L ∧ (A = none → L = [] ∧ c = 0) ∧ L.length ≤ c ∧ c ≤ maxLen := by
 rcases h.2 with ⟨rfl, h0⟩ | ⟨g, c, cur, rfl, hB, hh, hc, hm, hcs, ht⟩
 · have : L = [] := List.eq_nil_of_length_eq_zero h0
   subst this
   exact ⟨none, 0, rfl, RowLineV.nil, fun _ => ⟨rfl, rfl⟩, Nat.le_refl _, Nat.zero_le _⟩
 · refine ⟨_, c, rfl, fun hn => ⟨g, 0, rfl, heapLt hh, fun j v hv => ?_⟩, (fun e => by cases e), hc, hm⟩
   have := World.ownsRow.cells (g := g) h rfl j v hv
   rwa [Addr.add_mid] at this
theorem OwnLineV.block {w : World} {B : Nat} {v : Value} {L : List LineV} (h : OwnLineV w B v L) : ∀ k, v.ownBlock = some k → B ≤ k ∧ k < w.heap.size := by
 intro k hk
 rcases h.2 with ⟨rfl, h0⟩ | ⟨g, c, cur, rfl, hB, hh, _⟩
 · cases hk
 · injection hk with hk
   subst hk
   exact ⟨hB, heapLt hh⟩
theorem OwnLineV.only {w w1 : World} {B g : Nat} {v : Value} {L : List LineV} (h : OwnLineV w B v L) (ho : Only w w1 g) (hg : g < B) : OwnLineV w1 B v L :=
 World.ownsRow.kept (row := some g) h ⟨ho.os, ho.tape, ho.output, ho.size, fun k hk hn => ho.block k hk (fun e => hn (by rw [e]))⟩ (by
  refine .inr fun e => ?_
  have := (h.block g e).1
  omega)
/-- a reader at g, and beside it a document's box at b, whose lines are the call's own -/
def docC (hd : ByteArray × Bool × Bool × ByteArray × Int × ByteArray × ByteArray × ByteArray) (v : Value) : Array Value := #[.string hd.1, .bool hd.2.1, .bool hd.2.2.1, .string hd.2.2.2.1, .int .i64 hd.2.2.2.2.1, .string hd.2.2.2.2.2.1, .string hd.2.2.2.2.2.2.1, .string hd.2.2.2.2.2.2.2, v]
structure RL (w0 w : World) (g : Nat) (s : Bool × Text) (b : Nat) (hd : ByteArray × Bool × Bool × ByteArray × Int × ByteArray × ByteArray × ByteArray) (L : List LineV) (v : Value) : Prop where
 rs : RS w0 w g s
 box : w.heap[b]? = some (.cells (docC hd v) 26 (0, 0))
 far : w0.heap.size ≤ b
 own : OwnLineV w w0.heap.size v L
 apart : v.ownBlock ≠ some b
theorem RL.on {w0 w w1 : World} {g b : Nat} {s hd L v} (h : RL w0 w g s b hd L v) (hb : Below w.heap.size w w1) : RL w0 w1 g s b hd L v :=
 ⟨h.rs.on hb, heap_on hb h.box, h.far, h.own.on hb, h.apart⟩
theorem RL.drew {w0 w : World} {g b : Nat} {s hd L v} (h : RL w0 w g s b hd L v) : RL w0 w.drew g s b hd L v := h.on ((Below.refl _ _).drew)
theorem RL.read {w0 w w1 : World} {g b : Nat} {s s1 hd L v} (h : RL w0 w g s b hd L v) (hr : RS w0 w1 g s1) (ho : Only w w1 g) : RL w0 w1 g s1 b hd L v :=
 ⟨hr, (ho.block b (heapLt h.box) (by have := h.rs.2.2; have := h.far; omega)).trans h.box, h.far, h.own.only ho h.rs.2.2, h.apart⟩
theorem RL.num {w0 w : World} {g b : Nat} {s hd L v} (h : RL w0 w g s b hd L v) :
 Calls Tryz.prog 73 #[.pointer (some ⟨g, 0, none⟩)] w fun e w1 => e = .returned (.int .i64 (numV s)) ∧ RL w0 w1 g (numS s) b hd L v :=
 h.rs.num.mono fun e w1 hg => ⟨hg.1, h.read hg.2.1 hg.2.2⟩
theorem RL.text {w0 w : World} {g b : Nat} {s hd L v} (h : RL w0 w g s b hd L v) :
 Calls Tryz.prog 74 #[.pointer (some ⟨g, 0, none⟩)] w fun e w1 => e = .returned (.string (textV s)) ∧ RL w0 w1 g (textS s) b hd L v :=
 h.rs.text.mono fun e w1 hg => ⟨hg.1, h.read hg.2.1 hg.2.2⟩
theorem RL.flag {w0 w : World} {g b : Nat} {s hd L v} (h : RL w0 w g s b hd L v) :
 Calls Tryz.prog 101 #[.pointer (some ⟨g, 0, none⟩)] w fun e w1 => e = .returned (.bool (flagV s)) ∧ RL w0 w1 g (flagS s) b hd L v :=
 h.rs.flag.mono fun e w1 hg => ⟨hg.1, h.read hg.2.1 hg.2.2⟩
/-- an append, and what it tells stored -/
theorem RL.app {w0 w w1 : World} {g b : Nat} {s hd L v v1} {M : List LineV} (h : RL w0 w g s b hd L v) (ho : OwnLineV w1 w0.heap.size v1 (L ++ M)) (hg : w.grownBy w1 v.ownBlock) (hl : v1.ownBlock ≠ some b) : RL w0 (w1.setCell ⟨b, 8, none⟩ v1) g s b hd (L ++ M) v1 := by
 have hbl := heapLt h.box
 have hgl := h.rs.2.2
 have hgb : g ≠ b := by have := h.far; omega
 have hfar := h.far
 have hng : ∀ k, k < w0.heap.size → some k ≠ v.ownBlock := fun k hk e => by
  have := (h.own.block k e.symm).1
  omega
 have hRd : Rdr w1 g s.1 s.2 := by
  obtain ⟨A, c, hh, h1, h2, h3, h4, h5⟩ := h.rs.1
  refine ⟨A, c, (hg.block g (heapLt hh) (hng g hgl)).trans hh, h1, h2, fun hn => ?_, h4, h5⟩
  obtain ⟨a, e, hb, hc⟩ := h3 hn
  have ha := h5 a e
  refine ⟨a, e, Nat.lt_of_lt_of_le hb hg.size, fun i hi => ?_⟩
  have hx : (a.add i).block = a.block := add_block a i
  rw [World.cell?_of_block (w := w) (by rw [hx]; exact hg.block _ hb (hng _ (Nat.lt_trans ha hgl)))]
  exact hc i hi
 have hO : Only w0 w1 g := ⟨hg.os.trans h.rs.2.1.os, hg.tape.trans h.rs.2.1.tape, hg.output.trans h.rs.2.1.output, Nat.le_trans h.rs.2.1.size hg.size, fun k hk hn => (hg.block k (Nat.lt_of_lt_of_le hk h.rs.2.1.size) (hng k hk)).trans (h.rs.2.1.block k hk hn)⟩
 have hBox : w1.heap[b]? = some (.cells (docC hd v) 26 (0, 0)) := (hg.block b hbl (fun e => h.apart e.symm)).trans h.box
 have hS : Only w1 (w1.setCell ⟨b, 8, none⟩ v1) b := Only.set w1 b 8 v1
 refine ⟨⟨?_, ⟨hS.os.trans hO.os, hS.tape.trans hO.tape, hS.output.trans hO.output, Nat.le_trans hO.size hS.size, fun k hk hn => (hS.block k (Nat.lt_of_lt_of_le hk hO.size) (by omega)).trans (hO.block k hk hn)⟩, hgl⟩, ?_, h.far, ?_, hl⟩
 · obtain ⟨A, c, hh, h1, h2, h3, h4, h5⟩ := hRd
   refine ⟨A, c, (hS.block g (heapLt hh) hgb).trans hh, h1, h2, h3.only hS (fun a e => ?_), h4, h5⟩
   have := h5 a e
   omega
 · rw [heap_setCell_same w1 b 8 _ _ v1 hBox]; rfl
 · exact World.ownsRow.kept (row := some b) ho ⟨hS.os, hS.tape, hS.output, hS.size, fun k hk hn => hS.block k hk (fun e => hn (by rw [e]))⟩ (.inr hl)
theorem wp_appendLineV_rl (w0 w : World) {g b : Nat} {s hd L} {v : Value} (hR : RL w0 w g s b hd L v) {o : Oper} {a : Act} {K : Act → World → Prop} {Q : Exit → Act → World → Prop} (s0 x : Operand)
 (ho : o.op = .call { callee := .builtin .append, args := #[s0, x], argTypes := #[24, 24] }) (hty : o.type = 24) (hs : a.eval s0 = v)
 (p : Addr) (n c : Nat) (M : List LineV) (hx : a.eval x = .slice (some p) n c) (hn : M.length = n) (hm : RowLineV w (some p) M) (hM : M ≠ []) (hl : (L.length + M.length) * 96 ≤ 140737488355328) (k : Nat) (hk : L.length = k)
 (h : ∀ A1 c1 w1, RL w0 (w1.setCell ⟨b, 8, none⟩ (.slice A1 ((k + n : Nat) : Nat) c1)) g s b hd (L ++ M) (.slice A1 ((k + n : Nat) : Nat) c1) → w1.heap[b]? = some (.cells (docC hd v) 26 (0, 0)) → K (a.put o.dst (.slice A1 ((k + n : Nat) : Nat) c1)) w1) : o.wp Tryz.prog a w K Q := by
 subst hn
 subst hk
 obtain ⟨v', w', hrun, h2, h3⟩ := appendLineV_own w w0.heap.size v L M hR.own p c hm hM hl (hR.rs.2.1.size)
 have hap : v'.ownBlock ≠ some b := by
  intro e
  rcases h2.2 with ⟨rfl, h0⟩ | ⟨g1, c1, cur, rfl, hB, hh, _⟩
  · cases e
  · injection e with e
    have hbx := (h3.block b (heapLt hR.box) (fun e => hR.apart e.symm)).trans hR.box
    have e2 : g1 = b := e
    subst e2
    rw [hbx] at hh
    injection hh with hh
    injection hh with _ ht _
    exact absurd ht (by decide)
 have hrl := hR.app h2 h3 hap
 obtain ⟨A1, c1, e1, _⟩ := h2.bounds
 rw [List.length_append] at e1
 subst e1
 have hK := h A1 c1 w' hrl ((h3.block b (heapLt hR.box) (fun e => hR.apart e.symm)).trans hR.box)
 unfold Oper.wp execOp
 simp only [ho, hty, resolve, invoke, builtin, Sem.run_bind, Sem.run_pure, Result.andThen_ok, List.map_toArray, List.map_cons, List.map_nil, hs, hx, hrun]
 exact hK
end Go.Proofs.YtplghpamckdklaaGreat
