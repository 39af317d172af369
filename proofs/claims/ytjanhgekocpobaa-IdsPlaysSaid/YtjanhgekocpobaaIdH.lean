/- Documents that are there: lines and documents of one's own. Documents that are there: the credits that refer to each. -/
import Derived.Test.YtjanhgekocpobaaIdF
import Derived.Lib.Walk
import Derived.Maps.AppendAt
namespace Go.Proofs.Ytjanhgekocpobaa
open Go.RowKit
set_option maxRecDepth 100000
set_option linter.unusedSimpArgs false
set_option linter.unusedVariables false
attribute [local go_sem] Oper.semAt_some

theorem lineFact : (Try.prog.info? 60).map (fun i => (i.zero, i.size, i.bytes)) = some (some (.agg #[.int .i64 0, .int .i64 0, .string ⟨#[]⟩, .string ⟨#[]⟩, .string ⟨#[]⟩, .int .i64 0, .bool false, .int .i64 0, .bool false]), 9, 96) := by kernel_rfl
/-- a row of the call's own -/
def OwnL (w : World) (base : Nat) (v : Value) (L : List LineV) : Prop := w.ownsRow base 60 9 v L.length (flatsLineV L)
theorem OwnL.on {w W : World} {B : Nat} {v : Value} {L : List LineV} (h : OwnL w B v L) (hb : Below w.heap.size w W) : OwnL W B v L :=
  World.ownsRow.kept (row := none) h ⟨hb.os, hb.tape, hb.output, hb.size, fun k hk _ => hb.block k hk⟩ (by
    rcases h.2 with ⟨rfl, _⟩ | ⟨g, c, cur, rfl, _⟩
    · exact .inl rfl
    · exact .inr (by simp [Value.ownBlock]))
theorem OwnL.form {w : World} {B : Nat} {v : Value} {L : List LineV} (h : OwnL w B v L) : ∃ A c, v = .slice A L.length c ∧ RowLineV w A L ∧ L.length ≤ c ∧ c ≤ maxLen ∧ (A = none → L = [] ∧ c = 0) ∧ (A = none ∨ ∃ g, A = some ⟨g, 0, none⟩ ∧ B ≤ g ∧ ∃ cur, w.heap[g]? = some (.cells cur 60 (0, 0))) := by
  rcases h.2 with ⟨rfl, h0⟩ | ⟨g, c, cur, rfl, hB, hh, hc, hm, hcs, ht⟩
  · have : L = [] := List.eq_nil_of_length_eq_zero h0
    subst this
    exact ⟨none, 0, rfl, RowLineV.nil, Nat.le_refl _, Nat.zero_le _, fun _ => ⟨rfl, rfl⟩, .inl rfl⟩
  · refine ⟨_, c, rfl, fun hn => ⟨g, 0, rfl, heapLt hh, fun j v hv => ?_⟩, hc, hm, (fun e => by cases e), .inr ⟨g, rfl, hB, cur, hh⟩⟩
    have := World.ownsRow.cells (g := g) h rfl j v hv
    rwa [Addr.add_mid] at this
set_option maxHeartbeats 1000000 in
theorem code_clone (A : Option Addr) (c : Nat) (L : List LineV) (w : World) (hr : RowLineV w A L) (hn : A = none → L = [] ∧ c = 0) (hl : L.length ≤ 1000) : Calls Try.prog 44 #[.slice A L.length c] w fun e w' => ∃ v, e = .returned v ∧ OwnL w' w.heap.size v L ∧ Below w.heap.size w w' := by
  obtain ⟨i0, hi, hz0, hz1, hz2⟩ := info_parts lineFact
  have hq : ∀ (w : World) (a : Option Addr) (n c n' c' : Nat), (binOp .eql 27 (.slice a n c) (.slice none n' c')).run Try.prog w = .ok (.bool a.isNone) w := fun w a n c n' c' => Lib.run_eql_slice_nil w _ _ a n c n' c' Try.underlying27
  cases A with
  | none =>
    obtain ⟨rfl, rfl⟩ := hn rfl
    clear hr hn hl
    go_enter Try.func44, Try.ntmps44
    go_wp2
    go_ret
    exact ⟨_, rfl, World.ownsRow_nil _ _ _ _, Below.refl _ _⟩
  | some a =>
    have hnews : ∀ j u, (flatsLineV L)[j]? = some u → w.cell? (a.add j) = some u := fun j u hu => by
      have hne : L ≠ [] := by
        intro e; subst e; simp [flatsLineV] at hu
      obtain ⟨b, o, e, _, hra⟩ := hr hne
      injection e with e
      subst e
      rw [Addr.add_mid]
      exact hra j u hu
    have HN : Hid (∀ X, ∀ j u, (flatsLineV L)[j]? = some u → (w.alloc X).cell? (a.add j) = some u) := Lib.hid (fun X j u hu => cell_on (below_alloc _ _) (hnews j u hu))
    have HO := Lib.hid (World.ownsRow_lit w (e := 60) (base := w.heap.size) (size := 9) #[] 0 (Nat.le_refl _) (by unfold maxLen; omega) rfl)
    have HL := Lib.hid (And.intro hl (And.intro (flatsLineV_len L) (flatsLineV_one L)))
    clear hr hn hnews hl
    go_enter Try.func44, Try.ntmps44
    go_wp2_with (at_builtin; refine wpList_append_own _ rfl _ _ 27 rfl w.heap.size 60 i0 _ 9 96 Try.underlying27 hi hz0 hz1 hz2 rfl (by decide) _ 0 [] rfl ?own a L.length c (flatsLineV L) rfl (by rw [HL.out.2.1]; omega) (HN.out _) HL.out.2.2 (by have := HL.out.1; unfold maxLen; omega) (by have := HL.out.1; omega) (by simp) ?_; (case own => exact HO.out); intro v' w' hown hg hv; have HV : Hid (OwnL w' w.heap.size v' L ∧ Below w.heap.size w w') := (Lib.hid ⟨by simpa [OwnL] using hown, (below_alloc w _).grown hg (by simp) (fun k hk => (HO.out.lt k hk).1)⟩); clear hown hg hv)
    go_ret
    exact ⟨_, rfl, HV.out.1, HV.out.2⟩
/-- the same document with lines elsewhere -/
def reL (d : DocV) (A : Option Addr) (c : Nat) : DocV := { d with linesA := A, linesC := c }
set_option maxHeartbeats 2000000 in
theorem code_copied (d : DocV) (w : World) (hd : DocVOk w d) (hl : d.lines.length ≤ 1000) : Calls Try.prog 27 #[docVal d] w fun e w' => ∃ A c, e = .returned (docVal (reL d A c)) ∧ DocVOk w' (reL d A c) ∧ (A = none ∧ d.lines = [] ∨ ∃ g, A = some ⟨g, 0, none⟩ ∧ w.heap.size ≤ g ∧ ∃ cur, w'.heap[g]? = some (.cells cur 60 (0, 0))) ∧ Below w.heap.size w w' := by
  have h0 := heap_alloc2_old w (.cells #[.string d.id, .bool d.sale, .bool d.credit, .string d.refers, .int .i64 d.day, .string d.country, .string d.number, .string d.currency, .slice d.linesA d.lines.length d.linesC] 29) (.cells #[.string ⟨#[]⟩, .bool false, .bool false, .string ⟨#[]⟩, .int .i64 0, .string ⟨#[]⟩, .string ⟨#[]⟩, .string ⟨#[]⟩, .slice none 0 0] 29)
  have h1 := heap_alloc2_new w (.cells #[.string d.id, .bool d.sale, .bool d.credit, .string d.refers, .int .i64 d.day, .string d.country, .string d.number, .string d.currency, .slice d.linesA d.lines.length d.linesC] 29) (.cells #[.string ⟨#[]⟩, .bool false, .bool false, .string ⟨#[]⟩, .int .i64 0, .string ⟨#[]⟩, .string ⟨#[]⟩, .string ⟨#[]⟩, .slice none 0 0] 29)
  have hB := below_then (below_alloc w (.cells #[.string d.id, .bool d.sale, .bool d.credit, .string d.refers, .int .i64 d.day, .string d.country, .string d.number, .string d.currency, .slice d.linesA d.lines.length d.linesC] 29)) (below_alloc _ (.cells #[.string ⟨#[]⟩, .bool false, .bool false, .string ⟨#[]⟩, .int .i64 0, .string ⟨#[]⟩, .string ⟨#[]⟩, .string ⟨#[]⟩, .slice none 0 0] 29))
  have HCl := Lib.hid (code_clone d.linesA d.linesC d.lines _ (hd.2.2.2.2.2.1.on hB) hd.2.2.2.2.2.2.1 hl)
  have H0 := Lib.hid h0
  have H1 := Lib.hid h1
  have HB := Lib.hid hB
  have HD := Lib.hid hd
  obtain ⟨u0, u1, u2, u3, u4, u5, u6, u7, u8⟩ := cellsLineV h0
  clear h0 h1 hB hd hl
  unfold docVal docC
  go_enter Try.func27, Try.ntmps27
  go_wp2_with (go_at_call 44; refine HCl.out.mono ?_; rintro e w3 ⟨v, rfl, ho, hb⟩; have HO3 := Lib.hid ho; have HB3 := Lib.hid (below_then HB.out hb); have HX3 := Lib.hid (heap_on hb H0.out); have HY3 := Lib.hid (heap_on hb H1.out); clear ho hb; refine Stop.out ?_)
  unfold Stop
  clear u0 u1 u2 u3 u4 u5 u6 u7 u8 H0 H1 HB HCl
  obtain ⟨g, hg⟩ : ∃ g, g = w.heap.size := ⟨_, rfl⟩
  obtain ⟨A, c, rfl, hr, hc1, hc2, hnn, hform⟩ := HO3.out.form
  have HFo := Lib.hid (And.intro hr (And.intro hc1 (And.intro hc2 (And.intro hnn hform))))
  clear hr hc1 hc2 hnn hform
  rw [← hg] at HX3 HY3 ⊢
  have HGg := Lib.hid hg
  clear hg
  obtain ⟨u0, u1, u2, u3, u4, u5, u6, u7, u8⟩ := cellsLineV HX3.out
  have z8 := frozen_of_row w3 g 8 _ _ HX3.out
  have HX4 : Hid ((w3.setCell ⟨g, 8, none⟩ (.slice A d.lines.length c)).heap[g]? = some (.cells #[.string d.id, .bool d.sale, .bool d.credit, .string d.refers, .int .i64 d.day, .string d.country, .string d.number, .string d.currency, .slice A d.lines.length c] 29 (0, 0))) := Lib.hid (heap_setCell_same w3 g 8 _ _ _ HX3.out)
  have HY4 : Hid ((w3.setCell ⟨g, 8, none⟩ (.slice A d.lines.length c)).heap[g + 1]? = some (.cells #[.string ⟨#[]⟩, .bool false, .bool false, .string ⟨#[]⟩, .int .i64 0, .string ⟨#[]⟩, .string ⟨#[]⟩, .string ⟨#[]⟩, .slice none 0 0] 29 (0, 0))) := Lib.hid ((heap_setCell_other _ _ _ _ (by simp)).trans HY3.out)
  have HB4 : Hid (Below w.heap.size w (w3.setCell ⟨g, 8, none⟩ (.slice A d.lines.length c))) := Lib.hid (HB3.out.setCell (p := ⟨g, 8, none⟩) (by have hg := HGg.out; show w.heap.size ≤ g; omega) _)
  have HR4 : Hid (RowLineV (w3.setCell ⟨g, 8, none⟩ (.slice A d.lines.length c)) A d.lines) := Lib.hid (fun hn => by
    obtain ⟨b, o, e, hb, hra⟩ := HFo.out.1 hn
    have hne : b ≠ g := by
      rcases HFo.out.2.2.2.2 with e2 | ⟨g2, e2, hge, _⟩
      · rw [e] at e2; cases e2
      · rw [e] at e2
        injection e2 with e2
        injection e2 with e3
        simp only [World.size_alloc] at hge
        have hg := HGg.out
        omega
    exact ⟨b, o, e, by simpa using hb, fun j v hv => (World.cell?_of_block (heap_setCell_other _ _ _ _ (by simpa using hne))).trans (hra j v hv)⟩)
  obtain ⟨v0, v1, v2, v3, v4, v5, v6, v7, v8⟩ := cellsLineV HX4.out
  go_wp2_with ((with_reducible refine wpList_store_row (o := ⟨none, _, _, _, _, _⟩) ?b1 29 (.tmp 2) (.tmp 7) ?b2 (g + 1) #[.string d.id, .bool d.sale, .bool d.credit, .string d.refers, .int .i64 d.day, .string d.country, .string d.number, .string d.currency, .slice A d.lines.length c] ?b3 ?b4 29 #[.string ⟨#[]⟩, .bool false, .bool false, .string ⟨#[]⟩, .int .i64 0, .string ⟨#[]⟩, .string ⟨#[]⟩, .string ⟨#[]⟩, .slice none 0 0] ?b7 ?b6 ?b5 ?b8 ?_); (case b1 => rfl); (case b2 => rfl); (case b3 => rfl); (case b4 => rfl); (case b7 => exact HY4.out); (case b6 => exact doc_info); (case b5 => rfl); (case b8 => simp [Value.oneCell']); (try simp only [Act.put]); refine Stop.out ?_)
  unfold Stop
  clear u0 u1 u2 u3 u4 u5 u6 u7 u8 v0 v1 v2 v3 v4 v5 v6 v7 v8 z8
  have HR5 := Lib.hid (setRow_heap (w3.setCell ⟨g, 8, none⟩ (.slice A d.lines.length c)) (g + 1) _ #[.string d.id, .bool d.sale, .bool d.credit, .string d.refers, .int .i64 d.day, .string d.country, .string d.number, .string d.currency, .slice A d.lines.length c] _ _ HY4.out)
  have HB5 := Lib.hid (below_setRow (g := g + 1) HB4.out (by have hg := HGg.out; omega) #[.string d.id, .bool d.sale, .bool d.credit, .string d.refers, .int .i64 d.day, .string d.country, .string d.number, .string d.currency, .slice A d.lines.length c])
  have HL5 : Hid (RowLineV ((w3.setCell ⟨g, 8, none⟩ (.slice A d.lines.length c)).setRow (g + 1) #[.string d.id, .bool d.sale, .bool d.credit, .string d.refers, .int .i64 d.day, .string d.country, .string d.number, .string d.currency, .slice A d.lines.length c]) A d.lines) := Lib.hid (fun hn => by
    obtain ⟨b, o, e, hb, hra⟩ := HR4.out hn
    have hne : b ≠ g + 1 := by
      rcases HFo.out.2.2.2.2 with e2 | ⟨g2, e2, hge, _⟩
      · rw [e] at e2; cases e2
      · rw [e] at e2
        injection e2 with e2
        injection e2 with e3
        simp only [World.size_alloc] at hge
        have hg := HGg.out
        omega
    exact ⟨b, o, e, by rw [setRow_size]; exact hb, fun j v hv => (World.cell?_of_block (setRow_other _ _ _ _ hne)).trans (hra j v hv)⟩)
  have HC5 : Hid (∀ g2 cur, w.heap.size + 2 ≤ g2 → w3.heap[g2]? = some (.cells cur 60 (0, 0)) → ((w3.setCell ⟨g, 8, none⟩ (.slice A d.lines.length c)).setRow (g + 1) #[.string d.id, .bool d.sale, .bool d.credit, .string d.refers, .int .i64 d.day, .string d.country, .string d.number, .string d.currency, .slice A d.lines.length c]).heap[g2]? = some (.cells cur 60 (0, 0))) := Lib.hid (fun g2 cur h1 h2 => by
    have hg := HGg.out
    exact ((setRow_other _ _ _ _ (by omega)).trans (heap_setCell_other _ _ _ _ (by simp; omega))).trans h2)
  generalize World.setRow _ _ _ = w9 at HR5 HB5 HL5 HC5 ⊢
  go_wp2
  refine bodyPost_ret (results_cell_row Try.results27 _ _ (g + 1) 29 #[.string d.id, .bool d.sale, .bool d.credit, .string d.refers, .int .i64 d.day, .string d.country, .string d.number, .string d.currency, .slice A d.lines.length c] (0, 0) _ rfl HR5.out Try.underlying29 rfl doc_info) rfl ⟨A, c, rfl, ?_, ?_, HB5.out⟩
  · obtain ⟨h1, h2, h3, h4, h5, _, _, _, _, h6⟩ := HD.out
    exact ⟨h1, h2, h3, h4, h5, HL5.out, HFo.out.2.2.2.1, HFo.out.2.1, HFo.out.2.2.1, h6⟩
  · rcases HFo.out.2.2.2.2 with e | ⟨g2, e, hge, cur, hc⟩
    · exact .inl ⟨e, (HFo.out.2.2.2.1 e).1⟩
    · exact .inr ⟨g2, e, by simp only [World.size_alloc] at hge; omega, cur, HC5.out g2 cur (by simp only [World.size_alloc] at hge; omega) hc⟩
end Go.Proofs.Ytjanhgekocpobaa

namespace Go.Proofs.Ytjanhgekocpobaa
open Go.RowKit
set_option maxRecDepth 100000
set_option linter.unusedSimpArgs false
set_option linter.unusedVariables false

/-- how a row of names reads: where it lies -/
def crR (v : Value) : Option (DataW Unit × List MemPlace) :=
  match v with
  | .slice A n k => match adrL A with
    | some x => some (.agg ([.lit (.int .i64 (n : Nat)), .lit (.int .i64 (k : Nat))] ++ x), [])
    | none => none
  | _ => none
def crD (v : Value) : DataW Unit := match crR v with | some x => x.1 | none => .nil
def CrV (v : Value) : Prop := v = .slice none 0 0 ∨ ∃ g n k, v = .slice (some ⟨g, 0, none⟩) n k
theorem crR_val {v : Value} (h : CrV v) : crR v = some (crD v, []) := by
  have : ∃ x, crR v = some (x, []) := by
    rcases h with rfl | ⟨g, n, k, rfl⟩
    · exact ⟨_, rfl⟩
    · exact ⟨_, rfl⟩
  obtain ⟨x, hx⟩ := this
  unfold crD
  rw [hx]
theorem crR_inj {v u : Value} {x y : DataW Unit × List MemPlace} (h : crR v = some x) (h' : crR u = some y) (e : x.1 = y.1) : v = u := by
  unfold crR at h h'
  split at h
  · split at h
    · rename_i X hX
      split at h'
      · split at h'
        · rename_i Y hY
          cases h
          cases h'
          simp only [DataW.agg.injEq, List.cons_append, List.nil_append, List.cons.injEq, DataW.lit.injEq, Lit.int.injEq, true_and] at e
          obtain ⟨e1, e2, e3⟩ := e
          have f1 := Int.ofNat_inj.1 e1
          have f2 := Int.ofNat_inj.1 e2
          subst e3
          have f3 := adrL_inv hX hY
          subst f1 f2 f3
          rfl
        · cases h'
      · cases h'
    · cases h
  · cases h
theorem crR_inv {v u : Value} {ps : List MemPlace} (hu : CrV u) (h : crR v = some (crD u, ps)) : v = u := crR_inj h (crR_val hu) rfl
abbrev Crs := ByteArray → List ByteArray
abbrev CrsV := ByteArray → Value
open Classical in
noncomputable def updC {α : Type} (C : ByteArray → α) (s : ByteArray) (x : α) : ByteArray → α := fun s' => if s' = s then x else C s'
theorem updC_same {α : Type} {C : ByteArray → α} {s : ByteArray} {x : α} : updC C s x s = x := by
  unfold updC
  rw [if_pos rfl]
theorem updC_other {α : Type} {C : ByteArray → α} {s s' : ByteArray} {x : α} (h : ¬ s' = s) : updC C s x s' = C s' := by
  unfold updC
  rw [if_neg h]
def OwnS (w : World) (base : Nat) (v : Value) (L : List ByteArray) : Prop := w.ownsRow base 9 1 v L.length (L.map .string)
theorem OwnS.cr {w : World} {base : Nat} {v : Value} {L : List ByteArray} (h : OwnS w base v L) : CrV v := by
  rcases h.2 with ⟨rfl, _⟩ | ⟨g, c, cur, rfl, _⟩
  · exact .inl rfl
  · exact .inr ⟨g, _, c, rfl⟩
theorem OwnS.block {w : World} {base : Nat} {v : Value} {L : List ByteArray} (h : OwnS w base v L) {k : Nat} (hk : v.ownBlock = some k) : base ≤ k ∧ ∃ cur, w.heap[k]? = some (.cells cur 9 (0, 0)) := by
  rcases h.2 with ⟨rfl, _⟩ | ⟨g, c, cur, rfl, hB, hh, _⟩
  · cases hk
  · injection hk with hk
    subst hk
    exact ⟨hB, cur, hh⟩
theorem OwnS.grown {w w' : World} {base : Nat} {v : Value} {L : List ByteArray} {row : Option Nat} (h : OwnS w base v L) (hg : w.grownBy w' row) (hr : v = .slice none 0 0 ∨ v.ownBlock ≠ row) : OwnS w' base v L := World.ownsRow.kept h hg (hr.imp_left fun e => by rw [e]; rfl)
/-- the map of credits, and where each row lies -/
def CmAt (w : World) (base cm n : Nat) (V : CrsV) (C : Crs) : Prop :=
  (∃ D : DataW Unit, w.ownsMap Try.prog 9 crR cm n D ∧ ∀ s, okKey s → D.atKey (keyL s) (crD (.slice none 0 0)) = crD (V s)) ∧
  (∀ s, OwnS w base (V s) (C s)) ∧ (∀ s s' k, (V s).ownBlock = some k → (V s').ownBlock = some k → s = s') ∧ base ≤ cm ∧ base ≤ w.heap.size
section
variable {w w' : World} {base cm n : Nat} {V : CrsV} {C : Crs}
theorem CmAt.lt (h : CmAt w base cm n V C) : cm < w.heap.size := let ⟨⟨_, h2, _⟩, _⟩ := h; h2.lt
theorem CmAt.grown {row : Option Nat} (h : CmAt w base cm n V C) (hg : w.grownBy w' row) (hm : some cm ≠ row) (hr : ∀ s k, (V s).ownBlock = some k → some k ≠ row) : CmAt w' base cm n V C := by
  obtain ⟨⟨D, h2, h3⟩, h4, h5, h7, h8⟩ := h
  refine ⟨⟨D, h2.kept hg hm, h3⟩, fun s => (h4 s).grown hg ?_, h5, h7, Nat.le_trans h8 hg.size⟩
  rcases (h4 s).2 with ⟨e, _⟩ | ⟨g, c, cur, e, _⟩
  · exact .inl e
  · exact .inr (by
      have := hr s g (by rw [e]; rfl)
      rw [e]
      exact this)
theorem CmAt.on (h : CmAt w base cm n V C) (hb : Below w.heap.size w w') : CmAt w' base cm n V C :=
  h.grown (row := none) ⟨hb.os, hb.tape, hb.output, hb.size, fun k hk _ => hb.block k hk⟩ (by simp) (fun _ _ _ => by simp)
/-- looked up -/
theorem CmAt.look {s : ByteArray} (h : CmAt w base cm n V C) (hk : okKey s) : (Instr.lookup 46 (.map (some cm)) (.string s) false).run Try.prog w = .ok (V s) w := by
  obtain ⟨⟨D, h2, h3⟩, h4, _⟩ := h
  have hz : (zeroValue 33).run Try.prog w = .ok (.slice none 0 0) w := by kernel_rfl
  obtain ⟨v, ps, hr, hv⟩ := h2.lookup strKey Try.underlying46 hz (crR_val (.inl rfl)) (keyOk hk)
  rw [h3 s hk] at hv
  rw [crR_inv (h4 s).cr hv] at hr
  exact hr
/-- a row was grown, and is laid into the map -/
theorem CmAt.put {s x : ByteArray} {v : Value} (h : CmAt w base cm n V C) (hn : n < maxLen) (hk : okKey s) (hg : w.grownBy w' (V s).ownBlock) (hrow : OwnS w' base v (C s ++ [x])) (hat : v.ownBlock = (V s).ownBlock ∨ v.ownBlock = some w.heap.size) :
    ∃ w2, (Instr.mapUpdate 46 (.map (some cm)) (.string s) v).run Try.prog w' = .ok () w2 ∧ CmAt w2 base cm (n + 1) (updC V s v) (updC C s (C s ++ [x])) ∧ w'.grownBy w2 (some cm) ∧ ∀ k, k ≠ cm → w2.heap[k]? = w'.heap[k]? := by
  obtain ⟨⟨D, h2, h3⟩, h4, h5, h7, h8⟩ := h
  have hmap : ∀ s k, (V s).ownBlock = some k → k ≠ cm := fun s k hk e => by
    obtain ⟨_, cur, hc⟩ := (h4 s).block hk
    obtain ⟨es, clock, hb, _⟩ := h2
    rw [e, hb] at hc
    injection hc with hc
    cases hc
  have h2' := h2.kept hg (fun e => hmap s cm e.symm rfl)
  obtain ⟨w2, hr, h9, ht⟩ := h2'.store strKey Try.underlying46 hn (keyOk hk) (crR_val hrow.cr)
  have hgr := ht.grown
  have hblk : ∀ k, k ≠ cm → w2.heap[k]? = w'.heap[k]? := fun k hkb => by
    obtain ⟨es, clock, es', clock', hb, rfl⟩ := ht
    exact Go.ChangeMaps.heap_setBlock_other hb _ hkb
  have hlt := h2.lt
  have hold : ∀ s', s' ≠ s → OwnS w' base (V s') (C s') := fun s' hs => (h4 s').grown hg (by
    rcases (h4 s').2 with ⟨e, _⟩ | ⟨g, c, cur, e, _⟩
    · exact .inl e
    · refine .inr fun e2 => hs (h5 s' s g (by rw [e]; rfl) (by rw [← e2, e]; rfl)))
  have hfar : ∀ {u : Value} {L : List ByteArray}, OwnS w' base u L → OwnS w2 base u L := fun {u L} hu => hu.grown hgr (by
    rcases hu.2 with ⟨e, _⟩ | ⟨g, c, cur, e, _, hh, _⟩
    · exact .inl e
    · refine .inr fun e2 => ?_
      rw [e] at e2
      injection e2 with e2
      have e3 : g = cm := e2
      obtain ⟨es, clock, hb, _⟩ := h2'
      rw [e3, hb] at hh
      injection hh with hh
      cases hh)
  refine ⟨w2, hr, ⟨⟨_, h9, fun s' hk' => ?_⟩, fun s' => ?_, fun s1 s2 k a b => ?_, h7, Nat.le_trans h8 (Nat.le_trans hg.size hgr.size)⟩, hgr, hblk⟩
  · by_cases hs : s' = s
    · obtain rfl := hs
      rw [updC_same]
      exact Maps.atKey_put_same h2'.isMap (strKey.key (keyOk hk)) _ _
    · rw [updC_other hs]
      have hne : keyL s' ≠ keyL s := fun e => hs (keyL_inj e)
      rw [Maps.atKey_put_other hne]
      exact h3 s' hk'
  · by_cases hs : s' = s
    · obtain rfl := hs
      rw [updC_same, updC_same]
      exact hfar hrow
    · rw [updC_other hs, updC_other hs]
      exact hfar (hold s' hs)
  · have key : ∀ s', s' ≠ s → (V s').ownBlock = some k → v.ownBlock = some k → False := fun s' hs e1 e2 => by
      rcases hat with e3 | e3
      · exact hs (h5 s' s k e1 (by rw [← e3]; exact e2))
      · rw [e2] at e3
        injection e3 with e3
        obtain ⟨_, cur, hc⟩ := (h4 s').block e1
        have := heapLt hc
        omega
    by_cases hs1 : s1 = s <;> by_cases hs2 : s2 = s
    · exact hs1.trans hs2.symm
    · obtain rfl := hs1
      rw [updC_same] at a
      rw [updC_other hs2] at b
      exact (key s2 hs2 b a).elim
    · obtain rfl := hs2
      rw [updC_same] at b
      rw [updC_other hs1] at a
      exact (key s1 hs1 a b).elim
    · rw [updC_other hs1] at a
      rw [updC_other hs2] at b
      exact h5 s1 s2 k a b
end
end Go.Proofs.Ytjanhgekocpobaa
