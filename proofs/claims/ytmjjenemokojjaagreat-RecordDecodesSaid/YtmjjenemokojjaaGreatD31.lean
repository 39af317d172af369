/- What is read, and is not bad behind it, was written so. A year as a period: the program's. A reader beside boxes and a row of the call's own. A command read of any bytes: what it is, and that its bytes are these. -/
import Derived.Test.YtmjjenemokojjaaGreatD28
import Derived.Test.YtmjjenemokojjaaGreatD12
import Derived.Deep.Cut
import Derived.Deep.DeepCutAuto
import Derived.Laws.CopyOwn
import Derived.Test.YtmjjenemokojjaaGreatD29
import Derived.WalkMore
import Derived.Laws.Rows
import Derived.Laws.Tables
import Derived.Laws.CopyRow
namespace Go.Proofs.YtmjjenemokojjaaGreat
open Go.RowKit
set_option maxRecDepth 100000
set_option linter.unusedSimpArgs false
set_option linter.unusedVariables false

theorem num_step {s : Bool × Text} {r : Text} (h : numS s = (false, r)) : s = (false, nB (numV s) ++ r) ∧ NR (numV s) := by
 obtain ⟨b, T⟩ := s
 unfold numS at h
 unfold numV
 cases hp : numP T with
 | none => rw [show ((b, T) : Bool × Text).2 = T from rfl, hp] at h; cases h
 | some p =>
   rw [show ((b, T) : Bool × Text).2 = T from rfl, hp] at h
   obtain ⟨n, q⟩ := p
   obtain ⟨D, hD, hT, h1, h2⟩ := numP_back hp
   have e : (b, q) = (false, r) := h
   obtain ⟨rfl, rfl⟩ := Prod.mk.inj e
   have hn : NR n := ⟨h1, h2⟩
   have hB : nB n = D := by unfold nB; rw [hD]; rfl
   refine ⟨?_, hn⟩
   show (false, T) = (false, nB n ++ q)
   rw [hB, hT]
theorem text_step {s : Bool × Text} {r : Text} (h : textS s = (false, r)) : s = (false, sB (textV s) ++ r) ∧ (textV s).size ≤ 65536 := by
 obtain ⟨b, T⟩ := s
 unfold textS at h
 unfold textV
 cases hp : textP T with
 | none => rw [show ((b, T) : Bool × Text).2 = T from rfl, hp] at h; cases h
 | some p =>
   rw [show ((b, T) : Bool × Text).2 = T from rfl, hp] at h
   obtain ⟨n, q⟩ := p
   obtain ⟨D, hD, hT⟩ := textP_back hp
   have e : (b, q) = (false, r) := h
   obtain ⟨rfl, rfl⟩ := Prod.mk.inj e
   have hB : sB n = D := by unfold sB; rw [hD]; rfl
   refine ⟨?_, ?_⟩
   · show (false, T) = (false, sB n ++ q)
     rw [hB, hT]
   · show n.size ≤ 65536
     unfold docS at hD
     by_cases h0 : 65536 < n.size
     · rw [if_pos h0] at hD; cases hD
     · omega
theorem flag_step {s : Bool × Text} {r : Text} (h : flagS s = (false, r)) : s = (false, flagT (flagV s) ++ r) := by
 obtain ⟨b, T⟩ := s
 unfold flagS at h
 unfold flagV
 cases hp : flagP T with
 | none => rw [show ((b, T) : Bool × Text).2 = T from rfl, hp] at h; cases h
 | some p =>
   rw [show ((b, T) : Bool × Text).2 = T from rfl, hp] at h
   obtain ⟨n, q⟩ := p
   have hT := flagP_back hp
   have e : (b, q) = (false, r) := h
   obtain ⟨rfl, rfl⟩ := Prod.mk.inj e
   show (false, T) = (false, flagT n ++ q)
   rw [hT]
theorem line_step {s : Bool × Text} {r : Text} (h : lineS s = (false, r)) : s = (false, lineW (lineV s) r) ∧ LF (lineV s) := by
 unfold lineS at h
 have a9 := flag_step h
 obtain ⟨a8, b8⟩ := num_step a9
 have a7 := flag_step a8
 obtain ⟨a6, b6⟩ := num_step a7
 obtain ⟨a5, b5⟩ := text_step a6
 obtain ⟨a4, b4⟩ := text_step a5
 obtain ⟨a3, b3⟩ := text_step a4
 obtain ⟨a2, b2⟩ := num_step a3
 obtain ⟨a1, b1⟩ := num_step a2
 exact ⟨a1, b1, b2, b3, b4, b5, b6, b8⟩
theorem lines_step : ∀ (k : Nat) (s : Bool × Text) (r : Text), (linesR k s).2 = (false, r) → s = (false, linesW (linesR k s).1 r) ∧ ∀ l ∈ (linesR k s).1, LF l
 | 0, s, r, h => ⟨h, fun l hl => absurd hl (by simp [linesR])⟩
 | k + 1, s, r, h => by
   rw [linesR_cons] at h ⊢
   obtain ⟨h1, h2⟩ := lines_step k (lineS s) r h
   obtain ⟨h3, h4⟩ := line_step h1
   refine ⟨h3, fun l hl => ?_⟩
   rcases List.mem_cons.1 hl with rfl | hl
   · exact h4
   · exact h2 l hl
end Go.Proofs.YtmjjenemokojjaaGreat

namespace Go.Proofs.YtmjjenemokojjaaGreat
open Go.RowKit Go.ChangeShapes
set_option maxRecDepth 100000
set_option linter.unusedSimpArgs false
set_option linter.unusedVariables false

theorem cells_info' : (Tryz.prog.info? 28).map (·.size) = some 22 := by kernel_rfl
set_option maxHeartbeats 1000000 in
theorem code_year (n : Int) (w : World) : Calls Tryz.prog 75 #[.int .i64 n] w fun e w1 => e = .returned (.agg #[.int .i64 3, .int .i64 n, .int .i64 1]) ∧ Below w.heap.size w w1 := by
 have HB := Lib.hid (below_alloc w (.cells #[.int .i64 3, .int .i64 n, .int .i64 1] 23))
 go_enter Tryz.func75, Tryz.ntmps75
 have HX := Lib.hid (heap_alloc_new w (.cells #[.int .i64 3, .int .i64 n, .int .i64 1] 23))
 go_wp2
 exact bodyPost_ret (v := .agg #[.int .i64 3, .int .i64 n, .int .i64 1]) (results_cell_row Tryz.results75 _ _ w.heap.size 23 #[.int .i64 3, .int .i64 n, .int .i64 1] (0, 0) _ rfl HX.out Tryz.underlying23 rfl (by kernel_rfl)) rfl ⟨rfl, HB.out⟩
end Go.Proofs.YtmjjenemokojjaaGreat

namespace Go.Proofs.YtmjjenemokojjaaGreat
open Go.RowKit Go.ChangeShapes
set_option maxRecDepth 100000
set_option linter.unusedSimpArgs false
set_option linter.unusedVariables false

/-- a reader at g, boxes beside it, and a row of the call's own -/
structure RM (R : World → Nat → Bool × Text → Prop) (w0 w : World) (g : Nat) (s : Bool × Text) (K : List (Nat × Array Value × TypeId)) (v : Value) (M : List LineV) : Prop where
 law : RdLaw R
 rs : R w g s
 only : Only w0 w g
 gl : g < w0.heap.size
 box : ∀ p ∈ K, w.heap[p.1]? = some (.cells p.2.1 p.2.2 (0, 0)) ∧ w0.heap.size ≤ p.1 ∧ v.ownBlock ≠ some p.1
 own : OwnLineV w w0.heap.size v M
 nd : (K.map (·.1)).Nodup
section
variable {R : World → Nat → Bool × Text → Prop} {w0 w w1 : World} {g b : Nat} {s s1 : Bool × Text} {cs : Array Value} {t : TypeId} {K : List (Nat × Array Value × TypeId)} {v v0 : Value} {M : List LineV}
theorem RM.start (hl : RdLaw R) (h : R w g s) (hg : g < w.heap.size) : RM R w w g s [] (.slice none 0 0) [] :=
 ⟨hl, h, Only.refl _ _, hg, fun p hp => absurd hp (by simp), World.ownsRow_nil _ _ _ 9, List.nodup_nil⟩
theorem RM.read (h : RM R w0 w g s K v M) (hr : R w1 g s1) (ho : Only w w1 g) : RM R w0 w1 g s1 K v M :=
 ⟨h.law, hr, h.only.trans ho, h.gl, fun p hp => by
  obtain ⟨a, b, c⟩ := h.box p hp
  exact ⟨(ho.block p.1 (heapLt a) (by have := h.gl; omega)).trans a, b, c⟩, h.own.only ho h.gl, h.nd⟩
theorem RM.on (h : RM R w0 w g s K v M) (hb : Below w.heap.size w w1) : RM R w0 w1 g s K v M :=
 ⟨h.law, h.law.on h.rs hb, h.only.trans (Only.of_below hb), h.gl, fun p hp => ⟨heap_on hb (h.box p hp).1, (h.box p hp).2⟩, h.own.on hb, h.nd⟩
theorem RM.alloc (h : RM R w0 w g s K v M) (cs : Array Value) (t : TypeId) : RM R w0 (w.alloc (.cells cs t)) g s ((w.heap.size, cs, t) :: K) v M := by
 have h1 := h.on (below_alloc w (.cells cs t))
 refine ⟨h1.law, h1.rs, h1.only, h1.gl, fun p hp => ?_, h1.own, ?_⟩
 · rcases List.mem_cons.1 hp with rfl | hp
   · exact ⟨heap_alloc_new w _, h.only.size, fun e => absurd (h.own.block _ e).2 (Nat.lt_irrefl _)⟩
   · exact h1.box p hp
 · refine List.nodup_cons.2 ⟨fun hm => ?_, h.nd⟩
   obtain ⟨p, hp, e⟩ := List.mem_map.1 hm
   have := heapLt (h.box p hp).1
   simp only at e
   omega
theorem RM.head (h : RM R w0 w g s ((b, cs, t) :: K) v M) : w.heap[b]? = some (.cells cs t (0, 0)) := (h.box _ (List.mem_cons_self ..)).1
theorem RM.drop {p} (h : RM R w0 w g s (p :: K) v M) : RM R w0 w g s K v M := ⟨h.law, h.rs, h.only, h.gl, fun q hq => h.box q (List.mem_cons_of_mem _ hq), h.own, (List.nodup_cons.1 h.nd).2⟩
theorem RM.put (h : RM R w0 w g s ((b, cs, t) :: K) v M) (cs1 : Array Value) : RM R w0 (w.setRow b cs1) g s ((b, cs1, t) :: K) v M := by
 obtain ⟨a, hb, hv⟩ := h.box _ (List.mem_cons_self ..)
 have hS := only_setRow w b cs1
 have hO := h.only
 have hgl := h.gl
 simp only at a hb hv
 refine ⟨h.law, h.law.far h.rs hS (by omega), ⟨hS.os.trans hO.os, hS.tape.trans hO.tape, hS.output.trans hO.output, Nat.le_trans hO.size hS.size, fun k hk hn => (hS.block k (Nat.lt_of_lt_of_le hk hO.size) (by omega)).trans (hO.block k hk hn)⟩, hgl, fun p hp => ?_, World.ownsRow.kept (row := some b) h.own ⟨hS.os, hS.tape, hS.output, hS.size, fun k hk hn => hS.block k hk (fun e => hn (by rw [e]))⟩ (.inr hv), h.nd⟩
 rcases List.mem_cons.1 hp with rfl | hp
 · exact ⟨setRow_heap w b cs cs1 _ _ a, hb, hv⟩
 · obtain ⟨a1, b1, c1⟩ := h.box p (List.mem_cons_of_mem _ hp)
   exact ⟨(setRow_other w b p.1 cs1 (fun e => (List.nodup_cons.1 h.nd).1 (List.mem_map.2 ⟨p, hp, e⟩))).trans a1, b1, c1⟩
theorem RM.at_ (h : RM R w0 w g s K v M) (k : Nat) (hk : k < w0.heap.size) (hn : k ≠ g) : w.heap[k]? = w0.heap[k]? := h.only.block k hk hn
theorem RM.below {B : Nat} (h : RM R w0 w g s K v M) (hB : B ≤ g) : Below B w0 w := h.only.below hB (Nat.le_of_lt (Nat.lt_of_le_of_lt hB h.gl))
/-- a call that reads, and hands back a row of its own -/
theorem RM.doc (h : RM R w0 w g s K (.slice none 0 0) []) (hr : R w1 g s1) (ho : Only w w1 g) (hw : OwnLineV w1 w.heap.size v M) : RM R w0 w1 g s1 K v M :=
 ⟨h.law, hr, h.only.trans ho, h.gl, fun p hp => by
  obtain ⟨a, b, c⟩ := h.box p hp
  have hl := heapLt a
  exact ⟨(ho.block p.1 hl (by have := h.gl; omega)).trans a, b, fun e => by have := (hw.block _ e).1; omega⟩, hw.less h.only.size, h.nd⟩
theorem RM.store (h : RM R w0 w g s ((b, cs, t) :: K) v0 M) {ops : Array Oper} {rest : List Oper} {o : Oper} {a : Act} {Q : Exit → Act → World → Prop} {T : TypeId} {x y : Operand} {i n : Nat} {v : Value} {us : List Value}
 (ho : o.op = .store T x y) (hgd : o.guard = none) (hx : a.eval x = .pointer (some ⟨b, i, none⟩)) (hy : a.eval y = v) (hu : v.cells = us.toArray) (hn : us.length = n) (hsz : (Tryz.prog.info? T).map (·.size) = some n) (h1 : us.all (·.oneCell') = true) (hi : Nat.ble (i + us.length) cs.size = true)
 (hK : ∀ w1, RM R w0 w1 g s ((b, putAt cs i us, t) :: K) v0 M → wpList Tryz.prog ops Q rest (a.put o.dst undef) w1) : wpList Tryz.prog ops Q (o :: rest) a w :=
 wpList_store_part hgd T x y ho b i hx v us n hsz hn hu (fun u hu => List.all_eq_true.1 h1 u hu) hy cs t h.head (Nat.le_of_ble_eq_true hi) (hK _ (h.put _))
variable {ops : Array Oper} {rest : List Oper} {o : Oper} {a : Act} {Q : Exit → Act → World → Prop} {T : TypeId} {x y : Operand} {i : Nat}
theorem RM.storeAll {cs0 : Array Value} (h : RM R w0 w g s ((b, cs0, t) :: K) v0 M) (ho : o.op = .store t x y) (hgd : o.guard = none) (hx : a.eval x = .pointer (some ⟨b, 0, none⟩)) (hy : a.eval y = .agg cs) (hsz : (Tryz.prog.info? t).map (·.size) = some cs.size) (h0 : cs0.size = cs.size) (h1 : cs.all (·.oneCell') = true)
 (hK : ∀ w1, RM R w0 w1 g s ((b, cs, t) :: K) v0 M → wpList Tryz.prog ops Q rest (a.put o.dst undef) w1) : wpList Tryz.prog ops Q (o :: rest) a w :=
 wpList_store_row hgd t x y ho b cs hx hy t cs0 h.head hsz h0 h1 (hK _ (h.put _))
theorem RM.storeI {k : IntKind} {m : Int} (h : RM R w0 w g s ((b, cs, t) :: K) v0 M) (ho : o.op = .store T x y) (hy : a.eval y = .int k m) (hgd : o.guard = none) (hx : a.eval x = .pointer (some ⟨b, i, none⟩)) (hsz : (Tryz.prog.info? T).map (·.size) = some 1) (hi : Nat.ble (i + 1) cs.size = true)
 (hK : ∀ w1, RM R w0 w1 g s ((b, putAt cs i [.int k m], t) :: K) v0 M → wpList Tryz.prog ops Q rest (a.put o.dst undef) w1) : wpList Tryz.prog ops Q (o :: rest) a w := RM.store h ho hgd hx hy rfl rfl hsz rfl hi hK
theorem RM.storeS {m : ByteArray} (h : RM R w0 w g s ((b, cs, t) :: K) v0 M) (ho : o.op = .store T x y) (hy : a.eval y = .string m) (hgd : o.guard = none) (hx : a.eval x = .pointer (some ⟨b, i, none⟩)) (hsz : (Tryz.prog.info? T).map (·.size) = some 1) (hi : Nat.ble (i + 1) cs.size = true)
 (hK : ∀ w1, RM R w0 w1 g s ((b, putAt cs i [.string m], t) :: K) v0 M → wpList Tryz.prog ops Q rest (a.put o.dst undef) w1) : wpList Tryz.prog ops Q (o :: rest) a w := RM.store h ho hgd hx hy rfl rfl hsz rfl hi hK
theorem RM.storeB {m : Bool} (h : RM R w0 w g s ((b, cs, t) :: K) v0 M) (ho : o.op = .store T x y) (hy : a.eval y = .bool m) (hgd : o.guard = none) (hx : a.eval x = .pointer (some ⟨b, i, none⟩)) (hsz : (Tryz.prog.info? T).map (·.size) = some 1) (hi : Nat.ble (i + 1) cs.size = true)
 (hK : ∀ w1, RM R w0 w1 g s ((b, putAt cs i [.bool m], t) :: K) v0 M → wpList Tryz.prog ops Q rest (a.put o.dst undef) w1) : wpList Tryz.prog ops Q (o :: rest) a w := RM.store h ho hgd hx hy rfl rfl hsz rfl hi hK
theorem RM.storeA {n : Nat} {us : List Value} (h : RM R w0 w g s ((b, cs, t) :: K) v0 M) (ho : o.op = .store T x y) (hy : a.eval y = .agg us.toArray) (hgd : o.guard = none) (hx : a.eval x = .pointer (some ⟨b, i, none⟩)) (hn : us.length = n) (hsz : (Tryz.prog.info? T).map (·.size) = some n) (h1 : us.all (·.oneCell') = true) (hi : Nat.ble (i + us.length) cs.size = true)
 (hK : ∀ w1, RM R w0 w1 g s ((b, putAt cs i us, t) :: K) v0 M → wpList Tryz.prog ops Q rest (a.put o.dst undef) w1) : wpList Tryz.prog ops Q (o :: rest) a w := RM.store h ho hgd hx hy rfl hn hsz h1 hi hK
theorem RM.stored {r : Nat} {z : Array Value} {t1 : TypeId} {fr : Nat × Nat} (h : RM R w0 w g s ((b, cs, t) :: K) v M) (hz : w.heap[r]? = some (.cells z t1 fr)) : (w.setRow r cs).heap[r]? = some (.cells cs t1 fr) := setRow_heap w r z cs _ _ hz
theorem RM.kind {k : Int} (h : RM R w0 w g s ((b, kindC k, t) :: K) v M) : w.cell? ⟨b, 0, none⟩ = some (.int .i64 k) := (cell_of_row _ b 0 _ _ _ h.head).trans rfl
theorem RM.load (h : RM R w0 w g s ((b, cs, t) :: K) v0 M) {ops : Array Oper} {rest : List Oper} {o : Oper} {a : Act} {Q : Exit → Act → World → Prop} {x : Operand} {fs : Array Field} (hu : Tryz.prog.underlying t = some (.struct fs))
 (ho : o.op = .load t x) (hgd : o.guard = none) (hx : a.eval x = .pointer (some ⟨b, 0, none⟩)) (hsz : (Tryz.prog.info? t).map (·.size) = some cs.size) (hK : wpList Tryz.prog ops Q rest (a.put o.dst (.agg cs)) w) : wpList Tryz.prog ops Q (o :: rest) a w :=
 wpList_load_row hgd t x ho b hx t cs (0, 0) (.struct fs) h.head hu rfl hsz hK
end
section
variable {w0 w w1 : World} {g b : Nat} {s : Bool × Text} {K : List (Nat × Array Value × TypeId)} {v : Value} {M : List LineV}
theorem RM.dnum (h : RM DR w0 w g s K v M) : Calls Tryz.prog 77 #[.pointer (some ⟨g, 0, none⟩)] w fun e w1 => e = .returned (.int .i64 (numV s)) ∧ RM DR w0 w1 g (numS s) K v M :=
 (DR.num h.rs).mono fun e w1 hg => ⟨hg.1, h.read hg.2.1 hg.2.2⟩
theorem RM.dtext (h : RM DR w0 w g s K v M) : Calls Tryz.prog 78 #[.pointer (some ⟨g, 0, none⟩)] w fun e w1 => e = .returned (.string (textV s)) ∧ RM DR w0 w1 g (textS s) K v M :=
 (DR.text h.rs).mono fun e w1 hg => ⟨hg.1, h.read hg.2.1 hg.2.2⟩
theorem RM.dflag (h : RM DR w0 w g s K v M) : Calls Tryz.prog 102 #[.pointer (some ⟨g, 0, none⟩)] w fun e w1 => e = .returned (.bool (flagV s)) ∧ RM DR w0 w1 g (flagS s) K v M :=
 (DR.flag h.rs).mono fun e w1 hg => ⟨hg.1, h.read hg.2.1 hg.2.2⟩
theorem RM.pnum (h : RM PR w0 w g s K v M) : Calls Tryz.prog 73 #[.pointer (some ⟨g, 0, none⟩)] w fun e w1 => e = .returned (.int .i64 (numV s)) ∧ RM PR w0 w1 g (numS s) K v M :=
 (PR.num h.rs).mono fun e w1 hg => ⟨hg.1, h.read hg.2.1 hg.2.2⟩
theorem RM.ptext (h : RM PR w0 w g s K v M) : Calls Tryz.prog 74 #[.pointer (some ⟨g, 0, none⟩)] w fun e w1 => e = .returned (.string (textV s)) ∧ RM PR w0 w1 g (textS s) K v M :=
 (PR.text h.rs).mono fun e w1 hg => ⟨hg.1, h.read hg.2.1 hg.2.2⟩
theorem RM.app {hd v1} {M1 : List LineV} (h : RM DR w0 w g s [(b, docC hd v, 26)] v M) (ho : OwnLineV w1 w0.heap.size v1 (M ++ M1)) (hg : w.grownBy w1 v.ownBlock) (hl : v1.ownBlock ≠ some b) : RM DR w0 (w1.setCell ⟨b, 8, none⟩ v1) g s [(b, docC hd v1, 26)] v1 (M ++ M1) := by
 obtain ⟨hbox, hfar, hap⟩ := h.box _ (List.mem_cons_self ..)
 have hbl := heapLt hbox
 have hO := h.only
 have hgl := h.gl
 simp only at hbox hfar hap hbl
 have hng : ∀ k, k < w0.heap.size → some k ≠ v.ownBlock := fun k hk e => by
  have := (h.own.block k e.symm).1
  omega
 have hBox : w1.heap[b]? = some (.cells (docC hd v) 26 (0, 0)) := (hg.block b hbl (fun e => hap e.symm)).trans hbox
 have hS : Only w1 (w1.setCell ⟨b, 8, none⟩ v1) b := Only.set w1 b 8 v1
 refine ⟨h.law, (DR.grown h.rs hg (fun k hk => hng k (by omega))).far hS (by omega), ⟨hS.os.trans (hg.os.trans hO.os), hS.tape.trans (hg.tape.trans hO.tape), hS.output.trans (hg.output.trans hO.output), Nat.le_trans (Nat.le_trans hO.size hg.size) hS.size, fun k hk hn => (hS.block k (Nat.lt_of_lt_of_le hk (Nat.le_trans hO.size hg.size)) (by omega)).trans ((hg.block k (Nat.lt_of_lt_of_le hk hO.size) (hng k hk)).trans (hO.block k hk hn))⟩, hgl, fun p hp => ?_, World.ownsRow.kept (row := some b) ho ⟨hS.os, hS.tape, hS.output, hS.size, fun k hk hn => hS.block k hk (fun e => hn (by rw [e]))⟩ (.inr hl), h.nd⟩
 rw [List.mem_singleton] at hp
 subst hp
 exact ⟨by rw [heap_setCell_same w1 b 8 _ _ v1 hBox]; rfl, hfar, hl⟩
theorem wpList_append_rm {hd} (hR : RM DR w0 w g s [(b, docC hd v, 26)] v M) {ops : Array Oper} {rest : List Oper} {o : Oper} {a : Act} {Q : Exit → Act → World → Prop} (hgd : o.guard = none) (s0 x : Operand)
 (ho : o.op = .call { callee := .builtin .append, args := #[s0, x], argTypes := #[24, 24] }) (hty : o.type = 24) (hs : a.eval s0 = v)
 (p : Addr) (l : LineV) (hx : a.eval x = .slice (some p) 1 1) (hm : RowLineV w (some p) [l]) (k : Nat) (hk : M.length = k) (hl : k ≤ 100000)
 (h : ∀ A1 c1 w1, RM DR w0 (w1.setCell ⟨b, 8, none⟩ (.slice A1 ((k + 1 : Nat) : Nat) c1)) g s [(b, docC hd (.slice A1 ((k + 1 : Nat) : Nat) c1), 26)] (.slice A1 ((k + 1 : Nat) : Nat) c1) (M ++ [l]) → w1.heap[b]? = some (.cells (docC hd v) 26 (0, 0)) → wpList Tryz.prog ops Q rest (a.put o.dst (.slice A1 ((k + 1 : Nat) : Nat) c1)) w1) : wpList Tryz.prog ops Q (o :: rest) a w := by
 subst hk
 obtain ⟨hbox, hfar, hapb⟩ := hR.box _ (List.mem_cons_self ..)
 obtain ⟨v', w', hrun, h2, h3⟩ := appendLineV_own w w0.heap.size v M [l] hR.own p 1 hm (by simp) (by simp only [List.length_singleton]; omega) (hR.only.size)
 have hbx := (h3.block b (heapLt hbox) (fun e => hapb e.symm)).trans hbox
 have hap : v'.ownBlock ≠ some b := by
  intro e
  rcases h2.2 with ⟨rfl, h0⟩ | ⟨g1, c1, cur, rfl, hB, hh, _⟩
  · cases e
  · injection e with e
    have e2 : g1 = b := e
    subst e2
    rw [hbx] at hh
    injection hh with hh
    injection hh with _ ht _
    have ht2 : (26 : TypeId) = 30 := ht
    exact absurd ht2 (by decide)
 have hrl := hR.app h2 h3 hap
 obtain ⟨A1, c1, e1, _⟩ := h2.bounds
 rw [List.length_append] at e1
 subst e1
 have hK := h A1 c1 w' hrl hbx
 refine wpList_plain hgd fun K hK2 => ?_
 unfold Oper.wp execOp
 simp only [ho, hty, resolve, invoke, builtin, Sem.run_bind, Sem.run_pure, Result.andThen_ok, List.map_toArray, List.map_cons, List.map_nil, hs, hx]
 have hrun' := hrun
 simp only [List.length_singleton] at hrun'
 rw [hrun']
 exact hK2 _ _ hK
end
end Go.Proofs.YtmjjenemokojjaaGreat

namespace Go.Proofs.YtmjjenemokojjaaGreat
open Go.RowKit
set_option maxRecDepth 100000
set_option linter.unusedSimpArgs false
set_option linter.unusedVariables false

noncomputable def dcX1 (s : Bool × Text) (A : Option Addr) (c : Nat) : CmdV := ⟨1, textV (numS s), ⟨#[]⟩, 0, 0, numV (numS (textS (numS s))), 0, 0, 0, numV (textS (numS s)), 0, 0, 0, ⟨#[]⟩, false, false, ⟨#[]⟩, 0, ⟨#[]⟩, ⟨#[]⟩, ⟨#[]⟩, none, [], 0⟩
noncomputable def dcS1 (s : Bool × Text) : Bool × Text := (numS (numS (textS (numS s))))
noncomputable def dcX2 (s : Bool × Text) (A : Option Addr) (c : Nat) : CmdV := ⟨2, textV (numS s), ⟨#[]⟩, numV (textS (numS s)), numV (numS (numS (numS (textS (numS s))))), numV (numS (textS (numS s))), numV (numS (numS (textS (numS s)))), 0, 0, 0, 0, 0, 0, ⟨#[]⟩, false, false, ⟨#[]⟩, 0, ⟨#[]⟩, ⟨#[]⟩, ⟨#[]⟩, none, [], 0⟩
noncomputable def dcS2 (s : Bool × Text) : Bool × Text := (numS (numS (numS (numS (textS (numS s))))))
noncomputable def dcX3 (s : Bool × Text) (A : Option Addr) (c : Nat) : CmdV := ⟨3, ⟨#[]⟩, ⟨#[]⟩, 0, 0, numV (numS s), numV (numS (numS s)), 0, 0, 0, 0, 0, 0, ⟨#[]⟩, false, false, ⟨#[]⟩, 0, ⟨#[]⟩, ⟨#[]⟩, ⟨#[]⟩, none, [], 0⟩
noncomputable def dcS3 (s : Bool × Text) : Bool × Text := (numS (numS (numS s)))
noncomputable def dcX4 (s : Bool × Text) (A : Option Addr) (c : Nat) : CmdV := ⟨4, textV (numS s), textV (textS (numS s)), 0, 0, numV (textS (textS (numS s))), numV (numS (textS (textS (numS s)))), 0, 0, 0, 0, 0, 0, ⟨#[]⟩, false, false, ⟨#[]⟩, 0, ⟨#[]⟩, ⟨#[]⟩, ⟨#[]⟩, none, [], 0⟩
noncomputable def dcS4 (s : Bool × Text) : Bool × Text := (numS (numS (textS (textS (numS s)))))
noncomputable def dcX5 (s : Bool × Text) (A : Option Addr) (c : Nat) : CmdV := ⟨5, ⟨#[]⟩, textV (numS s), 0, 0, 0, 0, numV (numS (numS (textS (numS s)))), numV (numS (numS (numS (textS (numS s))))), 0, 2, numV (textS (numS s)), numV (numS (textS (numS s))), ⟨#[]⟩, false, false, ⟨#[]⟩, 0, ⟨#[]⟩, ⟨#[]⟩, ⟨#[]⟩, none, [], 0⟩
noncomputable def dcS5 (s : Bool × Text) : Bool × Text := (numS (numS (numS (numS (textS (numS s))))))
noncomputable def dcX6 (s : Bool × Text) (A : Option Addr) (c : Nat) : CmdV := ⟨6, ⟨#[]⟩, textV (numS s), 0, 0, 0, 0, 0, 0, 0, 0, 0, 0, ⟨#[]⟩, false, false, ⟨#[]⟩, 0, ⟨#[]⟩, ⟨#[]⟩, ⟨#[]⟩, none, [], 0⟩
noncomputable def dcS6 (s : Bool × Text) : Bool × Text := (textS (numS s))
noncomputable def dcX7 (s : Bool × Text) (A : Option Addr) (c : Nat) : CmdV := ⟨7, ⟨#[]⟩, ⟨#[]⟩, 0, 0, 0, 0, numV (numS (numS s)), 0, 0, 3, numV (numS s), 1, ⟨#[]⟩, false, false, ⟨#[]⟩, 0, ⟨#[]⟩, ⟨#[]⟩, ⟨#[]⟩, none, [], 0⟩
noncomputable def dcS7 (s : Bool × Text) : Bool × Text := (numS (numS (numS s)))
noncomputable def dcX8 (s : Bool × Text) (A : Option Addr) (c : Nat) : CmdV := ⟨8, ⟨#[]⟩, ⟨#[]⟩, 0, 0, 0, 0, 0, 0, 0, 0, 0, 0, (docR (numS s)).1.1, (docR (numS s)).1.2.1, (docR (numS s)).1.2.2.1, (docR (numS s)).1.2.2.2.1, (docR (numS s)).1.2.2.2.2.1, (docR (numS s)).1.2.2.2.2.2.1, (docR (numS s)).1.2.2.2.2.2.2.1, (docR (numS s)).1.2.2.2.2.2.2.2, A, (docR (numS s)).2.1, c⟩
noncomputable def dcS8 (s : Bool × Text) : Bool × Text := (docR (numS s)).2.2
noncomputable def dcX9 (s : Bool × Text) (A : Option Addr) (c : Nat) : CmdV := ⟨9, ⟨#[]⟩, ⟨#[]⟩, 0, 0, 0, 0, 0, 0, 0, numV (numS s), numV (numS (numS s)), numV (numS (numS (numS s))), ⟨#[]⟩, false, false, ⟨#[]⟩, 0, ⟨#[]⟩, ⟨#[]⟩, ⟨#[]⟩, none, [], 0⟩
noncomputable def dcS9 (s : Bool × Text) : Bool × Text := (numS (numS (numS (numS s))))
noncomputable def dcX10 (s : Bool × Text) (A : Option Addr) (c : Nat) : CmdV := ⟨10, ⟨#[]⟩, ⟨#[]⟩, 0, 0, 0, 0, 0, 0, 0, numV (numS s), numV (numS (numS s)), numV (numS (numS (numS s))), ⟨#[]⟩, false, false, ⟨#[]⟩, 0, ⟨#[]⟩, ⟨#[]⟩, ⟨#[]⟩, none, [], 0⟩
noncomputable def dcS10 (s : Bool × Text) : Bool × Text := (numS (numS (numS (numS s))))
noncomputable def dcX11 (s : Bool × Text) (A : Option Addr) (c : Nat) : CmdV := ⟨11, ⟨#[]⟩, ⟨#[]⟩, 0, 0, 0, 0, 0, 0, 0, 3, numV (numS s), 1, ⟨#[]⟩, false, false, ⟨#[]⟩, 0, ⟨#[]⟩, ⟨#[]⟩, ⟨#[]⟩, none, [], 0⟩
noncomputable def dcS11 (s : Bool × Text) : Bool × Text := (numS (numS s))
noncomputable def dcX0 (s : Bool × Text) (A : Option Addr) (c : Nat) : CmdV := ⟨numV s, ⟨#[]⟩, ⟨#[]⟩, 0, 0, 0, 0, 0, 0, 0, 0, 0, 0, ⟨#[]⟩, false, false, ⟨#[]⟩, 0, ⟨#[]⟩, ⟨#[]⟩, ⟨#[]⟩, none, [], 0⟩
noncomputable def dcS0 (s : Bool × Text) : Bool × Text := (numS s)
/-- what stands in bytes: a command, and what is left -/
noncomputable def dcX (s : Bool × Text) (A : Option Addr) (c : Nat) : CmdV := if numV s = 1 then dcX1 s A c else if numV s = 2 then dcX2 s A c else if numV s = 3 then dcX3 s A c else if numV s = 4 then dcX4 s A c else if numV s = 5 then dcX5 s A c else if numV s = 6 then dcX6 s A c else if numV s = 7 then dcX7 s A c else if numV s = 8 then dcX8 s A c else if numV s = 9 then dcX9 s A c else if numV s = 10 then dcX10 s A c else if numV s = 11 then dcX11 s A c else dcX0 s A c
noncomputable def dcS (s : Bool × Text) : Bool × Text := if numV s = 1 then dcS1 s else if numV s = 2 then dcS2 s else if numV s = 3 then dcS3 s else if numV s = 4 then dcS4 s else if numV s = 5 then dcS5 s else if numV s = 6 then dcS6 s else if numV s = 7 then dcS7 s else if numV s = 8 then dcS8 s else if numV s = 9 then dcS9 s else if numV s = 10 then dcS10 s else if numV s = 11 then dcS11 s else dcS0 s
theorem dcX_1 {s : Bool × Text} {A : Option Addr} {c : Nat} (h : numV s = 1) : dcX s A c = dcX1 s A c := by unfold dcX; rw [if_pos h]
theorem dcS_1 {s : Bool × Text} (h : numV s = 1) : dcS s = dcS1 s := by unfold dcS; rw [if_pos h]
theorem dcX_2 {s : Bool × Text} {A : Option Addr} {c : Nat} (h : numV s = 2) : dcX s A c = dcX2 s A c := by unfold dcX; rw [if_neg (by omega)]; rw [if_pos h]
theorem dcS_2 {s : Bool × Text} (h : numV s = 2) : dcS s = dcS2 s := by unfold dcS; rw [if_neg (by omega)]; rw [if_pos h]
theorem dcX_3 {s : Bool × Text} {A : Option Addr} {c : Nat} (h : numV s = 3) : dcX s A c = dcX3 s A c := by unfold dcX; rw [if_neg (by omega)]; rw [if_neg (by omega)]; rw [if_pos h]
theorem dcS_3 {s : Bool × Text} (h : numV s = 3) : dcS s = dcS3 s := by unfold dcS; rw [if_neg (by omega)]; rw [if_neg (by omega)]; rw [if_pos h]
theorem dcX_4 {s : Bool × Text} {A : Option Addr} {c : Nat} (h : numV s = 4) : dcX s A c = dcX4 s A c := by unfold dcX; rw [if_neg (by omega)]; rw [if_neg (by omega)]; rw [if_neg (by omega)]; rw [if_pos h]
theorem dcS_4 {s : Bool × Text} (h : numV s = 4) : dcS s = dcS4 s := by unfold dcS; rw [if_neg (by omega)]; rw [if_neg (by omega)]; rw [if_neg (by omega)]; rw [if_pos h]
theorem dcX_5 {s : Bool × Text} {A : Option Addr} {c : Nat} (h : numV s = 5) : dcX s A c = dcX5 s A c := by unfold dcX; rw [if_neg (by omega)]; rw [if_neg (by omega)]; rw [if_neg (by omega)]; rw [if_neg (by omega)]; rw [if_pos h]
theorem dcS_5 {s : Bool × Text} (h : numV s = 5) : dcS s = dcS5 s := by unfold dcS; rw [if_neg (by omega)]; rw [if_neg (by omega)]; rw [if_neg (by omega)]; rw [if_neg (by omega)]; rw [if_pos h]
theorem dcX_6 {s : Bool × Text} {A : Option Addr} {c : Nat} (h : numV s = 6) : dcX s A c = dcX6 s A c := by unfold dcX; rw [if_neg (by omega)]; rw [if_neg (by omega)]; rw [if_neg (by omega)]; rw [if_neg (by omega)]; rw [if_neg (by omega)]; rw [if_pos h]
theorem dcS_6 {s : Bool × Text} (h : numV s = 6) : dcS s = dcS6 s := by unfold dcS; rw [if_neg (by omega)]; rw [if_neg (by omega)]; rw [if_neg (by omega)]; rw [if_neg (by omega)]; rw [if_neg (by omega)]; rw [if_pos h]
theorem dcX_7 {s : Bool × Text} {A : Option Addr} {c : Nat} (h : numV s = 7) : dcX s A c = dcX7 s A c := by unfold dcX; rw [if_neg (by omega)]; rw [if_neg (by omega)]; rw [if_neg (by omega)]; rw [if_neg (by omega)]; rw [if_neg (by omega)]; rw [if_neg (by omega)]; rw [if_pos h]
theorem dcS_7 {s : Bool × Text} (h : numV s = 7) : dcS s = dcS7 s := by unfold dcS; rw [if_neg (by omega)]; rw [if_neg (by omega)]; rw [if_neg (by omega)]; rw [if_neg (by omega)]; rw [if_neg (by omega)]; rw [if_neg (by omega)]; rw [if_pos h]
theorem dcX_8 {s : Bool × Text} {A : Option Addr} {c : Nat} (h : numV s = 8) : dcX s A c = dcX8 s A c := by unfold dcX; rw [if_neg (by omega)]; rw [if_neg (by omega)]; rw [if_neg (by omega)]; rw [if_neg (by omega)]; rw [if_neg (by omega)]; rw [if_neg (by omega)]; rw [if_neg (by omega)]; rw [if_pos h]
theorem dcS_8 {s : Bool × Text} (h : numV s = 8) : dcS s = dcS8 s := by unfold dcS; rw [if_neg (by omega)]; rw [if_neg (by omega)]; rw [if_neg (by omega)]; rw [if_neg (by omega)]; rw [if_neg (by omega)]; rw [if_neg (by omega)]; rw [if_neg (by omega)]; rw [if_pos h]
theorem dcX_9 {s : Bool × Text} {A : Option Addr} {c : Nat} (h : numV s = 9) : dcX s A c = dcX9 s A c := by unfold dcX; rw [if_neg (by omega)]; rw [if_neg (by omega)]; rw [if_neg (by omega)]; rw [if_neg (by omega)]; rw [if_neg (by omega)]; rw [if_neg (by omega)]; rw [if_neg (by omega)]; rw [if_neg (by omega)]; rw [if_pos h]
theorem dcS_9 {s : Bool × Text} (h : numV s = 9) : dcS s = dcS9 s := by unfold dcS; rw [if_neg (by omega)]; rw [if_neg (by omega)]; rw [if_neg (by omega)]; rw [if_neg (by omega)]; rw [if_neg (by omega)]; rw [if_neg (by omega)]; rw [if_neg (by omega)]; rw [if_neg (by omega)]; rw [if_pos h]
theorem dcX_10 {s : Bool × Text} {A : Option Addr} {c : Nat} (h : numV s = 10) : dcX s A c = dcX10 s A c := by unfold dcX; rw [if_neg (by omega)]; rw [if_neg (by omega)]; rw [if_neg (by omega)]; rw [if_neg (by omega)]; rw [if_neg (by omega)]; rw [if_neg (by omega)]; rw [if_neg (by omega)]; rw [if_neg (by omega)]; rw [if_neg (by omega)]; rw [if_pos h]
theorem dcS_10 {s : Bool × Text} (h : numV s = 10) : dcS s = dcS10 s := by unfold dcS; rw [if_neg (by omega)]; rw [if_neg (by omega)]; rw [if_neg (by omega)]; rw [if_neg (by omega)]; rw [if_neg (by omega)]; rw [if_neg (by omega)]; rw [if_neg (by omega)]; rw [if_neg (by omega)]; rw [if_neg (by omega)]; rw [if_pos h]
theorem dcX_11 {s : Bool × Text} {A : Option Addr} {c : Nat} (h : numV s = 11) : dcX s A c = dcX11 s A c := by unfold dcX; rw [if_neg (by omega)]; rw [if_neg (by omega)]; rw [if_neg (by omega)]; rw [if_neg (by omega)]; rw [if_neg (by omega)]; rw [if_neg (by omega)]; rw [if_neg (by omega)]; rw [if_neg (by omega)]; rw [if_neg (by omega)]; rw [if_neg (by omega)]; rw [if_pos h]
theorem dcS_11 {s : Bool × Text} (h : numV s = 11) : dcS s = dcS11 s := by unfold dcS; rw [if_neg (by omega)]; rw [if_neg (by omega)]; rw [if_neg (by omega)]; rw [if_neg (by omega)]; rw [if_neg (by omega)]; rw [if_neg (by omega)]; rw [if_neg (by omega)]; rw [if_neg (by omega)]; rw [if_neg (by omega)]; rw [if_neg (by omega)]; rw [if_pos h]
theorem dcX_0 {s : Bool × Text} {A : Option Addr} {c : Nat} (h : numV s < 1 ∨ 11 < numV s) : dcX s A c = dcX0 s A c := by unfold dcX; rw [if_neg (by omega)]; rw [if_neg (by omega)]; rw [if_neg (by omega)]; rw [if_neg (by omega)]; rw [if_neg (by omega)]; rw [if_neg (by omega)]; rw [if_neg (by omega)]; rw [if_neg (by omega)]; rw [if_neg (by omega)]; rw [if_neg (by omega)]; rw [if_neg (by omega)]
theorem dcS_0 {s : Bool × Text} (h : numV s < 1 ∨ 11 < numV s) : dcS s = dcS0 s := by unfold dcS; rw [if_neg (by omega)]; rw [if_neg (by omega)]; rw [if_neg (by omega)]; rw [if_neg (by omega)]; rw [if_neg (by omega)]; rw [if_neg (by omega)]; rw [if_neg (by omega)]; rw [if_neg (by omega)]; rw [if_neg (by omega)]; rw [if_neg (by omega)]; rw [if_neg (by omega)]
theorem rd_cases (n : Int) : n = 1 ∨ n = 2 ∨ n = 3 ∨ n = 4 ∨ n = 5 ∨ n = 6 ∨ n = 7 ∨ n = 8 ∨ n = 9 ∨ n = 10 ∨ n = 11 ∨ (n < 1 ∨ 11 < n) := by omega
theorem text_small (s : Bool × Text) : (textV s).size ≤ 65536 := by
 cases hp : textP s.2 with
 | none => unfold textV; rw [hp]; exact Nat.zero_le _
 | some p =>
   have h := (text_step (s := (false, s.2)) (r := p.2) (by unfold textS; rw [hp])).2
   exact h
theorem lines_small (k : Nat) (s : Bool × Text) : ∀ r ∈ (linesR k s).1, r.2.2.1.size ≤ 65536 ∧ r.2.2.2.1.size ≤ 65536 ∧ r.2.2.2.2.1.size ≤ 65536 := by
 induction k with
 | zero => intro r hr; exact absurd hr (by simp [linesR])
 | succ k ih =>
   intro r hr
   rcases List.mem_append.1 hr with h | h
   · exact ih r h
   · rw [List.mem_singleton] at h
     subst h
     exact ⟨text_small _, text_small _, text_small _⟩
theorem doc_small (s : Bool × Text) : (docR s).1.1.size ≤ 65536 ∧ (docR s).1.2.2.2.1.size ≤ 65536 ∧ (docR s).1.2.2.2.2.2.1.size ≤ 65536 ∧ (docR s).1.2.2.2.2.2.2.1.size ≤ 65536 ∧ (docR s).1.2.2.2.2.2.2.2.size ≤ 65536 ∧ (∀ r ∈ (docR s).2.1, r.2.2.1.size ≤ 65536 ∧ r.2.2.2.1.size ≤ 65536 ∧ r.2.2.2.2.1.size ≤ 65536) ∧ (docR s).2.1.length ≤ 64 := by
 by_cases h : 64 < numV (headS s)
 · have e : docR s = (noHead, [], numS (headS s)) := by unfold docR; rw [if_pos h]
   rw [e]
   exact ⟨Nat.zero_le _, Nat.zero_le _, Nat.zero_le _, Nat.zero_le _, Nat.zero_le _, fun r hr => absurd hr (by simp), Nat.zero_le _⟩
 · have e : docR s = (headV s, (linesR (numV (headS s)).toNat (numS (headS s))).1, (linesR (numV (headS s)).toNat (numS (headS s))).2) := by unfold docR; rw [if_neg h]
   rw [e]
   refine ⟨text_small _, text_small _, text_small _, text_small _, text_small _, lines_small _ _, ?_⟩
   rw [linesR_len]
   omega
theorem dcX_lines (s : Bool × Text) (A : Option Addr) (c : Nat) : (dcX s A c).lines = (dcX s none 0).lines := by
 rcases rd_cases (numV s) with h | h | h | h | h | h | h | h | h | h | h | h
 · rw [dcX_1 h, dcX_1 h]; rfl
 · rw [dcX_2 h, dcX_2 h]; rfl
 · rw [dcX_3 h, dcX_3 h]; rfl
 · rw [dcX_4 h, dcX_4 h]; rfl
 · rw [dcX_5 h, dcX_5 h]; rfl
 · rw [dcX_6 h, dcX_6 h]; rfl
 · rw [dcX_7 h, dcX_7 h]; rfl
 · rw [dcX_8 h, dcX_8 h]; rfl
 · rw [dcX_9 h, dcX_9 h]; rfl
 · rw [dcX_10 h, dcX_10 h]; rfl
 · rw [dcX_11 h, dcX_11 h]; rfl
 · rw [dcX_0 h, dcX_0 h]; rfl
theorem dcX_few (s : Bool × Text) (A : Option Addr) (c : Nat) : (dcX s A c).lines.length ≤ 64 := by
 rcases rd_cases (numV s) with h | h | h | h | h | h | h | h | h | h | h | h
 · rw [dcX_1 h]; exact Nat.zero_le _
 · rw [dcX_2 h]; exact Nat.zero_le _
 · rw [dcX_3 h]; exact Nat.zero_le _
 · rw [dcX_4 h]; exact Nat.zero_le _
 · rw [dcX_5 h]; exact Nat.zero_le _
 · rw [dcX_6 h]; exact Nat.zero_le _
 · rw [dcX_7 h]; exact Nat.zero_le _
 · rw [dcX_8 h]; exact (doc_small (numS s)).2.2.2.2.2.2
 · rw [dcX_9 h]; exact Nat.zero_le _
 · rw [dcX_10 h]; exact Nat.zero_le _
 · rw [dcX_11 h]; exact Nat.zero_le _
 · rw [dcX_0 h]; exact Nat.zero_le _
theorem dcX_ok {w : World} {s : Bool × Text} {A : Option Addr} {c : Nat} (hr : RowLineV w A (dcX s none 0).lines) (hA : A = none → (dcX s none 0).lines = [] ∧ c = 0) (hc : (dcX s none 0).lines.length ≤ c) (hm : c ≤ maxLen) : CmdVOk w (dcX s A c) := by
 rw [← dcX_lines s A c] at hr hA hc
 have z : (⟨#[]⟩ : ByteArray).size ≤ 140737488351232 := Nat.zero_le _
 have tx : ∀ s, (textV s).size ≤ 140737488351232 := fun s => Nat.le_trans (text_small s) (by omega)
 have d := doc_small (numS s)
 rcases rd_cases (numV s) with h | h | h | h | h | h | h | h | h | h | h | h
 · rw [dcX_1 h]; exact ⟨tx _, z, z, z, z, z, z, RowLineV.nil, fun _ => ⟨rfl, rfl⟩, Nat.le_refl _, Nat.zero_le _, fun r hr => absurd hr (by simp [dcX1])⟩
 · rw [dcX_2 h]; exact ⟨tx _, z, z, z, z, z, z, RowLineV.nil, fun _ => ⟨rfl, rfl⟩, Nat.le_refl _, Nat.zero_le _, fun r hr => absurd hr (by simp [dcX2])⟩
 · rw [dcX_3 h]; exact ⟨z, z, z, z, z, z, z, RowLineV.nil, fun _ => ⟨rfl, rfl⟩, Nat.le_refl _, Nat.zero_le _, fun r hr => absurd hr (by simp [dcX3])⟩
 · rw [dcX_4 h]; exact ⟨tx _, tx _, z, z, z, z, z, RowLineV.nil, fun _ => ⟨rfl, rfl⟩, Nat.le_refl _, Nat.zero_le _, fun r hr => absurd hr (by simp [dcX4])⟩
 · rw [dcX_5 h]; exact ⟨z, tx _, z, z, z, z, z, RowLineV.nil, fun _ => ⟨rfl, rfl⟩, Nat.le_refl _, Nat.zero_le _, fun r hr => absurd hr (by simp [dcX5])⟩
 · rw [dcX_6 h]; exact ⟨z, tx _, z, z, z, z, z, RowLineV.nil, fun _ => ⟨rfl, rfl⟩, Nat.le_refl _, Nat.zero_le _, fun r hr => absurd hr (by simp [dcX6])⟩
 · rw [dcX_7 h]; exact ⟨z, z, z, z, z, z, z, RowLineV.nil, fun _ => ⟨rfl, rfl⟩, Nat.le_refl _, Nat.zero_le _, fun r hr => absurd hr (by simp [dcX7])⟩
 · rw [dcX_8 h] at hr hA hc ⊢
   exact ⟨z, z, Nat.le_trans d.1 (by omega), Nat.le_trans d.2.1 (by omega), Nat.le_trans d.2.2.1 (by omega), Nat.le_trans d.2.2.2.1 (by omega), Nat.le_trans d.2.2.2.2.1 (by omega), hr, hA, hc, hm, fun r hr => ⟨Nat.le_trans (d.2.2.2.2.2.1 r hr).1 (by omega), Nat.le_trans (d.2.2.2.2.2.1 r hr).2.1 (by omega), Nat.le_trans (d.2.2.2.2.2.1 r hr).2.2 (by omega)⟩⟩
 · rw [dcX_9 h]; exact ⟨z, z, z, z, z, z, z, RowLineV.nil, fun _ => ⟨rfl, rfl⟩, Nat.le_refl _, Nat.zero_le _, fun r hr => absurd hr (by simp [dcX9])⟩
 · rw [dcX_10 h]; exact ⟨z, z, z, z, z, z, z, RowLineV.nil, fun _ => ⟨rfl, rfl⟩, Nat.le_refl _, Nat.zero_le _, fun r hr => absurd hr (by simp [dcX10])⟩
 · rw [dcX_11 h]; exact ⟨z, z, z, z, z, z, z, RowLineV.nil, fun _ => ⟨rfl, rfl⟩, Nat.le_refl _, Nat.zero_le _, fun r hr => absurd hr (by simp [dcX11])⟩
 · rw [dcX_0 h]; exact ⟨z, z, z, z, z, z, z, RowLineV.nil, fun _ => ⟨rfl, rfl⟩, Nat.le_refl _, Nat.zero_le _, fun r hr => absurd hr (by simp [dcX0])⟩
theorem dcX_none {s : Bool × Text} (h8 : numV s ≠ 8) : (dcX s none 0).lines = [] := by
 rcases rd_cases (numV s) with h | h | h | h | h | h | h | h | h | h | h | h
 · rw [dcX_1 h]; rfl
 · rw [dcX_2 h]; rfl
 · rw [dcX_3 h]; rfl
 · rw [dcX_4 h]; rfl
 · rw [dcX_5 h]; rfl
 · rw [dcX_6 h]; rfl
 · rw [dcX_7 h]; rfl
 · exact absurd h h8
 · rw [dcX_9 h]; rfl
 · rw [dcX_10 h]; rfl
 · rw [dcX_11 h]; rfl
 · rw [dcX_0 h]; rfl
theorem dcX_noneA {s : Bool × Text} (h8 : numV s ≠ 8) : (dcX s none 0).linesA = none := by
 rcases rd_cases (numV s) with h | h | h | h | h | h | h | h | h | h | h | h
 · rw [dcX_1 h]; rfl
 · rw [dcX_2 h]; rfl
 · rw [dcX_3 h]; rfl
 · rw [dcX_4 h]; rfl
 · rw [dcX_5 h]; rfl
 · rw [dcX_6 h]; rfl
 · rw [dcX_7 h]; rfl
 · exact absurd h h8
 · rw [dcX_9 h]; rfl
 · rw [dcX_10 h]; rfl
 · rw [dcX_11 h]; rfl
 · rw [dcX_0 h]; rfl
end Go.Proofs.YtmjjenemokojjaaGreat
