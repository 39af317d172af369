/- The parser: its reader; what stands next. The parser: what is raised; what is gone over. -/
import Derived.Test.YtpapcnogbmjpjaaGreatDoorK6
import Derived.Laws.Tables
import Derived.Laws.Rows
import Derived.Laws.CopyOwn
import Derived.WalkMore
namespace Go.Proofs.YtpapcnogbmjpjaaGreatDoor
open Go.RowKit
set_option maxRecDepth 100000
set_option linter.unusedSimpArgs false
set_option linter.unusedVariables false
attribute [local go_sem] Oper.semAt_some

theorem row4c {W : World} {g : Nat} {a b c d : Value} {t : TypeId} (h : W.heap[g]? = some (.cells #[a, b, c, d] t (0, 0))) : W.cell? ⟨g, 0, none⟩ = some a ∧ W.cell? ⟨g, 1, none⟩ = some b ∧ W.cell? ⟨g, 2, none⟩ = some c ∧ W.cell? ⟨g, 3, none⟩ = some d :=
  ⟨cell_of_row W g 0 _ _ _ h, cell_of_row W g 1 _ _ _ h, cell_of_row W g 2 _ _ _ h, cell_of_row W g 3 _ _ _ h⟩
theorem tok_info : (Tryz.prog.info? 96).map (·.size) = some 4 := by kernel_rfl
/-- what a reader has: the tokens that are left, what is wrong -/
structure Rd where
  T : List TokV
  nb : Bool
  lg : Bool
def nextT (en : Int) (s : Rd) : TokV := match s.T with | [] => (0, en, ⟨#[]⟩, 0) | t :: _ => t
/-- a block of tokens -/
def TokB (w : World) (b : Nat) : Prop := ∃ cs : Array Value, w.heap[b]? = some (Obj.cells cs 96 (0, 0))
theorem TokB.on {w w' : World} {b : Nat} (h : TokB w b) (hb : Below w.heap.size w w') : TokB w' b := by
  obtain ⟨cs, h⟩ := h
  exact ⟨cs, heap_on hb h⟩
theorem TokB.off {w : World} {b g : Nat} {cs : Array Value} {T : TypeId} {fr : Nat × Nat} (h : TokB w b) (hg : w.heap[g]? = some (Obj.cells cs T fr)) (hT : T ≠ 96) : b ≠ g := fun e => by
  obtain ⟨cs', h⟩ := h
  rw [e, hg] at h
  injection h with h
  injection h with _ h2 _
  exact hT h2
/-- a reader, where it lies -/
def RdAt (w : World) (R : Nat) (en : Int) (s : Rd) : Prop := ∃ A c, w.heap[R]? = some (.cells #[.slice A s.T.length c, .int .i64 en, .bool s.nb, .bool s.lg] 79 (0, 0)) ∧ RowTokV w A s.T ∧ (∀ b o, A = some ⟨b, o, none⟩ → TokB w b) ∧ s.T.length ≤ c ∧ (c ≤ maxLen ∧ s.T.length ≤ 1048576) ∧ (A = none → s.T = [] ∧ c = 0) ∧ (A = none ∨ ∃ b o, A = some ⟨b, o, none⟩)
theorem RdAt.on {w w' : World} {R : Nat} {en : Int} {s : Rd} (h : RdAt w R en s) (hb : Below w.heap.size w w') : RdAt w' R en s := by
  obtain ⟨A, c, h1, h2, h3⟩ := h
  exact ⟨A, c, heap_on hb h1, h2.on hb, fun b o e => (h3.1 b o e).on hb, h3.2⟩
theorem RdAt.lt {w : World} {R : Nat} {en : Int} {s : Rd} (h : RdAt w R en s) : R < w.heap.size := by
  obtain ⟨A, c, h1, _⟩ := h
  exact heapLt h1
theorem box_row (w : World) (old new : Array Value) (t : TypeId) (hs : old.size = new.size) : Below w.heap.size w ((w.alloc (.cells old t)).setRow w.heap.size new) ∧ ((w.alloc (.cells old t)).setRow w.heap.size new).heap[w.heap.size]? = some (.cells new t (0, 0)) :=
  ⟨below_setRow (below_alloc w _) (Nat.le_refl _) _, setRow_heap _ _ _ _ _ _ (heap_alloc_new w _)⟩
set_option maxHeartbeats 1000000 in
theorem code_next {w : World} {R : Nat} {en : Int} {s : Rd} (h : RdAt w R en s) (t : TokV) (ht : nextT en s = t) : Calls Tryz.prog 75 #[.pointer (some ⟨R, 0, none⟩)] w fun e w' => e = .returned (tokA t) ∧ Below w.heap.size w w' := by
  obtain ⟨A, c, h1, h2, h3, h4, h5, h6, h7⟩ := h
  obtain ⟨T, nb, lg⟩ := s
  have H0 := Lib.hid (heap_alloc_new w (.cells #[.int .i64 0, .int .i64 0, .string ⟨#[]⟩, .int .i64 0] 96))
  cases T with
  | nil =>
    obtain rfl : ((0, en, ⟨#[]⟩, 0) : TokV) = t := ht
    have HBF := Lib.hid (box_row w #[.int .i64 0, .int .i64 0, .string ⟨#[]⟩, .int .i64 0] #[.int .i64 0, .int .i64 en, .string ⟨#[]⟩, .int .i64 0] 96 rfl)
    obtain ⟨c0, c1, c2, c3⟩ := row4c (heap_on (below_alloc w (.cells #[.int .i64 0, .int .i64 0, .string ⟨#[]⟩, .int .i64 0] 96)) h1)
    clear h1 h2 h3 h4 h5 h6 h7
    go_enter Tryz.func75, Tryz.ntmps75
    go_wp2_with ((with_reducible refine wpList_store_row (o := ⟨none, _, _, _, _, _⟩) 96 ?b0 (.tmp 2) (.tmp 13) ?b1 w.heap.size ?b2 [.int .i64 0, .int .i64 en, .string ⟨#[]⟩, .int .i64 0] ?b3 ?b4 ?b5 #[.int .i64 0, .int .i64 0, .string ⟨#[]⟩, .int .i64 0] ?b6 96 ?b7 ?_); (case b0 => rfl); (case b1 => rfl); (case b2 => rfl); (case b3 => exact tok_info); (case b4 => exact oneTok _ _ _ _); (case b5 => rfl); (case b6 => rfl); (case b7 => exact H0.out); (try simp only [Act.put]); refine Stop.out ?_)
    unfold Stop
    generalize World.setRow _ _ _ = w9 at HBF ⊢
    obtain ⟨g, hg⟩ : ∃ g, g = w.heap.size := ⟨_, rfl⟩
    rw [← hg] at HBF ⊢
    go_wp2
    exact bodyPost_ret (results_cell_row Tryz.results75 _ _ g 96 #[.int .i64 0, .int .i64 en, .string ⟨#[]⟩, .int .i64 0] (0, 0) _ rfl HBF.out.2 Tryz.underlying96 rfl tok_info) rfl ⟨rfl, hg ▸ HBF.out.1⟩
  | cons t0 T =>
    obtain rfl : t0 = t := ht
    obtain ⟨b, o, rfl, hbl, y0, y1, y2, y3⟩ := (h2.on (below_alloc w (.cells #[.int .i64 0, .int .i64 0, .string ⟨#[]⟩, .int .i64 0] 96))).at_ 0 (by simp)
    have HBF := Lib.hid (box_row w #[.int .i64 0, .int .i64 0, .string ⟨#[]⟩, .int .i64 0] #[.int .i64 t0.1, .int .i64 t0.2.1, .string t0.2.2.1, .int .i64 t0.2.2.2] 96 rfl)
    obtain ⟨c0, c1, c2, c3⟩ := row4c (heap_on (below_alloc w (.cells #[.int .i64 0, .int .i64 0, .string ⟨#[]⟩, .int .i64 0] 96)) h1)
    have hlen : (T.length : Int) + 1 ≤ 9223372036854775807 := by
      have := Nat.le_trans h4 h5.1
      unfold maxLen at this
      simp at this
      omega
    have hq : (((T.length : Int) + 1) == 0) = false := by simp; omega
    simp only [List.length_cons, List.getElem_cons_zero, Nat.zero_mul, Nat.add_zero] at c0 y0 y1 y2 y3
    obtain ⟨a0, a1, a2, a3⟩ := t0
    clear h1 h2 h3 h4 h5 h6 h7 hbl
    go_enter Tryz.func75, Tryz.ntmps75
    go_wp2_with ((with_reducible refine wpList_store_row (o := ⟨none, _, _, _, _, _⟩) 96 ?b0 (.tmp 2) (.tmp 19) ?b1 w.heap.size ?b2 [.int .i64 a0, .int .i64 a1, .string a2, .int .i64 a3] ?b3 ?b4 ?b5 #[.int .i64 0, .int .i64 0, .string ⟨#[]⟩, .int .i64 0] ?b6 96 ?b7 ?_); (case b0 => rfl); (case b1 => rfl); (case b2 => rfl); (case b3 => exact tok_info); (case b4 => exact oneTok _ _ _ _); (case b5 => rfl); (case b6 => rfl); (case b7 => exact H0.out); (try simp only [Act.put]); refine Stop.out ?_)
    unfold Stop
    generalize World.setRow _ _ _ = w9 at HBF ⊢
    obtain ⟨g, hg⟩ : ∃ g, g = w.heap.size := ⟨_, rfl⟩
    rw [← hg] at HBF ⊢
    go_wp2
    exact bodyPost_ret (results_cell_row Tryz.results75 _ _ g 96 #[.int .i64 a0, .int .i64 a1, .string a2, .int .i64 a3] (0, 0) _ rfl HBF.out.2 Tryz.underlying96 rfl tok_info) rfl ⟨rfl, hg ▸ HBF.out.1⟩
end Go.Proofs.YtpapcnogbmjpjaaGreatDoor

namespace Go.Proofs.YtpapcnogbmjpjaaGreatDoor
open Go.RowKit
set_option maxRecDepth 100000
set_option linter.unusedSimpArgs false
set_option linter.unusedVariables false
attribute [local go_sem] Oper.semAt_some

theorem row2c {W : World} {g : Nat} {a b : Value} {t : TypeId} (h : W.heap[g]? = some (.cells #[a, b] t (0, 0))) : W.cell? ⟨g, 0, none⟩ = some a ∧ W.cell? ⟨g, 1, none⟩ = some b :=
  ⟨cell_of_row W g 0 _ _ _ h, cell_of_row W g 1 _ _ _ h⟩
/-- what is raised -/
def fltV (at_ k : Int) : Value := .iface 77 (.agg #[.int .i64 at_, .int .i64 k])
def Flt (e : Ending) (at_ k : Int) : Prop := e = .panicked [{ v := fltV at_ k, recovered := false }]
/-- a reader's row alone was turned -/
def Chg (R : Nat) (w w' : World) : Prop := w.grownBy w' (some R)
theorem Chg.refl (R : Nat) (w : World) : Chg R w w := World.grownBy.refl w _
theorem Chg.size {R : Nat} {w w' : World} (h : Chg R w w') : w.heap.size ≤ w'.heap.size := World.grownBy.size h
theorem Chg.heap {R : Nat} {w w' : World} (h : Chg R w w') {k : Nat} (hk : k < w.heap.size) (hR : k ≠ R) : w'.heap[k]? = w.heap[k]? := h.block k hk (fun e => hR (Option.some.inj e))
theorem Chg.of {R : Nat} {w w' : World} (h : Below w.heap.size w w') : Chg R w w' := ⟨h.os, h.tape, h.output, h.size, fun k hk _ => h.block k hk⟩
theorem Chg.trans {R : Nat} {a b c : World} (h : Chg R a b) (k : Chg R b c) : Chg R a c :=
  ⟨k.os.trans h.os, k.tape.trans h.tape, k.output.trans h.output, Nat.le_trans (World.grownBy.size h) (World.grownBy.size k), fun i hi hr => (k.block i (Nat.lt_of_lt_of_le hi (World.grownBy.size h)) hr).trans (h.block i hi hr)⟩
theorem Chg.low {R : Nat} {w w' : World} (h : Chg R w w') {B : Nat} (hB : B ≤ R) (hs : B ≤ w.heap.size) : Below B w w' :=
  ⟨h.os, h.tape, h.output, h.size, fun k hk => h.heap (Nat.lt_of_lt_of_le hk hs) (by omega)⟩
theorem Chg.one {R : Nat} (w : World) (i : Nat) (v : Value) : Chg R w (w.setCell ⟨R, i, none⟩ v) :=
  ⟨rfl, rfl, rfl, by rw [World.size_setCell]; exact Nat.le_refl _, fun k _ hr => Below.heap_setCell w _ _ k (fun e => hr (by rw [e]))⟩

theorem tok_at (a b d : Int) (c : ByteArray) (W : World) : Sem.run Tryz.prog (Instr.field 96 (.agg #[.int .i64 a, .int .i64 b, .string c, .int .i64 d]) 1) W = .ok (.int .i64 b) W := by
  first | rfl | kernel_rfl
theorem tok_text (a b d : Int) (c : ByteArray) (W : World) : Sem.run Tryz.prog (Instr.field 96 (.agg #[.int .i64 a, .int .i64 b, .string c, .int .i64 d]) 2) W = .ok (.string c) W := by
  first | rfl | kernel_rfl
theorem tok_n (a b d : Int) (c : ByteArray) (W : World) : Sem.run Tryz.prog (Instr.field 96 (.agg #[.int .i64 a, .int .i64 b, .string c, .int .i64 d]) 3) W = .ok (.int .i64 d) W := by
  first | rfl | kernel_rfl
set_option maxHeartbeats 1000000 in
theorem code_raise {w : World} {R : Nat} {en : Int} {s : Rd} (h : RdAt w R en s) (t : TokV) (ht : nextT en s = t) (k : Int) : Calls Tryz.prog 64 #[.pointer (some ⟨R, 0, none⟩), .int .i64 k] w fun e w' => Flt e t.2.1 k ∧ Below w.heap.size w w' := by
  have H := Lib.hid (code_next h t ht)
  obtain ⟨a0, a1, a2, a3⟩ := t
  clear h ht
  go_enter Tryz.func64, Tryz.ntmps64
  go_wp2_with (go_at_call 75; refine H.out.mono ?_; rintro e w' ⟨rfl, hB⟩)
  try unfold tokA
  have hfa := tok_at a0 a1 a3 a2
  go_wp2

  exact ⟨rfl, rfl, hB⟩
theorem code_must_yes (R : Nat) (w : World) : Calls Tryz.prog 39 #[.pointer (some ⟨R, 0, none⟩), .bool true] w fun e w' => e = .returned (.tuple #[]) ∧ w' = w := by
  have hnot : ∀ (x : Bool) (w : World), (Op.unary .not (.bool x)).run Tryz.prog w = .ok (.bool (!x)) w := fun _ _ => rfl
  go_enter Tryz.func39, Tryz.ntmps39
  go_wp2
  go_end0
  exact ⟨rfl, rfl⟩
theorem code_must_no {w : World} {R : Nat} {en : Int} {s : Rd} (h : RdAt w R en s) (t : TokV) (ht : nextT en s = t) : Calls Tryz.prog 39 #[.pointer (some ⟨R, 0, none⟩), .bool false] w fun e w' => Flt e t.2.1 81 ∧ Below w.heap.size w w' := by
  have hnot : ∀ (x : Bool) (w : World), (Op.unary .not (.bool x)).run Tryz.prog w = .ok (.bool (!x)) w := fun _ _ => rfl
  have H := Lib.hid (code_raise h t ht 81)
  clear h ht
  go_enter Tryz.func39, Tryz.ntmps39
  go_wp2_with (go_at_call 64; refine H.out.mono ?_; rintro e w' ⟨rfl, hB⟩)
  go_wp2
  exact ⟨rfl, rfl, hB⟩
end Go.Proofs.YtpapcnogbmjpjaaGreatDoor
