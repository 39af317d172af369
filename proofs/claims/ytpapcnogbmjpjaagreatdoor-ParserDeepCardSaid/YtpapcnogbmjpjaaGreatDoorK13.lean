/- A node, made. What a parser reads: the grammar as plain functions, trees as they lie. -/
import Derived.Test.YtpapcnogbmjpjaaGreatDoorK12
namespace Go.Proofs.YtpapcnogbmjpjaaGreatDoor
open Go.RowKit
set_option maxRecDepth 100000
set_option linter.unusedSimpArgs false
set_option linter.unusedVariables false
attribute [local go_sem] Oper.semAt_some

theorem build_node (k : Int) (A : Option Addr) (n c : Nat) (w : World) : (Instr.build 32 #[(0, .int .i64 k), (4, .slice A n c)]).run Tryz.prog w = .ok (.agg #[.int .i64 k, .int .i64 0, .string ⟨#[]⟩, .slice none 0 0, .slice A n c]) w := run_build w 32 _ _ (by kernel_rfl)
set_option maxHeartbeats 1000000 in
theorem code_node (w : World) (k : Int) (A : Option Addr) (n c : Nat) : Calls Tryz.prog 63 #[.int .i64 k, .slice A n c] w fun e w' => e = .returned (.agg #[.int .i64 k, .int .i64 0, .string ⟨#[]⟩, .slice none 0 0, .slice A n c]) ∧ Below w.heap.size w w' := by
  have H0 := Lib.hid (heap_alloc_new w (.cells #[.int .i64 0, .int .i64 0, .string ⟨#[]⟩, .slice none 0 0, .slice none 0 0] 32))
  have HBF := Lib.hid (box_row w #[.int .i64 0, .int .i64 0, .string ⟨#[]⟩, .slice none 0 0, .slice none 0 0] #[.int .i64 k, .int .i64 0, .string ⟨#[]⟩, .slice none 0 0, .slice A n c] 32 rfl)
  have hbn := build_node k A n c
  go_enter Tryz.func63, Tryz.ntmps63
  go_wp2_with ((with_reducible refine wpList_store_row (o := ⟨none, _, _, _, _, _⟩) 32 ?b0 (.tmp 4) (.tmp 7) ?b1 w.heap.size ?b2 [.int .i64 k, .int .i64 0, .string ⟨#[]⟩, .slice none 0 0, .slice A n c] ?b3 ?b4 ?b5 #[.int .i64 0, .int .i64 0, .string ⟨#[]⟩, .slice none 0 0, .slice none 0 0] ?b6 32 ?b7 ?_); (case b0 => rfl); (case b1 => rfl); (case b2 => rfl); (case b3 => exact expr_info); (case b4 => simp [Value.oneCell']); (case b5 => rfl); (case b6 => rfl); (case b7 => exact H0.out); (try simp only [Act.put]); refine Stop.out ?_)
  unfold Stop
  generalize World.setRow _ _ _ = w9 at HBF ⊢
  obtain ⟨g, hg⟩ : ∃ g, g = w.heap.size := ⟨_, rfl⟩
  rw [← hg] at HBF ⊢
  go_wp2
  exact bodyPost_ret (results_cell_row Tryz.results63 _ _ g 32 #[.int .i64 k, .int .i64 0, .string ⟨#[]⟩, .slice none 0 0, .slice A n c] (0, 0) _ rfl HBF.out.2 Tryz.underlying32 rfl expr_info) rfl ⟨rfl, hg ▸ HBF.out.1⟩
end Go.Proofs.YtpapcnogbmjpjaaGreatDoor

namespace Go.Proofs.YtpapcnogbmjpjaaGreatDoor
open Go.RowKit
set_option maxRecDepth 100000
set_option linter.unusedSimpArgs false
set_option linter.unusedVariables false
attribute [local go_sem] Oper.semAt_some

/-- a filter: its tag, its sign, its number -/
structure FilV where
  tag : ByteArray
  sg : Int
  n : Int
/-- a tree without its rows -/
inductive Sh where
  | mk (kind n : Int) (field : ByteArray) (fs : List FilV) (kids : List Sh)
def filC (f : FilV) : List Value := [.string f.tag, .int .u8 f.sg, .int .i64 f.n]
def filCs (l : List FilV) : List Value := l.flatMap filC
/-- a row of filters, as it is held -/
def FilAt (w : World) (fA : Option Addr) (fn fc : Nat) (fs : List FilV) : Prop := (fs = [] ∧ fA = none ∧ fn = 0 ∧ fc = 0) ∨
  ∃ g cs, fA = some ⟨g, 0, none⟩ ∧ fn = fs.length ∧ fn ≤ fc ∧ fc ≤ maxLen ∧ w.heap[g]? = some (Obj.cells cs 60 (0, 0)) ∧ ∀ (j : Nat) (v : Value), (filCs fs)[j]? = some v → cs[j]? = some v
theorem FilAt.keep {w w' : World} {fA : Option Addr} {fn fc : Nat} {fs : List FilV} (h : FilAt w fA fn fc fs) (hk : ∀ (g : Nat) (cs : Array Value), w.heap[g]? = some (Obj.cells cs 60 (0, 0)) → w'.heap[g]? = some (Obj.cells cs 60 (0, 0))) : FilAt w' fA fn fc fs := by
  rcases h with h | ⟨g, cs, h1, h2, h3, h4, h5, h6⟩
  · exact .inl h
  · exact .inr ⟨g, cs, h1, h2, h3, h4, hk g cs h5, h6⟩
mutual
  /-- a tree with rows is that tree -/
  def Shows (w : World) : Tr → Sh → Prop
    | .mk k n f fA fn fc _ _ ks, .mk k' n' f' fs ks' => k = k' ∧ n = n' ∧ f = f' ∧ FilAt w fA fn fc fs ∧ ShowsL w ks ks'
  def ShowsL (w : World) : List Tr → List Sh → Prop
    | [], [] => True
    | t :: ts, s :: ss => Shows w t s ∧ ShowsL w ts ss
    | _, _ => False
end
mutual
  theorem Shows.keep {w w' : World} (hk : ∀ (g : Nat) (cs : Array Value), w.heap[g]? = some (Obj.cells cs 60 (0, 0)) → w'.heap[g]? = some (Obj.cells cs 60 (0, 0))) : ∀ (t : Tr) (s : Sh), Shows w t s → Shows w' t s
    | .mk _ _ _ _ _ _ _ _ ks, .mk _ _ _ _ ks', h => by
      unfold Shows at h ⊢
      exact ⟨h.1, h.2.1, h.2.2.1, h.2.2.2.1.keep hk, ShowsL.keep hk ks ks' h.2.2.2.2⟩
  theorem ShowsL.keep {w w' : World} (hk : ∀ (g : Nat) (cs : Array Value), w.heap[g]? = some (Obj.cells cs 60 (0, 0)) → w'.heap[g]? = some (Obj.cells cs 60 (0, 0))) : ∀ (l : List Tr) (s : List Sh), ShowsL w l s → ShowsL w' l s
    | [], [], _ => by unfold ShowsL; trivial
    | t :: ts, s :: ss, h => by
      unfold ShowsL at h ⊢
      exact ⟨Shows.keep hk t s h.1, ShowsL.keep hk ts ss h.2⟩
    | [], _ :: _, h => by unfold ShowsL at h; exact h.elim
    | _ :: _, [], h => by unfold ShowsL at h; exact h.elim
end
/-- what a reading comes to -/
inductive PR (α : Type) where
  | ok (a : α) (s : Rd)
  | flt (at_ k : Int)
  | out
def bxB : ByteArray := ⟨#[98, 111, 120]⟩
def smB : ByteArray := ⟨#[115, 117, 109]⟩
def mnB : ByteArray := ⟨#[109, 105, 110]⟩
def mxB : ByteArray := ⟨#[109, 97, 120]⟩
def clB : ByteArray := ⟨#[99, 108, 97, 109, 112]⟩
def opB : ByteArray := ⟨#[40]⟩
def shB : ByteArray := ⟨#[41]⟩
def cmB : ByteArray := ⟨#[44]⟩
def plB : ByteArray := ⟨#[43]⟩
def miB : ByteArray := ⟨#[45]⟩
def posP (en : Int) (s : Rd) : Int := (nextT en s).2.1
def skipP (x : ByteArray) (s : Rd) : Option Rd := match s.T with | [] => none | t :: L => if t.2.2.1 = x then some { s with T := L } else none
def takeP' (k en : Int) (s : Rd) : PR TokV := match s.T with | [] => .flt en 81 | t :: L => if t.1 = k then .ok t { s with T := L } else .flt t.2.1 81
def boxNP (en : Int) (s : Rd) : PR Int := match takeP' 2 en s with
  | .ok t s1 => .ok t.2.2.2 { s1 with nb := s1.nb || !decide (1 ≤ t.2.2.2 ∧ t.2.2.2 ≤ 9999) }
  | .flt a k => .flt a k
  | .out => .out
def leafS (k n : Int) : Sh := .mk k n ⟨#[]⟩ [] []
def nodeS (k : Int) (l : List Sh) : Sh := .mk k 0 ⟨#[]⟩ [] l
/-- the grammar; how a Total is read is given -/
structure Gr where
  en : Int
  total : Rd → PR Sh
mutual
  def termP (G : Gr) : Nat → Nat → Rd → PR Sh
    | 0, _, _ => .out
    | f + 1, d, s => if d = 64 then .flt (posP G.en s) 82 else match skipP miB s with
      | some s1 => match termP G f (d + 1) s1 with
        | .ok x s2 => .ok (nodeS 6 [x]) s2
        | .flt a k => .flt a k
        | .out => .out
      | none => primP G f (d + 1) s
  def primP (G : Gr) : Nat → Nat → Rd → PR Sh
    | 0, _, _ => .out
    | f + 1, d, s => match skipP bxB s with
      | some s1 => match boxNP G.en s1 with
        | .ok n s2 => .ok (leafS 2 n) s2
        | .flt a k => .flt a k
        | .out => .out
      | none => match skipP smB s with
        | some s1 => G.total s1
        | none => match skipP mnB s with
          | some s1 => match brackP G f 2 d opB s1 with
            | .ok l s2 => .ok (nodeS 7 l) s2
            | .flt a k => .flt a k
            | .out => .out
          | none => match skipP mxB s with
            | some s1 => match brackP G f 2 d opB s1 with
              | .ok l s2 => .ok (nodeS 8 l) s2
              | .flt a k => .flt a k
              | .out => .out
            | none => match skipP clB s with
              | some s1 => match brackP G f 3 d opB s1 with
                | .ok l s2 => .ok (nodeS 9 l) s2
                | .flt a k => .flt a k
                | .out => .out
              | none => if (nextT G.en s).2.2.1 = opB then match brackP G f 1 d opB s with
                  | .ok l s2 => .ok (l.headD (leafS 0 0)) s2
                  | .flt a k => .flt a k
                  | .out => .out
                else match takeP' 2 G.en s with
                  | .ok t s1 => .ok (leafS 1 t.2.2.2) s1
                  | .flt a k => .flt a k
                  | .out => .out
  def brackP (G : Gr) : Nat → Nat → Nat → ByteArray → Rd → PR (List Sh)
    | 0, _, _, _, _ => .out
    | f + 1, 0, _, _, s => match skipP shB s with
      | some s1 => .ok [] s1
      | none => .flt (posP G.en s) 81
    | f + 1, m + 1, d, btw, s => match skipP btw s with
      | some s1 => match exprP G f d s1 with
        | .ok x s2 => match brackP G f m d cmB s2 with
          | .ok l s3 => .ok (x :: l) s3
          | .flt a k => .flt a k
          | .out => .out
        | .flt a k => .flt a k
        | .out => .out
      | none => .flt (posP G.en s) 81
  def exprP (G : Gr) : Nat → Nat → Rd → PR Sh
    | 0, _, _ => .out
    | f + 1, d, s => match termP G f d s with
      | .ok x s1 => loopP G f d x s1
      | .flt a k => .flt a k
      | .out => .out
  def loopP (G : Gr) : Nat → Nat → Sh → Rd → PR Sh
    | 0, _, _, _ => .out
    | f + 1, d, x, s => match skipP plB s with
      | some s1 => match termP G f d s1 with
        | .ok y s2 => loopP G f d (nodeS 4 [x, y]) s2
        | .flt a k => .flt a k
        | .out => .out
      | none => match skipP miB s with
        | some s1 => match termP G f d s1 with
          | .ok y s2 => loopP G f d (nodeS 5 [x, y]) s2
          | .flt a k => .flt a k
          | .out => .out
        | none => .ok x s
end
/-- a tree that was read: where it lies, and what it is -/
structure TreeQ (B : Nat) (w : World) (t : Tr) (s : Sh) : Prop where
  at_ : AtT w t
  nd : (bT t).Nodup
  ge : ∀ b ∈ bT t, B ≤ b
  sh : Shows w t s
theorem rd_block {w : World} {R : Nat} {en : Int} {s : Rd} (h : RdAt w R en s) : ∃ cs, w.heap[R]? = some (Obj.cells cs 79 (0, 0)) := by
  obtain ⟨A, c, h1, _⟩ := h
  exact ⟨_, h1⟩
theorem TreeQ.chg {B R : Nat} {w w' : World} {t : Tr} {s : Sh} (h : TreeQ B w t s) (hR : R < B) {cs : Array Value} (hr : w.heap[R]? = some (Obj.cells cs 79 (0, 0))) (hc : Chg R w w') : TreeQ B w' t s :=
  ⟨h.at_.on t (fun k hk => hc.heap (AtT.lt t h.at_ k hk) (by have := h.ge k hk; omega)) hc.size, h.nd, h.ge, h.sh.keep (fun g cs' hg => (hc.heap (heapLt hg) (fun e => by
    rw [e, hr] at hg
    injection hg with hg
    injection hg with _ h2 _
    exact absurd h2 (by decide))).trans hg) t s⟩
theorem TreeQ.on {B : Nat} {w w' : World} {t : Tr} {s : Sh} (h : TreeQ B w t s) (hb : Below w.heap.size w w') : TreeQ B w' t s :=
  ⟨h.at_.on t (fun k hk => hb.block k (AtT.lt t h.at_ k hk)) hb.size, h.nd, h.ge, h.sh.keep (fun g cs' hg => heap_on hb hg) t s⟩
theorem TreeQ.less {B B' : Nat} {w : World} {t : Tr} {s : Sh} (h : TreeQ B w t s) (hB : B' ≤ B) : TreeQ B' w t s := ⟨h.at_, h.nd, fun b hb => Nat.le_trans hB (h.ge b hb), h.sh⟩
/-- a leaf without filters -/
def leafT (k n : Int) : Tr := .mk k n ⟨#[]⟩ none 0 0 0 0 []
theorem leaf_tree (B : Nat) (w : World) (k n : Int) : TreeQ B w (leafT k n) (leafS k n) :=
  ⟨by unfold leafT AtT AtL; exact ⟨trivial, fun h => absurd rfl h⟩, by simp [leafT, bT, bK, bL], by simp [leafT, bT, bK, bL], by unfold leafT leafS Shows ShowsL; exact ⟨rfl, rfl, rfl, .inl ⟨rfl, rfl, rfl, rfl⟩, trivial⟩⟩
end Go.Proofs.YtpapcnogbmjpjaaGreatDoor
