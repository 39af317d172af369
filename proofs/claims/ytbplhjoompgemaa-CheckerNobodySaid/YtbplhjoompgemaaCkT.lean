/- Trees, as a program makes them. -/
import Derived.Test.YtbplhjoompgemaaCkM
namespace Go.Proofs.Ytbplhjoompgemaa
open Go.RowKit
set_option maxRecDepth 100000
set_option linter.unusedSimpArgs false
set_option linter.unusedVariables false
attribute [local go_sem] Oper.semAt_some

/-- a tree: Kind, N, Field, Filters as they lie, the row of its Kids, how many it has room for, the Kids -/
inductive Tr where
  | mk (kind n : Int) (field : ByteArray) (fA : Option Addr) (fn fc : Nat) (kb kc : Nat) (kids : List Tr)
namespace Tr
def kids : Tr → List Tr | mk _ _ _ _ _ _ _ _ ks => ks
def kind : Tr → Int | mk k _ _ _ _ _ _ _ _ => k
def num : Tr → Int | mk _ n _ _ _ _ _ _ _ => n
end Tr
/-- a list of Kids, as it is held -/
def kidsV (kb kc : Nat) (ks : List Tr) : Value := match ks with | [] => .slice none 0 0 | _ :: _ => .slice (some ⟨kb, 0, none⟩) ks.length kc
def keyOf (kb : Nat) (ks : List Tr) : Key := match ks with | [] => (none, 0) | _ :: _ => (some (kb, 0), ks.length)
def exC : Tr → List Value | .mk k n f fA fn fc kb kc ks => [.int .i64 k, .int .i64 n, .string f, .slice fA fn fc, kidsV kb kc ks]
def exCs (l : List Tr) : List Value := l.flatMap exC
theorem exC_len (t : Tr) : (exC t).length = 5 := by cases t; rfl
theorem exCs_len : ∀ l : List Tr, (exCs l).length = 5 * l.length := by
  intro l
  induction l with
  | nil => rfl
  | cons t l ih =>
    have : exCs (t :: l) = exC t ++ exCs l := rfl
    rw [this, List.length_append, exC_len, ih, List.length_cons]
    omega
theorem exCs_at : ∀ (l : List Tr) (i : Nat) (h : i < l.length) (j : Nat), j < 5 → (exCs l)[5 * i + j]? = (exC l[i])[j]? := by
  intro l
  induction l with
  | nil => intro i h; exact absurd h (Nat.not_lt_zero _)
  | cons t l ih =>
    intro i h j hj
    have e : exCs (t :: l) = exC t ++ exCs l := rfl
    cases i with
    | zero =>
      rw [e, Nat.mul_zero, Nat.zero_add, List.getElem?_append_left (by rw [exC_len]; exact hj)]
      rfl
    | succ i =>
      rw [e, List.getElem?_append_right (by rw [exC_len]; omega), exC_len, show 5 * (i + 1) + j - 5 = 5 * i + j by omega]
      exact ih i (by simpa using h) j hj
/-- a row of trees, from a block's start on -/
def RowTr (w : World) (kb : Nat) (l : List Tr) : Prop := ∃ cs : Array Value, w.heap[kb]? = some (.cells cs 41 (0, 0)) ∧ ∀ (j : Nat) (v : Value), (exCs l)[j]? = some v → cs[j]? = some v
theorem RowTr.on {w w' : World} {kb : Nat} {l : List Tr} (h : RowTr w kb l) (hw : w'.heap[kb]? = w.heap[kb]?) : RowTr w' kb l := by
  obtain ⟨cs, h1, h2⟩ := h
  exact ⟨cs, hw.trans h1, h2⟩
theorem RowTr.lt {w : World} {kb : Nat} {l : List Tr} (h : RowTr w kb l) : kb < w.heap.size := by
  obtain ⟨cs, h1, h2⟩ := h
  exact heapLt h1
theorem RowTr.cells {w : World} {kb : Nat} {l : List Tr} (h : RowTr w kb l) (i : Nat) (hi : i < l.length) : ∀ (j : Nat) (v : Value), (exC l[i])[j]? = some v → w.cell? ⟨kb, 5 * i + j, none⟩ = some v := fun j v hv => by
  obtain ⟨cs, h1, h2⟩ := h
  have hj : j < 5 := by
    have := (List.getElem?_eq_some_iff.1 hv).1
    rw [exC_len] at this
    exact this
  exact cell_of_row w kb _ _ _ _ h1 |>.trans (h2 _ _ ((exCs_at l i hi j hj).trans hv))
mutual
  /-- how deep -/
  def dep : Tr → Nat | .mk _ _ _ _ _ _ _ _ ks => 1 + depL ks
  def depL : List Tr → Nat | [] => 0 | t :: ts => max (dep t) (depL ts)
end
mutual
  /-- where its Kids' rows lie -/
  def bT : Tr → List Nat | .mk _ _ _ _ _ _ kb _ ks => bK kb ks (bL ks)
  def bL : List Tr → List Nat | [] => [] | t :: ts => bT t ++ bL ts
  def bK (kb : Nat) : List Tr → List Nat → List Nat | [], _ => [] | _ :: _, l => kb :: l
end
mutual
  /-- how it lies -/
  def AtT (w : World) : Tr → Prop | .mk _ _ _ _ _ _ kb kc ks => AtL w ks ∧ (ks ≠ [] → RowTr w kb ks ∧ ks.length ≤ kc ∧ kc ≤ maxLen)
  def AtL (w : World) : List Tr → Prop | [] => True | t :: ts => AtT w t ∧ AtL w ts
end
mutual
  theorem AtT.on {w w' : World} : ∀ (t : Tr), AtT w t → (∀ k ∈ bT t, w'.heap[k]? = w.heap[k]?) → w.heap.size ≤ w'.heap.size → AtT w' t
    | .mk _ _ _ _ _ _ kb kc ks, h, hw, hs => by
      unfold AtT at h ⊢
      refine ⟨AtL.on ks h.1 (fun k hk => ?_) hs, fun hn => ?_⟩
      · refine hw k ?_
        unfold bT
        cases ks with
        | nil => simp [bL] at hk
        | cons a b => simp [bK, hk]
      · refine ⟨(h.2 hn).1.on (hw kb ?_), (h.2 hn).2⟩
        unfold bT
        cases ks with
        | nil => exact absurd rfl hn
        | cons a b => simp [bK]
  theorem AtL.on {w w' : World} : ∀ (l : List Tr), AtL w l → (∀ k ∈ bL l, w'.heap[k]? = w.heap[k]?) → w.heap.size ≤ w'.heap.size → AtL w' l
    | [], _, _, _ => by unfold AtL; trivial
    | t :: ts, h, hw, hs => by
      unfold AtL at h ⊢
      exact ⟨AtT.on t h.1 (fun k hk => hw k (by unfold bL; simp [hk])) hs, AtL.on ts h.2 (fun k hk => hw k (by unfold bL; simp [hk])) hs⟩
end
mutual
  theorem AtT.lt {w : World} : ∀ (t : Tr), AtT w t → ∀ k ∈ bT t, k < w.heap.size
    | .mk _ _ _ _ _ _ kb kc ks, h, k, hk => by
      unfold AtT at h
      unfold bT at hk
      cases hks : ks with
      | nil => rw [hks] at hk; simp [bK] at hk
      | cons a b =>
        rw [hks] at hk
        rcases List.mem_cons.1 hk with rfl | hk
        · exact (h.2 (by rw [hks]; simp)).1.lt
        · exact AtL.lt ks h.1 k (by rw [hks]; exact hk)
  theorem AtL.lt {w : World} : ∀ (l : List Tr), AtL w l → ∀ k ∈ bL l, k < w.heap.size
    | [], _, k, hk => by unfold bL at hk; cases hk
    | t :: ts, h, k, hk => by
      unfold AtL at h
      unfold bL at hk
      rcases List.mem_append.1 hk with hk | hk
      · exact AtT.lt t h.1 k hk
      · exact AtL.lt ts h.2 k hk
end
theorem AtL.at_ {w : World} : ∀ {l : List Tr}, AtL w l → ∀ t ∈ l, AtT w t := by
  intro l
  induction l with
  | nil => intro _ t ht; cases ht
  | cons a l ih =>
    intro h t ht
    unfold AtL at h
    rcases List.mem_cons.1 ht with rfl | ht
    · exact h.1
    · exact ih h.2 t ht
theorem list_info : (Try.prog.info? 68).map (·.size) = some 2 := by kernel_rfl
theorem expr_info : (Try.prog.info? 41).map (·.size) = some 5 := by kernel_rfl
set_option maxHeartbeats 1000000 in
/-- where Kids lie, told -/
theorem code_listOf (kb kc : Nat) (ks : List Tr) (hm : ks.length ≤ maxLen) (w : World) : Calls Try.prog 41 #[kidsV kb kc ks] w fun e w' => e = .returned (kV (keyOf kb ks)) ∧ Below w.heap.size w w' := by
  have H0 := Lib.hid (heap_alloc_new w (.cells #[.pointer none, .int .i64 0] 68))
  have hzz := Try.sizeOf41
  cases ks with
  | nil =>
    have HBF := Lib.hid (box_row w #[.pointer none, .int .i64 0] #[.pointer none, .int .i64 0] 68 rfl)
    unfold kidsV keyOf kV ptrK
    go_enter Try.func41, Try.ntmps41
    go_wp2_with ((with_reducible refine wpList_store_row (o := ⟨none, _, _, _, _, _⟩) 68 ?b0 (.tmp 2) (.tmp 6) ?b1 w.heap.size ?b2 [.pointer none, .int .i64 0] ?b3 ?b4 ?b5 #[.pointer none, .int .i64 0] ?b6 68 ?b7 ?_); (case b0 => rfl); (case b1 => rfl); (case b2 => rfl); (case b3 => exact list_info); (case b4 => simp [Value.oneCell']); (case b5 => rfl); (case b6 => rfl); (case b7 => exact H0.out); (try simp only [Act.put]); refine Stop.out ?_)
    unfold Stop
    generalize World.setRow _ _ _ = w9 at HBF ⊢
    obtain ⟨g, hg⟩ : ∃ g, g = w.heap.size := ⟨_, rfl⟩
    rw [← hg] at HBF ⊢
    go_wp2
    exact bodyPost_ret (results_cell_row Try.results41 _ _ g 68 #[.pointer none, .int .i64 0] (0, 0) _ rfl HBF.out.2 Try.underlying68 rfl list_info) rfl ⟨rfl, hg ▸ HBF.out.1⟩
  | cons t ts =>
    unfold maxLen at hm
    simp only [List.length_cons] at hm
    have HBF := Lib.hid (box_row w #[.pointer none, .int .i64 0] #[.pointer (some ⟨kb, 0, none⟩), .int .i64 ((ts.length : Int) + 1)] 68 rfl)
    have hq : (((ts.length : Int) + 1) == 0) = false := by simp; omega
    have hl0 : (0 : Int) < (ts.length : Int) + 1 := by omega
    have hkk : kV (keyOf kb (t :: ts)) = .agg #[.pointer (some ⟨kb, 0, none⟩), .int .i64 ((ts.length : Int) + 1)] := rfl
    rw [hkk]
    unfold kidsV
    simp only [List.length_cons]
    go_enter Try.func41, Try.ntmps41
    go_wp2_with ((with_reducible refine wpList_store_row (o := ⟨none, _, _, _, _, _⟩) 68 ?b0 (.tmp 2) (.tmp 11) ?b1 w.heap.size ?b2 [.pointer (some ⟨kb, 0, none⟩), .int .i64 ((ts.length : Int) + 1)] ?b3 ?b4 ?b5 #[.pointer none, .int .i64 0] ?b6 68 ?b7 ?_); (case b0 => rfl); (case b1 => rfl); (case b2 => rfl); (case b3 => exact list_info); (case b4 => simp [Value.oneCell']); (case b5 => rfl); (case b6 => rfl); (case b7 => exact H0.out); (try simp only [Act.put]); refine Stop.out ?_)
    unfold Stop
    generalize World.setRow _ _ _ = w9 at HBF ⊢
    obtain ⟨g, hg⟩ : ∃ g, g = w.heap.size := ⟨_, rfl⟩
    rw [← hg] at HBF ⊢
    go_wp2
    exact bodyPost_ret (results_cell_row Try.results41 _ _ g 68 #[.pointer (some ⟨kb, 0, none⟩), .int .i64 ((ts.length : Int) + 1)] (0, 0) _ rfl HBF.out.2 Try.underlying68 rfl list_info) rfl ⟨rfl, hg ▸ HBF.out.1⟩
end Go.Proofs.Ytbplhjoompgemaa
