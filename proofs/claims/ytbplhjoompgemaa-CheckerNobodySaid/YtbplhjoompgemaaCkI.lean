/- Rows of boxes that have leaves; whether they may be. -/
import Derived.Test.YtbplhjoompgemaaCkH
namespace Go.Proofs.Ytbplhjoompgemaa
open Go.RowKit
set_option maxRecDepth 100000
set_option linter.unusedSimpArgs false
set_option linter.unusedVariables false
attribute [local go_sem] Oper.semAt_some

/-- a box that has a leaf: its number, the leaf's kind and number -/
abbrev LB := Int × Int × Int
def lbC (b : LB) : List Value := [.int .i64 b.1, .int .i64 b.2.1, .int .i64 b.2.2, .string ⟨#[]⟩, .slice none 0 0, .slice none 0 0]
def lbCs (l : List LB) : List Value := l.flatMap lbC
theorem lbCs_len : ∀ l : List LB, (lbCs l).length = 6 * l.length := by
  intro l
  induction l with
  | nil => rfl
  | cons t l ih =>
    have : lbCs (t :: l) = lbC t ++ lbCs l := rfl
    rw [this, List.length_append, ih, List.length_cons]
    show 6 + _ = _
    omega
theorem lbCs_append (a b : List LB) : lbCs (a ++ b) = lbCs a ++ lbCs b := List.flatMap_append
theorem lbCs_one (l : List LB) : ∀ u ∈ lbCs l, u.oneCell' = true := by
  intro u hu
  obtain ⟨b, _, hb⟩ := List.mem_flatMap.1 hu
  simp only [lbC, List.mem_cons, List.not_mem_nil, or_false] at hb
  rcases hb with rfl | rfl | rfl | rfl | rfl | rfl <;> simp [Value.oneCell']
theorem lbCs_at : ∀ (l : List LB) (i : Nat) (h : i < l.length) (j : Nat), j < 6 → (lbCs l)[6 * i + j]? = (lbC l[i])[j]? := by
  intro l
  induction l with
  | nil => intro i h; exact absurd h (Nat.not_lt_zero _)
  | cons t l ih =>
    intro i h j hj
    have e : lbCs (t :: l) = lbC t ++ lbCs l := rfl
    have hl : (lbC t).length = 6 := rfl
    cases i with
    | zero =>
      rw [e, Nat.mul_zero, Nat.zero_add, List.getElem?_append_left (by rw [hl]; exact hj)]
      rfl
    | succ i =>
      rw [e, List.getElem?_append_right (by rw [hl]; omega), hl, show 6 * (i + 1) + j - 6 = 6 * i + j by omega]
      exact ih i (by simpa using h) j hj
/-- a row of them, from a block's start on -/
def RowB (w : World) (b : Nat) (l : List LB) : Prop := ∃ cs : Array Value, w.heap[b]? = some (.cells cs 43 (0, 0)) ∧ ∀ (j : Nat) (v : Value), (lbCs l)[j]? = some v → cs[j]? = some v
theorem RowB.to {w w' : World} {b : Nat} {l : List LB} (h : RowB w b l) (hw : w'.heap[b]? = w.heap[b]?) : RowB w' b l := by
  obtain ⟨cs, h1, h2⟩ := h
  exact ⟨cs, hw.trans h1, h2⟩
theorem RowB.lt {w : World} {b : Nat} {l : List LB} (h : RowB w b l) : b < w.heap.size := by
  obtain ⟨cs, h1, h2⟩ := h
  exact heapLt h1
theorem RowB.on {w w' : World} {b : Nat} {l : List LB} (h : RowB w b l) (hb : Below w.heap.size w w') : RowB w' b l := h.to (hb.block b h.lt)
theorem RowB.cells {w : World} {b : Nat} {l : List LB} (h : RowB w b l) (i : Nat) (hi : i < l.length) : ∀ (j : Nat) (v : Value), (lbC l[i])[j]? = some v → w.cell? ⟨b, i * 6 + j, none⟩ = some v := fun j v hv => by
  obtain ⟨cs, h1, h2⟩ := h
  have hj : j < 6 := (List.getElem?_eq_some_iff.1 hv).1
  rw [Nat.mul_comm i 6]
  exact cell_of_row w b _ _ _ _ h1 |>.trans (h2 _ _ ((lbCs_at l i hi j hj).trans hv))
theorem box_info : (Try.prog.info? 43).map (·.size) = some 6 := by kernel_rfl
/-- a box that may be -/
def LBOk (b : LB) : Prop := (1 ≤ b.1 ∧ b.1 ≤ 9999) ∧ LeafOk b.2.1 b.2.2
theorem field_expr (a b c : Int) (s : ByteArray) (W : World) : Sem.run Try.prog (Instr.field 43 (.agg #[.int .i64 a, .int .i64 b, .int .i64 c, .string s, .slice none 0 0, .slice none 0 0]) 1) W = .ok (.agg #[.int .i64 b, .int .i64 c, .string s, .slice none 0 0, .slice none 0 0]) W := by kernel_rfl
set_option maxHeartbeats 2000000 in
theorem code_goodBox (b : LB) (h : LBOk b) (w : World) : Calls Try.prog 28 #[.agg (lbC b).toArray] w fun e w' => e = .returned (.bool true) ∧ Below w.heap.size w w' := by
  obtain ⟨n0, n1, n2⟩ := b
  obtain ⟨⟨h1, h2⟩, h3⟩ := h
  have HI := Lib.hid (code_isBox_yes n0 h1 h2)
  have HG := Lib.hid (code_GoodExpr n1 n2 h3)
  have hx : (lbC (n0, n1, n2)).toArray = #[.int .i64 n0, .int .i64 n1, .int .i64 n2, .string ⟨#[]⟩, .slice none 0 0, .slice none 0 0] := rfl
  rw [hx]
  have H0 := Lib.hid (heap_alloc_new w (.cells #[.int .i64 n0, .int .i64 n1, .int .i64 n2, .string ⟨#[]⟩, .slice none 0 0, .slice none 0 0] 43))
  have HB0 := Lib.hid (below_alloc w (.cells #[.int .i64 n0, .int .i64 n1, .int .i64 n2, .string ⟨#[]⟩, .slice none 0 0, .slice none 0 0] 43))
  clear h1 h2 h3 hx
  go_enter Try.func28, Try.ntmps28
  go_wp2_with (go_at_call 37; refine (HI.out _).mono ?_; rintro e w2 ⟨rfl, rfl⟩; refine Stop.out ?_)
  unfold Stop
  obtain ⟨e0, e1, e2, e3, e4, e5⟩ := row6c H0.out
  go_wp2_with (go_at_call 38; refine (HG.out _).mono ?_; rintro e w3 ⟨rfl, hb⟩; refine Stop.out ?_)
  unfold Stop
  have HB3 := Lib.hid (below_then HB0.out hb)
  clear hb e0 e1 e2 e3 e4 e5
  go_wp2
  go_ret
  exact ⟨rfl, HB3.out⟩
set_option maxHeartbeats 4000000 in
theorem code_all_boxes (b c : Nat) (l : List LB) (w : World) (hl : l.length ≤ 20) (hr : RowB w b l) (hok : ∀ x ∈ l, LBOk x) : Calls Try.prog 27 #[.slice (some ⟨b, 0, none⟩) l.length c, .func (.func 28) #[] #[]] w fun e w' => e = .returned (.bool true) ∧ Below w.heap.size w w' := by
  have HR := Lib.hid hr
  have HOk := Lib.hid hok
  have hln : (l.length : Int) ≤ 20 := by omega
  clear hr hok hl
  go_enter Try.func27, Try.ntmps27
  go_wp2
  go_loopw [9] (fun v9 wr => ∃ k : Nat, k ≤ l.length ∧ v9 = .int .i64 (k : Nat) ∧ Hid (Below w.heap.size w wr)) (fun v9 _ => l.length - (intOf v9).toNat)
  case atStart => exact ⟨0, Nat.zero_le _, rfl, Lib.hid (Below.refl _ _)⟩
  case round =>
    obtain ⟨k, hk, rfl, HB⟩ := hrel
    by_cases hlt : k < l.length
    · have HRow := Lib.hid (HR.out.on HB.out)
      obtain ⟨tk, htk⟩ : ∃ t, t = l[k] := ⟨_, rfl⟩
      have HC := Lib.hid (HRow.out.cells k hlt)
      have hOk := HOk.out l[k] (List.getElem_mem _)
      rw [← htk] at HC hOk
      have HG := Lib.hid (fun W => code_goodBox tk hOk W)
      obtain ⟨n0, n1, n2⟩ := tk
      have hx : (lbC (n0, n1, n2)).toArray = #[.int .i64 n0, .int .i64 n1, .int .i64 n2, .string ⟨#[]⟩, .slice none 0 0, .slice none 0 0] := rfl
      rw [hx] at HG
      clear htk hx hOk
      have u0 := HC.out 0 _ rfl
      rw [Nat.add_zero] at u0
      have u1 := HC.out 1 _ rfl
      have u2 := HC.out 2 _ rfl
      have u3 := HC.out 3 _ rfl
      have u4 := HC.out 4 _ rfl
      have u5 := HC.out 5 _ rfl
      clear HC
      have HN := Lib.hid (heap_alloc_new wr (.cells #[.int .i64 0, .int .i64 0, .int .i64 0, .string ⟨#[]⟩, .slice none 0 0, .slice none 0 0] 43))
      have HBF := Lib.hid (box_row wr #[.int .i64 0, .int .i64 0, .int .i64 0, .string ⟨#[]⟩, .slice none 0 0, .slice none 0 0] #[.int .i64 n0, .int .i64 n1, .int .i64 n2, .string ⟨#[]⟩, .slice none 0 0, .slice none 0 0] 43 rfl)
      go_wp2_with ((with_reducible refine wpList_store_row (o := ⟨none, _, _, _, _, _⟩) 43 ?b0 (.tmp 6) (.tmp 12) ?b1 wr.heap.size ?b2 [.int .i64 n0, .int .i64 n1, .int .i64 n2, .string ⟨#[]⟩, .slice none 0 0, .slice none 0 0] ?b3 ?b4 ?b5 #[.int .i64 0, .int .i64 0, .int .i64 0, .string ⟨#[]⟩, .slice none 0 0, .slice none 0 0] ?b6 43 ?b7 ?_); (case b0 => rfl); (case b1 => rfl); (case b2 => rfl); (case b3 => exact box_info); (case b4 => simp [Value.oneCell']); (case b5 => rfl); (case b6 => rfl); (case b7 => exact HN.out); (try simp only [Act.put]); refine Stop.out ?_)
      unfold Stop
      clear u0 u1 u2 u3 u4 u5 HN
      generalize World.setRow _ _ _ = ws at HBF ⊢
      obtain ⟨g, hg⟩ : ∃ g, g = wr.heap.size := ⟨_, rfl⟩
      have HB5 : Hid (Below wr.heap.size wr ws) := Lib.hid HBF.out.1
      rw [← hg] at HBF ⊢
      clear hg
      obtain ⟨y0, y1, y2, y3, y4, y5⟩ := row6c HBF.out.2
      go_wp2_with (go_at_call 28; refine (HG.out _).mono ?_; rintro e w3 ⟨rfl, hb⟩; refine Stop.out ?_)
      unfold Stop
      have HB6 := Lib.hid (below_then HB.out (below_then HB5.out hb))
      clear hb y0 y1 y2 y3 y4 y5 HBF
      go_wp2
      exact ⟨⟨k + 1, by omega, by simp, HB6⟩, by simp [intOf]; omega⟩
    · obtain rfl : k = l.length := by omega
      go_wp2
      go_ret
      exact ⟨rfl, HB.out⟩
theorem code_Good (b c : Nat) (l : List LB) (w : World) (hl : l.length ≤ 20) (hr : RowB w b l) (hok : ∀ x ∈ l, LBOk x) : Calls Try.prog 16 #[.slice (some ⟨b, 0, none⟩) l.length c] w fun e w' => e = .returned (.bool true) ∧ Below w.heap.size w w' := by
  have HA := Lib.hid (code_all_boxes b c l w hl hr hok)
  have hln : (l.length : Int) ≤ 256 := by omega
  clear hl hr hok
  go_enter Try.func16, Try.ntmps16
  go_wp2_with (go_at_call 27; refine HA.out.mono ?_; rintro e w3 ⟨rfl, hb⟩; refine Stop.out ?_)
  unfold Stop
  have HB := Lib.hid hb
  clear hb
  go_wp2
  go_ret
  exact ⟨rfl, HB.out⟩
end Go.Proofs.Ytbplhjoompgemaa
