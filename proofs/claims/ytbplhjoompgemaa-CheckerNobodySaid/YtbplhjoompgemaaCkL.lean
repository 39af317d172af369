/- The boxes that a leaf names. -/
import Derived.Test.YtbplhjoompgemaaCkK
namespace Go.Proofs.Ytbplhjoompgemaa
open Go.RowKit
set_option maxRecDepth 100000
set_option linter.unusedSimpArgs false
set_option linter.unusedVariables false
attribute [local go_sem] Oper.semAt_some

theorem OwnI.on {w w' : World} {B : Nat} {v : Value} {l : List Int} (h : OwnI w B v l) (hb : Below w.heap.size w w') : OwnI w' B v l :=
  World.ownsRow.kept (row := none) h ⟨hb.os, hb.tape, hb.output, hb.size, fun k hk _ => hb.block k hk⟩ (by
    rcases h.2 with ⟨rfl, _⟩ | ⟨g, c, cur, rfl, _⟩
    · exact .inl rfl
    · exact .inr (by simp [Value.ownBlock]))
theorem OwnI.less {w : World} {B B' : Nat} {v : Value} {l : List Int} (h : OwnI w B v l) (hB : B' ≤ B) : OwnI w B' v l := by
  refine ⟨h.1, ?_⟩
  rcases h.2 with h | ⟨g, c, cur, h1, h2, h3⟩
  · exact .inl h
  · exact .inr ⟨g, c, cur, h1, Nat.le_trans hB h2, h3⟩
theorem OwnI.chg {w w' : World} {B m : Nat} {v : Value} {l : List Int} (h : OwnI w B v l) (hc : Chg m w w') (hm : v.ownBlock ≠ some m) : OwnI w' B v l :=
  World.ownsRow.kept (row := some m) h hc (.inr hm)
theorem OwnI.notMap {w : World} {B m : Nat} {v : Value} {l : List Int} (h : OwnI w B v l) {es : Array MapEntry} {c : Nat} (hm : w.heap[m]? = some (.map es c)) : v.ownBlock ≠ some m := by
  rcases h.2 with ⟨rfl, _⟩ | ⟨g, c, cur, rfl, _, hh, _⟩
  · simp [Value.ownBlock]
  · intro e
    simp [Value.ownBlock] at e
    rw [e, hm] at hh
    cases hh
theorem OwnI.lt {w : World} {B : Nat} {v : Value} {l : List Int} (h : OwnI w B v l) : ∀ k, v.ownBlock = some k → B ≤ k ∧ k < w.heap.size := by
  rcases h.2 with ⟨rfl, _⟩ | ⟨g, c, cur, rfl, hB, hh, _⟩
  · intro k hk; simp [Value.ownBlock] at hk
  · intro k hk
    simp [Value.ownBlock] at hk
    subst hk
    exact ⟨hB, heapLt hh⟩
theorem OwnI.form {w : World} {B : Nat} {v : Value} {l : List Int} (h : OwnI w B v l) : (v = .slice none 0 0 ∧ l = []) ∨ ∃ g c, v = .slice (some ⟨g, 0, none⟩) l.length c ∧ B ≤ g ∧ g < w.heap.size ∧ l.length ≤ c ∧ c ≤ maxLen ∧ (∀ j (hj : j < l.length), w.cell? ⟨g, j, none⟩ = some (.int .i64 l[j])) ∧ (∀ j, w.frozen? ⟨g, j, none⟩ = false) := by
  rcases h.2 with ⟨rfl, h0⟩ | ⟨g, c, cur, rfl, hB, hh, hc, hm, hcs, ht⟩
  · exact .inl ⟨rfl, List.eq_nil_of_length_eq_zero h0⟩
  · refine .inr ⟨g, c, rfl, hB, heapLt hh, hc, hm, fun j hj => ?_, fun j => World.ownsRow.frozenAt h j⟩
    have := World.ownsRow.cellAt h j (by simpa using hj)
    rw [this]
    simp [hj]
theorem wpList_append_int {B g : Nat} {w : World} {ops : Array Oper} {rest : List Oper} {o : Oper} {a : Act} {Q : Exit → Act → World → Prop} (hgd : o.guard = none) (s x : Operand)
    (ho : o.op = .call { callee := .builtin .append, args := #[s, x], argTypes := #[30, 30] }) (v : Value) (L : List Int) (n : Int) (T : TypeId) (hs : a.eval s = v) (hown : OwnI w B v L)
    (hg : w.heap[g]? = some (.cells #[.int .i64 n] T (0, 0))) (hx : a.eval x = .slice (some ⟨g, 0, none⟩) 1 1) (hb : B ≤ w.heap.size) (hL : L.length ≤ 1000)
    (h : ∀ v' w', OwnI w' B v' (L ++ [n]) → w.grownBy w' v.ownBlock → (v'.ownBlock = v.ownBlock ∨ v'.ownBlock = some w.heap.size) → wpList Try.prog ops Q rest (a.put o.dst v') w') :
    wpList Try.prog ops Q (o :: rest) a w := by
  obtain ⟨i0, hi, hz0, hz1, hz2⟩ := info_parts factI
  refine wpList_append_own_at (P := Try.prog) _ hgd s x 30 ho B 3 i0 (.int .i64 0) 1 8 Try.underlying30 hi hz0 hz1 hz2 rfl (by decide) v L.length (L.map (.int .i64)) hs hown ⟨g, 0, none⟩ 1 1 [.int .i64 n] hx rfl ?_ ?_ (by unfold maxLen; omega) (by omega) hb fun v' w' k1 k2 _ k4 => ?_
  · intro j u hu
    cases j with
    | zero =>
      simp at hu
      subst hu
      have h7 : (⟨g, 0, none⟩ : Addr).add 0 = ⟨g, 0, none⟩ := by simp [Addr.add]
      rw [h7]
      exact (one_cell hg).1
    | succ j => simp at hu
  · intro u hu
    simp at hu
    subst hu
    rfl
  · refine h v' w' ?_ k2 k4
    unfold OwnI
    simpa using k1
/-- what a leaf names -/
def refL (k n : Int) : List Int := if k = 2 then [n] else []
def RefQ (R B : Nat) (l : List Int) (w : World) : Prop := ∃ v, w.heap[R]? = some (.cells #[v] 30 (0, 0)) ∧ OwnI w B v l
theorem set_one {W : World} {B : Nat} {v : Value} {t : TypeId} (v' : Value) (h : W.heap[B]? = some (.cells #[v] t (0, 0))) : (W.setCell ⟨B, 0, none⟩ v').heap[B]? = some (.cells #[v'] t (0, 0)) := by
  simpa using heap_setCell_same W B 0 _ _ v' h
set_option maxHeartbeats 2000000 in
theorem refs1 (R : Nat) (k n : Int) (w : World) (hk : k = 1 ∨ k = 2) (hR : w.heap[R]? = some (.cells #[.slice none 0 0] 30 (0, 0))) (B : Nat) (hB : B ≤ w.heap.size) :
    Calls Try.prog 44 #[lfV k n, .pointer (some ⟨R, 0, none⟩)] w fun e w' => e = .returned (.bool true) ∧ Chg R w w' ∧ RefQ R B (refL k n) w' := by
  have H0 := Lib.hid (heap_alloc_new w (.cells #[.int .i64 k, .int .i64 n, .string ⟨#[]⟩, .slice none 0 0, .slice none 0 0] 41))
  have HB0 := Lib.hid (below_alloc w (.cells #[.int .i64 k, .int .i64 n, .string ⟨#[]⟩, .slice none 0 0, .slice none 0 0] 41))
  have HR := Lib.hid hR
  have HBs := Lib.hid hB
  have hsz : (w.alloc (.cells #[.int .i64 k, .int .i64 n, .string ⟨#[]⟩, .slice none 0 0, .slice none 0 0] 41)).heap.size = w.heap.size + 1 := World.size_alloc _ _
  have HSz := Lib.hid hsz
  clear hR hB hsz
  unfold lfV
  rcases hk with rfl | rfl
  · go_enter Try.func44, Try.ntmps44
    go_wp2
    go_ret
    exact ⟨rfl, Chg.of HB0.out, _, heap_on HB0.out HR.out, OwnI.nil _ _⟩
  · obtain ⟨r0, r1⟩ := one_cell (heap_on HB0.out HR.out)
    go_enter Try.func44, Try.ntmps44
    have hra0 := heap_alloc_new (w.alloc (.cells #[.int .i64 2, .int .i64 n, .string ⟨#[]⟩, .slice none 0 0, .slice none 0 0] 41)) (.cells #[.int .i64 n] 3)
    rw [HSz.out] at hra0
    have hra := Lib.hid hra0
    clear hra0
    have hba := Lib.hid (below_alloc (w.alloc (.cells #[.int .i64 2, .int .i64 n, .string ⟨#[]⟩, .slice none 0 0, .slice none 0 0] 41)) (.cells #[.int .i64 n] 3))
    have hsa : Hid (B ≤ ((w.alloc (.cells #[.int .i64 2, .int .i64 n, .string ⟨#[]⟩, .slice none 0 0, .slice none 0 0] 41)).alloc (.cells #[.int .i64 n] 3)).heap.size) := Lib.hid (Nat.le_trans HBs.out (Nat.le_trans HB0.out.size hba.out.size))
    obtain ⟨e0, e1, e2, e3, e4⟩ := row5c H0.out
    go_wp2_with (at_builtin; refine wpList_append_int rfl _ _ rfl _ [] n 3 rfl (OwnI.nil _ B) hra.out rfl hsa.out (by simp) ?_; intro v' w2 k1 k2 _; have HO := Lib.hid k1; have HG := Lib.hid k2; clear k1 k2; refine Stop.out ?_)
    unfold Stop
    have HB2 : Hid (Below (w.alloc (.cells #[.int .i64 2, .int .i64 n, .string ⟨#[]⟩, .slice none 0 0, .slice none 0 0] 41)).heap.size (w.alloc (.cells #[.int .i64 2, .int .i64 n, .string ⟨#[]⟩, .slice none 0 0, .slice none 0 0] 41)) w2) := Lib.hid (hba.out.grown HG.out hba.out.size (fun k hk => nomatch hk))
    have hR2 := Lib.hid (heap_on HB2.out (heap_on HB0.out HR.out))
    obtain ⟨q0, q1⟩ := one_cell hR2.out
    obtain ⟨gq, cq, hvq⟩ : ∃ g c, v' = .slice (some ⟨g, 0, none⟩) 1 c := by
      rcases HO.out.form with ⟨_, h2⟩ | ⟨g, c, h1, _⟩
      · cases h2
      · exact ⟨g, c, h1⟩
    subst hvq
    clear hra hba hsa HG e0 e1 e2 e3 e4 r0 r1
    go_wp2
    have HF := Lib.hid (set_one (.slice (some ⟨gq, 0, none⟩) 1 cq) hR2.out)
    have HC := Lib.hid (Chg.trans (Chg.of (R := R) (below_then HB0.out HB2.out)) (Chg.one w2 0 (.slice (some ⟨gq, 0, none⟩) 1 cq)))
    have HO2 : Hid (OwnI (w2.setCell ⟨R, 0, none⟩ (.slice (some ⟨gq, 0, none⟩) 1 cq)) B (.slice (some ⟨gq, 0, none⟩) 1 cq) [n]) := Lib.hid (HO.out.chg (Chg.one w2 0 (.slice (some ⟨gq, 0, none⟩) 1 cq)) (fun e => by
      have h1 := HO.out.2
      rcases h1 with ⟨h0, _⟩ | ⟨g, c, cur, h0, _, hh, _⟩
      · cases h0
      · simp [Value.ownBlock] at e
        injection h0 with h0 _ _
        injection h0 with h0
        injection h0 with h0 _ _
        subst h0
        rw [e, hR2.out] at hh
        injection hh with hh
        injection hh with _ h2 _
        exact absurd h2 (by decide)))
    clear q0 q1
    generalize World.setCell _ _ _ = w3 at HF HC HO2 ⊢
    go_ret
    exact ⟨rfl, HC.out, _, HF.out, HO2.out⟩
end Go.Proofs.Ytbplhjoompgemaa
