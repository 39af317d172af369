/- A plan brings its boxes in order. -/
import Derived.Test.YtbplhjoompgemaaCkS
import Derived.Deep.OwnRows
import Derived.Scope
namespace Go.Proofs.Ytbplhjoompgemaa
open Go.RowKit
set_option maxRecDepth 100000
set_option linter.unusedSimpArgs false
set_option linter.unusedVariables false
attribute [local go_sem] Oper.semAt_some

theorem four (w : World) (a b c d : Obj) : Below w.heap.size w ((((w.alloc a).alloc b).alloc c).alloc d) ∧ ((((w.alloc a).alloc b).alloc c).alloc d).heap[w.heap.size]? = some a ∧ ((((w.alloc a).alloc b).alloc c).alloc d).heap[w.heap.size + 1]? = some b ∧
    ((((w.alloc a).alloc b).alloc c).alloc d).heap[w.heap.size + 1 + 1]? = some c ∧ ((((w.alloc a).alloc b).alloc c).alloc d).heap[w.heap.size + 1 + 1 + 1]? = some d := by
  have s1 := World.size_alloc w a
  have s2 := World.size_alloc (w.alloc a) b
  have s3 := World.size_alloc ((w.alloc a).alloc b) c
  have B1 := below_alloc w a
  have B2 := below_alloc (w.alloc a) b
  have B3 := below_alloc ((w.alloc a).alloc b) c
  have B4 := below_alloc (((w.alloc a).alloc b).alloc c) d
  refine ⟨below_then B1 (below_then B2 (below_then B3 B4)), ?_, ?_, ?_, ?_⟩
  · exact heap_on (below_then B2 (below_then B3 B4)) (heap_alloc_new _ a)
  · rw [← s1]; exact heap_on (below_then B3 B4) (heap_alloc_new _ b)
  · rw [← s1, ← s2]; exact heap_on B4 (heap_alloc_new _ c)
  · rw [← s1, ← s2, ← s3]; exact heap_alloc_new _ d
theorem factBool : (Try.prog.info? 4).map (fun i => (i.zero, i.size, i.bytes)) = some (some (.bool false), 1, 1) := by kernel_rfl
theorem code_Len (P : Nat) (A : Option Addr) (n c : Nat) (y z o : Value) (w : World) (h : w.heap[P]? = some (.cells #[.slice A n c, y, z, o] 36 (0, 0))) (hn : n ≤ 20) : Calls Try.prog 12 #[.pointer (some ⟨P, 0, none⟩)] w fun e w' => e = .returned (.int .i64 (n : Nat)) ∧ w = w' := by
  obtain ⟨r0, r1, r2, r3⟩ := row4c h
  have hnz : (n : Int) ≤ 20 := by omega
  clear h hn
  go_enter Try.func12, Try.ntmps12
  go_wp2
  go_ret
  exact ⟨rfl, rfl⟩
/-- what can be next -/
def canP (NN : List (List Int)) (B : List Bool) (i : Nat) : Bool := !getB B i && !((NN.getD i []).any fun x => !getB B x)
def nextP (NN : List (List Int)) (B : List Bool) : Option Nat := (List.range B.length).find? (canP NN B)
/-- the search, so many times -/
def iterP (NN : List (List Int)) : Nat → List Bool × List Int
  | 0 => (List.replicate NN.length false, [])
  | k + 1 => match nextP NN (iterP NN k).1 with
    | some i => ((iterP NN k).1.set i true, (iterP NN k).2 ++ [(i : Int)])
    | none => iterP NN k
theorem iterP_len (NN : List (List Int)) : ∀ k, (iterP NN k).1.length = NN.length := by
  intro k
  induction k with
  | zero => simp [iterP]
  | succ k ih =>
    unfold iterP
    cases nextP NN (iterP NN k).1 with
    | none => exact ih
    | some i => simpa using ih
theorem iterP_some {NN : List (List Int)} {k i : Nat} (hi : i < NN.length) (h1 : canP NN (iterP NN k).1 i = true) (h2 : ∀ j, j < i → canP NN (iterP NN k).1 j = false) : iterP NN (k + 1) = ((iterP NN k).1.set i true, (iterP NN k).2 ++ [(i : Int)]) := by
  have hn : nextP NN (iterP NN k).1 = some i := by
    unfold nextP
    rw [iterP_len, List.find?_range_eq_some]
    exact ⟨h1, by simpa using hi, fun j hj => by simp [h2 j hj]⟩
  conv => lhs; unfold iterP
  rw [hn]
theorem iterP_none {NN : List (List Int)} {k : Nat} (h2 : ∀ j, j < NN.length → canP NN (iterP NN k).1 j = false) : nextP NN (iterP NN k).1 = none := by
  unfold nextP
  rw [List.find?_eq_none]
  intro j hj
  rw [h2 j (by simpa [iterP_len] using hj)]
  simp
/-- what each box needs, as it lies -/
structure NeedsAt (w : World) (B0 : Nat) (nv : Value) (vals : List Value) (NN : List (List Int)) : Prop where
  own : w.ownsRow B0 30 1 nv NN.length vals
  len : vals.length = NN.length
  rows : ∀ (j : Nat) (h : j < vals.length) (h2 : j < NN.length), OwnI w B0 vals[j] NN[j]
theorem NeedsAt.kept {w w' : World} {B0 : Nat} {nv : Value} {vals : List Value} {NN : List (List Int)} (h : NeedsAt w B0 nv vals NN) (hk : ∀ (g : Nat) (cs : Array Value) (T : TypeId), w.heap[g]? = some (Obj.cells cs T (0, 0)) → (T = 30 ∨ T = 3) → w'.heap[g]? = some (Obj.cells cs T (0, 0))) : NeedsAt w' B0 nv vals NN :=
  ⟨own_kept h.own (fun g cs _ hc => hk g cs _ hc (.inl rfl)), h.len, fun j h1 h2 => own_kept (h.rows j h1 h2) (fun g cs _ hc => hk g cs _ hc (.inr rfl))⟩
theorem NeedsAt.cell {w : World} {B0 : Nat} {nv : Value} {vals : List Value} {NN : List (List Int)} (h : NeedsAt w B0 nv vals NN) (i : Nat) (hi : i < NN.length) : ∃ gn nc Ai ci, nv = .slice (some ⟨gn, 0, none⟩) NN.length nc ∧ w.cell? ⟨gn, i, none⟩ = some (.slice Ai (NN[i]).length ci) ∧ ∀ j (hj : j < (NN[i]).length), ∃ g, Ai = some ⟨g, 0, none⟩ ∧ w.cell? ⟨g, j, none⟩ = some (.int .i64 (NN[i])[j]) := by
  have h1 := h.own
  obtain ⟨A, c, e, h2, h3⟩ := own_form h1
  cases A with
  | none => have := (h2 rfl).1; omega
  | some a =>
    obtain ⟨gn, rfl⟩ := h3 a rfl
    subst e
    have hv := h.len
    obtain ⟨Ai, ci, e2, h5⟩ := (h.rows i (by omega) hi).slice
    refine ⟨gn, c, Ai, ci, rfl, ?_, h5⟩
    rw [World.ownsRow.cellAt h1 i (by omega), ← e2]
    simp [show i < vals.length by omega]
/-- a plan on its way -/
structure SortAt (w1 w : World) (P T tb : Nat) (bv mv nv : Value) (n : Nat) (BO : List Bool × List Int) : Prop where
  chg : Chg2 P tb w1 w
  bools : BoolAt w T tb BO.1
  box : ∃ A c, w.heap[P]? = some (.cells #[bv, mv, nv, .slice A BO.2.length c] 36 (0, 0)) ∧ OwnI w w1.heap.size (.slice A BO.2.length c) BO.2
theorem code_can (T tb g1 P La B0 n : Nat) (B : List Bool) (NN : List (List Int)) (nv : Value) (vals : List Value) (i : Nat) (w : World) (h : BoolAt w T tb B) (hBl : B.length = n) (hNl : NN.length = n) (hi : i < n) (hl : n ≤ 20) (hN : NeedsAt w B0 nv vals NN)
    (hNb : ∀ N ∈ NN, N.length ≤ 1000 ∧ ∀ x ∈ N, ∃ i : Nat, x = (i : Nat) ∧ i < n)
    (hg1 : w.cell? ⟨g1, 0, none⟩ = some (.pointer (some ⟨P, 0, none⟩))) (hP : w.cell? ⟨P, 2, none⟩ = some nv) (hLa : w.cell? ⟨La, 0, none⟩ = some (.func (.func 34) #[] #[.pointer (some ⟨T, 0, none⟩)])) :
    Calls Try.prog 35 #[.int .i64 (i : Nat), .pointer (some ⟨T, 0, none⟩), .pointer (some ⟨g1, 0, none⟩), .pointer (some ⟨La, 0, none⟩)] w fun e w' => e = .returned (.bool (canP NN B i)) ∧ Below w.heap.size w w' := by
  have hiN : i < NN.length := by omega
  obtain ⟨gn, nc, Ai, ci, rfl, hc, hcs⟩ := hN.cell i hiN
  have hg : NN.getD i [] = NN[i] := by simp [hiN]
  have hb := hNb NN[i] (List.getElem_mem _)
  unfold canP
  rw [hg]
  cases hq : getB B i with
  | true => exact (can_no T tb g1 P gn La B _ nc i Ai ci NN[i] w h (by omega) (by omega) (by omega) hg1 hP hc hLa hq)
  | false => exact (can_yes T tb g1 P gn La B _ nc i Ai ci NN[i] w h (by omega) (by omega) (by omega) hg1 hP hc hLa hq hb.1 (by rw [hBl]; exact hb.2) hcs)
theorem BoolAt.on {w w' : World} {T tb : Nat} {B : List Bool} (h : BoolAt w T tb B) (hb : Below w.heap.size w w') : BoolAt w' T tb B := ⟨heap_on hb h.1, heap_on hb h.2⟩
theorem BoolAt.ne {w : World} {T tb : Nat} {B : List Bool} (h : BoolAt w T tb B) : T ≠ tb := fun e => by
  have h1 := h.1
  rw [e, h.2] at h1
  injection h1 with h1
  injection h1 with _ h1 _
  exact absurd h1 (by decide)
theorem BoolAt.set {w : World} {T tb : Nat} {B : List Bool} (h : BoolAt w T tb B) (i : Nat) : BoolAt (w.setCell ⟨tb, i, none⟩ (.bool true)) T tb (B.set i true) := by
  refine ⟨?_, ?_⟩
  · rw [List.length_set]; exact (heap_setCell_other w ⟨tb, i, none⟩ T _ h.ne).trans h.1
  · have := heap_setCell_same w tb i _ _ (.bool true) h.2
    rw [this]
    simp
theorem BoolAt.to {w w' : World} {T tb : Nat} {B : List Bool} (h : BoolAt w T tb B) (h1 : w'.heap[T]? = w.heap[T]?) (h2 : w'.heap[tb]? = w.heap[tb]?) : BoolAt w' T tb B := ⟨h1.trans h.1, h2.trans h.2⟩
theorem rd_set3 {w : World} {R : Nat} {a b c d : Value} {T : TypeId} (h : w.heap[R]? = some (.cells #[a, b, c, d] T (0, 0))) (v : Value) : (w.setCell ⟨R, 3, none⟩ v).heap[R]? = some (.cells #[a, b, c, v] T (0, 0)) := by
  simpa using heap_setCell_same w R 3 _ _ v h
theorem cells_ne {w : World} {p q : Nat} {a b : Array Value} {S T : TypeId} {f g : Nat × Nat} (h : w.heap[p]? = some (.cells a S f)) (k : w.heap[q]? = some (.cells b T g)) (hT : S ≠ T) : p ≠ q := fun e => by
  rw [e, k] at h
  injection h with h
  injection h with _ h _
  exact hT h.symm
theorem sort_more {w1 wr w2 w3 p qa qf : World} {P T tb n i : Nat} {bv mv nv : Value} {BO : List Bool × List Int} {A A' : Option Addr} {c c' : Nat} (h : SortAt w1 wr P T tb bv mv nv n BO) (hb : Below wr.heap.size wr w2) (h3 : w3 = w2.setCell ⟨tb, i, none⟩ (.bool true))
    (hp : Below w3.heap.size w3 p) (hbx : p.heap[P]? = some (.cells #[bv, mv, nv, .slice A BO.2.length c] 36 (0, 0))) (ho : OwnI p w1.heap.size (.slice A BO.2.length c) BO.2)
    (hg : p.grownBy qa (Value.slice A BO.2.length c).ownBlock) (hoa : OwnI qa w1.heap.size (.slice A' (BO.2.length + 1) c') (BO.2 ++ [(i : Int)])) (hq : qf = qa.setCell ⟨P, 3, none⟩ (.slice A' (BO.2.length + 1) c')) : SortAt w1 qf P T tb bv mv nv n (BO.1.set i true, BO.2 ++ [(i : Int)]) := by
  have b3 : BoolAt w3 T tb (BO.1.set i true) := by rw [h3]; exact (h.bools.on hb).set i
  have bp := b3.on hp
  have hca : Chg P qa qf := by rw [hq]; exact Chg.one qa 3 _
  have hPa := (hg.block P (heapLt hbx) (Ne.symm (own_off ho hbx (by decide)))).trans hbx
  have hPf : qf.heap[P]? = some (.cells #[bv, mv, nv, .slice A' (BO.2.length + 1) c'] 36 (0, 0)) := by rw [hq]; exact rd_set3 hPa _
  have ba : BoolAt qa T tb (BO.1.set i true) := bp.to (hg.block T (heapLt bp.1) (Ne.symm (own_off ho bp.1 (by decide)))) (hg.block tb (heapLt bp.2) (Ne.symm (own_off ho bp.2 (by decide))))
  have hc2 : Chg tb w2 w3 := by rw [h3]; exact Chg.one w2 i _
  refine ⟨⟨hca.os.trans (hg.os.trans (hp.os.trans (hc2.os.trans (hb.os.trans h.chg.os)))), hca.tape.trans (hg.tape.trans (hp.tape.trans (hc2.tape.trans (hb.tape.trans h.chg.tape)))), hca.output.trans (hg.output.trans (hp.output.trans (hc2.output.trans (hb.output.trans h.chg.output)))),
      Nat.le_trans h.chg.size (Nat.le_trans hb.size (Nat.le_trans hc2.size (Nat.le_trans hp.size (Nat.le_trans hg.size hca.size)))), fun k hk hkP hkt => ?_⟩, ?_, A', c', ?_, ?_⟩
  · have k1 := Nat.lt_of_lt_of_le hk h.chg.size
    have k2 := Nat.lt_of_lt_of_le k1 hb.size
    have k3 := Nat.lt_of_lt_of_le k2 hc2.size
    have k4 := Nat.lt_of_lt_of_le k3 hp.size
    have hno : some k ≠ (Value.slice A BO.2.length c).ownBlock := fun e => by
      have := (own_block ho k e.symm).1
      omega
    exact (hca.heap (Nat.lt_of_lt_of_le k4 hg.size) hkP).trans ((hg.block k k4 hno).trans ((hp.block k k3).trans ((hc2.heap k2 hkt).trans ((hb.block k k1).trans (h.chg.block k hk hkP hkt)))))
  · exact ba.to (hca.heap (heapLt ba.1) (cells_ne ba.1 hPa (by decide))) (hca.heap (heapLt ba.2) (cells_ne ba.2 hPa (by decide)))
  · rw [List.length_append]; exact hPf
  · rw [List.length_append]
    exact hoa.chg hca (own_off hoa hPa (by decide))
theorem sort_end {w w1 wr wi : World} {P tb : Nat} (hb : Below w.heap.size w w1) (hc : Chg2 P tb w1 wr) (hi : Below wr.heap.size wr wi) (ht : w.heap.size ≤ tb) : Chg P w wi :=
  ⟨hi.os.trans (hc.os.trans hb.os), hi.tape.trans (hc.tape.trans hb.tape), hi.output.trans (hc.output.trans hb.output), Nat.le_trans hb.size (Nat.le_trans hc.size hi.size), fun k hk hr => (hi.block k (Nat.lt_of_lt_of_le hk (Nat.le_trans hb.size hc.size))).trans ((hc.block k (Nat.lt_of_lt_of_le hk hb.size) (fun e => hr (by rw [e])) (by omega)).trans (hb.block k hk))⟩
def ordLen (w : World) (P : Nat) : Nat := match w.cell? ⟨P, 3, none⟩ with | some (.slice _ k _) => k | _ => 0
theorem ordLen_of {w : World} {P k c : Nat} {A : Option Addr} (h : w.cell? ⟨P, 3, none⟩ = some (.slice A k c)) : ordLen w P = k := by unfold ordLen; rw [h]
theorem SortAt.ord {w1 w : World} {P T tb n : Nat} {bv mv nv : Value} {BO : List Bool × List Int} (h : SortAt w1 w P T tb bv mv nv n BO) : ordLen w P = BO.2.length := by
  obtain ⟨A, c, h1, _⟩ := h.box
  exact ordLen_of (row4c h1).2.2.2
set_option maxHeartbeats 4000000 in
theorem code_sort (P m b cb n : Nat) (nv : Value) (vals : List Value) (NN : List (List Int)) (B0 : Nat) (w : World) (hn1 : 1 ≤ n) (hl : n ≤ 20) (hNl : NN.length = n)
    (hP : w.heap[P]? = some (.cells #[.slice (some ⟨b, 0, none⟩) n cb, .map (some m), nv, .slice none 0 0] 36 (0, 0))) (hN : NeedsAt w B0 nv vals NN) (hNb : ∀ N ∈ NN, N.length ≤ 1000 ∧ ∀ x ∈ N, ∃ i : Nat, x = (i : Nat) ∧ i < n) :
    Calls Try.prog 21 #[.pointer (some ⟨P, 0, none⟩)] w fun e w' => ∃ k, k ≤ n ∧ e = .returned (.bool (decide (k = n))) ∧ (k < n → nextP NN (iterP NN k).1 = none) ∧ (iterP NN k).2.length = k ∧ Chg P w w' ∧
      ∃ A c, w'.heap[P]? = some (.cells #[.slice (some ⟨b, 0, none⟩) n cb, .map (some m), nv, .slice A k c] 36 (0, 0)) ∧ OwnI w' w.heap.size (.slice A k c) (iterP NN k).2 := by
  have hmf : ∀ (fn : Fn) (first cap : Array Value) (w : World), (Instr.makeFunc fn first cap).run Try.prog w = .ok (.func fn first cap) w := fun _ _ _ _ => rfl
  have hmk := run_make_row' (P := Try.prog) 29 4 (.bool false) 1 Try.underlying29 factBool rfl .i64 .i64 n (by omega) (by omega)
  have HL := Lib.hid (fun W h => code_Len P (some ⟨b, 0, none⟩) n cb (.map (some m)) nv (.slice none 0 0) W h hl)
  have HP := Lib.hid hP
  have HN := Lib.hid hN
  have HNb := Lib.hid hNb
  have HNl := Lib.hid hNl
  have HLn := Lib.hid hl
  have HN1 := Lib.hid hn1
  have hln : (n : Int) ≤ 20 := by omega
  clear hP hN hNb hNl hl hn1
  go_enter Try.func21, Try.ntmps21
  go_wp2
  refine wp_scope_straight ?_
  have hg0 := heap_alloc_new w (.cells #[.pointer (some ⟨P, 0, none⟩)] 25)
  obtain ⟨p0, _⟩ := one_cell hg0
  go_wp2_with (go_at_call 12; refine (HL.out _ (heap_on (below_alloc _ _) HP.out)).mono ?_; rintro e w2 ⟨rfl, rfl⟩; refine Stop.out ?_)
  unfold Stop
  go_wp2
  have h4 := Lib.hid (four w (.cells #[.pointer (some ⟨P, 0, none⟩)] 25) (.cells (madeCells #[.bool false] n) 4) (.cells #[.slice (some ⟨w.heap.size + 1, 0, none⟩) n n] 29) (.cells #[.func (.func 34) #[] #[.pointer (some ⟨w.heap.size + 1 + 1, 0, none⟩)]] 49))
  clear hg0 p0
  generalize World.alloc _ _ = w1 at h4 ⊢
  obtain ⟨g1, hg1⟩ : ∃ g, g = w.heap.size := ⟨_, rfl⟩
  have HBw := Lib.hid h4.out.1
  have HG1 := Lib.hid hg1
  have HPl : Hid (P < g1) := Lib.hid (by rw [hg1]; exact heapLt HP.out)
  rw [← hg1] at h4 ⊢
  clear hg1
  obtain ⟨_, q1, q2, q3, q4⟩ := h4.out
  have hfalse : (madeCells #[.bool false] n : Array Value) = ((List.replicate n false).map Value.bool).toArray := by
    apply Array.ext'
    rw [toList_madeCells_one]
    simp
  rw [hfalse] at q2
  obtain ⟨tb, htb⟩ : ∃ g, g = g1 + 1 := ⟨_, rfl⟩
  obtain ⟨T, hT⟩ : ∃ g, g = tb + 1 := ⟨_, rfl⟩
  obtain ⟨La, hLa⟩ : ∃ g, g = T + 1 := ⟨_, rfl⟩
  rw [← htb] at q2 q3 q4 ⊢
  rw [← hT] at q3 q4 ⊢
  rw [← hLa] at q4 ⊢
  have HSz := Lib.hid (And.intro htb (And.intro hT hLa))
  have HQ1 := Lib.hid q1
  have HQ4 := Lib.hid q4
  have HPw1 := Lib.hid (heap_on HBw.out HP.out)
  have HNw1 : Hid (NeedsAt w1 B0 nv vals NN) := Lib.hid (HN.out.kept (fun g cs T hc _ => heap_on HBw.out hc))
  have HS0 : Hid (SortAt w1 w1 P T tb (.slice (some ⟨b, 0, none⟩) n cb) (.map (some m)) nv n (iterP NN 0)) := Lib.hid ⟨Chg2.refl _ _ _, ⟨by simpa [iterP, HNl.out] using q3, by simpa [iterP, HNl.out] using q2⟩, none, 0, HPw1.out, OwnI.nil _ _⟩
  clear q1 q2 q3 q4 hfalse h4 htb hT hLa HP HN
  go_step3
  go_wp2
  go_loopw [25] (fun v25 wr => ∃ k : Nat, k ≤ n ∧ Hid (SortAt w1 wr P T tb (.slice (some ⟨b, 0, none⟩) n cb) (.map (some m)) nv n (iterP NN k) ∧ (iterP NN k).2.length = k)) (fun _ wr => n - ordLen wr P)
  case atStart => exact ⟨0, Nat.zero_le _, Lib.hid ⟨HS0.out, rfl⟩⟩
  case round =>
    obtain ⟨k, hk, hSK⟩ := hrel
    have HS := Lib.hid hSK.out.1
    have HKl := Lib.hid hSK.out.2
    obtain ⟨Ao, co, hbx, hbo⟩ := hSK.out.1.box
    rw [hSK.out.2] at hbx hbo
    have HBx0 := Lib.hid hbx
    have HBo0 := Lib.hid hbo
    have HG0 : Hid (wr.heap[g1]? = some (.cells #[.pointer (some ⟨P, 0, none⟩)] 25 (0, 0))) := Lib.hid ((HS.out.chg.block g1 (heapLt HQ1.out) (by have := HPl.out; omega) (by have := HSz.out; omega)).trans HQ1.out)
    have hkz : (k : Int) ≤ 20 := by have := HLn.out; omega
    have HHe := Lib.hid (And.intro (heap_on (below_drew wr) HG0.out) (heap_on (below_drew wr) hbx))
    clear hSK hbx hbo
    go_wp2
    refine wp_region_held_drew (S := fun V : World => V.heap[g1]? = some (.cells #[.pointer (some ⟨P, 0, none⟩)] 25 (0, 0)) ∧ V.heap[P]? = some (.cells #[.slice (some ⟨b, 0, none⟩) n cb, .map (some m), nv, .slice Ao k co] 36 (0, 0))) (by kernel_rfl) HHe.out ?_
    intro hHeld
    clear HHe
    have HDw := Lib.hid (below_drew wr)
    generalize wr.drew = wd at hHeld HDw ⊢
    (refine takeH (i := 0) (v := ?_) rfl (by kernel_rfl) (by kernel_rfl) (by kernel_rfl) (fun _ _ _ h => h) (Or.inl ⟨by rfl, ?_⟩) (by assumption) ?_; rotate_left; (focus ((intro wS hSw); (try dsimp only at hSw); obtain ⟨⟨s0, _⟩, r0, r1, r2, r3⟩ := And.intro (one_cell hSw.1) (row4c hSw.2); go_simp; (try with_reducible rfl); done)); (try simp only [Act.put, List.setIfInBounds_toArray, List.set_cons_zero, List.set_cons_succ]))
    (refine takeH (i := 1) (v := ?_) rfl (by kernel_rfl) (by kernel_rfl) (by kernel_rfl) (fun _ _ _ h => h) (Or.inl ⟨by rfl, ?_⟩) (by assumption) ?_; rotate_left; (focus ((intro wS hSw); (try dsimp only at hSw); obtain ⟨⟨s0, _⟩, r0, r1, r2, r3⟩ := And.intro (one_cell hSw.1) (row4c hSw.2); go_simp; (try with_reducible rfl); done)); (try simp only [Act.put, List.setIfInBounds_toArray, List.set_cons_zero, List.set_cons_succ]))
    (refine takeH (i := 2) (v := ?_) rfl (by kernel_rfl) (by kernel_rfl) (by kernel_rfl) (fun _ _ _ h => h) (Or.inl ⟨by rfl, ?_⟩) (by assumption) ?_; rotate_left; (focus ((intro wS hSw); (try dsimp only at hSw); obtain ⟨⟨s0, _⟩, r0, r1, r2, r3⟩ := And.intro (one_cell hSw.1) (row4c hSw.2); go_simp; (try with_reducible rfl); done)); (try simp only [Act.put, List.setIfInBounds_toArray, List.set_cons_zero, List.set_cons_succ]))
    (refine takeH (i := 3) (v := ?_) rfl (by kernel_rfl) (by kernel_rfl) (by kernel_rfl) (fun _ _ _ h => h) (Or.inl ⟨by rfl, ?_⟩) (by assumption) ?_; rotate_left; (focus ((intro wS hSw); (try dsimp only at hSw); obtain ⟨⟨s0, _⟩, r0, r1, r2, r3⟩ := And.intro (one_cell hSw.1) (row4c hSw.2); go_simp; (try with_reducible rfl); done)); (try simp only [Act.put, List.setIfInBounds_toArray, List.set_cons_zero, List.set_cons_succ]))
    (refine takeH (i := 4) (v := ?_) rfl (by kernel_rfl) (by kernel_rfl) (by kernel_rfl) (fun _ _ _ h => h) (Or.inl ⟨by rfl, ?_⟩) (by assumption) ?_; rotate_left; (focus ((intro wS hSw); (try dsimp only at hSw); obtain ⟨⟨s0, _⟩, r0, r1, r2, r3⟩ := And.intro (one_cell hSw.1) (row4c hSw.2); go_simp; (try with_reducible rfl); done)); (try simp only [Act.put, List.setIfInBounds_toArray, List.set_cons_zero, List.set_cons_succ]))
    (refine takeH (i := 5) (v := ?_) rfl (by kernel_rfl) (by kernel_rfl) (by kernel_rfl) (fun _ _ _ h => h) (Or.inl ⟨by rfl, ?_⟩) (by assumption) ?_; rotate_left; (focus ((intro wS hSw); (try dsimp only at hSw); obtain ⟨⟨s0, _⟩, r0, r1, r2, r3⟩ := And.intro (one_cell hSw.1) (row4c hSw.2); go_simp; (try with_reducible rfl); done)); (try simp only [Act.put, List.setIfInBounds_toArray, List.set_cons_zero, List.set_cons_succ]))
    refine aloneH (i := 6) rfl (by kernel_rfl) (fun K hK => ?_)
    rw [if_pos (by rfl)]
    go_simp; ((refine (code_Len P (some ⟨b, 0, none⟩) n cb (.map (some m)) nv (.slice Ao k co) wd hHeld.2 HLn.out).mono ?_); (rintro e w1 ⟨rfl, rfl⟩); (try go_simp))
    have HB1 : Hid (Below wd.heap.size wd wd) := Lib.hid (Below.refl _ _)
    refine hK.out _ _ (hHeld) (fun hNew => ?_)
    clear hK K hHeld; (have hHeld := hNew); clear hNew; (try simp only [Act.put, List.setIfInBounds_toArray, List.set_cons_zero, List.set_cons_succ])
    (refine takeH (i := 7) (v := ?_) rfl (by kernel_rfl) (by kernel_rfl) (by kernel_rfl) (fun _ _ _ h => h) (Or.inl ⟨by rfl, ?_⟩) (by assumption) ?_; rotate_left; (focus ((intro wS hSw); (try dsimp only at hSw); obtain ⟨⟨s0, _⟩, r0, r1, r2, r3⟩ := And.intro (one_cell hSw.1) (row4c hSw.2); go_simp; (try with_reducible rfl); done)); (try simp only [Act.put, List.setIfInBounds_toArray, List.set_cons_zero, List.set_cons_succ]))
    refine wpAnyH_done (by kernel_rfl) ?_ _
    by_cases hkn : k < n
    · have hkz2 : (k : Int) < n := by omega
      obtain ⟨p0, _⟩ := one_cell hHeld.1
      obtain ⟨r0, r1, r2, r3⟩ := row4c hHeld.2
      clear hHeld
      have hdk : decide (k < n) = true := by simp [hkn]
      have hdk2 : decide ((k : Int) < (n : Int)) = true := by simp [hkn]
      try rw [hdk]
      try rw [hdk2]
      go_wp2
      clear p0 r0 r1 r2 r3 hdk hdk2
      go_loopw [25] (fun v25 wi => ∃ i : Nat, i ≤ n ∧ v25 = .int .i64 (i : Nat) ∧ Hid (Below wd.heap.size wd wi ∧ ∀ j, j < i → canP NN (iterP NN k).1 j = false)) (fun v25 _ => n - (intOf v25).toNat)
      case atStart => exact ⟨0, Nat.zero_le _, rfl, Lib.hid ⟨Below.refl _ _, fun j hj => absurd hj (Nat.not_lt_zero _)⟩⟩
      case round =>
        obtain ⟨i, hi, rfl, HI⟩ := hrel
        rename World => wi
        have HBi := Lib.hid (below_then HDw.out HI.out.1)
        by_cases hin : i < n
        · have hiz : (i : Int) < n := by omega
          have HKg := Lib.hid (heap_on HBi.out HG0.out)
          have HKp := Lib.hid (heap_on HBi.out HBx0.out)
          have hLa : wi.heap[La]? = some (.cells #[.func (.func 34) #[] #[.pointer (some ⟨T, 0, none⟩)]] 49 (0, 0)) := heap_on HBi.out ((HS.out.chg.block La (heapLt HQ4.out) (by have := HPl.out; have := HSz.out; omega) (by have := HSz.out; omega)).trans HQ4.out)
          have hNi : NeedsAt wi B0 nv vals NN := HNw1.out.kept (fun g cs T2 hc hT2 => heap_on HBi.out ((HS.out.chg.block g (heapLt hc) (cells_ne hc HPw1.out (by rcases hT2 with rfl | rfl <;> decide)) (cells_ne hc HS0.out.bools.2 (by rcases hT2 with rfl | rfl <;> decide))).trans hc))
          have HCan := Lib.hid (code_can T tb g1 P La B0 n (iterP NN k).1 NN nv vals i wi (HS.out.bools.on HBi.out) (by rw [iterP_len, HNl.out]) HNl.out hin HLn.out hNi HNb.out (one_cell HKg.out).1 (row4c HKp.out).2.2.1 (one_cell hLa).1)
          clear hLa hNi
          obtain ⟨q, hq⟩ : ∃ q, q = canP NN (iterP NN k).1 i := ⟨_, rfl⟩
          rw [← hq] at HCan
          have HQ := Lib.hid hq.symm
          clear hq
          cases q with
          | false =>
            go_wp2_with (go_at_call 35; refine HCan.out.mono ?_; rintro e w2 ⟨rfl, hb⟩; refine Stop.out ?_)
            unfold Stop
            have HB2 := Lib.hid (below_then HI.out.1 hb)
            clear hb HCan
            go_wp2
            exact ⟨⟨i + 1, by omega, by simp, Lib.hid ⟨HB2.out, fun j hj => by
              by_cases e : j = i
              · subst e; exact HQ.out
              · exact HI.out.2 j (by omega)⟩⟩, by simp [intOf]; omega⟩
          | true =>
            go_wp2_with (go_at_call 35; refine HCan.out.mono ?_; rintro e w2 ⟨rfl, hb⟩; refine Stop.out ?_)
            unfold Stop
            have HBw2 := Lib.hid (below_then HBi.out hb)
            have HB2 := Lib.hid hb
            have hbl := HS.out.bools.on HBw2.out
            have hln2 : (iterP NN k).1.length = n := by rw [iterP_len, HNl.out]
            obtain ⟨t0, _⟩ := one_cell hbl.1
            rw [hln2] at t0
            have hzi := frozen_of_row w2 tb i _ _ hbl.2
            have hci := hbl.cell i (by omega)
            have HBl := Lib.hid hbl
            clear hb HCan hbl hln2
            generalize getB _ _ = qb at hci
            go_wp2
            have hP2 := heap_on HBw2.out HBx0.out
            have hG2 := heap_on HBw2.out HG0.out
            have hO2 : OwnI w2 w1.heap.size (.slice Ao k co) (iterP NN k).2 := by
              have := HBo0.out
              exact this.on HBw2.out
            have hIt := iterP_some (by rw [HNl.out]; exact hin) HQ.out HI.out.2
            have HIt := Lib.hid hIt
            obtain ⟨w3, hw3⟩ : ∃ w3, w3 = w2.setCell ⟨tb, i, none⟩ (.bool true) := ⟨_, rfl⟩
            have hc3 : Chg tb w2 w3 := by rw [hw3]; exact Chg.one w2 i _
            have HPw : Hid (∀ W, Below w3.heap.size w3 W → W.heap[P]? = some (.cells #[.slice (some ⟨b, 0, none⟩) n cb, .map (some m), nv, .slice Ao k co] 36 (0, 0))) := Lib.hid (fun W hW => heap_on hW ((hc3.heap (heapLt hP2) (cells_ne hP2 HBl.out.2 (by decide))).trans hP2))
            have hG3 := (hc3.heap (heapLt hG2) (cells_ne hG2 HBl.out.2 (by decide))).trans hG2
            have HO3 : Hid (OwnI w3 w1.heap.size (.slice Ao k co) (iterP NN k).2) := Lib.hid (hO2.chg hc3 (own_off hO2 HBl.out.2 (by decide)))
            have HSw : Hid (w1.heap.size ≤ w3.heap.size) := Lib.hid (Nat.le_trans HS.out.chg.size (Nat.le_trans HBw2.out.size hc3.size))
            rw [← hw3]
            have HW3 := Lib.hid hw3
            have HHg := Lib.hid (heap_on (below_drew w3) hG3)
            have HDr := Lib.hid (below_drew w3)
            clear hP2 hG2 hO2 hIt hw3 hc3 hG3 t0 hzi hci
            refine wp_region_held_drew (S := fun V : World => V.heap[g1]? = some (.cells #[.pointer (some ⟨P, 0, none⟩)] 25 (0, 0))) (by kernel_rfl) HHg.out ?_
            intro hHeld
            clear HHg
            generalize w3.drew = wd at hHeld HDr ⊢
            (refine takeH (i := 0) (v := ?_) rfl (by kernel_rfl) (by kernel_rfl) (by kernel_rfl) (fun _ _ _ h => h) (Or.inl ⟨by rfl, ?_⟩) (by assumption) ?_; rotate_left; (focus ((intro wS hSw); (try dsimp only at hSw); obtain ⟨s0, _⟩ := one_cell hSw; go_simp; (try with_reducible rfl); done)); (try simp only [Act.put, List.setIfInBounds_toArray, List.set_cons_zero, List.set_cons_succ]))
            (refine takeH (i := 1) (v := ?_) rfl (by kernel_rfl) (by kernel_rfl) (by kernel_rfl) (fun _ _ _ h => h) (Or.inl ⟨by rfl, ?_⟩) (by assumption) ?_; rotate_left; (focus ((intro wS hSw); (try dsimp only at hSw); obtain ⟨s0, _⟩ := one_cell hSw; go_simp; (try with_reducible rfl); done)); (try simp only [Act.put, List.setIfInBounds_toArray, List.set_cons_zero, List.set_cons_succ]))
            (refine takeH (i := 2) (v := ?_) rfl (by kernel_rfl) (by kernel_rfl) (by kernel_rfl) (fun _ _ _ h => h) (Or.inl ⟨by rfl, ?_⟩) (by assumption) ?_; rotate_left; (focus ((intro wS hSw); (try dsimp only at hSw); obtain ⟨s0, _⟩ := one_cell hSw; go_simp; (try with_reducible rfl); done)); (try simp only [Act.put, List.setIfInBounds_toArray, List.set_cons_zero, List.set_cons_succ]))
            (refine takeH (i := 3) (v := ?_) rfl (by kernel_rfl) (by kernel_rfl) (by kernel_rfl) (fun _ _ _ h => h) (Or.inl ⟨by rfl, ?_⟩) (by assumption) ?_; rotate_left; (focus ((intro wS hSw); (try dsimp only at hSw); obtain ⟨s0, _⟩ := one_cell hSw; go_simp; (try with_reducible rfl); done)); (try simp only [Act.put, List.setIfInBounds_toArray, List.set_cons_zero, List.set_cons_succ]))
            (refine takeH (i := 5) (v := ?_) rfl (by kernel_rfl) (by kernel_rfl) (by kernel_rfl) (fun _ _ _ h => h) (Or.inl ⟨by rfl, ?_⟩) (by assumption) ?_; rotate_left; (focus ((intro wS hSw); (try dsimp only at hSw); obtain ⟨s0, _⟩ := one_cell hSw; go_simp; (try with_reducible rfl); done)); (try simp only [Act.put, List.setIfInBounds_toArray, List.set_cons_zero, List.set_cons_succ]))
            refine twoH (i := 4) (i2 := 6) rfl rfl (by kernel_rfl) (fun K hK => ?_) (fun K hK => ?_)
            · rw [if_pos (by rfl)]
              have HB1 : Hid (Below wd.heap.size wd wd) := Lib.hid (Below.refl _ _)
              obtain ⟨r0, r1, r2, r3⟩ := row4c (HPw.out wd (below_then HDr.out (below_same wd)))
              go_simp
              clear r0 r1 r2 r3
              refine hK.out _ _ (hHeld) (fun hNew => ?_)
              clear hK K hHeld; (have hHeld := hNew); clear hNew; (try simp only [Act.put, List.setIfInBounds_toArray, List.set_cons_zero, List.set_cons_succ])
              refine aloneH (i := 6) rfl (by kernel_rfl) (fun K hK => ?_)
              rw [if_pos (by rfl)]
              go_simp
              obtain ⟨gS, hgS⟩ : ∃ gS, gS = wd.heap.size := ⟨_, rfl⟩
              obtain ⟨q2, hq⟩ : ∃ q, q = wd.alloc (.cells #[.int .i64 (i : Nat)] 3) := ⟨_, rfl⟩
              have HB2 : Hid (Below wd.heap.size wd q2) := Lib.hid (by rw [hq]; exact below_alloc _ _)
              have HA : Hid (q2.heap[gS]? = some (.cells #[.int .i64 (i : Nat)] 3 (0, 0))) := Lib.hid (by rw [hq, hgS]; exact heap_alloc_new _ _)
              rw [← hq, ← hgS]
              clear hq hgS
              refine hK.out _ _ (heap_on HB2.out hHeld) (fun hNew => ?_)
              clear hK K hHeld; (have hHeld := hNew); clear hNew; (try simp only [Act.put, List.setIfInBounds_toArray, List.set_cons_zero, List.set_cons_succ])
              refine aloneH (i := 7) rfl (by kernel_rfl) (fun K hK => ?_)
              rw [if_pos (by rfl)]
              have HBx : Hid (Below wd.heap.size wd q2) := Lib.hid (below_then HB1.out HB2.out)
              have HPx := Lib.hid (HPw.out _ (below_then HDr.out HBx.out))
              have HOx : Hid (OwnI q2 w1.heap.size (.slice Ao k co) (iterP NN k).2) := Lib.hid (HO3.out.on (below_then HDr.out HBx.out))
              have HAx : Hid (q2.heap[gS]? = some (.cells #[.int .i64 (i : Nat)] 3 (0, 0))) := Lib.hid (HA.out)
              refine wp_app (S := 30) (T := 3) Try.underlying30 factI rfl (by decide) (by decide) (.tmp 38) (.tmp 40) rfl w1.heap.size (.slice Ao k co) k ((iterP NN k).2.map (.int .i64)) [.int .i64 (i : Nat)] rfl (by have := HOx.out; unfold OwnI at this; rw [HKl.out] at this; exact this) gS rfl HAx.out rfl (by simp [Value.oneCell']) (by have := HLn.out; omega) (Nat.le_trans HSw.out (Nat.le_trans HDr.out.size HBx.out.size)) ?_
              intro v' q3 ho hg hat
              obtain ⟨A', c', rfl, _, _⟩ := own_form ho
              have HO7 : Hid (OwnI q3 w1.heap.size (.slice A' (k + 1) c') ((iterP NN k).2 ++ [(i : Int)])) := Lib.hid (by unfold OwnI; rw [List.length_append, HKl.out, List.map_append]; exact ho)
              have HG7 := Lib.hid hg
              have hk1 := (hg.block P (heapLt HPx.out) (Ne.symm (own_off HOx.out HPx.out (by decide)))).trans HPx.out
              have hk2 := (hg.block g1 (heapLt hHeld) (Ne.symm (own_off HOx.out hHeld (by decide)))).trans hHeld
              have HP7 := Lib.hid hk1
              have HK7 := Lib.hid hk2
              clear ho hg hat hk1 hk2
              (try go_simp)
              refine hK.out _ _ (HK7.out) (fun hNew => ?_)
              clear hK K hHeld; (have hHeld := hNew); clear hNew; (try simp only [Act.put, List.setIfInBounds_toArray, List.set_cons_zero, List.set_cons_succ])
              (refine takeH (i := 8) (v := ?_) rfl (by kernel_rfl) (by kernel_rfl) (by kernel_rfl) (fun _ _ _ h => h) (Or.inl ⟨by rfl, ?_⟩) (by assumption) ?_; rotate_left; (focus ((intro wS hSw); (try dsimp only at hSw); obtain ⟨s0, _⟩ := one_cell hSw; go_simp; (try with_reducible rfl); done)); (try simp only [Act.put, List.setIfInBounds_toArray, List.set_cons_zero, List.set_cons_succ]))
              (refine takeH (i := 9) (v := ?_) rfl (by kernel_rfl) (by kernel_rfl) (by kernel_rfl) (fun _ _ _ h => h) (Or.inl ⟨by rfl, ?_⟩) (by assumption) ?_; rotate_left; (focus ((intro wS hSw); (try dsimp only at hSw); obtain ⟨s0, _⟩ := one_cell hSw; go_simp; (try with_reducible rfl); done)); (try simp only [Act.put, List.setIfInBounds_toArray, List.set_cons_zero, List.set_cons_succ]))
              refine aloneH (i := 10) rfl (by kernel_rfl) (fun K hK => ?_)
              rw [if_pos (by rfl)]
              obtain ⟨s0, s1, s2, s3⟩ := row4c HP7.out
              have hz3 := frozen_of_row q3 P 3 _ _ HP7.out
              go_simp
              have HFin : Hid (SortAt w1 (q3.setCell ⟨P, 3, none⟩ (.slice A' (k + 1) c')) P T tb (.slice (some ⟨b, 0, none⟩) n cb) (.map (some m)) nv n (iterP NN (k + 1))) := Lib.hid (by
                rw [HIt.out]
                exact sort_more (A := Ao) (c := co) HS.out HBw2.out HW3.out (below_then HDr.out HBx.out) (by rw [HKl.out]; exact HPx.out) (by rw [HKl.out]; exact HOx.out) (by rw [HKl.out]; exact HG7.out) (by rw [HKl.out]; exact HO7.out) (by rw [HKl.out]))
              have hst2 := (heap_setCell_other q3 ⟨P, 3, none⟩ g1 (.slice A' (k + 1) c') (cells_ne hHeld HP7.out (by decide))).trans hHeld
              clear s0 s1 s2 s3 hz3
              generalize World.setCell q3 _ _ = q4 at hst2 HFin ⊢
              have HK10 := Lib.hid hst2
              clear hst2
              refine hK.out _ _ (HK10.out) (fun hNew => ?_)
              clear hK K hHeld; (have hHeld := hNew); clear hNew; (try simp only [Act.put])
              refine wpAnyH_done (by kernel_rfl) ?_ _
              clear hHeld HK10 HK7 HP7 HO7 HG7 HOx HPx HBx HA HAx
              have HLe : Hid ((iterP NN (k + 1)).2.length = k + 1) := Lib.hid (by rw [HIt.out]; simp [HKl.out])
              have HOr := Lib.hid (And.intro HFin.out.ord HS.out.ord)
              go_wp2
              exact ⟨⟨k + 1, by omega, Lib.hid ⟨HFin.out, HLe.out⟩⟩, by rw [HOr.out.1, HOr.out.2, HLe.out, HKl.out]; omega⟩
            · rw [if_pos (by rfl)]
              go_simp
              obtain ⟨gS, hgS⟩ : ∃ gS, gS = wd.heap.size := ⟨_, rfl⟩
              obtain ⟨q1, hq⟩ : ∃ q, q = wd.alloc (.cells #[.int .i64 (i : Nat)] 3) := ⟨_, rfl⟩
              have HB1 : Hid (Below wd.heap.size wd q1) := Lib.hid (by rw [hq]; exact below_alloc _ _)
              have HA : Hid (q1.heap[gS]? = some (.cells #[.int .i64 (i : Nat)] 3 (0, 0))) := Lib.hid (by rw [hq, hgS]; exact heap_alloc_new _ _)
              rw [← hq, ← hgS]
              clear hq hgS
              refine hK.out _ _ (heap_on HB1.out hHeld) (fun hNew => ?_)
              clear hK K hHeld; (have hHeld := hNew); clear hNew; (try simp only [Act.put, List.setIfInBounds_toArray, List.set_cons_zero, List.set_cons_succ])
              refine aloneH (i := 4) rfl (by kernel_rfl) (fun K hK => ?_)
              rw [if_pos (by rfl)]
              have HB2 : Hid (Below q1.heap.size q1 q1) := Lib.hid (Below.refl _ _)
              obtain ⟨r0, r1, r2, r3⟩ := row4c (HPw.out q1 (below_then HDr.out HB1.out))
              go_simp
              clear r0 r1 r2 r3
              refine hK.out _ _ (hHeld) (fun hNew => ?_)
              clear hK K hHeld; (have hHeld := hNew); clear hNew; (try simp only [Act.put, List.setIfInBounds_toArray, List.set_cons_zero, List.set_cons_succ])
              refine aloneH (i := 7) rfl (by kernel_rfl) (fun K hK => ?_)
              rw [if_pos (by rfl)]
              have HBx : Hid (Below wd.heap.size wd q1) := Lib.hid (below_then HB1.out HB2.out)
              have HPx := Lib.hid (HPw.out _ (below_then HDr.out HBx.out))
              have HOx : Hid (OwnI q1 w1.heap.size (.slice Ao k co) (iterP NN k).2) := Lib.hid (HO3.out.on (below_then HDr.out HBx.out))
              have HAx : Hid (q1.heap[gS]? = some (.cells #[.int .i64 (i : Nat)] 3 (0, 0))) := Lib.hid (HA.out)
              refine wp_app (S := 30) (T := 3) Try.underlying30 factI rfl (by decide) (by decide) (.tmp 38) (.tmp 40) rfl w1.heap.size (.slice Ao k co) k ((iterP NN k).2.map (.int .i64)) [.int .i64 (i : Nat)] rfl (by have := HOx.out; unfold OwnI at this; rw [HKl.out] at this; exact this) gS rfl HAx.out rfl (by simp [Value.oneCell']) (by have := HLn.out; omega) (Nat.le_trans HSw.out (Nat.le_trans HDr.out.size HBx.out.size)) ?_
              intro v' q3 ho hg hat
              obtain ⟨A', c', rfl, _, _⟩ := own_form ho
              have HO7 : Hid (OwnI q3 w1.heap.size (.slice A' (k + 1) c') ((iterP NN k).2 ++ [(i : Int)])) := Lib.hid (by unfold OwnI; rw [List.length_append, HKl.out, List.map_append]; exact ho)
              have HG7 := Lib.hid hg
              have hk1 := (hg.block P (heapLt HPx.out) (Ne.symm (own_off HOx.out HPx.out (by decide)))).trans HPx.out
              have hk2 := (hg.block g1 (heapLt hHeld) (Ne.symm (own_off HOx.out hHeld (by decide)))).trans hHeld
              have HP7 := Lib.hid hk1
              have HK7 := Lib.hid hk2
              clear ho hg hat hk1 hk2
              (try go_simp)
              refine hK.out _ _ (HK7.out) (fun hNew => ?_)
              clear hK K hHeld; (have hHeld := hNew); clear hNew; (try simp only [Act.put, List.setIfInBounds_toArray, List.set_cons_zero, List.set_cons_succ])
              (refine takeH (i := 8) (v := ?_) rfl (by kernel_rfl) (by kernel_rfl) (by kernel_rfl) (fun _ _ _ h => h) (Or.inl ⟨by rfl, ?_⟩) (by assumption) ?_; rotate_left; (focus ((intro wS hSw); (try dsimp only at hSw); obtain ⟨s0, _⟩ := one_cell hSw; go_simp; (try with_reducible rfl); done)); (try simp only [Act.put, List.setIfInBounds_toArray, List.set_cons_zero, List.set_cons_succ]))
              (refine takeH (i := 9) (v := ?_) rfl (by kernel_rfl) (by kernel_rfl) (by kernel_rfl) (fun _ _ _ h => h) (Or.inl ⟨by rfl, ?_⟩) (by assumption) ?_; rotate_left; (focus ((intro wS hSw); (try dsimp only at hSw); obtain ⟨s0, _⟩ := one_cell hSw; go_simp; (try with_reducible rfl); done)); (try simp only [Act.put, List.setIfInBounds_toArray, List.set_cons_zero, List.set_cons_succ]))
              refine aloneH (i := 10) rfl (by kernel_rfl) (fun K hK => ?_)
              rw [if_pos (by rfl)]
              obtain ⟨s0, s1, s2, s3⟩ := row4c HP7.out
              have hz3 := frozen_of_row q3 P 3 _ _ HP7.out
              go_simp
              have HFin : Hid (SortAt w1 (q3.setCell ⟨P, 3, none⟩ (.slice A' (k + 1) c')) P T tb (.slice (some ⟨b, 0, none⟩) n cb) (.map (some m)) nv n (iterP NN (k + 1))) := Lib.hid (by
                rw [HIt.out]
                exact sort_more (A := Ao) (c := co) HS.out HBw2.out HW3.out (below_then HDr.out HBx.out) (by rw [HKl.out]; exact HPx.out) (by rw [HKl.out]; exact HOx.out) (by rw [HKl.out]; exact HG7.out) (by rw [HKl.out]; exact HO7.out) (by rw [HKl.out]))
              have hst2 := (heap_setCell_other q3 ⟨P, 3, none⟩ g1 (.slice A' (k + 1) c') (cells_ne hHeld HP7.out (by decide))).trans hHeld
              clear s0 s1 s2 s3 hz3
              generalize World.setCell q3 _ _ = q4 at hst2 HFin ⊢
              have HK10 := Lib.hid hst2
              clear hst2
              refine hK.out _ _ (HK10.out) (fun hNew => ?_)
              clear hK K hHeld; (have hHeld := hNew); clear hNew; (try simp only [Act.put])
              refine wpAnyH_done (by kernel_rfl) ?_ _
              clear hHeld HK10 HK7 HP7 HO7 HG7 HOx HPx HBx HA HAx
              have HLe : Hid ((iterP NN (k + 1)).2.length = k + 1) := Lib.hid (by rw [HIt.out]; simp [HKl.out])
              have HOr := Lib.hid (And.intro HFin.out.ord HS.out.ord)
              go_wp2
              exact ⟨⟨k + 1, by omega, Lib.hid ⟨HFin.out, HLe.out⟩⟩, by rw [HOr.out.1, HOr.out.2, HLe.out, HKl.out]; omega⟩
        · obtain rfl : i = n := by omega
          go_wp2
          unfold Exit.noGoto
          dsimp only
          go_ret
          refine ⟨k, by omega, by rw [decide_eq_false (by omega)]; rfl, fun _ => iterP_none (fun j hj => HI.out.2 j (by rw [HNl.out] at hj; exact hj)), HKl.out, sort_end HBw.out HS.out.chg HBi.out (by have := HSz.out; have := HG1.out; omega), Ao, co, heap_on HBi.out HBx0.out, ?_⟩
          have := HBo0.out
          exact (this.on HBi.out).less HBw.out.size
    · obtain rfl : k = n := by omega
      obtain ⟨p0, _⟩ := one_cell hHeld.1
      obtain ⟨r0, r1, r2, r3⟩ := row4c hHeld.2
      clear hHeld
      go_wp2
      unfold Exit.noGoto
      dsimp only
      go_ret
      refine ⟨k, Nat.le_refl _, by rw [decide_eq_true rfl]; rfl, fun h => absurd h (Nat.lt_irrefl _), HKl.out, sort_end HBw.out HS.out.chg HDw.out (by have := HSz.out; have := HG1.out; omega), Ao, co, heap_on HDw.out HBx0.out, ?_⟩
      have := HBo0.out
      exact (this.on HDw.out).less HBw.out.size
end Go.Proofs.Ytbplhjoompgemaa
