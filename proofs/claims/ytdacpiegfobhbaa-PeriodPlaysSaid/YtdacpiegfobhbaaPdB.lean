/- A clock of the program's: a period's state. -/
import Derived.Test.YtdacpiegfobhbaaPdA
namespace Go.Proofs.Ytdacpiegfobhbaa
open Go.RowKit
set_option maxRecDepth 100000
set_option linter.unusedSimpArgs false
set_option linter.unusedVariables false

/-- a clock: its kind, the places of its first period, of the first one that isn't closed, of the first one that isn't filed -/
structure Ck where
  k : Int
  F : Int
  A : Int
  B : Int
structure Ck.Ok (c : Ck) : Prop where
  kind : Civ.isKind c.k
  f0 : 0 ≤ c.F
  fb : c.F ≤ c.B
  ba : c.B ≤ c.A
  fa : c.F < 8030 * Civ.many c.k
  aa : c.A ≤ 8030 * Civ.many c.k
def ckRow (c : Ck) : Array Value := #[.int .i64 c.k, .int .i64 (Civ.perY c.k c.F), .int .i64 (Civ.perI c.k c.F), .int .i64 (Civ.perK c.k c.A), .int .i64 (Civ.perY c.k c.A), .int .i64 (Civ.perI c.k c.A), .int .i64 (Civ.perK c.k c.B), .int .i64 (Civ.perY c.k c.B), .int .i64 (Civ.perI c.k c.B)]
def CkAt (w : World) (P : Nat) (c : Ck) : Prop := w.heap[P]? = some (.cells (ckRow c) 58 (0, 0))
theorem CkAt.on {w W : World} {P : Nat} {c : Ck} (h : CkAt w P c) (hb : Below w.heap.size w W) : CkAt W P c := heap_on hb h
theorem CkAt.c3 {w : World} {P : Nat} {c : Ck} (h : CkAt w P c) : C3 w P c.k (Civ.perY c.k c.F) (Civ.perI c.k c.F) := ⟨cell_of_row _ _ 0 _ _ _ h, cell_of_row _ _ 1 _ _ _ h, cell_of_row _ _ 2 _ _ _ h⟩
/-- the cells of the first one that hasn't taken a step -/
def N3 (w : World) (P s : Nat) (k y i : Int) : Prop := w.cell? ⟨P, 3 + 3 * s, none⟩ = some (.int .i64 k) ∧ w.cell? ⟨P, 3 + 3 * s + 1, none⟩ = some (.int .i64 y) ∧ w.cell? ⟨P, 3 + 3 * s + 2, none⟩ = some (.int .i64 i)
def Ck.X (c : Ck) (s : Nat) : Int := if s = 0 then c.A else c.B
theorem CkAt.n0 {w : World} {P : Nat} {c : Ck} (h : CkAt w P c) : w.cell? ⟨P, 3, none⟩ = some (.int .i64 (Civ.perK c.k c.A)) ∧ w.cell? ⟨P, 4, none⟩ = some (.int .i64 (Civ.perY c.k c.A)) ∧ w.cell? ⟨P, 5, none⟩ = some (.int .i64 (Civ.perI c.k c.A)) := ⟨cell_of_row _ _ 3 _ _ _ h, cell_of_row _ _ 4 _ _ _ h, cell_of_row _ _ 5 _ _ _ h⟩
theorem CkAt.n1 {w : World} {P : Nat} {c : Ck} (h : CkAt w P c) : w.cell? ⟨P, 6, none⟩ = some (.int .i64 (Civ.perK c.k c.B)) ∧ w.cell? ⟨P, 7, none⟩ = some (.int .i64 (Civ.perY c.k c.B)) ∧ w.cell? ⟨P, 8, none⟩ = some (.int .i64 (Civ.perI c.k c.B)) := ⟨cell_of_row _ _ 6 _ _ _ h, cell_of_row _ _ 7 _ _ _ h, cell_of_row _ _ 8 _ _ _ h⟩
theorem Ck.Ok.k0 {c : Ck} (h : c.Ok) : ¬ c.k = 0 := by rcases h.kind with e | e <;> omega
theorem Ck.Ok.first {c : Ck} (h : c.Ok) : Civ.good c.k (Civ.perY c.k c.F) (Civ.perI c.k c.F) = true ∧ Civ.place c.k (Civ.perY c.k c.F) (Civ.perI c.k c.F) = c.F :=
  ⟨(Civ.per_good h.kind h.f0 h.fa).1, (Civ.per_good h.kind h.f0 h.fa).2.1⟩
theorem below_any {B : Nat} {a b c : World} (h : Below B a b) (hB : B ≤ a.heap.size) (k : Below b.heap.size b c) : Below B a c := h.trans (k.mono (Nat.le_trans hB h.size))
/-- one of the clock's periods -/
def Ck.Has (c : Ck) (k y i : Int) : Prop := Civ.good k y i = true ∧ k = c.k ∧ c.F ≤ Civ.place k y i
instance (c : Ck) (k y i : Int) : Decidable (c.Has k y i) := by unfold Ck.Has; infer_instance
theorem code_has (w : World) (P : Nat) (c : Ck) (k y i : Int) (h : CkAt w P c) (ok : c.Ok) :
    Calls Try.prog 38 #[.pointer (some ⟨P, 0, none⟩), .agg #[.int .i64 k, .int .i64 y, .int .i64 i]] w fun e w' => e = .returned (.bool (decide (c.Has k y i))) ∧ Below w.heap.size w w' := by
  cases hg : Civ.good k y i with
  | false =>
    rw [decide_eq_false (fun x => by rw [x.1] at hg; cases hg)]
    exact has_bad w P _ _ _ k y i h.c3 ok.k0 hg
  | true =>
    by_cases hk : k = c.k
    · subst hk
      have e : decide (c.Has c.k y i) = decide (0 ≤ Civ.cmp c.k y i c.k (Civ.perY c.k c.F) (Civ.perI c.k c.F)) := by
        have := Civ.cmp_neg_iff hg ok.first.1
        rw [ok.first.2] at this
        rw [decide_eq_decide]
        unfold Ck.Has
        constructor
        · rintro ⟨_, _, h3⟩; omega
        · intro h3; exact ⟨hg, rfl, by omega⟩
      rw [e]
      exact has_cmp w P c.k _ _ c.k y i h.c3 ok.k0 hg rfl
    · rw [decide_eq_false (fun x => hk x.2.1)]
      exact has_kind w P _ _ _ k y i h.c3 ok.k0 hg hk
set_option maxHeartbeats 1000000 in
theorem took_zero_0 (w : World) (P : Nat) (k y i : Int) (h : w.cell? ⟨P, 3, none⟩ = some (.int .i64 0) ∧ w.cell? ⟨P, 4, none⟩ = some (.int .i64 0) ∧ w.cell? ⟨P, 5, none⟩ = some (.int .i64 0)) :
    Calls Try.prog 39 #[.pointer (some ⟨P, 0, none⟩), .agg #[.int .i64 k, .int .i64 y, .int .i64 i], .int .i64 0] w fun e w' => e = .returned (.bool true) ∧ Below w.heap.size w w' := by
  obtain ⟨c0, c1, c2⟩ := h
  have n0 := block_lt_of_cell c0
  go_enter Try.func39, Try.ntmps39
  go_wp2
  go_ret
  exact ⟨rfl, below_then (below_alloc _ _) (below_alloc _ _)⟩
set_option maxHeartbeats 1000000 in
theorem took_cmp_0 (w : World) (P : Nat) (k y i k' y' i' : Int) (h : w.cell? ⟨P, 3, none⟩ = some (.int .i64 k') ∧ w.cell? ⟨P, 4, none⟩ = some (.int .i64 y') ∧ w.cell? ⟨P, 5, none⟩ = some (.int .i64 i')) (hk : ¬ k' = 0) :
    Calls Try.prog 39 #[.pointer (some ⟨P, 0, none⟩), .agg #[.int .i64 k, .int .i64 y, .int .i64 i], .int .i64 0] w fun e w' => e = .returned (.bool (decide (Civ.cmp k y i k' y' i' < 0))) ∧ Below w.heap.size w w' := by
  obtain ⟨c0, c1, c2⟩ := h
  have n0 := block_lt_of_cell c0
  go_enter Try.func39, Try.ntmps39
  go_wp2_with (go_at_call 48; refine (code_cmp k y i k' y' i' _).mono ?_; rintro e w1 ⟨rfl, hb⟩; have HB1 := Lib.hid (below_then (below_then (below_alloc _ _) (below_alloc _ _)) hb); clear hb)
  go_ret
  exact ⟨rfl, HB1.out⟩
set_option maxHeartbeats 1000000 in
theorem took_zero_1 (w : World) (P : Nat) (k y i : Int) (h : w.cell? ⟨P, 6, none⟩ = some (.int .i64 0) ∧ w.cell? ⟨P, 7, none⟩ = some (.int .i64 0) ∧ w.cell? ⟨P, 8, none⟩ = some (.int .i64 0)) :
    Calls Try.prog 39 #[.pointer (some ⟨P, 0, none⟩), .agg #[.int .i64 k, .int .i64 y, .int .i64 i], .int .i64 1] w fun e w' => e = .returned (.bool true) ∧ Below w.heap.size w w' := by
  obtain ⟨c0, c1, c2⟩ := h
  have n0 := block_lt_of_cell c0
  go_enter Try.func39, Try.ntmps39
  go_wp2
  go_ret
  exact ⟨rfl, below_then (below_alloc _ _) (below_alloc _ _)⟩
set_option maxHeartbeats 1000000 in
theorem took_cmp_1 (w : World) (P : Nat) (k y i k' y' i' : Int) (h : w.cell? ⟨P, 6, none⟩ = some (.int .i64 k') ∧ w.cell? ⟨P, 7, none⟩ = some (.int .i64 y') ∧ w.cell? ⟨P, 8, none⟩ = some (.int .i64 i')) (hk : ¬ k' = 0) :
    Calls Try.prog 39 #[.pointer (some ⟨P, 0, none⟩), .agg #[.int .i64 k, .int .i64 y, .int .i64 i], .int .i64 1] w fun e w' => e = .returned (.bool (decide (Civ.cmp k y i k' y' i' < 0))) ∧ Below w.heap.size w w' := by
  obtain ⟨c0, c1, c2⟩ := h
  have n0 := block_lt_of_cell c0
  go_enter Try.func39, Try.ntmps39
  go_wp2_with (go_at_call 48; refine (code_cmp k y i k' y' i' _).mono ?_; rintro e w1 ⟨rfl, hb⟩; have HB1 := Lib.hid (below_then (below_then (below_alloc _ _) (below_alloc _ _)) hb); clear hb)
  go_ret
  exact ⟨rfl, HB1.out⟩
theorem cells3_alloc (w : World) (a b c : Value) (t : TypeId) : ((w.alloc (.cells #[a, b, c] t)).cell? ⟨w.heap.size, 0, none⟩ = some a) ∧ ((w.alloc (.cells #[a, b, c] t)).cell? ⟨w.heap.size, 1, none⟩ = some b) ∧ ((w.alloc (.cells #[a, b, c] t)).cell? ⟨w.heap.size, 2, none⟩ = some c) := by
  have q := heap_alloc_new w (.cells #[a, b, c] t)
  exact ⟨cell_of_row _ _ 0 _ _ _ q, cell_of_row _ _ 1 _ _ _ q, cell_of_row _ _ 2 _ _ _ q⟩
theorem cells3_on {w W : World} {g : Nat} {a b c : Value} (hb : Below w.heap.size w W) (h : w.cell? ⟨g, 0, none⟩ = some a ∧ w.cell? ⟨g, 1, none⟩ = some b ∧ w.cell? ⟨g, 2, none⟩ = some c) : W.cell? ⟨g, 0, none⟩ = some a ∧ W.cell? ⟨g, 1, none⟩ = some b ∧ W.cell? ⟨g, 2, none⟩ = some c := ⟨cell_on hb h.1, cell_on hb h.2.1, cell_on hb h.2.2⟩
/-- has it taken the step? -/
theorem code_took (w : World) (P : Nat) (c : Ck) (y i : Int) (s : Nat) (hs : s = 0 ∨ s = 1) (h : CkAt w P c) (ok : c.Ok) (hg : Civ.good c.k y i = true) :
    Calls Try.prog 39 #[.pointer (some ⟨P, 0, none⟩), .agg #[.int .i64 c.k, .int .i64 y, .int .i64 i], .int .i64 s] w fun e w' => e = .returned (.bool (decide (Civ.place c.k y i < c.X s))) ∧ Below w.heap.size w w' := by
  have hp := Civ.per_place hg
  have hx : 0 ≤ c.X s ∧ c.X s ≤ 8030 * Civ.many c.k := by
    have := ok.f0; have := ok.fb; have := ok.ba; have := ok.aa
    unfold Ck.X; split <;> omega
  by_cases hX : c.X s < 8030 * Civ.many c.k
  · obtain ⟨g1, g2, g3⟩ := Civ.per_good ok.kind hx.1 hX
    have e : decide (Civ.place c.k y i < c.X s) = decide (Civ.cmp c.k y i c.k (Civ.perY c.k (c.X s)) (Civ.perI c.k (c.X s)) < 0) := by
      rw [decide_eq_decide, Civ.cmp_neg_iff hg g1, g2]
    rw [e]
    rcases hs with rfl | rfl
    · have n := h.n0
      rw [show Civ.perK c.k c.A = c.k from g3] at n
      exact took_cmp_0 w P c.k y i c.k _ _ n ok.k0
    · have n := h.n1
      rw [show Civ.perK c.k c.B = c.k from g3] at n
      exact took_cmp_1 w P c.k y i c.k _ _ n ok.k0
  · obtain ⟨e1, e2, e3⟩ := Civ.per_none hX
    rw [decide_eq_true (by omega)]
    rcases hs with rfl | rfl
    · have n := h.n0
      rw [show Civ.perK c.k c.A = 0 from e1, show Civ.perY c.k c.A = 0 from e2, show Civ.perI c.k c.A = 0 from e3] at n
      exact took_zero_0 w P c.k y i n
    · have n := h.n1
      rw [show Civ.perK c.k c.B = 0 from e1, show Civ.perY c.k c.B = 0 from e2, show Civ.perI c.k c.B = 0 from e3] at n
      exact took_zero_1 w P c.k y i n
/-- the state of a period -/
def Ck.st (c : Ck) (k y i : Int) : Int := if c.Has k y i then (if Civ.place k y i < c.B then 3 else if Civ.place k y i < c.A then 2 else 1) else 0
set_option maxHeartbeats 1000000 in
theorem state_no (w : World) (P : Nat) (c : Ck) (k y i : Int) (h : CkAt w P c) (ok : c.Ok) (hn : ¬ c.Has k y i) :
    Calls Try.prog 19 #[.pointer (some ⟨P, 0, none⟩), .agg #[.int .i64 k, .int .i64 y, .int .i64 i]] w fun e w' => e = .returned (.int .i64 0) ∧ Below w.heap.size w w' := by
  have HH : Hid (∀ W, Below w.heap.size w W → Calls Try.prog 38 #[.pointer (some ⟨P, 0, none⟩), .agg #[.int .i64 k, .int .i64 y, .int .i64 i]] W fun e w' => e = .returned (.bool false) ∧ Below W.heap.size W w') :=
    Lib.hid (fun W hb => by have := code_has W P c k y i (h.on hb) ok; rw [decide_eq_false hn] at this; exact this)
  clear h ok hn
  go_enter Try.func19, Try.ntmps19
  go_wp2_with (go_at_call 38; refine (HH.out _ (below_alloc _ _)).mono ?_; rintro e w1 ⟨rfl, hb⟩; have HB1 := Lib.hid (below_then (below_alloc _ _) hb); clear hb)
  go_ret
  exact ⟨rfl, HB1.out⟩
set_option maxHeartbeats 2000000 in
theorem state_yes (w : World) (P : Nat) (c : Ck) (y i : Int) (h : CkAt w P c) (ok : c.Ok) (hn : c.Has c.k y i) (b1 b0 : Bool) (e1 : decide (Civ.place c.k y i < c.B) = b1) (e0 : decide (Civ.place c.k y i < c.A) = b0) :
    Calls Try.prog 19 #[.pointer (some ⟨P, 0, none⟩), .agg #[.int .i64 c.k, .int .i64 y, .int .i64 i]] w fun e w' => e = .returned (.int .i64 (if b1 = true then 3 else if b0 = true then 2 else 1)) ∧ Below w.heap.size w w' := by
  have HH : Hid (∀ W, Below w.heap.size w W → Calls Try.prog 38 #[.pointer (some ⟨P, 0, none⟩), .agg #[.int .i64 c.k, .int .i64 y, .int .i64 i]] W fun e w' => e = .returned (.bool true) ∧ Below W.heap.size W w') :=
    Lib.hid (fun W hb => by have := code_has W P c c.k y i (h.on hb) ok; rw [decide_eq_true hn] at this; exact this)
  have HT1 : Hid (∀ W, Below w.heap.size w W → Calls Try.prog 39 #[.pointer (some ⟨P, 0, none⟩), .agg #[.int .i64 c.k, .int .i64 y, .int .i64 i], .int .i64 1] W fun e w' => e = .returned (.bool b1) ∧ Below W.heap.size W w') :=
    Lib.hid (fun W hb => by have := code_took W P c y i 1 (.inr rfl) (h.on hb) ok hn.1; rw [show c.X 1 = c.B from rfl, e1] at this; exact this)
  have HT0 : Hid (∀ W, Below w.heap.size w W → Calls Try.prog 39 #[.pointer (some ⟨P, 0, none⟩), .agg #[.int .i64 c.k, .int .i64 y, .int .i64 i], .int .i64 0] W fun e w' => e = .returned (.bool b0) ∧ Below W.heap.size W w') :=
    Lib.hid (fun W hb => by have := code_took W P c y i 0 (.inl rfl) (h.on hb) ok hn.1; rw [show c.X 0 = c.A from rfl, e0] at this; exact this)
  clear h ok hn e1 e0
  generalize c.k = k at *
  go_enter Try.func19, Try.ntmps19
  go_wp2_with (go_at_call 38; refine (HH.out _ (below_alloc _ _)).mono ?_; rintro e w1 ⟨rfl, hb⟩; have HB1 := Lib.hid (below_then (below_alloc _ _) hb); have HX1 := Lib.hid (cells3_on hb (cells3_alloc w _ _ _ _)); clear hb; refine Stop.out ?_)
  unfold Stop
  obtain ⟨p0, p1, p2⟩ := HX1.out
  go_wp2_with (go_at_call 39; refine (HT1.out _ HB1.out).mono ?_; rintro e w2 ⟨rfl, hb⟩; have HB2 := Lib.hid (below_then HB1.out hb); have HX2 := Lib.hid (cells3_on hb HX1.out); clear hb p0 p1 p2; refine Stop.out ?_)
  unfold Stop
  obtain ⟨r0, r1, r2⟩ := HX2.out
  cases b1
  · go_wp2_with (go_at_call 39; refine (HT0.out _ HB2.out).mono ?_; rintro e w3 ⟨rfl, hb⟩; have HB3 := Lib.hid (below_then HB2.out hb); clear hb; refine Stop.out ?_)
    unfold Stop
    cases b0
    · go_wp2
      go_ret
      exact ⟨rfl, HB3.out⟩
    · go_wp2
      go_ret
      exact ⟨rfl, HB3.out⟩
  · go_wp2
    go_ret
    exact ⟨rfl, HB2.out⟩
theorem code_state (w : World) (P : Nat) (c : Ck) (k y i : Int) (h : CkAt w P c) (ok : c.Ok) :
    Calls Try.prog 19 #[.pointer (some ⟨P, 0, none⟩), .agg #[.int .i64 k, .int .i64 y, .int .i64 i]] w fun e w' => e = .returned (.int .i64 (c.st k y i)) ∧ Below w.heap.size w w' := by
  by_cases hn : c.Has k y i
  · obtain rfl := hn.2.1
    have := state_yes w P c y i h ok hn _ _ rfl rfl
    unfold Ck.st
    rw [if_pos hn]
    simpa using this
  · unfold Ck.st
    rw [if_neg hn]
    exact state_no w P c k y i h ok hn
end Go.Proofs.Ytdacpiegfobhbaa
