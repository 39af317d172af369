/- Batches in rows, wherever they lie: held side by side, and kept in a row of the call's own. A journal opened behind a cut; once more; the fuse and power. Batches held side by side: the journal's. -/
import Derived.Test.YtfjejiapafdgeaaJ45
import Derived.Test.YtfjejiapafdgeaaJ33
import Derived.Test.YtfjejiapafdgeaaJ15
import Derived.Test.YtfjejiapafdgeaaJ44
namespace Go.Proofs.Ytfjejiapafdgeaa
open Go.RowKit
set_option maxRecDepth 100000
set_option linter.unusedSimpArgs false
set_option linter.unusedVariables false

theorem SecsAt.bats {w : World} {A : Option Addr} {c : Nat} {M : List Text} (h : SecsAt w A c M) : BatsAt w A M := fun i hi => by
  rcases h with ⟨rfl, rfl, rfl⟩ | ⟨g, rfl, h, _⟩
  · simp at hi
  · obtain ⟨b, cb, q1, q2, q3, q4, q5, q6⟩ := h i hi
    exact ⟨g, 0, _, cb, rfl, block_lt_of_cell q1, by rw [Nat.zero_add]; exact q1, q2, q3, mid_txt q4, fun e => by cases e⟩
theorem BatsAt.take {w : World} {A : Option Addr} {X : List Text} {T : Text} (h : BatsAt w A (X ++ [T])) : BatsAt w A X := fun i hi => by
  have h2 := h i (by rw [List.length_append]; omega)
  rw [List.getElem_append_left hi] at h2
  exact h2
set_option maxHeartbeats 2000000 in
theorem code_jsameB (L : List Text) (A A' : Option Addr) (c c' : Nat) (w : World) (hl : L.length ≤ 100000) (h : BatsAt w A L) (h' : BatsAt w A' L) :
    Calls Try.prog 35 #[.slice A L.length c, .slice A' L.length c'] w fun e w' => e = .returned (.bool true) ∧ Below w.heap.size w w' := by
  have HA := Lib.hid h
  have HA' := Lib.hid h'
  have HL := Lib.hid hl
  clear h h' hl
  have hnl : ((L.length : Int) != (L.length : Int)) = false := by simp
  go_enter Try.func35, Try.ntmps35
  go_wp2
  clear hnl
  go_loopw [13] (fun i wr => ∃ k : Nat, k ≤ L.length ∧ i = .int .i64 (k : Nat) ∧ Hid (Below w.heap.size w wr)) (fun i _ => roundsLeft L.length i)
  case atStart => exact ⟨0, Nat.zero_le _, rfl, Lib.hid (Below.refl _ _)⟩
  case round =>
    obtain ⟨k, hk, rfl, HB⟩ := hrel
    by_cases hlt : k < L.length
    · have hlt' : (k : Int) < (L.length : Int) := by omega
      have hwk : wrap64 ((k : Int) + 1) = (k : Int) + 1 := by have := HL.out; unfold wrap64; omega
      obtain ⟨G, o1, A1, cb, rfl, p1, q1, q2, q3, q4, q5⟩ := HA.out k hlt
      obtain ⟨G', o2, A2, cb2, rfl, p2, r1, r2, r3, r4, r5⟩ := HA'.out k hlt
      obtain ⟨T, hT0⟩ : ∃ T, T = L[k] := ⟨_, rfl⟩
      rw [← hT0] at q1 q4 q5 r1 r4 r5
      clear hT0 q2 q3 r2 r3
      have c1 := (HB.out.cell (p := ⟨G, o1 + k, none⟩) p1).trans q1
      have c2 := (HB.out.cell (p := ⟨G', o2 + k, none⟩) p2).trans r1
      have t1 : Txt wr A1 T := q4.below HB.out
      have t2 : Txt wr A2 T := r4.below HB.out
      have HN := Lib.hid (And.intro q5 r5)
      clear q5 r5 p1 p2
      generalize hnT : T.length = nT at c1 c2
      have HnT := Lib.hid hnT
      have hlk : k < L.length := hlt
      have HS0 : Hid ((fun V : World => V.cell? ⟨G, o1 + k, none⟩ = some (.slice A1 nT cb) ∧ V.cell? ⟨G', o2 + k, none⟩ = some (.slice A2 nT cb2) ∧ Txt V A1 T ∧ Txt V A2 T) wr.drew) := Lib.hid ⟨cell_on (Below.refl _ _).drew c1, cell_on (Below.refl _ _).drew c2, t1.below (Below.refl _ _).drew, t2.below (Below.refl _ _).drew⟩
      have HBd : Hid (Below w.heap.size w wr.drew) := Lib.hid HB.out.drew
      clear hnT c1 c2 t1 t2 q1 q4 r1 r4
      go_wp2
      refine wp_region_held_drew (S := fun V => V.cell? ⟨G, o1 + k, none⟩ = some (.slice A1 nT cb) ∧ V.cell? ⟨G', o2 + k, none⟩ = some (.slice A2 nT cb2) ∧ Txt V A1 T ∧ Txt V A2 T) (by kernel_rfl) HS0.out ?_
      intro hHeld
      clear HS0
      generalize wr.drew = wd at HBd hHeld ⊢
      (refine takeH (i := 0) (v := ?_) rfl (by kernel_rfl) (by kernel_rfl) (by kernel_rfl) (fun _ _ _ h => h) (Or.inl ⟨by rfl, ?_⟩) (by assumption) ?_; rotate_left; (focus ((intro wS hSw); (try dsimp only at hSw); obtain ⟨s0, s1, t0, t1⟩ := hSw; (have e1 := text_run_n wS A1 cb nT T HnT.out t0 HN.out.1); (have e2 := text_run_n wS A2 cb2 nT T HnT.out t1 HN.out.2); clear t0 t1; go_simp; (try with_reducible rfl); done)); (try simp only [Act.put, List.setIfInBounds_toArray, List.set_cons_zero, List.set_cons_succ]))
      (refine takeH (i := 1) (v := ?_) rfl (by kernel_rfl) (by kernel_rfl) (by kernel_rfl) (fun _ _ _ h => h) (Or.inl ⟨by rfl, ?_⟩) (by assumption) ?_; rotate_left; (focus ((intro wS hSw); (try dsimp only at hSw); obtain ⟨s0, s1, t0, t1⟩ := hSw; (have e1 := text_run_n wS A1 cb nT T HnT.out t0 HN.out.1); (have e2 := text_run_n wS A2 cb2 nT T HnT.out t1 HN.out.2); clear t0 t1; go_simp; (try with_reducible rfl); done)); (try simp only [Act.put, List.setIfInBounds_toArray, List.set_cons_zero, List.set_cons_succ]))
      (refine takeH (i := 2) (v := ?_) rfl (by kernel_rfl) (by kernel_rfl) (by kernel_rfl) (fun _ _ _ h => h) (Or.inl ⟨by rfl, ?_⟩) (by assumption) ?_; rotate_left; (focus ((intro wS hSw); (try dsimp only at hSw); obtain ⟨s0, s1, t0, t1⟩ := hSw; (have e1 := text_run_n wS A1 cb nT T HnT.out t0 HN.out.1); (have e2 := text_run_n wS A2 cb2 nT T HnT.out t1 HN.out.2); clear t0 t1; go_simp; (try with_reducible rfl); done)); (try simp only [Act.put, List.setIfInBounds_toArray, List.set_cons_zero, List.set_cons_succ]))
      (refine takeH (i := 3) (v := ?_) rfl (by kernel_rfl) (by kernel_rfl) (by kernel_rfl) (fun _ _ _ h => h) (Or.inl ⟨by rfl, ?_⟩) (by assumption) ?_; rotate_left; (focus ((intro wS hSw); (try dsimp only at hSw); obtain ⟨s0, s1, t0, t1⟩ := hSw; (have e1 := text_run_n wS A1 cb nT T HnT.out t0 HN.out.1); (have e2 := text_run_n wS A2 cb2 nT T HnT.out t1 HN.out.2); clear t0 t1; go_simp; (try with_reducible rfl); done)); (try simp only [Act.put, List.setIfInBounds_toArray, List.set_cons_zero, List.set_cons_succ]))
      (refine takeH (i := 4) (v := ?_) rfl (by kernel_rfl) (by kernel_rfl) (by kernel_rfl) (fun _ _ _ h => h) (Or.inl ⟨by rfl, ?_⟩) (by assumption) ?_; rotate_left; (focus ((intro wS hSw); (try dsimp only at hSw); obtain ⟨s0, s1, t0, t1⟩ := hSw; (have e1 := text_run_n wS A1 cb nT T HnT.out t0 HN.out.1); (have e2 := text_run_n wS A2 cb2 nT T HnT.out t1 HN.out.2); clear t0 t1; go_simp; (try with_reducible rfl); done)); (try simp only [Act.put, List.setIfInBounds_toArray, List.set_cons_zero, List.set_cons_succ]))
      (refine takeH (i := 5) (v := ?_) rfl (by kernel_rfl) (by kernel_rfl) (by kernel_rfl) (fun _ _ _ h => h) (Or.inl ⟨by rfl, ?_⟩) (by assumption) ?_; rotate_left; (focus ((intro wS hSw); (try dsimp only at hSw); obtain ⟨s0, s1, t0, t1⟩ := hSw; (have e1 := text_run_n wS A1 cb nT T HnT.out t0 HN.out.1); (have e2 := text_run_n wS A2 cb2 nT T HnT.out t1 HN.out.2); clear t0 t1; go_simp; (try with_reducible rfl); done)); (try simp only [Act.put, List.setIfInBounds_toArray, List.set_cons_zero, List.set_cons_succ]))
      (refine takeH (i := 6) (v := ?_) rfl (by kernel_rfl) (by kernel_rfl) (by kernel_rfl) (fun _ _ _ h => h) (Or.inl ⟨by rfl, ?_⟩) (by assumption) ?_; rotate_left; (focus ((intro wS hSw); (try dsimp only at hSw); obtain ⟨s0, s1, t0, t1⟩ := hSw; (have e1 := text_run_n wS A1 cb nT T HnT.out t0 HN.out.1); (have e2 := text_run_n wS A2 cb2 nT T HnT.out t1 HN.out.2); clear t0 t1; go_simp; (try with_reducible rfl); done)); (try simp only [Act.put, List.setIfInBounds_toArray, List.set_cons_zero, List.set_cons_succ]))
      (refine takeH (i := 7) (v := ?_) rfl (by kernel_rfl) (by kernel_rfl) (by kernel_rfl) (fun _ _ _ h => h) (Or.inl ⟨by rfl, ?_⟩) (by assumption) ?_; rotate_left; (focus ((intro wS hSw); (try dsimp only at hSw); obtain ⟨s0, s1, t0, t1⟩ := hSw; (have e1 := text_run_n wS A1 cb nT T HnT.out t0 HN.out.1); (have e2 := text_run_n wS A2 cb2 nT T HnT.out t1 HN.out.2); clear t0 t1; go_simp; (try with_reducible rfl); done)); (try simp only [Act.put, List.setIfInBounds_toArray, List.set_cons_zero, List.set_cons_succ]))
      (refine takeH (i := 8) (v := ?_) rfl (by kernel_rfl) (by kernel_rfl) (by kernel_rfl) (fun _ _ _ h => h) (Or.inl ⟨by rfl, ?_⟩) (by assumption) ?_; rotate_left; (focus ((intro wS hSw); (try dsimp only at hSw); obtain ⟨s0, s1, t0, t1⟩ := hSw; (have e1 := text_run_n wS A1 cb nT T HnT.out t0 HN.out.1); (have e2 := text_run_n wS A2 cb2 nT T HnT.out t1 HN.out.2); clear t0 t1; go_simp; (try with_reducible rfl); done)); (try simp only [Act.put, List.setIfInBounds_toArray, List.set_cons_zero, List.set_cons_succ]))
      (refine takeH (i := 9) (v := ?_) rfl (by kernel_rfl) (by kernel_rfl) (by kernel_rfl) (fun _ _ _ h => h) (Or.inl ⟨by rfl, ?_⟩) (by assumption) ?_; rotate_left; (focus ((intro wS hSw); (try dsimp only at hSw); obtain ⟨s0, s1, t0, t1⟩ := hSw; (have e1 := text_run_n wS A1 cb nT T HnT.out t0 HN.out.1); (have e2 := text_run_n wS A2 cb2 nT T HnT.out t1 HN.out.2); clear t0 t1; go_simp; (try with_reducible rfl); done)); (try simp only [Act.put, List.setIfInBounds_toArray, List.set_cons_zero, List.set_cons_succ]))
      (refine takeH (i := 10) (v := ?_) rfl (by kernel_rfl) (by kernel_rfl) (by kernel_rfl) (fun _ _ _ h => h) (Or.inl ⟨by rfl, ?_⟩) (by assumption) ?_; rotate_left; (focus ((intro wS hSw); (try dsimp only at hSw); obtain ⟨s0, s1, t0, t1⟩ := hSw; (have e1 := text_run_n wS A1 cb nT T HnT.out t0 HN.out.1); (have e2 := text_run_n wS A2 cb2 nT T HnT.out t1 HN.out.2); clear t0 t1; go_simp; (try with_reducible rfl); done)); (try simp only [Act.put, List.setIfInBounds_toArray, List.set_cons_zero, List.set_cons_succ]))
      refine wpAnyH_done (by kernel_rfl) ?_ _
      clear hHeld
      have hbs : (T.toArray.toList == T.toArray.toList) = true := beq_self_eq_true _
      go_wp2
      go_roundw
      case rel => exact ⟨k + 1, by omega, congrArg (Value.int .i64) (by omega), HBd⟩
      case measure => rw [hwk]; exact roundsLeft_next _ _ hlk
    · have hge : (L.length : Int) ≤ (k : Int) := by omega
      go_wp2
      go_ret
      exact ⟨rfl, HB.out⟩
/-- batches in a row of the call's own, each as it came in -/
def OwnB (w0 : World) (B : Nat) (v : Value) (L : List Text) (W : World) : Prop :=
  ∃ xs : List Value, W.ownsRow B 51 1 v L.length xs ∧ ∀ j (h : j < L.length), ∃ Aj cj, xs[j]? = some (.slice Aj L[j].length cj) ∧ L[j].length ≤ cj ∧ cj ≤ maxLen ∧ Txt w0 Aj L[j] ∧ (Aj = none → L[j] = [])
theorem OwnB.nil (w0 : World) (B : Nat) (W : World) : OwnB w0 B (.slice none 0 0) [] W := ⟨[], World.ownsRow_nil _ _ _ _, fun j hj => absurd hj (Nat.not_lt_zero j)⟩
theorem OwnB.on {w0 : World} {B : Nat} {v : Value} {L : List Text} {W W' : World} (h : OwnB w0 B v L W) (hb : Below W.heap.size W W') : OwnB w0 B v L W' := by
  obtain ⟨xs, h1, h2⟩ := h
  exact ⟨xs, own_on h1 hb, h2⟩
/-- blocks below the row's are turned -/
theorem OwnB.turn {w0 : World} {B : Nat} {v : Value} {L : List Text} {W W' : World} (h : OwnB w0 B v L W) (hk : ∀ k, B ≤ k → k < W.heap.size → W'.heap[k]? = W.heap[k]?) : OwnB w0 B v L W' := by
  obtain ⟨xs, h1, h2⟩ := h
  refine ⟨xs, ⟨h1.1, ?_⟩, h2⟩
  rcases h1.2 with hn | ⟨g', cap, cur, rfl, hb, hgg, rest⟩
  · exact .inl hn
  · refine .inr ⟨g', cap, cur, rfl, hb, ?_, rest⟩
    rw [hk g' hb (heapLt hgg)]
    exact hgg
theorem OwnB.form {w0 : World} {B : Nat} {v : Value} {L : List Text} {W : World} (h : OwnB w0 B v L W) : ∃ A c, v = .slice A L.length c := by
  obtain ⟨xs, h1, _⟩ := h
  rcases h1.2 with ⟨rfl, h0⟩ | ⟨g, c, cur, rfl, _⟩
  · have : L = [] := List.eq_nil_of_length_eq_zero h0
    subst this
    exact ⟨none, 0, rfl⟩
  · exact ⟨_, c, rfl⟩
theorem OwnB.bats {w0 : World} {B : Nat} {L : List Text} {W : World} {A : Option Addr} {n c : Nat} (h : OwnB w0 B (.slice A n c) L W) (hb : Below w0.heap.size w0 W) : BatsAt W A L := fun i hi => by
  obtain ⟨xs, h1, h2⟩ := h
  obtain ⟨Aj, cj, e, q1, q2, q3, q4⟩ := h2 i hi
  rcases h1.2 with ⟨_, h0⟩ | ⟨g, c', cur, ev, _, hh, _⟩
  · omega
  · injection ev with ev1 ev2 ev3
    subst ev1
    have := World.ownsRow.cells (g := g) h1 rfl i _ e
    rw [Addr.add_mid] at this
    exact ⟨g, 0, Aj, cj, rfl, heapLt hh, this, q1, q2, q3.below hb, q4⟩
theorem append_bats_run (w0 w : World) (B : Nat) (v : Value) (L : List Text) (hown : OwnB w0 B v L w) (g c m : Nat) (Aj : Option Addr) (T : Text) (t : TypeId) (fr : Nat × Nat) (hg : w.heap[g]? = some (.cells #[.slice Aj m c] t fr)) (hT : T.length = m) (hc : m ≤ c) (hcm : c ≤ maxLen)
    (hr : Txt w0 Aj T) (hn : Aj = none → T = []) (hL : L.length ≤ 100000) (hB : B ≤ w.heap.size) :
    ∃ v' w', (Builtin.append_ #[31, 31] 31 #[v, .slice (some ⟨g, 0, none⟩) 1 1]).run Try.prog w = .ok v' w' ∧ OwnB w0 B v' (L ++ [T]) w' ∧ w.grownBy w' v.ownBlock := by
  subst hT
  obtain ⟨xs, h1, h2⟩ := hown
  obtain ⟨i0, hi, hz0, hz1, hz2⟩ := info_parts rowFact
  obtain ⟨v', w', q1, q2, q3, _, q5⟩ := run_append_own_at (P := Try.prog) w B 31 31 51 i0 (.slice none 0 0) 1 24 Try.underlying31 hi hz0 hz1 hz2 rfl (by decide) v L.length xs h1 ⟨g, 0, none⟩ 1 1 [.slice Aj T.length c] (by simp)
    (fun j u hu => by
      have hj : j = 0 := by
        have := (List.getElem?_eq_some_iff.1 hu).1
        simp at this
        exact this
      subst hj
      rw [Addr.add_mid, Nat.zero_add, cell_of_row w g _ _ _ _ hg]
      simpa using hu) (fun u hu => by simp at hu; subst hu; rfl) (by unfold maxLen; omega) (by omega) hB
  refine ⟨v', w', q1, ⟨xs ++ [.slice Aj T.length c], by rw [List.length_append]; exact q2, fun j hj => ?_⟩, q3⟩
  have hxs : xs.length = L.length := by have := h1.1; omega
  by_cases hj2 : j < L.length
  · rw [List.getElem_append_left hj2]
    obtain ⟨A', c', e, e1⟩ := h2 j hj2
    exact ⟨A', c', by rw [List.getElem?_append_left (by omega)]; exact e, e1⟩
  · have hj3 : j = L.length := by rw [List.length_append] at hj; simp at hj; omega
    subst hj3
    rw [List.getElem_append_right (Nat.le_refl _)]
    simp only [Nat.sub_self, List.getElem_singleton]
    exact ⟨Aj, c, by rw [List.getElem?_append_right (by omega), hxs]; simp, hc, hcm, hr, hn⟩
theorem wpList_append_bats {w : World} {ops : Array Oper} {rest : List Oper} {o : Oper} {a : Act} {Q : Exit → Act → World → Prop} (hgd : o.guard = none) (s x : Operand)
    (ho : o.op = .call { callee := .builtin .append, args := #[s, x], argTypes := #[31, 31] }) (hty : o.type = 31)
    (w0 : World) (B : Nat) (v : Value) (L : List Text) (hs : a.eval s = v) (hown : OwnB w0 B v L w) (g : Nat) (hx : a.eval x = .slice (some ⟨g, 0, none⟩) 1 1) (c m : Nat) (Aj : Option Addr) (T : Text) (t : TypeId) (fr : Nat × Nat) (hg : w.heap[g]? = some (.cells #[.slice Aj m c] t fr)) (hT : T.length = m) (hc : m ≤ c) (hcm : c ≤ maxLen)
    (hr : Txt w0 Aj T) (hn : Aj = none → T = []) (hL : L.length ≤ 100000) (hB : B ≤ w.heap.size) (n2 : Nat) (hn2 : L.length + 1 = n2)
    (h : ∀ A' c' w', OwnB w0 B (.slice A' n2 c') (L ++ [T]) w' → w.grownBy w' v.ownBlock → wpList Try.prog ops Q rest (a.put o.dst (.slice A' n2 c')) w') : wpList Try.prog ops Q (o :: rest) a w :=
  wpList_plain hgd fun _ hK => by
    obtain ⟨v', w', q1, q2, q3⟩ := append_bats_run w0 w B v L hown g c m Aj T t fr hg hT hc hcm hr hn hL hB
    obtain ⟨A', c', rfl⟩ := q2.form
    rw [List.length_append, show [T].length = 1 from rfl, hn2] at q1 q2
    unfold Oper.wp execOp
    simp only [ho, hty, resolve, invoke, builtin, Sem.run_bind, Sem.run_pure, Result.andThen_ok, List.map_toArray, List.map_cons, List.map_nil, hs, hx, q1]
    exact hK _ _ (h A' c' w' q2 q3)
end Go.Proofs.Ytfjejiapafdgeaa

namespace Go.Proofs.Ytfjejiapafdgeaa
open Go.RowKit
set_option maxRecDepth 100000
set_option linter.unusedSimpArgs false
set_option linter.unusedVariables false

theorem Gone.off {d : DiskV} {m : Nat} {X : List Text} {t : Nat} (h : Gone d m X t) : Gone (offD d) m X t :=
  ⟨h.many, ⟨Int.le_refl 0, by show (0 : Int) ≤ 64; decide, Int.le_refl 0, by show (0 : Int) ≤ 9223372036854775807; decide, h.ok.2.2.2.2⟩, h.h64, h.inv⟩
theorem fx_same {d : DiskV} {a t : Int} (hok : OkD d) (ha : a ≤ 9223372036854775807) : OkD (FX d a t).1 ∧ (FX d a t).1.many = d.many ∧ (FX d a t).1.S = d.S ∧ (FX d a t).1.writes = d.writes ∧ (FX d a t).1.dead = d.dead := by
  unfold FX
  by_cases h : 0 ≤ a ∧ 0 ≤ t ∧ t ≤ 64
  · rw [if_pos h]
    exact ⟨⟨h.2.1, h.2.2, h.1, ha, hok.2.2.2.2⟩, rfl, rfl, rfl, rfl⟩
  · rw [if_neg h]
    exact ⟨hok, rfl, rfl, rfl, rfl⟩
theorem Gone.fx {d : DiskV} {m : Nat} {X : List Text} {t : Nat} (h : Gone d m X t) {a b : Int} (ha : a ≤ 9223372036854775807) : Gone (FX d a b).1 m X t := by
  obtain ⟨q1, q2, q3, q4, q5⟩ := fx_same (t := b) h.ok ha
  exact ⟨q2.trans h.many, q1, by rw [q3]; exact h.h64, by rw [q3]; exact h.inv⟩
theorem Live.fx {d : DiskV} {j : JnV} {m : Nat} {X : List Text} (h : Live d j m X) {a b : Int} (ha : a ≤ 9223372036854775807) : Live (FX d a b).1 j m X := by
  obtain ⟨q1, q2, q3, q4, q5⟩ := fx_same (t := b) h.ok ha
  exact ⟨q2.trans h.many, q5.trans h.dead, q1, by rw [q3]; exact h.h64, by rw [q3]; exact h.find, h.len, h.cut, by rw [q3]; exact h.blank⟩
theorem Live.new (m B : Nat) : Live (newD m) ⟨B, 0, false, 0⟩ m [] :=
  ⟨rfl, rfl, newD_ok m, fun _ _ => zeros_len, find_zero _ _ fun _ => rfl, rfl, rfl, fun _ _ _ => rfl⟩
/-- opened, power may go -/
theorem gone_open (w : World) (B bm nn : Nat) (d : DiskV) (m : Nat) (X : List Text) (t : Nat) (h : Dsk w B bm nn d) (hg : Gone d m X t) (hd : d.dead = false) (hn : nn ≤ 1000000) (hw : d.writes ≤ 1000000) (hX : X.length ≤ 100000) :
    Calls Try.prog 33 #[.pointer (some ⟨B, 0, none⟩)] w fun e w' => ∃ v n' d', e = .returned v ∧ Dsk w' B bm n' d' ∧ Gone d' m X t ∧ n' ≤ nn + m ∧ d'.writes ≤ d.writes + m ∧ ChgD w w' B bm := by
  obtain ⟨q1, q2, q3, q4⟩ := open_gone hg hd
  have hm := hg.many
  have e2 : (findT d.S d.many).2 = t := by rw [q1]
  have hle := hg.inv.le
  by_cases he : (WX d t).2.2 = 0
  · have hr : sreachV d t = 0 := by
      unfold sreachV
      rw [if_neg (by omega), if_neg (by rw [hd]; decide)]
    have hwi : wipeL d 0 (dirtyL d.S (findT d.S d.many).2 d.many) = ((WX d t).1, (WX d t).2.1, 0) := by
      have e : WX d t = wipeL d 0 (dirtyL d.S t d.many) := by
        unfold WX
        rw [if_pos hr, Int.toNat_natCast]
      rw [e2, ← e, ← he]
    refine (code_jopen w B bm nn d _ _ h hg.ok hd hn hw hwi (by rw [q1]; exact hX)).mono ?_
    rintro e w' ⟨P, A, c, n, rfl, _, _, h4, h5, _, h7⟩
    exact ⟨_, n, _, rfl, h4, q2, by omega, q3, h7⟩
  · refine (jopen_cut w B bm nn d h hg.ok hd hn hw (by rw [e2]; exact he)).mono ?_
    rw [e2]
    rintro e w' ⟨n, rfl, h4, h5, h7⟩
    exact ⟨_, n, _, rfl, h4, q2, by omega, q3, h7⟩
/-- power is there, nothing stands behind the tail -/
structure Still (d : DiskV) (m : Nat) (X : List Text) (t : Nat) : Prop where
  many : d.many = m
  ok : OkD d
  dead : d.dead = false
  set : d.set = false
  find : findT d.S m = (X, t)
  blank : ∀ j, t ≤ j → j < m → d.S j = zeros
/-- opened where power stays -/
theorem last_open (w : World) (B bm nn : Nat) (d : DiskV) (m : Nat) (X : List Text) (t : Nat) (h : Dsk w B bm nn d) (hg : Gone d m X t) (hd : d.dead = false) (hs : d.set = false) (hn : nn ≤ 1000000) (hw : d.writes ≤ 1000000) (hX : X.length ≤ 100000) :
    Calls Try.prog 33 #[.pointer (some ⟨B, 0, none⟩)] w fun e w' => ∃ P A c n' d', e = .returned (.tuple #[.pointer (some ⟨P, 0, none⟩), .slice A X.length c, .int .i64 0]) ∧ JnAt w' P ⟨B, t, false, X.length⟩ ∧ SecsAt w' A c X ∧ Dsk w' B bm n' d' ∧ Still d' m X t ∧ n' ≤ nn + m ∧ d'.writes ≤ d.writes + m ∧ w.heap.size ≤ P ∧ ChgD w w' B bm := by
  obtain ⟨q1, q2, q3, q4⟩ := open_gone hg hd
  have hm := hg.many
  obtain ⟨d2, a1, a2, a3, a4, a5, a6, a7, a8, a9⟩ := wiped_from (d := d) (tail := t) hd hs (by rw [hm]; exact hg.h64)
  have hr : sreachV d t = 0 := by
    have hle := hg.inv.le
    unfold sreachV
    rw [if_neg (by omega), if_neg (by rw [hd]; decide)]
  have e : (WX d t).1 = d2 := by
    unfold WX
    rw [if_pos hr, Int.toNat_natCast, a1]
  rw [e] at q2 q3
  have ho := code_jopen w B bm nn d d2 (dirtyL d.S t d.many).length h hg.ok hd hn hw (by rw [q1]; exact a1) (by rw [q1]; exact hX)
  rw [q1] at ho
  refine ho.mono ?_
  rintro e w' ⟨P, A, c, n, rfl, h2, h3, h4, h5, h6, h7⟩
  exact ⟨P, A, c, n, d2, rfl, h2, h3, h4, ⟨q2.many, q2.ok, a3, a4, q2.inv.find, fun j h1 h2 => a9 j h1 (by omega)⟩, by omega, q3, h6, h7⟩
/-- opened once more -/
theorem still_open (w : World) (B bm nn : Nat) (d : DiskV) (m : Nat) (X : List Text) (t : Nat) (h : Dsk w B bm nn d) (hg : Still d m X t) (hn : nn ≤ 1000000) (hw : d.writes ≤ 1000000) (hX : X.length ≤ 100000) :
    Calls Try.prog 33 #[.pointer (some ⟨B, 0, none⟩)] w fun e w' => ∃ P A c n', e = .returned (.tuple #[.pointer (some ⟨P, 0, none⟩), .slice A X.length c, .int .i64 0]) ∧ JnAt w' P ⟨B, t, false, X.length⟩ ∧ SecsAt w' A c X ∧ Dsk w' B bm n' d ∧ w.heap.size ≤ P ∧ ChgD w w' B bm := by
  have hm := hg.many
  have q1 : findT d.S d.many = (X, t) := by rw [hm]; exact hg.find
  have hz : dirtyL d.S t d.many = [] := dirty_none (fun j h1 h2 => hg.blank j h1 (by omega))
  have ho := code_jopen w B bm nn d d 0 h hg.ok hg.dead hn hw (by rw [q1, hz]; rfl) (by rw [q1]; exact hX)
  rw [q1] at ho
  refine ho.mono ?_
  rintro e w' ⟨P, A, c, n, rfl, h2, h3, h4, h5, h6, h7⟩
  exact ⟨P, A, c, n, rfl, h2, h3, h4, h6, h7⟩
theorem code_poweroff (w : World) (B bm n : Nat) (d : DiskV) (h : Dsk w B bm n d) :
    Calls Try.prog 28 #[.pointer (some ⟨B, 0, none⟩)] w fun e w' => e = .returned (.int .i64 0) ∧ Dsk w' B bm n (offD d) ∧ ChgD w w' B bm := code_power w B bm n d h
/-- what the appends keep -/
structure LiveS (w : World) (B bm P B0 m k n : Nat) (j : JnV) (d : DiskV) (X : List Text) (v : Value) (W : World) : Prop where
  at_ : JnAt W P j
  dsk : Dsk W B bm n d
  jb : j.B = B
  live : Live d j m X
  own : OwnB w B0 v X W
  few : X.length ≤ k
  wr : d.writes ≤ 1000 * (k : Int)
  nn : n ≤ 60 + 1000 * k
  low : Below w.heap.size w W
  hz : B0 ≤ W.heap.size
/-- what the opens keep: k of them -/
structure GoneS (w : World) (B bm B0 m k n : Nat) (d : DiskV) (X X' : List Text) (t : Nat) (v : Value) (W : World) : Prop where
  dsk : Dsk W B bm n d
  gone : Gone d m X' t
  own : OwnB w B0 v X W
  few : X.length ≤ 30
  few2 : X'.length ≤ 31
  wr : d.writes ≤ 40000 + 100 * (k : Int)
  nn : n ≤ 40000 + 100 * k
  low : Below w.heap.size w W
  hz : B0 ≤ W.heap.size
/-- the batch on its way -/
def OnV (w : World) (von : Value) (X X' : List Text) : Prop := X' = X ∨ ∃ a b c, von = .slice (some a) b.length c ∧ Txt w (some a) b ∧ X' = X ++ [b]
theorem GoneS.on {w : World} {B bm B0 m k n : Nat} {d : DiskV} {X X' : List Text} {t : Nat} {v : Value} {W W' : World} (h : GoneS w B bm B0 m k n d X X' t v W) (hb : Below W.heap.size W W') : GoneS w B bm B0 m k n d X X' t v W' :=
  { h with dsk := h.dsk.below hb, own := h.own.on hb, low := below_then h.low hb, hz := Nat.le_trans h.hz hb.size }
/-- the disk alone was turned -/
theorem GoneS.chg {w : World} {B bm B0 m k n : Nat} {d : DiskV} {X X' : List Text} {t : Nat} {v : Value} {W W' : World} (h : GoneS w B bm B0 m k n d X X' t v W) (hc : ChgD W W' B bm) (l1 : w.heap.size ≤ B) (l2 : w.heap.size ≤ bm) (g1 : B < B0) (g2 : bm < B0) {k' n' : Nat} {d' : DiskV} (hd : Dsk W' B bm n' d') (hg : Gone d' m X' t) (hw : d'.writes ≤ 40000 + 100 * (k' : Int)) (hn : n' ≤ 40000 + 100 * k') :
    GoneS w B bm B0 m k' n' d' X X' t v W' :=
  ⟨hd, hg, h.own.turn fun k hk hlt => hc.block k hlt (by omega) (by omega), h.few, h.few2, hw, hn, h.low.trans (hc.below h.low.size l1 l2), Nat.le_trans h.hz hc.size⟩
theorem LiveS.on {w : World} {B bm P B0 m k n : Nat} {j : JnV} {d : DiskV} {X : List Text} {v : Value} {W W' : World} (h : LiveS w B bm P B0 m k n j d X v W) (hb : Below W.heap.size W W') : LiveS w B bm P B0 m k n j d X v W' :=
  { h with at_ := h.at_.below hb, dsk := h.dsk.below hb, own := h.own.on hb, low := below_then h.low hb, hz := Nat.le_trans h.hz hb.size }
theorem LiveS.gone {w : World} {B bm P B0 m k n : Nat} {j : JnV} {d : DiskV} {X : List Text} {v : Value} {W : World} (h : LiveS w B bm P B0 m k n j d X v W) (hk : k ≤ 30) : GoneS w B bm B0 m 0 n d X X j.tail v W :=
  ⟨h.dsk, h.live.gone, h.own, Nat.le_trans h.few hk, by have := h.few; omega, by have := h.wr; omega, by have := h.nn; omega, h.low, h.hz⟩
theorem neq_nilslice (a : Addr) (n c : Nat) (W : World) : (binOp .neq 51 (.slice (some a) n c) (.slice none 0 0)).run Try.prog W = .ok (.bool true) W := by kernel_rfl
theorem same_pre {w : World} {A A' : Option Addr} {c c' n : Nat} {X : List Text} (hn : n = X.length) (hX : X.length ≤ 100000) (h : BatsAt w A X) (h' : BatsAt w A' X) : ∀ V, Below w.heap.size w V → Calls Try.prog 35 #[.slice A n c, .slice A' n c'] V fun e w' => e = .returned (.bool true) ∧ Below V.heap.size V w' := by
  subst hn
  exact fun V hV => code_jsameB X A A' c c' V hX (h.below hV) (h'.below hV)
theorem OwnB.low {w0 : World} {B : Nat} {v : Value} {L : List Text} {W W' : World} (h : OwnB w0 B v L W) (hg : W.grownBy W' v.ownBlock) (hB : B ≤ W.heap.size) : Below B W W' := by
  obtain ⟨xs, h1, _⟩ := h
  refine (Below.refl _ _).grown hg hB ?_
  intro b e
  rcases h1.2 with ⟨rfl, _⟩ | ⟨g, c, cur, rfl, hb, _⟩
  · simp [Value.ownBlock] at e
  · simp [Value.ownBlock] at e
    omega
/-- a batch kept is put into the row -/
theorem step_own {w w5 wA w6 : World} {B bm P B0 m k n1 : Nat} {j' : JnV} {d' : DiskV} {X Y : List Text} {v0 v : Value}
    (h : OwnB w B0 v0 X w5 ∧ B0 ≤ w5.heap.size ∧ (∀ w2 v, JnAt w2 P j' → (∃ n2, Dsk w2 B bm n2 d' ∧ n2 ≤ n1 + 1000) → OwnB w B0 v Y w2 → Below w.heap.size w w2 → B0 ≤ w2.heap.size → ∃ n3 j2 d2, LiveS w B bm P B0 m (k + 1) n3 j2 d2 Y v w2) ∧ JnAt w5 P j' ∧ (∃ n2, Dsk w5 B bm n2 d' ∧ n2 ≤ n1 + 1000) ∧ Below w.heap.size w w5)
    (ha : Below w5.heap.size w5 wA) (hg : wA.grownBy w6 v0.ownBlock) (h1 : P < B0) (h2 : B < B0) (h3 : bm < B0) (ho : OwnB w B0 v Y w6) (hw : w.heap.size ≤ B0) : ∃ n3 j2 d2, LiveS w B bm P B0 m (k + 1) n3 j2 d2 Y v w6 := by
  obtain ⟨a1, a2, a3, a4, ⟨n2, a5, a6⟩, a7⟩ := h
  have hb : Below B0 wA w6 := (a1.on ha).low hg (Nat.le_trans a2 ha.size)
  exact a3 w6 v ((hb.block P h1).trans (a4.below ha)) ⟨n2, (a5.below ha).low hb h2 h3, a6⟩ ho ((below_then a7 ha).trans (hb.mono hw)) (Nat.le_trans (Nat.le_trans a2 ha.size) hb.size)
end Go.Proofs.Ytfjejiapafdgeaa

namespace Go.Proofs.Ytfjejiapafdgeaa
open Go.RowKit
set_option maxRecDepth 100000
set_option linter.unusedSimpArgs false
set_option linter.unusedVariables false

set_option maxHeartbeats 2000000 in
theorem code_jsame (L : List Text) (A A' : Option Addr) (c c' : Nat) (w : World) (hl : L.length ≤ 100000) (h : SecsAt w A c L) (h' : SecsAt w A' c' L) :
    Calls Try.prog 35 #[.slice A L.length c, .slice A' L.length c'] w fun e w' => e = .returned (.bool true) ∧ Below w.heap.size w w' := by
  have HA := Lib.hid h
  have HA' := Lib.hid h'
  have HL := Lib.hid hl
  clear h h' hl
  have hnl : ((L.length : Int) != (L.length : Int)) = false := by simp
  go_enter Try.func35, Try.ntmps35
  go_wp2
  clear hnl
  go_loopw [13] (fun i wr => ∃ k : Nat, k ≤ L.length ∧ i = .int .i64 (k : Nat) ∧ Hid (Below w.heap.size w wr)) (fun i _ => roundsLeft L.length i)
  case atStart => exact ⟨0, Nat.zero_le _, rfl, Lib.hid (Below.refl _ _)⟩
  case round =>
    obtain ⟨k, hk, rfl, HB⟩ := hrel
    by_cases hlt : k < L.length
    · have hlt' : (k : Int) < (L.length : Int) := by omega
      have hwk : wrap64 ((k : Int) + 1) = (k : Int) + 1 := by have := HL.out; unfold wrap64; omega
      rcases HA.out with ⟨rfl, rfl, rfl⟩ | ⟨G, rfl, hT, _⟩
      · simp at hlt
      rcases HA'.out with ⟨rfl, rfl, rfl⟩ | ⟨G', rfl, hT', _⟩
      · simp at hlt
      obtain ⟨b, cb, q1, q2, q3, q4, q5, q6⟩ := hT k hlt
      obtain ⟨b2, cb2, r1, r2, r3, r4, r5, r6⟩ := hT' k hlt
      obtain ⟨T, hT0⟩ : ∃ T, T = L[k] := ⟨_, rfl⟩
      rw [← hT0] at q1 q4 r1 r4
      clear hT0 q2 q3 q5 q6 r2 r3 r5 r6 hT hT'
      have c1 := (HB.out.cell (p := ⟨G, k, none⟩) (block_lt_of_cell q1)).trans q1
      have c2 := (HB.out.cell (p := ⟨G', k, none⟩) (block_lt_of_cell r1)).trans r1
      have t1 : Txt wr (some ⟨b, 0, none⟩) T := (mid_txt q4).below HB.out
      have t2 : Txt wr (some ⟨b2, 0, none⟩) T := (mid_txt r4).below HB.out
      generalize hnT : T.length = nT at c1 c2
      have HnT := Lib.hid hnT
      have hlk : k < L.length := hlt
      have HS0 : Hid ((fun V : World => V.cell? ⟨G, k, none⟩ = some (.slice (some ⟨b, 0, none⟩) nT cb) ∧ V.cell? ⟨G', k, none⟩ = some (.slice (some ⟨b2, 0, none⟩) nT cb2) ∧ Txt V (some ⟨b, 0, none⟩) T ∧ Txt V (some ⟨b2, 0, none⟩) T) wr.drew) := Lib.hid ⟨cell_on (Below.refl _ _).drew c1, cell_on (Below.refl _ _).drew c2, t1.below (Below.refl _ _).drew, t2.below (Below.refl _ _).drew⟩
      have HBd : Hid (Below w.heap.size w wr.drew) := Lib.hid HB.out.drew
      clear hnT c1 c2 t1 t2 q1 q4 r1 r4
      go_wp2
      refine wp_region_held_drew (S := fun V => V.cell? ⟨G, k, none⟩ = some (.slice (some ⟨b, 0, none⟩) nT cb) ∧ V.cell? ⟨G', k, none⟩ = some (.slice (some ⟨b2, 0, none⟩) nT cb2) ∧ Txt V (some ⟨b, 0, none⟩) T ∧ Txt V (some ⟨b2, 0, none⟩) T) (by kernel_rfl) HS0.out ?_
      intro hHeld
      clear HS0
      generalize wr.drew = wd at HBd hHeld ⊢
      (refine takeH (i := 0) (v := ?_) rfl (by kernel_rfl) (by kernel_rfl) (by kernel_rfl) (fun _ _ _ h => h) (Or.inl ⟨by rfl, ?_⟩) (by assumption) ?_; rotate_left; (focus ((intro wS hSw); (try dsimp only at hSw); obtain ⟨s0, s1, t0, t1⟩ := hSw; (have e1 := text_run_n wS (some ⟨b, 0, none⟩) cb nT T HnT.out t0 (fun e => by cases e)); (have e2 := text_run_n wS (some ⟨b2, 0, none⟩) cb2 nT T HnT.out t1 (fun e => by cases e)); clear t0 t1; go_simp; (try with_reducible rfl); done)); (try simp only [Act.put, List.setIfInBounds_toArray, List.set_cons_zero, List.set_cons_succ]))
      (refine takeH (i := 1) (v := ?_) rfl (by kernel_rfl) (by kernel_rfl) (by kernel_rfl) (fun _ _ _ h => h) (Or.inl ⟨by rfl, ?_⟩) (by assumption) ?_; rotate_left; (focus ((intro wS hSw); (try dsimp only at hSw); obtain ⟨s0, s1, t0, t1⟩ := hSw; (have e1 := text_run_n wS (some ⟨b, 0, none⟩) cb nT T HnT.out t0 (fun e => by cases e)); (have e2 := text_run_n wS (some ⟨b2, 0, none⟩) cb2 nT T HnT.out t1 (fun e => by cases e)); clear t0 t1; go_simp; (try with_reducible rfl); done)); (try simp only [Act.put, List.setIfInBounds_toArray, List.set_cons_zero, List.set_cons_succ]))
      (refine takeH (i := 2) (v := ?_) rfl (by kernel_rfl) (by kernel_rfl) (by kernel_rfl) (fun _ _ _ h => h) (Or.inl ⟨by rfl, ?_⟩) (by assumption) ?_; rotate_left; (focus ((intro wS hSw); (try dsimp only at hSw); obtain ⟨s0, s1, t0, t1⟩ := hSw; (have e1 := text_run_n wS (some ⟨b, 0, none⟩) cb nT T HnT.out t0 (fun e => by cases e)); (have e2 := text_run_n wS (some ⟨b2, 0, none⟩) cb2 nT T HnT.out t1 (fun e => by cases e)); clear t0 t1; go_simp; (try with_reducible rfl); done)); (try simp only [Act.put, List.setIfInBounds_toArray, List.set_cons_zero, List.set_cons_succ]))
      (refine takeH (i := 3) (v := ?_) rfl (by kernel_rfl) (by kernel_rfl) (by kernel_rfl) (fun _ _ _ h => h) (Or.inl ⟨by rfl, ?_⟩) (by assumption) ?_; rotate_left; (focus ((intro wS hSw); (try dsimp only at hSw); obtain ⟨s0, s1, t0, t1⟩ := hSw; (have e1 := text_run_n wS (some ⟨b, 0, none⟩) cb nT T HnT.out t0 (fun e => by cases e)); (have e2 := text_run_n wS (some ⟨b2, 0, none⟩) cb2 nT T HnT.out t1 (fun e => by cases e)); clear t0 t1; go_simp; (try with_reducible rfl); done)); (try simp only [Act.put, List.setIfInBounds_toArray, List.set_cons_zero, List.set_cons_succ]))
      (refine takeH (i := 4) (v := ?_) rfl (by kernel_rfl) (by kernel_rfl) (by kernel_rfl) (fun _ _ _ h => h) (Or.inl ⟨by rfl, ?_⟩) (by assumption) ?_; rotate_left; (focus ((intro wS hSw); (try dsimp only at hSw); obtain ⟨s0, s1, t0, t1⟩ := hSw; (have e1 := text_run_n wS (some ⟨b, 0, none⟩) cb nT T HnT.out t0 (fun e => by cases e)); (have e2 := text_run_n wS (some ⟨b2, 0, none⟩) cb2 nT T HnT.out t1 (fun e => by cases e)); clear t0 t1; go_simp; (try with_reducible rfl); done)); (try simp only [Act.put, List.setIfInBounds_toArray, List.set_cons_zero, List.set_cons_succ]))
      (refine takeH (i := 5) (v := ?_) rfl (by kernel_rfl) (by kernel_rfl) (by kernel_rfl) (fun _ _ _ h => h) (Or.inl ⟨by rfl, ?_⟩) (by assumption) ?_; rotate_left; (focus ((intro wS hSw); (try dsimp only at hSw); obtain ⟨s0, s1, t0, t1⟩ := hSw; (have e1 := text_run_n wS (some ⟨b, 0, none⟩) cb nT T HnT.out t0 (fun e => by cases e)); (have e2 := text_run_n wS (some ⟨b2, 0, none⟩) cb2 nT T HnT.out t1 (fun e => by cases e)); clear t0 t1; go_simp; (try with_reducible rfl); done)); (try simp only [Act.put, List.setIfInBounds_toArray, List.set_cons_zero, List.set_cons_succ]))
      (refine takeH (i := 6) (v := ?_) rfl (by kernel_rfl) (by kernel_rfl) (by kernel_rfl) (fun _ _ _ h => h) (Or.inl ⟨by rfl, ?_⟩) (by assumption) ?_; rotate_left; (focus ((intro wS hSw); (try dsimp only at hSw); obtain ⟨s0, s1, t0, t1⟩ := hSw; (have e1 := text_run_n wS (some ⟨b, 0, none⟩) cb nT T HnT.out t0 (fun e => by cases e)); (have e2 := text_run_n wS (some ⟨b2, 0, none⟩) cb2 nT T HnT.out t1 (fun e => by cases e)); clear t0 t1; go_simp; (try with_reducible rfl); done)); (try simp only [Act.put, List.setIfInBounds_toArray, List.set_cons_zero, List.set_cons_succ]))
      (refine takeH (i := 7) (v := ?_) rfl (by kernel_rfl) (by kernel_rfl) (by kernel_rfl) (fun _ _ _ h => h) (Or.inl ⟨by rfl, ?_⟩) (by assumption) ?_; rotate_left; (focus ((intro wS hSw); (try dsimp only at hSw); obtain ⟨s0, s1, t0, t1⟩ := hSw; (have e1 := text_run_n wS (some ⟨b, 0, none⟩) cb nT T HnT.out t0 (fun e => by cases e)); (have e2 := text_run_n wS (some ⟨b2, 0, none⟩) cb2 nT T HnT.out t1 (fun e => by cases e)); clear t0 t1; go_simp; (try with_reducible rfl); done)); (try simp only [Act.put, List.setIfInBounds_toArray, List.set_cons_zero, List.set_cons_succ]))
      (refine takeH (i := 8) (v := ?_) rfl (by kernel_rfl) (by kernel_rfl) (by kernel_rfl) (fun _ _ _ h => h) (Or.inl ⟨by rfl, ?_⟩) (by assumption) ?_; rotate_left; (focus ((intro wS hSw); (try dsimp only at hSw); obtain ⟨s0, s1, t0, t1⟩ := hSw; (have e1 := text_run_n wS (some ⟨b, 0, none⟩) cb nT T HnT.out t0 (fun e => by cases e)); (have e2 := text_run_n wS (some ⟨b2, 0, none⟩) cb2 nT T HnT.out t1 (fun e => by cases e)); clear t0 t1; go_simp; (try with_reducible rfl); done)); (try simp only [Act.put, List.setIfInBounds_toArray, List.set_cons_zero, List.set_cons_succ]))
      (refine takeH (i := 9) (v := ?_) rfl (by kernel_rfl) (by kernel_rfl) (by kernel_rfl) (fun _ _ _ h => h) (Or.inl ⟨by rfl, ?_⟩) (by assumption) ?_; rotate_left; (focus ((intro wS hSw); (try dsimp only at hSw); obtain ⟨s0, s1, t0, t1⟩ := hSw; (have e1 := text_run_n wS (some ⟨b, 0, none⟩) cb nT T HnT.out t0 (fun e => by cases e)); (have e2 := text_run_n wS (some ⟨b2, 0, none⟩) cb2 nT T HnT.out t1 (fun e => by cases e)); clear t0 t1; go_simp; (try with_reducible rfl); done)); (try simp only [Act.put, List.setIfInBounds_toArray, List.set_cons_zero, List.set_cons_succ]))
      (refine takeH (i := 10) (v := ?_) rfl (by kernel_rfl) (by kernel_rfl) (by kernel_rfl) (fun _ _ _ h => h) (Or.inl ⟨by rfl, ?_⟩) (by assumption) ?_; rotate_left; (focus ((intro wS hSw); (try dsimp only at hSw); obtain ⟨s0, s1, t0, t1⟩ := hSw; (have e1 := text_run_n wS (some ⟨b, 0, none⟩) cb nT T HnT.out t0 (fun e => by cases e)); (have e2 := text_run_n wS (some ⟨b2, 0, none⟩) cb2 nT T HnT.out t1 (fun e => by cases e)); clear t0 t1; go_simp; (try with_reducible rfl); done)); (try simp only [Act.put, List.setIfInBounds_toArray, List.set_cons_zero, List.set_cons_succ]))
      refine wpAnyH_done (by kernel_rfl) ?_ _
      clear hHeld
      have hbs : (T.toArray.toList == T.toArray.toList) = true := beq_self_eq_true _
      go_wp2
      go_roundw
      case rel => exact ⟨k + 1, by omega, congrArg (Value.int .i64) (by omega), HBd⟩
      case measure => rw [hwk]; exact roundsLeft_next _ _ hlk
    · have hge : (L.length : Int) ≤ (k : Int) := by omega
      go_wp2
      go_ret
      exact ⟨rfl, HB.out⟩
end Go.Proofs.Ytfjejiapafdgeaa
