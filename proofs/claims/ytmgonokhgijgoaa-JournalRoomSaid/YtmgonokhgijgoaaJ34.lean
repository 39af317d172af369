/- Scan's calls on a disk that no call made, and on one without power. Texts of a row, appended to a row of the call's own. -/
import Derived.Test.YtmgonokhgijgoaaJ33
import Derived.Test.YtmgonokhgijgoaaJ30
import Derived.Test.YtmgonokhgijgoaaJ17
import Derived.Test.YtmgonokhgijgoaaJ14
namespace Go.Proofs.Ytmgonokhgijgoaa
open Go.RowKit
set_option maxRecDepth 100000
set_option linter.unusedSimpArgs false
set_option linter.unusedVariables false

/-- a disk that no call made: nil, or all nought -/
def NoD (W : World) (p : Value) : Prop := p = .pointer none ∨ ∃ b, p = .pointer (some ⟨b, 0, none⟩) ∧ b < W.heap.size ∧ W.cell? ⟨b, 0, none⟩ = some (.int .i64 0)
theorem NoD.below {W W' : World} {p : Value} (h : NoD W p) (hb : Below W.heap.size W W') : NoD W' p := by
  rcases h with h | ⟨b, e, h1, h2⟩
  · exact .inl h
  · exact .inr ⟨b, e, Nat.lt_of_lt_of_le h1 hb.size, cell_on hb h2⟩
theorem no_len (W : World) (p : Value) (h : NoD W p) : Calls Try.prog 46 #[p] W fun e w' => e = .returned (.int .i64 0) ∧ W = w' := by
  rcases h with rfl | ⟨b, rfl, _, hc⟩
  all_goals (
    go_enter Try.func46, Try.ntmps46
    go_wp2
    go_ret
    exact ⟨rfl, rfl⟩)
theorem no_reach (W : World) (p : Value) (f : Int) (h : NoD W p) : Calls Try.prog 45 #[p, .int .i64 f] W fun e w' => e = .returned (.int .i64 1) ∧ W = w' := by
  have HL := Lib.hid (no_len W p h)
  clear h
  go_enter Try.func45, Try.ntmps45
  go_wp2_with (go_at_call 46; refine HL.out.mono ?_; rintro e w1 ⟨rfl, rfl⟩)
  go_ret
  exact ⟨rfl, rfl⟩
theorem no_dirty (W : World) (p : Value) (f : Int) (h : NoD W p) : Calls Try.prog 17 #[p, .int .i64 f] W fun e w' => e = .returned (.tuple #[.int .i64 0, .int .i64 1]) ∧ W = w' := by
  have HR := Lib.hid (no_reach W p f h)
  clear h
  go_enter Try.func17, Try.ntmps17
  go_wp2_with (go_at_call 45; refine HR.out.mono ?_; rintro e w1 ⟨rfl, rfl⟩)
  go_ret2
  exact ⟨rfl, rfl⟩
attribute [local go_sem] jump3_normal jump3_exit jump3_ret jump3_panic
/-- Find, where the sectors can't be read -/
theorem find_bad (W : World) (p : Value) (x : Int) (hx : x ≠ 0) (h : Calls Try.prog 45 #[p, .int .i64 0] W fun e w' => e = .returned (.int .i64 x) ∧ W = w') :
    Calls Try.prog 15 #[p] W fun e w' => e = .returned (.tuple #[.slice none 0 0, .int .i64 0, .int .i64 x]) ∧ W = w' := by
  have HR := Lib.hid h
  have hv : (x != 0) = true := by simpa using hx
  clear h
  go_enter Try.func15, Try.ntmps15
  go_wp2
  refine wp_scope3f (fun _ _ _ => False) (fun _ _ _ => False) (fun _ _ _ => False) rfl rfl rfl ?first (fun _ _ _ h => h.elim) (fun _ _ _ h => h.elim) (fun _ _ _ h => h.elim)
  intro Z hZ
  clear hZ
  go_wp2_with (go_at_call 45; refine HR.out.mono ?_; rintro e w1 ⟨rfl, rfl⟩)
  rw [jump3_ret]
  go_ret3
  exact ⟨rfl, rfl⟩
theorem dead_find (W : World) (B bm n : Nat) (d : DiskV) (h : Dsk W B bm n d) (hd : d.dead = true) : Calls Try.prog 15 #[.pointer (some ⟨B, 0, none⟩)] W fun e w' => e = .returned (.tuple #[.slice none 0 0, .int .i64 0, .int .i64 32]) ∧ W = w' :=
  find_bad W _ 32 (by decide) (by
    have h1 := code_sreach W B bm n d 0 h
    have h2 : sreachV d 0 = 32 := by unfold sreachV; rw [hd, if_neg (by have := h.2.2.2.2; omega), if_pos rfl]
    rwa [h2] at h1)
/-- two answers, each in a cell of its own -/
theorem results_ints {fn : Func} {p q : Tmp} (h : fn.results = #[.cell p 3, .cell q 33]) (tmps : Array Value) (W : World) (g g' : Nat) (v b : Value) (hp : tmps.getD p undef = .pointer (some ⟨g, 0, none⟩)) (hq : tmps.getD q undef = .pointer (some ⟨g', 0, none⟩))
    (h1 : W.cell? ⟨g, 0, none⟩ = some v) (h2 : W.cell? ⟨g', 0, none⟩ = some b) : (results fn tmps).run Try.prog W = .ok (.tuple #[v, b]) W := by
  have z1 : (isAgg 3).run Try.prog W = .ok false W := by rfl
  have z2 : (isAgg 33).run Try.prog W = .ok false W := by rfl
  have hp' : tmps[p]?.getD undef = .pointer (some ⟨g, 0, none⟩) := by simpa [Array.getD_eq_getD_getElem?] using hp
  have hq' : tmps[q]?.getD undef = .pointer (some ⟨g', 0, none⟩) := by simpa [Array.getD_eq_getD_getElem?] using hq
  simp [results, h, hp', hq', go_sem, loadVar, z1, z2, h1, h2]
theorem wipe_bad (W : World) (p : Option Addr) (f x : Int) (hx : x ≠ 0) (h : ∀ V, Below W.heap.size W V → Calls Try.prog 45 #[.pointer p, .int .i64 f] V fun e w' => e = .returned (.int .i64 x) ∧ V = w') :
    Calls Try.prog 22 #[.pointer p, .int .i64 f] W fun e w' => e = .returned (.tuple #[.int .i64 0, .int .i64 x]) ∧ Below W.heap.size W w' := by
  have HR := Lib.hid h
  have hv : (x != 0) = true := by simpa using hx
  have HB : Hid (Below W.heap.size W (((W.alloc (.cells #[.pointer p] 25)).alloc (.cells #[.int .i64 0] 3)).alloc (.cells #[.int .i64 0] 33))) := Lib.hid (below_then (below_then (below_alloc _ _) (below_alloc _ _)) (below_alloc _ _))
  clear h
  go_enter Try.func22, Try.ntmps22
  go_wp2_with (go_at_call 45; refine (HR.out _ HB.out).mono ?_; rintro e w1 ⟨rfl, rfl⟩)
  have e2 := heap_alloc_new (W.alloc (.cells #[.pointer p] 25)) (.cells #[.int .i64 0] 3)
  have e3 := heap_alloc_new ((W.alloc (.cells #[.pointer p] 25)).alloc (.cells #[.int .i64 0] 3)) (.cells #[.int .i64 x] 33)
  have b3 := below_alloc ((W.alloc (.cells #[.pointer p] 25)).alloc (.cells #[.int .i64 0] 3)) (.cells #[.int .i64 x] 33)
  simp only [World.size_alloc] at e2 e3
  refine bodyPost_ret (results_ints rfl _ _ (W.heap.size + 1) (W.heap.size + 1 + 1) (.int .i64 0) (.int .i64 x) rfl rfl (cell_of_row _ _ 0 _ _ _ (heap_on b3 e2)) (cell_of_row _ _ 0 _ _ _ e3)) rfl ⟨rfl, below_then (below_then (below_alloc _ _) (below_alloc _ _)) (below_alloc _ _)⟩
theorem no_find (W : World) (p : Value) (h : NoD W p) : Calls Try.prog 15 #[p] W fun e w' => e = .returned (.tuple #[.slice none 0 0, .int .i64 0, .int .i64 1]) ∧ W = w' := find_bad W p 1 (by decide) (no_reach W p 0 h)
theorem no_wipe (W : World) (p : Value) (f : Int) (h : NoD W p) : Calls Try.prog 22 #[p, .int .i64 f] W fun e w' => e = .returned (.tuple #[.int .i64 0, .int .i64 1]) ∧ Below W.heap.size W w' := by
  have hr := fun V hb => no_reach V p f (h.below hb)
  rcases h with rfl | ⟨b, rfl, _⟩
  · exact wipe_bad W none f 1 (by decide) hr
  · exact wipe_bad W _ f 1 (by decide) hr
end Go.Proofs.Ytmgonokhgijgoaa

namespace Go.Proofs.Ytmgonokhgijgoaa
open Go.RowKit
set_option maxRecDepth 100000

/-- the texts whose slices stand in block g from 0 on -/
def TextsAt (w : World) (g : Nat) (M : List Text) : Prop :=
  ∀ j (h : j < M.length), ∃ b c, w.cell? ⟨g, j, none⟩ = some (.slice (some ⟨b, 0, none⟩) M[j].length c) ∧ M[j].length ≤ c ∧ c ≤ maxLen ∧ w.rangeAt b 0 (M[j].map cellOf) ∧ b < w.heap.size ∧ 0 < M[j].length
theorem OwnT.texts {B : Nat} {v : Value} {L : List Text} {W : World} {g : Nat} {n c : Nat} (h : OwnT B v L W) (hv : v = .slice (some ⟨g, 0, none⟩) n c) : TextsAt W g L := fun j hj => h.at_ hv j hj
theorem TextsAt.take {w : World} {g : Nat} {M : List Text} (h : TextsAt w g M) (k : Nat) : TextsAt w g (M.take k) := fun j hj => by
  have hj' : j < M.length := by rw [List.length_take] at hj; omega
  have e : (M.take k)[j] = M[j] := List.getElem_take
  rw [e]
  exact h j hj'
/-- a text's block is no row's -/
theorem OwnT.apart {B : Nat} {v : Value} {L : List Text} {w : World} (h : OwnT B v L w) (hz : L = [] → v = .slice none 0 0) {b : Nat} {T : Text} (hr : w.rangeAt b 0 (T.map cellOf)) (hT : 0 < T.length) : v.ownBlock ≠ some b := by
  intro hv
  cases hL : L with
  | nil => rw [hz hL] at hv; cases hv
  | cons x L' =>
    have hl : 0 < L.length := by rw [hL]; simp
    obtain ⟨g, c, e, _⟩ := h.form hl
    obtain ⟨b', c', h1, _⟩ := h.at_ e 0 hl
    rw [e] at hv
    injection hv with hv
    have hg : g = b := hv
    subst hg
    cases hT2 : T with
    | nil => rw [hT2] at hT; cases hT
    | cons y T' =>
      have h2 := hr 0 (cellOf y) (by rw [hT2]; rfl)
      rw [h1] at h2
      injection h2 with h2
      unfold cellOf at h2
      cases h2
theorem append_texts_run (w : World) (B : Nat) (v : Value) (L : List Text) (hown : OwnT B v L w) (hz : L = [] → v = .slice none 0 0) (g2 c2 : Nat) (M : List Text) (hM : TextsAt w g2 M) (hL : L.length + M.length ≤ 100000) (hB : B ≤ w.heap.size) :
    ∃ v' w', (Builtin.append_ #[31, 31] 31 #[v, .slice (some ⟨g2, 0, none⟩) M.length c2]).run Try.prog w = .ok v' w' ∧ OwnT B v' (L ++ M) w' ∧ w.grownBy w' v.ownBlock ∧ (v'.ownBlock = v.ownBlock ∨ v'.ownBlock = some w.heap.size) ∧ (L ++ M = [] → v' = .slice none 0 0) := by
  have hap : ∀ j (h : j < M.length) (b : Nat), w.rangeAt b 0 (M[j].map cellOf) → 0 < M[j].length → v.ownBlock ≠ some b := fun j h b hr h0 => hown.apart hz hr h0
  obtain ⟨ys, hys, hyl⟩ : ∃ ys : List Value, (∀ j (h : j < M.length), w.cell? ⟨g2, j, none⟩ = ys[j]?) ∧ ys.length = M.length := by
    refine ⟨(List.range M.length).map fun j => (w.cell? ⟨g2, j, none⟩).getD undef, fun j h => ?_, by simp⟩
    obtain ⟨b, c, e, _⟩ := hM j h
    rw [e]
    simp [h, e]
  have hx := hown
  obtain ⟨xs, h1, h2⟩ := hown
  obtain ⟨i0, hi, hz0, hz1, hz2⟩ := info_parts rowFact
  obtain ⟨v', w', q1, q2, q3, q4, q5⟩ := run_append_own_at (P := Try.prog) w B 31 31 51 i0 (.slice none 0 0) 1 24 Try.underlying31 hi hz0 hz1 hz2 rfl (by decide) v L.length xs h1 ⟨g2, 0, none⟩ M.length c2 ys (by rw [hyl, Nat.mul_one])
    (fun j u hu => by
      have hj : j < M.length := by have := (List.getElem?_eq_some_iff.1 hu).1; omega
      rw [Addr.add_mid, Nat.zero_add, hys j hj]
      exact hu) (fun u hu => by
      obtain ⟨j, hj, e⟩ := List.getElem_of_mem hu
      have hj' : j < M.length := by omega
      obtain ⟨b, c, e2, _⟩ := hM j hj'
      rw [hys j hj', List.getElem?_eq_getElem hj, e] at e2
      injection e2 with e2
      rw [e2]
      rfl) (by unfold maxLen; omega) (by omega) hB
  refine ⟨v', w', q1, ⟨xs ++ ys, by rw [List.length_append]; exact q2, fun j hj => ?_⟩, q3, q5, fun hn => ?_⟩
  · have hxs : xs.length = L.length := by have := h1.1; omega
    have far : ∀ k, k < w.heap.size → v.ownBlock ≠ some k → v'.ownBlock ≠ some k := fun k hk hv e => by
      rcases q5 with q5 | q5
      · exact hv (q5.symm.trans e)
      · rw [q5] at e
        injection e with e
        omega
    by_cases hj2 : j < L.length
    · obtain ⟨b', c', e, e1, e2, e3, e4, e5, e6⟩ := h2 j hj2
      rw [List.getElem_append_left hj2]
      refine ⟨b', c', by rw [List.getElem?_append_left (by omega)]; exact e, e1, e2, fun i u hu => q3.cell (e3 i u hu) (Ne.symm e5), Nat.lt_of_lt_of_le e4 q3.size, far b' e4 e5, e6⟩
    · have hj3 : j - L.length < M.length := by rw [List.length_append] at hj; omega
      obtain ⟨b, c, e, e1, e2, e3, e4, e5⟩ := hM (j - L.length) hj3
      have hne := hap _ hj3 b e3 e5
      rw [List.getElem_append_right (by omega)]
      refine ⟨b, c, by rw [List.getElem?_append_right (by omega), hxs, ← hys _ hj3]; exact e, e1, e2, fun i u hu => q3.cell (e3 i u hu) (Ne.symm hne), Nat.lt_of_lt_of_le e4 q3.size, far b e4 hne, e5⟩
  · obtain ⟨hL0, hM0⟩ := List.append_eq_nil_iff.1 hn
    exact q4.2 ⟨hz hL0, by rw [hM0]; rfl⟩
end Go.Proofs.Ytmgonokhgijgoaa
