/- A batch's bytes, read off its sectors. -/
import Derived.Test.YtfjejiapafdgeaaJ13
import Derived.Test.YtfjejiapafdgeaaJ15
import Derived.Test.YtfjejiapafdgeaaJ16
import Derived.Test.YtfjejiapafdgeaaJ3
import Derived.Test.YtfjejiapafdgeaaJ6
import Derived.Deep.RegionHeld3
namespace Go.Proofs.Ytfjejiapafdgeaa
open Go.RowKit
attribute [local go_sem] Oper.semAt_some
set_option maxRecDepth 100000

theorem rows_mid {w : World} {A : Option Addr} {L : List Text} (h : TextRows w A L) (hl : 0 < L.length) : ∃ b o, A = some ⟨b, o, none⟩ ∧ b < w.heap.size := by
  obtain ⟨a, Ai, ci, rfl, hb, hc, _⟩ := h 0 hl
  obtain ⟨b, o, s⟩ := a
  have hs : s = none := by
    unfold World.cell? Addr.add at hc
    cases s with
    | none => rfl
    | some x =>
      simp at hc
      split at hc <;> simp at hc
  subst hs
  exact ⟨b, o, rfl, hb⟩
theorem rows_at {w : World} {b o : Nat} {L : List Text} (h : TextRows w (some ⟨b, o, none⟩) L) (i : Nat) (hi : i < L.length) (h0 : 0 < L[i].length) :
    ∃ be oe ce, w.cell? ⟨b, o + i, none⟩ = some (.slice (some ⟨be, oe, none⟩) L[i].length ce) ∧ w.rangeAt be oe (L[i].map cellOf) := by
  obtain ⟨a, Ai, ci, e, hb, hc, hT, _, _⟩ := h i hi
  injection e with e
  subst e
  obtain ⟨be, oe, rfl, _, hr⟩ := txt_mid hT (List.length_pos_iff.1 h0)
  rw [Addr.add_mid] at hc
  exact ⟨be, oe, ci, hc, hr⟩
/-- is that the batch? -/
def joinT (L : List Text) (n : Nat) : Text := L.flatten.take n
def joinB (L : List Text) (n u : Nat) : Bool := decide (∀ i, i < L.length → L[i]? = some (cutT (joinT L n) i)) && decide ((Crc.sumT (joinT L n)).toNat = u)
/-- the boxes of a call of Join -/
def JBox (w : World) (pv : Value) (s n u : Int) (W : World) : Prop :=
  W.heap[w.heap.size]? = some (.cells #[pv] 31 (0, 0)) ∧ W.heap[w.heap.size + 1]? = some (headO s n u) ∧ W.heap[w.heap.size + 1 + 1]? = some (.cells #[.slice none 0 0] 51 (0, 0)) ∧ W.heap[w.heap.size + 1 + 1 + 1]? = some (.cells #[.bool false] 4 (0, 0)) ∧ Below w.heap.size w W ∧ w.heap.size + 4 ≤ W.heap.size
section
variable {w W W' : World} {pv : Value} {s n u : Int}
theorem JBox.far (h : JBox w pv s n u W) (hb : Below (w.heap.size + 4) W W') : JBox w pv s n u W' :=
  ⟨(hb.block _ (by omega)).trans h.1, (hb.block _ (by omega)).trans h.2.1, (hb.block _ (by omega)).trans h.2.2.1, (hb.block _ (by omega)).trans h.2.2.2.1, h.2.2.2.2.1.trans (hb.mono (by omega)), Nat.le_trans h.2.2.2.2.2 hb.size⟩
theorem JBox.on (h : JBox w pv s n u W) (hb : Below W.heap.size W W') : JBox w pv s n u W' := h.far (hb.mono h.2.2.2.2.2)
theorem JBox.cell0 (h : JBox w pv s n u W) : W.cell? ⟨w.heap.size, 0, none⟩ = some pv := by
  rw [cell_of_row W _ 0 _ _ _ h.1]; rfl
theorem JBox.outs (h : JBox w pv s n u W) : W.cell? ⟨w.heap.size + 1 + 1, 0, none⟩ = some (.slice none 0 0) ∧ W.cell? ⟨w.heap.size + 1 + 1 + 1, 0, none⟩ = some (.bool false) ∧ W.frozen? ⟨w.heap.size + 1 + 1, 0, none⟩ = false ∧ W.frozen? ⟨w.heap.size + 1 + 1 + 1, 0, none⟩ = false :=
  ⟨by rw [cell_of_row W _ 0 _ _ _ h.2.2.1]; rfl, by rw [cell_of_row W _ 0 _ _ _ h.2.2.2.1]; rfl, frozen_of_row W _ 0 _ _ h.2.2.1, frozen_of_row W _ 0 _ _ h.2.2.2.1⟩
end
theorem JBox.set {w W : World} {pv : Value} {s n u : Int} (h : JBox w pv s n u W) : JBox w pv s n u ((W.setCell ⟨w.heap.size + 1 + 1, 0, none⟩ (.slice none 0 0)).setCell ⟨w.heap.size + 1 + 1 + 1, 0, none⟩ (.bool false)) := by
  obtain ⟨h1, h2, h3, h4, h5, h6⟩ := h
  refine ⟨?_, ?_, ?_, ?_, ?_, by simpa using h6⟩
  · rw [heap_setCell_other _ _ _ _ (by simp <;> omega), heap_setCell_other _ _ _ _ (by simp <;> omega)]; exact h1
  · rw [heap_setCell_other _ _ _ _ (by simp), heap_setCell_other _ _ _ _ (by simp)]; exact h2
  · rw [heap_setCell_other _ _ _ _ (by simp)]; exact heap_setCell_same W _ 0 _ _ _ h3
  · exact heap_setCell_same _ _ 0 _ _ _ ((heap_setCell_other _ _ _ _ (by simp)).trans h4)
  · exact (h5.setCell (p := ⟨w.heap.size + 1 + 1, 0, none⟩) (by simp; omega) _).setCell (p := ⟨w.heap.size + 1 + 1 + 1, 0, none⟩) (by simp; omega) _
theorem flat_len (L : List Text) (h : ∀ i (hi : i < L.length), L[i].length = 64) : L.flatten.length = 64 * L.length := by
  induction L with
  | nil => rfl
  | cons a L ih =>
    have h0 := h 0 (by simp)
    simp only [List.getElem_cons_zero] at h0
    rw [List.flatten_cons, List.length_append, h0, ih (fun i hi => by have := h (i + 1) (by simpa using hi); simpa using this), List.length_cons]
    omega
theorem set2 {W : World} {g : Nat} {x y v b : Value} {t t' : TypeId} (h1 : W.heap[g + 1 + 1]? = some (.cells #[x] t (0, 0))) (h2 : W.heap[g + 1 + 1 + 1]? = some (.cells #[y] t' (0, 0))) :
    ((W.setCell ⟨g + 1 + 1, 0, none⟩ v).setCell ⟨g + 1 + 1 + 1, 0, none⟩ b).heap[g + 1 + 1]? = some (.cells #[v] t (0, 0)) ∧ ((W.setCell ⟨g + 1 + 1, 0, none⟩ v).setCell ⟨g + 1 + 1 + 1, 0, none⟩ b).heap[g + 1 + 1 + 1]? = some (.cells #[b] t' (0, 0)) := by
  constructor
  · rw [heap_setCell_other _ _ _ _ (by simp)]
    exact heap_setCell_same W _ 0 _ _ _ h1
  · have h3 : (W.setCell ⟨g + 1 + 1, 0, none⟩ v).heap[g + 1 + 1 + 1]? = some (.cells #[y] t' (0, 0)) := (heap_setCell_other _ _ _ _ (by simp)).trans h2
    exact heap_setCell_same _ _ 0 _ _ _ h3
theorem results_join {fn : Func} {p q : Tmp} (h : fn.results = #[.cell p 51, .cell q 4]) (tmps : Array Value) (W : World) (g g' : Nat) (v b : Value) (hp : tmps.getD p undef = .pointer (some ⟨g, 0, none⟩)) (hq : tmps.getD q undef = .pointer (some ⟨g', 0, none⟩))
    (h1 : W.cell? ⟨g, 0, none⟩ = some v) (h2 : W.cell? ⟨g', 0, none⟩ = some b) : (results fn tmps).run Try.prog W = .ok (.tuple #[v, b]) W := by
  have z1 : (isAgg 51).run Try.prog W = .ok false W := by rfl
  have hp' : tmps[p]?.getD undef = .pointer (some ⟨g, 0, none⟩) := by simpa [Array.getD_eq_getD_getElem?] using hp
  have hq' : tmps[q]?.getD undef = .pointer (some ⟨g', 0, none⟩) := by simpa [Array.getD_eq_getD_getElem?] using hq
  simp [results, h, hp', hq', go_sem, loadVar, z1, h1, h2]
/-- nothing, or in a block of its own from its start on -/
def Fresh0 (w : World) (B : Option Addr) (c : Nat) (T : Text) : Prop := (B = none ∧ T = []) ∨ ∃ g, B = some ⟨g, 0, none⟩ ∧ w.heap.size ≤ g ∧ T.length ≤ c ∧ c ≤ maxLen
theorem Fresh0.mono {w W : World} {B : Option Addr} {c : Nat} {T : Text} (h : Fresh0 W B c T) (hs : w.heap.size ≤ W.heap.size) : Fresh0 w B c T := by
  rcases h with h | ⟨g, e, h1, h2⟩
  · exact .inl h
  · exact .inr ⟨g, e, Nat.le_trans hs h1, h2⟩
/-- what Join answers -/
def JoinR (w : World) (L : List Text) (n u : Nat) (e : Ending) (w' : World) : Prop := ∃ B c T', e = .returned (.tuple #[.slice B T'.length c, .bool (joinB L n u)]) ∧ T' = (if joinB L n u = true then joinT L n else []) ∧ T'.length ≤ c ∧ c ≤ maxLen ∧ Txt w' B T' ∧ Fresh0 w B c T' ∧ Below w.heap.size w w'
theorem joinR_no {w W : World} {L : List Text} {n u : Nat} (h : joinB L n u = false) (hb : Below w.heap.size w W) : JoinR w L n u (.returned (.tuple #[.slice none 0 0, .bool false])) W :=
  ⟨none, 0, [], by rw [h]; rfl, by rw [h]; rfl, Nat.le_refl _, Nat.zero_le _, Txt.none_, .inl ⟨rfl, rfl⟩, hb⟩
theorem joinR_yes {w W : World} {L : List Text} {n u g c : Nat} {T : Text} (h : joinB L n u = true) (hT : T = joinT L n) (hn : T.length = n) (hc : n ≤ c) (hm : c ≤ maxLen) (ht : Txt W (some ⟨g, 0, none⟩) T) (hg : w.heap.size ≤ g) (hb : Below w.heap.size w W) : JoinR w L n u (.returned (.tuple #[.slice (some ⟨g, 0, none⟩) n c, .bool true])) W :=
  ⟨some ⟨g, 0, none⟩, c, T, by rw [h, hn], by rw [h]; exact hT, by omega, hm, ht, .inr ⟨g, rfl, hg, by omega, hm⟩, hb⟩
theorem Txt.same {A B : World} {b o : Nat} {l : Text} (ht : Txt A (some ⟨b, o, none⟩) l) (hk : B.heap[b]? = A.heap[b]?) (hs : A.heap.size ≤ B.heap.size) : Txt B (some ⟨b, o, none⟩) l := fun hn => by
  obtain ⟨a, e, h1, h2⟩ := ht hn
  injection e with e
  subst e
  exact ⟨_, rfl, Nat.lt_of_lt_of_le h1 hs, fun i hi => (World.cell?_of_block (by rw [add_block]; exact hk)).trans (h2 i hi)⟩
set_option maxHeartbeats 4000000 in
theorem code_join_c (L : List Text) (A : Option Addr) (cL : Nat) (s : Int) (n u : Nat) (w : World) (hh : headOk s n = true) (hm : L.length = (n + 63) / 64) (h64 : ∀ i (h : i < L.length), L[i].length = 64) (hu : u < 4294967296) (hT : TextRows w A L) :
    Calls Try.prog 74 #[.slice A L.length cL, headV s n u] w (JoinR w L n u) := by
  have hn : 1 ≤ n ∧ n ≤ 131072 := by
    unfold headOk at hh
    have hx : 0 < needV n := by have h2 := hh; simp only [Bool.and_eq_true, decide_eq_true_eq] at h2; exact h2.2
    unfold needV at hx
    by_cases hc2 : (n : Int) < 1 ∨ 131072 < (n : Int)
    · rw [if_pos hc2] at hx; omega
    · omega
  have hL0 : 0 < L.length := by omega
  obtain ⟨bA, oA, rfl, hbA⟩ := rows_mid hT hL0
  have HT := Lib.hid hT
  have H64 := Lib.hid h64
  have HN := Lib.hid (And.intro hn (And.intro hm hL0))
  have HH : Hid (∀ W, Calls Try.prog 70 #[headV s n u] W fun e w' => e = .returned (.bool true) ∧ Below W.heap.size W w') := Lib.hid (fun W => by have := code_isHead s n u W; rwa [hh] at this)
  have HBt : Hid (∀ W, Calls Try.prog 72 #[.int .i64 n] W fun e w' => e = .returned (.int .i64 L.length) ∧ W = w') := Lib.hid (fun W => (code_between n W (by omega) (by omega)).mono fun e w' ⟨x, y⟩ => ⟨by rw [x, hm]; congr 2, y⟩)
  have HIP : Hid (∀ W B c, Calls Try.prog 68 #[.slice B 64 c] W fun e w' => e = .returned (.bool true) ∧ W = w') := Lib.hid (fun W B c => code_isPage B 64 c W)
  obtain ⟨i0, hi, hz0, hz1, hz2⟩ := info_parts u8fact
  have iL : (L.length : Int) ≤ 2048 := by omega
  have jw : IntKind.i64.wrap (n : Int) = (n : Int) := by rw [IntKind.wrap_i64]; omega
  have HJ0 : Hid (JBox w (.slice (some ⟨bA, oA, none⟩) L.length cL) s n u ((((w.alloc (.cells #[.slice (some ⟨bA, oA, none⟩) L.length cL] 31)).alloc (headO s n u)).alloc (.cells #[.slice none 0 0] 51)).alloc (.cells #[.bool false] 4))) := Lib.hid (by
    have b1 := below_alloc (w.alloc (.cells #[.slice (some ⟨bA, oA, none⟩) L.length cL] 31)) (headO s n u)
    have b2 := below_alloc ((w.alloc (.cells #[.slice (some ⟨bA, oA, none⟩) L.length cL] 31)).alloc (headO s n u)) (.cells #[.slice none 0 0] 51)
    have b3 := below_alloc (((w.alloc (.cells #[.slice (some ⟨bA, oA, none⟩) L.length cL] 31)).alloc (headO s n u)).alloc (.cells #[.slice none 0 0] 51)) (.cells #[.bool false] 4)
    have h1 := heap_alloc_new (w.alloc (.cells #[.slice (some ⟨bA, oA, none⟩) L.length cL] 31)) (headO s n u)
    have h2 := heap_alloc_new ((w.alloc (.cells #[.slice (some ⟨bA, oA, none⟩) L.length cL] 31)).alloc (headO s n u)) (.cells #[.slice none 0 0] 51)
    have h3 := heap_alloc_new (((w.alloc (.cells #[.slice (some ⟨bA, oA, none⟩) L.length cL] 31)).alloc (headO s n u)).alloc (.cells #[.slice none 0 0] 51)) (.cells #[.bool false] 4)
    simp only [World.size_alloc] at h1 h2 h3
    exact ⟨heap_on b3 (heap_on b2 (heap_on b1 (heap_alloc_new w _))), heap_on b3 (heap_on b2 h1), heap_on b3 h2, h3, below_then (below_then (below_then (below_alloc w _) b1) b2) b3, by simp⟩)
  unfold headV at HH
  unfold headO at HJ0
  clear hT h64 hn hm hL0 hh
  refine callsIn_wide.1 (callsIn_of_wp_marks (n := 0) (F := Fence.wide) Try.func74 rfl trivial (wpIn_wide.2 ?_) rfl)
  simp only [Try.ntmps74, List.size_toArray, List.length_cons, List.length_nil, Nat.reduceAdd, Nat.reduceSub, Array.replicate_succ, Array.replicate_zero, List.push_toArray, List.append_toArray, List.nil_append, List.cons_append]
  unfold headV
  go_wp2
  generalize (((w.alloc (.cells #[.slice (some ⟨bA, oA, none⟩) L.length cL] 31)).alloc (.cells #[.int .i64 s, .int .i64 n, .int .u32 u] 96)).alloc (.cells #[.slice none 0 0] 51)).alloc (.cells #[.bool false] 4) = wb at HJ0 ⊢
  refine wp_region_noPanic (wp_region_held_drew (S := fun W => W.cell? ⟨w.heap.size, 0, none⟩ = some (.slice (some ⟨bA, oA, none⟩) L.length cL) ∧ W.cell? ⟨w.heap.size + 1, 0, none⟩ = some (.int .i64 s) ∧ W.cell? ⟨w.heap.size + 1, 1, none⟩ = some (.int .i64 n) ∧ W.cell? ⟨w.heap.size + 1, 2, none⟩ = some (.int .u32 u)) (by kernel_rfl) ⟨HJ0.out.cell0, head_cells HJ0.out.2.1⟩ ?_)
  intro hHeld
  have HJ := Lib.hid (HJ0.out.on (below_drew wb))
  clear HJ0
  generalize wb.drew = w0 at HJ hHeld ⊢
  (refine takeH (i := 0) (v := ?_) rfl (by kernel_rfl) (by kernel_rfl) (by kernel_rfl) (fun _ _ _ h => h) (Or.inl ⟨by rfl, ?_⟩) (by assumption) ?_; rotate_left; (focus ((intro wS hSw); (try dsimp only at hSw); obtain ⟨s0, s1, s2, s3⟩ := hSw; go_simp; (try with_reducible rfl); done)); (try simp only [Act.put, List.setIfInBounds_toArray, List.set_cons_zero, List.set_cons_succ]))
  refine aloneH (i := 1) rfl (by kernel_rfl) (fun K hK => ?_)
  rw [if_pos (by rfl)]
  go_simp; ((refine (HH.out w0).mono ?_); (rintro e w1 ⟨rfl, hb⟩); have HB1 := Lib.hid hb; clear hb; (try go_simp))
  refine hK.out _ _ (⟨cell_on HB1.out hHeld.1, cell_on HB1.out hHeld.2.1, cell_on HB1.out hHeld.2.2.1, cell_on HB1.out hHeld.2.2.2⟩) (fun hNew => ?_)
  clear hK K hHeld; (have hHeld := hNew); clear hNew; (try simp only [Act.put, List.setIfInBounds_toArray, List.set_cons_zero, List.set_cons_succ])
  (refine takeH (i := 2) (v := ?_) rfl (by kernel_rfl) (by kernel_rfl) (by kernel_rfl) (fun _ _ _ h => h) (Or.inl ⟨by rfl, ?_⟩) (by assumption) ?_; rotate_left; (focus ((intro wS hSw); (try dsimp only at hSw); obtain ⟨s0, s1, s2, s3⟩ := hSw; go_simp; (try with_reducible rfl); done)); (try simp only [Act.put, List.setIfInBounds_toArray, List.set_cons_zero, List.set_cons_succ]))
  (refine takeH (i := 3) (v := ?_) rfl (by kernel_rfl) (by kernel_rfl) (by kernel_rfl) (fun _ _ _ h => h) (Or.inl ⟨by rfl, ?_⟩) (by assumption) ?_; rotate_left; (focus ((intro wS hSw); (try dsimp only at hSw); obtain ⟨s0, s1, s2, s3⟩ := hSw; go_simp; (try with_reducible rfl); done)); (try simp only [Act.put, List.setIfInBounds_toArray, List.set_cons_zero, List.set_cons_succ]))
  (refine takeH (i := 4) (v := ?_) rfl (by kernel_rfl) (by kernel_rfl) (by kernel_rfl) (fun _ _ _ h => h) (Or.inl ⟨by rfl, ?_⟩) (by assumption) ?_; rotate_left; (focus ((intro wS hSw); (try dsimp only at hSw); obtain ⟨s0, s1, s2, s3⟩ := hSw; go_simp; (try with_reducible rfl); done)); (try simp only [Act.put, List.setIfInBounds_toArray, List.set_cons_zero, List.set_cons_succ]))
  (refine takeH (i := 5) (v := ?_) rfl (by kernel_rfl) (by kernel_rfl) (by kernel_rfl) (fun _ _ _ h => h) (Or.inl ⟨by rfl, ?_⟩) (by assumption) ?_; rotate_left; (focus ((intro wS hSw); (try dsimp only at hSw); obtain ⟨s0, s1, s2, s3⟩ := hSw; go_simp; (try with_reducible rfl); done)); (try simp only [Act.put, List.setIfInBounds_toArray, List.set_cons_zero, List.set_cons_succ]))
  (refine takeH (i := 6) (v := ?_) rfl (by kernel_rfl) (by kernel_rfl) (by kernel_rfl) (fun _ _ _ h => h) (Or.inl ⟨by rfl, ?_⟩) (by assumption) ?_; rotate_left; (focus ((intro wS hSw); (try dsimp only at hSw); obtain ⟨s0, s1, s2, s3⟩ := hSw; go_simp; (try with_reducible rfl); done)); (try simp only [Act.put, List.setIfInBounds_toArray, List.set_cons_zero, List.set_cons_succ]))
  (refine takeH (i := 7) (v := ?_) rfl (by kernel_rfl) (by kernel_rfl) (by kernel_rfl) (fun _ _ _ h => h) (Or.inl ⟨by rfl, ?_⟩) (by assumption) ?_; rotate_left; (focus ((intro wS hSw); (try dsimp only at hSw); obtain ⟨s0, s1, s2, s3⟩ := hSw; go_simp; (try with_reducible rfl); done)); (try simp only [Act.put, List.setIfInBounds_toArray, List.set_cons_zero, List.set_cons_succ]))
  refine aloneH (i := 8) rfl (by kernel_rfl) (fun K hK => ?_)
  rw [if_pos (by rfl)]
  go_simp; ((refine (HBt.out w1).mono ?_); (rintro e w2 ⟨rfl, rfl⟩); (try go_simp))
  have HB2 : Hid (Below w1.heap.size w1 w1) := Lib.hid (Below.refl _ _)
  refine hK.out _ _ (hHeld) (fun hNew => ?_)
  clear hK K hHeld; (have hHeld := hNew); clear hNew; (try simp only [Act.put, List.setIfInBounds_toArray, List.set_cons_zero, List.set_cons_succ])
  (refine takeH (i := 9) (v := ?_) rfl (by kernel_rfl) (by kernel_rfl) (by kernel_rfl) (fun _ _ _ h => h) (Or.inl ⟨by rfl, ?_⟩) (by assumption) ?_; rotate_left; (focus ((intro wS hSw); (try dsimp only at hSw); obtain ⟨s0, s1, s2, s3⟩ := hSw; go_simp; (try with_reducible rfl); done)); (try simp only [Act.put, List.setIfInBounds_toArray, List.set_cons_zero, List.set_cons_succ]))
  (refine takeH (i := 10) (v := ?_) rfl (by kernel_rfl) (by kernel_rfl) (by kernel_rfl) (fun _ _ _ h => h) (Or.inl ⟨by rfl, ?_⟩) (by assumption) ?_; rotate_left; (focus ((intro wS hSw); (try dsimp only at hSw); obtain ⟨s0, s1, s2, s3⟩ := hSw; go_simp; (try with_reducible rfl); done)); (try simp only [Act.put, List.setIfInBounds_toArray, List.set_cons_zero, List.set_cons_succ]))
  refine wpAnyH_done (by kernel_rfl) ?_ _
  refine NoPanic.normal ?_
  have HJ1 := Lib.hid (HJ.out.on (below_then HB1.out HB2.out))
  clear hHeld HJ
  have hc0 := HJ1.out.cell0
  go_wp2_with (at_make; refine wpList_make_own _ rfl _ _ 51 rfl (w.heap.size + 4) 5 i0 (.int .u8 0) 1 Try.underlying51 hi hz0 hz1 _ _ _ (64 * L.length) rfl rfl (by omega) (by rw [hz2]; omega) (by unfold maxLen; omega) HJ1.out.2.2.2.2.2 ?_; intro wm hown hgrow; have HO : Hid (wm.ownsRow (w.heap.size + 4) 5 1 (.slice (some ⟨w1.heap.size, 0, none⟩) 0 (64 * L.length)) (flatK L 0).length ((flatK L 0).map cellOf)) := Lib.hid (by simpa [flatK] using hown); have HJ2 := Lib.hid (HJ1.out.on ((Below.refl _ w1).grown hgrow (Nat.le_refl _) (fun k hk => by cases hk))); clear hown hgrow hc0; have hc1 := HJ2.out.cell0)
  clear hc1 hi hz0 hz1 hz2
  go_loopw [6, 28] (fun v i wr => ∃ k : Nat, k ≤ L.length ∧ i = .int .i64 k ∧ Hid (wr.ownsRow (w.heap.size + 4) 5 1 v (flatK L k).length ((flatK L k).map cellOf)) ∧ Hid (JBox w (.slice (some ⟨bA, oA, none⟩) L.length cL) s n u wr)) (fun _ i _ => L.length - (intOf i).toNat)
  case atStart => exact ⟨0, Nat.zero_le _, rfl, HO, HJ2⟩
  case round =>
    obtain ⟨k, hk, rfl, HOk, HJk⟩ := hrel
    by_cases hlt : k < L.length
    · have hlt' : (k : Int) < (L.length : Int) := by omega
      obtain ⟨a, Ai, ci, ea, hbl, hcl, hti, hni, hli⟩ := (HT.out.below HJk.out.2.2.2.2.1) k hlt
      injection ea with ea
      subst ea
      rw [Addr.add_mid, H64.out k hlt] at hcl
      have HN2 := Lib.hid (And.intro hti hni)
      have HL4 : Hid (L[k].length = 64 ∧ (flatK L k).length ≤ 131072) := Lib.hid (by
        refine ⟨H64.out k hlt, ?_⟩
        have h1 : ∀ j, j ≤ L.length → (flatK L j).length = 64 * j := by
          intro j
          induction j with
          | zero => intro _; simp [flatK]
          | succ j ih =>
            intro hj
            rw [flatK_next L j (by omega), List.length_append, ih (by omega), H64.out j (by omega)]
            omega
        rw [h1 k hk]
        omega)
      clear hti hni hbl hli
      go_wp2_with (first
        | (go_at_call 68; refine (HIP.out _ _ _).mono ?_; rintro e w7 ⟨rfl, rfl⟩)
        | (at_builtin; refine wpList_append_text rfl _ _ rfl rfl (w.heap.size + 4) _ (flatK L k).length ((flatK L k).map cellOf) rfl HOk.out Ai ci L[k] (by rw [HL4.out.1]; rfl) HN2.out.1 HN2.out.2 (by have := HL4.out.1; have := HL4.out.2; omega) HJk.out.2.2.2.2.2 ?_; intro v' w' hown hg hat; have HO3 : Hid (w'.ownsRow (w.heap.size + 4) 5 1 v' (flatK L (k + 1)).length ((flatK L (k + 1)).map cellOf)) := Lib.hid (by rw [flatK_next L k hlt]; simpa using hown); have HJ3 := Lib.hid (HJk.out.far ((Below.refl _ wr).grown hg HJk.out.2.2.2.2.2 (fun k hk => (HOk.out.lt k hk).1))); clear hown hg hat))
      go_roundw
      case rel => exact ⟨k + 1, by omega, by go_num, HO3, HJ3⟩
      case measure => simp [intOf]; omega
    · obtain rfl : k = L.length := by omega
      have e9 : flatK L L.length = L.flatten := by simp [flatK]
      rw [e9] at HOk
      have hfl : L.flatten.length = 64 * L.length := flat_len L H64.out
      obtain ⟨g, c', rfl, hcap, hcm, htx, hge, hglt⟩ := own_more HOk.out (by rw [hfl]; have := HN.out.2.2; omega)
      obtain ⟨T, hT⟩ : ∃ T, T = joinT L n := ⟨_, rfl⟩
      have hTn : T.length = n := by rw [hT]; unfold joinT; rw [List.length_take, hfl]; have := HN.out.2.1; omega
      have hmany : manyC T = L.length := by unfold manyC; rw [hTn]; exact HN.out.2.1.symm
      have hTx : Txt wr (some ⟨g, 0, none⟩) T := by rw [hT]; exact htx.take n
      have HTx := Lib.hid hTx
      have HTT := Lib.hid (And.intro hT (And.intro hTn hmany))
      have hnc : n ≤ c' := by rw [hfl] at hcap; have := HN.out.2.1; omega
      have HCC : Hid (n ≤ c' ∧ c' ≤ maxLen ∧ w.heap.size + 4 ≤ g ∧ g < wr.heap.size) := Lib.hid ⟨hnc, hcm, hge, hglt⟩
      have hHd := head_cells (w := wr) HJk.out.2.1
      have hh1 := hHd.2.1
      have hnc' : (n : Int) ≤ (c' : Int) := by omega
      rw [hfl]
      clear hcap hcm htx hge hglt hT hTn hmany hTx HOk e9 HO HJ2 HB1 HB2 HJ1 hnc hHd hfl
      have HCU : Hid (Calls Try.prog 86 #[.slice (some ⟨g, 0, none⟩) n c'] wr fun e W => e = .returned (cutsF wr.heap.size) ∧
          (W.cell? ⟨wr.heap.size, 0, none⟩ = some (.slice (some ⟨g, 0, none⟩) T.length c') ∧ W.cell? ⟨wr.heap.size + 1, 0, none⟩ = some (cutF wr.heap.size) ∧ W.heap.size = wr.heap.size + 2) ∧ JBox w (.slice (some ⟨bA, oA, none⟩) L.length cL) s n u W ∧ Txt W (some ⟨g, 0, none⟩) T) := Lib.hid (by
        refine (code_cuts (some ⟨g, 0, none⟩) n c' wr).mono ?_
        rintro e W ⟨x1, x2, x3, x4, x5⟩
        exact ⟨x1, ⟨by rw [x2, HTT.out.2.1], x3, x4⟩, HJk.out.on x5, HTx.out.below x5⟩)
      go_wp2_with (go_at_call 86; refine HCU.out.mono ?_; rintro e w5 ⟨rfl, x5, j5, t5⟩; have HX5 := Lib.hid x5; have HJ5 := Lib.hid j5; have HT5 := Lib.hid t5; clear x5 j5 t5)
      clear HCU hh1
      have HA := Lib.hid (cuts_told w5 wr.heap.size g 0 c' T (by rw [HTT.out.2.1]; exact HN.out.1.2) (by rw [HTT.out.2.1]; exact HCC.out.1) (by have := HX5.out.2.2; have := HCC.out.2.2.2; omega) HT5.out HX5.out.1 HX5.out.2.1)
      have HSZ : Hid (w5.heap.size = wr.heap.size + 2 ∧ g < wr.heap.size ∧ w.heap.size + 4 ≤ wr.heap.size) := Lib.hid ⟨HX5.out.2.2, HCC.out.2.2.2, HJk.out.2.2.2.2.2⟩
      refine wp_rangeTold2 (gf := 94) (lb := #[.pointer (some ⟨wr.heap.size, 0, none⟩), .pointer (some ⟨wr.heap.size + 1, 0, none⟩)]) rfl (enters_of Try.func94 (by kernel_rfl) rfl) HA.out (fun h k => h.trans k)
        (fun A B h => KpC.of_below h (by have := HSZ.out; omega) (by have := HSZ.out; omega)) (fun _ => rfl)
        (fun pre W => JBox w (.slice (some ⟨bA, oA, none⟩) L.length cL) s n u W ∧ W.heap[g]? = w5.heap[g]? ∧ w5.heap.size ≤ W.heap.size ∧ ∀ i, i < pre.length → L[i]? = some (cutT T i))
        (fun cc _ W => cc = .ret ∧ JBox w (.slice (some ⟨bA, oA, none⟩) L.length cL) s n u W ∧ joinB L n u = false ∧ w5.heap.size ≤ W.heap.size)
        (fun pre A B h hb => ⟨h.1.on hb, (hb.block g (by have := HSZ.out; have := h.2.2.1; omega)).trans h.2.1, Nat.le_trans h.2.2.1 hb.size, h.2.2.2⟩) (fun cc pre A B h hb => ⟨h.1, h.2.1.on hb, h.2.2.1, Nat.le_trans h.2.2.2 hb.size⟩)
        (fun pre A lx r ob hlx h hl => ⟨h.1.far (put_below _ _ (by have := HSZ.out; omega)), (World.putObj_heap_other (by have := HSZ.out; omega)).trans h.2.1, by simpa using h.2.2.1, h.2.2.2⟩) (fun cc pre A lx r ob hlx h hl => ⟨h.1, h.2.1.far (put_below _ _ (by have := HSZ.out; omega)), h.2.2.1, by simpa using h.2.2.2⟩)
        ⟨HJ5.out, rfl, Nat.le_refl _, fun i hi => absurd hi (Nat.not_lt_zero i)⟩ ?round ?done ?stop
      case stop =>
        rintro D cc pre W hD _ ⟨rfl, hJ, hB, hS⟩ hK
        have HK := Lib.hid hK
        have HJW := Lib.hid hJ
        have HBB := Lib.hid hB
        have hDn : w.heap.size + 4 ≤ D := by have := HSZ.out; omega
        clear hK hJ hB
        go_wp2
        refine ⟨by simp, .inl ⟨_, _, rfl, run_takeDeferred HK.out, ?_⟩⟩
        have hJp := HJW.out.far (W' := W.putObj D (.deferred none)) (put_below _ _ hDn)
        exact ⟨_, results_join rfl _ _ (w.heap.size + 1 + 1) (w.heap.size + 1 + 1 + 1) _ _ rfl rfl hJp.outs.1 hJp.outs.2.1, joinR_no HBB.out hJp.2.2.2.2.1⟩
      case done =>
        intro D xs W hD hS hI hK
        obtain ⟨hJ, hgk, hsz, hall⟩ := hI
        have hxl : xs.length = L.length := by rw [hS, cutsT_len]; exact HTT.out.2.2
        have HAll : Hid (∀ i, i < L.length → L[i]? = some (cutT (joinT L n) i)) := Lib.hid (by rw [← HTT.out.1, ← hxl]; exact hall)
        have HTW : Hid (Txt W (some ⟨g, 0, none⟩) T) := Lib.hid (HT5.out.same hgk hsz)
        have HJW := Lib.hid hJ
        have HK := Lib.hid hK
        have HDD : Hid (w.heap.size + 4 ≤ D ∧ g < D) := Lib.hid ⟨by have := HSZ.out; omega, by have := HSZ.out; omega⟩
        have hhd := (head_cells (w := W) hJ.2.1).2.2
        have HSm : Hid (∀ W, Txt W (some ⟨g, 0, none⟩) T → Calls Try.prog 84 #[.slice (some ⟨g, 0, none⟩) n c'] W fun e w' => e = .returned (.int .u32 (Crc.sumT T).toNat) ∧ Below W.heap.size W w') := Lib.hid (fun W h => by
          have := code_sum T (some ⟨g, 0, none⟩) c' W (by rw [HTT.out.2.1]; have := HN.out.1.2; omega) h
          rw [HTT.out.2.1] at this
          exact this)
        obtain ⟨σ, hσ⟩ : ∃ σ, σ = (Crc.sumT T).toNat := ⟨_, rfl⟩
        rw [← hσ] at HSm
        have Hσ := Lib.hid hσ
        clear hS hJ hgk hsz hall hxl hK hσ
        go_wp2
        refine wp_region_noPanic (wp_region_held_drew (S := fun W => W.cell? ⟨w.heap.size + 1, 2, none⟩ = some (.int .u32 u)) (by kernel_rfl) hhd ?_)
        intro hHeld
        have HBD := Lib.hid (below_drew W)
        have hsu0 : decide (σ = u) = decide (σ = u) := rfl
        clear hsu0 hhd
        generalize W.drew = w0 at HBD hHeld ⊢
        rcases Nat.decEq σ u with hsu | hsu
        · have HNo : Hid (joinB L n u = false) := Lib.hid (by unfold joinB; rw [← HTT.out.1, ← Hσ.out, decide_eq_false hsu]; simp)
          (refine takeH (i := 0) (v := ?_) rfl (by kernel_rfl) (by kernel_rfl) (by kernel_rfl) (fun _ _ _ h => h) (Or.inl ⟨by rfl, ?_⟩) (by assumption) ?_; rotate_left; (focus ((intro wS hSw); (try dsimp only at hSw); have s0 := hSw; go_simp; (try with_reducible rfl); done)); (try simp only [Act.put, List.setIfInBounds_toArray, List.set_cons_zero, List.set_cons_succ]))
          (refine takeH (i := 2) (v := ?_) rfl (by kernel_rfl) (by kernel_rfl) (by kernel_rfl) (fun _ _ _ h => h) (Or.inl ⟨by rfl, ?_⟩) (by assumption) ?_; rotate_left; (focus ((intro wS hSw); (try dsimp only at hSw); have s0 := hSw; go_simp; (try with_reducible rfl); done)); (try simp only [Act.put, List.setIfInBounds_toArray, List.set_cons_zero, List.set_cons_succ]))
          (refine takeH (i := 3) (v := ?_) rfl (by kernel_rfl) (by kernel_rfl) (by kernel_rfl) (fun _ _ _ h => h) (Or.inl ⟨by rfl, ?_⟩) (by assumption) ?_; rotate_left; (focus ((intro wS hSw); (try dsimp only at hSw); have s0 := hSw; go_simp; (try with_reducible rfl); done)); (try simp only [Act.put, List.setIfInBounds_toArray, List.set_cons_zero, List.set_cons_succ]))
          refine aloneH (i := 1) rfl (by kernel_rfl) (fun K hK => ?_)
          rw [if_pos (by rfl)]
          go_simp; ((refine (HSm.out w0 (HTW.out.below (below_then HBD.out (below_same w0)))).mono ?_); (rintro e w1 ⟨rfl, hb⟩); have HB1 := Lib.hid hb; clear hb; (try go_simp))
          refine hK.out _ _ (cell_on HB1.out hHeld) (fun hNew => ?_)
          clear hK K hHeld; (have hHeld := hNew); clear hNew; (try simp only [Act.put, List.setIfInBounds_toArray, List.set_cons_zero, List.set_cons_succ])
          (refine takeH (i := 4) (v := ?_) rfl (by kernel_rfl) (by kernel_rfl) (by kernel_rfl) (fun _ _ _ h => h) (Or.inl ⟨by rfl, ?_⟩) (by assumption) ?_; rotate_left; (focus ((intro wS hSw); (try dsimp only at hSw); have s0 := hSw; go_simp; (try with_reducible rfl); done)); (try simp only [Act.put, List.setIfInBounds_toArray, List.set_cons_zero, List.set_cons_succ]))
          refine wpAnyH_done (by kernel_rfl) ?_ _
          refine NoPanic.normal ?_
          clear hHeld
          have hbf := below_then HBD.out HB1.out
          have HJf := Lib.hid (HJW.out.on hbf)
          have HKf := Lib.hid (heap_on hbf HK.out)
          obtain ⟨x4, x5, z4, z5⟩ := HJf.out.outs
          clear hbf
          go_wp2
          have hkk : ((w1.setCell ⟨w.heap.size + 1 + 1, 0, none⟩ (.slice none 0 0)).setCell ⟨w.heap.size + 1 + 1 + 1, 0, none⟩ (.bool false)).heap[D]? = some (.deferred (some [])) := by
            rw [heap_setCell_other _ _ _ _ (by have := HDD.out; simp; omega), heap_setCell_other _ _ _ _ (by have := HDD.out; simp; omega)]
            exact HKf.out
          refine ⟨by simp, .inl ⟨_, _, rfl, run_takeDeferred hkk, ?_⟩⟩
          have hJp := HJf.out.set.far (W' := World.putObj _ D (.deferred none)) (put_below _ _ HDD.out.1)
          exact ⟨_, results_join rfl _ _ (w.heap.size + 1 + 1) (w.heap.size + 1 + 1 + 1) _ _ rfl rfl hJp.outs.1 hJp.outs.2.1, joinR_no HNo.out hJp.2.2.2.2.1⟩
        · subst hsu
          have HYes : Hid (joinB L n σ = true) := Lib.hid (by unfold joinB; rw [← HTT.out.1, ← Hσ.out]; simp; have := HAll.out; rw [← HTT.out.1] at this; exact this)
          (refine takeH (i := 0) (v := ?_) rfl (by kernel_rfl) (by kernel_rfl) (by kernel_rfl) (fun _ _ _ h => h) (Or.inl ⟨by rfl, ?_⟩) (by assumption) ?_; rotate_left; (focus ((intro wS hSw); (try dsimp only at hSw); have s0 := hSw; go_simp; (try with_reducible rfl); done)); (try simp only [Act.put, List.setIfInBounds_toArray, List.set_cons_zero, List.set_cons_succ]))
          (refine takeH (i := 2) (v := ?_) rfl (by kernel_rfl) (by kernel_rfl) (by kernel_rfl) (fun _ _ _ h => h) (Or.inl ⟨by rfl, ?_⟩) (by assumption) ?_; rotate_left; (focus ((intro wS hSw); (try dsimp only at hSw); have s0 := hSw; go_simp; (try with_reducible rfl); done)); (try simp only [Act.put, List.setIfInBounds_toArray, List.set_cons_zero, List.set_cons_succ]))
          (refine takeH (i := 3) (v := ?_) rfl (by kernel_rfl) (by kernel_rfl) (by kernel_rfl) (fun _ _ _ h => h) (Or.inl ⟨by rfl, ?_⟩) (by assumption) ?_; rotate_left; (focus ((intro wS hSw); (try dsimp only at hSw); have s0 := hSw; go_simp; (try with_reducible rfl); done)); (try simp only [Act.put, List.setIfInBounds_toArray, List.set_cons_zero, List.set_cons_succ]))
          refine aloneH (i := 1) rfl (by kernel_rfl) (fun K hK => ?_)
          rw [if_pos (by rfl)]
          go_simp; ((refine (HSm.out w0 (HTW.out.below (below_then HBD.out (below_same w0)))).mono ?_); (rintro e w1 ⟨rfl, hb⟩); have HB1 := Lib.hid hb; clear hb; (try go_simp))
          refine hK.out _ _ (cell_on HB1.out hHeld) (fun hNew => ?_)
          clear hK K hHeld; (have hHeld := hNew); clear hNew; (try simp only [Act.put, List.setIfInBounds_toArray, List.set_cons_zero, List.set_cons_succ])
          (refine takeH (i := 4) (v := ?_) rfl (by kernel_rfl) (by kernel_rfl) (by kernel_rfl) (fun _ _ _ h => h) (Or.inl ⟨by rfl, ?_⟩) (by assumption) ?_; rotate_left; (focus ((intro wS hSw); (try dsimp only at hSw); have s0 := hSw; go_simp; (try with_reducible rfl); done)); (try simp only [Act.put, List.setIfInBounds_toArray, List.set_cons_zero, List.set_cons_succ]))
          refine wpAnyH_done (by kernel_rfl) ?_ _
          refine NoPanic.normal ?_
          clear hHeld
          have hbf := below_then HBD.out HB1.out
          have HJf := Lib.hid (HJW.out.on hbf)
          have HKf := Lib.hid (heap_on hbf HK.out)
          have HTf := Lib.hid (HTW.out.below hbf)
          obtain ⟨x4, x5, z4, z5⟩ := HJf.out.outs
          clear hbf
          go_wp2
          have hfar : ∀ k, w.heap.size + 4 ≤ k → ((w1.setCell ⟨w.heap.size + 1 + 1, 0, none⟩ (.slice (some ⟨g, 0, none⟩) n c')).setCell ⟨w.heap.size + 1 + 1 + 1, 0, none⟩ (.bool true)).heap[k]? = w1.heap[k]? := fun k hk => by
            rw [heap_setCell_other _ _ _ _ (by simp; omega), heap_setCell_other _ _ _ _ (by simp; omega)]
          have hkk := (hfar D HDD.out.1).trans HKf.out
          refine ⟨by simp, .inl ⟨_, _, rfl, run_takeDeferred hkk, ?_⟩⟩
          have hs2 := set2 (v := .slice (some ⟨g, 0, none⟩) n c') (b := .bool true) HJf.out.2.2.1 HJf.out.2.2.2.1
          have hDn := HDD.out
          refine ⟨_, results_join rfl _ _ (w.heap.size + 1 + 1) (w.heap.size + 1 + 1 + 1) (.slice (some ⟨g, 0, none⟩) n c') (.bool true) rfl rfl ?_ ?_, joinR_yes (g := g) HYes.out HTT.out.1 HTT.out.2.1 HCC.out.1 HCC.out.2.1 ?_ (by have := HCC.out.2.2.1; omega) ?_⟩
          · rw [World.cell?_of_block (World.putObj_heap_other (by simp; omega)), cell_of_row _ _ 0 _ _ _ hs2.1]; rfl
          · rw [World.cell?_of_block (World.putObj_heap_other (by simp; omega)), cell_of_row _ _ 0 _ _ _ hs2.2]; rfl
          · refine HTf.out.same ((World.putObj_heap_other (by omega)).trans (hfar g HCC.out.2.2.1)) (by simp)
          · exact ((HJf.out.2.2.2.2.1.setCell (p := ⟨w.heap.size + 1 + 1, 0, none⟩) (by simp; omega) _).setCell (p := ⟨w.heap.size + 1 + 1 + 1, 0, none⟩) (by simp; omega) _).trans (put_below _ _ (by omega))
      case round =>
        intro ll r pre x W hl hr hI hx
        obtain ⟨hp1, hp2, rfl⟩ := hx
        obtain ⟨k, hk⟩ : ∃ k, k = pre.length := ⟨_, rfl⟩
        rw [← hk]
        have hkL : k < L.length := by rw [hk]; rw [← HTT.out.2.2]; exact hp2
        have HPK := Lib.hid (And.intro hk hkL)
        have HI := Lib.hid hI
        have HR := Lib.hid hr
        clear hp1 hp2 hI hr hk
        have HW1 : Hid (Below W.heap.size W ((W.alloc (.cells (zeros.map cellOf).toArray 128)).setRow W.heap.size ((cutT T k).map cellOf).toArray)) := Lib.hid (below_setRow (below_alloc W _) (Nat.le_refl _) _)
        dsimp only [encC]
        simp only [List.zip_toArray, List.zip_cons_cons, List.zip_nil_right, List.size_toArray, List.length_cons, List.length_nil, Nat.zero_add, Nat.reduceAdd, List.foldl_toArray', List.foldl_cons, List.foldl_nil, List.setIfInBounds_toArray, List.set_cons_zero, List.set_cons_succ]
        gi_wp2_with (first
          | ((with_reducible refine wpListIn_alloc_page pageT (o := ⟨some 10, _, _, _, _, _⟩) ?a1 ?a2 ?_); (case a1 => rfl); (case a2 => rfl); (try simp only [Act.put, List.setIfInBounds_toArray, List.set_cons_zero, List.set_cons_succ]))
          | ((refine wpListIn_store_page pageT (o := ⟨none, _, _, _, _, _⟩) ?b1 (.tmp 10) (.tmp 46) ?b2 W.heap.size ?b3 (cutT T k) (cutT_len T k) ?b4 _ ?b5 _ (heap_alloc_new W _) ?_); (case b1 => rfl); (case b2 => rfl); (case b3 => rfl); (case b4 => rfl); (case b5 => simp [zeros]); (try simp only [Act.put])))
        refine ⟨HW1.out, fun Wb hB => ?_⟩
        have hlb : ll ≠ W.heap.size := by have := heapLt HR.out; omega
        have hlw : w.heap.size + 4 ≤ ll := by have := HSZ.out; omega
        have HJb : Hid (JBox w (.slice (some ⟨bA, oA, none⟩) L.length cL) s n u Wb) := Lib.hid ((HI.out.1.on HW1.out).far ⟨hB.os, hB.tape, hB.output, by rw [hB.size]; exact Nat.le_refl _, fun k hk => hB.block k (by omega)⟩)
        have HGb : Hid (Wb.rangeAt W.heap.size 0 ((cutT T k).map cellOf)) := Lib.hid (range_cells ((hB.block _ (Ne.symm hlb)).trans (setRow_heap _ _ _ _ _ _ (heap_alloc_new W _))))
        have hszb : Wb.heap.size = W.heap.size + 1 := by rw [hB.size]; simp [World.setRow]
        have HSb : Hid (w5.heap.size ≤ Wb.heap.size ∧ Wb.heap[g]? = w5.heap[g]?) := Lib.hid ⟨by have h3 : w5.heap.size ≤ W.heap.size := HI.out.2.2.1; omega, by
          have h3 : w5.heap.size ≤ W.heap.size := HI.out.2.2.1
          have := HSZ.out
          exact (hB.block g (by omega)).trans ((HW1.out.block g (by omega)).trans HI.out.2.1)⟩
        have HPr := Lib.hid HI.out.2.2.2
        clear HI HR HW1 hB hl hlb hlw hszb
        obtain ⟨be, oe, ce, hce, hre⟩ := rows_at (HT.out.below HJb.out.2.2.2.2.1) k hkL (by rw [H64.out k hkL]; decide)
        rw [H64.out k hkL] at hce
        obtain ⟨q, hq⟩ : ∃ q, decide (L[k] = cutT T k) = !q := ⟨_, (Bool.not_not _).symm⟩
        have HQ := Lib.hid hq
        have hsa := fun w => array_at pageT (some ⟨be, oe, none⟩) ce w
        have HLk := Lib.hid (H64.out k hkL)
        have hc0 := HJb.out.cell0
        have hkL' : (k : Int) < (L.length : Int) := by omega
        gi_wp2
        refine region_in_round (S := fun W' => W'.cell? ⟨w.heap.size, 0, none⟩ = some (.slice (some ⟨bA, oA, none⟩) L.length cL) ∧ W'.cell? ⟨bA, oA + k, none⟩ = some (.slice (some ⟨be, oe, none⟩) 64 ce) ∧ W'.rangeAt be oe (L[k].map cellOf) ∧ W'.rangeAt W.heap.size 0 ((cutT T k).map cellOf)) (by kernel_rfl) (by kernel_rfl) ⟨hc0, hce, hre, HGb.out⟩ ?_
        intro hHeld
        have HBD := Lib.hid (below_drew Wb)
        clear hc0 hce hre HGb hq
        generalize Wb.drew = w0 at HBD hHeld ⊢
        (refine takeH (i := 0) (v := ?_) rfl (by kernel_rfl) (by kernel_rfl) (by kernel_rfl) (fun _ _ _ h => h) (Or.inl ⟨by rfl, ?_⟩) (by assumption) ?_; rotate_left; (focus ((intro wS hSw); (try dsimp only at hSw); obtain ⟨s0, s1, s2, s3⟩ := hSw; go_simp; (try with_reducible rfl); done)); (try simp only [Act.put, List.setIfInBounds_toArray, List.set_cons_zero, List.set_cons_succ]))
        (refine takeH (i := 1) (v := ?_) rfl (by kernel_rfl) (by kernel_rfl) (by kernel_rfl) (fun _ _ _ h => h) (Or.inl ⟨by rfl, ?_⟩) (by assumption) ?_; rotate_left; (focus ((intro wS hSw); (try dsimp only at hSw); obtain ⟨s0, s1, s2, s3⟩ := hSw; go_simp; (try with_reducible rfl); done)); (try simp only [Act.put, List.setIfInBounds_toArray, List.set_cons_zero, List.set_cons_succ]))
        (refine takeH (i := 2) (v := ?_) rfl (by kernel_rfl) (by kernel_rfl) (by kernel_rfl) (fun _ _ _ h => h) (Or.inl ⟨by rfl, ?_⟩) (by assumption) ?_; rotate_left; (focus ((intro wS hSw); (try dsimp only at hSw); obtain ⟨s0, s1, s2, s3⟩ := hSw; go_simp; (try with_reducible rfl); done)); (try simp only [Act.put, List.setIfInBounds_toArray, List.set_cons_zero, List.set_cons_succ]))
        (refine takeH (i := 3) (v := ?_) rfl (by kernel_rfl) (by kernel_rfl) (by kernel_rfl) (fun _ _ _ h => h) (Or.inl ⟨by rfl, ?_⟩) (by assumption) ?_; rotate_left; (focus ((intro wS hSw); (try dsimp only at hSw); obtain ⟨s0, s1, s2, s3⟩ := hSw; go_simp; (try with_reducible rfl); done)); (try simp only [Act.put, List.setIfInBounds_toArray, List.set_cons_zero, List.set_cons_succ]))
        (refine takeH (i := 4) (v := ?_) rfl (by kernel_rfl) (by kernel_rfl) (by kernel_rfl) (fun _ _ _ h => h) (Or.inl ⟨by rfl, ?_⟩) (by assumption) ?_; rotate_left; (focus ((intro wS hSw); (try dsimp only at hSw); obtain ⟨s0, s1, s2, s3⟩ := hSw; go_simp; (try with_reducible rfl); done)); (try simp only [Act.put, List.setIfInBounds_toArray, List.set_cons_zero, List.set_cons_succ]))
        (refine takeH (i := 5) (v := pageV L[k]) rfl (by kernel_rfl) (by kernel_rfl) (by kernel_rfl) (fun _ _ _ h => h) (yieldsIf_load_pageM pageT (by rfl) (.tmp 51) rfl be oe rfl L[k] HLk.out (fun _ h => h.2.2.1)) (by assumption) ?_; (try simp only [Act.put, List.setIfInBounds_toArray, List.set_cons_zero, List.set_cons_succ]))
        (refine takeH (i := 6) (v := pageV (cutT T k)) rfl (by kernel_rfl) (by kernel_rfl) (by kernel_rfl) (fun _ _ _ h => h) (yieldsIf_load_pageM pageT (by rfl) (.tmp 10) rfl W.heap.size 0 rfl (cutT T k) (cutT_len T k) (fun _ h => h.2.2.2)) (by assumption) ?_; (try simp only [Act.put, List.setIfInBounds_toArray, List.set_cons_zero, List.set_cons_succ]))
        (refine takeH (i := 7) (v := (.bool q)) rfl (by kernel_rfl) (by kernel_rfl) (by kernel_rfl) (fun _ _ _ h => h) (yieldsIf_neq_page pageT (by rfl) (.tmp 52) (.tmp 53) 128 rfl _ _ rfl rfl HLk.out (cutT_len T k) q HQ.out) (by assumption) ?_; (try simp only [Act.put, List.setIfInBounds_toArray, List.set_cons_zero, List.set_cons_succ]))
        refine wpAnyH_done (by kernel_rfl) ?_ _
        refine only_normal ?_
        clear hHeld
        have HJd := Lib.hid (HJb.out.on HBD.out)
        cases q
        · have hqq : L[k] = cutT T k := by simpa using HQ.out
          gi_wp2
          refine ⟨others_below HBD.out, KpC.of_below HBD.out (by have := HSZ.out; have := HSb.out.1; omega) (by have := HSZ.out; have := HSb.out.1; omega), HJd.out, (HBD.out.block g (by have := HSZ.out; have := HSb.out.1; omega)).trans HSb.out.2, Nat.le_trans HSb.out.1 HBD.out.size, fun i hi => ?_⟩
          rw [List.length_append] at hi
          simp only [List.length_cons, List.length_nil] at hi
          by_cases h : i < pre.length
          · exact HPr.out i h
          · obtain rfl : i = k := by have := HPK.out.1; omega
            rw [List.getElem?_eq_getElem HPK.out.2, hqq]
        · have hqn : ¬ L[k] = cutT T k := by simpa using HQ.out
          have HNo : Hid (joinB L n u = false) := Lib.hid (by
            unfold joinB
            rw [decide_eq_false, Bool.false_and]
            intro hA
            have := hA k HPK.out.2
            rw [List.getElem?_eq_getElem HPK.out.2, ← HTT.out.1] at this
            injection this with this
            exact hqn this)
          obtain ⟨x4, x5, z4, z5⟩ := HJd.out.outs
          clear hqn
          gi_wp2
          refine ⟨(others_below HBD.out).trans ((KeepsOthers.setCell _ _ _).trans (KeepsOthers.setCell _ _ _)), rfl, HJd.out.set, HNo.out, ?_⟩
          have := HSb.out.1; have := HBD.out.size
          simp
          omega
end Go.Proofs.Ytfjejiapafdgeaa
