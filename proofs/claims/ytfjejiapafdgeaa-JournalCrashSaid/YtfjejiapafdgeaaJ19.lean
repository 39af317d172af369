/- The statements' own example; a batch that is none. The statement on a batch's way back, walked. Sectors that are no batch's, read. -/
import Derived.Test.YtfjejiapafdgeaaJ17
import Derived.Test.YtfjejiapafdgeaaJ18
import Derived.Lib.SlBytesConst
import Derived.Test.YtfjejiapafdgeaaJ11
namespace Go.Proofs.Ytfjejiapafdgeaa
open Go.RowKit
attribute [local go_sem] Oper.semAt_some
set_option maxRecDepth 100000

set_option maxHeartbeats 1000000 in
theorem code_pages_no (s : Int) (l : Text) (A : Option Addr) (c : Nat) (w : World) (hh : headOk s l.length = false) :
    Calls Try.prog 65 #[.int .i64 s, .slice A l.length c] w fun e w' => e = .returned (.tuple #[.slice none 0 0, .int .i64 2]) ∧ Below w.heap.size w w' := by
  have HH : Hid (∀ W, Calls Try.prog 70 #[headV s l.length 0] W fun e w' => e = .returned (.bool false) ∧ Below W.heap.size W w') := Lib.hid (fun W => by have := code_isHead s l.length 0 W; rwa [hh] at this)
  unfold headV at HH
  clear hh
  go_enter Try.func65, Try.ntmps65
  go_wp2_with (go_at_call 70; refine (HH.out _).mono ?_; rintro e w1 ⟨rfl, hb1⟩; have HB1 := Lib.hid (below_then (below_alloc w _) hb1); clear hb1)
  go_ret2
  exact ⟨rfl, HB1.out⟩
theorem rows_sub {w : World} {b o : Nat} {L : List Text} (h : TextRows w (some ⟨b, o, none⟩) L) (k m : Nat) : TextRows w (some ⟨b, o + k, none⟩) ((L.drop k).take m) := fun i hi => by
  have hi' : i < (L.drop k).length := by rw [List.length_take] at hi; omega
  have hk : k + i < L.length := by rw [List.length_drop] at hi'; omega
  obtain ⟨a, Ai, ci, e, hb, hc, hT, hn, hl⟩ := h (k + i) hk
  injection e with e
  subst e
  have e1 : ((L.drop k).take m)[i] = L[k + i] := by rw [List.getElem_take, List.getElem_drop]
  rw [e1]
  exact ⟨_, Ai, ci, rfl, hb, by rw [Addr.add_mid] at hc ⊢; rw [Nat.add_assoc]; exact hc, hT, hn, hl⟩
theorem yieldsIf_text {ops : Array Oper} {S : World → Prop} {o : Oper} {a : Act} (hw : Region.wanted o (yielded ops a.tmps) = true) (x : Operand) (ho : o.op = .convert 51 9 x) (A : Option Addr) (c n : Nat) (l : Text) (hn : l.length = n) (hx : a.eval x = .slice A n c)
    (hS : ∀ w, S w → Txt w A l) (hA : A = none → l = []) : YieldsIf Try.prog ops S o (.string ⟨l.toArray⟩) a := .inl ⟨hw, fun w hw' => by
  have hr := text_run_n w A c n l hn (hS w hw') hA
  unfold execOp
  simp only [ho, hx]
  rw [Sem.run_bind, hr]
  rfl⟩
def ab : Text := [97, 98]
theorem ab_pages : pagesT 3 ab = [headP 3 2 (sumN ab), cutT ab 0, endP 3 (sumN ab)] := rfl
theorem ab_cut : cutT ab 0 = ab ++ List.replicate 62 0 := by
  unfold cutT
  rw [overP_zeros _ (by decide)]
  rfl
theorem ab_len : ∀ (i : Nat) (h : i < [cutT ab 0].length), [cutT ab 0][i].length = 64 := fun i h => by
  have h0 : i = 0 := by simp only [List.length_cons, List.length_nil] at h; omega
  subst h0
  exact cutT_len ab 0
theorem ab_join : joinT [cutT ab 0] 2 = ab := by
  unfold joinT
  rw [ab_cut]
  rfl
theorem ab_joins : joinB [cutT ab 0] 2 (sumN ab) = true := by
  unfold joinB
  rw [ab_join]
  simp only [Bool.and_eq_true, decide_eq_true_eq]
  refine ⟨fun i hi => ?_, rfl⟩
  obtain rfl : i = 0 := by simpa using hi
  rfl
/-- a batch's sectors, told in a slice of their own -/
def PagesR (w : World) (s : Nat) (l : Text) (m : Nat) (e : Ending) (w' : World) : Prop := ∃ g c, e = .returned (.tuple #[.slice (some ⟨g, 0, none⟩) m c, .int .i64 0]) ∧ OwnT w.heap.size (.slice (some ⟨g, 0, none⟩) m c) (pagesT s l) w' ∧ m ≤ c ∧ Below w.heap.size w w'
theorem pagesT_len (s : Nat) (l : Text) : (pagesT s l).length = manyC l + 2 := by simp [pagesT, cutP, cutsT_len]
theorem code_pagesR (s : Nat) (l : Text) (A : Option Addr) (c : Nat) (w : World) (h1 : 1 ≤ s) (h2 : s ≤ 4611686018427387904) (h3 : 1 ≤ l.length) (h4 : l.length ≤ 131072) (hc : l.length ≤ c) (hT : Txt w A l) :
    Calls Try.prog 65 #[.int .i64 s, .slice A l.length c] w (PagesR w s l (manyC l + 2)) := by
  refine (code_pages_yes s l A c w h1 h2 h3 h4 hc hT).mono ?_
  rintro e w' ⟨v, rfl, ho, hb⟩
  obtain ⟨g, c', rfl, _, _, hc'⟩ := ho.form (by rw [pagesT_len]; omega)
  rw [pagesT_len] at ho hc'
  exact ⟨g, c', by rw [pagesT_len], ho, hc', hb⟩
end Go.Proofs.Ytfjejiapafdgeaa

namespace Go.Proofs.Ytfjejiapafdgeaa
open Go.RowKit
set_option maxRecDepth 100000

/-- a text with nought behind it -/
def padT (l : Text) (M : Nat) : Text := l ++ List.replicate M 0
theorem cut_pad (l : Text) (i M : Nat) (hM : 64 ≤ M) (hi : 64 * i ≤ l.length) : cutT l i = ((padT l M).drop (64 * i)).take 64 := by
  unfold cutT padT overP zeros
  rw [List.drop_append_of_le_length hi, List.drop_replicate]
  generalize l.drop (64 * i) = x
  rw [List.take_append, List.take_replicate]
  congr 2
  rw [List.length_take]
  omega
theorem cutP_flat (l : Text) (M : Nat) (hM : 64 ≤ M) : ∀ k, 64 * k ≤ l.length + 63 → (cutP l k).flatten = (padT l M).take (64 * k) := by
  intro k
  induction k with
  | zero => intro _; simp [cutP, cutsT]
  | succ k ih =>
    intro hk
    have e : cutP l (k + 1) = cutP l k ++ [cutT l k] := by unfold cutP; rw [cutsT_next, List.map_append]; rfl
    rw [e, List.flatten_append, ih (by omega), List.flatten_singleton, cut_pad l k M hM (by omega), Nat.mul_succ, List.take_add]
theorem back_text (l : Text) : joinT (cutP l (manyC l)) l.length = l := by
  unfold joinT
  rw [cutP_flat l 64 (Nat.le_refl _) (manyC l) (by unfold manyC; omega), List.take_take, Nat.min_eq_left (by unfold manyC; omega)]
  unfold padT
  rw [List.take_append_of_le_length (Nat.le_refl _), List.take_of_length_le (Nat.le_refl _)]
theorem cutP_len (l : Text) (k : Nat) : (cutP l k).length = k := by simp [cutP, cutsT_len]
theorem cutP_at (l : Text) (k i : Nat) (hi : i < (cutP l k).length) : (cutP l k)[i] = cutT l i := by simp [cutP, cutsT]
theorem back_joins (l : Text) : joinB (cutP l (manyC l)) l.length (sumN l) = true := by
  unfold joinB
  rw [back_text l]
  simp only [Bool.and_eq_true, decide_eq_true_eq]
  exact ⟨fun i hi => by rw [List.getElem?_eq_getElem hi, cutP_at], rfl⟩
theorem headP_blank (s n u : Nat) : decide (headP s n u = zeros) = false := by
  refine decide_eq_false fun e => ?_
  have h : (headP s n u)[4]? = some 72 := by
    rw [headP_eq]
    unfold wrapT headB Crc.four
    rfl
  rw [e] at h
  exact absurd h (by decide)
end Go.Proofs.Ytfjejiapafdgeaa

namespace Go.Proofs.Ytfjejiapafdgeaa
open Go.RowKit
attribute [local go_sem] Oper.semAt_some
set_option maxRecDepth 100000

theorem jbox_start (w : World) (pv : Value) (s n u : Int) : JBox w pv s n u ((((w.alloc (.cells #[pv] 31)).alloc (headO s n u)).alloc (.cells #[.slice none 0 0] 51)).alloc (.cells #[.bool false] 4)) := by
  have b1 := below_alloc (w.alloc (.cells #[pv] 31)) (headO s n u)
  have b2 := below_alloc ((w.alloc (.cells #[pv] 31)).alloc (headO s n u)) (.cells #[.slice none 0 0] 51)
  have b3 := below_alloc (((w.alloc (.cells #[pv] 31)).alloc (headO s n u)).alloc (.cells #[.slice none 0 0] 51)) (.cells #[.bool false] 4)
  have h1 := heap_alloc_new (w.alloc (.cells #[pv] 31)) (headO s n u)
  have h2 := heap_alloc_new ((w.alloc (.cells #[pv] 31)).alloc (headO s n u)) (.cells #[.slice none 0 0] 51)
  have h3 := heap_alloc_new (((w.alloc (.cells #[pv] 31)).alloc (headO s n u)).alloc (.cells #[.slice none 0 0] 51)) (.cells #[.bool false] 4)
  simp only [World.size_alloc] at h1 h2 h3
  exact ⟨heap_on b3 (heap_on b2 (heap_on b1 (heap_alloc_new w _))), heap_on b3 (heap_on b2 h1), heap_on b3 h2, h3, below_then (below_then (below_then (below_alloc w _) b1) b2) b3, by simp⟩
def JoinNo (w : World) (e : Ending) (w' : World) : Prop := e = .returned (.tuple #[.slice none 0 0, .bool false]) ∧ Below w.heap.size w w'
theorem headOk_len {s : Int} {n : Int} (hh : headOk s n = true) : 1 ≤ n ∧ n ≤ 131072 := by
  unfold headOk at hh
  have hx : 0 < needV n := by have h2 := hh; simp only [Bool.and_eq_true, decide_eq_true_eq] at h2; exact h2.2
  unfold needV at hx
  by_cases hc2 : (n : Int) < 1 ∨ 131072 < (n : Int)
  · rw [if_pos hc2] at hx; omega
  · omega
set_option maxHeartbeats 1000000 in
theorem code_join_no (m : Nat) (A : Option Addr) (cL : Nat) (s n u : Int) (w : World) (hh : headOk s n = false) :
    Calls Try.prog 74 #[.slice A m cL, headV s n u] w (JoinNo w) := by
  have HH : Hid (∀ W, Calls Try.prog 70 #[headV s n u] W fun e w' => e = .returned (.bool false) ∧ Below W.heap.size W w') := Lib.hid (fun W => by have := code_isHead s n u W; rwa [hh] at this)
  clear hh
  have HJ0 : Hid (JBox w (.slice A m cL) s n u ((((w.alloc (.cells #[.slice A m cL] 31)).alloc (headO s n u)).alloc (.cells #[.slice none 0 0] 51)).alloc (.cells #[.bool false] 4))) := Lib.hid (jbox_start w _ s n u)
  unfold headV at HH
  unfold headO at HJ0
  refine callsIn_wide.1 (callsIn_of_wp_marks (n := 0) (F := Fence.wide) Try.func74 rfl trivial (wpIn_wide.2 ?_) rfl)
  simp only [Try.ntmps74, List.size_toArray, List.length_cons, List.length_nil, Nat.reduceAdd, Nat.reduceSub, Array.replicate_succ, Array.replicate_zero, List.push_toArray, List.append_toArray, List.nil_append, List.cons_append]
  unfold headV
  go_wp2
  generalize (((w.alloc (.cells #[.slice A m cL] 31)).alloc (.cells #[.int .i64 s, .int .i64 n, .int .u32 u] 96)).alloc (.cells #[.slice none 0 0] 51)).alloc (.cells #[.bool false] 4) = wb at HJ0 ⊢
  refine wp_region_noPanic (wp_region_held_drew (S := fun W => W.cell? ⟨w.heap.size, 0, none⟩ = some (.slice A m cL) ∧ W.cell? ⟨w.heap.size + 1, 0, none⟩ = some (.int .i64 s) ∧ W.cell? ⟨w.heap.size + 1, 1, none⟩ = some (.int .i64 n) ∧ W.cell? ⟨w.heap.size + 1, 2, none⟩ = some (.int .u32 u)) (by kernel_rfl) ⟨HJ0.out.cell0, head_cells HJ0.out.2.1⟩ ?_)
  intro hHeld
  have HJ := Lib.hid (HJ0.out.on (below_drew wb))
  clear HJ0
  generalize wb.drew = w0 at HJ hHeld ⊢
  (refine takeH (i := 0) (v := ?_) rfl (by kernel_rfl) (by kernel_rfl) (by kernel_rfl) (fun _ _ _ h => h) (Or.inl ⟨by rfl, ?_⟩) (by assumption) ?_; rotate_left; (focus ((intro wS hSw); (try dsimp only at hSw); obtain ⟨s0, s1, s2, s3⟩ := hSw; go_simp; (try with_reducible rfl); done)); (try simp only [Act.put, List.setIfInBounds_toArray, List.set_cons_zero, List.set_cons_succ]))
  refine aloneH (i := 1) rfl (by kernel_rfl) (fun K hK => ?_)
  rw [if_pos (by rfl)]
  go_simp; ((refine (HH.out w0).mono ?_); (rintro e w1 ⟨rfl, hb⟩); have HB1 := Lib.hid hb; clear hb; (try go_simp))
  refine hK.out _ _ (⟨cell_on HB1.out hHeld.1, cell_on HB1.out hHeld.2.1, cell_on HB1.out hHeld.2.2.1, cell_on HB1.out hHeld.2.2.2⟩) (fun hNew => ?_)
  clear hK K hHeld; (have hHeld := hNew); clear hNew; (try simp only [Act.put, List.setIfInBounds_toArray, List.set_cons_zero, List.set_cons_succ])
  (refine takeH (i := 2) (v := ?_) rfl (by kernel_rfl) (by kernel_rfl) (by kernel_rfl) (fun _ _ _ h => h) (Or.inl ⟨by rfl, ?_⟩) (by assumption) ?_; rotate_left; (focus ((intro wS hSw); (try dsimp only at hSw); obtain ⟨s0, s1, s2, s3⟩ := hSw; go_simp; (try with_reducible rfl); done)); (try simp only [Act.put, List.setIfInBounds_toArray, List.set_cons_zero, List.set_cons_succ]))
  (refine takeH (i := 3) (v := ?_) rfl (by kernel_rfl) (by kernel_rfl) (by kernel_rfl) (fun _ _ _ h => h) (Or.inl ⟨by rfl, ?_⟩) (by assumption) ?_; rotate_left; (focus ((intro wS hSw); (try dsimp only at hSw); obtain ⟨s0, s1, s2, s3⟩ := hSw; go_simp; (try with_reducible rfl); done)); (try simp only [Act.put, List.setIfInBounds_toArray, List.set_cons_zero, List.set_cons_succ]))
  (refine takeH (i := 4) (v := undef) rfl (by kernel_rfl) (by kernel_rfl) (by kernel_rfl) (fun _ _ _ h => h) (Or.inr ⟨by rfl, rfl⟩) (by assumption) ?_; (try simp only [Act.put, List.setIfInBounds_toArray, List.set_cons_zero, List.set_cons_succ]))
  (refine takeH (i := 5) (v := undef) rfl (by kernel_rfl) (by kernel_rfl) (by kernel_rfl) (fun _ _ _ h => h) (Or.inr ⟨by rfl, rfl⟩) (by assumption) ?_; (try simp only [Act.put, List.setIfInBounds_toArray, List.set_cons_zero, List.set_cons_succ]))
  (refine takeH (i := 6) (v := undef) rfl (by kernel_rfl) (by kernel_rfl) (by kernel_rfl) (fun _ _ _ h => h) (Or.inr ⟨by rfl, rfl⟩) (by assumption) ?_; (try simp only [Act.put, List.setIfInBounds_toArray, List.set_cons_zero, List.set_cons_succ]))
  (refine takeH (i := 7) (v := undef) rfl (by kernel_rfl) (by kernel_rfl) (by kernel_rfl) (fun _ _ _ h => h) (Or.inr ⟨by rfl, rfl⟩) (by assumption) ?_; (try simp only [Act.put, List.setIfInBounds_toArray, List.set_cons_zero, List.set_cons_succ]))
  (refine takeH (i := 8) (v := undef) rfl (by kernel_rfl) (by kernel_rfl) (by kernel_rfl) (fun _ _ _ h => h) (Or.inr ⟨by rfl, rfl⟩) (by assumption) ?_; (try simp only [Act.put, List.setIfInBounds_toArray, List.set_cons_zero, List.set_cons_succ]))
  (refine takeH (i := 9) (v := undef) rfl (by kernel_rfl) (by kernel_rfl) (by kernel_rfl) (fun _ _ _ h => h) (Or.inr ⟨by rfl, rfl⟩) (by assumption) ?_; (try simp only [Act.put, List.setIfInBounds_toArray, List.set_cons_zero, List.set_cons_succ]))
  (refine takeH (i := 10) (v := ?_) rfl (by kernel_rfl) (by kernel_rfl) (by kernel_rfl) (fun _ _ _ h => h) (Or.inl ⟨by rfl, ?_⟩) (by assumption) ?_; rotate_left; (focus ((intro wS hSw); (try dsimp only at hSw); obtain ⟨s0, s1, s2, s3⟩ := hSw; go_simp; (try with_reducible rfl); done)); (try simp only [Act.put, List.setIfInBounds_toArray, List.set_cons_zero, List.set_cons_succ]))
  refine wpAnyH_done (by kernel_rfl) ?_ _
  refine NoPanic.normal ?_
  have HJ1 := Lib.hid (HJ.out.on HB1.out)
  clear hHeld HJ
  obtain ⟨x4, x5, z4, z5⟩ := HJ1.out.outs
  go_wp2
  have hJp := HJ1.out.set
  exact ⟨_, results_join rfl _ _ (w.heap.size + 1 + 1) (w.heap.size + 1 + 1 + 1) _ _ rfl rfl hJp.outs.1 hJp.outs.2.1, ⟨rfl, hJp.2.2.2.2.1⟩⟩
set_option maxHeartbeats 1000000 in
theorem code_join_count (m : Nat) (A : Option Addr) (cL : Nat) (s : Int) (n : Nat) (u : Int) (w : World) (hh : headOk s n = true) (hm : m ≠ (n + 63) / 64) :
    Calls Try.prog 74 #[.slice A m cL, headV s n u] w (JoinNo w) := by
  have hn := headOk_len hh
  have HH : Hid (∀ W, Calls Try.prog 70 #[headV s n u] W fun e w' => e = .returned (.bool true) ∧ Below W.heap.size W w') := Lib.hid (fun W => by have := code_isHead s n u W; rwa [hh] at this)
  obtain ⟨q, hq⟩ : ∃ q : Nat, q = (n + 63) / 64 := ⟨_, rfl⟩
  have HBt : Hid (∀ W, Calls Try.prog 72 #[.int .i64 n] W fun e w' => e = .returned (.int .i64 q) ∧ W = w') := Lib.hid (fun W => (code_between n W (by omega) (by omega)).mono fun e w' ⟨x, y⟩ => ⟨by rw [x, hq]; congr 2, y⟩)
  have hmq : ¬ (m : Int) = (q : Int) := by omega
  clear hh hm hq hn
  have HJ0 : Hid (JBox w (.slice A m cL) s n u ((((w.alloc (.cells #[.slice A m cL] 31)).alloc (headO s n u)).alloc (.cells #[.slice none 0 0] 51)).alloc (.cells #[.bool false] 4))) := Lib.hid (jbox_start w _ s n u)
  unfold headV at HH
  unfold headO at HJ0
  refine callsIn_wide.1 (callsIn_of_wp_marks (n := 0) (F := Fence.wide) Try.func74 rfl trivial (wpIn_wide.2 ?_) rfl)
  simp only [Try.ntmps74, List.size_toArray, List.length_cons, List.length_nil, Nat.reduceAdd, Nat.reduceSub, Array.replicate_succ, Array.replicate_zero, List.push_toArray, List.append_toArray, List.nil_append, List.cons_append]
  unfold headV
  go_wp2
  generalize (((w.alloc (.cells #[.slice A m cL] 31)).alloc (.cells #[.int .i64 s, .int .i64 n, .int .u32 u] 96)).alloc (.cells #[.slice none 0 0] 51)).alloc (.cells #[.bool false] 4) = wb at HJ0 ⊢
  refine wp_region_noPanic (wp_region_held_drew (S := fun W => W.cell? ⟨w.heap.size, 0, none⟩ = some (.slice A m cL) ∧ W.cell? ⟨w.heap.size + 1, 0, none⟩ = some (.int .i64 s) ∧ W.cell? ⟨w.heap.size + 1, 1, none⟩ = some (.int .i64 n) ∧ W.cell? ⟨w.heap.size + 1, 2, none⟩ = some (.int .u32 u)) (by kernel_rfl) ⟨HJ0.out.cell0, head_cells HJ0.out.2.1⟩ ?_)
  intro hHeld
  have HJ := Lib.hid (HJ0.out.on (below_drew wb))
  clear HJ0
  generalize wb.drew = w0 at HJ hHeld ⊢
  (refine takeH (i := 0) (v := ?_) rfl (by kernel_rfl) (by kernel_rfl) (by kernel_rfl) (fun _ _ _ h => h) (Or.inl ⟨by rfl, ?_⟩) (by assumption) ?_; rotate_left; (focus ((intro wS hSw); (try dsimp only at hSw); obtain ⟨s0, s1, s2, s3⟩ := hSw; go_simp; (try with_reducible rfl); done)); (try simp only [Act.put, List.setIfInBounds_toArray, List.set_cons_zero, List.set_cons_succ]))
  refine aloneH (i := 1) rfl (by kernel_rfl) (fun K hK => ?_)
  rw [if_pos (by rfl)]
  go_simp; ((refine (HH.out w0).mono ?_); (rintro e w1 ⟨rfl, hb⟩); have HB1 := Lib.hid hb; clear hb; (try go_simp))
  refine hK.out _ _ (⟨cell_on HB1.out hHeld.1, cell_on HB1.out hHeld.2.1, cell_on HB1.out hHeld.2.2.1, cell_on HB1.out hHeld.2.2.2⟩) (fun hNew => ?_)
  clear hK K hHeld; (have hHeld := hNew); clear hNew; (try simp only [Act.put, List.setIfInBounds_toArray, List.set_cons_zero, List.set_cons_succ])
  (refine takeH (i := 2) (v := ?_) rfl (by kernel_rfl) (by kernel_rfl) (by kernel_rfl) (fun _ _ _ h => h) (Or.inl ⟨by rfl, ?_⟩) (by assumption) ?_; rotate_left; (focus ((intro wS hSw); (try dsimp only at hSw); obtain ⟨s0, s1, s2, s3⟩ := hSw; go_simp; (try with_reducible rfl); done)); (try simp only [Act.put, List.setIfInBounds_toArray, List.set_cons_zero, List.set_cons_succ]))
  (refine takeH (i := 3) (v := ?_) rfl (by kernel_rfl) (by kernel_rfl) (by kernel_rfl) (fun _ _ _ h => h) (Or.inl ⟨by rfl, ?_⟩) (by assumption) ?_; rotate_left; (focus ((intro wS hSw); (try dsimp only at hSw); obtain ⟨s0, s1, s2, s3⟩ := hSw; go_simp; (try with_reducible rfl); done)); (try simp only [Act.put, List.setIfInBounds_toArray, List.set_cons_zero, List.set_cons_succ]))
  (refine takeH (i := 4) (v := ?_) rfl (by kernel_rfl) (by kernel_rfl) (by kernel_rfl) (fun _ _ _ h => h) (Or.inl ⟨by rfl, ?_⟩) (by assumption) ?_; rotate_left; (focus ((intro wS hSw); (try dsimp only at hSw); obtain ⟨s0, s1, s2, s3⟩ := hSw; go_simp; (try with_reducible rfl); done)); (try simp only [Act.put, List.setIfInBounds_toArray, List.set_cons_zero, List.set_cons_succ]))
  (refine takeH (i := 5) (v := ?_) rfl (by kernel_rfl) (by kernel_rfl) (by kernel_rfl) (fun _ _ _ h => h) (Or.inl ⟨by rfl, ?_⟩) (by assumption) ?_; rotate_left; (focus ((intro wS hSw); (try dsimp only at hSw); obtain ⟨s0, s1, s2, s3⟩ := hSw; go_simp; (try with_reducible rfl); done)); (try simp only [Act.put, List.setIfInBounds_toArray, List.set_cons_zero, List.set_cons_succ]))
  (refine takeH (i := 6) (v := ?_) rfl (by kernel_rfl) (by kernel_rfl) (by kernel_rfl) (fun _ _ _ h => h) (Or.inl ⟨by rfl, ?_⟩) (by assumption) ?_; rotate_left; (focus ((intro wS hSw); (try dsimp only at hSw); obtain ⟨s0, s1, s2, s3⟩ := hSw; go_simp; (try with_reducible rfl); done)); (try simp only [Act.put, List.setIfInBounds_toArray, List.set_cons_zero, List.set_cons_succ]))
  (refine takeH (i := 7) (v := ?_) rfl (by kernel_rfl) (by kernel_rfl) (by kernel_rfl) (fun _ _ _ h => h) (Or.inl ⟨by rfl, ?_⟩) (by assumption) ?_; rotate_left; (focus ((intro wS hSw); (try dsimp only at hSw); obtain ⟨s0, s1, s2, s3⟩ := hSw; go_simp; (try with_reducible rfl); done)); (try simp only [Act.put, List.setIfInBounds_toArray, List.set_cons_zero, List.set_cons_succ]))
  refine aloneH (i := 8) rfl (by kernel_rfl) (fun K hK => ?_)
  rw [if_pos (by rfl)]
  go_simp; ((refine (HBt.out w1).mono ?_); (rintro e w2 ⟨rfl, rfl⟩); (try go_simp))
  have HB2 : Hid (Below w1.heap.size w1 w1) := Lib.hid (Below.refl _ _)
  refine hK.out _ _ (hHeld) (fun hNew => ?_)
  clear hK K hHeld; (have hHeld := hNew); clear hNew; (try simp only [Act.put, List.setIfInBounds_toArray, List.set_cons_zero, List.set_cons_succ])
  (refine takeH (i := 9) (v := (.bool true)) rfl (by kernel_rfl) (by kernel_rfl) (by kernel_rfl) (fun _ _ _ h => h) (Or.inl ⟨by rfl, by (intro wS hSw); (try dsimp only at hSw); (obtain ⟨s0, s1, s2, s3⟩ := hSw); go_simp; (first | done | omega | (simp; omega))⟩) (by assumption) ?_; (try simp only [Act.put, List.setIfInBounds_toArray, List.set_cons_zero, List.set_cons_succ]))
  (refine takeH (i := 10) (v := ?_) rfl (by kernel_rfl) (by kernel_rfl) (by kernel_rfl) (fun _ _ _ h => h) (Or.inl ⟨by rfl, ?_⟩) (by assumption) ?_; rotate_left; (focus ((intro wS hSw); (try dsimp only at hSw); obtain ⟨s0, s1, s2, s3⟩ := hSw; go_simp; (try with_reducible rfl); done)); (try simp only [Act.put, List.setIfInBounds_toArray, List.set_cons_zero, List.set_cons_succ]))
  refine wpAnyH_done (by kernel_rfl) ?_ _
  refine NoPanic.normal ?_
  have HJ1 := Lib.hid (HJ.out.on (below_then HB1.out HB2.out))
  clear hHeld HJ
  obtain ⟨x4, x5, z4, z5⟩ := HJ1.out.outs
  go_wp2
  have hJp := HJ1.out.set
  exact ⟨_, results_join rfl _ _ (w.heap.size + 1 + 1) (w.heap.size + 1 + 1 + 1) _ _ rfl rfl hJp.outs.1 hJp.outs.2.1, ⟨rfl, hJp.2.2.2.2.1⟩⟩
set_option maxHeartbeats 2000000 in
theorem code_join_size (L : List Text) (A : Option Addr) (cL : Nat) (s : Int) (n : Nat) (u : Int) (w : World) (hh : headOk s n = true) (hm : L.length = (n + 63) / 64) (i0 : Nat) (hi0 : i0 < L.length) (hbad : L[i0].length ≠ 64) (hT : TextRows w A L) :
    Calls Try.prog 74 #[.slice A L.length cL, headV s n u] w (JoinNo w) := by
  have hn := headOk_len hh
  obtain ⟨bA, oA, rfl, hbA⟩ := rows_mid hT (by omega)
  have HT := Lib.hid hT
  have HBad : Hid (¬ ∀ j, (h : j < L.length) → L[j].length = 64) := Lib.hid (fun h => hbad (h i0 hi0))
  have HH : Hid (∀ W, Calls Try.prog 70 #[headV s n u] W fun e w' => e = .returned (.bool true) ∧ Below W.heap.size W w') := Lib.hid (fun W => by have := code_isHead s n u W; rwa [hh] at this)
  have HBt : Hid (∀ W, Calls Try.prog 72 #[.int .i64 n] W fun e w' => e = .returned (.int .i64 L.length) ∧ W = w') := Lib.hid (fun W => (code_between n W (by omega) (by omega)).mono fun e w' ⟨x, y⟩ => ⟨by rw [x, hm]; congr 2, y⟩)
  have HIP : Hid (∀ W B m c, Calls Try.prog 68 #[.slice B m c] W fun e w' => e = .returned (.bool (decide (m = 64))) ∧ W = w') := Lib.hid (fun W B m c => code_isPage B m c W)
  obtain ⟨i0, hi, hz0, hz1, hz2⟩ := info_parts u8fact
  have iL : (L.length : Int) ≤ 2048 := by omega
  clear hT hbad hm hh hn hi0
  have HJ0 : Hid (JBox w (.slice (some ⟨bA, oA, none⟩) L.length cL) s n u ((((w.alloc (.cells #[.slice (some ⟨bA, oA, none⟩) L.length cL] 31)).alloc (headO s n u)).alloc (.cells #[.slice none 0 0] 51)).alloc (.cells #[.bool false] 4))) := Lib.hid (jbox_start w _ s n u)
  unfold headV at HH
  unfold headO at HJ0
  refine callsIn_wide.1 (callsIn_of_wp_marks (n := 0) (F := Fence.wide) Try.func74 rfl trivial (wpIn_wide.2 ?_) rfl)
  simp only [Try.ntmps74, List.size_toArray, List.length_cons, List.length_nil, Nat.reduceAdd, Nat.reduceSub, Array.replicate_succ, Array.replicate_zero, List.push_toArray, List.append_toArray, List.nil_append, List.cons_append]
  unfold headV
  go_wp2
  generalize (((w.alloc (.cells #[.slice (some ⟨bA, oA, none⟩) L.length cL] 31)).alloc (.cells #[.int .i64 s, .int .i64 n, .int .u32 u] 96)).alloc (.cells #[.slice none 0 0] 51)).alloc (.cells #[.bool false] 4) = wb at HJ0 ⊢
  refine wp_region_noPanic (wp_region_held_drew (S := fun W => W.cell? ⟨w.heap.size, 0, none⟩ = some (.slice (some ⟨bA, oA, none⟩) L.length cL) ∧ W.cell? ⟨w.heap.size + 1, 0, none⟩ = some (.int .i64 s) ∧ W.cell? ⟨w.heap.size + 1, 1, none⟩ = some (.int .i64 n) ∧ W.cell? ⟨w.heap.size + 1, 2, none⟩ = some (.int .u32 u)) (by kernel_rfl) ⟨HJ0.out.cell0, head_cells HJ0.out.2.1⟩ ?_)
  intro hHeld
  have HJ := Lib.hid (HJ0.out.on (below_drew wb))
  clear HJ0
  generalize wb.drew = w0 at HJ hHeld ⊢
  (refine takeH (i := 0) (v := ?_) rfl (by kernel_rfl) (by kernel_rfl) (by kernel_rfl) (fun _ _ _ h => h) (Or.inl ⟨by rfl, ?_⟩) (by assumption) ?_; rotate_left; (focus ((intro wS hSw); (try dsimp only at hSw); obtain ⟨s0, s1, s2, s3⟩ := hSw; go_simp; (try with_reducible rfl); done)); (try simp only [Act.put, List.setIfInBounds_toArray, List.set_cons_zero, List.set_cons_succ]))
  refine aloneH (i := 1) rfl (by kernel_rfl) (fun K hK => ?_)
  rw [if_pos (by rfl)]
  go_simp; ((refine (HH.out w0).mono ?_); (rintro e w1 ⟨rfl, hb⟩); have HB1 := Lib.hid hb; clear hb; (try go_simp))
  refine hK.out _ _ (⟨cell_on HB1.out hHeld.1, cell_on HB1.out hHeld.2.1, cell_on HB1.out hHeld.2.2.1, cell_on HB1.out hHeld.2.2.2⟩) (fun hNew => ?_)
  clear hK K hHeld; (have hHeld := hNew); clear hNew; (try simp only [Act.put, List.setIfInBounds_toArray, List.set_cons_zero, List.set_cons_succ])
  (refine takeH (i := 2) (v := ?_) rfl (by kernel_rfl) (by kernel_rfl) (by kernel_rfl) (fun _ _ _ h => h) (Or.inl ⟨by rfl, ?_⟩) (by assumption) ?_; rotate_left; (focus ((intro wS hSw); (try dsimp only at hSw); obtain ⟨s0, s1, s2, s3⟩ := hSw; go_simp; (try with_reducible rfl); done)); (try simp only [Act.put, List.setIfInBounds_toArray, List.set_cons_zero, List.set_cons_succ]))
  (refine takeH (i := 3) (v := ?_) rfl (by kernel_rfl) (by kernel_rfl) (by kernel_rfl) (fun _ _ _ h => h) (Or.inl ⟨by rfl, ?_⟩) (by assumption) ?_; rotate_left; (focus ((intro wS hSw); (try dsimp only at hSw); obtain ⟨s0, s1, s2, s3⟩ := hSw; go_simp; (try with_reducible rfl); done)); (try simp only [Act.put, List.setIfInBounds_toArray, List.set_cons_zero, List.set_cons_succ]))
  (refine takeH (i := 4) (v := ?_) rfl (by kernel_rfl) (by kernel_rfl) (by kernel_rfl) (fun _ _ _ h => h) (Or.inl ⟨by rfl, ?_⟩) (by assumption) ?_; rotate_left; (focus ((intro wS hSw); (try dsimp only at hSw); obtain ⟨s0, s1, s2, s3⟩ := hSw; go_simp; (try with_reducible rfl); done)); (try simp only [Act.put, List.setIfInBounds_toArray, List.set_cons_zero, List.set_cons_succ]))
  (refine takeH (i := 5) (v := ?_) rfl (by kernel_rfl) (by kernel_rfl) (by kernel_rfl) (fun _ _ _ h => h) (Or.inl ⟨by rfl, ?_⟩) (by assumption) ?_; rotate_left; (focus ((intro wS hSw); (try dsimp only at hSw); obtain ⟨s0, s1, s2, s3⟩ := hSw; go_simp; (try with_reducible rfl); done)); (try simp only [Act.put, List.setIfInBounds_toArray, List.set_cons_zero, List.set_cons_succ]))
  (refine takeH (i := 6) (v := ?_) rfl (by kernel_rfl) (by kernel_rfl) (by kernel_rfl) (fun _ _ _ h => h) (Or.inl ⟨by rfl, ?_⟩) (by assumption) ?_; rotate_left; (focus ((intro wS hSw); (try dsimp only at hSw); obtain ⟨s0, s1, s2, s3⟩ := hSw; go_simp; (try with_reducible rfl); done)); (try simp only [Act.put, List.setIfInBounds_toArray, List.set_cons_zero, List.set_cons_succ]))
  (refine takeH (i := 7) (v := ?_) rfl (by kernel_rfl) (by kernel_rfl) (by kernel_rfl) (fun _ _ _ h => h) (Or.inl ⟨by rfl, ?_⟩) (by assumption) ?_; rotate_left; (focus ((intro wS hSw); (try dsimp only at hSw); obtain ⟨s0, s1, s2, s3⟩ := hSw; go_simp; (try with_reducible rfl); done)); (try simp only [Act.put, List.setIfInBounds_toArray, List.set_cons_zero, List.set_cons_succ]))
  refine aloneH (i := 8) rfl (by kernel_rfl) (fun K hK => ?_)
  rw [if_pos (by rfl)]
  go_simp; ((refine (HBt.out w1).mono ?_); (rintro e w2 ⟨rfl, rfl⟩); (try go_simp))
  have HB2 : Hid (Below w1.heap.size w1 w1) := Lib.hid (Below.refl _ _)
  refine hK.out _ _ (hHeld) (fun hNew => ?_)
  clear hK K hHeld; (have hHeld := hNew); clear hNew; (try simp only [Act.put, List.setIfInBounds_toArray, List.set_cons_zero, List.set_cons_succ])
  (refine takeH (i := 9) (v := ?_) rfl (by kernel_rfl) (by kernel_rfl) (by kernel_rfl) (fun _ _ _ h => h) (Or.inl ⟨by rfl, ?_⟩) (by assumption) ?_; rotate_left; (focus ((intro wS hSw); (try dsimp only at hSw); obtain ⟨s0, s1, s2, s3⟩ := hSw; go_simp; (try with_reducible rfl); done)); (try simp only [Act.put, List.setIfInBounds_toArray, List.set_cons_zero, List.set_cons_succ]))
  (refine takeH (i := 10) (v := ?_) rfl (by kernel_rfl) (by kernel_rfl) (by kernel_rfl) (fun _ _ _ h => h) (Or.inl ⟨by rfl, ?_⟩) (by assumption) ?_; rotate_left; (focus ((intro wS hSw); (try dsimp only at hSw); obtain ⟨s0, s1, s2, s3⟩ := hSw; go_simp; (try with_reducible rfl); done)); (try simp only [Act.put, List.setIfInBounds_toArray, List.set_cons_zero, List.set_cons_succ]))
  refine wpAnyH_done (by kernel_rfl) ?_ _
  refine NoPanic.normal ?_
  have HJ1 := Lib.hid (HJ.out.on (below_then HB1.out HB2.out))
  clear hHeld HJ
  have hc0 := HJ1.out.cell0
  go_wp2_with (at_make; refine wpList_make_own _ rfl _ _ 51 rfl (w.heap.size + 4) 5 i0 (.int .u8 0) 1 Try.underlying51 hi hz0 hz1 _ _ _ (64 * L.length) rfl rfl (by omega) (by rw [hz2]; omega) (by unfold maxLen; omega) HJ1.out.2.2.2.2.2 ?_; intro wm hown hgrow; have HO : Hid (wm.ownsRow (w.heap.size + 4) 5 1 (.slice (some ⟨w1.heap.size, 0, none⟩) 0 (64 * L.length)) (flatK L 0).length ((flatK L 0).map cellOf)) := Lib.hid (by simpa [flatK] using hown); have HJ2 := Lib.hid (HJ1.out.on ((Below.refl _ w1).grown hgrow (Nat.le_refl _) (fun k hk => by cases hk))); clear hown hgrow hc0; have hc1 := HJ2.out.cell0)
  clear hc1 hi hz0 hz1 hz2
  go_loopw [6, 28] (fun v i wr => ∃ k : Nat, k ≤ L.length ∧ i = .int .i64 k ∧ Hid ((∀ j, (h : j < L.length) → j < k → L[j].length = 64) ∧ (flatK L k).length = 64 * k) ∧ Hid (wr.ownsRow (w.heap.size + 4) 5 1 v (flatK L k).length ((flatK L k).map cellOf)) ∧ Hid (JBox w (.slice (some ⟨bA, oA, none⟩) L.length cL) s n u wr)) (fun _ i _ => L.length - (intOf i).toNat)
  case atStart => exact ⟨0, Nat.zero_le _, rfl, Lib.hid ⟨fun j h hj => absurd hj (Nat.not_lt_zero j), by simp [flatK]⟩, HO, HJ2⟩
  case round =>
    obtain ⟨k, hk, rfl, HSo, HOk, HJk⟩ := hrel
    by_cases hlt : k < L.length
    · have hlt' : (k : Int) < (L.length : Int) := by omega
      obtain ⟨a, Ai, ci, ea, hbl, hcl, hti, hni, hli⟩ := (HT.out.below HJk.out.2.2.2.2.1) k hlt
      injection ea with ea
      subst ea
      rw [Addr.add_mid] at hcl
      obtain ⟨x4, x5, z4, z5⟩ := HJk.out.outs
      by_cases h64 : L[k].length = 64
      · rw [h64] at hcl
        have HN2 := Lib.hid (And.intro hti hni)
        have HL4 : Hid (L[k].length = 64 ∧ (flatK L k).length ≤ 131072) := Lib.hid ⟨h64, by rw [HSo.out.2]; omega⟩
        have HS2 : Hid ((∀ j, (h : j < L.length) → j < k + 1 → L[j].length = 64) ∧ (flatK L (k + 1)).length = 64 * (k + 1)) := Lib.hid ⟨fun j h hj => by
          by_cases hjk : j < k
          · exact HSo.out.1 j h hjk
          · obtain rfl : j = k := by omega
            exact h64, by rw [flatK_next L k hlt, List.length_append, HSo.out.2, h64]; omega⟩
        clear hti hni hbl hli h64 x4 x5 z4 z5
        go_wp2_with (first
          | (go_at_call 68; refine (HIP.out _ _ _ _).mono ?_; rintro e w7 ⟨rfl, rfl⟩)
          | (at_builtin; refine wpList_append_text rfl _ _ rfl rfl (w.heap.size + 4) _ (flatK L k).length ((flatK L k).map cellOf) rfl HOk.out Ai ci L[k] (by rw [HL4.out.1]; rfl) HN2.out.1 HN2.out.2 (by have := HL4.out.1; have := HL4.out.2; omega) HJk.out.2.2.2.2.2 ?_; intro v' w' hown hg hat; have HO3 : Hid (w'.ownsRow (w.heap.size + 4) 5 1 v' (flatK L (k + 1)).length ((flatK L (k + 1)).map cellOf)) := Lib.hid (by rw [flatK_next L k hlt]; simpa using hown); have HJ3 := Lib.hid (HJk.out.far ((Below.refl _ wr).grown hg HJk.out.2.2.2.2.2 (fun k hk => (HOk.out.lt k hk).1))); clear hown hg hat))
        go_roundw
        case rel => exact ⟨k + 1, by omega, by go_num, HS2, HO3, HJ3⟩
        case measure => simp [intOf]; omega
      · obtain ⟨m, hm⟩ : ∃ m, m = L[k].length := ⟨_, rfl⟩
        rw [← hm] at hcl
        have HI2 : Hid (∀ W B c, Calls Try.prog 68 #[.slice B m c] W fun e w' => e = .returned (.bool false) ∧ W = w') := Lib.hid (fun W B c => by have := HIP.out W B m c; rwa [decide_eq_false (by rw [hm]; exact h64)] at this)
        clear hti hni hbl hli h64 hm
        go_wp2_with (go_at_call 68; refine (HI2.out _ _ _).mono ?_; rintro e w7 ⟨rfl, rfl⟩)
        have hJp := HJk.out.set
        exact ⟨_, results_join rfl _ _ (w.heap.size + 1 + 1) (w.heap.size + 1 + 1 + 1) _ _ rfl rfl hJp.outs.1 hJp.outs.2.1, ⟨rfl, hJp.2.2.2.2.1⟩⟩
    · exact absurd (fun j h => HSo.out.1 j h (by omega)) HBad.out
end Go.Proofs.Ytfjejiapafdgeaa
