/- scan: sectors that are a batch's, or none. What stands on a disk's sectors: the batches, and the tail. Plain facts. -/
import Derived.Test.YthgakgjhcadajaaJ26
import Derived.Test.YthgakgjhcadajaaJ14
import Derived.Test.YthgakgjhcadajaaJ21
import Derived.Test.YthgakgjhcadajaaJ8
namespace Go.Proofs.Ythgakgjhcadajaa
open Go.RowKit
set_option maxRecDepth 100000
set_option linter.unusedSimpArgs false
set_option linter.unusedVariables false

theorem txt_nil2 (w : World) (A : Option Addr) : Txt w A [] := fun h => absurd rfl h
/-- what stands between the first one and the last one -/
def midL (L : List Text) (k : Nat) : List Text := (L.drop 1).take (k - 1)
theorem midL_len {L : List Text} {k : Nat} (h : L.length = k + 1) : (midL L k).length = k - 1 := by unfold midL; rw [List.length_take, List.length_drop]; omega
def batchX (q : Bool) (X : Text) : Text := if q = true then X else []
set_option maxHeartbeats 4000000 in
theorem code_batch (L : List Text) (b o c k : Nat) (s n u : Int) (w : World) (hk : L.length = k + 1) (h1 : 1 ≤ k) (hc : k + 1 ≤ c) (hcm : c ≤ maxLen) (hu : 0 ≤ u ∧ u < 4294967296) (hT : TextRows w (some ⟨b, o, none⟩) L) :
    Calls Try.prog 50 #[.slice (some ⟨b, o, none⟩) (k + 1 : Nat) c, headV s n u] w (JoinG w (endOk (L[k]'(by omega)) s u && joinQ (midL L k) s n u) (batchX (endOk (L[k]'(by omega)) s u) (joinX (midL L k) s n u))) := by
  obtain ⟨a, Ai, ci, e, hb, hcell, hTi, hni, hli⟩ := hT k (by omega)
  injection e with e
  subst e
  rw [Addr.add_mid] at hcell
  have HE : Hid (∀ W, Below w.heap.size w W → Calls Try.prog 73 #[.slice Ai (L[k]'(by omega)).length ci, headV s n u] W fun e w' => e = .returned (.bool (endOk (L[k]'(by omega)) s u)) ∧ Below W.heap.size W w') := Lib.hid fun W hB => code_end _ Ai ci s n u W (hTi.below hB) hu
  have HJ : Hid (∀ W, Below w.heap.size w W → Calls Try.prog 74 #[.slice (some ⟨b, o + 1, none⟩) (k - 1 : Nat) (c - 1), headV s n u] W (JoinG W (joinQ (midL L k) s n u) (joinX (midL L k) s n u))) := Lib.hid fun W hB => by
    have h := code_join (midL L k) (some ⟨b, o + 1, none⟩) (c - 1) s n u W hu (rows_sub (hT.below hB) 1 (k - 1))
    rw [midL_len hk] at h
    exact h
  generalize endOk (L[k]'(by omega)) s u = q at HE ⊢
  generalize joinQ (midL L k) s n u = r at HJ ⊢
  generalize joinX (midL L k) s n u = X at HJ ⊢
  obtain ⟨Y, hY⟩ : ∃ Y, batchX q X = Y := ⟨_, rfl⟩
  rw [hY]
  have HY := Lib.hid hY
  clear hY
  have hwk : wrap64 (k : Int) = (k : Int) := by unfold wrap64; unfold maxLen at hcm; omega
  have hk0 : (0 : Int) ≤ (k : Int) := by omega
  have hk1 : (k : Int) < (k : Int) + 1 := by omega
  have hk2 : (1 : Int) ≤ (k : Int) := by omega
  have hk3 : (k : Int) ≤ (c : Int) := by omega
  have hcn : ¬ c = 1 := by omega
  generalize (L[k]'(by omega)).length = m at HE hcell
  have HBW : Hid (Below w.heap.size w (w.alloc (headO s n u))) := Lib.hid (below_alloc w _)
  have HH : Hid ((w.alloc (headO s n u)).heap[w.heap.size]? = some (headO s n u)) := Lib.hid (heap_alloc_new w _)
  have HC : Hid ((w.alloc (headO s n u)).cell? ⟨b, o + k, none⟩ = some (.slice Ai m ci)) := Lib.hid (cell_on HBW.out hcell)
  clear hT hTi hni hli hcell hb hk
  unfold headV
  go_enter Try.func50, Try.ntmps50
  go_upto_region 2 with fail
  unfold headO at HBW HH HC
  generalize (w.alloc (.cells #[.int .i64 s, .int .i64 n, .int .u32 u] 96)) = wb at HBW HH HC ⊢
  go_wp2
  have k0 := (cell_of_row wb w.heap.size 0 _ _ _ HH.out).trans rfl
  have k1 := (cell_of_row wb w.heap.size 1 _ _ _ HH.out).trans rfl
  have k2 := (cell_of_row wb w.heap.size 2 _ _ _ HH.out).trans rfl
  have HS0 : Hid ((fun V => V.cell? ⟨w.heap.size, 0, none⟩ = some (.int .i64 s) ∧ V.cell? ⟨w.heap.size, 1, none⟩ = some (.int .i64 n) ∧ V.cell? ⟨w.heap.size, 2, none⟩ = some (.int .u32 u) ∧ V.cell? ⟨b, o + k, none⟩ = some (.slice Ai m ci)) wb.drew) := Lib.hid ⟨cell_on (Below.refl _ _).drew k0, cell_on (Below.refl _ _).drew k1, cell_on (Below.refl _ _).drew k2, cell_on (Below.refl _ _).drew HC.out⟩
  have HBD := Lib.hid HBW.out.drew
  clear k0 k1 k2 HBW HH HC
  refine wp_region_held_drew (S := fun V => V.cell? ⟨w.heap.size, 0, none⟩ = some (.int .i64 s) ∧ V.cell? ⟨w.heap.size, 1, none⟩ = some (.int .i64 n) ∧ V.cell? ⟨w.heap.size, 2, none⟩ = some (.int .u32 u) ∧ V.cell? ⟨b, o + k, none⟩ = some (.slice Ai m ci)) (by kernel_rfl) HS0.out ?_
  intro hHeld
  clear HS0
  generalize wb.drew = w0 at HBD hHeld ⊢
  (refine takeH (i := 0) (v := ?_) rfl (by kernel_rfl) (by kernel_rfl) (by kernel_rfl) (fun _ _ _ h => h) (Or.inl ⟨by rfl, ?_⟩) (by assumption) ?_; rotate_left; (focus ((intro wS hSw); (try dsimp only at hSw); obtain ⟨s0, s1, s2, s3⟩ := hSw; go_simp; (try with_reducible rfl); done)); (try simp only [Act.put, List.setIfInBounds_toArray, List.set_cons_zero, List.set_cons_succ]))
  (refine takeH (i := 1) (v := ?_) rfl (by kernel_rfl) (by kernel_rfl) (by kernel_rfl) (fun _ _ _ h => h) (Or.inl ⟨by rfl, ?_⟩) (by assumption) ?_; rotate_left; (focus ((intro wS hSw); (try dsimp only at hSw); obtain ⟨s0, s1, s2, s3⟩ := hSw; go_simp; (try with_reducible rfl); done)); (try simp only [Act.put, List.setIfInBounds_toArray, List.set_cons_zero, List.set_cons_succ]))
  (refine takeH (i := 2) (v := ?_) rfl (by kernel_rfl) (by kernel_rfl) (by kernel_rfl) (fun _ _ _ h => h) (Or.inl ⟨by rfl, ?_⟩) (by assumption) ?_; rotate_left; (focus ((intro wS hSw); (try dsimp only at hSw); obtain ⟨s0, s1, s2, s3⟩ := hSw; go_simp; (try with_reducible rfl); done)); (try simp only [Act.put, List.setIfInBounds_toArray, List.set_cons_zero, List.set_cons_succ]))
  (refine takeH (i := 3) (v := ?_) rfl (by kernel_rfl) (by kernel_rfl) (by kernel_rfl) (fun _ _ _ h => h) (Or.inl ⟨by rfl, ?_⟩) (by assumption) ?_; rotate_left; (focus ((intro wS hSw); (try dsimp only at hSw); obtain ⟨s0, s1, s2, s3⟩ := hSw; go_simp; (try with_reducible rfl); done)); (try simp only [Act.put, List.setIfInBounds_toArray, List.set_cons_zero, List.set_cons_succ]))
  (refine takeH (i := 4) (v := ?_) rfl (by kernel_rfl) (by kernel_rfl) (by kernel_rfl) (fun _ _ _ h => h) (Or.inl ⟨by rfl, ?_⟩) (by assumption) ?_; rotate_left; (focus ((intro wS hSw); (try dsimp only at hSw); obtain ⟨s0, s1, s2, s3⟩ := hSw; go_simp; (try with_reducible rfl); done)); (try simp only [Act.put, List.setIfInBounds_toArray, List.set_cons_zero, List.set_cons_succ]))
  refine aloneH (i := 5) rfl (by kernel_rfl) (fun K hK => ?_)
  rw [if_pos (by rfl)]
  go_simp; ((refine (HE.out w0 HBD.out).mono ?_); (rintro e w1 ⟨rfl, hb⟩); have HB1 := Lib.hid hb; clear hb; (try go_simp))
  refine hK.out _ _ (⟨cell_on HB1.out hHeld.1, cell_on HB1.out hHeld.2.1, cell_on HB1.out hHeld.2.2.1, cell_on HB1.out hHeld.2.2.2⟩) (fun hNew => ?_)
  clear hK K hHeld; (have hHeld := hNew); clear hNew; (try simp only [Act.put, List.setIfInBounds_toArray, List.set_cons_zero, List.set_cons_succ])
  (refine takeH (i := 6) (v := ?_) rfl (by kernel_rfl) (by kernel_rfl) (by kernel_rfl) (fun _ _ _ h => h) (Or.inl ⟨by rfl, ?_⟩) (by assumption) ?_; rotate_left; (focus ((intro wS hSw); (try dsimp only at hSw); obtain ⟨s0, s1, s2, s3⟩ := hSw; go_simp; (try with_reducible rfl); done)); (try simp only [Act.put, List.setIfInBounds_toArray, List.set_cons_zero, List.set_cons_succ]))
  refine wpAnyH_done (by kernel_rfl) ?_ _
  have HB9 := Lib.hid (HBD.out.trans (HB1.out.mono HBD.out.size))
  cases q
  · clear hHeld
    go_wp2
    go_ret2
    have e : Y = [] := HY.out.symm
    subst e
    exact ⟨none, 0, rfl, txt_nil2 _ _, .inl ⟨rfl, rfl⟩, HB9.out⟩
  · go_wp2
    have HS1 : Hid ((fun V => V.cell? ⟨w.heap.size, 0, none⟩ = some (.int .i64 s) ∧ V.cell? ⟨w.heap.size, 1, none⟩ = some (.int .i64 n) ∧ V.cell? ⟨w.heap.size, 2, none⟩ = some (.int .u32 u)) w1.drew) := Lib.hid ⟨cell_on (Below.refl _ _).drew hHeld.1, cell_on (Below.refl _ _).drew hHeld.2.1, cell_on (Below.refl _ _).drew hHeld.2.2.1⟩
    have HBE := Lib.hid HB9.out.drew
    clear hHeld HB9 HB1 HBD
    refine wp_region_held_drew (S := fun V => V.cell? ⟨w.heap.size, 0, none⟩ = some (.int .i64 s) ∧ V.cell? ⟨w.heap.size, 1, none⟩ = some (.int .i64 n) ∧ V.cell? ⟨w.heap.size, 2, none⟩ = some (.int .u32 u)) (by kernel_rfl) HS1.out ?_
    intro hHeld
    clear HS1
    generalize w1.drew = we at HBE hHeld ⊢
    (refine takeH (i := 0) (v := ?_) rfl (by kernel_rfl) (by kernel_rfl) (by kernel_rfl) (fun _ _ _ h => h) (Or.inl ⟨by rfl, ?_⟩) (by assumption) ?_; rotate_left; (focus ((intro wS hSw); (try dsimp only at hSw); obtain ⟨s0, s1, s2⟩ := hSw; go_simp; (try with_reducible rfl); done)); (try simp only [Act.put, List.setIfInBounds_toArray, List.set_cons_zero, List.set_cons_succ]))
    (refine takeH (i := 1) (v := ?_) rfl (by kernel_rfl) (by kernel_rfl) (by kernel_rfl) (fun _ _ _ h => h) (Or.inl ⟨by rfl, ?_⟩) (by assumption) ?_; rotate_left; (focus ((intro wS hSw); (try dsimp only at hSw); obtain ⟨s0, s1, s2⟩ := hSw; go_simp; (try with_reducible rfl); done)); (try simp only [Act.put, List.setIfInBounds_toArray, List.set_cons_zero, List.set_cons_succ]))
    (refine takeH (i := 2) (v := ?_) rfl (by kernel_rfl) (by kernel_rfl) (by kernel_rfl) (fun _ _ _ h => h) (Or.inl ⟨by rfl, ?_⟩) (by assumption) ?_; rotate_left; (focus ((intro wS hSw); (try dsimp only at hSw); obtain ⟨s0, s1, s2⟩ := hSw; go_simp; (try with_reducible rfl); done)); (try simp only [Act.put, List.setIfInBounds_toArray, List.set_cons_zero, List.set_cons_succ]))
    (refine takeH (i := 3) (v := ?_) rfl (by kernel_rfl) (by kernel_rfl) (by kernel_rfl) (fun _ _ _ h => h) (Or.inl ⟨by rfl, ?_⟩) (by assumption) ?_; rotate_left; (focus ((intro wS hSw); (try dsimp only at hSw); obtain ⟨s0, s1, s2⟩ := hSw; go_simp; (try with_reducible rfl); done)); (try simp only [Act.put, List.setIfInBounds_toArray, List.set_cons_zero, List.set_cons_succ]))
    refine aloneH (i := 4) rfl (by kernel_rfl) (fun K hK => ?_)
    rw [if_pos (by rfl)]
    go_simp; ((refine (HJ.out we HBE.out).mono ?_); (rintro e w1 ⟨B9, c9, rfl, ht9, hn9, hb⟩); have HB1 := Lib.hid hb; have HT9 := Lib.hid (And.intro ht9 hn9); clear hb ht9 hn9; (try go_simp))
    refine hK.out _ _ (⟨cell_on HB1.out hHeld.1, cell_on HB1.out hHeld.2.1, cell_on HB1.out hHeld.2.2⟩) (fun hNew => ?_)
    clear hK K hHeld; (have hHeld := hNew); clear hNew; (try simp only [Act.put, List.setIfInBounds_toArray, List.set_cons_zero, List.set_cons_succ])
    (refine takeH (i := 5) (v := ?_) rfl (by kernel_rfl) (by kernel_rfl) (by kernel_rfl) (fun _ _ _ h => h) (Or.inl ⟨by rfl, ?_⟩) (by assumption) ?_; rotate_left; (focus ((intro wS hSw); (try dsimp only at hSw); obtain ⟨s0, s1, s2⟩ := hSw; go_simp; (try with_reducible rfl); done)); (try simp only [Act.put, List.setIfInBounds_toArray, List.set_cons_zero, List.set_cons_succ]))
    (refine takeH (i := 6) (v := ?_) rfl (by kernel_rfl) (by kernel_rfl) (by kernel_rfl) (fun _ _ _ h => h) (Or.inl ⟨by rfl, ?_⟩) (by assumption) ?_; rotate_left; (focus ((intro wS hSw); (try dsimp only at hSw); obtain ⟨s0, s1, s2⟩ := hSw; go_simp; (try with_reducible rfl); done)); (try simp only [Act.put, List.setIfInBounds_toArray, List.set_cons_zero, List.set_cons_succ]))
    (refine takeH (i := 7) (v := ?_) rfl (by kernel_rfl) (by kernel_rfl) (by kernel_rfl) (fun _ _ _ h => h) (Or.inl ⟨by rfl, ?_⟩) (by assumption) ?_; rotate_left; (focus ((intro wS hSw); (try dsimp only at hSw); obtain ⟨s0, s1, s2⟩ := hSw; go_simp; (try with_reducible rfl); done)); (try simp only [Act.put, List.setIfInBounds_toArray, List.set_cons_zero, List.set_cons_succ]))
    (refine takeH (i := 8) (v := ?_) rfl (by kernel_rfl) (by kernel_rfl) (by kernel_rfl) (fun _ _ _ h => h) (Or.inl ⟨by rfl, ?_⟩) (by assumption) ?_; rotate_left; (focus ((intro wS hSw); (try dsimp only at hSw); obtain ⟨s0, s1, s2⟩ := hSw; go_simp; (try with_reducible rfl); done)); (try simp only [Act.put, List.setIfInBounds_toArray, List.set_cons_zero, List.set_cons_succ]))
    refine wpAnyH_done (by kernel_rfl) ?_ _
    clear hHeld
    go_wp2
    go_ret2
    have e : Y = X := HY.out.symm
    subst e
    exact ⟨B9, c9, rfl, HT9.out.1, HT9.out.2.mono HBE.out.size, HBE.out.trans (HB1.out.mono HBE.out.size)⟩
end Go.Proofs.Ythgakgjhcadajaa

namespace Go.Proofs.Ythgakgjhcadajaa
set_option linter.unusedVariables false

/-- as many sectors from one on -/
def someT (S : Nat → Text) (i m : Nat) : List Text := (List.range m).map fun k => S (i + k)
theorem someT_len (S : Nat → Text) (i m : Nat) : (someT S i m).length = m := by simp [someT]
theorem someT_next (S : Nat → Text) (i m : Nat) : someT S i (m + 1) = someT S i m ++ [S (i + m)] := by simp [someT, List.range_succ]
theorem someT_get (S : Nat → Text) (i m k : Nat) (hk : k < (someT S i m).length) : (someT S i m)[k] = S (i + k) := by simp [someT]
theorem someT_cons (S : Nat → Text) (i m : Nat) : someT S i (m + 1) = S i :: someT S (i + 1) m := by
  unfold someT
  rw [List.range_succ_eq_map, List.map_cons, List.map_map]
  simp only [Nat.add_zero, List.cons.injEq, true_and]
  exact List.map_congr_left fun k _ => by simp only [Function.comp]; congr 1; omega
/-- how many sectors a head says -/
def needT (l : Text) : Nat := (needV (lenB l)).toNat
/-- is that, from sector i on, the batch of that number -/
def batchQ (S : Nat → Text) (many i : Nat) (seq : Int) : Bool :=
  decide (i < many) && (isB (S i) && (decide (seqB (S i) = seq) && (decide (i + needT (S i) ≤ many) && (endOk (S (i + needT (S i) - 1)) (seqB (S i)) (sumB (S i)) && joinQ (someT S (i + 1) (needT (S i) - 2)) (seqB (S i)) (lenB (S i)) (sumB (S i))))))
def batchT (S : Nat → Text) (i : Nat) : Text := joinT (someT S (i + 1) (needT (S i) - 2)) (lenB (S i))
def findV (S : Nat → Text) (many : Nat) : Nat → Nat → List Text → List Text × Nat
  | 0, at_, L => (L, at_)
  | f + 1, at_, L => if batchQ S many at_ (L.length + 1 : Nat) = true then findV S many f (at_ + needT (S at_)) (L ++ [batchT S at_]) else (L, at_)
def findT (S : Nat → Text) (many : Nat) : List Text × Nat := findV S many (many + 1) 0 []
theorem need_big {l : Text} (h : isB l = true) : 3 ≤ needT l := by
  have hh : headOk (seqB l) (lenB l) = true := by
    unfold isB at h
    simp only [Bool.and_eq_true] at h
    exact h.1.2
  unfold headOk at hh
  simp only [Bool.and_eq_true, decide_eq_true_eq] at hh
  have h2 := hh.2
  unfold needT
  unfold needV at h2 ⊢
  split at h2
  · omega
  · rename_i hx
    rw [if_neg hx]
    omega
theorem find_next {S : Nat → Text} {many f at_ : Nat} {L : List Text} (h : batchQ S many at_ (L.length + 1 : Nat) = true) : findV S many (f + 1) at_ L = findV S many f (at_ + needT (S at_)) (L ++ [batchT S at_]) := by
  show (if _ then _ else _) = _
  rw [if_pos h]
theorem find_end {S : Nat → Text} {many f at_ : Nat} {L : List Text} (h : batchQ S many at_ (L.length + 1 : Nat) = false) : findV S many f at_ L = (L, at_) := by
  cases f with
  | zero => rfl
  | succ f =>
    show (if _ then _ else _) = _
    rw [if_neg (by rw [h]; decide)]
theorem batch_in {S : Nat → Text} {many i : Nat} {seq : Int} (h : batchQ S many i seq = true) : i < many ∧ isB (S i) = true ∧ seqB (S i) = seq ∧ i + needT (S i) ≤ many ∧ 3 ≤ needT (S i) := by
  unfold batchQ at h
  simp only [Bool.and_eq_true, decide_eq_true_eq] at h
  exact ⟨h.1, h.2.1, h.2.2.1, h.2.2.2.1, need_big h.2.1⟩
end Go.Proofs.Ythgakgjhcadajaa
