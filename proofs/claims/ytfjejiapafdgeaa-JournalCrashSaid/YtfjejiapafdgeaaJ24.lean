/- scan: sectors that are a batch's, or none. What stands on a disk's sectors: the batches, and the tail. Plain facts. scan: a scope of three labels; a box turned beside a row; the bytes of a batch. -/
import Derived.Test.YtfjejiapafdgeaaJ23
import Derived.Test.YtfjejiapafdgeaaJ13
import Derived.Test.YtfjejiapafdgeaaJ19
import Derived.Test.YtfjejiapafdgeaaJ8
import Derived.Test.YtfjejiapafdgeaaJ12
import Derived.Test.YtfjejiapafdgeaaJ16
import Derived.Test.YtfjejiapafdgeaaJ1
namespace Go.Proofs.Ytfjejiapafdgeaa
open Go.RowKit
set_option maxRecDepth 100000
set_option linter.unusedSimpArgs false
set_option linter.unusedVariables false

theorem txt_nil2 (w : World) (A : Option Addr) : Txt w A [] := fun h => absurd rfl h
/-- what stands between the first one and the last one -/
def midL (L : List Text) (k : Nat) : List Text := (L.drop 1).take (k - 1)
theorem midL_len {L : List Text} {k : Nat} (h : L.length = k + 1) : (midL L k).length = k - 1 := by unfold midL; rw [List.length_take, List.length_drop]; omega
def batchX (q : Bool) (X : Text) : Text := if q = true then X else []
set_option maxHeartbeats 4000000 in
theorem code_batch (L : List Text) (b o c k : Nat) (s n u : Int) (w : World) (hk : L.length = k + 1) (h1 : 1 ≤ k) (hc : k + 1 ≤ c) (hcm : c ≤ maxLen) (hu : 0 ≤ u ∧ u < 4294967296) (hT : TextRows w (some ⟨b, o, none⟩) L) :
    Calls Try.prog 50 #[.slice (some ⟨b, o, none⟩) (k + 1 : Nat) c, headV s n u] w (JoinG w (endOk (L[k]'(by omega)) s u && joinQ (midL L k) s n u) (batchX (endOk (L[k]'(by omega)) s u) (joinX (midL L k) s n u))) := by
  obtain ⟨a, Ai, ci, e, hb, hcell, hTi, hni, hli⟩ := hT k (by omega)
  injection e with e
  subst e
  rw [Addr.add_mid] at hcell
  have HE : Hid (∀ W, Below w.heap.size w W → Calls Try.prog 73 #[.slice Ai (L[k]'(by omega)).length ci, headV s n u] W fun e w' => e = .returned (.bool (endOk (L[k]'(by omega)) s u)) ∧ Below W.heap.size W w') := Lib.hid fun W hB => code_end _ Ai ci s n u W (hTi.below hB) hu
  have HJ : Hid (∀ W, Below w.heap.size w W → Calls Try.prog 74 #[.slice (some ⟨b, o + 1, none⟩) (k - 1 : Nat) (c - 1), headV s n u] W (JoinG W (joinQ (midL L k) s n u) (joinX (midL L k) s n u))) := Lib.hid fun W hB => by
    have h := code_join (midL L k) (some ⟨b, o + 1, none⟩) (c - 1) s n u W hu (rows_sub (hT.below hB) 1 (k - 1))
    rw [midL_len hk] at h
    exact h
  generalize endOk (L[k]'(by omega)) s u = q at HE ⊢
  generalize joinQ (midL L k) s n u = r at HJ ⊢
  generalize joinX (midL L k) s n u = X at HJ ⊢
  obtain ⟨Y, hY⟩ : ∃ Y, batchX q X = Y := ⟨_, rfl⟩
  rw [hY]
  have HY := Lib.hid hY
  clear hY
  have hwk : wrap64 (k : Int) = (k : Int) := by unfold wrap64; unfold maxLen at hcm; omega
  have hk0 : (0 : Int) ≤ (k : Int) := by omega
  have hk1 : (k : Int) < (k : Int) + 1 := by omega
  have hk2 : (1 : Int) ≤ (k : Int) := by omega
  have hk3 : (k : Int) ≤ (c : Int) := by omega
  have hcn : ¬ c = 1 := by omega
  generalize (L[k]'(by omega)).length = m at HE hcell
  have HBW : Hid (Below w.heap.size w (w.alloc (headO s n u))) := Lib.hid (below_alloc w _)
  have HH : Hid ((w.alloc (headO s n u)).heap[w.heap.size]? = some (headO s n u)) := Lib.hid (heap_alloc_new w _)
  have HC : Hid ((w.alloc (headO s n u)).cell? ⟨b, o + k, none⟩ = some (.slice Ai m ci)) := Lib.hid (cell_on HBW.out hcell)
  clear hT hTi hni hli hcell hb hk
  unfold headV
  go_enter Try.func50, Try.ntmps50
  go_upto_region 2 with fail
  unfold headO at HBW HH HC
  generalize (w.alloc (.cells #[.int .i64 s, .int .i64 n, .int .u32 u] 96)) = wb at HBW HH HC ⊢
  go_wp2
  have k0 := (cell_of_row wb w.heap.size 0 _ _ _ HH.out).trans rfl
  have k1 := (cell_of_row wb w.heap.size 1 _ _ _ HH.out).trans rfl
  have k2 := (cell_of_row wb w.heap.size 2 _ _ _ HH.out).trans rfl
  have HS0 : Hid ((fun V => V.cell? ⟨w.heap.size, 0, none⟩ = some (.int .i64 s) ∧ V.cell? ⟨w.heap.size, 1, none⟩ = some (.int .i64 n) ∧ V.cell? ⟨w.heap.size, 2, none⟩ = some (.int .u32 u) ∧ V.cell? ⟨b, o + k, none⟩ = some (.slice Ai m ci)) wb.drew) := Lib.hid ⟨cell_on (Below.refl _ _).drew k0, cell_on (Below.refl _ _).drew k1, cell_on (Below.refl _ _).drew k2, cell_on (Below.refl _ _).drew HC.out⟩
  have HBD := Lib.hid HBW.out.drew
  clear k0 k1 k2 HBW HH HC
  refine wp_region_held_drew (S := fun V => V.cell? ⟨w.heap.size, 0, none⟩ = some (.int .i64 s) ∧ V.cell? ⟨w.heap.size, 1, none⟩ = some (.int .i64 n) ∧ V.cell? ⟨w.heap.size, 2, none⟩ = some (.int .u32 u) ∧ V.cell? ⟨b, o + k, none⟩ = some (.slice Ai m ci)) (by kernel_rfl) HS0.out ?_
  intro hHeld
  clear HS0
  generalize wb.drew = w0 at HBD hHeld ⊢
  (refine takeH (i := 0) (v := ?_) rfl (by kernel_rfl) (by kernel_rfl) (by kernel_rfl) (fun _ _ _ h => h) (Or.inl ⟨by rfl, ?_⟩) (by assumption) ?_; rotate_left; (focus ((intro wS hSw); (try dsimp only at hSw); obtain ⟨s0, s1, s2, s3⟩ := hSw; go_simp; (try with_reducible rfl); done)); (try simp only [Act.put, List.setIfInBounds_toArray, List.set_cons_zero, List.set_cons_succ]))
  (refine takeH (i := 1) (v := ?_) rfl (by kernel_rfl) (by kernel_rfl) (by kernel_rfl) (fun _ _ _ h => h) (Or.inl ⟨by rfl, ?_⟩) (by assumption) ?_; rotate_left; (focus ((intro wS hSw); (try dsimp only at hSw); obtain ⟨s0, s1, s2, s3⟩ := hSw; go_simp; (try with_reducible rfl); done)); (try simp only [Act.put, List.setIfInBounds_toArray, List.set_cons_zero, List.set_cons_succ]))
  (refine takeH (i := 2) (v := ?_) rfl (by kernel_rfl) (by kernel_rfl) (by kernel_rfl) (fun _ _ _ h => h) (Or.inl ⟨by rfl, ?_⟩) (by assumption) ?_; rotate_left; (focus ((intro wS hSw); (try dsimp only at hSw); obtain ⟨s0, s1, s2, s3⟩ := hSw; go_simp; (try with_reducible rfl); done)); (try simp only [Act.put, List.setIfInBounds_toArray, List.set_cons_zero, List.set_cons_succ]))
  (refine takeH (i := 3) (v := ?_) rfl (by kernel_rfl) (by kernel_rfl) (by kernel_rfl) (fun _ _ _ h => h) (Or.inl ⟨by rfl, ?_⟩) (by assumption) ?_; rotate_left; (focus ((intro wS hSw); (try dsimp only at hSw); obtain ⟨s0, s1, s2, s3⟩ := hSw; go_simp; (try with_reducible rfl); done)); (try simp only [Act.put, List.setIfInBounds_toArray, List.set_cons_zero, List.set_cons_succ]))
  (refine takeH (i := 4) (v := ?_) rfl (by kernel_rfl) (by kernel_rfl) (by kernel_rfl) (fun _ _ _ h => h) (Or.inl ⟨by rfl, ?_⟩) (by assumption) ?_; rotate_left; (focus ((intro wS hSw); (try dsimp only at hSw); obtain ⟨s0, s1, s2, s3⟩ := hSw; go_simp; (try with_reducible rfl); done)); (try simp only [Act.put, List.setIfInBounds_toArray, List.set_cons_zero, List.set_cons_succ]))
  refine aloneH (i := 5) rfl (by kernel_rfl) (fun K hK => ?_)
  rw [if_pos (by rfl)]
  go_simp; ((refine (HE.out w0 HBD.out).mono ?_); (rintro e w1 ⟨rfl, hb⟩); have HB1 := Lib.hid hb; clear hb; (try go_simp))
  refine hK.out _ _ (⟨cell_on HB1.out hHeld.1, cell_on HB1.out hHeld.2.1, cell_on HB1.out hHeld.2.2.1, cell_on HB1.out hHeld.2.2.2⟩) (fun hNew => ?_)
  clear hK K hHeld; (have hHeld := hNew); clear hNew; (try simp only [Act.put, List.setIfInBounds_toArray, List.set_cons_zero, List.set_cons_succ])
  (refine takeH (i := 6) (v := ?_) rfl (by kernel_rfl) (by kernel_rfl) (by kernel_rfl) (fun _ _ _ h => h) (Or.inl ⟨by rfl, ?_⟩) (by assumption) ?_; rotate_left; (focus ((intro wS hSw); (try dsimp only at hSw); obtain ⟨s0, s1, s2, s3⟩ := hSw; go_simp; (try with_reducible rfl); done)); (try simp only [Act.put, List.setIfInBounds_toArray, List.set_cons_zero, List.set_cons_succ]))
  refine wpAnyH_done (by kernel_rfl) ?_ _
  have HB9 := Lib.hid (HBD.out.trans (HB1.out.mono HBD.out.size))
  cases q
  · clear hHeld
    go_wp2
    go_ret2
    have e : Y = [] := HY.out.symm
    subst e
    exact ⟨none, 0, rfl, txt_nil2 _ _, .inl ⟨rfl, rfl⟩, HB9.out⟩
  · go_wp2
    have HS1 : Hid ((fun V => V.cell? ⟨w.heap.size, 0, none⟩ = some (.int .i64 s) ∧ V.cell? ⟨w.heap.size, 1, none⟩ = some (.int .i64 n) ∧ V.cell? ⟨w.heap.size, 2, none⟩ = some (.int .u32 u)) w1.drew) := Lib.hid ⟨cell_on (Below.refl _ _).drew hHeld.1, cell_on (Below.refl _ _).drew hHeld.2.1, cell_on (Below.refl _ _).drew hHeld.2.2.1⟩
    have HBE := Lib.hid HB9.out.drew
    clear hHeld HB9 HB1 HBD
    refine wp_region_held_drew (S := fun V => V.cell? ⟨w.heap.size, 0, none⟩ = some (.int .i64 s) ∧ V.cell? ⟨w.heap.size, 1, none⟩ = some (.int .i64 n) ∧ V.cell? ⟨w.heap.size, 2, none⟩ = some (.int .u32 u)) (by kernel_rfl) HS1.out ?_
    intro hHeld
    clear HS1
    generalize w1.drew = we at HBE hHeld ⊢
    (refine takeH (i := 0) (v := ?_) rfl (by kernel_rfl) (by kernel_rfl) (by kernel_rfl) (fun _ _ _ h => h) (Or.inl ⟨by rfl, ?_⟩) (by assumption) ?_; rotate_left; (focus ((intro wS hSw); (try dsimp only at hSw); obtain ⟨s0, s1, s2⟩ := hSw; go_simp; (try with_reducible rfl); done)); (try simp only [Act.put, List.setIfInBounds_toArray, List.set_cons_zero, List.set_cons_succ]))
    (refine takeH (i := 1) (v := ?_) rfl (by kernel_rfl) (by kernel_rfl) (by kernel_rfl) (fun _ _ _ h => h) (Or.inl ⟨by rfl, ?_⟩) (by assumption) ?_; rotate_left; (focus ((intro wS hSw); (try dsimp only at hSw); obtain ⟨s0, s1, s2⟩ := hSw; go_simp; (try with_reducible rfl); done)); (try simp only [Act.put, List.setIfInBounds_toArray, List.set_cons_zero, List.set_cons_succ]))
    (refine takeH (i := 2) (v := ?_) rfl (by kernel_rfl) (by kernel_rfl) (by kernel_rfl) (fun _ _ _ h => h) (Or.inl ⟨by rfl, ?_⟩) (by assumption) ?_; rotate_left; (focus ((intro wS hSw); (try dsimp only at hSw); obtain ⟨s0, s1, s2⟩ := hSw; go_simp; (try with_reducible rfl); done)); (try simp only [Act.put, List.setIfInBounds_toArray, List.set_cons_zero, List.set_cons_succ]))
    (refine takeH (i := 3) (v := ?_) rfl (by kernel_rfl) (by kernel_rfl) (by kernel_rfl) (fun _ _ _ h => h) (Or.inl ⟨by rfl, ?_⟩) (by assumption) ?_; rotate_left; (focus ((intro wS hSw); (try dsimp only at hSw); obtain ⟨s0, s1, s2⟩ := hSw; go_simp; (try with_reducible rfl); done)); (try simp only [Act.put, List.setIfInBounds_toArray, List.set_cons_zero, List.set_cons_succ]))
    refine aloneH (i := 4) rfl (by kernel_rfl) (fun K hK => ?_)
    rw [if_pos (by rfl)]
    go_simp; ((refine (HJ.out we HBE.out).mono ?_); (rintro e w1 ⟨B9, c9, rfl, ht9, hn9, hb⟩); have HB1 := Lib.hid hb; have HT9 := Lib.hid (And.intro ht9 hn9); clear hb ht9 hn9; (try go_simp))
    refine hK.out _ _ (⟨cell_on HB1.out hHeld.1, cell_on HB1.out hHeld.2.1, cell_on HB1.out hHeld.2.2⟩) (fun hNew => ?_)
    clear hK K hHeld; (have hHeld := hNew); clear hNew; (try simp only [Act.put, List.setIfInBounds_toArray, List.set_cons_zero, List.set_cons_succ])
    (refine takeH (i := 5) (v := ?_) rfl (by kernel_rfl) (by kernel_rfl) (by kernel_rfl) (fun _ _ _ h => h) (Or.inl ⟨by rfl, ?_⟩) (by assumption) ?_; rotate_left; (focus ((intro wS hSw); (try dsimp only at hSw); obtain ⟨s0, s1, s2⟩ := hSw; go_simp; (try with_reducible rfl); done)); (try simp only [Act.put, List.setIfInBounds_toArray, List.set_cons_zero, List.set_cons_succ]))
    (refine takeH (i := 6) (v := ?_) rfl (by kernel_rfl) (by kernel_rfl) (by kernel_rfl) (fun _ _ _ h => h) (Or.inl ⟨by rfl, ?_⟩) (by assumption) ?_; rotate_left; (focus ((intro wS hSw); (try dsimp only at hSw); obtain ⟨s0, s1, s2⟩ := hSw; go_simp; (try with_reducible rfl); done)); (try simp only [Act.put, List.setIfInBounds_toArray, List.set_cons_zero, List.set_cons_succ]))
    (refine takeH (i := 7) (v := ?_) rfl (by kernel_rfl) (by kernel_rfl) (by kernel_rfl) (fun _ _ _ h => h) (Or.inl ⟨by rfl, ?_⟩) (by assumption) ?_; rotate_left; (focus ((intro wS hSw); (try dsimp only at hSw); obtain ⟨s0, s1, s2⟩ := hSw; go_simp; (try with_reducible rfl); done)); (try simp only [Act.put, List.setIfInBounds_toArray, List.set_cons_zero, List.set_cons_succ]))
    (refine takeH (i := 8) (v := ?_) rfl (by kernel_rfl) (by kernel_rfl) (by kernel_rfl) (fun _ _ _ h => h) (Or.inl ⟨by rfl, ?_⟩) (by assumption) ?_; rotate_left; (focus ((intro wS hSw); (try dsimp only at hSw); obtain ⟨s0, s1, s2⟩ := hSw; go_simp; (try with_reducible rfl); done)); (try simp only [Act.put, List.setIfInBounds_toArray, List.set_cons_zero, List.set_cons_succ]))
    refine wpAnyH_done (by kernel_rfl) ?_ _
    clear hHeld
    go_wp2
    go_ret2
    have e : Y = X := HY.out.symm
    subst e
    exact ⟨B9, c9, rfl, HT9.out.1, HT9.out.2.mono HBE.out.size, HBE.out.trans (HB1.out.mono HBE.out.size)⟩
end Go.Proofs.Ytfjejiapafdgeaa

namespace Go.Proofs.Ytfjejiapafdgeaa
set_option linter.unusedVariables false

/-- as many sectors from one on -/
def someT (S : Nat → Text) (i m : Nat) : List Text := (List.range m).map fun k => S (i + k)
theorem someT_len (S : Nat → Text) (i m : Nat) : (someT S i m).length = m := by simp [someT]
theorem someT_next (S : Nat → Text) (i m : Nat) : someT S i (m + 1) = someT S i m ++ [S (i + m)] := by simp [someT, List.range_succ]
theorem someT_get (S : Nat → Text) (i m k : Nat) (hk : k < (someT S i m).length) : (someT S i m)[k] = S (i + k) := by simp [someT]
theorem someT_cons (S : Nat → Text) (i m : Nat) : someT S i (m + 1) = S i :: someT S (i + 1) m := by
  unfold someT
  rw [List.range_succ_eq_map, List.map_cons, List.map_map]
  simp only [Nat.add_zero, List.cons.injEq, true_and]
  exact List.map_congr_left fun k _ => by simp only [Function.comp]; congr 1; omega
/-- how many sectors a head says -/
def needT (l : Text) : Nat := (needV (lenB l)).toNat
/-- is that, from sector i on, the batch of that number -/
def batchQ (S : Nat → Text) (many i : Nat) (seq : Int) : Bool :=
  decide (i < many) && (isB (S i) && (decide (seqB (S i) = seq) && (decide (i + needT (S i) ≤ many) && (endOk (S (i + needT (S i) - 1)) (seqB (S i)) (sumB (S i)) && joinQ (someT S (i + 1) (needT (S i) - 2)) (seqB (S i)) (lenB (S i)) (sumB (S i))))))
def batchT (S : Nat → Text) (i : Nat) : Text := joinT (someT S (i + 1) (needT (S i) - 2)) (lenB (S i))
def findV (S : Nat → Text) (many : Nat) : Nat → Nat → List Text → List Text × Nat
  | 0, at_, L => (L, at_)
  | f + 1, at_, L => if batchQ S many at_ (L.length + 1 : Nat) = true then findV S many f (at_ + needT (S at_)) (L ++ [batchT S at_]) else (L, at_)
def findT (S : Nat → Text) (many : Nat) : List Text × Nat := findV S many (many + 1) 0 []
theorem need_big {l : Text} (h : isB l = true) : 3 ≤ needT l := by
  have hh : headOk (seqB l) (lenB l) = true := by
    unfold isB at h
    simp only [Bool.and_eq_true] at h
    exact h.1.2
  unfold headOk at hh
  simp only [Bool.and_eq_true, decide_eq_true_eq] at hh
  have h2 := hh.2
  unfold needT
  unfold needV at h2 ⊢
  split at h2
  · omega
  · rename_i hx
    rw [if_neg hx]
    omega
theorem find_next {S : Nat → Text} {many f at_ : Nat} {L : List Text} (h : batchQ S many at_ (L.length + 1 : Nat) = true) : findV S many (f + 1) at_ L = findV S many f (at_ + needT (S at_)) (L ++ [batchT S at_]) := by
  show (if _ then _ else _) = _
  rw [if_pos h]
theorem find_end {S : Nat → Text} {many f at_ : Nat} {L : List Text} (h : batchQ S many at_ (L.length + 1 : Nat) = false) : findV S many f at_ L = (L, at_) := by
  cases f with
  | zero => rfl
  | succ f =>
    show (if _ then _ else _) = _
    rw [if_neg (by rw [h]; decide)]
theorem batch_in {S : Nat → Text} {many i : Nat} {seq : Int} (h : batchQ S many i seq = true) : i < many ∧ isB (S i) = true ∧ seqB (S i) = seq ∧ i + needT (S i) ≤ many ∧ 3 ≤ needT (S i) := by
  unfold batchQ at h
  simp only [Bool.and_eq_true, decide_eq_true_eq] at h
  exact ⟨h.1, h.2.1, h.2.2.1, h.2.2.2.1, need_big h.2.1⟩
end Go.Proofs.Ytfjejiapafdgeaa

namespace Go.Proofs.Ytfjejiapafdgeaa
open Go.RowKit
set_option maxRecDepth 100000
set_option linter.unusedSimpArgs false
set_option linter.unusedVariables false

section
variable {P : Program} {a : Act} {w : World} {Q : Exit → Act → World → Prop} {J0 J1 J2 : Act → World → Prop}
/-- by a goto to one of three labels: what is asked there; else Q -/
def jump3 (J0 J1 J2 : Act → World → Prop) (Q : Exit → Act → World → Prop) : Exit → Act → World → Prop
  | .goto l, a, w => (l = 0 ∧ J0 a w) ∨ (l = 1 ∧ J1 a w) ∨ (l = 2 ∧ J2 a w)
  | e, a, w => Q e a w
theorem jump3_normal : jump3 J0 J1 J2 Q .normal a w = Q .normal a w := rfl
theorem jump3_exit (id : Nat) : jump3 J0 J1 J2 Q (.exit id) a w = Q (.exit id) a w := rfl
theorem jump3_ret : jump3 J0 J1 J2 Q .ret a w = Q .ret a w := rfl
theorem jump3_panic (ch : List PanicEntry) : jump3 J0 J1 J2 Q (.panic ch) a w = Q (.panic ch) a w := rfl
theorem jump3_0 (h : J0 a w) : jump3 J0 J1 J2 Q (.goto 0) a w := .inl ⟨rfl, h⟩
theorem jump3_1 (h : J1 a w) : jump3 J0 J1 J2 Q (.goto 1) a w := .inr (.inl ⟨rfl, h⟩)
theorem jump3_2 (h : J2 a w) : jump3 J0 J1 J2 Q (.goto 2) a w := .inr (.inr ⟨rfl, h⟩)
theorem wp_scope3 {c : Code} (R0 R1 R2 : Nat → Act → World → Prop) {r0 r1 r2 : Code} (h0 : findLabel c 0 = some r0) (h1 : findLabel c 1 = some r1) (h2 : findLabel c 2 = some r2)
    (first : c.wp P (jump3 (fun a w => ∃ m, R0 m a w) (fun a w => ∃ m, R1 m a w) (fun a w => ∃ m, R2 m a w) Q) a w)
    (p0 : ∀ m a w, R0 m a w → r0.wp P (jump3 (fun a' w' => ∃ m', m' < m ∧ R0 m' a' w') (fun a' w' => ∃ m', m' < m ∧ R1 m' a' w') (fun a' w' => ∃ m', m' < m ∧ R2 m' a' w') Q) a w)
    (p1 : ∀ m a w, R1 m a w → r1.wp P (jump3 (fun a' w' => ∃ m', m' < m ∧ R0 m' a' w') (fun a' w' => ∃ m', m' < m ∧ R1 m' a' w') (fun a' w' => ∃ m', m' < m ∧ R2 m' a' w') Q) a w)
    (p2 : ∀ m a w, R2 m a w → r2.wp P (jump3 (fun a' w' => ∃ m', m' < m ∧ R0 m' a' w') (fun a' w' => ∃ m', m' < m ∧ R1 m' a' w') (fun a' w' => ∃ m', m' < m ∧ R2 m' a' w') Q) a w) : (Code.scope c).wp P Q a w := by
  intro b k cs
  have hg : ∀ l rest, findLabel c l = some rest → gotoIn l (.inScope c :: k) = some (.code rest :: .inScope c :: k) := fun l rest h => by simp [gotoIn, h]
  have key : ∀ m l a w, ((l = 0 ∧ R0 m a w) ∨ (l = 1 ∧ R1 m a w) ∨ (l = 2 ∧ R2 m a w)) → ∃ rest, findLabel c l = some rest ∧ ∃ e a' w', Q e a' w' ∧ Arrives P (lone (b.at a (.code rest :: .inScope c :: k)) cs w) b k cs e a' w' := by
    intro m
    induction m using Nat.strongRecOn with
    | _ m ih =>
      intro l a w hR
      obtain ⟨rest, hrest, hwp⟩ : ∃ rest, findLabel c l = some rest ∧ rest.wp P (jump3 (fun a' w' => ∃ m', m' < m ∧ R0 m' a' w') (fun a' w' => ∃ m', m' < m ∧ R1 m' a' w') (fun a' w' => ∃ m', m' < m ∧ R2 m' a' w') Q) a w := by
        rcases hR with ⟨rfl, hR⟩ | ⟨rfl, hR⟩ | ⟨rfl, hR⟩
        · exact ⟨r0, h0, p0 m a w hR⟩
        · exact ⟨r1, h1, p1 m a w hR⟩
        · exact ⟨r2, h2, p2 m a w hR⟩
      refine ⟨rest, hrest, ?_⟩
      obtain ⟨e, a₁, w₁, hq, harr⟩ := hwp b (.inScope c :: k) cs
      cases e with
      | normal => exact ⟨.normal, a₁, w₁, hq, Steps.trans harr (.one step_inScope)⟩
      | exit id => exact ⟨.exit id, a₁, w₁, hq, fun k' hk => harr k' (by simp [exitTo, hk])⟩
      | goto l' =>
        obtain ⟨m', hlt, hR'⟩ : ∃ m', m' < m ∧ ((l' = 0 ∧ R0 m' a₁ w₁) ∨ (l' = 1 ∧ R1 m' a₁ w₁) ∨ (l' = 2 ∧ R2 m' a₁ w₁)) := by
          rcases hq with ⟨e, m', hm, h⟩ | ⟨e, m', hm, h⟩ | ⟨e, m', hm, h⟩
          · exact ⟨m', hm, .inl ⟨e, h⟩⟩
          · exact ⟨m', hm, .inr (.inl ⟨e, h⟩)⟩
          · exact ⟨m', hm, .inr (.inr ⟨e, h⟩)⟩
        obtain ⟨rest', hr', e₂, a₂, w₂, hq₂, harr₂⟩ := ih m' hlt l' a₁ w₁ hR'
        exact ⟨e₂, a₂, w₂, hq₂, .of_steps (harr _ (hg l' rest' hr')) harr₂⟩
      | ret => exact ⟨_, a₁, w₁, hq, harr⟩
      | panic ch => exact ⟨_, a₁, w₁, hq, harr⟩
      | outgrown => exact ⟨_, a₁, w₁, hq, harr⟩
  obtain ⟨e, a₁, w₁, hq, harr⟩ := first b (.inScope c :: k) cs
  cases e with
  | normal => exact ⟨.normal, a₁, w₁, hq, .head step_scope (Steps.trans harr (.one step_inScope))⟩
  | exit id => exact ⟨.exit id, a₁, w₁, hq, fun k' hk => .head step_scope (harr k' (by simp [exitTo, hk]))⟩
  | goto l' =>
    obtain ⟨m', hR'⟩ : ∃ m', ((l' = 0 ∧ R0 m' a₁ w₁) ∨ (l' = 1 ∧ R1 m' a₁ w₁) ∨ (l' = 2 ∧ R2 m' a₁ w₁)) := by
      rcases hq with ⟨e, m', h⟩ | ⟨e, m', h⟩ | ⟨e, m', h⟩
      · exact ⟨m', .inl ⟨e, h⟩⟩
      · exact ⟨m', .inr (.inl ⟨e, h⟩)⟩
      · exact ⟨m', .inr (.inr ⟨e, h⟩)⟩
    obtain ⟨rest', hr', e₂, a₂, w₂, hq₂, harr₂⟩ := key m' l' a₁ w₁ hR'
    exact ⟨e₂, a₂, w₂, hq₂, .of_steps (.head step_scope (harr _ (hg l' rest' hr'))) harr₂⟩
  | ret => exact ⟨_, a₁, w₁, hq, .of_steps (.one step_scope) harr⟩
  | panic ch => exact ⟨_, a₁, w₁, hq, .of_steps (.one step_scope) harr⟩
  | outgrown => exact ⟨_, a₁, w₁, hq, .of_steps (.one step_scope) harr⟩
theorem wp_scope3f {A r4 r5 r6 r7 X Y0 Y1 : Code} (R0 R1 R2 : Nat → Act → World → Prop) (h0 : findLabel (A.seq (r4.seq (r5.seq (r6.seq (r7.seq ((Code.label 2).seq X)))))) 0 = some (Code.skip.seq Y0)) (h1 : findLabel (A.seq (r4.seq (r5.seq (r6.seq (r7.seq ((Code.label 2).seq X)))))) 1 = some (Code.skip.seq Y1)) (h2 : findLabel (A.seq (r4.seq (r5.seq (r6.seq (r7.seq ((Code.label 2).seq X)))))) 2 = some (Code.skip.seq X))
    (first : ∀ Z : Code, (∀ m a w, R2 m a w → Z.wp P (jump3 (fun a w => ∃ m, R0 m a w) (fun a w => ∃ m, R1 m a w) (fun a w => ∃ m, R2 m a w) Q) a w) → (A.seq (r4.seq (r5.seq (r6.seq (r7.seq Z))))).wp P (jump3 (fun a w => ∃ m, R0 m a w) (fun a w => ∃ m, R1 m a w) (fun a w => ∃ m, R2 m a w) Q) a w)
    (p0 : ∀ m a w, R0 m a w → Y0.wp P (jump3 (fun a' w' => ∃ m', m' < m ∧ R0 m' a' w') (fun a' w' => ∃ m', m' < m ∧ R1 m' a' w') (fun a' w' => ∃ m', m' < m ∧ R2 m' a' w') Q) a w)
    (p1 : ∀ m a w, R1 m a w → Y1.wp P (jump3 (fun a' w' => ∃ m', m' < m ∧ R0 m' a' w') (fun a' w' => ∃ m', m' < m ∧ R1 m' a' w') (fun a' w' => ∃ m', m' < m ∧ R2 m' a' w') Q) a w)
    (p2 : ∀ m a w, R2 m a w → X.wp P (jump3 (fun a' w' => ∃ m', m' < m ∧ R0 m' a' w') (fun a' w' => ∃ m', m' < m ∧ R1 m' a' w') (fun a' w' => ∃ m', m' < m ∧ R2 m' a' w') Q) a w) : (Code.scope (A.seq (r4.seq (r5.seq (r6.seq (r7.seq ((Code.label 2).seq X))))))).wp P Q a w :=
  wp_scope3 R0 R1 R2 h0 h1 h2 (first _ fun m a w h => wp_seq (wp_label (wp_mono (p2 m a w h) fun e a w hq => by
    cases e with
    | goto l =>
      rcases hq with ⟨e, m', _, h⟩ | ⟨e, m', _, h⟩ | ⟨e, m', _, h⟩
      · exact .inl ⟨e, m', h⟩
      · exact .inr (.inl ⟨e, m', h⟩)
      · exact .inr (.inr ⟨e, m', h⟩)
    | _ => exact hq)))
    (fun m a w h => wp_seq (wp_skip (p0 m a w h))) (fun m a w h => wp_seq (wp_skip (p1 m a w h))) (fun m a w h => wp_seq (wp_skip (p2 m a w h)))
end

theorem OwnT.head {B : Nat} {v : Value} {L : List Text} {W W' : World} {hb : Nat} {s n u : Int} (h : OwnT B v L W) (hlt : hb < B) (hH : W.heap[hb]? = some (headO s n u)) (hs : W.heap.size ≤ W'.heap.size) (hk : ∀ k, k < W.heap.size → k ≠ hb → W'.heap[k]? = W.heap[k]?) : OwnT B v L W' :=
  h.turn hb hs hk (fun e => by have := (h.base _ e).1; omega) (fun j hj b c xs q1 q2 q3 q4 e => by
    subst e
    have hc := q3 0 (cellOf (L[j][0]'q4)) (by simp [q4])
    unfold headO at hH
    rw [cell_of_row _ _ _ _ _ _ hH] at hc
    simp [cellOf] at hc)
theorem joinX_is {L : List Text} {s n u : Int} (h : joinQ L s n u = true) : joinX L s n u = joinT L n.toNat ∧ (joinT L n.toNat).length = n.toNat ∧ 0 < n.toNat := by
  have hx : joinX L s n u = joinT L n.toNat := by unfold joinX; rw [if_pos h]
  unfold joinQ at h
  simp only [Bool.and_eq_true, decide_eq_true_eq] at h
  have hn := headOk_len h.1.1.1
  have hl : L.flatten.length = 64 * L.length := flat_len L (fun i hi => h.1.2 i hi)
  refine ⟨hx, ?_, by omega⟩
  unfold joinT
  rw [List.length_take, hl, h.1.1.2]
  omega
theorem need_is {l : Text} (h : isB l = true) : needV (lenB l) = (needT l : Int) := by
  have := need_big h
  unfold needT at this ⊢
  omega
theorem someT_mid (S : Nat → Text) (i k : Nat) : midL (someT S i (k + 1)) k = someT S (i + 1) (k - 1) := by
  unfold midL
  refine List.ext_getElem ?_ fun j h1 h2 => ?_
  · rw [List.length_take, List.length_drop, someT_len, someT_len]
    omega
  · rw [List.getElem_take, List.getElem_drop, someT_get, someT_get]
    congr 1
    omega
theorem txt_range {w : World} {b : Nat} {T : Text} (h : Txt w (some ⟨b, 0, none⟩) T) : w.rangeAt b 0 (T.map cellOf) := fun j u hu => by
  have := h.news j u hu
  rwa [Addr.add_mid] at this
theorem OwnT.shape {B : Nat} {v : Value} {L : List Text} {W : World} (h : OwnT B v L W) : ∃ A c, v = .slice A L.length c := by
  obtain ⟨xs, h1, _⟩ := h
  rcases h1.2 with ⟨rfl, h0⟩ | ⟨g, c, cur, rfl, _⟩
  · exact ⟨none, 0, by rw [h0]⟩
  · exact ⟨_, _, rfl⟩
/-- a row grown, blocks below another base but one are as they were -/
theorem ChgD.grow {w a b : World} {hb : Nat} {row : Option Nat} (h : ChgD w a hb hb) (hg : a.grownBy b row) (hr : ∀ k, row = some k → w.heap.size ≤ k) : ChgD w b hb hb :=
  ⟨hg.os.trans h.os, hg.tape.trans h.tape, hg.output.trans h.output, Nat.le_trans h.size hg.size, fun k hk h1 h2 => (hg.block k (Nat.lt_of_lt_of_le hk h.size) (fun e => by have := hr k e.symm; omega)).trans (h.block k hk h1 h2)⟩
theorem ChgD.more {w a b : World} {hb : Nat} (h : ChgD w a hb hb) (k : Below a.heap.size a b) : ChgD w b hb hb := h.trans (ChgD.of_below k)
theorem ChgD.box {w a : World} {hb : Nat} (h : ChgD w a hb hb) (u : Array Value) : ChgD w (a.setRow hb u) hb hb :=
  ⟨h.os, h.tape, h.output, by simpa [World.setRow] using h.size, fun k hk h1 h2 => (setRow_other _ _ _ _ h1).trans (h.block k hk h1 h2)⟩
end Go.Proofs.Ytfjejiapafdgeaa
