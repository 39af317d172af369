/- A batch's sectors told, one by one. An end read; a head read. -/
import Derived.Test.YtfjejiapafdgeaaJ12
import Derived.Laws.EntriesVeiled
import Derived.Test.YtfjejiapafdgeaaJ11
namespace Go.Proofs.Ytfjejiapafdgeaa
open Go.RowKit
set_option maxRecDepth 100000

/-- how many sectors there are, and which -/
def manyC (l : Text) : Nat := (l.length + 63) / 64
def cutsT (l : Text) (k : Nat) : List (Nat × Text) := (List.range k).map fun i => (i, cutT l i)
theorem cutsT_len (l : Text) (k : Nat) : (cutsT l k).length = k := by simp [cutsT]
theorem cutsT_next (l : Text) (k : Nat) : cutsT l (k + 1) = cutsT l k ++ [(k, cutT l k)] := by simp [cutsT, List.range_succ]
def encC (x : Nat × Text) : Array Value := #[.int .i64 x.1, pageV x.2]
def FxC (l : Text) (pre : List (Nat × Text)) (x : Nat × Text) (_ : World) : Prop := pre = cutsT l pre.length ∧ pre.length < manyC l ∧ x = (pre.length, cutT l pre.length)
/-- the batch's bytes, and what the closures hold, are as they were -/
def KpC (b g : Nat) (A C : World) : Prop := C.heap[b]? = A.heap[b]? ∧ C.heap[g]? = A.heap[g]? ∧ C.heap[g + 1]? = A.heap[g + 1]? ∧ A.heap.size ≤ C.heap.size
theorem KpC.trans {b g : Nat} {A B C : World} (h : KpC b g A B) (k : KpC b g B C) : KpC b g A C := ⟨k.1.trans h.1, k.2.1.trans h.2.1, k.2.2.1.trans h.2.2.1, Nat.le_trans h.2.2.2 k.2.2.2⟩
theorem KpC.of_below {b g B : Nat} {A C : World} (h : Below B A C) (hb : b < B) (hg : g + 1 < B) : KpC b g A C := ⟨h.block _ hb, h.block _ (by omega), h.block _ hg, h.size⟩
theorem KpC.txt {b g o : Nat} {A C : World} {l : Text} (h : KpC b g A C) (ht : Txt A (some ⟨b, o, none⟩) l) : Txt C (some ⟨b, o, none⟩) l := fun hn => by
  obtain ⟨a, e, h1, h2⟩ := ht hn
  injection e with e
  subst e
  exact ⟨_, rfl, Nat.lt_of_lt_of_le h1 h.2.2.2, fun i hi => (World.cell?_of_block (by rw [add_block]; exact h.1)).trans (h2 i hi)⟩
/-- what 'cuts' answers -/
def cutsF (g : Nat) : Value := .func (.func 94) #[] #[.pointer (some ⟨g, 0, none⟩), .pointer (some ⟨g + 1, 0, none⟩)]
def cutF (g : Nat) : Value := .func (.func 93) #[] #[.pointer (some ⟨g, 0, none⟩)]
theorem code_cuts (A : Option Addr) (n c : Nat) (w : World) : Calls Try.prog 86 #[.slice A n c] w fun e w' => e = .returned (cutsF w.heap.size) ∧ w'.cell? ⟨w.heap.size, 0, none⟩ = some (.slice A n c) ∧ w'.cell? ⟨w.heap.size + 1, 0, none⟩ = some (cutF w.heap.size) ∧ w'.heap.size = w.heap.size + 2 ∧ Below w.heap.size w w' := by
  have hmf : ∀ (fn : Fn) (first cap : Array Value) (w : World), (Instr.makeFunc fn first cap).run Try.prog w = .ok (.func fn first cap) w := fun _ _ _ _ => rfl
  go_enter Try.func86, Try.ntmps86
  go_wp2
  go_ret
  refine ⟨rfl, ?_, ?_, by simp, below_then (below_alloc w _) (below_alloc _ _)⟩
  · exact cell_on (below_alloc _ _) (by rw [cell_of_row _ _ 0 _ _ _ (heap_alloc_new w _)]; rfl)
  · have := heap_alloc_new (w.alloc (.cells #[.slice A n c] 51)) (.cells #[cutF w.heap.size] 147)
    rw [World.size_alloc] at this
    have h2 := cell_of_row _ _ 0 _ _ _ this
    unfold cutF at h2 ⊢
    rw [h2]
    rfl
theorem fx_next (l : Text) (k : Nat) (h : k < manyC l) {W : World} : FxC l (cutsT l k) (k, cutT l k) W := by
  unfold FxC
  rw [cutsT_len]
  exact ⟨rfl, h, rfl⟩
set_option maxHeartbeats 2000000 in
theorem cuts_told (w : World) (g b o c : Nat) (l : Text) (hl : l.length ≤ 131072) (hc : l.length ≤ c) (hb : b < w.heap.size) (hT : Txt w (some ⟨b, o, none⟩) l)
    (h0 : w.cell? ⟨g, 0, none⟩ = some (.slice (some ⟨b, o, none⟩) l.length c)) (h1 : w.cell? ⟨g + 1, 0, none⟩ = some (cutF g)) :
    SeqTold Try.prog 94 #[.pointer (some ⟨g, 0, none⟩), .pointer (some ⟨g + 1, 0, none⟩)] encC (FxC l) (KpC b g) (fun xs => xs = cutsT l (manyC l)) (fun _ => True) w := by
  intro y J Jx W hbW hJ hJx hY hJ0
  have H0 := Lib.hid (cell_on hbW h0)
  have H1 := Lib.hid (cell_on hbW h1)
  have HT := Lib.hid (hT.below hbW)
  have c0 := cell_on hbW h0
  have HGB : Hid (b < W.heap.size ∧ g + 1 < W.heap.size) := Lib.hid ⟨Nat.lt_of_lt_of_le hb hbW.size, block_lt_of_cell (a := ⟨g + 1, 0, none⟩) H1.out⟩
  have HC : Hid (∀ W i, 64 * i < l.length → Txt W (some ⟨b, o, none⟩) l → W.cell? ⟨g, 0, none⟩ = some (.slice (some ⟨b, o, none⟩) l.length c) → Calls Try.prog 93 #[.int .i64 i, .pointer (some ⟨g, 0, none⟩)] W fun e w' => e = .returned (pageV (cutT l i)) ∧ Below W.heap.size W w') :=
    Lib.hid (fun W i hi hT hG => code_cut l b o c g i W hi (by omega) hc hT hG)
  have HN : Hid (∀ W, Calls Try.prog 72 #[.int .i64 l.length] W fun e w' => e = .returned (.int .i64 (manyC l : Nat)) ∧ W = w') := Lib.hid (fun W => (code_between l.length W (by omega) (by omega)).mono fun e w' ⟨x, y⟩ => ⟨by rw [x]; unfold manyC; congr 2, y⟩)
  have HJ := Lib.hid hJ
  have HY := Lib.hid hY
  have HJ0 := Lib.hid hJ0
  have HM : Hid (∀ k, k < manyC l → 64 * k < l.length) := Lib.hid (fun k hk => by unfold manyC at hk; omega)
  have im : (manyC l : Int) ≤ 2048 := by unfold manyC; omega
  clear hJ hJx hY hJ0 hbW h0 h1 hT hb hl hc
  refine callsIn_wide.1 (callsIn_of_wp (n := 2) (F := Fence.wide) Try.func94 rfl trivial ?_ rfl)
  simp only [Try.ntmps94, List.size_toArray, List.length_cons, List.length_nil, Nat.reduceAdd, Nat.reduceSub, Array.replicate_succ, Array.replicate_zero, List.push_toArray, List.append_toArray, List.nil_append, List.cons_append]
  gi_wp2_with (refine ⟨trivial, ?_⟩; gi_at_call 72; refine (callsIn_wide.2 (HN.out _)).mono ?_; rintro e w1 ⟨rfl, rfl⟩)
  clear c0
  gi_loopw [8] (fun i wr => ∃ k : Nat, k ≤ manyC l ∧ i = .int .i64 k ∧ Hid (J (cutsT l k) wr) ∧ Hid (KpC b g W wr)) (fun i _ => manyC l - (intOf i).toNat)
  case atStart => exact ⟨0, Nat.zero_le _, rfl, HJ0, Lib.hid ⟨rfl, rfl, rfl, Nat.le_refl _⟩⟩
  case round =>
    obtain ⟨k, hk, rfl, HJp, HK⟩ := hrel
    by_cases hlt : k < manyC l
    · have c0 := (World.cell?_of_block (a := ⟨g, 0, none⟩) HK.out.2.1).trans H0.out
      have c1 := (World.cell?_of_block (a := ⟨g + 1, 0, none⟩) HK.out.2.2.1).trans H1.out
      unfold cutF at c1
      have hlt' : (k : Int) < (manyC l : Int) := by omega
      gi_wp2_with (refine ⟨trivial, ?_⟩; gi_at_call 93; refine (callsIn_wide.2 (HC.out wr k (HM.out k hlt) (HK.out.txt HT.out) c0)).mono ?_; rintro e w2 ⟨rfl, hb2⟩; have HB2 := Lib.hid hb2; clear hb2; obtain ⟨fn, tmps, assign, body, hy, hR⟩ := HY.out (cutsT l k) (k, cutT l k) w2 (HJ.out _ _ _ HJp.out HB2.out) (fx_next l k hlt); dsimp only [encC] at hy; have HR := Lib.hid hR; clear hR)
      refine HR.out.mono ?_
      rintro e W3 (⟨rfl, hJ3, hk3⟩ | ⟨rfl, hJx3⟩)
      · have HJ3 := Lib.hid hJ3
        have HK3 := Lib.hid ((HK.out.trans (KpC.of_below HB2.out (Nat.lt_of_lt_of_le HGB.out.1 HK.out.2.2.2) (Nat.lt_of_lt_of_le HGB.out.2 HK.out.2.2.2))).trans hk3)
        clear hJ3 hk3 hy
        gi_wp2
        go_roundw
        case rel => exact ⟨k + 1, by omega, by simp, by rw [cutsT_next]; exact HJ3, HK3⟩
        case measure => simp [intOf]; omega
      · have HJ3 := Lib.hid hJx3
        clear hJx3 hy
        gi_wp2
        refine bodyPost_ret (results_none rfl _ _ _) rfl ?_
        exact ⟨⟨_, rfl⟩, .inr ⟨_, trivial, HJ3.out⟩⟩
    · obtain rfl : k = manyC l := by omega
      gi_wp2
      go_end0
      exact ⟨⟨_, rfl⟩, .inl ⟨_, rfl, HJp.out⟩⟩
end Go.Proofs.Ytfjejiapafdgeaa

namespace Go.Proofs.Ytfjejiapafdgeaa
open Go.RowKit
set_option maxRecDepth 100000

/-- is a sector the end of a batch? -/
def endOk (l : Text) (s u : Int) : Bool := decide (l.length = 64) && seqOk s && decide (l = endP s.toNat u.toNat)
theorem seqOk_iff (s : Int) : seqOk s = true ↔ 1 ≤ s ∧ s ≤ 4611686018427387904 := by simp [seqOk]
set_option maxHeartbeats 2000000 in
theorem code_end_no (l : Text) (A : Option Addr) (c : Nat) (s n u : Int) (w : World) (hl : l.length ≠ 64) :
    Calls Try.prog 73 #[.slice A l.length c, headV s n u] w fun e w' => e = .returned (.bool (endOk l s u)) ∧ Below w.heap.size w w' := by
  have hv : endOk l s u = false := by simp [endOk, hl]
  rw [hv]
  have HP : Hid (∀ W, Calls Try.prog 68 #[.slice A l.length c] W fun e w' => e = .returned (.bool false) ∧ W = w') := Lib.hid (fun W => by have := code_isPage A l.length c W; rwa [decide_eq_false hl] at this)
  have HBW : Hid (Below w.heap.size w (w.alloc (headO s n u))) := Lib.hid (below_alloc w _)
  have HH : Hid ((w.alloc (headO s n u)).heap[w.heap.size]? = some (headO s n u)) := Lib.hid (heap_alloc_new w _)
  clear hl hv
  unfold headV
  go_enter Try.func73, Try.ntmps73
  go_wp2
  unfold headO at HBW HH
  generalize (w.alloc (.cells #[.int .i64 s, .int .i64 n, .int .u32 u] 96)) = wb at HBW HH ⊢
  refine wp_region_held_drew (S := fun W => W.cell? ⟨w.heap.size, 0, none⟩ = some (.int .i64 s) ∧ W.cell? ⟨w.heap.size, 1, none⟩ = some (.int .i64 n) ∧ W.cell? ⟨w.heap.size, 2, none⟩ = some (.int .u32 u)) (by kernel_rfl) (head_cells (w := wb) HH.out) ?_
  intro hHeld
  have HBD := Lib.hid HBW.out.drew
  clear HBW HH
  generalize wb.drew = w0 at HBD hHeld ⊢
  (refine takeH (i := 0) (v := ?_) rfl (by kernel_rfl) (by kernel_rfl) (by kernel_rfl) (fun _ _ _ h => h) (Or.inl ⟨by rfl, ?_⟩) (by assumption) ?_; rotate_left; (focus ((intro wS hSw); (try dsimp only at hSw); obtain ⟨s0, s1, s2⟩ := hSw; go_simp; (try with_reducible rfl); done)); (try simp only [Act.put, List.setIfInBounds_toArray, List.set_cons_zero, List.set_cons_succ]))
  refine aloneH (i := 1) rfl (by kernel_rfl) (fun K hK => ?_)
  rw [if_pos (by rfl)]
  go_simp; ((refine (HP.out w0).mono ?_); (rintro e w1 ⟨rfl, rfl⟩); (try go_simp))
  have HB1 : Hid (Below w0.heap.size w0 w0) := Lib.hid (Below.refl _ _)
  refine hK.out _ _ (hHeld) (fun hNew => ?_)
  clear hK K hHeld; (have hHeld := hNew); clear hNew; (try simp only [Act.put, List.setIfInBounds_toArray, List.set_cons_zero, List.set_cons_succ])
  (refine takeH (i := 2) (v := ?_) rfl (by kernel_rfl) (by kernel_rfl) (by kernel_rfl) (fun _ _ _ h => h) (Or.inl ⟨by rfl, ?_⟩) (by assumption) ?_; rotate_left; (focus ((intro wS hSw); (try dsimp only at hSw); obtain ⟨s0, s1, s2⟩ := hSw; go_simp; (try with_reducible rfl); done)); (try simp only [Act.put, List.setIfInBounds_toArray, List.set_cons_zero, List.set_cons_succ]))
  (refine takeH (i := 3) (v := undef) rfl (by kernel_rfl) (by kernel_rfl) (by kernel_rfl) (fun _ _ _ h => h) (Or.inr ⟨by rfl, rfl⟩) (by assumption) ?_; (try simp only [Act.put, List.setIfInBounds_toArray, List.set_cons_zero, List.set_cons_succ]))
  (refine takeH (i := 4) (v := undef) rfl (by kernel_rfl) (by kernel_rfl) (by kernel_rfl) (fun _ _ _ h => h) (Or.inr ⟨by rfl, rfl⟩) (by assumption) ?_; (try simp only [Act.put, List.setIfInBounds_toArray, List.set_cons_zero, List.set_cons_succ]))
  (refine takeH (i := 5) (v := undef) rfl (by kernel_rfl) (by kernel_rfl) (by kernel_rfl) (fun _ _ _ h => h) (Or.inr ⟨by rfl, rfl⟩) (by assumption) ?_; (try simp only [Act.put, List.setIfInBounds_toArray, List.set_cons_zero, List.set_cons_succ]))
  (refine takeH (i := 6) (v := ?_) rfl (by kernel_rfl) (by kernel_rfl) (by kernel_rfl) (fun _ _ _ h => h) (Or.inl ⟨by rfl, ?_⟩) (by assumption) ?_; rotate_left; (focus ((intro wS hSw); (try dsimp only at hSw); obtain ⟨s0, s1, s2⟩ := hSw; go_simp; (try with_reducible rfl); done)); (try simp only [Act.put, List.setIfInBounds_toArray, List.set_cons_zero, List.set_cons_succ]))
  (refine takeH (i := 7) (v := ?_) rfl (by kernel_rfl) (by kernel_rfl) (by kernel_rfl) (fun _ _ _ h => h) (Or.inl ⟨by rfl, ?_⟩) (by assumption) ?_; rotate_left; (focus ((intro wS hSw); (try dsimp only at hSw); obtain ⟨s0, s1, s2⟩ := hSw; go_simp; (try with_reducible rfl); done)); (try simp only [Act.put, List.setIfInBounds_toArray, List.set_cons_zero, List.set_cons_succ]))
  (refine takeH (i := 8) (v := undef) rfl (by kernel_rfl) (by kernel_rfl) (by kernel_rfl) (fun _ _ _ h => h) (Or.inr ⟨by rfl, rfl⟩) (by assumption) ?_; (try simp only [Act.put, List.setIfInBounds_toArray, List.set_cons_zero, List.set_cons_succ]))
  (refine takeH (i := 9) (v := undef) rfl (by kernel_rfl) (by kernel_rfl) (by kernel_rfl) (fun _ _ _ h => h) (Or.inr ⟨by rfl, rfl⟩) (by assumption) ?_; (try simp only [Act.put, List.setIfInBounds_toArray, List.set_cons_zero, List.set_cons_succ]))
  (refine takeH (i := 10) (v := undef) rfl (by kernel_rfl) (by kernel_rfl) (by kernel_rfl) (fun _ _ _ h => h) (Or.inr ⟨by rfl, rfl⟩) (by assumption) ?_; (try simp only [Act.put, List.setIfInBounds_toArray, List.set_cons_zero, List.set_cons_succ]))
  (refine takeH (i := 11) (v := undef) rfl (by kernel_rfl) (by kernel_rfl) (by kernel_rfl) (fun _ _ _ h => h) (Or.inr ⟨by rfl, rfl⟩) (by assumption) ?_; (try simp only [Act.put, List.setIfInBounds_toArray, List.set_cons_zero, List.set_cons_succ]))
  (refine takeH (i := 12) (v := undef) rfl (by kernel_rfl) (by kernel_rfl) (by kernel_rfl) (fun _ _ _ h => h) (Or.inr ⟨by rfl, rfl⟩) (by assumption) ?_; (try simp only [Act.put, List.setIfInBounds_toArray, List.set_cons_zero, List.set_cons_succ]))
  (refine takeH (i := 13) (v := undef) rfl (by kernel_rfl) (by kernel_rfl) (by kernel_rfl) (fun _ _ _ h => h) (Or.inr ⟨by rfl, rfl⟩) (by assumption) ?_; (try simp only [Act.put, List.setIfInBounds_toArray, List.set_cons_zero, List.set_cons_succ]))
  (refine takeH (i := 14) (v := ?_) rfl (by kernel_rfl) (by kernel_rfl) (by kernel_rfl) (fun _ _ _ h => h) (Or.inl ⟨by rfl, ?_⟩) (by assumption) ?_; rotate_left; (focus ((intro wS hSw); (try dsimp only at hSw); obtain ⟨s0, s1, s2⟩ := hSw; go_simp; (try with_reducible rfl); done)); (try simp only [Act.put, List.setIfInBounds_toArray, List.set_cons_zero, List.set_cons_succ]))
  (refine takeH (i := 15) (v := ?_) rfl (by kernel_rfl) (by kernel_rfl) (by kernel_rfl) (fun _ _ _ h => h) (Or.inl ⟨by rfl, ?_⟩) (by assumption) ?_; rotate_left; (focus ((intro wS hSw); (try dsimp only at hSw); obtain ⟨s0, s1, s2⟩ := hSw; go_simp; (try with_reducible rfl); done)); (try simp only [Act.put, List.setIfInBounds_toArray, List.set_cons_zero, List.set_cons_succ]))
  refine wpAnyH_done (by kernel_rfl) ?_ _
  go_wp2
  go_ret
  exact ⟨rfl, HBD.out.trans (HB1.out.mono HBD.out.size)⟩
set_option maxHeartbeats 2000000 in
theorem code_end_seq (l : Text) (A : Option Addr) (c : Nat) (s n u : Int) (w : World) (hl : l.length = 64) (hs : seqOk s = false) :
    Calls Try.prog 73 #[.slice A l.length c, headV s n u] w fun e w' => e = .returned (.bool (endOk l s u)) ∧ Below w.heap.size w w' := by
  have hv : endOk l s u = false := by simp [endOk, hs]
  rw [hv]
  have HP : Hid (∀ W, Calls Try.prog 68 #[.slice A l.length c] W fun e w' => e = .returned (.bool true) ∧ W = w') := Lib.hid (fun W => by have := code_isPage A l.length c W; rwa [decide_eq_true hl] at this)
  have HQ : Hid (∀ W, Calls Try.prog 87 #[.int .i64 s] W fun e w' => e = .returned (.bool false) ∧ W = w') := Lib.hid (fun W => by have := code_isSeq s W; rwa [hs] at this)
  have HBW : Hid (Below w.heap.size w (w.alloc (headO s n u))) := Lib.hid (below_alloc w _)
  have HH : Hid ((w.alloc (headO s n u)).heap[w.heap.size]? = some (headO s n u)) := Lib.hid (heap_alloc_new w _)
  clear hl hv hs
  unfold headV
  go_enter Try.func73, Try.ntmps73
  go_wp2
  unfold headO at HBW HH
  generalize (w.alloc (.cells #[.int .i64 s, .int .i64 n, .int .u32 u] 96)) = wb at HBW HH ⊢
  refine wp_region_held_drew (S := fun W => W.cell? ⟨w.heap.size, 0, none⟩ = some (.int .i64 s) ∧ W.cell? ⟨w.heap.size, 1, none⟩ = some (.int .i64 n) ∧ W.cell? ⟨w.heap.size, 2, none⟩ = some (.int .u32 u)) (by kernel_rfl) (head_cells (w := wb) HH.out) ?_
  intro hHeld
  have HBD := Lib.hid HBW.out.drew
  clear HBW HH
  generalize wb.drew = w0 at HBD hHeld ⊢
  (refine takeH (i := 0) (v := ?_) rfl (by kernel_rfl) (by kernel_rfl) (by kernel_rfl) (fun _ _ _ h => h) (Or.inl ⟨by rfl, ?_⟩) (by assumption) ?_; rotate_left; (focus ((intro wS hSw); (try dsimp only at hSw); obtain ⟨s0, s1, s2⟩ := hSw; go_simp; (try with_reducible rfl); done)); (try simp only [Act.put, List.setIfInBounds_toArray, List.set_cons_zero, List.set_cons_succ]))
  refine aloneH (i := 1) rfl (by kernel_rfl) (fun K hK => ?_)
  rw [if_pos (by rfl)]
  go_simp; ((refine (HP.out w0).mono ?_); (rintro e w1 ⟨rfl, rfl⟩); (try go_simp))
  have HB1 : Hid (Below w0.heap.size w0 w0) := Lib.hid (Below.refl _ _)
  refine hK.out _ _ (hHeld) (fun hNew => ?_)
  clear hK K hHeld; (have hHeld := hNew); clear hNew; (try simp only [Act.put, List.setIfInBounds_toArray, List.set_cons_zero, List.set_cons_succ])
  (refine takeH (i := 2) (v := ?_) rfl (by kernel_rfl) (by kernel_rfl) (by kernel_rfl) (fun _ _ _ h => h) (Or.inl ⟨by rfl, ?_⟩) (by assumption) ?_; rotate_left; (focus ((intro wS hSw); (try dsimp only at hSw); obtain ⟨s0, s1, s2⟩ := hSw; go_simp; (try with_reducible rfl); done)); (try simp only [Act.put, List.setIfInBounds_toArray, List.set_cons_zero, List.set_cons_succ]))
  (refine takeH (i := 3) (v := ?_) rfl (by kernel_rfl) (by kernel_rfl) (by kernel_rfl) (fun _ _ _ h => h) (Or.inl ⟨by rfl, ?_⟩) (by assumption) ?_; rotate_left; (focus ((intro wS hSw); (try dsimp only at hSw); obtain ⟨s0, s1, s2⟩ := hSw; go_simp; (try with_reducible rfl); done)); (try simp only [Act.put, List.setIfInBounds_toArray, List.set_cons_zero, List.set_cons_succ]))
  (refine takeH (i := 4) (v := ?_) rfl (by kernel_rfl) (by kernel_rfl) (by kernel_rfl) (fun _ _ _ h => h) (Or.inl ⟨by rfl, ?_⟩) (by assumption) ?_; rotate_left; (focus ((intro wS hSw); (try dsimp only at hSw); obtain ⟨s0, s1, s2⟩ := hSw; go_simp; (try with_reducible rfl); done)); (try simp only [Act.put, List.setIfInBounds_toArray, List.set_cons_zero, List.set_cons_succ]))
  refine aloneH (i := 5) rfl (by kernel_rfl) (fun K hK => ?_)
  rw [if_pos (by rfl)]
  go_simp; ((refine (HQ.out w0).mono ?_); (rintro e w2 ⟨rfl, rfl⟩); (try go_simp))
  have HB2 : Hid (Below w0.heap.size w0 w0) := Lib.hid (Below.refl _ _)
  refine hK.out _ _ (hHeld) (fun hNew => ?_)
  clear hK K hHeld; (have hHeld := hNew); clear hNew; (try simp only [Act.put, List.setIfInBounds_toArray, List.set_cons_zero, List.set_cons_succ])
  (refine takeH (i := 6) (v := ?_) rfl (by kernel_rfl) (by kernel_rfl) (by kernel_rfl) (fun _ _ _ h => h) (Or.inl ⟨by rfl, ?_⟩) (by assumption) ?_; rotate_left; (focus ((intro wS hSw); (try dsimp only at hSw); obtain ⟨s0, s1, s2⟩ := hSw; go_simp; (try with_reducible rfl); done)); (try simp only [Act.put, List.setIfInBounds_toArray, List.set_cons_zero, List.set_cons_succ]))
  (refine takeH (i := 7) (v := ?_) rfl (by kernel_rfl) (by kernel_rfl) (by kernel_rfl) (fun _ _ _ h => h) (Or.inl ⟨by rfl, ?_⟩) (by assumption) ?_; rotate_left; (focus ((intro wS hSw); (try dsimp only at hSw); obtain ⟨s0, s1, s2⟩ := hSw; go_simp; (try with_reducible rfl); done)); (try simp only [Act.put, List.setIfInBounds_toArray, List.set_cons_zero, List.set_cons_succ]))
  (refine takeH (i := 8) (v := undef) rfl (by kernel_rfl) (by kernel_rfl) (by kernel_rfl) (fun _ _ _ h => h) (Or.inr ⟨by rfl, rfl⟩) (by assumption) ?_; (try simp only [Act.put, List.setIfInBounds_toArray, List.set_cons_zero, List.set_cons_succ]))
  (refine takeH (i := 9) (v := undef) rfl (by kernel_rfl) (by kernel_rfl) (by kernel_rfl) (fun _ _ _ h => h) (Or.inr ⟨by rfl, rfl⟩) (by assumption) ?_; (try simp only [Act.put, List.setIfInBounds_toArray, List.set_cons_zero, List.set_cons_succ]))
  (refine takeH (i := 10) (v := undef) rfl (by kernel_rfl) (by kernel_rfl) (by kernel_rfl) (fun _ _ _ h => h) (Or.inr ⟨by rfl, rfl⟩) (by assumption) ?_; (try simp only [Act.put, List.setIfInBounds_toArray, List.set_cons_zero, List.set_cons_succ]))
  (refine takeH (i := 11) (v := undef) rfl (by kernel_rfl) (by kernel_rfl) (by kernel_rfl) (fun _ _ _ h => h) (Or.inr ⟨by rfl, rfl⟩) (by assumption) ?_; (try simp only [Act.put, List.setIfInBounds_toArray, List.set_cons_zero, List.set_cons_succ]))
  (refine takeH (i := 12) (v := undef) rfl (by kernel_rfl) (by kernel_rfl) (by kernel_rfl) (fun _ _ _ h => h) (Or.inr ⟨by rfl, rfl⟩) (by assumption) ?_; (try simp only [Act.put, List.setIfInBounds_toArray, List.set_cons_zero, List.set_cons_succ]))
  (refine takeH (i := 13) (v := undef) rfl (by kernel_rfl) (by kernel_rfl) (by kernel_rfl) (fun _ _ _ h => h) (Or.inr ⟨by rfl, rfl⟩) (by assumption) ?_; (try simp only [Act.put, List.setIfInBounds_toArray, List.set_cons_zero, List.set_cons_succ]))
  (refine takeH (i := 14) (v := ?_) rfl (by kernel_rfl) (by kernel_rfl) (by kernel_rfl) (fun _ _ _ h => h) (Or.inl ⟨by rfl, ?_⟩) (by assumption) ?_; rotate_left; (focus ((intro wS hSw); (try dsimp only at hSw); obtain ⟨s0, s1, s2⟩ := hSw; go_simp; (try with_reducible rfl); done)); (try simp only [Act.put, List.setIfInBounds_toArray, List.set_cons_zero, List.set_cons_succ]))
  (refine takeH (i := 15) (v := ?_) rfl (by kernel_rfl) (by kernel_rfl) (by kernel_rfl) (fun _ _ _ h => h) (Or.inl ⟨by rfl, ?_⟩) (by assumption) ?_; rotate_left; (focus ((intro wS hSw); (try dsimp only at hSw); obtain ⟨s0, s1, s2⟩ := hSw; go_simp; (try with_reducible rfl); done)); (try simp only [Act.put, List.setIfInBounds_toArray, List.set_cons_zero, List.set_cons_succ]))
  refine wpAnyH_done (by kernel_rfl) ?_ _
  go_wp2
  go_ret
  exact ⟨rfl, HBD.out.trans ((below_then HB1.out HB2.out).mono HBD.out.size)⟩
set_option maxHeartbeats 2000000 in
theorem code_end_yes (l : Text) (A : Option Addr) (c : Nat) (s n u : Int) (w : World) (hT : Txt w A l) (hl : l.length = 64) (hs : seqOk s = true) (hu : 0 ≤ u ∧ u < 4294967296) :
    Calls Try.prog 73 #[.slice A l.length c, headV s n u] w fun e w' => e = .returned (.bool (endOk l s u)) ∧ Below w.heap.size w w' := by
  obtain ⟨b, o, rfl, hb, hr⟩ := txt_mid hT (by intro e; subst e; simp at hl)
  obtain ⟨q, hq⟩ : ∃ q, decide (l = endP s.toNat u.toNat) = q := ⟨_, rfl⟩
  have HQQ := Lib.hid hq
  have hv : endOk l s u = q := by simp [endOk, hs, hl, hq]
  rw [hv]
  have HL := Lib.hid hl
  have HP : Hid (∀ W, Calls Try.prog 68 #[.slice (some ⟨b, o, none⟩) 64 c] W fun e w' => e = .returned (.bool true) ∧ W = w') := Lib.hid (fun W => by have := code_isPage (some ⟨b, o, none⟩) l.length c W; rwa [decide_eq_true hl, hl] at this)
  have HQ : Hid (∀ W, Calls Try.prog 87 #[.int .i64 s] W fun e w' => e = .returned (.bool true) ∧ W = w') := Lib.hid (fun W => by have := code_isSeq s W; rwa [hs] at this)
  have HE : Hid (∀ W, Calls Try.prog 85 #[headV s n u] W fun e w' => e = .returned (pageV (endP s.toNat u.toNat)) ∧ Below W.heap.size W w') := Lib.hid (fun W => by
    obtain ⟨s1, s2⟩ := (seqOk_iff s).1 hs
    obtain ⟨S, rfl⟩ : ∃ S : Nat, s = S := ⟨s.toNat, by omega⟩
    obtain ⟨U, rfl⟩ : ∃ U : Nat, u = U := ⟨u.toNat, by omega⟩
    exact code_endPage S U n W (by omega) (by omega))
  unfold headV at HE
  have hsa := fun w => array_at pageT (some ⟨b, o, none⟩) c w
  have HRW : Hid ((w.alloc (headO s n u)).rangeAt b o (l.map cellOf)) := Lib.hid (range_on (below_alloc w _) hr)
  have HBW : Hid (Below w.heap.size w (w.alloc (headO s n u))) := Lib.hid (below_alloc w _)
  have HH : Hid ((w.alloc (headO s n u)).heap[w.heap.size]? = some (headO s n u)) := Lib.hid (heap_alloc_new w _)
  clear hT hv hs hq hr hu
  rw [hl]
  clear hl
  unfold headV
  go_enter Try.func73, Try.ntmps73
  go_wp2
  unfold headO at HBW HH HRW
  generalize (w.alloc (.cells #[.int .i64 s, .int .i64 n, .int .u32 u] 96)) = wb at HBW HH HRW ⊢
  refine wp_region_held_drew (S := fun W => W.cell? ⟨w.heap.size, 0, none⟩ = some (.int .i64 s) ∧ W.cell? ⟨w.heap.size, 1, none⟩ = some (.int .i64 n) ∧ W.cell? ⟨w.heap.size, 2, none⟩ = some (.int .u32 u) ∧ W.rangeAt b o (l.map cellOf)) (by kernel_rfl) (let h := head_cells (w := wb) HH.out; ⟨h.1, h.2.1, h.2.2, HRW.out⟩) ?_
  intro hHeld
  have HBD := Lib.hid HBW.out.drew
  clear HBW HH HRW
  generalize wb.drew = w0 at HBD hHeld ⊢
  (refine takeH (i := 0) (v := ?_) rfl (by kernel_rfl) (by kernel_rfl) (by kernel_rfl) (fun _ _ _ h => h) (Or.inl ⟨by rfl, ?_⟩) (by assumption) ?_; rotate_left; (focus ((intro wS hSw); (try dsimp only at hSw); obtain ⟨s0, s1, s2, s3⟩ := hSw; go_simp; (try with_reducible rfl); done)); (try simp only [Act.put, List.setIfInBounds_toArray, List.set_cons_zero, List.set_cons_succ]))
  refine aloneH (i := 1) rfl (by kernel_rfl) (fun K hK => ?_)
  rw [if_pos (by rfl)]
  go_simp; ((refine (HP.out w0).mono ?_); (rintro e w1 ⟨rfl, rfl⟩); (try go_simp))
  have HB1 : Hid (Below w0.heap.size w0 w0) := Lib.hid (Below.refl _ _)
  refine hK.out _ _ (hHeld) (fun hNew => ?_)
  clear hK K hHeld; (have hHeld := hNew); clear hNew; (try simp only [Act.put, List.setIfInBounds_toArray, List.set_cons_zero, List.set_cons_succ])
  (refine takeH (i := 2) (v := ?_) rfl (by kernel_rfl) (by kernel_rfl) (by kernel_rfl) (fun _ _ _ h => h) (Or.inl ⟨by rfl, ?_⟩) (by assumption) ?_; rotate_left; (focus ((intro wS hSw); (try dsimp only at hSw); obtain ⟨s0, s1, s2, s3⟩ := hSw; go_simp; (try with_reducible rfl); done)); (try simp only [Act.put, List.setIfInBounds_toArray, List.set_cons_zero, List.set_cons_succ]))
  (refine takeH (i := 3) (v := ?_) rfl (by kernel_rfl) (by kernel_rfl) (by kernel_rfl) (fun _ _ _ h => h) (Or.inl ⟨by rfl, ?_⟩) (by assumption) ?_; rotate_left; (focus ((intro wS hSw); (try dsimp only at hSw); obtain ⟨s0, s1, s2, s3⟩ := hSw; go_simp; (try with_reducible rfl); done)); (try simp only [Act.put, List.setIfInBounds_toArray, List.set_cons_zero, List.set_cons_succ]))
  (refine takeH (i := 4) (v := ?_) rfl (by kernel_rfl) (by kernel_rfl) (by kernel_rfl) (fun _ _ _ h => h) (Or.inl ⟨by rfl, ?_⟩) (by assumption) ?_; rotate_left; (focus ((intro wS hSw); (try dsimp only at hSw); obtain ⟨s0, s1, s2, s3⟩ := hSw; go_simp; (try with_reducible rfl); done)); (try simp only [Act.put, List.setIfInBounds_toArray, List.set_cons_zero, List.set_cons_succ]))
  refine aloneH (i := 5) rfl (by kernel_rfl) (fun K hK => ?_)
  rw [if_pos (by rfl)]
  go_simp; ((refine (HQ.out w0).mono ?_); (rintro e w2 ⟨rfl, rfl⟩); (try go_simp))
  have HB2 : Hid (Below w0.heap.size w0 w0) := Lib.hid (Below.refl _ _)
  refine hK.out _ _ (hHeld) (fun hNew => ?_)
  clear hK K hHeld; (have hHeld := hNew); clear hNew; (try simp only [Act.put, List.setIfInBounds_toArray, List.set_cons_zero, List.set_cons_succ])
  (refine takeH (i := 6) (v := ?_) rfl (by kernel_rfl) (by kernel_rfl) (by kernel_rfl) (fun _ _ _ h => h) (Or.inl ⟨by rfl, ?_⟩) (by assumption) ?_; rotate_left; (focus ((intro wS hSw); (try dsimp only at hSw); obtain ⟨s0, s1, s2, s3⟩ := hSw; go_simp; (try with_reducible rfl); done)); (try simp only [Act.put, List.setIfInBounds_toArray, List.set_cons_zero, List.set_cons_succ]))
  (refine takeH (i := 7) (v := ?_) rfl (by kernel_rfl) (by kernel_rfl) (by kernel_rfl) (fun _ _ _ h => h) (Or.inl ⟨by rfl, ?_⟩) (by assumption) ?_; rotate_left; (focus ((intro wS hSw); (try dsimp only at hSw); obtain ⟨s0, s1, s2, s3⟩ := hSw; go_simp; (try with_reducible rfl); done)); (try simp only [Act.put, List.setIfInBounds_toArray, List.set_cons_zero, List.set_cons_succ]))
  (refine takeH (i := 8) (v := ?_) rfl (by kernel_rfl) (by kernel_rfl) (by kernel_rfl) (fun _ _ _ h => h) (Or.inl ⟨by rfl, ?_⟩) (by assumption) ?_; rotate_left; (focus ((intro wS hSw); (try dsimp only at hSw); obtain ⟨s0, s1, s2, s3⟩ := hSw; go_simp; (try with_reducible rfl); done)); (try simp only [Act.put, List.setIfInBounds_toArray, List.set_cons_zero, List.set_cons_succ]))
  (refine takeH (i := 9) (v := ?_) rfl (by kernel_rfl) (by kernel_rfl) (by kernel_rfl) (fun _ _ _ h => h) (Or.inl ⟨by rfl, ?_⟩) (by assumption) ?_; rotate_left; (focus ((intro wS hSw); (try dsimp only at hSw); obtain ⟨s0, s1, s2, s3⟩ := hSw; go_simp; (try with_reducible rfl); done)); (try simp only [Act.put, List.setIfInBounds_toArray, List.set_cons_zero, List.set_cons_succ]))
  (refine takeH (i := 10) (v := pageV l) rfl (by kernel_rfl) (by kernel_rfl) (by kernel_rfl) (fun _ _ _ h => h) (yieldsIf_load_pageM pageT (by rfl) (.tmp 14) rfl b o rfl l HL.out (fun _ h => h.2.2.2)) (by assumption) ?_; (try simp only [Act.put, List.setIfInBounds_toArray, List.set_cons_zero, List.set_cons_succ]))
  (refine takeH (i := 11) (v := ?_) rfl (by kernel_rfl) (by kernel_rfl) (by kernel_rfl) (fun _ _ _ h => h) (Or.inl ⟨by rfl, ?_⟩) (by assumption) ?_; rotate_left; (focus ((intro wS hSw); (try dsimp only at hSw); obtain ⟨s0, s1, s2, s3⟩ := hSw; go_simp; (try with_reducible rfl); done)); (try simp only [Act.put, List.setIfInBounds_toArray, List.set_cons_zero, List.set_cons_succ]))
  refine aloneH (i := 12) rfl (by kernel_rfl) (fun K hK => ?_)
  rw [if_pos (by rfl)]
  go_simp; ((refine (HE.out w0).mono ?_); (rintro e w3 ⟨rfl, hb⟩); have HB3 := Lib.hid hb; clear hb; (try go_simp))
  refine hK.out _ _ (⟨cell_on HB3.out hHeld.1, cell_on HB3.out hHeld.2.1, cell_on HB3.out hHeld.2.2.1, range_on HB3.out hHeld.2.2.2⟩) (fun hNew => ?_)
  clear hK K hHeld; (have hHeld := hNew); clear hNew; (try simp only [Act.put, List.setIfInBounds_toArray, List.set_cons_zero, List.set_cons_succ])
  (refine takeH (i := 13) (v := (.bool q)) rfl (by kernel_rfl) (by kernel_rfl) (by kernel_rfl) (fun _ _ _ h => h) (yieldsIf_eql_page pageT (by rfl) (.tmp 15) (.tmp 17) 128 rfl _ _ rfl rfl HL.out (endP_len _ _) q HQQ.out) (by assumption) ?_; (try simp only [Act.put, List.setIfInBounds_toArray, List.set_cons_zero, List.set_cons_succ]))
  (refine takeH (i := 14) (v := ?_) rfl (by kernel_rfl) (by kernel_rfl) (by kernel_rfl) (fun _ _ _ h => h) (Or.inl ⟨by rfl, ?_⟩) (by assumption) ?_; rotate_left; (focus ((intro wS hSw); (try dsimp only at hSw); obtain ⟨s0, s1, s2, s3⟩ := hSw; go_simp; (try with_reducible rfl); done)); (try simp only [Act.put, List.setIfInBounds_toArray, List.set_cons_zero, List.set_cons_succ]))
  (refine takeH (i := 15) (v := ?_) rfl (by kernel_rfl) (by kernel_rfl) (by kernel_rfl) (fun _ _ _ h => h) (Or.inl ⟨by rfl, ?_⟩) (by assumption) ?_; rotate_left; (focus ((intro wS hSw); (try dsimp only at hSw); obtain ⟨s0, s1, s2, s3⟩ := hSw; go_simp; (try with_reducible rfl); done)); (try simp only [Act.put, List.setIfInBounds_toArray, List.set_cons_zero, List.set_cons_succ]))
  refine wpAnyH_done (by kernel_rfl) ?_ _
  go_wp2
  go_ret
  exact ⟨rfl, HBD.out.trans ((below_then (below_then HB1.out HB2.out) HB3.out).mono HBD.out.size)⟩
theorem code_end (l : Text) (A : Option Addr) (c : Nat) (s n u : Int) (w : World) (hT : Txt w A l) (hu : 0 ≤ u ∧ u < 4294967296) :
    Calls Try.prog 73 #[.slice A l.length c, headV s n u] w fun e w' => e = .returned (.bool (endOk l s u)) ∧ Below w.heap.size w w' := by
  by_cases hl : l.length = 64
  · rcases Bool.eq_false_or_eq_true (seqOk s) with hs | hs
    · exact code_end_yes l A c s n u w hT hl hs hu
    · exact code_end_seq l A c s n u w hl hs
  · exact code_end_no l A c s n u w hl
end Go.Proofs.Ytfjejiapafdgeaa
