/- A batch's bytes, cut into sectors. A batch's sectors told, one by one. -/
import Derived.Test.YtmgonokhgijgoaaJ10
import Derived.Laws.EntriesVeiled
namespace Go.Proofs.Ytmgonokhgijgoaa
open Go.RowKit
set_option maxRecDepth 100000

/-- a sector of a batch's bytes -/
def cutT (l : Text) (i : Nat) : Text := overP zeros (l.drop (64 * i))
theorem cutT_len (l : Text) (i : Nat) : (cutT l i).length = 64 := overP_len zeros_len
theorem cell_below {w w' : World} {B : Nat} {p : Addr} {v : Value} (hb : Below B w w') (hp : p.block < B) (h : w.cell? p = some v) : w'.cell? p = some v := (hb.cell hp).trans h
set_option maxHeartbeats 1000000 in
theorem code_cut (l : Text) (b o c gb i : Nat) (w : World) (hi : 64 * i < l.length) (hl : l.length ≤ 140737488355328) (hc : l.length ≤ c) (hT : Txt w (some ⟨b, o, none⟩) l) (hG : w.cell? ⟨gb, 0, none⟩ = some (.slice (some ⟨b, o, none⟩) l.length c)) :
    Calls Try.prog 93 #[.int .i64 i, .pointer (some ⟨gb, 0, none⟩)] w fun e w' => e = .returned (pageV (cutT l i)) ∧ Below w.heap.size w w' := by
  have hgb := block_lt_of_cell hG
  have HZ0 : Hid (((w.alloc (.cells (zeros.map cellOf).toArray 128)).alloc (.cells (zeros.map cellOf).toArray 128)).heap[w.heap.size]? = some (.cells (zeros.map cellOf).toArray 128)) := Lib.hid (heap_on (below_alloc _ _) (heap_alloc_new w _))
  have HZ1 : Hid (((w.alloc (.cells (zeros.map cellOf).toArray 128)).alloc (.cells (zeros.map cellOf).toArray 128)).heap[w.heap.size + 1]? = some (.cells (zeros.map cellOf).toArray 128)) := Lib.hid (by have := heap_alloc_new (w.alloc (.cells (zeros.map cellOf).toArray 128)) (.cells (zeros.map cellOf).toArray 128); rwa [World.size_alloc] at this)
  have HBZ : Hid (Below w.heap.size w ((w.alloc (.cells (zeros.map cellOf).toArray 128)).alloc (.cells (zeros.map cellOf).toArray 128))) := Lib.hid (below_then (below_alloc w _) (below_alloc _ _))
  have hG2 : ((w.alloc (.cells (zeros.map cellOf).toArray 128)).alloc (.cells (zeros.map cellOf).toArray 128)).cell? ⟨gb, 0, none⟩ = some (.slice (some ⟨b, o, none⟩) l.length c) := cell_on HBZ.out hG
  have HT0 := Lib.hid (hT.below HBZ.out)
  have HT1 := Lib.hid (HT0.out.drop (64 * i))
  rw [Addr.add_mid] at HT1
  obtain ⟨k, hk⟩ : ∃ k, k = 64 * i := ⟨_, rfl⟩
  have i0 : IntKind.i64.wrap ((i : Int) * 64) = (k : Int) := by rw [IntKind.wrap_i64]; omega
  have i1 : (k : Int) ≤ (l.length : Int) := by omega
  have i4 : ¬ c = k := by omega
  have HK := Lib.hid hk
  unfold cutT
  rw [← hk] at HT1 ⊢
  have HGB : Hid (gb < w.heap.size) := Lib.hid hgb
  clear hT hG hi hl hc hgb HT0 hk
  go_enter Try.func93, Try.ntmps93
  go_wp2_with (first
    | ((with_reducible refine wpList_alloc_page pageT (o := ⟨some 3, _, _, _, _, _⟩) ?a1 ?a2 ?_); (case a1 => rfl); (case a2 => rfl); (try simp only [Act.put, List.setIfInBounds_toArray, List.set_cons_zero, List.set_cons_succ]))
    | ((with_reducible refine wpList_alloc_page pageT (o := ⟨some 4, _, _, _, _, _⟩) ?a1 ?a2 ?_); (case a1 => rfl); (case a2 => rfl); (try simp only [Act.put, List.setIfInBounds_toArray, List.set_cons_zero, List.set_cons_succ])))
  rw [World.size_alloc]
  generalize (w.alloc (.cells (zeros.map cellOf).toArray 128)).alloc (.cells (zeros.map cellOf).toArray 128) = w2 at HZ0 HZ1 HBZ HT1 hG2 ⊢
  refine wp_region_held_drew (S := fun W => W.cell? ⟨gb, 0, none⟩ = some (.slice (some ⟨b, o, none⟩) l.length c)) (by kernel_rfl) hG2 ?_
  intro hHeld
  (refine takeH (i := 0) (v := ?_) rfl (by kernel_rfl) (by kernel_rfl) (by kernel_rfl) (fun _ _ _ h => h) (Or.inl ⟨by rfl, ?_⟩) (by assumption) ?_; rotate_left; (focus ((intro wS hSw); (try dsimp only at hSw); have s0 := hSw; go_simp; (try with_reducible rfl); done)); (try simp only [Act.put, List.setIfInBounds_toArray, List.set_cons_zero, List.set_cons_succ]))
  (refine takeH (i := 1) (v := ?_) rfl (by kernel_rfl) (by kernel_rfl) (by kernel_rfl) (fun _ _ _ h => h) (Or.inl ⟨by rfl, ?_⟩) (by assumption) ?_; rotate_left; (focus ((intro wS hSw); (try dsimp only at hSw); have s0 := hSw; go_simp; (try with_reducible rfl); done)); (try simp only [Act.put, List.setIfInBounds_toArray, List.set_cons_zero, List.set_cons_succ]))
  (refine takeH (i := 2) (v := ?_) rfl (by kernel_rfl) (by kernel_rfl) (by kernel_rfl) (fun _ _ _ h => h) (Or.inl ⟨by rfl, ?_⟩) (by assumption) ?_; rotate_left; (focus ((intro wS hSw); (try dsimp only at hSw); have s0 := hSw; go_simp; (try with_reducible rfl); done)); (try simp only [Act.put, List.setIfInBounds_toArray, List.set_cons_zero, List.set_cons_succ]))
  (refine takeH (i := 3) (v := ?_) rfl (by kernel_rfl) (by kernel_rfl) (by kernel_rfl) (fun _ _ _ h => h) (Or.inl ⟨by rfl, ?_⟩) (by assumption) ?_; rotate_left; (focus ((intro wS hSw); (try dsimp only at hSw); have s0 := hSw; go_simp; (try with_reducible rfl); done)); (try simp only [Act.put, List.setIfInBounds_toArray, List.set_cons_zero, List.set_cons_succ]))
  (refine takeH (i := 4) (v := ?_) rfl (by kernel_rfl) (by kernel_rfl) (by kernel_rfl) (fun _ _ _ h => h) (Or.inl ⟨by rfl, ?_⟩) (by assumption) ?_; rotate_left; (focus ((intro wS hSw); (try dsimp only at hSw); have s0 := hSw; go_simp; (try with_reducible rfl); done)); (try simp only [Act.put, List.setIfInBounds_toArray, List.set_cons_zero, List.set_cons_succ]))
  refine aloneH (i := 5) rfl (by kernel_rfl) (fun K hK => ?_)
  refine step_copy_page rfl (.tmp 5) (.tmp 9) rfl (w.heap.size + 1) 64 rfl (some ⟨b, o + k, none⟩) (c - k) (l.length - k) (l.drop k) (by simp) rfl (HT1.out.below (below_drew _)) zeros zeros_len _ HZ1.out ?_
  intro w1 hg1 hb1
  have HB1 := Lib.hid hb1; have HG1 := Lib.hid hg1; clear hb1 hg1
  refine hK.out _ _ (cell_below HB1.out (Nat.lt_succ_of_lt HGB.out) hHeld) (fun hNew => ?_)
  clear hK K hHeld; (have hHeld := hNew); clear hNew; (try simp only [Act.put, List.setIfInBounds_toArray, List.set_cons_zero, List.set_cons_succ])
  refine wpAnyH_done (by kernel_rfl) ?_ _
  skip
  have HG0 : Hid (w1.heap[w.heap.size]? = some (.cells (zeros.map cellOf).toArray 128)) := Lib.hid ((HB1.out.block w.heap.size (Nat.lt_succ_self _)).trans HZ0.out)
  have HF : Hid (Below w.heap.size w w1) := Lib.hid (HBZ.out.drew.trans (HB1.out.mono (Nat.le_succ _)))
  have HLW : Hid ((overP zeros (l.drop k)).length = 64) := Lib.hid (overP_len zeros_len)
  go_wp2_with (first
    | ((with_reducible refine wpList_load_page pageT (o := ⟨some 11, _, _, _, _, _⟩) ?a1 (.tmp 4) ?a2 (w.heap.size + 1) ?a3 _ HLW.out _ _ HG1.out ?_); (case a1 => rfl); (case a2 => rfl); (case a3 => rfl); (try simp only [Act.put, List.setIfInBounds_toArray, List.set_cons_zero, List.set_cons_succ]))
    | ((with_reducible refine wpList_store_page pageT (o := ⟨none, _, _, _, _, _⟩) ?a1 (.tmp 3) (.tmp 11) ?a2 w.heap.size ?a3 _ HLW.out ?a4 _ ?a5 _ HG0.out ?_); (case a1 => rfl); (case a2 => rfl); (case a3 => rfl); (case a4 => rfl); (case a5 => simp [zeros]); (try simp only [Act.put])))
  refine bodyPost_ret (results_page rfl _ _ w.heap.size _ HLW.out rfl _ (setRow_heap _ _ _ _ _ _ HG0.out)) rfl ⟨rfl, ?_⟩
  exact below_setRow HF.out (Nat.le_refl _) _
end Go.Proofs.Ytmgonokhgijgoaa

namespace Go.Proofs.Ytmgonokhgijgoaa
open Go.RowKit
set_option maxRecDepth 100000

/-- how many sectors there are, and which -/
def manyC (l : Text) : Nat := (l.length + 63) / 64
def cutsT (l : Text) (k : Nat) : List (Nat × Text) := (List.range k).map fun i => (i, cutT l i)
theorem cutsT_len (l : Text) (k : Nat) : (cutsT l k).length = k := by simp [cutsT]
theorem cutsT_next (l : Text) (k : Nat) : cutsT l (k + 1) = cutsT l k ++ [(k, cutT l k)] := by simp [cutsT, List.range_succ]
def encC (x : Nat × Text) : Array Value := #[.int .i64 x.1, pageV x.2]
def FxC (l : Text) (pre : List (Nat × Text)) (x : Nat × Text) (_ : World) : Prop := pre = cutsT l pre.length ∧ pre.length < manyC l ∧ x = (pre.length, cutT l pre.length)
/-- the batch's bytes, and what the closures hold, are as they were -/
def KpC (b g : Nat) (A C : World) : Prop := C.heap[b]? = A.heap[b]? ∧ C.heap[g]? = A.heap[g]? ∧ C.heap[g + 1]? = A.heap[g + 1]? ∧ A.heap.size ≤ C.heap.size
theorem KpC.trans {b g : Nat} {A B C : World} (h : KpC b g A B) (k : KpC b g B C) : KpC b g A C := ⟨k.1.trans h.1, k.2.1.trans h.2.1, k.2.2.1.trans h.2.2.1, Nat.le_trans h.2.2.2 k.2.2.2⟩
theorem KpC.of_below {b g B : Nat} {A C : World} (h : Below B A C) (hb : b < B) (hg : g + 1 < B) : KpC b g A C := ⟨h.block _ hb, h.block _ (by omega), h.block _ hg, h.size⟩
theorem KpC.txt {b g o : Nat} {A C : World} {l : Text} (h : KpC b g A C) (ht : Txt A (some ⟨b, o, none⟩) l) : Txt C (some ⟨b, o, none⟩) l := fun hn => by
  obtain ⟨a, e, h1, h2⟩ := ht hn
  injection e with e
  subst e
  exact ⟨_, rfl, Nat.lt_of_lt_of_le h1 h.2.2.2, fun i hi => (World.cell?_of_block (by rw [add_block]; exact h.1)).trans (h2 i hi)⟩
/-- what 'cuts' answers -/
def cutsF (g : Nat) : Value := .func (.func 94) #[] #[.pointer (some ⟨g, 0, none⟩), .pointer (some ⟨g + 1, 0, none⟩)]
def cutF (g : Nat) : Value := .func (.func 93) #[] #[.pointer (some ⟨g, 0, none⟩)]
theorem code_cuts (A : Option Addr) (n c : Nat) (w : World) : Calls Try.prog 86 #[.slice A n c] w fun e w' => e = .returned (cutsF w.heap.size) ∧ w'.cell? ⟨w.heap.size, 0, none⟩ = some (.slice A n c) ∧ w'.cell? ⟨w.heap.size + 1, 0, none⟩ = some (cutF w.heap.size) ∧ w'.heap.size = w.heap.size + 2 ∧ Below w.heap.size w w' := by
  have hmf : ∀ (fn : Fn) (first cap : Array Value) (w : World), (Instr.makeFunc fn first cap).run Try.prog w = .ok (.func fn first cap) w := fun _ _ _ _ => rfl
  go_enter Try.func86, Try.ntmps86
  go_wp2
  go_ret
  refine ⟨rfl, ?_, ?_, by simp, below_then (below_alloc w _) (below_alloc _ _)⟩
  · exact cell_on (below_alloc _ _) (by rw [cell_of_row _ _ 0 _ _ _ (heap_alloc_new w _)]; rfl)
  · have := heap_alloc_new (w.alloc (.cells #[.slice A n c] 51)) (.cells #[cutF w.heap.size] 147)
    rw [World.size_alloc] at this
    have h2 := cell_of_row _ _ 0 _ _ _ this
    unfold cutF at h2 ⊢
    rw [h2]
    rfl
theorem fx_next (l : Text) (k : Nat) (h : k < manyC l) {W : World} : FxC l (cutsT l k) (k, cutT l k) W := by
  unfold FxC
  rw [cutsT_len]
  exact ⟨rfl, h, rfl⟩
set_option maxHeartbeats 2000000 in
theorem cuts_told (w : World) (g b o c : Nat) (l : Text) (hl : l.length ≤ 131072) (hc : l.length ≤ c) (hb : b < w.heap.size) (hT : Txt w (some ⟨b, o, none⟩) l)
    (h0 : w.cell? ⟨g, 0, none⟩ = some (.slice (some ⟨b, o, none⟩) l.length c)) (h1 : w.cell? ⟨g + 1, 0, none⟩ = some (cutF g)) :
    SeqTold Try.prog 94 #[.pointer (some ⟨g, 0, none⟩), .pointer (some ⟨g + 1, 0, none⟩)] encC (FxC l) (KpC b g) (fun xs => xs = cutsT l (manyC l)) (fun _ => True) w := by
  intro y J Jx W hbW hJ hJx hY hJ0
  have H0 := Lib.hid (cell_on hbW h0)
  have H1 := Lib.hid (cell_on hbW h1)
  have HT := Lib.hid (hT.below hbW)
  have c0 := cell_on hbW h0
  have HGB : Hid (b < W.heap.size ∧ g + 1 < W.heap.size) := Lib.hid ⟨Nat.lt_of_lt_of_le hb hbW.size, block_lt_of_cell (a := ⟨g + 1, 0, none⟩) H1.out⟩
  have HC : Hid (∀ W i, 64 * i < l.length → Txt W (some ⟨b, o, none⟩) l → W.cell? ⟨g, 0, none⟩ = some (.slice (some ⟨b, o, none⟩) l.length c) → Calls Try.prog 93 #[.int .i64 i, .pointer (some ⟨g, 0, none⟩)] W fun e w' => e = .returned (pageV (cutT l i)) ∧ Below W.heap.size W w') :=
    Lib.hid (fun W i hi hT hG => code_cut l b o c g i W hi (by omega) hc hT hG)
  have HN : Hid (∀ W, Calls Try.prog 72 #[.int .i64 l.length] W fun e w' => e = .returned (.int .i64 (manyC l : Nat)) ∧ W = w') := Lib.hid (fun W => (code_between l.length W (by omega) (by omega)).mono fun e w' ⟨x, y⟩ => ⟨by rw [x]; unfold manyC; congr 2, y⟩)
  have HJ := Lib.hid hJ
  have HY := Lib.hid hY
  have HJ0 := Lib.hid hJ0
  have HM : Hid (∀ k, k < manyC l → 64 * k < l.length) := Lib.hid (fun k hk => by unfold manyC at hk; omega)
  have im : (manyC l : Int) ≤ 2048 := by unfold manyC; omega
  clear hJ hJx hY hJ0 hbW h0 h1 hT hb hl hc
  refine callsIn_wide.1 (callsIn_of_wp (n := 2) (F := Fence.wide) Try.func94 rfl trivial ?_ rfl)
  simp only [Try.ntmps94, List.size_toArray, List.length_cons, List.length_nil, Nat.reduceAdd, Nat.reduceSub, Array.replicate_succ, Array.replicate_zero, List.push_toArray, List.append_toArray, List.nil_append, List.cons_append]
  gi_wp2_with (refine ⟨trivial, ?_⟩; gi_at_call 72; refine (callsIn_wide.2 (HN.out _)).mono ?_; rintro e w1 ⟨rfl, rfl⟩)
  clear c0
  gi_loopw [8] (fun i wr => ∃ k : Nat, k ≤ manyC l ∧ i = .int .i64 k ∧ Hid (J (cutsT l k) wr) ∧ Hid (KpC b g W wr)) (fun i _ => manyC l - (intOf i).toNat)
  case atStart => exact ⟨0, Nat.zero_le _, rfl, HJ0, Lib.hid ⟨rfl, rfl, rfl, Nat.le_refl _⟩⟩
  case round =>
    obtain ⟨k, hk, rfl, HJp, HK⟩ := hrel
    by_cases hlt : k < manyC l
    · have c0 := (World.cell?_of_block (a := ⟨g, 0, none⟩) HK.out.2.1).trans H0.out
      have c1 := (World.cell?_of_block (a := ⟨g + 1, 0, none⟩) HK.out.2.2.1).trans H1.out
      unfold cutF at c1
      have hlt' : (k : Int) < (manyC l : Int) := by omega
      gi_wp2_with (refine ⟨trivial, ?_⟩; gi_at_call 93; refine (callsIn_wide.2 (HC.out wr k (HM.out k hlt) (HK.out.txt HT.out) c0)).mono ?_; rintro e w2 ⟨rfl, hb2⟩; have HB2 := Lib.hid hb2; clear hb2; obtain ⟨fn, tmps, assign, body, hy, hR⟩ := HY.out (cutsT l k) (k, cutT l k) w2 (HJ.out _ _ _ HJp.out HB2.out) (fx_next l k hlt); dsimp only [encC] at hy; have HR := Lib.hid hR; clear hR)
      refine HR.out.mono ?_
      rintro e W3 (⟨rfl, hJ3, hk3⟩ | ⟨rfl, hJx3⟩)
      · have HJ3 := Lib.hid hJ3
        have HK3 := Lib.hid ((HK.out.trans (KpC.of_below HB2.out (Nat.lt_of_lt_of_le HGB.out.1 HK.out.2.2.2) (Nat.lt_of_lt_of_le HGB.out.2 HK.out.2.2.2))).trans hk3)
        clear hJ3 hk3 hy
        gi_wp2
        go_roundw
        case rel => exact ⟨k + 1, by omega, by simp, by rw [cutsT_next]; exact HJ3, HK3⟩
        case measure => simp [intOf]; omega
      · have HJ3 := Lib.hid hJx3
        clear hJx3 hy
        gi_wp2
        refine bodyPost_ret (results_none rfl _ _ _) rfl ?_
        exact ⟨⟨_, rfl⟩, .inr ⟨_, trivial, HJ3.out⟩⟩
    · obtain rfl : k = manyC l := by omega
      gi_wp2
      go_end0
      exact ⟨⟨_, rfl⟩, .inl ⟨_, rfl, HJp.out⟩⟩
end Go.Proofs.Ytmgonokhgijgoaa
