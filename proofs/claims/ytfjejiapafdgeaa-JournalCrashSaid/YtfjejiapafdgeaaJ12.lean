/- How many sectors are not blank. A scope with several labels: what holds at a jump to each, and what grows less from jump to jump. A batch's bytes, cut into sectors. -/
import Derived.Test.YtfjejiapafdgeaaJ11
import Derived.Test.YtfjejiapafdgeaaRows
import Derived.ScopeJumps
import Derived.Test.YtfjejiapafdgeaaJ10
import Derived.Test.YtfjejiapafdgeaaJ3
namespace Go.Proofs.Ytfjejiapafdgeaa
open Go.RowKit
attribute [local go_sem] Oper.semAt_some
set_option maxRecDepth 100000
set_option linter.unusedSimpArgs false
set_option linter.unusedVariables false

theorem dirtyL_len (S : Nat → Text) (tail m : Nat) : (dirtyL S tail m).length ≤ m := by
  have := List.length_filter_le (dirtyQ S tail) (List.range m)
  rw [List.length_range] at this
  exact this
theorem code_dirtyF (w : World) (B : Nat) (tail : Int) : Calls Try.prog 52 #[.pointer (some ⟨B, 0, none⟩), .int .i64 tail] w fun e w' => e = .returned (.func (.func 78) #[] #[.pointer (some ⟨w.heap.size, 0, none⟩), .pointer (some ⟨w.heap.size + 1, 0, none⟩)]) ∧
    w' = (w.alloc (.cells #[.pointer (some ⟨B, 0, none⟩)] 25)).alloc (.cells #[.int .i64 tail] 3) := by
  have hmf : ∀ (fn : Fn) (first cap : Array Value) (w : World), (Instr.makeFunc fn first cap).run Try.prog w = .ok (.func fn first cap) w := fun _ _ _ _ => rfl
  go_enter Try.func52, Try.ntmps52
  go_wp2
  go_ret
  exact ⟨rfl, rfl⟩
/-- what stands while they are counted -/
def InC (w : World) (B bm n : Nat) (d : DiskV) (tail : Nat) (pre : List Nat) (V : World) : Prop :=
  V.heap[w.heap.size]? = some (.cells #[.int .i64 pre.length] 3 (0, 0)) ∧ V.heap[w.heap.size + 1]? = some (.cells #[.pointer (some ⟨B, 0, none⟩)] 25 (0, 0)) ∧ V.heap[w.heap.size + 1 + 1]? = some (.cells #[.int .i64 tail] 3 (0, 0)) ∧ Below w.heap.size w V
theorem code_dirty_bad (w : World) (B bm n : Nat) (d : DiskV) (tail : Int) (h : Dsk w B bm n d) (hz : sreachV d tail ≠ 0) :
    Calls Try.prog 17 #[.pointer (some ⟨B, 0, none⟩), .int .i64 tail] w fun e w' => e = .returned (.tuple #[.int .i64 0, .int .i64 (sreachV d tail)]) ∧ w = w' := by
  have HR := Lib.hid (code_sreach w B bm n d tail h)
  generalize sreachV d tail = v at *
  have hv : (v != 0) = true := by simpa using hz
  clear h
  go_enter Try.func17, Try.ntmps17
  go_wp2_with (go_at_call 45; refine HR.out.mono ?_; rintro e w1 ⟨rfl, rfl⟩)
  go_ret2
  exact ⟨rfl, rfl⟩
set_option maxHeartbeats 2000000 in
theorem code_dirty (w : World) (B bm n : Nat) (d : DiskV) (tail : Nat) (h : Dsk w B bm n d) (hd : d.dead = false) (ht : tail ≤ d.many) :
    Calls Try.prog 17 #[.pointer (some ⟨B, 0, none⟩), .int .i64 tail] w fun e w' => e = .returned (.tuple #[.int .i64 (dirtyL d.S tail d.many).length, .int .i64 0]) ∧ Below w.heap.size w w' := by
  have HR : Hid (Calls Try.prog 45 #[.pointer (some ⟨B, 0, none⟩), .int .i64 tail] w fun e w' => e = .returned (.int .i64 0) ∧ w = w') := Lib.hid (by
    have h1 := code_sreach w B bm n d tail h
    have h2 : sreachV d tail = 0 := by unfold sreachV; rw [hd, if_neg (by omega), if_neg (by decide)]
    rwa [h2] at h1)
  have HF := Lib.hid (fun W => code_dirtyF W B tail)
  have HD := Lib.hid h
  have HM := Lib.hid h.2.2.1
  have hBl := h.lt
  have hbl := h.2.1.lt
  clear h hd
  refine callsIn_wide.1 (callsIn_of_wp_marks (n := 0) (F := Fence.wide) Try.func17 rfl trivial (wpIn_wide.2 ?_) rfl)
  simp only [Try.ntmps17, List.size_toArray, List.length_cons, List.length_nil, Nat.reduceAdd, Nat.reduceSub, Array.replicate_succ, Array.replicate_zero, List.push_toArray, List.append_toArray, List.nil_append, List.cons_append]
  go_wp2_with (first
    | (go_at_call 45; refine HR.out.mono ?_; rintro e w1 ⟨rfl, rfl⟩)
    | (go_at_call 52; refine (HF.out _).mono ?_; rintro e w2 ⟨rfl, rfl⟩))
  obtain ⟨W9, hW9⟩ : ∃ W9, W9 = ((w.alloc (.cells #[.int .i64 0] 3)).alloc (.cells #[.pointer (some ⟨B, 0, none⟩)] 25)).alloc (.cells #[.int .i64 tail] 3) := ⟨_, rfl⟩
  have e1 := heap_alloc_new w (.cells #[.int .i64 0] 3)
  have e2 := heap_alloc_new (w.alloc (.cells #[.int .i64 0] 3)) (.cells #[.pointer (some ⟨B, 0, none⟩)] 25)
  have e3 := heap_alloc_new ((w.alloc (.cells #[.int .i64 0] 3)).alloc (.cells #[.pointer (some ⟨B, 0, none⟩)] 25)) (.cells #[.int .i64 tail] 3)
  simp only [World.size_alloc] at e1 e2 e3
  have hB9 : Below w.heap.size w W9 := by rw [hW9]; exact ((((Below.refl _ w).alloc (Nat.le_refl _) _).alloc (by simp) _).alloc (by simp <;> omega) _)
  have hz9 : W9.heap.size = w.heap.size + 3 := by rw [hW9]; simp
  have hI9 : InC w B bm n d tail [] W9 := by
    refine ⟨?_, ?_, ?_, hB9⟩
    · rw [hW9, Below.heap_alloc _ _ _ (by simp <;> omega), Below.heap_alloc _ _ _ (by simp)]; exact e1
    · rw [hW9, Below.heap_alloc _ _ _ (by simp)]; exact e2
    · rw [hW9]; exact e3
  rw [← hW9]
  clear hW9 e1 e2 e3 hB9
  refine wp_rangeToldW (gf := 78) (lb := #[.pointer (some ⟨w.heap.size + 1, 0, none⟩), .pointer (some ⟨w.heap.size + 1 + 1, 0, none⟩)]) rfl (enters_of Try.func78 (by kernel_rfl) rfl) (dirty_toldW (w.heap.size + 1) (w.heap.size + 1 + 1) B bm d.many tail d.S) (fun _ => rfl)
    (InC w B bm n d tail) (fun _ _ _ => False) (fun pre A C h hb => ⟨(hb.block _ (by omega)).trans h.1, (hb.block _ (by omega)).trans h.2.1, (hb.block _ (by omega)).trans h.2.2.1, h.2.2.2.trans (hb.mono (by omega))⟩) (fun _ _ _ _ h _ => h.elim) ?dk hI9 ?round ?done ?stop
  case dk =>
    intro pre A h
    exact ⟨n, d, HD.out.below h.2.2.2, rfl, fun _ _ _ => rfl, h.2.1, h.2.2.1⟩
  case stop =>
    rintro D c pre V hD _ h hK
    exact h.elim
  case done =>
    intro D xs V hD hxl hI hK
    have hx : xs = dirtyL d.S tail d.many := hxl
    rw [hx] at hI
    have q := cell_of_row V _ 0 _ _ _ hI.1
    simp only [List.getElem?_toArray, List.getElem?_cons_zero] at q
    have HI := Lib.hid hI
    have HK := Lib.hid hK
    clear hI hK hx hxl
    go_wp2
    refine ⟨by simp, .inl ⟨_, _, rfl, run_takeDeferred HK.out, ?_⟩⟩
    exact ⟨_, results_tmp2 rfl _ _ _, rfl, HI.out.2.2.2.trans (put_below _ _ (by omega))⟩
  case round =>
    rintro L r pre i V hL hr hI ⟨hj, hq, hpre⟩
    have HL : Hid (pre.length ≤ 4096) := Lib.hid (by rw [hpre]; have := dirtyL_len d.S tail i; have := HM.out; omega)
    obtain ⟨k, hk⟩ : ∃ k, k = pre.length := ⟨_, rfl⟩
    have HKk := Lib.hid hk
    clear hI hr hpre hq hj
    dsimp only [encN]
    gi_wp2
    refine ⟨Below.refl _ _, fun Wb hB hIb => ?_⟩
    have q := cell_of_row Wb _ 0 _ _ _ hIb.1
    have qf := frozen_of_row Wb _ 0 _ _ hIb.1
    simp only [List.getElem?_toArray, List.getElem?_cons_zero] at q
    rw [← hk] at q
    have hw : wrap64 ((k : Int) + 1) = (k : Int) + 1 := by have := HL.out; rw [← hk] at this; unfold wrap64; omega
    have HIb := Lib.hid hIb
    clear hIb hB hk
    gi_wp2
    have hI := HIb.out
    have he : ((pre ++ [i]).length : Int) = (k : Int) + 1 := by rw [List.length_append, ← HKk.out]; rfl
    refine ⟨⟨by simp, fun j h1 h2 => heap_setCell_other _ _ _ _ (by simp; omega)⟩, ?_, (heap_setCell_other _ _ _ _ (by simp)).trans hI.2.1, (heap_setCell_other _ _ _ _ (by simp; omega)).trans hI.2.2.1, hI.2.2.2.setCell (p := ⟨w.heap.size, 0, none⟩) (Nat.le_refl _) _⟩
    rw [he]
    exact heap_setCell_same Wb w.heap.size 0 _ _ _ hI.1
end Go.Proofs.Ytfjejiapafdgeaa

namespace Go.Proofs.Ytfjejiapafdgeaa
open Go

/-- by a goto to label l: J l; else Q -/
def jumpsTo (J : Nat → Act → World → Prop) (Q : Exit → Act → World → Prop) : Exit → Act → World → Prop
  | .goto l, a, w => J l a w
  | e, a, w => Q e a w
theorem wp_scope_all {P : Program} {a : Act} {w : World} {Q : Exit → Act → World → Prop} {c : Code} (J : Nat → Act → World → Prop) (μ : Nat → Act → World → Nat) (rest : Nat → Code) (hf : ∀ l a w, J l a w → findLabel c l = some (rest l))
    (first : c.wp P (jumpsTo J Q) a w)
    (pass : ∀ l a w, J l a w → (rest l).wp P (jumpsTo (fun l' a' w' => J l' a' w' ∧ μ l' a' w' < μ l a w) Q) a w) : (Code.scope c).wp P Q a w := by
  intro b k cs
  have hg : ∀ l a w, J l a w → gotoIn l (.inScope c :: k) = some (.code (rest l) :: .inScope c :: k) := fun l a w h => by simp [gotoIn, hf l a w h]
  have key : ∀ n l a w, μ l a w = n → J l a w → ∃ e a' w', Q e a' w' ∧ Arrives P (lone (b.at a (.code (rest l) :: .inScope c :: k)) cs w) b k cs e a' w' := by
    intro n
    induction n using Nat.strongRecOn with
    | _ n ih =>
      intro l a w hn hJ
      obtain ⟨e, a₁, w₁, hq, harr⟩ := pass l a w hJ b (.inScope c :: k) cs
      cases e with
      | normal => exact ⟨.normal, a₁, w₁, hq, Steps.trans harr (.one step_inScope)⟩
      | exit id => exact ⟨.exit id, a₁, w₁, hq, fun k' hk => harr k' (by simp [exitTo, hk])⟩
      | goto l' =>
        obtain ⟨hJ', hlt⟩ := hq
        obtain ⟨e₂, a₂, w₂, hq₂, harr₂⟩ := ih _ (by omega) l' a₁ w₁ rfl hJ'
        exact ⟨e₂, a₂, w₂, hq₂, .of_steps (harr _ (hg l' a₁ w₁ hJ')) harr₂⟩
      | ret => exact ⟨_, a₁, w₁, hq, harr⟩
      | panic ch => exact ⟨_, a₁, w₁, hq, harr⟩
      | outgrown => exact ⟨_, a₁, w₁, hq, harr⟩
  obtain ⟨e, a₁, w₁, hq, harr⟩ := first b (.inScope c :: k) cs
  cases e with
  | normal => exact ⟨.normal, a₁, w₁, hq, .head step_scope (Steps.trans harr (.one step_inScope))⟩
  | exit id => exact ⟨.exit id, a₁, w₁, hq, fun k' hk => .head step_scope (harr k' (by simp [exitTo, hk]))⟩
  | goto l' =>
    obtain ⟨e₂, a₂, w₂, hq₂, harr₂⟩ := key _ l' a₁ w₁ rfl hq
    exact ⟨e₂, a₂, w₂, hq₂, .of_steps (.head step_scope (harr _ (hg l' a₁ w₁ hq))) harr₂⟩
  | ret => exact ⟨_, a₁, w₁, hq, .of_steps (.one step_scope) harr⟩
  | panic ch => exact ⟨_, a₁, w₁, hq, .of_steps (.one step_scope) harr⟩
  | outgrown => exact ⟨_, a₁, w₁, hq, .of_steps (.one step_scope) harr⟩
end Go.Proofs.Ytfjejiapafdgeaa

namespace Go.Proofs.Ytfjejiapafdgeaa
open Go.RowKit
set_option maxRecDepth 100000

/-- a sector of a batch's bytes -/
def cutT (l : Text) (i : Nat) : Text := overP zeros (l.drop (64 * i))
theorem cutT_len (l : Text) (i : Nat) : (cutT l i).length = 64 := overP_len zeros_len
theorem cell_below {w w' : World} {B : Nat} {p : Addr} {v : Value} (hb : Below B w w') (hp : p.block < B) (h : w.cell? p = some v) : w'.cell? p = some v := (hb.cell hp).trans h
set_option maxHeartbeats 1000000 in
theorem code_cut (l : Text) (b o c gb i : Nat) (w : World) (hi : 64 * i < l.length) (hl : l.length ≤ 140737488355328) (hc : l.length ≤ c) (hT : Txt w (some ⟨b, o, none⟩) l) (hG : w.cell? ⟨gb, 0, none⟩ = some (.slice (some ⟨b, o, none⟩) l.length c)) :
    Calls Try.prog 93 #[.int .i64 i, .pointer (some ⟨gb, 0, none⟩)] w fun e w' => e = .returned (pageV (cutT l i)) ∧ Below w.heap.size w w' := by
  have hgb := block_lt_of_cell hG
  have HZ0 : Hid (((w.alloc (.cells (zeros.map cellOf).toArray 128)).alloc (.cells (zeros.map cellOf).toArray 128)).heap[w.heap.size]? = some (.cells (zeros.map cellOf).toArray 128)) := Lib.hid (heap_on (below_alloc _ _) (heap_alloc_new w _))
  have HZ1 : Hid (((w.alloc (.cells (zeros.map cellOf).toArray 128)).alloc (.cells (zeros.map cellOf).toArray 128)).heap[w.heap.size + 1]? = some (.cells (zeros.map cellOf).toArray 128)) := Lib.hid (by have := heap_alloc_new (w.alloc (.cells (zeros.map cellOf).toArray 128)) (.cells (zeros.map cellOf).toArray 128); rwa [World.size_alloc] at this)
  have HBZ : Hid (Below w.heap.size w ((w.alloc (.cells (zeros.map cellOf).toArray 128)).alloc (.cells (zeros.map cellOf).toArray 128))) := Lib.hid (below_then (below_alloc w _) (below_alloc _ _))
  have hG2 : ((w.alloc (.cells (zeros.map cellOf).toArray 128)).alloc (.cells (zeros.map cellOf).toArray 128)).cell? ⟨gb, 0, none⟩ = some (.slice (some ⟨b, o, none⟩) l.length c) := cell_on HBZ.out hG
  have HT0 := Lib.hid (hT.below HBZ.out)
  have HT1 := Lib.hid (HT0.out.drop (64 * i))
  rw [Addr.add_mid] at HT1
  obtain ⟨k, hk⟩ : ∃ k, k = 64 * i := ⟨_, rfl⟩
  have i0 : IntKind.i64.wrap ((i : Int) * 64) = (k : Int) := by rw [IntKind.wrap_i64]; omega
  have i1 : (k : Int) ≤ (l.length : Int) := by omega
  have i4 : ¬ c = k := by omega
  have HK := Lib.hid hk
  unfold cutT
  rw [← hk] at HT1 ⊢
  have HGB : Hid (gb < w.heap.size) := Lib.hid hgb
  clear hT hG hi hl hc hgb HT0 hk
  go_enter Try.func93, Try.ntmps93
  go_wp2_with (first
    | ((with_reducible refine wpList_alloc_page pageT (o := ⟨some 3, _, _, _, _, _⟩) ?a1 ?a2 ?_); (case a1 => rfl); (case a2 => rfl); (try simp only [Act.put, List.setIfInBounds_toArray, List.set_cons_zero, List.set_cons_succ]))
    | ((with_reducible refine wpList_alloc_page pageT (o := ⟨some 4, _, _, _, _, _⟩) ?a1 ?a2 ?_); (case a1 => rfl); (case a2 => rfl); (try simp only [Act.put, List.setIfInBounds_toArray, List.set_cons_zero, List.set_cons_succ])))
  rw [World.size_alloc]
  generalize (w.alloc (.cells (zeros.map cellOf).toArray 128)).alloc (.cells (zeros.map cellOf).toArray 128) = w2 at HZ0 HZ1 HBZ HT1 hG2 ⊢
  refine wp_region_held_drew (S := fun W => W.cell? ⟨gb, 0, none⟩ = some (.slice (some ⟨b, o, none⟩) l.length c)) (by kernel_rfl) hG2 ?_
  intro hHeld
  (refine takeH (i := 0) (v := ?_) rfl (by kernel_rfl) (by kernel_rfl) (by kernel_rfl) (fun _ _ _ h => h) (Or.inl ⟨by rfl, ?_⟩) (by assumption) ?_; rotate_left; (focus ((intro wS hSw); (try dsimp only at hSw); have s0 := hSw; go_simp; (try with_reducible rfl); done)); (try simp only [Act.put, List.setIfInBounds_toArray, List.set_cons_zero, List.set_cons_succ]))
  (refine takeH (i := 1) (v := ?_) rfl (by kernel_rfl) (by kernel_rfl) (by kernel_rfl) (fun _ _ _ h => h) (Or.inl ⟨by rfl, ?_⟩) (by assumption) ?_; rotate_left; (focus ((intro wS hSw); (try dsimp only at hSw); have s0 := hSw; go_simp; (try with_reducible rfl); done)); (try simp only [Act.put, List.setIfInBounds_toArray, List.set_cons_zero, List.set_cons_succ]))
  (refine takeH (i := 2) (v := ?_) rfl (by kernel_rfl) (by kernel_rfl) (by kernel_rfl) (fun _ _ _ h => h) (Or.inl ⟨by rfl, ?_⟩) (by assumption) ?_; rotate_left; (focus ((intro wS hSw); (try dsimp only at hSw); have s0 := hSw; go_simp; (try with_reducible rfl); done)); (try simp only [Act.put, List.setIfInBounds_toArray, List.set_cons_zero, List.set_cons_succ]))
  (refine takeH (i := 3) (v := ?_) rfl (by kernel_rfl) (by kernel_rfl) (by kernel_rfl) (fun _ _ _ h => h) (Or.inl ⟨by rfl, ?_⟩) (by assumption) ?_; rotate_left; (focus ((intro wS hSw); (try dsimp only at hSw); have s0 := hSw; go_simp; (try with_reducible rfl); done)); (try simp only [Act.put, List.setIfInBounds_toArray, List.set_cons_zero, List.set_cons_succ]))
  (refine takeH (i := 4) (v := ?_) rfl (by kernel_rfl) (by kernel_rfl) (by kernel_rfl) (fun _ _ _ h => h) (Or.inl ⟨by rfl, ?_⟩) (by assumption) ?_; rotate_left; (focus ((intro wS hSw); (try dsimp only at hSw); have s0 := hSw; go_simp; (try with_reducible rfl); done)); (try simp only [Act.put, List.setIfInBounds_toArray, List.set_cons_zero, List.set_cons_succ]))
  refine aloneH (i := 5) rfl (by kernel_rfl) (fun K hK => ?_)
  refine step_copy_page rfl (.tmp 5) (.tmp 9) rfl (w.heap.size + 1) 64 rfl (some ⟨b, o + k, none⟩) (c - k) (l.length - k) (l.drop k) (by simp) rfl (HT1.out.below (below_drew _)) zeros zeros_len _ HZ1.out ?_
  intro w1 hg1 hb1
  have HB1 := Lib.hid hb1; have HG1 := Lib.hid hg1; clear hb1 hg1
  refine hK.out _ _ (cell_below HB1.out (Nat.lt_succ_of_lt HGB.out) hHeld) (fun hNew => ?_)
  clear hK K hHeld; (have hHeld := hNew); clear hNew; (try simp only [Act.put, List.setIfInBounds_toArray, List.set_cons_zero, List.set_cons_succ])
  refine wpAnyH_done (by kernel_rfl) ?_ _
  skip
  have HG0 : Hid (w1.heap[w.heap.size]? = some (.cells (zeros.map cellOf).toArray 128)) := Lib.hid ((HB1.out.block w.heap.size (Nat.lt_succ_self _)).trans HZ0.out)
  have HF : Hid (Below w.heap.size w w1) := Lib.hid (HBZ.out.drew.trans (HB1.out.mono (Nat.le_succ _)))
  have HLW : Hid ((overP zeros (l.drop k)).length = 64) := Lib.hid (overP_len zeros_len)
  go_wp2_with (first
    | ((with_reducible refine wpList_load_page pageT (o := ⟨some 11, _, _, _, _, _⟩) ?a1 (.tmp 4) ?a2 (w.heap.size + 1) ?a3 _ HLW.out _ _ HG1.out ?_); (case a1 => rfl); (case a2 => rfl); (case a3 => rfl); (try simp only [Act.put, List.setIfInBounds_toArray, List.set_cons_zero, List.set_cons_succ]))
    | ((with_reducible refine wpList_store_page pageT (o := ⟨none, _, _, _, _, _⟩) ?a1 (.tmp 3) (.tmp 11) ?a2 w.heap.size ?a3 _ HLW.out ?a4 _ ?a5 _ HG0.out ?_); (case a1 => rfl); (case a2 => rfl); (case a3 => rfl); (case a4 => rfl); (case a5 => simp [zeros]); (try simp only [Act.put])))
  refine bodyPost_ret (results_page rfl _ _ w.heap.size _ HLW.out rfl _ (setRow_heap _ _ _ _ _ _ HG0.out)) rfl ⟨rfl, ?_⟩
  exact below_setRow HF.out (Nat.le_refl _) _
end Go.Proofs.Ytfjejiapafdgeaa
