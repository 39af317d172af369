/- A head read. -/
import Derived.Test.YtfjejiapafdgeaaJ13
import Derived.Deep.Cut
namespace Go.Proofs.Ytfjejiapafdgeaa
open Go.RowKit
set_option maxRecDepth 100000

theorem wp_store_row {w : World} {o : Oper} {a : Act} {K : Act → World → Prop} {Q : Exit → Act → World → Prop} (T : TypeId) (x y : Operand) (ho : o.op = .store T x y) (g : Nat) (hx : a.eval x = .pointer (some ⟨g, 0, none⟩)) (vs : List Value)
    (hsz : (Try.prog.info? T).map (·.size) = some vs.length) (h1 : ∀ v ∈ vs, v.oneCell' = true) (hy : a.eval y = .agg vs.toArray) (cur : Array Value) (hc : cur.size = vs.length) (t : TypeId) (hg : w.heap[g]? = some (.cells cur t (0, 0)))
    (h : K (a.put o.dst undef) (w.setRow g vs.toArray)) : o.wp Try.prog a w K Q := by
  have hst := run_storeCells_at Try.prog g 0 t vs 0 cur w hg (by omega) h1
  have e : (cur.toList.take (0 + 0) ++ vs ++ cur.toList.drop (0 + 0 + vs.length)) = vs := by
    rw [List.drop_eq_nil_of_le (by simp [hc])]; simp
  rw [e] at hst
  have hs : (sizeOf T).run Try.prog w = .ok vs.length w := by
    cases hq : Try.prog.info? T with
    | none => simp [hq] at hsz
    | some i =>
      have hz : i.size = vs.length := by simpa [hq] using hsz
      simp [sizeOf, typeInfo, hq, hz]
  unfold Oper.wp execOp
  simp only [ho, hx, hy, Instr.storeAt, Instr.sureAddr, Sem.run_bind, Sem.run_pure, Result.andThen_ok, storeVar, Value.cells, hs, List.size_toArray, ne_eq, not_true_eq_false, if_false, hst]
  exact h
theorem one3 (k1 k2 k3 : IntKind) (x y z : Int) : ∀ v ∈ [Value.int k1 x, Value.int k2 y, Value.int k3 z], v.oneCell' = true := by
  intro v hv
  simp only [List.mem_cons, List.not_mem_nil, or_false] at hv
  rcases hv with rfl | rfl | rfl <;> rfl
theorem wpList_store_row {w : World} {ops : Array Oper} {rest : List Oper} {o : Oper} {a : Act} {Q : Exit → Act → World → Prop} (T : TypeId) (hgd : o.guard = none) (x y : Operand) (ho : o.op = .store T x y) (g : Nat) (hx : a.eval x = .pointer (some ⟨g, 0, none⟩)) (vs : List Value)
    (hsz : (Try.prog.info? T).map (·.size) = some vs.length) (h1 : ∀ v ∈ vs, v.oneCell' = true) (hy : a.eval y = .agg vs.toArray) (cur : Array Value) (hc : cur.size = vs.length) (t : TypeId) (hg : w.heap[g]? = some (.cells cur t (0, 0)))
    (h : wpList Try.prog ops Q rest (a.put o.dst undef) (w.setRow g vs.toArray)) : wpList Try.prog ops Q (o :: rest) a w :=
  wpList_plain hgd fun _ hK => wp_store_row T x y ho g hx vs hsz h1 hy cur hc t hg (hK _ _ h)
/-- a head lies where a call's first answer is kept -/
theorem results_head {T : TypeId} (hu : ∃ fs, Try.prog.underlying T = some (.struct fs)) (hi : (Try.prog.info? T).map (·.size) = some 3) {fn : Func} {p q : Tmp} (h : fn.results = #[.cell p T, .tmp q]) (tmps : Array Value) (W : World) (g : Nat) (x y z : Value) (b : Value) (hp : tmps.getD p undef = .pointer (some ⟨g, 0, none⟩)) (hq : tmps.getD q undef = b) (t : TypeId) (fr : Nat × Nat)
    (hc : W.heap[g]? = some (.cells #[x, y, z] t fr)) : (results fn tmps).run Try.prog W = .ok (.tuple #[.agg #[x, y, z], b]) W := by
  obtain ⟨fs, hu⟩ := hu
  have hr := run_loadVar_mid (P := Try.prog) W g 0 T [x, y, z] _ (by
    have := World.rangeAt_of_block hc 0 3
    simpa using this) hu rfl hi
  have hp' : tmps[p]?.getD undef = .pointer (some ⟨g, 0, none⟩) := by simpa [Array.getD_eq_getD_getElem?] using hp
  have hq' : tmps[q]?.getD undef = b := by simpa [Array.getD_eq_getD_getElem?] using hq
  have ha : (asAddr (tmps[p]?.getD undef)).run Try.prog W = .ok ⟨g, 0, none⟩ W := by rw [hp']; rfl
  simp [results, h, Sem.run_bind, ha, hr, hq']

/-- what a head says -/
def seqB (l : Text) : Int := IntKind.i64.wrap (numT ((l.drop 5).take 8))
def lenB (l : Text) : Nat := numT ((l.drop 13).take 4)
def sumB (l : Text) : Nat := numT ((l.drop 17).take 4)
def isB (l : Text) : Bool := decide (l.length = 64) && headOk (seqB l) (lenB l) && decide (l = headP (seqB l).toNat (lenB l) (sumB l))
def beginV (l : Text) : Value := if isB l = true then .tuple #[headV (seqB l) (lenB l) (sumB l), .bool true] else .tuple #[headV 0 0 0, .bool false]
theorem num4 (l : Text) : numT (l.take 4) < 4294967296 := by
  have h := numT_lt (l.take 4)
  have h2 : 256 ^ (l.take 4).length ≤ 256 ^ 4 := Nat.pow_le_pow_right (by decide) (by rw [List.length_take]; omega)
  have h3 : 256 ^ 4 = 4294967296 := by decide
  omega
theorem headT_und : ∃ fs, Try.prog.underlying 96 = some (.struct fs) := ⟨_, Try.underlying96⟩
set_option maxHeartbeats 2000000 in
theorem code_begin_no (l : Text) (A : Option Addr) (c : Nat) (w : World) (hT : Txt w A l) (hl : l.length = 64) (hc : 64 ≤ c) (hh : headOk (seqB l) (lenB l) = false) :
    Calls Try.prog 48 #[.slice A l.length c] w fun e w' => e = .returned (beginV l) ∧ Below w.heap.size w w' := by
  obtain ⟨b, o, rfl, hb, hr⟩ := txt_mid hT (by intro e; subst e; simp at hl)
  have hlb : l.length = 64 := hl
  obtain ⟨X1, hX1⟩ : ∃ X, X = numT ((l.drop 5).take 8) := ⟨_, rfl⟩
  obtain ⟨X2, hX2⟩ : ∃ X, X = lenB l := ⟨_, rfl⟩
  obtain ⟨X3, hX3⟩ : ∃ X, X = sumB l := ⟨_, rfl⟩
  obtain ⟨Z1, hZ1⟩ : ∃ Z, Z = seqB l := ⟨_, rfl⟩
  have j1 : IntKind.i64.wrap (X1 : Int) = Z1 := by rw [hX1, hZ1]; rfl
  have b2 : X2 < 4294967296 := by rw [hX2]; exact num4 _
  have b3 : X3 < 4294967296 := by rw [hX3]; exact num4 _
  have j2 : IntKind.i64.wrap (X2 : Int) = (X2 : Int) := by rw [IntKind.wrap_i64]; omega
  have j3 : IntKind.u32.wrap (X3 : Int) = (X3 : Int) := by rw [IntKind.wrap_u32]; omega
  have k13 : (13 : Int) ≤ (c : Int) := by omega
  have k17 : (17 : Int) ≤ (c : Int) := by omega
  have k21 : (21 : Int) ≤ (c : Int) := by omega
  have n5 : ¬ c = 5 := by omega
  have n13 : ¬ c = 13 := by omega
  have n17 : ¬ c = 17 := by omega
  have HV : Hid (beginV l = .tuple #[headV 0 0 0, .bool false]) := Lib.hid (by unfold beginV isB; rw [hh]; simp)
  have HH : Hid (∀ W, Calls Try.prog 70 #[headV Z1 X2 X3] W fun e w' => e = .returned (.bool false) ∧ Below W.heap.size W w') := Lib.hid (fun W => by have := code_isHead Z1 X2 X3 W; rwa [hZ1, hX2, hh, ← hZ1, ← hX2] at this)
  unfold headV at HH
  clear hh
  have HP : Hid (∀ W, Calls Try.prog 68 #[.slice (some ⟨b, o, none⟩) 64 c] W fun e w' => e = .returned (.bool true) ∧ W = w') := Lib.hid (fun W => by have := code_isPage (some ⟨b, o, none⟩) l.length c W; rwa [decide_eq_true hl, hl] at this)
  have HN1 : Hid (∀ W, Txt W (some ⟨b, o, none⟩) l → Calls Try.prog 69 #[.slice (some ⟨b, o + 5, none⟩) 8 (c - 5)] W fun e w' => e = .returned (.int .u64 X1) ∧ W = w') := Lib.hid (fun W h => by
    have h2 := (h.drop 5).take 8
    rw [Addr.add_mid] at h2
    have := code_number _ _ (c - 5) W (by simp; omega) h2
    rw [show ((l.drop 5).take 8).length = 8 by simp [hlb], ← hX1] at this
    exact this)
  have HN2 : Hid (∀ W, Txt W (some ⟨b, o, none⟩) l → Calls Try.prog 69 #[.slice (some ⟨b, o + 13, none⟩) 4 (c - 13)] W fun e w' => e = .returned (.int .u64 X2) ∧ W = w') := Lib.hid (fun W h => by
    have h2 := (h.drop 13).take 4
    rw [Addr.add_mid] at h2
    have := code_number _ _ (c - 13) W (by simp; omega) h2
    rw [show ((l.drop 13).take 4).length = 4 by simp [hlb]] at this
    rw [hX2]
    exact this)
  have HN3 : Hid (∀ W, Txt W (some ⟨b, o, none⟩) l → Calls Try.prog 69 #[.slice (some ⟨b, o + 17, none⟩) 4 (c - 17)] W fun e w' => e = .returned (.int .u64 X3) ∧ W = w') := Lib.hid (fun W h => by
    have h2 := (h.drop 17).take 4
    rw [Addr.add_mid] at h2
    have := code_number _ _ (c - 17) W (by simp; omega) h2
    rw [show ((l.drop 17).take 4).length = 4 by simp [hlb]] at this
    rw [hX3]
    exact this)
  have HL := Lib.hid hlb
  have HRW : Hid ((w.alloc (headO 0 0 0)).rangeAt b o (l.map cellOf)) := Lib.hid (range_on (below_alloc w _) hr)
  have HBW : Hid (Below w.heap.size w (w.alloc (headO 0 0 0))) := Lib.hid (below_alloc w _)
  have HZH : Hid ((w.alloc (headO 0 0 0)).heap[w.heap.size]? = some (headO 0 0 0)) := Lib.hid (heap_alloc_new w _)
  have hsa := fun w => array_at pageT (some ⟨b, o, none⟩) c w
  rw [hl]
  clear hT hl hlb hr hX1 hX2 hX3 hZ1 hc b2 b3
  unfold headO at HBW HZH HRW
  go_enter Try.func48, Try.ntmps48
  go_wp2_with (go_at_call 68; refine (HP.out _).mono ?_; rintro e w1 ⟨rfl, rfl⟩)
  generalize (w.alloc (.cells #[.int .i64 0, .int .i64 0, .int .u32 0] 96)) = wb at HBW HZH HRW ⊢
  have HLT : Hid (b < wb.drew.heap.size) := Lib.hid (Nat.lt_of_lt_of_le hb HBW.out.size)
  go_cut [4] from 5 (fun s4 wx => ∃ g, s4 = .pointer (some ⟨g, 0, none⟩) ∧ Hid (wx.heap[g]? = some (headO Z1 X2 X3)) ∧ Hid (Below wb.heap.size wb wx))
  case first =>
    refine wp_region_held_drew (S := fun W => W.rangeAt b o (l.map cellOf)) (by kernel_rfl) (range_on (below_drew wb) HRW.out) ?_
    intro hHeld
    have HBB := Lib.hid (below_drew wb)
    generalize wb.drew = w0 at HLT HBB hHeld ⊢
    (refine takeH (i := 0) (v := ?_) rfl (by kernel_rfl) (by kernel_rfl) (by kernel_rfl) (fun _ _ _ h => h) (Or.inl ⟨by rfl, ?_⟩) (by assumption) ?_; rotate_left; (focus ((intro wS hSw); (try dsimp only at hSw); have s0 := hSw; go_simp; (try with_reducible rfl); done)); (try simp only [Act.put, List.setIfInBounds_toArray, List.set_cons_zero, List.set_cons_succ]))
    (refine takeH (i := 1) (v := ?_) rfl (by kernel_rfl) (by kernel_rfl) (by kernel_rfl) (fun _ _ _ h => h) (Or.inl ⟨by rfl, ?_⟩) (by assumption) ?_; rotate_left; (focus ((intro wS hSw); (try dsimp only at hSw); have s0 := hSw; go_simp; (try with_reducible rfl); done)); (try simp only [Act.put, List.setIfInBounds_toArray, List.set_cons_zero, List.set_cons_succ]))
    (refine takeH (i := 4) (v := ?_) rfl (by kernel_rfl) (by kernel_rfl) (by kernel_rfl) (fun _ _ _ h => h) (Or.inl ⟨by rfl, ?_⟩) (by assumption) ?_; rotate_left; (focus ((intro wS hSw); (try dsimp only at hSw); have s0 := hSw; go_simp; (try with_reducible rfl); done)); (try simp only [Act.put, List.setIfInBounds_toArray, List.set_cons_zero, List.set_cons_succ]))
    (refine takeH (i := 5) (v := ?_) rfl (by kernel_rfl) (by kernel_rfl) (by kernel_rfl) (fun _ _ _ h => h) (Or.inl ⟨by rfl, ?_⟩) (by assumption) ?_; rotate_left; (focus ((intro wS hSw); (try dsimp only at hSw); have s0 := hSw; go_simp; (try with_reducible rfl); done)); (try simp only [Act.put, List.setIfInBounds_toArray, List.set_cons_zero, List.set_cons_succ]))
    (refine takeH (i := 8) (v := ?_) rfl (by kernel_rfl) (by kernel_rfl) (by kernel_rfl) (fun _ _ _ h => h) (Or.inl ⟨by rfl, ?_⟩) (by assumption) ?_; rotate_left; (focus ((intro wS hSw); (try dsimp only at hSw); have s0 := hSw; go_simp; (try with_reducible rfl); done)); (try simp only [Act.put, List.setIfInBounds_toArray, List.set_cons_zero, List.set_cons_succ]))
    (refine takeH (i := 9) (v := ?_) rfl (by kernel_rfl) (by kernel_rfl) (by kernel_rfl) (fun _ _ _ h => h) (Or.inl ⟨by rfl, ?_⟩) (by assumption) ?_; rotate_left; (focus ((intro wS hSw); (try dsimp only at hSw); have s0 := hSw; go_simp; (try with_reducible rfl); done)); (try simp only [Act.put, List.setIfInBounds_toArray, List.set_cons_zero, List.set_cons_succ]))
    refine twoH (i := 2) (i2 := 13) rfl rfl (by kernel_rfl) (fun K hK => ?_) (fun K hK => ?_)
    · rw [if_pos (by rfl)]
      go_simp; ((refine (HN1.out w0 (mid_txt hHeld)).mono ?_); (rintro e w1 ⟨rfl, rfl⟩); (try go_simp))
      have HB1 : Hid (Below w0.heap.size w0 w0) := Lib.hid (Below.refl _ _)
      refine hK.out _ _ (hHeld) (fun hNew => ?_)
      clear hK K hHeld; (have hHeld := hNew); clear hNew; (try simp only [Act.put, List.setIfInBounds_toArray, List.set_cons_zero, List.set_cons_succ])
      (refine takeH (i := 3) (v := ?_) rfl (by kernel_rfl) (by kernel_rfl) (by kernel_rfl) (fun _ _ _ h => h) (Or.inl ⟨by rfl, ?_⟩) (by assumption) ?_; rotate_left; (focus ((intro wS hSw); (try dsimp only at hSw); have s0 := hSw; go_simp; (try with_reducible rfl); done)); (try simp only [Act.put, List.setIfInBounds_toArray, List.set_cons_zero, List.set_cons_succ]))
      refine twoH (i := 6) (i2 := 13) rfl rfl (by kernel_rfl) (fun K hK => ?_) (fun K hK => ?_)
      · rw [if_pos (by rfl)]
        go_simp; ((refine (HN2.out w0 (mid_txt hHeld)).mono ?_); (rintro e w2 ⟨rfl, rfl⟩); (try go_simp))
        have HB2 : Hid (Below w0.heap.size w0 w0) := Lib.hid (Below.refl _ _)
        refine hK.out _ _ (hHeld) (fun hNew => ?_)
        clear hK K hHeld; (have hHeld := hNew); clear hNew; (try simp only [Act.put, List.setIfInBounds_toArray, List.set_cons_zero, List.set_cons_succ])
        (refine takeH (i := 7) (v := ?_) rfl (by kernel_rfl) (by kernel_rfl) (by kernel_rfl) (fun _ _ _ h => h) (Or.inl ⟨by rfl, ?_⟩) (by assumption) ?_; rotate_left; (focus ((intro wS hSw); (try dsimp only at hSw); have s0 := hSw; go_simp; (try with_reducible rfl); done)); (try simp only [Act.put, List.setIfInBounds_toArray, List.set_cons_zero, List.set_cons_succ]))
        refine twoH (i := 10) (i2 := 13) rfl rfl (by kernel_rfl) (fun K hK => ?_) (fun K hK => ?_)
        · rw [if_pos (by rfl)]
          go_simp; ((refine (HN3.out w0 (mid_txt hHeld)).mono ?_); (rintro e w3 ⟨rfl, rfl⟩); (try go_simp))
          have HB3 : Hid (Below w0.heap.size w0 w0) := Lib.hid (Below.refl _ _)
          refine hK.out _ _ (hHeld) (fun hNew => ?_)
          clear hK K hHeld; (have hHeld := hNew); clear hNew; (try simp only [Act.put, List.setIfInBounds_toArray, List.set_cons_zero, List.set_cons_succ])
          (refine takeH (i := 11) (v := ?_) rfl (by kernel_rfl) (by kernel_rfl) (by kernel_rfl) (fun _ _ _ h => h) (Or.inl ⟨by rfl, ?_⟩) (by assumption) ?_; rotate_left; (focus ((intro wS hSw); (try dsimp only at hSw); have s0 := hSw; go_simp; (try with_reducible rfl); done)); (try simp only [Act.put, List.setIfInBounds_toArray, List.set_cons_zero, List.set_cons_succ]))
          (refine takeH (i := 12) (v := ?_) rfl (by kernel_rfl) (by kernel_rfl) (by kernel_rfl) (fun _ _ _ h => h) (Or.inl ⟨by rfl, ?_⟩) (by assumption) ?_; rotate_left; (focus ((intro wS hSw); (try dsimp only at hSw); have s0 := hSw; go_simp; (try with_reducible rfl); done)); (try simp only [Act.put, List.setIfInBounds_toArray, List.set_cons_zero, List.set_cons_succ]))
          refine aloneH (i := 13) rfl (by kernel_rfl) (fun K hK => ?_)
          rw [if_pos (by rfl)]
          go_simp; (have HA := Lib.hid (heap_alloc_new w0 (.cells #[.int .i64 0, .int .i64 0, .int .u32 0] 96)); have HB4 := Lib.hid (below_alloc w0 (.cells #[.int .i64 0, .int .i64 0, .int .u32 0] 96)); generalize hx4 : World.alloc w0 (.cells #[.int .i64 0, .int .i64 0, .int .u32 0] 96) = w4 at HA HB4 ⊢; clear hx4)
          refine hK.out _ _ (range_on HB4.out hHeld) (fun hNew => ?_)
          clear hK K hHeld; (have hHeld := hNew); clear hNew; (try simp only [Act.put, List.setIfInBounds_toArray, List.set_cons_zero, List.set_cons_succ])
          refine aloneH (i := 14) rfl (by kernel_rfl) (fun K hK => ?_)
          rw [if_pos (by rfl)]
          have HG : Hid (w4.heap[w0.heap.size]? = some (.cells #[.int .i64 0, .int .i64 0, .int .u32 0] 96)) := Lib.hid (heap_on (below_same w4) HA.out)
          refine wp_store_row 96 (.tmp 4) (.tmp 21) rfl w0.heap.size rfl [.int .i64 Z1, .int .i64 X2, .int .u32 X3] (by kernel_rfl) (one3 _ _ _ _ _ _) rfl #[.int .i64 0, .int .i64 0, .int .u32 0] rfl _ HG.out ?_
          refine hK.out _ _ (range_setRow (Nat.ne_of_lt (Nat.lt_of_lt_of_le HLT.out (below_then (below_then HB1.out HB2.out) HB3.out).size)) hHeld) (fun hNew => ?_)
          clear hK K hHeld; (have hHeld := hNew); clear hNew; (try simp only [Act.put])
          refine wpAnyH_done (by kernel_rfl) ?_ _
          go_wp2_with fail
          go_meet
          case rel => exact ⟨w0.heap.size, rfl, Lib.hid (setRow_heap _ _ _ _ _ _ HG.out), Lib.hid (below_setRow (below_then HBB.out (below_then (below_then (below_then HB1.out HB2.out) HB3.out) HB4.out)) (Nat.le_trans HBB.out.size (below_then (below_then HB1.out HB2.out) HB3.out).size) _)⟩
        · rw [if_pos (by rfl)]
          go_simp; (have HA := Lib.hid (heap_alloc_new w0 (.cells #[.int .i64 0, .int .i64 0, .int .u32 0] 96)); have HB3 := Lib.hid (below_alloc w0 (.cells #[.int .i64 0, .int .i64 0, .int .u32 0] 96)); generalize hx3 : World.alloc w0 (.cells #[.int .i64 0, .int .i64 0, .int .u32 0] 96) = w3 at HA HB3 ⊢; clear hx3)
          refine hK.out _ _ (range_on HB3.out hHeld) (fun hNew => ?_)
          clear hK K hHeld; (have hHeld := hNew); clear hNew; (try simp only [Act.put, List.setIfInBounds_toArray, List.set_cons_zero, List.set_cons_succ])
          refine aloneH (i := 10) rfl (by kernel_rfl) (fun K hK => ?_)
          rw [if_pos (by rfl)]
          go_simp; ((refine (HN3.out w3 (mid_txt hHeld)).mono ?_); (rintro e w4 ⟨rfl, rfl⟩); (try go_simp))
          have HB4 : Hid (Below w3.heap.size w3 w3) := Lib.hid (Below.refl _ _)
          refine hK.out _ _ (hHeld) (fun hNew => ?_)
          clear hK K hHeld; (have hHeld := hNew); clear hNew; (try simp only [Act.put, List.setIfInBounds_toArray, List.set_cons_zero, List.set_cons_succ])
          (refine takeH (i := 11) (v := ?_) rfl (by kernel_rfl) (by kernel_rfl) (by kernel_rfl) (fun _ _ _ h => h) (Or.inl ⟨by rfl, ?_⟩) (by assumption) ?_; rotate_left; (focus ((intro wS hSw); (try dsimp only at hSw); have s0 := hSw; go_simp; (try with_reducible rfl); done)); (try simp only [Act.put, List.setIfInBounds_toArray, List.set_cons_zero, List.set_cons_succ]))
          (refine takeH (i := 12) (v := ?_) rfl (by kernel_rfl) (by kernel_rfl) (by kernel_rfl) (fun _ _ _ h => h) (Or.inl ⟨by rfl, ?_⟩) (by assumption) ?_; rotate_left; (focus ((intro wS hSw); (try dsimp only at hSw); have s0 := hSw; go_simp; (try with_reducible rfl); done)); (try simp only [Act.put, List.setIfInBounds_toArray, List.set_cons_zero, List.set_cons_succ]))
          refine aloneH (i := 14) rfl (by kernel_rfl) (fun K hK => ?_)
          rw [if_pos (by rfl)]
          have HG : Hid (w3.heap[w0.heap.size]? = some (.cells #[.int .i64 0, .int .i64 0, .int .u32 0] 96)) := Lib.hid (heap_on HB4.out HA.out)
          refine wp_store_row 96 (.tmp 4) (.tmp 21) rfl w0.heap.size rfl [.int .i64 Z1, .int .i64 X2, .int .u32 X3] (by kernel_rfl) (one3 _ _ _ _ _ _) rfl #[.int .i64 0, .int .i64 0, .int .u32 0] rfl _ HG.out ?_
          refine hK.out _ _ (range_setRow (Nat.ne_of_lt (Nat.lt_of_lt_of_le HLT.out (below_then HB1.out HB2.out).size)) hHeld) (fun hNew => ?_)
          clear hK K hHeld; (have hHeld := hNew); clear hNew; (try simp only [Act.put])
          refine wpAnyH_done (by kernel_rfl) ?_ _
          go_wp2_with fail
          go_meet
          case rel => exact ⟨w0.heap.size, rfl, Lib.hid (setRow_heap _ _ _ _ _ _ HG.out), Lib.hid (below_setRow (below_then HBB.out (below_then (below_then (below_then HB1.out HB2.out) HB3.out) HB4.out)) (Nat.le_trans HBB.out.size (below_then HB1.out HB2.out).size) _)⟩
      · rw [if_pos (by rfl)]
        go_simp; (have HA := Lib.hid (heap_alloc_new w0 (.cells #[.int .i64 0, .int .i64 0, .int .u32 0] 96)); have HB2 := Lib.hid (below_alloc w0 (.cells #[.int .i64 0, .int .i64 0, .int .u32 0] 96)); generalize hx2 : World.alloc w0 (.cells #[.int .i64 0, .int .i64 0, .int .u32 0] 96) = w2 at HA HB2 ⊢; clear hx2)
        refine hK.out _ _ (range_on HB2.out hHeld) (fun hNew => ?_)
        clear hK K hHeld; (have hHeld := hNew); clear hNew; (try simp only [Act.put, List.setIfInBounds_toArray, List.set_cons_zero, List.set_cons_succ])
        refine aloneH (i := 6) rfl (by kernel_rfl) (fun K hK => ?_)
        rw [if_pos (by rfl)]
        go_simp; ((refine (HN2.out w2 (mid_txt hHeld)).mono ?_); (rintro e w3 ⟨rfl, rfl⟩); (try go_simp))
        have HB3 : Hid (Below w2.heap.size w2 w2) := Lib.hid (Below.refl _ _)
        refine hK.out _ _ (hHeld) (fun hNew => ?_)
        clear hK K hHeld; (have hHeld := hNew); clear hNew; (try simp only [Act.put, List.setIfInBounds_toArray, List.set_cons_zero, List.set_cons_succ])
        (refine takeH (i := 7) (v := ?_) rfl (by kernel_rfl) (by kernel_rfl) (by kernel_rfl) (fun _ _ _ h => h) (Or.inl ⟨by rfl, ?_⟩) (by assumption) ?_; rotate_left; (focus ((intro wS hSw); (try dsimp only at hSw); have s0 := hSw; go_simp; (try with_reducible rfl); done)); (try simp only [Act.put, List.setIfInBounds_toArray, List.set_cons_zero, List.set_cons_succ]))
        refine aloneH (i := 10) rfl (by kernel_rfl) (fun K hK => ?_)
        rw [if_pos (by rfl)]
        go_simp; ((refine (HN3.out w2 (mid_txt hHeld)).mono ?_); (rintro e w4 ⟨rfl, rfl⟩); (try go_simp))
        have HB4 : Hid (Below w2.heap.size w2 w2) := Lib.hid (Below.refl _ _)
        refine hK.out _ _ (hHeld) (fun hNew => ?_)
        clear hK K hHeld; (have hHeld := hNew); clear hNew; (try simp only [Act.put, List.setIfInBounds_toArray, List.set_cons_zero, List.set_cons_succ])
        (refine takeH (i := 11) (v := ?_) rfl (by kernel_rfl) (by kernel_rfl) (by kernel_rfl) (fun _ _ _ h => h) (Or.inl ⟨by rfl, ?_⟩) (by assumption) ?_; rotate_left; (focus ((intro wS hSw); (try dsimp only at hSw); have s0 := hSw; go_simp; (try with_reducible rfl); done)); (try simp only [Act.put, List.setIfInBounds_toArray, List.set_cons_zero, List.set_cons_succ]))
        (refine takeH (i := 12) (v := ?_) rfl (by kernel_rfl) (by kernel_rfl) (by kernel_rfl) (fun _ _ _ h => h) (Or.inl ⟨by rfl, ?_⟩) (by assumption) ?_; rotate_left; (focus ((intro wS hSw); (try dsimp only at hSw); have s0 := hSw; go_simp; (try with_reducible rfl); done)); (try simp only [Act.put, List.setIfInBounds_toArray, List.set_cons_zero, List.set_cons_succ]))
        refine aloneH (i := 14) rfl (by kernel_rfl) (fun K hK => ?_)
        rw [if_pos (by rfl)]
        have HG : Hid (w2.heap[w0.heap.size]? = some (.cells #[.int .i64 0, .int .i64 0, .int .u32 0] 96)) := Lib.hid (heap_on (below_then HB3.out HB4.out) HA.out)
        refine wp_store_row 96 (.tmp 4) (.tmp 21) rfl w0.heap.size rfl [.int .i64 Z1, .int .i64 X2, .int .u32 X3] (by kernel_rfl) (one3 _ _ _ _ _ _) rfl #[.int .i64 0, .int .i64 0, .int .u32 0] rfl _ HG.out ?_
        refine hK.out _ _ (range_setRow (Nat.ne_of_lt (Nat.lt_of_lt_of_le HLT.out HB1.out.size)) hHeld) (fun hNew => ?_)
        clear hK K hHeld; (have hHeld := hNew); clear hNew; (try simp only [Act.put])
        refine wpAnyH_done (by kernel_rfl) ?_ _
        go_wp2_with fail
        go_meet
        case rel => exact ⟨w0.heap.size, rfl, Lib.hid (setRow_heap _ _ _ _ _ _ HG.out), Lib.hid (below_setRow (below_then HBB.out (below_then (below_then (below_then HB1.out HB2.out) HB3.out) HB4.out)) (Nat.le_trans HBB.out.size HB1.out.size) _)⟩
    · rw [if_pos (by rfl)]
      go_simp; (have HA := Lib.hid (heap_alloc_new w0 (.cells #[.int .i64 0, .int .i64 0, .int .u32 0] 96)); have HB1 := Lib.hid (below_alloc w0 (.cells #[.int .i64 0, .int .i64 0, .int .u32 0] 96)); generalize hx1 : World.alloc w0 (.cells #[.int .i64 0, .int .i64 0, .int .u32 0] 96) = w1 at HA HB1 ⊢; clear hx1)
      refine hK.out _ _ (range_on HB1.out hHeld) (fun hNew => ?_)
      clear hK K hHeld; (have hHeld := hNew); clear hNew; (try simp only [Act.put, List.setIfInBounds_toArray, List.set_cons_zero, List.set_cons_succ])
      refine aloneH (i := 2) rfl (by kernel_rfl) (fun K hK => ?_)
      rw [if_pos (by rfl)]
      go_simp; ((refine (HN1.out w1 (mid_txt hHeld)).mono ?_); (rintro e w2 ⟨rfl, rfl⟩); (try go_simp))
      have HB2 : Hid (Below w1.heap.size w1 w1) := Lib.hid (Below.refl _ _)
      refine hK.out _ _ (hHeld) (fun hNew => ?_)
      clear hK K hHeld; (have hHeld := hNew); clear hNew; (try simp only [Act.put, List.setIfInBounds_toArray, List.set_cons_zero, List.set_cons_succ])
      (refine takeH (i := 3) (v := ?_) rfl (by kernel_rfl) (by kernel_rfl) (by kernel_rfl) (fun _ _ _ h => h) (Or.inl ⟨by rfl, ?_⟩) (by assumption) ?_; rotate_left; (focus ((intro wS hSw); (try dsimp only at hSw); have s0 := hSw; go_simp; (try with_reducible rfl); done)); (try simp only [Act.put, List.setIfInBounds_toArray, List.set_cons_zero, List.set_cons_succ]))
      refine aloneH (i := 6) rfl (by kernel_rfl) (fun K hK => ?_)
      rw [if_pos (by rfl)]
      go_simp; ((refine (HN2.out w1 (mid_txt hHeld)).mono ?_); (rintro e w3 ⟨rfl, rfl⟩); (try go_simp))
      have HB3 : Hid (Below w1.heap.size w1 w1) := Lib.hid (Below.refl _ _)
      refine hK.out _ _ (hHeld) (fun hNew => ?_)
      clear hK K hHeld; (have hHeld := hNew); clear hNew; (try simp only [Act.put, List.setIfInBounds_toArray, List.set_cons_zero, List.set_cons_succ])
      (refine takeH (i := 7) (v := ?_) rfl (by kernel_rfl) (by kernel_rfl) (by kernel_rfl) (fun _ _ _ h => h) (Or.inl ⟨by rfl, ?_⟩) (by assumption) ?_; rotate_left; (focus ((intro wS hSw); (try dsimp only at hSw); have s0 := hSw; go_simp; (try with_reducible rfl); done)); (try simp only [Act.put, List.setIfInBounds_toArray, List.set_cons_zero, List.set_cons_succ]))
      refine aloneH (i := 10) rfl (by kernel_rfl) (fun K hK => ?_)
      rw [if_pos (by rfl)]
      go_simp; ((refine (HN3.out w1 (mid_txt hHeld)).mono ?_); (rintro e w4 ⟨rfl, rfl⟩); (try go_simp))
      have HB4 : Hid (Below w1.heap.size w1 w1) := Lib.hid (Below.refl _ _)
      refine hK.out _ _ (hHeld) (fun hNew => ?_)
      clear hK K hHeld; (have hHeld := hNew); clear hNew; (try simp only [Act.put, List.setIfInBounds_toArray, List.set_cons_zero, List.set_cons_succ])
      (refine takeH (i := 11) (v := ?_) rfl (by kernel_rfl) (by kernel_rfl) (by kernel_rfl) (fun _ _ _ h => h) (Or.inl ⟨by rfl, ?_⟩) (by assumption) ?_; rotate_left; (focus ((intro wS hSw); (try dsimp only at hSw); have s0 := hSw; go_simp; (try with_reducible rfl); done)); (try simp only [Act.put, List.setIfInBounds_toArray, List.set_cons_zero, List.set_cons_succ]))
      (refine takeH (i := 12) (v := ?_) rfl (by kernel_rfl) (by kernel_rfl) (by kernel_rfl) (fun _ _ _ h => h) (Or.inl ⟨by rfl, ?_⟩) (by assumption) ?_; rotate_left; (focus ((intro wS hSw); (try dsimp only at hSw); have s0 := hSw; go_simp; (try with_reducible rfl); done)); (try simp only [Act.put, List.setIfInBounds_toArray, List.set_cons_zero, List.set_cons_succ]))
      refine aloneH (i := 14) rfl (by kernel_rfl) (fun K hK => ?_)
      rw [if_pos (by rfl)]
      have HG : Hid (w1.heap[w0.heap.size]? = some (.cells #[.int .i64 0, .int .i64 0, .int .u32 0] 96)) := Lib.hid (heap_on (below_then (below_then HB2.out HB3.out) HB4.out) HA.out)
      refine wp_store_row 96 (.tmp 4) (.tmp 21) rfl w0.heap.size rfl [.int .i64 Z1, .int .i64 X2, .int .u32 X3] (by kernel_rfl) (one3 _ _ _ _ _ _) rfl #[.int .i64 0, .int .i64 0, .int .u32 0] rfl _ HG.out ?_
      refine hK.out _ _ (range_setRow (Nat.ne_of_lt (Nat.lt_of_lt_of_le HLT.out (below_same w0).size)) hHeld) (fun hNew => ?_)
      clear hK K hHeld; (have hHeld := hNew); clear hNew; (try simp only [Act.put])
      refine wpAnyH_done (by kernel_rfl) ?_ _
      go_wp2_with fail
      go_meet
      case rel => exact ⟨w0.heap.size, rfl, Lib.hid (setRow_heap _ _ _ _ _ _ HG.out), Lib.hid (below_setRow (below_then HBB.out (below_then (below_then (below_then HB1.out HB2.out) HB3.out) HB4.out)) (Nat.le_trans HBB.out.size (below_same w0).size) _)⟩
  case rest =>
    obtain ⟨g, rfl, HG1, HB1⟩ := hcut
    unfold headO at HG1
    go_wp2_with fail
    have hHd := head_cells (w := wc) HG1.out
    refine wp_region_held_drew (S := fun W => W.cell? ⟨g, 0, none⟩ = some (.int .i64 Z1) ∧ W.cell? ⟨g, 1, none⟩ = some (.int .i64 X2) ∧ W.cell? ⟨g, 2, none⟩ = some (.int .u32 X3) ∧ W.rangeAt b o (l.map cellOf)) (by kernel_rfl) ⟨hHd.1, hHd.2.1, hHd.2.2, range_on HB1.out.drew HRW.out⟩ ?_
    intro hHeld
    have HBD := Lib.hid (HBW.out.trans (HB1.out.drew.mono HBW.out.size))
    have HGD : Hid (wc.drew.heap[g]? = some (.cells #[.int .i64 Z1, .int .i64 X2, .int .u32 X3] 96)) := Lib.hid HG1.out
    have HZD : Hid (wc.drew.heap[w.heap.size]? = some (.cells #[.int .i64 0, .int .i64 0, .int .u32 0] 96)) := Lib.hid (heap_on HB1.out.drew HZH.out)
    clear HB1 HG1 hHd HBW HZH HRW HLT
    generalize wc.drew = w0 at HBD HGD HZD hHeld ⊢
    (refine takeH (i := 0) (v := ?_) rfl (by kernel_rfl) (by kernel_rfl) (by kernel_rfl) (fun _ _ _ h => h) (Or.inl ⟨by rfl, ?_⟩) (by assumption) ?_; rotate_left; (focus ((intro wS hSw); (try dsimp only at hSw); obtain ⟨s0, s1, s2, s3⟩ := hSw; go_simp; (try with_reducible rfl); done)); (try simp only [Act.put, List.setIfInBounds_toArray, List.set_cons_zero, List.set_cons_succ]))
    refine aloneH (i := 1) rfl (by kernel_rfl) (fun K hK => ?_)
    rw [if_pos (by rfl)]
    go_simp; ((refine (HH.out w0).mono ?_); (rintro e w1 ⟨rfl, hb⟩); have HB1 := Lib.hid hb; clear hb; (try go_simp))
    refine hK.out _ _ (⟨cell_on HB1.out hHeld.1, cell_on HB1.out hHeld.2.1, cell_on HB1.out hHeld.2.2.1, range_on HB1.out hHeld.2.2.2⟩) (fun hNew => ?_)
    clear hK K hHeld; (have hHeld := hNew); clear hNew; (try simp only [Act.put, List.setIfInBounds_toArray, List.set_cons_zero, List.set_cons_succ])
    (refine takeH (i := 2) (v := ?_) rfl (by kernel_rfl) (by kernel_rfl) (by kernel_rfl) (fun _ _ _ h => h) (Or.inl ⟨by rfl, ?_⟩) (by assumption) ?_; rotate_left; (focus ((intro wS hSw); (try dsimp only at hSw); obtain ⟨s0, s1, s2, s3⟩ := hSw; go_simp; (try with_reducible rfl); done)); (try simp only [Act.put, List.setIfInBounds_toArray, List.set_cons_zero, List.set_cons_succ]))
    (refine takeH (i := 3) (v := ?_) rfl (by kernel_rfl) (by kernel_rfl) (by kernel_rfl) (fun _ _ _ h => h) (Or.inl ⟨by rfl, ?_⟩) (by assumption) ?_; rotate_left; (focus ((intro wS hSw); (try dsimp only at hSw); obtain ⟨s0, s1, s2, s3⟩ := hSw; go_simp; (try with_reducible rfl); done)); (try simp only [Act.put, List.setIfInBounds_toArray, List.set_cons_zero, List.set_cons_succ]))
    (refine takeH (i := 4) (v := undef) rfl (by kernel_rfl) (by kernel_rfl) (by kernel_rfl) (fun _ _ _ h => h) (Or.inr ⟨by rfl, rfl⟩) (by assumption) ?_; (try simp only [Act.put, List.setIfInBounds_toArray, List.set_cons_zero, List.set_cons_succ]))
    (refine takeH (i := 5) (v := undef) rfl (by kernel_rfl) (by kernel_rfl) (by kernel_rfl) (fun _ _ _ h => h) (Or.inr ⟨by rfl, rfl⟩) (by assumption) ?_; (try simp only [Act.put, List.setIfInBounds_toArray, List.set_cons_zero, List.set_cons_succ]))
    (refine takeH (i := 6) (v := undef) rfl (by kernel_rfl) (by kernel_rfl) (by kernel_rfl) (fun _ _ _ h => h) (Or.inr ⟨by rfl, rfl⟩) (by assumption) ?_; (try simp only [Act.put, List.setIfInBounds_toArray, List.set_cons_zero, List.set_cons_succ]))
    (refine takeH (i := 7) (v := undef) rfl (by kernel_rfl) (by kernel_rfl) (by kernel_rfl) (fun _ _ _ h => h) (Or.inr ⟨by rfl, rfl⟩) (by assumption) ?_; (try simp only [Act.put, List.setIfInBounds_toArray, List.set_cons_zero, List.set_cons_succ]))
    (refine takeH (i := 8) (v := undef) rfl (by kernel_rfl) (by kernel_rfl) (by kernel_rfl) (fun _ _ _ h => h) (Or.inr ⟨by rfl, rfl⟩) (by assumption) ?_; (try simp only [Act.put, List.setIfInBounds_toArray, List.set_cons_zero, List.set_cons_succ]))
    (refine takeH (i := 9) (v := undef) rfl (by kernel_rfl) (by kernel_rfl) (by kernel_rfl) (fun _ _ _ h => h) (Or.inr ⟨by rfl, rfl⟩) (by assumption) ?_; (try simp only [Act.put, List.setIfInBounds_toArray, List.set_cons_zero, List.set_cons_succ]))
    (refine takeH (i := 10) (v := ?_) rfl (by kernel_rfl) (by kernel_rfl) (by kernel_rfl) (fun _ _ _ h => h) (Or.inl ⟨by rfl, ?_⟩) (by assumption) ?_; rotate_left; (focus ((intro wS hSw); (try dsimp only at hSw); obtain ⟨s0, s1, s2, s3⟩ := hSw; go_simp; (try with_reducible rfl); done)); (try simp only [Act.put, List.setIfInBounds_toArray, List.set_cons_zero, List.set_cons_succ]))
    refine wpAnyH_done (by kernel_rfl) ?_ _
    have HW3 : Hid (Below w0.heap.size w0 w1) := Lib.hid HB1.out
    have HZ3 : Hid (w1.heap[w.heap.size]? = some (.cells #[.int .i64 0, .int .i64 0, .int .u32 0] 96)) := Lib.hid (heap_on HW3.out HZD.out)
    go_wp2_with ((with_reducible refine wpList_store_row 96 (o := ⟨none, _, _, _, _, _⟩) ?a1 (.tmp 2) (.tmp 33) ?a2 w.heap.size ?a3 [.int .i64 0, .int .i64 0, .int .u32 0] ?a4 ?a5 ?a6 #[.int .i64 0, .int .i64 0, .int .u32 0] ?a7 96 ?a8 ?_); (case a1 => rfl); (case a2 => rfl); (case a3 => rfl); (case a4 => kernel_rfl); (case a5 => exact one3 _ _ _ _ _ _); (case a6 => rfl); (case a7 => rfl); (case a8 => exact HZ3.out); (try simp only [Act.put]))
    refine bodyPost_ret (results_head headT_und (by kernel_rfl) rfl _ _ w.heap.size _ _ _ (.bool false) rfl rfl _ _ (setRow_heap _ _ _ _ _ _ HZ3.out)) rfl ⟨by rw [HV.out]; rfl, ?_⟩
    exact below_setRow (HBD.out.trans (HW3.out.mono HBD.out.size)) (Nat.le_refl _) _

set_option maxHeartbeats 2000000 in
theorem code_begin_yes (l : Text) (A : Option Addr) (c : Nat) (w : World) (hT : Txt w A l) (hl : l.length = 64) (hc : 64 ≤ c) (hh : headOk (seqB l) (lenB l) = true) :
    Calls Try.prog 48 #[.slice A l.length c] w fun e w' => e = .returned (beginV l) ∧ Below w.heap.size w w' := by
  obtain ⟨b, o, rfl, hb, hr⟩ := txt_mid hT (by intro e; subst e; simp at hl)
  have hlb : l.length = 64 := hl
  obtain ⟨X1, hX1⟩ : ∃ X, X = numT ((l.drop 5).take 8) := ⟨_, rfl⟩
  obtain ⟨X2, hX2⟩ : ∃ X, X = lenB l := ⟨_, rfl⟩
  obtain ⟨X3, hX3⟩ : ∃ X, X = sumB l := ⟨_, rfl⟩
  obtain ⟨Z1, hZ1⟩ : ∃ Z, Z = seqB l := ⟨_, rfl⟩
  have j1 : IntKind.i64.wrap (X1 : Int) = Z1 := by rw [hX1, hZ1]; rfl
  have b2 : X2 < 4294967296 := by rw [hX2]; exact num4 _
  have b3 : X3 < 4294967296 := by rw [hX3]; exact num4 _
  have j2 : IntKind.i64.wrap (X2 : Int) = (X2 : Int) := by rw [IntKind.wrap_i64]; omega
  have j3 : IntKind.u32.wrap (X3 : Int) = (X3 : Int) := by rw [IntKind.wrap_u32]; omega
  have k13 : (13 : Int) ≤ (c : Int) := by omega
  have k17 : (17 : Int) ≤ (c : Int) := by omega
  have k21 : (21 : Int) ≤ (c : Int) := by omega
  have n5 : ¬ c = 5 := by omega
  have n13 : ¬ c = 13 := by omega
  have n17 : ¬ c = 17 := by omega
  obtain ⟨q, hq⟩ : ∃ q, decide (l = headP (seqB l).toNat (lenB l) (sumB l)) = !q := ⟨_, (Bool.not_not _).symm⟩
  have HV : Hid (beginV l = if q = true then .tuple #[headV 0 0 0, .bool false] else .tuple #[headV Z1 X2 X3, .bool true]) := Lib.hid (by unfold beginV isB; rw [hh, hq, hl, hZ1, hX2, hX3]; cases q <;> simp)
  have HQ : Hid (decide (l = headP Z1.toNat X2 X3) = !q) := Lib.hid (by rw [hZ1, hX2, hX3]; exact hq)
  have HH : Hid (∀ W, Calls Try.prog 70 #[headV Z1 X2 X3] W fun e w' => e = .returned (.bool true) ∧ Below W.heap.size W w') := Lib.hid (fun W => by have := code_isHead Z1 X2 X3 W; rwa [hZ1, hX2, hh, ← hZ1, ← hX2] at this)
  have HE : Hid (∀ W, Calls Try.prog 71 #[headV Z1 X2 X3] W fun e w' => e = .returned (pageV (headP Z1.toNat X2 X3)) ∧ Below W.heap.size W w') := Lib.hid (fun W => by
    have h0 : headOk Z1 X2 = true := by rw [hZ1, hX2]; exact hh
    have hx : seqOk Z1 = true ∧ 0 < needV X2 := by unfold headOk at h0; simpa using h0
    obtain ⟨s1, s2⟩ := (seqOk_iff Z1).1 hx.1
    have hn : X2 ≤ 131072 := by
      have := hx.2
      unfold needV at this
      by_cases hc2 : (X2 : Int) < 1 ∨ 131072 < (X2 : Int)
      · rw [if_pos hc2] at this; omega
      · omega
    obtain ⟨S, hS⟩ : ∃ S : Nat, Z1 = S := ⟨Z1.toNat, by omega⟩
    rw [hS, Int.toNat_natCast]
    exact code_headPage S X2 X3 W (by omega) hn b3)
  unfold headV at HH HE
  clear hh hq
  have HP : Hid (∀ W, Calls Try.prog 68 #[.slice (some ⟨b, o, none⟩) 64 c] W fun e w' => e = .returned (.bool true) ∧ W = w') := Lib.hid (fun W => by have := code_isPage (some ⟨b, o, none⟩) l.length c W; rwa [decide_eq_true hl, hl] at this)
  have HN1 : Hid (∀ W, Txt W (some ⟨b, o, none⟩) l → Calls Try.prog 69 #[.slice (some ⟨b, o + 5, none⟩) 8 (c - 5)] W fun e w' => e = .returned (.int .u64 X1) ∧ W = w') := Lib.hid (fun W h => by
    have h2 := (h.drop 5).take 8
    rw [Addr.add_mid] at h2
    have := code_number _ _ (c - 5) W (by simp; omega) h2
    rw [show ((l.drop 5).take 8).length = 8 by simp [hlb], ← hX1] at this
    exact this)
  have HN2 : Hid (∀ W, Txt W (some ⟨b, o, none⟩) l → Calls Try.prog 69 #[.slice (some ⟨b, o + 13, none⟩) 4 (c - 13)] W fun e w' => e = .returned (.int .u64 X2) ∧ W = w') := Lib.hid (fun W h => by
    have h2 := (h.drop 13).take 4
    rw [Addr.add_mid] at h2
    have := code_number _ _ (c - 13) W (by simp; omega) h2
    rw [show ((l.drop 13).take 4).length = 4 by simp [hlb]] at this
    rw [hX2]
    exact this)
  have HN3 : Hid (∀ W, Txt W (some ⟨b, o, none⟩) l → Calls Try.prog 69 #[.slice (some ⟨b, o + 17, none⟩) 4 (c - 17)] W fun e w' => e = .returned (.int .u64 X3) ∧ W = w') := Lib.hid (fun W h => by
    have h2 := (h.drop 17).take 4
    rw [Addr.add_mid] at h2
    have := code_number _ _ (c - 17) W (by simp; omega) h2
    rw [show ((l.drop 17).take 4).length = 4 by simp [hlb]] at this
    rw [hX3]
    exact this)
  have HL := Lib.hid hlb
  have HRW : Hid ((w.alloc (headO 0 0 0)).rangeAt b o (l.map cellOf)) := Lib.hid (range_on (below_alloc w _) hr)
  have HBW : Hid (Below w.heap.size w (w.alloc (headO 0 0 0))) := Lib.hid (below_alloc w _)
  have HZH : Hid ((w.alloc (headO 0 0 0)).heap[w.heap.size]? = some (headO 0 0 0)) := Lib.hid (heap_alloc_new w _)
  have hsa := fun w => array_at pageT (some ⟨b, o, none⟩) c w
  rw [hl]
  clear hT hl hlb hr hX1 hX2 hX3 hZ1 hc b2 b3
  unfold headO at HBW HZH HRW
  go_enter Try.func48, Try.ntmps48
  go_wp2_with (go_at_call 68; refine (HP.out _).mono ?_; rintro e w1 ⟨rfl, rfl⟩)
  generalize (w.alloc (.cells #[.int .i64 0, .int .i64 0, .int .u32 0] 96)) = wb at HBW HZH HRW ⊢
  have HLT : Hid (b < wb.drew.heap.size) := Lib.hid (Nat.lt_of_lt_of_le hb HBW.out.size)
  go_cut [4] from 5 (fun s4 wx => ∃ g, s4 = .pointer (some ⟨g, 0, none⟩) ∧ Hid (wx.heap[g]? = some (headO Z1 X2 X3)) ∧ Hid (Below wb.heap.size wb wx))
  case first =>
    refine wp_region_held_drew (S := fun W => W.rangeAt b o (l.map cellOf)) (by kernel_rfl) (range_on (below_drew wb) HRW.out) ?_
    intro hHeld
    have HBB := Lib.hid (below_drew wb)
    generalize wb.drew = w0 at HLT HBB hHeld ⊢
    (refine takeH (i := 0) (v := ?_) rfl (by kernel_rfl) (by kernel_rfl) (by kernel_rfl) (fun _ _ _ h => h) (Or.inl ⟨by rfl, ?_⟩) (by assumption) ?_; rotate_left; (focus ((intro wS hSw); (try dsimp only at hSw); have s0 := hSw; go_simp; (try with_reducible rfl); done)); (try simp only [Act.put, List.setIfInBounds_toArray, List.set_cons_zero, List.set_cons_succ]))
    (refine takeH (i := 1) (v := ?_) rfl (by kernel_rfl) (by kernel_rfl) (by kernel_rfl) (fun _ _ _ h => h) (Or.inl ⟨by rfl, ?_⟩) (by assumption) ?_; rotate_left; (focus ((intro wS hSw); (try dsimp only at hSw); have s0 := hSw; go_simp; (try with_reducible rfl); done)); (try simp only [Act.put, List.setIfInBounds_toArray, List.set_cons_zero, List.set_cons_succ]))
    (refine takeH (i := 4) (v := ?_) rfl (by kernel_rfl) (by kernel_rfl) (by kernel_rfl) (fun _ _ _ h => h) (Or.inl ⟨by rfl, ?_⟩) (by assumption) ?_; rotate_left; (focus ((intro wS hSw); (try dsimp only at hSw); have s0 := hSw; go_simp; (try with_reducible rfl); done)); (try simp only [Act.put, List.setIfInBounds_toArray, List.set_cons_zero, List.set_cons_succ]))
    (refine takeH (i := 5) (v := ?_) rfl (by kernel_rfl) (by kernel_rfl) (by kernel_rfl) (fun _ _ _ h => h) (Or.inl ⟨by rfl, ?_⟩) (by assumption) ?_; rotate_left; (focus ((intro wS hSw); (try dsimp only at hSw); have s0 := hSw; go_simp; (try with_reducible rfl); done)); (try simp only [Act.put, List.setIfInBounds_toArray, List.set_cons_zero, List.set_cons_succ]))
    (refine takeH (i := 8) (v := ?_) rfl (by kernel_rfl) (by kernel_rfl) (by kernel_rfl) (fun _ _ _ h => h) (Or.inl ⟨by rfl, ?_⟩) (by assumption) ?_; rotate_left; (focus ((intro wS hSw); (try dsimp only at hSw); have s0 := hSw; go_simp; (try with_reducible rfl); done)); (try simp only [Act.put, List.setIfInBounds_toArray, List.set_cons_zero, List.set_cons_succ]))
    (refine takeH (i := 9) (v := ?_) rfl (by kernel_rfl) (by kernel_rfl) (by kernel_rfl) (fun _ _ _ h => h) (Or.inl ⟨by rfl, ?_⟩) (by assumption) ?_; rotate_left; (focus ((intro wS hSw); (try dsimp only at hSw); have s0 := hSw; go_simp; (try with_reducible rfl); done)); (try simp only [Act.put, List.setIfInBounds_toArray, List.set_cons_zero, List.set_cons_succ]))
    refine twoH (i := 2) (i2 := 13) rfl rfl (by kernel_rfl) (fun K hK => ?_) (fun K hK => ?_)
    · rw [if_pos (by rfl)]
      go_simp; ((refine (HN1.out w0 (mid_txt hHeld)).mono ?_); (rintro e w1 ⟨rfl, rfl⟩); (try go_simp))
      have HB1 : Hid (Below w0.heap.size w0 w0) := Lib.hid (Below.refl _ _)
      refine hK.out _ _ (hHeld) (fun hNew => ?_)
      clear hK K hHeld; (have hHeld := hNew); clear hNew; (try simp only [Act.put, List.setIfInBounds_toArray, List.set_cons_zero, List.set_cons_succ])
      (refine takeH (i := 3) (v := ?_) rfl (by kernel_rfl) (by kernel_rfl) (by kernel_rfl) (fun _ _ _ h => h) (Or.inl ⟨by rfl, ?_⟩) (by assumption) ?_; rotate_left; (focus ((intro wS hSw); (try dsimp only at hSw); have s0 := hSw; go_simp; (try with_reducible rfl); done)); (try simp only [Act.put, List.setIfInBounds_toArray, List.set_cons_zero, List.set_cons_succ]))
      refine twoH (i := 6) (i2 := 13) rfl rfl (by kernel_rfl) (fun K hK => ?_) (fun K hK => ?_)
      · rw [if_pos (by rfl)]
        go_simp; ((refine (HN2.out w0 (mid_txt hHeld)).mono ?_); (rintro e w2 ⟨rfl, rfl⟩); (try go_simp))
        have HB2 : Hid (Below w0.heap.size w0 w0) := Lib.hid (Below.refl _ _)
        refine hK.out _ _ (hHeld) (fun hNew => ?_)
        clear hK K hHeld; (have hHeld := hNew); clear hNew; (try simp only [Act.put, List.setIfInBounds_toArray, List.set_cons_zero, List.set_cons_succ])
        (refine takeH (i := 7) (v := ?_) rfl (by kernel_rfl) (by kernel_rfl) (by kernel_rfl) (fun _ _ _ h => h) (Or.inl ⟨by rfl, ?_⟩) (by assumption) ?_; rotate_left; (focus ((intro wS hSw); (try dsimp only at hSw); have s0 := hSw; go_simp; (try with_reducible rfl); done)); (try simp only [Act.put, List.setIfInBounds_toArray, List.set_cons_zero, List.set_cons_succ]))
        refine twoH (i := 10) (i2 := 13) rfl rfl (by kernel_rfl) (fun K hK => ?_) (fun K hK => ?_)
        · rw [if_pos (by rfl)]
          go_simp; ((refine (HN3.out w0 (mid_txt hHeld)).mono ?_); (rintro e w3 ⟨rfl, rfl⟩); (try go_simp))
          have HB3 : Hid (Below w0.heap.size w0 w0) := Lib.hid (Below.refl _ _)
          refine hK.out _ _ (hHeld) (fun hNew => ?_)
          clear hK K hHeld; (have hHeld := hNew); clear hNew; (try simp only [Act.put, List.setIfInBounds_toArray, List.set_cons_zero, List.set_cons_succ])
          (refine takeH (i := 11) (v := ?_) rfl (by kernel_rfl) (by kernel_rfl) (by kernel_rfl) (fun _ _ _ h => h) (Or.inl ⟨by rfl, ?_⟩) (by assumption) ?_; rotate_left; (focus ((intro wS hSw); (try dsimp only at hSw); have s0 := hSw; go_simp; (try with_reducible rfl); done)); (try simp only [Act.put, List.setIfInBounds_toArray, List.set_cons_zero, List.set_cons_succ]))
          (refine takeH (i := 12) (v := ?_) rfl (by kernel_rfl) (by kernel_rfl) (by kernel_rfl) (fun _ _ _ h => h) (Or.inl ⟨by rfl, ?_⟩) (by assumption) ?_; rotate_left; (focus ((intro wS hSw); (try dsimp only at hSw); have s0 := hSw; go_simp; (try with_reducible rfl); done)); (try simp only [Act.put, List.setIfInBounds_toArray, List.set_cons_zero, List.set_cons_succ]))
          refine aloneH (i := 13) rfl (by kernel_rfl) (fun K hK => ?_)
          rw [if_pos (by rfl)]
          go_simp; (have HA := Lib.hid (heap_alloc_new w0 (.cells #[.int .i64 0, .int .i64 0, .int .u32 0] 96)); have HB4 := Lib.hid (below_alloc w0 (.cells #[.int .i64 0, .int .i64 0, .int .u32 0] 96)); generalize hx4 : World.alloc w0 (.cells #[.int .i64 0, .int .i64 0, .int .u32 0] 96) = w4 at HA HB4 ⊢; clear hx4)
          refine hK.out _ _ (range_on HB4.out hHeld) (fun hNew => ?_)
          clear hK K hHeld; (have hHeld := hNew); clear hNew; (try simp only [Act.put, List.setIfInBounds_toArray, List.set_cons_zero, List.set_cons_succ])
          refine aloneH (i := 14) rfl (by kernel_rfl) (fun K hK => ?_)
          rw [if_pos (by rfl)]
          have HG : Hid (w4.heap[w0.heap.size]? = some (.cells #[.int .i64 0, .int .i64 0, .int .u32 0] 96)) := Lib.hid (heap_on (below_same w4) HA.out)
          refine wp_store_row 96 (.tmp 4) (.tmp 21) rfl w0.heap.size rfl [.int .i64 Z1, .int .i64 X2, .int .u32 X3] (by kernel_rfl) (one3 _ _ _ _ _ _) rfl #[.int .i64 0, .int .i64 0, .int .u32 0] rfl _ HG.out ?_
          refine hK.out _ _ (range_setRow (Nat.ne_of_lt (Nat.lt_of_lt_of_le HLT.out (below_then (below_then HB1.out HB2.out) HB3.out).size)) hHeld) (fun hNew => ?_)
          clear hK K hHeld; (have hHeld := hNew); clear hNew; (try simp only [Act.put])
          refine wpAnyH_done (by kernel_rfl) ?_ _
          go_wp2_with fail
          go_meet
          case rel => exact ⟨w0.heap.size, rfl, Lib.hid (setRow_heap _ _ _ _ _ _ HG.out), Lib.hid (below_setRow (below_then HBB.out (below_then (below_then (below_then HB1.out HB2.out) HB3.out) HB4.out)) (Nat.le_trans HBB.out.size (below_then (below_then HB1.out HB2.out) HB3.out).size) _)⟩
        · rw [if_pos (by rfl)]
          go_simp; (have HA := Lib.hid (heap_alloc_new w0 (.cells #[.int .i64 0, .int .i64 0, .int .u32 0] 96)); have HB3 := Lib.hid (below_alloc w0 (.cells #[.int .i64 0, .int .i64 0, .int .u32 0] 96)); generalize hx3 : World.alloc w0 (.cells #[.int .i64 0, .int .i64 0, .int .u32 0] 96) = w3 at HA HB3 ⊢; clear hx3)
          refine hK.out _ _ (range_on HB3.out hHeld) (fun hNew => ?_)
          clear hK K hHeld; (have hHeld := hNew); clear hNew; (try simp only [Act.put, List.setIfInBounds_toArray, List.set_cons_zero, List.set_cons_succ])
          refine aloneH (i := 10) rfl (by kernel_rfl) (fun K hK => ?_)
          rw [if_pos (by rfl)]
          go_simp; ((refine (HN3.out w3 (mid_txt hHeld)).mono ?_); (rintro e w4 ⟨rfl, rfl⟩); (try go_simp))
          have HB4 : Hid (Below w3.heap.size w3 w3) := Lib.hid (Below.refl _ _)
          refine hK.out _ _ (hHeld) (fun hNew => ?_)
          clear hK K hHeld; (have hHeld := hNew); clear hNew; (try simp only [Act.put, List.setIfInBounds_toArray, List.set_cons_zero, List.set_cons_succ])
          (refine takeH (i := 11) (v := ?_) rfl (by kernel_rfl) (by kernel_rfl) (by kernel_rfl) (fun _ _ _ h => h) (Or.inl ⟨by rfl, ?_⟩) (by assumption) ?_; rotate_left; (focus ((intro wS hSw); (try dsimp only at hSw); have s0 := hSw; go_simp; (try with_reducible rfl); done)); (try simp only [Act.put, List.setIfInBounds_toArray, List.set_cons_zero, List.set_cons_succ]))
          (refine takeH (i := 12) (v := ?_) rfl (by kernel_rfl) (by kernel_rfl) (by kernel_rfl) (fun _ _ _ h => h) (Or.inl ⟨by rfl, ?_⟩) (by assumption) ?_; rotate_left; (focus ((intro wS hSw); (try dsimp only at hSw); have s0 := hSw; go_simp; (try with_reducible rfl); done)); (try simp only [Act.put, List.setIfInBounds_toArray, List.set_cons_zero, List.set_cons_succ]))
          refine aloneH (i := 14) rfl (by kernel_rfl) (fun K hK => ?_)
          rw [if_pos (by rfl)]
          have HG : Hid (w3.heap[w0.heap.size]? = some (.cells #[.int .i64 0, .int .i64 0, .int .u32 0] 96)) := Lib.hid (heap_on HB4.out HA.out)
          refine wp_store_row 96 (.tmp 4) (.tmp 21) rfl w0.heap.size rfl [.int .i64 Z1, .int .i64 X2, .int .u32 X3] (by kernel_rfl) (one3 _ _ _ _ _ _) rfl #[.int .i64 0, .int .i64 0, .int .u32 0] rfl _ HG.out ?_
          refine hK.out _ _ (range_setRow (Nat.ne_of_lt (Nat.lt_of_lt_of_le HLT.out (below_then HB1.out HB2.out).size)) hHeld) (fun hNew => ?_)
          clear hK K hHeld; (have hHeld := hNew); clear hNew; (try simp only [Act.put])
          refine wpAnyH_done (by kernel_rfl) ?_ _
          go_wp2_with fail
          go_meet
          case rel => exact ⟨w0.heap.size, rfl, Lib.hid (setRow_heap _ _ _ _ _ _ HG.out), Lib.hid (below_setRow (below_then HBB.out (below_then (below_then (below_then HB1.out HB2.out) HB3.out) HB4.out)) (Nat.le_trans HBB.out.size (below_then HB1.out HB2.out).size) _)⟩
      · rw [if_pos (by rfl)]
        go_simp; (have HA := Lib.hid (heap_alloc_new w0 (.cells #[.int .i64 0, .int .i64 0, .int .u32 0] 96)); have HB2 := Lib.hid (below_alloc w0 (.cells #[.int .i64 0, .int .i64 0, .int .u32 0] 96)); generalize hx2 : World.alloc w0 (.cells #[.int .i64 0, .int .i64 0, .int .u32 0] 96) = w2 at HA HB2 ⊢; clear hx2)
        refine hK.out _ _ (range_on HB2.out hHeld) (fun hNew => ?_)
        clear hK K hHeld; (have hHeld := hNew); clear hNew; (try simp only [Act.put, List.setIfInBounds_toArray, List.set_cons_zero, List.set_cons_succ])
        refine aloneH (i := 6) rfl (by kernel_rfl) (fun K hK => ?_)
        rw [if_pos (by rfl)]
        go_simp; ((refine (HN2.out w2 (mid_txt hHeld)).mono ?_); (rintro e w3 ⟨rfl, rfl⟩); (try go_simp))
        have HB3 : Hid (Below w2.heap.size w2 w2) := Lib.hid (Below.refl _ _)
        refine hK.out _ _ (hHeld) (fun hNew => ?_)
        clear hK K hHeld; (have hHeld := hNew); clear hNew; (try simp only [Act.put, List.setIfInBounds_toArray, List.set_cons_zero, List.set_cons_succ])
        (refine takeH (i := 7) (v := ?_) rfl (by kernel_rfl) (by kernel_rfl) (by kernel_rfl) (fun _ _ _ h => h) (Or.inl ⟨by rfl, ?_⟩) (by assumption) ?_; rotate_left; (focus ((intro wS hSw); (try dsimp only at hSw); have s0 := hSw; go_simp; (try with_reducible rfl); done)); (try simp only [Act.put, List.setIfInBounds_toArray, List.set_cons_zero, List.set_cons_succ]))
        refine aloneH (i := 10) rfl (by kernel_rfl) (fun K hK => ?_)
        rw [if_pos (by rfl)]
        go_simp; ((refine (HN3.out w2 (mid_txt hHeld)).mono ?_); (rintro e w4 ⟨rfl, rfl⟩); (try go_simp))
        have HB4 : Hid (Below w2.heap.size w2 w2) := Lib.hid (Below.refl _ _)
        refine hK.out _ _ (hHeld) (fun hNew => ?_)
        clear hK K hHeld; (have hHeld := hNew); clear hNew; (try simp only [Act.put, List.setIfInBounds_toArray, List.set_cons_zero, List.set_cons_succ])
        (refine takeH (i := 11) (v := ?_) rfl (by kernel_rfl) (by kernel_rfl) (by kernel_rfl) (fun _ _ _ h => h) (Or.inl ⟨by rfl, ?_⟩) (by assumption) ?_; rotate_left; (focus ((intro wS hSw); (try dsimp only at hSw); have s0 := hSw; go_simp; (try with_reducible rfl); done)); (try simp only [Act.put, List.setIfInBounds_toArray, List.set_cons_zero, List.set_cons_succ]))
        (refine takeH (i := 12) (v := ?_) rfl (by kernel_rfl) (by kernel_rfl) (by kernel_rfl) (fun _ _ _ h => h) (Or.inl ⟨by rfl, ?_⟩) (by assumption) ?_; rotate_left; (focus ((intro wS hSw); (try dsimp only at hSw); have s0 := hSw; go_simp; (try with_reducible rfl); done)); (try simp only [Act.put, List.setIfInBounds_toArray, List.set_cons_zero, List.set_cons_succ]))
        refine aloneH (i := 14) rfl (by kernel_rfl) (fun K hK => ?_)
        rw [if_pos (by rfl)]
        have HG : Hid (w2.heap[w0.heap.size]? = some (.cells #[.int .i64 0, .int .i64 0, .int .u32 0] 96)) := Lib.hid (heap_on (below_then HB3.out HB4.out) HA.out)
        refine wp_store_row 96 (.tmp 4) (.tmp 21) rfl w0.heap.size rfl [.int .i64 Z1, .int .i64 X2, .int .u32 X3] (by kernel_rfl) (one3 _ _ _ _ _ _) rfl #[.int .i64 0, .int .i64 0, .int .u32 0] rfl _ HG.out ?_
        refine hK.out _ _ (range_setRow (Nat.ne_of_lt (Nat.lt_of_lt_of_le HLT.out HB1.out.size)) hHeld) (fun hNew => ?_)
        clear hK K hHeld; (have hHeld := hNew); clear hNew; (try simp only [Act.put])
        refine wpAnyH_done (by kernel_rfl) ?_ _
        go_wp2_with fail
        go_meet
        case rel => exact ⟨w0.heap.size, rfl, Lib.hid (setRow_heap _ _ _ _ _ _ HG.out), Lib.hid (below_setRow (below_then HBB.out (below_then (below_then (below_then HB1.out HB2.out) HB3.out) HB4.out)) (Nat.le_trans HBB.out.size HB1.out.size) _)⟩
    · rw [if_pos (by rfl)]
      go_simp; (have HA := Lib.hid (heap_alloc_new w0 (.cells #[.int .i64 0, .int .i64 0, .int .u32 0] 96)); have HB1 := Lib.hid (below_alloc w0 (.cells #[.int .i64 0, .int .i64 0, .int .u32 0] 96)); generalize hx1 : World.alloc w0 (.cells #[.int .i64 0, .int .i64 0, .int .u32 0] 96) = w1 at HA HB1 ⊢; clear hx1)
      refine hK.out _ _ (range_on HB1.out hHeld) (fun hNew => ?_)
      clear hK K hHeld; (have hHeld := hNew); clear hNew; (try simp only [Act.put, List.setIfInBounds_toArray, List.set_cons_zero, List.set_cons_succ])
      refine aloneH (i := 2) rfl (by kernel_rfl) (fun K hK => ?_)
      rw [if_pos (by rfl)]
      go_simp; ((refine (HN1.out w1 (mid_txt hHeld)).mono ?_); (rintro e w2 ⟨rfl, rfl⟩); (try go_simp))
      have HB2 : Hid (Below w1.heap.size w1 w1) := Lib.hid (Below.refl _ _)
      refine hK.out _ _ (hHeld) (fun hNew => ?_)
      clear hK K hHeld; (have hHeld := hNew); clear hNew; (try simp only [Act.put, List.setIfInBounds_toArray, List.set_cons_zero, List.set_cons_succ])
      (refine takeH (i := 3) (v := ?_) rfl (by kernel_rfl) (by kernel_rfl) (by kernel_rfl) (fun _ _ _ h => h) (Or.inl ⟨by rfl, ?_⟩) (by assumption) ?_; rotate_left; (focus ((intro wS hSw); (try dsimp only at hSw); have s0 := hSw; go_simp; (try with_reducible rfl); done)); (try simp only [Act.put, List.setIfInBounds_toArray, List.set_cons_zero, List.set_cons_succ]))
      refine aloneH (i := 6) rfl (by kernel_rfl) (fun K hK => ?_)
      rw [if_pos (by rfl)]
      go_simp; ((refine (HN2.out w1 (mid_txt hHeld)).mono ?_); (rintro e w3 ⟨rfl, rfl⟩); (try go_simp))
      have HB3 : Hid (Below w1.heap.size w1 w1) := Lib.hid (Below.refl _ _)
      refine hK.out _ _ (hHeld) (fun hNew => ?_)
      clear hK K hHeld; (have hHeld := hNew); clear hNew; (try simp only [Act.put, List.setIfInBounds_toArray, List.set_cons_zero, List.set_cons_succ])
      (refine takeH (i := 7) (v := ?_) rfl (by kernel_rfl) (by kernel_rfl) (by kernel_rfl) (fun _ _ _ h => h) (Or.inl ⟨by rfl, ?_⟩) (by assumption) ?_; rotate_left; (focus ((intro wS hSw); (try dsimp only at hSw); have s0 := hSw; go_simp; (try with_reducible rfl); done)); (try simp only [Act.put, List.setIfInBounds_toArray, List.set_cons_zero, List.set_cons_succ]))
      refine aloneH (i := 10) rfl (by kernel_rfl) (fun K hK => ?_)
      rw [if_pos (by rfl)]
      go_simp; ((refine (HN3.out w1 (mid_txt hHeld)).mono ?_); (rintro e w4 ⟨rfl, rfl⟩); (try go_simp))
      have HB4 : Hid (Below w1.heap.size w1 w1) := Lib.hid (Below.refl _ _)
      refine hK.out _ _ (hHeld) (fun hNew => ?_)
      clear hK K hHeld; (have hHeld := hNew); clear hNew; (try simp only [Act.put, List.setIfInBounds_toArray, List.set_cons_zero, List.set_cons_succ])
      (refine takeH (i := 11) (v := ?_) rfl (by kernel_rfl) (by kernel_rfl) (by kernel_rfl) (fun _ _ _ h => h) (Or.inl ⟨by rfl, ?_⟩) (by assumption) ?_; rotate_left; (focus ((intro wS hSw); (try dsimp only at hSw); have s0 := hSw; go_simp; (try with_reducible rfl); done)); (try simp only [Act.put, List.setIfInBounds_toArray, List.set_cons_zero, List.set_cons_succ]))
      (refine takeH (i := 12) (v := ?_) rfl (by kernel_rfl) (by kernel_rfl) (by kernel_rfl) (fun _ _ _ h => h) (Or.inl ⟨by rfl, ?_⟩) (by assumption) ?_; rotate_left; (focus ((intro wS hSw); (try dsimp only at hSw); have s0 := hSw; go_simp; (try with_reducible rfl); done)); (try simp only [Act.put, List.setIfInBounds_toArray, List.set_cons_zero, List.set_cons_succ]))
      refine aloneH (i := 14) rfl (by kernel_rfl) (fun K hK => ?_)
      rw [if_pos (by rfl)]
      have HG : Hid (w1.heap[w0.heap.size]? = some (.cells #[.int .i64 0, .int .i64 0, .int .u32 0] 96)) := Lib.hid (heap_on (below_then (below_then HB2.out HB3.out) HB4.out) HA.out)
      refine wp_store_row 96 (.tmp 4) (.tmp 21) rfl w0.heap.size rfl [.int .i64 Z1, .int .i64 X2, .int .u32 X3] (by kernel_rfl) (one3 _ _ _ _ _ _) rfl #[.int .i64 0, .int .i64 0, .int .u32 0] rfl _ HG.out ?_
      refine hK.out _ _ (range_setRow (Nat.ne_of_lt (Nat.lt_of_lt_of_le HLT.out (below_same w0).size)) hHeld) (fun hNew => ?_)
      clear hK K hHeld; (have hHeld := hNew); clear hNew; (try simp only [Act.put])
      refine wpAnyH_done (by kernel_rfl) ?_ _
      go_wp2_with fail
      go_meet
      case rel => exact ⟨w0.heap.size, rfl, Lib.hid (setRow_heap _ _ _ _ _ _ HG.out), Lib.hid (below_setRow (below_then HBB.out (below_then (below_then (below_then HB1.out HB2.out) HB3.out) HB4.out)) (Nat.le_trans HBB.out.size (below_same w0).size) _)⟩
  case rest =>
    obtain ⟨g, rfl, HG1, HB1⟩ := hcut
    unfold headO at HG1
    go_wp2_with fail
    have hHd := head_cells (w := wc) HG1.out
    refine wp_region_held_drew (S := fun W => W.cell? ⟨g, 0, none⟩ = some (.int .i64 Z1) ∧ W.cell? ⟨g, 1, none⟩ = some (.int .i64 X2) ∧ W.cell? ⟨g, 2, none⟩ = some (.int .u32 X3) ∧ W.rangeAt b o (l.map cellOf)) (by kernel_rfl) ⟨hHd.1, hHd.2.1, hHd.2.2, range_on HB1.out.drew HRW.out⟩ ?_
    intro hHeld
    have HBD := Lib.hid (HBW.out.trans (HB1.out.drew.mono HBW.out.size))
    have HGD : Hid (wc.drew.heap[g]? = some (.cells #[.int .i64 Z1, .int .i64 X2, .int .u32 X3] 96)) := Lib.hid HG1.out
    have HZD : Hid (wc.drew.heap[w.heap.size]? = some (.cells #[.int .i64 0, .int .i64 0, .int .u32 0] 96)) := Lib.hid (heap_on HB1.out.drew HZH.out)
    clear HB1 HG1 hHd HBW HZH HRW HLT
    generalize wc.drew = w0 at HBD HGD HZD hHeld ⊢
    (refine takeH (i := 0) (v := ?_) rfl (by kernel_rfl) (by kernel_rfl) (by kernel_rfl) (fun _ _ _ h => h) (Or.inl ⟨by rfl, ?_⟩) (by assumption) ?_; rotate_left; (focus ((intro wS hSw); (try dsimp only at hSw); obtain ⟨s0, s1, s2, s3⟩ := hSw; go_simp; (try with_reducible rfl); done)); (try simp only [Act.put, List.setIfInBounds_toArray, List.set_cons_zero, List.set_cons_succ]))
    refine aloneH (i := 1) rfl (by kernel_rfl) (fun K hK => ?_)
    rw [if_pos (by rfl)]
    go_simp; ((refine (HH.out w0).mono ?_); (rintro e w1 ⟨rfl, hb⟩); have HB1 := Lib.hid hb; clear hb; (try go_simp))
    refine hK.out _ _ (⟨cell_on HB1.out hHeld.1, cell_on HB1.out hHeld.2.1, cell_on HB1.out hHeld.2.2.1, range_on HB1.out hHeld.2.2.2⟩) (fun hNew => ?_)
    clear hK K hHeld; (have hHeld := hNew); clear hNew; (try simp only [Act.put, List.setIfInBounds_toArray, List.set_cons_zero, List.set_cons_succ])
    (refine takeH (i := 2) (v := ?_) rfl (by kernel_rfl) (by kernel_rfl) (by kernel_rfl) (fun _ _ _ h => h) (Or.inl ⟨by rfl, ?_⟩) (by assumption) ?_; rotate_left; (focus ((intro wS hSw); (try dsimp only at hSw); obtain ⟨s0, s1, s2, s3⟩ := hSw; go_simp; (try with_reducible rfl); done)); (try simp only [Act.put, List.setIfInBounds_toArray, List.set_cons_zero, List.set_cons_succ]))
    (refine takeH (i := 3) (v := ?_) rfl (by kernel_rfl) (by kernel_rfl) (by kernel_rfl) (fun _ _ _ h => h) (Or.inl ⟨by rfl, ?_⟩) (by assumption) ?_; rotate_left; (focus ((intro wS hSw); (try dsimp only at hSw); obtain ⟨s0, s1, s2, s3⟩ := hSw; go_simp; (try with_reducible rfl); done)); (try simp only [Act.put, List.setIfInBounds_toArray, List.set_cons_zero, List.set_cons_succ]))
    (refine takeH (i := 4) (v := ?_) rfl (by kernel_rfl) (by kernel_rfl) (by kernel_rfl) (fun _ _ _ h => h) (Or.inl ⟨by rfl, ?_⟩) (by assumption) ?_; rotate_left; (focus ((intro wS hSw); (try dsimp only at hSw); obtain ⟨s0, s1, s2, s3⟩ := hSw; go_simp; (try with_reducible rfl); done)); (try simp only [Act.put, List.setIfInBounds_toArray, List.set_cons_zero, List.set_cons_succ]))
    (refine takeH (i := 5) (v := ?_) rfl (by kernel_rfl) (by kernel_rfl) (by kernel_rfl) (fun _ _ _ h => h) (Or.inl ⟨by rfl, ?_⟩) (by assumption) ?_; rotate_left; (focus ((intro wS hSw); (try dsimp only at hSw); obtain ⟨s0, s1, s2, s3⟩ := hSw; go_simp; (try with_reducible rfl); done)); (try simp only [Act.put, List.setIfInBounds_toArray, List.set_cons_zero, List.set_cons_succ]))
    (refine takeH (i := 6) (v := pageV l) rfl (by kernel_rfl) (by kernel_rfl) (by kernel_rfl) (fun _ _ _ h => h) (yieldsIf_load_pageM pageT (by rfl) (.tmp 27) rfl b o rfl l HL.out (fun _ h => h.2.2.2)) (by assumption) ?_; (try simp only [Act.put, List.setIfInBounds_toArray, List.set_cons_zero, List.set_cons_succ]))
    (refine takeH (i := 7) (v := ?_) rfl (by kernel_rfl) (by kernel_rfl) (by kernel_rfl) (fun _ _ _ h => h) (Or.inl ⟨by rfl, ?_⟩) (by assumption) ?_; rotate_left; (focus ((intro wS hSw); (try dsimp only at hSw); obtain ⟨s0, s1, s2, s3⟩ := hSw; go_simp; (try with_reducible rfl); done)); (try simp only [Act.put, List.setIfInBounds_toArray, List.set_cons_zero, List.set_cons_succ]))
    refine aloneH (i := 8) rfl (by kernel_rfl) (fun K hK => ?_)
    rw [if_pos (by rfl)]
    go_simp; ((refine (HE.out w1).mono ?_); (rintro e w2 ⟨rfl, hb⟩); have HB2 := Lib.hid hb; clear hb; (try go_simp))
    refine hK.out _ _ (⟨cell_on HB2.out hHeld.1, cell_on HB2.out hHeld.2.1, cell_on HB2.out hHeld.2.2.1, range_on HB2.out hHeld.2.2.2⟩) (fun hNew => ?_)
    clear hK K hHeld; (have hHeld := hNew); clear hNew; (try simp only [Act.put, List.setIfInBounds_toArray, List.set_cons_zero, List.set_cons_succ])
    (refine takeH (i := 9) (v := (.bool q)) rfl (by kernel_rfl) (by kernel_rfl) (by kernel_rfl) (fun _ _ _ h => h) (yieldsIf_neq_page pageT (by rfl) (.tmp 28) (.tmp 30) 128 rfl _ _ rfl rfl HL.out (headP_len _ _ _) q HQ.out) (by assumption) ?_; (try simp only [Act.put, List.setIfInBounds_toArray, List.set_cons_zero, List.set_cons_succ]))
    (refine takeH (i := 10) (v := ?_) rfl (by kernel_rfl) (by kernel_rfl) (by kernel_rfl) (fun _ _ _ h => h) (Or.inl ⟨by rfl, ?_⟩) (by assumption) ?_; rotate_left; (focus ((intro wS hSw); (try dsimp only at hSw); obtain ⟨s0, s1, s2, s3⟩ := hSw; go_simp; (try with_reducible rfl); done)); (try simp only [Act.put, List.setIfInBounds_toArray, List.set_cons_zero, List.set_cons_succ]))
    refine wpAnyH_done (by kernel_rfl) ?_ _
    have HW3 : Hid (Below w0.heap.size w0 w2) := Lib.hid (below_then HB1.out HB2.out)
    have HZ3 : Hid (w2.heap[w.heap.size]? = some (.cells #[.int .i64 0, .int .i64 0, .int .u32 0] 96)) := Lib.hid (heap_on HW3.out HZD.out)
    have HG3 : Hid (w2.heap[g]? = some (headO Z1 X2 X3)) := Lib.hid (heap_on HW3.out HGD.out)
    obtain ⟨y1, y2, y3⟩ := head_cells HG3.out
    cases q
    · go_wp2_with ((with_reducible refine wpList_store_row 96 (o := ⟨none, _, _, _, _, _⟩) ?a1 (.tmp 2) (.tmp 34) ?a2 w.heap.size ?a3 [.int .i64 Z1, .int .i64 X2, .int .u32 X3] ?a4 ?a5 ?a6 #[.int .i64 0, .int .i64 0, .int .u32 0] ?a7 96 ?a8 ?_); (case a1 => rfl); (case a2 => rfl); (case a3 => rfl); (case a4 => kernel_rfl); (case a5 => exact one3 _ _ _ _ _ _); (case a6 => rfl); (case a7 => rfl); (case a8 => exact HZ3.out); (try simp only [Act.put]))
      refine bodyPost_ret (results_head headT_und (by kernel_rfl) rfl _ _ w.heap.size _ _ _ (.bool true) rfl rfl _ _ (setRow_heap _ _ _ _ _ _ HZ3.out)) rfl ⟨by rw [HV.out]; rfl, ?_⟩
      exact below_setRow (HBD.out.trans (HW3.out.mono HBD.out.size)) (Nat.le_refl _) _
    · go_wp2_with ((with_reducible refine wpList_store_row 96 (o := ⟨none, _, _, _, _, _⟩) ?a1 (.tmp 2) (.tmp 33) ?a2 w.heap.size ?a3 [.int .i64 0, .int .i64 0, .int .u32 0] ?a4 ?a5 ?a6 #[.int .i64 0, .int .i64 0, .int .u32 0] ?a7 96 ?a8 ?_); (case a1 => rfl); (case a2 => rfl); (case a3 => rfl); (case a4 => kernel_rfl); (case a5 => exact one3 _ _ _ _ _ _); (case a6 => rfl); (case a7 => rfl); (case a8 => exact HZ3.out); (try simp only [Act.put]))
      refine bodyPost_ret (results_head headT_und (by kernel_rfl) rfl _ _ w.heap.size _ _ _ (.bool false) rfl rfl _ _ (setRow_heap _ _ _ _ _ _ HZ3.out)) rfl ⟨by rw [HV.out]; rfl, ?_⟩
      exact below_setRow (HBD.out.trans (HW3.out.mono HBD.out.size)) (Nat.le_refl _) _

end Go.Proofs.Ytfjejiapafdgeaa
