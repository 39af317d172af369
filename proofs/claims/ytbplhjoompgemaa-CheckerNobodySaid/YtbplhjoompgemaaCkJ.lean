/- A leaf, copied. -/
import Derived.Test.YtbplhjoompgemaaCkI
namespace Go.Proofs.Ytbplhjoompgemaa
open Go.RowKit
set_option maxRecDepth 100000
set_option linter.unusedSimpArgs false
set_option linter.unusedVariables false
attribute [local go_sem] Oper.semAt_some

theorem code_cloneFilter (w : World) : Calls Try.prog 58 #[.slice none 0 0] w fun e w' => e = .returned (.slice none 0 0) ∧ w' = w := by
  have hnil : ∀ w, Sem.run Try.prog (binOp .eql 38 (.slice none 0 0) (.slice none 0 0)) w = .ok (.bool true) w := fun _ => by first | rfl | kernel_rfl
  go_enter Try.func58, Try.ntmps58
  go_wp2
  go_ret
  exact ⟨rfl, rfl⟩
theorem code_clipFilter (w : World) : Calls Try.prog 57 #[.slice none 0 0] w fun e w' => e = .returned (.slice none 0 0) ∧ w' = w := by
  go_enter Try.func57, Try.ntmps57
  go_wp2
  go_ret
  exact ⟨rfl, rfl⟩
theorem code_exactFilter (w : World) : Calls Try.prog 40 #[.slice none 0 0] w fun e w' => e = .returned (.slice none 0 0) ∧ w' = w := by
  go_enter Try.func40, Try.ntmps40
  go_wp2_with (go_at_call 58; refine (code_cloneFilter _).mono ?_; rintro e w2 ⟨rfl, rfl⟩)
  go_wp2_with (go_at_call 57; refine (code_clipFilter _).mono ?_; rintro e w2 ⟨rfl, rfl⟩)
  go_ret
  exact ⟨rfl, rfl⟩
theorem code_cloneExpr (w : World) : Calls Try.prog 60 #[.slice none 0 0] w fun e w' => e = .returned (.slice none 0 0) ∧ w' = w := by
  have hnil : ∀ w, Sem.run Try.prog (binOp .eql 39 (.slice none 0 0) (.slice none 0 0)) w = .ok (.bool true) w := fun _ => by first | rfl | kernel_rfl
  go_enter Try.func60, Try.ntmps60
  go_wp2
  go_ret
  exact ⟨rfl, rfl⟩
theorem code_clipExpr (w : World) : Calls Try.prog 59 #[.slice none 0 0] w fun e w' => e = .returned (.slice none 0 0) ∧ w' = w := by
  go_enter Try.func59, Try.ntmps59
  go_wp2
  go_ret
  exact ⟨rfl, rfl⟩
theorem code_exactExpr (w : World) : Calls Try.prog 42 #[.slice none 0 0] w fun e w' => e = .returned (.slice none 0 0) ∧ w' = w := by
  go_enter Try.func42, Try.ntmps42
  go_wp2_with (go_at_call 60; refine (code_cloneExpr _).mono ?_; rintro e w2 ⟨rfl, rfl⟩)
  go_wp2_with (go_at_call 59; refine (code_clipExpr _).mono ?_; rintro e w2 ⟨rfl, rfl⟩)
  go_ret
  exact ⟨rfl, rfl⟩
theorem run_lookE (w : World) (m : Nat) (h : w.heap[m]? = some (.map #[] 0)) : (Instr.lookup 64 (.map (some m)) (.agg #[.pointer none, .int .i64 0]) true).run Try.prog w = .ok (.tuple #[.slice none 0 0, .bool false]) w := by
  have hz : (zeroValue 39).run Try.prog w = .ok (.slice none 0 0) w := by first | rfl | kernel_rfl | go_simp
  have hf := run_find w ((none, 0) : Key) (PlainK.nil w) [] (by simp)
  have hc := run_check w ((none, 0) : Key)
  have hk : kV ((none, 0) : Key) = .agg #[.pointer none, .int .i64 0] := rfl
  rw [hk] at hf hc
  simp only [entsL, findL] at hf
  simp only [Instr.lookup, Sem.run_bind, run_underlying Try.underlying64, Result.andThen_ok]
  simp only [MapKept.run_getObj_map h, Sem.run_bind, Sem.run_pure, Result.andThen_ok, hc]
  rw [hf]
  simp [hz]
theorem run_updE (w : World) (m : Nat) (v : Value) (h : w.heap[m]? = some (.map #[] 0)) : (Instr.mapUpdate 64 (.map (some m)) (.agg #[.pointer none, .int .i64 0]) v).run Try.prog w = .ok () { w with heap := w.heap.setIfInBounds m (.map #[{ key := .agg #[.pointer none, .int .i64 0], val := v, born := 0 }] 1) } := by
  have hf := run_find w ((none, 0) : Key) (PlainK.nil w) [] (by simp)
  have hc := run_check w ((none, 0) : Key)
  have hk : kV ((none, 0) : Key) = .agg #[.pointer none, .int .i64 0] := rfl
  rw [hk] at hf hc
  simp only [entsL, findL] at hf
  simp only [Instr.mapUpdate, Sem.run_bind, run_underlying Try.underlying64, Result.andThen_ok]
  simp only [MapKept.run_getObj_map h, Sem.run_bind, Sem.run_pure, Result.andThen_ok, hc]
  rw [hf]
  simp [MapKept.run_setObj_map _ h]
theorem mapset_chg (w : World) (m : Nat) (o : Obj) : Chg m w { w with heap := w.heap.setIfInBounds m o } :=
  ⟨rfl, rfl, rfl, by simp, fun k _ hr => by
    have : m ≠ k := fun e => hr (by rw [e])
    simp [Array.getElem?_setIfInBounds, this]⟩
theorem set4_5 {w : World} {R : Nat} {a b c d e : Value} {T : TypeId} (h : w.heap[R]? = some (.cells #[a, b, c, d, e] T (0, 0))) (v : Value) : (w.setCell ⟨R, 4, none⟩ v).heap[R]? = some (.cells #[a, b, c, d, v] T (0, 0)) :=
  by simpa using heap_setCell_same w R 4 _ _ v h
theorem Chg.over {m g : Nat} {a b c : World} (h : Chg m a b) (k : Chg g b c) (hg : a.heap.size ≤ g) : Chg m a c :=
  ⟨k.os.trans h.os, k.tape.trans h.tape, k.output.trans h.output, Nat.le_trans h.size k.size, fun i hi hr => (k.heap (Nat.lt_of_lt_of_le hi h.size) (by omega)).trans (h.block i hi hr)⟩
set_option maxHeartbeats 2000000 in
theorem copy1 (Ka Fa m : Nat) (tK : TypeId) (k n : Int) (w : World)
    (hK : w.heap[Ka]? = some (.cells #[.map (some m)] tK (0, 0))) (hM : w.heap[m]? = some (.map #[] 0)) :
    Calls Try.prog 39 #[lfV k n, .pointer (some ⟨Ka, 0, none⟩), .pointer (some ⟨Fa, 0, none⟩)] w fun e w' => e = .returned (lfV k n) ∧ Chg m w w' := by
  have HLo := Lib.hid (fun W => code_listOf 0 0 [] (Nat.zero_le _) W)
  have HK := Lib.hid hK
  have HM := Lib.hid hM
  clear hK hM
  unfold lfV
  go_enter Try.func39, Try.ntmps39
  go_wp2_with (go_at_call 40; refine (code_exactFilter _).mono ?_; rintro e w2 ⟨rfl, rfl⟩; refine Stop.out ?_)
  unfold Stop
  have H0 := Lib.hid (heap_alloc_new w (.cells #[.int .i64 k, .int .i64 n, .string ⟨#[]⟩, .slice none 0 0, .slice none 0 0] 41))
  have H1 := Lib.hid (heap_alloc_new (w.alloc (.cells #[.int .i64 k, .int .i64 n, .string ⟨#[]⟩, .slice none 0 0, .slice none 0 0] 41)) (.cells #[.int .i64 0, .int .i64 0, .string ⟨#[]⟩, .slice none 0 0, .slice none 0 0] 41))
  have hsz : (w.alloc (.cells #[.int .i64 k, .int .i64 n, .string ⟨#[]⟩, .slice none 0 0, .slice none 0 0] 41)).heap.size = w.heap.size + 1 := World.size_alloc _ _
  rw [hsz] at H1
  have HB1 := Lib.hid (below_then (below_alloc w (.cells #[.int .i64 k, .int .i64 n, .string ⟨#[]⟩, .slice none 0 0, .slice none 0 0] 41)) (below_alloc (w.alloc (.cells #[.int .i64 k, .int .i64 n, .string ⟨#[]⟩, .slice none 0 0, .slice none 0 0] 41)) (.cells #[.int .i64 0, .int .i64 0, .string ⟨#[]⟩, .slice none 0 0, .slice none 0 0] 41)))
  have H0b := Lib.hid (heap_on (below_alloc (w.alloc (.cells #[.int .i64 k, .int .i64 n, .string ⟨#[]⟩, .slice none 0 0, .slice none 0 0] 41)) (.cells #[.int .i64 0, .int .i64 0, .string ⟨#[]⟩, .slice none 0 0, .slice none 0 0] 41)) H0.out)
  clear hsz
  go_wp2_with (go_at_call 41; refine (HLo.out _).mono ?_; rintro e w3 ⟨rfl, hb⟩; refine Stop.out ?_)
  unfold Stop
  generalize (w.alloc (.cells #[.int .i64 k, .int .i64 n, .string ⟨#[]⟩, .slice none 0 0, .slice none 0 0] 41)).alloc (.cells #[.int .i64 0, .int .i64 0, .string ⟨#[]⟩, .slice none 0 0, .slice none 0 0] 41) = w1 at H1 HB1 H0b hb ⊢
  obtain ⟨g, hg⟩ : ∃ g, g = w.heap.size := ⟨_, rfl⟩
  have HGs := Lib.hid hg
  rw [← hg] at H1 H0b ⊢
  have HB3 := Lib.hid (below_then HB1.out hb)
  have H3 := Lib.hid (And.intro (heap_on hb H0b.out) (heap_on hb H1.out))
  clear hg H0 H1 H0b hb HB1
  have HN := Lib.hid (heap_alloc_new w3 (.cells #[.pointer none, .int .i64 0] 68))
  have HBF := Lib.hid (box_row w3 #[.pointer none, .int .i64 0] #[.pointer none, .int .i64 0] 68 rfl)
  have hkv : kV (keyOf 0 []) = .agg #[.pointer none, .int .i64 0] := rfl
  rw [hkv]
  clear hkv
  go_wp2_with ((with_reducible refine wpList_store_row (o := ⟨none, _, _, _, _, _⟩) 68 ?b0 (.tmp 5) (.tmp 16) ?b1 w3.heap.size ?b2 [.pointer none, .int .i64 0] ?b3 ?b4 ?b5 #[.pointer none, .int .i64 0] ?b6 68 ?b7 ?_); (case b0 => rfl); (case b1 => rfl); (case b2 => rfl); (case b3 => exact list_info); (case b4 => simp [Value.oneCell']); (case b5 => rfl); (case b6 => rfl); (case b7 => exact HN.out); (try simp only [Act.put]); refine Stop.out ?_)
  unfold Stop
  clear HN
  generalize World.setRow _ _ _ = w4 at HBF ⊢
  have HB4 := Lib.hid (below_then HB3.out HBF.out.1)
  have H4 := Lib.hid (And.intro (heap_on HBF.out.1 H3.out.1) (heap_on HBF.out.1 H3.out.2))
  obtain ⟨gl, hgl⟩ : ∃ g, g = w3.heap.size := ⟨_, rfl⟩
  have HGl := Lib.hid hgl
  rw [← hgl] at HBF ⊢
  clear hgl H3 HB3
  have HM4 := Lib.hid (heap_on HB4.out HM.out)
  have HK4 := Lib.hid (heap_on HB4.out HK.out)
  have hlk := run_lookE w4 m HM4.out
  obtain ⟨k0, _⟩ := one_cell HK4.out
  obtain ⟨l0, l1⟩ := row2c HBF.out.2
  obtain ⟨e0, e1, e2, e3, e4⟩ := row5c H4.out.1
  go_wp2_with (go_at_call 42; refine (code_exactExpr _).mono ?_; rintro e w5 ⟨rfl, rfl⟩; refine Stop.out ?_)
  unfold Stop
  go_wp2
  go_loopw [30] (fun v30 wr => v30 = .int .i64 0 ∧ Hid (wr = w5)) (fun _ _ => 0)
  case atStart => exact ⟨rfl, Lib.hid rfl⟩
  case round =>
    obtain ⟨rfl, hwr⟩ := hrel
    obtain rfl := hwr.out
    have hup := run_updE wr m (.slice none 0 0) HM4.out
    have HMm : Hid (∀ G : Nat, (∃ cs T, wr.heap[G]? = some (.cells cs T (0, 0))) → G ≠ m) := Lib.hid (fun G e h => by
      obtain ⟨cs, T, e⟩ := e
      rw [h, HM4.out] at e
      cases e)
    have HCm := Lib.hid (mapset_chg wr m (.map #[{ key := .agg #[.pointer none, .int .i64 0], val := .slice none 0 0, born := 0 }] 1))
    go_wp2_with (with_reducible show wpList _ _ _ (({ dst := some 46, op := Op.fieldAddr _ _ _, .. } : Oper) :: _) _ _; refine Stop.out ?_)
    unfold Stop
    clear hup hlk k0 l0 l1 e0 e1 e2 e3 e4
    generalize World.mk _ _ _ _ _ = w6 at HCm ⊢
    have H6 := Lib.hid (And.intro ((HCm.out.heap (heapLt H4.out.1) (HMm.out _ ⟨_, _, H4.out.1⟩)).trans H4.out.1) ((HCm.out.heap (heapLt H4.out.2) (HMm.out _ ⟨_, _, H4.out.2⟩)).trans H4.out.2))
    have HW6 : Hid (Chg m w w6) := Lib.hid (Chg.trans (Chg.of HB4.out) HCm.out)
    clear H4 HB4 HBF HM4 HK4 HMm HCm
    have hz4 := frozen_of_row w6 g 4 _ _ H6.out.1
    obtain ⟨e0, e1, e2, e3, e4⟩ := row5c H6.out.1
    have hne : g + 1 ≠ g := by omega
    have H7 := Lib.hid (And.intro (set4_5 H6.out.1 (.slice none 0 0)) ((heap_setCell_other w6 ⟨g, 4, none⟩ (g + 1) (.slice none 0 0) hne).trans H6.out.2))
    go_wp2_with (with_reducible show wpList _ _ _ (({ dst := some 47, op := Op.load _ _, .. } : Oper) :: _) _ _; refine Stop.out ?_)
    unfold Stop
    clear hz4 e0 e1 e2 e3 e4 hne
    generalize hw7 : World.setCell _ _ _ = w7 at H7 ⊢
    have HW7 : Hid (Chg g w6 w7) := Lib.hid (by rw [← hw7]; exact Chg.one w6 4 _)
    clear hw7 H6
    obtain ⟨e0, e1, e2, e3, e4⟩ := row5c H7.out.1
    go_wp2_with ((with_reducible refine wpList_store_row (o := ⟨none, _, _, _, _, _⟩) 41 ?b0 (.tmp 4) (.tmp 47) ?b1 (g + 1) ?b2 [.int .i64 k, .int .i64 n, .string ⟨#[]⟩, .slice none 0 0, .slice none 0 0] ?b3 ?b4 ?b5 #[.int .i64 0, .int .i64 0, .string ⟨#[]⟩, .slice none 0 0, .slice none 0 0] ?b6 41 ?b7 ?_); (case b0 => rfl); (case b1 => rfl); (case b2 => rfl); (case b3 => exact expr_info); (case b4 => simp [Value.oneCell']); (case b5 => rfl); (case b6 => rfl); (case b7 => exact H7.out.2); (try simp only [Act.put]); refine Stop.out ?_)
    unfold Stop
    have HR7 := Lib.hid (row_then (g := g + 1) (new := #[.int .i64 k, .int .i64 n, .string ⟨#[]⟩, .slice none 0 0, .slice none 0 0]) H7.out.2 rfl rfl)
    have HC8 := Lib.hid (Chg.new (Chg.over HW6.out HW7.out (by rw [HGs.out]; exact Nat.le_refl _)) (g := g + 1) (by rw [HGs.out]; omega) #[.int .i64 k, .int .i64 n, .string ⟨#[]⟩, .slice none 0 0, .slice none 0 0])
    clear e0 e1 e2 e3 e4 H7 HW6 HW7
    generalize World.setRow _ _ _ = w8 at HR7 HC8 ⊢
    go_wp2
    exact bodyPost_ret (results_cell_row Try.results39 _ _ (g + 1) 41 #[.int .i64 k, .int .i64 n, .string ⟨#[]⟩, .slice none 0 0, .slice none 0 0] (0, 0) _ rfl HR7.out Try.underlying41 rfl expr_info) rfl ⟨rfl, HC8.out⟩
set_option maxHeartbeats 2000000 in
theorem code_Copy (k n : Int) (w : World) : Calls Try.prog 29 #[lfV k n] w fun e w' => e = .returned (lfV k n) ∧ Below w.heap.size w w' := by
  have hmf : ∀ (fn : Fn) (first cap : Array Value) (w : World), (Instr.makeFunc fn first cap).run Try.prog w = .ok (.func fn first cap) w := fun _ _ _ _ => rfl
  have hmm := @run_makeMap Try.prog
  unfold lfV
  go_enter Try.func29, Try.ntmps29
  go_wp2_with (go_at_call 39; refine Stop.out ?_)
  unfold Stop
  have H5 := Lib.hid (five w (.cells #[.int .i64 k, .int .i64 n, .string ⟨#[]⟩, .slice none 0 0, .slice none 0 0] 41) (.cells #[.int .i64 0, .int .i64 0, .string ⟨#[]⟩, .slice none 0 0, .slice none 0 0] 41) (.map #[] 0) (.cells #[.map (some (w.heap.size + 1 + 1))] 64) (.cells #[.func (.func 39) #[] #[.pointer (some ⟨w.heap.size + 1 + 1 + 1, 0, none⟩), .pointer (some ⟨w.heap.size + 1 + 1 + 1 + 1, 0, none⟩)]] 57))
  generalize World.alloc _ _ = wE at H5 ⊢
  obtain ⟨hB, hR, hM, hK, hF⟩ := H5.out
  have HBE := Lib.hid hB
  have HRs := Lib.hid hR
  have HC := Lib.hid (copy1 (w.heap.size + 1 + 1 + 1) (w.heap.size + 1 + 1 + 1 + 1) (w.heap.size + 1 + 1) _ k n wE hK hM)
  clear hB hR hM hK hF H5
  unfold lfV at HC
  refine HC.out.mono ?_
  rintro e w3 ⟨rfl, hc3⟩
  have HCw := Lib.hid (HBE.out.trans (hc3.low (B := w.heap.size) (by omega) HBE.out.size))
  have HRr := Lib.hid ((hc3.heap (heapLt HRs.out) (by omega)).trans HRs.out)
  obtain ⟨g, hg⟩ : ∃ g, g = w.heap.size + 1 := ⟨_, rfl⟩
  have HGs := Lib.hid hg
  rw [← hg] at HRr ⊢
  clear hc3 HC HBE HRs hg
  go_wp2_with ((with_reducible refine wpList_store_row (o := ⟨none, _, _, _, _, _⟩) 41 ?b0 (.tmp 2) (.tmp 9) ?b1 g ?b2 [.int .i64 k, .int .i64 n, .string ⟨#[]⟩, .slice none 0 0, .slice none 0 0] ?b3 ?b4 ?b5 #[.int .i64 0, .int .i64 0, .string ⟨#[]⟩, .slice none 0 0, .slice none 0 0] ?b6 41 ?b7 ?_); (case b0 => rfl); (case b1 => rfl); (case b2 => rfl); (case b3 => exact expr_info); (case b4 => simp [Value.oneCell']); (case b5 => rfl); (case b6 => rfl); (case b7 => exact HRr.out); (try simp only [Act.put]); refine Stop.out ?_)
  unfold Stop
  have HR8 := Lib.hid (row_then (g := g) (new := #[.int .i64 k, .int .i64 n, .string ⟨#[]⟩, .slice none 0 0, .slice none 0 0]) HRr.out rfl rfl)
  have HB8 := Lib.hid (below_setRow HCw.out (g := g) (by rw [HGs.out]; omega) #[.int .i64 k, .int .i64 n, .string ⟨#[]⟩, .slice none 0 0, .slice none 0 0])
  clear HRr HCw HGs
  generalize World.setRow _ _ _ = w8 at HR8 HB8 ⊢
  go_wp2
  exact bodyPost_ret (results_cell_row Try.results29 _ _ g 41 #[.int .i64 k, .int .i64 n, .string ⟨#[]⟩, .slice none 0 0, .slice none 0 0] (0, 0) _ rfl HR8.out Try.underlying41 rfl expr_info) rfl ⟨rfl, HB8.out⟩
end Go.Proofs.Ytbplhjoompgemaa
