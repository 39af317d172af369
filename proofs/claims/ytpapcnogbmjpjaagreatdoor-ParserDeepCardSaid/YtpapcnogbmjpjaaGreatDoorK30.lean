/- What is wrong with what was read; what was raised is caught. A text that is read: what it comes to. -/
import Derived.Test.YtpapcnogbmjpjaaGreatDoorK29
import Derived.Defers
import Derived.Recover
namespace Go.Proofs.YtpapcnogbmjpjaaGreatDoor
open Go.RowKit
set_option maxRecDepth 100000
set_option linter.unusedSimpArgs false
set_option linter.unusedVariables false
attribute [local go_sem] Oper.semAt_some

theorem own_rowx {w : World} {B : Nat} {v : Value} {l : List (Int × Tr)} (h : w.ownsRow B 42 6 v l.length (bxCs l)) : ∃ A c, v = .slice A l.length c ∧ (l ≠ [] → ∃ b, A = some ⟨b, 0, none⟩ ∧ RowX w b l) := by
  rcases h.2 with ⟨rfl, e⟩ | ⟨g, cap, cur, rfl, hB, hh, hl, hm, hs, htk⟩
  · have e' : l = [] := List.length_eq_zero_iff.1 e
    subst e'
    exact ⟨none, 0, rfl, fun h => absurd rfl h⟩
  · refine ⟨_, cap, rfl, fun _ => ⟨g, rfl, cur, hh, fun j x hx => ?_⟩⟩
    rw [← htk] at hx
    rw [List.getElem?_take] at hx
    split at hx
    · simpa using hx
    · cases hx
theorem bL_mem : ∀ {l : List Tr} {t : Tr}, t ∈ l → (bL l).Nodup → (bT t).Nodup := by
  intro l
  induction l with
  | nil => intro t h; cases h
  | cons a l ih =>
    intro t h hn
    unfold bL at hn
    obtain ⟨h1, h2, _⟩ := List.nodup_append.1 hn
    rcases List.mem_cons.1 h with rfl | h
    · exact h1
    · exact ih h h2
theorem TreesQ.each {B : Nat} {w : World} {l : List (Int × Tr)} {s : List Sh} (h : TreesQ B w (l.map (·.2)) s) : ∀ p ∈ l, AtT w p.2 ∧ (bT p.2).Nodup := fun p hp =>
  have hm : p.2 ∈ l.map (·.2) := List.mem_map.2 ⟨p, hp, rfl⟩
  ⟨AtL.at_ h.at_ _ hm, bL_mem hm h.nd⟩
/-- what is wrong, as it is told -/
def chkV (s : Rd) (l : List (Int × Tr)) : Int := if s.nb = true then 30 else if 256 < l.length then 31 else if s.lg = true then 11 else if deepAny l = true then 82 else 0
set_option maxHeartbeats 4000000 in
theorem code_check {R B : Nat} {en : Int} {s : Rd} {w : World} {v : Value} {l : List (Int × Tr)} {q : List Sh} (hr : RdAt w R en s) (ho : w.ownsRow B 42 6 v l.length (bxCs l)) (ht : TreesQ B w (l.map (·.2)) q) : Calls Tryz.prog 29 #[.pointer (some ⟨R, 0, none⟩), v] w fun e w' => e = .returned (.int .i64 (chkV s l)) ∧ Below w.heap.size w w' := by
  obtain ⟨A, c, rfl, hrow⟩ := own_rowx ho
  have HR := Lib.hid hr
  have HW := Lib.hid hrow
  have HT := Lib.hid ht.each
  obtain ⟨T, nb, lg⟩ := s
  obtain ⟨c2, c3, z2, z3⟩ := rd_cells hr
  dsimp only at c2 c3
  unfold chkV
  dsimp only
  clear hr ho ht hrow
  cases nb with
  | true =>
    rw [if_pos rfl]
    go_enter Tryz.func29, Tryz.ntmps29
    go_wp2
    go_ret
    exact ⟨rfl, Below.refl _ _⟩
  | false =>
    rw [if_neg (by decide)]
    by_cases hl : 256 < l.length
    · rw [if_pos hl]
      have hln : (256 : Int) < (l.length : Int) := by omega
      clear hl
      go_enter Tryz.func29, Tryz.ntmps29
      go_wp2
      go_ret
      exact ⟨rfl, Below.refl _ _⟩
    · rw [if_neg hl]
      have hln : (l.length : Int) ≤ 256 := by omega
      have HL : Hid (l.length ≤ 256) := Lib.hid (by omega)
      clear hl
      cases lg with
      | true =>
        rw [if_pos rfl]
        go_enter Tryz.func29, Tryz.ntmps29
        go_wp2
        go_ret
        exact ⟨rfl, Below.refl _ _⟩
      | false =>
        rw [if_neg (by decide)]
        have HC := Lib.hid (code_anyDeep A c l w HL.out HW.out HT.out)
        cases hd : deepAny l with
        | true =>
          rw [hd] at HC
          rw [if_pos rfl]
          clear hd
          go_enter Tryz.func29, Tryz.ntmps29
          go_wp2_with (go_at_call 54; refine HC.out.mono ?_; rintro e w3 ⟨rfl, hb⟩; refine Stop.out ?_)
          unfold Stop
          have HB := Lib.hid hb
          clear hb
          go_wp2
          go_ret
          exact ⟨rfl, HB.out⟩
        | false =>
          rw [hd] at HC
          rw [if_neg (by decide)]
          clear hd
          go_enter Tryz.func29, Tryz.ntmps29
          go_wp2_with (go_at_call 54; refine HC.out.mono ?_; rintro e w3 ⟨rfl, hb⟩; refine Stop.out ?_)
          unfold Stop
          have HB := Lib.hid hb
          clear hb
          go_wp2
          go_ret
          exact ⟨rfl, HB.out⟩
theorem flt_info : (Tryz.prog.info? 77).map (·.size) = some 2 := by kernel_rfl
/-- three cells, side by side: what is told of a reading -/
structure C3 (w : World) (g : Nat) (l a e : Value) : Prop where
  h0 : w.heap[g + 0]? = some (.cells #[l] 23 (0, 0))
  h1 : w.heap[g + 1]? = some (.cells #[a] 3 (0, 0))
  h2 : w.heap[g + 2]? = some (.cells #[e] 24 (0, 0))
theorem C3.cells {w : World} {g : Nat} {l a e : Value} (h : C3 w g l a e) : w.cell? ⟨g, 0, none⟩ = some l ∧ w.cell? ⟨g + 1, 0, none⟩ = some a ∧ w.cell? ⟨g + 2, 0, none⟩ = some e ∧ w.frozen? ⟨g, 0, none⟩ = false ∧ w.frozen? ⟨g + 1, 0, none⟩ = false ∧ w.frozen? ⟨g + 2, 0, none⟩ = false :=
  ⟨cell_of_row w g 0 _ _ _ h.h0, cell_of_row w (g + 1) 0 _ _ _ h.h1, cell_of_row w (g + 2) 0 _ _ _ h.h2, frozen_of_row w g 0 _ _ h.h0, frozen_of_row w (g + 1) 0 _ _ h.h1, frozen_of_row w (g + 2) 0 _ _ h.h2⟩
theorem C3.on {w w' : World} {g : Nat} {l a e : Value} (h : C3 w g l a e) (hb : Below w.heap.size w w') : C3 w' g l a e := ⟨heap_on hb h.h0, heap_on hb h.h1, heap_on hb h.h2⟩
theorem C3.put0 {w : World} {g : Nat} {l a e : Value} (h : C3 w g l a e) (v : Value) : C3 (w.setCell ⟨g + 0, 0, none⟩ v) g v a e :=
  ⟨by simpa using put_row h.h0 0 v, (heap_setCell_other w ⟨g + 0, 0, none⟩ (g + 1) v (by show g + 1 ≠ g + 0; omega)).trans h.h1, (heap_setCell_other w ⟨g + 0, 0, none⟩ (g + 2) v (by show g + 2 ≠ g + 0; omega)).trans h.h2⟩
theorem C3.put1 {w : World} {g : Nat} {l a e : Value} (h : C3 w g l a e) (v : Value) : C3 (w.setCell ⟨g + 1, 0, none⟩ v) g l v e :=
  ⟨(heap_setCell_other w ⟨g + 1, 0, none⟩ (g + 0) v (by show g + 0 ≠ g + 1; omega)).trans h.h0, by simpa using put_row h.h1 0 v, (heap_setCell_other w ⟨g + 1, 0, none⟩ (g + 2) v (by show g + 2 ≠ g + 1; omega)).trans h.h2⟩
theorem C3.put2 {w : World} {g : Nat} {l a e : Value} (h : C3 w g l a e) (v : Value) : C3 (w.setCell ⟨g + 2, 0, none⟩ v) g l a v :=
  ⟨(heap_setCell_other w ⟨g + 2, 0, none⟩ (g + 0) v (by show g + 0 ≠ g + 2; omega)).trans h.h0, (heap_setCell_other w ⟨g + 2, 0, none⟩ (g + 1) v (by show g + 1 ≠ g + 2; omega)).trans h.h1, by simpa using put_row h.h2 0 v⟩
/-- nothing but three cells was turned -/
def Chg3 (g : Nat) (w w' : World) : Prop := w'.os = w.os ∧ w'.tape = w.tape ∧ w'.output = w.output ∧ w.heap.size ≤ w'.heap.size ∧ ∀ k, k < w.heap.size → k ≠ g → k ≠ g + 1 → k ≠ g + 2 → w'.heap[k]? = w.heap[k]?
theorem Chg3.of {g : Nat} {w w' : World} (h : Below w.heap.size w w') : Chg3 g w w' := ⟨h.os, h.tape, h.output, h.size, fun k hk _ _ _ => h.block k hk⟩
theorem Chg3.trans {g : Nat} {a b c : World} (h : Chg3 g a b) (k : Chg3 g b c) : Chg3 g a c :=
  ⟨k.1.trans h.1, k.2.1.trans h.2.1, k.2.2.1.trans h.2.2.1, Nat.le_trans h.2.2.2.1 k.2.2.2.1, fun i hi h0 h1 h2 => (k.2.2.2.2 i (Nat.lt_of_lt_of_le hi h.2.2.2.1) h0 h1 h2).trans (h.2.2.2.2 i hi h0 h1 h2)⟩
theorem Chg3.one (w : World) (g i : Nat) (hi : i ≤ 2) (v : Value) : Chg3 g w (w.setCell ⟨g + i, 0, none⟩ v) :=
  ⟨rfl, rfl, rfl, by rw [World.size_setCell]; exact Nat.le_refl _, fun k _ h0 h1 h2 => heap_setCell_other w _ _ v (by show k ≠ g + i; omega)⟩
theorem Chg3.low {g : Nat} {w w' : World} (h : Chg3 g w w') {B : Nat} (hB : B ≤ g) (hs : B ≤ w.heap.size) : Below B w w' :=
  ⟨h.1, h.2.1, h.2.2.1, h.2.2.2.1, fun k hk => h.2.2.2.2 k (Nat.lt_of_lt_of_le hk hs) (by omega) (by omega) (by omega)⟩
set_option maxHeartbeats 4000000 in
theorem catch_read (g : Nat) (l0 a0 e0 : Value) (w : World) (a k : Int) (older : List PanicEntry) (h : C3 w g l0 a0 e0) :
    CallsD Tryz.prog 28 #[.pointer (some ⟨g, 0, none⟩), .pointer (some ⟨g + 1, 0, none⟩), .pointer (some ⟨g + 2, 0, none⟩)] (.panicking ({ v := fltV a k, recovered := false } :: older)) w fun e u' w' =>
      e = .returned (.tuple #[]) ∧ u' = .panicking ({ v := fltV a k, recovered := true } :: older) ∧ C3 w' g (.slice none 0 0) (.int .i64 a) (.int .i64 k) ∧ Chg3 g w w' := by
  have HC := Lib.hid h
  have HGl : Hid (g + 2 < w.heap.size) := Lib.hid (heapLt h.h2)
  clear h
  have hnil : ∀ (w : World), Sem.run Tryz.prog (binOp .neq 20 (fltV a k) .nilIface) w = .ok (.bool true) w := fun _ => by first | rfl | kernel_rfl
  refine callsD_of_wpS Tryz.func28 rfl fun c₀ cs hu => ?_
  apply wpS_seq
  apply wpS_region
  simp [wpOpsS, go_sem, recoverD, hu, Tryz.ntmps28, Exit.thenS]
  refine wpS_of_wp ?_
  cases c₀
  unfold fltV
  have HN0 := Lib.hid (heap_alloc_new w (.cells #[.int .i64 0, .int .i64 0] 77))
  have HBF := Lib.hid (box_row w #[.int .i64 0, .int .i64 0] #[.int .i64 a, .int .i64 k] 77 rfl)
  have hta : ∀ (W : World), Sem.run Tryz.prog (Instr.typeAssert (.iface 77 (.agg #[.int .i64 a, .int .i64 k])) 20 77 false) W = .ok (.agg #[.int .i64 a, .int .i64 k]) W := fun _ => by first | rfl | kernel_rfl
  have hfr : (#[Value.pointer (some ⟨g, 0, none⟩), .pointer (some ⟨g + 1, 0, none⟩), .pointer (some ⟨g + 2, 0, none⟩)] ++ ((Array.replicate 11 undef).setIfInBounds 2 (.iface 77 (.agg #[.int .i64 a, .int .i64 k]))).setIfInBounds 0 (.iface 77 (.agg #[.int .i64 a, .int .i64 k])) : Array Value) = #[Value.pointer (some ⟨g, 0, none⟩), .pointer (some ⟨g + 1, 0, none⟩), .pointer (some ⟨g + 2, 0, none⟩), .iface 77 (.agg #[.int .i64 a, .int .i64 k]), undef, .iface 77 (.agg #[.int .i64 a, .int .i64 k]), undef, undef, undef, undef, undef, undef, undef, undef] := rfl
  rw [hfr]
  clear hfr
  go_wp2_with ((with_reducible refine wpList_store_row (o := ⟨none, _, _, _, _, _⟩) 77 ?b0 (.tmp 4) (.tmp 9) ?b1 w.heap.size ?b2 [.int .i64 a, .int .i64 k] ?b3 ?b4 ?b5 #[.int .i64 0, .int .i64 0] ?b6 77 ?b7 ?_); (case b0 => rfl); (case b1 => rfl); (case b2 => rfl); (case b3 => exact flt_info); (case b4 => simp [Value.oneCell']); (case b5 => rfl); (case b6 => rfl); (case b7 => exact HN0.out); (try simp only [Act.put]); refine Stop.out ?_)
  unfold Stop
  generalize World.setRow _ _ _ = w3 at HBF ⊢
  have HC3 := Lib.hid (HC.out.on HBF.out.1)
  have HLo := Lib.hid (Chg3.of (g := g) HBF.out.1)
  have HF := Lib.hid HBF.out.2
  obtain ⟨gf, hgf⟩ : ∃ gf, gf = w.heap.size := ⟨_, rfl⟩
  have HGf : Hid (g + 2 < gf) := Lib.hid (by have := HGl.out; omega)
  rw [← hgf] at HF ⊢
  clear hgf HBF HN0 HC hta hnil
  go_wp2
  refine wp_region_held_drew (S := fun V : World => V.heap[gf]? = some (.cells #[.int .i64 a, .int .i64 k] 77 (0, 0))) (by kernel_rfl) (heap_on (below_drew w3) HF.out) ?_
  intro hHeld
  have HC3d := Lib.hid (HC3.out.on (below_drew w3))
  have HLod := Lib.hid (HLo.out.trans (Chg3.of (below_drew w3)))
  clear HC3 HLo HF
  have HC3 := HC3d
  have HLo := HLod
  clear HC3d HLod
  generalize w3.drew = w5 at hHeld HC3 HLo ⊢
  (refine takeH (i := 0) (v := ?_) rfl (by kernel_rfl) (by kernel_rfl) (by kernel_rfl) (fun _ _ _ h => h) (Or.inl ⟨by rfl, ?_⟩) (by assumption) ?_; rotate_left; (focus ((intro wS hSw); (try dsimp only at hSw); obtain ⟨r0, r1⟩ := row2c hSw; go_simp; (try with_reducible rfl); done)); (try simp only [Act.put, List.setIfInBounds_toArray, List.set_cons_zero, List.set_cons_succ]))
  (refine takeH (i := 1) (v := ?_) rfl (by kernel_rfl) (by kernel_rfl) (by kernel_rfl) (fun _ _ _ h => h) (Or.inl ⟨by rfl, ?_⟩) (by assumption) ?_; rotate_left; (focus ((intro wS hSw); (try dsimp only at hSw); obtain ⟨r0, r1⟩ := row2c hSw; go_simp; (try with_reducible rfl); done)); (try simp only [Act.put, List.setIfInBounds_toArray, List.set_cons_zero, List.set_cons_succ]))
  (refine takeH (i := 2) (v := ?_) rfl (by kernel_rfl) (by kernel_rfl) (by kernel_rfl) (fun _ _ _ h => h) (Or.inl ⟨by rfl, ?_⟩) (by assumption) ?_; rotate_left; (focus ((intro wS hSw); (try dsimp only at hSw); obtain ⟨r0, r1⟩ := row2c hSw; go_simp; (try with_reducible rfl); done)); (try simp only [Act.put, List.setIfInBounds_toArray, List.set_cons_zero, List.set_cons_succ]))
  (refine takeH (i := 3) (v := ?_) rfl (by kernel_rfl) (by kernel_rfl) (by kernel_rfl) (fun _ _ _ h => h) (Or.inl ⟨by rfl, ?_⟩) (by assumption) ?_; rotate_left; (focus ((intro wS hSw); (try dsimp only at hSw); obtain ⟨r0, r1⟩ := row2c hSw; go_simp; (try with_reducible rfl); done)); (try simp only [Act.put, List.setIfInBounds_toArray, List.set_cons_zero, List.set_cons_succ]))
  refine aloneH (i := 4) rfl (by kernel_rfl) (fun K hK => ?_)
  rw [if_pos (by rfl)]
  obtain ⟨e0, e1, e2, z0, z1, z2⟩ := HC3.out.cells
  go_simp
  clear e0 e1 e2 z0 z1 z2
  have HC31 := Lib.hid (HC3.out.put0 (.slice none 0 0))
  have HF1 := Lib.hid ((heap_setCell_other w5 ⟨g + 0, 0, none⟩ gf (.slice none 0 0) (by have := HGf.out; show gf ≠ g + 0; omega)).trans hHeld)
  have HLo1 := Lib.hid (HLo.out.trans (Chg3.one w5 g 0 (by decide) (.slice none 0 0)))
  generalize World.setCell w5 _ _ = q1 at HC31 HF1 HLo1 ⊢
  refine hK.out _ _ (HF1.out) (fun hNew => ?_)
  clear hK K hHeld; (have hHeld := hNew); clear hNew; (try simp only [Act.put])
  refine aloneH (i := 5) rfl (by kernel_rfl) (fun K hK => ?_)
  rw [if_pos (by rfl)]
  obtain ⟨e0, e1, e2, z0, z1, z2⟩ := HC31.out.cells
  go_simp
  clear e0 e1 e2 z0 z1 z2
  have HC32 := Lib.hid (HC31.out.put1 (.int .i64 a))
  have HF2 := Lib.hid ((heap_setCell_other q1 ⟨g + 1, 0, none⟩ gf (.int .i64 a) (by have := HGf.out; show gf ≠ g + 1; omega)).trans hHeld)
  have HLo2 := Lib.hid (HLo1.out.trans (Chg3.one q1 g 1 (by decide) (.int .i64 a)))
  generalize World.setCell q1 _ _ = q2 at HC32 HF2 HLo2 ⊢
  refine hK.out _ _ (HF2.out) (fun hNew => ?_)
  clear hK K hHeld; (have hHeld := hNew); clear hNew; (try simp only [Act.put])
  refine aloneH (i := 6) rfl (by kernel_rfl) (fun K hK => ?_)
  rw [if_pos (by rfl)]
  obtain ⟨e0, e1, e2, z0, z1, z2⟩ := HC32.out.cells
  go_simp
  clear e0 e1 e2 z0 z1 z2
  have HC33 := Lib.hid (HC32.out.put2 (.int .i64 k))
  have HF3 := Lib.hid ((heap_setCell_other q2 ⟨g + 2, 0, none⟩ gf (.int .i64 k) (by have := HGf.out; show gf ≠ g + 2; omega)).trans hHeld)
  have HLo3 := Lib.hid (HLo2.out.trans (Chg3.one q2 g 2 (by decide) (.int .i64 k)))
  generalize World.setCell q2 _ _ = q3 at HC33 HF3 HLo3 ⊢
  refine hK.out _ _ (HF3.out) (fun hNew => ?_)
  clear hK K hHeld; (have hHeld := hNew); clear hNew; (try simp only [Act.put])
  refine wpAnyH_done (by kernel_rfl) ?_ _
  clear hHeld
  go_wp2
  exact ⟨rfl, _, rfl, _, results_none rfl _ _ _, rfl, rfl, HC33.out, HLo3.out⟩
theorem idle_read (g : Nat) (w : World) :
    CallsD Tryz.prog 28 #[.pointer (some ⟨g, 0, none⟩), .pointer (some ⟨g + 1, 0, none⟩), .pointer (some ⟨g + 2, 0, none⟩)] .returning w fun e u' w' => e = .returned (.tuple #[]) ∧ u' = .returning ∧ w' = w := by
  refine callsD_of_wpS Tryz.func28 rfl fun c₀ cs hu => ?_
  apply wpS_seq
  apply wpS_region
  simp [wpOpsS, go_sem, recoverD, hu, Tryz.ntmps28, Exit.thenS]
  refine wpS_of_wp ?_
  cases c₀
  go_wp2
  simp_all [bodyPostS, results, Tryz.results28]
end Go.Proofs.YtpapcnogbmjpjaaGreatDoor

namespace Go.Proofs.YtpapcnogbmjpjaaGreatDoor
open Go.RowKit
set_option maxRecDepth 100000
set_option linter.unusedSimpArgs false
set_option linter.unusedVariables false
attribute [local go_sem] Oper.semAt_some

theorem lex_ind {s : ByteArray} (M : Nat → List TokV → Prop) (hend : ∀ i acc, s.size ≤ i → M i acc) (hblank : ∀ i acc, i < s.size → isBb (bt s i) = true → M (i + 1) acc → M i acc) (hrem : ∀ i acc, i < s.size → (bt s i).toNat = 35 → M (runE isRb s i) acc → M i acc)
    (hbad : ∀ i acc, i < s.size → isBb (bt s i) = false → (bt s i).toNat ≠ 35 → tokAt s i = none → M i acc) (htok : ∀ i acc t, i < s.size → isBb (bt s i) = false → (bt s i).toNat ≠ 35 → tokAt s i = some t → M (i + t.2.2.1.size) (acc ++ [t]) → M i acc) : ∀ i acc, M i acc := by
  have key : ∀ n i acc, s.size - i = n → M i acc := by
    intro n
    induction n using Nat.strongRecOn with
    | _ n ih =>
      intro i acc hn
      by_cases hi : i < s.size
      · cases hb : isBb (bt s i) with
        | true => exact hblank i acc hi hb (ih _ (by omega) _ _ rfl)
        | false =>
          by_cases hr : (bt s i).toNat = 35
          · have := rem_more hi hr
            exact hrem i acc hi hr (ih _ (by omega) _ _ rfl)
          · cases ht : tokAt s i with
            | none => exact hbad i acc hi hb hr ht
            | some t =>
              have := tok_len ht hi
              exact htok i acc t hi hb hr ht (ih _ (by omega) _ _ rfl)
      · exact hend i acc (by omega)
  exact fun i acc => key _ i acc rfl
def sumT (L : List TokV) : Nat := (L.map fun t => t.2.2.1.size).sum
theorem sumT_snoc (L : List TokV) (t : TokV) : sumT (L ++ [t]) = sumT L + t.2.2.1.size := by simp [sumT]
theorem lex_bound {s : ByteArray} : ∀ i acc, i ≤ s.size → acc.length ≤ i → sumT acc ≤ i → (lexI s i acc).1.length ≤ s.size ∧ sumT (lexI s i acc).1 ≤ s.size := by
  refine lex_ind (s := s) _ ?_ ?_ ?_ ?_ ?_
  · intro i acc h h0 h1 h2
    rw [lexI_end h]
    exact ⟨by show acc.length ≤ _; omega, by show sumT acc ≤ _; omega⟩
  · intro i acc h hb ih h0 h1 h2
    rw [lexI_blank h hb]
    exact ih (by omega) (by omega) (by omega)
  · intro i acc h hb ih h0 h1 h2
    have := rem_more h hb
    rw [lexI_rem h hb]
    exact ih (by omega) (by omega) (by omega)
  · intro i acc h hb hr ht h0 h1 h2
    rw [lexI_bad h hb hr ht]
    exact ⟨Nat.zero_le _, Nat.zero_le _⟩
  · intro i acc t h hb hr ht ih h0 h1 h2
    have := tok_len ht h
    rw [lexI_tok h hb hr ht]
    refine ih (by omega) ?_ ?_
    · rw [List.length_append]
      show acc.length + 1 ≤ _
      omega
    · rw [sumT_snoc]
      omega
mutual
  /-- how deep a tree is -/
  def depS : Sh → Nat | .mk _ _ _ _ ks => 1 + depSL ks
  def depSL : List Sh → Nat | [] => 0 | t :: ts => max (depS t) (depSL ts)
end
mutual
  theorem Shows.dep {w : World} : ∀ (t : Tr) (s : Sh), Shows w t s → dep t = depS s
    | .mk _ _ _ _ _ _ _ _ ks, .mk _ _ _ _ ks', h => by
      unfold Shows at h
      have := ShowsL.dep ks ks' h.2.2.2.2
      show 1 + depL ks = 1 + depSL ks'
      rw [this]
  theorem ShowsL.dep {w : World} : ∀ (l : List Tr) (s : List Sh), ShowsL w l s → depL l = depSL s
    | [], [], _ => rfl
    | t :: ts, s :: ss, h => by
      unfold ShowsL at h
      have h1 := Shows.dep t s h.1
      have h2 := ShowsL.dep ts ss h.2
      show max (_root_.Go.Proofs.YtpapcnogbmjpjaaGreatDoor.dep t) (depL ts) = max (depS s) (depSL ss)
      rw [h1, h2]
    | [], _ :: _, h => by unfold ShowsL at h; exact h.elim
    | _ :: _, [], h => by unfold ShowsL at h; exact h.elim
end
def deepAnyS (l : List (Int × Sh)) : Bool := l.any fun p => decide (64 < depS p.2)
theorem deepAny_same {w : World} : ∀ (l : List (Int × Tr)) (s : List (Int × Sh)), ShowsL w (l.map (·.2)) (s.map (·.2)) → deepAny l = deepAnyS s ∧ l.length = s.length
  | [], [], _ => ⟨rfl, rfl⟩
  | a :: l, b :: s, h => by
    simp only [List.map_cons] at h
    unfold ShowsL at h
    have h1 := Shows.dep _ _ h.1
    have h2 := deepAny_same l s h.2
    have e1 : deepAny (a :: l) = (decide (64 < dep a.2) || deepAny l) := rfl
    have e2 : deepAnyS (b :: s) = (decide (64 < depS b.2) || deepAnyS s) := rfl
    refine ⟨by rw [e1, e2, h1, h2.1], by simp [h2.2]⟩
  | [], _ :: _, h => by simp only [List.map_nil, List.map_cons] at h; unfold ShowsL at h; exact h.elim
  | _ :: _, [], h => by simp only [List.map_nil, List.map_cons] at h; unfold ShowsL at h; exact h.elim
/-- what is wrong with what was read -/
def chkS (s : Rd) (l : List (Int × Sh)) : Int := if s.nb = true then 30 else if 256 < l.length then 31 else if s.lg = true then 11 else if deepAnyS l = true then 82 else 0
theorem chk_same {w : World} {B : Nat} {s : Rd} {l : List (Int × Tr)} {q : List (Int × Sh)} (h : BoxesQ B w l q) : chkV s l = chkS s q := by
  obtain ⟨h1, h2⟩ := deepAny_same l q h.trees.sh
  unfold chkV chkS
  rw [h1, h2]
/-- what a reading comes to -/
inductive RR where
  | err (a k : Int)
  | ok (l : List (Int × Sh))
def readP (P : Int → Rd → PR (List (Int × Sh))) (s : ByteArray) : RR := if (lexI s 0 []).2.2 ≠ 0 then .err ((lexI s 0 []).2.1 : Nat) (lexI s 0 []).2.2 else match P (s.size : Nat) ⟨(lexI s 0 []).1, false, false⟩ with
  | .flt a k => .err a k
  | .out => .err 0 0
  | .ok l sx => if chkS sx l ≠ 0 then .err 0 (chkS sx l) else .ok l
def OutR (w : World) (r : RR) (e : Ending) (w' : World) : Prop := match r with
  | .err a k => e = .returned (.tuple #[.slice none 0 0, .int .i64 a, .int .i64 k]) ∧ Below w.heap.size w w'
  | .ok s => ∃ v l, e = .returned (.tuple #[v, .int .i64 0, .int .i64 0]) ∧ w'.ownsRow w.heap.size 42 6 v l.length (bxCs l) ∧ BoxesQ w.heap.size w' l s ∧ Below w.heap.size w w'
theorem own_less {T : TypeId} {sz : Nat} {w : World} {B B' n : Nat} {v : Value} {xs : List Value} (h : w.ownsRow B T sz v n xs) (hB : B' ≤ B) : w.ownsRow B' T sz v n xs := by
  refine ⟨h.1, ?_⟩
  rcases h.2 with hn | ⟨g, cap, cur, hv, hb, hg, rest⟩
  · exact .inl hn
  · exact .inr ⟨g, cap, cur, hv, Nat.le_trans hB hb, hg, rest⟩
theorem BoxesQ.less {B B' : Nat} {w : World} {l : List (Int × Tr)} {s : List (Int × Sh)} (h : BoxesQ B w l s) (hB : B' ≤ B) : BoxesQ B' w l s := ⟨⟨h.trees.at_, h.trees.nd, fun b hb => Nat.le_trans hB (h.trees.ge b hb), h.trees.sh⟩, h.nums⟩
theorem C3.off {w : World} {g : Nat} {l a e : Value} (h : C3 w g l a e) {k : Nat} {cs : Array Value} {T : TypeId} (hk : w.heap[k]? = some (Obj.cells cs T (0, 0))) (h0 : T ≠ 23) (h1 : T ≠ 3) (h2 : T ≠ 24) : k ≠ g ∧ k ≠ g + 1 ∧ k ≠ g + 2 := by
  have inj : ∀ {m : Nat} {c : Array Value} {U : TypeId}, w.heap[m]? = some (Obj.cells c U (0, 0)) → T ≠ U → k ≠ m := fun hm hne e => by
    rw [e, hm] at hk
    injection hk with hk
    injection hk with _ h2 _
    exact hne h2.symm
  exact ⟨inj h.h0 h0, inj h.h1 h1, inj h.h2 h2⟩
theorem BoxesQ.chg3 {B g : Nat} {w w' : World} {q : List (Int × Tr)} {s : List (Int × Sh)} {l a e : Value} (h : BoxesQ B w q s) (hB : g + 2 < B) (h3 : C3 w g l a e) (hc : Chg3 g w w') : BoxesQ B w' q s :=
  ⟨⟨h.trees.at_.on _ (fun k hk => hc.2.2.2.2 k (AtL.lt _ h.trees.at_ k hk) (by have := h.trees.ge k hk; omega) (by have := h.trees.ge k hk; omega) (by have := h.trees.ge k hk; omega)) hc.2.2.2.1, h.trees.nd, h.trees.ge,
    h.trees.sh.keep (fun k cs hk => by
      obtain ⟨h0, h1, h2⟩ := h3.off hk (by decide) (by decide) (by decide)
      exact (hc.2.2.2.2 k (heapLt hk) h0 h1 h2).trans hk) _ _⟩, h.nums⟩
theorem RdAt.chg3 {R g : Nat} {w w' : World} {en : Int} {s : Rd} {l a e : Value} (h : RdAt w R en s) (h3 : C3 w g l a e) (hc : Chg3 g w w') : RdAt w' R en s := by
  obtain ⟨A, k, h1, h2, h4, h5, h6, h7, h8⟩ := h
  obtain ⟨n0, n1, n2⟩ := h3.off h1 (by decide) (by decide) (by decide)
  refine ⟨A, k, (hc.2.2.2.2 R (heapLt h1) n0 n1 n2).trans h1, ?_, ?_, h5, h6, h7, h8⟩
  · intro hn
    obtain ⟨b', o', e, hlt, hcs⟩ := h2 hn
    obtain ⟨cs, hb⟩ := h4 b' o' e
    obtain ⟨m0, m1, m2⟩ := h3.off hb (by decide) (by decide) (by decide)
    refine ⟨b', o', e, Nat.lt_of_lt_of_le hlt hc.2.2.2.1, fun j v hv => ?_⟩
    rw [World.cell?_of_block (hc.2.2.2.2 b' (by simpa using hlt) m0 m1 m2)]
    exact hcs j v hv
  · intro b o e
    obtain ⟨cs, hb⟩ := h4 b o e
    obtain ⟨m0, m1, m2⟩ := h3.off hb (by decide) (by decide) (by decide)
    exact ⟨cs, (hc.2.2.2.2 b (heapLt hb) m0 m1 m2).trans hb⟩
theorem own_chg3 {T : TypeId} {sz g : Nat} {w w' : World} {B n : Nat} {v : Value} {xs : List Value} (h : w.ownsRow B T sz v n xs) (hB : g + 2 < B) (hc : Chg3 g w w') : w'.ownsRow B T sz v n xs :=
  own_kept h (fun k cs hv hk => by
    have := (own_block h k hv).1
    exact (hc.2.2.2.2 k (heapLt hk) (by omega) (by omega) (by omega)).trans hk)
theorem three_alloc (w : World) : Below w.heap.size w (((w.alloc (.cells #[.slice none 0 0] 23)).alloc (.cells #[.int .i64 0] 3)).alloc (.cells #[.int .i64 0] 24)) ∧ C3 (((w.alloc (.cells #[.slice none 0 0] 23)).alloc (.cells #[.int .i64 0] 3)).alloc (.cells #[.int .i64 0] 24)) w.heap.size (.slice none 0 0) (.int .i64 0) (.int .i64 0) ∧ (((w.alloc (.cells #[.slice none 0 0] 23)).alloc (.cells #[.int .i64 0] 3)).alloc (.cells #[.int .i64 0] 24)).heap.size = w.heap.size + 3 := by
  obtain ⟨b1, h0, h1⟩ := two_alloc w (.cells #[.slice none 0 0] 23) (.cells #[.int .i64 0] 3)
  have hs : ((w.alloc (.cells #[.slice none 0 0] 23)).alloc (.cells #[.int .i64 0] 3)).heap.size = w.heap.size + 2 := by rw [World.size_alloc, World.size_alloc]
  have b2 := below_alloc ((w.alloc (.cells #[.slice none 0 0] 23)).alloc (.cells #[.int .i64 0] 3)) (.cells #[.int .i64 0] 24)
  have h2 := heap_alloc_new ((w.alloc (.cells #[.slice none 0 0] 23)).alloc (.cells #[.int .i64 0] 3)) (.cells #[.int .i64 0] 24)
  rw [hs] at h2
  refine ⟨below_then b1 b2, ⟨heap_on b2 h0, heap_on b2 h1, h2⟩, by rw [World.size_alloc, hs]⟩
theorem rd_fresh {w : World} {R B : Nat} {v : Value} {T : List TokV} {en : Int} (ho : OwnTokV w B v T) (hR : w.heap[R]? = some (.cells #[v, .int .i64 en, .bool false, .bool false] 79 (0, 0))) (hl : T.length ≤ 1048576) : RdAt w R en ⟨T, false, false⟩ := by
  obtain ⟨A, c, rfl, hrow, hnil⟩ := ho.form
  have hf : (A = none ∧ c = 0 ∧ T.length = 0) ∨ ∃ g cur, A = some ⟨g, 0, none⟩ ∧ w.heap[g]? = some (Obj.cells cur 96 (0, 0)) ∧ T.length ≤ c ∧ c ≤ maxLen := by
    rcases ho.2 with ⟨e, h0⟩ | ⟨g, cap, cur, e, hB, hh, h1, h2, _⟩
    · simp only [Value.slice.injEq] at e
      exact .inl ⟨e.1, e.2.2, h0⟩
    · simp only [Value.slice.injEq] at e
      exact .inr ⟨g, cur, e.1, hh, by rw [e.2.2]; exact h1, by rw [e.2.2]; exact h2⟩
  rcases hf with ⟨rfl, rfl, h0⟩ | ⟨g, cur, rfl, hh, h1, h2⟩
  · exact ⟨none, 0, hR, hrow, fun b o e => (by cases e), (by show T.length ≤ 0; omega), ⟨Nat.zero_le _, hl⟩, fun _ => ⟨List.length_eq_zero_iff.1 h0, rfl⟩, .inl rfl⟩
  · exact ⟨_, c, hR, hrow, fun b o e => (by cases e; exact ⟨cur, hh⟩), h1, ⟨h2, hl⟩, fun e => (by cases e), .inr ⟨g, 0, rfl⟩⟩
theorem build_rd (A : Option Addr) (n c : Nat) (en : Int) (w : World) : (Instr.build 79 #[(0, .slice A n c), (1, .int .i64 en)]).run Tryz.prog w = .ok (.agg #[.slice A n c, .int .i64 en, .bool false, .bool false]) w := run_build w 79 _ _ (by kernel_rfl)
theorem results_c3 {fn : Func} {p q r : Tmp} (h : fn.results = #[.cell p 23, .cell q 3, .cell r 24]) (tmps : Array Value) (W : World) (g : Nat) (l a e : Value) (hp : tmps.getD p undef = .pointer (some ⟨g, 0, none⟩)) (hq : tmps.getD q undef = .pointer (some ⟨g + 1, 0, none⟩)) (hr : tmps.getD r undef = .pointer (some ⟨g + 2, 0, none⟩))
    (hc : C3 W g l a e) : (results fn tmps).run Tryz.prog W = .ok (.tuple #[l, a, e]) W := by
  have z0 : (isAgg 23).run Tryz.prog W = .ok false W := by rfl
  have z1 : (isAgg 3).run Tryz.prog W = .ok false W := by rfl
  have z2 : (isAgg 24).run Tryz.prog W = .ok false W := by rfl
  have hp' : tmps[p]?.getD undef = .pointer (some ⟨g, 0, none⟩) := by simpa [Array.getD_eq_getD_getElem?] using hp
  have hq' : tmps[q]?.getD undef = .pointer (some ⟨g + 1, 0, none⟩) := by simpa [Array.getD_eq_getD_getElem?] using hq
  have hr' : tmps[r]?.getD undef = .pointer (some ⟨g + 2, 0, none⟩) := by simpa [Array.getD_eq_getD_getElem?] using hr
  obtain ⟨h1, h2, h3, _⟩ := hc.cells
  simp [results, h, hp', hq', hr', go_sem, loadVar, z0, z1, z2, h1, h2, h3]
end Go.Proofs.YtpapcnogbmjpjaaGreatDoor
