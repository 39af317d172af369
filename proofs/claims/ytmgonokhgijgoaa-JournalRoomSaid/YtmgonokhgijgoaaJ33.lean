/- The sectors that are not blank, told one by one. How many sectors are not blank. -/
import Derived.Test.YtmgonokhgijgoaaJ32
import Derived.Test.YtmgonokhgijgoaaJ12
import Derived.Test.YtmgonokhgijgoaaJ30
namespace Go.Proofs.Ytmgonokhgijgoaa
open Go.RowKit
attribute [local go_sem] Oper.semAt_some
set_option maxRecDepth 100000
set_option linter.unusedSimpArgs false
set_option linter.unusedVariables false

/-- is a sector to be told -/
def dirtyQ (S : Nat → Text) (tail i : Nat) : Bool := decide (tail ≤ i) && !decide (S i = zeros)
def dirtyL (S : Nat → Text) (tail m : Nat) : List Nat := (List.range m).filter (dirtyQ S tail)
theorem dirtyL_next (S : Nat → Text) (tail k : Nat) : dirtyL S tail (k + 1) = dirtyL S tail k ++ if dirtyQ S tail k = true then [k] else [] := by
  unfold dirtyL
  rw [List.range_succ, List.filter_append]
  congr 1
  by_cases h : dirtyQ S tail k = true
  · rw [if_pos h]; simp [h]
  · rw [if_neg h]; simp [h]
theorem dirtyL_lt (S : Nat → Text) (tail m : Nat) : ∀ x ∈ dirtyL S tail m, x < m := fun x hx => List.mem_range.1 (List.mem_filter.1 hx).1
def encN (x : Nat) : Array Value := #[.int .i64 x]
def FxD (S : Nat → Text) (tail m : Nat) (pre : List Nat) (x : Nat) (W : World) : Prop := x < m ∧ dirtyQ S tail x = true ∧ pre = dirtyL S tail x
def DkD (Bd Bt B bm m : Nat) (S : Nat → Text) (tail : Int) (pre : List Nat) (W : World) : Prop :=
  ∃ n d, Dsk W B bm n d ∧ d.many = m ∧ (∀ j, j < m → (∀ x ∈ pre, x < j) → d.S j = S j) ∧ W.heap[Bd]? = some (.cells #[.pointer (some ⟨B, 0, none⟩)] 25 (0, 0)) ∧ W.heap[Bt]? = some (.cells #[.int .i64 tail] 3 (0, 0))
/-- what stands in a round of the sectors -/
def InD (W : World) (l : Nat) (J : List Nat → World → Prop) (S : Nat → Text) (B tail m : Nat) (pre : List (Nat × Nat)) (V : World) : Prop :=
  J (dirtyL S tail pre.length) V ∧ V.heap[W.heap.size]? = some (.cells #[.func (.yield l) #[] #[]] 64 (0, 0)) ∧ V.heap[W.heap.size + 1]? = some (.cells #[.pointer (some ⟨B, 0, none⟩)] 25 (0, 0)) ∧ W.heap.size + 2 ≤ V.heap.size ∧ pre.length ≤ m
set_option maxHeartbeats 2000000 in
theorem dirty_toldW (Bd Bt B bm m tail : Nat) (S : Nat → Text) :
    SeqToldW Try.prog 78 #[.pointer (some ⟨Bd, 0, none⟩), .pointer (some ⟨Bt, 0, none⟩)] encN (FxD S tail m) (fun xs => xs = dirtyL S tail m) (fun _ => True) (DkD Bd Bt B bm m S tail) := by
  intro l J Jx W hJ hJx hJD hY h0
  obtain ⟨n0, d0, hD, hmd, _, hb0, ht0⟩ := hJD _ _ h0
  have c0 := cell_of_row W Bd 0 _ _ _ hb0
  simp only [List.getElem?_toArray, List.getElem?_cons_zero] at c0
  have hBdl := heapLt hb0
  have hBtl := heapLt ht0
  have HJ := Lib.hid hJ
  have HJx := Lib.hid hJx
  have HY := Lib.hid hY
  have H0 := Lib.hid h0
  have HJD := Lib.hid hJD
  clear hJ hJx hY h0 hD hJD hmd hb0 ht0
  refine callsIn_wide.1 (callsIn_of_wp_marks (n := 0) (F := Fence.wide) Try.func78 rfl trivial (wpIn_wide.2 ?_) rfl)
  simp only [Try.ntmps78, List.size_toArray, List.length_cons, List.length_nil, Nat.reduceAdd, Nat.reduceSub, Array.replicate_succ, Array.replicate_zero, List.push_toArray, List.append_toArray, List.nil_append, List.cons_append]
  go_wp2_with (go_at_call 55; refine (code_all _ _).mono ?_; rintro e w1 ⟨rfl, rfl⟩)
  obtain ⟨W9, hW9⟩ : ∃ W9, W9 = (W.alloc (.cells #[.func (.yield l) #[] #[]] 64)).alloc (.cells #[.pointer (some ⟨B, 0, none⟩)] 25) := ⟨_, rfl⟩
  have e1 := heap_alloc_new W (.cells #[.func (.yield l) #[] #[]] 64)
  have e2 := heap_alloc_new (W.alloc (.cells #[.func (.yield l) #[] #[]] 64)) (.cells #[.pointer (some ⟨B, 0, none⟩)] 25)
  simp only [World.size_alloc] at e2
  have hB9 : Below W.heap.size W W9 := by rw [hW9]; exact (((Below.refl _ W).alloc (Nat.le_refl _) _).alloc (by simp) _)
  have hz9 : W9.heap.size = W.heap.size + 2 := by rw [hW9]; simp
  have hI9 : InD W l J S B tail m [] W9 := ⟨HJ.out _ _ _ H0.out hB9, by rw [hW9, Below.heap_alloc _ _ _ (by simp)]; exact e1, by rw [hW9]; exact e2, by omega, Nat.zero_le _⟩
  rw [← hW9]
  clear hW9 e1 e2 hB9 c0
  refine wp_rangeToldW (gf := 80) (lb := #[.pointer (some ⟨W.heap.size + 1, 0, none⟩)]) rfl (enters_of Try.func80 (by kernel_rfl) rfl) (all_toldW (W.heap.size + 1) B bm m S) (fun _ => rfl)
    (InD W l J S B tail m) (fun c _ V => c = .ret ∧ ∃ p, Jx p V) (fun pre A C h hb => ⟨HJ.out _ _ _ h.1 (hb.mono (by omega)), (hb.block _ (by omega)).trans h.2.1, (hb.block _ (by omega)).trans h.2.2.1, Nat.le_trans h.2.2.2.1 hb.size, h.2.2.2.2⟩) (fun c pre A C ⟨h1, p, h2⟩ hb => ⟨h1, p, HJx.out _ _ _ h2 (hb.mono (by omega))⟩) ?dk hI9 ?round ?done ?stop
  case dk =>
    intro pre A h
    obtain ⟨n, d, h1, h2, h3, h4, h5⟩ := HJD.out _ _ h.1
    exact ⟨n, d, h1, h2, fun j hj hjm => h3 j hjm (fun x hx => Nat.lt_of_lt_of_le (dirtyL_lt _ _ _ x hx) hj), h.2.2.1⟩
  case done =>
    intro D xs V hD hxl hI hK
    have hlen : xs.length = m := hxl
    have hJ := hI.1
    rw [hlen] at hJ
    have HJV := Lib.hid (HJ.out _ _ _ hJ (put_below V (l := D) (.deferred none) (by omega)))
    have HK := Lib.hid hK
    clear hI hJ hK
    refine ⟨by simp, .inl ⟨_, _, rfl, run_takeDeferred HK.out, ?_⟩⟩
    exact ⟨_, results_none rfl _ _ _, ⟨_, rfl⟩, .inl ⟨_, rfl, HJV.out⟩⟩
  case stop =>
    rintro D c pre V hD _ ⟨rfl, p, hp⟩ hK
    have HJV := Lib.hid (HJx.out _ _ _ hp (put_below V (l := D) (.deferred none) (by omega)))
    have HK := Lib.hid hK
    clear hp hK
    go_wp2
    refine ⟨by simp, .inl ⟨_, _, rfl, run_takeDeferred HK.out, ?_⟩⟩
    exact ⟨_, results_none rfl _ _ _, ⟨_, rfl⟩, .inr ⟨_, trivial, HJV.out⟩⟩
  case round =>
    rintro L r pre ⟨i, b⟩ V hL hr hI hx
    obtain ⟨hjx, hj, hxt⟩ := hx
    dsimp only at hjx hj hxt
    obtain ⟨k, hk⟩ : ∃ k, k = pre.length := ⟨_, rfl⟩
    rw [← hk] at hjx
    subst hjx
    have HR := Lib.hid hr
    have HXT := Lib.hid hxt
    have HK := Lib.hid hk
    clear hI hr hxt hk
    dsimp only [encA]
    gi_wp2
    refine ⟨Below.refl _ _, fun Wb hB hIb => ?_⟩
    have hTb := HXT.out.beg HR.out hB
    obtain ⟨hJb, hyb, hsb, hzb, _⟩ := hIb
    rw [← HK.out] at hJb
    obtain ⟨n, d, hDk, hmd, hSd, hbd, hbt⟩ := HJD.out _ _ hJb
    have hSk := hSd i hj (fun x hx => dirtyL_lt _ _ _ x hx)
    have h64 : (S i).length = 64 := by
      obtain ⟨_, ⟨D, _, h2⟩, _⟩ := hDk
      rw [← hSk]
      exact (h2 i (by omega)).2
    have HBl : Hid (Calls Try.prog 79 #[.slice (some ⟨b, 0, none⟩) 64 64] Wb fun e w' => e = .returned (.bool (decide (S i = zeros))) ∧ Wb = w') := Lib.hid (by
      have h := code_blank (S i) (some ⟨b, 0, none⟩) 64 Wb hTb
      rwa [h64] at h)
    have c1 := cell_of_row Wb Bt 0 _ _ _ hbt
    have c2 := cell_of_row Wb W.heap.size 0 _ _ _ hyb
    simp only [List.getElem?_toArray, List.getElem?_cons_zero] at c1 c2
    have HIb := Lib.hid (And.intro hJb (And.intro hyb (And.intro hsb hzb)))
    have HN := Lib.hid (dirtyL_next S tail i)
    have HLen : Hid ((pre ++ [(i, b)]).length = i + 1 ∧ i + 1 ≤ m) := Lib.hid ⟨by rw [List.length_append, ← HK.out]; rfl, hj⟩
    clear hDk hmd hSd hbd hbt hSk h64 hTb hB hJb hyb hsb hzb HXT HR
    by_cases htl : (tail : Int) ≤ (i : Int)
    · generalize hz : decide (S i = zeros) = z at HBl
      have HZ := Lib.hid hz
      clear hz
      cases z with
      | true =>
        have HE : Hid (dirtyL S tail (i + 1) = dirtyL S tail i) := Lib.hid (by rw [HN.out, if_neg (by unfold dirtyQ; rw [HZ.out]; simp), List.append_nil])
        gi_wp2_with (refine ⟨trivial, ?_⟩; gi_at_call 79; refine (CallsIn.inRound _ (callsIn_wide.2 HBl.out)).mono ?_; rintro e w1 ⟨rfl, rfl⟩)
        refine ⟨fun _ _ => trivial, ?_⟩
        gi_wp2
        exact ⟨KpW.refl _ _, by rw [HLen.out.1, HE.out]; exact HIb.out.1, HIb.out.2.1, HIb.out.2.2.1, HIb.out.2.2.2, by rw [HLen.out.1]; exact HLen.out.2⟩
      | false =>
        have HE : Hid (dirtyL S tail (i + 1) = dirtyL S tail i ++ [i]) := Lib.hid (by rw [HN.out, if_pos (by unfold dirtyQ; rw [HZ.out, decide_eq_true (by omega)]; rfl)])
        obtain ⟨fn, tmps, assign, body, hy, hR⟩ := HY.out (dirtyL S tail i) i Wb (by have := HIb.out.2.2.2; omega) HIb.out.1 ⟨hj, by unfold dirtyQ; rw [HZ.out, decide_eq_true (by omega)]; rfl, rfl⟩
        have HRr := Lib.hid hR
        clear hR
        dsimp only [encN] at hy
        gi_wp2_with (refine ⟨trivial, ?_⟩; gi_at_call 79; refine (CallsIn.inRound _ (callsIn_wide.2 HBl.out)).mono ?_; rintro e w1 ⟨rfl, rfl⟩)
        refine (round_into HRr.out).mono ?_
        rintro e W3 (⟨rfl, hJ3, hk3⟩ | ⟨rfl, hJx3, hk3⟩)
        · have HJ3 := Lib.hid hJ3
          have HK3 := Lib.hid hk3
          clear hJ3 hk3 hy
          gi_wp2
          exact ⟨HK3.out.more (by omega), by rw [HLen.out.1, HE.out]; exact HJ3.out, (HK3.out.2 _ (Nat.le_refl _) (by have := HIb.out.2.2.2; omega)).trans HIb.out.2.1, (HK3.out.2 _ (by omega) (by have := HIb.out.2.2.2; omega)).trans HIb.out.2.2.1, Nat.le_trans HIb.out.2.2.2 HK3.out.1, by rw [HLen.out.1]; exact HLen.out.2⟩
        · have HJ3 := Lib.hid hJx3
          have HK3 := Lib.hid hk3
          clear hJx3 hk3 hy
          gi_wp2
          exact ⟨HK3.out.more (by omega), rfl, _, HJ3.out⟩
    · have htl' : (i : Int) < (tail : Int) := by omega
      have HE : Hid (dirtyL S tail (i + 1) = dirtyL S tail i) := Lib.hid (by rw [HN.out, if_neg (by unfold dirtyQ; rw [decide_eq_false (by omega)]; simp), List.append_nil])
      gi_wp2
      refine ⟨trivial, ?_⟩
      gi_wp2
      refine ⟨fun _ _ => trivial, ?_⟩
      gi_wp2
      exact ⟨KpW.refl _ _, by rw [HLen.out.1, HE.out]; exact HIb.out.1, HIb.out.2.1, HIb.out.2.2.1, HIb.out.2.2.2, by rw [HLen.out.1]; exact HLen.out.2⟩
end Go.Proofs.Ytmgonokhgijgoaa

namespace Go.Proofs.Ytmgonokhgijgoaa
open Go.RowKit
attribute [local go_sem] Oper.semAt_some
set_option maxRecDepth 100000
set_option linter.unusedSimpArgs false
set_option linter.unusedVariables false

theorem dirtyL_len (S : Nat → Text) (tail m : Nat) : (dirtyL S tail m).length ≤ m := by
  have := List.length_filter_le (dirtyQ S tail) (List.range m)
  rw [List.length_range] at this
  exact this
theorem code_dirtyF (w : World) (B : Nat) (tail : Int) : Calls Try.prog 52 #[.pointer (some ⟨B, 0, none⟩), .int .i64 tail] w fun e w' => e = .returned (.func (.func 78) #[] #[.pointer (some ⟨w.heap.size, 0, none⟩), .pointer (some ⟨w.heap.size + 1, 0, none⟩)]) ∧
    w' = (w.alloc (.cells #[.pointer (some ⟨B, 0, none⟩)] 25)).alloc (.cells #[.int .i64 tail] 3) := by
  have hmf : ∀ (fn : Fn) (first cap : Array Value) (w : World), (Instr.makeFunc fn first cap).run Try.prog w = .ok (.func fn first cap) w := fun _ _ _ _ => rfl
  go_enter Try.func52, Try.ntmps52
  go_wp2
  go_ret
  exact ⟨rfl, rfl⟩
/-- what stands while they are counted -/
def InC (w : World) (B bm n : Nat) (d : DiskV) (tail : Nat) (pre : List Nat) (V : World) : Prop :=
  V.heap[w.heap.size]? = some (.cells #[.int .i64 pre.length] 3 (0, 0)) ∧ V.heap[w.heap.size + 1]? = some (.cells #[.pointer (some ⟨B, 0, none⟩)] 25 (0, 0)) ∧ V.heap[w.heap.size + 1 + 1]? = some (.cells #[.int .i64 tail] 3 (0, 0)) ∧ Below w.heap.size w V
theorem code_dirty_bad (w : World) (B bm n : Nat) (d : DiskV) (tail : Int) (h : Dsk w B bm n d) (hz : sreachV d tail ≠ 0) :
    Calls Try.prog 17 #[.pointer (some ⟨B, 0, none⟩), .int .i64 tail] w fun e w' => e = .returned (.tuple #[.int .i64 0, .int .i64 (sreachV d tail)]) ∧ w = w' := by
  have HR := Lib.hid (code_sreach w B bm n d tail h)
  generalize sreachV d tail = v at *
  have hv : (v != 0) = true := by simpa using hz
  clear h
  go_enter Try.func17, Try.ntmps17
  go_wp2_with (go_at_call 45; refine HR.out.mono ?_; rintro e w1 ⟨rfl, rfl⟩)
  go_ret2
  exact ⟨rfl, rfl⟩
set_option maxHeartbeats 2000000 in
theorem code_dirty (w : World) (B bm n : Nat) (d : DiskV) (tail : Nat) (h : Dsk w B bm n d) (hd : d.dead = false) (ht : tail ≤ d.many) :
    Calls Try.prog 17 #[.pointer (some ⟨B, 0, none⟩), .int .i64 tail] w fun e w' => e = .returned (.tuple #[.int .i64 (dirtyL d.S tail d.many).length, .int .i64 0]) ∧ Below w.heap.size w w' := by
  have HR : Hid (Calls Try.prog 45 #[.pointer (some ⟨B, 0, none⟩), .int .i64 tail] w fun e w' => e = .returned (.int .i64 0) ∧ w = w') := Lib.hid (by
    have h1 := code_sreach w B bm n d tail h
    have h2 : sreachV d tail = 0 := by unfold sreachV; rw [hd, if_neg (by omega), if_neg (by decide)]
    rwa [h2] at h1)
  have HF := Lib.hid (fun W => code_dirtyF W B tail)
  have HD := Lib.hid h
  have HM := Lib.hid h.2.2.1
  have hBl := h.lt
  have hbl := h.2.1.lt
  clear h hd
  refine callsIn_wide.1 (callsIn_of_wp_marks (n := 0) (F := Fence.wide) Try.func17 rfl trivial (wpIn_wide.2 ?_) rfl)
  simp only [Try.ntmps17, List.size_toArray, List.length_cons, List.length_nil, Nat.reduceAdd, Nat.reduceSub, Array.replicate_succ, Array.replicate_zero, List.push_toArray, List.append_toArray, List.nil_append, List.cons_append]
  go_wp2_with (first
    | (go_at_call 45; refine HR.out.mono ?_; rintro e w1 ⟨rfl, rfl⟩)
    | (go_at_call 52; refine (HF.out _).mono ?_; rintro e w2 ⟨rfl, rfl⟩))
  obtain ⟨W9, hW9⟩ : ∃ W9, W9 = ((w.alloc (.cells #[.int .i64 0] 3)).alloc (.cells #[.pointer (some ⟨B, 0, none⟩)] 25)).alloc (.cells #[.int .i64 tail] 3) := ⟨_, rfl⟩
  have e1 := heap_alloc_new w (.cells #[.int .i64 0] 3)
  have e2 := heap_alloc_new (w.alloc (.cells #[.int .i64 0] 3)) (.cells #[.pointer (some ⟨B, 0, none⟩)] 25)
  have e3 := heap_alloc_new ((w.alloc (.cells #[.int .i64 0] 3)).alloc (.cells #[.pointer (some ⟨B, 0, none⟩)] 25)) (.cells #[.int .i64 tail] 3)
  simp only [World.size_alloc] at e1 e2 e3
  have hB9 : Below w.heap.size w W9 := by rw [hW9]; exact ((((Below.refl _ w).alloc (Nat.le_refl _) _).alloc (by simp) _).alloc (by simp <;> omega) _)
  have hz9 : W9.heap.size = w.heap.size + 3 := by rw [hW9]; simp
  have hI9 : InC w B bm n d tail [] W9 := by
    refine ⟨?_, ?_, ?_, hB9⟩
    · rw [hW9, Below.heap_alloc _ _ _ (by simp <;> omega), Below.heap_alloc _ _ _ (by simp)]; exact e1
    · rw [hW9, Below.heap_alloc _ _ _ (by simp)]; exact e2
    · rw [hW9]; exact e3
  rw [← hW9]
  clear hW9 e1 e2 e3 hB9
  refine wp_rangeToldW (gf := 78) (lb := #[.pointer (some ⟨w.heap.size + 1, 0, none⟩), .pointer (some ⟨w.heap.size + 1 + 1, 0, none⟩)]) rfl (enters_of Try.func78 (by kernel_rfl) rfl) (dirty_toldW (w.heap.size + 1) (w.heap.size + 1 + 1) B bm d.many tail d.S) (fun _ => rfl)
    (InC w B bm n d tail) (fun _ _ _ => False) (fun pre A C h hb => ⟨(hb.block _ (by omega)).trans h.1, (hb.block _ (by omega)).trans h.2.1, (hb.block _ (by omega)).trans h.2.2.1, h.2.2.2.trans (hb.mono (by omega))⟩) (fun _ _ _ _ h _ => h.elim) ?dk hI9 ?round ?done ?stop
  case dk =>
    intro pre A h
    exact ⟨n, d, HD.out.below h.2.2.2, rfl, fun _ _ _ => rfl, h.2.1, h.2.2.1⟩
  case stop =>
    rintro D c pre V hD _ h hK
    exact h.elim
  case done =>
    intro D xs V hD hxl hI hK
    have hx : xs = dirtyL d.S tail d.many := hxl
    rw [hx] at hI
    have q := cell_of_row V _ 0 _ _ _ hI.1
    simp only [List.getElem?_toArray, List.getElem?_cons_zero] at q
    have HI := Lib.hid hI
    have HK := Lib.hid hK
    clear hI hK hx hxl
    go_wp2
    refine ⟨by simp, .inl ⟨_, _, rfl, run_takeDeferred HK.out, ?_⟩⟩
    exact ⟨_, results_tmp2 rfl _ _ _, rfl, HI.out.2.2.2.trans (put_below _ _ (by omega))⟩
  case round =>
    rintro L r pre i V hL hr hI ⟨hj, hq, hpre⟩
    have HL : Hid (pre.length ≤ 4096) := Lib.hid (by rw [hpre]; have := dirtyL_len d.S tail i; have := HM.out; omega)
    obtain ⟨k, hk⟩ : ∃ k, k = pre.length := ⟨_, rfl⟩
    have HKk := Lib.hid hk
    clear hI hr hpre hq hj
    dsimp only [encN]
    gi_wp2
    refine ⟨Below.refl _ _, fun Wb hB hIb => ?_⟩
    have q := cell_of_row Wb _ 0 _ _ _ hIb.1
    have qf := frozen_of_row Wb _ 0 _ _ hIb.1
    simp only [List.getElem?_toArray, List.getElem?_cons_zero] at q
    rw [← hk] at q
    have hw : wrap64 ((k : Int) + 1) = (k : Int) + 1 := by have := HL.out; rw [← hk] at this; unfold wrap64; omega
    have HIb := Lib.hid hIb
    clear hIb hB hk
    gi_wp2
    have hI := HIb.out
    have he : ((pre ++ [i]).length : Int) = (k : Int) + 1 := by rw [List.length_append, ← HKk.out]; rfl
    refine ⟨⟨by simp, fun j h1 h2 => heap_setCell_other _ _ _ _ (by simp; omega)⟩, ?_, (heap_setCell_other _ _ _ _ (by simp)).trans hI.2.1, (heap_setCell_other _ _ _ _ (by simp; omega)).trans hI.2.2.1, hI.2.2.2.setCell (p := ⟨w.heap.size, 0, none⟩) (Nat.le_refl _) _⟩
    rw [he]
    exact heap_setCell_same Wb w.heap.size 0 _ _ _ hI.1
end Go.Proofs.Ytmgonokhgijgoaa
