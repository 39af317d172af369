/- A blank sector. The sectors that are not blank, told one by one. scan: why the sectors of a disk can't be read. -/
import Derived.Test.YtfjejiapafdgeaaJ10
import Derived.Test.YtfjejiapafdgeaaJ4
import Derived.Test.YtfjejiapafdgeaaJ1
namespace Go.Proofs.Ytfjejiapafdgeaa
open Go.RowKit
set_option maxRecDepth 100000

set_option maxHeartbeats 1000000 in
theorem code_blank (l : Text) (A : Option Addr) (c : Nat) (w : World) (hT : Txt w A l) : Calls Try.prog 79 #[.slice A l.length c] w fun e w' => e = .returned (.bool (decide (l = zeros))) ∧ w = w' := by
  have HP := Lib.hid (code_isPage A l.length c w)
  by_cases hl : l.length = 64
  · obtain ⟨b, o, rfl, hb, hr⟩ := txt_mid hT (by intro e; subst e; simp at hl)
    have HR := Lib.hid hr
    obtain ⟨q, hq⟩ : ∃ q, decide (l = zeros) = q := ⟨_, rfl⟩
    have HQ := Lib.hid hq
    rw [hq]
    have HL := Lib.hid hl
    have hl64 : (l.length : Int) = 64 := by omega
    rw [decide_eq_true hl] at HP
    clear hr hT hq
    rw [hl] at HP ⊢
    clear hl hl64
    have hsa := fun w => array_at pageT (some ⟨b, o, none⟩) c w
    go_enter Try.func79, Try.ntmps79
    go_wp2_with (first
      | (go_at_call 68; refine HP.out.mono ?_; rintro e w1 ⟨rfl, rfl⟩)
      | ((with_reducible refine wpList_load_pageG pageT (o := ⟨some 8, _, _, _, _, _⟩) ?a1 (.tmp 7) ?a2 b o ?a3 l HL.out HR.out ?_); (case a1 => rfl); (case a2 => rfl); (case a3 => rfl); (try simp only [Act.put, List.setIfInBounds_toArray, List.set_cons_zero, List.set_cons_succ]))
      | ((with_reducible refine wpList_zero_pageG pageT (o := ⟨some 9, _, _, _, _, _⟩) ?a1 ?a2 ?_); (case a1 => rfl); (case a2 => rfl); (try simp only [Act.put, List.setIfInBounds_toArray, List.set_cons_zero, List.set_cons_succ]))
      | ((with_reducible refine wpList_eql_pageG pageT (o := ⟨some 10, _, _, _, _, _⟩) ?a1 (.tmp 8) (.tmp 9) 128 ?a2 _ _ ?a3 ?a4 HL.out zeros_len q HQ.out ?_); (case a1 => rfl); (case a2 => rfl); (case a3 => rfl); (case a4 => rfl); (try simp only [Act.put, List.setIfInBounds_toArray, List.set_cons_zero, List.set_cons_succ])))
    go_ret
    exact ⟨rfl, rfl⟩
  · rw [decide_eq_false hl] at HP
    rw [decide_eq_false (show ¬ l = zeros from fun e => hl (by rw [e]; exact zeros_len))]
    clear hT hl
    go_enter Try.func79, Try.ntmps79
    go_wp2_with (go_at_call 68; refine HP.out.mono ?_; rintro e w1 ⟨rfl, rfl⟩)
    go_ret
    exact ⟨rfl, rfl⟩
end Go.Proofs.Ytfjejiapafdgeaa

namespace Go.Proofs.Ytfjejiapafdgeaa
open Go.RowKit
attribute [local go_sem] Oper.semAt_some
set_option maxRecDepth 100000
set_option linter.unusedSimpArgs false
set_option linter.unusedVariables false

/-- is a sector to be told -/
def dirtyQ (S : Nat → Text) (tail i : Nat) : Bool := decide (tail ≤ i) && !decide (S i = zeros)
def dirtyL (S : Nat → Text) (tail m : Nat) : List Nat := (List.range m).filter (dirtyQ S tail)
theorem dirtyL_next (S : Nat → Text) (tail k : Nat) : dirtyL S tail (k + 1) = dirtyL S tail k ++ if dirtyQ S tail k = true then [k] else [] := by
  unfold dirtyL
  rw [List.range_succ, List.filter_append]
  congr 1
  by_cases h : dirtyQ S tail k = true
  · rw [if_pos h]; simp [h]
  · rw [if_neg h]; simp [h]
theorem dirtyL_lt (S : Nat → Text) (tail m : Nat) : ∀ x ∈ dirtyL S tail m, x < m := fun x hx => List.mem_range.1 (List.mem_filter.1 hx).1
def encN (x : Nat) : Array Value := #[.int .i64 x]
def FxD (S : Nat → Text) (tail m : Nat) (pre : List Nat) (x : Nat) (W : World) : Prop := x < m ∧ dirtyQ S tail x = true ∧ pre = dirtyL S tail x
def DkD (Bd Bt B bm m : Nat) (S : Nat → Text) (tail : Int) (pre : List Nat) (W : World) : Prop :=
  ∃ n d, Dsk W B bm n d ∧ d.many = m ∧ (∀ j, j < m → (∀ x ∈ pre, x < j) → d.S j = S j) ∧ W.heap[Bd]? = some (.cells #[.pointer (some ⟨B, 0, none⟩)] 25 (0, 0)) ∧ W.heap[Bt]? = some (.cells #[.int .i64 tail] 3 (0, 0))
/-- what stands in a round of the sectors -/
def InD (W : World) (l : Nat) (J : List Nat → World → Prop) (S : Nat → Text) (B tail m : Nat) (pre : List (Nat × Nat)) (V : World) : Prop :=
  J (dirtyL S tail pre.length) V ∧ V.heap[W.heap.size]? = some (.cells #[.func (.yield l) #[] #[]] 64 (0, 0)) ∧ V.heap[W.heap.size + 1]? = some (.cells #[.pointer (some ⟨B, 0, none⟩)] 25 (0, 0)) ∧ W.heap.size + 2 ≤ V.heap.size ∧ pre.length ≤ m
set_option maxHeartbeats 2000000 in
theorem dirty_toldW (Bd Bt B bm m tail : Nat) (S : Nat → Text) :
    SeqToldW Try.prog 78 #[.pointer (some ⟨Bd, 0, none⟩), .pointer (some ⟨Bt, 0, none⟩)] encN (FxD S tail m) (fun xs => xs = dirtyL S tail m) (fun _ => True) (DkD Bd Bt B bm m S tail) := by
  intro l J Jx W hJ hJx hJD hY h0
  obtain ⟨n0, d0, hD, hmd, _, hb0, ht0⟩ := hJD _ _ h0
  have c0 := cell_of_row W Bd 0 _ _ _ hb0
  simp only [List.getElem?_toArray, List.getElem?_cons_zero] at c0
  have hBdl := heapLt hb0
  have hBtl := heapLt ht0
  have HJ := Lib.hid hJ
  have HJx := Lib.hid hJx
  have HY := Lib.hid hY
  have H0 := Lib.hid h0
  have HJD := Lib.hid hJD
  clear hJ hJx hY h0 hD hJD hmd hb0 ht0
  refine callsIn_wide.1 (callsIn_of_wp_marks (n := 0) (F := Fence.wide) Try.func78 rfl trivial (wpIn_wide.2 ?_) rfl)
  simp only [Try.ntmps78, List.size_toArray, List.length_cons, List.length_nil, Nat.reduceAdd, Nat.reduceSub, Array.replicate_succ, Array.replicate_zero, List.push_toArray, List.append_toArray, List.nil_append, List.cons_append]
  go_wp2_with (go_at_call 55; refine (code_all _ _).mono ?_; rintro e w1 ⟨rfl, rfl⟩)
  obtain ⟨W9, hW9⟩ : ∃ W9, W9 = (W.alloc (.cells #[.func (.yield l) #[] #[]] 64)).alloc (.cells #[.pointer (some ⟨B, 0, none⟩)] 25) := ⟨_, rfl⟩
  have e1 := heap_alloc_new W (.cells #[.func (.yield l) #[] #[]] 64)
  have e2 := heap_alloc_new (W.alloc (.cells #[.func (.yield l) #[] #[]] 64)) (.cells #[.pointer (some ⟨B, 0, none⟩)] 25)
  simp only [World.size_alloc] at e2
  have hB9 : Below W.heap.size W W9 := by rw [hW9]; exact (((Below.refl _ W).alloc (Nat.le_refl _) _).alloc (by simp) _)
  have hz9 : W9.heap.size = W.heap.size + 2 := by rw [hW9]; simp
  have hI9 : InD W l J S B tail m [] W9 := ⟨HJ.out _ _ _ H0.out hB9, by rw [hW9, Below.heap_alloc _ _ _ (by simp)]; exact e1, by rw [hW9]; exact e2, by omega, Nat.zero_le _⟩
  rw [← hW9]
  clear hW9 e1 e2 hB9 c0
  refine wp_rangeToldW (gf := 80) (lb := #[.pointer (some ⟨W.heap.size + 1, 0, none⟩)]) rfl (enters_of Try.func80 (by kernel_rfl) rfl) (all_toldW (W.heap.size + 1) B bm m S) (fun _ => rfl)
    (InD W l J S B tail m) (fun c _ V => c = .ret ∧ ∃ p, Jx p V) (fun pre A C h hb => ⟨HJ.out _ _ _ h.1 (hb.mono (by omega)), (hb.block _ (by omega)).trans h.2.1, (hb.block _ (by omega)).trans h.2.2.1, Nat.le_trans h.2.2.2.1 hb.size, h.2.2.2.2⟩) (fun c pre A C ⟨h1, p, h2⟩ hb => ⟨h1, p, HJx.out _ _ _ h2 (hb.mono (by omega))⟩) ?dk hI9 ?round ?done ?stop
  case dk =>
    intro pre A h
    obtain ⟨n, d, h1, h2, h3, h4, h5⟩ := HJD.out _ _ h.1
    exact ⟨n, d, h1, h2, fun j hj hjm => h3 j hjm (fun x hx => Nat.lt_of_lt_of_le (dirtyL_lt _ _ _ x hx) hj), h.2.2.1⟩
  case done =>
    intro D xs V hD hxl hI hK
    have hlen : xs.length = m := hxl
    have hJ := hI.1
    rw [hlen] at hJ
    have HJV := Lib.hid (HJ.out _ _ _ hJ (put_below V (l := D) (.deferred none) (by omega)))
    have HK := Lib.hid hK
    clear hI hJ hK
    refine ⟨by simp, .inl ⟨_, _, rfl, run_takeDeferred HK.out, ?_⟩⟩
    exact ⟨_, results_none rfl _ _ _, ⟨_, rfl⟩, .inl ⟨_, rfl, HJV.out⟩⟩
  case stop =>
    rintro D c pre V hD _ ⟨rfl, p, hp⟩ hK
    have HJV := Lib.hid (HJx.out _ _ _ hp (put_below V (l := D) (.deferred none) (by omega)))
    have HK := Lib.hid hK
    clear hp hK
    go_wp2
    refine ⟨by simp, .inl ⟨_, _, rfl, run_takeDeferred HK.out, ?_⟩⟩
    exact ⟨_, results_none rfl _ _ _, ⟨_, rfl⟩, .inr ⟨_, trivial, HJV.out⟩⟩
  case round =>
    rintro L r pre ⟨i, b⟩ V hL hr hI hx
    obtain ⟨hjx, hj, hxt⟩ := hx
    dsimp only at hjx hj hxt
    obtain ⟨k, hk⟩ : ∃ k, k = pre.length := ⟨_, rfl⟩
    rw [← hk] at hjx
    subst hjx
    have HR := Lib.hid hr
    have HXT := Lib.hid hxt
    have HK := Lib.hid hk
    clear hI hr hxt hk
    dsimp only [encA]
    gi_wp2
    refine ⟨Below.refl _ _, fun Wb hB hIb => ?_⟩
    have hTb := HXT.out.beg HR.out hB
    obtain ⟨hJb, hyb, hsb, hzb, _⟩ := hIb
    rw [← HK.out] at hJb
    obtain ⟨n, d, hDk, hmd, hSd, hbd, hbt⟩ := HJD.out _ _ hJb
    have hSk := hSd i hj (fun x hx => dirtyL_lt _ _ _ x hx)
    have h64 : (S i).length = 64 := by
      obtain ⟨_, ⟨D, _, h2⟩, _⟩ := hDk
      rw [← hSk]
      exact (h2 i (by omega)).2
    have HBl : Hid (Calls Try.prog 79 #[.slice (some ⟨b, 0, none⟩) 64 64] Wb fun e w' => e = .returned (.bool (decide (S i = zeros))) ∧ Wb = w') := Lib.hid (by
      have h := code_blank (S i) (some ⟨b, 0, none⟩) 64 Wb hTb
      rwa [h64] at h)
    have c1 := cell_of_row Wb Bt 0 _ _ _ hbt
    have c2 := cell_of_row Wb W.heap.size 0 _ _ _ hyb
    simp only [List.getElem?_toArray, List.getElem?_cons_zero] at c1 c2
    have HIb := Lib.hid (And.intro hJb (And.intro hyb (And.intro hsb hzb)))
    have HN := Lib.hid (dirtyL_next S tail i)
    have HLen : Hid ((pre ++ [(i, b)]).length = i + 1 ∧ i + 1 ≤ m) := Lib.hid ⟨by rw [List.length_append, ← HK.out]; rfl, hj⟩
    clear hDk hmd hSd hbd hbt hSk h64 hTb hB hJb hyb hsb hzb HXT HR
    by_cases htl : (tail : Int) ≤ (i : Int)
    · generalize hz : decide (S i = zeros) = z at HBl
      have HZ := Lib.hid hz
      clear hz
      cases z with
      | true =>
        have HE : Hid (dirtyL S tail (i + 1) = dirtyL S tail i) := Lib.hid (by rw [HN.out, if_neg (by unfold dirtyQ; rw [HZ.out]; simp), List.append_nil])
        gi_wp2_with (refine ⟨trivial, ?_⟩; gi_at_call 79; refine (CallsIn.inRound _ (callsIn_wide.2 HBl.out)).mono ?_; rintro e w1 ⟨rfl, rfl⟩)
        refine ⟨fun _ _ => trivial, ?_⟩
        gi_wp2
        exact ⟨KpW.refl _ _, by rw [HLen.out.1, HE.out]; exact HIb.out.1, HIb.out.2.1, HIb.out.2.2.1, HIb.out.2.2.2, by rw [HLen.out.1]; exact HLen.out.2⟩
      | false =>
        have HE : Hid (dirtyL S tail (i + 1) = dirtyL S tail i ++ [i]) := Lib.hid (by rw [HN.out, if_pos (by unfold dirtyQ; rw [HZ.out, decide_eq_true (by omega)]; rfl)])
        obtain ⟨fn, tmps, assign, body, hy, hR⟩ := HY.out (dirtyL S tail i) i Wb (by have := HIb.out.2.2.2; omega) HIb.out.1 ⟨hj, by unfold dirtyQ; rw [HZ.out, decide_eq_true (by omega)]; rfl, rfl⟩
        have HRr := Lib.hid hR
        clear hR
        dsimp only [encN] at hy
        gi_wp2_with (refine ⟨trivial, ?_⟩; gi_at_call 79; refine (CallsIn.inRound _ (callsIn_wide.2 HBl.out)).mono ?_; rintro e w1 ⟨rfl, rfl⟩)
        refine (round_into HRr.out).mono ?_
        rintro e W3 (⟨rfl, hJ3, hk3⟩ | ⟨rfl, hJx3, hk3⟩)
        · have HJ3 := Lib.hid hJ3
          have HK3 := Lib.hid hk3
          clear hJ3 hk3 hy
          gi_wp2
          exact ⟨HK3.out.more (by omega), by rw [HLen.out.1, HE.out]; exact HJ3.out, (HK3.out.2 _ (Nat.le_refl _) (by have := HIb.out.2.2.2; omega)).trans HIb.out.2.1, (HK3.out.2 _ (by omega) (by have := HIb.out.2.2.2; omega)).trans HIb.out.2.2.1, Nat.le_trans HIb.out.2.2.2 HK3.out.1, by rw [HLen.out.1]; exact HLen.out.2⟩
        · have HJ3 := Lib.hid hJx3
          have HK3 := Lib.hid hk3
          clear hJx3 hk3 hy
          gi_wp2
          exact ⟨HK3.out.more (by omega), rfl, _, HJ3.out⟩
    · have htl' : (i : Int) < (tail : Int) := by omega
      have HE : Hid (dirtyL S tail (i + 1) = dirtyL S tail i) := Lib.hid (by rw [HN.out, if_neg (by unfold dirtyQ; rw [decide_eq_false (by omega)]; simp), List.append_nil])
      gi_wp2
      refine ⟨trivial, ?_⟩
      gi_wp2
      refine ⟨fun _ _ => trivial, ?_⟩
      gi_wp2
      exact ⟨KpW.refl _ _, by rw [HLen.out.1, HE.out]; exact HIb.out.1, HIb.out.2.1, HIb.out.2.2.1, HIb.out.2.2.2, by rw [HLen.out.1]; exact HLen.out.2⟩
end Go.Proofs.Ytfjejiapafdgeaa

namespace Go.Proofs.Ytfjejiapafdgeaa
open Go.RowKit
set_option maxRecDepth 100000
set_option linter.unusedSimpArgs false
set_option linter.unusedVariables false

def sreachV (d : DiskV) (f : Int) : Int := if f < 0 ∨ (d.many : Int) < f then 2 else if d.dead = true then 32 else 0
set_option maxHeartbeats 1000000 in
theorem code_sreach (w : World) (B bm n : Nat) (d : DiskV) (f : Int) (h : Dsk w B bm n d) : Calls Try.prog 45 #[.pointer (some ⟨B, 0, none⟩), .int .i64 f] w fun e w' => e = .returned (.int .i64 (sreachV d f)) ∧ w = w' := by
  have HL := Lib.hid (code_dlen w B bm n d h)
  have HDd := Lib.hid (code_dead w B bm n d h)
  obtain ⟨m, hm⟩ : ∃ m : Int, m = (d.many : Int) := ⟨_, rfl⟩
  have hp : 0 < m := by have := h.2.2.2.2; omega
  have HD : Hid (sreachV d f = if f < 0 ∨ m < f then 2 else if d.dead = true then 32 else 0) := Lib.hid (by rw [hm]; rfl)
  rw [← hm] at HL
  clear hm h
  generalize d.dead = dd at *
  have hz : (m == 0) = false := beq_false_of_ne (by omega)
  by_cases h1 : f < 0
  · go_enter Try.func45, Try.ntmps45
    go_wp2_with (go_at_call 46; refine HL.out.mono ?_; rintro e w1 ⟨rfl, rfl⟩)
    go_ret
    exact ⟨ret_int (by rw [HD.out, if_pos (.inl h1)]), rfl⟩
  · have h1' : 0 ≤ f := by omega
    by_cases h3 : m < f
    · go_enter Try.func45, Try.ntmps45
      go_wp2_with (go_at_call 46; refine HL.out.mono ?_; rintro e w1 ⟨rfl, rfl⟩)
      go_ret
      exact ⟨ret_int (by rw [HD.out, if_pos (.inr h3)]), rfl⟩
    · have h3' : f ≤ m := by omega
      cases dd
      all_goals (
        go_enter Try.func45, Try.ntmps45
        go_wp2_with (first | (go_at_call 46; refine HL.out.mono ?_; rintro e w1 ⟨rfl, rfl⟩) | (go_at_call 56; refine HDd.out.mono ?_; rintro e w1 ⟨rfl, rfl⟩))
        go_ret
        exact ⟨ret_int (by rw [HD.out, if_neg (by omega)]; rfl), rfl⟩)
end Go.Proofs.Ytfjejiapafdgeaa
