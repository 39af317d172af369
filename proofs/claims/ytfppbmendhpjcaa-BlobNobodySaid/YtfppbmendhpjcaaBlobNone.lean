/- Writers and readers that no call made. -/
import Derived.Test.YtfppbmendhpjcaaBlobOps
import Derived.Defers
import Derived.Recover
namespace Go.Proofs.Ytfppbmendhpjcaa
open Go.RowKit

/-- a writer that no call made: none, or an empty one -/
def NoW (w : World) (p : Option Addr) : Prop := p = none ∨ ∃ g, p = some ⟨g, 0, none⟩ ∧ w.heap[g]? = some (.cells #[.bool false, .bool false, .slice none 0 0] 49 (0, 0))
theorem NoW.below {w w' : World} {p : Option Addr} (h : NoW w p) (hb : Below w.heap.size w w') : NoW w' p := by
  rcases h with h | ⟨g, h, hg⟩
  · exact .inl h
  · exact .inr ⟨g, h, (hb.block g (heap_lt hg)).trans hg⟩
def NoR (w : World) (p : Option Addr) : Prop := p = none ∨ ∃ g, p = some ⟨g, 0, none⟩ ∧ w.heap[g]? = some (.cells #[.bool false, .bool false, .slice none 0 0] 55 (0, 0))
theorem NoR.below {w w' : World} {p : Option Addr} (h : NoR w p) (hb : Below w.heap.size w w') : NoR w' p := by
  rcases h with h | ⟨g, h, hg⟩
  · exact .inl h
  · exact .inr ⟨g, h, (hb.block g (heap_lt hg)).trans hg⟩

theorem put_nobody (w : World) (p A : Option Addr) (n c : Nat) (are : Bool) (h : NoW w p) :
    Calls Try.prog 54 #[.pointer p, .slice A n c, .bool are] w fun e w' => e = .returned (.pointer none) ∧ w = w' := by
  rcases h with rfl | ⟨g, rfl, hg⟩
  · go_enter Try.func54, Try.ntmps54
    go_wp2
    go_ret
    exact ⟨rfl, rfl⟩
  · have h0 := cell_of_row w g 0 _ _ _ hg
    simp only [List.getElem?_toArray, List.getElem?_cons_zero] at h0
    clear hg
    go_enter Try.func54, Try.ntmps54
    go_wp2
    go_ret
    exact ⟨rfl, rfl⟩
theorem doc_below {w w' : World} {d : Option Text} {e : Ending} (h : Doc w d e w') : Below w.heap.size w w' ∧ ∃ A n c b, e = .returned (.tuple #[.slice A n c, .bool b]) := by
  obtain ⟨hb, A, c, h1, _⟩ := docB_of (Below.refl _ _) h
  exact ⟨hb, A, _, c, _, h1⟩
theorem wnum_nobody (w : World) (p : Option Addr) (n : Int) (h1 : -9223372036854775808 ≤ n) (h2 : n ≤ 9223372036854775807) (h : NoW w p) :
    Calls Try.prog 30 #[.pointer p, .int .i64 n] w fun e w' => e = .returned (.pointer none) ∧ Below w.heap.size w w' := by
  have HC := Lib.hid (code_numD n w h1 h2)
  have HN := Lib.hid h
  clear h1 h2 h
  go_enter Try.func30, Try.ntmps30
  go_wp2_with (first
    | (go_at_call 55; refine HC.out.mono ?_; rintro e w1 hd; obtain ⟨hb1, A1, n1, c1, b1, rfl⟩ := doc_below hd; have HB1 := Lib.hid hb1; clear hd hb1)
    | (go_at_call 54; refine (put_nobody _ _ _ _ _ _ (HN.out.below HB1.out)).mono ?_; rintro e w2 ⟨rfl, rfl⟩))
  go_ret
  exact ⟨rfl, HB1.out⟩
theorem wtext_nobody (w : World) (p : Option Addr) (s : ByteArray) (h1 : s.size ≤ 9223372036854775807) (h : NoW w p) :
    Calls Try.prog 31 #[.pointer p, .string s] w fun e w' => e = .returned (.pointer none) ∧ Below w.heap.size w w' := by
  have HC := Lib.hid (code_textD s w h1)
  have HN := Lib.hid h
  clear h1 h
  go_enter Try.func31, Try.ntmps31
  go_wp2_with (first
    | (go_at_call 56; refine HC.out.mono ?_; rintro e w1 hd; obtain ⟨hb1, A1, n1, c1, b1, rfl⟩ := doc_below hd; have HB1 := Lib.hid hb1; clear hd hb1)
    | (go_at_call 54; refine (put_nobody _ _ _ _ _ _ (HN.out.below HB1.out)).mono ?_; rintro e w2 ⟨rfl, rfl⟩))
  go_ret
  exact ⟨rfl, HB1.out⟩
theorem wflag_nobody (w : World) (p : Option Addr) (b : Bool) (h : NoW w p) :
    Calls Try.prog 32 #[.pointer p, .bool b] w fun e w' => e = .returned (.pointer none) ∧ Below w.heap.size w w' := by
  have HC := Lib.hid (code_flag b w)
  have HN := Lib.hid h
  clear h
  go_enter Try.func32, Try.ntmps32
  go_wp2_with (first
    | (go_at_call 57; refine HC.out.mono ?_; rintro e w1 ⟨g1, c1, rfl, _, hb1⟩; have HB1 := Lib.hid hb1; clear hb1)
    | (go_at_call 54; refine (put_nobody _ _ _ _ _ _ (HN.out.below HB1.out)).mono ?_; rintro e w2 ⟨rfl, rfl⟩))
  go_ret
  exact ⟨rfl, HB1.out⟩
theorem bytes_nobody (w : World) (p : Option Addr) (h : NoW w p) :
    Calls Try.prog 18 #[.pointer p] w fun e w' => e = .returned (.tuple #[.slice none 0 0, .int .i64 1]) ∧ w = w' := by
  rcases h with rfl | ⟨g, rfl, hg⟩
  · go_enter Try.func18, Try.ntmps18
    go_wp2
    go_ret2
    exact ⟨rfl, rfl⟩
  · have h0 := cell_of_row w g 0 _ _ _ hg
    simp only [List.getElem?_toArray, List.getElem?_cons_zero] at h0
    clear hg
    go_enter Try.func18, Try.ntmps18
    go_wp2
    go_ret2
    exact ⟨rfl, rfl⟩
theorem left_nobody (w : World) (p : Option Addr) (h : NoR w p) :
    Calls Try.prog 26 #[.pointer p] w fun e w' => e = .returned (.int .i64 0) ∧ w = w' := by
  rcases h with rfl | ⟨g, rfl, hg⟩
  · go_enter Try.func26, Try.ntmps26
    go_wp2
    go_ret
    exact ⟨rfl, rfl⟩
  · have h2 := cell_of_row w g 2 _ _ _ hg
    simp only [List.getElem?_toArray, List.getElem?_cons_zero, List.getElem?_cons_succ] at h2
    clear hg
    go_enter Try.func26, Try.ntmps26
    go_wp2
    go_ret
    exact ⟨rfl, rfl⟩
theorem done_nobody (w : World) (p : Option Addr) (h : NoR w p) :
    Calls Try.prog 28 #[.pointer p] w fun e w' => e = .returned (.int .i64 1) ∧ w = w' := by
  rcases h with rfl | ⟨g, rfl, hg⟩
  · go_enter Try.func28, Try.ntmps28
    go_wp2
    go_ret
    exact ⟨rfl, rfl⟩
  · have h0 := cell_of_row w g 0 _ _ _ hg
    simp only [List.getElem?_toArray, List.getElem?_cons_zero] at h0
    clear hg
    go_enter Try.func28, Try.ntmps28
    go_wp2
    go_ret
    exact ⟨rfl, rfl⟩
theorem read_int_nobody (w : World) (p : Option Addr) (f : Value) (h : NoR w p) :
    Calls Try.prog 48 #[.pointer p, f] w fun e w' => e = .returned (.int .i64 0) ∧ Below w.heap.size w w' := by
  rcases h with rfl | ⟨g, rfl, hg⟩
  · go_enter_defers Try.func48, Try.ntmps48
    go_wp2
    exact ⟨_, results_tmp rfl _ _ _, rfl, (Below.refl _ _).alloc (Nat.le_refl _) _⟩
  · have h0 := cell_of_row w g 0 _ _ _ hg
    have hlt := heap_lt hg
    simp only [List.getElem?_toArray, List.getElem?_cons_zero] at h0
    clear hg
    go_enter_defers Try.func48, Try.ntmps48
    go_wp2
    exact ⟨_, results_tmp rfl _ _ _, rfl, (Below.refl _ _).alloc (Nat.le_refl _) _⟩
theorem rnum_nobody (w : World) (p : Option Addr) (h : NoR w p) :
    Calls Try.prog 20 #[.pointer p] w fun e w' => e = .returned (.int .i64 0) ∧ Below w.heap.size w w' := by
  have hmf : ∀ (fn : Fn) (first cap : Array Value) (w : World), (Instr.makeFunc fn first cap).run Try.prog w = .ok (.func fn first cap) w := fun _ _ _ _ => rfl
  have HN := Lib.hid h
  clear h
  go_enter Try.func20, Try.ntmps20
  go_wp2_with (go_at_call 48; refine (read_int_nobody _ _ _ HN.out).mono ?_; rintro e w2 ⟨rfl, hb⟩)
  go_ret
  exact ⟨rfl, hb⟩
theorem read_string_nobody (w : World) (p : Option Addr) (f : Value) (h : NoR w p) :
    Calls Try.prog 50 #[.pointer p, f] w fun e w' => e = .returned (.string { data := #[] }) ∧ Below w.heap.size w w' := by
  rcases h with rfl | ⟨g, rfl, hg⟩
  · go_enter_defers Try.func50, Try.ntmps50
    go_wp2
    exact ⟨_, results_tmp rfl _ _ _, rfl, (Below.refl _ _).alloc (Nat.le_refl _) _⟩
  · have h0 := cell_of_row w g 0 _ _ _ hg
    have hlt := heap_lt hg
    simp only [List.getElem?_toArray, List.getElem?_cons_zero] at h0
    clear hg
    go_enter_defers Try.func50, Try.ntmps50
    go_wp2
    exact ⟨_, results_tmp rfl _ _ _, rfl, (Below.refl _ _).alloc (Nat.le_refl _) _⟩
theorem rtext_nobody (w : World) (p : Option Addr) (h : NoR w p) :
    Calls Try.prog 22 #[.pointer p] w fun e w' => e = .returned (.string { data := #[] }) ∧ Below w.heap.size w w' := by
  have hmf : ∀ (fn : Fn) (first cap : Array Value) (w : World), (Instr.makeFunc fn first cap).run Try.prog w = .ok (.func fn first cap) w := fun _ _ _ _ => rfl
  have HN := Lib.hid h
  clear h
  go_enter Try.func22, Try.ntmps22
  go_wp2_with (go_at_call 50; refine (read_string_nobody _ _ _ HN.out).mono ?_; rintro e w2 ⟨rfl, hb⟩)
  go_ret
  exact ⟨rfl, hb⟩
theorem read_bool_nobody (w : World) (p : Option Addr) (f : Value) (h : NoR w p) :
    Calls Try.prog 52 #[.pointer p, f] w fun e w' => e = .returned (.bool false) ∧ Below w.heap.size w w' := by
  rcases h with rfl | ⟨g, rfl, hg⟩
  · go_enter_defers Try.func52, Try.ntmps52
    go_wp2
    exact ⟨_, results_tmp rfl _ _ _, rfl, (Below.refl _ _).alloc (Nat.le_refl _) _⟩
  · have h0 := cell_of_row w g 0 _ _ _ hg
    have hlt := heap_lt hg
    simp only [List.getElem?_toArray, List.getElem?_cons_zero] at h0
    clear hg
    go_enter_defers Try.func52, Try.ntmps52
    go_wp2
    exact ⟨_, results_tmp rfl _ _ _, rfl, (Below.refl _ _).alloc (Nat.le_refl _) _⟩
theorem rflag_nobody (w : World) (p : Option Addr) (h : NoR w p) :
    Calls Try.prog 24 #[.pointer p] w fun e w' => e = .returned (.bool false) ∧ Below w.heap.size w w' := by
  have hmf : ∀ (fn : Fn) (first cap : Array Value) (w : World), (Instr.makeFunc fn first cap).run Try.prog w = .ok (.func fn first cap) w := fun _ _ _ _ => rfl
  have HN := Lib.hid h
  clear h
  go_enter Try.func24, Try.ntmps24
  go_wp2_with (go_at_call 52; refine (read_bool_nobody _ _ _ HN.out).mono ?_; rintro e w2 ⟨rfl, hb⟩)
  go_ret
  exact ⟨rfl, hb⟩

theorem below_tr2 {B : Nat} {a b c : World} (h : Below B a b) (k : Below b.heap.size b c) (hB : B ≤ a.heap.size) : Below B a c := h.trans (k.mono (Nat.le_trans hB h.size))
set_option maxRecDepth 100000 in
set_option maxHeartbeats 4000000 in
theorem blobNobody_any (o : OpV) (w : World) (ho : Good o) : Calls Try.prog 7 #[opV o] w fun e w' => e = .returned (.bool true) ∧ Below w.heap.size w w' := by
  obtain ⟨k, n, s, b⟩ := o
  obtain ⟨h1, h2, h3⟩ := ho
  simp only at h1 h2 h3
  unfold opV
  simp only
  by_cases hbig : 5000 < s.size
  · have hbig2 : 5000 < ((s.size : Nat) : Int) := by omega
    go_enter Try.func7, Try.ntmps7
    go_wp2_with (go_at_call 14; refine (lives_any _).mono ?_; rintro e w1 ⟨rfl, hb1⟩)
    go_ret
    exact ⟨rfl, below_tr2 ((Below.refl _ _).alloc (Nat.le_refl _) _) hb1 (Nat.le_refl _)⟩
  · have hbig2 : ((s.size : Nat) : Int) ≤ 5000 := by omega
    go_enter Try.func7, Try.ntmps7
    go_wp2
    have HB0 : Hid (Below w.heap.size w (((w.alloc (.cells #[.int .i64 k, .int .i64 n, .string s, .bool b] 29)).alloc (.cells #[.bool false, .bool false, .slice none 0 0] 49)).alloc (.cells #[.pointer none, .pointer (some ⟨w.heap.size + 1, 0, none⟩)] 25))) :=
      Lib.hid ((((Below.refl _ _).alloc (Nat.le_refl _) _).alloc (by simp) _).alloc (by simp; omega) _)
    have hw1 : (((w.alloc (.cells #[.int .i64 k, .int .i64 n, .string s, .bool b] 29)).alloc (.cells #[.bool false, .bool false, .slice none 0 0] 49)).alloc (.cells #[.pointer none, .pointer (some ⟨w.heap.size + 1, 0, none⟩)] 25)).heap[w.heap.size + 1]? = some (.cells #[.bool false, .bool false, .slice none 0 0] 49 (0, 0)) := by
      have h := Below.heap_alloc ((w.alloc (.cells #[.int .i64 k, .int .i64 n, .string s, .bool b] 29)).alloc (.cells #[.bool false, .bool false, .slice none 0 0] 49)) (.cells #[.pointer none, .pointer (some ⟨w.heap.size + 1, 0, none⟩)] 25) (w.heap.size + 1) (by simp)
      rw [h]
      exact heap_alloc2_new _ _ _
    have hw0 : (((w.alloc (.cells #[.int .i64 k, .int .i64 n, .string s, .bool b] 29)).alloc (.cells #[.bool false, .bool false, .slice none 0 0] 49)).alloc (.cells #[.pointer none, .pointer (some ⟨w.heap.size + 1, 0, none⟩)] 25)).heap[w.heap.size]? = some (.cells #[.int .i64 k, .int .i64 n, .string s, .bool b] 29 (0, 0)) := by
      have h := Below.heap_alloc ((w.alloc (.cells #[.int .i64 k, .int .i64 n, .string s, .bool b] 29)).alloc (.cells #[.bool false, .bool false, .slice none 0 0] 49)) (.cells #[.pointer none, .pointer (some ⟨w.heap.size + 1, 0, none⟩)] 25) (w.heap.size) (by simp; omega)
      rw [h]
      exact heap_alloc2_old _ _ _
    have hw2 : (((w.alloc (.cells #[.int .i64 k, .int .i64 n, .string s, .bool b] 29)).alloc (.cells #[.bool false, .bool false, .slice none 0 0] 49)).alloc (.cells #[.pointer none, .pointer (some ⟨w.heap.size + 1, 0, none⟩)] 25)).heap[w.heap.size + 1 + 1]? = some (.cells #[.pointer none, .pointer (some ⟨w.heap.size + 1, 0, none⟩)] 25 (0, 0)) := by
      have h := heap_alloc_new ((w.alloc (.cells #[.int .i64 k, .int .i64 n, .string s, .bool b] 29)).alloc (.cells #[.bool false, .bool false, .slice none 0 0] 49)) (.cells #[.pointer none, .pointer (some ⟨w.heap.size + 1, 0, none⟩)] 25)
      simpa using h
    have hz0 : w.heap.size + 1 + 1 < (((w.alloc (.cells #[.int .i64 k, .int .i64 n, .string s, .bool b] 29)).alloc (.cells #[.bool false, .bool false, .slice none 0 0] 49)).alloc (.cells #[.pointer none, .pointer (some ⟨w.heap.size + 1, 0, none⟩)] 25)).heap.size := by simp
    generalize (((w.alloc (.cells #[.int .i64 k, .int .i64 n, .string s, .bool b] 29)).alloc (.cells #[.bool false, .bool false, .slice none 0 0] 49)).alloc (.cells #[.pointer none, .pointer (some ⟨w.heap.size + 1, 0, none⟩)] 25)) = W0 at *
    have HW : Hid (∀ W, Below W0.heap.size W0 W → NoW W (some ⟨w.heap.size + 1, 0, none⟩)) := Lib.hid (fun W hb => .inr ⟨_, rfl, (hb.block _ (heap_lt hw1)).trans hw1⟩)
    have HW' : Hid (∀ W, NoW W none) := Lib.hid (fun W => .inl rfl)
    have HC : Hid (∀ W, Below W0.heap.size W0 W → W.cell? ⟨w.heap.size, 1, none⟩ = some (.int .i64 n) ∧ W.cell? ⟨w.heap.size, 2, none⟩ = some (.string s) ∧ W.cell? ⟨w.heap.size, 3, none⟩ = some (.bool b) ∧ W.cell? ⟨w.heap.size + 1 + 1, 0, none⟩ = some (.pointer none) ∧ W.cell? ⟨w.heap.size + 1 + 1, 1, none⟩ = some (.pointer (some ⟨w.heap.size + 1, 0, none⟩))) := Lib.hid (fun W hb => by
      have a := (hb.block _ (heap_lt hw0)).trans hw0
      have c := (hb.block _ (heap_lt hw2)).trans hw2
      exact ⟨cell_of_row W _ 1 _ _ _ a, cell_of_row W _ 2 _ _ _ a, cell_of_row W _ 3 _ _ _ a, cell_of_row W _ 0 _ _ _ c, cell_of_row W _ 1 _ _ _ c⟩)
    clear hw0 hw1 hw2
    go_loopw [21] (fun i wr => ∃ j : Int, (j = 0 ∨ j = 1 ∨ j = 2) ∧ i = .int .i64 j ∧ Hid (Below W0.heap.size W0 wr)) (fun i _ => (2 - intOf i).toNat)
    case atStart => exact ⟨0, .inl rfl, rfl, Lib.hid (Below.refl _ _)⟩
    case round =>
      obtain ⟨j, hj, rfl, HB⟩ := hrel
      obtain ⟨d1, d2, d3, d4, d5⟩ := HC.out wr HB.out
      rcases hj with rfl | rfl | rfl
      · go_wp2_with (first
          | (go_at_call 18; refine (bytes_nobody _ _ (HW'.out _)).mono ?_; rintro e w' ⟨rfl, rfl⟩)
          | (go_at_call 30; refine (wnum_nobody _ _ n h1 h2 (HW'.out _)).mono ?_; rintro e w1 ⟨rfl, hb1⟩; have HB1 := Lib.hid (below_tr2 HB.out hb1 (Nat.le_refl _)); obtain ⟨e1, e2, e3, _, _⟩ := HC.out w1 HB1.out; clear hb1)
          | (go_at_call 31; refine (wtext_nobody _ _ s h3 (HW'.out _)).mono ?_; rintro e w2 ⟨rfl, hb2⟩; have HB2 := Lib.hid (below_tr2 HB1.out hb2 (Nat.le_refl _)); obtain ⟨f1, f2, f3, _, _⟩ := HC.out w2 HB2.out; clear hb2)
          | (go_at_call 32; refine (wflag_nobody _ _ b (HW'.out _)).mono ?_; rintro e w3 ⟨rfl, hb3⟩; have HB3 := Lib.hid (below_tr2 HB2.out hb3 (Nat.le_refl _)); clear hb3))
        go_roundw
        case rel => exact ⟨1, .inr (.inl rfl), rfl, HB3⟩
        case measure => simp [intOf]
      · go_wp2_with (first
          | (go_at_call 18; refine (bytes_nobody _ _ (HW.out _ HB.out)).mono ?_; rintro e w' ⟨rfl, rfl⟩)
          | (go_at_call 30; refine (wnum_nobody _ _ n h1 h2 (HW.out _ HB.out)).mono ?_; rintro e w1 ⟨rfl, hb1⟩; have HB1 := Lib.hid (below_tr2 HB.out hb1 (Nat.le_refl _)); obtain ⟨e1, e2, e3, _, _⟩ := HC.out w1 HB1.out; clear hb1)
          | (go_at_call 31; refine (wtext_nobody _ _ s h3 (HW.out _ HB1.out)).mono ?_; rintro e w2 ⟨rfl, hb2⟩; have HB2 := Lib.hid (below_tr2 HB1.out hb2 (Nat.le_refl _)); obtain ⟨f1, f2, f3, _, _⟩ := HC.out w2 HB2.out; clear hb2)
          | (go_at_call 32; refine (wflag_nobody _ _ b (HW.out _ HB2.out)).mono ?_; rintro e w3 ⟨rfl, hb3⟩; have HB3 := Lib.hid (below_tr2 HB2.out hb3 (Nat.le_refl _)); clear hb3))
        go_roundw
        case rel => exact ⟨2, .inr (.inr rfl), rfl, HB3⟩
        case measure => simp [intOf]
      · obtain ⟨wo, rfl⟩ : ∃ wo : World, wo = wr := ⟨_, rfl⟩
        go_wp2
        have HB5 : Hid (Below w.heap.size w ((wo.alloc (.cells #[.bool false, .bool false, .slice none 0 0] 55)).alloc (.cells #[.pointer none, .pointer (some ⟨wo.heap.size, 0, none⟩)] 36))) := Lib.hid (((HB0.out.trans (HB.out.mono HB0.out.size)).alloc (Nat.le_trans HB0.out.size HB.out.size) _).alloc (by have := HB0.out.size; have := HB.out.size; simp; omega) _)
        have hr0 : ((wo.alloc (.cells #[.bool false, .bool false, .slice none 0 0] 55)).alloc (.cells #[.pointer none, .pointer (some ⟨wo.heap.size, 0, none⟩)] 36)).heap[wo.heap.size]? = some (.cells #[.bool false, .bool false, .slice none 0 0] 55 (0, 0)) := heap_alloc2_old _ _ _
        have hr1 : ((wo.alloc (.cells #[.bool false, .bool false, .slice none 0 0] 55)).alloc (.cells #[.pointer none, .pointer (some ⟨wo.heap.size, 0, none⟩)] 36)).heap[wo.heap.size + 1]? = some (.cells #[.pointer none, .pointer (some ⟨wo.heap.size, 0, none⟩)] 36 (0, 0)) := heap_alloc2_new _ _ _
        generalize ((wo.alloc (.cells #[.bool false, .bool false, .slice none 0 0] 55)).alloc (.cells #[.pointer none, .pointer (some ⟨wo.heap.size, 0, none⟩)] 36)) = W1 at *
        generalize wo.heap.size = q at *
        have HQ : Hid (∀ W, Below W1.heap.size W1 W → NoR W (some ⟨q, 0, none⟩)) := Lib.hid (fun W hb => .inr ⟨_, rfl, (hb.block _ (heap_lt hr0)).trans hr0⟩)
        have HQ' : Hid (∀ W, Below W1.heap.size W1 W → NoR W none) := Lib.hid (fun W _ => .inl rfl)
        have HD : Hid (∀ W, Below W1.heap.size W1 W → W.cell? ⟨q + 1, 0, none⟩ = some (.pointer none) ∧ W.cell? ⟨q + 1, 1, none⟩ = some (.pointer (some ⟨q, 0, none⟩))) := Lib.hid (fun W hb => by
          have c := (hb.block _ (heap_lt hr1)).trans hr1
          exact ⟨cell_of_row W _ 0 _ _ _ c, cell_of_row W _ 1 _ _ _ c⟩)
        clear hr0 hr1 d1 d2 d3 d4 d5 HB
        go_loopw [64] (fun i wr => ∃ j : Int, (j = 0 ∨ j = 1 ∨ j = 2) ∧ i = .int .i64 j ∧ Hid (Below W1.heap.size W1 wr)) (fun i _ => (2 - intOf i).toNat)
        case atStart => exact ⟨0, .inl rfl, rfl, Lib.hid (Below.refl _ _)⟩
        case round =>
          obtain ⟨j, hj, rfl, HR⟩ := hrel
          obtain ⟨g1, g2⟩ := HD.out wr HR.out
          rcases hj with rfl | rfl | rfl
          · go_wp2_with (first
              | (go_at_call 20; refine (rnum_nobody _ _ (HQ'.out _ HR.out)).mono ?_; rintro e x1 ⟨rfl, hb1⟩; have HX1 := Lib.hid (below_tr2 HR.out hb1 (Nat.le_refl _)); clear hb1)
              | (go_at_call 22; refine (rtext_nobody _ _ (HQ'.out _ HX1.out)).mono ?_; rintro e x2 ⟨rfl, hb2⟩; have HX2 := Lib.hid (below_tr2 HX1.out hb2 (Nat.le_refl _)); clear hb2)
              | (go_at_call 24; refine (rflag_nobody _ _ (HQ'.out _ HX2.out)).mono ?_; rintro e x3 ⟨rfl, hb3⟩; have HX3 := Lib.hid (below_tr2 HX2.out hb3 (Nat.le_refl _)); clear hb3)
              | (go_at_call 26; refine (left_nobody _ _ (HQ'.out _ HX3.out)).mono ?_; rintro e w' ⟨rfl, rfl⟩)
              | (go_at_call 28; refine (done_nobody _ _ (HQ'.out _ HX3.out)).mono ?_; rintro e w' ⟨rfl, rfl⟩))
            go_roundw
            case rel => exact ⟨1, .inr (.inl rfl), rfl, HX3⟩
            case measure => simp [intOf]
          · go_wp2_with (first
              | (go_at_call 20; refine (rnum_nobody _ _ (HQ.out _ HR.out)).mono ?_; rintro e x1 ⟨rfl, hb1⟩; have HX1 := Lib.hid (below_tr2 HR.out hb1 (Nat.le_refl _)); clear hb1)
              | (go_at_call 22; refine (rtext_nobody _ _ (HQ.out _ HX1.out)).mono ?_; rintro e x2 ⟨rfl, hb2⟩; have HX2 := Lib.hid (below_tr2 HX1.out hb2 (Nat.le_refl _)); clear hb2)
              | (go_at_call 24; refine (rflag_nobody _ _ (HQ.out _ HX2.out)).mono ?_; rintro e x3 ⟨rfl, hb3⟩; have HX3 := Lib.hid (below_tr2 HX2.out hb3 (Nat.le_refl _)); clear hb3)
              | (go_at_call 26; refine (left_nobody _ _ (HQ.out _ HX3.out)).mono ?_; rintro e w' ⟨rfl, rfl⟩)
              | (go_at_call 28; refine (done_nobody _ _ (HQ.out _ HX3.out)).mono ?_; rintro e w' ⟨rfl, rfl⟩))
            go_roundw
            case rel => exact ⟨2, .inr (.inr rfl), rfl, HX3⟩
            case measure => simp [intOf]
          · go_wp2_with (go_at_call 14; refine (lives_any _).mono ?_; rintro e w6 ⟨rfl, hb6⟩)
            go_ret
            exact ⟨rfl, HB5.out.trans ((HR.out.mono HB5.out.size).trans (hb6.mono (Nat.le_trans HB5.out.size HR.out.size)))⟩
end Go.Proofs.Ytfppbmendhpjcaa
