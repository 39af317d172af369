/- The document's own sectors: the number that bytes are; a head that may be. The document's head and end. -/
import Derived.Test.YtmgonokhgijgoaaJ19
import Derived.Test.YtmgonokhgijgoaaJ4
import Derived.Test.YtmgonokhgijgoaaJ13
import Derived.Test.YtmgonokhgijgoaaJ14
namespace Go.Proofs.Ytmgonokhgijgoaa
open Go.RowKit
set_option maxRecDepth 100000

theorem ref_right (s n u : Int) (w : World) : Calls Try.prog 58 #[headV s n u] w fun e w' => e = .returned (.bool (headOk s n)) ∧ Below w.heap.size w w' := by
  have HB : Hid (∀ o, Below w.heap.size w (w.alloc o)) := Lib.hid (fun o => (Below.refl _ _).alloc (Nat.le_refl _) o)
  unfold headV
  have e : headOk s n = (decide (1 ≤ s) && decide (s ≤ 4611686018427387904) && decide (1 ≤ n) && decide (n ≤ 131072)) := by
    unfold headOk seqOk needV
    by_cases h1 : 1 ≤ n <;> by_cases h2 : n ≤ 131072
    · rw [if_neg (by omega), decide_eq_true h1, decide_eq_true h2, decide_eq_true (by omega : 0 < 2 + (n + 63) / 64)]; simp
    · rw [if_pos (by omega), decide_eq_false h2]; simp
    · rw [if_pos (by omega), decide_eq_false h1]; simp
    · rw [if_pos (by omega), decide_eq_false h1]; simp
  have HE := Lib.hid e
  rw [e]
  clear e
  by_cases h1 : 1 ≤ s
  · by_cases h2 : s ≤ 4611686018427387904
    · by_cases h3 : 1 ≤ n
      · by_cases h4 : n ≤ 131072
        · go_enter Try.func58, Try.ntmps58
          go_wp2
          go_ret
          exact ⟨by first | rfl | (simp; done) | (simp; intros; omega), HB.out _⟩
        · have h4' : 131072 < n := by omega
          go_enter Try.func58, Try.ntmps58
          go_wp2
          go_ret
          exact ⟨by first | rfl | (simp; done) | (simp; intros; omega), HB.out _⟩
      · have h3' : n < 1 := by omega
        go_enter Try.func58, Try.ntmps58
        go_wp2
        go_ret
        exact ⟨by first | rfl | (simp; done) | (simp; intros; omega), HB.out _⟩
    · have h2' : 4611686018427387904 < s := by omega
      go_enter Try.func58, Try.ntmps58
      go_wp2
      go_ret
      exact ⟨by first | rfl | (simp; done) | (simp; intros; omega), HB.out _⟩
  · have h1' : s < 1 := by omega
    go_enter Try.func58, Try.ntmps58
    go_wp2
    go_ret
    exact ⟨by first | rfl | (simp; done) | (simp; intros; omega), HB.out _⟩
theorem wrap_step (N : Nat) (z : Int) : wrap64 (wrap64 (IntKind.i64.wrap (N : Int) * 256) + z) = IntKind.i64.wrap ((N : Int) * 256 + z) := by
  simp only [IntKind.wrap_i64, wrap64]
  omega
set_option maxHeartbeats 1000000 in
theorem ref_number (l : Text) (A : Option Addr) (c : Nat) (w : World) (hl : l.length ≤ 8) (hT : Txt w A l) :
    Calls Try.prog 90 #[.slice A l.length c] w fun e w' => e = .returned (.int .i64 (IntKind.i64.wrap (numT l))) ∧ w = w' := by
  have i1 : (l.length : Int) ≤ 8 := by omega
  have HT := Lib.hid hT
  clear hT
  go_enter Try.func90, Try.ntmps90
  go_wp2
  go_loopw [3, 4] (fun s v wr => ∃ k : Nat, k ≤ l.length ∧ v = .int .i64 k ∧ s = .int .i64 (IntKind.i64.wrap (numT (l.take k))) ∧ Hid (w = wr)) (fun _ v _ => l.length - (intOf v).toNat)
  case atStart => exact ⟨0, by omega, rfl, by simp [numT, IntKind.wrap_i64], Lib.hid rfl⟩
  case round =>
    obtain ⟨k, hk, rfl, rfl, HK⟩ := hrel
    by_cases hlt : k < l.length
    · have hlt' : (k : Int) < (l.length : Int) := by omega
      obtain ⟨a, rfl, hbl, hc⟩ := HT.out (by intro e; rw [e] at hlt; simp at hlt)
      have hx := hc k hlt
      rw [HK.out] at hx
      clear hc
      obtain ⟨x, hxk⟩ : ∃ x, x = l[k] := ⟨_, rfl⟩
      rw [← hxk] at hx
      obtain ⟨z, hz⟩ : ∃ z : Int, z = (x.toNat : Int) := ⟨_, rfl⟩
      have hz0 : 0 ≤ z ∧ z < 256 := by have := x.toNat_lt; omega
      rw [← hz] at hx
      obtain ⟨y, hy⟩ : ∃ y : Int, y = IntKind.i64.wrap (numT (l.take k)) := ⟨_, rfl⟩
      rw [← hy]
      have HZ := Lib.hid (And.intro hz (And.intro hxk hy))
      clear hz hxk hy
      go_wp2
      go_roundw
      case rel =>
        obtain ⟨rfl, rfl, rfl⟩ := HZ.out
        exact ⟨k + 1, by omega, by go_num, by rw [wrap_step, List.take_succ_eq_append_getElem hlt, numT_snoc]; simp, HK⟩
      case measure => simp [intOf]; omega
    · obtain rfl : k = l.length := by omega
      have HK' := HK.out
      go_wp2
      go_ret
      rw [List.take_length]
      exact ⟨rfl, HK.out⟩
end Go.Proofs.Ytmgonokhgijgoaa

namespace Go.Proofs.Ytmgonokhgijgoaa
open Go.RowKit
set_option maxRecDepth 100000

/-- the walk stops here -/
def Stop (p : Prop) : Prop := p
theorem Stop.out {p : Prop} (h : Stop p) : p := h
theorem fillP_eq (l : Text) (h : l.length ≤ 64) : fillP l = overP zeros l := by
  unfold fillP
  rw [overP_zeros l h]
theorem refHead : ∃ fs, Try.prog.underlying 112 = some (.struct fs) := ⟨_, Try.underlying112⟩
def headO' (s n u : Int) : Obj := .cells #[.int .i64 s, .int .i64 n, .int .u32 u] 112
theorem head_cells' {w : World} {g : Nat} {s n u : Int} {t : TypeId} (h : w.heap[g]? = some (.cells #[.int .i64 s, .int .i64 n, .int .u32 u] t)) : w.cell? ⟨g, 0, none⟩ = some (.int .i64 s) ∧ w.cell? ⟨g, 1, none⟩ = some (.int .i64 n) ∧ w.cell? ⟨g, 2, none⟩ = some (.int .u32 u) :=
  ⟨by rw [cell_of_row w g _ _ _ _ h]; rfl, by rw [cell_of_row w g _ _ _ _ h]; rfl, by rw [cell_of_row w g _ _ _ _ h]; rfl⟩
theorem ref_wrapT (l : Text) (A : Option Addr) (cap : Nat) (w : World) (hm : l.length ≤ 140737488351232) (hT : Txt w A l) (hA : A = none → l = []) :
    Calls Try.prog 83 #[.slice A l.length cap] w (ToldF w (wrapT l)) := by
  refine (ref_wrap l A cap w hm hT hA).mono ?_
  rintro e w' ⟨g, c, rfl, ho, hb⟩
  obtain ⟨g', c', hv, x1, x2, x3, _⟩ := own_more ho (by rw [wrapT_length]; omega)
  injection hv with e1 e2 e3
  injection e1 with e1
  injection e1 with e1
  subst e1
  subst e3
  exact ⟨g, c, rfl, x1, x2, x3, hb⟩
set_option maxHeartbeats 400000 in
theorem ref_first (s n u : Nat) (w : World) (hs : s ≤ 9223372036854775807) (hn : n ≤ 9223372036854775807) (hu : u < 4294967296) :
    Calls Try.prog 59 #[headV s n u] w (ToldG w (headP s n u)) := by
  have HCs : Hid (∀ W, Calls Try.prog 82 #[.int .i64 s, .int .i64 8] W (ToldF W (highT s 8))) := Lib.hid (fun W => ref_big s 8 W hs (by decide) (by decide))
  have HCn : Hid (∀ W, Calls Try.prog 82 #[.int .i64 n, .int .i64 4] W (ToldF W (highT n 4))) := Lib.hid (fun W => ref_big n 4 W hn (by decide) (by decide))
  have HCu : Hid (∀ W, Calls Try.prog 82 #[.int .i64 u, .int .i64 4] W (ToldF W (highT u 4))) := Lib.hid (fun W => ref_big u 4 W (by omega) (by decide) (by decide))
  obtain ⟨K1, hK1⟩ : ∃ K, K = [72] ++ highT s 8 := ⟨_, rfl⟩
  obtain ⟨K2, hK2⟩ : ∃ K, K = K1 ++ highT n 4 := ⟨_, rfl⟩
  obtain ⟨K3, hK3⟩ : ∃ K, K = K2 ++ highT u 4 := ⟨_, rfl⟩
  have hB : K3 = headB s n u := by rw [hK3, hK2, hK1]; simp [headB]
  have hlk : K3.length = 17 := by rw [hB, headB_len]
  have hl2 : K2.length ≤ 17 := by have := hlk; rw [hK3, List.length_append] at this; omega
  have hl1 : K1.length ≤ 17 := by have := hlk; rw [hK3, List.length_append] at this; rw [hK2, List.length_append] at this; omega
  have HK := Lib.hid (And.intro hK1 (And.intro hK2 hK3))
  have HLn := Lib.hid (And.intro hl1 (And.intro hl2 (Nat.le_of_eq hlk)))
  have j3 : IntKind.i64.wrap (u : Int) = (u : Int) := by rw [IntKind.wrap_i64]; omega
  have HH0 : Hid (∀ W, Below (w.heap.size + 1) (w.alloc (headO' s n u)) W → W.cell? ⟨w.heap.size, 0, none⟩ = some (.int .i64 s) ∧ W.cell? ⟨w.heap.size, 1, none⟩ = some (.int .i64 n) ∧ W.cell? ⟨w.heap.size, 2, none⟩ = some (.int .u32 u)) := Lib.hid (fun W h => head_cells' ((h.block _ (Nat.lt_succ_self _)).trans (heap_alloc_new w (headO' s n u))))
  have HO0 : Hid (((w.alloc (headO' s n u)).alloc (.cells #[.int .u8 72] 5)).ownsRow (w.heap.size + 1) 5 1 (.slice (some ⟨w.heap.size + 1, 0, none⟩) 1 1) ([72] : Text).length (([72] : Text).map cellOf)) := Lib.hid (by
    have := World.ownsRow_lit (base := w.heap.size + 1) (e := 5) (size := 1) (w.alloc (headO' s n u)) #[.int .u8 72] 1 (by rw [World.size_alloc]; exact Nat.le_refl _) (by unfold maxLen; omega) rfl
    rw [World.size_alloc] at this
    exact this)
  have HB0 : Hid (Below (w.heap.size + 1) (w.alloc (headO' s n u)) ((w.alloc (headO' s n u)).alloc (.cells #[.int .u8 72] 5))) := Lib.hid ((Below.refl _ _).alloc (by rw [World.size_alloc]; exact Nat.le_refl _) _)
  have HSZ0 : Hid (w.heap.size + 1 ≤ ((w.alloc (headO' s n u)).alloc (.cells #[.int .u8 72] 5)).heap.size) := Lib.hid (by simp)
  have HBA : Hid (Below w.heap.size w (w.alloc (headO' s n u))) := Lib.hid (below_alloc w _)
  obtain ⟨y0, y1, y2⟩ := HH0.out _ HB0.out
  have HWR : Hid (∀ W g c, Txt W (some ⟨g, 0, none⟩) K3 → Calls Try.prog 83 #[.slice (some ⟨g, 0, none⟩) K3.length c] W (ToldF W (wrapT K3))) := Lib.hid (fun W g c h => ref_wrapT K3 (some ⟨g, 0, none⟩) c W (by omega) h (by simp))
  have HFL : Hid (∀ W g c, Txt W (some ⟨g, 0, none⟩) (wrapT K3) → Calls Try.prog 60 #[.slice (some ⟨g, 0, none⟩) (wrapT K3).length c] W (ToldG W (headP s n u))) := Lib.hid (fun W g c h => by
    have := ref_fillG (wrapT K3) (some ⟨g, 0, none⟩) c W (by rw [wrapT_length]; omega) h (by simp)
    rw [fillP_eq _ (by rw [wrapT_length]; omega), hB] at this
    rw [hB]
    exact this)
  unfold headO' at HO0 HB0 y0 y1 y2 HH0 HSZ0 HBA
  unfold headV
  clear hs hn hu hK1 hK2 hK3 hl1 hl2 hlk hB
  go_enter Try.func59, Try.ntmps59
  go_wp2_with (go_at_call 82; refine (HCs.out _).mono ?_; rintro e w1 ⟨g1, c1, rfl, _, _, ht, hb⟩; have HT1 := Lib.hid ht; have HO1 := Lib.hid (own_on HO0.out hb); have HB1 := Lib.hid (HB0.out.trans (hb.mono HSZ0.out)); have HSZ1 := Lib.hid (Nat.le_trans HSZ0.out hb.size); clear ht hb; obtain ⟨y0, y1, y2⟩ := HH0.out _ HB1.out; refine Stop.out ?_)
  unfold Stop
  go_wp2_with (at_builtin; refine wpList_append_own_text (o := ⟨some 8, _, _, _, _, _⟩) rfl _ _ rfl rfl (w.heap.size + 1) (w.alloc (.cells #[.int .i64 s, .int .i64 n, .int .u32 u] 112)) _ [72] (highT s 8) K1 rfl HO1.out (some ⟨g1, 0, none⟩) c1 rfl ?a1 ?b1 ?c1 HB1.out HSZ1.out ?d1 ?_; (case a1 => exact HT1.out); (case b1 => intro e; cases e); (case c1 => simp [highT_len]); (case d1 => exact HK.out.1); intro v2 w2 hown hb hv; obtain ⟨g2, c2, hv2, _, _, htx, _⟩ := own_more hown (by rw [HK.out.1]; simp); subst hv2; have HT2 := Lib.hid htx; have HO2 := Lib.hid hown; have HB2 := Lib.hid hb; have HSZ2 : Hid (w.heap.size + 1 ≤ w2.heap.size) := (Lib.hid (by have := hb.size; rw [World.size_alloc] at this; exact this)); clear hown hb hv htx; obtain ⟨y0, y1, y2⟩ := HH0.out _ HB2.out; refine Stop.out ?_)
  unfold Stop
  go_wp2_with (go_at_call 82; refine (HCn.out _).mono ?_; rintro e w3 ⟨g3, c3, rfl, _, _, ht, hb⟩; have HT3 := Lib.hid ht; have HO3 := Lib.hid (own_on HO2.out hb); have HB3 := Lib.hid (HB2.out.trans (hb.mono HSZ2.out)); have HSZ3 := Lib.hid (Nat.le_trans HSZ2.out hb.size); clear ht hb; obtain ⟨y0, y1, y2⟩ := HH0.out _ HB3.out; refine Stop.out ?_)
  unfold Stop
  go_wp2_with (at_builtin; refine wpList_append_own_text (o := ⟨some 13, _, _, _, _, _⟩) rfl _ _ rfl rfl (w.heap.size + 1) (w.alloc (.cells #[.int .i64 s, .int .i64 n, .int .u32 u] 112)) _ K1 (highT n 4) K2 rfl HO3.out (some ⟨g3, 0, none⟩) c3 rfl ?a2 ?b2 ?c2 HB3.out HSZ3.out ?d2 ?_; (case a2 => exact HT3.out); (case b2 => intro e; cases e); (case c2 => have := HLn.out.1; rw [highT_len]; omega); (case d2 => exact HK.out.2.1); intro v4 w4 hown hb hv; obtain ⟨g4, c4, hv2, _, _, htx, _⟩ := own_more hown (by rw [HK.out.2.1]; simp [highT_len]); subst hv2; have HT4 := Lib.hid htx; have HO4 := Lib.hid hown; have HB4 := Lib.hid hb; have HSZ4 : Hid (w.heap.size + 1 ≤ w4.heap.size) := (Lib.hid (by have := hb.size; rw [World.size_alloc] at this; exact this)); clear hown hb hv htx; obtain ⟨y0, y1, y2⟩ := HH0.out _ HB4.out; refine Stop.out ?_)
  unfold Stop
  go_wp2_with (go_at_call 82; refine (HCu.out _).mono ?_; rintro e w5 ⟨g5, c5, rfl, _, _, ht, hb⟩; have HT5 := Lib.hid ht; have HO5 := Lib.hid (own_on HO4.out hb); have HB5 := Lib.hid (HB4.out.trans (hb.mono HSZ4.out)); have HSZ5 := Lib.hid (Nat.le_trans HSZ4.out hb.size); clear ht hb; obtain ⟨y0, y1, y2⟩ := HH0.out _ HB5.out; refine Stop.out ?_)
  unfold Stop
  go_wp2_with (at_builtin; refine wpList_append_own_text (o := ⟨some 19, _, _, _, _, _⟩) rfl _ _ rfl rfl (w.heap.size + 1) (w.alloc (.cells #[.int .i64 s, .int .i64 n, .int .u32 u] 112)) _ K2 (highT u 4) K3 rfl HO5.out (some ⟨g5, 0, none⟩) c5 rfl ?a3 ?b3 ?c3 HB5.out HSZ5.out ?d3 ?_; (case a3 => exact HT5.out); (case b3 => intro e; cases e); (case c3 => have := HLn.out.2.1; rw [highT_len]; omega); (case d3 => exact HK.out.2.2); intro v6 w6 hown hb hv; obtain ⟨g6, c6, hv2, _, _, htx, _⟩ := own_more hown (by rw [HK.out.2.2]; simp [highT_len]); subst hv2; have HT6 := Lib.hid htx; have HO6 := Lib.hid hown; have HB6 := Lib.hid hb; have HSZ6 : Hid (w.heap.size + 1 ≤ w6.heap.size) := (Lib.hid (by have := hb.size; rw [World.size_alloc] at this; exact this)); clear hown hb hv htx; obtain ⟨y0, y1, y2⟩ := HH0.out _ HB6.out; refine Stop.out ?_)
  unfold Stop
  go_wp2_with (go_at_call 83; refine (HWR.out _ _ _ HT6.out).mono ?_; rintro e w7 ⟨g7, c7, rfl, _, _, ht, hb⟩; have HT7 := Lib.hid ht; have HB7 := Lib.hid (HB6.out.trans (hb.mono HSZ6.out)); have HSZ7 := Lib.hid (Nat.le_trans HSZ6.out hb.size); clear ht hb; refine Stop.out ?_)
  unfold Stop
  go_wp2_with (go_at_call 60; refine (HFL.out _ _ _ HT7.out).mono ?_; rintro e w8 ⟨g8, c8, rfl, hc8, hm8, ht, hb, hg⟩; have HF8 := Lib.hid (And.intro hc8 (And.intro hm8 (And.intro ht (And.intro hb hg)))); clear ht hb hc8 hm8 hg)
  go_ret
  exact ⟨g8, c8, rfl, HF8.out.1, HF8.out.2.1, HF8.out.2.2.1, HBA.out.trans ((HB7.out.trans (HF8.out.2.2.2.1.mono HSZ7.out)).mono (Nat.le_succ _)), Nat.le_trans (Nat.le_of_succ_le HSZ7.out) HF8.out.2.2.2.2⟩
set_option maxHeartbeats 400000 in
theorem ref_last (s u : Nat) (n : Int) (w : World) (hs : s ≤ 9223372036854775807) (hu : u < 4294967296) :
    Calls Try.prog 61 #[headV s n u] w (ToldG w (endP s u)) := by
  have HCs : Hid (∀ W, Calls Try.prog 82 #[.int .i64 s, .int .i64 8] W (ToldF W (highT s 8))) := Lib.hid (fun W => ref_big s 8 W hs (by decide) (by decide))
  have HCu : Hid (∀ W, Calls Try.prog 82 #[.int .i64 u, .int .i64 4] W (ToldF W (highT u 4))) := Lib.hid (fun W => ref_big u 4 W (by omega) (by decide) (by decide))
  obtain ⟨K1, hK1⟩ : ∃ K, K = [69] ++ highT s 8 := ⟨_, rfl⟩
  obtain ⟨K2, hK2⟩ : ∃ K, K = K1 ++ highT u 4 := ⟨_, rfl⟩
  have hB : K2 = endB s u := by rw [hK2, hK1]; simp [endB]
  have hlk : K2.length = 13 := by rw [hB, endB_len]
  have hl1 : K1.length ≤ 17 := by have := hlk; rw [hK2, List.length_append] at this; omega
  have HK := Lib.hid (And.intro hK1 hK2)
  have HLn := Lib.hid (And.intro hl1 (Nat.le_of_eq hlk))
  have j3 : IntKind.i64.wrap (u : Int) = (u : Int) := by rw [IntKind.wrap_i64]; omega
  have HH0 : Hid (∀ W, Below (w.heap.size + 1) (w.alloc (headO' s n u)) W → W.cell? ⟨w.heap.size, 0, none⟩ = some (.int .i64 s) ∧ W.cell? ⟨w.heap.size, 1, none⟩ = some (.int .i64 n) ∧ W.cell? ⟨w.heap.size, 2, none⟩ = some (.int .u32 u)) := Lib.hid (fun W h => head_cells' ((h.block _ (Nat.lt_succ_self _)).trans (heap_alloc_new w (headO' s n u))))
  have HO0 : Hid (((w.alloc (headO' s n u)).alloc (.cells #[.int .u8 69] 5)).ownsRow (w.heap.size + 1) 5 1 (.slice (some ⟨w.heap.size + 1, 0, none⟩) 1 1) ([69] : Text).length (([69] : Text).map cellOf)) := Lib.hid (by
    have := World.ownsRow_lit (base := w.heap.size + 1) (e := 5) (size := 1) (w.alloc (headO' s n u)) #[.int .u8 69] 1 (by rw [World.size_alloc]; exact Nat.le_refl _) (by unfold maxLen; omega) rfl
    rw [World.size_alloc] at this
    exact this)
  have HB0 : Hid (Below (w.heap.size + 1) (w.alloc (headO' s n u)) ((w.alloc (headO' s n u)).alloc (.cells #[.int .u8 69] 5))) := Lib.hid ((Below.refl _ _).alloc (by rw [World.size_alloc]; exact Nat.le_refl _) _)
  have HSZ0 : Hid (w.heap.size + 1 ≤ ((w.alloc (headO' s n u)).alloc (.cells #[.int .u8 69] 5)).heap.size) := Lib.hid (by simp)
  have HBA : Hid (Below w.heap.size w (w.alloc (headO' s n u))) := Lib.hid (below_alloc w _)
  obtain ⟨y0, y1, y2⟩ := HH0.out _ HB0.out
  have HWR : Hid (∀ W g c, Txt W (some ⟨g, 0, none⟩) K2 → Calls Try.prog 83 #[.slice (some ⟨g, 0, none⟩) K2.length c] W (ToldF W (wrapT K2))) := Lib.hid (fun W g c h => ref_wrapT K2 (some ⟨g, 0, none⟩) c W (by omega) h (by simp))
  have HFL : Hid (∀ W g c, Txt W (some ⟨g, 0, none⟩) (wrapT K2) → Calls Try.prog 60 #[.slice (some ⟨g, 0, none⟩) (wrapT K2).length c] W (ToldG W (endP s u))) := Lib.hid (fun W g c h => by
    have := ref_fillG (wrapT K2) (some ⟨g, 0, none⟩) c W (by rw [wrapT_length]; omega) h (by simp)
    rw [fillP_eq _ (by rw [wrapT_length]; omega), hB] at this
    rw [hB]
    exact this)
  unfold headO' at HO0 HB0 y0 y1 y2 HH0 HSZ0 HBA
  unfold headV
  clear hs hu hK1 hK2 hl1 hlk hB
  go_enter Try.func61, Try.ntmps61
  go_wp2_with (go_at_call 82; refine (HCs.out _).mono ?_; rintro e w1 ⟨g1, c1, rfl, _, _, ht, hb⟩; have HT1 := Lib.hid ht; have HO1 := Lib.hid (own_on HO0.out hb); have HB1 := Lib.hid (HB0.out.trans (hb.mono HSZ0.out)); have HSZ1 := Lib.hid (Nat.le_trans HSZ0.out hb.size); clear ht hb; obtain ⟨y0, y1, y2⟩ := HH0.out _ HB1.out; refine Stop.out ?_)
  unfold Stop
  go_wp2_with (at_builtin; refine wpList_append_own_text (o := ⟨some 8, _, _, _, _, _⟩) rfl _ _ rfl rfl (w.heap.size + 1) (w.alloc (.cells #[.int .i64 s, .int .i64 n, .int .u32 u] 112)) _ [69] (highT s 8) K1 rfl HO1.out (some ⟨g1, 0, none⟩) c1 rfl ?a1 ?b1 ?c1 HB1.out HSZ1.out ?d1 ?_; (case a1 => exact HT1.out); (case b1 => intro e; cases e); (case c1 => simp [highT_len]); (case d1 => exact HK.out.1); intro v2 w2 hown hb hv; obtain ⟨g2, c2, hv2, _, _, htx, _⟩ := own_more hown (by rw [HK.out.1]; simp); subst hv2; have HT2 := Lib.hid htx; have HO2 := Lib.hid hown; have HB2 := Lib.hid hb; have HSZ2 : Hid (w.heap.size + 1 ≤ w2.heap.size) := (Lib.hid (by have := hb.size; rw [World.size_alloc] at this; exact this)); clear hown hb hv htx; obtain ⟨y0, y1, y2⟩ := HH0.out _ HB2.out; refine Stop.out ?_)
  unfold Stop
  go_wp2_with (go_at_call 82; refine (HCu.out _).mono ?_; rintro e w3 ⟨g3, c3, rfl, _, _, ht, hb⟩; have HT3 := Lib.hid ht; have HO3 := Lib.hid (own_on HO2.out hb); have HB3 := Lib.hid (HB2.out.trans (hb.mono HSZ2.out)); have HSZ3 := Lib.hid (Nat.le_trans HSZ2.out hb.size); clear ht hb; obtain ⟨y0, y1, y2⟩ := HH0.out _ HB3.out; refine Stop.out ?_)
  unfold Stop
  go_wp2_with (at_builtin; refine wpList_append_own_text (o := ⟨some 14, _, _, _, _, _⟩) rfl _ _ rfl rfl (w.heap.size + 1) (w.alloc (.cells #[.int .i64 s, .int .i64 n, .int .u32 u] 112)) _ K1 (highT u 4) K2 rfl HO3.out (some ⟨g3, 0, none⟩) c3 rfl ?a2 ?b2 ?c2 HB3.out HSZ3.out ?d2 ?_; (case a2 => exact HT3.out); (case b2 => intro e; cases e); (case c2 => have := HLn.out.1; rw [highT_len]; omega); (case d2 => exact HK.out.2); intro v4 w4 hown hb hv; obtain ⟨g4, c4, hv2, _, _, htx, _⟩ := own_more hown (by rw [HK.out.2]; simp [highT_len]); subst hv2; have HT4 := Lib.hid htx; have HO4 := Lib.hid hown; have HB4 := Lib.hid hb; have HSZ4 : Hid (w.heap.size + 1 ≤ w4.heap.size) := (Lib.hid (by have := hb.size; rw [World.size_alloc] at this; exact this)); clear hown hb hv htx; obtain ⟨y0, y1, y2⟩ := HH0.out _ HB4.out; refine Stop.out ?_)
  unfold Stop
  go_wp2_with (go_at_call 83; refine (HWR.out _ _ _ HT4.out).mono ?_; rintro e w7 ⟨g7, c7, rfl, _, _, ht, hb⟩; have HT7 := Lib.hid ht; have HB7 := Lib.hid (HB4.out.trans (hb.mono HSZ4.out)); have HSZ7 := Lib.hid (Nat.le_trans HSZ4.out hb.size); clear ht hb; refine Stop.out ?_)
  unfold Stop
  go_wp2_with (go_at_call 60; refine (HFL.out _ _ _ HT7.out).mono ?_; rintro e w8 ⟨g8, c8, rfl, hc8, hm8, ht, hb, hg⟩; have HF8 := Lib.hid (And.intro hc8 (And.intro hm8 (And.intro ht (And.intro hb hg)))); clear ht hb hc8 hm8 hg)
  go_ret
  exact ⟨g8, c8, rfl, HF8.out.1, HF8.out.2.1, HF8.out.2.2.1, HBA.out.trans ((HB7.out.trans (HF8.out.2.2.2.1.mono HSZ7.out)).mono (Nat.le_succ _)), Nat.le_trans (Nat.le_of_succ_le HSZ7.out) HF8.out.2.2.2.2⟩
end Go.Proofs.Ytmgonokhgijgoaa
