/- The document's head and end. The statement's own comparison; the document's sectors of a batch. -/
import Derived.Test.YtfjejiapafdgeaaJ20
import Derived.Test.YtfjejiapafdgeaaJ15
import Derived.Test.YtfjejiapafdgeaaJ19
namespace Go.Proofs.Ytfjejiapafdgeaa
open Go.RowKit
set_option maxRecDepth 100000

/-- the walk stops here -/
def Stop (p : Prop) : Prop := p
theorem Stop.out {p : Prop} (h : Stop p) : p := h
theorem fillP_eq (l : Text) (h : l.length ≤ 64) : fillP l = overP zeros l := by
  unfold fillP
  rw [overP_zeros l h]
theorem refHead : ∃ fs, Try.prog.underlying 112 = some (.struct fs) := ⟨_, Try.underlying112⟩
def headO' (s n u : Int) : Obj := .cells #[.int .i64 s, .int .i64 n, .int .u32 u] 112
theorem head_cells' {w : World} {g : Nat} {s n u : Int} {t : TypeId} (h : w.heap[g]? = some (.cells #[.int .i64 s, .int .i64 n, .int .u32 u] t)) : w.cell? ⟨g, 0, none⟩ = some (.int .i64 s) ∧ w.cell? ⟨g, 1, none⟩ = some (.int .i64 n) ∧ w.cell? ⟨g, 2, none⟩ = some (.int .u32 u) :=
  ⟨by rw [cell_of_row w g _ _ _ _ h]; rfl, by rw [cell_of_row w g _ _ _ _ h]; rfl, by rw [cell_of_row w g _ _ _ _ h]; rfl⟩
theorem ref_wrapT (l : Text) (A : Option Addr) (cap : Nat) (w : World) (hm : l.length ≤ 140737488351232) (hT : Txt w A l) (hA : A = none → l = []) :
    Calls Try.prog 83 #[.slice A l.length cap] w (ToldF w (wrapT l)) := by
  refine (ref_wrap l A cap w hm hT hA).mono ?_
  rintro e w' ⟨g, c, rfl, ho, hb⟩
  obtain ⟨g', c', hv, x1, x2, x3, _⟩ := own_more ho (by rw [wrapT_length]; omega)
  injection hv with e1 e2 e3
  injection e1 with e1
  injection e1 with e1
  subst e1
  subst e3
  exact ⟨g, c, rfl, x1, x2, x3, hb⟩
set_option maxHeartbeats 400000 in
theorem ref_first (s n u : Nat) (w : World) (hs : s ≤ 9223372036854775807) (hn : n ≤ 9223372036854775807) (hu : u < 4294967296) :
    Calls Try.prog 59 #[headV s n u] w (ToldG w (headP s n u)) := by
  have HCs : Hid (∀ W, Calls Try.prog 82 #[.int .i64 s, .int .i64 8] W (ToldF W (highT s 8))) := Lib.hid (fun W => ref_big s 8 W hs (by decide) (by decide))
  have HCn : Hid (∀ W, Calls Try.prog 82 #[.int .i64 n, .int .i64 4] W (ToldF W (highT n 4))) := Lib.hid (fun W => ref_big n 4 W hn (by decide) (by decide))
  have HCu : Hid (∀ W, Calls Try.prog 82 #[.int .i64 u, .int .i64 4] W (ToldF W (highT u 4))) := Lib.hid (fun W => ref_big u 4 W (by omega) (by decide) (by decide))
  obtain ⟨K1, hK1⟩ : ∃ K, K = [72] ++ highT s 8 := ⟨_, rfl⟩
  obtain ⟨K2, hK2⟩ : ∃ K, K = K1 ++ highT n 4 := ⟨_, rfl⟩
  obtain ⟨K3, hK3⟩ : ∃ K, K = K2 ++ highT u 4 := ⟨_, rfl⟩
  have hB : K3 = headB s n u := by rw [hK3, hK2, hK1]; simp [headB]
  have hlk : K3.length = 17 := by rw [hB, headB_len]
  have hl2 : K2.length ≤ 17 := by have := hlk; rw [hK3, List.length_append] at this; omega
  have hl1 : K1.length ≤ 17 := by have := hlk; rw [hK3, List.length_append] at this; rw [hK2, List.length_append] at this; omega
  have HK := Lib.hid (And.intro hK1 (And.intro hK2 hK3))
  have HLn := Lib.hid (And.intro hl1 (And.intro hl2 (Nat.le_of_eq hlk)))
  have j3 : IntKind.i64.wrap (u : Int) = (u : Int) := by rw [IntKind.wrap_i64]; omega
  have HH0 : Hid (∀ W, Below (w.heap.size + 1) (w.alloc (headO' s n u)) W → W.cell? ⟨w.heap.size, 0, none⟩ = some (.int .i64 s) ∧ W.cell? ⟨w.heap.size, 1, none⟩ = some (.int .i64 n) ∧ W.cell? ⟨w.heap.size, 2, none⟩ = some (.int .u32 u)) := Lib.hid (fun W h => head_cells' ((h.block _ (Nat.lt_succ_self _)).trans (heap_alloc_new w (headO' s n u))))
  have HO0 : Hid (((w.alloc (headO' s n u)).alloc (.cells #[.int .u8 72] 5)).ownsRow (w.heap.size + 1) 5 1 (.slice (some ⟨w.heap.size + 1, 0, none⟩) 1 1) ([72] : Text).length (([72] : Text).map cellOf)) := Lib.hid (by
    have := World.ownsRow_lit (base := w.heap.size + 1) (e := 5) (size := 1) (w.alloc (headO' s n u)) #[.int .u8 72] 1 (by rw [World.size_alloc]; exact Nat.le_refl _) (by unfold maxLen; omega) rfl
    rw [World.size_alloc] at this
    exact this)
  have HB0 : Hid (Below (w.heap.size + 1) (w.alloc (headO' s n u)) ((w.alloc (headO' s n u)).alloc (.cells #[.int .u8 72] 5))) := Lib.hid ((Below.refl _ _).alloc (by rw [World.size_alloc]; exact Nat.le_refl _) _)
  have HSZ0 : Hid (w.heap.size + 1 ≤ ((w.alloc (headO' s n u)).alloc (.cells #[.int .u8 72] 5)).heap.size) := Lib.hid (by simp)
  have HBA : Hid (Below w.heap.size w (w.alloc (headO' s n u))) := Lib.hid (below_alloc w _)
  obtain ⟨y0, y1, y2⟩ := HH0.out _ HB0.out
  have HWR : Hid (∀ W g c, Txt W (some ⟨g, 0, none⟩) K3 → Calls Try.prog 83 #[.slice (some ⟨g, 0, none⟩) K3.length c] W (ToldF W (wrapT K3))) := Lib.hid (fun W g c h => ref_wrapT K3 (some ⟨g, 0, none⟩) c W (by omega) h (by simp))
  have HFL : Hid (∀ W g c, Txt W (some ⟨g, 0, none⟩) (wrapT K3) → Calls Try.prog 60 #[.slice (some ⟨g, 0, none⟩) (wrapT K3).length c] W (ToldG W (headP s n u))) := Lib.hid (fun W g c h => by
    have := ref_fillG (wrapT K3) (some ⟨g, 0, none⟩) c W (by rw [wrapT_length]; omega) h (by simp)
    rw [fillP_eq _ (by rw [wrapT_length]; omega), hB] at this
    rw [hB]
    exact this)
  unfold headO' at HO0 HB0 y0 y1 y2 HH0 HSZ0 HBA
  unfold headV
  clear hs hn hu hK1 hK2 hK3 hl1 hl2 hlk hB
  go_enter Try.func59, Try.ntmps59
  go_wp2_with (go_at_call 82; refine (HCs.out _).mono ?_; rintro e w1 ⟨g1, c1, rfl, _, _, ht, hb⟩; have HT1 := Lib.hid ht; have HO1 := Lib.hid (own_on HO0.out hb); have HB1 := Lib.hid (HB0.out.trans (hb.mono HSZ0.out)); have HSZ1 := Lib.hid (Nat.le_trans HSZ0.out hb.size); clear ht hb; obtain ⟨y0, y1, y2⟩ := HH0.out _ HB1.out; refine Stop.out ?_)
  unfold Stop
  go_wp2_with (at_builtin; refine wpList_append_own_text (o := ⟨some 8, _, _, _, _, _⟩) rfl _ _ rfl rfl (w.heap.size + 1) (w.alloc (.cells #[.int .i64 s, .int .i64 n, .int .u32 u] 112)) _ [72] (highT s 8) K1 rfl HO1.out (some ⟨g1, 0, none⟩) c1 rfl ?a1 ?b1 ?c1 HB1.out HSZ1.out ?d1 ?_; (case a1 => exact HT1.out); (case b1 => intro e; cases e); (case c1 => simp [highT_len]); (case d1 => exact HK.out.1); intro v2 w2 hown hb hv; obtain ⟨g2, c2, hv2, _, _, htx, _⟩ := own_more hown (by rw [HK.out.1]; simp); subst hv2; have HT2 := Lib.hid htx; have HO2 := Lib.hid hown; have HB2 := Lib.hid hb; have HSZ2 : Hid (w.heap.size + 1 ≤ w2.heap.size) := (Lib.hid (by have := hb.size; rw [World.size_alloc] at this; exact this)); clear hown hb hv htx; obtain ⟨y0, y1, y2⟩ := HH0.out _ HB2.out; refine Stop.out ?_)
  unfold Stop
  go_wp2_with (go_at_call 82; refine (HCn.out _).mono ?_; rintro e w3 ⟨g3, c3, rfl, _, _, ht, hb⟩; have HT3 := Lib.hid ht; have HO3 := Lib.hid (own_on HO2.out hb); have HB3 := Lib.hid (HB2.out.trans (hb.mono HSZ2.out)); have HSZ3 := Lib.hid (Nat.le_trans HSZ2.out hb.size); clear ht hb; obtain ⟨y0, y1, y2⟩ := HH0.out _ HB3.out; refine Stop.out ?_)
  unfold Stop
  go_wp2_with (at_builtin; refine wpList_append_own_text (o := ⟨some 13, _, _, _, _, _⟩) rfl _ _ rfl rfl (w.heap.size + 1) (w.alloc (.cells #[.int .i64 s, .int .i64 n, .int .u32 u] 112)) _ K1 (highT n 4) K2 rfl HO3.out (some ⟨g3, 0, none⟩) c3 rfl ?a2 ?b2 ?c2 HB3.out HSZ3.out ?d2 ?_; (case a2 => exact HT3.out); (case b2 => intro e; cases e); (case c2 => have := HLn.out.1; rw [highT_len]; omega); (case d2 => exact HK.out.2.1); intro v4 w4 hown hb hv; obtain ⟨g4, c4, hv2, _, _, htx, _⟩ := own_more hown (by rw [HK.out.2.1]; simp [highT_len]); subst hv2; have HT4 := Lib.hid htx; have HO4 := Lib.hid hown; have HB4 := Lib.hid hb; have HSZ4 : Hid (w.heap.size + 1 ≤ w4.heap.size) := (Lib.hid (by have := hb.size; rw [World.size_alloc] at this; exact this)); clear hown hb hv htx; obtain ⟨y0, y1, y2⟩ := HH0.out _ HB4.out; refine Stop.out ?_)
  unfold Stop
  go_wp2_with (go_at_call 82; refine (HCu.out _).mono ?_; rintro e w5 ⟨g5, c5, rfl, _, _, ht, hb⟩; have HT5 := Lib.hid ht; have HO5 := Lib.hid (own_on HO4.out hb); have HB5 := Lib.hid (HB4.out.trans (hb.mono HSZ4.out)); have HSZ5 := Lib.hid (Nat.le_trans HSZ4.out hb.size); clear ht hb; obtain ⟨y0, y1, y2⟩ := HH0.out _ HB5.out; refine Stop.out ?_)
  unfold Stop
  go_wp2_with (at_builtin; refine wpList_append_own_text (o := ⟨some 19, _, _, _, _, _⟩) rfl _ _ rfl rfl (w.heap.size + 1) (w.alloc (.cells #[.int .i64 s, .int .i64 n, .int .u32 u] 112)) _ K2 (highT u 4) K3 rfl HO5.out (some ⟨g5, 0, none⟩) c5 rfl ?a3 ?b3 ?c3 HB5.out HSZ5.out ?d3 ?_; (case a3 => exact HT5.out); (case b3 => intro e; cases e); (case c3 => have := HLn.out.2.1; rw [highT_len]; omega); (case d3 => exact HK.out.2.2); intro v6 w6 hown hb hv; obtain ⟨g6, c6, hv2, _, _, htx, _⟩ := own_more hown (by rw [HK.out.2.2]; simp [highT_len]); subst hv2; have HT6 := Lib.hid htx; have HO6 := Lib.hid hown; have HB6 := Lib.hid hb; have HSZ6 : Hid (w.heap.size + 1 ≤ w6.heap.size) := (Lib.hid (by have := hb.size; rw [World.size_alloc] at this; exact this)); clear hown hb hv htx; obtain ⟨y0, y1, y2⟩ := HH0.out _ HB6.out; refine Stop.out ?_)
  unfold Stop
  go_wp2_with (go_at_call 83; refine (HWR.out _ _ _ HT6.out).mono ?_; rintro e w7 ⟨g7, c7, rfl, _, _, ht, hb⟩; have HT7 := Lib.hid ht; have HB7 := Lib.hid (HB6.out.trans (hb.mono HSZ6.out)); have HSZ7 := Lib.hid (Nat.le_trans HSZ6.out hb.size); clear ht hb; refine Stop.out ?_)
  unfold Stop
  go_wp2_with (go_at_call 60; refine (HFL.out _ _ _ HT7.out).mono ?_; rintro e w8 ⟨g8, c8, rfl, hc8, hm8, ht, hb, hg⟩; have HF8 := Lib.hid (And.intro hc8 (And.intro hm8 (And.intro ht (And.intro hb hg)))); clear ht hb hc8 hm8 hg)
  go_ret
  exact ⟨g8, c8, rfl, HF8.out.1, HF8.out.2.1, HF8.out.2.2.1, HBA.out.trans ((HB7.out.trans (HF8.out.2.2.2.1.mono HSZ7.out)).mono (Nat.le_succ _)), Nat.le_trans (Nat.le_of_succ_le HSZ7.out) HF8.out.2.2.2.2⟩
set_option maxHeartbeats 400000 in
theorem ref_last (s u : Nat) (n : Int) (w : World) (hs : s ≤ 9223372036854775807) (hu : u < 4294967296) :
    Calls Try.prog 61 #[headV s n u] w (ToldG w (endP s u)) := by
  have HCs : Hid (∀ W, Calls Try.prog 82 #[.int .i64 s, .int .i64 8] W (ToldF W (highT s 8))) := Lib.hid (fun W => ref_big s 8 W hs (by decide) (by decide))
  have HCu : Hid (∀ W, Calls Try.prog 82 #[.int .i64 u, .int .i64 4] W (ToldF W (highT u 4))) := Lib.hid (fun W => ref_big u 4 W (by omega) (by decide) (by decide))
  obtain ⟨K1, hK1⟩ : ∃ K, K = [69] ++ highT s 8 := ⟨_, rfl⟩
  obtain ⟨K2, hK2⟩ : ∃ K, K = K1 ++ highT u 4 := ⟨_, rfl⟩
  have hB : K2 = endB s u := by rw [hK2, hK1]; simp [endB]
  have hlk : K2.length = 13 := by rw [hB, endB_len]
  have hl1 : K1.length ≤ 17 := by have := hlk; rw [hK2, List.length_append] at this; omega
  have HK := Lib.hid (And.intro hK1 hK2)
  have HLn := Lib.hid (And.intro hl1 (Nat.le_of_eq hlk))
  have j3 : IntKind.i64.wrap (u : Int) = (u : Int) := by rw [IntKind.wrap_i64]; omega
  have HH0 : Hid (∀ W, Below (w.heap.size + 1) (w.alloc (headO' s n u)) W → W.cell? ⟨w.heap.size, 0, none⟩ = some (.int .i64 s) ∧ W.cell? ⟨w.heap.size, 1, none⟩ = some (.int .i64 n) ∧ W.cell? ⟨w.heap.size, 2, none⟩ = some (.int .u32 u)) := Lib.hid (fun W h => head_cells' ((h.block _ (Nat.lt_succ_self _)).trans (heap_alloc_new w (headO' s n u))))
  have HO0 : Hid (((w.alloc (headO' s n u)).alloc (.cells #[.int .u8 69] 5)).ownsRow (w.heap.size + 1) 5 1 (.slice (some ⟨w.heap.size + 1, 0, none⟩) 1 1) ([69] : Text).length (([69] : Text).map cellOf)) := Lib.hid (by
    have := World.ownsRow_lit (base := w.heap.size + 1) (e := 5) (size := 1) (w.alloc (headO' s n u)) #[.int .u8 69] 1 (by rw [World.size_alloc]; exact Nat.le_refl _) (by unfold maxLen; omega) rfl
    rw [World.size_alloc] at this
    exact this)
  have HB0 : Hid (Below (w.heap.size + 1) (w.alloc (headO' s n u)) ((w.alloc (headO' s n u)).alloc (.cells #[.int .u8 69] 5))) := Lib.hid ((Below.refl _ _).alloc (by rw [World.size_alloc]; exact Nat.le_refl _) _)
  have HSZ0 : Hid (w.heap.size + 1 ≤ ((w.alloc (headO' s n u)).alloc (.cells #[.int .u8 69] 5)).heap.size) := Lib.hid (by simp)
  have HBA : Hid (Below w.heap.size w (w.alloc (headO' s n u))) := Lib.hid (below_alloc w _)
  obtain ⟨y0, y1, y2⟩ := HH0.out _ HB0.out
  have HWR : Hid (∀ W g c, Txt W (some ⟨g, 0, none⟩) K2 → Calls Try.prog 83 #[.slice (some ⟨g, 0, none⟩) K2.length c] W (ToldF W (wrapT K2))) := Lib.hid (fun W g c h => ref_wrapT K2 (some ⟨g, 0, none⟩) c W (by omega) h (by simp))
  have HFL : Hid (∀ W g c, Txt W (some ⟨g, 0, none⟩) (wrapT K2) → Calls Try.prog 60 #[.slice (some ⟨g, 0, none⟩) (wrapT K2).length c] W (ToldG W (endP s u))) := Lib.hid (fun W g c h => by
    have := ref_fillG (wrapT K2) (some ⟨g, 0, none⟩) c W (by rw [wrapT_length]; omega) h (by simp)
    rw [fillP_eq _ (by rw [wrapT_length]; omega), hB] at this
    rw [hB]
    exact this)
  unfold headO' at HO0 HB0 y0 y1 y2 HH0 HSZ0 HBA
  unfold headV
  clear hs hu hK1 hK2 hl1 hlk hB
  go_enter Try.func61, Try.ntmps61
  go_wp2_with (go_at_call 82; refine (HCs.out _).mono ?_; rintro e w1 ⟨g1, c1, rfl, _, _, ht, hb⟩; have HT1 := Lib.hid ht; have HO1 := Lib.hid (own_on HO0.out hb); have HB1 := Lib.hid (HB0.out.trans (hb.mono HSZ0.out)); have HSZ1 := Lib.hid (Nat.le_trans HSZ0.out hb.size); clear ht hb; obtain ⟨y0, y1, y2⟩ := HH0.out _ HB1.out; refine Stop.out ?_)
  unfold Stop
  go_wp2_with (at_builtin; refine wpList_append_own_text (o := ⟨some 8, _, _, _, _, _⟩) rfl _ _ rfl rfl (w.heap.size + 1) (w.alloc (.cells #[.int .i64 s, .int .i64 n, .int .u32 u] 112)) _ [69] (highT s 8) K1 rfl HO1.out (some ⟨g1, 0, none⟩) c1 rfl ?a1 ?b1 ?c1 HB1.out HSZ1.out ?d1 ?_; (case a1 => exact HT1.out); (case b1 => intro e; cases e); (case c1 => simp [highT_len]); (case d1 => exact HK.out.1); intro v2 w2 hown hb hv; obtain ⟨g2, c2, hv2, _, _, htx, _⟩ := own_more hown (by rw [HK.out.1]; simp); subst hv2; have HT2 := Lib.hid htx; have HO2 := Lib.hid hown; have HB2 := Lib.hid hb; have HSZ2 : Hid (w.heap.size + 1 ≤ w2.heap.size) := (Lib.hid (by have := hb.size; rw [World.size_alloc] at this; exact this)); clear hown hb hv htx; obtain ⟨y0, y1, y2⟩ := HH0.out _ HB2.out; refine Stop.out ?_)
  unfold Stop
  go_wp2_with (go_at_call 82; refine (HCu.out _).mono ?_; rintro e w3 ⟨g3, c3, rfl, _, _, ht, hb⟩; have HT3 := Lib.hid ht; have HO3 := Lib.hid (own_on HO2.out hb); have HB3 := Lib.hid (HB2.out.trans (hb.mono HSZ2.out)); have HSZ3 := Lib.hid (Nat.le_trans HSZ2.out hb.size); clear ht hb; obtain ⟨y0, y1, y2⟩ := HH0.out _ HB3.out; refine Stop.out ?_)
  unfold Stop
  go_wp2_with (at_builtin; refine wpList_append_own_text (o := ⟨some 14, _, _, _, _, _⟩) rfl _ _ rfl rfl (w.heap.size + 1) (w.alloc (.cells #[.int .i64 s, .int .i64 n, .int .u32 u] 112)) _ K1 (highT u 4) K2 rfl HO3.out (some ⟨g3, 0, none⟩) c3 rfl ?a2 ?b2 ?c2 HB3.out HSZ3.out ?d2 ?_; (case a2 => exact HT3.out); (case b2 => intro e; cases e); (case c2 => have := HLn.out.1; rw [highT_len]; omega); (case d2 => exact HK.out.2); intro v4 w4 hown hb hv; obtain ⟨g4, c4, hv2, _, _, htx, _⟩ := own_more hown (by rw [HK.out.2]; simp [highT_len]); subst hv2; have HT4 := Lib.hid htx; have HO4 := Lib.hid hown; have HB4 := Lib.hid hb; have HSZ4 : Hid (w.heap.size + 1 ≤ w4.heap.size) := (Lib.hid (by have := hb.size; rw [World.size_alloc] at this; exact this)); clear hown hb hv htx; obtain ⟨y0, y1, y2⟩ := HH0.out _ HB4.out; refine Stop.out ?_)
  unfold Stop
  go_wp2_with (go_at_call 83; refine (HWR.out _ _ _ HT4.out).mono ?_; rintro e w7 ⟨g7, c7, rfl, _, _, ht, hb⟩; have HT7 := Lib.hid ht; have HB7 := Lib.hid (HB4.out.trans (hb.mono HSZ4.out)); have HSZ7 := Lib.hid (Nat.le_trans HSZ4.out hb.size); clear ht hb; refine Stop.out ?_)
  unfold Stop
  go_wp2_with (go_at_call 60; refine (HFL.out _ _ _ HT7.out).mono ?_; rintro e w8 ⟨g8, c8, rfl, hc8, hm8, ht, hb, hg⟩; have HF8 := Lib.hid (And.intro hc8 (And.intro hm8 (And.intro ht (And.intro hb hg)))); clear ht hb hc8 hm8 hg)
  go_ret
  exact ⟨g8, c8, rfl, HF8.out.1, HF8.out.2.1, HF8.out.2.2.1, HBA.out.trans ((HB7.out.trans (HF8.out.2.2.2.1.mono HSZ7.out)).mono (Nat.le_succ _)), Nat.le_trans (Nat.le_of_succ_le HSZ7.out) HF8.out.2.2.2.2⟩
end Go.Proofs.Ytfjejiapafdgeaa

namespace Go.Proofs.Ytfjejiapafdgeaa
open Go.RowKit
set_option maxRecDepth 100000
theorem OwnT.less {B B' : Nat} {v : Value} {L : List Text} {W : World} (h : OwnT B v L W) (hb : B' ≤ B) : OwnT B' v L W := by
  obtain ⟨xs, h1, h2⟩ := h
  refine ⟨xs, ⟨h1.1, ?_⟩, h2⟩
  rcases h1.2 with hn | ⟨g, c, cur, e, hg, rest⟩
  · exact .inl hn
  · exact .inr ⟨g, c, cur, e, Nat.le_trans hb hg, rest⟩
theorem cutP_next (l : Text) (k : Nat) : cutP l (k + 1) = cutP l k ++ [cutT l k] := by unfold cutP; rw [cutsT_next, List.map_append]; rfl
def refPages (w : World) (s : Nat) (l : Text) (e : Ending) (w' : World) : Prop := ∃ g c, e = .returned (.tuple #[.slice (some ⟨g, 0, none⟩) (pagesT s l).length c, .int .i64 0]) ∧ OwnT w.heap.size (.slice (some ⟨g, 0, none⟩) (pagesT s l).length c) (pagesT s l) w' ∧ Below w.heap.size w w'
set_option maxHeartbeats 400000 in
theorem ref_pages_no (s : Int) (l : Text) (A : Option Addr) (c : Nat) (w : World) (hl : l.length ≤ 140737488355328) (hT : Txt w A l) (hh : headOk s l.length = false) :
    Calls Try.prog 26 #[.int .i64 s, .slice A l.length c] w fun e w' => e = .returned (.tuple #[.slice none 0 0, .int .i64 2]) ∧ Below w.heap.size w w' := by
  have HS := Lib.hid (ref_sum l A c w hl hT)
  have HH : Hid (∀ W, Calls Try.prog 58 #[headV s l.length (reg (Crc.sumT l))] W fun e w' => e = .returned (.bool false) ∧ Below W.heap.size W w') := Lib.hid (fun W => by have := ref_right s l.length (reg (Crc.sumT l)) W; rwa [hh] at this)
  unfold headV at HH
  clear hh hT
  go_enter Try.func26, Try.ntmps26
  go_wp2_with (first
    | (go_at_call 57; refine HS.out.mono ?_; rintro e w0 ⟨rfl, rfl⟩)
    | (go_at_call 58; refine (HH.out _).mono ?_; rintro e w1 ⟨rfl, hb1⟩; have HB1 := Lib.hid (below_then (below_alloc w _) hb1); clear hb1))
  go_ret2
  exact ⟨rfl, HB1.out⟩
set_option maxHeartbeats 1000000 in
theorem ref_pages_yes (s : Nat) (l : Text) (A : Option Addr) (c : Nat) (w : World) (h1 : 1 ≤ s) (h2 : s ≤ 4611686018427387904) (h3 : 1 ≤ l.length) (h4 : l.length ≤ 131072) (hc : l.length ≤ c) (hT : Txt w A l) :
    Calls Try.prog 26 #[.int .i64 s, .slice A l.length c] w (refPages w s l) := by
  obtain ⟨b, o, rfl, hb, hr⟩ := txt_mid hT (by intro e; subst e; simp at h3)
  obtain ⟨u, hu⟩ : ∃ u, u = sumN l := ⟨_, rfl⟩
  have hub : u < 4294967296 := by rw [hu]; exact (Crc.sumT l).isLt
  have HS : Hid (Calls Try.prog 57 #[.slice (some ⟨b, o, none⟩) l.length c] w fun e w' => e = .returned (.int .u32 u) ∧ w = w') := Lib.hid (by rw [hu]; exact ref_sum l (some ⟨b, o, none⟩) c w (by omega) hT)
  have HH : Hid (∀ W, Calls Try.prog 58 #[headV s l.length u] W fun e w' => e = .returned (.bool true) ∧ Below W.heap.size W w') := Lib.hid (fun W => by
    have := ref_right s l.length u W
    have hh : headOk s l.length = true := by
      unfold headOk seqOk needV
      rw [if_neg (by omega)]
      simp
      omega
    rwa [hh] at this)
  have HFi : Hid (∀ W, Calls Try.prog 59 #[headV s l.length u] W (ToldG W (headP s l.length u))) := Lib.hid (fun W => ref_first s l.length u W (by omega) (by omega) hub)
  have HLa : Hid (∀ W, Calls Try.prog 61 #[headV s l.length u] W (ToldG W (endP s u))) := Lib.hid (fun W => ref_last s u l.length W (by omega) hub)
  have HFl : Hid (∀ W k, 64 * k < l.length → Txt W (some ⟨b, o, none⟩) l → Calls Try.prog 60 #[.slice (some ⟨b, o + 64 * k, none⟩) (min (64 * k + 64) l.length - 64 * k) (c - 64 * k)] W (ToldG W (cutT l k))) := Lib.hid (fun W k hk h => by
    have h5 := (h.drop (64 * k)).take 64
    rw [Addr.add_mid] at h5
    have hlen : ((l.drop (64 * k)).take 64).length = min (64 * k + 64) l.length - 64 * k := by rw [List.length_take, List.length_drop]; omega
    have := ref_fillG ((l.drop (64 * k)).take 64) (some ⟨b, o + 64 * k, none⟩) (c - 64 * k) W (by rw [hlen]; omega) h5 (by simp)
    rw [hlen, fillP_eq _ (by rw [hlen]; omega)] at this
    have he : overP zeros ((l.drop (64 * k)).take 64) = cutT l k := by unfold cutT overP; rw [List.take_take, Nat.min_self]
    rw [he] at this
    exact this)
  have HT := Lib.hid hT
  have HL := Lib.hid (And.intro h3 (And.intro h4 hc))
  have HU := Lib.hid hu
  have i2 : (l.length : Int) ≤ 131072 := by omega
  have i3 : (l.length : Int) ≤ (c : Int) := by omega
  unfold headV at HH HFi HLa
  clear hT hr hu hub h1 h2 h3 h4 hc hb
  go_enter Try.func26, Try.ntmps26
  go_wp2_with (go_at_call 57; refine HS.out.mono ?_; rintro e w0 ⟨rfl, rfl⟩; refine Stop.out ?_)
  unfold Stop
  have HX0 : Hid ((w.alloc (.cells #[.int .i64 s, .int .i64 l.length, .int .u32 u] 112)).heap[w.heap.size]? = some (.cells #[.int .i64 s, .int .i64 l.length, .int .u32 u] 112)) := Lib.hid (heap_alloc_new w _)
  have HBA : Hid (Below w.heap.size w (w.alloc (.cells #[.int .i64 s, .int .i64 l.length, .int .u32 u] 112))) := Lib.hid (below_alloc w _)
  go_wp2_with (go_at_call 58; refine (HH.out _).mono ?_; rintro e w1 ⟨rfl, hb1⟩; have HX1 := Lib.hid (heap_on hb1 HX0.out); have HB1 := Lib.hid (below_then HBA.out hb1); have HLT1 := Lib.hid (heapLt HX1.out); clear hb1; obtain ⟨y0, y1, y2⟩ := head_cells' HX1.out; refine Stop.out ?_)
  unfold Stop
  go_wp2_with (go_at_call 59; refine (HFi.out _).mono ?_; rintro e w2 ⟨g2, c2, rfl, hc2, hm2, ht2, hb2, hg2⟩; have HF2 := Lib.hid (And.intro hc2 (And.intro hm2 ht2)); have HSZ2 : Hid (w1.heap.size ≤ w2.heap.size) := Lib.hid hb2.size; have HX2 := Lib.hid (heap_on hb2 HX1.out); have HB2 := Lib.hid (below_then HB1.out hb2); clear hc2 hm2 ht2 hb2 hg2)
  have HO0 : Hid (OwnT w1.heap.size (.slice (some ⟨w2.heap.size, 0, none⟩) (headP s l.length u :: cutP l 0).length 1) (headP s l.length u :: cutP l 0) (w2.alloc (.cells #[.slice (some ⟨g2, 0, none⟩) (headP s l.length u).length c2] 51))) := Lib.hid (by
    have hl := headP_len s l.length u
    have hr2 := txt_mid HF2.out.2.2 (by intro e; rw [e] at hl; simp at hl)
    obtain ⟨bb, oo, ee, hbb, hrr⟩ := hr2
    injection ee with ee
    injection ee with e1 e2
    subst e1
    subst e2
    exact OwnT.one rfl (by rw [hl]; decide) HSZ2.out HF2.out.1 HF2.out.2.1 hrr hbb)
  have HX3 := Lib.hid (heap_on (below_alloc w2 (.cells #[.slice (some ⟨g2, 0, none⟩) (headP s l.length u).length c2] 51)) HX2.out)
  have HB3 := Lib.hid (below_then HB2.out (below_alloc w2 (.cells #[.slice (some ⟨g2, 0, none⟩) (headP s l.length u).length c2] 51)))
  clear HSZ2 HX0 HX1 HX2 HB1 HB2 HF2 y0 y1 y2 HBA HS HH HFi
  go_loopw [7, 8] (fun v i wr => ∃ k : Nat, k ≤ manyC l ∧ i = .int .i64 ((64 * k : Nat) : Int) ∧ (∃ g c, v = .slice (some ⟨g, 0, none⟩) (headP s l.length u :: cutP l k).length c) ∧ Hid (OwnT w1.heap.size v (headP s l.length u :: cutP l k) wr) ∧ Hid (wr.heap[w.heap.size]? = some (.cells #[.int .i64 s, .int .i64 l.length, .int .u32 u] 112)) ∧ Hid (Below w.heap.size w wr)) (fun _ i _ => 140000 - (intOf i).toNat)
  case atStart => exact ⟨0, Nat.zero_le _, rfl, ⟨_, _, rfl⟩, HO0, HX3, HB3⟩
  case round =>
    obtain ⟨k, hk, rfl, ⟨g, cg, rfl⟩, HO, HX, HB⟩ := hrel
    obtain ⟨r, hr⟩ : ∃ r, r = 64 * k := ⟨_, rfl⟩
    rw [← hr]
    have HLk := Lib.hid (And.intro hk hr)
    have hLen : (headP s l.length u :: cutP l k).length ≤ 100000 := by
      simp only [List.length_cons, cutP_len]
      have := HL.out.2.1
      unfold manyC at hk
      omega
    have HLen := Lib.hid hLen
    obtain ⟨LL, hLL⟩ : ∃ LL, LL = headP s l.length u :: cutP l k := ⟨_, rfl⟩
    rw [← hLL] at HO HLen ⊢
    have HLL := Lib.hid hLL
    clear hLen hLL
    by_cases hlt : r < l.length
    · have hkm : k < manyC l := by unfold manyC; omega
      have hlt' : (r : Int) < (l.length : Int) := by omega
      have hTr := Lib.hid (HT.out.below HB.out)
      have HCk := Lib.hid (HFl.out wr k (by omega) hTr.out)
      rw [← hr] at HCk
      have hnc : ¬ c = r := by have := HL.out.2.2; omega
      clear hr
      by_cases hA : r + 64 ≤ l.length
      · rw [Nat.min_eq_left hA, show r + 64 - r = 64 by omega] at HCk
        have hA' : (r : Int) + 64 ≤ (l.length : Int) := by omega
        go_wp2_with (go_at_call 60; refine HCk.out.mono ?_; rintro e w3 ⟨g3, c3, rfl, hc3, hm3, ht3, hb3, hg3⟩; refine Stop.out ?_)
        unfold Stop
        have HG3 := Lib.hid (And.intro hc3 hm3)
        have HR3 : Hid (w3.rangeAt g3 0 ((cutT l k).map cellOf) ∧ g3 < w3.heap.size) := Lib.hid (by
          have hl := cutT_len l k
          obtain ⟨bb, oo, ee, hbb, hrr⟩ := txt_mid ht3 (by intro e; rw [e] at hl; simp at hl)
          injection ee with ee
          injection ee with e1 e2
          subst e1
          subst e2
          exact ⟨hrr, hbb⟩)
        have HGB := Lib.hid (HO.out.base g rfl)
        have HNE : Hid ((Value.slice (some ⟨g, 0, none⟩) LL.length cg).ownBlock ≠ some g3) := Lib.hid (by
          have := HGB.out.2
          simp only [Value.ownBlock]
          intro e
          injection e with e
          omega)
        have HBX := Lib.hid (below_then hb3 (below_alloc w3 (.cells #[.slice (some ⟨g3, 0, none⟩) (cutT l k).length c3] 51)))
        have HO3 := Lib.hid (HO.out.on HBX.out)
        have HSB : Hid (w1.heap.size ≤ (w3.alloc (.cells #[.slice (some ⟨g3, 0, none⟩) (cutT l k).length c3] 51)).heap.size) := Lib.hid (by have h1 := HBX.out.size; have h2 := HGB.out; omega)
        have HGL : Hid (g3 < (w3.alloc (.cells #[.slice (some ⟨g3, 0, none⟩) (cutT l k).length c3] 51)).heap.size) := Lib.hid (by have := HR3.out.2; rw [World.size_alloc]; omega)
        have HT1 : Hid (0 < (cutT l k).length) := Lib.hid (by rw [cutT_len l k]; decide)
        have HB4 := Lib.hid (below_then HB.out HBX.out)
        have HX4 := Lib.hid (heap_on HBX.out HX.out)
        have HE : Hid (LL ++ [cutT l k] = headP s l.length u :: cutP l (k + 1)) := Lib.hid (by rw [HLL.out, cutP_next]; rfl)
        clear hc3 hm3 ht3 hb3 hg3
        go_wp2_with (at_builtin; refine wpList_append_rows (o := ⟨some 38, _, _, _, _, _⟩) rfl (.tmp 27) (.tmp 37) rfl rfl w1.heap.size (.slice (some ⟨g, 0, none⟩) LL.length cg) LL rfl HO3.out w3.heap.size rfl g3 c3 _ (cutT l k) _ _ (heap_alloc_new w3 _) rfl HT1.out HG3.out.1 HG3.out.2 (range_on (below_alloc w3 _) HR3.out.1) HGL.out HNE.out HLen.out HSB.out ?_; intro v4 w4 hov hgv hvv; rw [HE.out] at hov; have HO4 := Lib.hid hov; have HG4 := Lib.hid hgv; clear hov hgv hvv; refine Stop.out ?_)
        unfold Stop
        obtain ⟨g4, c4, rfl, _⟩ := HO4.out.form (by rw [← HE.out]; simp)
        have HB5 : Hid (Below w.heap.size w w4) := Lib.hid (HB4.out.grown HG4.out HB4.out.size (fun j hj => by simp only [Value.ownBlock] at hj; injection hj with hj; subst hj; exact Nat.le_trans (Nat.le_of_lt HLT1.out) HGB.out.1))
        have HX5 : Hid (w4.heap[w.heap.size]? = some (.cells #[.int .i64 s, .int .i64 l.length, .int .u32 u] 112)) := Lib.hid ((HG4.out.block _ (heapLt HX4.out) (by simp only [Value.ownBlock]; intro e; injection e with e; have h1 := HLT1.out; have h2 := HGB.out.1; omega)).trans HX4.out)
        go_wp2
        go_roundw
        case rel => exact ⟨k + 1, by omega, by rw [show r = 64 * k from HLk.out.2]; congr 1, ⟨g4, c4, rfl⟩, HO4, HX5, HB5⟩
        case measure => have := HL.out.2.1; simp [intOf]; omega
      · rw [Nat.min_eq_right (by omega)] at HCk
        have hA' : (l.length : Int) < (r : Int) + 64 := by omega
        go_wp2_with (go_at_call 60; refine HCk.out.mono ?_; rintro e w3 ⟨g3, c3, rfl, hc3, hm3, ht3, hb3, hg3⟩; refine Stop.out ?_)
        unfold Stop
        have HG3 := Lib.hid (And.intro hc3 hm3)
        have HR3 : Hid (w3.rangeAt g3 0 ((cutT l k).map cellOf) ∧ g3 < w3.heap.size) := Lib.hid (by
          have hl := cutT_len l k
          obtain ⟨bb, oo, ee, hbb, hrr⟩ := txt_mid ht3 (by intro e; rw [e] at hl; simp at hl)
          injection ee with ee
          injection ee with e1 e2
          subst e1
          subst e2
          exact ⟨hrr, hbb⟩)
        have HGB := Lib.hid (HO.out.base g rfl)
        have HNE : Hid ((Value.slice (some ⟨g, 0, none⟩) LL.length cg).ownBlock ≠ some g3) := Lib.hid (by
          have := HGB.out.2
          simp only [Value.ownBlock]
          intro e
          injection e with e
          omega)
        have HBX := Lib.hid (below_then hb3 (below_alloc w3 (.cells #[.slice (some ⟨g3, 0, none⟩) (cutT l k).length c3] 51)))
        have HO3 := Lib.hid (HO.out.on HBX.out)
        have HSB : Hid (w1.heap.size ≤ (w3.alloc (.cells #[.slice (some ⟨g3, 0, none⟩) (cutT l k).length c3] 51)).heap.size) := Lib.hid (by have h1 := HBX.out.size; have h2 := HGB.out; omega)
        have HGL : Hid (g3 < (w3.alloc (.cells #[.slice (some ⟨g3, 0, none⟩) (cutT l k).length c3] 51)).heap.size) := Lib.hid (by have := HR3.out.2; rw [World.size_alloc]; omega)
        have HT1 : Hid (0 < (cutT l k).length) := Lib.hid (by rw [cutT_len l k]; decide)
        have HB4 := Lib.hid (below_then HB.out HBX.out)
        have HX4 := Lib.hid (heap_on HBX.out HX.out)
        have HE : Hid (LL ++ [cutT l k] = headP s l.length u :: cutP l (k + 1)) := Lib.hid (by rw [HLL.out, cutP_next]; rfl)
        clear hc3 hm3 ht3 hb3 hg3
        go_wp2_with (at_builtin; refine wpList_append_rows (o := ⟨some 38, _, _, _, _, _⟩) rfl (.tmp 27) (.tmp 37) rfl rfl w1.heap.size (.slice (some ⟨g, 0, none⟩) LL.length cg) LL rfl HO3.out w3.heap.size rfl g3 c3 _ (cutT l k) _ _ (heap_alloc_new w3 _) rfl HT1.out HG3.out.1 HG3.out.2 (range_on (below_alloc w3 _) HR3.out.1) HGL.out HNE.out HLen.out HSB.out ?_; intro v4 w4 hov hgv hvv; rw [HE.out] at hov; have HO4 := Lib.hid hov; have HG4 := Lib.hid hgv; clear hov hgv hvv; refine Stop.out ?_)
        unfold Stop
        obtain ⟨g4, c4, rfl, _⟩ := HO4.out.form (by rw [← HE.out]; simp)
        have HB5 : Hid (Below w.heap.size w w4) := Lib.hid (HB4.out.grown HG4.out HB4.out.size (fun j hj => by simp only [Value.ownBlock] at hj; injection hj with hj; subst hj; exact Nat.le_trans (Nat.le_of_lt HLT1.out) HGB.out.1))
        have HX5 : Hid (w4.heap[w.heap.size]? = some (.cells #[.int .i64 s, .int .i64 l.length, .int .u32 u] 112)) := Lib.hid ((HG4.out.block _ (heapLt HX4.out) (by simp only [Value.ownBlock]; intro e; injection e with e; have h1 := HLT1.out; have h2 := HGB.out.1; omega)).trans HX4.out)
        go_wp2
        go_roundw
        case rel => exact ⟨k + 1, by omega, by rw [show r = 64 * k from HLk.out.2]; congr 1, ⟨g4, c4, rfl⟩, HO4, HX5, HB5⟩
        case measure => have := HL.out.2.1; simp [intOf]; omega
    · have hkm : k = manyC l := by unfold manyC at hk ⊢; omega
      have hlt' : ¬ (r : Int) < (l.length : Int) := by omega
      subst hkm
      obtain ⟨y0, y1, y2⟩ := head_cells' HX.out
      clear hr
      go_wp2_with (go_at_call 61; refine (HLa.out _).mono ?_; rintro e w3 ⟨g3, c3, rfl, hc3, hm3, ht3, hb3, hg3⟩; refine Stop.out ?_)
      unfold Stop
      have HG3 := Lib.hid (And.intro hc3 hm3)
      have HR3 : Hid (w3.rangeAt g3 0 ((endP s u).map cellOf) ∧ g3 < w3.heap.size) := Lib.hid (by
        have hl := endP_len s u
        obtain ⟨bb, oo, ee, hbb, hrr⟩ := txt_mid ht3 (by intro e; rw [e] at hl; simp at hl)
        injection ee with ee
        injection ee with e1 e2
        subst e1
        subst e2
        exact ⟨hrr, hbb⟩)
      have HGB := Lib.hid (HO.out.base g rfl)
      have HNE : Hid ((Value.slice (some ⟨g, 0, none⟩) LL.length cg).ownBlock ≠ some g3) := Lib.hid (by
        have := HGB.out.2
        simp only [Value.ownBlock]
        intro e
        injection e with e
        omega)
      have HBX := Lib.hid (below_then hb3 (below_alloc w3 (.cells #[.slice (some ⟨g3, 0, none⟩) (endP s u).length c3] 51)))
      have HO3 := Lib.hid (HO.out.on HBX.out)
      have HSB : Hid (w1.heap.size ≤ (w3.alloc (.cells #[.slice (some ⟨g3, 0, none⟩) (endP s u).length c3] 51)).heap.size) := Lib.hid (by have h1 := HBX.out.size; have h2 := HGB.out; omega)
      have HGL : Hid (g3 < (w3.alloc (.cells #[.slice (some ⟨g3, 0, none⟩) (endP s u).length c3] 51)).heap.size) := Lib.hid (by have := HR3.out.2; rw [World.size_alloc]; omega)
      have HT1 : Hid (0 < (endP s u).length) := Lib.hid (by rw [endP_len s u]; decide)
      have HB4 := Lib.hid (below_then HB.out HBX.out)
      have HX4 := Lib.hid (heap_on HBX.out HX.out)
      have HE : Hid (LL ++ [endP s u] = pagesT s l) := Lib.hid (by rw [HLL.out, HU.out]; rfl)
      clear hc3 hm3 ht3 hb3 hg3
      go_wp2_with (at_builtin; refine wpList_append_rows (o := ⟨some 43, _, _, _, _, _⟩) rfl (.tmp 39) (.tmp 42) rfl rfl w1.heap.size (.slice (some ⟨g, 0, none⟩) LL.length cg) LL rfl HO3.out w3.heap.size rfl g3 c3 _ (endP s u) _ _ (heap_alloc_new w3 _) rfl HT1.out HG3.out.1 HG3.out.2 (range_on (below_alloc w3 _) HR3.out.1) HGL.out HNE.out HLen.out HSB.out ?_; intro v4 w4 hov hgv hvv; rw [HE.out] at hov; have HO4 := Lib.hid hov; have HG4 := Lib.hid hgv; clear hov hgv hvv; refine Stop.out ?_)
      unfold Stop
      obtain ⟨g4, c4, rfl, _⟩ := HO4.out.form (by rw [← HE.out]; simp)
      have HB5 : Hid (Below w.heap.size w w4) := Lib.hid (HB4.out.grown HG4.out HB4.out.size (fun j hj => by simp only [Value.ownBlock] at hj; injection hj with hj; subst hj; exact Nat.le_trans (Nat.le_of_lt HLT1.out) HGB.out.1))
      have HX5 : Hid (w4.heap[w.heap.size]? = some (.cells #[.int .i64 s, .int .i64 l.length, .int .u32 u] 112)) := Lib.hid ((HG4.out.block _ (heapLt HX4.out) (by simp only [Value.ownBlock]; intro e; injection e with e; have h1 := HLT1.out; have h2 := HGB.out.1; omega)).trans HX4.out)
      go_wp2
      go_ret2
      exact ⟨g4, c4, rfl, HO4.out.less (Nat.le_of_lt HLT1.out), HB5.out⟩
end Go.Proofs.Ytfjejiapafdgeaa
