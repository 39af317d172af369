/- The statement's own comparison; the document's sectors of a batch. The document's reading of a blank sector and of an end. -/
import Derived.Test.YtmgonokhgijgoaaJ20
import Derived.Test.YtmgonokhgijgoaaJ17
import Derived.Test.YtmgonokhgijgoaaJ18
import Derived.Test.YtmgonokhgijgoaaJ12
namespace Go.Proofs.Ytmgonokhgijgoaa
open Go.RowKit
set_option maxRecDepth 100000
theorem OwnT.less {B B' : Nat} {v : Value} {L : List Text} {W : World} (h : OwnT B v L W) (hb : B' ≤ B) : OwnT B' v L W := by
  obtain ⟨xs, h1, h2⟩ := h
  refine ⟨xs, ⟨h1.1, ?_⟩, h2⟩
  rcases h1.2 with hn | ⟨g, c, cur, e, hg, rest⟩
  · exact .inl hn
  · exact .inr ⟨g, c, cur, e, Nat.le_trans hb hg, rest⟩
theorem cutP_next (l : Text) (k : Nat) : cutP l (k + 1) = cutP l k ++ [cutT l k] := by unfold cutP; rw [cutsT_next, List.map_append]; rfl
def refPages (w : World) (s : Nat) (l : Text) (e : Ending) (w' : World) : Prop := ∃ g c, e = .returned (.tuple #[.slice (some ⟨g, 0, none⟩) (pagesT s l).length c, .int .i64 0]) ∧ OwnT w.heap.size (.slice (some ⟨g, 0, none⟩) (pagesT s l).length c) (pagesT s l) w' ∧ Below w.heap.size w w'
set_option maxHeartbeats 400000 in
theorem ref_pages_no (s : Int) (l : Text) (A : Option Addr) (c : Nat) (w : World) (hl : l.length ≤ 140737488355328) (hT : Txt w A l) (hh : headOk s l.length = false) :
    Calls Try.prog 26 #[.int .i64 s, .slice A l.length c] w fun e w' => e = .returned (.tuple #[.slice none 0 0, .int .i64 2]) ∧ Below w.heap.size w w' := by
  have HS := Lib.hid (ref_sum l A c w hl hT)
  have HH : Hid (∀ W, Calls Try.prog 58 #[headV s l.length (reg (Crc.sumT l))] W fun e w' => e = .returned (.bool false) ∧ Below W.heap.size W w') := Lib.hid (fun W => by have := ref_right s l.length (reg (Crc.sumT l)) W; rwa [hh] at this)
  unfold headV at HH
  clear hh hT
  go_enter Try.func26, Try.ntmps26
  go_wp2_with (first
    | (go_at_call 57; refine HS.out.mono ?_; rintro e w0 ⟨rfl, rfl⟩)
    | (go_at_call 58; refine (HH.out _).mono ?_; rintro e w1 ⟨rfl, hb1⟩; have HB1 := Lib.hid (below_then (below_alloc w _) hb1); clear hb1))
  go_ret2
  exact ⟨rfl, HB1.out⟩
set_option maxHeartbeats 1000000 in
theorem ref_pages_yes (s : Nat) (l : Text) (A : Option Addr) (c : Nat) (w : World) (h1 : 1 ≤ s) (h2 : s ≤ 4611686018427387904) (h3 : 1 ≤ l.length) (h4 : l.length ≤ 131072) (hc : l.length ≤ c) (hT : Txt w A l) :
    Calls Try.prog 26 #[.int .i64 s, .slice A l.length c] w (refPages w s l) := by
  obtain ⟨b, o, rfl, hb, hr⟩ := txt_mid hT (by intro e; subst e; simp at h3)
  obtain ⟨u, hu⟩ : ∃ u, u = sumN l := ⟨_, rfl⟩
  have hub : u < 4294967296 := by rw [hu]; exact (Crc.sumT l).isLt
  have HS : Hid (Calls Try.prog 57 #[.slice (some ⟨b, o, none⟩) l.length c] w fun e w' => e = .returned (.int .u32 u) ∧ w = w') := Lib.hid (by rw [hu]; exact ref_sum l (some ⟨b, o, none⟩) c w (by omega) hT)
  have HH : Hid (∀ W, Calls Try.prog 58 #[headV s l.length u] W fun e w' => e = .returned (.bool true) ∧ Below W.heap.size W w') := Lib.hid (fun W => by
    have := ref_right s l.length u W
    have hh : headOk s l.length = true := by
      unfold headOk seqOk needV
      rw [if_neg (by omega)]
      simp
      omega
    rwa [hh] at this)
  have HFi : Hid (∀ W, Calls Try.prog 59 #[headV s l.length u] W (ToldG W (headP s l.length u))) := Lib.hid (fun W => ref_first s l.length u W (by omega) (by omega) hub)
  have HLa : Hid (∀ W, Calls Try.prog 61 #[headV s l.length u] W (ToldG W (endP s u))) := Lib.hid (fun W => ref_last s u l.length W (by omega) hub)
  have HFl : Hid (∀ W k, 64 * k < l.length → Txt W (some ⟨b, o, none⟩) l → Calls Try.prog 60 #[.slice (some ⟨b, o + 64 * k, none⟩) (min (64 * k + 64) l.length - 64 * k) (c - 64 * k)] W (ToldG W (cutT l k))) := Lib.hid (fun W k hk h => by
    have h5 := (h.drop (64 * k)).take 64
    rw [Addr.add_mid] at h5
    have hlen : ((l.drop (64 * k)).take 64).length = min (64 * k + 64) l.length - 64 * k := by rw [List.length_take, List.length_drop]; omega
    have := ref_fillG ((l.drop (64 * k)).take 64) (some ⟨b, o + 64 * k, none⟩) (c - 64 * k) W (by rw [hlen]; omega) h5 (by simp)
    rw [hlen, fillP_eq _ (by rw [hlen]; omega)] at this
    have he : overP zeros ((l.drop (64 * k)).take 64) = cutT l k := by unfold cutT overP; rw [List.take_take, Nat.min_self]
    rw [he] at this
    exact this)
  have HT := Lib.hid hT
  have HL := Lib.hid (And.intro h3 (And.intro h4 hc))
  have HU := Lib.hid hu
  have i2 : (l.length : Int) ≤ 131072 := by omega
  have i3 : (l.length : Int) ≤ (c : Int) := by omega
  unfold headV at HH HFi HLa
  clear hT hr hu hub h1 h2 h3 h4 hc hb
  go_enter Try.func26, Try.ntmps26
  go_wp2_with (go_at_call 57; refine HS.out.mono ?_; rintro e w0 ⟨rfl, rfl⟩; refine Stop.out ?_)
  unfold Stop
  have HX0 : Hid ((w.alloc (.cells #[.int .i64 s, .int .i64 l.length, .int .u32 u] 112)).heap[w.heap.size]? = some (.cells #[.int .i64 s, .int .i64 l.length, .int .u32 u] 112)) := Lib.hid (heap_alloc_new w _)
  have HBA : Hid (Below w.heap.size w (w.alloc (.cells #[.int .i64 s, .int .i64 l.length, .int .u32 u] 112))) := Lib.hid (below_alloc w _)
  go_wp2_with (go_at_call 58; refine (HH.out _).mono ?_; rintro e w1 ⟨rfl, hb1⟩; have HX1 := Lib.hid (heap_on hb1 HX0.out); have HB1 := Lib.hid (below_then HBA.out hb1); have HLT1 := Lib.hid (heapLt HX1.out); clear hb1; obtain ⟨y0, y1, y2⟩ := head_cells' HX1.out; refine Stop.out ?_)
  unfold Stop
  go_wp2_with (go_at_call 59; refine (HFi.out _).mono ?_; rintro e w2 ⟨g2, c2, rfl, hc2, hm2, ht2, hb2, hg2⟩; have HF2 := Lib.hid (And.intro hc2 (And.intro hm2 ht2)); have HSZ2 : Hid (w1.heap.size ≤ w2.heap.size) := Lib.hid hb2.size; have HX2 := Lib.hid (heap_on hb2 HX1.out); have HB2 := Lib.hid (below_then HB1.out hb2); clear hc2 hm2 ht2 hb2 hg2)
  have HO0 : Hid (OwnT w1.heap.size (.slice (some ⟨w2.heap.size, 0, none⟩) (headP s l.length u :: cutP l 0).length 1) (headP s l.length u :: cutP l 0) (w2.alloc (.cells #[.slice (some ⟨g2, 0, none⟩) (headP s l.length u).length c2] 51))) := Lib.hid (by
    have hl := headP_len s l.length u
    have hr2 := txt_mid HF2.out.2.2 (by intro e; rw [e] at hl; simp at hl)
    obtain ⟨bb, oo, ee, hbb, hrr⟩ := hr2
    injection ee with ee
    injection ee with e1 e2
    subst e1
    subst e2
    exact OwnT.one rfl (by rw [hl]; decide) HSZ2.out HF2.out.1 HF2.out.2.1 hrr hbb)
  have HX3 := Lib.hid (heap_on (below_alloc w2 (.cells #[.slice (some ⟨g2, 0, none⟩) (headP s l.length u).length c2] 51)) HX2.out)
  have HB3 := Lib.hid (below_then HB2.out (below_alloc w2 (.cells #[.slice (some ⟨g2, 0, none⟩) (headP s l.length u).length c2] 51)))
  clear HSZ2 HX0 HX1 HX2 HB1 HB2 HF2 y0 y1 y2 HBA HS HH HFi
  go_loopw [7, 8] (fun v i wr => ∃ k : Nat, k ≤ manyC l ∧ i = .int .i64 ((64 * k : Nat) : Int) ∧ (∃ g c, v = .slice (some ⟨g, 0, none⟩) (headP s l.length u :: cutP l k).length c) ∧ Hid (OwnT w1.heap.size v (headP s l.length u :: cutP l k) wr) ∧ Hid (wr.heap[w.heap.size]? = some (.cells #[.int .i64 s, .int .i64 l.length, .int .u32 u] 112)) ∧ Hid (Below w.heap.size w wr)) (fun _ i _ => 140000 - (intOf i).toNat)
  case atStart => exact ⟨0, Nat.zero_le _, rfl, ⟨_, _, rfl⟩, HO0, HX3, HB3⟩
  case round =>
    obtain ⟨k, hk, rfl, ⟨g, cg, rfl⟩, HO, HX, HB⟩ := hrel
    obtain ⟨r, hr⟩ : ∃ r, r = 64 * k := ⟨_, rfl⟩
    rw [← hr]
    have HLk := Lib.hid (And.intro hk hr)
    have hLen : (headP s l.length u :: cutP l k).length ≤ 100000 := by
      simp only [List.length_cons, cutP_len]
      have := HL.out.2.1
      unfold manyC at hk
      omega
    have HLen := Lib.hid hLen
    obtain ⟨LL, hLL⟩ : ∃ LL, LL = headP s l.length u :: cutP l k := ⟨_, rfl⟩
    rw [← hLL] at HO HLen ⊢
    have HLL := Lib.hid hLL
    clear hLen hLL
    by_cases hlt : r < l.length
    · have hkm : k < manyC l := by unfold manyC; omega
      have hlt' : (r : Int) < (l.length : Int) := by omega
      have hTr := Lib.hid (HT.out.below HB.out)
      have HCk := Lib.hid (HFl.out wr k (by omega) hTr.out)
      rw [← hr] at HCk
      have hnc : ¬ c = r := by have := HL.out.2.2; omega
      clear hr
      by_cases hA : r + 64 ≤ l.length
      · rw [Nat.min_eq_left hA, show r + 64 - r = 64 by omega] at HCk
        have hA' : (r : Int) + 64 ≤ (l.length : Int) := by omega
        go_wp2_with (go_at_call 60; refine HCk.out.mono ?_; rintro e w3 ⟨g3, c3, rfl, hc3, hm3, ht3, hb3, hg3⟩; refine Stop.out ?_)
        unfold Stop
        have HG3 := Lib.hid (And.intro hc3 hm3)
        have HR3 : Hid (w3.rangeAt g3 0 ((cutT l k).map cellOf) ∧ g3 < w3.heap.size) := Lib.hid (by
          have hl := cutT_len l k
          obtain ⟨bb, oo, ee, hbb, hrr⟩ := txt_mid ht3 (by intro e; rw [e] at hl; simp at hl)
          injection ee with ee
          injection ee with e1 e2
          subst e1
          subst e2
          exact ⟨hrr, hbb⟩)
        have HGB := Lib.hid (HO.out.base g rfl)
        have HNE : Hid ((Value.slice (some ⟨g, 0, none⟩) LL.length cg).ownBlock ≠ some g3) := Lib.hid (by
          have := HGB.out.2
          simp only [Value.ownBlock]
          intro e
          injection e with e
          omega)
        have HBX := Lib.hid (below_then hb3 (below_alloc w3 (.cells #[.slice (some ⟨g3, 0, none⟩) (cutT l k).length c3] 51)))
        have HO3 := Lib.hid (HO.out.on HBX.out)
        have HSB : Hid (w1.heap.size ≤ (w3.alloc (.cells #[.slice (some ⟨g3, 0, none⟩) (cutT l k).length c3] 51)).heap.size) := Lib.hid (by have h1 := HBX.out.size; have h2 := HGB.out; omega)
        have HGL : Hid (g3 < (w3.alloc (.cells #[.slice (some ⟨g3, 0, none⟩) (cutT l k).length c3] 51)).heap.size) := Lib.hid (by have := HR3.out.2; rw [World.size_alloc]; omega)
        have HT1 : Hid (0 < (cutT l k).length) := Lib.hid (by rw [cutT_len l k]; decide)
        have HB4 := Lib.hid (below_then HB.out HBX.out)
        have HX4 := Lib.hid (heap_on HBX.out HX.out)
        have HE : Hid (LL ++ [cutT l k] = headP s l.length u :: cutP l (k + 1)) := Lib.hid (by rw [HLL.out, cutP_next]; rfl)
        clear hc3 hm3 ht3 hb3 hg3
        go_wp2_with (at_builtin; refine wpList_append_rows (o := ⟨some 38, _, _, _, _, _⟩) rfl (.tmp 27) (.tmp 37) rfl rfl w1.heap.size (.slice (some ⟨g, 0, none⟩) LL.length cg) LL rfl HO3.out w3.heap.size rfl g3 c3 _ (cutT l k) _ _ (heap_alloc_new w3 _) rfl HT1.out HG3.out.1 HG3.out.2 (range_on (below_alloc w3 _) HR3.out.1) HGL.out HNE.out HLen.out HSB.out ?_; intro v4 w4 hov hgv hvv; rw [HE.out] at hov; have HO4 := Lib.hid hov; have HG4 := Lib.hid hgv; clear hov hgv hvv; refine Stop.out ?_)
        unfold Stop
        obtain ⟨g4, c4, rfl, _⟩ := HO4.out.form (by rw [← HE.out]; simp)
        have HB5 : Hid (Below w.heap.size w w4) := Lib.hid (HB4.out.grown HG4.out HB4.out.size (fun j hj => by simp only [Value.ownBlock] at hj; injection hj with hj; subst hj; exact Nat.le_trans (Nat.le_of_lt HLT1.out) HGB.out.1))
        have HX5 : Hid (w4.heap[w.heap.size]? = some (.cells #[.int .i64 s, .int .i64 l.length, .int .u32 u] 112)) := Lib.hid ((HG4.out.block _ (heapLt HX4.out) (by simp only [Value.ownBlock]; intro e; injection e with e; have h1 := HLT1.out; have h2 := HGB.out.1; omega)).trans HX4.out)
        go_wp2
        go_roundw
        case rel => exact ⟨k + 1, by omega, by rw [show r = 64 * k from HLk.out.2]; congr 1, ⟨g4, c4, rfl⟩, HO4, HX5, HB5⟩
        case measure => have := HL.out.2.1; simp [intOf]; omega
      · rw [Nat.min_eq_right (by omega)] at HCk
        have hA' : (l.length : Int) < (r : Int) + 64 := by omega
        go_wp2_with (go_at_call 60; refine HCk.out.mono ?_; rintro e w3 ⟨g3, c3, rfl, hc3, hm3, ht3, hb3, hg3⟩; refine Stop.out ?_)
        unfold Stop
        have HG3 := Lib.hid (And.intro hc3 hm3)
        have HR3 : Hid (w3.rangeAt g3 0 ((cutT l k).map cellOf) ∧ g3 < w3.heap.size) := Lib.hid (by
          have hl := cutT_len l k
          obtain ⟨bb, oo, ee, hbb, hrr⟩ := txt_mid ht3 (by intro e; rw [e] at hl; simp at hl)
          injection ee with ee
          injection ee with e1 e2
          subst e1
          subst e2
          exact ⟨hrr, hbb⟩)
        have HGB := Lib.hid (HO.out.base g rfl)
        have HNE : Hid ((Value.slice (some ⟨g, 0, none⟩) LL.length cg).ownBlock ≠ some g3) := Lib.hid (by
          have := HGB.out.2
          simp only [Value.ownBlock]
          intro e
          injection e with e
          omega)
        have HBX := Lib.hid (below_then hb3 (below_alloc w3 (.cells #[.slice (some ⟨g3, 0, none⟩) (cutT l k).length c3] 51)))
        have HO3 := Lib.hid (HO.out.on HBX.out)
        have HSB : Hid (w1.heap.size ≤ (w3.alloc (.cells #[.slice (some ⟨g3, 0, none⟩) (cutT l k).length c3] 51)).heap.size) := Lib.hid (by have h1 := HBX.out.size; have h2 := HGB.out; omega)
        have HGL : Hid (g3 < (w3.alloc (.cells #[.slice (some ⟨g3, 0, none⟩) (cutT l k).length c3] 51)).heap.size) := Lib.hid (by have := HR3.out.2; rw [World.size_alloc]; omega)
        have HT1 : Hid (0 < (cutT l k).length) := Lib.hid (by rw [cutT_len l k]; decide)
        have HB4 := Lib.hid (below_then HB.out HBX.out)
        have HX4 := Lib.hid (heap_on HBX.out HX.out)
        have HE : Hid (LL ++ [cutT l k] = headP s l.length u :: cutP l (k + 1)) := Lib.hid (by rw [HLL.out, cutP_next]; rfl)
        clear hc3 hm3 ht3 hb3 hg3
        go_wp2_with (at_builtin; refine wpList_append_rows (o := ⟨some 38, _, _, _, _, _⟩) rfl (.tmp 27) (.tmp 37) rfl rfl w1.heap.size (.slice (some ⟨g, 0, none⟩) LL.length cg) LL rfl HO3.out w3.heap.size rfl g3 c3 _ (cutT l k) _ _ (heap_alloc_new w3 _) rfl HT1.out HG3.out.1 HG3.out.2 (range_on (below_alloc w3 _) HR3.out.1) HGL.out HNE.out HLen.out HSB.out ?_; intro v4 w4 hov hgv hvv; rw [HE.out] at hov; have HO4 := Lib.hid hov; have HG4 := Lib.hid hgv; clear hov hgv hvv; refine Stop.out ?_)
        unfold Stop
        obtain ⟨g4, c4, rfl, _⟩ := HO4.out.form (by rw [← HE.out]; simp)
        have HB5 : Hid (Below w.heap.size w w4) := Lib.hid (HB4.out.grown HG4.out HB4.out.size (fun j hj => by simp only [Value.ownBlock] at hj; injection hj with hj; subst hj; exact Nat.le_trans (Nat.le_of_lt HLT1.out) HGB.out.1))
        have HX5 : Hid (w4.heap[w.heap.size]? = some (.cells #[.int .i64 s, .int .i64 l.length, .int .u32 u] 112)) := Lib.hid ((HG4.out.block _ (heapLt HX4.out) (by simp only [Value.ownBlock]; intro e; injection e with e; have h1 := HLT1.out; have h2 := HGB.out.1; omega)).trans HX4.out)
        go_wp2
        go_roundw
        case rel => exact ⟨k + 1, by omega, by rw [show r = 64 * k from HLk.out.2]; congr 1, ⟨g4, c4, rfl⟩, HO4, HX5, HB5⟩
        case measure => have := HL.out.2.1; simp [intOf]; omega
    · have hkm : k = manyC l := by unfold manyC at hk ⊢; omega
      have hlt' : ¬ (r : Int) < (l.length : Int) := by omega
      subst hkm
      obtain ⟨y0, y1, y2⟩ := head_cells' HX.out
      clear hr
      go_wp2_with (go_at_call 61; refine (HLa.out _).mono ?_; rintro e w3 ⟨g3, c3, rfl, hc3, hm3, ht3, hb3, hg3⟩; refine Stop.out ?_)
      unfold Stop
      have HG3 := Lib.hid (And.intro hc3 hm3)
      have HR3 : Hid (w3.rangeAt g3 0 ((endP s u).map cellOf) ∧ g3 < w3.heap.size) := Lib.hid (by
        have hl := endP_len s u
        obtain ⟨bb, oo, ee, hbb, hrr⟩ := txt_mid ht3 (by intro e; rw [e] at hl; simp at hl)
        injection ee with ee
        injection ee with e1 e2
        subst e1
        subst e2
        exact ⟨hrr, hbb⟩)
      have HGB := Lib.hid (HO.out.base g rfl)
      have HNE : Hid ((Value.slice (some ⟨g, 0, none⟩) LL.length cg).ownBlock ≠ some g3) := Lib.hid (by
        have := HGB.out.2
        simp only [Value.ownBlock]
        intro e
        injection e with e
        omega)
      have HBX := Lib.hid (below_then hb3 (below_alloc w3 (.cells #[.slice (some ⟨g3, 0, none⟩) (endP s u).length c3] 51)))
      have HO3 := Lib.hid (HO.out.on HBX.out)
      have HSB : Hid (w1.heap.size ≤ (w3.alloc (.cells #[.slice (some ⟨g3, 0, none⟩) (endP s u).length c3] 51)).heap.size) := Lib.hid (by have h1 := HBX.out.size; have h2 := HGB.out; omega)
      have HGL : Hid (g3 < (w3.alloc (.cells #[.slice (some ⟨g3, 0, none⟩) (endP s u).length c3] 51)).heap.size) := Lib.hid (by have := HR3.out.2; rw [World.size_alloc]; omega)
      have HT1 : Hid (0 < (endP s u).length) := Lib.hid (by rw [endP_len s u]; decide)
      have HB4 := Lib.hid (below_then HB.out HBX.out)
      have HX4 := Lib.hid (heap_on HBX.out HX.out)
      have HE : Hid (LL ++ [endP s u] = pagesT s l) := Lib.hid (by rw [HLL.out, HU.out]; rfl)
      clear hc3 hm3 ht3 hb3 hg3
      go_wp2_with (at_builtin; refine wpList_append_rows (o := ⟨some 43, _, _, _, _, _⟩) rfl (.tmp 39) (.tmp 42) rfl rfl w1.heap.size (.slice (some ⟨g, 0, none⟩) LL.length cg) LL rfl HO3.out w3.heap.size rfl g3 c3 _ (endP s u) _ _ (heap_alloc_new w3 _) rfl HT1.out HG3.out.1 HG3.out.2 (range_on (below_alloc w3 _) HR3.out.1) HGL.out HNE.out HLen.out HSB.out ?_; intro v4 w4 hov hgv hvv; rw [HE.out] at hov; have HO4 := Lib.hid hov; have HG4 := Lib.hid hgv; clear hov hgv hvv; refine Stop.out ?_)
      unfold Stop
      obtain ⟨g4, c4, rfl, _⟩ := HO4.out.form (by rw [← HE.out]; simp)
      have HB5 : Hid (Below w.heap.size w w4) := Lib.hid (HB4.out.grown HG4.out HB4.out.size (fun j hj => by simp only [Value.ownBlock] at hj; injection hj with hj; subst hj; exact Nat.le_trans (Nat.le_of_lt HLT1.out) HGB.out.1))
      have HX5 : Hid (w4.heap[w.heap.size]? = some (.cells #[.int .i64 s, .int .i64 l.length, .int .u32 u] 112)) := Lib.hid ((HG4.out.block _ (heapLt HX4.out) (by simp only [Value.ownBlock]; intro e; injection e with e; have h1 := HLT1.out; have h2 := HGB.out.1; omega)).trans HX4.out)
      go_wp2
      go_ret2
      exact ⟨g4, c4, rfl, HO4.out.less (Nat.le_of_lt HLT1.out), HB5.out⟩
end Go.Proofs.Ytmgonokhgijgoaa

namespace Go.Proofs.Ytmgonokhgijgoaa
open Go.RowKit
set_option maxRecDepth 100000

theorem wp_text {w : World} {o : Oper} {a : Act} {K : Act → World → Prop} {Q : Exit → Act → World → Prop} (x : Operand) (ho : o.op = .convert 51 9 x) (A : Option Addr) (c n : Nat) (l : Text) (hn : l.length = n) (hx : a.eval x = .slice A n c)
    (hT : Txt w A l) (hA : A = none → l = []) (h : K (a.put o.dst (.string ⟨l.toArray⟩)) w) : o.wp Try.prog a w K Q := by
  have hr := text_run_n w A c n l hn hT hA
  unfold Oper.wp execOp
  simp only [ho, hx]
  rw [Sem.run_bind, hr]
  exact h
set_option maxHeartbeats 1000000 in
theorem ref_blank (l : Text) (A : Option Addr) (c : Nat) (w : World) (hT : Txt w A l) (hA : A = none → l = []) :
    Calls Try.prog 53 #[.slice A l.length c] w fun e w' => e = .returned (.bool (decide (l = zeros))) ∧ Below w.heap.size w w' := by
  have HF : Hid (∀ W, Calls Try.prog 60 #[.slice none 0 0] W (ToldG W zeros)) := Lib.hid (fun W => by
    have := ref_fillG [] none 0 W (by simp) Txt.none_ (fun _ => rfl)
    rwa [fillP_eq _ (by simp), show overP zeros [] = zeros from rfl] at this)
  obtain ⟨z, hz⟩ : ∃ z, z = zeros := ⟨_, rfl⟩
  rw [← hz] at HF ⊢
  obtain ⟨q, hq⟩ : ∃ q, q = decide (l = z) := ⟨_, rfl⟩
  have h1 : (l == z) = q := by rw [hq]; by_cases h : l = z <;> simp [h]
  have h2 : (l != z) = !q := by unfold bne; rw [h1]
  rw [← hq]
  have HA := Lib.hid hA
  have HT := Lib.hid hT
  clear hT hA hz hq
  go_enter Try.func53, Try.ntmps53
  go_wp2
  refine wp_region_held_drew (S := fun W => Txt W A l) (by kernel_rfl) HT.out ?_
  intro hHeld
  have HBD : Hid (Below w.heap.size w w.drew) := Lib.hid (below_drew w)
  generalize w.drew = w0 at HBD hHeld ⊢
  (refine takeH (i := 0) (v := ?_) rfl (by kernel_rfl) (by kernel_rfl) (by kernel_rfl) (fun _ _ _ h => h) (Or.inl ⟨by rfl, ?_⟩) (by assumption) ?_; rotate_left; (focus ((intro wS hSw); (try dsimp only at hSw); have s0 := hSw; go_simp; (try with_reducible rfl); done)); (try simp only [Act.put, List.setIfInBounds_toArray, List.set_cons_zero, List.set_cons_succ]))
  (refine takeH (i := 1) (v := (.string ⟨l.toArray⟩)) rfl (by kernel_rfl) (by kernel_rfl) (by kernel_rfl) (fun _ _ _ h => h) (yieldsIf_text (by rfl) (.tmp 3) rfl A c l.length l rfl rfl (fun _ h => h) HA.out) (by assumption) ?_; (try simp only [Act.put, List.setIfInBounds_toArray, List.set_cons_zero, List.set_cons_succ]))
  refine aloneH (i := 2) rfl (by kernel_rfl) (fun K hK => ?_)
  rw [if_pos (by rfl)]
  go_simp; ((refine (HF.out w0).mono ?_); (rintro e w1 ⟨ga, ca, rfl, hc1, hm1, ht1, hb, hg1⟩); have HB1 := Lib.hid hb; have HTa := Lib.hid ht1; clear hb hc1 hm1 ht1 hg1; (try go_simp))
  refine hK.out _ _ ((hHeld).below HB1.out) (fun hNew => ?_)
  clear hK K hHeld; (have hHeld := hNew); clear hNew; (try simp only [Act.put, List.setIfInBounds_toArray, List.set_cons_zero, List.set_cons_succ])
  refine aloneH (i := 3) rfl (by kernel_rfl) (fun K hK => ?_)
  rw [if_pos (by rfl)]
  refine wp_text (.tmp 5) rfl (some ⟨ga, 0, none⟩) ca z.length z rfl rfl (HTa.out.below (below_same w1)) (fun e => by cases e) ?_
  have HB2 : Hid (Below w1.heap.size w1 w1) := Lib.hid (Below.refl _ _)
  refine hK.out _ _ (hHeld) (fun hNew => ?_)
  clear hK K hHeld; (have hHeld := hNew); clear hNew; (try simp only [Act.put, List.setIfInBounds_toArray, List.set_cons_zero, List.set_cons_succ])
  (refine takeH (i := 4) (v := ?_) rfl (by kernel_rfl) (by kernel_rfl) (by kernel_rfl) (fun _ _ _ h => h) (Or.inl ⟨by rfl, ?_⟩) (by assumption) ?_; rotate_left; (focus ((intro wS hSw); (try dsimp only at hSw); have s0 := hSw; go_simp; (try with_reducible rfl); done)); (try simp only [Act.put, List.setIfInBounds_toArray, List.set_cons_zero, List.set_cons_succ]))
  (refine takeH (i := 5) (v := ?_) rfl (by kernel_rfl) (by kernel_rfl) (by kernel_rfl) (fun _ _ _ h => h) (Or.inl ⟨by rfl, ?_⟩) (by assumption) ?_; rotate_left; (focus ((intro wS hSw); (try dsimp only at hSw); have s0 := hSw; go_simp; (try with_reducible rfl); done)); (try simp only [Act.put, List.setIfInBounds_toArray, List.set_cons_zero, List.set_cons_succ]))
  refine wpAnyH_done (by kernel_rfl) ?_ _
  clear hHeld h1 h2
  go_wp2
  go_ret
  exact ⟨rfl, HBD.out.trans ((below_then HB1.out HB2.out).mono HBD.out.size)⟩
set_option maxHeartbeats 1000000 in
theorem ref_end_low (l : Text) (A : Option Addr) (c : Nat) (s n u : Int) (w : World) (hT : Txt w A l) (hA : A = none → l = []) (hs : s < 1) :
    Calls Try.prog 77 #[.slice A l.length c, headV s n u] w fun e w' => e = .returned (.bool (endOk l s u)) ∧ Below w.heap.size w w' := by
  have hv : endOk l s u = false := by simp [endOk, seqOk]; omega
  rw [hv]
  have i1 : ¬ 1 ≤ s := by omega
  clear hv
  have HBW : Hid (Below w.heap.size w (w.alloc (headO' s n u))) := Lib.hid (below_alloc w _)
  have HH : Hid ((w.alloc (headO' s n u)).heap[w.heap.size]? = some (headO' s n u)) := Lib.hid (heap_alloc_new w _)
  have HT := Lib.hid (hT.below HBW.out)
  have HA := Lib.hid hA
  clear hT hA
  unfold headV
  go_enter Try.func77, Try.ntmps77
  go_wp2
  unfold headO' at HBW HH HT
  generalize (w.alloc (.cells #[.int .i64 s, .int .i64 n, .int .u32 u] 112)) = wb at HBW HH HT ⊢
  refine wp_region_held_drew (S := fun W => W.cell? ⟨w.heap.size, 0, none⟩ = some (.int .i64 s) ∧ W.cell? ⟨w.heap.size, 1, none⟩ = some (.int .i64 n) ∧ W.cell? ⟨w.heap.size, 2, none⟩ = some (.int .u32 u) ∧ Txt W A l) (by kernel_rfl) (let h := head_cells' (w := wb) HH.out; ⟨h.1, h.2.1, h.2.2, HT.out⟩) ?_
  intro hHeld
  have HBD := Lib.hid HBW.out.drew
  clear HBW HH HT
  generalize wb.drew = w0 at HBD hHeld ⊢
  (refine takeH (i := 0) (v := ?_) rfl (by kernel_rfl) (by kernel_rfl) (by kernel_rfl) (fun _ _ _ h => h) (Or.inl ⟨by rfl, ?_⟩) (by assumption) ?_; rotate_left; (focus ((intro wS hSw); (try dsimp only at hSw); obtain ⟨s0, s1, s2, s3⟩ := hSw; go_simp; (try with_reducible rfl); done)); (try simp only [Act.put, List.setIfInBounds_toArray, List.set_cons_zero, List.set_cons_succ]))
  (refine takeH (i := 1) (v := ?_) rfl (by kernel_rfl) (by kernel_rfl) (by kernel_rfl) (fun _ _ _ h => h) (Or.inl ⟨by rfl, ?_⟩) (by assumption) ?_; rotate_left; (focus ((intro wS hSw); (try dsimp only at hSw); obtain ⟨s0, s1, s2, s3⟩ := hSw; go_simp; (try with_reducible rfl); done)); (try simp only [Act.put, List.setIfInBounds_toArray, List.set_cons_zero, List.set_cons_succ]))
  (refine takeH (i := 2) (v := (.bool false)) rfl (by kernel_rfl) (by kernel_rfl) (by kernel_rfl) (fun _ _ _ h => h) (Or.inl ⟨by rfl, by (intro wS hSw); (try dsimp only at hSw); (obtain ⟨s0, s1, s2, s3⟩ := hSw); go_simp; (first | done | omega | (simp; omega))⟩) (by assumption) ?_; (try simp only [Act.put, List.setIfInBounds_toArray, List.set_cons_zero, List.set_cons_succ]))
  (refine takeH (i := 3) (v := ?_) rfl (by kernel_rfl) (by kernel_rfl) (by kernel_rfl) (fun _ _ _ h => h) (Or.inl ⟨by rfl, ?_⟩) (by assumption) ?_; rotate_left; (focus ((intro wS hSw); (try dsimp only at hSw); obtain ⟨s0, s1, s2, s3⟩ := hSw; go_simp; (try with_reducible rfl); done)); (try simp only [Act.put, List.setIfInBounds_toArray, List.set_cons_zero, List.set_cons_succ]))
  (refine takeH (i := 4) (v := undef) rfl (by kernel_rfl) (by kernel_rfl) (by kernel_rfl) (fun _ _ _ h => h) (Or.inr ⟨by rfl, rfl⟩) (by assumption) ?_; (try simp only [Act.put, List.setIfInBounds_toArray, List.set_cons_zero, List.set_cons_succ]))
  (refine takeH (i := 5) (v := undef) rfl (by kernel_rfl) (by kernel_rfl) (by kernel_rfl) (fun _ _ _ h => h) (Or.inr ⟨by rfl, rfl⟩) (by assumption) ?_; (try simp only [Act.put, List.setIfInBounds_toArray, List.set_cons_zero, List.set_cons_succ]))
  (refine takeH (i := 6) (v := undef) rfl (by kernel_rfl) (by kernel_rfl) (by kernel_rfl) (fun _ _ _ h => h) (Or.inr ⟨by rfl, rfl⟩) (by assumption) ?_; (try simp only [Act.put, List.setIfInBounds_toArray, List.set_cons_zero, List.set_cons_succ]))
  (refine takeH (i := 7) (v := ?_) rfl (by kernel_rfl) (by kernel_rfl) (by kernel_rfl) (fun _ _ _ h => h) (Or.inl ⟨by rfl, ?_⟩) (by assumption) ?_; rotate_left; (focus ((intro wS hSw); (try dsimp only at hSw); obtain ⟨s0, s1, s2, s3⟩ := hSw; go_simp; (try with_reducible rfl); done)); (try simp only [Act.put, List.setIfInBounds_toArray, List.set_cons_zero, List.set_cons_succ]))
  (refine takeH (i := 8) (v := ?_) rfl (by kernel_rfl) (by kernel_rfl) (by kernel_rfl) (fun _ _ _ h => h) (Or.inl ⟨by rfl, ?_⟩) (by assumption) ?_; rotate_left; (focus ((intro wS hSw); (try dsimp only at hSw); obtain ⟨s0, s1, s2, s3⟩ := hSw; go_simp; (try with_reducible rfl); done)); (try simp only [Act.put, List.setIfInBounds_toArray, List.set_cons_zero, List.set_cons_succ]))
  (refine takeH (i := 9) (v := undef) rfl (by kernel_rfl) (by kernel_rfl) (by kernel_rfl) (fun _ _ _ h => h) (Or.inr ⟨by rfl, rfl⟩) (by assumption) ?_; (try simp only [Act.put, List.setIfInBounds_toArray, List.set_cons_zero, List.set_cons_succ]))
  (refine takeH (i := 10) (v := undef) rfl (by kernel_rfl) (by kernel_rfl) (by kernel_rfl) (fun _ _ _ h => h) (Or.inr ⟨by rfl, rfl⟩) (by assumption) ?_; (try simp only [Act.put, List.setIfInBounds_toArray, List.set_cons_zero, List.set_cons_succ]))
  (refine takeH (i := 11) (v := undef) rfl (by kernel_rfl) (by kernel_rfl) (by kernel_rfl) (fun _ _ _ h => h) (Or.inr ⟨by rfl, rfl⟩) (by assumption) ?_; (try simp only [Act.put, List.setIfInBounds_toArray, List.set_cons_zero, List.set_cons_succ]))
  (refine takeH (i := 12) (v := undef) rfl (by kernel_rfl) (by kernel_rfl) (by kernel_rfl) (fun _ _ _ h => h) (Or.inr ⟨by rfl, rfl⟩) (by assumption) ?_; (try simp only [Act.put, List.setIfInBounds_toArray, List.set_cons_zero, List.set_cons_succ]))
  (refine takeH (i := 13) (v := undef) rfl (by kernel_rfl) (by kernel_rfl) (by kernel_rfl) (fun _ _ _ h => h) (Or.inr ⟨by rfl, rfl⟩) (by assumption) ?_; (try simp only [Act.put, List.setIfInBounds_toArray, List.set_cons_zero, List.set_cons_succ]))
  (refine takeH (i := 14) (v := undef) rfl (by kernel_rfl) (by kernel_rfl) (by kernel_rfl) (fun _ _ _ h => h) (Or.inr ⟨by rfl, rfl⟩) (by assumption) ?_; (try simp only [Act.put, List.setIfInBounds_toArray, List.set_cons_zero, List.set_cons_succ]))
  (refine takeH (i := 15) (v := ?_) rfl (by kernel_rfl) (by kernel_rfl) (by kernel_rfl) (fun _ _ _ h => h) (Or.inl ⟨by rfl, ?_⟩) (by assumption) ?_; rotate_left; (focus ((intro wS hSw); (try dsimp only at hSw); obtain ⟨s0, s1, s2, s3⟩ := hSw; go_simp; (try with_reducible rfl); done)); (try simp only [Act.put, List.setIfInBounds_toArray, List.set_cons_zero, List.set_cons_succ]))
  (refine takeH (i := 16) (v := ?_) rfl (by kernel_rfl) (by kernel_rfl) (by kernel_rfl) (fun _ _ _ h => h) (Or.inl ⟨by rfl, ?_⟩) (by assumption) ?_; rotate_left; (focus ((intro wS hSw); (try dsimp only at hSw); obtain ⟨s0, s1, s2, s3⟩ := hSw; go_simp; (try with_reducible rfl); done)); (try simp only [Act.put, List.setIfInBounds_toArray, List.set_cons_zero, List.set_cons_succ]))
  refine wpAnyH_done (by kernel_rfl) ?_ _
  clear hHeld
  (try clear h1 h2)
  go_wp2
  go_ret
  exact ⟨rfl, HBD.out.trans ((below_same w0).mono HBD.out.size)⟩
set_option maxHeartbeats 1000000 in
theorem ref_end_high (l : Text) (A : Option Addr) (c : Nat) (s n u : Int) (w : World) (hT : Txt w A l) (hA : A = none → l = []) (hs : 4611686018427387904 < s) :
    Calls Try.prog 77 #[.slice A l.length c, headV s n u] w fun e w' => e = .returned (.bool (endOk l s u)) ∧ Below w.heap.size w w' := by
  have hv : endOk l s u = false := by simp [endOk, seqOk]; omega
  rw [hv]
  have i1 : 1 ≤ s := by omega
  have i2 : ¬ s ≤ 4611686018427387904 := by omega
  clear hv
  have HBW : Hid (Below w.heap.size w (w.alloc (headO' s n u))) := Lib.hid (below_alloc w _)
  have HH : Hid ((w.alloc (headO' s n u)).heap[w.heap.size]? = some (headO' s n u)) := Lib.hid (heap_alloc_new w _)
  have HT := Lib.hid (hT.below HBW.out)
  have HA := Lib.hid hA
  clear hT hA
  unfold headV
  go_enter Try.func77, Try.ntmps77
  go_wp2
  unfold headO' at HBW HH HT
  generalize (w.alloc (.cells #[.int .i64 s, .int .i64 n, .int .u32 u] 112)) = wb at HBW HH HT ⊢
  refine wp_region_held_drew (S := fun W => W.cell? ⟨w.heap.size, 0, none⟩ = some (.int .i64 s) ∧ W.cell? ⟨w.heap.size, 1, none⟩ = some (.int .i64 n) ∧ W.cell? ⟨w.heap.size, 2, none⟩ = some (.int .u32 u) ∧ Txt W A l) (by kernel_rfl) (let h := head_cells' (w := wb) HH.out; ⟨h.1, h.2.1, h.2.2, HT.out⟩) ?_
  intro hHeld
  have HBD := Lib.hid HBW.out.drew
  clear HBW HH HT
  generalize wb.drew = w0 at HBD hHeld ⊢
  (refine takeH (i := 0) (v := ?_) rfl (by kernel_rfl) (by kernel_rfl) (by kernel_rfl) (fun _ _ _ h => h) (Or.inl ⟨by rfl, ?_⟩) (by assumption) ?_; rotate_left; (focus ((intro wS hSw); (try dsimp only at hSw); obtain ⟨s0, s1, s2, s3⟩ := hSw; go_simp; (try with_reducible rfl); done)); (try simp only [Act.put, List.setIfInBounds_toArray, List.set_cons_zero, List.set_cons_succ]))
  (refine takeH (i := 1) (v := ?_) rfl (by kernel_rfl) (by kernel_rfl) (by kernel_rfl) (fun _ _ _ h => h) (Or.inl ⟨by rfl, ?_⟩) (by assumption) ?_; rotate_left; (focus ((intro wS hSw); (try dsimp only at hSw); obtain ⟨s0, s1, s2, s3⟩ := hSw; go_simp; (try with_reducible rfl); done)); (try simp only [Act.put, List.setIfInBounds_toArray, List.set_cons_zero, List.set_cons_succ]))
  (refine takeH (i := 2) (v := (.bool true)) rfl (by kernel_rfl) (by kernel_rfl) (by kernel_rfl) (fun _ _ _ h => h) (Or.inl ⟨by rfl, by (intro wS hSw); (try dsimp only at hSw); (obtain ⟨s0, s1, s2, s3⟩ := hSw); go_simp; (first | done | omega | (simp; omega))⟩) (by assumption) ?_; (try simp only [Act.put, List.setIfInBounds_toArray, List.set_cons_zero, List.set_cons_succ]))
  (refine takeH (i := 3) (v := ?_) rfl (by kernel_rfl) (by kernel_rfl) (by kernel_rfl) (fun _ _ _ h => h) (Or.inl ⟨by rfl, ?_⟩) (by assumption) ?_; rotate_left; (focus ((intro wS hSw); (try dsimp only at hSw); obtain ⟨s0, s1, s2, s3⟩ := hSw; go_simp; (try with_reducible rfl); done)); (try simp only [Act.put, List.setIfInBounds_toArray, List.set_cons_zero, List.set_cons_succ]))
  (refine takeH (i := 4) (v := ?_) rfl (by kernel_rfl) (by kernel_rfl) (by kernel_rfl) (fun _ _ _ h => h) (Or.inl ⟨by rfl, ?_⟩) (by assumption) ?_; rotate_left; (focus ((intro wS hSw); (try dsimp only at hSw); obtain ⟨s0, s1, s2, s3⟩ := hSw; go_simp; (try with_reducible rfl); done)); (try simp only [Act.put, List.setIfInBounds_toArray, List.set_cons_zero, List.set_cons_succ]))
  (refine takeH (i := 5) (v := ?_) rfl (by kernel_rfl) (by kernel_rfl) (by kernel_rfl) (fun _ _ _ h => h) (Or.inl ⟨by rfl, ?_⟩) (by assumption) ?_; rotate_left; (focus ((intro wS hSw); (try dsimp only at hSw); obtain ⟨s0, s1, s2, s3⟩ := hSw; go_simp; (try with_reducible rfl); done)); (try simp only [Act.put, List.setIfInBounds_toArray, List.set_cons_zero, List.set_cons_succ]))
  (refine takeH (i := 6) (v := (.bool false)) rfl (by kernel_rfl) (by kernel_rfl) (by kernel_rfl) (fun _ _ _ h => h) (Or.inl ⟨by rfl, by (intro wS hSw); (try dsimp only at hSw); (obtain ⟨s0, s1, s2, s3⟩ := hSw); go_simp; (first | done | omega | (simp; omega))⟩) (by assumption) ?_; (try simp only [Act.put, List.setIfInBounds_toArray, List.set_cons_zero, List.set_cons_succ]))
  (refine takeH (i := 7) (v := ?_) rfl (by kernel_rfl) (by kernel_rfl) (by kernel_rfl) (fun _ _ _ h => h) (Or.inl ⟨by rfl, ?_⟩) (by assumption) ?_; rotate_left; (focus ((intro wS hSw); (try dsimp only at hSw); obtain ⟨s0, s1, s2, s3⟩ := hSw; go_simp; (try with_reducible rfl); done)); (try simp only [Act.put, List.setIfInBounds_toArray, List.set_cons_zero, List.set_cons_succ]))
  (refine takeH (i := 8) (v := ?_) rfl (by kernel_rfl) (by kernel_rfl) (by kernel_rfl) (fun _ _ _ h => h) (Or.inl ⟨by rfl, ?_⟩) (by assumption) ?_; rotate_left; (focus ((intro wS hSw); (try dsimp only at hSw); obtain ⟨s0, s1, s2, s3⟩ := hSw; go_simp; (try with_reducible rfl); done)); (try simp only [Act.put, List.setIfInBounds_toArray, List.set_cons_zero, List.set_cons_succ]))
  (refine takeH (i := 9) (v := undef) rfl (by kernel_rfl) (by kernel_rfl) (by kernel_rfl) (fun _ _ _ h => h) (Or.inr ⟨by rfl, rfl⟩) (by assumption) ?_; (try simp only [Act.put, List.setIfInBounds_toArray, List.set_cons_zero, List.set_cons_succ]))
  (refine takeH (i := 10) (v := undef) rfl (by kernel_rfl) (by kernel_rfl) (by kernel_rfl) (fun _ _ _ h => h) (Or.inr ⟨by rfl, rfl⟩) (by assumption) ?_; (try simp only [Act.put, List.setIfInBounds_toArray, List.set_cons_zero, List.set_cons_succ]))
  (refine takeH (i := 11) (v := undef) rfl (by kernel_rfl) (by kernel_rfl) (by kernel_rfl) (fun _ _ _ h => h) (Or.inr ⟨by rfl, rfl⟩) (by assumption) ?_; (try simp only [Act.put, List.setIfInBounds_toArray, List.set_cons_zero, List.set_cons_succ]))
  (refine takeH (i := 12) (v := undef) rfl (by kernel_rfl) (by kernel_rfl) (by kernel_rfl) (fun _ _ _ h => h) (Or.inr ⟨by rfl, rfl⟩) (by assumption) ?_; (try simp only [Act.put, List.setIfInBounds_toArray, List.set_cons_zero, List.set_cons_succ]))
  (refine takeH (i := 13) (v := undef) rfl (by kernel_rfl) (by kernel_rfl) (by kernel_rfl) (fun _ _ _ h => h) (Or.inr ⟨by rfl, rfl⟩) (by assumption) ?_; (try simp only [Act.put, List.setIfInBounds_toArray, List.set_cons_zero, List.set_cons_succ]))
  (refine takeH (i := 14) (v := undef) rfl (by kernel_rfl) (by kernel_rfl) (by kernel_rfl) (fun _ _ _ h => h) (Or.inr ⟨by rfl, rfl⟩) (by assumption) ?_; (try simp only [Act.put, List.setIfInBounds_toArray, List.set_cons_zero, List.set_cons_succ]))
  (refine takeH (i := 15) (v := ?_) rfl (by kernel_rfl) (by kernel_rfl) (by kernel_rfl) (fun _ _ _ h => h) (Or.inl ⟨by rfl, ?_⟩) (by assumption) ?_; rotate_left; (focus ((intro wS hSw); (try dsimp only at hSw); obtain ⟨s0, s1, s2, s3⟩ := hSw; go_simp; (try with_reducible rfl); done)); (try simp only [Act.put, List.setIfInBounds_toArray, List.set_cons_zero, List.set_cons_succ]))
  (refine takeH (i := 16) (v := ?_) rfl (by kernel_rfl) (by kernel_rfl) (by kernel_rfl) (fun _ _ _ h => h) (Or.inl ⟨by rfl, ?_⟩) (by assumption) ?_; rotate_left; (focus ((intro wS hSw); (try dsimp only at hSw); obtain ⟨s0, s1, s2, s3⟩ := hSw; go_simp; (try with_reducible rfl); done)); (try simp only [Act.put, List.setIfInBounds_toArray, List.set_cons_zero, List.set_cons_succ]))
  refine wpAnyH_done (by kernel_rfl) ?_ _
  clear hHeld
  (try clear h1 h2)
  go_wp2
  go_ret
  exact ⟨rfl, HBD.out.trans ((below_same w0).mono HBD.out.size)⟩
set_option maxHeartbeats 1000000 in
theorem ref_end_yes (l : Text) (A : Option Addr) (c : Nat) (s n u : Int) (w : World) (hT : Txt w A l) (hA : A = none → l = []) (h1 : 1 ≤ s) (h2 : s ≤ 4611686018427387904) (hu : 0 ≤ u ∧ u < 4294967296) :
    Calls Try.prog 77 #[.slice A l.length c, headV s n u] w fun e w' => e = .returned (.bool (endOk l s u)) ∧ Below w.heap.size w w' := by
  obtain ⟨z, hz⟩ : ∃ z, z = endP s.toNat u.toNat := ⟨_, rfl⟩
  obtain ⟨q, hq⟩ : ∃ q, q = decide (l = z) := ⟨_, rfl⟩
  have hv : endOk l s u = q := by
    have hzl : z.length = 64 := by rw [hz]; exact endP_len _ _
    unfold endOk
    rw [(seqOk_iff s).2 ⟨h1, h2⟩, ← hz, hq]
    by_cases hlz : l = z
    · subst hlz; simp [hzl]
    · simp [hlz]
  rw [hv]
  have HL : Hid (∀ W, Calls Try.prog 61 #[headV s n u] W (ToldG W z)) := Lib.hid (fun W => by
    have := ref_last s.toNat u.toNat n W (by omega) (by omega)
    rw [← hz] at this
    rwa [show ((s.toNat : Nat) : Int) = s by omega, show ((u.toNat : Nat) : Int) = u by omega] at this)
  have i1 : 1 ≤ s := h1
  have i2 : s ≤ 4611686018427387904 := h2
  clear h1 h2
  have h1 : (l == z) = q := by rw [hq]; by_cases h : l = z <;> simp [h]
  have h2 : (l != z) = !q := by unfold bne; rw [h1]
  unfold headV at HL
  clear hz hq hv hu
  have HBW : Hid (Below w.heap.size w (w.alloc (headO' s n u))) := Lib.hid (below_alloc w _)
  have HH : Hid ((w.alloc (headO' s n u)).heap[w.heap.size]? = some (headO' s n u)) := Lib.hid (heap_alloc_new w _)
  have HT := Lib.hid (hT.below HBW.out)
  have HA := Lib.hid hA
  clear hT hA
  unfold headV
  go_enter Try.func77, Try.ntmps77
  go_wp2
  unfold headO' at HBW HH HT
  generalize (w.alloc (.cells #[.int .i64 s, .int .i64 n, .int .u32 u] 112)) = wb at HBW HH HT ⊢
  refine wp_region_held_drew (S := fun W => W.cell? ⟨w.heap.size, 0, none⟩ = some (.int .i64 s) ∧ W.cell? ⟨w.heap.size, 1, none⟩ = some (.int .i64 n) ∧ W.cell? ⟨w.heap.size, 2, none⟩ = some (.int .u32 u) ∧ Txt W A l) (by kernel_rfl) (let h := head_cells' (w := wb) HH.out; ⟨h.1, h.2.1, h.2.2, HT.out⟩) ?_
  intro hHeld
  have HBD := Lib.hid HBW.out.drew
  clear HBW HH HT
  generalize wb.drew = w0 at HBD hHeld ⊢
  (refine takeH (i := 0) (v := ?_) rfl (by kernel_rfl) (by kernel_rfl) (by kernel_rfl) (fun _ _ _ h => h) (Or.inl ⟨by rfl, ?_⟩) (by assumption) ?_; rotate_left; (focus ((intro wS hSw); (try dsimp only at hSw); obtain ⟨s0, s1, s2, s3⟩ := hSw; go_simp; (try with_reducible rfl); done)); (try simp only [Act.put, List.setIfInBounds_toArray, List.set_cons_zero, List.set_cons_succ]))
  (refine takeH (i := 1) (v := ?_) rfl (by kernel_rfl) (by kernel_rfl) (by kernel_rfl) (fun _ _ _ h => h) (Or.inl ⟨by rfl, ?_⟩) (by assumption) ?_; rotate_left; (focus ((intro wS hSw); (try dsimp only at hSw); obtain ⟨s0, s1, s2, s3⟩ := hSw; go_simp; (try with_reducible rfl); done)); (try simp only [Act.put, List.setIfInBounds_toArray, List.set_cons_zero, List.set_cons_succ]))
  (refine takeH (i := 2) (v := (.bool true)) rfl (by kernel_rfl) (by kernel_rfl) (by kernel_rfl) (fun _ _ _ h => h) (Or.inl ⟨by rfl, by (intro wS hSw); (try dsimp only at hSw); (obtain ⟨s0, s1, s2, s3⟩ := hSw); go_simp; (first | done | omega | (simp; omega))⟩) (by assumption) ?_; (try simp only [Act.put, List.setIfInBounds_toArray, List.set_cons_zero, List.set_cons_succ]))
  (refine takeH (i := 3) (v := ?_) rfl (by kernel_rfl) (by kernel_rfl) (by kernel_rfl) (fun _ _ _ h => h) (Or.inl ⟨by rfl, ?_⟩) (by assumption) ?_; rotate_left; (focus ((intro wS hSw); (try dsimp only at hSw); obtain ⟨s0, s1, s2, s3⟩ := hSw; go_simp; (try with_reducible rfl); done)); (try simp only [Act.put, List.setIfInBounds_toArray, List.set_cons_zero, List.set_cons_succ]))
  (refine takeH (i := 4) (v := ?_) rfl (by kernel_rfl) (by kernel_rfl) (by kernel_rfl) (fun _ _ _ h => h) (Or.inl ⟨by rfl, ?_⟩) (by assumption) ?_; rotate_left; (focus ((intro wS hSw); (try dsimp only at hSw); obtain ⟨s0, s1, s2, s3⟩ := hSw; go_simp; (try with_reducible rfl); done)); (try simp only [Act.put, List.setIfInBounds_toArray, List.set_cons_zero, List.set_cons_succ]))
  (refine takeH (i := 5) (v := ?_) rfl (by kernel_rfl) (by kernel_rfl) (by kernel_rfl) (fun _ _ _ h => h) (Or.inl ⟨by rfl, ?_⟩) (by assumption) ?_; rotate_left; (focus ((intro wS hSw); (try dsimp only at hSw); obtain ⟨s0, s1, s2, s3⟩ := hSw; go_simp; (try with_reducible rfl); done)); (try simp only [Act.put, List.setIfInBounds_toArray, List.set_cons_zero, List.set_cons_succ]))
  (refine takeH (i := 6) (v := (.bool true)) rfl (by kernel_rfl) (by kernel_rfl) (by kernel_rfl) (fun _ _ _ h => h) (Or.inl ⟨by rfl, by (intro wS hSw); (try dsimp only at hSw); (obtain ⟨s0, s1, s2, s3⟩ := hSw); go_simp; (first | done | omega | (simp; omega))⟩) (by assumption) ?_; (try simp only [Act.put, List.setIfInBounds_toArray, List.set_cons_zero, List.set_cons_succ]))
  (refine takeH (i := 7) (v := ?_) rfl (by kernel_rfl) (by kernel_rfl) (by kernel_rfl) (fun _ _ _ h => h) (Or.inl ⟨by rfl, ?_⟩) (by assumption) ?_; rotate_left; (focus ((intro wS hSw); (try dsimp only at hSw); obtain ⟨s0, s1, s2, s3⟩ := hSw; go_simp; (try with_reducible rfl); done)); (try simp only [Act.put, List.setIfInBounds_toArray, List.set_cons_zero, List.set_cons_succ]))
  (refine takeH (i := 8) (v := ?_) rfl (by kernel_rfl) (by kernel_rfl) (by kernel_rfl) (fun _ _ _ h => h) (Or.inl ⟨by rfl, ?_⟩) (by assumption) ?_; rotate_left; (focus ((intro wS hSw); (try dsimp only at hSw); obtain ⟨s0, s1, s2, s3⟩ := hSw; go_simp; (try with_reducible rfl); done)); (try simp only [Act.put, List.setIfInBounds_toArray, List.set_cons_zero, List.set_cons_succ]))
  (refine takeH (i := 9) (v := ?_) rfl (by kernel_rfl) (by kernel_rfl) (by kernel_rfl) (fun _ _ _ h => h) (Or.inl ⟨by rfl, ?_⟩) (by assumption) ?_; rotate_left; (focus ((intro wS hSw); (try dsimp only at hSw); obtain ⟨s0, s1, s2, s3⟩ := hSw; go_simp; (try with_reducible rfl); done)); (try simp only [Act.put, List.setIfInBounds_toArray, List.set_cons_zero, List.set_cons_succ]))
  (refine takeH (i := 10) (v := (.string ⟨l.toArray⟩)) rfl (by kernel_rfl) (by kernel_rfl) (by kernel_rfl) (fun _ _ _ h => h) (yieldsIf_text (by rfl) (.tmp 14) rfl A c l.length l rfl rfl (fun _ h => h.2.2.2) HA.out) (by assumption) ?_; (try simp only [Act.put, List.setIfInBounds_toArray, List.set_cons_zero, List.set_cons_succ]))
  (refine takeH (i := 11) (v := ?_) rfl (by kernel_rfl) (by kernel_rfl) (by kernel_rfl) (fun _ _ _ h => h) (Or.inl ⟨by rfl, ?_⟩) (by assumption) ?_; rotate_left; (focus ((intro wS hSw); (try dsimp only at hSw); obtain ⟨s0, s1, s2, s3⟩ := hSw; go_simp; (try with_reducible rfl); done)); (try simp only [Act.put, List.setIfInBounds_toArray, List.set_cons_zero, List.set_cons_succ]))
  refine aloneH (i := 12) rfl (by kernel_rfl) (fun K hK => ?_)
  rw [if_pos (by rfl)]
  go_simp; ((refine (HL.out w0).mono ?_); (rintro e w1 ⟨ga, ca, rfl, hc1, hm1, ht1, hb, hg1⟩); have HB1 := Lib.hid hb; have HTa := Lib.hid ht1; clear hb hc1 hm1 ht1 hg1; (try go_simp))
  refine hK.out _ _ (⟨cell_on HB1.out hHeld.1, cell_on HB1.out hHeld.2.1, cell_on HB1.out hHeld.2.2.1, (hHeld.2.2.2).below HB1.out⟩) (fun hNew => ?_)
  clear hK K hHeld; (have hHeld := hNew); clear hNew; (try simp only [Act.put, List.setIfInBounds_toArray, List.set_cons_zero, List.set_cons_succ])
  refine aloneH (i := 13) rfl (by kernel_rfl) (fun K hK => ?_)
  rw [if_pos (by rfl)]
  refine wp_text (.tmp 17) rfl (some ⟨ga, 0, none⟩) ca z.length z rfl rfl (HTa.out.below (below_same w1)) (fun e => by cases e) ?_
  have HB2 : Hid (Below w1.heap.size w1 w1) := Lib.hid (Below.refl _ _)
  refine hK.out _ _ (hHeld) (fun hNew => ?_)
  clear hK K hHeld; (have hHeld := hNew); clear hNew; (try simp only [Act.put, List.setIfInBounds_toArray, List.set_cons_zero, List.set_cons_succ])
  (refine takeH (i := 14) (v := ?_) rfl (by kernel_rfl) (by kernel_rfl) (by kernel_rfl) (fun _ _ _ h => h) (Or.inl ⟨by rfl, ?_⟩) (by assumption) ?_; rotate_left; (focus ((intro wS hSw); (try dsimp only at hSw); obtain ⟨s0, s1, s2, s3⟩ := hSw; go_simp; (try with_reducible rfl); done)); (try simp only [Act.put, List.setIfInBounds_toArray, List.set_cons_zero, List.set_cons_succ]))
  (refine takeH (i := 15) (v := ?_) rfl (by kernel_rfl) (by kernel_rfl) (by kernel_rfl) (fun _ _ _ h => h) (Or.inl ⟨by rfl, ?_⟩) (by assumption) ?_; rotate_left; (focus ((intro wS hSw); (try dsimp only at hSw); obtain ⟨s0, s1, s2, s3⟩ := hSw; go_simp; (try with_reducible rfl); done)); (try simp only [Act.put, List.setIfInBounds_toArray, List.set_cons_zero, List.set_cons_succ]))
  (refine takeH (i := 16) (v := ?_) rfl (by kernel_rfl) (by kernel_rfl) (by kernel_rfl) (fun _ _ _ h => h) (Or.inl ⟨by rfl, ?_⟩) (by assumption) ?_; rotate_left; (focus ((intro wS hSw); (try dsimp only at hSw); obtain ⟨s0, s1, s2, s3⟩ := hSw; go_simp; (try with_reducible rfl); done)); (try simp only [Act.put, List.setIfInBounds_toArray, List.set_cons_zero, List.set_cons_succ]))
  refine wpAnyH_done (by kernel_rfl) ?_ _
  clear hHeld
  (try clear h1 h2)
  go_wp2
  go_ret
  exact ⟨rfl, HBD.out.trans ((below_then HB1.out HB2.out).mono HBD.out.size)⟩
theorem ref_end (l : Text) (A : Option Addr) (c : Nat) (s n u : Int) (w : World) (hT : Txt w A l) (hA : A = none → l = []) (hu : 0 ≤ u ∧ u < 4294967296) :
    Calls Try.prog 77 #[.slice A l.length c, headV s n u] w fun e w' => e = .returned (.bool (endOk l s u)) ∧ Below w.heap.size w w' := by
  by_cases h1 : s < 1
  · exact ref_end_low l A c s n u w hT hA h1
  · by_cases h2 : 4611686018427387904 < s
    · exact ref_end_high l A c s n u w hT hA h2
    · exact ref_end_yes l A c s n u w hT hA (by omega) (by omega) hu
end Go.Proofs.Ytmgonokhgijgoaa
