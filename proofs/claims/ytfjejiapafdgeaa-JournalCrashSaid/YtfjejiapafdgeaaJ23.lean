/- The document's Join. Join, every input: the program's and the document's. -/
import Derived.Test.YtfjejiapafdgeaaJ20
import Derived.Test.YtfjejiapafdgeaaJ22
namespace Go.Proofs.Ytfjejiapafdgeaa
open Go.RowKit
set_option maxRecDepth 100000

set_option maxHeartbeats 1000000 in
theorem ref_join_no (m : Nat) (A : Option Addr) (cL : Nat) (s n u : Int) (w : World) (hh : headOk s n = false) :
    Calls Try.prog 76 #[.slice A m cL, headV s n u] w (JoinNo w) := by
  have HH : Hid (∀ W, Calls Try.prog 58 #[headV s n u] W fun e w' => e = .returned (.bool false) ∧ Below W.heap.size W w') := Lib.hid (fun W => by have := ref_right s n u W; rwa [hh] at this)
  clear hh
  have HX0 : Hid ((w.alloc (headO' s n u)).heap[w.heap.size]? = some (headO' s n u)) := Lib.hid (heap_alloc_new w _)
  have HB0 : Hid (Below w.heap.size w (w.alloc (headO' s n u))) := Lib.hid (below_alloc w _)
  obtain ⟨y0, y1, y2⟩ := head_cells' HX0.out
  unfold headV at HH
  unfold headV
  unfold headO' at HX0 HB0 y0 y1 y2
  go_enter Try.func76, Try.ntmps76
  go_wp2_with (go_at_call 58; refine (HH.out _).mono ?_; rintro e w1 ⟨rfl, hb1⟩; have HX1 := Lib.hid (heap_on hb1 HX0.out); have HB1 := Lib.hid (below_then HB0.out hb1); have HS1 : Hid (w.heap.size + 1 ≤ w1.heap.size) := (Lib.hid (by have := heapLt HX1.out; omega)); clear hb1 y0 y1 y2; obtain ⟨y0, y1, y2⟩ := head_cells' HX1.out; refine Stop.out ?_)
  unfold Stop
  go_wp2
  go_ret2
  exact ⟨rfl, HB1.out⟩
set_option maxHeartbeats 1000000 in
theorem ref_join_count (m : Nat) (A : Option Addr) (cL : Nat) (s : Int) (n : Nat) (u : Int) (w : World) (hh : headOk s n = true) (hm : m ≠ (n + 63) / 64) :
    Calls Try.prog 76 #[.slice A m cL, headV s n u] w (JoinNo w) := by
  have hn := headOk_len hh
  have HH : Hid (∀ W, Calls Try.prog 58 #[headV s n u] W fun e w' => e = .returned (.bool true) ∧ Below W.heap.size W w') := Lib.hid (fun W => by have := ref_right s n u W; rwa [hh] at this)
  obtain ⟨q, hq⟩ : ∃ q : Nat, q = (n + 63) / 64 := ⟨_, rfl⟩
  have HNe : Hid (∀ W, Calls Try.prog 42 #[.int .i64 n] W fun e w' => e = .returned (.int .i64 ((q : Int) + 2)) ∧ W = w') := Lib.hid (fun W => (ref_need n W).mono fun e w' ⟨x, y⟩ => ⟨by rw [x]; unfold needV; rw [if_neg (by omega)]; congr 2; omega, y⟩)
  have hmq : ¬ (m : Int) = (q : Int) := by omega
  have iq : (q : Int) ≤ 2048 := by omega
  clear hh hm hq hn
  have HX0 : Hid ((w.alloc (headO' s n u)).heap[w.heap.size]? = some (headO' s n u)) := Lib.hid (heap_alloc_new w _)
  have HB0 : Hid (Below w.heap.size w (w.alloc (headO' s n u))) := Lib.hid (below_alloc w _)
  obtain ⟨y0, y1, y2⟩ := head_cells' HX0.out
  unfold headV at HH
  unfold headV
  unfold headO' at HX0 HB0 y0 y1 y2
  go_enter Try.func76, Try.ntmps76
  go_wp2_with (go_at_call 58; refine (HH.out _).mono ?_; rintro e w1 ⟨rfl, hb1⟩; have HX1 := Lib.hid (heap_on hb1 HX0.out); have HB1 := Lib.hid (below_then HB0.out hb1); have HS1 : Hid (w.heap.size + 1 ≤ w1.heap.size) := (Lib.hid (by have := heapLt HX1.out; omega)); clear hb1 y0 y1 y2; obtain ⟨y0, y1, y2⟩ := head_cells' HX1.out; refine Stop.out ?_)
  unfold Stop
  go_wp2_with (go_at_call 42; refine (HNe.out _).mono ?_; rintro e w2 ⟨rfl, rfl⟩; refine Stop.out ?_)
  unfold Stop
  go_wp2
  go_ret2
  exact ⟨rfl, HB1.out⟩
set_option maxHeartbeats 2000000 in
theorem ref_join_size (L : List Text) (A : Option Addr) (cL : Nat) (s : Int) (n : Nat) (u : Int) (w : World) (hh : headOk s n = true) (hm : L.length = (n + 63) / 64) (i0 : Nat) (hi0 : i0 < L.length) (hbad : L[i0].length ≠ 64) (hT : TextRows w A L) :
    Calls Try.prog 76 #[.slice A L.length cL, headV s n u] w (JoinNo w) := by
  have hn := headOk_len hh
  obtain ⟨bA, oA, rfl, hbA⟩ := rows_mid hT (by omega)
  have HT := Lib.hid hT
  have HH : Hid (∀ W, Calls Try.prog 58 #[headV s n u] W fun e w' => e = .returned (.bool true) ∧ Below W.heap.size W w') := Lib.hid (fun W => by have := ref_right s n u W; rwa [hh] at this)
  have HNe : Hid (∀ W, Calls Try.prog 42 #[.int .i64 n] W fun e w' => e = .returned (.int .i64 ((L.length : Int) + 2)) ∧ W = w') := Lib.hid (fun W => (ref_need n W).mono fun e w' ⟨x, y⟩ => ⟨by rw [x]; unfold needV; rw [if_neg (by omega)]; congr 2; omega, y⟩)
  have iq : (L.length : Int) ≤ 2048 := by omega
  have HBad : Hid (¬ ∀ j, (h : j < L.length) → L[j].length = 64) := Lib.hid (fun h => hbad (h i0 hi0))
  clear hT hbad hm hh hn hi0
  have HX0 : Hid ((w.alloc (headO' s n u)).heap[w.heap.size]? = some (headO' s n u)) := Lib.hid (heap_alloc_new w _)
  have HB0 : Hid (Below w.heap.size w (w.alloc (headO' s n u))) := Lib.hid (below_alloc w _)
  obtain ⟨y0, y1, y2⟩ := head_cells' HX0.out
  unfold headV at HH
  unfold headV
  unfold headO' at HX0 HB0 y0 y1 y2
  go_enter Try.func76, Try.ntmps76
  go_wp2_with (go_at_call 58; refine (HH.out _).mono ?_; rintro e w1 ⟨rfl, hb1⟩; have HX1 := Lib.hid (heap_on hb1 HX0.out); have HB1 := Lib.hid (below_then HB0.out hb1); have HS1 : Hid (w.heap.size + 1 ≤ w1.heap.size) := (Lib.hid (by have := heapLt HX1.out; omega)); clear hb1 y0 y1 y2; obtain ⟨y0, y1, y2⟩ := head_cells' HX1.out; refine Stop.out ?_)
  unfold Stop
  go_wp2_with (go_at_call 42; refine (HNe.out _).mono ?_; rintro e w2 ⟨rfl, rfl⟩; refine Stop.out ?_)
  unfold Stop
  go_wp2
  clear y0 y1 y2 HX0 HB0 HH HNe
  go_loopw [6, 7] (fun v i wr => ∃ k : Nat, k ≤ L.length ∧ i = .int .i64 k ∧ Hid ((∀ j, (h : j < L.length) → j < k → L[j].length = 64) ∧ (flatK L k).length = 64 * k) ∧ Hid (wr.ownsRow (w.heap.size + 1) 5 1 v (flatK L k).length ((flatK L k).map cellOf)) ∧ Hid (wr.heap[w.heap.size]? = some (.cells #[.int .i64 s, .int .i64 n, .int .u32 u] 112)) ∧ Hid (Below w.heap.size w wr) ∧ Hid (w.heap.size + 1 ≤ wr.heap.size)) (fun _ i _ => L.length - (intOf i).toNat)
  case atStart => exact ⟨0, Nat.zero_le _, rfl, Lib.hid ⟨fun j h hj => absurd hj (Nat.not_lt_zero j), by simp [flatK]⟩, Lib.hid (by simpa [flatK] using World.ownsRow_nil _ _ _ _), HX1, HB1, HS1⟩
  case round =>
    obtain ⟨k, hk, rfl, HSo, HOk, HXk, HBk, HSk⟩ := hrel
    by_cases hlt : k < L.length
    · have hlt' : (k : Int) < (L.length : Int) := by omega
      obtain ⟨a, Ai, ci, ea, hbl, hcl, hti, hni, hli⟩ := (HT.out.below HBk.out) k hlt
      injection ea with ea
      subst ea
      rw [Addr.add_mid] at hcl
      by_cases h64 : L[k].length = 64
      · rw [h64] at hcl
        have HN2 := Lib.hid (And.intro hti hni)
        have HL4 : Hid (L[k].length = 64 ∧ (flatK L k).length ≤ 131072) := Lib.hid ⟨h64, by rw [HSo.out.2]; omega⟩
        have HS2 : Hid ((∀ j, (h : j < L.length) → j < k + 1 → L[j].length = 64) ∧ (flatK L (k + 1)).length = 64 * (k + 1)) := Lib.hid ⟨fun j h hj => by
          by_cases hjk : j < k
          · exact HSo.out.1 j h hjk
          · obtain rfl : j = k := by omega
            exact h64, by rw [flatK_next L k hlt, List.length_append, HSo.out.2, h64]; omega⟩
        clear hti hni hbl hli h64
        go_wp2_with (at_builtin; refine wpList_append_text rfl _ _ rfl rfl (w.heap.size + 1) _ (flatK L k).length ((flatK L k).map cellOf) rfl HOk.out Ai ci L[k] (by rw [HL4.out.1]; rfl) HN2.out.1 HN2.out.2 (by have := HL4.out.1; have := HL4.out.2; omega) HSk.out ?_; intro v' w' hown hg hat; have HO3 : Hid (w'.ownsRow (w.heap.size + 1) 5 1 v' (flatK L (k + 1)).length ((flatK L (k + 1)).map cellOf)) := Lib.hid (by rw [flatK_next L k hlt]; simpa using hown); have HG3 : Hid (Below (w.heap.size + 1) wr w') := Lib.hid ((Below.refl _ wr).grown hg HSk.out (fun k hk => (HOk.out.lt k hk).1)); clear hown hg hat)
        go_roundw
        case rel => exact ⟨k + 1, by omega, by go_num, HS2, HO3, Lib.hid ((HG3.out.block w.heap.size (by omega)).trans HXk.out), Lib.hid (HBk.out.trans (HG3.out.mono (by omega))), Lib.hid (Nat.le_trans HSk.out HG3.out.size)⟩
        case measure => simp [intOf]; omega
      · obtain ⟨m, hm⟩ : ∃ m, m = L[k].length := ⟨_, rfl⟩
        rw [← hm] at hcl
        have h64' : ¬ (m : Int) = 64 := by omega
        clear hti hni hbl hli h64 hm
        go_wp2
        go_ret2
        exact ⟨rfl, HBk.out⟩
    · exact absurd (fun j h => HSo.out.1 j h (by omega)) HBad.out
set_option maxHeartbeats 2000000 in
theorem ref_join_c (L : List Text) (A : Option Addr) (cL : Nat) (s : Int) (n u : Nat) (w : World) (hh : headOk s n = true) (hm : L.length = (n + 63) / 64) (h64 : ∀ i (h : i < L.length), L[i].length = 64) (hT : TextRows w A L) :
    Calls Try.prog 76 #[.slice A L.length cL, headV s n u] w (JoinR w L n u) := by
  have hn := headOk_len hh
  obtain ⟨bA, oA, rfl, hbA⟩ := rows_mid hT (by omega)
  have HT := Lib.hid hT
  have HH : Hid (∀ W, Calls Try.prog 58 #[headV s n u] W fun e w' => e = .returned (.bool true) ∧ Below W.heap.size W w') := Lib.hid (fun W => by have := ref_right s n u W; rwa [hh] at this)
  have HNe : Hid (∀ W, Calls Try.prog 42 #[.int .i64 n] W fun e w' => e = .returned (.int .i64 ((L.length : Int) + 2)) ∧ W = w') := Lib.hid (fun W => (ref_need n W).mono fun e w' ⟨x, y⟩ => ⟨by rw [x]; unfold needV; rw [if_neg (by omega)]; congr 2; omega, y⟩)
  have iq : (L.length : Int) ≤ 2048 := by omega
  have H64 := Lib.hid h64
  have HN := Lib.hid (And.intro hn hm)
  clear hT hm hh hn h64
  have HX0 : Hid ((w.alloc (headO' s n u)).heap[w.heap.size]? = some (headO' s n u)) := Lib.hid (heap_alloc_new w _)
  have HB0 : Hid (Below w.heap.size w (w.alloc (headO' s n u))) := Lib.hid (below_alloc w _)
  obtain ⟨y0, y1, y2⟩ := head_cells' HX0.out
  unfold headV at HH
  unfold headV
  unfold headO' at HX0 HB0 y0 y1 y2
  go_enter Try.func76, Try.ntmps76
  go_wp2_with (go_at_call 58; refine (HH.out _).mono ?_; rintro e w1 ⟨rfl, hb1⟩; have HX1 := Lib.hid (heap_on hb1 HX0.out); have HB1 := Lib.hid (below_then HB0.out hb1); have HS1 : Hid (w.heap.size + 1 ≤ w1.heap.size) := (Lib.hid (by have := heapLt HX1.out; omega)); clear hb1 y0 y1 y2; obtain ⟨y0, y1, y2⟩ := head_cells' HX1.out; refine Stop.out ?_)
  unfold Stop
  go_wp2_with (go_at_call 42; refine (HNe.out _).mono ?_; rintro e w2 ⟨rfl, rfl⟩; refine Stop.out ?_)
  unfold Stop
  go_wp2
  clear y0 y1 y2 HX0 HB0 HH HNe
  go_loopw [6, 7] (fun v i wr => ∃ k : Nat, k ≤ L.length ∧ i = .int .i64 k ∧ Hid ((∀ j, (h : j < L.length) → j < k → L[j].length = 64) ∧ (flatK L k).length = 64 * k) ∧ Hid (wr.ownsRow (w.heap.size + 1) 5 1 v (flatK L k).length ((flatK L k).map cellOf)) ∧ Hid (wr.heap[w.heap.size]? = some (.cells #[.int .i64 s, .int .i64 n, .int .u32 u] 112)) ∧ Hid (Below w.heap.size w wr) ∧ Hid (w.heap.size + 1 ≤ wr.heap.size)) (fun _ i _ => L.length - (intOf i).toNat)
  case atStart => exact ⟨0, Nat.zero_le _, rfl, Lib.hid ⟨fun j h hj => absurd hj (Nat.not_lt_zero j), by simp [flatK]⟩, Lib.hid (by simpa [flatK] using World.ownsRow_nil _ _ _ _), HX1, HB1, HS1⟩
  case round =>
    obtain ⟨k, hk, rfl, HSo, HOk, HXk, HBk, HSk⟩ := hrel
    by_cases hlt : k < L.length
    · have hlt' : (k : Int) < (L.length : Int) := by omega
      obtain ⟨a, Ai, ci, ea, hbl, hcl, hti, hni, hli⟩ := (HT.out.below HBk.out) k hlt
      injection ea with ea
      subst ea
      rw [Addr.add_mid] at hcl
      by_cases h64 : L[k].length = 64
      · rw [h64] at hcl
        have HN2 := Lib.hid (And.intro hti hni)
        have HL4 : Hid (L[k].length = 64 ∧ (flatK L k).length ≤ 131072) := Lib.hid ⟨h64, by rw [HSo.out.2]; omega⟩
        have HS2 : Hid ((∀ j, (h : j < L.length) → j < k + 1 → L[j].length = 64) ∧ (flatK L (k + 1)).length = 64 * (k + 1)) := Lib.hid ⟨fun j h hj => by
          by_cases hjk : j < k
          · exact HSo.out.1 j h hjk
          · obtain rfl : j = k := by omega
            exact h64, by rw [flatK_next L k hlt, List.length_append, HSo.out.2, h64]; omega⟩
        clear hti hni hbl hli h64
        go_wp2_with (at_builtin; refine wpList_append_text rfl _ _ rfl rfl (w.heap.size + 1) _ (flatK L k).length ((flatK L k).map cellOf) rfl HOk.out Ai ci L[k] (by rw [HL4.out.1]; rfl) HN2.out.1 HN2.out.2 (by have := HL4.out.1; have := HL4.out.2; omega) HSk.out ?_; intro v' w' hown hg hat; have HO3 : Hid (w'.ownsRow (w.heap.size + 1) 5 1 v' (flatK L (k + 1)).length ((flatK L (k + 1)).map cellOf)) := Lib.hid (by rw [flatK_next L k hlt]; simpa using hown); have HG3 : Hid (Below (w.heap.size + 1) wr w') := Lib.hid ((Below.refl _ wr).grown hg HSk.out (fun k hk => (HOk.out.lt k hk).1)); clear hown hg hat)
        go_roundw
        case rel => exact ⟨k + 1, by omega, by go_num, HS2, HO3, Lib.hid ((HG3.out.block w.heap.size (by omega)).trans HXk.out), Lib.hid (HBk.out.trans (HG3.out.mono (by omega))), Lib.hid (Nat.le_trans HSk.out HG3.out.size)⟩
        case measure => simp [intOf]; omega
      · exact absurd (H64.out k hlt) h64
    · obtain rfl : k = L.length := by omega
      obtain ⟨F, hF⟩ : ∃ F, F = L.flatten := ⟨_, rfl⟩
      have e9 : flatK L L.length = F := by rw [hF]; simp [flatK]
      rw [e9] at HOk
      have hfl : F.length = 64 * L.length := by rw [hF]; exact flat_len L H64.out
      obtain ⟨g, c', rfl, hcap, hcm, htx, hge, hglt⟩ := own_more HOk.out (by have := HN.out; omega)
      have HGE : Hid (w.heap.size ≤ g) := Lib.hid (by omega)
      obtain ⟨T, hT⟩ : ∃ T, T = joinT L n := ⟨_, rfl⟩
      have hTn : T.length = n := by rw [hT]; unfold joinT; rw [List.length_take, ← hF, hfl]; have := HN.out; omega
      have HTx : Hid (Txt wr (some ⟨g, 0, none⟩) T) := Lib.hid (by rw [hT]; unfold joinT; rw [← hF]; exact htx.take n)
      have HTT := Lib.hid (And.intro hT hTn)
      have HFx := Lib.hid htx
      have HFF := Lib.hid (And.intro hF hfl)
      have HCC : Hid (n ≤ c' ∧ c' ≤ maxLen ∧ n ≤ F.length) := Lib.hid ⟨by have := HN.out; omega, hcm, by have := HN.out; omega⟩
      obtain ⟨y0, y1, y2⟩ := head_cells' HXk.out
      have hnc' : (n : Int) ≤ (c' : Int) := by have := HCC.out.1; omega
      have hnF : n ≤ F.length := HCC.out.2.2
      have hF64 : F.length ≤ 131072 := by omega
      clear hcap hcm htx hge hglt hT hTn e9 HOk HX1 HB1 HS1 hF
      go_wp2
      go_loopw [8] (fun i wq => ∃ k : Nat, n ≤ k ∧ k ≤ F.length ∧ i = .int .i64 k ∧ Hid (∀ j, n ≤ j → j < k → (h : j < F.length) → F[j] = 0) ∧ wq = wr) (fun i _ => F.length - (intOf i).toNat)
      case atStart => exact ⟨n, Nat.le_refl _, hnF, rfl, Lib.hid (fun j h1 h2 => absurd h2 (by omega)), rfl⟩
      case round =>
        obtain ⟨k, hnk, hkF, rfl, HZ, rfl⟩ := hrel
        by_cases hkl : k < F.length
        · have hkl' : (k : Int) < (F.length : Int) := by omega
          have hcell : wr.cell? ⟨g, k, none⟩ = some (.int .u8 (F[k].toNat : Int)) := by
            obtain ⟨bb, oo, ee, hbb, hrr⟩ := txt_mid HFx.out (by intro e; rw [e] at hkl; simp at hkl)
            injection ee with ee
            injection ee with e1 e2
            subst e1
            subst e2
            have := hrr k (cellOf F[k]) (by rw [List.getElem?_map, List.getElem?_eq_getElem hkl]; rfl)
            rw [Nat.zero_add] at this
            exact this
          by_cases hz : F[k] = 0
          · have HZ2 : Hid (∀ j, n ≤ j → j < k + 1 → (h : j < F.length) → F[j] = 0) := Lib.hid (fun j h1 h2 h3 => by
              by_cases hjk : j < k
              · exact HZ.out j h1 hjk h3
              · obtain rfl : j = k := by omega
                exact hz)
            rw [hz] at hcell
            clear hz
            go_wp2
            go_roundw
            case rel => exact ⟨k + 1, by omega, by omega, by go_num, HZ2, trivial⟩
            case measure => simp [intOf]; omega
          · have HNo : Hid (joinB L n u = false) := Lib.hid (by
              unfold joinB
              rw [decide_eq_false, Bool.false_and]
              intro hA
              refine hz ?_
              have h3 := (cuts_iff L n H64.out HN.out.2).1 hA k hnk (by rw [← HFF.out.1]; exact hkl)
              have h4 := HFF.out.1
              subst h4
              exact h3)
            obtain ⟨x, hx⟩ : ∃ x : Nat, x = F[k].toNat := ⟨_, rfl⟩
            have hx0 : ¬ x = 0 := fun e => hz (UInt8.toNat_inj.1 (by rw [← hx, e]; rfl))
            have hx1 : ¬ (x : Int) = 0 := by omega
            rw [← hx] at hcell
            clear hz hx
            go_wp2
            go_ret2
            exact joinR_no HNo.out HBk.out
        · have hkl' : ¬ (k : Int) < (F.length : Int) := by omega
          have HAll : Hid (∀ i, i < L.length → L[i]? = some (cutT (joinT L n) i)) := Lib.hid ((cuts_iff L n H64.out HN.out.2).2 (fun j h1 h2 => by
            have h4 := HFF.out.1
            subst h4
            exact HZ.out j h1 (by omega) h2))
          obtain ⟨σ, hσ⟩ : ∃ σ, σ = sumN T := ⟨_, rfl⟩
          have HSm : Hid (∀ W, Txt W (some ⟨g, 0, none⟩) T → Calls Try.prog 57 #[.slice (some ⟨g, 0, none⟩) n c'] W fun e w' => e = .returned (.int .u32 σ) ∧ W = w') := Lib.hid (fun W h => by
            have := ref_sum T (some ⟨g, 0, none⟩) c' W (by rw [HTT.out.2]; have := HN.out.1.2; omega) h
            rw [HTT.out.2] at this
            rw [hσ]
            exact this)
          have Hσ := Lib.hid hσ
          clear hσ HZ
          go_wp2
          refine wp_region_held_drew (S := fun W => W.cell? ⟨w.heap.size, 0, none⟩ = some (.int .i64 s) ∧ W.cell? ⟨w.heap.size, 1, none⟩ = some (.int .i64 n) ∧ W.cell? ⟨w.heap.size, 2, none⟩ = some (.int .u32 u) ∧ Txt W (some ⟨g, 0, none⟩) T) (by kernel_rfl) ⟨y0, y1, y2, HTx.out⟩ ?_
          intro hHeld
          have HBD := Lib.hid (below_drew wr)
          clear y0 y1 y2
          generalize wr.drew = w0 at HBD hHeld ⊢
          rcases Nat.decEq σ u with hsu | hsu
          · have HNo : Hid (joinB L n u = false) := Lib.hid (by
              have e2 : decide ((Crc.sumT (joinT L n)).toNat = u) = false := decide_eq_false (by rw [← HTT.out.1]; exact fun e => hsu (Hσ.out.trans e))
              unfold joinB
              rw [e2, Bool.and_false])
            (refine takeH (i := 0) (v := ?_) rfl (by kernel_rfl) (by kernel_rfl) (by kernel_rfl) (fun _ _ _ h => h) (Or.inl ⟨by rfl, ?_⟩) (by assumption) ?_; rotate_left; (focus ((intro wS hSw); (try dsimp only at hSw); obtain ⟨s0, s1, s2, s3⟩ := hSw; go_simp; (try with_reducible rfl); done)); (try simp only [Act.put, List.setIfInBounds_toArray, List.set_cons_zero, List.set_cons_succ]))
            (refine takeH (i := 1) (v := ?_) rfl (by kernel_rfl) (by kernel_rfl) (by kernel_rfl) (fun _ _ _ h => h) (Or.inl ⟨by rfl, ?_⟩) (by assumption) ?_; rotate_left; (focus ((intro wS hSw); (try dsimp only at hSw); obtain ⟨s0, s1, s2, s3⟩ := hSw; go_simp; (try with_reducible rfl); done)); (try simp only [Act.put, List.setIfInBounds_toArray, List.set_cons_zero, List.set_cons_succ]))
            (refine takeH (i := 2) (v := ?_) rfl (by kernel_rfl) (by kernel_rfl) (by kernel_rfl) (fun _ _ _ h => h) (Or.inl ⟨by rfl, ?_⟩) (by assumption) ?_; rotate_left; (focus ((intro wS hSw); (try dsimp only at hSw); obtain ⟨s0, s1, s2, s3⟩ := hSw; go_simp; (try with_reducible rfl); done)); (try simp only [Act.put, List.setIfInBounds_toArray, List.set_cons_zero, List.set_cons_succ]))
            (refine takeH (i := 3) (v := ?_) rfl (by kernel_rfl) (by kernel_rfl) (by kernel_rfl) (fun _ _ _ h => h) (Or.inl ⟨by rfl, ?_⟩) (by assumption) ?_; rotate_left; (focus ((intro wS hSw); (try dsimp only at hSw); obtain ⟨s0, s1, s2, s3⟩ := hSw; go_simp; (try with_reducible rfl); done)); (try simp only [Act.put, List.setIfInBounds_toArray, List.set_cons_zero, List.set_cons_succ]))
            (refine takeH (i := 5) (v := ?_) rfl (by kernel_rfl) (by kernel_rfl) (by kernel_rfl) (fun _ _ _ h => h) (Or.inl ⟨by rfl, ?_⟩) (by assumption) ?_; rotate_left; (focus ((intro wS hSw); (try dsimp only at hSw); obtain ⟨s0, s1, s2, s3⟩ := hSw; go_simp; (try with_reducible rfl); done)); (try simp only [Act.put, List.setIfInBounds_toArray, List.set_cons_zero, List.set_cons_succ]))
            (refine takeH (i := 6) (v := ?_) rfl (by kernel_rfl) (by kernel_rfl) (by kernel_rfl) (fun _ _ _ h => h) (Or.inl ⟨by rfl, ?_⟩) (by assumption) ?_; rotate_left; (focus ((intro wS hSw); (try dsimp only at hSw); obtain ⟨s0, s1, s2, s3⟩ := hSw; go_simp; (try with_reducible rfl); done)); (try simp only [Act.put, List.setIfInBounds_toArray, List.set_cons_zero, List.set_cons_succ]))
            refine aloneH (i := 4) rfl (by kernel_rfl) (fun K hK => ?_)
            rw [if_pos (by rfl)]
            go_simp; ((refine (HSm.out w0 (hHeld.2.2.2)).mono ?_); (rintro e w1 ⟨rfl, rfl⟩); (try go_simp))
            have HB1 : Hid (Below w0.heap.size w0 w0) := Lib.hid (Below.refl _ _)
            refine hK.out _ _ (hHeld) (fun hNew => ?_)
            clear hK K hHeld; (have hHeld := hNew); clear hNew; (try simp only [Act.put, List.setIfInBounds_toArray, List.set_cons_zero, List.set_cons_succ])
            (refine takeH (i := 7) (v := (.bool true)) rfl (by kernel_rfl) (by kernel_rfl) (by kernel_rfl) (fun _ _ _ h => h) (Or.inl ⟨by rfl, by (intro wS hSw); (try dsimp only at hSw); (obtain ⟨s0, s1, s2, s3⟩ := hSw); go_simp; (first | done | omega | (simp; omega))⟩) (by assumption) ?_; (try simp only [Act.put, List.setIfInBounds_toArray, List.set_cons_zero, List.set_cons_succ]))
            refine wpAnyH_done (by kernel_rfl) ?_ _
            clear hHeld
            have HW : Hid (Below wr.heap.size wr w0) := Lib.hid (below_then HBD.out HB1.out)
            clear HBD
            go_wp2
            go_ret2
            exact joinR_no HNo.out (HBk.out.trans (HW.out.mono HBk.out.size))
          · subst hsu
            have HYes : Hid (joinB L n σ = true) := Lib.hid (by unfold joinB; rw [Bool.and_eq_true]; exact ⟨decide_eq_true HAll.out, decide_eq_true (by rw [← HTT.out.1]; exact Hσ.out.symm)⟩)
            (refine takeH (i := 0) (v := ?_) rfl (by kernel_rfl) (by kernel_rfl) (by kernel_rfl) (fun _ _ _ h => h) (Or.inl ⟨by rfl, ?_⟩) (by assumption) ?_; rotate_left; (focus ((intro wS hSw); (try dsimp only at hSw); obtain ⟨s0, s1, s2, s3⟩ := hSw; go_simp; (try with_reducible rfl); done)); (try simp only [Act.put, List.setIfInBounds_toArray, List.set_cons_zero, List.set_cons_succ]))
            (refine takeH (i := 1) (v := ?_) rfl (by kernel_rfl) (by kernel_rfl) (by kernel_rfl) (fun _ _ _ h => h) (Or.inl ⟨by rfl, ?_⟩) (by assumption) ?_; rotate_left; (focus ((intro wS hSw); (try dsimp only at hSw); obtain ⟨s0, s1, s2, s3⟩ := hSw; go_simp; (try with_reducible rfl); done)); (try simp only [Act.put, List.setIfInBounds_toArray, List.set_cons_zero, List.set_cons_succ]))
            (refine takeH (i := 2) (v := ?_) rfl (by kernel_rfl) (by kernel_rfl) (by kernel_rfl) (fun _ _ _ h => h) (Or.inl ⟨by rfl, ?_⟩) (by assumption) ?_; rotate_left; (focus ((intro wS hSw); (try dsimp only at hSw); obtain ⟨s0, s1, s2, s3⟩ := hSw; go_simp; (try with_reducible rfl); done)); (try simp only [Act.put, List.setIfInBounds_toArray, List.set_cons_zero, List.set_cons_succ]))
            (refine takeH (i := 3) (v := ?_) rfl (by kernel_rfl) (by kernel_rfl) (by kernel_rfl) (fun _ _ _ h => h) (Or.inl ⟨by rfl, ?_⟩) (by assumption) ?_; rotate_left; (focus ((intro wS hSw); (try dsimp only at hSw); obtain ⟨s0, s1, s2, s3⟩ := hSw; go_simp; (try with_reducible rfl); done)); (try simp only [Act.put, List.setIfInBounds_toArray, List.set_cons_zero, List.set_cons_succ]))
            (refine takeH (i := 5) (v := ?_) rfl (by kernel_rfl) (by kernel_rfl) (by kernel_rfl) (fun _ _ _ h => h) (Or.inl ⟨by rfl, ?_⟩) (by assumption) ?_; rotate_left; (focus ((intro wS hSw); (try dsimp only at hSw); obtain ⟨s0, s1, s2, s3⟩ := hSw; go_simp; (try with_reducible rfl); done)); (try simp only [Act.put, List.setIfInBounds_toArray, List.set_cons_zero, List.set_cons_succ]))
            (refine takeH (i := 6) (v := ?_) rfl (by kernel_rfl) (by kernel_rfl) (by kernel_rfl) (fun _ _ _ h => h) (Or.inl ⟨by rfl, ?_⟩) (by assumption) ?_; rotate_left; (focus ((intro wS hSw); (try dsimp only at hSw); obtain ⟨s0, s1, s2, s3⟩ := hSw; go_simp; (try with_reducible rfl); done)); (try simp only [Act.put, List.setIfInBounds_toArray, List.set_cons_zero, List.set_cons_succ]))
            refine aloneH (i := 4) rfl (by kernel_rfl) (fun K hK => ?_)
            rw [if_pos (by rfl)]
            go_simp; ((refine (HSm.out w0 (hHeld.2.2.2)).mono ?_); (rintro e w1 ⟨rfl, rfl⟩); (try go_simp))
            have HB1 : Hid (Below w0.heap.size w0 w0) := Lib.hid (Below.refl _ _)
            refine hK.out _ _ (hHeld) (fun hNew => ?_)
            clear hK K hHeld; (have hHeld := hNew); clear hNew; (try simp only [Act.put, List.setIfInBounds_toArray, List.set_cons_zero, List.set_cons_succ])
            (refine takeH (i := 7) (v := (.bool false)) rfl (by kernel_rfl) (by kernel_rfl) (by kernel_rfl) (fun _ _ _ h => h) (Or.inl ⟨by rfl, by (intro wS hSw); (try dsimp only at hSw); (obtain ⟨s0, s1, s2, s3⟩ := hSw); go_simp; (first | done | omega | (simp; omega))⟩) (by assumption) ?_; (try simp only [Act.put, List.setIfInBounds_toArray, List.set_cons_zero, List.set_cons_succ]))
            refine wpAnyH_done (by kernel_rfl) ?_ _
            clear hHeld
            have HW : Hid (Below wr.heap.size wr w0) := Lib.hid (below_then HBD.out HB1.out)
            clear HBD
            obtain ⟨y0, y1, y2⟩ := head_cells' (heap_on HW.out HXk.out)
            go_wp2
            go_ret2
            exact joinR_yes HYes.out HTT.out.1 HTT.out.2 HCC.out.1 HCC.out.2.1 (HTx.out.below HW.out) HGE.out (HBk.out.trans (HW.out.mono HBk.out.size))
end Go.Proofs.Ytfjejiapafdgeaa

namespace Go.Proofs.Ytfjejiapafdgeaa
open Go.RowKit
set_option maxRecDepth 100000

/-- are these a batch's sectors, and what does it hold? -/
def joinQ (L : List Text) (s n u : Int) : Bool := headOk s n && decide (L.length = (n.toNat + 63) / 64) && decide (∀ i, (h : i < L.length) → L[i].length = 64) && joinB L n.toNat u.toNat
def joinX (L : List Text) (s n u : Int) : Text := if joinQ L s n u = true then joinT L n.toNat else []
def JoinG (w : World) (q : Bool) (T : Text) (e : Ending) (w' : World) : Prop := ∃ B c, e = .returned (.tuple #[.slice B T.length c, .bool q]) ∧ Txt w' B T ∧ Fresh0 w B c T ∧ Below w.heap.size w w'
theorem joinG_no {w : World} {L : List Text} {s n u : Int} (h : joinQ L s n u = false) : ∀ e w', JoinNo w e w' → JoinG w (joinQ L s n u) (joinX L s n u) e w' := by
  rintro e w' ⟨rfl, hb⟩
  unfold joinX
  rw [h]
  exact ⟨none, 0, rfl, Txt.none_, .inl ⟨rfl, rfl⟩, hb⟩
theorem joinG_of {w : World} {L : List Text} {s : Int} {n u : Nat} (h : joinQ L s n u = joinB L n u) : ∀ e w', JoinR w L n u e w' → JoinG w (joinQ L s n u) (joinX L s n u) e w' := by
  rintro e w' ⟨B, c, T', rfl, hT, _, _, ht, hn, hb⟩
  have hx : joinX L s n u = T' := by unfold joinX; rw [h, hT]; rfl
  rw [hx, h]
  exact ⟨B, c, rfl, ht, hn, hb⟩
theorem join_cases (L : List Text) (s n u : Int) (hu : 0 ≤ u) (P : Prop) (h1 : headOk s n = false → P) (h2 : ∀ m : Nat, n = m → headOk s m = true → L.length ≠ (m + 63) / 64 → P)
    (h3 : ∀ m : Nat, n = m → headOk s m = true → L.length = (m + 63) / 64 → ∀ i, (hi : i < L.length) → L[i].length ≠ 64 → P)
    (h4 : ∀ m v : Nat, n = m → u = v → headOk s m = true → L.length = (m + 63) / 64 → (∀ i, (hi : i < L.length) → L[i].length = 64) → P) : P := by
  rcases Bool.eq_false_or_eq_true (headOk s n) with hh | hh
  · have hn := headOk_len hh
    obtain ⟨m, rfl⟩ : ∃ m : Nat, n = m := ⟨n.toNat, by omega⟩
    obtain ⟨v, rfl⟩ : ∃ v : Nat, u = v := ⟨u.toNat, by omega⟩
    by_cases hm : L.length = (m + 63) / 64
    · by_cases ha : ∀ i, (hi : i < L.length) → L[i].length = 64
      · exact h4 m v rfl rfl hh hm ha
      · obtain ⟨i, hi⟩ := Classical.not_forall.1 ha
        obtain ⟨hi, hx⟩ := Classical.not_forall.1 hi
        exact h3 m rfl hh hm i hi hx
    · exact h2 m rfl hh hm
  · exact h1 hh
theorem joinQ_head {L : List Text} {s n u : Int} (h : headOk s n = false) : joinQ L s n u = false := by unfold joinQ; rw [h]; rfl
theorem joinQ_count {L : List Text} {s u : Int} {m : Nat} (h : L.length ≠ (m + 63) / 64) : joinQ L s m u = false := by unfold joinQ; rw [Int.toNat_natCast, decide_eq_false h]; simp
theorem joinQ_size {L : List Text} {s n u : Int} (i : Nat) (hi : i < L.length) (h : L[i].length ≠ 64) : joinQ L s n u = false := by
  have e : decide (∀ i, (h : i < L.length) → L[i].length = 64) = false := decide_eq_false (fun a => h (a i hi))
  unfold joinQ
  rw [e]
  simp
theorem joinQ_all {L : List Text} {s : Int} {m v : Nat} (h1 : headOk s m = true) (h2 : L.length = (m + 63) / 64) (h3 : ∀ i, (hi : i < L.length) → L[i].length = 64) : joinQ L s m v = joinB L m v := by
  unfold joinQ
  rw [Int.toNat_natCast, Int.toNat_natCast, h1, decide_eq_true h2, decide_eq_true h3]
  rfl
theorem code_join (L : List Text) (A : Option Addr) (cL : Nat) (s n u : Int) (w : World) (hu : 0 ≤ u ∧ u < 4294967296) (hT : TextRows w A L) :
    Calls Try.prog 74 #[.slice A L.length cL, headV s n u] w (JoinG w (joinQ L s n u) (joinX L s n u)) :=
  join_cases L s n u hu.1 _ (fun h => (code_join_no L.length A cL s n u w h).mono (joinG_no (joinQ_head h)))
    (fun m e h hm => by subst e; exact (code_join_count L.length A cL s m u w h hm).mono (joinG_no (joinQ_count hm)))
    (fun m e h hm i hi hx => by subst e; exact (code_join_size L A cL s m u w h hm i hi hx hT).mono (joinG_no (joinQ_size i hi hx)))
    (fun m v e e2 h hm ha => by subst e; subst e2; exact (code_join_c L A cL s m v w h hm ha (by omega) hT).mono (joinG_of (joinQ_all h hm ha)))
theorem ref_join (L : List Text) (A : Option Addr) (cL : Nat) (s n u : Int) (w : World) (hu : 0 ≤ u ∧ u < 4294967296) (hT : TextRows w A L) :
    Calls Try.prog 76 #[.slice A L.length cL, headV s n u] w (JoinG w (joinQ L s n u) (joinX L s n u)) :=
  join_cases L s n u hu.1 _ (fun h => (ref_join_no L.length A cL s n u w h).mono (joinG_no (joinQ_head h)))
    (fun m e h hm => by subst e; exact (ref_join_count L.length A cL s m u w h hm).mono (joinG_no (joinQ_count hm)))
    (fun m e h hm i hi hx => by subst e; exact (ref_join_size L A cL s m u w h hm i hi hx hT).mono (joinG_no (joinQ_size i hi hx)))
    (fun m v e e2 h hm ha => by subst e; subst e2; exact (ref_join_c L A cL s m v w h hm ha hT).mono (joinG_of (joinQ_all h hm ha)))
theorem beginV_is (l : Text) : ∃ (a : Int) (b c : Nat) (q : Bool), beginV l = .tuple #[headV a b c, .bool q] := by
  unfold beginV
  by_cases h : isB l = true
  · rw [if_pos h]; exact ⟨_, _, _, _, rfl⟩
  · rw [if_neg h]; exact ⟨0, 0, 0, false, rfl⟩
end Go.Proofs.Ytfjejiapafdgeaa
