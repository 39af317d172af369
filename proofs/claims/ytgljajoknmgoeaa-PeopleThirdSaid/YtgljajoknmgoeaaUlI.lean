/- One span put into a row of the call's own that has no room. -/
import Derived.Test.YtgljajoknmgoeaaUlH
namespace Go.Proofs.Ytgljajoknmgoeaa
open Go.RowKit
set_option maxRecDepth 100000

theorem zeroCells2 (k : Nat) : (Builtin.zeroCells (Value.agg #[.int .i64 0, .int .i64 0]).cells k).size = k * 2 := by simp [Builtin.zeroCells, Value.cells]
set_option maxHeartbeats 2000000 in
theorem ins_grow (w : World) (base g cap : Nat) (cur : Array Value) (L : List Sp) (i : Nat) (x : Sp) (vb : Nat) (hg : w.heap[g]? = some (.cells cur 98 (0, 0))) (ht : cur.toList.take (L.length * 2) = flat2 L) (hroom : cap < L.length + 1) (hnc : L.length ≤ cap)
    (hi : i < L.length) (hv : w.heap[vb]? = some (.cells #[.int .i64 x.1, .int .i64 x.2.1] 98 (0, 0))) (hl : L.length ≤ 256) (hbw : base ≤ w.heap.size) :
    Calls Try.prog 61 #[.slice (some ⟨g, 0, none⟩) L.length cap, .int .i64 i, .slice (some ⟨vb, 0, none⟩) 1 1] w (InsP w base L i x) := by
  obtain ⟨i0, hi0, hz0, hzs, hzb⟩ := info_parts partFact
  obtain ⟨n, hn⟩ : ∃ n, n = L.length := ⟨_, rfl⟩
  have hfl : (flat2 L).length = n * 2 := by rw [flat2_len, hn]; omega
  obtain ⟨l, hll⟩ : ∃ l, l = flat2 L := ⟨_, rfl⟩
  rw [← hll] at hfl ht
  rw [← hn] at hi hroom hl ht hnc ⊢
  have hgw : g < w.heap.size := heapLt hg
  have hvw : vb < w.heap.size := heapLt hv
  have holds : ∀ j v, l[j]? = some v → w.cell? ((⟨g, 0, none⟩ : Addr).add j) = some v := cutp hg (fun j v hv => by
    rw [← ht, List.getElem?_take] at hv
    split at hv
    · simpa using hv
    · cases hv)
  have hold : (Builtin.firstCells i0.size i (.slice (some ⟨g, 0, none⟩) i cap)).run Try.prog w.drew = .ok (l.take (i * 2)).toArray w.drew := by
    rw [hzs]
    exact run_firstCells_some w.drew 2 i ⟨g, 0, none⟩ i cap (l.take (i * 2)) (by rw [List.length_take]; omega) (fun j v hj => by
      rw [List.getElem?_take] at hj
      split at hj
      · exact holds j v hj
      · cases hj)
  have hkk : (n : Int) + 1 - (i : Int) = ((n + 1 - i : Nat) : Int) := by omega
  have hik : i + (n + 1 - i) = n + 1 := by omega
  have hrz : ∀ ty, (Builtin.append_ #[73, 3] ty #[.slice (some ⟨g, 0, none⟩) i cap, .int .i64 ((n : Int) + 1 - (i : Int))]).run Try.prog w =
      .ok (.slice (some ⟨w.heap.size, 0, none⟩) (n + 1) (grownCap w (n + 1) cap 98)) (w.drew.alloc (.cells ((l.take (i * 2)).toArray ++ Builtin.zeroCells (Value.agg #[.int .i64 0, .int .i64 0]).cells (n + 1 - i) ++ Builtin.zeroCells (Value.agg #[.int .i64 0, .int .i64 0]).cells (grownCap w (n + 1) cap 98 - (n + 1))) 98)) := fun ty => by
    have h := Lib.run_append_grow_zeros w 73 3 ty 98 i0 _ .i64 .i64 Try.underlying73 Try.underlying3 hi0 hz0 (some ⟨g, 0, none⟩) i cap (l.take (i * 2)) hold (n + 1 - i) (by omega) (by omega) (by omega) (by omega) (by rw [hzb]; omega) (by rw [hzb, hik]; exact growslice_fits hroom (by omega))
    rw [hik] at h
    rw [hkk]
    exact h
  obtain ⟨G, hG⟩ : ∃ G, G = grownCap w (n + 1) cap 98 := ⟨_, rfl⟩
  have hGn : n + 1 ≤ G := by rw [hG]; exact grownCap_ge w _ _ _
  have hGm : G ≤ maxLen := by rw [hG]; exact grownCap_le_maxLen w (n + 1) cap _ (by unfold maxLen; omega)
  rw [← hG] at hrz
  obtain ⟨ROW, hROW⟩ : ∃ ROW : Array Value, ROW = (l.take (i * 2)).toArray ++ Builtin.zeroCells (Value.agg #[.int .i64 0, .int .i64 0]).cells (n + 1 - i) ++ Builtin.zeroCells (Value.agg #[.int .i64 0, .int .i64 0]).cells (G - (n + 1)) := ⟨_, rfl⟩
  rw [← hROW] at hrz
  have hRs : ROW.size = G * 2 := by
    rw [hROW]
    simp only [Array.size_append, zeroCells2, List.size_toArray, List.length_take]
    omega
  have hRt : ROW.toList.take (i * 2) = l.take (i * 2) := by
    rw [hROW]
    simp only [Array.toList_append, List.append_assoc]
    rw [List.take_append_of_le_length (by rw [List.length_take]; omega)]
    exact List.take_of_length_le (by rw [List.length_take]; omega)
  obtain ⟨w1, hw1⟩ : ∃ w1, w1 = (w.alloc (.cells ROW 98)).drew := ⟨_, rfl⟩
  have hee : w.drew.alloc (.cells ROW 98) = w1 := by rw [hw1]; rfl
  rw [hee] at hrz
  have hs1 : w1.heap.size = w.heap.size + 1 := by rw [hw1]; simp
  have hg1 : w1.heap[w.heap.size]? = some (.cells ROW 98 (0, 0)) := by rw [hw1]; exact heap_alloc_new w _
  have hv1 : w1.heap[vb]? = some (.cells #[.int .i64 x.1, .int .i64 x.2.1] 98 (0, 0)) := by rw [hw1]; exact (Below.heap_alloc w.drew _ _ hvw).trans hv
  have ho1 : w1.heap[g]? = some (.cells cur 98 (0, 0)) := by rw [hw1]; exact (Below.heap_alloc w.drew _ _ hgw).trans hg
  have hcpA : ∀ ty dc, (Builtin.copy_ #[73, 73] ty #[.slice (some ⟨w.heap.size, i * 2, none⟩) (n + 1 - i) dc, .slice (some ⟨vb, 0, none⟩) 1 1]).run Try.prog w1 = .ok (goInt (Nat.min 1 (n + 1 - i))) (w1.setRow w.heap.size (overL ROW.toList (i * 2) (flatP2 x)).toArray) := fun ty dc =>
    run_copy2_row w1 _ _ ty 98 w.heap.size (i * 2) _ dc ⟨vb, 0, none⟩ _ 1 ROW _ (flatP2 x) Try.underlying73 sizeP (by simp only [Nat.min_def, flatP2, List.length_cons, List.length_nil]; split <;> omega) hg1 (by rw [hRs]; simp [flatP2]; omega) (cutp hv1 (fun j v hv => by simpa [flatP2] using hv)) (by intro v hv; exact flat2_one [x] v (by simpa [flat2] using hv))
  obtain ⟨c1, hc1⟩ : ∃ c1, c1 = (overL ROW.toList (i * 2) (flatP2 x)).toArray := ⟨_, rfl⟩
  rw [← hc1] at hcpA
  have hc1s : c1.size = G * 2 := by rw [hc1]; simp only [List.size_toArray]; rw [overL_len (by simp only [Array.length_toList, hRs, flatP2, List.length_cons, List.length_nil]; omega)]; simpa using hRs
  obtain ⟨w2, hw2⟩ : ∃ w2, w2 = w1.setRow w.heap.size c1 := ⟨_, rfl⟩
  have hg2 : w2.drew.heap[w.heap.size]? = some (.cells c1 98 (0, 0)) := by rw [hw2]; exact setRow_heap _ _ _ _ _ _ hg1
  have ho2 : w2.drew.heap[g]? = some (.cells cur 98 (0, 0)) := by rw [hw2]; exact (setRow_other _ _ _ _ (by omega)).trans ho1
  have hdl : (l.drop (i * 2)).length = (n - i) * 2 := by rw [List.length_drop, hfl]; omega
  have hcpB : ∀ ty dc sc, (Builtin.copy_ #[73, 73] ty #[.slice (some ⟨w.heap.size, (i + 1) * 2, none⟩) (n - i) dc, .slice (some ⟨g, i * 2, none⟩) (n - i) sc]).run Try.prog w2.drew = .ok (goInt (Nat.min (n - i) (n - i))) (w2.drew.setRow w.heap.size (overL c1.toList ((i + 1) * 2) (l.drop (i * 2))).toArray) := fun ty dc sc =>
    run_copy2_row w2.drew _ _ ty 98 w.heap.size ((i + 1) * 2) _ dc ⟨g, i * 2, none⟩ _ sc c1 _ (l.drop (i * 2)) Try.underlying73 sizeP (by rw [hdl]; simp only [Nat.min_def]; split <;> omega) hg2 (by rw [hdl, hc1s]; omega)
      (cutp ho2 (fun j v hv => by
        rw [List.getElem?_drop, ← ht, List.getElem?_take] at hv
        split at hv
        · exact hv
        · cases hv)) (fun v hv => flat2_one L v (by rw [← hll]; exact List.mem_of_mem_drop hv))
  have HF : Hid (InsP w base L i x (.returned (.slice (some ⟨w.heap.size, 0, none⟩) (n + 1) G)) (w2.drew.setRow w.heap.size (overL c1.toList ((i + 1) * 2) (l.drop (i * 2))).toArray)) := Lib.hid (by
    refine ⟨_, rfl, ⟨by rw [flat2_len]; omega, .inr ⟨w.heap.size, G, _, by rw [insL_len, hn], hbw, setRow_heap _ _ _ _ _ _ hg2, by rw [insL_len]; omega, hGm, ?_, ?_⟩⟩, ?_⟩
    · simp only [List.size_toArray]
      rw [overL_len (by simp only [Array.length_toList, hc1s, hdl]; omega)]
      simpa using hc1s
    · rw [insL_len, ← hn, flat2_ins, ← hll, hc1]
      exact grow_list ROW.toList l (flatP2 x) i n rfl hfl hRt (by simp only [Array.length_toList, hRs]; omega) (by omega)
    · rw [hw2, hw1]
      exact ⟨rfl, rfl, rfl, by simp, fun k hk => (setRow_other _ _ _ _ (by omega)).trans ((setRow_other _ _ _ _ (by omega)).trans (Below.heap_alloc w.drew _ _ (by show k < w.heap.size; omega)))⟩)
  have hbN : g ≠ w.heap.size := by omega
  clear hee
  subst hw2
  subst hw1
  clear hg hv hg1 hv1 ho1 hg2 ho2 hc1 hc1s hdl ht hfl hll hn hRs hRt hROW holds hold hs1 hG hi0 hz0 hzs hzb
  have hin : (0 : Int) ≤ (i : Int) := by omega
  have hin1 : (i : Int) ≤ (n : Int) := by omega
  have hin2 : (n : Int) ≤ 256 := by omega
  have hne1 : ¬ ((i : Int) = (n : Int)) := by omega
  have hcap : (cap : Int) < (n : Int) + 1 := by omega
  have hcap3 : (n : Int) ≤ (cap : Int) := by omega
  have hG1 : (n : Int) + 1 ≤ (G : Int) := by omega
  have hG2 : (G : Int) ≤ 9223372036854775807 := by unfold maxLen at hGm; omega
  have hb4 : ¬ (cap = i) := by omega
  have hGi : ¬ (G = i) := by omega
  have hGim : ¬ (G = i + 1) := by omega
  have mixed : Try.prog.follows .mixedOrders = true := by kernel_rfl
  have hwr : IntKind.i64.wrap ((i : Int) + 1) = (i : Int) + 1 := by rw [IntKind.wrap_i64]; omega
  have hb1 : (0 : Int) ≤ (i : Int) + 1 := by omega
  have htn : ((i : Int) + 1).toNat = i + 1 := by omega
  have hb3 : (i : Int) ≤ (n : Int) + 1 := by omega
  have hb6 : (i : Int) + 1 ≤ (n : Int) + 1 := by omega
  clear hkk hik
  go_enter Try.func61, Try.ntmps61
  go_wp2_with (first
    | (at_builtin; refine Lib.wpList_append_run _ rfl _ _ _ _ rfl _ _ rfl rfl _ _ (hrz _) ?_)
    | (at_builtin; refine wpList_copy_runI _ rfl _ _ 73 73 rfl _ _ rfl rfl (hcpA _ _) ?_))
  go_region_law_o (refine step_copy_runI rfl _ _ 73 73 rfl _ _ (by simp [Act.eval, Act.put]) (by simp [Act.eval, Act.put]) (hcpB _ _ _) ?_)
  go_wp2
  go_ret
  exact HF.out
/-- wherever it belongs -/
theorem code_ins (w : World) (base : Nat) (v : Value) (L : List Sp) (i : Nat) (x : Sp) (vb : Nat) (ho : OwnR w base v L) (hi : i ≤ L.length) (hv : w.heap[vb]? = some (.cells #[.int .i64 x.1, .int .i64 x.2.1] 98 (0, 0))) (hne : v.ownBlock ≠ some vb) (hl : L.length ≤ 256) (hb : base ≤ w.heap.size) :
    Calls Try.prog 61 #[v, .int .i64 i, .slice (some ⟨vb, 0, none⟩) 1 1] w (InsP w base L i x) := by
  by_cases h : i = L.length
  · subst h
    exact ins_end w base v L x vb ho hv hl hb
  · rcases ho.2 with ⟨rfl, h0⟩ | ⟨g, c, cur, rfl, hB, hh, hc, hm, hcs, ht⟩
    · omega
    · by_cases hr : L.length + 1 ≤ c
      · exact ins_shift w base g c cur L i x vb hh hcs ht hr hm (by omega) hv (fun e => hne (by rw [e]; rfl)) hl hB
      · exact ins_grow w base g c cur L i x vb hh ht (by omega) hc (by omega) hv hl hb
end Go.Proofs.Ytgljajoknmgoeaa
