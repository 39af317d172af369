/- One span put into a row of the call's own that has no room. A line's other one. -/
import Derived.Test.YtgljajoknmgoeaaGreatUlH
namespace Go.Proofs.YtgljajoknmgoeaaGreat
open Go.RowKit
set_option maxRecDepth 100000

theorem zeroCells2 (k : Nat) : (Builtin.zeroCells (Value.agg #[.int .i64 0, .int .i64 0]).cells k).size = k * 2 := by simp [Builtin.zeroCells, Value.cells]
set_option maxHeartbeats 2000000 in
theorem ins_grow (w : World) (base g cap : Nat) (cur : Array Value) (L : List Sp) (i : Nat) (x : Sp) (vb : Nat) (hg : w.heap[g]? = some (.cells cur 92 (0, 0))) (ht : cur.toList.take (L.length * 2) = flat2 L) (hroom : cap < L.length + 1) (hnc : L.length ≤ cap)
    (hi : i < L.length) (hv : w.heap[vb]? = some (.cells #[.int .i64 x.1, .int .i64 x.2.1] 92 (0, 0))) (hl : L.length ≤ 256) (hbw : base ≤ w.heap.size) :
    Calls Tryz.prog 66 #[.slice (some ⟨g, 0, none⟩) L.length cap, .int .i64 i, .slice (some ⟨vb, 0, none⟩) 1 1] w (InsP w base L i x) := by
  obtain ⟨i0, hi0, hz0, hzs, hzb⟩ := info_parts partFact
  obtain ⟨n, hn⟩ : ∃ n, n = L.length := ⟨_, rfl⟩
  have hfl : (flat2 L).length = n * 2 := by rw [flat2_len, hn]; omega
  obtain ⟨l, hll⟩ : ∃ l, l = flat2 L := ⟨_, rfl⟩
  rw [← hll] at hfl ht
  rw [← hn] at hi hroom hl ht hnc ⊢
  have hgw : g < w.heap.size := heapLt hg
  have hvw : vb < w.heap.size := heapLt hv
  have holds : ∀ j v, l[j]? = some v → w.cell? ((⟨g, 0, none⟩ : Addr).add j) = some v := cutp hg (fun j v hv => by
    rw [← ht, List.getElem?_take] at hv
    split at hv
    · simpa using hv
    · cases hv)
  have hold : (Builtin.firstCells i0.size i (.slice (some ⟨g, 0, none⟩) i cap)).run Tryz.prog w.drew = .ok (l.take (i * 2)).toArray w.drew := by
    rw [hzs]
    exact run_firstCells_some w.drew 2 i ⟨g, 0, none⟩ i cap (l.take (i * 2)) (by rw [List.length_take]; omega) (fun j v hj => by
      rw [List.getElem?_take] at hj
      split at hj
      · exact holds j v hj
      · cases hj)
  have hkk : (n : Int) + 1 - (i : Int) = ((n + 1 - i : Nat) : Int) := by omega
  have hik : i + (n + 1 - i) = n + 1 := by omega
  have hrz : ∀ ty, (Builtin.append_ #[87, 3] ty #[.slice (some ⟨g, 0, none⟩) i cap, .int .i64 ((n : Int) + 1 - (i : Int))]).run Tryz.prog w =
      .ok (.slice (some ⟨w.heap.size, 0, none⟩) (n + 1) (grownCap w (n + 1) cap 92)) (w.drew.alloc (.cells ((l.take (i * 2)).toArray ++ Builtin.zeroCells (Value.agg #[.int .i64 0, .int .i64 0]).cells (n + 1 - i) ++ Builtin.zeroCells (Value.agg #[.int .i64 0, .int .i64 0]).cells (grownCap w (n + 1) cap 92 - (n + 1))) 92)) := fun ty => by
    have h := Lib.run_append_grow_zeros w 87 3 ty 92 i0 _ .i64 .i64 Tryz.underlying87 Tryz.underlying3 hi0 hz0 (some ⟨g, 0, none⟩) i cap (l.take (i * 2)) hold (n + 1 - i) (by omega) (by omega) (by omega) (by omega) (by rw [hzb]; omega) (by rw [hzb, hik]; exact growslice_fits hroom (by omega))
    rw [hik] at h
    rw [hkk]
    exact h
  obtain ⟨G, hG⟩ : ∃ G, G = grownCap w (n + 1) cap 92 := ⟨_, rfl⟩
  have hGn : n + 1 ≤ G := by rw [hG]; exact grownCap_ge w _ _ _
  have hGm : G ≤ maxLen := by rw [hG]; exact grownCap_le_maxLen w (n + 1) cap _ (by unfold maxLen; omega)
  rw [← hG] at hrz
  obtain ⟨ROW, hROW⟩ : ∃ ROW : Array Value, ROW = (l.take (i * 2)).toArray ++ Builtin.zeroCells (Value.agg #[.int .i64 0, .int .i64 0]).cells (n + 1 - i) ++ Builtin.zeroCells (Value.agg #[.int .i64 0, .int .i64 0]).cells (G - (n + 1)) := ⟨_, rfl⟩
  rw [← hROW] at hrz
  have hRs : ROW.size = G * 2 := by
    rw [hROW]
    simp only [Array.size_append, zeroCells2, List.size_toArray, List.length_take]
    omega
  have hRt : ROW.toList.take (i * 2) = l.take (i * 2) := by
    rw [hROW]
    simp only [Array.toList_append, List.append_assoc]
    rw [List.take_append_of_le_length (by rw [List.length_take]; omega)]
    exact List.take_of_length_le (by rw [List.length_take]; omega)
  obtain ⟨w1, hw1⟩ : ∃ w1, w1 = (w.alloc (.cells ROW 92)).drew := ⟨_, rfl⟩
  have hee : w.drew.alloc (.cells ROW 92) = w1 := by rw [hw1]; rfl
  rw [hee] at hrz
  have hs1 : w1.heap.size = w.heap.size + 1 := by rw [hw1]; simp
  have hg1 : w1.heap[w.heap.size]? = some (.cells ROW 92 (0, 0)) := by rw [hw1]; exact heap_alloc_new w _
  have hv1 : w1.heap[vb]? = some (.cells #[.int .i64 x.1, .int .i64 x.2.1] 92 (0, 0)) := by rw [hw1]; exact (Below.heap_alloc w.drew _ _ hvw).trans hv
  have ho1 : w1.heap[g]? = some (.cells cur 92 (0, 0)) := by rw [hw1]; exact (Below.heap_alloc w.drew _ _ hgw).trans hg
  have hcpA : ∀ ty dc, (Builtin.copy_ #[87, 87] ty #[.slice (some ⟨w.heap.size, i * 2, none⟩) (n + 1 - i) dc, .slice (some ⟨vb, 0, none⟩) 1 1]).run Tryz.prog w1 = .ok (goInt (Nat.min 1 (n + 1 - i))) (w1.setRow w.heap.size (overL ROW.toList (i * 2) (flatP2 x)).toArray) := fun ty dc =>
    run_copy2_row w1 _ _ ty 92 w.heap.size (i * 2) _ dc ⟨vb, 0, none⟩ _ 1 ROW _ (flatP2 x) Tryz.underlying87 sizeP (by simp only [Nat.min_def, flatP2, List.length_cons, List.length_nil]; split <;> omega) hg1 (by rw [hRs]; simp [flatP2]; omega) (cutp hv1 (fun j v hv => by simpa [flatP2] using hv)) (by intro v hv; exact flat2_one [x] v (by simpa [flat2] using hv))
  obtain ⟨c1, hc1⟩ : ∃ c1, c1 = (overL ROW.toList (i * 2) (flatP2 x)).toArray := ⟨_, rfl⟩
  rw [← hc1] at hcpA
  have hc1s : c1.size = G * 2 := by rw [hc1]; simp only [List.size_toArray]; rw [overL_len (by simp only [Array.length_toList, hRs, flatP2, List.length_cons, List.length_nil]; omega)]; simpa using hRs
  obtain ⟨w2, hw2⟩ : ∃ w2, w2 = w1.setRow w.heap.size c1 := ⟨_, rfl⟩
  have hg2 : w2.drew.heap[w.heap.size]? = some (.cells c1 92 (0, 0)) := by rw [hw2]; exact setRow_heap _ _ _ _ _ _ hg1
  have ho2 : w2.drew.heap[g]? = some (.cells cur 92 (0, 0)) := by rw [hw2]; exact (setRow_other _ _ _ _ (by omega)).trans ho1
  have hdl : (l.drop (i * 2)).length = (n - i) * 2 := by rw [List.length_drop, hfl]; omega
  have hcpB : ∀ ty dc sc, (Builtin.copy_ #[87, 87] ty #[.slice (some ⟨w.heap.size, (i + 1) * 2, none⟩) (n - i) dc, .slice (some ⟨g, i * 2, none⟩) (n - i) sc]).run Tryz.prog w2.drew = .ok (goInt (Nat.min (n - i) (n - i))) (w2.drew.setRow w.heap.size (overL c1.toList ((i + 1) * 2) (l.drop (i * 2))).toArray) := fun ty dc sc =>
    run_copy2_row w2.drew _ _ ty 92 w.heap.size ((i + 1) * 2) _ dc ⟨g, i * 2, none⟩ _ sc c1 _ (l.drop (i * 2)) Tryz.underlying87 sizeP (by rw [hdl]; simp only [Nat.min_def]; split <;> omega) hg2 (by rw [hdl, hc1s]; omega)
      (cutp ho2 (fun j v hv => by
        rw [List.getElem?_drop, ← ht, List.getElem?_take] at hv
        split at hv
        · exact hv
        · cases hv)) (fun v hv => flat2_one L v (by rw [← hll]; exact List.mem_of_mem_drop hv))
  have HF : Hid (InsP w base L i x (.returned (.slice (some ⟨w.heap.size, 0, none⟩) (n + 1) G)) (w2.drew.setRow w.heap.size (overL c1.toList ((i + 1) * 2) (l.drop (i * 2))).toArray)) := Lib.hid (by
    refine ⟨_, rfl, ⟨by rw [flat2_len]; omega, .inr ⟨w.heap.size, G, _, by rw [insL_len, hn], hbw, setRow_heap _ _ _ _ _ _ hg2, by rw [insL_len]; omega, hGm, ?_, ?_⟩⟩, ?_⟩
    · simp only [List.size_toArray]
      rw [overL_len (by simp only [Array.length_toList, hc1s, hdl]; omega)]
      simpa using hc1s
    · rw [insL_len, ← hn, flat2_ins, ← hll, hc1]
      exact grow_list ROW.toList l (flatP2 x) i n rfl hfl hRt (by simp only [Array.length_toList, hRs]; omega) (by omega)
    · rw [hw2, hw1]
      exact ⟨rfl, rfl, rfl, by simp, fun k hk => (setRow_other _ _ _ _ (by omega)).trans ((setRow_other _ _ _ _ (by omega)).trans (Below.heap_alloc w.drew _ _ (by show k < w.heap.size; omega)))⟩)
  have hbN : g ≠ w.heap.size := by omega
  clear hee
  subst hw2
  subst hw1
  clear hg hv hg1 hv1 ho1 hg2 ho2 hc1 hc1s hdl ht hfl hll hn hRs hRt hROW holds hold hs1 hG hi0 hz0 hzs hzb
  have hin : (0 : Int) ≤ (i : Int) := by omega
  have hin1 : (i : Int) ≤ (n : Int) := by omega
  have hin2 : (n : Int) ≤ 256 := by omega
  have hne1 : ¬ ((i : Int) = (n : Int)) := by omega
  have hcap : (cap : Int) < (n : Int) + 1 := by omega
  have hcap3 : (n : Int) ≤ (cap : Int) := by omega
  have hG1 : (n : Int) + 1 ≤ (G : Int) := by omega
  have hG2 : (G : Int) ≤ 9223372036854775807 := by unfold maxLen at hGm; omega
  have hb4 : ¬ (cap = i) := by omega
  have hGi : ¬ (G = i) := by omega
  have hGim : ¬ (G = i + 1) := by omega
  have mixed : Tryz.prog.follows .mixedOrders = true := by kernel_rfl
  have hwr : IntKind.i64.wrap ((i : Int) + 1) = (i : Int) + 1 := by rw [IntKind.wrap_i64]; omega
  have hb1 : (0 : Int) ≤ (i : Int) + 1 := by omega
  have htn : ((i : Int) + 1).toNat = i + 1 := by omega
  have hb3 : (i : Int) ≤ (n : Int) + 1 := by omega
  have hb6 : (i : Int) + 1 ≤ (n : Int) + 1 := by omega
  clear hkk hik
  go_enter Tryz.func66, Tryz.ntmps66
  go_wp2_with (first
    | (at_builtin; refine Lib.wpList_append_run _ rfl _ _ _ _ rfl _ _ rfl rfl _ _ (hrz _) ?_)
    | (at_builtin; refine wpList_copy_runI _ rfl _ _ 87 87 rfl _ _ rfl rfl (hcpA _ _) ?_))
  go_region_law_o (refine step_copy_runI rfl _ _ 87 87 rfl _ _ (by simp [Act.eval, Act.put]) (by simp [Act.eval, Act.put]) (hcpB _ _ _) ?_)
  go_wp2
  go_ret
  exact HF.out
/-- wherever it belongs -/
theorem code_ins (w : World) (base : Nat) (v : Value) (L : List Sp) (i : Nat) (x : Sp) (vb : Nat) (ho : OwnR w base v L) (hi : i ≤ L.length) (hv : w.heap[vb]? = some (.cells #[.int .i64 x.1, .int .i64 x.2.1] 92 (0, 0))) (hne : v.ownBlock ≠ some vb) (hl : L.length ≤ 256) (hb : base ≤ w.heap.size) :
    Calls Tryz.prog 66 #[v, .int .i64 i, .slice (some ⟨vb, 0, none⟩) 1 1] w (InsP w base L i x) := by
  by_cases h : i = L.length
  · subst h
    exact ins_end w base v L x vb ho hv hl hb
  · rcases ho.2 with ⟨rfl, h0⟩ | ⟨g, c, cur, rfl, hB, hh, hc, hm, hcs, ht⟩
    · omega
    · by_cases hr : L.length + 1 ≤ c
      · exact ins_shift w base g c cur L i x vb hh hcs ht hr hm (by omega) hv (fun e => hne (by rw [e]; rfl)) hl hB
      · exact ins_grow w base g c cur L i x vb hh ht (by omega) hc (by omega) hv hl hb
end Go.Proofs.YtgljajoknmgoeaaGreat

namespace Go.Proofs.YtgljajoknmgoeaaGreat
open Go.RowKit
set_option maxRecDepth 100000
attribute [local go_sem] Oper.semAt_some

theorem OwnR.less {w : World} {B B' : Nat} {v : Value} {L : List Sp} (h : OwnR w B v L) (hB : B' ≤ B) : OwnR w B' v L := by
  refine ⟨h.1, ?_⟩
  rcases h.2 with h | ⟨g, c, cur, h1, h2, h3⟩
  · exact .inl h
  · exact .inr ⟨g, c, cur, h1, Nat.le_trans hB h2, h3⟩
theorem OwnR.set {w : World} {B b o : Nat} {v u : Value} {L : List Sp} (h : OwnR w B v L) (hb : b < B) : OwnR (w.setCell ⟨b, o, none⟩ u) B v L := by
  refine World.ownsRow.kept (row := some b) h ⟨rfl, rfl, rfl, by simp, fun k hk hne => heap_setCell_other _ _ _ _ (fun e => hne (by rw [e]))⟩ ?_
  rcases h.2 with ⟨rfl, _⟩ | ⟨g, c, cur, rfl, h2, _⟩
  · exact .inl rfl
  · refine .inr ?_
    simp only [Value.ownBlock, ne_eq, Option.some.injEq]
    omega

set_option maxHeartbeats 1000000 in
theorem code_lclone (w : World) (B most : Nat) (L : List Sp) (h : Lin w B most L) : Calls Tryz.prog 39 #[.pointer (some ⟨B, 0, none⟩)] w fun e w' => ∃ B', e = .returned (.pointer (some ⟨B', 0, none⟩)) ∧ Lin w' B' most L ∧ w.heap.size ≤ B' ∧ Below w.heap.size w w' := by
  have HMd := Lib.hid (code_isMade w B most L h)
  obtain ⟨A, c, h0⟩ := h
  have hs := h0.short
  obtain ⟨h0, hr, hc, hm, h1, h2, h3, hn⟩ := h0
  have c0 := cell_of_row w B 0 _ _ _ h0
  have c1 := cell_of_row w B 1 _ _ _ h0
  simp only [List.getElem?_toArray, List.getElem?_cons_succ, List.getElem?_cons_zero] at c0 c1
  have HC : Hid (∀ W, Below w.drew.heap.size w.drew W → Calls Tryz.prog 58 #[.slice A L.length c] W fun e w' => ∃ v, e = .returned v ∧ OwnR w' W.heap.size v L ∧ Below W.heap.size W w') := Lib.hid (fun W hW => code_clone A c L W ((hr.on (below_drew w)).on hW) hn hs)
  have HM := Lib.hid (And.intro h1 (And.intro h2 h3))
  clear h0 hr hc hm h1 h2 h3 hn hs
  have hc0 := cell_on (below_drew w) c0
  have hc1 := cell_on (below_drew w) c1
  clear c0 c1
  go_enter Tryz.func39, Tryz.ntmps39
  go_wp2_with (go_at_call 57; refine HMd.out.mono ?_; rintro e w9 ⟨rfl, rfl⟩)
  refine wp_region_held_drew (S := fun W => W.cell? ⟨B, 0, none⟩ = some (.int .i64 most) ∧ W.cell? ⟨B, 1, none⟩ = some (.slice A L.length c)) (by kernel_rfl) ⟨hc0, hc1⟩ ?_
  intro hHeld
  have HBD := Lib.hid (below_drew w)
  clear hc0 hc1
  generalize w.drew = w0 at HBD HC hHeld ⊢
  (refine takeH (i := 0) (v := ?_) rfl (by kernel_rfl) (by kernel_rfl) (by kernel_rfl) (fun _ _ _ h => h) (Or.inl ⟨by rfl, ?_⟩) (by assumption) ?_; rotate_left; (focus ((intro wS hSw); (try dsimp only at hSw); obtain ⟨s0, s1⟩ := hSw; go_simp; (try with_reducible rfl); done)); (try simp only [Act.put, List.setIfInBounds_toArray, List.set_cons_zero, List.set_cons_succ]))
  (refine takeH (i := 1) (v := ?_) rfl (by kernel_rfl) (by kernel_rfl) (by kernel_rfl) (fun _ _ _ h => h) (Or.inl ⟨by rfl, ?_⟩) (by assumption) ?_; rotate_left; (focus ((intro wS hSw); (try dsimp only at hSw); obtain ⟨s0, s1⟩ := hSw; go_simp; (try with_reducible rfl); done)); (try simp only [Act.put, List.setIfInBounds_toArray, List.set_cons_zero, List.set_cons_succ]))
  (refine takeH (i := 2) (v := ?_) rfl (by kernel_rfl) (by kernel_rfl) (by kernel_rfl) (fun _ _ _ h => h) (Or.inl ⟨by rfl, ?_⟩) (by assumption) ?_; rotate_left; (focus ((intro wS hSw); (try dsimp only at hSw); obtain ⟨s0, s1⟩ := hSw; go_simp; (try with_reducible rfl); done)); (try simp only [Act.put, List.setIfInBounds_toArray, List.set_cons_zero, List.set_cons_succ]))
  (refine takeH (i := 3) (v := ?_) rfl (by kernel_rfl) (by kernel_rfl) (by kernel_rfl) (fun _ _ _ h => h) (Or.inl ⟨by rfl, ?_⟩) (by assumption) ?_; rotate_left; (focus ((intro wS hSw); (try dsimp only at hSw); obtain ⟨s0, s1⟩ := hSw; go_simp; (try with_reducible rfl); done)); (try simp only [Act.put, List.setIfInBounds_toArray, List.set_cons_zero, List.set_cons_succ]))
  (refine takeH (i := 4) (v := ?_) rfl (by kernel_rfl) (by kernel_rfl) (by kernel_rfl) (fun _ _ _ h => h) (Or.inl ⟨by rfl, ?_⟩) (by assumption) ?_; rotate_left; (focus ((intro wS hSw); (try dsimp only at hSw); obtain ⟨s0, s1⟩ := hSw; go_simp; (try with_reducible rfl); done)); (try simp only [Act.put, List.setIfInBounds_toArray, List.set_cons_zero, List.set_cons_succ]))
  (refine takeH (i := 5) (v := ?_) rfl (by kernel_rfl) (by kernel_rfl) (by kernel_rfl) (fun _ _ _ h => h) (Or.inl ⟨by rfl, ?_⟩) (by assumption) ?_; rotate_left; (focus ((intro wS hSw); (try dsimp only at hSw); obtain ⟨s0, s1⟩ := hSw; go_simp; (try with_reducible rfl); done)); (try simp only [Act.put, List.setIfInBounds_toArray, List.set_cons_zero, List.set_cons_succ]))
  (refine takeH (i := 6) (v := ?_) rfl (by kernel_rfl) (by kernel_rfl) (by kernel_rfl) (fun _ _ _ h => h) (Or.inl ⟨by rfl, ?_⟩) (by assumption) ?_; rotate_left; (focus ((intro wS hSw); (try dsimp only at hSw); obtain ⟨s0, s1⟩ := hSw; go_simp; (try with_reducible rfl); done)); (try simp only [Act.put, List.setIfInBounds_toArray, List.set_cons_zero, List.set_cons_succ]))
  (refine takeH (i := 7) (v := ?_) rfl (by kernel_rfl) (by kernel_rfl) (by kernel_rfl) (fun _ _ _ h => h) (Or.inl ⟨by rfl, ?_⟩) (by assumption) ?_; rotate_left; (focus ((intro wS hSw); (try dsimp only at hSw); obtain ⟨s0, s1⟩ := hSw; go_simp; (try with_reducible rfl); done)); (try simp only [Act.put, List.setIfInBounds_toArray, List.set_cons_zero, List.set_cons_succ]))
  refine aloneH (i := 8) rfl (by kernel_rfl) (fun K hK => ?_)
  rw [if_pos (by rfl)]
  go_simp; ((refine (HC.out w0 (below_same w0)).mono ?_); (rintro e w1 ⟨v5, rfl, hown, hb⟩); have HB1 := Lib.hid hb; (obtain ⟨A5, c5, rfl, hr5, hc5, hm5, hn5⟩ := hown.form); have HO1 := Lib.hid (And.intro hr5 (And.intro hc5 (And.intro hm5 hn5))); clear hb hown hr5 hc5 hm5 hn5; (try go_simp))
  refine hK.out _ _ (⟨cell_on HB1.out hHeld.1, cell_on HB1.out hHeld.2⟩) (fun hNew => ?_)
  clear hK K hHeld; (have hHeld := hNew); clear hNew; (try simp only [Act.put, List.setIfInBounds_toArray, List.set_cons_zero, List.set_cons_succ])
  (refine takeH (i := 9) (v := ?_) rfl (by kernel_rfl) (by kernel_rfl) (by kernel_rfl) (fun _ _ _ h => h) (Or.inl ⟨by rfl, ?_⟩) (by assumption) ?_; rotate_left; (focus ((intro wS hSw); (try dsimp only at hSw); obtain ⟨s0, s1⟩ := hSw; go_simp; (try with_reducible rfl); done)); (try simp only [Act.put, List.setIfInBounds_toArray, List.set_cons_zero, List.set_cons_succ]))
  refine aloneH (i := 10) rfl (by kernel_rfl) (fun K hK => ?_)
  rw [if_pos (by rfl)]
  go_simp
  have HX2 := Lib.hid (heap_alloc_new w1 (.cells #[.int .i64 most, (.slice A5 L.length c5)] 89))
  have HB2 := Lib.hid (below_alloc w1 (.cells #[.int .i64 most, (.slice A5 L.length c5)] 89))
  generalize hx : World.alloc w1 (.cells #[.int .i64 most, (.slice A5 L.length c5)] 89) = w2 at HX2 HB2 ⊢
  clear hx
  refine hK.out _ _ (⟨cell_on HB2.out hHeld.1, cell_on HB2.out hHeld.2⟩) (fun hNew => ?_)
  clear hK K hHeld; (have hHeld := hNew); clear hNew; (try simp only [Act.put, List.setIfInBounds_toArray, List.set_cons_zero, List.set_cons_succ])
  (refine takeH (i := 11) (v := ?_) rfl (by kernel_rfl) (by kernel_rfl) (by kernel_rfl) (fun _ _ _ h => h) (Or.inl ⟨by rfl, ?_⟩) (by assumption) ?_; rotate_left; (focus ((intro wS hSw); (try dsimp only at hSw); obtain ⟨s0, s1⟩ := hSw; go_simp; (try with_reducible rfl); done)); (try simp only [Act.put, List.setIfInBounds_toArray, List.set_cons_zero, List.set_cons_succ]))
  refine wpAnyH_done (by kernel_rfl) ?_ _
  clear hHeld
  go_wp2
  go_ret
  obtain ⟨hr5, hc5, hm5, hn5⟩ := HO1.out
  exact ⟨w1.heap.size, rfl, ⟨A5, c5, HX2.out, hr5.on HB2.out, hc5, hm5, HM.out.1, HM.out.2.1, HM.out.2.2, hn5⟩, by have := HB1.out.size; have := HBD.out.size; omega, below_then HBD.out (below_then HB1.out HB2.out)⟩
end Go.Proofs.YtgljajoknmgoeaaGreat
