/- One span put into a row of the call's own. -/
import Derived.Test.YtgljajoknmgoeaaUlG
namespace Go.Proofs.Ytgljajoknmgoeaa
open Go.RowKit
set_option maxRecDepth 100000

def insL (L : List Sp) (i : Nat) (x : Sp) : List Sp := L.take i ++ x :: L.drop i
theorem insL_len (L : List Sp) (i : Nat) (x : Sp) : (insL L i x).length = L.length + 1 := by
  unfold insL
  rw [List.length_append, List.length_cons, List.length_take, List.length_drop]
  omega
theorem flat2_ins (L : List Sp) (i : Nat) (x : Sp) : flat2 (insL L i x) = (flat2 L).take (i * 2) ++ flatP2 x ++ (flat2 L).drop (i * 2) := by
  unfold insL
  have e : flat2 (x :: L.drop i) = flatP2 x ++ flat2 (L.drop i) := rfl
  rw [flat2_append, e, flat2_take, flat2_drop, List.append_assoc]
/-- what is copied over a row, from one place on -/
def overL (cur : List Value) (o : Nat) (cs : List Value) : List Value := cur.take o ++ cs ++ cur.drop (o + cs.length)
theorem overL_len {cur cs : List Value} {o : Nat} (h : o + cs.length ≤ cur.length) : (overL cur o cs).length = cur.length := by
  unfold overL
  simp only [List.length_append, List.length_take, List.length_drop]
  omega
/-- shifted, then filled -/
theorem shift_list (cur l x : List Value) (i n : Nat) (hx : x.length = 2) (hl : l.length = n * 2) (hc : cur.take (n * 2) = l) (hsz : (n + 1) * 2 ≤ cur.length) (hi : i ≤ n) :
    (overL (overL cur ((i + 1) * 2) (l.drop (i * 2))) (i * 2) x).take ((n + 1) * 2) = l.take (i * 2) ++ x ++ l.drop (i * 2) := by
  have h1 : (overL cur ((i + 1) * 2) (l.drop (i * 2))).take (i * 2) = l.take (i * 2) := by
    unfold overL
    rw [List.append_assoc, List.take_append_of_le_length (by rw [List.length_take]; omega), List.take_take, ← hc, List.take_take]
    congr 1
    omega
  have h2 : (overL cur ((i + 1) * 2) (l.drop (i * 2))).drop (i * 2 + 2) = l.drop (i * 2) ++ cur.drop ((i + 1) * 2 + (l.drop (i * 2)).length) := by
    unfold overL
    rw [List.append_assoc, show i * 2 + 2 = (cur.take ((i + 1) * 2)).length by rw [List.length_take]; omega, List.drop_left]
  have e : overL (overL cur ((i + 1) * 2) (l.drop (i * 2))) (i * 2) x = (l.take (i * 2) ++ x ++ l.drop (i * 2)) ++ cur.drop ((i + 1) * 2 + (l.drop (i * 2)).length) := by
    show (overL cur ((i + 1) * 2) (l.drop (i * 2))).take (i * 2) ++ x ++ (overL cur ((i + 1) * 2) (l.drop (i * 2))).drop (i * 2 + x.length) = _
    rw [hx, h1, h2]
    simp only [List.append_assoc]
  rw [e, List.take_append_of_le_length (by simp only [List.length_append, List.length_take, List.length_drop]; omega)]
  exact List.take_of_length_le (by simp only [List.length_append, List.length_take, List.length_drop]; omega)
/-- filled, then what stood behind -/
theorem grow_list (cur l x : List Value) (i n : Nat) (hx : x.length = 2) (hl : l.length = n * 2) (hc : cur.take (i * 2) = l.take (i * 2)) (hsz : (n + 1) * 2 ≤ cur.length) (hi : i ≤ n) :
    (overL (overL cur (i * 2) x) ((i + 1) * 2) (l.drop (i * 2))).take ((n + 1) * 2) = l.take (i * 2) ++ x ++ l.drop (i * 2) := by
  have h1 : (overL cur (i * 2) x).take ((i + 1) * 2) = l.take (i * 2) ++ x := by
    unfold overL
    rw [List.take_append_of_le_length (by simp only [List.length_append, List.length_take]; omega), hc]
    exact List.take_of_length_le (by simp only [List.length_append, List.length_take]; omega)
  have e : ∃ r, overL (overL cur (i * 2) x) ((i + 1) * 2) (l.drop (i * 2)) = (l.take (i * 2) ++ x ++ l.drop (i * 2)) ++ r := by
    refine ⟨(overL cur (i * 2) x).drop ((i + 1) * 2 + (l.drop (i * 2)).length), ?_⟩
    show (overL cur (i * 2) x).take ((i + 1) * 2) ++ l.drop (i * 2) ++ (overL cur (i * 2) x).drop ((i + 1) * 2 + (l.drop (i * 2)).length) = _
    rw [h1]
  obtain ⟨r, e⟩ := e
  rw [e, List.take_append_of_le_length (by simp only [List.length_append, List.length_take, List.length_drop]; omega)]
  exact List.take_of_length_le (by simp only [List.length_append, List.length_take, List.length_drop]; omega)
theorem run_copy2_row {P : Program} (w : World) (dT sT ty elem : TypeId) (g o dLen dCap : Nat) (a : Addr) (sLen sCap : Nat) (cur : Array Value) (t : TypeId) (cs : List Value)
    (hu : P.underlying dT = some (.slice elem)) (hs : (P.info? elem).map (·.size) = some 2) (hn : cs.length = Nat.min sLen dLen * 2) (hg : w.heap[g]? = some (.cells cur t (0, 0))) (hfit : o + cs.length ≤ cur.size)
    (hsrc : ∀ j v, cs[j]? = some v → w.cell? (a.add j) = some v) (h1 : ∀ v ∈ cs, v.oneCell' = true) :
    (Builtin.copy_ #[dT, sT] ty #[.slice (some ⟨g, o, none⟩) dLen dCap, .slice (some a) sLen sCap]).run P w = .ok (goInt (Nat.min sLen dLen)) (w.setRow g (overL cur.toList o cs).toArray) := by
  have hl := run_loadCells_list (P := P) w a cs hsrc
  have hst := run_storeCells_at P g o t cs 0 cur w hg (by simpa using hfit) h1
  simp only [Nat.add_zero] at hst
  cases hq : P.info? elem with
  | none => simp [hq] at hs
  | some i =>
    have hi : i.size = 2 := by simpa [hq] using hs
    simp [Builtin.copy_, run_underlying hu, Builtin.lenOf, Builtin.firstCells, sizeOf, typeInfo, hq, hi, ← hn, hl, hst, overL]
theorem sizeP : (Try.prog.info? 98).map (·.size) = some 2 := by kernel_rfl
theorem sizePr (w : World) : (Go.sizeOf 98).run Try.prog w = .ok 2 w := by
  have h := sizeP
  cases hq : Try.prog.info? 98 with
  | none => simp [hq] at h
  | some i =>
    have hz : i.size = 2 := by simpa [hq] using h
    simp [sizeOf, typeInfo, hq, hz]
theorem cutp {w : World} {g : Nat} {cur : Array Value} {t : TypeId} {o : Nat} {cs : List Value} (hg : w.heap[g]? = some (.cells cur t (0, 0))) (h : ∀ j v, cs[j]? = some v → cur.toList[o + j]? = some v) : ∀ j v, cs[j]? = some v → w.cell? ((⟨g, o, none⟩ : Addr).add j) = some v := fun j v hv => by
  rw [Addr.add_mid]
  have := cell_of_row w g (o + j) _ _ _ hg
  rw [this]
  have h2 := h j v hv
  simpa using h2
/-- what an insertion leaves -/
def InsP (w : World) (base : Nat) (L : List Sp) (i : Nat) (x : Sp) (e : Ending) (w' : World) : Prop := ∃ v, e = .returned v ∧ OwnR w' base v (insL L i x) ∧ Below base w w'
set_option maxHeartbeats 1000000 in
theorem ins_end (w : World) (base : Nat) (v : Value) (L : List Sp) (x : Sp) (vb : Nat) (ho : OwnR w base v L) (hv : w.heap[vb]? = some (.cells #[.int .i64 x.1, .int .i64 x.2.1] 98 (0, 0))) (hl : L.length ≤ 256) (hb : base ≤ w.heap.size) :
    Calls Try.prog 61 #[v, .int .i64 L.length, .slice (some ⟨vb, 0, none⟩) 1 1] w (InsP w base L L.length x) := by
  obtain ⟨i0, hi, hz0, hz1, hz2⟩ := info_parts partFact
  obtain ⟨A, c, rfl, hr, hc, hm, hA⟩ := ho.form
  have hsrc : ∀ j u, (flatP2 x)[j]? = some u → w.cell? ((⟨vb, 0, none⟩ : Addr).add j) = some u := cutp hv (fun j u hu => by simpa [flatP2] using hu)
  have hc63 : (c : Int) ≤ 9223372036854775807 := by unfold maxLen at hm; omega
  have HH := Lib.hid (And.intro ho (And.intro hsrc (And.intro hl hb)))
  have hin : (L.length : Int) ≤ 256 := by omega
  have hcc : (L.length : Int) ≤ (c : Int) := by omega
  clear ho hr hA hsrc hl hb hv
  go_enter Try.func61, Try.ntmps61
  go_wp2_with (at_builtin; refine wpList_append_own _ rfl _ _ 73 rfl base 98 i0 _ 2 24 Try.underlying73 hi hz0 hz1 hz2 rfl (by decide) _ L.length (flat2 L) rfl HH.out.1 ⟨vb, 0, none⟩ 1 1 (flatP2 x) rfl rfl HH.out.2.1 (by intro v hv; exact flat2_one [x] v (by simpa [flat2] using hv)) (by have := HH.out.2.2.1; unfold maxLen; omega) (by have := HH.out.2.2.1; omega) HH.out.2.2.2 ?_; intro v' w' hown hg hv; have HV := Lib.hid (And.intro hown hg); clear hown hg hv)
  all_goals
    go_ret
    refine ⟨_, rfl, ?_, (Below.refl base w).grown HV.out.2 HH.out.2.2.2 (fun k hk => (World.ownsRow.lt HH.out.1 k hk).1)⟩
    unfold OwnR
    rw [insL_len, flat2_ins, List.take_of_length_le (by rw [flat2_len]; omega), List.drop_eq_nil_of_le (by rw [flat2_len]; omega), List.append_nil]
    exact HV.out.1
theorem setRow_size (w : World) (g : Nat) (cs : Array Value) : (w.setRow g cs).heap.size = w.heap.size := by simp
set_option maxHeartbeats 2000000 in
theorem ins_shift (w : World) (base g cap : Nat) (cur : Array Value) (L : List Sp) (i : Nat) (x : Sp) (vb : Nat) (hg : w.heap[g]? = some (.cells cur 98 (0, 0))) (hcs : cur.size = cap * 2) (ht : cur.toList.take (L.length * 2) = flat2 L) (hroom : L.length + 1 ≤ cap) (hm : cap ≤ maxLen)
    (hi : i < L.length) (hv : w.heap[vb]? = some (.cells #[.int .i64 x.1, .int .i64 x.2.1] 98 (0, 0))) (hne : vb ≠ g) (hl : L.length ≤ 256) (hbg : base ≤ g) :
    Calls Try.prog 61 #[.slice (some ⟨g, 0, none⟩) L.length cap, .int .i64 i, .slice (some ⟨vb, 0, none⟩) 1 1] w (InsP w base L i x) := by
  obtain ⟨n, hn⟩ : ∃ n, n = L.length := ⟨_, rfl⟩
  have hfl : (flat2 L).length = n * 2 := by rw [flat2_len, hn]; omega
  obtain ⟨l, hll⟩ : ∃ l, l = flat2 L := ⟨_, rfl⟩
  rw [← hll] at hfl ht
  rw [← hn] at hi hroom hl ht ⊢
  have hsv : w.shape? vb = some (98, 2) := by unfold World.shape?; rw [hv]; rfl
  have hsg : w.shape? g = some (98, cap * 2) := by unfold World.shape?; rw [hg]; simp [hcs]
  have hf0 : w.frozen? ⟨vb, 0, none⟩ = false := frozen_of_row w vb 0 _ _ hv
  have hf3 : w.frozen? ⟨vb, 2, none⟩ = false := frozen_of_row w vb 2 _ _ hv
  have hov : ∀ lb cb, (callFunc 76 #[.slice (some ⟨vb, 0, none⟩) 1 1, .slice (some ⟨g, (i + 1) * 2, none⟩) lb cb]).run Try.prog w = .ok (.value (.bool false)) w := fun lb cb => by
    rw [run_callFunc_extern Try.func76 (by kernel_rfl) (by kernel_rfl) (by kernel_rfl) (e := Extern.SlicesOverlaps.overlaps #[73, 73] #[4]) (by kernel_rfl),
      Lib.run_overlaps_apart w 73 4 98 Try.underlying73 2 sizePr ⟨vb, 0, none⟩ ⟨g, (i + 1) * 2, none⟩ 1 1 lb cb hne _ _ _ _ hsv hsg (by omega) hf0 hf3]
    rfl
  have hdl : (l.drop (i * 2)).length = (n - i) * 2 := by rw [List.length_drop, hfl]; omega
  have hwg : w.drew.heap[g]? = some (.cells cur 98 (0, 0)) := hg
  have hcurl : cur.toList.length = cap * 2 := by simpa using hcs
  have hcp1 : ∀ ty dc sc, (Builtin.copy_ #[73, 73] ty #[.slice (some ⟨g, (i + 1) * 2, none⟩) (n - i) dc, .slice (some ⟨g, i * 2, none⟩) (n + 1 - i) sc]).run Try.prog w.drew = .ok (goInt (Nat.min (n + 1 - i) (n - i))) (w.drew.setRow g (overL cur.toList ((i + 1) * 2) (l.drop (i * 2))).toArray) := fun ty dc sc =>
    run_copy2_row w.drew _ _ ty 98 g ((i + 1) * 2) _ dc ⟨g, i * 2, none⟩ _ sc cur _ (l.drop (i * 2)) Try.underlying73 sizeP (by rw [hdl]; simp only [Nat.min_def]; split <;> omega) hwg (by rw [hdl, hcs]; omega)
      (cutp hwg (fun j v hv => by
        rw [List.getElem?_drop, ← ht, List.getElem?_take] at hv
        split at hv
        · exact hv
        · cases hv)) (fun v hv => flat2_one L v (by rw [← hll]; exact List.mem_of_mem_drop hv))
  obtain ⟨c1, hc1⟩ : ∃ c1, c1 = (overL cur.toList ((i + 1) * 2) (l.drop (i * 2))).toArray := ⟨_, rfl⟩
  rw [← hc1] at hcp1
  have hc1s : c1.size = cap * 2 := by rw [hc1]; simp only [List.size_toArray]; rw [overL_len (by rw [hdl, hcurl]; omega), hcurl]
  obtain ⟨w1, hw1⟩ : ∃ w1, w1 = w.drew.setRow g c1 := ⟨_, rfl⟩
  have hg1 : w1.heap[g]? = some (.cells c1 98 (0, 0)) := by rw [hw1]; exact setRow_heap _ _ _ _ _ _ hwg
  have hv1 : w1.heap[vb]? = some (.cells #[.int .i64 x.1, .int .i64 x.2.1] 98 (0, 0)) := by rw [hw1]; exact (setRow_other _ _ _ _ hne).trans hv
  have hcp2 : ∀ ty dc, (Builtin.copy_ #[73, 73] ty #[.slice (some ⟨g, i * 2, none⟩) (n + 1 - i) dc, .slice (some ⟨vb, 0, none⟩) 1 1]).run Try.prog w1 = .ok (goInt (Nat.min 1 (n + 1 - i))) (w1.setRow g (overL c1.toList (i * 2) (flatP2 x)).toArray) := fun ty dc =>
    run_copy2_row w1 _ _ ty 98 g (i * 2) _ dc ⟨vb, 0, none⟩ _ 1 c1 _ (flatP2 x) Try.underlying73 sizeP (by simp only [Nat.min_def, flatP2, List.length_cons, List.length_nil]; split <;> omega) hg1 (by rw [hc1s]; simp [flatP2]; omega) (cutp hv1 (fun j v hv => by simpa [flatP2] using hv)) (by intro v hv; exact flat2_one [x] v (by simpa [flat2] using hv))
  have HF : Hid (InsP w base L i x (.returned (.slice (some ⟨g, 0, none⟩) (n + 1) cap)) (w1.setRow g (overL c1.toList (i * 2) (flatP2 x)).toArray)) := Lib.hid (by
    refine ⟨_, rfl, ⟨by rw [flat2_len]; omega, .inr ⟨g, cap, _, by rw [insL_len, hn], hbg, setRow_heap _ _ _ _ _ _ hg1, by rw [insL_len]; omega, hm, ?_, ?_⟩⟩, ?_⟩
    · simp only [List.size_toArray]
      rw [overL_len (by simp only [Array.length_toList, hc1s, flatP2, List.length_cons, List.length_nil]; omega)]
      simpa using hc1s
    · rw [insL_len, ← hn, flat2_ins, ← hll, hc1]
      exact shift_list cur.toList l (flatP2 x) i n rfl hfl ht (by rw [hcurl]; omega) (by omega)
    · rw [hw1]
      exact ⟨rfl, rfl, rfl, by simp, fun k hk => (setRow_other _ _ _ _ (by omega)).trans (setRow_other _ _ _ _ (by omega))⟩)
  subst hw1
  clear hsv hsg hf0 hf3 hg hv hwg hg1 hv1 hcurl hc1 hc1s hdl ht hcs hfl hll hn
  have hin : (0 : Int) ≤ (i : Int) := by omega
  have hin1 : (i : Int) ≤ (n : Int) := by omega
  have hin2 : (n : Int) ≤ 256 := by omega
  have hne1 : ¬ ((i : Int) = (n : Int)) := by omega
  have hcap : (n : Int) + 1 ≤ (cap : Int) := by omega
  have hcap2 : (cap : Int) ≤ 9223372036854775807 := by unfold maxLen at hm; omega
  have hb4 : ¬ (cap = i) := by omega
  have hb5 : ¬ (cap = i + 1) := by omega
  go_enter Try.func61, Try.ntmps61
  go_wp2_with (simp only [hov])
  have mixed : Try.prog.follows .mixedOrders = true := by kernel_rfl
  have hwr : IntKind.i64.wrap ((i : Int) + 1) = (i : Int) + 1 := by rw [IntKind.wrap_i64]; omega
  have hb1 : (0 : Int) ≤ (i : Int) + 1 := by omega
  have htn : ((i : Int) + 1).toNat = i + 1 := by omega
  have hb3 : (i : Int) ≤ (n : Int) + 1 := by omega
  have hb6 : (i : Int) + 1 ≤ (n : Int) + 1 := by omega
  go_region_law_o (refine step_copy_runI rfl _ _ 73 73 rfl _ _ (by simp [Act.eval, Act.put]) (by simp [Act.eval, Act.put]) (hcp1 _ _ _) ?_)
  go_wp2_with (at_builtin; refine wpList_copy_runI _ rfl _ _ 73 73 rfl _ _ rfl rfl (hcp2 _ _) ?_)
  go_ret
  exact HF.out
end Go.Proofs.Ytgljajoknmgoeaa
