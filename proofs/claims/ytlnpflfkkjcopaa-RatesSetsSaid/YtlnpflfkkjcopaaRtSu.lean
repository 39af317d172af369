/- Sorted, each once. Rows of texts of the call's own, sorted, each once. For which states. -/
import Derived.Test.YtlnpflfkkjcopaaRtR
import Derived.Lib.SlicesCompact
import Derived.Test.YtlnpflfkkjcopaaVatSort
import Derived.Sort.OwnSorted
import Derived.Test.YtlnpflfkkjcopaaRtX
namespace Go.Proofs.Ytlnpflfkkjcopaa
open Go.RowKit Go.Sort
set_option maxRecDepth 100000

abbrev Tx := List UInt8
theorem le_tot (x y : Tx) : (decide (x ≤ y) || decide (y ≤ x)) = true := by
  rcases List.le_total x y with h | h
  · simp [h]
  · simp [h]
theorem le_tr (x y z : Tx) (h1 : decide (x ≤ y) = true) (h2 : decide (y ≤ z) = true) : decide (x ≤ z) = true :=
  decide_eq_true (List.le_trans (of_decide_eq_true h1) (of_decide_eq_true h2))
theorem le_anti {x y : Tx} (h1 : x ≤ y) (h2 : y ≤ x) : x = y := List.le_antisymm h1 h2
def srtT (L : List Tx) : List Tx := L.mergeSort fun x y => decide (x ≤ y)
theorem srtT_perm (L : List Tx) : (srtT L).Perm L := List.mergeSort_perm ..
theorem srtT_sorted (L : List Tx) : (srtT L).Pairwise (fun x y => x ≤ y) :=
  (List.pairwise_mergeSort (le := fun x y => decide (x ≤ y)) le_tr le_tot L).imp fun h => of_decide_eq_true h
theorem upTo_facts (d : Array Tx) (hs : ∀ i j, i < j → j < d.size → d[i]! ≤ d[j]!) : ∀ m, m ≤ d.size →
    (Lib.compactUpTo d m).Pairwise (fun x y => x ≤ y ∧ x ≠ y) ∧ (∀ x ∈ Lib.compactUpTo d m, ∃ j, j < m ∧ x = d[j]!) ∧ (∀ j, j < m → d[j]! ∈ Lib.compactUpTo d m) ∧ (0 < m → ∀ x ∈ Lib.compactUpTo d m, x ≤ d[m - 1]!)
  | 0, _ => ⟨by simp [Lib.compactUpTo], by simp [Lib.compactUpTo], fun j h => absurd h (Nat.not_lt_zero j), fun h => absurd h (Nat.lt_irrefl 0)⟩
  | m + 1, hm => by
    obtain ⟨h1, h2, h3, h4⟩ := upTo_facts d hs m (by omega)
    rw [Lib.compactUpTo_succ]
    by_cases hk : Lib.keeps d m = true
    · rw [if_pos hk]
      refine ⟨?_, ?_, ?_, ?_⟩
      · rw [List.pairwise_append]
        refine ⟨h1, List.pairwise_singleton _ _, fun x hx y hy => ?_⟩
        obtain rfl := List.mem_singleton.1 hy
        obtain ⟨j, hj, rfl⟩ := h2 x hx
        refine ⟨hs j m hj (by omega), fun e => ?_⟩
        unfold Lib.keeps at hk
        have hk2 := of_decide_eq_true hk
        rcases hk2 with h0 | h0
        · omega
        · have h5 := h4 (by omega) _ hx
          have h6 : d[m - 1]! ≤ d[m]! := hs (m - 1) m (by omega) (by omega)
          rw [e] at h5
          exact h0 (le_anti h5 h6)
      · intro x hx
        rcases List.mem_append.1 hx with hx | hx
        · obtain ⟨j, hj, rfl⟩ := h2 x hx
          exact ⟨j, by omega, rfl⟩
        · obtain rfl := List.mem_singleton.1 hx
          exact ⟨m, by omega, rfl⟩
      · intro j hj
        by_cases hjm : j < m
        · exact List.mem_append.2 (.inl (h3 j hjm))
        · obtain rfl : j = m := by omega
          exact List.mem_append.2 (.inr (List.mem_singleton.2 rfl))
      · intro _ x hx
        rw [Nat.add_sub_cancel]
        rcases List.mem_append.1 hx with hx | hx
        · obtain ⟨j, hj, rfl⟩ := h2 x hx
          exact hs j m hj (by omega)
        · obtain rfl := List.mem_singleton.1 hx
          exact List.le_refl _
    · rw [if_neg hk, List.append_nil]
      have hm0 : m ≠ 0 := fun e => hk (by subst e; rfl)
      have he : d[m]! = d[m - 1]! := by
        by_cases h : d[m]! = d[m - 1]!
        · exact h
        · exact absurd (Lib.keeps_pos h) hk
      refine ⟨h1, fun x hx => ?_, fun j hj => ?_, fun _ x hx => ?_⟩
      · obtain ⟨j, hj, e⟩ := h2 x hx
        exact ⟨j, by omega, e⟩
      · by_cases hjm : j < m
        · exact h3 j hjm
        · obtain rfl : j = m := by omega
          rw [he]
          exact h3 _ (by omega)
      · rw [Nat.add_sub_cancel, he]
        exact h4 (by omega) x hx
theorem compact_facts (Z : List Tx) (hs : Z.Pairwise (fun x y => x ≤ y)) : (Lib.compact Z).Pairwise (fun x y => x ≤ y ∧ x ≠ y) ∧ ∀ x, x ∈ Lib.compact Z ↔ x ∈ Z := by
  have h := upTo_facts Z.toArray (fun i j hij hj => by
    have hj' : j < Z.length := by simpa using hj
    rw [getElem!_pos Z.toArray i (by simp; omega), getElem!_pos Z.toArray j hj]
    simpa using (List.pairwise_iff_getElem.1 hs) i j (by omega) hj' hij) Z.length (by simp)
  obtain ⟨h1, h2, h3, _⟩ := h
  refine ⟨h1, fun x => ⟨fun hx => ?_, fun hx => ?_⟩⟩
  · obtain ⟨j, hj, rfl⟩ := h2 x hx
    rw [getElem!_pos Z.toArray j (by simpa using hj)]
    simp
  · obtain ⟨j, hj, rfl⟩ := List.mem_iff_getElem.1 hx
    have := h3 j hj
    rw [getElem!_pos Z.toArray j (by simpa using hj)] at this
    show _ ∈ Lib.compactUpTo Z.toArray Z.length
    simpa using this
theorem sorted_eq : ∀ {A B : List Tx}, A.Pairwise (fun x y => x ≤ y ∧ x ≠ y) → B.Pairwise (fun x y => x ≤ y ∧ x ≠ y) → (∀ x, x ∈ A ↔ x ∈ B) → A = B
  | [], [], _, _, _ => rfl
  | [], b :: B, _, _, h => absurd ((h b).2 (List.mem_cons_self ..)) (by simp)
  | a :: A, [], _, _, h => absurd ((h a).1 (List.mem_cons_self ..)) (by simp)
  | a :: A, b :: B, hA, hB, h => by
    obtain ⟨ha, hA'⟩ := List.pairwise_cons.1 hA
    obtain ⟨hb, hB'⟩ := List.pairwise_cons.1 hB
    have e : a = b := by
      rcases List.mem_cons.1 ((h a).1 (List.mem_cons_self ..)) with e | e
      · exact e
      · rcases List.mem_cons.1 ((h b).2 (List.mem_cons_self ..)) with e2 | e2
        · exact e2.symm
        · exact le_anti (ha b e2).1 (hb a e).1
    subst e
    congr 1
    refine sorted_eq hA' hB' fun x => ⟨fun hx => ?_, fun hx => ?_⟩
    · rcases List.mem_cons.1 ((h x).1 (List.mem_cons_of_mem _ hx)) with e | e
      · exact absurd e.symm (ha x hx).2
      · exact e
    · rcases List.mem_cons.1 ((h x).2 (List.mem_cons_of_mem _ hx)) with e | e
      · exact absurd e.symm (hb x hx).2
      · exact e
def mkB (l : Tx) : ByteArray := ⟨l.toArray⟩
theorem mkB_bytes (s : ByteArray) : mkB (bytesOf s) = s := by
  obtain ⟨⟨l⟩⟩ := s
  rfl
theorem bytes_mkB (l : Tx) : bytesOf (mkB l) = l := rfl
/-- sorted, each once -/
def onceL (L : List ByteArray) : List ByteArray := (Lib.compact (srtT (L.map bytesOf))).map mkB
theorem keys_sorted : (keysL.map bytesOf).Pairwise (fun x y => x ≤ y ∧ x ≠ y) := by decide +kernel
theorem once_keys (L : List ByteArray) (p : ByteArray → Bool) (h : ∀ s, s ∈ L ↔ s ∈ keysL ∧ p s = true) : onceL L = keysL.filter p := by
  obtain ⟨h1, h2⟩ := compact_facts _ (srtT_sorted (L.map bytesOf))
  have e : Lib.compact (srtT (L.map bytesOf)) = (keysL.filter p).map bytesOf := by
    refine sorted_eq h1 ?_ fun x => ?_
    · exact (List.pairwise_map.2 ((List.pairwise_map.1 keys_sorted).sublist List.filter_sublist))
    · rw [h2, (srtT_perm _).mem_iff, List.mem_map, List.mem_map]
      constructor
      · rintro ⟨s, hs, rfl⟩
        exact ⟨s, List.mem_filter.2 ((h s).1 hs), rfl⟩
      · rintro ⟨s, hs, rfl⟩
        exact ⟨s, (h s).2 (List.mem_filter.1 hs), rfl⟩
  unfold onceL
  rw [e, List.map_map]
  have : (mkB ∘ bytesOf) = id := funext mkB_bytes
  rw [this, List.map_id]
end Go.Proofs.Ytlnpflfkkjcopaa

namespace Go.Proofs.Ytlnpflfkkjcopaa
open Go.RowKit Go.Maps Go.Sort
set_option maxRecDepth 100000

theorem enc_str (L : List ByteArray) : (L.map bytesOf).map encStr = L.map .string := by
  rw [List.map_map]
  congr 1
theorem enc_mk (Z : List Tx) : Z.map encStr = (Z.map mkB).map .string := by
  rw [List.map_map]
  rfl
def OwnS (w : World) (B : Nat) (v : Value) (L : List ByteArray) : Prop := w.ownsRow B 9 1 v L.length (L.map .string)
def srtL (L : List ByteArray) : List ByteArray := (srtT (L.map bytesOf)).map mkB
theorem srtL_len (L : List ByteArray) : (srtL L).length = L.length := by
  unfold srtL
  rw [List.length_map, (srtT_perm _).length_eq, List.length_map]
theorem code_sort (v : Value) (L : List ByteArray) (B : Nat) (w : World) (h : OwnS w B v L) (hl : L.length ≤ 1000) :
    Calls Try.prog 52 #[v] w fun e w' => e = .returned (.tuple #[]) ∧ OwnS w' B v (srtL L) ∧ w.grownBy w' v.ownBlock := by
  rcases h.2 with ⟨rfl, h0⟩ | ⟨g, cap, cur, rfl, hbase, hb, h1, h2, h3, h4⟩
  · have : L = [] := List.eq_nil_of_length_eq_zero h0
    subst this
    refine (Try.slices_Sort_string_none none 0 w).mono ?_
    rintro e w' ⟨rfl, rfl⟩
    have e : srtL [] = [] := List.eq_nil_of_length_eq_zero (by rw [srtL_len]; rfl)
    rw [e]
    exact ⟨rfl, h, World.grownBy.refl _ _⟩
  · have hH : Holds encStr w g 0 (L.map bytesOf).toArray := holds_of_block hb (by rw [enc_str, List.length_map]; simpa using h4)
    have := Try.slices_Sort_string g 0 cap (L.map bytesOf) w hH (heapLt hb) (by rw [List.length_map]; omega)
    rw [List.length_map] at this
    refine this.mono ?_
    rintro e w' ⟨rfl, n, os, rfl⟩
    refine ⟨rfl, ?_, grownBy_sorted _⟩
    have hl2 : (srtT (L.map bytesOf)).length = (L.map bytesOf).length := (srtT_perm _).length_eq
    have k := ownsRow_sorted (n := n) (os := os) (base := B) hl2 hbase hb (by rw [List.length_map]; exact h1) h2 h3
    unfold OwnS
    rw [srtL_len]
    unfold srtL
    rw [← enc_mk]
    rw [List.length_map] at k
    exact k
theorem code_compact (v : Value) (L : List ByteArray) (B : Nat) (w : World) (h : OwnS w B v L) (hl : L.length ≤ 1000) (hs : ∀ s ∈ L, s.size ≤ 1000) :
    Calls Try.prog 53 #[v] w fun e w' => ∃ A c, e = .returned (.slice A (Lib.compact (L.map bytesOf)).length c) ∧ Strs w' A ((Lib.compact (L.map bytesOf)).map mkB) ∧ w.grownBy w' v.ownBlock := by
  rcases h.2 with ⟨rfl, h0⟩ | ⟨g, cap, cur, rfl, hbase, hb, h1, h2, h3, h4⟩
  · have : L = [] := List.eq_nil_of_length_eq_zero h0
    subst this
    refine (Try.slices_Compact_string_empty none 0 w).mono ?_
    rintro e w' ⟨rfl, rfl⟩
    exact ⟨none, 0, rfl, fun i hi => by simp [Lib.compact, Lib.compactUpTo] at hi, World.grownBy.refl _ _⟩
  · have hH : Holds encStr w g 0 (L.map bytesOf).toArray := holds_of_block hb (by rw [enc_str, List.length_map]; simpa using h4)
    have := Try.slices_Compact_string g 0 cap (L.map bytesOf) w hH (by rw [List.length_map]; omega) (by rw [List.length_map]; exact h1)
    rw [List.length_map] at this
    refine this.mono ?_
    rintro e w' ⟨rfl, q, rfl⟩
    have hle : (Lib.compact (L.map bytesOf)).length ≤ L.length := by
      have := Lib.compact_length_le (L.map bytesOf)
      rwa [List.length_map] at this
    have hP := holds_putRow encStr (Sort.ahead w q) g 0 (L.map bytesOf).toArray (Lib.compact (L.map bytesOf) ++ List.replicate (L.length - (Lib.compact (L.map bytesOf)).length) []).toArray (holds_ahead _ _ _ _ _ _ hH) (by simp; omega)
    refine ⟨some ⟨g, 0, none⟩, cap, rfl, fun i hi => ⟨⟨g, 0, none⟩, rfl, ?_, ?_, ?_⟩, ?_⟩
    · show g < (putRow encStr (Sort.ahead w q) g 0 _).heap.size
      rw [size_putRow]
      exact heapLt hb
    · rw [List.length_map] at hi
      have := (hP i (by simp; omega)).1
      rw [Addr.add_mid]
      rw [this, getElem!_pos _ i (by simp; omega)]
      simp [hi, encStr, mkB]
    · rw [List.length_map] at hi
      rw [List.getElem_map]
      have hm : (Lib.compact (L.map bytesOf))[i] ∈ L.map bytesOf := by
        have hx := List.getElem_mem hi
        unfold Lib.compact Lib.compactUpTo at hx
        obtain ⟨j, hj, e⟩ := List.mem_map.1 hx
        have hj2 := List.mem_range.1 (List.mem_filter.1 hj).1
        show (Lib.compact (L.map bytesOf))[i] ∈ L.map bytesOf
        have e2 : (Lib.compact (L.map bytesOf))[i] = (L.map bytesOf).toArray[j]! := e.symm
        rw [e2, getElem!_pos _ j (by simpa using hj2)]
        simp
        exact ⟨_, List.getElem_mem _, rfl⟩
      obtain ⟨s, hs1, hs2⟩ := List.mem_map.1 hm
      rw [← hs2, mkB_bytes]
      exact hs s hs1
    · have := @grownBy_sorted w g q #[] (Lib.compact (L.map bytesOf) ++ List.replicate (L.length - (Lib.compact (L.map bytesOf)).length) []).toArray
      rw [grow_empty] at this
      exact this
end Go.Proofs.Ytlnpflfkkjcopaa

namespace Go.Proofs.Ytlnpflfkkjcopaa
open Go.RowKit Go.Maps
set_option maxRecDepth 100000

def stL (T : Ks) : List ByteArray := T.reverse.map (·.1)
theorem stL_cons {T : Ks} {s : ByteArray} {c : Int} : stL ((s, c) :: T) = stL T ++ [s] := by
  unfold stL
  rw [List.reverse_cons, List.map_append]
  rfl
theorem stL_len (T : Ks) : (stL T).length = T.length := by
  unfold stL
  rw [List.length_map, List.length_reverse]
theorem own_grown {w w' : World} {B r : Nat} {v : Value} {L : List ByteArray} (h : OwnS w B v L) (hg : w.grownBy w' (some r)) (hr : some r ≠ v.ownBlock) : OwnS w' B v L :=
  World.ownsRow.kept (row := some r) h hg (by
    rcases h.2 with ⟨rfl, _⟩ | ⟨g, c, cur, rfl, _⟩
    · exact .inl rfl
    · exact .inr (Ne.symm hr))
theorem ownS_below {w w' : World} {B : Nat} {v : Value} {L : List ByteArray} (h : OwnS w B v L) (hb : Below w.heap.size w w') : OwnS w' B v L := own_belowS h hb
theorem ownS_iter {w : World} {B base R bm n r cnt : Nat} {F : Lns} {T : Ks} {v : Value} {L : List ByteArray} (h : OwnS w B v L) (hr : Rng w base R bm n F r T cnt) : some r ≠ v.ownBlock := by
  obtain ⟨_, ⟨D, left, h2, _⟩, _⟩ := hr
  exact row_ne_iter h h2
theorem wpList_append_strB {B : Nat} {wb w : World} {ops : Array Oper} {rest : List Oper} {o : Oper} {a : Act} {Q : Exit → Act → World → Prop} (hgd : o.guard = none) (s x : Operand)
    (ho : o.op = .call { callee := .builtin .append, args := #[s, x], argTypes := #[65, 65] }) (v : Value) (L : List ByteArray) (str : ByteArray) (hs : a.eval s = v) (hown : OwnS wb B v L)
    (hw : w = wb.alloc (.cells #[.string str] 9)) (g : Nat) (hg : wb.heap.size = g) (hx : a.eval x = .slice (some ⟨g, 0, none⟩) 1 1) (hb : B ≤ wb.heap.size) (hL : L.length ≤ 1000)
    (h : ∀ v' w', OwnS w' B v' (L ++ [str]) → w.grownBy w' v.ownBlock → wpList Try.prog ops Q rest (a.put o.dst v') w') :
    wpList Try.prog ops Q (o :: rest) a w := by
  subst hw hg
  obtain ⟨i0, hi, hz0, hz1, hz2⟩ := info_parts strfact
  have hb1 : Below wb.heap.size wb (wb.alloc (.cells #[.string str] 9)) := (Below.refl _ _).alloc (Nat.le_refl _) _
  refine wpList_append_own_at (P := Try.prog) _ hgd s x 65 ho B 9 i0 (.string {data:=#[]}) 1 16 Try.underlying65 hi hz0 hz1 hz2 rfl (by decide) v L.length (L.map .string) hs (own_belowS hown hb1) ⟨wb.heap.size, 0, none⟩ 1 1 [.string str] hx rfl ?_ ?_ (by unfold maxLen; omega) (by omega) (Nat.le_trans hb (by simp)) fun v' w' k1 k2 _ _ => ?_
  · intro j u hu
    cases j with
    | zero =>
      simp at hu
      subst hu
      have h7 : (⟨wb.heap.size, 0, none⟩ : Addr).add 0 = ⟨wb.heap.size, 0, none⟩ := by simp [Addr.add]
      rw [h7, cell_of_row _ wb.heap.size 0 _ _ _ (heap_alloc_new wb (.cells #[.string str] 9))]
      rfl
    | succ j => simp at hu
  · intro u hu
    simp at hu
    subst hu
    rfl
  · refine h v' w' ?_ k2
    unfold OwnS
    simpa using k1
theorem srtL_bytes (L : List ByteArray) : (srtL L).map bytesOf = srtT (L.map bytesOf) := by
  unfold srtL
  rw [List.map_map]
  have : (bytesOf ∘ mkB) = id := funext bytes_mkB
  rw [this, List.map_id]
theorem srtL_mem {L : List ByteArray} {s : ByteArray} (h : s ∈ srtL L) : s ∈ L := by
  unfold srtL at h
  obtain ⟨t, ht, rfl⟩ := List.mem_map.1 h
  obtain ⟨u, hu, rfl⟩ := List.mem_map.1 ((srtT_perm _).mem_iff.1 ht)
  rw [mkB_bytes]
  exact hu
theorem Rng.keep {w w' : World} {base R bm n r cnt : Nat} {F : Lns} {T : Ks} {row : Option Nat} (h : Rng w base R bm n F r T cnt) (h1 : RtAt w' base R bm n F) (hg : w.grownBy w' row) (hb : some bm ≠ row) (hr : some r ≠ row) : Rng w' base R bm n F r T cnt := by
  obtain ⟨_, ⟨D, left, h2, h3⟩, h4⟩ := h
  exact ⟨h1, ⟨D, left, h2.kept hg hb hr, h3⟩, h4⟩
set_option maxHeartbeats 2000000 in
theorem code_rstates {w : World} {base R bm n : Nat} {F : Lns} (h : RtAt w base R bm n F) (hbd : ∀ T, KsOk F T → T.length ≤ 999) : Calls Try.prog 32 #[.pointer (some ⟨R, 0, none⟩)] w fun e w' =>
    ∃ T, KsOk F T ∧ (∀ s c, okKey s c → (F s c).isSome = true → (s, c) ∈ T) ∧ ToldL w (onceL (stL T)) e w' := by
  have HMade := Lib.hid (code_rmade h)
  have HH := Lib.hid h
  have HBd := Lib.hid hbd
  have c0 := h.cell
  clear h hbd
  go_enter Try.func32, Try.ntmps32
  go_wp2_with (first
    | (go_at_call 44; refine HMade.out.mono ?_; rintro e w1 ⟨rfl, rfl⟩)
    | (at_range; refine wpList_range_rt rfl _ rfl HH.out rfl ?_; intro w1 cnt1 hrg hb1; have HRg := Lib.hid hrg; have HB1 := Lib.hid hb1; have HW1 : Hid (w.heap.size < w1.heap.size) := (Lib.hid (by obtain ⟨_, _, _, _, hi⟩ := (hrg.2.1.elim fun D h => h.elim fun l h => iter_of h.1); exact heapLt hi)); clear hrg hb1))
  go_frame
  clear HMade c0
  go_loopw [3] (fun v wr => ∃ (T : Ks) (cnt : Nat), Hid (OwnS wr (w.heap.size + 1) v (stL T)) ∧ Hid (Rng wr base R bm n F w.heap.size T cnt) ∧ Hid (Below w.heap.size w wr ∧ w.heap.size < wr.heap.size)) (fun _ wr => wr.rangeLeft bm w.heap.size)
  case atStart => exact ⟨[], cnt1, Lib.hid (World.ownsRow_nil _ _ _ _), HRg, Lib.hid ⟨HB1.out, HW1.out⟩⟩
  case round =>
    clear HRg HB1 HW1
    obtain ⟨T, cnt, HO, HRg, HB⟩ := hrel
    go_wp2_with (first | (at_next; refine wpList_next_rt rfl _ rfl HRg.out rfl ?_ ?_))
    · intro hall
      have hks := HRg.out.ks
      have hln := HBd.out _ hks
      have HSo := Lib.hid (code_sort u3 (stL T) (w.heap.size + 1) wr HO.out (by rw [stL_len]; omega))
      have HK := Lib.hid (And.intro hks (And.intro hall hln))
      clear hks hall hln
      go_wp2_with (go_at_call 52; refine HSo.out.mono ?_; rintro e w2 ⟨rfl, ho, hg⟩; have HO2 := Lib.hid ho; have HB2 : Hid (Below w.heap.size w w2 ∧ w.heap.size < w2.heap.size) := (Lib.hid ⟨HB.out.1.grown hg (Nat.le_of_lt HB.out.2) (fun q hq => Nat.le_of_succ_le (World.ownsRow.lt HO.out q hq).1), Nat.lt_of_lt_of_le HB.out.2 hg.size⟩); clear ho hg; refine Stop.out ?_)
      unfold Stop
      have HCo := Lib.hid (code_compact u3 (srtL (stL T)) (w.heap.size + 1) w2 HO2.out (by rw [srtL_len, stL_len]; have := HK.out.2.2; omega) (fun s hs => by
        obtain ⟨t, ht, rfl⟩ := List.mem_map.1 (srtL_mem hs)
        exact (HK.out.1.2 t (List.mem_reverse.1 ht)).1.1))
      go_wp2_with (go_at_call 53; refine HCo.out.mono ?_; rintro e w3 ⟨A, cc, rfl, hs, hg⟩; have HS3 := Lib.hid hs; have HB3 : Hid (Below w.heap.size w w3) := (Lib.hid (HB2.out.1.grown hg (Nat.le_of_lt HB2.out.2) (fun q hq => Nat.le_of_succ_le (World.ownsRow.lt HO2.out q hq).1))); clear hs hg)
      go_ret
      refine ⟨T, HK.out.1, HK.out.2.1, A, cc, ?_, ?_, HB3.out⟩
      · unfold onceL
        rw [List.length_map, ← srtL_bytes]
        rfl
      · have := HS3.out
        rw [srtL_bytes] at this
        exact this
    · intro s c B L w' cnt' hF hT hk hrg hlt hg hsz hen
      have HO1 := Lib.hid (own_grown HO.out hg (ownS_iter HO.out HRg.out))
      have hb' : Below w.heap.size wr w' := ⟨hg.os, hg.tape, hg.output, hg.size, fun k hk2 => hg.block k (by have := HB.out.2; omega) (fun e => by have e2 : k = w.heap.size := Option.some.inj e; omega)⟩
      have HB' := Lib.hid (And.intro (HB.out.1.trans hb') (Nat.lt_of_lt_of_le HB.out.2 hg.size))
      have HRg' := Lib.hid hrg
      have HM : Hid (cnt' < cnt) := Lib.hid hlt
      have HLn : Hid ((stL T).length ≤ 1000) := Lib.hid (by have := HBd.out _ HRg.out.ks; rw [stL_len]; omega)
      have HBx := Lib.hid (below_alloc w' (.cells #[.string s, .int .i64 c] 90))
      clear hb' hrg hlt hg hsz hF hT hk
      unfold keyV at hen ⊢
      go_wp2_with (refine wpList_append_strB (B := w.heap.size + 1) (wb := w'.alloc (.cells #[.string s, .int .i64 c] 90)) rfl _ _ rfl u3 (stL T) s rfl (ownS_below HO1.out HBx.out) rfl (w'.heap.size + 1) (by simp) rfl ?c1 ?c2 ?_; (case c1 => have := HB'.out.2; have := HBx.out.size; omega); (case c2 => exact HLn.out); intro v9 w9 hown hg9; have HO9 := Lib.hid hown; have HG9 := Lib.hid hg9; clear hown hg9; refine Stop.out ?_)
      unfold Stop
      have HBy := Lib.hid (below_then HBx.out (below_alloc (w'.alloc (.cells #[.string s, .int .i64 c] 90)) (.cells #[.string s] 9)))
      have HOy := Lib.hid (ownS_below HO1.out HBy.out)
      have HRy := Lib.hid (HRg'.out.on HBy.out)
      have hg : ((w'.alloc (.cells #[.string s, .int .i64 c] 90)).alloc (.cells #[.string s] 9)).grownBy w9 u3.ownBlock := HG9.out
      have hlow : ∀ q, u3.ownBlock = some q → w.heap.size + 1 ≤ q := fun q hq => (World.ownsRow.lt HOy.out q hq).1
      have hb9 : Below w.heap.size w w9 := (below_then HB'.out.1 HBy.out).grown hg (Nat.le_trans (Nat.le_of_lt HB'.out.2) HBy.out.size) (fun q hq => Nat.le_of_succ_le (hlow q hq))
      have HR9 : Hid (Rng w9 base R bm n F w.heap.size ((s, c) :: T) cnt') := Lib.hid (HRy.out.keep (HH.out.on hb9) hg (fun e => by have := hlow bm e.symm; have := HH.out.bmlt; omega) (fun e => by have := hlow _ e.symm; omega))
      have HB9 := Lib.hid (And.intro hb9 (Nat.lt_of_lt_of_le HB'.out.2 (Nat.le_trans HBy.out.size hg.size)))
      have HML : Hid (w9.rangeLeft bm w.heap.size < wr.rangeLeft bm w.heap.size) := Lib.hid (by rw [HR9.out.left, HRg.out.left]; exact HM.out)
      clear hg hlow hb9 HG9
      go_wp2
      go_roundw
      case rel => exact ⟨(s, c) :: T, cnt', by rw [stL_cons]; exact HO9, HR9, HB9⟩
      case measure => exact HML.out
end Go.Proofs.Ytlnpflfkkjcopaa
