/- Texts sorted; all keys, sorted. -/
import Derived.Test.YtgljajoknmgoeaaGreatPrZ
import Derived.Test.YtgljajoknmgoeaaGreatVatSort
import Derived.Sort.OwnSorted
namespace Go.Proofs.YtgljajoknmgoeaaGreat
open Go.RowKit Go.Sort Go.Shelf
set_option maxRecDepth 100000

def bytesOf (s : ByteArray) : List UInt8 := s.data.toList
theorem bytes_inj' {a b : ByteArray} (h : bytesOf a = bytesOf b) : a = b := by
  obtain ⟨⟨x⟩⟩ := a
  obtain ⟨⟨y⟩⟩ := b
  simp [bytesOf] at h
  rw [h]
abbrev Tx := List UInt8
theorem le_tot (x y : Tx) : (decide (x ≤ y) || decide (y ≤ x)) = true := by
  rcases List.le_total x y with h | h
  · simp [h]
  · simp [h]
theorem le_tr (x y z : Tx) (h1 : decide (x ≤ y) = true) (h2 : decide (y ≤ z) = true) : decide (x ≤ z) = true :=
  decide_eq_true (List.le_trans (of_decide_eq_true h1) (of_decide_eq_true h2))
theorem le_anti {x y : Tx} (h1 : x ≤ y) (h2 : y ≤ x) : x = y := List.le_antisymm h1 h2
def srtT (L : List Tx) : List Tx := L.mergeSort fun x y => decide (x ≤ y)
theorem srtT_perm (L : List Tx) : (srtT L).Perm L := List.mergeSort_perm ..
theorem srtT_sorted (L : List Tx) : (srtT L).Pairwise (fun x y => x ≤ y) :=
  (List.pairwise_mergeSort (le := fun x y => decide (x ≤ y)) le_tr le_tot L).imp fun h => of_decide_eq_true h
theorem sorted_eq : ∀ {A B : List Tx}, A.Pairwise (fun x y => x ≤ y ∧ x ≠ y) → B.Pairwise (fun x y => x ≤ y ∧ x ≠ y) → (∀ x, x ∈ A ↔ x ∈ B) → A = B
  | [], [], _, _, _ => rfl
  | [], b :: B, _, _, h => absurd ((h b).2 (List.mem_cons_self ..)) (by simp)
  | a :: A, [], _, _, h => absurd ((h a).1 (List.mem_cons_self ..)) (by simp)
  | a :: A, b :: B, hA, hB, h => by
    obtain ⟨ha, hA'⟩ := List.pairwise_cons.1 hA
    obtain ⟨hb, hB'⟩ := List.pairwise_cons.1 hB
    have e : a = b := by
      rcases List.mem_cons.1 ((h a).1 (List.mem_cons_self ..)) with e | e
      · exact e
      · rcases List.mem_cons.1 ((h b).2 (List.mem_cons_self ..)) with e2 | e2
        · exact e2.symm
        · exact le_anti (ha b e2).1 (hb a e).1
    subst e
    congr 1
    refine sorted_eq hA' hB' fun x => ⟨fun hx => ?_, fun hx => ?_⟩
    · rcases List.mem_cons.1 ((h x).1 (List.mem_cons_of_mem _ hx)) with e | e
      · exact absurd e.symm (ha x hx).2
      · exact e
    · rcases List.mem_cons.1 ((h x).2 (List.mem_cons_of_mem _ hx)) with e | e
      · exact absurd e.symm (hb x hx).2
      · exact e
def mkB (l : Tx) : ByteArray := ⟨l.toArray⟩
theorem mkB_bytes (s : ByteArray) : mkB (bytesOf s) = s := by
  obtain ⟨⟨l⟩⟩ := s
  rfl
theorem bytes_mkB (l : Tx) : bytesOf (mkB l) = l := rfl
theorem enc_str (L : List ByteArray) : (L.map bytesOf).map encStr = L.map .string := by
  rw [List.map_map]
  congr 1
theorem enc_mk (Z : List Tx) : Z.map encStr = (Z.map mkB).map .string := by
  rw [List.map_map]
  rfl
def srtL (L : List ByteArray) : List ByteArray := (srtT (L.map bytesOf)).map mkB
theorem srtL_len (L : List ByteArray) : (srtL L).length = L.length := by
  unfold srtL
  rw [List.length_map, (srtT_perm _).length_eq, List.length_map]
theorem code_sort (v : Value) (L : List ByteArray) (B : Nat) (w : World) (h : OwnS w B v L) (hl : L.length ≤ 1000) :
    Calls Tryz.prog 41 #[v] w fun e w' => e = .returned (.tuple #[]) ∧ OwnS w' B v (srtL L) ∧ w.grownBy w' v.ownBlock := by
  rcases h.2 with ⟨rfl, h0⟩ | ⟨g, cap, cur, rfl, hbase, hb, h1, h2, h3, h4⟩
  · have : L = [] := List.eq_nil_of_length_eq_zero h0
    subst this
    refine (Tryz.slices_Sort_string_none none 0 w).mono ?_
    rintro e w' ⟨rfl, rfl⟩
    have e : srtL [] = [] := List.eq_nil_of_length_eq_zero (by rw [srtL_len]; rfl)
    rw [e]
    exact ⟨rfl, h, World.grownBy.refl _ _⟩
  · have hH : Holds encStr w g 0 (L.map bytesOf).toArray := holds_of_block hb (by rw [enc_str, List.length_map]; simpa using h4)
    have := Tryz.slices_Sort_string g 0 cap (L.map bytesOf) w hH (heapLt hb) (by rw [List.length_map]; omega)
    rw [List.length_map] at this
    refine this.mono ?_
    rintro e w' ⟨rfl, n, os, rfl⟩
    refine ⟨rfl, ?_, grownBy_sorted _⟩
    have hl2 : (srtT (L.map bytesOf)).length = (L.map bytesOf).length := (srtT_perm _).length_eq
    have k := ownsRow_sorted (n := n) (os := os) (base := B) hl2 hbase hb (by rw [List.length_map]; exact h1) h2 h3
    unfold OwnS
    rw [srtL_len]
    unfold srtL
    rw [← enc_mk]
    rw [List.length_map] at k
    exact k
theorem srtL_bytes (L : List ByteArray) : (srtL L).map bytesOf = srtT (L.map bytesOf) := by
  unfold srtL
  rw [List.map_map]
  have : (bytesOf ∘ mkB) = id := funext bytes_mkB
  rw [this, List.map_id]
theorem srtL_mem {L : List ByteArray} {s : ByteArray} (h : s ∈ srtL L) : s ∈ L := by
  unfold srtL at h
  obtain ⟨t, ht, rfl⟩ := List.mem_map.1 h
  obtain ⟨u, hu, rfl⟩ := List.mem_map.1 ((srtT_perm _).mem_iff.1 ht)
  rw [mkB_bytes]
  exact hu

theorem all_eq {F : Lns} {T T' : Ks} (h : AllK F T) (h' : AllK F T') : srtL T = srtL T' := by
  have inj : ∀ {a b : ByteArray}, bytesOf a = bytesOf b → a = b := bytes_inj'
  have nd : ∀ {T : Ks}, AllK F T → (srtT (T.map bytesOf)).Pairwise (fun x y => x ≤ y ∧ x ≠ y) := fun {T} h => by
    have h1 := srtT_sorted (T.map bytesOf)
    have h2 : (srtT (T.map bytesOf)).Nodup := (srtT_perm _).nodup_iff.2 (List.Pairwise.map bytesOf (fun a b hab e => hab (inj e)) h.1.1)
    exact List.pairwise_and_iff.2 ⟨h1, h2⟩
  have e : srtT (T.map bytesOf) = srtT (T'.map bytesOf) := sorted_eq (nd h) (nd h') (fun x => by
    rw [(srtT_perm _).mem_iff, (srtT_perm _).mem_iff, List.mem_map, List.mem_map]
    constructor
    · rintro ⟨a, ha, rfl⟩
      have := h.1.2 a ha
      exact ⟨a, h'.2 a this.1 this.2, rfl⟩
    · rintro ⟨a, ha, rfl⟩
      have := h'.1.2 a ha
      exact ⟨a, h.2 a this.1 this.2, rfl⟩)
  unfold srtL
  rw [e]
section
variable {w : World} {g base bm n : Nat} {F : Lns}
theorem code_collect (hg : w.heap[g]? = some (.cells #[.map (some bm)] 56 (0, 0))) (h : PmAt w base bm n F) (hbd : ∀ T, KsOk F T → T.length ≤ 1000) :
    Calls Tryz.prog 40 #[keyF g] w fun e w' => ∃ v T, e = .returned v ∧ AllK F T ∧ OwnS w' (w.heap.size + 1) v T ∧ Below w.heap.size w w' := by
  have HA := Lib.hid (code_appendSeq hg h hbd)
  clear hg h hbd
  unfold keyF at *
  go_enter Tryz.func40, Tryz.ntmps40
  go_wp2_with (go_at_call 59; refine HA.out.mono ?_; rintro e w1 ⟨v, T, rfl, h1, h2, h3⟩; have H1 := Lib.hid (And.intro h1 (And.intro h2 h3)); clear h1 h2 h3)
  go_ret
  exact ⟨v, T, rfl, H1.out⟩
theorem code_sorted (hg : w.heap[g]? = some (.cells #[.map (some bm)] 56 (0, 0))) (h : PmAt w base bm n F) (hbd : ∀ T, KsOk F T → T.length ≤ 1000) :
    Calls Tryz.prog 26 #[keyF g] w fun e w' => ∃ v T, e = .returned v ∧ AllK F T ∧ OwnS w' (w.heap.size + 1) v (srtL T) ∧ Below w.heap.size w w' := by
  have HC := Lib.hid (code_collect hg h hbd)
  have HBd := Lib.hid hbd
  clear hg h hbd
  unfold keyF at *
  go_enter Tryz.func26, Tryz.ntmps26
  go_wp2_with (go_at_call 40; refine HC.out.mono ?_; rintro e w1 ⟨v, T, rfl, h1, h2, h3⟩; have H1 := Lib.hid (And.intro h1 (And.intro h2 h3)); clear h1 h2 h3; refine Stop.out ?_)
  unfold Stop
  have HS := Lib.hid (code_sort v T (w.heap.size + 1) w1 H1.out.2.1 (HBd.out _ H1.out.1.1))
  go_wp2_with (go_at_call 41; refine HS.out.mono ?_; rintro e w2 ⟨rfl, h2, h3⟩; have H2 := Lib.hid (And.intro h2 h3); clear h2 h3; refine Stop.out ?_)
  unfold Stop
  go_wp2
  go_ret
  refine ⟨v, T, rfl, H1.out.1, H2.out.1, ?_⟩
  have hr := H2.out.2
  exact H1.out.2.2.trans ⟨hr.os, hr.tape, hr.output, hr.size, fun k hk => hr.block k (by have := H1.out.2.2.size; omega) (fun e => by have := (World.ownsRow.lt H1.out.2.1 k e.symm).1; omega)⟩
theorem code_keys : Calls Tryz.prog 27 #[.map (some bm)] w fun e w' => e = .returned (keyF w.heap.size) ∧ w'.heap[w.heap.size]? = some (.cells #[.map (some bm)] 56 (0, 0)) ∧ Below w.heap.size w w' := by
  have hmf : ∀ (fn : Fn) (first cap : Array Value) (w : World), (Instr.makeFunc fn first cap).run Tryz.prog w = .ok (.func fn first cap) w := fun _ _ _ _ => rfl
  unfold keyF
  go_enter Tryz.func27, Tryz.ntmps27
  go_wp2
  go_ret
  exact ⟨rfl, heap_alloc_new _ _, below_alloc _ _⟩
end
theorem code_known {w : World} {base P B0 bm n : Nat} {h : ByteArray} {O : List Sp} {F : Lns} (H : PpAt w base P B0 bm n h O F) (hbd : ∀ T, KsOk F T → T.length ≤ 1000) :
    Calls Tryz.prog 9 #[.pointer (some ⟨P, 0, none⟩)] w fun e w' => ∃ v T, e = .returned v ∧ AllK F T ∧ OwnS w' w.heap.size v (srtL T) ∧ Below w.heap.size w w' := by
  have HMade := Lib.hid (code_pmade H)
  have HK := Lib.hid (code_keys (w := w) (bm := bm))
  obtain ⟨c0, c1, c2⟩ := row3a H.1
  have HH := Lib.hid H.2.1
  have HBd := Lib.hid hbd
  clear H hbd
  unfold keyF at *
  go_enter Tryz.func9, Tryz.ntmps9
  go_wp2_with (first | (go_at_call 24; refine HMade.out.mono ?_; rintro e w1 ⟨rfl, rfl⟩) | (go_at_call 27; refine HK.out.mono ?_; rintro e w1 ⟨rfl, h1, h2⟩; have H1 := Lib.hid (And.intro h1 h2); clear h1 h2; refine Stop.out ?_))
  unfold Stop
  have HS := code_sorted H1.out.1 (HH.out.on H1.out.2) HBd.out
  unfold keyF at HS
  have HSs := Lib.hid HS
  clear HS
  go_wp2_with (go_at_call 26; refine HSs.out.mono ?_; rintro e w2 ⟨v, T, rfl, h1, h2, h3⟩; have H2 := Lib.hid (And.intro h1 (And.intro h2 h3)); clear h1 h2 h3; refine Stop.out ?_)
  unfold Stop
  go_wp2
  go_ret
  refine ⟨v, T, rfl, H2.out.1, ?_, below_then H1.out.2 H2.out.2.2⟩
  have hlt := H1.out.2.size
  have ho := H2.out.2.1
  refine ⟨ho.1, ?_⟩
  rcases ho.2 with h | ⟨g', c, cur, e, hB, hr⟩
  · exact .inl h
  · exact .inr ⟨g', c, cur, e, by omega, hr⟩
end Go.Proofs.YtgljajoknmgoeaaGreat
