/- People against all that was set. -/
import Derived.Test.YtgljajoknmgoeaaGreatPrK
import Derived.Test.YtgljajoknmgoeaaGreatPrC
namespace Go.Proofs.YtgljajoknmgoeaaGreat
open Go.RowKit
set_option maxRecDepth 100000

/-- the program's lines, and the document's lists -/
structure RelP (O : List Sp) (F : Lns) (OD : List Sp) (M : List St) : Prop where
  opt : Inv O OD
  inv : ∀ s, okKey s → Inv (Ln F s) (lineD M s)
  has : ∀ s, okKey s → ((F s).isSome = true ↔ lineD M s ≠ [])
  ok : ∀ r ∈ M, r.1.size ≤ 1000 ∧ r.1.size ≠ 0
theorem RelP.nil : RelP [] (fun _ => none) [] [] := ⟨Inv.nil, fun _ _ => Inv.nil, fun _ _ => ⟨fun h => (by cases h), fun h => absurd rfl h⟩, fun r hr => absurd hr (by simp)⟩
theorem Cp.ln {F F2 : Lns} (h : Cp F F2) (s : ByteArray) : Ln F2 s = Ln F s ∧ (F2 s).isSome = (F s).isSome := by
  have e := h s
  unfold Ln
  cases h1 : F s <;> cases h2 : F2 s <;> rw [h1, h2] at e <;> simp_all
theorem RelP.copy {O : List Sp} {F F2 : Lns} {OD : List Sp} {M : List St} (h : RelP O F OD M) (hc : Cp F F2) : RelP O F2 OD M :=
  ⟨h.opt, fun s hk => by rw [(hc.ln s).1]; exact h.inv s hk, fun s hk => by rw [(hc.ln s).2]; exact h.has s hk, h.ok⟩
theorem RelP.choose {O : List Sp} {F : Lns} {OD : List Sp} {M : List St} (h : RelP O F OD M) (p : Sp) : RelP (setL 256 O p) F (refL 256 OD p) M := ⟨h.opt.set, h.inv, h.has, h.ok⟩
theorem lineD_snoc (M : List St) (x : St) (s : ByteArray) : lineD (M ++ [x]) s = lineD M s ++ (if x.1 = s then [x.2] else []) := by
  unfold lineD
  rw [List.filter_append, List.map_append]
  by_cases h : x.1 = s
  · rw [if_pos h]; simp [h]
  · rw [if_neg h]; simp [h]
theorem RelP.err {O : List Sp} {F : Lns} {OD : List Sp} {M : List St} (h : RelP O F OD M) {s : ByteArray} (hk : okKey s) (f u : Int) : setE 256 (Ln F s) f u = refE 256 (lineD M s) f u := setE_ref (h.inv s hk)
theorem RelP.set {O : List Sp} {F F' : Lns} {OD : List Sp} {M : List St} (h : RelP O F OD M) {c m : ByteArray} {p : Sp} (hk : okKey (c ++ m)) (hne : (c ++ m).size ≠ 0) (hr : rightP c m = true) (hs : Stp F (c ++ m) p F') : RelP O F' OD (stL M c m p) := by
  have he := h.err hk p.1 p.2.1
  have e0 : stE M c m p.1 p.2.1 = refE 256 (lineD M (c ++ m)) p.1 p.2.1 := by unfold stE; rw [hr, if_pos rfl]
  rcases hs with ⟨hn, rfl⟩ | ⟨hz, B, rfl⟩
  · have : stL M c m p = M := by unfold stL; rw [if_neg (by rw [e0, ← he]; exact hn)]
    rw [this]
    exact h
  · have e1 : stL M c m p = M ++ [(c ++ m, p)] := by unfold stL; rw [if_pos (by rw [e0, ← he]; exact hz)]
    rw [e1]
    have hl : refL 256 (lineD M (c ++ m)) p = lineD M (c ++ m) ++ [p] := by unfold refL; rw [if_pos (by rw [← he]; exact hz)]
    refine ⟨h.opt, fun s hk' => ?_, fun s hk' => ?_, fun r hr => ?_⟩
    · rw [lineD_snoc]
      by_cases e : s = c ++ m
      · subst e
        rw [if_pos rfl]
        have := (h.inv _ hk').set (most := 256) (p := p)
        rw [hl] at this
        unfold Ln
        rw [upd_same]
        exact this
      · rw [if_neg (fun h => e h.symm), List.append_nil]
        have := h.inv s hk'
        unfold Ln at this ⊢
        rw [upd_other e]
        exact this
    · rw [lineD_snoc]
      by_cases e : s = c ++ m
      · subst e
        rw [upd_same, if_pos rfl]
        simp
      · rw [upd_other e, if_neg (fun h => e h.symm), List.append_nil]
        exact h.has s hk'
    · rcases List.mem_append.1 hr with hr | hr
      · exact h.ok r hr
      · simp at hr
        subst hr
        exact ⟨hk, hne⟩
theorem RelP.not {O : List Sp} {F : Lns} {OD : List Sp} {M : List St} (h : RelP O F OD M) {c m : ByteArray} {p : Sp} (hr : rightP c m = false) : RelP O F OD (stL M c m p) ∧ stE M c m p.1 p.2.1 = 40 := by
  have e : stE M c m p.1 p.2.1 = 40 := by unfold stE; rw [hr]; rfl
  exact ⟨by unfold stL; rw [if_neg (by rw [e]; decide)]; exact h, e⟩
theorem RelP.biz {O : List Sp} {F : Lns} {OD : List Sp} {M : List St} (h : RelP O F OD M) {home c m : ByteArray} (hk : okKey (c ++ m)) (d : Int) : bizB home F c m d = bizD home M c m d := by
  unfold bizB bizD
  rw [((h.inv _ hk).at_ d).2]
theorem RelP.opted {O : List Sp} {F : Lns} {OD : List Sp} {M : List St} (h : RelP O F OD M) (d : Int) : atB O d = atB OD d := (h.opt.at_ d).2
theorem mem_names {M : List St} {s : ByteArray} : lineD M s ≠ [] ↔ s ∈ M.map (·.1) := by
  unfold lineD
  rw [ne_eq, List.map_eq_nil_iff, List.filter_eq_nil_iff, List.mem_map]
  constructor
  · intro h
    by_cases h2 : ∃ r ∈ M, r.1 = s
    · exact h2
    · exact absurd (fun r hr => by simpa using fun e => h2 ⟨r, hr, e⟩) h
  · rintro ⟨r, hr, rfl⟩ h
    have := h r hr
    simp at this
theorem RelP.names {O : List Sp} {F : Lns} {OD : List Sp} {M : List St} (h : RelP O F OD M) {T : Ks} (hT : KsOk F T) : T.length ≤ M.length := by
  have := List.Nodup.length_le_of_subset hT.1 (l₂ := M.map (·.1)) (fun s hs => mem_names.1 ((h.has s (hT.2 s hs).1).1 (hT.2 s hs).2))
  rwa [List.length_map] at this
theorem RelP.known {O : List Sp} {F : Lns} {OD : List Sp} {M : List St} (h : RelP O F OD M) {T : Ks} {D : List ByteArray} (hT : AllK F T) (hD : AllD M D) : srtL T = D := by
  have inj : ∀ {a b : ByteArray}, bytesOf a = bytesOf b → a = b := bytes_inj'
  have nd : (srtT (T.map bytesOf)).Pairwise (fun x y => x ≤ y ∧ x ≠ y) := by
    have h1 := srtT_sorted (T.map bytesOf)
    have h2 : (srtT (T.map bytesOf)).Nodup := (srtT_perm _).nodup_iff.2 (List.Pairwise.map bytesOf (fun a b hab e => hab (inj e)) hT.1.1)
    exact List.pairwise_and_iff.2 ⟨h1, h2⟩
  have nd2 : (D.map bytesOf).Pairwise (fun x y => x ≤ y ∧ x ≠ y) := List.Pairwise.map bytesOf (fun a b hab => ⟨List.not_lt.1 (fun k => ltS_irr _ (ltS_trans hab k)), fun e => by
    have := inj e
    subst this
    exact ltS_irr _ hab⟩) hD.1
  have e : srtT (T.map bytesOf) = D.map bytesOf := sorted_eq nd nd2 (fun x => by
    rw [(srtT_perm _).mem_iff, List.mem_map, List.mem_map]
    constructor
    · rintro ⟨a, ha, rfl⟩
      have := hT.1.2 a ha
      exact ⟨a, (hD.2 a).2 (mem_names.1 ((h.has a this.1).1 this.2)), rfl⟩
    · rintro ⟨a, ha, rfl⟩
      have h1 := (hD.2 a).1 ha
      obtain ⟨r, hr, rfl⟩ := List.mem_map.1 h1
      have hk : okKey r.1 := (h.ok r hr).1
      exact ⟨r.1, hT.2 _ hk ((h.has _ hk).2 (mem_names.2 h1)), rfl⟩)
  unfold srtL
  rw [e, List.map_map]
  conv => rhs; rw [← List.map_id D]
  exact List.map_congr_left (fun a _ => mkB_bytes a)
theorem stL_len (M : List St) (c m : ByteArray) (p : Sp) : (stL M c m p).length ≤ M.length + 1 := by
  unfold stL
  split <;> simp
theorem refL_len {most : Nat} {w : List Sp} {p : Sp} : (refL most w p).length ≤ w.length + 1 := by
  unfold refL
  split <;> simp
theorem right_size {c m : ByteArray} (h : rightP c m = true) : c.size ≠ 0 := fun e => by
  unfold rightP at h
  have h1 : isMem c = false := by
    cases h2 : isMem c with
    | false => rfl
    | true => have := mem_size h2; omega
  rw [h1] at h
  simp only [Bool.false_eq_true, if_false] at h
  unfold roomN at h
  obtain ⟨⟨l⟩⟩ := c
  match l, e with
  | [], _ => simp [strT, Vat.country] at h
/-- a status set, be it a right one or not: the document's error, and people that are the document's -/
theorem status_rel {w : World} {base P B0 bm n : Nat} {h : ByteArray} {O : List Sp} {F : Lns} {OD : List Sp} {M : List St} (H : PpAt w base P B0 bm n h O F) (hR : RelP O F OD M) (hM : MaxL w) (c m : ByteArray) (f u x : Int) (hc : c.size ≤ 500) (hm : m.size ≤ 500) (hn : n < maxLen) :
    Calls Tryz.prog 12 #[.pointer (some ⟨P, 0, none⟩), .string c, .string m, .agg #[.int .i64 f, .int .i64 u]] w fun e w' => e = .returned (.int .i64 (stE M c m f u)) ∧ Below base w w' ∧ (∀ k, k < w.heap.size → k ≠ bm → (∀ s L, F s ≠ some (k, L)) → w'.heap[k]? = w.heap[k]?) ∧
      ∃ F', PpAt w' base P B0 bm (n + 1) h O F' ∧ RelP O F' OD (stL M c m (f, u, x)) := by
  have hk : okKey (c ++ m) := by unfold okKey; rw [ByteArray.size_append]; omega
  cases hr : rightP c m with
  | true =>
    have hne : (c ++ m).size ≠ 0 := by have := right_size hr; rw [ByteArray.size_append]; omega
    have he : setE 256 (Ln F (c ++ m)) f u = stE M c m f u := by rw [hR.err hk]; unfold stE; rw [hr, if_pos rfl]
    have := code_status_k H hM c m f u x hc hm hr hn
    rw [he] at this
    exact this.mono fun _ _ ⟨a, b, d, F', h1, h2⟩ => ⟨a, b, d, F', h1, hR.set hk hne hr h2⟩
  | false =>
    obtain ⟨h1, h2⟩ := hR.not (p := (f, u, x)) hr
    have := status_name H hM c m f u hc hm hr
    rw [← h2] at this
    exact this.mono fun _ _ ⟨a, b⟩ => ⟨a, b.mono H.baseLe, fun k hk _ _ => b.block k hk, F, (H.on b).mono (by omega), h1⟩
end Go.Proofs.YtgljajoknmgoeaaGreat
