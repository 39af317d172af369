/- What the lines are, held against all that was set. -/
import Derived.Test.YtlnpflfkkjcopaaRtSu
import Derived.Test.YtlnpflfkkjcopaaRtY
import Derived.Test.YtlnpflfkkjcopaaRtU
import Derived.Test.YtlnpflfkkjcopaaRtZ
import Derived.Test.YtlnpflfkkjcopaaRtI
namespace Go.Proofs.Ytlnpflfkkjcopaa
open Go.RowKit
set_option maxRecDepth 100000

structure RelR (F : Lns) (M : List Rt) : Prop where
  inv : ∀ s c, okKey s c → Inv (Ln F s c) (lineR M s c)
  has : ∀ s c, okKey s c → ((F s c).isSome = true ↔ lineR M s c ≠ [])
  mem : ∀ r ∈ M, isMem r.1 = true ∧ okKey r.1 r.2.1
theorem RelR.nil : RelR (fun _ _ => none) [] := ⟨fun _ _ _ => Inv.nil, fun _ _ _ => ⟨fun h => (by cases h), fun h => absurd rfl h⟩, fun r hr => absurd hr (by simp)⟩
theorem Cp.ln {F F2 : Lns} (h : Cp F F2) (s : ByteArray) (c : Int) : Ln F2 s c = Ln F s c ∧ (F2 s c).isSome = (F s c).isSome := by
  have := h s c
  unfold Ln
  cases h1 : F s c <;> cases h2 : F2 s c <;> rw [h1, h2] at this <;> simp at this
  · exact ⟨rfl, rfl⟩
  · exact ⟨this, rfl⟩
theorem RelR.copy {F F2 : Lns} {M : List Rt} (h : RelR F M) (hc : Cp F F2) : RelR F2 M :=
  ⟨fun s c hk => by rw [(hc.ln s c).1]; exact h.inv s c hk, fun s c hk => by rw [(hc.ln s c).2]; exact h.has s c hk, h.mem⟩
theorem lineR_snoc (M : List Rt) (x : Rt) (s : ByteArray) (c : Int) : lineR (M ++ [x]) s c = lineR M s c ++ (if keyB s c x = true then [x.2.2] else []) := by
  unfold lineR
  rw [List.filter_append, List.map_append]
  congr 1
  by_cases h : keyB s c x = true
  · rw [if_pos h]; simp [h]
  · rw [if_neg h]; simp [h]
theorem keyB_iff {s : ByteArray} {c : Int} {x : Rt} : keyB s c x = true ↔ x.1 = s ∧ x.2.1 = c := by
  unfold keyB
  rw [Bool.and_eq_true, decide_eq_true_iff, decide_eq_true_iff]
theorem RelR.err {F : Lns} {M : List Rt} (h : RelR F M) (s : ByteArray) (c : Int) (p : Sp) : setRE F s c p = rsetE M (s, c, p) := by
  unfold setRE rsetE
  cases hm : isMem s with
  | false => rfl
  | true =>
    rw [if_pos rfl, if_pos rfl]
    by_cases hok : ratB c = true ∧ 0 ≤ p.2.2 ∧ p.2.2 ≤ 10000
    · rw [if_pos hok, if_pos hok]
      exact setE_ref (h.inv s c (mem_ok hm hok.1))
    · rw [if_neg hok, if_neg hok]
theorem RelR.set {F F' : Lns} {M : List Rt} (h : RelR F M) {s : ByteArray} {c : Int} {p : Sp} (hs : StpR F s c p F') : RelR F' (rsetL M (s, c, p)) := by
  have he := h.err s c p
  rcases hs with ⟨h1, rfl⟩ | ⟨h1, hm, hk, B, rfl⟩
  · unfold rsetL
    rw [if_neg (by rw [← he]; exact h1)]
    exact h
  · have hl : rsetL M (s, c, p) = M ++ [(s, c, p)] := by unfold rsetL; rw [if_pos (by rw [← he]; exact h1)]
    rw [hl]
    have hr : refE 256 (lineR M s c) p.1 p.2.1 = 0 := by
      rw [← setE_ref (h.inv s c hk)]
      unfold setRE at h1
      rw [hm, if_pos rfl] at h1
      split at h1
      · exact h1
      · cases h1
    have hI : Inv (setL 256 (Ln F s c) p) (lineR M s c ++ [p]) := by
      have := (h.inv s c hk).set (most := 256) (p := p)
      unfold refL at this
      rw [if_pos hr] at this
      exact this
    refine ⟨fun s' c' hk' => ?_, fun s' c' hk' => ?_, fun r hr' => ?_⟩
    · rw [lineR_snoc]
      by_cases hsc : s' = s ∧ c' = c
      · obtain ⟨rfl, rfl⟩ := hsc
        have hkb : keyB s' c' (s', c', p) = true := keyB_iff.2 ⟨rfl, rfl⟩
        rw [Ln_same, if_pos hkb]
        exact hI
      · rw [Ln_other hsc, if_neg (fun e => hsc (by obtain ⟨e1, e2⟩ := keyB_iff.1 e; exact ⟨e1.symm, e2.symm⟩)), List.append_nil]
        exact h.inv s' c' hk'
    · rw [lineR_snoc]
      by_cases hsc : s' = s ∧ c' = c
      · obtain ⟨rfl, rfl⟩ := hsc
        have hkb : keyB s' c' (s', c', p) = true := keyB_iff.2 ⟨rfl, rfl⟩
        rw [upd_same, if_pos hkb]
        simp
      · rw [upd_other hsc, if_neg (fun e => hsc (by obtain ⟨e1, e2⟩ := keyB_iff.1 e; exact ⟨e1.symm, e2.symm⟩)), List.append_nil]
        exact h.has s' c' hk'
    · rcases List.mem_append.1 hr' with hr' | hr'
      · exact h.mem r hr'
      · obtain rfl := List.mem_singleton.1 hr'
        exact ⟨hm, hk⟩
theorem RelR.of {F : Lns} {M : List Rt} (h : RelR F M) (s : ByteArray) (c d : Int) : ofX F s c d = rofX M s c d ∧ ofE F s c d = rofE M s c d := by
  unfold ofX rofX ofE rofE
  cases hm : isMem s with
  | false => exact ⟨rfl, rfl⟩
  | true =>
    cases hr : ratB c with
    | false => exact ⟨rfl, rfl⟩
    | true =>
      obtain ⟨e1, e2⟩ := (h.inv s c (mem_ok hm hr)).at_ d
      unfold ratX ratE
      rw [e1, e2]
      exact ⟨rfl, rfl⟩
open Classical in
theorem split_len (M : List Rt) (t : ByteArray × Int) (T : Ks) (h : t ∉ T) : (M.filter (fun r => decide ((r.1, r.2.1) ∈ t :: T))).length = (M.filter (keyB t.1 t.2)).length + (M.filter (fun r => decide ((r.1, r.2.1) ∈ T))).length := by
  induction M with
  | nil => rfl
  | cons r M ih =>
    simp only [List.filter_cons]
    by_cases h1 : keyB t.1 t.2 r = true
    · have e : (r.1, r.2.1) = t := by obtain ⟨a, b⟩ := keyB_iff.1 h1; exact Prod.ext a b
      have a1 : decide ((r.1, r.2.1) ∈ t :: T) = true := decide_eq_true (by rw [e]; exact List.mem_cons_self ..)
      have a2 : decide ((r.1, r.2.1) ∈ T) = false := decide_eq_false (by rw [e]; exact h)
      rw [a1, a2, h1]
      simp only [if_true, Bool.false_eq_true, if_false, List.length_cons]
      omega
    · have e : ¬ (r.1, r.2.1) = t := fun e => h1 (keyB_iff.2 (by rw [← e]; exact ⟨rfl, rfl⟩))
      have h1' : keyB t.1 t.2 r = false := by simpa using h1
      have a1 : decide ((r.1, r.2.1) ∈ t :: T) = decide ((r.1, r.2.1) ∈ T) := by
        rw [decide_eq_decide, List.mem_cons]
        exact ⟨fun h => h.resolve_left e, .inr⟩
      rw [a1, h1']
      cases decide ((r.1, r.2.1) ∈ T)
      · simpa using ih
      · simp only [if_true, Bool.false_eq_true, if_false, List.length_cons]
        omega
open Classical in
theorem RelR.sum {F : Lns} {M : List Rt} (h : RelR F M) : ∀ T : Ks, KsOk F T → sumT F T = (M.filter (fun r => decide ((r.1, r.2.1) ∈ T))).length
  | [], _ => by
    rw [show sumT F [] = 0 from rfl]
    symm
    rw [List.length_eq_zero_iff, List.filter_eq_nil_iff]
    intro r _
    simp
  | (s, c) :: T, hT => by
    obtain ⟨hn, ha⟩ := hT
    obtain ⟨hn1, hn2⟩ := List.nodup_cons.1 hn
    rw [sumT_cons, h.sum T ⟨hn2, fun t ht => ha t (List.mem_cons_of_mem _ ht)⟩, split_len M (s, c) T hn1]
    congr 1
    have := (h.inv s c (ha _ (List.mem_cons_self ..)).1).perm.length_eq
    rw [this]
    unfold lineR
    rw [List.length_map]
theorem RelR.sum_le {F : Lns} {M : List Rt} (h : RelR F M) {T : Ks} (hT : KsOk F T) : sumT F T ≤ M.length := by
  rw [h.sum T hT]
  exact List.length_filter_le _ _
theorem line_of {M : List Rt} {r : Rt} (hr : r ∈ M) : lineR M r.1 r.2.1 ≠ [] := by
  unfold lineR
  intro e
  have := List.map_eq_nil_iff.1 e
  have h2 : r ∈ M.filter (keyB r.1 r.2.1) := List.mem_filter.2 ⟨hr, keyB_iff.2 ⟨rfl, rfl⟩⟩
  rw [this] at h2
  cases h2
open Classical in
theorem RelR.sum_eq {F : Lns} {M : List Rt} (h : RelR F M) {T : Ks} (hT : KsOk F T) (hall : ∀ s c, okKey s c → (F s c).isSome = true → (s, c) ∈ T) : sumT F T = M.length := by
  rw [h.sum T hT]
  congr 1
  rw [List.filter_eq_self]
  intro r hr
  obtain ⟨_, hk⟩ := h.mem r hr
  exact decide_eq_true (hall r.1 r.2.1 hk ((h.has _ _ hk).2 (line_of hr)))
theorem RelR.len_le {F : Lns} {M : List Rt} (h : RelR F M) {T : Ks} (hT : KsOk F T) : T.length ≤ M.length := by
  refine Nat.le_trans ?_ (h.sum_le hT)
  have hone : ∀ t ∈ T, 1 ≤ (Ln F t.1 t.2).length := fun t ht => by
    obtain ⟨hk, hs⟩ := hT.2 t ht
    rw [(h.inv _ _ hk).perm.length_eq]
    exact List.length_pos_iff.2 ((h.has _ _ hk).1 hs)
  clear hT
  induction T with
  | nil => exact Nat.zero_le _
  | cons t T ih =>
    obtain ⟨s, c⟩ := t
    rw [sumT_cons, List.length_cons]
    have h1 := hone (s, c) (List.mem_cons_self ..)
    have h2 := ih (fun t ht => hone t (List.mem_cons_of_mem _ ht))
    simp only at h1
    omega
theorem RelR.states {F : Lns} {M : List Rt} (h : RelR F M) {T : Ks} (hT : KsOk F T) (hall : ∀ s c, okKey s c → (F s c).isSome = true → (s, c) ∈ T) : onceL (stL T) = keysL.filter (statB M) := by
  refine once_keys _ _ fun s => ?_
  unfold stL statB
  rw [List.mem_map, List.any_eq_true]
  constructor
  · rintro ⟨t, ht, rfl⟩
    obtain ⟨hk, hs⟩ := hT.2 t (List.mem_reverse.1 ht)
    have hne := (h.has _ _ hk).1 hs
    unfold lineR at hne
    have hne2 : M.filter (keyB t.1 t.2) ≠ [] := fun e => hne (by rw [e]; rfl)
    obtain ⟨r, hr⟩ := List.exists_mem_of_ne_nil _ hne2
    obtain ⟨hrM, hrk⟩ := List.mem_filter.1 hr
    obtain ⟨e1, _⟩ := keyB_iff.1 hrk
    refine ⟨?_, r, hrM, decide_eq_true e1⟩
    have hm := (h.mem r hrM).1
    rw [mem_keys] at hm
    unfold memK at hm
    obtain ⟨k, hk1, hk2⟩ := List.any_eq_true.1 hm
    rw [← e1, ← of_decide_eq_true hk2]
    exact hk1
  · rintro ⟨_, r, hr, he⟩
    obtain ⟨_, hk⟩ := h.mem r hr
    exact ⟨(r.1, r.2.1), List.mem_reverse.2 (hall _ _ hk ((h.has _ _ hk).2 (line_of hr))), of_decide_eq_true he⟩
end Go.Proofs.Ytlnpflfkkjcopaa
