/- The document's people: all names. -/
import Derived.Test.YtgljajoknmgoeaaGreatPrO
import Derived.Test.YtgljajoknmgoeaaGreatPrS
import Derived.Sort.Walk0
import Derived.Laws.Cover1
namespace Go.Proofs.YtgljajoknmgoeaaGreat
open Go.RowKit
set_option maxRecDepth 100000

def ltS (a b : ByteArray) : Prop := bytesOf a < bytesOf b
instance (a b : ByteArray) : Decidable (ltS a b) := by unfold ltS; infer_instance
theorem ltS_irr (a : ByteArray) : ¬ ltS a a := List.lt_irrefl _
theorem ltS_trans {a b c : ByteArray} (h : ltS a b) (k : ltS b c) : ltS a c := List.lt_trans h k
theorem ltS_tri (a b : ByteArray) (h : ¬ ltS a b) (k : ¬ ltS b a) : a = b := bytes_inj' (le_anti (List.not_lt.1 k) (List.not_lt.1 h))
theorem ltS_of (a b c : ByteArray) (h : ¬ ltS b a) (k : ltS b c) : ltS a c := by
  by_cases h1 : ltS a b
  · exact ltS_trans h1 k
  · rw [ltS_tri a b h1 h]
    exact k
theorem less_str (a b : ByteArray) : Op.bytesLess a.toList b.toList = decide (ltS a b) := by
  rw [Go.Proofs.bytesLess_eq, ByteArray.toList_eq, ByteArray.toList_eq]
  rfl
theorem emp_str (a : ByteArray) : a.toList.isEmpty = decide (a.size = 0) := by
  rw [ByteArray.toList_eq]
  obtain ⟨⟨l⟩⟩ := a
  cases l <;> rfl
theorem lt_emp {a b : ByteArray} (hb : b.size = 0) : ¬ ltS a b := fun h => by
  obtain ⟨⟨l⟩⟩ := b
  match l, hb with
  | [], _ => exact absurd h (List.not_lt_nil _)
/-- what was found so far: all up to 'last' -/
structure KnI (M : List St) (D : List ByteArray) (last : ByteArray) : Prop where
  sorted : D.Pairwise ltS
  low : ∀ s ∈ D, s ∈ M.map (·.1) ∧ ¬ ltS last s
  all : ∀ s ∈ M.map (·.1), ¬ ltS last s → s ∈ D
theorem knI_zero {M : List St} (hM : ∀ r ∈ M, r.1.size ≠ 0) : KnI M [] { data := #[] } := ⟨List.Pairwise.nil, fun s hs => absurd hs (by simp), fun s hs h => by
  obtain ⟨r, hr, rfl⟩ := List.mem_map.1 hs
  refine absurd (?_ : ltS { data := #[] } r.1) h
  have := hM r hr
  unfold ltS bytesOf
  obtain ⟨⟨⟨l⟩⟩, y⟩ := r
  match l, this with
  | a :: l, _ => exact List.nil_lt_cons _ _⟩
/-- the least of those behind 'last', so far -/
def BsI (M : List St) (last : ByteArray) (k : Nat) (best : ByteArray) : Prop :=
  (best.size = 0 ∧ ∀ j (h : j < M.length), j < k → ¬ ltS last M[j].1) ∨ (best.size ≠ 0 ∧ (∃ j, ∃ h : j < M.length, M[j].1 = best) ∧ ltS last best ∧ ∀ j (h : j < M.length), j < k → ltS last M[j].1 → ¬ ltS M[j].1 best)
theorem bs_zero (M : List St) (last : ByteArray) : BsI M last 0 { data := #[] } := .inl ⟨rfl, fun j _ h => absurd h (by omega)⟩
theorem bs_no {M : List St} {last best : ByteArray} {k : Nat} (hk : k < M.length) (h : BsI M last k best) (hx : ¬ ltS last M[k].1) : BsI M last (k + 1) best := by
  rcases h with ⟨h1, h2⟩ | ⟨h1, h2, h3, h4⟩
  · refine .inl ⟨h1, fun j hj hjk => ?_⟩
    by_cases e : j = k
    · subst e; exact hx
    · exact h2 j hj (by omega)
  · refine .inr ⟨h1, h2, h3, fun j hj hjk hl => ?_⟩
    by_cases e : j = k
    · subst e; exact absurd hl hx
    · exact h4 j hj (by omega) hl
theorem bs_first {M : List St} {last best : ByteArray} {k : Nat} (hM : ∀ r ∈ M, r.1.size ≠ 0) (hk : k < M.length) (h : BsI M last k best) (hb : best.size = 0) (hx : ltS last M[k].1) : BsI M last (k + 1) M[k].1 := by
  rcases h with ⟨_, h2⟩ | ⟨h1, _⟩
  · refine .inr ⟨hM _ (List.getElem_mem hk), ⟨k, hk, rfl⟩, hx, fun j hj hjk hl => ?_⟩
    by_cases e : j = k
    · subst e; exact ltS_irr _
    · exact absurd hl (h2 j hj (by omega))
  · exact absurd hb h1
theorem bs_less {M : List St} {last best : ByteArray} {k : Nat} (hM : ∀ r ∈ M, r.1.size ≠ 0) (hk : k < M.length) (h : BsI M last k best) (hb : best.size ≠ 0) (hx : ltS last M[k].1) (hl : ltS M[k].1 best) : BsI M last (k + 1) M[k].1 := by
  rcases h with ⟨h1, _⟩ | ⟨_, h2, h3, h4⟩
  · exact absurd h1 hb
  · refine .inr ⟨hM _ (List.getElem_mem hk), ⟨k, hk, rfl⟩, hx, fun j hj hjk hlj => ?_⟩
    by_cases e : j = k
    · subst e; exact ltS_irr _
    · exact fun e2 => h4 j hj (by omega) hlj (ltS_trans e2 hl)
theorem bs_more {M : List St} {last best : ByteArray} {k : Nat} (hk : k < M.length) (h : BsI M last k best) (hb : best.size ≠ 0) (hl : ¬ ltS M[k].1 best) : BsI M last (k + 1) best := by
  rcases h with ⟨h1, _⟩ | ⟨h1, h2, h3, h4⟩
  · exact absurd h1 hb
  · refine .inr ⟨h1, h2, h3, fun j hj hjk hlj => ?_⟩
    by_cases e : j = k
    · subst e; exact hl
    · exact h4 j hj (by omega) hlj
/-- all names, each once, from the least on -/
def AllD (M : List St) (D : List ByteArray) : Prop := D.Pairwise ltS ∧ ∀ s, s ∈ D ↔ s ∈ M.map (·.1)
theorem kn_done {M : List St} {D : List ByteArray} {last best : ByteArray} (h : KnI M D last) (hb : BsI M last M.length best) (he : best.size = 0) : AllD M D := by
  refine ⟨h.sorted, fun s => ⟨fun hs => (h.low s hs).1, fun hs => h.all s hs ?_⟩⟩
  rcases hb with ⟨_, h2⟩ | ⟨h1, _⟩
  · obtain ⟨r, hr, rfl⟩ := List.mem_map.1 hs
    obtain ⟨j, hj, rfl⟩ := List.mem_iff_getElem.1 hr
    exact h2 j hj hj
  · exact absurd he h1
theorem kn_next {M : List St} {D : List ByteArray} {last best : ByteArray} (h : KnI M D last) (hb : BsI M last M.length best) (he : best.size ≠ 0) : KnI M (D ++ [best]) best := by
  rcases hb with ⟨h1, _⟩ | ⟨_, ⟨j0, hj0, e0⟩, h3, h4⟩
  · exact absurd h1 he
  · refine ⟨?_, fun s hs => ?_, fun s hs hn => ?_⟩
    · rw [List.pairwise_append]
      refine ⟨h.sorted, by simp, fun a ha b hb => ?_⟩
      simp at hb
      subst hb
      exact ltS_of a last _ (h.low a ha).2 h3
    · rcases List.mem_append.1 hs with hs | hs
      · refine ⟨(h.low s hs).1, fun e => ?_⟩
        exact (h.low s hs).2 (ltS_trans h3 e)
      · simp at hs
        subst hs
        exact ⟨List.mem_map.2 ⟨M[j0], List.getElem_mem hj0, e0⟩, ltS_irr _⟩
    · by_cases hl : ltS last s
      · obtain ⟨r, hr, rfl⟩ := List.mem_map.1 hs
        obtain ⟨j, hj, rfl⟩ := List.mem_iff_getElem.1 hr
        have := h4 j hj hj hl
        rw [ltS_tri _ _ this hn]
        simp
      · exact List.mem_append_left _ (h.all s hs hl)
def restN (M : List St) (v : Value) : Nat := match v with | .string last => (M.filter (fun r => decide (ltS last r.1))).length | _ => 0
theorem filt_lt {α : Type} {p q : α → Bool} : ∀ (M : List α), (∀ r ∈ M, p r = true → q r = true) → (∃ r ∈ M, q r = true ∧ p r = false) → (M.filter p).length < (M.filter q).length
  | [], _, h => by obtain ⟨r, hr, _⟩ := h; cases hr
  | x :: M, h1, h2 => by
    have h1' : ∀ r ∈ M, p r = true → q r = true := fun r hr => h1 r (List.mem_cons_of_mem _ hr)
    have hle : (M.filter p).length ≤ (M.filter q).length := by
      clear h2 h1
      induction M with
      | nil => simp
      | cons y M ih =>
        have := ih (fun r hr => h1' r (List.mem_cons_of_mem _ hr))
        have hy := h1' y (by simp)
        cases hp : p y
        · cases hq : q y <;> simp [hp, hq] <;> omega
        · simp [hp, hy hp]; omega
    obtain ⟨r, hr, hq, hp⟩ := h2
    rcases List.mem_cons.1 hr with rfl | hr
    · simp [hp, hq]; omega
    · have := filt_lt M h1' ⟨r, hr, hq, hp⟩
      have hx := h1 x (by simp)
      cases hpx : p x
      · cases hqx : q x <;> simp [hpx, hqx] <;> omega
      · simp [hpx, hx hpx]; omega
theorem rest_next {M : List St} {last best : ByteArray} (hb : BsI M last M.length best) (he : best.size ≠ 0) : restN M (.string best) < restN M (.string last) := by
  rcases hb with ⟨h1, _⟩ | ⟨_, ⟨j0, hj0, e0⟩, h3, h4⟩
  · exact absurd h1 he
  · refine filt_lt M (fun r hr h => ?_) ⟨M[j0], List.getElem_mem hj0, ?_, ?_⟩
    · exact decide_eq_true (ltS_trans h3 (of_decide_eq_true h))
    · rw [e0]; exact decide_eq_true h3
    · rw [e0]; exact decide_eq_false (ltS_irr _)
theorem kn_len {M : List St} {D : List ByteArray} {last : ByteArray} (h : KnI M D last) : D.length ≤ M.length := by
  have hn : D.Nodup := h.sorted.imp (fun {a b} hab e => by subst e; exact ltS_irr _ hab)
  have hs : D ⊆ M.map (·.1) := fun s hs => (h.low s hs).1
  have := List.Nodup.length_le_of_subset hn hs
  rwa [List.length_map] at this
theorem below_over {w W V : World} (h : Below (w.heap.size + 1) W V) {o : Obj} (ho : W.heap[w.heap.size]? = some o) (hb : Below w.heap.size w W) : V.heap[w.heap.size]? = some o ∧ Below w.heap.size w V :=
  ⟨(h.block _ (by omega)).trans ho, hb.trans (h.mono (by omega))⟩
set_option maxHeartbeats 2000000 in
theorem ref_known (home : ByteArray) (AO : Option Addr) (nO cO : Nat) (A : Option Addr) (c : Nat) (M : List St) (w : World) (hr : RowSt w A M) (hl : M.length ≤ 100) (hM : ∀ r ∈ M, r.1.size ≠ 0) :
    Calls Tryz.prog 20 #[.agg #[.string home, .slice AO nO cO, .slice A M.length c]] w fun e w' => ∃ v D, e = .returned v ∧ AllD M D ∧ OwnS w' w.heap.size v D ∧ Below w.heap.size w w' := by
  have HR := Lib.hid hr
  have HMn := Lib.hid hM
  have hl' : (M.length : Int) ≤ 100 := by omega
  have HI := Lib.hid (And.intro (heap_alloc_new w (.cells #[.string home, .slice AO nO cO, .slice A M.length c] 35)) (below_alloc w (.cells #[.string home, .slice AO nO cO, .slice A M.length c] 35)))
  clear hr hM
  go_enter Tryz.func20, Tryz.ntmps20
  go_wp2
  go_loopw [3, 4] (fun v lv wr => ∃ (D : List ByteArray) (last : ByteArray), lv = .string last ∧ Hid (KnI M D last) ∧ Hid (OwnS wr (w.heap.size + 1) v D) ∧ Hid (wr.heap[w.heap.size]? = some (.cells #[.string home, .slice AO nO cO, .slice A M.length c] 35 (0, 0)) ∧ Below w.heap.size w wr)) (fun _ lv _ => restN M lv)
  case atStart => exact ⟨[], _, rfl, Lib.hid (knI_zero HMn.out), Lib.hid (World.ownsRow_nil _ _ _ _), HI⟩
  case round =>
    clear HI
    obtain ⟨D, last, rfl, HK, HO, HB⟩ := hrel
    go_wp2
    go_loopw [5, 6] (fun bv i wi => ∃ (k : Nat) (best : ByteArray), k ≤ M.length ∧ i = .int .i64 k ∧ bv = .string best ∧ Hid (BsI M last k best) ∧ Hid (Below wr.heap.size wr wi)) (fun _ i _ => M.length - (intOf i).toNat)
    case atStart => exact ⟨0, _, Nat.zero_le _, rfl, rfl, Lib.hid (bs_zero M last), Lib.hid (below_same _)⟩
    case round =>
      rename World => wi
      obtain ⟨k, best, hk, rfl, rfl, HBs, HW⟩ := hrel
      obtain ⟨c0, c1, c2⟩ := row3a (heap_on HW.out HB.out.1)
      by_cases hlt : k < M.length
      · have hlt' : (k : Int) < (M.length : Int) := by omega
        obtain ⟨b, o, rfl, hbl, y0, y1, y2, y3⟩ := ((HR.out.on HB.out.2).on HW.out).at_ k hlt
        obtain ⟨y, hy⟩ : ∃ y, y = M[k].1 := ⟨_, rfl⟩
        have H1 := Lib.hid (fun h => bs_no hlt HBs.out h)
        have H2 := Lib.hid (fun h h' => bs_first HMn.out hlt HBs.out h h')
        have H3 := Lib.hid (fun h h' h'' => bs_less HMn.out hlt HBs.out h h' h'')
        have H4 := Lib.hid (fun h h' => bs_more hlt HBs.out h h')
        rw [← hy] at y0 H1 H2 H3 H4
        have g1 := less_str y last
        have g2 := str_beq y last
        have g3 := less_str y best
        have g4 := emp_str best
        clear hbl hy y1 y2 y3
        by_cases a1 : ltS y last
        · rw [decide_eq_true a1] at g1
          have HN := Lib.hid (H1.out (fun h => ltS_irr _ (ltS_trans h a1)))
          clear H1 H2 H3 H4 g3 g4 a1 g2
          go_wp2
          go_roundw
          case rel => exact ⟨k + 1, best, by omega, by go_num, rfl, HN, HW⟩
          case measure => simp [intOf]; omega
        · rw [decide_eq_false a1] at g1
          by_cases a2 : y = last
          · rw [decide_eq_true a2] at g2
            have HN := Lib.hid (H1.out (by rw [a2]; exact ltS_irr _))
            clear H1 H2 H3 H4 g3 g4 a1 a2
            go_wp2
            go_roundw
            case rel => exact ⟨k + 1, best, by omega, by go_num, rfl, HN, HW⟩
            case measure => simp [intOf]; omega
          · rw [decide_eq_false a2] at g2
            have a3 : ltS last y := by
              by_cases h : ltS last y
              · exact h
              · exact absurd (ltS_tri _ _ a1 h) a2
            by_cases a4 : best.size = 0
            · rw [decide_eq_true a4] at g4
              have HN := Lib.hid (H2.out a4 a3)
              clear H1 H2 H3 H4 g3 a1 a2 a3 a4
              go_wp2
              go_roundw
              case rel => exact ⟨k + 1, y, by omega, by go_num, rfl, HN, HW⟩
              case measure => simp [intOf]; omega
            · rw [decide_eq_false a4] at g4
              by_cases a5 : ltS y best
              · rw [decide_eq_true a5] at g3
                have HN := Lib.hid (H3.out a4 a3 a5)
                clear H1 H2 H3 H4 a1 a2 a3 a4 a5
                go_wp2
                go_roundw
                case rel => exact ⟨k + 1, y, by omega, by go_num, rfl, HN, HW⟩
                case measure => simp [intOf]; omega
              · rw [decide_eq_false a5] at g3
                have HN := Lib.hid (H4.out a4 a5)
                clear H1 H2 H3 H4 a1 a2 a3 a4 a5
                go_wp2
                go_roundw
                case rel => exact ⟨k + 1, best, by omega, by go_num, rfl, HN, HW⟩
                case measure => simp [intOf]; omega
      · obtain rfl : k = M.length := by omega
        have g4 := emp_str best
        by_cases a4 : best.size = 0
        · rw [decide_eq_true a4] at g4
          have HF := Lib.hid (kn_done HK.out HBs.out a4)
          clear a4
          go_wp2
          go_ret
          have ho := HO.out.on HW.out
          refine ⟨_, D, rfl, HF.out, ⟨ho.1, ?_⟩, below_then HB.out.2 HW.out⟩
          rcases ho.2 with h | ⟨g', c', cur, e, hB, hr⟩
          · exact .inl h
          · exact .inr ⟨g', c', cur, e, by omega, hr⟩
        · rw [decide_eq_false a4] at g4
          have HF := Lib.hid (And.intro (kn_next HK.out HBs.out a4) (rest_next HBs.out a4))
          have HLn := Lib.hid (kn_len HK.out)
          have hoA := HO.out.on (HW.out.trans ((below_alloc wi (.cells #[.string best] 9)).mono HW.out.size))
          have HOA := Lib.hid hoA
          have HX := Lib.hid (heap_alloc_new wi (.cells #[.string best] 9))
          have HBa := Lib.hid (HW.out.trans ((below_alloc wi (.cells #[.string best] 9)).mono HW.out.size))
          have HLt : Hid (w.heap.size + 1 ≤ wr.heap.size) := Lib.hid (heapLt HB.out.1)
          obtain ⟨i0, hi, hz0, hz1, hz2⟩ := info_parts strFact
          clear a4 hoA
          go_wp2_with (at_builtin; refine wpList_append_own _ rfl _ _ 40 rfl (w.heap.size + 1) 9 i0 _ 1 16 Tryz.underlying40 hi hz0 hz1 hz2 rfl (by decide) _ D.length (D.map .string) rfl HOA.out ⟨wi.heap.size, 0, none⟩ 1 1 [.string best] rfl rfl (fun j u hu => by
            match j with
            | 0 => simp at hu; subst hu; exact (one_cell HX.out).1
            | j + 1 => simp at hu) (by intro u hu; simp at hu; subst hu; rfl) (by have := HLn.out; unfold maxLen; omega) (by have := HLn.out; omega) (Nat.le_trans HLt.out HBa.out.size) ?_; intro v2 w2 r1 r2 _; have HO2 : Hid (OwnS w2 (w.heap.size + 1) v2 (D ++ [best])) := (Lib.hid (by unfold OwnS; rw [List.length_append, List.map_append]; exact r1)); have HB2 : Hid (w2.heap[w.heap.size]? = some (.cells #[.string home, .slice AO nO cO, .slice A M.length c] 35 (0, 0)) ∧ Below w.heap.size w w2) := (Lib.hid (below_over ((HBa.out.mono HLt.out).grown r2 (Nat.le_trans HLt.out HBa.out.size) (fun k hk => (World.ownsRow.lt HOA.out k hk).1)) HB.out.1 HB.out.2)); clear r1 r2)
          go_roundw
          case rel => exact ⟨D ++ [best], best, rfl, Lib.hid HF.out.1, HO2, HB2⟩
          case measure => exact HF.out.2
end Go.Proofs.YtgljajoknmgoeaaGreat
