/- The parser: what stands next, gone over. The parser: a token that must be of a kind. -/
import Derived.Test.YtpapcnogbmjpjaaGreatDoorK7
namespace Go.Proofs.YtpapcnogbmjpjaaGreatDoor
open Go.RowKit
set_option maxRecDepth 100000
set_option linter.unusedSimpArgs false
set_option linter.unusedVariables false
attribute [local go_sem] Oper.semAt_some

theorem str_eq {a b : ByteArray} (h : a.data.toList = b.data.toList) : a = b := by
  cases a; cases b; simpa using h
theorem str_beq (a b : ByteArray) : (a.toList == b.toList) = decide (a = b) := by
  rw [Bool.eq_iff_iff, decide_eq_true_iff, beq_iff_eq, ByteArray.toList_eq, ByteArray.toList_eq]
  exact ⟨str_eq, fun h => by rw [h]⟩
theorem rd_front {w : World} {R : Nat} {en : Int} {s : Rd} (h : RdAt w R en s) : ∃ A c, w.heap[R]? = some (.cells #[.slice A s.T.length c, .int .i64 en, .bool s.nb, .bool s.lg] 79 (0, 0)) ∧ c ≤ maxLen := by
  obtain ⟨A, c, h1, h2, h3, h4, h5, h6⟩ := h
  exact ⟨A, c, h1, h5.1⟩
/-- behind the first token -/
theorem rd_tail {w wf : World} {R : Nat} {en : Int} {s : Rd} {b o c : Nat} {t : TokV} {L : List TokV} (hC : Chg R w wf)
    (h2 : RowTokV w (some ⟨b, o, none⟩) (t :: L)) (h3 : TokB w b ∧ b ≠ R) (h4 : L.length + 1 ≤ c) (h5 : c ≤ maxLen ∧ L.length + 1 ≤ 1048576) (o' : Nat) (ho : L ≠ [] → o' = o + 4) (c' : Nat) (hc : c' = c - 1)
    (hf : wf.heap[R]? = some (.cells #[.slice (some ⟨b, o', none⟩) L.length c', .int .i64 en, .bool s.nb, .bool s.lg] 79 (0, 0))) :
    RdAt wf R en { s with T := L } := by
  subst hc
  refine ⟨some ⟨b, o', none⟩, c - 1, hf, ?_, ?_, ?_, ?_, ?_, ?_⟩
  · intro hn
    obtain rfl := ho hn
    obtain ⟨b', o', e, hlt, hc⟩ := h2 (by simp)
    simp only [Option.some.injEq, Addr.mk.injEq, and_true] at e
    obtain ⟨rfl, rfl⟩ := e
    refine ⟨b, o + 4, rfl, Nat.lt_of_lt_of_le hlt hC.size, fun j v hv => ?_⟩
    have := hc (j + 4) v (by
      have hf : flatsTokV (t :: L) = flatTokV t ++ flatsTokV L := rfl
      rw [hf, List.getElem?_append_right (by simp [flatTokV])]
      simpa [flatTokV] using hv)
    rw [World.cell?_of_block (hC.heap hlt h3.2)]
    simpa [Nat.add_assoc, Nat.add_comm 4 j] using this
  · intro b' o2 e
    simp only [Option.some.injEq, Addr.mk.injEq, and_true] at e
    obtain ⟨⟨cs, hcs⟩, hne⟩ := h3
    rw [← e.1]
    exact ⟨cs, (hC.heap (heapLt hcs) hne).trans hcs⟩
  · show L.length ≤ c - 1
    omega
  · show c - 1 ≤ maxLen ∧ L.length ≤ 1048576
    omega
  · intro e; cases e
  · exact .inr ⟨b, o', rfl⟩
theorem rd_set {w : World} {R : Nat} {a b c d : Value} {T : TypeId} (h : w.heap[R]? = some (.cells #[a, b, c, d] T (0, 0))) (v : Value) : (w.setCell ⟨R, 0, none⟩ v).heap[R]? = some (.cells #[v, b, c, d] T (0, 0)) := by
  simpa using heap_setCell_same w R 0 _ _ v h
theorem rd_open {w : World} {R : Nat} {en : Int} {s : Rd} (h : RdAt w R en s) {t : TokV} {L : List TokV} (hT : s.T = t :: L) : ∃ b o c, w.heap[R]? = some (.cells #[.slice (some ⟨b, o, none⟩) (L.length + 1) c, .int .i64 en, .bool s.nb, .bool s.lg] 79 (0, 0)) ∧
    RowTokV w (some ⟨b, o, none⟩) (t :: L) ∧ (TokB w b ∧ b ≠ R) ∧ L.length + 1 ≤ c ∧ (c ≤ maxLen ∧ L.length + 1 ≤ 1048576) := by
  obtain ⟨A, c, h1, h2, h3, h4, h5, h6, h7⟩ := h
  rw [hT] at h1 h2 h4 h5
  obtain ⟨b, o, rfl, _⟩ := h2 (by simp)
  exact ⟨b, o, c, h1, h2, ⟨h3 b o rfl, (h3 b o rfl).off h1 (by decide)⟩, h4, h5⟩
set_option maxHeartbeats 1000000 in
theorem code_skip_no {w : World} {R : Nat} {en : Int} {s : Rd} (h : RdAt w R en s) (t : TokV) (ht : nextT en s = t) (x : ByteArray) (hx : t.2.2.1 ≠ x) : Calls Tryz.prog 56 #[.pointer (some ⟨R, 0, none⟩), .string x] w fun e w' => e = .returned (.bool false) ∧ Below w.heap.size w w' := by
  have H := Lib.hid (code_next h t ht)
  obtain ⟨a0, a1, a2, a3⟩ := t
  have hft := tok_text a0 a1 a3 a2
  have hq : (a2.toList == x.toList) = false := by rw [str_beq]; simpa using hx
  clear h ht hx
  go_enter Tryz.func56, Tryz.ntmps56
  go_wp2_with (go_at_call 75; refine H.out.mono ?_; rintro e w' ⟨rfl, hB⟩)
  try unfold tokA
  go_wp2
  go_ret
  exact ⟨rfl, hB⟩
set_option maxHeartbeats 1000000 in
theorem code_skip_yes {w : World} {R : Nat} {en : Int} {s : Rd} (h : RdAt w R en s) {t : TokV} {L : List TokV} (hT : s.T = t :: L) (x : ByteArray) (hx : t.2.2.1 = x) : Calls Tryz.prog 56 #[.pointer (some ⟨R, 0, none⟩), .string x] w fun e w' => e = .returned (.bool true) ∧ RdAt w' R en { s with T := L } ∧ Chg R w w' := by
  have H := Lib.hid (code_next h t (by unfold nextT; rw [hT]))
  have HO := Lib.hid h
  obtain ⟨a0, a1, a2, a3⟩ := t
  have hft := tok_text a0 a1 a3 a2
  subst hx
  have hq : (a2.toList == a2.toList) = true := by simp
  clear h
  go_enter Tryz.func56, Tryz.ntmps56
  go_wp2_with (go_at_call 75; refine H.out.mono ?_; rintro e w' ⟨rfl, hB⟩; refine Stop.out ?_)
  unfold Stop
  obtain ⟨b, o, c, h1, h2, h3, h4, h5⟩ := rd_open (HO.out.on hB) hT
  have HR := Lib.hid (fun (v : Value) => rd_tail (wf := w'.setCell ⟨R, 0, none⟩ v) (s := s) (en := en) (Chg.one w' 0 v) h2 h3 h4 h5)
  have HS := Lib.hid (rd_set h1)
  obtain ⟨c0, c1, c2, c3⟩ := row4c h1
  have hz0 := frozen_of_row w' R 0 _ _ h1
  have HL : L.length + 1 ≤ 9223372036854775807 ∧ c ≤ 9223372036854775807 := by
    unfold maxLen at h5
    constructor <;> omega
  have hl1 : ((1 : Int) ≤ (L.length : Int) + 1) := by omega
  clear h1 h2 h3 h5
  try unfold tokA
  go_wp2
  · go_ret
    have hL : L.length = 0 := by omega
    refine ⟨rfl, HR.out _ o (fun hn => absurd (List.length_eq_zero_iff.1 hL) hn) 0 (by omega) (HS.out _), (Chg.of hB).trans (Chg.one _ _ _)⟩
  · go_ret
    exact ⟨rfl, HR.out _ _ (fun _ => rfl) _ rfl (HS.out _), (Chg.of hB).trans (Chg.one _ _ _)⟩
end Go.Proofs.YtpapcnogbmjpjaaGreatDoor

namespace Go.Proofs.YtpapcnogbmjpjaaGreatDoor
open Go.RowKit
set_option maxRecDepth 100000
set_option linter.unusedSimpArgs false
set_option linter.unusedVariables false
attribute [local go_sem] Oper.semAt_some

theorem row_then {w w' : World} {g : Nat} {old new : Array Value} {t : TypeId} (h : w.heap[g]? = some (.cells old t (0, 0))) (hs : old.size = new.size) (hw : w' = w.setRow g new) : w'.heap[g]? = some (.cells new t (0, 0)) := by
  subst hw
  exact setRow_heap _ _ _ _ _ _ h
theorem Chg.new {R : Nat} {w w' : World} (h : Chg R w w') {g : Nat} (hg : w.heap.size ≤ g) (vs : Array Value) : Chg R w (w'.setRow g vs) := by
  refine ⟨h.os, h.tape, h.output, ?_, fun k hk hr => ?_⟩
  · have := World.grownBy.size h
    rw [setRow_size]; exact this
  · rw [setRow_other _ _ _ _ (by omega)]; exact h.block k hk hr
set_option maxHeartbeats 1000000 in
theorem code_take_yes {w : World} {R : Nat} {en : Int} {s : Rd} (h : RdAt w R en s) {t : TokV} {L : List TokV} (hT : s.T = t :: L) : Calls Tryz.prog 76 #[.pointer (some ⟨R, 0, none⟩), .int .i64 t.1] w fun e w' => e = .returned (tokA t) ∧ RdAt w' R en { s with T := L } ∧ Chg R w w' := by
  have HN := Lib.hid (code_next (h.on (below_alloc w (.cells #[.int .i64 0, .int .i64 0, .string ⟨#[]⟩, .int .i64 0] 96))) t (by unfold nextT; rw [hT]))
  have H1 := Lib.hid (heap_alloc_new w (.cells #[.int .i64 0, .int .i64 0, .string ⟨#[]⟩, .int .i64 0] 96))
  obtain ⟨b, o, c, h1, h2, h3, h4, h5⟩ := rd_open h hT
  have HR := Lib.hid (fun (wf : World) (hC : Chg R w wf) => rd_tail (wf := wf) (s := s) (en := en) hC h2 h3 h4 h5)
  have hb0 := below_alloc w (.cells #[.int .i64 0, .int .i64 0, .string ⟨#[]⟩, .int .i64 0] 96)
  have hRl := Lib.hid h.lt
  have HL : L.length + 1 ≤ 9223372036854775807 ∧ c ≤ 9223372036854775807 := by
    unfold maxLen at h5
    constructor <;> omega
  have HW1 := Lib.hid h1
  obtain ⟨a0, a1, a2, a3⟩ := t
  clear h h1 h2 h3 h5
  go_enter Tryz.func76, Tryz.ntmps76
  go_wp2_with (go_at_call 75; refine HN.out.mono ?_; rintro e w2 ⟨rfl, hB⟩; refine Stop.out ?_)
  unfold Stop
  generalize hw1 : w.alloc (.cells #[.int .i64 0, .int .i64 0, .string ⟨#[]⟩, .int .i64 0] 96) = w1 at HN H1 hB hb0
  have h0 := Lib.hid (heap_alloc_new w2 (.cells #[.int .i64 0, .int .i64 0, .string ⟨#[]⟩, .int .i64 0] 96))
  have HBF := Lib.hid (box_row w2 #[.int .i64 0, .int .i64 0, .string ⟨#[]⟩, .int .i64 0] #[.int .i64 a0, .int .i64 a1, .string a2, .int .i64 a3] 96 rfl)
  try unfold tokA
  go_wp2_with ((with_reducible refine wpList_store_row (o := ⟨none, _, _, _, _, _⟩) 96 ?b0 (.tmp 5) (.tmp 7) ?b1 w2.heap.size ?b2 [.int .i64 a0, .int .i64 a1, .string a2, .int .i64 a3] ?b3 ?b4 ?b5 #[.int .i64 0, .int .i64 0, .string ⟨#[]⟩, .int .i64 0] ?b6 96 ?b7 ?_); (case b0 => rfl); (case b1 => rfl); (case b2 => rfl); (case b3 => exact tok_info); (case b4 => exact oneTok _ _ _ _); (case b5 => rfl); (case b6 => rfl); (case b7 => exact h0.out); (try simp only [Act.put]); refine Stop.out ?_)
  unfold Stop
  generalize hw3 : World.setRow _ _ _ = w3 at HBF ⊢
  obtain ⟨g2, hg2⟩ : ∃ g, g = w2.heap.size := ⟨_, rfl⟩
  obtain ⟨g1, hg1⟩ : ∃ g, g = w.heap.size := ⟨_, rfl⟩
  have hs1 : w1.heap.size = g1 + 1 := by rw [← hw1, hg1]; exact World.size_alloc _ _
  have hs2 : g1 + 1 ≤ g2 := by rw [hg2, ← hs1]; exact hB.size
  have hRl' : R < g1 := by rw [hg1]; exact hRl.out
  rw [← hg2] at HBF ⊢
  rw [← hg1] at H1 ⊢
  have HB1 : Below g1 w w1 := by rw [hg1]; exact hb0
  have hB12 := hB
  have HBd : Below w2.heap.size w2 w3 := by rw [← hg2]; exact HBF.out.1
  have H1c := Lib.hid (heap_on HBd (heap_on hB H1.out))
  have h1 := heap_on HBd (heap_on hB (heap_on hb0 HW1.out))
  have HS := Lib.hid (rd_set h1)
  have HG1 := Lib.hid hg1
  obtain ⟨c0, c1, c2, c3⟩ := row4c h1
  have hz0 := frozen_of_row w3 R 0 _ _ h1
  obtain ⟨d0, d1, d2, d3⟩ := row4c HBF.out.2
  have hl1 : ((1 : Int) ≤ (L.length : Int) + 1) := by omega
  have ha0 : (a0 == a0) = true := by simp
  have HC3 := Lib.hid ((Chg.of (R := R) hb0).trans ((Chg.of (R := R) hB).trans (Chg.of (R := R) HBd)))
  have HS3 : g2 < w3.heap.size := heapLt HBF.out.2
  clear h1 hw1 hw3 hg1 hg2 hB hb0 HN h0 H1 HB1 hB12 HBd
  go_wp2_with (go_at_call 39; refine (code_must_yes R _).mono ?_; rintro e w' ⟨rfl, rfl⟩; refine Stop.out ?_)
  unfold Stop
  have hne2 : ¬g2 = R := by omega
  have hne1 : ¬g1 = R := by omega
  go_wp2_with ((with_reducible refine wpList_store_row (o := ⟨none, _, _, _, _, _⟩) 96 ?b0 (.tmp 4) (.tmp 22) ?b1 g1 ?b2 [.int .i64 a0, .int .i64 a1, .string a2, .int .i64 a3] ?b3 ?b4 ?b5 #[.int .i64 0, .int .i64 0, .string ⟨#[]⟩, .int .i64 0] ?b6 96 ?b7 ?_); (case b0 => rfl); (case b1 => rfl); (case b2 => rfl); (case b3 => exact tok_info); (case b4 => exact oneTok _ _ _ _); (case b5 => rfl); (case b6 => rfl); (case b7 => exact (heap_setCell_other _ _ _ _ (by simpa using hne1)).trans H1c.out); (try simp only [Act.put]); refine Stop.out ?_)
  · have hn1 : g1 ≠ R := hne1
    obtain ⟨w9, hw9⟩ : ∃ w9, w9 = (w'.setCell ⟨R, 0, none⟩ (.slice (some ⟨b, o, none⟩) L.length 0)).setRow g1 #[.int .i64 a0, .int .i64 a1, .string a2, .int .i64 a3] := ⟨_, rfl⟩
    have HF : w9.heap[g1]? = some (.cells #[.int .i64 a0, .int .i64 a1, .string a2, .int .i64 a3] 96 (0, 0)) := row_then ((heap_setCell_other w' ⟨R, 0, none⟩ g1 (.slice (some ⟨b, o, none⟩) L.length 0) hn1).trans H1c.out) rfl hw9
    have HX : Chg R w w9 := by
      rw [hw9]
      exact (HC3.out.trans (Chg.one w' 0 (.slice (some ⟨b, o, none⟩) L.length 0))).new (by rw [HG1.out]; exact Nat.le_refl _) #[.int .i64 a0, .int .i64 a1, .string a2, .int .i64 a3]
    have HY := (setRow_other (w'.setCell ⟨R, 0, none⟩ (.slice (some ⟨b, o, none⟩) L.length 0)) g1 R #[.int .i64 a0, .int .i64 a1, .string a2, .int .i64 a3] (by omega)).trans (HS.out _)
    rw [← hw9] at HY
    have hr := Lib.hid (HR.out w9 HX o (fun hn => absurd (List.length_eq_zero_iff.1 (by omega)) hn) 0 (by omega) HY)
    have HF2 := Lib.hid HF
    have HX2 := Lib.hid HX
    unfold Stop
    rw [← hw9]
    clear hw9 HY HX HF
    go_wp2
    exact bodyPost_ret (results_cell_row Tryz.results76 _ _ g1 96 #[.int .i64 a0, .int .i64 a1, .string a2, .int .i64 a3] (0, 0) _ rfl HF2.out Tryz.underlying96 rfl tok_info) rfl ⟨rfl, hr.out, HX2.out⟩
  · have hn1 : g1 ≠ R := hne1
    obtain ⟨w9, hw9⟩ : ∃ w9, w9 = (w'.setCell ⟨R, 0, none⟩ (.slice (some ⟨b, (o + 4), none⟩) L.length (c - 1))).setRow g1 #[.int .i64 a0, .int .i64 a1, .string a2, .int .i64 a3] := ⟨_, rfl⟩
    have HF : w9.heap[g1]? = some (.cells #[.int .i64 a0, .int .i64 a1, .string a2, .int .i64 a3] 96 (0, 0)) := row_then ((heap_setCell_other w' ⟨R, 0, none⟩ g1 (.slice (some ⟨b, (o + 4), none⟩) L.length (c - 1)) hn1).trans H1c.out) rfl hw9
    have HX : Chg R w w9 := by
      rw [hw9]
      exact (HC3.out.trans (Chg.one w' 0 (.slice (some ⟨b, (o + 4), none⟩) L.length (c - 1)))).new (by rw [HG1.out]; exact Nat.le_refl _) #[.int .i64 a0, .int .i64 a1, .string a2, .int .i64 a3]
    have HY := (setRow_other (w'.setCell ⟨R, 0, none⟩ (.slice (some ⟨b, (o + 4), none⟩) L.length (c - 1))) g1 R #[.int .i64 a0, .int .i64 a1, .string a2, .int .i64 a3] (by omega)).trans (HS.out _)
    rw [← hw9] at HY
    have hr := Lib.hid (HR.out w9 HX (o + 4) (fun _ => rfl) (c - 1) rfl HY)
    have HF2 := Lib.hid HF
    have HX2 := Lib.hid HX
    unfold Stop
    rw [← hw9]
    clear hw9 HY HX HF
    go_wp2
    exact bodyPost_ret (results_cell_row Tryz.results76 _ _ g1 96 #[.int .i64 a0, .int .i64 a1, .string a2, .int .i64 a3] (0, 0) _ rfl HF2.out Tryz.underlying96 rfl tok_info) rfl ⟨rfl, hr.out, HX2.out⟩
set_option maxHeartbeats 1000000 in
theorem code_take_no {w : World} {R : Nat} {en : Int} {s : Rd} (h : RdAt w R en s) (t : TokV) (ht : nextT en s = t) (k : Int) (hk : t.1 ≠ k) : Calls Tryz.prog 76 #[.pointer (some ⟨R, 0, none⟩), .int .i64 k] w fun e w' => Flt e t.2.1 81 ∧ Below w.heap.size w w' := by
  have HN := Lib.hid (code_next (h.on (below_alloc w (.cells #[.int .i64 0, .int .i64 0, .string ⟨#[]⟩, .int .i64 0] 96))) t ht)
  have HO := Lib.hid (h.on (below_alloc w (.cells #[.int .i64 0, .int .i64 0, .string ⟨#[]⟩, .int .i64 0] 96)))
  have hb0 := below_alloc w (.cells #[.int .i64 0, .int .i64 0, .string ⟨#[]⟩, .int .i64 0] 96)
  obtain ⟨a0, a1, a2, a3⟩ := t
  clear h
  go_enter Tryz.func76, Tryz.ntmps76
  go_wp2_with (go_at_call 75; refine HN.out.mono ?_; rintro e w2 ⟨rfl, hB⟩; refine Stop.out ?_)
  unfold Stop
  generalize hw1 : w.alloc (.cells #[.int .i64 0, .int .i64 0, .string ⟨#[]⟩, .int .i64 0] 96) = w1 at HN HO hB hb0
  have h0 := Lib.hid (heap_alloc_new w2 (.cells #[.int .i64 0, .int .i64 0, .string ⟨#[]⟩, .int .i64 0] 96))
  have HBF := Lib.hid (box_row w2 #[.int .i64 0, .int .i64 0, .string ⟨#[]⟩, .int .i64 0] #[.int .i64 a0, .int .i64 a1, .string a2, .int .i64 a3] 96 rfl)
  try unfold tokA
  go_wp2_with ((with_reducible refine wpList_store_row (o := ⟨none, _, _, _, _, _⟩) 96 ?b0 (.tmp 5) (.tmp 7) ?b1 w2.heap.size ?b2 [.int .i64 a0, .int .i64 a1, .string a2, .int .i64 a3] ?b3 ?b4 ?b5 #[.int .i64 0, .int .i64 0, .string ⟨#[]⟩, .int .i64 0] ?b6 96 ?b7 ?_); (case b0 => rfl); (case b1 => rfl); (case b2 => rfl); (case b3 => exact tok_info); (case b4 => exact oneTok _ _ _ _); (case b5 => rfl); (case b6 => rfl); (case b7 => exact h0.out); (try simp only [Act.put]); refine Stop.out ?_)
  unfold Stop
  generalize hw3 : World.setRow _ _ _ = w3 at HBF ⊢
  have HBd : Below w2.heap.size w2 w3 := HBF.out.1
  have HM := Lib.hid (code_must_no ((HO.out.on hB).on HBd) (a0, a1, a2, a3) ht)
  have HBa := Lib.hid (below_then hb0 (below_then hB HBd))
  obtain ⟨g2, hg2⟩ : ∃ g, g = w2.heap.size := ⟨_, rfl⟩
  rw [← hg2] at HBF ⊢
  obtain ⟨d0, d1, d2, d3⟩ := row4c HBF.out.2
  have ha0 : (a0 == k) = false := by simpa using hk
  clear hw1 hw3 hB hb0 HN h0 HO HBd hk hg2
  go_wp2_with (go_at_call 39; refine HM.out.mono ?_; rintro e w' ⟨rfl, hB⟩; refine Stop.out ?_)
  unfold Stop
  first | exact ⟨rfl, rfl, below_then HBa.out hB⟩ | (go_wp2; exact ⟨rfl, rfl, below_then HBa.out hB⟩)
end Go.Proofs.YtpapcnogbmjpjaaGreatDoor
