/- Tokens held side by side; tokens shown. -/
import Derived.Test.YtfjecohokmelfaaDoorLxJ
namespace Go.Proofs.YtfjecohokmelfaaDoor
open Go.RowKit
set_option maxRecDepth 100000
set_option linter.unusedSimpArgs false
set_option linter.unusedVariables false

/-- how tokens are told, step by step -/
theorem lex_ind {s : ByteArray} (M : Nat → List TokV → Prop) (hend : ∀ i acc, s.size ≤ i → M i acc) (hblank : ∀ i acc, i < s.size → isBb (bt s i) = true → M (i + 1) acc → M i acc) (hrem : ∀ i acc, i < s.size → (bt s i).toNat = 35 → M (runE isRb s i) acc → M i acc)
    (hbad : ∀ i acc, i < s.size → isBb (bt s i) = false → (bt s i).toNat ≠ 35 → tokAt s i = none → M i acc) (htok : ∀ i acc t, i < s.size → isBb (bt s i) = false → (bt s i).toNat ≠ 35 → tokAt s i = some t → M (i + t.2.2.1.size) (acc ++ [t]) → M i acc) : ∀ i acc, M i acc := by
  have key : ∀ n i acc, s.size - i = n → M i acc := by
    intro n
    induction n using Nat.strongRecOn with
    | _ n ih =>
      intro i acc hn
      by_cases hi : i < s.size
      · cases hb : isBb (bt s i) with
        | true => exact hblank i acc hi hb (ih _ (by omega) _ _ rfl)
        | false =>
          by_cases hr : (bt s i).toNat = 35
          · have := rem_more hi hr
            exact hrem i acc hi hr (ih _ (by omega) _ _ rfl)
          · cases ht : tokAt s i with
            | none => exact hbad i acc hi hb hr ht
            | some t =>
              have := tok_len ht hi
              exact htok i acc t hi hb hr ht (ih _ (by omega) _ _ rfl)
      · exact hend i acc (by omega)
  exact fun i acc => key _ i acc rfl
def sumT (L : List TokV) : Nat := (L.map fun t => t.2.2.1.size).sum
theorem sumT_snoc (L : List TokV) (t : TokV) : sumT (L ++ [t]) = sumT L + t.2.2.1.size := by simp [sumT]
theorem lex_bound {s : ByteArray} : ∀ i acc, i ≤ s.size → acc.length ≤ i → sumT acc ≤ i → (lexI s i acc).1.length ≤ s.size ∧ sumT (lexI s i acc).1 ≤ s.size := by
  refine lex_ind (s := s) _ ?_ ?_ ?_ ?_ ?_
  · intro i acc h h0 h1 h2
    rw [lexI_end h]
    exact ⟨by show acc.length ≤ _; omega, by show sumT acc ≤ _; omega⟩
  · intro i acc h hb ih h0 h1 h2
    rw [lexI_blank h hb]
    exact ih (by omega) (by omega) (by omega)
  · intro i acc h hb ih h0 h1 h2
    have := rem_more h hb
    rw [lexI_rem h hb]
    exact ih (by omega) (by omega) (by omega)
  · intro i acc h hb hr ht h0 h1 h2
    rw [lexI_bad h hb hr ht]
    exact ⟨Nat.zero_le _, Nat.zero_le _⟩
  · intro i acc t h hb hr ht ih h0 h1 h2
    have := tok_len ht h
    rw [lexI_tok h hb hr ht]
    refine ih (by omega) ?_ ?_
    · rw [List.length_append]
      show acc.length + 1 ≤ _
      omega
    · rw [sumT_snoc]
      omega
/-- a token against itself -/
theorem neq_tok (p : TokV) (W : World) : (binOp .neq 42 (tokA p) (tokA p)).run Tryd.prog W = .ok (.bool false) W := by
  go_simp
set_option maxHeartbeats 2000000 in
theorem code_same (L : List TokV) (A A' : Option Addr) (c c' : Nat) (w : World) (hl : L.length ≤ 100000) (h : RowTokV w A L) (h' : RowTokR w A' L) :
    Calls Tryd.prog 9 #[.slice A L.length c, .slice A' L.length c'] w fun e w' => e = .returned (.bool true) ∧ Below w.heap.size w w' := by
  have HA := Lib.hid h
  have HA' := Lib.hid h'
  have HL := Lib.hid hl
  clear h h' hl
  have hnl : ((L.length : Int) != (L.length : Int)) = false := by simp
  go_enter Tryd.func9, Tryd.ntmps9
  go_wp2
  clear hnl
  go_loopw [5, 13] (fun v5 v13 wr => ∃ k : Nat, v13 = .int .i64 (k : Nat) ∧ Hid (k ≤ L.length) ∧ Hid (Below w.heap.size w wr)) (fun _ v13 _ => leftI L.length v13)
  case atStart => exact ⟨0, rfl, Lib.hid (Nat.zero_le _), Lib.hid (Below.refl _ _)⟩
  case round =>
    obtain ⟨k, rfl, HK, HB⟩ := hrel
    by_cases hlt : k < L.length
    · have hlt' : (k : Int) < (L.length : Int) := by omega
      have HLt := Lib.hid hlt
      have HWk : Hid (wrap64 ((k : Int) + 1) = ((k + 1 : Nat) : Int)) := Lib.hid (wrap1 (by have := HL.out; omega))
      obtain ⟨b, o, rfl, p1, q0, q1, q2, q3⟩ := HA.out.at_ k hlt
      obtain ⟨b', o', rfl, p1', q0', q1', q2', q3'⟩ := HA'.out.at_ k hlt
      generalize L[k] = x at q0 q1 q2 q3 q0' q1' q2' q3'
      have HS0 : Hid ((fun V : World => (V.cell? ⟨b, o + k * 4, none⟩ = some (.int .i64 x.1) ∧ V.cell? ⟨b, o + k * 4 + 1, none⟩ = some (.int .i64 x.2.1) ∧ V.cell? ⟨b, o + k * 4 + 2, none⟩ = some (.string x.2.2.1) ∧ V.cell? ⟨b, o + k * 4 + 3, none⟩ = some (.int .i64 x.2.2.2)) ∧ (V.cell? ⟨b', o' + k * 4, none⟩ = some (.int .i64 x.1) ∧ V.cell? ⟨b', o' + k * 4 + 1, none⟩ = some (.int .i64 x.2.1) ∧ V.cell? ⟨b', o' + k * 4 + 2, none⟩ = some (.string x.2.2.1) ∧ V.cell? ⟨b', o' + k * 4 + 3, none⟩ = some (.int .i64 x.2.2.2))) wr.drew) := Lib.hid (by
        have hb := HB.out.drew
        exact ⟨⟨(hb.cell (p := ⟨b, _, none⟩) p1).trans q0, (hb.cell (p := ⟨b, _, none⟩) p1).trans q1, (hb.cell (p := ⟨b, _, none⟩) p1).trans q2, (hb.cell (p := ⟨b, _, none⟩) p1).trans q3⟩, (hb.cell (p := ⟨b', _, none⟩) p1').trans q0', (hb.cell (p := ⟨b', _, none⟩) p1').trans q1', (hb.cell (p := ⟨b', _, none⟩) p1').trans q2', (hb.cell (p := ⟨b', _, none⟩) p1').trans q3'⟩)
      have HBd : Hid (Below w.heap.size w wr.drew) := Lib.hid HB.out.drew
      clear q0 q1 q2 q3 q0' q1' q2' q3' p1 p1' hlt
      go_wp2
      refine wp_region_held_drew (S := fun V : World => (V.cell? ⟨b, o + k * 4, none⟩ = some (.int .i64 x.1) ∧ V.cell? ⟨b, o + k * 4 + 1, none⟩ = some (.int .i64 x.2.1) ∧ V.cell? ⟨b, o + k * 4 + 2, none⟩ = some (.string x.2.2.1) ∧ V.cell? ⟨b, o + k * 4 + 3, none⟩ = some (.int .i64 x.2.2.2)) ∧ (V.cell? ⟨b', o' + k * 4, none⟩ = some (.int .i64 x.1) ∧ V.cell? ⟨b', o' + k * 4 + 1, none⟩ = some (.int .i64 x.2.1) ∧ V.cell? ⟨b', o' + k * 4 + 2, none⟩ = some (.string x.2.2.1) ∧ V.cell? ⟨b', o' + k * 4 + 3, none⟩ = some (.int .i64 x.2.2.2))) (by kernel_rfl) HS0.out ?_
      intro hHeld
      clear HS0
      generalize wr.drew = wd at HBd hHeld ⊢
      (refine takeH (i := 0) (v := ?_) rfl (by kernel_rfl) (by kernel_rfl) (by kernel_rfl) (fun _ _ _ h => h) (Or.inl ⟨by rfl, ?_⟩) (by assumption) ?_; rotate_left; (focus ((intro wS hSw); (try dsimp only at hSw); obtain ⟨⟨s0, s1, s2, s3⟩, t0, t1, t2, t3⟩ := hSw; (have e3 := neq_tok x wS); go_simp; (try with_reducible rfl); done)); (try simp only [Act.put, List.setIfInBounds_toArray, List.set_cons_zero, List.set_cons_succ]))
      (refine takeH (i := 1) (v := ?_) rfl (by kernel_rfl) (by kernel_rfl) (by kernel_rfl) (fun _ _ _ h => h) (Or.inl ⟨by rfl, ?_⟩) (by assumption) ?_; rotate_left; (focus ((intro wS hSw); (try dsimp only at hSw); obtain ⟨⟨s0, s1, s2, s3⟩, t0, t1, t2, t3⟩ := hSw; (have e3 := neq_tok x wS); go_simp; (try with_reducible rfl); done)); (try simp only [Act.put, List.setIfInBounds_toArray, List.set_cons_zero, List.set_cons_succ]))
      (refine takeH (i := 2) (v := ?_) rfl (by kernel_rfl) (by kernel_rfl) (by kernel_rfl) (fun _ _ _ h => h) (Or.inl ⟨by rfl, ?_⟩) (by assumption) ?_; rotate_left; (focus ((intro wS hSw); (try dsimp only at hSw); obtain ⟨⟨s0, s1, s2, s3⟩, t0, t1, t2, t3⟩ := hSw; (have e3 := neq_tok x wS); go_simp; (try with_reducible rfl); done)); (try simp only [Act.put, List.setIfInBounds_toArray, List.set_cons_zero, List.set_cons_succ]))
      (refine takeH (i := 3) (v := ?_) rfl (by kernel_rfl) (by kernel_rfl) (by kernel_rfl) (fun _ _ _ h => h) (Or.inl ⟨by rfl, ?_⟩) (by assumption) ?_; rotate_left; (focus ((intro wS hSw); (try dsimp only at hSw); obtain ⟨⟨s0, s1, s2, s3⟩, t0, t1, t2, t3⟩ := hSw; (have e3 := neq_tok x wS); go_simp; (try with_reducible rfl); done)); (try simp only [Act.put, List.setIfInBounds_toArray, List.set_cons_zero, List.set_cons_succ]))
      (refine takeH (i := 4) (v := ?_) rfl (by kernel_rfl) (by kernel_rfl) (by kernel_rfl) (fun _ _ _ h => h) (Or.inl ⟨by rfl, ?_⟩) (by assumption) ?_; rotate_left; (focus ((intro wS hSw); (try dsimp only at hSw); obtain ⟨⟨s0, s1, s2, s3⟩, t0, t1, t2, t3⟩ := hSw; (have e3 := neq_tok x wS); go_simp; (try with_reducible rfl); done)); (try simp only [Act.put, List.setIfInBounds_toArray, List.set_cons_zero, List.set_cons_succ]))
      (refine takeH (i := 5) (v := ?_) rfl (by kernel_rfl) (by kernel_rfl) (by kernel_rfl) (fun _ _ _ h => h) (Or.inl ⟨by rfl, ?_⟩) (by assumption) ?_; rotate_left; (focus ((intro wS hSw); (try dsimp only at hSw); obtain ⟨⟨s0, s1, s2, s3⟩, t0, t1, t2, t3⟩ := hSw; (have e3 := neq_tok x wS); go_simp; (try with_reducible rfl); done)); (try simp only [Act.put, List.setIfInBounds_toArray, List.set_cons_zero, List.set_cons_succ]))
      (refine takeH (i := 6) (v := ?_) rfl (by kernel_rfl) (by kernel_rfl) (by kernel_rfl) (fun _ _ _ h => h) (Or.inl ⟨by rfl, ?_⟩) (by assumption) ?_; rotate_left; (focus ((intro wS hSw); (try dsimp only at hSw); obtain ⟨⟨s0, s1, s2, s3⟩, t0, t1, t2, t3⟩ := hSw; (have e3 := neq_tok x wS); go_simp; (try with_reducible rfl); done)); (try simp only [Act.put, List.setIfInBounds_toArray, List.set_cons_zero, List.set_cons_succ]))
      (refine takeH (i := 7) (v := ?_) rfl (by kernel_rfl) (by kernel_rfl) (by kernel_rfl) (fun _ _ _ h => h) (Or.inl ⟨by rfl, ?_⟩) (by assumption) ?_; rotate_left; (focus ((intro wS hSw); (try dsimp only at hSw); obtain ⟨⟨s0, s1, s2, s3⟩, t0, t1, t2, t3⟩ := hSw; (have e3 := neq_tok x wS); go_simp; (try with_reducible rfl); done)); (try simp only [Act.put, List.setIfInBounds_toArray, List.set_cons_zero, List.set_cons_succ]))
      (refine takeH (i := 8) (v := ?_) rfl (by kernel_rfl) (by kernel_rfl) (by kernel_rfl) (fun _ _ _ h => h) (Or.inl ⟨by rfl, ?_⟩) (by assumption) ?_; rotate_left; (focus ((intro wS hSw); (try dsimp only at hSw); obtain ⟨⟨s0, s1, s2, s3⟩, t0, t1, t2, t3⟩ := hSw; (have e3 := neq_tok x wS); go_simp; (try with_reducible rfl); done)); (try simp only [Act.put, List.setIfInBounds_toArray, List.set_cons_zero, List.set_cons_succ]))
      refine wpAnyH_done (by kernel_rfl) ?_ _
      clear hHeld
      have hwk := HWk.out
      go_wp2
      go_roundw
      case rel => exact ⟨k + 1, by first | rfl | rw [hwk], Lib.hid HLt.out, HBd⟩
      case measure => rw [hwk]; exact leftI_lt (Nat.lt_succ_self k) HLt.out
    · have hge : (L.length : Int) ≤ (k : Int) := by omega
      go_wp2
      go_ret
      exact ⟨rfl, HB.out⟩
/-- tokens shown: their texts, a blank between each two -/
def showL (L : List TokV) : List UInt8 := Lib.join (L.map fun t => t.2.2.1.data.toList) [32]
theorem join_snoc (xs : List (List UInt8)) (x sep : List UInt8) : Lib.join (xs ++ [x]) sep = if xs = [] then x else Lib.join xs sep ++ sep ++ x := by
  cases xs with
  | nil => rw [if_pos rfl, List.nil_append, Lib.join_one]
  | cons y r =>
    rw [if_neg (by simp), List.cons_append, Lib.join_cons, Lib.join_cons]
    unfold Lib.joinTail
    simp
theorem showL_snoc (L : List TokV) (t : TokV) : showL (L ++ [t]) = if L = [] then t.2.2.1.data.toList else showL L ++ [32] ++ t.2.2.1.data.toList := by
  unfold showL
  rw [List.map_append, List.map_cons, List.map_nil, join_snoc]
  by_cases h : L = []
  · rw [if_pos h, if_pos (by rw [h]; rfl)]
  · rw [if_neg h, if_neg (by simpa using h)]
theorem showL_len (L : List TokV) : (showL L).length ≤ sumT L + L.length := by
  have key : ∀ n (L : List TokV), L.length = n → (showL L).length ≤ sumT L + L.length := by
    intro n
    induction n with
    | zero =>
      intro L h
      have : L = [] := List.eq_nil_of_length_eq_zero h
      subst this
      exact Nat.le_refl 0
    | succ n ih =>
      intro L h
      obtain ⟨L', t, rfl⟩ : ∃ L' t, L = L' ++ [t] := ⟨L.dropLast, L.getLast (by intro e; subst e; simp at h), (List.dropLast_concat_getLast _).symm⟩
      have hl : L'.length = n := by rw [List.length_append] at h; simpa using h
      have h1 := ih L' hl
      have h2 : t.2.2.1.data.toList.length = t.2.2.1.size := by rw [Array.length_toList]; rfl
      rw [showL_snoc, sumT_snoc, List.length_append]
      split
      · rw [h2]
        simp only [List.length_cons, List.length_nil]
        omega
      · rw [List.length_append, List.length_append, h2]
        simp only [List.length_cons, List.length_nil]
        omega
  exact key _ L rfl
theorem own_belowS {w w' : World} {base : Nat} {v : Value} {n : Nat} {xs : List Value} (h : w.ownsRow base 9 1 v n xs) (hb : Below w.heap.size w w') : w'.ownsRow base 9 1 v n xs :=
  h.kept (row := none) ⟨hb.os, hb.tape, hb.output, hb.size, fun k hk _ => hb.block k hk⟩ (by
    rcases h.2 with ⟨rfl, _⟩ | ⟨g, c, cur, rfl, _⟩
    · exact .inl rfl
    · exact .inr (by simp [Value.ownBlock]))
theorem strfact : (Tryd.prog.info? 9).map (fun i => (i.zero, i.size, i.bytes)) = some (some (.string {data:=#[]}), 1, 16) := by kernel_rfl
theorem wpList_append_str {w0 wb w : World} {ops : Array Oper} {rest : List Oper} {o : Oper} {a : Act} {Q : Exit → Act → World → Prop} (hgd : o.guard = none) (s x : Operand)
    (ho : o.op = .call { callee := .builtin .append, args := #[s, x], argTypes := #[45, 45] }) (v : Value) (L : List ByteArray) (str : ByteArray) (hs : a.eval s = v) (hown : wb.ownsRow w0.heap.size 9 1 v L.length (L.map .string))
    (hw : w = wb.alloc (.cells #[.string str] 9)) (g : Nat) (hg : wb.heap.size = g) (hx : a.eval x = .slice (some ⟨g, 0, none⟩) 1 1) (hb : Below w0.heap.size w0 wb) (hL : L.length ≤ 100000)
    (h : ∀ v' w', w'.ownsRow w0.heap.size 9 1 v' (L ++ [str]).length ((L ++ [str]).map .string) → Below w0.heap.size w0 w' → wpList Tryd.prog ops Q rest (a.put o.dst v') w') :
    wpList Tryd.prog ops Q (o :: rest) a w := by
  subst hw hg
  obtain ⟨i0, hi, hz0, hz1, hz2⟩ := info_parts strfact
  have hb1 : Below wb.heap.size wb (wb.alloc (.cells #[.string str] 9)) := (Below.refl _ _).alloc (Nat.le_refl _) _
  refine wpList_append_own (P := Tryd.prog) _ hgd s x 45 ho w0.heap.size 9 i0 (.string {data:=#[]}) 1 16 Tryd.underlying45 hi hz0 hz1 hz2 rfl (by decide) v L.length (L.map .string) hs (own_belowS hown hb1) ⟨wb.heap.size, 0, none⟩ 1 1 [.string str] hx rfl ?_ ?_ (by unfold maxLen; omega) (by omega) (Nat.le_trans hb.size (by simp)) fun v' w' k1 k2 _ => ?_
  · intro j u hu
    cases j with
    | zero =>
      simp at hu
      subst hu
      have h7 : (⟨wb.heap.size, 0, none⟩ : Addr).add 0 = ⟨wb.heap.size, 0, none⟩ := by simp [Addr.add]
      rw [h7, cell_of_row _ wb.heap.size 0 _ _ _ (heap_alloc_new wb (.cells #[.string str] 9))]
      rfl
    | succ j => simp at hu
  · intro u hu
    simp at hu
    subst hu
    rfl
  · refine h v' w' (by simpa using k1) ((hb.alloc hb.size _).grown k2 (Nat.le_trans hb.size (by simp)) fun k hk => ?_)
    exact ((own_belowS hown hb1).lt k hk).1
end Go.Proofs.YtfjecohokmelfaaDoor
