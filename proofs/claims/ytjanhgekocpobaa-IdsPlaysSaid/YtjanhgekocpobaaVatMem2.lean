/- The document's own list, gone through: the member states. The document's member states, and whether a country is one. -/
import Derived.Test.YtjanhgekocpobaaVatTab
import Derived.Maps.AppendAt
namespace Go.Proofs.Ytjanhgekocpobaa
open Go.RowKit Go.Maps
set_option maxRecDepth 1000000

/-- the document's list -/
def listB : ByteArray := ({ data := #[65, 84, 32, 85, 57, 57, 57, 57, 57, 57, 57, 57, 59, 66, 69, 32, 48, 57, 57, 57, 57, 57, 57, 57, 57, 57, 32, 49, 57, 57, 57, 57, 57, 57, 57, 57, 57, 59, 66, 71, 32, 57, 57, 57, 57, 57, 57, 57, 57, 57, 32, 57, 57, 57, 57, 57, 57, 57, 57, 57, 57, 59, 67, 89, 32, 57, 57, 57, 57, 57, 57, 57, 57, 65, 59, 67, 90, 32, 57, 57, 57, 57, 57, 57, 57, 57, 32, 57, 57, 57, 57, 57, 57, 57, 57, 57, 32, 57, 57, 57, 57, 57, 57, 57, 57, 57, 57, 59, 68, 69, 32, 57, 57, 57, 57, 57, 57, 57, 57, 57, 59, 68, 75, 32, 57, 57, 57, 57, 57, 57, 57, 57, 59, 69, 69, 32, 57, 57, 57, 57, 57, 57, 57, 57, 57, 59, 69, 76, 32, 57, 57, 57, 57, 57, 57, 57, 57, 57, 59, 69, 83, 32, 88, 57, 57, 57, 57, 57, 57, 57, 88, 59, 70, 73, 32, 57, 57, 57, 57, 57, 57, 57, 57, 59, 70, 82, 32, 88, 88, 57, 57, 57, 57, 57, 57, 57, 57, 57, 59, 72, 82, 32, 57, 57, 57, 57, 57, 57, 57, 57, 57, 57, 57, 59, 72, 85, 32, 57, 57, 57, 57, 57, 57, 57, 57, 59, 73, 69, 32, 57, 43, 57, 57, 57, 57, 57, 65, 32, 57, 57, 57, 57, 57, 57, 57, 65, 65, 59, 73, 84, 32, 57, 57, 57, 57, 57, 57, 57, 57, 57, 57, 57, 59, 76, 84, 32, 57, 57, 57, 57, 57, 57, 57, 57, 57, 32, 57, 57, 57, 57, 57, 57, 57, 57, 57, 57, 57, 57, 59, 76, 85, 32, 57, 57, 57, 57, 57, 57, 57, 57, 59, 76, 86, 32, 57, 57, 57, 57, 57, 57, 57, 57, 57, 57, 57, 59, 77, 84, 32, 57, 57, 57, 57, 57, 57, 57, 57, 59, 78, 76, 32, 57, 57, 57, 57, 57, 57, 57, 57, 57, 66, 57, 57, 59, 80, 76, 32, 57, 57, 57, 57, 57, 57, 57, 57, 57, 57, 59, 80, 84, 32, 57, 57, 57, 57, 57, 57, 57, 57, 57, 59, 82, 79, 32, 57, 57, 32, 57, 57, 57, 32, 57, 57, 57, 57, 32, 57, 57, 57, 57, 57, 32, 57, 57, 57, 57, 57, 57, 32, 57, 57, 57, 57, 57, 57, 57, 32, 57, 57, 57, 57, 57, 57, 57, 57, 32, 57, 57, 57, 57, 57, 57, 57, 57, 57, 32, 57, 57, 57, 57, 57, 57, 57, 57, 57, 57, 59, 83, 69, 32, 57, 57, 57, 57, 57, 57, 57, 57, 57, 57, 57, 57, 59, 83, 73, 32, 57, 57, 57, 57, 57, 57, 57, 57, 59, 83, 75, 32, 57, 57, 57, 57, 57, 57, 57, 57, 57, 57, 59] } : ByteArray)
def listT : List UInt8 := listB.data.toList
theorem list_size : listB.size = 479 := by decide +kernel
/-- the member states from there on -/
def memF : List UInt8 → Bool → List (List UInt8)
  | [], _ => []
  | x :: r, b => (if b then [(x :: r).take 2] else []) ++ memF r (decide (x = 59))
/-- does an entry begin there -/
def begins (j : Nat) : Bool := decide (j = 0) || decide (listT.getD (j - 1) 0 = 59)
theorem begins_room : ∀ j < 479, begins j = true → j + 2 ≤ 479 := by decide +kernel
theorem mem_all : memF listT true = tabL.map (fun p => strT p.1) := by decide +kernel
theorem memF_step {j : Nat} (h : j < 479) : memF (listT.drop j) (begins j) = (if begins j then [(listT.drop j).take 2] else []) ++ memF (listT.drop (j + 1)) (begins (j + 1)) := by
  have hl : listT.length = 479 := list_size
  rw [List.drop_eq_getElem_cons (by omega), memF]
  have : begins (j + 1) = decide (listT[j] = 59) := by
    unfold begins
    rw [decide_eq_false (by omega), Bool.false_or, Nat.add_sub_cancel, List.getD_eq_getElem?_getD, List.getElem?_eq_getElem (by omega)]
    rfl
  rw [this]
  rfl
theorem own_belowS {w w' : World} {base : Nat} {v : Value} {n : Nat} {xs : List Value} (h : w.ownsRow base 9 1 v n xs) (hb : Below w.heap.size w w') : w'.ownsRow base 9 1 v n xs :=
  h.kept (row := none) ⟨hb.os, hb.tape, hb.output, hb.size, fun k hk _ => hb.block k hk⟩ (by
    rcases h.2 with ⟨rfl, _⟩ | ⟨g, c, cur, rfl, _⟩
    · exact .inl rfl
    · exact .inr (by simp [Value.ownBlock]))
theorem own_strs {w : World} {B : Nat} {v : Value} {L : List ByteArray} (h : w.ownsRow B 9 1 v L.length (L.map .string)) (hL : ∀ s ∈ L, s.size ≤ 1000) : ∃ A c, v = .slice A L.length c ∧ Strs w A L := by
  rcases h.2 with ⟨rfl, h0⟩ | ⟨g, c, cur, rfl, _, hh, hc, hm, hx⟩
  · have : L = [] := List.eq_nil_of_length_eq_zero h0
    subst this
    exact ⟨none, 0, rfl, fun i hi => by simp at hi⟩
  · refine ⟨_, c, rfl, fun i hi => ⟨_, rfl, (Array.getElem?_eq_some_iff.1 hh).1, ?_, hL _ (List.getElem_mem hi)⟩⟩
    exact h.cells (g := g) rfl i _ (by rw [List.getElem?_map, List.getElem?_eq_getElem hi]; rfl)
theorem strfact : (Try.prog.info? 9).map (fun i => (i.zero, i.size, i.bytes)) = some (some (.string {data:=#[]}), 1, 16) := by kernel_rfl
theorem wpList_append_str {w0 wb w : World} {ops : Array Oper} {rest : List Oper} {o : Oper} {a : Act} {Q : Exit → Act → World → Prop} (hgd : o.guard = none) (s x : Operand)
    (ho : o.op = .call { callee := .builtin .append, args := #[s, x], argTypes := #[33, 33] }) (v : Value) (L : List ByteArray) (str : ByteArray) (hs : a.eval s = v) (hown : wb.ownsRow w0.heap.size 9 1 v L.length (L.map .string))
    (hw : w = wb.alloc (.cells #[.string str] 9)) (g : Nat) (hg : wb.heap.size = g) (hx : a.eval x = .slice (some ⟨g, 0, none⟩) 1 1) (hb : Below w0.heap.size w0 wb) (hL : L.length ≤ 1000)
    (h : ∀ v' w', w'.ownsRow w0.heap.size 9 1 v' (L ++ [str]).length ((L ++ [str]).map .string) → Below w0.heap.size w0 w' → wpList Try.prog ops Q rest (a.put o.dst v') w') :
    wpList Try.prog ops Q (o :: rest) a w := by
  subst hw hg
  obtain ⟨i0, hi, hz0, hz1, hz2⟩ := info_parts strfact
  have hb1 : Below wb.heap.size wb (wb.alloc (.cells #[.string str] 9)) := (Below.refl _ _).alloc (Nat.le_refl _) _
  refine wpList_append_own_at (P := Try.prog) _ hgd s x 33 ho w0.heap.size 9 i0 (.string {data:=#[]}) 1 16 Try.underlying33 hi hz0 hz1 hz2 rfl (by decide) v L.length (L.map .string) hs (own_belowS hown hb1) ⟨wb.heap.size, 0, none⟩ 1 1 [.string str] hx rfl ?_ ?_ (by unfold maxLen; omega) (by omega) (Nat.le_trans hb.size (by simp)) fun v' w' k1 k2 _ _ => ?_
  · intro j u hu
    cases j with
    | zero =>
      simp at hu
      subst hu
      have h7 : (⟨wb.heap.size, 0, none⟩ : Addr).add 0 = ⟨wb.heap.size, 0, none⟩ := by simp [Addr.add]
      rw [h7, cell_of_row _ wb.heap.size 0 _ _ _ (heap_alloc_new wb (.cells #[.string str] 9))]
      rfl
    | succ j => simp at hu
  · intro u hu
    simp at hu
    subst hu
    rfl
  · refine h v' w' (by simpa using k1) ((hb.alloc hb.size _).grown k2 (Nat.le_trans hb.size (by simp)) fun k hk => ?_)
    exact ((own_belowS hown hb1).lt k hk).1
theorem strT_inj {a b : ByteArray} (h : strT a = strT b) : a = b := str_eq h
theorem map_inj {L M : List ByteArray} (h : L.map strT = M.map strT) : L = M := by
  induction L generalizing M with
  | nil => cases M with
    | nil => rfl
    | cons _ _ => simp at h
  | cons a L ih => cases M with
    | nil => simp at h
    | cons b M =>
      simp only [List.map_cons, List.cons.injEq] at h
      rw [strT_inj h.1, ih h.2]
theorem tab_keys : ∀ s ∈ tabL.map (·.1), s.size ≤ 1000 := by decide +kernel
theorem ext_strT (s : ByteArray) (i j : Nat) : strT (s.extract i j) = ((strT s).drop i).take (j - i) := by
  unfold strT
  rw [ByteArray.data_extract, Array.toList_extract, List.extract_eq_take_drop]
theorem ext_two (j : Nat) : strT (listB.extract j (j + 2)) = (listT.drop j).take 2 := by
  rw [ext_strT, Nat.add_sub_cancel_left]; rfl
end Go.Proofs.Ytjanhgekocpobaa

namespace Go.Proofs.Ytjanhgekocpobaa
open Go.RowKit Go.Maps
set_option maxRecDepth 1000000

set_option maxHeartbeats 2000000 in
theorem ref_members (w : World) : Calls Try.prog 59 #[] w (ToldL w (tabL.map (·.1))) := by
  go_enter Try.func59, Try.ntmps59
  go_wp2
  go_loopw [1, 2, 3] (fun v u i wr => ∃ (j : Nat) (L : List ByteArray) (B : Bool), j ≤ 479 ∧ i = .int .i64 j ∧ u = .bool B ∧ Hid (B = begins j) ∧ Hid (L.map strT ++ memF (listT.drop j) (begins j) = tabL.map (fun p => strT p.1)) ∧ Hid (L.length ≤ j) ∧ Hid (wr.ownsRow w.heap.size 9 1 v L.length (L.map .string)) ∧ Hid (Below w.heap.size w wr)) (fun _ _ i _ => 479 - (intOf i).toNat)
  case atStart => exact ⟨0, [], true, by omega, rfl, rfl, Lib.hid rfl, Lib.hid mem_all, Lib.hid (Nat.le_refl _), Lib.hid (World.ownsRow_nil _ _ _ _), Lib.hid (Below.refl _ _)⟩
  case round =>
    obtain ⟨j, L, B, hj, rfl, rfl, HB0, HL, HN, HO, HB⟩ := hrel
    by_cases hlt : j < 479
    · have hlti : (j : Int) < 479 := by omega
      have HS := Lib.hid (memF_step hlt)
      have HR := Lib.hid (begins_room j hlt)
      obtain ⟨x, hx⟩ : ∃ x : UInt8, x = listT.getD j 0 := ⟨_, rfl⟩
      have hget : ∀ h, (({ data := #[65, 84, 32, 85, 57, 57, 57, 57, 57, 57, 57, 57, 59, 66, 69, 32, 48, 57, 57, 57, 57, 57, 57, 57, 57, 57, 32, 49, 57, 57, 57, 57, 57, 57, 57, 57, 57, 59, 66, 71, 32, 57, 57, 57, 57, 57, 57, 57, 57, 57, 32, 57, 57, 57, 57, 57, 57, 57, 57, 57, 57, 59, 67, 89, 32, 57, 57, 57, 57, 57, 57, 57, 57, 65, 59, 67, 90, 32, 57, 57, 57, 57, 57, 57, 57, 57, 32, 57, 57, 57, 57, 57, 57, 57, 57, 57, 32, 57, 57, 57, 57, 57, 57, 57, 57, 57, 57, 59, 68, 69, 32, 57, 57, 57, 57, 57, 57, 57, 57, 57, 59, 68, 75, 32, 57, 57, 57, 57, 57, 57, 57, 57, 59, 69, 69, 32, 57, 57, 57, 57, 57, 57, 57, 57, 57, 59, 69, 76, 32, 57, 57, 57, 57, 57, 57, 57, 57, 57, 59, 69, 83, 32, 88, 57, 57, 57, 57, 57, 57, 57, 88, 59, 70, 73, 32, 57, 57, 57, 57, 57, 57, 57, 57, 59, 70, 82, 32, 88, 88, 57, 57, 57, 57, 57, 57, 57, 57, 57, 59, 72, 82, 32, 57, 57, 57, 57, 57, 57, 57, 57, 57, 57, 57, 59, 72, 85, 32, 57, 57, 57, 57, 57, 57, 57, 57, 59, 73, 69, 32, 57, 43, 57, 57, 57, 57, 57, 65, 32, 57, 57, 57, 57, 57, 57, 57, 65, 65, 59, 73, 84, 32, 57, 57, 57, 57, 57, 57, 57, 57, 57, 57, 57, 59, 76, 84, 32, 57, 57, 57, 57, 57, 57, 57, 57, 57, 32, 57, 57, 57, 57, 57, 57, 57, 57, 57, 57, 57, 57, 59, 76, 85, 32, 57, 57, 57, 57, 57, 57, 57, 57, 59, 76, 86, 32, 57, 57, 57, 57, 57, 57, 57, 57, 57, 57, 57, 59, 77, 84, 32, 57, 57, 57, 57, 57, 57, 57, 57, 59, 78, 76, 32, 57, 57, 57, 57, 57, 57, 57, 57, 57, 66, 57, 57, 59, 80, 76, 32, 57, 57, 57, 57, 57, 57, 57, 57, 57, 57, 59, 80, 84, 32, 57, 57, 57, 57, 57, 57, 57, 57, 57, 59, 82, 79, 32, 57, 57, 32, 57, 57, 57, 32, 57, 57, 57, 57, 32, 57, 57, 57, 57, 57, 32, 57, 57, 57, 57, 57, 57, 32, 57, 57, 57, 57, 57, 57, 57, 32, 57, 57, 57, 57, 57, 57, 57, 57, 32, 57, 57, 57, 57, 57, 57, 57, 57, 57, 32, 57, 57, 57, 57, 57, 57, 57, 57, 57, 57, 59, 83, 69, 32, 57, 57, 57, 57, 57, 57, 57, 57, 57, 57, 57, 57, 59, 83, 73, 32, 57, 57, 57, 57, 57, 57, 57, 57, 59, 83, 75, 32, 57, 57, 57, 57, 57, 57, 57, 57, 57, 57, 59] } : ByteArray))[j]'h = x := fun h => by
        rw [hx]
        have hl : j < listT.length := h
        rw [List.getD_eq_getElem?_getD, List.getElem?_eq_getElem hl]
        rfl
      obtain ⟨X, hX⟩ : ∃ X : ByteArray, (({ data := #[65, 84, 32, 85, 57, 57, 57, 57, 57, 57, 57, 57, 59, 66, 69, 32, 48, 57, 57, 57, 57, 57, 57, 57, 57, 57, 32, 49, 57, 57, 57, 57, 57, 57, 57, 57, 57, 59, 66, 71, 32, 57, 57, 57, 57, 57, 57, 57, 57, 57, 32, 57, 57, 57, 57, 57, 57, 57, 57, 57, 57, 59, 67, 89, 32, 57, 57, 57, 57, 57, 57, 57, 57, 65, 59, 67, 90, 32, 57, 57, 57, 57, 57, 57, 57, 57, 32, 57, 57, 57, 57, 57, 57, 57, 57, 57, 32, 57, 57, 57, 57, 57, 57, 57, 57, 57, 57, 59, 68, 69, 32, 57, 57, 57, 57, 57, 57, 57, 57, 57, 59, 68, 75, 32, 57, 57, 57, 57, 57, 57, 57, 57, 59, 69, 69, 32, 57, 57, 57, 57, 57, 57, 57, 57, 57, 59, 69, 76, 32, 57, 57, 57, 57, 57, 57, 57, 57, 57, 59, 69, 83, 32, 88, 57, 57, 57, 57, 57, 57, 57, 88, 59, 70, 73, 32, 57, 57, 57, 57, 57, 57, 57, 57, 59, 70, 82, 32, 88, 88, 57, 57, 57, 57, 57, 57, 57, 57, 57, 59, 72, 82, 32, 57, 57, 57, 57, 57, 57, 57, 57, 57, 57, 57, 59, 72, 85, 32, 57, 57, 57, 57, 57, 57, 57, 57, 59, 73, 69, 32, 57, 43, 57, 57, 57, 57, 57, 65, 32, 57, 57, 57, 57, 57, 57, 57, 65, 65, 59, 73, 84, 32, 57, 57, 57, 57, 57, 57, 57, 57, 57, 57, 57, 59, 76, 84, 32, 57, 57, 57, 57, 57, 57, 57, 57, 57, 32, 57, 57, 57, 57, 57, 57, 57, 57, 57, 57, 57, 57, 59, 76, 85, 32, 57, 57, 57, 57, 57, 57, 57, 57, 59, 76, 86, 32, 57, 57, 57, 57, 57, 57, 57, 57, 57, 57, 57, 59, 77, 84, 32, 57, 57, 57, 57, 57, 57, 57, 57, 59, 78, 76, 32, 57, 57, 57, 57, 57, 57, 57, 57, 57, 66, 57, 57, 59, 80, 76, 32, 57, 57, 57, 57, 57, 57, 57, 57, 57, 57, 59, 80, 84, 32, 57, 57, 57, 57, 57, 57, 57, 57, 57, 59, 82, 79, 32, 57, 57, 32, 57, 57, 57, 32, 57, 57, 57, 57, 32, 57, 57, 57, 57, 57, 32, 57, 57, 57, 57, 57, 57, 32, 57, 57, 57, 57, 57, 57, 57, 32, 57, 57, 57, 57, 57, 57, 57, 57, 32, 57, 57, 57, 57, 57, 57, 57, 57, 57, 32, 57, 57, 57, 57, 57, 57, 57, 57, 57, 57, 59, 83, 69, 32, 57, 57, 57, 57, 57, 57, 57, 57, 57, 57, 57, 57, 59, 83, 73, 32, 57, 57, 57, 57, 57, 57, 57, 57, 59, 83, 75, 32, 57, 57, 57, 57, 57, 57, 57, 57, 57, 57, 59] } : ByteArray)).extract j (j + 2) = X := ⟨_, rfl⟩
      have HX : Hid (strT X = (listT.drop j).take 2) := Lib.hid (by rw [← hX]; exact ext_two j)
      have HNx : Hid ((((x.toNat : Nat) : Int) == 59) = begins (j + 1)) := Lib.hid (by
        unfold begins
        rw [decide_eq_false (by omega), Bool.false_or, Nat.add_sub_cancel, ← hx, Bool.eq_iff_iff, beq_iff_eq, decide_eq_true_iff]
        constructor
        · intro h; exact UInt8.toNat_inj.1 (by rw [show x.toNat = 59 by omega]; rfl)
        · intro h; rw [h]; rfl)
      clear hx
      cases B with
      | true =>
        have hroom : (j : Int) + 2 ≤ 479 := by have := HR.out HB0.out.symm; omega
        go_wp2_with (refine wpList_append_str (w0 := w) (wb := wr) rfl _ _ rfl _ L X rfl HO.out rfl _ rfl rfl HB.out ?c1 ?c2; (case c1 => have := HN.out; omega); intro v1 w1 hown hbb; have HO1 := Lib.hid hown; have HB1 := Lib.hid hbb; clear hown hbb)
        go_roundw
        case rel =>
          refine ⟨j + 1, L ++ [X], _, by omega, by go_num, rfl, HNx, Lib.hid ?_, Lib.hid (by rw [List.length_append]; have := HN.out; simp; omega), HO1, HB1⟩
          rw [← HL.out, HS.out, ← HB0.out, List.map_append, List.append_assoc]
          simp [HX.out]
        case measure => simp [intOf]; omega
      | false =>
        clear HX hX
        go_wp2
        go_roundw
        case rel =>
          refine ⟨j + 1, L, _, by omega, by go_num, rfl, HNx, Lib.hid ?_, Lib.hid (by have := HN.out; omega), HO, HB⟩
          rw [← HL.out, HS.out, ← HB0.out]
          simp
        case measure => simp [intOf]; omega
    · obtain rfl : j = 479 := by omega
      have HF : Hid (L = tabL.map (·.1)) := Lib.hid (by
        have h1 := HL.out
        have h2 : listT.drop 479 = [] := List.drop_eq_nil_of_le (Nat.le_of_eq list_size)
        rw [h2] at h1
        simp only [memF, List.append_nil] at h1
        have h3 : L.map strT = (tabL.map (·.1)).map strT := by rw [h1, List.map_map]; rfl
        exact map_inj h3)
      have HO2 := HO
      rw [HF.out] at HO2
      obtain ⟨A, c, rfl, hs⟩ := own_strs HO2.out tab_keys
      have HS := Lib.hid hs
      clear HO HO2 hs
      go_wp2
      go_ret
      exact ⟨A, c, rfl, HS.out, HB.out⟩
end Go.Proofs.Ytjanhgekocpobaa
