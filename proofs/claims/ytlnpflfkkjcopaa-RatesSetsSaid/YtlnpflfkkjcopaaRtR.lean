/- The document's own list of member states; lists of texts held against each other. Whether a country is a member state: the document's and the program's. -/
import Derived.Test.YtlnpflfkkjcopaaRtM
import Derived.Test.YtlnpflfkkjcopaaDrawB
import Derived.Maps.AppendAt
namespace Go.Proofs.Ytlnpflfkkjcopaa
open Go.RowKit Go.Maps
set_option maxRecDepth 1000000

def Strs (w : World) (A : Option Addr) (L : List ByteArray) : Prop :=
  ∀ i (h : i < L.length), ∃ a, A = some a ∧ a.block < w.heap.size ∧ w.cell? (a.add i) = some (.string L[i]) ∧ L[i].size ≤ 1000
theorem Strs.below {w w' : World} {A : Option Addr} {L : List ByteArray} (h : Strs w A L) (hb : Below w.heap.size w w') : Strs w' A L := fun i hi => by
  obtain ⟨a, e, hbl, hc, h1⟩ := h i hi
  exact ⟨a, e, Nat.lt_of_lt_of_le hbl hb.size, (hb.cell (by rw [add_block]; exact hbl)).trans hc, h1⟩
def keysL : List ByteArray := [{ data := #[65, 84] }, { data := #[66, 69] }, { data := #[66, 71] }, { data := #[67, 89] }, { data := #[67, 90] }, { data := #[68, 69] }, { data := #[68, 75] }, { data := #[69, 69] }, { data := #[69, 76] }, { data := #[69, 83] }, { data := #[70, 73] }, { data := #[70, 82] }, { data := #[72, 82] }, { data := #[72, 85] }, { data := #[73, 69] }, { data := #[73, 84] }, { data := #[76, 84] }, { data := #[76, 85] }, { data := #[76, 86] }, { data := #[77, 84] }, { data := #[78, 76] }, { data := #[80, 76] }, { data := #[80, 84] }, { data := #[82, 79] }, { data := #[83, 69] }, { data := #[83, 73] }, { data := #[83, 75] }]
/-- a list of texts told -/
def ToldL (w : World) (L : List ByteArray) (e : Ending) (w' : World) : Prop := ∃ A n, e = .returned (.slice A L.length n) ∧ Strs w' A L ∧ Below w.heap.size w w'
theorem below_drewN' {w w' : World} {b : Nat} (h : Below b w w') (n : Nat) : Below b w (w'.drewN n) := h.trans ⟨rfl, rfl, rfl, Nat.le_refl _, fun _ _ => rfl⟩
theorem str_beq (a b : ByteArray) : (a.toList == b.toList) = decide (a = b) := by
  rw [Bool.eq_iff_iff, decide_eq_true_iff, beq_iff_eq, ByteArray.toList_eq, ByteArray.toList_eq]
  exact ⟨fun h => bytes_inj h, fun h => by rw [h]⟩
/-- the document's list -/
def listB : ByteArray := ({ data := #[65, 84, 32, 85, 57, 57, 57, 57, 57, 57, 57, 57, 59, 66, 69, 32, 48, 57, 57, 57, 57, 57, 57, 57, 57, 57, 32, 49, 57, 57, 57, 57, 57, 57, 57, 57, 57, 59, 66, 71, 32, 57, 57, 57, 57, 57, 57, 57, 57, 57, 32, 57, 57, 57, 57, 57, 57, 57, 57, 57, 57, 59, 67, 89, 32, 57, 57, 57, 57, 57, 57, 57, 57, 65, 59, 67, 90, 32, 57, 57, 57, 57, 57, 57, 57, 57, 32, 57, 57, 57, 57, 57, 57, 57, 57, 57, 32, 57, 57, 57, 57, 57, 57, 57, 57, 57, 57, 59, 68, 69, 32, 57, 57, 57, 57, 57, 57, 57, 57, 57, 59, 68, 75, 32, 57, 57, 57, 57, 57, 57, 57, 57, 59, 69, 69, 32, 57, 57, 57, 57, 57, 57, 57, 57, 57, 59, 69, 76, 32, 57, 57, 57, 57, 57, 57, 57, 57, 57, 59, 69, 83, 32, 88, 57, 57, 57, 57, 57, 57, 57, 88, 59, 70, 73, 32, 57, 57, 57, 57, 57, 57, 57, 57, 59, 70, 82, 32, 88, 88, 57, 57, 57, 57, 57, 57, 57, 57, 57, 59, 72, 82, 32, 57, 57, 57, 57, 57, 57, 57, 57, 57, 57, 57, 59, 72, 85, 32, 57, 57, 57, 57, 57, 57, 57, 57, 59, 73, 69, 32, 57, 43, 57, 57, 57, 57, 57, 65, 32, 57, 57, 57, 57, 57, 57, 57, 65, 65, 59, 73, 84, 32, 57, 57, 57, 57, 57, 57, 57, 57, 57, 57, 57, 59, 76, 84, 32, 57, 57, 57, 57, 57, 57, 57, 57, 57, 32, 57, 57, 57, 57, 57, 57, 57, 57, 57, 57, 57, 57, 59, 76, 85, 32, 57, 57, 57, 57, 57, 57, 57, 57, 59, 76, 86, 32, 57, 57, 57, 57, 57, 57, 57, 57, 57, 57, 57, 59, 77, 84, 32, 57, 57, 57, 57, 57, 57, 57, 57, 59, 78, 76, 32, 57, 57, 57, 57, 57, 57, 57, 57, 57, 66, 57, 57, 59, 80, 76, 32, 57, 57, 57, 57, 57, 57, 57, 57, 57, 57, 59, 80, 84, 32, 57, 57, 57, 57, 57, 57, 57, 57, 57, 59, 82, 79, 32, 57, 57, 32, 57, 57, 57, 32, 57, 57, 57, 57, 32, 57, 57, 57, 57, 57, 32, 57, 57, 57, 57, 57, 57, 32, 57, 57, 57, 57, 57, 57, 57, 32, 57, 57, 57, 57, 57, 57, 57, 57, 32, 57, 57, 57, 57, 57, 57, 57, 57, 57, 32, 57, 57, 57, 57, 57, 57, 57, 57, 57, 57, 59, 83, 69, 32, 57, 57, 57, 57, 57, 57, 57, 57, 57, 57, 57, 57, 59, 83, 73, 32, 57, 57, 57, 57, 57, 57, 57, 57, 59, 83, 75, 32, 57, 57, 57, 57, 57, 57, 57, 57, 57, 57, 59] } : ByteArray)
def listT : List UInt8 := listB.data.toList
theorem list_size : listB.size = 479 := by decide +kernel
/-- the member states from there on -/
def memF : List UInt8 → Bool → List (List UInt8)
  | [], _ => []
  | x :: r, b => (if b then [(x :: r).take 2] else []) ++ memF r (decide (x = 59))
/-- does an entry begin there -/
def begins (j : Nat) : Bool := decide (j = 0) || decide (listT.getD (j - 1) 0 = 59)
theorem begins_room : ∀ j < 479, begins j = true → j + 2 ≤ 479 := by decide +kernel
theorem mem_all : memF listT true = keysL.map bytesOf := by decide +kernel
theorem memF_step {j : Nat} (h : j < 479) : memF (listT.drop j) (begins j) = (if begins j then [(listT.drop j).take 2] else []) ++ memF (listT.drop (j + 1)) (begins (j + 1)) := by
  have hl : listT.length = 479 := list_size
  rw [List.drop_eq_getElem_cons (by omega), memF]
  have : begins (j + 1) = decide (listT[j] = 59) := by
    unfold begins
    rw [decide_eq_false (by omega), Bool.false_or, Nat.add_sub_cancel, List.getD_eq_getElem?_getD, List.getElem?_eq_getElem (by omega)]
    rfl
  rw [this]
  rfl
theorem own_belowS {w w' : World} {base : Nat} {v : Value} {n : Nat} {xs : List Value} (h : w.ownsRow base 9 1 v n xs) (hb : Below w.heap.size w w') : w'.ownsRow base 9 1 v n xs :=
  h.kept (row := none) ⟨hb.os, hb.tape, hb.output, hb.size, fun k hk _ => hb.block k hk⟩ (by
    rcases h.2 with ⟨rfl, _⟩ | ⟨g, c, cur, rfl, _⟩
    · exact .inl rfl
    · exact .inr (by simp [Value.ownBlock]))
theorem own_strs {w : World} {B : Nat} {v : Value} {L : List ByteArray} (h : w.ownsRow B 9 1 v L.length (L.map .string)) (hL : ∀ s ∈ L, s.size ≤ 1000) : ∃ A c, v = .slice A L.length c ∧ Strs w A L := by
  rcases h.2 with ⟨rfl, h0⟩ | ⟨g, c, cur, rfl, _, hh, hc, hm, hx⟩
  · have : L = [] := List.eq_nil_of_length_eq_zero h0
    subst this
    exact ⟨none, 0, rfl, fun i hi => by simp at hi⟩
  · refine ⟨_, c, rfl, fun i hi => ⟨_, rfl, (Array.getElem?_eq_some_iff.1 hh).1, ?_, hL _ (List.getElem_mem hi)⟩⟩
    exact h.cells (g := g) rfl i _ (by rw [List.getElem?_map, List.getElem?_eq_getElem hi]; rfl)
theorem strfact : (Try.prog.info? 9).map (fun i => (i.zero, i.size, i.bytes)) = some (some (.string {data:=#[]}), 1, 16) := by kernel_rfl
theorem wpList_append_str {w0 wb w : World} {ops : Array Oper} {rest : List Oper} {o : Oper} {a : Act} {Q : Exit → Act → World → Prop} (hgd : o.guard = none) (s x : Operand)
    (ho : o.op = .call { callee := .builtin .append, args := #[s, x], argTypes := #[65, 65] }) (v : Value) (L : List ByteArray) (str : ByteArray) (hs : a.eval s = v) (hown : wb.ownsRow w0.heap.size 9 1 v L.length (L.map .string))
    (hw : w = wb.alloc (.cells #[.string str] 9)) (g : Nat) (hg : wb.heap.size = g) (hx : a.eval x = .slice (some ⟨g, 0, none⟩) 1 1) (hb : Below w0.heap.size w0 wb) (hL : L.length ≤ 1000)
    (h : ∀ v' w', w'.ownsRow w0.heap.size 9 1 v' (L ++ [str]).length ((L ++ [str]).map .string) → Below w0.heap.size w0 w' → wpList Try.prog ops Q rest (a.put o.dst v') w') :
    wpList Try.prog ops Q (o :: rest) a w := by
  subst hw hg
  obtain ⟨i0, hi, hz0, hz1, hz2⟩ := info_parts strfact
  have hb1 : Below wb.heap.size wb (wb.alloc (.cells #[.string str] 9)) := (Below.refl _ _).alloc (Nat.le_refl _) _
  refine wpList_append_own_at (P := Try.prog) _ hgd s x 65 ho w0.heap.size 9 i0 (.string {data:=#[]}) 1 16 Try.underlying65 hi hz0 hz1 hz2 rfl (by decide) v L.length (L.map .string) hs (own_belowS hown hb1) ⟨wb.heap.size, 0, none⟩ 1 1 [.string str] hx rfl ?_ ?_ (by unfold maxLen; omega) (by omega) (Nat.le_trans hb.size (by simp)) fun v' w' k1 k2 _ _ => ?_
  · intro j u hu
    cases j with
    | zero =>
      simp at hu
      subst hu
      have h7 : (⟨wb.heap.size, 0, none⟩ : Addr).add 0 = ⟨wb.heap.size, 0, none⟩ := by simp [Addr.add]
      rw [h7, cell_of_row _ wb.heap.size 0 _ _ _ (heap_alloc_new wb (.cells #[.string str] 9))]
      rfl
    | succ j => simp at hu
  · intro u hu
    simp at hu
    subst hu
    rfl
  · refine h v' w' (by simpa using k1) ((hb.alloc hb.size _).grown k2 (Nat.le_trans hb.size (by simp)) fun k hk => ?_)
    exact ((own_belowS hown hb1).lt k hk).1
theorem map_inj {L M : List ByteArray} (h : L.map bytesOf = M.map bytesOf) : L = M := by
  induction L generalizing M with
  | nil => cases M with
    | nil => rfl
    | cons _ _ => simp at h
  | cons a L ih => cases M with
    | nil => simp at h
    | cons b M =>
      simp only [List.map_cons, List.cons.injEq] at h
      rw [bytes_inj h.1, ih h.2]
theorem tab_keys : ∀ s ∈ keysL, s.size ≤ 1000 := by decide +kernel
theorem ext_bytes (s : ByteArray) (i j : Nat) : bytesOf (s.extract i j) = ((bytesOf s).drop i).take (j - i) := by
  unfold bytesOf
  rw [ByteArray.data_extract, Array.toList_extract, List.extract_eq_take_drop]
theorem ext_two (j : Nat) : bytesOf (listB.extract j (j + 2)) = (listT.drop j).take 2 := by
  rw [ext_bytes, Nat.add_sub_cancel_left]; rfl
set_option maxHeartbeats 2000000 in
theorem ref_members (w : World) : Calls Try.prog 54 #[] w (ToldL w (keysL)) := by
  go_enter Try.func54, Try.ntmps54
  go_wp2
  go_loopw [1, 2, 3] (fun v u i wr => ∃ (j : Nat) (L : List ByteArray) (B : Bool), j ≤ 479 ∧ i = .int .i64 j ∧ u = .bool B ∧ Hid (B = begins j) ∧ Hid (L.map bytesOf ++ memF (listT.drop j) (begins j) = keysL.map bytesOf) ∧ Hid (L.length ≤ j) ∧ Hid (wr.ownsRow w.heap.size 9 1 v L.length (L.map .string)) ∧ Hid (Below w.heap.size w wr)) (fun _ _ i _ => 479 - (intOf i).toNat)
  case atStart => exact ⟨0, [], true, by omega, rfl, rfl, Lib.hid rfl, Lib.hid mem_all, Lib.hid (Nat.le_refl _), Lib.hid (World.ownsRow_nil _ _ _ _), Lib.hid (Below.refl _ _)⟩
  case round =>
    obtain ⟨j, L, B, hj, rfl, rfl, HB0, HL, HN, HO, HB⟩ := hrel
    by_cases hlt : j < 479
    · have hlti : (j : Int) < 479 := by omega
      have HS := Lib.hid (memF_step hlt)
      have HR := Lib.hid (begins_room j hlt)
      obtain ⟨x, hx⟩ : ∃ x : UInt8, x = listT.getD j 0 := ⟨_, rfl⟩
      have hget : ∀ h, (({ data := #[65, 84, 32, 85, 57, 57, 57, 57, 57, 57, 57, 57, 59, 66, 69, 32, 48, 57, 57, 57, 57, 57, 57, 57, 57, 57, 32, 49, 57, 57, 57, 57, 57, 57, 57, 57, 57, 59, 66, 71, 32, 57, 57, 57, 57, 57, 57, 57, 57, 57, 32, 57, 57, 57, 57, 57, 57, 57, 57, 57, 57, 59, 67, 89, 32, 57, 57, 57, 57, 57, 57, 57, 57, 65, 59, 67, 90, 32, 57, 57, 57, 57, 57, 57, 57, 57, 32, 57, 57, 57, 57, 57, 57, 57, 57, 57, 32, 57, 57, 57, 57, 57, 57, 57, 57, 57, 57, 59, 68, 69, 32, 57, 57, 57, 57, 57, 57, 57, 57, 57, 59, 68, 75, 32, 57, 57, 57, 57, 57, 57, 57, 57, 59, 69, 69, 32, 57, 57, 57, 57, 57, 57, 57, 57, 57, 59, 69, 76, 32, 57, 57, 57, 57, 57, 57, 57, 57, 57, 59, 69, 83, 32, 88, 57, 57, 57, 57, 57, 57, 57, 88, 59, 70, 73, 32, 57, 57, 57, 57, 57, 57, 57, 57, 59, 70, 82, 32, 88, 88, 57, 57, 57, 57, 57, 57, 57, 57, 57, 59, 72, 82, 32, 57, 57, 57, 57, 57, 57, 57, 57, 57, 57, 57, 59, 72, 85, 32, 57, 57, 57, 57, 57, 57, 57, 57, 59, 73, 69, 32, 57, 43, 57, 57, 57, 57, 57, 65, 32, 57, 57, 57, 57, 57, 57, 57, 65, 65, 59, 73, 84, 32, 57, 57, 57, 57, 57, 57, 57, 57, 57, 57, 57, 59, 76, 84, 32, 57, 57, 57, 57, 57, 57, 57, 57, 57, 32, 57, 57, 57, 57, 57, 57, 57, 57, 57, 57, 57, 57, 59, 76, 85, 32, 57, 57, 57, 57, 57, 57, 57, 57, 59, 76, 86, 32, 57, 57, 57, 57, 57, 57, 57, 57, 57, 57, 57, 59, 77, 84, 32, 57, 57, 57, 57, 57, 57, 57, 57, 59, 78, 76, 32, 57, 57, 57, 57, 57, 57, 57, 57, 57, 66, 57, 57, 59, 80, 76, 32, 57, 57, 57, 57, 57, 57, 57, 57, 57, 57, 59, 80, 84, 32, 57, 57, 57, 57, 57, 57, 57, 57, 57, 59, 82, 79, 32, 57, 57, 32, 57, 57, 57, 32, 57, 57, 57, 57, 32, 57, 57, 57, 57, 57, 32, 57, 57, 57, 57, 57, 57, 32, 57, 57, 57, 57, 57, 57, 57, 32, 57, 57, 57, 57, 57, 57, 57, 57, 32, 57, 57, 57, 57, 57, 57, 57, 57, 57, 32, 57, 57, 57, 57, 57, 57, 57, 57, 57, 57, 59, 83, 69, 32, 57, 57, 57, 57, 57, 57, 57, 57, 57, 57, 57, 57, 59, 83, 73, 32, 57, 57, 57, 57, 57, 57, 57, 57, 59, 83, 75, 32, 57, 57, 57, 57, 57, 57, 57, 57, 57, 57, 59] } : ByteArray))[j]'h = x := fun h => by
        rw [hx]
        have hl : j < listT.length := h
        rw [List.getD_eq_getElem?_getD, List.getElem?_eq_getElem hl]
        rfl
      obtain ⟨X, hX⟩ : ∃ X : ByteArray, (({ data := #[65, 84, 32, 85, 57, 57, 57, 57, 57, 57, 57, 57, 59, 66, 69, 32, 48, 57, 57, 57, 57, 57, 57, 57, 57, 57, 32, 49, 57, 57, 57, 57, 57, 57, 57, 57, 57, 59, 66, 71, 32, 57, 57, 57, 57, 57, 57, 57, 57, 57, 32, 57, 57, 57, 57, 57, 57, 57, 57, 57, 57, 59, 67, 89, 32, 57, 57, 57, 57, 57, 57, 57, 57, 65, 59, 67, 90, 32, 57, 57, 57, 57, 57, 57, 57, 57, 32, 57, 57, 57, 57, 57, 57, 57, 57, 57, 32, 57, 57, 57, 57, 57, 57, 57, 57, 57, 57, 59, 68, 69, 32, 57, 57, 57, 57, 57, 57, 57, 57, 57, 59, 68, 75, 32, 57, 57, 57, 57, 57, 57, 57, 57, 59, 69, 69, 32, 57, 57, 57, 57, 57, 57, 57, 57, 57, 59, 69, 76, 32, 57, 57, 57, 57, 57, 57, 57, 57, 57, 59, 69, 83, 32, 88, 57, 57, 57, 57, 57, 57, 57, 88, 59, 70, 73, 32, 57, 57, 57, 57, 57, 57, 57, 57, 59, 70, 82, 32, 88, 88, 57, 57, 57, 57, 57, 57, 57, 57, 57, 59, 72, 82, 32, 57, 57, 57, 57, 57, 57, 57, 57, 57, 57, 57, 59, 72, 85, 32, 57, 57, 57, 57, 57, 57, 57, 57, 59, 73, 69, 32, 57, 43, 57, 57, 57, 57, 57, 65, 32, 57, 57, 57, 57, 57, 57, 57, 65, 65, 59, 73, 84, 32, 57, 57, 57, 57, 57, 57, 57, 57, 57, 57, 57, 59, 76, 84, 32, 57, 57, 57, 57, 57, 57, 57, 57, 57, 32, 57, 57, 57, 57, 57, 57, 57, 57, 57, 57, 57, 57, 59, 76, 85, 32, 57, 57, 57, 57, 57, 57, 57, 57, 59, 76, 86, 32, 57, 57, 57, 57, 57, 57, 57, 57, 57, 57, 57, 59, 77, 84, 32, 57, 57, 57, 57, 57, 57, 57, 57, 59, 78, 76, 32, 57, 57, 57, 57, 57, 57, 57, 57, 57, 66, 57, 57, 59, 80, 76, 32, 57, 57, 57, 57, 57, 57, 57, 57, 57, 57, 59, 80, 84, 32, 57, 57, 57, 57, 57, 57, 57, 57, 57, 59, 82, 79, 32, 57, 57, 32, 57, 57, 57, 32, 57, 57, 57, 57, 32, 57, 57, 57, 57, 57, 32, 57, 57, 57, 57, 57, 57, 32, 57, 57, 57, 57, 57, 57, 57, 32, 57, 57, 57, 57, 57, 57, 57, 57, 32, 57, 57, 57, 57, 57, 57, 57, 57, 57, 32, 57, 57, 57, 57, 57, 57, 57, 57, 57, 57, 59, 83, 69, 32, 57, 57, 57, 57, 57, 57, 57, 57, 57, 57, 57, 57, 59, 83, 73, 32, 57, 57, 57, 57, 57, 57, 57, 57, 59, 83, 75, 32, 57, 57, 57, 57, 57, 57, 57, 57, 57, 57, 59] } : ByteArray)).extract j (j + 2) = X := ⟨_, rfl⟩
      have HX : Hid (bytesOf X = (listT.drop j).take 2) := Lib.hid (by rw [← hX]; exact ext_two j)
      have HNx : Hid ((((x.toNat : Nat) : Int) == 59) = begins (j + 1)) := Lib.hid (by
        unfold begins
        rw [decide_eq_false (by omega), Bool.false_or, Nat.add_sub_cancel, ← hx, Bool.eq_iff_iff, beq_iff_eq, decide_eq_true_iff]
        constructor
        · intro h; exact UInt8.toNat_inj.1 (by rw [show x.toNat = 59 by omega]; rfl)
        · intro h; rw [h]; rfl)
      clear hx
      cases B with
      | true =>
        have hroom : (j : Int) + 2 ≤ 479 := by have := HR.out HB0.out.symm; omega
        go_wp2_with (refine wpList_append_str (w0 := w) (wb := wr) rfl _ _ rfl _ L X rfl HO.out rfl _ rfl rfl HB.out ?c1 ?c2; (case c1 => have := HN.out; omega); intro v1 w1 hown hbb; have HO1 := Lib.hid hown; have HB1 := Lib.hid hbb; clear hown hbb)
        go_roundw
        case rel =>
          refine ⟨j + 1, L ++ [X], _, by omega, by go_num, rfl, HNx, Lib.hid ?_, Lib.hid (by rw [List.length_append]; have := HN.out; simp; omega), HO1, HB1⟩
          rw [← HL.out, HS.out, ← HB0.out, List.map_append, List.append_assoc]
          simp [HX.out]
        case measure => simp [intOf]; omega
      | false =>
        clear HX hX
        go_wp2
        go_roundw
        case rel =>
          refine ⟨j + 1, L, _, by omega, by go_num, rfl, HNx, Lib.hid ?_, Lib.hid (by have := HN.out; omega), HO, HB⟩
          rw [← HL.out, HS.out, ← HB0.out]
          simp
        case measure => simp [intOf]; omega
    · obtain rfl : j = 479 := by omega
      have HF : Hid (L = keysL) := Lib.hid (by
        have h1 := HL.out
        have h2 : listT.drop 479 = [] := List.drop_eq_nil_of_le (Nat.le_of_eq list_size)
        rw [h2] at h1
        simp only [memF, List.append_nil] at h1
        have h3 : L.map bytesOf = keysL.map bytesOf := by rw [h1]
        exact map_inj h3)
      have HO2 := HO
      rw [HF.out] at HO2
      obtain ⟨A, c, rfl, hs⟩ := own_strs HO2.out tab_keys
      have HS := Lib.hid hs
      clear HO HO2 hs
      go_wp2
      go_ret
      exact ⟨A, c, rfl, HS.out, HB.out⟩
theorem eq_of_get {L M : List ByteArray} (h : L.length = M.length) (hs : ∀ i (h1 : i < L.length) (h2 : i < M.length), L[i] = M[i]) : L = M :=
  List.ext_getElem h hs
set_option maxHeartbeats 1000000 in
theorem ref_same (L M : List ByteArray) (A B : Option Addr) (p q : Nat) (w : World) (hL : L.length ≤ 1000) (hA : Strs w A L) (hB : Strs w B M) :
    Calls Try.prog 31 #[.slice A L.length p, .slice B M.length q] w fun e w' => e = .returned (.bool (decide (L = M))) ∧ Below w.heap.size w w' := by
  have HA := Lib.hid hA
  have HB := Lib.hid hB
  have hl : (L.length : Int) ≤ 1000 := by omega
  clear hA hB
  by_cases hlen : L.length = M.length
  · have hli : (L.length : Int) = (M.length : Int) := by omega
    have HL := Lib.hid hlen
    clear hlen
    go_enter Try.func31, Try.ntmps31
    go_wp2
    go_loopw [5] (fun i wr => ∃ k : Nat, k ≤ L.length ∧ i = .int .i64 k ∧ Hid (∀ i2 (h1 : i2 < L.length) (h2 : i2 < M.length), i2 < k → L[i2] = M[i2]) ∧ Hid (Below w.heap.size w wr)) (fun i _ => L.length - (intOf i).toNat)
    case atStart => exact ⟨0, Nat.zero_le _, rfl, Lib.hid (fun _ _ _ h => absurd h (by omega)), Lib.hid (Below.refl _ _)⟩
    case round =>
      obtain ⟨k, hk, rfl, HF, HW⟩ := hrel
      by_cases hlt : k < L.length
      · have hkm : k < M.length := by have := HL.out; omega
        obtain ⟨a, rfl, hab, hac, _⟩ := (HA.out.below HW.out) k hlt
        obtain ⟨b, rfl, hbb, hbc, _⟩ := (HB.out.below HW.out) k hkm
        have hki : (k : Int) < (M.length : Int) := by omega
        have hki2 : (k : Int) < (L.length : Int) := by omega
        obtain ⟨x, hx⟩ : ∃ x, x = L[k] := ⟨_, rfl⟩
        obtain ⟨y, hy⟩ : ∃ y, y = M[k] := ⟨_, rfl⟩
        rw [← hx] at hac
        rw [← hy] at hbc
        by_cases hq : x = y
        · have hb1 : (x.toList == y.toList) = true := by rw [str_beq]; simpa using hq
          have HF2 : Hid (∀ i2 (h1 : i2 < L.length) (h2 : i2 < M.length), i2 < k + 1 → L[i2] = M[i2]) := Lib.hid (fun i2 h1 h2 h3 => by
            rcases Nat.lt_or_ge i2 k with h4 | h4
            · exact HF.out i2 h1 h2 h4
            · obtain rfl : i2 = k := by omega
              rw [← hx, ← hy]; exact hq)
          clear hq hx hy
          go_wp2
          go_quiet (fail)
          go_wp2
          go_roundw
          case rel => exact ⟨k + 1, by omega, by go_num, HF2, Lib.hid (below_drewN' HW.out _)⟩
          case measure => simp [intOf]; omega
        · have hb1 : (x.toList == y.toList) = false := by rw [str_beq]; simpa using hq
          have HN : Hid (decide (L = M) = false) := Lib.hid (decide_eq_false (fun h => by
            subst h
            exact hq (by rw [hx, hy])))
          clear hq hx hy
          go_wp2
          go_quiet (fail)
          go_wp2
          go_ret
          exact ⟨by rw [HN.out]; rfl, below_drewN' HW.out _⟩
      · obtain rfl : k = L.length := by omega
        have HY : Hid (decide (L = M) = true) := Lib.hid (decide_eq_true (eq_of_get HL.out (fun i h1 h2 => HF.out i h1 h2 h1)))
        go_wp2
        go_ret
        exact ⟨by rw [HY.out]; rfl, HW.out⟩
  · have hb : ((L.length : Int) == (M.length : Int)) = false := beq_false_of_ne (by omega)
    have HN : Hid (decide (L = M) = false) := Lib.hid (decide_eq_false (fun h => hlen (by rw [h])))
    clear hlen
    go_enter Try.func31, Try.ntmps31
    go_wp2
    go_ret
    exact ⟨by rw [HN.out]; rfl, Below.refl _ _⟩
end Go.Proofs.Ytlnpflfkkjcopaa

namespace Go.Proofs.Ytlnpflfkkjcopaa
open Go.RowKit Go.Maps
set_option maxRecDepth 1000000

def memK (c : ByteArray) : Bool := keysL.any fun k => decide (k = c)
def memT (t : List UInt8) : Bool := (keysL.map bytesOf).any fun k => decide (k = t)
theorem memK_memT (c : ByteArray) : memK c = memT (bytesOf c) := by
  unfold memK memT
  rw [List.any_map, Bool.eq_iff_iff, List.any_eq_true, List.any_eq_true]
  constructor
  · rintro ⟨p, h1, h2⟩
    exact ⟨p, h1, by simp only [Function.comp, decide_eq_true_iff] at *; rw [h2]⟩
  · rintro ⟨p, h1, h2⟩
    exact ⟨p, h1, by simp only [Function.comp, decide_eq_true_iff] at *; exact bytes_inj h2⟩
theorem mem_pairs : ((List.range 26).all fun i => (List.range 26).all fun j => memT [UInt8.ofNat (65 + i), UInt8.ofNat (65 + j)] == Lib.contains memsB.data.toList [UInt8.ofNat (65 + i), UInt8.ofNat (65 + j)]) = true := by decide +kernel
theorem letter_of {a : UInt8} (h : letterB a.toNat = true) : ∃ i ∈ List.range 26, a = UInt8.ofNat (65 + i) := by
  unfold letterB at h
  simp only [Bool.and_eq_true, decide_eq_true_iff] at h
  refine ⟨a.toNat - 65, List.mem_range.2 (by omega), UInt8.toNat_inj.1 ?_⟩
  rw [UInt8.toNat_ofNat']; omega
theorem keys_country : ∀ k ∈ keysL, countryB (bytesOf k) = true := by decide +kernel
theorem mem_keys (c : ByteArray) : isMem c = memK c := by
  unfold isMem
  cases h : countryB (bytesOf c) with
  | false =>
    rw [Bool.false_and]
    symm
    unfold memK
    rw [List.any_eq_false]
    intro k hk
    simp only [decide_eq_true_iff]
    intro e
    have := keys_country k hk
    rw [e, h] at this
    cases this
  | true =>
    rw [Bool.true_and, memK_memT]
    generalize bytesOf c = t at *
    match t, h with
    | [a, b], h =>
      simp only [countryB, Bool.and_eq_true] at h
      obtain ⟨i, hi, rfl⟩ := letter_of h.1
      obtain ⟨j, hj, rfl⟩ := letter_of h.2
      have := List.all_eq_true.1 (List.all_eq_true.1 mem_pairs i hi) j hj
      exact (beq_iff_eq.1 this).symm
theorem any_take {L : List ByteArray} {p : ByteArray → Bool} {k : Nat} (h : k < L.length) (h1 : (L.take k).any p = false) (h2 : p L[k] = false) : (L.take (k + 1)).any p = false := by
  rw [List.take_succ_eq_append_getElem h, List.any_append, h1, Bool.false_or]
  simp [h2]
theorem any_yes {L : List ByteArray} {p : ByteArray → Bool} {k : Nat} (h : k < L.length) (h2 : p L[k] = true) : L.any p = true :=
  List.any_eq_true.2 ⟨_, List.getElem_mem h, h2⟩

set_option maxHeartbeats 1000000 in
theorem ref_member (c : ByteArray) (w : World) : Calls Try.prog 49 #[.string c] w fun e w' => e = .returned (.bool (isMem c)) ∧ Below w.heap.size w w' := by
  have HM := Lib.hid (ref_members w)
  rw [mem_keys]
  unfold memK
  have hlen : keysL.length = 27 := rfl
  generalize keysL = M at *
  have hl : (M.length : Int) ≤ 27 := by omega
  clear hlen
  go_enter Try.func49, Try.ntmps49
  go_wp2_with (go_at_call 54; refine HM.out.mono ?_; rintro e w1 ⟨A, n, rfl, hs, hb⟩; have HS := Lib.hid hs; have HB := Lib.hid hb; clear hs hb)
  go_loopw [4] (fun i wr => ∃ j : Nat, j ≤ M.length ∧ i = .int .i64 j ∧ Hid ((M.take j).any (fun k => decide (k = c)) = false) ∧ Hid (Strs wr A M ∧ Below w.heap.size w wr)) (fun i _ => M.length - (intOf i).toNat)
  case atStart => exact ⟨0, Nat.zero_le _, rfl, Lib.hid rfl, Lib.hid ⟨HS.out, HB.out⟩⟩
  case round =>
    obtain ⟨j, hj, rfl, HF, HW⟩ := hrel
    by_cases hlt : j < M.length
    · obtain ⟨a, rfl, hbl, hc, hz⟩ := HW.out.1 j hlt
      have HN := Lib.hid (fun h => any_take (p := fun k => decide (k = c)) hlt HF.out h)
      have HY := Lib.hid (any_yes (p := fun k => decide (k = c)) hlt)
      obtain ⟨o, ho⟩ : ∃ o, o = M[j] := ⟨_, rfl⟩
      rw [← ho] at hc
      have HO := Lib.hid ho
      clear ho hz
      have hji : (j : Int) < (M.length : Int) := by omega
      by_cases hq : o = c
      · have HY2 := Lib.hid (HY.out (by rw [← HO.out, hq]; simp))
        have hb2 : (o.toList == c.toList) = true := by rw [str_beq]; simpa using hq
        clear hq
        go_wp2
        go_ret
        exact ⟨by rw [HY2.out]; rfl, HW.out.2⟩
      · have HN2 := Lib.hid (HN.out (by rw [← HO.out]; simpa using hq))
        have hb2 : (o.toList == c.toList) = false := by rw [str_beq]; simpa using hq
        clear hq
        go_wp2
        go_roundw
        case rel => exact ⟨j + 1, by omega, by go_num, HN2, HW⟩
        case measure => simp [intOf]; omega
    · obtain rfl : j = M.length := by omega
      have HF2 : Hid (M.any (fun k => decide (k = c)) = false) := Lib.hid (by have := HF.out; rwa [List.take_length] at this)
      go_wp2
      go_ret
      exact ⟨by rw [HF2.out]; rfl, HW.out.2⟩

end Go.Proofs.Ytlnpflfkkjcopaa
