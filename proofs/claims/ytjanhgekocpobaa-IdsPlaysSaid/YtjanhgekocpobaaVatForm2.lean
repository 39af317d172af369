/- The document's own: is a country a member state; its forms. The document's own forms of a country. -/
import Derived.Test.YtjanhgekocpobaaVatMem2
namespace Go.Proofs.Ytjanhgekocpobaa
open Go.RowKit Go.Maps
set_option maxRecDepth 1000000

/-- is it a member state -/
def isMem (c : ByteArray) : Bool := (tabL.map (·.1)).any fun k => decide (k = c)
theorem str_beq (a b : ByteArray) : (a.toList == b.toList) = decide (a = b) := by
  rw [Bool.eq_iff_iff, decide_eq_true_iff, beq_iff_eq, ByteArray.toList_eq, ByteArray.toList_eq]
  exact ⟨str_eq, fun h => by rw [h]⟩
set_option maxHeartbeats 1000000 in
theorem ref_member (c : ByteArray) (w : World) : Calls Try.prog 46 #[.string c] w fun e w' => e = .returned (.bool (isMem c)) ∧ Below w.heap.size w w' := by
  have HM := Lib.hid (ref_members w)
  unfold isMem
  have hlen : (tabL.map (·.1)).length = 27 := rfl
  generalize tabL.map (·.1) = M at *
  have hl : (M.length : Int) ≤ 27 := by omega
  clear hlen
  go_enter Try.func46, Try.ntmps46
  go_wp2_with (go_at_call 59; refine HM.out.mono ?_; rintro e w1 ⟨A, n, rfl, hs, hb⟩; have HS := Lib.hid hs; have HB := Lib.hid hb; clear hs hb)
  go_loopw [4] (fun i wr => ∃ j : Nat, j ≤ M.length ∧ i = .int .i64 j ∧ Hid ((M.take j).any (fun k => decide (k = c)) = false) ∧ Hid (Strs wr A M ∧ Below w.heap.size w wr)) (fun i _ => M.length - (intOf i).toNat)
  case atStart => exact ⟨0, Nat.zero_le _, rfl, Lib.hid rfl, Lib.hid ⟨HS.out, HB.out⟩⟩
  case round =>
    obtain ⟨j, hj, rfl, HF, HW⟩ := hrel
    by_cases hlt : j < M.length
    · obtain ⟨a, rfl, hbl, hc, hz⟩ := HW.out.1 j hlt
      have HN := Lib.hid (fun h => any_take (p := fun k => decide (k = c)) hlt HF.out h)
      have HY := Lib.hid (any_yes (p := fun k => decide (k = c)) hlt)
      obtain ⟨o, ho⟩ : ∃ o, o = M[j] := ⟨_, rfl⟩
      rw [← ho] at hc
      have HO := Lib.hid ho
      clear ho hz
      have hji : (j : Int) < (M.length : Int) := by omega
      by_cases hq : o = c
      · have HY2 := Lib.hid (HY.out (by rw [← HO.out, hq]; simp))
        have hb2 : (o.toList == c.toList) = true := by rw [str_beq]; simpa using hq
        clear hq
        go_wp2
        go_ret
        exact ⟨by rw [HY2.out]; rfl, HW.out.2⟩
      · have HN2 := Lib.hid (HN.out (by rw [← HO.out]; simpa using hq))
        have hb2 : (o.toList == c.toList) = false := by rw [str_beq]; simpa using hq
        clear hq
        go_wp2
        go_roundw
        case rel => exact ⟨j + 1, by omega, by go_num, HN2, HW⟩
        case measure => simp [intOf]; omega
    · obtain rfl : j = M.length := by omega
      have HF2 : Hid (M.any (fun k => decide (k = c)) = false) := Lib.hid (by have := HF.out; rwa [List.take_length] at this)
      go_wp2
      go_ret
      exact ⟨by rw [HF2.out]; rfl, HW.out.2⟩

/-- a country's forms, byte by byte: the state, the word, what was found -/
def stF (c : List UInt8) (s : List UInt8 × List UInt8 × List (List UInt8)) (x : UInt8) : List UInt8 × List UInt8 × List (List UInt8) :=
  if x ≠ 32 ∧ x ≠ 59 then (s.1, s.2.1 ++ [x], s.2.2)
  else if s.1 = [] then (if x = 59 then [] else s.2.1, [], s.2.2)
  else if s.1 = c then (if x = 59 then [] else s.1, [], s.2.2 ++ [s.2.1])
  else (if x = 59 then [] else s.1, [], s.2.2)
/-- all of them, each with its state -/
def stA (s : List UInt8 × List UInt8 × List (List UInt8 × List UInt8)) (x : UInt8) : List UInt8 × List UInt8 × List (List UInt8 × List UInt8) :=
  if x ≠ 32 ∧ x ≠ 59 then (s.1, s.2.1 ++ [x], s.2.2)
  else if s.1 = [] then (if x = 59 then [] else s.2.1, [], s.2.2)
  else (if x = 59 then [] else s.1, [], s.2.2 ++ [(s.1, s.2.1)])
theorem stA_all : (listT.foldl stA ([], [], [])).2.2 = tabL.flatMap fun p => p.2.map fun f => (strT p.1, strT f) := by decide +kernel
theorem stF_stA (c : List UInt8) : ∀ (l : List UInt8) (s : List UInt8 × List UInt8 × List (List UInt8)) (t : List UInt8 × List UInt8 × List (List UInt8 × List UInt8)), s.1 = t.1 → s.2.1 = t.2.1 → s.2.2 = (t.2.2.filter fun p => decide (p.1 = c)).map (·.2) →
    (l.foldl (stF c) s).2.2 = (((l.foldl stA t).2.2).filter fun p => decide (p.1 = c)).map (·.2)
  | [], _, _, _, _, h => h
  | x :: l, s, t, h1, h2, h3 => by
    rw [List.foldl_cons, List.foldl_cons]
    refine stF_stA c l _ _ ?_ ?_ ?_
    all_goals
      unfold stF stA
      rw [← h1, ← h2]
      split
      · first | rfl | exact h1 | exact h3 | simp_all
      · split
        · first | rfl | exact h3 | simp_all
        · split
          · first | rfl | (rename_i hq; simp [h3, hq])
          · first | rfl | (rename_i hq; simp [h3, hq])
theorem forms_all (c : ByteArray) : (listT.foldl (stF (strT c)) ([], [], [])).2.2 = (formsOf c).map strT := by
  rw [stF_stA (strT c) listT ([], [], []) ([], [], []) rfl rfl rfl, stA_all]
  by_cases hm : ∃ p ∈ tabL, p.1 = c
  · obtain ⟨⟨k, l⟩, hp, rfl⟩ := hm
    rw [formsOf_some hp]
    have key : ∀ T : List (ByteArray × List ByteArray), (T.map (·.1)).Nodup → (k, l) ∈ T → ((T.flatMap fun p => p.2.map fun f => (strT p.1, strT f)).filter fun p => decide (p.1 = strT k)).map (·.2) = l.map strT := by
      intro T
      induction T with
      | nil => intro _ h; simp at h
      | cons q T ih =>
        intro hn hmem
        rw [List.map_cons, List.nodup_cons] at hn
        rw [List.flatMap_cons, List.filter_append, List.map_append]
        rcases List.mem_cons.1 hmem with rfl | hmem
        · have h1 : (T.flatMap fun p => p.2.map fun f => (strT p.1, strT f)).filter (fun p => decide (p.1 = strT k)) = [] := by
            rw [List.filter_eq_nil_iff]
            intro y hy
            obtain ⟨p, hp, hy⟩ := List.mem_flatMap.1 hy
            obtain ⟨f, _, rfl⟩ := List.mem_map.1 hy
            have : p.1 ≠ k := fun e => hn.1 (by rw [← e]; exact List.mem_map_of_mem (f := (·.1)) hp)
            simpa using fun e => this (strT_inj e)
          rw [h1]
          have h2 : ((l.map fun f => (strT k, strT f)).filter fun p => decide (p.1 = strT k)) = l.map fun f => (strT k, strT f) := by
            rw [List.filter_eq_self]
            intro y hy
            obtain ⟨f, _, rfl⟩ := List.mem_map.1 hy
            simp
          show (((l.map fun f => (strT k, strT f)).filter fun p => decide (p.1 = strT k)).map (·.2)) ++ _ = _
          rw [h2, List.map_map]
          simp
        · have hne : q.1 ≠ k := fun e => hn.1 (by rw [e]; exact List.mem_map_of_mem (f := (·.1)) hmem)
          have h1 : (q.2.map fun f => (strT q.1, strT f)).filter (fun p => decide (p.1 = strT k)) = [] := by
            rw [List.filter_eq_nil_iff]
            intro y hy
            obtain ⟨f, _, rfl⟩ := List.mem_map.1 hy
            simpa using fun e => hne (strT_inj e)
          rw [h1, List.map_nil, List.nil_append]
          exact ih hn.2 hmem
    exact key tabL tabL_nodup hp
  · have hne : ∀ p ∈ tabL, p.1 ≠ c := fun p hp e => hm ⟨p, hp, e⟩
    rw [formsOf_none hne]
    have : (tabL.flatMap fun p => p.2.map fun f => (strT p.1, strT f)).filter (fun p => decide (p.1 = strT c)) = [] := by
      rw [List.filter_eq_nil_iff]
      intro y hy
      obtain ⟨p, hp, hy⟩ := List.mem_flatMap.1 hy
      obtain ⟨f, _, rfl⟩ := List.mem_map.1 hy
      simpa using fun e => hne p hp (strT_inj e)
    rw [this]
    rfl
end Go.Proofs.Ytjanhgekocpobaa

namespace Go.Proofs.Ytjanhgekocpobaa
open Go.RowKit Go.Maps
set_option maxRecDepth 1000000

/-- what was found after so many bytes -/
def fAt (c : List UInt8) (j : Nat) : List UInt8 × List UInt8 × List (List UInt8) := (listT.take j).foldl (stF c) ([], [], [])
theorem fAt_step (c : List UInt8) {j : Nat} (h : j < 479) : fAt c (j + 1) = stF c (fAt c j) (listT.getD j 0) := by
  have hl : j < listT.length := by rw [show listT.length = 479 from list_size]; exact h
  unfold fAt
  rw [List.take_succ_eq_append_getElem hl, List.foldl_append, List.getD_eq_getElem?_getD, List.getElem?_eq_getElem hl]
  rfl
theorem strT_nil_iff (s : ByteArray) : strT s = [] ↔ s = {data:=#[]} := ⟨fun h => strT_inj h, fun h => by rw [h]; rfl⟩
theorem strT_append (a b : ByteArray) : strT (a ++ b) = strT a ++ strT b := by
  unfold strT
  rw [ByteArray.data_append, Array.toList_append]
theorem forms_small (c : ByteArray) : ∀ f ∈ formsOf c, f.size ≤ 1000 := by
  intro f hf
  unfold formsOf at hf
  cases h : tabL.find? (fun p => decide (p.1 = c)) with
  | none => rw [h] at hf; simp at hf
  | some p => rw [h] at hf; exact tabL_small p (List.mem_of_find?_eq_some h) f hf
set_option maxHeartbeats 16000000 in
theorem ref_forms (c : ByteArray) (w : World) : Calls Try.prog 48 #[.string c] w (ToldL w (formsOf c)) := by
  have HM := Lib.hid (ref_member c w)
  cases hm : isMem c with
  | false =>
    rw [hm] at HM
    have hf : formsOf c = [] := formsOf_none (fun p hp e => by
      have : isMem c = true := by
        unfold isMem
        rw [List.any_eq_true]
        exact ⟨p.1, List.mem_map_of_mem hp, by simpa using e⟩
      rw [hm] at this; cases this)
    rw [hf]
    clear hm hf
    go_enter Try.func48, Try.ntmps48
    go_wp2_with (go_at_call 46; refine HM.out.mono ?_; rintro e w1 ⟨rfl, hb⟩)
    go_ret
    exact ⟨none, 0, rfl, fun i hi => by simp at hi, hb⟩
  | true =>
    rw [hm] at HM
    clear hm
    go_enter Try.func48, Try.ntmps48
    go_wp2_with (go_at_call 46; refine HM.out.mono ?_; rintro e w1 ⟨rfl, hb⟩; have HB1 := Lib.hid hb; clear hb)
    go_loopw [3, 4, 5, 6] (fun v s u i wr => ∃ (j : Nat) (L : List ByteArray) (S W : ByteArray), j ≤ 479 ∧ i = .int .i64 j ∧ s = .string S ∧ u = .string W ∧ Hid ((strT S, strT W, L.map strT) = fAt (strT c) j) ∧ Hid (L.length ≤ j ∧ W.size ≤ j) ∧ Hid (wr.ownsRow w.heap.size 9 1 v L.length (L.map .string)) ∧ Hid (Below w.heap.size w wr)) (fun _ _ _ i _ => 479 - (intOf i).toNat)
    case atStart => exact ⟨0, [], {data:=#[]}, {data:=#[]}, by omega, rfl, rfl, rfl, Lib.hid rfl, Lib.hid ⟨Nat.le_refl _, by decide⟩, Lib.hid (World.ownsRow_nil _ _ _ _), HB1⟩
    case round =>
      obtain ⟨j, L, S, W, hj, rfl, rfl, rfl, HF, HN, HO, HB⟩ := hrel
      by_cases hlt : j < 479
      · have hlti : (j : Int) < 479 := by omega
        have hwl : (W.size : Int) ≤ 479 := by have := HN.out.2; omega
        have HS := Lib.hid (fAt_step (strT c) hlt)
        rw [← HF.out] at HS
        obtain ⟨x, hx⟩ : ∃ x : UInt8, x = listT.getD j 0 := ⟨_, rfl⟩
        rw [← hx] at HS
        obtain ⟨X, hX⟩ : ∃ X : ByteArray, (({ data := #[65, 84, 32, 85, 57, 57, 57, 57, 57, 57, 57, 57, 59, 66, 69, 32, 48, 57, 57, 57, 57, 57, 57, 57, 57, 57, 32, 49, 57, 57, 57, 57, 57, 57, 57, 57, 57, 59, 66, 71, 32, 57, 57, 57, 57, 57, 57, 57, 57, 57, 32, 57, 57, 57, 57, 57, 57, 57, 57, 57, 57, 59, 67, 89, 32, 57, 57, 57, 57, 57, 57, 57, 57, 65, 59, 67, 90, 32, 57, 57, 57, 57, 57, 57, 57, 57, 32, 57, 57, 57, 57, 57, 57, 57, 57, 57, 32, 57, 57, 57, 57, 57, 57, 57, 57, 57, 57, 59, 68, 69, 32, 57, 57, 57, 57, 57, 57, 57, 57, 57, 59, 68, 75, 32, 57, 57, 57, 57, 57, 57, 57, 57, 59, 69, 69, 32, 57, 57, 57, 57, 57, 57, 57, 57, 57, 59, 69, 76, 32, 57, 57, 57, 57, 57, 57, 57, 57, 57, 59, 69, 83, 32, 88, 57, 57, 57, 57, 57, 57, 57, 88, 59, 70, 73, 32, 57, 57, 57, 57, 57, 57, 57, 57, 59, 70, 82, 32, 88, 88, 57, 57, 57, 57, 57, 57, 57, 57, 57, 59, 72, 82, 32, 57, 57, 57, 57, 57, 57, 57, 57, 57, 57, 57, 59, 72, 85, 32, 57, 57, 57, 57, 57, 57, 57, 57, 59, 73, 69, 32, 57, 43, 57, 57, 57, 57, 57, 65, 32, 57, 57, 57, 57, 57, 57, 57, 65, 65, 59, 73, 84, 32, 57, 57, 57, 57, 57, 57, 57, 57, 57, 57, 57, 59, 76, 84, 32, 57, 57, 57, 57, 57, 57, 57, 57, 57, 32, 57, 57, 57, 57, 57, 57, 57, 57, 57, 57, 57, 57, 59, 76, 85, 32, 57, 57, 57, 57, 57, 57, 57, 57, 59, 76, 86, 32, 57, 57, 57, 57, 57, 57, 57, 57, 57, 57, 57, 59, 77, 84, 32, 57, 57, 57, 57, 57, 57, 57, 57, 59, 78, 76, 32, 57, 57, 57, 57, 57, 57, 57, 57, 57, 66, 57, 57, 59, 80, 76, 32, 57, 57, 57, 57, 57, 57, 57, 57, 57, 57, 59, 80, 84, 32, 57, 57, 57, 57, 57, 57, 57, 57, 57, 59, 82, 79, 32, 57, 57, 32, 57, 57, 57, 32, 57, 57, 57, 57, 32, 57, 57, 57, 57, 57, 32, 57, 57, 57, 57, 57, 57, 32, 57, 57, 57, 57, 57, 57, 57, 32, 57, 57, 57, 57, 57, 57, 57, 57, 32, 57, 57, 57, 57, 57, 57, 57, 57, 57, 32, 57, 57, 57, 57, 57, 57, 57, 57, 57, 57, 59, 83, 69, 32, 57, 57, 57, 57, 57, 57, 57, 57, 57, 57, 57, 57, 59, 83, 73, 32, 57, 57, 57, 57, 57, 57, 57, 57, 59, 83, 75, 32, 57, 57, 57, 57, 57, 57, 57, 57, 57, 57, 59] } : ByteArray)).extract j (j + 1) = X := ⟨_, rfl⟩
        have HX : Hid (strT X = [x]) := Lib.hid (by
          rw [← hX, hx]
          show strT (listB.extract j (j + 1)) = _
          rw [ext_strT, Nat.add_sub_cancel_left]
          have hl : j < listT.length := by rw [show listT.length = 479 from list_size]; exact hlt
          show (listT.drop j).take 1 = _
          rw [List.drop_eq_getElem_cons hl, List.getD_eq_getElem?_getD, List.getElem?_eq_getElem hl]
          rfl)
        obtain ⟨y, hyx⟩ : ∃ y : Nat, y = x.toNat := ⟨_, rfl⟩
        have hy0 : ∀ h, ((({ data := #[65, 84, 32, 85, 57, 57, 57, 57, 57, 57, 57, 57, 59, 66, 69, 32, 48, 57, 57, 57, 57, 57, 57, 57, 57, 57, 32, 49, 57, 57, 57, 57, 57, 57, 57, 57, 57, 59, 66, 71, 32, 57, 57, 57, 57, 57, 57, 57, 57, 57, 32, 57, 57, 57, 57, 57, 57, 57, 57, 57, 57, 59, 67, 89, 32, 57, 57, 57, 57, 57, 57, 57, 57, 65, 59, 67, 90, 32, 57, 57, 57, 57, 57, 57, 57, 57, 32, 57, 57, 57, 57, 57, 57, 57, 57, 57, 32, 57, 57, 57, 57, 57, 57, 57, 57, 57, 57, 59, 68, 69, 32, 57, 57, 57, 57, 57, 57, 57, 57, 57, 59, 68, 75, 32, 57, 57, 57, 57, 57, 57, 57, 57, 59, 69, 69, 32, 57, 57, 57, 57, 57, 57, 57, 57, 57, 59, 69, 76, 32, 57, 57, 57, 57, 57, 57, 57, 57, 57, 59, 69, 83, 32, 88, 57, 57, 57, 57, 57, 57, 57, 88, 59, 70, 73, 32, 57, 57, 57, 57, 57, 57, 57, 57, 59, 70, 82, 32, 88, 88, 57, 57, 57, 57, 57, 57, 57, 57, 57, 59, 72, 82, 32, 57, 57, 57, 57, 57, 57, 57, 57, 57, 57, 57, 59, 72, 85, 32, 57, 57, 57, 57, 57, 57, 57, 57, 59, 73, 69, 32, 57, 43, 57, 57, 57, 57, 57, 65, 32, 57, 57, 57, 57, 57, 57, 57, 65, 65, 59, 73, 84, 32, 57, 57, 57, 57, 57, 57, 57, 57, 57, 57, 57, 59, 76, 84, 32, 57, 57, 57, 57, 57, 57, 57, 57, 57, 32, 57, 57, 57, 57, 57, 57, 57, 57, 57, 57, 57, 57, 59, 76, 85, 32, 57, 57, 57, 57, 57, 57, 57, 57, 59, 76, 86, 32, 57, 57, 57, 57, 57, 57, 57, 57, 57, 57, 57, 59, 77, 84, 32, 57, 57, 57, 57, 57, 57, 57, 57, 59, 78, 76, 32, 57, 57, 57, 57, 57, 57, 57, 57, 57, 66, 57, 57, 59, 80, 76, 32, 57, 57, 57, 57, 57, 57, 57, 57, 57, 57, 59, 80, 84, 32, 57, 57, 57, 57, 57, 57, 57, 57, 57, 59, 82, 79, 32, 57, 57, 32, 57, 57, 57, 32, 57, 57, 57, 57, 32, 57, 57, 57, 57, 57, 32, 57, 57, 57, 57, 57, 57, 32, 57, 57, 57, 57, 57, 57, 57, 32, 57, 57, 57, 57, 57, 57, 57, 57, 32, 57, 57, 57, 57, 57, 57, 57, 57, 57, 32, 57, 57, 57, 57, 57, 57, 57, 57, 57, 57, 59, 83, 69, 32, 57, 57, 57, 57, 57, 57, 57, 57, 57, 57, 57, 57, 59, 83, 73, 32, 57, 57, 57, 57, 57, 57, 57, 57, 59, 83, 75, 32, 57, 57, 57, 57, 57, 57, 57, 57, 57, 57, 59] } : ByteArray))[j]'h).toNat = y := fun h => by
          rw [hyx, hx]
          have hl : j < listT.length := h
          rw [List.getD_eq_getElem?_getD, List.getElem?_eq_getElem hl]
          rfl
        clear hx
        by_cases hy : y = 32
        · -- a blank
          have hgetN : ∀ h, ((({ data := #[65, 84, 32, 85, 57, 57, 57, 57, 57, 57, 57, 57, 59, 66, 69, 32, 48, 57, 57, 57, 57, 57, 57, 57, 57, 57, 32, 49, 57, 57, 57, 57, 57, 57, 57, 57, 57, 59, 66, 71, 32, 57, 57, 57, 57, 57, 57, 57, 57, 57, 32, 57, 57, 57, 57, 57, 57, 57, 57, 57, 57, 59, 67, 89, 32, 57, 57, 57, 57, 57, 57, 57, 57, 65, 59, 67, 90, 32, 57, 57, 57, 57, 57, 57, 57, 57, 32, 57, 57, 57, 57, 57, 57, 57, 57, 57, 32, 57, 57, 57, 57, 57, 57, 57, 57, 57, 57, 59, 68, 69, 32, 57, 57, 57, 57, 57, 57, 57, 57, 57, 59, 68, 75, 32, 57, 57, 57, 57, 57, 57, 57, 57, 59, 69, 69, 32, 57, 57, 57, 57, 57, 57, 57, 57, 57, 59, 69, 76, 32, 57, 57, 57, 57, 57, 57, 57, 57, 57, 59, 69, 83, 32, 88, 57, 57, 57, 57, 57, 57, 57, 88, 59, 70, 73, 32, 57, 57, 57, 57, 57, 57, 57, 57, 59, 70, 82, 32, 88, 88, 57, 57, 57, 57, 57, 57, 57, 57, 57, 59, 72, 82, 32, 57, 57, 57, 57, 57, 57, 57, 57, 57, 57, 57, 59, 72, 85, 32, 57, 57, 57, 57, 57, 57, 57, 57, 59, 73, 69, 32, 57, 43, 57, 57, 57, 57, 57, 65, 32, 57, 57, 57, 57, 57, 57, 57, 65, 65, 59, 73, 84, 32, 57, 57, 57, 57, 57, 57, 57, 57, 57, 57, 57, 59, 76, 84, 32, 57, 57, 57, 57, 57, 57, 57, 57, 57, 32, 57, 57, 57, 57, 57, 57, 57, 57, 57, 57, 57, 57, 59, 76, 85, 32, 57, 57, 57, 57, 57, 57, 57, 57, 59, 76, 86, 32, 57, 57, 57, 57, 57, 57, 57, 57, 57, 57, 57, 59, 77, 84, 32, 57, 57, 57, 57, 57, 57, 57, 57, 59, 78, 76, 32, 57, 57, 57, 57, 57, 57, 57, 57, 57, 66, 57, 57, 59, 80, 76, 32, 57, 57, 57, 57, 57, 57, 57, 57, 57, 57, 59, 80, 84, 32, 57, 57, 57, 57, 57, 57, 57, 57, 57, 59, 82, 79, 32, 57, 57, 32, 57, 57, 57, 32, 57, 57, 57, 57, 32, 57, 57, 57, 57, 57, 32, 57, 57, 57, 57, 57, 57, 32, 57, 57, 57, 57, 57, 57, 57, 32, 57, 57, 57, 57, 57, 57, 57, 57, 32, 57, 57, 57, 57, 57, 57, 57, 57, 57, 32, 57, 57, 57, 57, 57, 57, 57, 57, 57, 57, 59, 83, 69, 32, 57, 57, 57, 57, 57, 57, 57, 57, 57, 57, 57, 57, 59, 83, 73, 32, 57, 57, 57, 57, 57, 57, 57, 57, 59, 83, 75, 32, 57, 57, 57, 57, 57, 57, 57, 57, 57, 57, 59] } : ByteArray))[j]'h).toNat = 32 := fun h => by rw [hy0 h]; exact hy
          have hxn : x = 32 := UInt8.toNat_inj.1 (by rw [← hyx, hy]; rfl)
          have HE : Hid (fAt (strT c) (j + 1) = if strT S = [] then (strT W, [], L.map strT) else if strT S = strT c then (strT S, [], L.map strT ++ [strT W]) else (strT S, [], L.map strT)) := Lib.hid (by rw [HS.out, hxn]; unfold stF; rw [if_neg (by decide)]; simp)
          clear hy hxn hy0 hyx HX hX
          by_cases hS : S = {data:=#[]}
          · have hb0 : (S.toList == []) = true := by rw [hS, ByteArray.toList_eq]; rfl
            have HE2 : Hid (fAt (strT c) (j + 1) = (strT W, [], L.map strT)) := Lib.hid (by rw [HE.out, if_pos (by rw [hS]; rfl)])
            clear HE hS
            go_wp2
            go_roundw
            case rel => exact ⟨j + 1, L, W, {data:=#[]}, by omega, by go_num, rfl, rfl, Lib.hid (by rw [HE2.out]; rfl), Lib.hid ⟨by have := HN.out.1; omega, by show 0 ≤ j + 1; omega⟩, HO, HB⟩
            case measure => simp [intOf]; omega
          · have hb0 : (S.toList == []) = false := by rw [ByteArray.toList_eq]; exact beq_false_of_ne (fun h => hS ((strT_nil_iff S).1 h))
            by_cases hc : S = c
            · have hb1 : (S.toList == c.toList) = true := by rw [str_beq]; simpa using hc
              have HE2 : Hid (fAt (strT c) (j + 1) = (strT S, [], L.map strT ++ [strT W])) := Lib.hid (by rw [HE.out, if_neg (fun h => hS ((strT_nil_iff S).1 h)), if_pos (by rw [hc])])
              clear HE hS hc
              go_wp2_with (refine wpList_append_str (w0 := w) (wb := wr) rfl _ _ rfl _ L W rfl HO.out rfl _ rfl rfl HB.out ?c1 ?c2; (case c1 => have := HN.out.1; omega); intro v1 w1 hown hbb; have HO1 := Lib.hid hown; have HB1 := Lib.hid hbb; clear hown hbb)
              go_roundw
              case rel => exact ⟨j + 1, L ++ [W], S, {data:=#[]}, by omega, by go_num, rfl, rfl, Lib.hid (by rw [HE2.out, List.map_append]; rfl), Lib.hid ⟨by rw [List.length_append]; have := HN.out.1; simp; omega, by show 0 ≤ j + 1; omega⟩, HO1, HB1⟩
              case measure => simp [intOf]; omega
            · have hb1 : (S.toList == c.toList) = false := by rw [str_beq]; simpa using hc
              have HE2 : Hid (fAt (strT c) (j + 1) = (strT S, [], L.map strT)) := Lib.hid (by rw [HE.out, if_neg (fun h => hS ((strT_nil_iff S).1 h)), if_neg (fun h => hc (strT_inj h))])
              clear HE hS hc
              go_wp2
              go_roundw
              case rel => exact ⟨j + 1, L, S, {data:=#[]}, by omega, by go_num, rfl, rfl, Lib.hid (by rw [HE2.out]; rfl), Lib.hid ⟨by have := HN.out.1; omega, by show 0 ≤ j + 1; omega⟩, HO, HB⟩
              case measure => simp [intOf]; omega
        by_cases hy : y = 59
        · -- an entry's end
          have hgetN : ∀ h, ((({ data := #[65, 84, 32, 85, 57, 57, 57, 57, 57, 57, 57, 57, 59, 66, 69, 32, 48, 57, 57, 57, 57, 57, 57, 57, 57, 57, 32, 49, 57, 57, 57, 57, 57, 57, 57, 57, 57, 59, 66, 71, 32, 57, 57, 57, 57, 57, 57, 57, 57, 57, 32, 57, 57, 57, 57, 57, 57, 57, 57, 57, 57, 59, 67, 89, 32, 57, 57, 57, 57, 57, 57, 57, 57, 65, 59, 67, 90, 32, 57, 57, 57, 57, 57, 57, 57, 57, 32, 57, 57, 57, 57, 57, 57, 57, 57, 57, 32, 57, 57, 57, 57, 57, 57, 57, 57, 57, 57, 59, 68, 69, 32, 57, 57, 57, 57, 57, 57, 57, 57, 57, 59, 68, 75, 32, 57, 57, 57, 57, 57, 57, 57, 57, 59, 69, 69, 32, 57, 57, 57, 57, 57, 57, 57, 57, 57, 59, 69, 76, 32, 57, 57, 57, 57, 57, 57, 57, 57, 57, 59, 69, 83, 32, 88, 57, 57, 57, 57, 57, 57, 57, 88, 59, 70, 73, 32, 57, 57, 57, 57, 57, 57, 57, 57, 59, 70, 82, 32, 88, 88, 57, 57, 57, 57, 57, 57, 57, 57, 57, 59, 72, 82, 32, 57, 57, 57, 57, 57, 57, 57, 57, 57, 57, 57, 59, 72, 85, 32, 57, 57, 57, 57, 57, 57, 57, 57, 59, 73, 69, 32, 57, 43, 57, 57, 57, 57, 57, 65, 32, 57, 57, 57, 57, 57, 57, 57, 65, 65, 59, 73, 84, 32, 57, 57, 57, 57, 57, 57, 57, 57, 57, 57, 57, 59, 76, 84, 32, 57, 57, 57, 57, 57, 57, 57, 57, 57, 32, 57, 57, 57, 57, 57, 57, 57, 57, 57, 57, 57, 57, 59, 76, 85, 32, 57, 57, 57, 57, 57, 57, 57, 57, 59, 76, 86, 32, 57, 57, 57, 57, 57, 57, 57, 57, 57, 57, 57, 59, 77, 84, 32, 57, 57, 57, 57, 57, 57, 57, 57, 59, 78, 76, 32, 57, 57, 57, 57, 57, 57, 57, 57, 57, 66, 57, 57, 59, 80, 76, 32, 57, 57, 57, 57, 57, 57, 57, 57, 57, 57, 59, 80, 84, 32, 57, 57, 57, 57, 57, 57, 57, 57, 57, 59, 82, 79, 32, 57, 57, 32, 57, 57, 57, 32, 57, 57, 57, 57, 32, 57, 57, 57, 57, 57, 32, 57, 57, 57, 57, 57, 57, 32, 57, 57, 57, 57, 57, 57, 57, 32, 57, 57, 57, 57, 57, 57, 57, 57, 32, 57, 57, 57, 57, 57, 57, 57, 57, 57, 32, 57, 57, 57, 57, 57, 57, 57, 57, 57, 57, 59, 83, 69, 32, 57, 57, 57, 57, 57, 57, 57, 57, 57, 57, 57, 57, 59, 83, 73, 32, 57, 57, 57, 57, 57, 57, 57, 57, 59, 83, 75, 32, 57, 57, 57, 57, 57, 57, 57, 57, 57, 57, 59] } : ByteArray))[j]'h).toNat = 59 := fun h => by rw [hy0 h]; exact hy
          have hxn : x = 59 := UInt8.toNat_inj.1 (by rw [← hyx, hy]; rfl)
          have HE : Hid (fAt (strT c) (j + 1) = if strT S = [] then ([], [], L.map strT) else if strT S = strT c then ([], [], L.map strT ++ [strT W]) else ([], [], L.map strT)) := Lib.hid (by rw [HS.out, hxn]; unfold stF; rw [if_neg (by decide)]; simp)
          clear hy hxn hy0 hyx HX hX
          by_cases hS : S = {data:=#[]}
          · have hb0 : (S.toList == []) = true := by rw [hS, ByteArray.toList_eq]; rfl
            have HE2 : Hid (fAt (strT c) (j + 1) = ([], [], L.map strT)) := Lib.hid (by rw [HE.out, if_pos (by rw [hS]; rfl)])
            clear HE hS
            go_wp2
            go_roundw
            case rel => exact ⟨j + 1, L, {data:=#[]}, {data:=#[]}, by omega, by go_num, rfl, rfl, Lib.hid (by rw [HE2.out]; rfl), Lib.hid ⟨by have := HN.out.1; omega, by show 0 ≤ j + 1; omega⟩, HO, HB⟩
            case measure => simp [intOf]; omega
          · have hb0 : (S.toList == []) = false := by rw [ByteArray.toList_eq]; exact beq_false_of_ne (fun h => hS ((strT_nil_iff S).1 h))
            by_cases hc : S = c
            · have hb1 : (S.toList == c.toList) = true := by rw [str_beq]; simpa using hc
              have HE2 : Hid (fAt (strT c) (j + 1) = ([], [], L.map strT ++ [strT W])) := Lib.hid (by rw [HE.out, if_neg (fun h => hS ((strT_nil_iff S).1 h)), if_pos (by rw [hc])])
              clear HE hS hc
              go_wp2_with (refine wpList_append_str (w0 := w) (wb := wr) rfl _ _ rfl _ L W rfl HO.out rfl _ rfl rfl HB.out ?c3 ?c4; (case c3 => have := HN.out.1; omega); intro v1 w1 hown hbb; have HO1 := Lib.hid hown; have HB1 := Lib.hid hbb; clear hown hbb)
              go_roundw
              case rel => exact ⟨j + 1, L ++ [W], {data:=#[]}, {data:=#[]}, by omega, by go_num, rfl, rfl, Lib.hid (by rw [HE2.out, List.map_append]; rfl), Lib.hid ⟨by rw [List.length_append]; have := HN.out.1; simp; omega, by show 0 ≤ j + 1; omega⟩, HO1, HB1⟩
              case measure => simp [intOf]; omega
            · have hb1 : (S.toList == c.toList) = false := by rw [str_beq]; simpa using hc
              have HE2 : Hid (fAt (strT c) (j + 1) = ([], [], L.map strT)) := Lib.hid (by rw [HE.out, if_neg (fun h => hS ((strT_nil_iff S).1 h)), if_neg (fun h => hc (strT_inj h))])
              clear HE hS hc
              go_wp2
              go_roundw
              case rel => exact ⟨j + 1, L, {data:=#[]}, {data:=#[]}, by omega, by go_num, rfl, rfl, Lib.hid (by rw [HE2.out]; rfl), Lib.hid ⟨by have := HN.out.1; omega, by show 0 ≤ j + 1; omega⟩, HO, HB⟩
              case measure => simp [intOf]; omega
        · rename_i hy32
          have hsep : x ≠ 32 ∧ x ≠ 59 := ⟨fun h => hy32 (by rw [hyx, h]; rfl), fun h => hy (by rw [hyx, h]; rfl)⟩
          have e1 : ((y : Int) == 32) = false := beq_false_of_ne (by omega)
          have e2 : ((y : Int) == 59) = false := beq_false_of_ne (by omega)
          have e5 : ((y : Int) != 32) = true := by rw [bne, e1]; rfl
          have e6 : ((y : Int) != 59) = true := by rw [bne, e2]; rfl
          have e3 : ¬ (y : Int) = 32 := by omega
          have e4 : ¬ (y : Int) = 59 := by omega
          have HS2 : Hid (fAt (strT c) (j + 1) = (strT S, strT W ++ [x], L.map strT)) := Lib.hid (by rw [HS.out]; unfold stF; rw [if_pos hsep])
          have HXs : Hid (X.size = 1) := Lib.hid (by have := congrArg List.length HX.out; exact this)
          have hxs : (X.size : Int) ≤ 1 := by have := HXs.out; omega
          clear hsep hyx
          go_wp2
          go_roundw
          case rel => exact ⟨j + 1, L, S, W ++ X, by omega, by go_num, rfl, rfl, Lib.hid (by rw [HS2.out, strT_append, HX.out]), Lib.hid ⟨by have := HN.out.1; omega, by rw [ByteArray.size_append]; have := HN.out.2; have := HXs.out; omega⟩, HO, HB⟩
          case measure => simp [intOf]; omega
      · obtain rfl : j = 479 := by omega
        have HF2 : Hid (L = formsOf c) := Lib.hid (by
          have h1 := HF.out
          unfold fAt at h1
          have hl : listT.length ≤ 479 := Nat.le_of_eq list_size
          rw [List.take_of_length_le hl] at h1
          have h2 := forms_all c
          rw [← h1] at h2
          exact map_inj h2)
        have HO2 := HO
        rw [HF2.out] at HO2
        obtain ⟨A, n, rfl, hs⟩ := own_strs HO2.out (forms_small c)
        have HS := Lib.hid hs
        clear HO HO2 hs
        go_wp2
        go_ret
        exact ⟨A, n, rfl, HS.out, HB.out⟩
end Go.Proofs.Ytjanhgekocpobaa
