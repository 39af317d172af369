/- The document's own: is a country a member state; its forms. -/
import Derived.Test.YtfjecohokmelfaaVatMem2
namespace Go.Proofs.Ytfjecohokmelfaa
open Go.RowKit Go.Maps
set_option maxRecDepth 1000000

/-- is it a member state -/
def isMem (c : ByteArray) : Bool := (tabL.map (·.1)).any fun k => decide (k = c)
theorem str_beq (a b : ByteArray) : (a.toList == b.toList) = decide (a = b) := by
  rw [Bool.eq_iff_iff, decide_eq_true_iff, beq_iff_eq, ByteArray.toList_eq, ByteArray.toList_eq]
  exact ⟨str_eq, fun h => by rw [h]⟩
set_option maxHeartbeats 1000000 in
theorem ref_member (c : ByteArray) (w : World) : Calls Try.prog 46 #[.string c] w fun e w' => e = .returned (.bool (isMem c)) ∧ Below w.heap.size w w' := by
  have HM := Lib.hid (ref_members w)
  unfold isMem
  have hlen : (tabL.map (·.1)).length = 27 := rfl
  generalize tabL.map (·.1) = M at *
  have hl : (M.length : Int) ≤ 27 := by omega
  clear hlen
  go_enter Try.func46, Try.ntmps46
  go_wp2_with (go_at_call 59; refine HM.out.mono ?_; rintro e w1 ⟨A, n, rfl, hs, hb⟩; have HS := Lib.hid hs; have HB := Lib.hid hb; clear hs hb)
  go_loopw [4] (fun i wr => ∃ j : Nat, j ≤ M.length ∧ i = .int .i64 j ∧ Hid ((M.take j).any (fun k => decide (k = c)) = false) ∧ Hid (Strs wr A M ∧ Below w.heap.size w wr)) (fun i _ => M.length - (intOf i).toNat)
  case atStart => exact ⟨0, Nat.zero_le _, rfl, Lib.hid rfl, Lib.hid ⟨HS.out, HB.out⟩⟩
  case round =>
    obtain ⟨j, hj, rfl, HF, HW⟩ := hrel
    by_cases hlt : j < M.length
    · obtain ⟨a, rfl, hbl, hc, hz⟩ := HW.out.1 j hlt
      have HN := Lib.hid (fun h => any_take (p := fun k => decide (k = c)) hlt HF.out h)
      have HY := Lib.hid (any_yes (p := fun k => decide (k = c)) hlt)
      obtain ⟨o, ho⟩ : ∃ o, o = M[j] := ⟨_, rfl⟩
      rw [← ho] at hc
      have HO := Lib.hid ho
      clear ho hz
      have hji : (j : Int) < (M.length : Int) := by omega
      by_cases hq : o = c
      · have HY2 := Lib.hid (HY.out (by rw [← HO.out, hq]; simp))
        have hb2 : (o.toList == c.toList) = true := by rw [str_beq]; simpa using hq
        clear hq
        go_wp2
        go_ret
        exact ⟨by rw [HY2.out]; rfl, HW.out.2⟩
      · have HN2 := Lib.hid (HN.out (by rw [← HO.out]; simpa using hq))
        have hb2 : (o.toList == c.toList) = false := by rw [str_beq]; simpa using hq
        clear hq
        go_wp2
        go_roundw
        case rel => exact ⟨j + 1, by omega, by go_num, HN2, HW⟩
        case measure => simp [intOf]; omega
    · obtain rfl : j = M.length := by omega
      have HF2 : Hid (M.any (fun k => decide (k = c)) = false) := Lib.hid (by have := HF.out; rwa [List.take_length] at this)
      go_wp2
      go_ret
      exact ⟨by rw [HF2.out]; rfl, HW.out.2⟩

/-- a country's forms, byte by byte: the state, the word, what was found -/
def stF (c : List UInt8) (s : List UInt8 × List UInt8 × List (List UInt8)) (x : UInt8) : List UInt8 × List UInt8 × List (List UInt8) :=
  if x ≠ 32 ∧ x ≠ 59 then (s.1, s.2.1 ++ [x], s.2.2)
  else if s.1 = [] then (if x = 59 then [] else s.2.1, [], s.2.2)
  else if s.1 = c then (if x = 59 then [] else s.1, [], s.2.2 ++ [s.2.1])
  else (if x = 59 then [] else s.1, [], s.2.2)
/-- all of them, each with its state -/
def stA (s : List UInt8 × List UInt8 × List (List UInt8 × List UInt8)) (x : UInt8) : List UInt8 × List UInt8 × List (List UInt8 × List UInt8) :=
  if x ≠ 32 ∧ x ≠ 59 then (s.1, s.2.1 ++ [x], s.2.2)
  else if s.1 = [] then (if x = 59 then [] else s.2.1, [], s.2.2)
  else (if x = 59 then [] else s.1, [], s.2.2 ++ [(s.1, s.2.1)])
theorem stA_all : (listT.foldl stA ([], [], [])).2.2 = tabL.flatMap fun p => p.2.map fun f => (strT p.1, strT f) := by decide +kernel
theorem stF_stA (c : List UInt8) : ∀ (l : List UInt8) (s : List UInt8 × List UInt8 × List (List UInt8)) (t : List UInt8 × List UInt8 × List (List UInt8 × List UInt8)), s.1 = t.1 → s.2.1 = t.2.1 → s.2.2 = (t.2.2.filter fun p => decide (p.1 = c)).map (·.2) →
    (l.foldl (stF c) s).2.2 = (((l.foldl stA t).2.2).filter fun p => decide (p.1 = c)).map (·.2)
  | [], _, _, _, _, h => h
  | x :: l, s, t, h1, h2, h3 => by
    rw [List.foldl_cons, List.foldl_cons]
    refine stF_stA c l _ _ ?_ ?_ ?_
    all_goals
      unfold stF stA
      rw [← h1, ← h2]
      split
      · first | rfl | exact h1 | exact h3 | simp_all
      · split
        · first | rfl | exact h3 | simp_all
        · split
          · first | rfl | (rename_i hq; simp [h3, hq])
          · first | rfl | (rename_i hq; simp [h3, hq])
theorem forms_all (c : ByteArray) : (listT.foldl (stF (strT c)) ([], [], [])).2.2 = (formsOf c).map strT := by
  rw [stF_stA (strT c) listT ([], [], []) ([], [], []) rfl rfl rfl, stA_all]
  by_cases hm : ∃ p ∈ tabL, p.1 = c
  · obtain ⟨⟨k, l⟩, hp, rfl⟩ := hm
    rw [formsOf_some hp]
    have key : ∀ T : List (ByteArray × List ByteArray), (T.map (·.1)).Nodup → (k, l) ∈ T → ((T.flatMap fun p => p.2.map fun f => (strT p.1, strT f)).filter fun p => decide (p.1 = strT k)).map (·.2) = l.map strT := by
      intro T
      induction T with
      | nil => intro _ h; simp at h
      | cons q T ih =>
        intro hn hmem
        rw [List.map_cons, List.nodup_cons] at hn
        rw [List.flatMap_cons, List.filter_append, List.map_append]
        rcases List.mem_cons.1 hmem with rfl | hmem
        · have h1 : (T.flatMap fun p => p.2.map fun f => (strT p.1, strT f)).filter (fun p => decide (p.1 = strT k)) = [] := by
            rw [List.filter_eq_nil_iff]
            intro y hy
            obtain ⟨p, hp, hy⟩ := List.mem_flatMap.1 hy
            obtain ⟨f, _, rfl⟩ := List.mem_map.1 hy
            have : p.1 ≠ k := fun e => hn.1 (by rw [← e]; exact List.mem_map_of_mem (f := (·.1)) hp)
            simpa using fun e => this (strT_inj e)
          rw [h1]
          have h2 : ((l.map fun f => (strT k, strT f)).filter fun p => decide (p.1 = strT k)) = l.map fun f => (strT k, strT f) := by
            rw [List.filter_eq_self]
            intro y hy
            obtain ⟨f, _, rfl⟩ := List.mem_map.1 hy
            simp
          show (((l.map fun f => (strT k, strT f)).filter fun p => decide (p.1 = strT k)).map (·.2)) ++ _ = _
          rw [h2, List.map_map]
          simp
        · have hne : q.1 ≠ k := fun e => hn.1 (by rw [e]; exact List.mem_map_of_mem (f := (·.1)) hmem)
          have h1 : (q.2.map fun f => (strT q.1, strT f)).filter (fun p => decide (p.1 = strT k)) = [] := by
            rw [List.filter_eq_nil_iff]
            intro y hy
            obtain ⟨f, _, rfl⟩ := List.mem_map.1 hy
            simpa using fun e => hne (strT_inj e)
          rw [h1, List.map_nil, List.nil_append]
          exact ih hn.2 hmem
    exact key tabL tabL_nodup hp
  · have hne : ∀ p ∈ tabL, p.1 ≠ c := fun p hp e => hm ⟨p, hp, e⟩
    rw [formsOf_none hne]
    have : (tabL.flatMap fun p => p.2.map fun f => (strT p.1, strT f)).filter (fun p => decide (p.1 = strT c)) = [] := by
      rw [List.filter_eq_nil_iff]
      intro y hy
      obtain ⟨p, hp, hy⟩ := List.mem_flatMap.1 hy
      obtain ⟨f, _, rfl⟩ := List.mem_map.1 hy
      simpa using fun e => hne p hp (strT_inj e)
    rw [this]
    rfl
end Go.Proofs.Ytfjecohokmelfaa
