/- What is there stays as it is, whatever comes: walked. -/
import Derived.Test.YtjanhgekocpobaaIdQ
import Derived.Test.YtjanhgekocpobaaRgT
namespace Go.Proofs.Ytjanhgekocpobaa
open Go.RowKit
set_option maxRecDepth 100000
set_option linter.unusedSimpArgs false
set_option linter.unusedVariables false
attribute [local go_sem] Oper.semAt_some

theorem likes_refl (L : List LineV) : likes L L = true := by
  unfold likes
  rw [Bool.and_eq_true]
  refine ⟨by simp, ?_⟩
  rw [List.all_eq_true]
  intro x hx
  have : x.1 = x.2 := by
    obtain ⟨i, hi, rfl⟩ := List.getElem_of_mem hx
    simp
  rw [this]
  simp [likeL]
theorem sameD_re (d : DocV) (A : Option Addr) (c : Nat) : sameD (reL d A c) d = true := by
  unfold sameD reL
  simp [likes_refl]
theorem light_head {L : List DocV} {d : DocV} (h : lightsB (L ++ [d]) = true) : L.length ≤ 39 ∧ (∀ x ∈ L, lightD x = true) ∧ lightD d = true := by
  unfold lightsB at h
  rw [Bool.and_eq_true, List.all_append, Bool.and_eq_true, decide_eq_true_iff] at h
  obtain ⟨⟨h1, h2⟩, h3⟩ := h
  refine ⟨by simpa using h3, fun x hx => List.all_eq_true.1 h1 x hx, by simpa using h2⟩
theorem lightD_sizes {d : DocV} (h : lightD d = true) : d.id.size + d.refers.size ≤ 500 ∧ d.lines.length ≤ 70 := by
  unfold lightD lightC cmdD at h
  simp only [Bool.and_eq_true, decide_eq_true_eq] at h
  exact ⟨h.1.1.1.2, h.1.2⟩
theorem light_row_n (L : List DocV) (A : Option Addr) (c n : Nat) (hn : L.length = n) (w : World) (hr : RowD w A L) (hok : ∀ d ∈ L, DocVOk w d) (hl : L.length ≤ 140737488351232) (V : Bool) (hV : lightsB L = V) : Calls Try.prog 6 #[.slice A n c] w fun e w' => e = .returned (.bool V) ∧ Below w.heap.size w w' := by
  subst hn
  exact light_row L A c w hr hok hl V hV
/-- what the rounds keep -/
structure OnceI (wa : World) (P bm cm : Nat) (d : DocV) (g0 k n m : Nat) (V : CrsV) (F : Docs) (C : Crs) (A1 : Option Addr) (c1 : Nat) (w : World) : Prop where
  set : SetAt w wa.heap.size P bm cm n m V F C
  low : Below wa.heap.size wa w
  box : w.heap[g0]? = some (.cells #[.string d.id, .bool d.sale, .bool d.credit, .string d.refers, .int .i64 d.day, .string d.country, .string d.number, .string d.currency, .slice d.linesA d.lines.length d.linesC] 29 (0, 0))
  n : n ≤ k + 1
  m : m ≤ k + 1
  c : ∀ s, (C s).length ≤ k + 1
  there : F d.id = some (reL d A1 c1)
theorem OnceI.on {wa w w' : World} {P bm cm : Nat} {d : DocV} {g0 k n m : Nat} {V : CrsV} {F : Docs} {C : Crs} {A1 : Option Addr} {c1 : Nat} (h : OnceI wa P bm cm d g0 k n m V F C A1 c1 w) (hb : Below w.heap.size w w') : OnceI wa P bm cm d g0 k n m V F C A1 c1 w' :=
  ⟨h.set.on hb, below_then h.low hb, heap_on hb h.box, h.n, h.m, h.c, h.there⟩
theorem updC_len {C : Crs} {s t : ByteArray} {x : ByteArray} {k : Nat} (h : ∀ s, (C s).length ≤ k) : (updC C t (C t ++ [x]) s).length ≤ k + 1 := by
  by_cases e : s = t
  · subst e
    rw [updC_same, List.length_append]
    have := h s
    simp
    omega
  · rw [updC_other e]
    have := h s
    omega
theorem first_put {n' m' : Nat} {F' : Docs} {C' : Crs} {d : DocV} (h : m' ≤ 0 + 1 ∧ (checkV noF d ≠ 0 ∧ n' = 0 ∧ F' = noF ∧ C' = noC ∨ checkV noF d = 0 ∧ n' = 0 + 1 ∧ (∃ A c, F' = upd noF d.id (some (reL d A c))) ∧ C' = (if d.credit = true then updC noC d.refers (noC d.refers ++ [d.id]) else noC))) (hE : checkV noF d = 0) :
    ∃ (A0 : Option Addr) (c0 n1 m1 : Nat), F' d.id = some (reL d A0 c0) ∧ n' ≤ 1 ∧ m' ≤ 1 ∧ ∀ s, (C' s).length ≤ 1 := by
  obtain ⟨h1, h2 | ⟨_, h3, ⟨A, c, h4⟩, h5⟩⟩ := h
  · exact absurd hE h2.1
  · refine ⟨A, c, 0, 0, by rw [h4]; exact upd_same, by omega, by omega, fun s => ?_⟩
    rw [h5]
    split
    · exact updC_len (k := 0) (fun _ => Nat.le_refl _)
    · exact Nat.zero_le _
theorem first_not {d : DocV} (h : checkV noF d ≠ 0) : docGood d (rightP d.country d.number) (currB d.currency) = false ∨ docGood d (rightP d.country d.number) (currB d.currency) = true ∧ d.credit = true := by
  unfold checkV at h
  by_cases hg : goodB d = false
  · exact .inl hg
  · rw [if_neg hg, if_neg (by simp)] at h
    refine .inr ⟨by simpa [goodB] using hg, ?_⟩
    cases hc : d.credit with
    | true => rfl
    | false => rw [hc] at h; simp at h
theorem twice_of {F : Docs} {d x : DocV} (hg : goodB d = true) (h : F d.id = some x) : checkV F d = 51 := by
  refine checkV_twice hg ?_
  rw [h]
  rfl
theorem OnceI.next_no {wa w w' : World} {P bm cm : Nat} {d x : DocV} {g0 k n m n2 m2 : Nat} {V V2 : CrsV} {F F2 : Docs} {C C2 : Crs} {A1 : Option Addr} {c1 : Nat} (h : OnceI wa P bm cm d g0 k n m V F C A1 c1 w)
    (hp : SetAt w' wa.heap.size P bm cm n2 m2 V2 F2 C2 ∧ Below wa.heap.size w w' ∧ Still w w' ∧ m2 ≤ m + 1 ∧ (checkV F x ≠ 0 ∧ n2 = n ∧ F2 = F ∧ C2 = C ∨ checkV F x = 0 ∧ n2 = n + 1 ∧ (∃ A c, F2 = upd F x.id (some (reL x A c))) ∧ C2 = (if x.credit = true then updC C x.refers (C x.refers ++ [x.id]) else C))) (hE : ¬ checkV F x = 0) :
    n2 = n ∧ OnceI wa P bm cm d g0 (k + 1) n2 m2 V2 F2 C2 A1 c1 w' := by
  obtain ⟨h1, h2, h3, h4, ⟨_, rfl, rfl, rfl⟩ | h5⟩ := hp
  · exact ⟨rfl, h1, h.low.trans h2, h3 _ _ _ h.box (by decide), by have := h.n; omega, by have := h.m; omega, fun s => by have := h.c s; omega, h.there⟩
  · exact absurd h5.1 hE
theorem OnceI.next_yes {wa w w' : World} {P bm cm : Nat} {d x : DocV} {g0 k n m n2 m2 : Nat} {V V2 : CrsV} {F F2 : Docs} {C C2 : Crs} {A1 : Option Addr} {c1 : Nat} (h : OnceI wa P bm cm d g0 k n m V F C A1 c1 w)
    (hp : SetAt w' wa.heap.size P bm cm n2 m2 V2 F2 C2 ∧ Below wa.heap.size w w' ∧ Still w w' ∧ m2 ≤ m + 1 ∧ (checkV F x ≠ 0 ∧ n2 = n ∧ F2 = F ∧ C2 = C ∨ checkV F x = 0 ∧ n2 = n + 1 ∧ (∃ A c, F2 = upd F x.id (some (reL x A c))) ∧ C2 = (if x.credit = true then updC C x.refers (C x.refers ++ [x.id]) else C))) (hE : checkV F x = 0) :
    n2 = n + 1 ∧ ∃ A2 c2, OnceI wa P bm cm d g0 (k + 1) n2 m2 V2 F2 C2 A2 c2 w' := by
  obtain ⟨h1, h2, h3, h4, h5 | ⟨_, rfl, ⟨A, c, rfl⟩, rfl⟩⟩ := hp
  · exact absurd hE h5.1
  · refine ⟨rfl, A1, c1, h1, h.low.trans h2, h3 _ _ _ h.box (by decide), by have := h.n; omega, by have := h.m; omega, fun s => ?_, ?_⟩
    · split
      · exact updC_len h.c
      · have := h.c s; omega
    · have hne : ¬ d.id = x.id := fun e => by
        have h6 := (check_zero hE).2
        rw [← e, h.there] at h6
        cases h6
      exact (upd_other hne).trans h.there
set_option maxHeartbeats 16000000 in
theorem idsOnce_any (A : Option Addr) (L : List DocV) (c : Nat) (d : DocV) (w : World) (hr : RowD w A L) (hA : A = none → L = [] ∧ c = 0) (hlc : L.length ≤ c) (hok : ∀ x ∈ L, DocVOk w x) (h120 : L.length * 120 ≤ 140737488351232) (hd : DocVOk w d) (hM : MaxL w) : Calls Try.prog 4 #[.slice A L.length c, .agg #[.string d.id, .bool d.sale, .bool d.credit, .string d.refers, .int .i64 d.day, .string d.country, .string d.number, .string d.currency, .slice d.linesA d.lines.length d.linesC]] w fun e w' => e = .returned (.bool true) ∧ Below w.heap.size w w' := by
  have HLv : Hid (∀ W, Below w.heap.size w W → Calls Try.prog 7 #[] W fun e w' => e = .returned (.bool true) ∧ Below W.heap.size W w') := Lib.hid (fun W hW => ids_lives W (hM.below hW))
  have HOkA : Hid (∀ W, Below w.heap.size w W → ∀ x ∈ L ++ [d], DocVOk W x) := Lib.hid (fun W hW x hx => by
    rcases List.mem_append.1 hx with h | h
    · exact (hok x h).on hW
    · obtain rfl : x = d := by simpa using h
      exact hd.on hW)
  obtain ⟨q, hq⟩ : ∃ q, lightsB (L ++ [d]) = q := ⟨_, rfl⟩
  have HV := Lib.hid hq
  have hlc' : (L.length : Int) ≤ (c : Int) := by omega
  have HR := Lib.hid hr
  have HAn := Lib.hid hA
  have H120 := Lib.hid h120
  have HM := Lib.hid hM
  have HX0 := Lib.hid (heap_alloc_new w (.cells #[.string d.id, .bool d.sale, .bool d.credit, .string d.refers, .int .i64 d.day, .string d.country, .string d.number, .string d.currency, .slice d.linesA d.lines.length d.linesC] 29))
  have HB0 := Lib.hid (below_alloc w (.cells #[.string d.id, .bool d.sale, .bool d.credit, .string d.refers, .int .i64 d.day, .string d.country, .string d.number, .string d.currency, .slice d.linesA d.lines.length d.linesC] 29))
  clear hr hA h120 hM hok hd hq hlc
  go_enter Try.func4, Try.ntmps4
  go_wp2
  generalize w.alloc (.cells #[.string d.id, .bool d.sale, .bool d.credit, .string d.refers, .int .i64 d.day, .string d.country, .string d.number, .string d.currency, .slice d.linesA d.lines.length d.linesC] 29) = w0 at HX0 HB0 ⊢
  obtain ⟨g0, hg0⟩ : ∃ g, g = w.heap.size := ⟨_, rfl⟩
  rw [← hg0] at HX0 ⊢
  clear hg0
  have HS1 : Hid (w0.drew.heap[g0]? = some (.cells #[.string d.id, .bool d.sale, .bool d.credit, .string d.refers, .int .i64 d.day, .string d.country, .string d.number, .string d.currency, .slice d.linesA d.lines.length d.linesC] 29 (0, 0))) := Lib.hid (heap_on (below_drew w0) HX0.out)
  have HBd : Hid (Below w.heap.size w w0.drew) := Lib.hid (below_then HB0.out (below_drew w0))
  refine wp_region_held_drew (S := fun V : World => V.heap[g0]? = some (.cells #[.string d.id, .bool d.sale, .bool d.credit, .string d.refers, .int .i64 d.day, .string d.country, .string d.number, .string d.currency, .slice d.linesA d.lines.length d.linesC] 29 (0, 0))) (by kernel_rfl) HS1.out ?_
  intro hHeld
  clear HS1
  generalize w0.drew = wd at HBd hHeld ⊢
  (refine takeH (i := 0) (v := ?_) rfl (by kernel_rfl) (by kernel_rfl) (by kernel_rfl) (fun _ _ _ h => h) (Or.inl ⟨by rfl, ?_⟩) (by assumption) ?_; rotate_left; (focus ((intro wS hSw); (try dsimp only at hSw); have s0 := hSw; go_simp; (try with_reducible rfl); done)); (try simp only [Act.put, List.setIfInBounds_toArray, List.set_cons_zero, List.set_cons_succ]))
  (refine takeH (i := 1) (v := ?_) rfl (by kernel_rfl) (by kernel_rfl) (by kernel_rfl) (fun _ _ _ h => h) (Or.inl ⟨by rfl, ?_⟩) (by assumption) ?_; rotate_left; (focus ((intro wS hSw); (try dsimp only at hSw); have s0 := hSw; go_simp; (try with_reducible rfl); done)); (try simp only [Act.put, List.setIfInBounds_toArray, List.set_cons_zero, List.set_cons_succ]))
  (refine takeH (i := 2) (v := ?_) rfl (by kernel_rfl) (by kernel_rfl) (by kernel_rfl) (fun _ _ _ h => h) (Or.inl ⟨by rfl, ?_⟩) (by assumption) ?_; rotate_left; (focus ((intro wS hSw); (try dsimp only at hSw); have s0 := hSw; go_simp; (try with_reducible rfl); done)); (try simp only [Act.put, List.setIfInBounds_toArray, List.set_cons_zero, List.set_cons_succ]))
  (refine takeH (i := 3) (v := ?_) rfl (by kernel_rfl) (by kernel_rfl) (by kernel_rfl) (fun _ _ _ h => h) (Or.inl ⟨by rfl, ?_⟩) (by assumption) ?_; rotate_left; (focus ((intro wS hSw); (try dsimp only at hSw); have s0 := hSw; go_simp; (try with_reducible rfl); done)); (try simp only [Act.put, List.setIfInBounds_toArray, List.set_cons_zero, List.set_cons_succ]))
  (refine takeH (i := 4) (v := ?_) rfl (by kernel_rfl) (by kernel_rfl) (by kernel_rfl) (fun _ _ _ h => h) (Or.inl ⟨by rfl, ?_⟩) (by assumption) ?_; rotate_left; (focus ((intro wS hSw); (try dsimp only at hSw); have s0 := hSw; go_simp; (try with_reducible rfl); done)); (try simp only [Act.put, List.setIfInBounds_toArray, List.set_cons_zero, List.set_cons_succ]))
  (refine takeH (i := 5) (v := (.slice A L.length L.length)) rfl (by kernel_rfl) (by kernel_rfl) (by kernel_rfl) (fun _ _ _ h => h) (Or.inl ⟨by rfl, by (intro wS hSw); clear hSw; clear hHeld; (cases A with | none => (obtain ⟨rfl, rfl⟩ := HAn.out rfl; go_simp; done) | some y => (go_simp; done))⟩) (by assumption) ?_; (try simp only [Act.put, List.setIfInBounds_toArray, List.set_cons_zero, List.set_cons_succ]))
  (refine takeH (i := 6) (v := (.agg #[.string d.id, .bool d.sale, .bool d.credit, .string d.refers, .int .i64 d.day, .string d.country, .string d.number, .string d.currency, .slice d.linesA d.lines.length d.linesC])) rfl (by kernel_rfl) (by kernel_rfl) (by kernel_rfl) (fun _ _ _ h => h) (yieldsIf_load_rowE (by rfl) 29 (.tmp 3) rfl g0 rfl 29 #[.string d.id, .bool d.sale, .bool d.credit, .string d.refers, .int .i64 d.day, .string d.country, .string d.number, .string d.currency, .slice d.linesA d.lines.length d.linesC] (0, 0) _ (fun W h => h) Try.underlying29 rfl doc_info) (by assumption) ?_; (try simp only [Act.put, List.setIfInBounds_toArray, List.set_cons_zero, List.set_cons_succ]))
  refine aloneH (i := 7) rfl (by kernel_rfl) (fun K hK => ?_)
  rw [if_pos (by rfl)]
  go_simp
  have HX1 := Lib.hid (heap_alloc_new wd (.cells #[.string d.id, .bool d.sale, .bool d.credit, .string d.refers, .int .i64 d.day, .string d.country, .string d.number, .string d.currency, .slice d.linesA d.lines.length d.linesC] 29))
  have HB1 := Lib.hid (below_alloc wd (.cells #[.string d.id, .bool d.sale, .bool d.credit, .string d.refers, .int .i64 d.day, .string d.country, .string d.number, .string d.currency, .slice d.linesA d.lines.length d.linesC] 29))
  generalize hx : World.alloc wd (.cells #[.string d.id, .bool d.sale, .bool d.credit, .string d.refers, .int .i64 d.day, .string d.country, .string d.number, .string d.currency, .slice d.linesA d.lines.length d.linesC] 29) = w1 at HX1 HB1 ⊢
  clear hx
  refine hK.out _ _ (heap_on HB1.out hHeld) (fun hNew => ?_)
  clear hK K hHeld; (have hHeld := hNew); clear hNew; (try simp only [Act.put, List.setIfInBounds_toArray, List.set_cons_zero, List.set_cons_succ])
  refine aloneH (i := 8) rfl (by kernel_rfl) (fun K hK => ?_)
  rw [if_pos (by rfl)]
  refine wp_append_fullD w1 (.tmp 17) (.tmp 19) rfl rfl A L rfl (HR.out.on (below_then HBd.out HB1.out)) (fun e => (HAn.out e).1) ⟨wd.heap.size, 0, none⟩ 1 1 [d] rfl rfl (boxD HX1.out) (by simp) (by have := H120.out; simp; omega) ?_
  intro A2 c2 w2 hrow hb
  have HR2 := Lib.hid hrow
  have HB2 := Lib.hid hb
  clear hrow hb
  refine hK.out _ _ (heap_on HB2.out hHeld) (fun hNew => ?_)
  clear hK K hHeld; (have hHeld := hNew); clear hNew; (try simp only [Act.put, List.setIfInBounds_toArray, List.set_cons_zero, List.set_cons_succ])
  refine aloneH (i := 9) rfl (by kernel_rfl) (fun K hK => ?_)
  rw [if_pos (by rfl)]
  go_simp; ((refine (light_row_n (L ++ [d]) A2 c2 (L.length + 1) (by simp) w2 HR2.out (HOkA.out _ (below_then HBd.out (below_then HB1.out HB2.out))) (by have := H120.out; simp; omega) _ HV.out).mono ?_); (rintro e w3 ⟨rfl, hb⟩); have HB3 := Lib.hid hb; clear hb; (try go_simp))
  refine hK.out _ _ (heap_on HB3.out hHeld) (fun hNew => ?_)
  clear hK K hHeld; (have hHeld := hNew); clear hNew; (try simp only [Act.put, List.setIfInBounds_toArray, List.set_cons_zero, List.set_cons_succ])
  (refine takeH (i := 10) (v := ?_) rfl (by kernel_rfl) (by kernel_rfl) (by kernel_rfl) (fun _ _ _ h => h) (Or.inl ⟨by rfl, ?_⟩) (by assumption) ?_; rotate_left; (focus ((intro wS hSw); (try dsimp only at hSw); have s0 := hSw; go_simp; (try with_reducible rfl); done)); (try simp only [Act.put, List.setIfInBounds_toArray, List.set_cons_zero, List.set_cons_succ]))
  refine wpAnyH_done (by kernel_rfl) ?_ _
  have HX2 := Lib.hid hHeld
  have HBa := Lib.hid (below_then (below_then (below_then HBd.out HB1.out) HB2.out) HB3.out)
  clear hHeld HX1 HB1 HB2 HB3 HR2 HBd HX0 HB0
  generalize w3 = wa at HX2 HBa ⊢
  cases q with
  | false =>
    go_wp2_with (go_at_call 7; refine (HLv.out _ HBa.out).mono ?_; rintro e wz ⟨rfl, hb⟩; have HBz := Lib.hid (below_then HBa.out hb); clear hb)
    go_ret
    exact ⟨rfl, HBz.out⟩
  | true =>
    obtain ⟨hl39, hall, hdl⟩ := light_head HV.out
    have HL39 := Lib.hid hl39
    have HAll := Lib.hid hall
    have HDl := Lib.hid (lightD_sizes hdl)
    have HMa := Lib.hid (HM.out.below HBa.out)
    have HRa := Lib.hid (HR.out.on HBa.out)
    have HOka : Hid (∀ x ∈ L, DocVOk wa x) := Lib.hid (fun x hx => HOkA.out _ HBa.out x (List.mem_append_left _ hx))
    have HDa : Hid (DocVOk wa d) := Lib.hid (HOkA.out _ HBa.out d (List.mem_append_right _ (by simp)))
    clear hl39 hall hdl HV HOkA HR HM
    go_wp2_with (go_at_call 8; refine (code_new _).mono ?_; rintro e wb ⟨P, bm, cm, rfl, hset, hb⟩; have HSb := Lib.hid hset; have HBb := Lib.hid hb; clear hset hb; refine Stop.out ?_)
    unfold Stop
    have HBwb := Lib.hid (below_then HBa.out HBb.out)
    have HXb := Lib.hid (heap_on HBb.out HX2.out)
    have HGa : Hid (0 < wa.heap.size) := Lib.hid HMa.out.1
    have HMb := Lib.hid (HMa.out.below HBb.out)
    have HPu := Lib.hid (put_any HSb.out d (HDa.out.on HBb.out) (by have := HDl.out.2; omega) HMb.out (Nat.zero_le _) (Nat.zero_le _) (fun s => Nat.zero_le _))
    obtain ⟨u0, u1, u2, u3, u4, u5, u6, u7, u8⟩ := cellsLineV HXb.out
    by_cases hE : checkV noF d = 0
    · have HGo := Lib.hid (check_zero hE).1
      go_wp2_with (go_at_call 11; refine HPu.out.mono ?_; rintro e wc ⟨he, hb, hs, n', m', V', F', C', hset, hm', hor⟩; rw [hE] at he; subst he; have HSc := Lib.hid hset; have HBc := Lib.hid hb; have HStc := Lib.hid hs; have HOr := Lib.hid (And.intro hm' hor); clear hb hs hset hm' hor; refine Stop.out ?_)
      unfold Stop
      clear u0 u1 u2 u3 u4 u5 u6 u7 u8 HPu HSb
      obtain ⟨A0, c0, n1, m1, hF', hn', hm', hC'⟩ := first_put HOr.out hE
      have HFc := Lib.hid (And.intro hn' (And.intro hm' (And.intro hF' hC')))
      have HXc := Lib.hid (HStc.out _ _ _ HXb.out (by decide))
      have HBac := Lib.hid (HBb.out.trans HBc.out)
      clear hF' hn' hm' hC' n1 m1 HOr hE HStc HXb HMb HBb HBwb
      go_wp2
      go_loopw [7, 8, 9, 49] (fun v7 v8 v9 i wr => ∃ (k n m : Nat) (V : CrsV) (F : Docs) (C : Crs) (A1 : Option Addr) (c1 : Nat), k ≤ L.length ∧ i = .int .i64 (k : Nat) ∧ Hid (OnceI wa P bm cm d g0 k n m V F C A1 c1 wr)) (fun _ _ _ i _ => L.length - (intOf i).toNat)
      case atStart => exact ⟨0, n', m', V', F', C', A0, c0, Nat.zero_le _, rfl, Lib.hid ⟨HSc.out, HBac.out, HXc.out, by have := HFc.out.1; omega, by have := HFc.out.2.1; omega, fun s => by have := HFc.out.2.2.2 s; omega, HFc.out.2.2.1⟩⟩
      case round =>
        clear HSc HBac HXc HFc
        obtain ⟨k, n, m, V, F, C, A1, c1, hk, rfl, HI⟩ := hrel
        have HLi := Lib.hid HL39.out
        by_cases hlt : k < L.length
        · have hlt' : (k : Int) < (L.length : Int) := by omega
          have hkb : (k : Int) ≤ 39 := by have := HL39.out; omega
          obtain ⟨b, o, rfl, hbl, y0, y1, y2, y3, y4, y5, y6, y7, y8⟩ := (HRa.out.on HI.out.low).at_ k hlt
          have HXk : Hid (DocVOk wr L[k] ∧ L[k].lines.length ≤ 70) := Lib.hid ⟨(HOka.out _ (List.getElem_mem hlt)).on HI.out.low, (lightD_sizes (HAll.out _ (List.getElem_mem hlt))).2⟩
          generalize L[k] = x at y0 y1 y2 y3 y4 y5 y6 y7 y8 HXk
          have HNx := Lib.hid (heap_alloc_new wr (.cells #[.string x.id, .bool x.sale, .bool x.credit, .string x.refers, .int .i64 x.day, .string x.country, .string x.number, .string x.currency, .slice x.linesA x.lines.length x.linesC] 29))
          have HBn := Lib.hid (below_alloc wr (.cells #[.string x.id, .bool x.sale, .bool x.credit, .string x.refers, .int .i64 x.day, .string x.country, .string x.number, .string x.currency, .slice x.linesA x.lines.length x.linesC] 29))
          have HIn := Lib.hid (HI.out.on HBn.out)
          have HXn := Lib.hid (And.intro (HXk.out.1.on HBn.out) HXk.out.2)
          clear hbl HXk HI
          go_wp2_with (go_at_call 18; refine (code_slen HIn.out.set).mono ?_; rintro e w5 ⟨rfl, rfl⟩; refine Stop.out ?_)
          unfold Stop
          clear y0 y1 y2 y3 y4 y5 y6 y7 y8
          generalize wr.alloc (.cells #[.string x.id, .bool x.sale, .bool x.credit, .string x.refers, .int .i64 x.day, .string x.country, .string x.number, .string x.currency, .slice x.linesA x.lines.length x.linesC] 29) = wn at HNx HBn HIn HXn ⊢
          obtain ⟨gx, hgx⟩ : ∃ gx, gx = wr.heap.size := ⟨_, rfl⟩
          rw [← hgx] at HNx ⊢
          clear hgx HBn
          obtain ⟨v0, v1, v2, v3, v4, v5, v6, v7, v8⟩ := cellsLineV HNx.out
          have HPx := Lib.hid (put_any HIn.out.set x HXn.out.1 (by have := HXn.out.2; omega) (HMa.out.below HIn.out.low) (by have := HIn.out.n; omega) (by have := HIn.out.m; omega) (fun s => by have := HIn.out.c s; omega))
          have hnn : (n : Int) ≤ 50 := by have := HIn.out.n; omega
          by_cases hE : checkV F x = 0
          · go_wp2_with (go_at_call 11; refine HPx.out.mono ?_; rintro e w6 ⟨he, hb, hs, n2, m2, V2, F2, C2, hset, hm2, hor⟩; rw [hE] at he; subst he; have HPr := Lib.hid (And.intro hset (And.intro hb (And.intro hs (And.intro hm2 hor)))); clear hb hs hset hm2 hor; refine Stop.out ?_)
            unfold Stop
            have HJ := Lib.hid (OnceI.next_yes HIn.out HPr.out hE)
            obtain rfl : n2 = n + 1 := HJ.out.1
            have HJ2 := Lib.hid HJ.out.2
            clear v0 v1 v2 v3 v4 v5 v6 v7 v8 HPx HNx HPr hE HIn HXn HJ
            have hnp : ((n + 1 : Nat) : Int) = (n : Int) + 1 := by omega
            go_wp2_with (go_at_call 18; refine (code_slen HJ2.out.choose_spec.choose_spec.set).mono ?_; rintro e w7 ⟨rfl, rfl⟩)
            go_roundw
            case rel => exact ⟨k + 1, n + 1, m2, V2, F2, C2, _, _, by omega, by go_num, Lib.hid HJ2.out.choose_spec.choose_spec⟩
            case measure => simp [intOf]; omega
          · have hE2 : (checkV F x != 0) = true := by simpa using hE
            have hE3 : (checkV F x == 0) = false := by simpa using hE
            go_wp2_with (go_at_call 11; refine HPx.out.mono ?_; rintro e w6 ⟨rfl, hb, hs, n2, m2, V2, F2, C2, hset, hm2, hor⟩; have HPr := Lib.hid (And.intro hset (And.intro hb (And.intro hs (And.intro hm2 hor)))); clear hb hs hset hm2 hor; refine Stop.out ?_)
            unfold Stop
            have HJ := Lib.hid (OnceI.next_no HIn.out HPr.out hE)
            obtain rfl : n2 = n := HJ.out.1
            have HJ2 := Lib.hid HJ.out.2
            clear v0 v1 v2 v3 v4 v5 v6 v7 v8 HPx HNx HPr hE HIn HXn HJ
            generalize checkV F x = ee at hE2 hE3 ⊢
            go_wp2_with (go_at_call 18; refine (code_slen HJ2.out.set).mono ?_; rintro e w7 ⟨rfl, rfl⟩)
            go_roundw
            case rel => exact ⟨k + 1, n2, m2, V2, F2, C2, A1, c1, by omega, by go_num, HJ2⟩
            case measure => simp [intOf]; omega
        · obtain rfl : k = L.length := by omega
          obtain ⟨u0, u1, u2, u3, u4, u5, u6, u7, u8⟩ := cellsLineV HI.out.box
          have HGet := Lib.hid (code_get HI.out.set d.id (by have := HDl.out.1; unfold okKey; omega) (reL d A1 c1) (by rw [HI.out.there]; rfl) true (by rw [HI.out.there]; rfl) (by have := HDl.out.2; show d.lines.length ≤ 1000; omega))
          go_wp2_with (go_at_call 12; refine HGet.out.mono ?_; rintro e w6 ⟨A2, c2, rfl, hd2, hb⟩; have HD2 := Lib.hid hd2; have HB6 := Lib.hid hb; clear hd2 hb; refine Stop.out ?_)
          unfold Stop
          clear u0 u1 u2 u3 u4 u5 u6 u7 u8 HGet
          have HI6 := Lib.hid (HI.out.on HB6.out)
          have HN0 := Lib.hid (heap_alloc_new w6 (.cells #[.string ⟨#[]⟩, .bool false, .bool false, .string ⟨#[]⟩, .int .i64 0, .string ⟨#[]⟩, .string ⟨#[]⟩, .string ⟨#[]⟩, .slice none 0 0] 29))
          clear HI HB6
          go_wp2_with ((with_reducible refine wpList_store_row (o := ⟨none, _, _, _, _, _⟩) ?b1 29 (.tmp 10) (.tmp 82) ?b2 w6.heap.size #[.string d.id, .bool d.sale, .bool d.credit, .string d.refers, .int .i64 d.day, .string d.country, .string d.number, .string d.currency, .slice A2 d.lines.length c2] ?b3 ?b4 29 #[.string ⟨#[]⟩, .bool false, .bool false, .string ⟨#[]⟩, .int .i64 0, .string ⟨#[]⟩, .string ⟨#[]⟩, .string ⟨#[]⟩, .slice none 0 0] ?b7 ?b6 ?b5 ?b8 ?_); (case b1 => rfl); (case b2 => rfl); (case b3 => rfl); (case b4 => rfl); (case b7 => exact HN0.out); (case b6 => exact doc_info); (case b5 => rfl); (case b8 => simp [Value.oneCell']); (try simp only [Act.put]); refine Stop.out ?_)
          unfold Stop
          have HBF := Lib.hid (box_filled w6 #[.string ⟨#[]⟩, .bool false, .bool false, .string ⟨#[]⟩, .int .i64 0, .string ⟨#[]⟩, .string ⟨#[]⟩, .string ⟨#[]⟩, .slice none 0 0] #[.string d.id, .bool d.sale, .bool d.credit, .string d.refers, .int .i64 d.day, .string d.country, .string d.number, .string d.currency, .slice A2 d.lines.length c2] rfl)
          generalize (w6.alloc (.cells #[.string ⟨#[]⟩, .bool false, .bool false, .string ⟨#[]⟩, .int .i64 0, .string ⟨#[]⟩, .string ⟨#[]⟩, .string ⟨#[]⟩, .slice none 0 0] 29)).setRow w6.heap.size #[.string d.id, .bool d.sale, .bool d.credit, .string d.refers, .int .i64 d.day, .string d.country, .string d.number, .string d.currency, .slice A2 d.lines.length c2] = w7 at HBF ⊢
          have HI7 := Lib.hid (HI6.out.on HBF.out.1)
          have HD7 : Hid (DocVOk w7 (reL d A2 c2)) := Lib.hid (DocVOk.on HD2.out HBF.out.1)
          have HX7 : Hid (w7.heap[w6.heap.size]? = some (.cells #[.string d.id, .bool d.sale, .bool d.credit, .string d.refers, .int .i64 d.day, .string d.country, .string d.number, .string d.currency, .slice A2 d.lines.length c2] 29 (0, 0))) := Lib.hid HBF.out.2
          obtain ⟨gx, hgx⟩ : ∃ gx, gx = w6.heap.size := ⟨_, rfl⟩
          rw [← hgx] at HX7 ⊢
          clear hgx HBF HI6 HD2 HN0
          obtain ⟨v0, v1, v2, v3, v4, v5, v6, v7, v8⟩ := cellsLineV HX7.out
          obtain ⟨u0, u1, u2, u3, u4, u5, u6, u7, u8⟩ := cellsLineV HI7.out.box
          have HSd := Lib.hid (ref_sameDoc (reL d A2 c2) d w7 HD7.out (HDa.out.on HI7.out.low) (by have := HDl.out.2; show d.lines.length ≤ 140737488351232; omega) true (sameD_re d A2 c2))
          go_wp2_with (go_at_call 14; refine HSd.out.mono ?_; rintro e w8 ⟨rfl, hb⟩; have HI8 := Lib.hid (HI7.out.on hb); clear hb; refine Stop.out ?_)
          unfold Stop
          clear u0 u1 u2 u3 u4 u5 u6 u7 u8 v0 v1 v2 v3 v4 v5 v6 v7 v8 HSd HX7 HD7 HI7
          obtain ⟨u0, u1, u2, u3, u4, u5, u6, u7, u8⟩ := cellsLineV HI8.out.box
          have HP8 := Lib.hid (put_any HI8.out.set d (HDa.out.on HI8.out.low) (by have := HDl.out.2; omega) (HMa.out.below HI8.out.low) (by have := HI8.out.n; have := HL39.out; omega) (by have := HI8.out.m; have := HL39.out; omega) (fun s => by have := HI8.out.c s; have := HL39.out; omega))
          have HE8 : Hid (checkV F d = 51) := Lib.hid (twice_of HGo.out HI8.out.there)
          go_wp2_with (go_at_call 11; refine HP8.out.mono ?_; rintro e w9 ⟨he, hb, _⟩; rw [HE8.out] at he; subst he; have HBp := Lib.hid (below_then HBa.out (HI8.out.low.trans hb)); clear hb; refine Stop.out ?_)
          unfold Stop
          clear u0 u1 u2 u3 u4 u5 u6 u7 u8 HP8 HI8
          go_wp2_with (go_at_call 7; refine (HLv.out _ HBp.out).mono ?_; rintro e wz ⟨rfl, hb⟩; have HBz := Lib.hid (below_then HBp.out hb); clear hb)
          go_ret
          exact ⟨rfl, HBz.out⟩
    · have hE2 : (checkV noF d != 0) = true := by simpa using hE
      have HEc := Lib.hid (first_not hE)
      clear hE
      generalize hee : checkV noF d = ee at hE2
      go_wp2_with (go_at_call 11; refine HPu.out.mono ?_; rintro e wc ⟨he, hb, hs, _⟩; rw [hee] at he; subst he; have HBc := Lib.hid hb; have HStc := Lib.hid hs; clear hb hs; refine Stop.out ?_)
      unfold Stop
      clear u0 u1 u2 u3 u4 u5 u6 u7 u8 HPu HSb hee
      have HXc := Lib.hid (HStc.out _ _ _ HXb.out (by decide))
      have HBac := Lib.hid (HBb.out.trans HBc.out)
      have HBwc := Lib.hid (below_then HBa.out HBac.out)
      have HGd := Lib.hid (fun V hV => refDoc_val d V wc (HDa.out.on HBac.out) (by have := HDl.out.2; omega) hV)
      clear HStc HXb HBb HBwb HMb HBc
      obtain ⟨u0, u1, u2, u3, u4, u5, u6, u7, u8⟩ := cellsLineV HXc.out
      rcases HEc.out with hg | ⟨hg, hcr⟩
      · go_wp2_with (go_at_call 19; refine (HGd.out false hg).mono ?_; rintro e w5 ⟨rfl, hb⟩; have HB5 := Lib.hid (below_then HBwc.out hb); clear hb; refine Stop.out ?_)
        unfold Stop
        clear u0 u1 u2 u3 u4 u5 u6 u7 u8 HGd hg HEc
        go_wp2_with (go_at_call 7; refine (HLv.out _ HB5.out).mono ?_; rintro e wz ⟨rfl, hb⟩; have HBz := Lib.hid (below_then HB5.out hb); clear hb)
        go_ret
        exact ⟨rfl, HBz.out⟩
      · have HCr := Lib.hid hcr
        clear hcr HEc
        go_wp2_with (go_at_call 19; refine (HGd.out true hg).mono ?_; rintro e w5 ⟨rfl, hb⟩; have HB5 := Lib.hid (below_then HBwc.out hb); have HX5 := Lib.hid (heap_on hb HXc.out); clear hb; refine Stop.out ?_)
        unfold Stop
        clear u0 u1 u2 u3 u4 u5 u6 u7 u8 HGd hg
        obtain ⟨u0, u1, u2, u3, u4, u5, u6, u7, u8⟩ := cellsLineV HX5.out
        rw [HCr.out] at u2
        clear u0 u1 u3 u4 u5 u6 u7 u8
        go_wp2_with (go_at_call 7; refine (HLv.out _ HB5.out).mono ?_; rintro e wz ⟨rfl, hb⟩; have HBz := Lib.hid (below_then HB5.out hb); clear hb)
        go_ret
        exact ⟨rfl, HBz.out⟩
end Go.Proofs.Ytjanhgekocpobaa
