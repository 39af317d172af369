/- Documents that are there: whether one may come. -/
import Derived.Test.YtjanhgekocpobaaIdE
import Derived.Test.YtjanhgekocpobaaRgG
namespace Go.Proofs.Ytjanhgekocpobaa
open Go.RowKit
set_option maxRecDepth 100000
set_option linter.unusedSimpArgs false
set_option linter.unusedVariables false
attribute [local go_sem] Oper.semAt_some

def goodB (d : DocV) : Bool := docGood d (rightP d.country d.number) (currB d.currency)
theorem good_keys {d : DocV} (h : goodB d = true) : okKey d.id ∧ okKey d.refers := by
  unfold goodB docGood inB at h
  simp only [Bool.and_eq_true, decide_eq_true_eq] at h
  unfold okKey
  omega
/-- is the document there that a credit takes back? -/
def backB (F : Docs) (d : DocV) : Bool := match F d.refers with | none => false | some x => forB x d
def checkV (F : Docs) (d : DocV) : Int := if goodB d = false then 2 else if (F d.id).isSome = true then 51 else if d.credit = true ∧ backB F d = false then 72 else 0
theorem has_back {w : World} {base P bm n : Nat} {F : Docs} (c0 : w.cell? ⟨P, 0, none⟩ = some (.map (some bm))) (H : DmAt w base bm n F) (d : DocV) (hk : okKey d.refers) (b : Nat) (hb : w.heap[b]? = some (.cells #[.string d.id, .bool d.sale, .bool d.credit, .string d.refers, .int .i64 d.day, .string d.country, .string d.number, .string d.currency, .slice d.linesA d.lines.length d.linesC] 29 (0, 0))) : Calls Try.prog 24 #[.pointer (some ⟨P, 0, none⟩), .string d.refers, .func (Fn.func 42) #[] #[.pointer (some ⟨b, 0, none⟩)]] w fun e w' => e = .returned (.bool (backB F d)) ∧ Below w.heap.size w w' := by
  unfold backB
  cases hF : F d.refers with
  | none => exact has_no c0 H hk hF _
  | some x => exact has_for c0 H hk hF d b hb
theorem has_there {w : World} {base P bm n : Nat} {F : Docs} {s : ByteArray} (c0 : w.cell? ⟨P, 0, none⟩ = some (.map (some bm))) (H : DmAt w base bm n F) (hk : okKey s) : Calls Try.prog 24 #[.pointer (some ⟨P, 0, none⟩), .string s, .func (Fn.func 25) #[] #[]] w fun e w' => e = .returned (.bool (F s).isSome) ∧ Below w.heap.size w w' := by
  cases hF : F s with
  | none => exact has_no c0 H hk hF _
  | some x => exact has_any c0 H hk hF
set_option maxHeartbeats 4000000 in
theorem check_bad {w : World} {base P bm n : Nat} {F : Docs} (c0 : w.cell? ⟨P, 0, none⟩ = some (.map (some bm))) (hP : P < w.heap.size) (H : DmAt w base bm n F) (d : DocV) (hd : DocVOk w d) (hln : d.lines.length ≤ 140737488351232) (hM : MaxL w) (hg : goodB d = false) : Calls Try.prog 9 #[.pointer (some ⟨P, 0, none⟩), docVal d] w fun e w' => e = .returned (.int .i64 2) ∧ Below w.heap.size w w' := by
  have HMd : Hid (∀ W, Below w.heap.size w W → Calls Try.prog 22 #[.pointer (some ⟨P, 0, none⟩)] W fun e w' => e = .returned (.bool true) ∧ W = w') := Lib.hid (fun W hW => code_made W P bm (cell_on hW c0))
  have HGd : Hid (∀ W, Below w.heap.size w W → Calls Try.prog 23 #[.agg #[.string d.id, .bool d.sale, .bool d.credit, .string d.refers, .int .i64 d.day, .string d.country, .string d.number, .string d.currency, .slice d.linesA d.lines.length d.linesC]] W fun e w' => e = .returned (.bool false) ∧ Below W.heap.size W w') := Lib.hid (fun W hW => by
    have := goodDoc_any d W (hd.on hW) hln (hM.below hW)
    rw [show docGood d (rightP d.country d.number) (currB d.currency) = false from hg] at this
    exact this)
  have HX1 := Lib.hid (heap_alloc_new w (.cells #[.string d.id, .bool d.sale, .bool d.credit, .string d.refers, .int .i64 d.day, .string d.country, .string d.number, .string d.currency, .slice d.linesA d.lines.length d.linesC] 29))
  have HB1 := Lib.hid (below_alloc w (.cells #[.string d.id, .bool d.sale, .bool d.credit, .string d.refers, .int .i64 d.day, .string d.country, .string d.number, .string d.currency, .slice d.linesA d.lines.length d.linesC] 29))
  have HC0 := Lib.hid c0
  have HPl := Lib.hid hP
  unfold docVal docC
  clear c0 hP H hd hln hM hg
  go_enter Try.func9, Try.ntmps9
  go_wp2_with (go_at_call 22; refine (HMd.out _ HB1.out).mono ?_; rintro e w1 ⟨rfl, rfl⟩; refine Stop.out ?_)
  unfold Stop
  generalize w.alloc (.cells #[.string d.id, .bool d.sale, .bool d.credit, .string d.refers, .int .i64 d.day, .string d.country, .string d.number, .string d.currency, .slice d.linesA d.lines.length d.linesC] 29) = w1 at HX1 HB1 ⊢
  obtain ⟨g, hgg⟩ : ∃ g, g = w.heap.size := ⟨_, rfl⟩
  rw [← hgg] at HX1 ⊢
  clear hgg
  obtain ⟨u0, u1, u2, u3, u4, u5, u6, u7, u8⟩ := cellsLineV HX1.out
  go_wp2_with (go_at_call 23; refine (HGd.out _ HB1.out).mono ?_; rintro e w2 ⟨rfl, hb⟩; have HX2 := Lib.hid (heap_on hb HX1.out); have HB2 := Lib.hid (below_then HB1.out hb); clear hb; refine Stop.out ?_)
  unfold Stop
  clear u0 u1 u2 u3 u4 u5 u6 u7 u8 HX1
  obtain ⟨u0, u1, u2, u3, u4, u5, u6, u7, u8⟩ := cellsLineV HX2.out
  go_wp2
  go_ret
  exact ⟨rfl, HB2.out⟩
set_option maxHeartbeats 4000000 in
theorem check_twice {w : World} {base P bm n : Nat} {F : Docs} (c0 : w.cell? ⟨P, 0, none⟩ = some (.map (some bm))) (hP : P < w.heap.size) (H : DmAt w base bm n F) (d : DocV) (hd : DocVOk w d) (hln : d.lines.length ≤ 140737488351232) (hM : MaxL w) (hg : goodB d = true) (ht : (F d.id).isSome = true) : Calls Try.prog 9 #[.pointer (some ⟨P, 0, none⟩), docVal d] w fun e w' => e = .returned (.int .i64 51) ∧ Below w.heap.size w w' := by
  have HMd : Hid (∀ W, Below w.heap.size w W → Calls Try.prog 22 #[.pointer (some ⟨P, 0, none⟩)] W fun e w' => e = .returned (.bool true) ∧ W = w') := Lib.hid (fun W hW => code_made W P bm (cell_on hW c0))
  have HGd : Hid (∀ W, Below w.heap.size w W → Calls Try.prog 23 #[.agg #[.string d.id, .bool d.sale, .bool d.credit, .string d.refers, .int .i64 d.day, .string d.country, .string d.number, .string d.currency, .slice d.linesA d.lines.length d.linesC]] W fun e w' => e = .returned (.bool true) ∧ Below W.heap.size W w') := Lib.hid (fun W hW => by
    have := goodDoc_any d W (hd.on hW) hln (hM.below hW)
    rw [show docGood d (rightP d.country d.number) (currB d.currency) = true from hg] at this
    exact this)
  have HTh : Hid (∀ W, Below w.heap.size w W → Calls Try.prog 24 #[.pointer (some ⟨P, 0, none⟩), .string d.id, .func (Fn.func 25) #[] #[]] W fun e w' => e = .returned (.bool true) ∧ Below W.heap.size W w') := Lib.hid (fun W hW => by
    have := has_there (cell_on hW c0) (H.on hW) (good_keys hg).1
    rw [ht] at this
    exact this)
  have HX1 := Lib.hid (heap_alloc_new w (.cells #[.string d.id, .bool d.sale, .bool d.credit, .string d.refers, .int .i64 d.day, .string d.country, .string d.number, .string d.currency, .slice d.linesA d.lines.length d.linesC] 29))
  have HB1 := Lib.hid (below_alloc w (.cells #[.string d.id, .bool d.sale, .bool d.credit, .string d.refers, .int .i64 d.day, .string d.country, .string d.number, .string d.currency, .slice d.linesA d.lines.length d.linesC] 29))
  have HC0 := Lib.hid c0
  have HPl := Lib.hid hP
  unfold docVal docC
  clear c0 hP H hd hln hM hg ht
  go_enter Try.func9, Try.ntmps9
  go_wp2_with (go_at_call 22; refine (HMd.out _ HB1.out).mono ?_; rintro e w1 ⟨rfl, rfl⟩; refine Stop.out ?_)
  unfold Stop
  generalize w.alloc (.cells #[.string d.id, .bool d.sale, .bool d.credit, .string d.refers, .int .i64 d.day, .string d.country, .string d.number, .string d.currency, .slice d.linesA d.lines.length d.linesC] 29) = w1 at HX1 HB1 ⊢
  obtain ⟨g, hgg⟩ : ∃ g, g = w.heap.size := ⟨_, rfl⟩
  rw [← hgg] at HX1 ⊢
  clear hgg
  obtain ⟨u0, u1, u2, u3, u4, u5, u6, u7, u8⟩ := cellsLineV HX1.out
  go_wp2_with (go_at_call 23; refine (HGd.out _ HB1.out).mono ?_; rintro e w2 ⟨rfl, hb⟩; have HX2 := Lib.hid (heap_on hb HX1.out); have HB2 := Lib.hid (below_then HB1.out hb); clear hb; refine Stop.out ?_)
  unfold Stop
  clear u0 u1 u2 u3 u4 u5 u6 u7 u8 HX1
  obtain ⟨u0, u1, u2, u3, u4, u5, u6, u7, u8⟩ := cellsLineV HX2.out
  go_wp2_with (go_at_call 24; refine (HTh.out _ HB2.out).mono ?_; rintro e w3 ⟨rfl, hb⟩; have HX3 := Lib.hid (heap_on hb HX2.out); have HB3 := Lib.hid (below_then HB2.out hb); clear hb; refine Stop.out ?_)
  unfold Stop
  clear u0 u1 u2 u3 u4 u5 u6 u7 u8
  obtain ⟨u0, u1, u2, u3, u4, u5, u6, u7, u8⟩ := cellsLineV HX3.out
  go_wp2
  go_ret
  exact ⟨rfl, HB3.out⟩
set_option maxHeartbeats 4000000 in
theorem check_plain {w : World} {base P bm n : Nat} {F : Docs} (c0 : w.cell? ⟨P, 0, none⟩ = some (.map (some bm))) (hP : P < w.heap.size) (H : DmAt w base bm n F) (d : DocV) (hd : DocVOk w d) (hln : d.lines.length ≤ 140737488351232) (hM : MaxL w) (hg : goodB d = true) (ht : (F d.id).isSome = false) (hcr : d.credit = false) : Calls Try.prog 9 #[.pointer (some ⟨P, 0, none⟩), docVal d] w fun e w' => e = .returned (.int .i64 0) ∧ Below w.heap.size w w' := by
  have HMd : Hid (∀ W, Below w.heap.size w W → Calls Try.prog 22 #[.pointer (some ⟨P, 0, none⟩)] W fun e w' => e = .returned (.bool true) ∧ W = w') := Lib.hid (fun W hW => code_made W P bm (cell_on hW c0))
  have HGd : Hid (∀ W, Below w.heap.size w W → Calls Try.prog 23 #[.agg #[.string d.id, .bool d.sale, .bool false, .string d.refers, .int .i64 d.day, .string d.country, .string d.number, .string d.currency, .slice d.linesA d.lines.length d.linesC]] W fun e w' => e = .returned (.bool true) ∧ Below W.heap.size W w') := Lib.hid (fun W hW => by
    have := goodDoc_any d W (hd.on hW) hln (hM.below hW)
    rw [show docGood d (rightP d.country d.number) (currB d.currency) = true from hg] at this
    rw [hcr] at this
    exact this)
  have HTh : Hid (∀ W, Below w.heap.size w W → Calls Try.prog 24 #[.pointer (some ⟨P, 0, none⟩), .string d.id, .func (Fn.func 25) #[] #[]] W fun e w' => e = .returned (.bool false) ∧ Below W.heap.size W w') := Lib.hid (fun W hW => by
    have := has_there (cell_on hW c0) (H.on hW) (good_keys hg).1
    rw [ht] at this
    exact this)
  have HX1 := Lib.hid (heap_alloc_new w (.cells #[.string d.id, .bool d.sale, .bool false, .string d.refers, .int .i64 d.day, .string d.country, .string d.number, .string d.currency, .slice d.linesA d.lines.length d.linesC] 29))
  have HB1 := Lib.hid (below_alloc w (.cells #[.string d.id, .bool d.sale, .bool false, .string d.refers, .int .i64 d.day, .string d.country, .string d.number, .string d.currency, .slice d.linesA d.lines.length d.linesC] 29))
  have HC0 := Lib.hid c0
  have HPl := Lib.hid hP
  unfold docVal docC
  rw [hcr]
  clear c0 hP H hd hln hM hg ht hcr
  go_enter Try.func9, Try.ntmps9
  go_wp2_with (go_at_call 22; refine (HMd.out _ HB1.out).mono ?_; rintro e w1 ⟨rfl, rfl⟩; refine Stop.out ?_)
  unfold Stop
  generalize w.alloc (.cells #[.string d.id, .bool d.sale, .bool false, .string d.refers, .int .i64 d.day, .string d.country, .string d.number, .string d.currency, .slice d.linesA d.lines.length d.linesC] 29) = w1 at HX1 HB1 ⊢
  obtain ⟨g, hgg⟩ : ∃ g, g = w.heap.size := ⟨_, rfl⟩
  rw [← hgg] at HX1 ⊢
  clear hgg
  obtain ⟨u0, u1, u2, u3, u4, u5, u6, u7, u8⟩ := cellsLineV HX1.out
  go_wp2_with (go_at_call 23; refine (HGd.out _ HB1.out).mono ?_; rintro e w2 ⟨rfl, hb⟩; have HX2 := Lib.hid (heap_on hb HX1.out); have HB2 := Lib.hid (below_then HB1.out hb); clear hb; refine Stop.out ?_)
  unfold Stop
  clear u0 u1 u2 u3 u4 u5 u6 u7 u8 HX1
  obtain ⟨u0, u1, u2, u3, u4, u5, u6, u7, u8⟩ := cellsLineV HX2.out
  go_wp2_with (go_at_call 24; refine (HTh.out _ HB2.out).mono ?_; rintro e w3 ⟨rfl, hb⟩; have HX3 := Lib.hid (heap_on hb HX2.out); have HB3 := Lib.hid (below_then HB2.out hb); clear hb; refine Stop.out ?_)
  unfold Stop
  clear u0 u1 u2 u3 u4 u5 u6 u7 u8
  obtain ⟨u0, u1, u2, u3, u4, u5, u6, u7, u8⟩ := cellsLineV HX3.out
  clear HB1 HB2 u0 u1 u2 u3 u4 u5 u6 u7 u8
  go_wp2
  have HS1 : Hid (w3.drew.heap[g]? = some (.cells #[.string d.id, .bool d.sale, .bool false, .string d.refers, .int .i64 d.day, .string d.country, .string d.number, .string d.currency, .slice d.linesA d.lines.length d.linesC] 29 (0, 0)) ∧ w3.drew.cell? ⟨P, 0, none⟩ = some (.map (some bm))) := Lib.hid ⟨heap_on (below_drew w3) HX3.out, cell_on (below_then HB3.out (below_drew w3)) HC0.out⟩
  have HB0 : Hid (Below w.heap.size w w3.drew) := Lib.hid HB3.out.drew
  refine wp_region_held_drew (S := fun V : World => V.heap[g]? = some (.cells #[.string d.id, .bool d.sale, .bool false, .string d.refers, .int .i64 d.day, .string d.country, .string d.number, .string d.currency, .slice d.linesA d.lines.length d.linesC] 29 (0, 0)) ∧ V.cell? ⟨P, 0, none⟩ = some (.map (some bm))) (by kernel_rfl) HS1.out ?_
  intro hHeld
  clear HS1
  generalize w3.drew = wd at HB0 hHeld ⊢
  (refine takeH (i := 0) (v := ?_) rfl (by kernel_rfl) (by kernel_rfl) (by kernel_rfl) (fun _ _ _ h => h) (Or.inl ⟨by rfl, ?_⟩) (by assumption) ?_; rotate_left; (focus ((intro wS hSw); (try dsimp only at hSw); obtain ⟨⟨s0, s1, s2, s3, s4, s5, s6, s7, s8⟩, t0⟩ := And.intro (cellsLineV hSw.1) hSw.2; go_simp; (try with_reducible rfl); done)); (try simp only [Act.put, List.setIfInBounds_toArray, List.set_cons_zero, List.set_cons_succ]))
  (refine takeH (i := 1) (v := ?_) rfl (by kernel_rfl) (by kernel_rfl) (by kernel_rfl) (fun _ _ _ h => h) (Or.inl ⟨by rfl, ?_⟩) (by assumption) ?_; rotate_left; (focus ((intro wS hSw); (try dsimp only at hSw); obtain ⟨⟨s0, s1, s2, s3, s4, s5, s6, s7, s8⟩, t0⟩ := And.intro (cellsLineV hSw.1) hSw.2; go_simp; (try with_reducible rfl); done)); (try simp only [Act.put, List.setIfInBounds_toArray, List.set_cons_zero, List.set_cons_succ]))
  (refine takeH (i := 2) (v := ?_) rfl (by kernel_rfl) (by kernel_rfl) (by kernel_rfl) (fun _ _ _ h => h) (Or.inl ⟨by rfl, ?_⟩) (by assumption) ?_; rotate_left; (focus ((intro wS hSw); (try dsimp only at hSw); obtain ⟨⟨s0, s1, s2, s3, s4, s5, s6, s7, s8⟩, t0⟩ := And.intro (cellsLineV hSw.1) hSw.2; go_simp; (try with_reducible rfl); done)); (try simp only [Act.put, List.setIfInBounds_toArray, List.set_cons_zero, List.set_cons_succ]))
  (refine takeH (i := 3) (v := undef) rfl (by kernel_rfl) (by kernel_rfl) (by kernel_rfl) (fun _ _ _ h => h) (Or.inr ⟨by rfl, rfl⟩) (by assumption) ?_; (try simp only [Act.put, List.setIfInBounds_toArray, List.set_cons_zero, List.set_cons_succ]))
  (refine takeH (i := 4) (v := undef) rfl (by kernel_rfl) (by kernel_rfl) (by kernel_rfl) (fun _ _ _ h => h) (Or.inr ⟨by rfl, rfl⟩) (by assumption) ?_; (try simp only [Act.put, List.setIfInBounds_toArray, List.set_cons_zero, List.set_cons_succ]))
  (refine takeH (i := 5) (v := undef) rfl (by kernel_rfl) (by kernel_rfl) (by kernel_rfl) (fun _ _ _ h => h) (Or.inr ⟨by rfl, rfl⟩) (by assumption) ?_; (try simp only [Act.put, List.setIfInBounds_toArray, List.set_cons_zero, List.set_cons_succ]))
  (refine takeH (i := 6) (v := undef) rfl (by kernel_rfl) (by kernel_rfl) (by kernel_rfl) (fun _ _ _ h => h) (Or.inr ⟨by rfl, rfl⟩) (by assumption) ?_; (try simp only [Act.put, List.setIfInBounds_toArray, List.set_cons_zero, List.set_cons_succ]))
  (refine takeH (i := 7) (v := undef) rfl (by kernel_rfl) (by kernel_rfl) (by kernel_rfl) (fun _ _ _ h => h) (Or.inr ⟨by rfl, rfl⟩) (by assumption) ?_; (try simp only [Act.put, List.setIfInBounds_toArray, List.set_cons_zero, List.set_cons_succ]))
  (refine takeH (i := 8) (v := undef) rfl (by kernel_rfl) (by kernel_rfl) (by kernel_rfl) (fun _ _ _ h => h) (Or.inr ⟨by rfl, rfl⟩) (by assumption) ?_; (try simp only [Act.put, List.setIfInBounds_toArray, List.set_cons_zero, List.set_cons_succ]))
  (refine takeH (i := 9) (v := undef) rfl (by kernel_rfl) (by kernel_rfl) (by kernel_rfl) (fun _ _ _ h => h) (Or.inr ⟨by rfl, rfl⟩) (by assumption) ?_; (try simp only [Act.put, List.setIfInBounds_toArray, List.set_cons_zero, List.set_cons_succ]))
  (refine takeH (i := 10) (v := ?_) rfl (by kernel_rfl) (by kernel_rfl) (by kernel_rfl) (fun _ _ _ h => h) (Or.inl ⟨by rfl, ?_⟩) (by assumption) ?_; rotate_left; (focus ((intro wS hSw); (try dsimp only at hSw); obtain ⟨⟨s0, s1, s2, s3, s4, s5, s6, s7, s8⟩, t0⟩ := And.intro (cellsLineV hSw.1) hSw.2; go_simp; (try with_reducible rfl); done)); (try simp only [Act.put, List.setIfInBounds_toArray, List.set_cons_zero, List.set_cons_succ]))
  (refine takeH (i := 11) (v := ?_) rfl (by kernel_rfl) (by kernel_rfl) (by kernel_rfl) (fun _ _ _ h => h) (Or.inl ⟨by rfl, ?_⟩) (by assumption) ?_; rotate_left; (focus ((intro wS hSw); (try dsimp only at hSw); obtain ⟨⟨s0, s1, s2, s3, s4, s5, s6, s7, s8⟩, t0⟩ := And.intro (cellsLineV hSw.1) hSw.2; go_simp; (try with_reducible rfl); done)); (try simp only [Act.put, List.setIfInBounds_toArray, List.set_cons_zero, List.set_cons_succ]))
  refine wpAnyH_done (by kernel_rfl) ?_ _
  clear hHeld
  go_wp2
  go_ret
  exact ⟨rfl, HB0.out⟩
set_option maxHeartbeats 4000000 in
theorem check_ref {w : World} {base P bm n : Nat} {F : Docs} (c0 : w.cell? ⟨P, 0, none⟩ = some (.map (some bm))) (hP : P < w.heap.size) (H : DmAt w base bm n F) (d : DocV) (hd : DocVOk w d) (hln : d.lines.length ≤ 140737488351232) (hM : MaxL w) (hg : goodB d = true) (ht : (F d.id).isSome = false) (hcr : d.credit = true) (hk : backB F d = false) : Calls Try.prog 9 #[.pointer (some ⟨P, 0, none⟩), docVal d] w fun e w' => e = .returned (.int .i64 72) ∧ Below w.heap.size w w' := by
  have HMd : Hid (∀ W, Below w.heap.size w W → Calls Try.prog 22 #[.pointer (some ⟨P, 0, none⟩)] W fun e w' => e = .returned (.bool true) ∧ W = w') := Lib.hid (fun W hW => code_made W P bm (cell_on hW c0))
  have HGd : Hid (∀ W, Below w.heap.size w W → Calls Try.prog 23 #[.agg #[.string d.id, .bool d.sale, .bool true, .string d.refers, .int .i64 d.day, .string d.country, .string d.number, .string d.currency, .slice d.linesA d.lines.length d.linesC]] W fun e w' => e = .returned (.bool true) ∧ Below W.heap.size W w') := Lib.hid (fun W hW => by
    have := goodDoc_any d W (hd.on hW) hln (hM.below hW)
    rw [show docGood d (rightP d.country d.number) (currB d.currency) = true from hg] at this
    rw [hcr] at this
    exact this)
  have HTh : Hid (∀ W, Below w.heap.size w W → Calls Try.prog 24 #[.pointer (some ⟨P, 0, none⟩), .string d.id, .func (Fn.func 25) #[] #[]] W fun e w' => e = .returned (.bool false) ∧ Below W.heap.size W w') := Lib.hid (fun W hW => by
    have := has_there (cell_on hW c0) (H.on hW) (good_keys hg).1
    rw [ht] at this
    exact this)
  have HBk : Hid (∀ W b, Below w.heap.size w W → W.heap[b]? = some (.cells #[.string d.id, .bool d.sale, .bool true, .string d.refers, .int .i64 d.day, .string d.country, .string d.number, .string d.currency, .slice d.linesA d.lines.length d.linesC] 29 (0, 0)) → Calls Try.prog 24 #[.pointer (some ⟨P, 0, none⟩), .string d.refers, .func (Fn.func 42) #[] #[.pointer (some ⟨b, 0, none⟩)]] W fun e w' => e = .returned (.bool false) ∧ Below W.heap.size W w') := Lib.hid (fun W b hW hb => by
    have := has_back (cell_on hW c0) (H.on hW) d (good_keys hg).2 b (by rw [hcr]; exact hb)
    rw [hk] at this
    exact this)
  have HFo : Hid (∀ W, Calls Try.prog 26 #[.agg #[.string d.id, .bool d.sale, .bool true, .string d.refers, .int .i64 d.day, .string d.country, .string d.number, .string d.currency, .slice d.linesA d.lines.length d.linesC]] W fun e w' => e = .returned (.func (Fn.func 42) #[] #[.pointer (some ⟨W.heap.size, 0, none⟩)]) ∧ w'.heap[W.heap.size]? = some (.cells #[.string d.id, .bool d.sale, .bool true, .string d.refers, .int .i64 d.day, .string d.country, .string d.number, .string d.currency, .slice d.linesA d.lines.length d.linesC] 29 (0, 0)) ∧ Below W.heap.size W w') := Lib.hid (fun W => by
    have := code_isFor d W
    unfold docVal docC at this
    rw [hcr] at this
    exact this)
  have HX1 := Lib.hid (heap_alloc_new w (.cells #[.string d.id, .bool d.sale, .bool true, .string d.refers, .int .i64 d.day, .string d.country, .string d.number, .string d.currency, .slice d.linesA d.lines.length d.linesC] 29))
  have HB1 := Lib.hid (below_alloc w (.cells #[.string d.id, .bool d.sale, .bool true, .string d.refers, .int .i64 d.day, .string d.country, .string d.number, .string d.currency, .slice d.linesA d.lines.length d.linesC] 29))
  have HC0 := Lib.hid c0
  have HPl := Lib.hid hP
  unfold docVal docC
  rw [hcr]
  clear c0 hP H hd hln hM hg ht hk hcr
  go_enter Try.func9, Try.ntmps9
  go_wp2_with (go_at_call 22; refine (HMd.out _ HB1.out).mono ?_; rintro e w1 ⟨rfl, rfl⟩; refine Stop.out ?_)
  unfold Stop
  generalize w.alloc (.cells #[.string d.id, .bool d.sale, .bool true, .string d.refers, .int .i64 d.day, .string d.country, .string d.number, .string d.currency, .slice d.linesA d.lines.length d.linesC] 29) = w1 at HX1 HB1 ⊢
  obtain ⟨g, hgg⟩ : ∃ g, g = w.heap.size := ⟨_, rfl⟩
  rw [← hgg] at HX1 ⊢
  clear hgg
  obtain ⟨u0, u1, u2, u3, u4, u5, u6, u7, u8⟩ := cellsLineV HX1.out
  go_wp2_with (go_at_call 23; refine (HGd.out _ HB1.out).mono ?_; rintro e w2 ⟨rfl, hb⟩; have HX2 := Lib.hid (heap_on hb HX1.out); have HB2 := Lib.hid (below_then HB1.out hb); clear hb; refine Stop.out ?_)
  unfold Stop
  clear u0 u1 u2 u3 u4 u5 u6 u7 u8 HX1
  obtain ⟨u0, u1, u2, u3, u4, u5, u6, u7, u8⟩ := cellsLineV HX2.out
  go_wp2_with (go_at_call 24; refine (HTh.out _ HB2.out).mono ?_; rintro e w3 ⟨rfl, hb⟩; have HX3 := Lib.hid (heap_on hb HX2.out); have HB3 := Lib.hid (below_then HB2.out hb); clear hb; refine Stop.out ?_)
  unfold Stop
  clear u0 u1 u2 u3 u4 u5 u6 u7 u8
  obtain ⟨u0, u1, u2, u3, u4, u5, u6, u7, u8⟩ := cellsLineV HX3.out
  clear HB1 HB2 u0 u1 u2 u3 u4 u5 u6 u7 u8
  go_wp2
  have HS1 : Hid (w3.drew.heap[g]? = some (.cells #[.string d.id, .bool d.sale, .bool true, .string d.refers, .int .i64 d.day, .string d.country, .string d.number, .string d.currency, .slice d.linesA d.lines.length d.linesC] 29 (0, 0)) ∧ w3.drew.cell? ⟨P, 0, none⟩ = some (.map (some bm))) := Lib.hid ⟨heap_on (below_drew w3) HX3.out, cell_on (below_then HB3.out (below_drew w3)) HC0.out⟩
  have HB0 : Hid (Below w.heap.size w w3.drew) := Lib.hid HB3.out.drew
  refine wp_region_held_drew (S := fun V : World => V.heap[g]? = some (.cells #[.string d.id, .bool d.sale, .bool true, .string d.refers, .int .i64 d.day, .string d.country, .string d.number, .string d.currency, .slice d.linesA d.lines.length d.linesC] 29 (0, 0)) ∧ V.cell? ⟨P, 0, none⟩ = some (.map (some bm))) (by kernel_rfl) HS1.out ?_
  intro hHeld
  clear HS1
  generalize w3.drew = wd at HB0 hHeld ⊢
  (refine takeH (i := 0) (v := ?_) rfl (by kernel_rfl) (by kernel_rfl) (by kernel_rfl) (fun _ _ _ h => h) (Or.inl ⟨by rfl, ?_⟩) (by assumption) ?_; rotate_left; (focus ((intro wS hSw); (try dsimp only at hSw); obtain ⟨⟨s0, s1, s2, s3, s4, s5, s6, s7, s8⟩, t0⟩ := And.intro (cellsLineV hSw.1) hSw.2; go_simp; (try with_reducible rfl); done)); (try simp only [Act.put, List.setIfInBounds_toArray, List.set_cons_zero, List.set_cons_succ]))
  (refine takeH (i := 1) (v := ?_) rfl (by kernel_rfl) (by kernel_rfl) (by kernel_rfl) (fun _ _ _ h => h) (Or.inl ⟨by rfl, ?_⟩) (by assumption) ?_; rotate_left; (focus ((intro wS hSw); (try dsimp only at hSw); obtain ⟨⟨s0, s1, s2, s3, s4, s5, s6, s7, s8⟩, t0⟩ := And.intro (cellsLineV hSw.1) hSw.2; go_simp; (try with_reducible rfl); done)); (try simp only [Act.put, List.setIfInBounds_toArray, List.set_cons_zero, List.set_cons_succ]))
  (refine takeH (i := 2) (v := ?_) rfl (by kernel_rfl) (by kernel_rfl) (by kernel_rfl) (fun _ _ _ h => h) (Or.inl ⟨by rfl, ?_⟩) (by assumption) ?_; rotate_left; (focus ((intro wS hSw); (try dsimp only at hSw); obtain ⟨⟨s0, s1, s2, s3, s4, s5, s6, s7, s8⟩, t0⟩ := And.intro (cellsLineV hSw.1) hSw.2; go_simp; (try with_reducible rfl); done)); (try simp only [Act.put, List.setIfInBounds_toArray, List.set_cons_zero, List.set_cons_succ]))
  (refine takeH (i := 3) (v := ?_) rfl (by kernel_rfl) (by kernel_rfl) (by kernel_rfl) (fun _ _ _ h => h) (Or.inl ⟨by rfl, ?_⟩) (by assumption) ?_; rotate_left; (focus ((intro wS hSw); (try dsimp only at hSw); obtain ⟨⟨s0, s1, s2, s3, s4, s5, s6, s7, s8⟩, t0⟩ := And.intro (cellsLineV hSw.1) hSw.2; go_simp; (try with_reducible rfl); done)); (try simp only [Act.put, List.setIfInBounds_toArray, List.set_cons_zero, List.set_cons_succ]))
  (refine takeH (i := 4) (v := ?_) rfl (by kernel_rfl) (by kernel_rfl) (by kernel_rfl) (fun _ _ _ h => h) (Or.inl ⟨by rfl, ?_⟩) (by assumption) ?_; rotate_left; (focus ((intro wS hSw); (try dsimp only at hSw); obtain ⟨⟨s0, s1, s2, s3, s4, s5, s6, s7, s8⟩, t0⟩ := And.intro (cellsLineV hSw.1) hSw.2; go_simp; (try with_reducible rfl); done)); (try simp only [Act.put, List.setIfInBounds_toArray, List.set_cons_zero, List.set_cons_succ]))
  (refine takeH (i := 5) (v := ?_) rfl (by kernel_rfl) (by kernel_rfl) (by kernel_rfl) (fun _ _ _ h => h) (Or.inl ⟨by rfl, ?_⟩) (by assumption) ?_; rotate_left; (focus ((intro wS hSw); (try dsimp only at hSw); obtain ⟨⟨s0, s1, s2, s3, s4, s5, s6, s7, s8⟩, t0⟩ := And.intro (cellsLineV hSw.1) hSw.2; go_simp; (try with_reducible rfl); done)); (try simp only [Act.put, List.setIfInBounds_toArray, List.set_cons_zero, List.set_cons_succ]))
  (refine takeH (i := 6) (v := (.agg #[.string d.id, .bool d.sale, .bool true, .string d.refers, .int .i64 d.day, .string d.country, .string d.number, .string d.currency, .slice d.linesA d.lines.length d.linesC])) rfl (by kernel_rfl) (by kernel_rfl) (by kernel_rfl) (fun _ _ _ h => h) (yieldsIf_load_rowE (by rfl) 29 (.tmp 3) rfl g rfl 29 #[.string d.id, .bool d.sale, .bool true, .string d.refers, .int .i64 d.day, .string d.country, .string d.number, .string d.currency, .slice d.linesA d.lines.length d.linesC] (0, 0) _ (fun W h => h.1) Try.underlying29 rfl doc_info) (by assumption) ?_; (try simp only [Act.put, List.setIfInBounds_toArray, List.set_cons_zero, List.set_cons_succ]))
  refine aloneH (i := 7) rfl (by kernel_rfl) (fun K hK => ?_)
  rw [if_pos (by rfl)]
  go_simp; ((refine (HFo.out _).mono ?_); (rintro e w1 ⟨rfl, hx, hb⟩); have HB1 := Lib.hid hb; have HXF := Lib.hid hx; clear hb hx; (try go_simp))
  refine hK.out _ _ (⟨heap_on HB1.out hHeld.1, cell_on HB1.out hHeld.2⟩) (fun hNew => ?_)
  clear hK K hHeld; (have hHeld := hNew); clear hNew; (try simp only [Act.put, List.setIfInBounds_toArray, List.set_cons_zero, List.set_cons_succ])
  refine aloneH (i := 8) rfl (by kernel_rfl) (fun K hK => ?_)
  rw [if_pos (by rfl)]
  go_simp; ((refine (HBk.out _ _ (below_then HB0.out HB1.out) HXF.out).mono ?_); (rintro e w2 ⟨rfl, hb⟩); have HB2 := Lib.hid hb; clear hb; (try go_simp))
  refine hK.out _ _ (⟨heap_on HB2.out hHeld.1, cell_on HB2.out hHeld.2⟩) (fun hNew => ?_)
  clear hK K hHeld; (have hHeld := hNew); clear hNew; (try simp only [Act.put, List.setIfInBounds_toArray, List.set_cons_zero, List.set_cons_succ])
  (refine takeH (i := 9) (v := ?_) rfl (by kernel_rfl) (by kernel_rfl) (by kernel_rfl) (fun _ _ _ h => h) (Or.inl ⟨by rfl, ?_⟩) (by assumption) ?_; rotate_left; (focus ((intro wS hSw); (try dsimp only at hSw); obtain ⟨⟨s0, s1, s2, s3, s4, s5, s6, s7, s8⟩, t0⟩ := And.intro (cellsLineV hSw.1) hSw.2; go_simp; (try with_reducible rfl); done)); (try simp only [Act.put, List.setIfInBounds_toArray, List.set_cons_zero, List.set_cons_succ]))
  (refine takeH (i := 10) (v := ?_) rfl (by kernel_rfl) (by kernel_rfl) (by kernel_rfl) (fun _ _ _ h => h) (Or.inl ⟨by rfl, ?_⟩) (by assumption) ?_; rotate_left; (focus ((intro wS hSw); (try dsimp only at hSw); obtain ⟨⟨s0, s1, s2, s3, s4, s5, s6, s7, s8⟩, t0⟩ := And.intro (cellsLineV hSw.1) hSw.2; go_simp; (try with_reducible rfl); done)); (try simp only [Act.put, List.setIfInBounds_toArray, List.set_cons_zero, List.set_cons_succ]))
  (refine takeH (i := 11) (v := ?_) rfl (by kernel_rfl) (by kernel_rfl) (by kernel_rfl) (fun _ _ _ h => h) (Or.inl ⟨by rfl, ?_⟩) (by assumption) ?_; rotate_left; (focus ((intro wS hSw); (try dsimp only at hSw); obtain ⟨⟨s0, s1, s2, s3, s4, s5, s6, s7, s8⟩, t0⟩ := And.intro (cellsLineV hSw.1) hSw.2; go_simp; (try with_reducible rfl); done)); (try simp only [Act.put, List.setIfInBounds_toArray, List.set_cons_zero, List.set_cons_succ]))
  refine wpAnyH_done (by kernel_rfl) ?_ _
  clear hHeld
  go_wp2
  go_ret
  exact ⟨rfl, (below_then (below_then HB0.out HB1.out) HB2.out)⟩
set_option maxHeartbeats 4000000 in
theorem check_back {w : World} {base P bm n : Nat} {F : Docs} (c0 : w.cell? ⟨P, 0, none⟩ = some (.map (some bm))) (hP : P < w.heap.size) (H : DmAt w base bm n F) (d : DocV) (hd : DocVOk w d) (hln : d.lines.length ≤ 140737488351232) (hM : MaxL w) (hg : goodB d = true) (ht : (F d.id).isSome = false) (hcr : d.credit = true) (hk : backB F d = true) : Calls Try.prog 9 #[.pointer (some ⟨P, 0, none⟩), docVal d] w fun e w' => e = .returned (.int .i64 0) ∧ Below w.heap.size w w' := by
  have HMd : Hid (∀ W, Below w.heap.size w W → Calls Try.prog 22 #[.pointer (some ⟨P, 0, none⟩)] W fun e w' => e = .returned (.bool true) ∧ W = w') := Lib.hid (fun W hW => code_made W P bm (cell_on hW c0))
  have HGd : Hid (∀ W, Below w.heap.size w W → Calls Try.prog 23 #[.agg #[.string d.id, .bool d.sale, .bool true, .string d.refers, .int .i64 d.day, .string d.country, .string d.number, .string d.currency, .slice d.linesA d.lines.length d.linesC]] W fun e w' => e = .returned (.bool true) ∧ Below W.heap.size W w') := Lib.hid (fun W hW => by
    have := goodDoc_any d W (hd.on hW) hln (hM.below hW)
    rw [show docGood d (rightP d.country d.number) (currB d.currency) = true from hg] at this
    rw [hcr] at this
    exact this)
  have HTh : Hid (∀ W, Below w.heap.size w W → Calls Try.prog 24 #[.pointer (some ⟨P, 0, none⟩), .string d.id, .func (Fn.func 25) #[] #[]] W fun e w' => e = .returned (.bool false) ∧ Below W.heap.size W w') := Lib.hid (fun W hW => by
    have := has_there (cell_on hW c0) (H.on hW) (good_keys hg).1
    rw [ht] at this
    exact this)
  have HBk : Hid (∀ W b, Below w.heap.size w W → W.heap[b]? = some (.cells #[.string d.id, .bool d.sale, .bool true, .string d.refers, .int .i64 d.day, .string d.country, .string d.number, .string d.currency, .slice d.linesA d.lines.length d.linesC] 29 (0, 0)) → Calls Try.prog 24 #[.pointer (some ⟨P, 0, none⟩), .string d.refers, .func (Fn.func 42) #[] #[.pointer (some ⟨b, 0, none⟩)]] W fun e w' => e = .returned (.bool true) ∧ Below W.heap.size W w') := Lib.hid (fun W b hW hb => by
    have := has_back (cell_on hW c0) (H.on hW) d (good_keys hg).2 b (by rw [hcr]; exact hb)
    rw [hk] at this
    exact this)
  have HFo : Hid (∀ W, Calls Try.prog 26 #[.agg #[.string d.id, .bool d.sale, .bool true, .string d.refers, .int .i64 d.day, .string d.country, .string d.number, .string d.currency, .slice d.linesA d.lines.length d.linesC]] W fun e w' => e = .returned (.func (Fn.func 42) #[] #[.pointer (some ⟨W.heap.size, 0, none⟩)]) ∧ w'.heap[W.heap.size]? = some (.cells #[.string d.id, .bool d.sale, .bool true, .string d.refers, .int .i64 d.day, .string d.country, .string d.number, .string d.currency, .slice d.linesA d.lines.length d.linesC] 29 (0, 0)) ∧ Below W.heap.size W w') := Lib.hid (fun W => by
    have := code_isFor d W
    unfold docVal docC at this
    rw [hcr] at this
    exact this)
  have HX1 := Lib.hid (heap_alloc_new w (.cells #[.string d.id, .bool d.sale, .bool true, .string d.refers, .int .i64 d.day, .string d.country, .string d.number, .string d.currency, .slice d.linesA d.lines.length d.linesC] 29))
  have HB1 := Lib.hid (below_alloc w (.cells #[.string d.id, .bool d.sale, .bool true, .string d.refers, .int .i64 d.day, .string d.country, .string d.number, .string d.currency, .slice d.linesA d.lines.length d.linesC] 29))
  have HC0 := Lib.hid c0
  have HPl := Lib.hid hP
  unfold docVal docC
  rw [hcr]
  clear c0 hP H hd hln hM hg ht hk hcr
  go_enter Try.func9, Try.ntmps9
  go_wp2_with (go_at_call 22; refine (HMd.out _ HB1.out).mono ?_; rintro e w1 ⟨rfl, rfl⟩; refine Stop.out ?_)
  unfold Stop
  generalize w.alloc (.cells #[.string d.id, .bool d.sale, .bool true, .string d.refers, .int .i64 d.day, .string d.country, .string d.number, .string d.currency, .slice d.linesA d.lines.length d.linesC] 29) = w1 at HX1 HB1 ⊢
  obtain ⟨g, hgg⟩ : ∃ g, g = w.heap.size := ⟨_, rfl⟩
  rw [← hgg] at HX1 ⊢
  clear hgg
  obtain ⟨u0, u1, u2, u3, u4, u5, u6, u7, u8⟩ := cellsLineV HX1.out
  go_wp2_with (go_at_call 23; refine (HGd.out _ HB1.out).mono ?_; rintro e w2 ⟨rfl, hb⟩; have HX2 := Lib.hid (heap_on hb HX1.out); have HB2 := Lib.hid (below_then HB1.out hb); clear hb; refine Stop.out ?_)
  unfold Stop
  clear u0 u1 u2 u3 u4 u5 u6 u7 u8 HX1
  obtain ⟨u0, u1, u2, u3, u4, u5, u6, u7, u8⟩ := cellsLineV HX2.out
  go_wp2_with (go_at_call 24; refine (HTh.out _ HB2.out).mono ?_; rintro e w3 ⟨rfl, hb⟩; have HX3 := Lib.hid (heap_on hb HX2.out); have HB3 := Lib.hid (below_then HB2.out hb); clear hb; refine Stop.out ?_)
  unfold Stop
  clear u0 u1 u2 u3 u4 u5 u6 u7 u8
  obtain ⟨u0, u1, u2, u3, u4, u5, u6, u7, u8⟩ := cellsLineV HX3.out
  clear HB1 HB2 u0 u1 u2 u3 u4 u5 u6 u7 u8
  go_wp2
  have HS1 : Hid (w3.drew.heap[g]? = some (.cells #[.string d.id, .bool d.sale, .bool true, .string d.refers, .int .i64 d.day, .string d.country, .string d.number, .string d.currency, .slice d.linesA d.lines.length d.linesC] 29 (0, 0)) ∧ w3.drew.cell? ⟨P, 0, none⟩ = some (.map (some bm))) := Lib.hid ⟨heap_on (below_drew w3) HX3.out, cell_on (below_then HB3.out (below_drew w3)) HC0.out⟩
  have HB0 : Hid (Below w.heap.size w w3.drew) := Lib.hid HB3.out.drew
  refine wp_region_held_drew (S := fun V : World => V.heap[g]? = some (.cells #[.string d.id, .bool d.sale, .bool true, .string d.refers, .int .i64 d.day, .string d.country, .string d.number, .string d.currency, .slice d.linesA d.lines.length d.linesC] 29 (0, 0)) ∧ V.cell? ⟨P, 0, none⟩ = some (.map (some bm))) (by kernel_rfl) HS1.out ?_
  intro hHeld
  clear HS1
  generalize w3.drew = wd at HB0 hHeld ⊢
  (refine takeH (i := 0) (v := ?_) rfl (by kernel_rfl) (by kernel_rfl) (by kernel_rfl) (fun _ _ _ h => h) (Or.inl ⟨by rfl, ?_⟩) (by assumption) ?_; rotate_left; (focus ((intro wS hSw); (try dsimp only at hSw); obtain ⟨⟨s0, s1, s2, s3, s4, s5, s6, s7, s8⟩, t0⟩ := And.intro (cellsLineV hSw.1) hSw.2; go_simp; (try with_reducible rfl); done)); (try simp only [Act.put, List.setIfInBounds_toArray, List.set_cons_zero, List.set_cons_succ]))
  (refine takeH (i := 1) (v := ?_) rfl (by kernel_rfl) (by kernel_rfl) (by kernel_rfl) (fun _ _ _ h => h) (Or.inl ⟨by rfl, ?_⟩) (by assumption) ?_; rotate_left; (focus ((intro wS hSw); (try dsimp only at hSw); obtain ⟨⟨s0, s1, s2, s3, s4, s5, s6, s7, s8⟩, t0⟩ := And.intro (cellsLineV hSw.1) hSw.2; go_simp; (try with_reducible rfl); done)); (try simp only [Act.put, List.setIfInBounds_toArray, List.set_cons_zero, List.set_cons_succ]))
  (refine takeH (i := 2) (v := ?_) rfl (by kernel_rfl) (by kernel_rfl) (by kernel_rfl) (fun _ _ _ h => h) (Or.inl ⟨by rfl, ?_⟩) (by assumption) ?_; rotate_left; (focus ((intro wS hSw); (try dsimp only at hSw); obtain ⟨⟨s0, s1, s2, s3, s4, s5, s6, s7, s8⟩, t0⟩ := And.intro (cellsLineV hSw.1) hSw.2; go_simp; (try with_reducible rfl); done)); (try simp only [Act.put, List.setIfInBounds_toArray, List.set_cons_zero, List.set_cons_succ]))
  (refine takeH (i := 3) (v := ?_) rfl (by kernel_rfl) (by kernel_rfl) (by kernel_rfl) (fun _ _ _ h => h) (Or.inl ⟨by rfl, ?_⟩) (by assumption) ?_; rotate_left; (focus ((intro wS hSw); (try dsimp only at hSw); obtain ⟨⟨s0, s1, s2, s3, s4, s5, s6, s7, s8⟩, t0⟩ := And.intro (cellsLineV hSw.1) hSw.2; go_simp; (try with_reducible rfl); done)); (try simp only [Act.put, List.setIfInBounds_toArray, List.set_cons_zero, List.set_cons_succ]))
  (refine takeH (i := 4) (v := ?_) rfl (by kernel_rfl) (by kernel_rfl) (by kernel_rfl) (fun _ _ _ h => h) (Or.inl ⟨by rfl, ?_⟩) (by assumption) ?_; rotate_left; (focus ((intro wS hSw); (try dsimp only at hSw); obtain ⟨⟨s0, s1, s2, s3, s4, s5, s6, s7, s8⟩, t0⟩ := And.intro (cellsLineV hSw.1) hSw.2; go_simp; (try with_reducible rfl); done)); (try simp only [Act.put, List.setIfInBounds_toArray, List.set_cons_zero, List.set_cons_succ]))
  (refine takeH (i := 5) (v := ?_) rfl (by kernel_rfl) (by kernel_rfl) (by kernel_rfl) (fun _ _ _ h => h) (Or.inl ⟨by rfl, ?_⟩) (by assumption) ?_; rotate_left; (focus ((intro wS hSw); (try dsimp only at hSw); obtain ⟨⟨s0, s1, s2, s3, s4, s5, s6, s7, s8⟩, t0⟩ := And.intro (cellsLineV hSw.1) hSw.2; go_simp; (try with_reducible rfl); done)); (try simp only [Act.put, List.setIfInBounds_toArray, List.set_cons_zero, List.set_cons_succ]))
  (refine takeH (i := 6) (v := (.agg #[.string d.id, .bool d.sale, .bool true, .string d.refers, .int .i64 d.day, .string d.country, .string d.number, .string d.currency, .slice d.linesA d.lines.length d.linesC])) rfl (by kernel_rfl) (by kernel_rfl) (by kernel_rfl) (fun _ _ _ h => h) (yieldsIf_load_rowE (by rfl) 29 (.tmp 3) rfl g rfl 29 #[.string d.id, .bool d.sale, .bool true, .string d.refers, .int .i64 d.day, .string d.country, .string d.number, .string d.currency, .slice d.linesA d.lines.length d.linesC] (0, 0) _ (fun W h => h.1) Try.underlying29 rfl doc_info) (by assumption) ?_; (try simp only [Act.put, List.setIfInBounds_toArray, List.set_cons_zero, List.set_cons_succ]))
  refine aloneH (i := 7) rfl (by kernel_rfl) (fun K hK => ?_)
  rw [if_pos (by rfl)]
  go_simp; ((refine (HFo.out _).mono ?_); (rintro e w1 ⟨rfl, hx, hb⟩); have HB1 := Lib.hid hb; have HXF := Lib.hid hx; clear hb hx; (try go_simp))
  refine hK.out _ _ (⟨heap_on HB1.out hHeld.1, cell_on HB1.out hHeld.2⟩) (fun hNew => ?_)
  clear hK K hHeld; (have hHeld := hNew); clear hNew; (try simp only [Act.put, List.setIfInBounds_toArray, List.set_cons_zero, List.set_cons_succ])
  refine aloneH (i := 8) rfl (by kernel_rfl) (fun K hK => ?_)
  rw [if_pos (by rfl)]
  go_simp; ((refine (HBk.out _ _ (below_then HB0.out HB1.out) HXF.out).mono ?_); (rintro e w2 ⟨rfl, hb⟩); have HB2 := Lib.hid hb; clear hb; (try go_simp))
  refine hK.out _ _ (⟨heap_on HB2.out hHeld.1, cell_on HB2.out hHeld.2⟩) (fun hNew => ?_)
  clear hK K hHeld; (have hHeld := hNew); clear hNew; (try simp only [Act.put, List.setIfInBounds_toArray, List.set_cons_zero, List.set_cons_succ])
  (refine takeH (i := 9) (v := ?_) rfl (by kernel_rfl) (by kernel_rfl) (by kernel_rfl) (fun _ _ _ h => h) (Or.inl ⟨by rfl, ?_⟩) (by assumption) ?_; rotate_left; (focus ((intro wS hSw); (try dsimp only at hSw); obtain ⟨⟨s0, s1, s2, s3, s4, s5, s6, s7, s8⟩, t0⟩ := And.intro (cellsLineV hSw.1) hSw.2; go_simp; (try with_reducible rfl); done)); (try simp only [Act.put, List.setIfInBounds_toArray, List.set_cons_zero, List.set_cons_succ]))
  (refine takeH (i := 10) (v := ?_) rfl (by kernel_rfl) (by kernel_rfl) (by kernel_rfl) (fun _ _ _ h => h) (Or.inl ⟨by rfl, ?_⟩) (by assumption) ?_; rotate_left; (focus ((intro wS hSw); (try dsimp only at hSw); obtain ⟨⟨s0, s1, s2, s3, s4, s5, s6, s7, s8⟩, t0⟩ := And.intro (cellsLineV hSw.1) hSw.2; go_simp; (try with_reducible rfl); done)); (try simp only [Act.put, List.setIfInBounds_toArray, List.set_cons_zero, List.set_cons_succ]))
  (refine takeH (i := 11) (v := ?_) rfl (by kernel_rfl) (by kernel_rfl) (by kernel_rfl) (fun _ _ _ h => h) (Or.inl ⟨by rfl, ?_⟩) (by assumption) ?_; rotate_left; (focus ((intro wS hSw); (try dsimp only at hSw); obtain ⟨⟨s0, s1, s2, s3, s4, s5, s6, s7, s8⟩, t0⟩ := And.intro (cellsLineV hSw.1) hSw.2; go_simp; (try with_reducible rfl); done)); (try simp only [Act.put, List.setIfInBounds_toArray, List.set_cons_zero, List.set_cons_succ]))
  refine wpAnyH_done (by kernel_rfl) ?_ _
  clear hHeld
  go_wp2
  go_ret
  exact ⟨rfl, (below_then (below_then HB0.out HB1.out) HB2.out)⟩
theorem code_check {w : World} {base P bm n : Nat} {F : Docs} (c0 : w.cell? ⟨P, 0, none⟩ = some (.map (some bm))) (hP : P < w.heap.size) (H : DmAt w base bm n F) (d : DocV) (hd : DocVOk w d) (hln : d.lines.length ≤ 140737488351232) (hM : MaxL w) : Calls Try.prog 9 #[.pointer (some ⟨P, 0, none⟩), docVal d] w fun e w' => e = .returned (.int .i64 (checkV F d)) ∧ Below w.heap.size w w' := by
  unfold checkV
  cases hg : goodB d with
  | false => exact check_bad c0 hP H d hd hln hM hg
  | true =>
    rw [if_neg (by decide)]
    cases ht : (F d.id).isSome with
    | true => exact check_twice c0 hP H d hd hln hM hg ht
    | false =>
      rw [if_neg (by decide)]
      cases hcr : d.credit with
      | false => exact check_plain c0 hP H d hd hln hM hg ht hcr
      | true =>
        cases hk : backB F d with
        | false => exact check_ref c0 hP H d hd hln hM hg ht hcr hk
        | true => exact check_back c0 hP H d hd hln hM hg ht hcr hk
end Go.Proofs.Ytjanhgekocpobaa
