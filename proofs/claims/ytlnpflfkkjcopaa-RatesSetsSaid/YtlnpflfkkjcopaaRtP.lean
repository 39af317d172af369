/- The statement on what is set apart, walked. -/
import Derived.Test.YtlnpflfkkjcopaaRtN
namespace Go.Proofs.Ytlnpflfkkjcopaa
open Go.RowKit
set_option maxRecDepth 100000
attribute [local go_sem] Oper.semAt_some

theorem toL_ne {a b : ByteArray} (h : ¬ a = b) : ¬ a.toList = b.toList := fun e => h (by
  rw [ByteArray.toList_eq, ByteArray.toList_eq] at e
  exact bytes_inj e)
theorem light_walk_n (A : Option Addr) (c : Nat) (L : List Rt) (n : Nat) (hn : L.length = n) (s : ByteArray) (q d : Int) (w : World) (hr : RowR w A L) (hl : L.length ≤ 4000000000000000000) (V : Bool) (hV : lightB L s = V) :
    Calls Try.prog 22 #[.slice A n c, .agg #[.string s, .int .i64 q, .int .i64 d]] w fun e w' => e = .returned (.bool V) ∧ Below w.heap.size w w' := by
  subst hn
  exact light_walk A c L s q d w hr hl V hV
theorem light_len {L : List Rt} {x : Rt} {s : ByteArray} (h : lightB (L ++ [x]) s = true) : L.length + 1 ≤ 60 := by
  unfold lightB at h
  rw [Bool.and_eq_true, Bool.and_eq_true, decide_eq_true_iff] at h
  simpa using h.2.1
theorem of_apart {F F2 : Lns} {t s : ByteArray} {c q : Int} {p : Sp} (h : StpR F t c p F2) (hne : ¬ (s = t ∧ q = c)) (d : Int) : ofX F2 s q d = ofX F s q d ∧ ofE F2 s q d = ofE F s q d := by
  have e : Ln F2 s q = Ln F s q := by
    rcases h with ⟨_, rfl⟩ | ⟨_, _, _, B, rfl⟩
    · rfl
    · exact Ln_other hne
  unfold ofX ofE
  rw [e]
  exact ⟨rfl, rfl⟩
set_option maxHeartbeats 2000000 in
theorem apart_no (A : Option Addr) (c : Nat) (L : List Rt) (x : Rt) (s : ByteArray) (q d : Int) (w : World) (hr : RowR w A L) (hA : A = none → L = []) (hlc : L.length ≤ c) (hln : L.length * 48 ≤ 140737488351232) (hM : MaxL w)
    (hsz : (∀ y ∈ L, y.1.size ≤ 9223372036854775807) ∧ x.1.size ≤ 9223372036854775807 ∧ s.size ≤ 9223372036854775807) (V : Bool) (hV : lightB (L ++ [x]) s = V) (hV0 : V = false) :
    Calls Try.prog 7 #[.slice A L.length c, .agg #[.string x.1, .int .i64 x.2.1, .int .i64 x.2.2.1, .int .i64 x.2.2.2.1, .int .i64 x.2.2.2.2], .agg #[.string s, .int .i64 q, .int .i64 d]] w fun e w' => e = .returned (.bool true) ∧ Below w.heap.size w w' := by
  have hlc' : (L.length : Int) ≤ (c : Int) := by omega
  subst hV0
  have HR := Lib.hid hr
  have HAn := Lib.hid hA
  have HLn := Lib.hid (And.intro hln hsz)
  have HM := Lib.hid hM
  have HI := Lib.hid (bxA w x s q d)
  have HV := Lib.hid hV
  clear hr hA hln hM hV hsz
  go_enter Try.func7, Try.ntmps7
  go_wp2
  have HID := Lib.hid (HI.out.on (below_drew _))
  have HBD := Lib.hid (below_then HI.out.2.2 (below_drew _))
  obtain ⟨x0, x1, x2, x3, x4⟩ := row5 HI.out.1
  obtain ⟨y0, y1, y2⟩ := row3v HI.out.2.1
  refine wp_region_held_drew (S := fun V => V.cell? ⟨w.heap.size, 0, none⟩ = some (.string x.1) ∧ V.cell? ⟨w.heap.size, 1, none⟩ = some (.int .i64 x.2.1) ∧ V.cell? ⟨w.heap.size, 2, none⟩ = some (.int .i64 x.2.2.1) ∧ V.cell? ⟨w.heap.size, 3, none⟩ = some (.int .i64 x.2.2.2.1) ∧ V.cell? ⟨w.heap.size, 4, none⟩ = some (.int .i64 x.2.2.2.2) ∧ V.cell? ⟨w.heap.size + 1, 0, none⟩ = some (.string s) ∧ V.cell? ⟨w.heap.size + 1, 1, none⟩ = some (.int .i64 q) ∧ V.cell? ⟨w.heap.size + 1, 2, none⟩ = some (.int .i64 d)) (by kernel_rfl) ⟨x0, x1, x2, x3, x4, y0, y1, y2⟩ ?_
  intro hHeld
  clear x0 x1 x2 x3 x4 y0 y1 y2 HI
  generalize World.drew _ = wd at HID HBD hHeld ⊢
  (refine takeH (i := 0) (v := ?_) rfl (by kernel_rfl) (by kernel_rfl) (by kernel_rfl) (fun _ _ _ h => h) (Or.inl ⟨by rfl, ?_⟩) (by assumption) ?_; rotate_left; (focus ((intro wS hSw); (try dsimp only at hSw); obtain ⟨s0, s1, s2, s3, s4, s5, s6, s7⟩ := hSw; go_simp; (try with_reducible rfl); done)); (try simp only [Act.put, List.setIfInBounds_toArray, List.set_cons_zero, List.set_cons_succ]))
  (refine takeH (i := 1) (v := ?_) rfl (by kernel_rfl) (by kernel_rfl) (by kernel_rfl) (fun _ _ _ h => h) (Or.inl ⟨by rfl, ?_⟩) (by assumption) ?_; rotate_left; (focus ((intro wS hSw); (try dsimp only at hSw); obtain ⟨s0, s1, s2, s3, s4, s5, s6, s7⟩ := hSw; go_simp; (try with_reducible rfl); done)); (try simp only [Act.put, List.setIfInBounds_toArray, List.set_cons_zero, List.set_cons_succ]))
  (refine takeH (i := 2) (v := ?_) rfl (by kernel_rfl) (by kernel_rfl) (by kernel_rfl) (fun _ _ _ h => h) (Or.inl ⟨by rfl, ?_⟩) (by assumption) ?_; rotate_left; (focus ((intro wS hSw); (try dsimp only at hSw); obtain ⟨s0, s1, s2, s3, s4, s5, s6, s7⟩ := hSw; go_simp; (try with_reducible rfl); done)); (try simp only [Act.put, List.setIfInBounds_toArray, List.set_cons_zero, List.set_cons_succ]))
  (refine takeH (i := 3) (v := ?_) rfl (by kernel_rfl) (by kernel_rfl) (by kernel_rfl) (fun _ _ _ h => h) (Or.inl ⟨by rfl, ?_⟩) (by assumption) ?_; rotate_left; (focus ((intro wS hSw); (try dsimp only at hSw); obtain ⟨s0, s1, s2, s3, s4, s5, s6, s7⟩ := hSw; go_simp; (try with_reducible rfl); done)); (try simp only [Act.put, List.setIfInBounds_toArray, List.set_cons_zero, List.set_cons_succ]))
  (refine takeH (i := 4) (v := ?_) rfl (by kernel_rfl) (by kernel_rfl) (by kernel_rfl) (fun _ _ _ h => h) (Or.inl ⟨by rfl, ?_⟩) (by assumption) ?_; rotate_left; (focus ((intro wS hSw); (try dsimp only at hSw); obtain ⟨s0, s1, s2, s3, s4, s5, s6, s7⟩ := hSw; go_simp; (try with_reducible rfl); done)); (try simp only [Act.put, List.setIfInBounds_toArray, List.set_cons_zero, List.set_cons_succ]))
  (refine takeH (i := 5) (v := (.slice A L.length L.length)) rfl (by kernel_rfl) (by kernel_rfl) (by kernel_rfl) (fun _ _ _ h => h) (Or.inl ⟨by rfl, by (intro wS hSw); clear hSw; clear hHeld; (cases A with | none => (obtain rfl := HAn.out rfl; go_simp; done) | some y => (go_simp; done))⟩) (by assumption) ?_; (try simp only [Act.put, List.setIfInBounds_toArray, List.set_cons_zero, List.set_cons_succ]))
  (refine takeH (i := 6) (v := ?_) rfl (by kernel_rfl) (by kernel_rfl) (by kernel_rfl) (fun _ _ _ h => h) (Or.inl ⟨by rfl, ?_⟩) (by assumption) ?_; rotate_left; (focus ((intro wS hSw); (try dsimp only at hSw); obtain ⟨s0, s1, s2, s3, s4, s5, s6, s7⟩ := hSw; go_simp; (try with_reducible rfl); done)); (try simp only [Act.put, List.setIfInBounds_toArray, List.set_cons_zero, List.set_cons_succ]))
  (refine takeH (i := 9) (v := ?_) rfl (by kernel_rfl) (by kernel_rfl) (by kernel_rfl) (fun _ _ _ h => h) (Or.inl ⟨by rfl, ?_⟩) (by assumption) ?_; rotate_left; (focus ((intro wS hSw); (try dsimp only at hSw); obtain ⟨s0, s1, s2, s3, s4, s5, s6, s7⟩ := hSw; go_simp; (try with_reducible rfl); done)); (try simp only [Act.put, List.setIfInBounds_toArray, List.set_cons_zero, List.set_cons_succ]))
  refine aloneH (i := 7) rfl (by kernel_rfl) (fun K hK => ?_)
  rw [if_pos (by rfl)]
  go_simp
  have HX1 := Lib.hid (heap_alloc_new wd (.cells #[.string x.1, .int .i64 x.2.1, .int .i64 x.2.2.1, .int .i64 x.2.2.2.1, .int .i64 x.2.2.2.2] 56))
  have HB1 := Lib.hid (below_alloc wd (.cells #[.string x.1, .int .i64 x.2.1, .int .i64 x.2.2.1, .int .i64 x.2.2.2.1, .int .i64 x.2.2.2.2] 56))
  generalize hx : World.alloc wd (.cells #[.string x.1, .int .i64 x.2.1, .int .i64 x.2.2.1, .int .i64 x.2.2.2.1, .int .i64 x.2.2.2.2] 56) = w1 at HX1 HB1 ⊢
  clear hx
  refine hK.out _ _ (⟨cell_on HB1.out hHeld.1, cell_on HB1.out hHeld.2.1, cell_on HB1.out hHeld.2.2.1, cell_on HB1.out hHeld.2.2.2.1, cell_on HB1.out hHeld.2.2.2.2.1, cell_on HB1.out hHeld.2.2.2.2.2.1, cell_on HB1.out hHeld.2.2.2.2.2.2.1, cell_on HB1.out hHeld.2.2.2.2.2.2.2⟩) (fun hNew => ?_)
  clear hK K hHeld; (have hHeld := hNew); clear hNew; (try simp only [Act.put, List.setIfInBounds_toArray, List.set_cons_zero, List.set_cons_succ])
  refine aloneH (i := 8) rfl (by kernel_rfl) (fun K hK => ?_)
  rw [if_pos (by rfl)]
  refine wp_append_full w1 (.tmp 19) (.tmp 21) rfl rfl A L rfl (HR.out.on (below_then HBD.out HB1.out)) HAn.out ⟨wd.heap.size, 0, none⟩ 1 1 [x] rfl rfl (box_rt HX1.out) (by simp) (by have := HLn.out.1; simp; omega) ?_
  intro A2 c2 w2 hrow hb
  have HR2 := Lib.hid hrow
  have HB2 := Lib.hid hb
  clear hrow hb
  refine hK.out _ _ (⟨cell_on HB2.out hHeld.1, cell_on HB2.out hHeld.2.1, cell_on HB2.out hHeld.2.2.1, cell_on HB2.out hHeld.2.2.2.1, cell_on HB2.out hHeld.2.2.2.2.1, cell_on HB2.out hHeld.2.2.2.2.2.1, cell_on HB2.out hHeld.2.2.2.2.2.2.1, cell_on HB2.out hHeld.2.2.2.2.2.2.2⟩) (fun hNew => ?_)
  clear hK K hHeld; (have hHeld := hNew); clear hNew; (try simp only [Act.put, List.setIfInBounds_toArray, List.set_cons_zero, List.set_cons_succ])
  refine aloneH (i := 10) rfl (by kernel_rfl) (fun K hK => ?_)
  rw [if_pos (by rfl)]
  go_simp; ((refine (light_walk_n A2 c2 (L ++ [x]) (L.length + 1) (by simp) s q d w2 HR2.out (by have := HLn.out.1; simp; omega) _ HV.out).mono ?_); (rintro e w3 ⟨rfl, hb⟩); have HB3 := Lib.hid hb; clear hb; (try go_simp))
  refine hK.out _ _ (⟨cell_on HB3.out hHeld.1, cell_on HB3.out hHeld.2.1, cell_on HB3.out hHeld.2.2.1, cell_on HB3.out hHeld.2.2.2.1, cell_on HB3.out hHeld.2.2.2.2.1, cell_on HB3.out hHeld.2.2.2.2.2.1, cell_on HB3.out hHeld.2.2.2.2.2.2.1, cell_on HB3.out hHeld.2.2.2.2.2.2.2⟩) (fun hNew => ?_)
  clear hK K hHeld; (have hHeld := hNew); clear hNew; (try simp only [Act.put, List.setIfInBounds_toArray, List.set_cons_zero, List.set_cons_succ])
  (refine takeH (i := 11) (v := ?_) rfl (by kernel_rfl) (by kernel_rfl) (by kernel_rfl) (fun _ _ _ h => h) (Or.inl ⟨by rfl, ?_⟩) (by assumption) ?_; rotate_left; (focus ((intro wS hSw); (try dsimp only at hSw); obtain ⟨s0, s1, s2, s3, s4, s5, s6, s7⟩ := hSw; go_simp; (try with_reducible rfl); done)); (try simp only [Act.put, List.setIfInBounds_toArray, List.set_cons_zero, List.set_cons_succ]))
  (refine takeH (i := 12) (v := ?_) rfl (by kernel_rfl) (by kernel_rfl) (by kernel_rfl) (fun _ _ _ h => h) (Or.inl ⟨by rfl, ?_⟩) (by assumption) ?_; rotate_left; (focus ((intro wS hSw); (try dsimp only at hSw); obtain ⟨s0, s1, s2, s3, s4, s5, s6, s7⟩ := hSw; go_simp; (try with_reducible rfl); done)); (try simp only [Act.put, List.setIfInBounds_toArray, List.set_cons_zero, List.set_cons_succ]))
  (refine takeH (i := 13) (v := undef) rfl (by kernel_rfl) (by kernel_rfl) (by kernel_rfl) (fun _ _ _ h => h) (Or.inr ⟨by rfl, rfl⟩) (by assumption) ?_; (try simp only [Act.put, List.setIfInBounds_toArray, List.set_cons_zero, List.set_cons_succ]))
  (refine takeH (i := 14) (v := undef) rfl (by kernel_rfl) (by kernel_rfl) (by kernel_rfl) (fun _ _ _ h => h) (Or.inr ⟨by rfl, rfl⟩) (by assumption) ?_; (try simp only [Act.put, List.setIfInBounds_toArray, List.set_cons_zero, List.set_cons_succ]))
  (refine takeH (i := 15) (v := undef) rfl (by kernel_rfl) (by kernel_rfl) (by kernel_rfl) (fun _ _ _ h => h) (Or.inr ⟨by rfl, rfl⟩) (by assumption) ?_; (try simp only [Act.put, List.setIfInBounds_toArray, List.set_cons_zero, List.set_cons_succ]))
  (refine takeH (i := 16) (v := undef) rfl (by kernel_rfl) (by kernel_rfl) (by kernel_rfl) (fun _ _ _ h => h) (Or.inr ⟨by rfl, rfl⟩) (by assumption) ?_; (try simp only [Act.put, List.setIfInBounds_toArray, List.set_cons_zero, List.set_cons_succ]))
  (refine takeH (i := 17) (v := undef) rfl (by kernel_rfl) (by kernel_rfl) (by kernel_rfl) (fun _ _ _ h => h) (Or.inr ⟨by rfl, rfl⟩) (by assumption) ?_; (try simp only [Act.put, List.setIfInBounds_toArray, List.set_cons_zero, List.set_cons_succ]))
  (refine takeH (i := 18) (v := undef) rfl (by kernel_rfl) (by kernel_rfl) (by kernel_rfl) (fun _ _ _ h => h) (Or.inr ⟨by rfl, rfl⟩) (by assumption) ?_; (try simp only [Act.put, List.setIfInBounds_toArray, List.set_cons_zero, List.set_cons_succ]))
  (refine takeH (i := 19) (v := undef) rfl (by kernel_rfl) (by kernel_rfl) (by kernel_rfl) (fun _ _ _ h => h) (Or.inr ⟨by rfl, rfl⟩) (by assumption) ?_; (try simp only [Act.put, List.setIfInBounds_toArray, List.set_cons_zero, List.set_cons_succ]))
  (refine takeH (i := 20) (v := undef) rfl (by kernel_rfl) (by kernel_rfl) (by kernel_rfl) (fun _ _ _ h => h) (Or.inr ⟨by rfl, rfl⟩) (by assumption) ?_; (try simp only [Act.put, List.setIfInBounds_toArray, List.set_cons_zero, List.set_cons_succ]))
  (refine takeH (i := 21) (v := undef) rfl (by kernel_rfl) (by kernel_rfl) (by kernel_rfl) (fun _ _ _ h => h) (Or.inr ⟨by rfl, rfl⟩) (by assumption) ?_; (try simp only [Act.put, List.setIfInBounds_toArray, List.set_cons_zero, List.set_cons_succ]))
  (refine takeH (i := 22) (v := undef) rfl (by kernel_rfl) (by kernel_rfl) (by kernel_rfl) (fun _ _ _ h => h) (Or.inr ⟨by rfl, rfl⟩) (by assumption) ?_; (try simp only [Act.put, List.setIfInBounds_toArray, List.set_cons_zero, List.set_cons_succ]))
  (refine takeH (i := 23) (v := undef) rfl (by kernel_rfl) (by kernel_rfl) (by kernel_rfl) (fun _ _ _ h => h) (Or.inr ⟨by rfl, rfl⟩) (by assumption) ?_; (try simp only [Act.put, List.setIfInBounds_toArray, List.set_cons_zero, List.set_cons_succ]))
  (refine takeH (i := 24) (v := undef) rfl (by kernel_rfl) (by kernel_rfl) (by kernel_rfl) (fun _ _ _ h => h) (Or.inr ⟨by rfl, rfl⟩) (by assumption) ?_; (try simp only [Act.put, List.setIfInBounds_toArray, List.set_cons_zero, List.set_cons_succ]))
  (refine takeH (i := 25) (v := ?_) rfl (by kernel_rfl) (by kernel_rfl) (by kernel_rfl) (fun _ _ _ h => h) (Or.inl ⟨by rfl, ?_⟩) (by assumption) ?_; rotate_left; (focus ((intro wS hSw); (try dsimp only at hSw); obtain ⟨s0, s1, s2, s3, s4, s5, s6, s7⟩ := hSw; go_simp; (try with_reducible rfl); done)); (try simp only [Act.put, List.setIfInBounds_toArray, List.set_cons_zero, List.set_cons_succ]))
  refine wpAnyH_done (by kernel_rfl) ?_ _
  clear hHeld
  have HBF := Lib.hid (below_then HBD.out (below_then (below_then HB1.out HB2.out) HB3.out))
  go_wp2_with (go_at_call 23; refine (rt_lives _ (HM.out.below HBF.out (Nat.le_refl _))).mono ?_; rintro e w9 ⟨rfl, hb⟩; have HZ := Lib.hid (below_then HBF.out hb); clear hb; refine Stop.out ?_)
  unfold Stop
  go_wp2
  go_ret
  exact ⟨rfl, HZ.out⟩
set_option maxHeartbeats 2000000 in
theorem apart_same (A : Option Addr) (c : Nat) (L : List Rt) (x : Rt) (s : ByteArray) (q d : Int) (w : World) (hr : RowR w A L) (hA : A = none → L = []) (hlc : L.length ≤ c) (hln : L.length * 48 ≤ 140737488351232) (hM : MaxL w)
    (hsz : (∀ y ∈ L, y.1.size ≤ 9223372036854775807) ∧ x.1.size ≤ 9223372036854775807 ∧ s.size ≤ 9223372036854775807) (V : Bool) (hV : lightB (L ++ [x]) s = V) (hV0 : V = true) (hst : s = x.1) (hqt : q = x.2.1) :
    Calls Try.prog 7 #[.slice A L.length c, .agg #[.string x.1, .int .i64 x.2.1, .int .i64 x.2.2.1, .int .i64 x.2.2.2.1, .int .i64 x.2.2.2.2], .agg #[.string s, .int .i64 q, .int .i64 d]] w fun e w' => e = .returned (.bool true) ∧ Below w.heap.size w w' := by
  have hlc' : (L.length : Int) ≤ (c : Int) := by omega
  subst hV0
  have HSe := Lib.hid hst
  have HQe := Lib.hid hqt
  clear hst hqt
  have HR := Lib.hid hr
  have HAn := Lib.hid hA
  have HLn := Lib.hid (And.intro hln hsz)
  have HM := Lib.hid hM
  have HI := Lib.hid (bxA w x s q d)
  have HV := Lib.hid hV
  clear hr hA hln hM hV hsz
  go_enter Try.func7, Try.ntmps7
  go_wp2
  have HID := Lib.hid (HI.out.on (below_drew _))
  have HBD := Lib.hid (below_then HI.out.2.2 (below_drew _))
  obtain ⟨x0, x1, x2, x3, x4⟩ := row5 HI.out.1
  obtain ⟨y0, y1, y2⟩ := row3v HI.out.2.1
  refine wp_region_held_drew (S := fun V => V.cell? ⟨w.heap.size, 0, none⟩ = some (.string x.1) ∧ V.cell? ⟨w.heap.size, 1, none⟩ = some (.int .i64 x.2.1) ∧ V.cell? ⟨w.heap.size, 2, none⟩ = some (.int .i64 x.2.2.1) ∧ V.cell? ⟨w.heap.size, 3, none⟩ = some (.int .i64 x.2.2.2.1) ∧ V.cell? ⟨w.heap.size, 4, none⟩ = some (.int .i64 x.2.2.2.2) ∧ V.cell? ⟨w.heap.size + 1, 0, none⟩ = some (.string s) ∧ V.cell? ⟨w.heap.size + 1, 1, none⟩ = some (.int .i64 q) ∧ V.cell? ⟨w.heap.size + 1, 2, none⟩ = some (.int .i64 d)) (by kernel_rfl) ⟨x0, x1, x2, x3, x4, y0, y1, y2⟩ ?_
  intro hHeld
  clear x0 x1 x2 x3 x4 y0 y1 y2 HI
  generalize World.drew _ = wd at HID HBD hHeld ⊢
  (refine takeH (i := 0) (v := ?_) rfl (by kernel_rfl) (by kernel_rfl) (by kernel_rfl) (fun _ _ _ h => h) (Or.inl ⟨by rfl, ?_⟩) (by assumption) ?_; rotate_left; (focus ((intro wS hSw); (try dsimp only at hSw); obtain ⟨s0, s1, s2, s3, s4, s5, s6, s7⟩ := hSw; go_simp; (try with_reducible rfl); done)); (try simp only [Act.put, List.setIfInBounds_toArray, List.set_cons_zero, List.set_cons_succ]))
  (refine takeH (i := 1) (v := ?_) rfl (by kernel_rfl) (by kernel_rfl) (by kernel_rfl) (fun _ _ _ h => h) (Or.inl ⟨by rfl, ?_⟩) (by assumption) ?_; rotate_left; (focus ((intro wS hSw); (try dsimp only at hSw); obtain ⟨s0, s1, s2, s3, s4, s5, s6, s7⟩ := hSw; go_simp; (try with_reducible rfl); done)); (try simp only [Act.put, List.setIfInBounds_toArray, List.set_cons_zero, List.set_cons_succ]))
  (refine takeH (i := 2) (v := ?_) rfl (by kernel_rfl) (by kernel_rfl) (by kernel_rfl) (fun _ _ _ h => h) (Or.inl ⟨by rfl, ?_⟩) (by assumption) ?_; rotate_left; (focus ((intro wS hSw); (try dsimp only at hSw); obtain ⟨s0, s1, s2, s3, s4, s5, s6, s7⟩ := hSw; go_simp; (try with_reducible rfl); done)); (try simp only [Act.put, List.setIfInBounds_toArray, List.set_cons_zero, List.set_cons_succ]))
  (refine takeH (i := 3) (v := ?_) rfl (by kernel_rfl) (by kernel_rfl) (by kernel_rfl) (fun _ _ _ h => h) (Or.inl ⟨by rfl, ?_⟩) (by assumption) ?_; rotate_left; (focus ((intro wS hSw); (try dsimp only at hSw); obtain ⟨s0, s1, s2, s3, s4, s5, s6, s7⟩ := hSw; go_simp; (try with_reducible rfl); done)); (try simp only [Act.put, List.setIfInBounds_toArray, List.set_cons_zero, List.set_cons_succ]))
  (refine takeH (i := 4) (v := ?_) rfl (by kernel_rfl) (by kernel_rfl) (by kernel_rfl) (fun _ _ _ h => h) (Or.inl ⟨by rfl, ?_⟩) (by assumption) ?_; rotate_left; (focus ((intro wS hSw); (try dsimp only at hSw); obtain ⟨s0, s1, s2, s3, s4, s5, s6, s7⟩ := hSw; go_simp; (try with_reducible rfl); done)); (try simp only [Act.put, List.setIfInBounds_toArray, List.set_cons_zero, List.set_cons_succ]))
  (refine takeH (i := 5) (v := (.slice A L.length L.length)) rfl (by kernel_rfl) (by kernel_rfl) (by kernel_rfl) (fun _ _ _ h => h) (Or.inl ⟨by rfl, by (intro wS hSw); clear hSw; clear hHeld; (cases A with | none => (obtain rfl := HAn.out rfl; go_simp; done) | some y => (go_simp; done))⟩) (by assumption) ?_; (try simp only [Act.put, List.setIfInBounds_toArray, List.set_cons_zero, List.set_cons_succ]))
  (refine takeH (i := 6) (v := ?_) rfl (by kernel_rfl) (by kernel_rfl) (by kernel_rfl) (fun _ _ _ h => h) (Or.inl ⟨by rfl, ?_⟩) (by assumption) ?_; rotate_left; (focus ((intro wS hSw); (try dsimp only at hSw); obtain ⟨s0, s1, s2, s3, s4, s5, s6, s7⟩ := hSw; go_simp; (try with_reducible rfl); done)); (try simp only [Act.put, List.setIfInBounds_toArray, List.set_cons_zero, List.set_cons_succ]))
  (refine takeH (i := 9) (v := ?_) rfl (by kernel_rfl) (by kernel_rfl) (by kernel_rfl) (fun _ _ _ h => h) (Or.inl ⟨by rfl, ?_⟩) (by assumption) ?_; rotate_left; (focus ((intro wS hSw); (try dsimp only at hSw); obtain ⟨s0, s1, s2, s3, s4, s5, s6, s7⟩ := hSw; go_simp; (try with_reducible rfl); done)); (try simp only [Act.put, List.setIfInBounds_toArray, List.set_cons_zero, List.set_cons_succ]))
  refine aloneH (i := 7) rfl (by kernel_rfl) (fun K hK => ?_)
  rw [if_pos (by rfl)]
  go_simp
  have HX1 := Lib.hid (heap_alloc_new wd (.cells #[.string x.1, .int .i64 x.2.1, .int .i64 x.2.2.1, .int .i64 x.2.2.2.1, .int .i64 x.2.2.2.2] 56))
  have HB1 := Lib.hid (below_alloc wd (.cells #[.string x.1, .int .i64 x.2.1, .int .i64 x.2.2.1, .int .i64 x.2.2.2.1, .int .i64 x.2.2.2.2] 56))
  generalize hx : World.alloc wd (.cells #[.string x.1, .int .i64 x.2.1, .int .i64 x.2.2.1, .int .i64 x.2.2.2.1, .int .i64 x.2.2.2.2] 56) = w1 at HX1 HB1 ⊢
  clear hx
  refine hK.out _ _ (⟨cell_on HB1.out hHeld.1, cell_on HB1.out hHeld.2.1, cell_on HB1.out hHeld.2.2.1, cell_on HB1.out hHeld.2.2.2.1, cell_on HB1.out hHeld.2.2.2.2.1, cell_on HB1.out hHeld.2.2.2.2.2.1, cell_on HB1.out hHeld.2.2.2.2.2.2.1, cell_on HB1.out hHeld.2.2.2.2.2.2.2⟩) (fun hNew => ?_)
  clear hK K hHeld; (have hHeld := hNew); clear hNew; (try simp only [Act.put, List.setIfInBounds_toArray, List.set_cons_zero, List.set_cons_succ])
  refine aloneH (i := 8) rfl (by kernel_rfl) (fun K hK => ?_)
  rw [if_pos (by rfl)]
  refine wp_append_full w1 (.tmp 19) (.tmp 21) rfl rfl A L rfl (HR.out.on (below_then HBD.out HB1.out)) HAn.out ⟨wd.heap.size, 0, none⟩ 1 1 [x] rfl rfl (box_rt HX1.out) (by simp) (by have := HLn.out.1; simp; omega) ?_
  intro A2 c2 w2 hrow hb
  have HR2 := Lib.hid hrow
  have HB2 := Lib.hid hb
  clear hrow hb
  refine hK.out _ _ (⟨cell_on HB2.out hHeld.1, cell_on HB2.out hHeld.2.1, cell_on HB2.out hHeld.2.2.1, cell_on HB2.out hHeld.2.2.2.1, cell_on HB2.out hHeld.2.2.2.2.1, cell_on HB2.out hHeld.2.2.2.2.2.1, cell_on HB2.out hHeld.2.2.2.2.2.2.1, cell_on HB2.out hHeld.2.2.2.2.2.2.2⟩) (fun hNew => ?_)
  clear hK K hHeld; (have hHeld := hNew); clear hNew; (try simp only [Act.put, List.setIfInBounds_toArray, List.set_cons_zero, List.set_cons_succ])
  refine aloneH (i := 10) rfl (by kernel_rfl) (fun K hK => ?_)
  rw [if_pos (by rfl)]
  go_simp; ((refine (light_walk_n A2 c2 (L ++ [x]) (L.length + 1) (by simp) s q d w2 HR2.out (by have := HLn.out.1; simp; omega) _ HV.out).mono ?_); (rintro e w3 ⟨rfl, hb⟩); have HB3 := Lib.hid hb; clear hb; (try go_simp))
  refine hK.out _ _ (⟨cell_on HB3.out hHeld.1, cell_on HB3.out hHeld.2.1, cell_on HB3.out hHeld.2.2.1, cell_on HB3.out hHeld.2.2.2.1, cell_on HB3.out hHeld.2.2.2.2.1, cell_on HB3.out hHeld.2.2.2.2.2.1, cell_on HB3.out hHeld.2.2.2.2.2.2.1, cell_on HB3.out hHeld.2.2.2.2.2.2.2⟩) (fun hNew => ?_)
  clear hK K hHeld; (have hHeld := hNew); clear hNew; (try simp only [Act.put, List.setIfInBounds_toArray, List.set_cons_zero, List.set_cons_succ])
  (refine takeH (i := 11) (v := ?_) rfl (by kernel_rfl) (by kernel_rfl) (by kernel_rfl) (fun _ _ _ h => h) (Or.inl ⟨by rfl, ?_⟩) (by assumption) ?_; rotate_left; (focus ((intro wS hSw); (try dsimp only at hSw); obtain ⟨s0, s1, s2, s3, s4, s5, s6, s7⟩ := hSw; go_simp; (try with_reducible rfl); done)); (try simp only [Act.put, List.setIfInBounds_toArray, List.set_cons_zero, List.set_cons_succ]))
  (refine takeH (i := 12) (v := ?_) rfl (by kernel_rfl) (by kernel_rfl) (by kernel_rfl) (fun _ _ _ h => h) (Or.inl ⟨by rfl, ?_⟩) (by assumption) ?_; rotate_left; (focus ((intro wS hSw); (try dsimp only at hSw); obtain ⟨s0, s1, s2, s3, s4, s5, s6, s7⟩ := hSw; go_simp; (try with_reducible rfl); done)); (try simp only [Act.put, List.setIfInBounds_toArray, List.set_cons_zero, List.set_cons_succ]))
  (refine takeH (i := 13) (v := ?_) rfl (by kernel_rfl) (by kernel_rfl) (by kernel_rfl) (fun _ _ _ h => h) (Or.inl ⟨by rfl, ?_⟩) (by assumption) ?_; rotate_left; (focus ((intro wS hSw); (try dsimp only at hSw); obtain ⟨s0, s1, s2, s3, s4, s5, s6, s7⟩ := hSw; go_simp; (try with_reducible rfl); done)); (try simp only [Act.put, List.setIfInBounds_toArray, List.set_cons_zero, List.set_cons_succ]))
  (refine takeH (i := 14) (v := ?_) rfl (by kernel_rfl) (by kernel_rfl) (by kernel_rfl) (fun _ _ _ h => h) (Or.inl ⟨by rfl, ?_⟩) (by assumption) ?_; rotate_left; (focus ((intro wS hSw); (try dsimp only at hSw); obtain ⟨s0, s1, s2, s3, s4, s5, s6, s7⟩ := hSw; go_simp; (try with_reducible rfl); done)); (try simp only [Act.put, List.setIfInBounds_toArray, List.set_cons_zero, List.set_cons_succ]))
  (refine takeH (i := 15) (v := ?_) rfl (by kernel_rfl) (by kernel_rfl) (by kernel_rfl) (fun _ _ _ h => h) (Or.inl ⟨by rfl, ?_⟩) (by assumption) ?_; rotate_left; (focus ((intro wS hSw); (try dsimp only at hSw); obtain ⟨s0, s1, s2, s3, s4, s5, s6, s7⟩ := hSw; go_simp; (try with_reducible rfl); done)); (try simp only [Act.put, List.setIfInBounds_toArray, List.set_cons_zero, List.set_cons_succ]))
  (refine takeH (i := 16) (v := ?_) rfl (by kernel_rfl) (by kernel_rfl) (by kernel_rfl) (fun _ _ _ h => h) (Or.inl ⟨by rfl, ?_⟩) (by assumption) ?_; rotate_left; (focus ((intro wS hSw); (try dsimp only at hSw); obtain ⟨s0, s1, s2, s3, s4, s5, s6, s7⟩ := hSw; go_simp; (try with_reducible rfl); done)); (try simp only [Act.put, List.setIfInBounds_toArray, List.set_cons_zero, List.set_cons_succ]))
  (refine takeH (i := 17) (v := (.bool true)) rfl (by kernel_rfl) (by kernel_rfl) (by kernel_rfl) (fun _ _ _ h => h) (Or.inl ⟨by rfl, by (intro wS hSw); (try dsimp only at hSw); (obtain ⟨s0, s1, s2, s3, s4, s5, s6, s7⟩ := hSw); go_simp; (first | done | (rw [HSe.out]; done) | (simp [HSe.out]; done))⟩) (by assumption) ?_; (try simp only [Act.put, List.setIfInBounds_toArray, List.set_cons_zero, List.set_cons_succ]))
  (refine takeH (i := 18) (v := ?_) rfl (by kernel_rfl) (by kernel_rfl) (by kernel_rfl) (fun _ _ _ h => h) (Or.inl ⟨by rfl, ?_⟩) (by assumption) ?_; rotate_left; (focus ((intro wS hSw); (try dsimp only at hSw); obtain ⟨s0, s1, s2, s3, s4, s5, s6, s7⟩ := hSw; go_simp; (try with_reducible rfl); done)); (try simp only [Act.put, List.setIfInBounds_toArray, List.set_cons_zero, List.set_cons_succ]))
  (refine takeH (i := 19) (v := ?_) rfl (by kernel_rfl) (by kernel_rfl) (by kernel_rfl) (fun _ _ _ h => h) (Or.inl ⟨by rfl, ?_⟩) (by assumption) ?_; rotate_left; (focus ((intro wS hSw); (try dsimp only at hSw); obtain ⟨s0, s1, s2, s3, s4, s5, s6, s7⟩ := hSw; go_simp; (try with_reducible rfl); done)); (try simp only [Act.put, List.setIfInBounds_toArray, List.set_cons_zero, List.set_cons_succ]))
  (refine takeH (i := 20) (v := ?_) rfl (by kernel_rfl) (by kernel_rfl) (by kernel_rfl) (fun _ _ _ h => h) (Or.inl ⟨by rfl, ?_⟩) (by assumption) ?_; rotate_left; (focus ((intro wS hSw); (try dsimp only at hSw); obtain ⟨s0, s1, s2, s3, s4, s5, s6, s7⟩ := hSw; go_simp; (try with_reducible rfl); done)); (try simp only [Act.put, List.setIfInBounds_toArray, List.set_cons_zero, List.set_cons_succ]))
  (refine takeH (i := 21) (v := ?_) rfl (by kernel_rfl) (by kernel_rfl) (by kernel_rfl) (fun _ _ _ h => h) (Or.inl ⟨by rfl, ?_⟩) (by assumption) ?_; rotate_left; (focus ((intro wS hSw); (try dsimp only at hSw); obtain ⟨s0, s1, s2, s3, s4, s5, s6, s7⟩ := hSw; go_simp; (try with_reducible rfl); done)); (try simp only [Act.put, List.setIfInBounds_toArray, List.set_cons_zero, List.set_cons_succ]))
  (refine takeH (i := 22) (v := ?_) rfl (by kernel_rfl) (by kernel_rfl) (by kernel_rfl) (fun _ _ _ h => h) (Or.inl ⟨by rfl, ?_⟩) (by assumption) ?_; rotate_left; (focus ((intro wS hSw); (try dsimp only at hSw); obtain ⟨s0, s1, s2, s3, s4, s5, s6, s7⟩ := hSw; go_simp; (try with_reducible rfl); done)); (try simp only [Act.put, List.setIfInBounds_toArray, List.set_cons_zero, List.set_cons_succ]))
  (refine takeH (i := 23) (v := (.bool true)) rfl (by kernel_rfl) (by kernel_rfl) (by kernel_rfl) (fun _ _ _ h => h) (Or.inl ⟨by rfl, by (intro wS hSw); (try dsimp only at hSw); (obtain ⟨s0, s1, s2, s3, s4, s5, s6, s7⟩ := hSw); go_simp; (first | done | exact HQe.out.symm | (simp [HQe.out]; done))⟩) (by assumption) ?_; (try simp only [Act.put, List.setIfInBounds_toArray, List.set_cons_zero, List.set_cons_succ]))
  (refine takeH (i := 24) (v := ?_) rfl (by kernel_rfl) (by kernel_rfl) (by kernel_rfl) (fun _ _ _ h => h) (Or.inl ⟨by rfl, ?_⟩) (by assumption) ?_; rotate_left; (focus ((intro wS hSw); (try dsimp only at hSw); obtain ⟨s0, s1, s2, s3, s4, s5, s6, s7⟩ := hSw; go_simp; (try with_reducible rfl); done)); (try simp only [Act.put, List.setIfInBounds_toArray, List.set_cons_zero, List.set_cons_succ]))
  (refine takeH (i := 25) (v := ?_) rfl (by kernel_rfl) (by kernel_rfl) (by kernel_rfl) (fun _ _ _ h => h) (Or.inl ⟨by rfl, ?_⟩) (by assumption) ?_; rotate_left; (focus ((intro wS hSw); (try dsimp only at hSw); obtain ⟨s0, s1, s2, s3, s4, s5, s6, s7⟩ := hSw; go_simp; (try with_reducible rfl); done)); (try simp only [Act.put, List.setIfInBounds_toArray, List.set_cons_zero, List.set_cons_succ]))
  refine wpAnyH_done (by kernel_rfl) ?_ _
  clear hHeld
  have HBF := Lib.hid (below_then HBD.out (below_then (below_then HB1.out HB2.out) HB3.out))
  go_wp2_with (go_at_call 23; refine (rt_lives _ (HM.out.below HBF.out (Nat.le_refl _))).mono ?_; rintro e w9 ⟨rfl, hb⟩; have HZ := Lib.hid (below_then HBF.out hb); clear hb; refine Stop.out ?_)
  unfold Stop
  go_wp2
  go_ret
  exact ⟨rfl, HZ.out⟩
set_option maxHeartbeats 2000000 in
theorem apart_main (A : Option Addr) (c : Nat) (L : List Rt) (x : Rt) (s : ByteArray) (q d : Int) (w : World) (hr : RowR w A L) (hA : A = none → L = []) (hlc : L.length ≤ c) (hln : L.length * 48 ≤ 140737488351232) (hM : MaxL w)
    (hsz : (∀ y ∈ L, y.1.size ≤ 9223372036854775807) ∧ x.1.size ≤ 9223372036854775807 ∧ s.size ≤ 9223372036854775807) (V : Bool) (hV : lightB (L ++ [x]) s = V) (hV0 : V = true) (hst : ¬ x.1 = s) :
    Calls Try.prog 7 #[.slice A L.length c, .agg #[.string x.1, .int .i64 x.2.1, .int .i64 x.2.2.1, .int .i64 x.2.2.2.1, .int .i64 x.2.2.2.2], .agg #[.string s, .int .i64 q, .int .i64 d]] w fun e w' => e = .returned (.bool true) ∧ Below w.heap.size w w' := by
  have hlc' : (L.length : Int) ≤ (c : Int) := by omega
  subst hV0
  have HSt := Lib.hid hst
  have HNe : Hid (¬ (s = x.1 ∧ q = x.2.1)) := Lib.hid (fun h => hst h.1.symm)
  clear hst
  have HR := Lib.hid hr
  have HAn := Lib.hid hA
  have HLn := Lib.hid (And.intro hln hsz)
  have HM := Lib.hid hM
  have HI := Lib.hid (bxA w x s q d)
  have HV := Lib.hid hV
  clear hr hA hln hM hV hsz
  go_enter Try.func7, Try.ntmps7
  go_wp2
  have HID := Lib.hid (HI.out.on (below_drew _))
  have HBD := Lib.hid (below_then HI.out.2.2 (below_drew _))
  obtain ⟨x0, x1, x2, x3, x4⟩ := row5 HI.out.1
  obtain ⟨y0, y1, y2⟩ := row3v HI.out.2.1
  refine wp_region_held_drew (S := fun V => V.cell? ⟨w.heap.size, 0, none⟩ = some (.string x.1) ∧ V.cell? ⟨w.heap.size, 1, none⟩ = some (.int .i64 x.2.1) ∧ V.cell? ⟨w.heap.size, 2, none⟩ = some (.int .i64 x.2.2.1) ∧ V.cell? ⟨w.heap.size, 3, none⟩ = some (.int .i64 x.2.2.2.1) ∧ V.cell? ⟨w.heap.size, 4, none⟩ = some (.int .i64 x.2.2.2.2) ∧ V.cell? ⟨w.heap.size + 1, 0, none⟩ = some (.string s) ∧ V.cell? ⟨w.heap.size + 1, 1, none⟩ = some (.int .i64 q) ∧ V.cell? ⟨w.heap.size + 1, 2, none⟩ = some (.int .i64 d)) (by kernel_rfl) ⟨x0, x1, x2, x3, x4, y0, y1, y2⟩ ?_
  intro hHeld
  clear x0 x1 x2 x3 x4 y0 y1 y2 HI
  generalize World.drew _ = wd at HID HBD hHeld ⊢
  (refine takeH (i := 0) (v := ?_) rfl (by kernel_rfl) (by kernel_rfl) (by kernel_rfl) (fun _ _ _ h => h) (Or.inl ⟨by rfl, ?_⟩) (by assumption) ?_; rotate_left; (focus ((intro wS hSw); (try dsimp only at hSw); obtain ⟨s0, s1, s2, s3, s4, s5, s6, s7⟩ := hSw; go_simp; (try with_reducible rfl); done)); (try simp only [Act.put, List.setIfInBounds_toArray, List.set_cons_zero, List.set_cons_succ]))
  (refine takeH (i := 1) (v := ?_) rfl (by kernel_rfl) (by kernel_rfl) (by kernel_rfl) (fun _ _ _ h => h) (Or.inl ⟨by rfl, ?_⟩) (by assumption) ?_; rotate_left; (focus ((intro wS hSw); (try dsimp only at hSw); obtain ⟨s0, s1, s2, s3, s4, s5, s6, s7⟩ := hSw; go_simp; (try with_reducible rfl); done)); (try simp only [Act.put, List.setIfInBounds_toArray, List.set_cons_zero, List.set_cons_succ]))
  (refine takeH (i := 2) (v := ?_) rfl (by kernel_rfl) (by kernel_rfl) (by kernel_rfl) (fun _ _ _ h => h) (Or.inl ⟨by rfl, ?_⟩) (by assumption) ?_; rotate_left; (focus ((intro wS hSw); (try dsimp only at hSw); obtain ⟨s0, s1, s2, s3, s4, s5, s6, s7⟩ := hSw; go_simp; (try with_reducible rfl); done)); (try simp only [Act.put, List.setIfInBounds_toArray, List.set_cons_zero, List.set_cons_succ]))
  (refine takeH (i := 3) (v := ?_) rfl (by kernel_rfl) (by kernel_rfl) (by kernel_rfl) (fun _ _ _ h => h) (Or.inl ⟨by rfl, ?_⟩) (by assumption) ?_; rotate_left; (focus ((intro wS hSw); (try dsimp only at hSw); obtain ⟨s0, s1, s2, s3, s4, s5, s6, s7⟩ := hSw; go_simp; (try with_reducible rfl); done)); (try simp only [Act.put, List.setIfInBounds_toArray, List.set_cons_zero, List.set_cons_succ]))
  (refine takeH (i := 4) (v := ?_) rfl (by kernel_rfl) (by kernel_rfl) (by kernel_rfl) (fun _ _ _ h => h) (Or.inl ⟨by rfl, ?_⟩) (by assumption) ?_; rotate_left; (focus ((intro wS hSw); (try dsimp only at hSw); obtain ⟨s0, s1, s2, s3, s4, s5, s6, s7⟩ := hSw; go_simp; (try with_reducible rfl); done)); (try simp only [Act.put, List.setIfInBounds_toArray, List.set_cons_zero, List.set_cons_succ]))
  (refine takeH (i := 5) (v := (.slice A L.length L.length)) rfl (by kernel_rfl) (by kernel_rfl) (by kernel_rfl) (fun _ _ _ h => h) (Or.inl ⟨by rfl, by (intro wS hSw); clear hSw; clear hHeld; (cases A with | none => (obtain rfl := HAn.out rfl; go_simp; done) | some y => (go_simp; done))⟩) (by assumption) ?_; (try simp only [Act.put, List.setIfInBounds_toArray, List.set_cons_zero, List.set_cons_succ]))
  (refine takeH (i := 6) (v := ?_) rfl (by kernel_rfl) (by kernel_rfl) (by kernel_rfl) (fun _ _ _ h => h) (Or.inl ⟨by rfl, ?_⟩) (by assumption) ?_; rotate_left; (focus ((intro wS hSw); (try dsimp only at hSw); obtain ⟨s0, s1, s2, s3, s4, s5, s6, s7⟩ := hSw; go_simp; (try with_reducible rfl); done)); (try simp only [Act.put, List.setIfInBounds_toArray, List.set_cons_zero, List.set_cons_succ]))
  (refine takeH (i := 9) (v := ?_) rfl (by kernel_rfl) (by kernel_rfl) (by kernel_rfl) (fun _ _ _ h => h) (Or.inl ⟨by rfl, ?_⟩) (by assumption) ?_; rotate_left; (focus ((intro wS hSw); (try dsimp only at hSw); obtain ⟨s0, s1, s2, s3, s4, s5, s6, s7⟩ := hSw; go_simp; (try with_reducible rfl); done)); (try simp only [Act.put, List.setIfInBounds_toArray, List.set_cons_zero, List.set_cons_succ]))
  refine aloneH (i := 7) rfl (by kernel_rfl) (fun K hK => ?_)
  rw [if_pos (by rfl)]
  go_simp
  have HX1 := Lib.hid (heap_alloc_new wd (.cells #[.string x.1, .int .i64 x.2.1, .int .i64 x.2.2.1, .int .i64 x.2.2.2.1, .int .i64 x.2.2.2.2] 56))
  have HB1 := Lib.hid (below_alloc wd (.cells #[.string x.1, .int .i64 x.2.1, .int .i64 x.2.2.1, .int .i64 x.2.2.2.1, .int .i64 x.2.2.2.2] 56))
  generalize hx : World.alloc wd (.cells #[.string x.1, .int .i64 x.2.1, .int .i64 x.2.2.1, .int .i64 x.2.2.2.1, .int .i64 x.2.2.2.2] 56) = w1 at HX1 HB1 ⊢
  clear hx
  refine hK.out _ _ (⟨cell_on HB1.out hHeld.1, cell_on HB1.out hHeld.2.1, cell_on HB1.out hHeld.2.2.1, cell_on HB1.out hHeld.2.2.2.1, cell_on HB1.out hHeld.2.2.2.2.1, cell_on HB1.out hHeld.2.2.2.2.2.1, cell_on HB1.out hHeld.2.2.2.2.2.2.1, cell_on HB1.out hHeld.2.2.2.2.2.2.2⟩) (fun hNew => ?_)
  clear hK K hHeld; (have hHeld := hNew); clear hNew; (try simp only [Act.put, List.setIfInBounds_toArray, List.set_cons_zero, List.set_cons_succ])
  refine aloneH (i := 8) rfl (by kernel_rfl) (fun K hK => ?_)
  rw [if_pos (by rfl)]
  refine wp_append_full w1 (.tmp 19) (.tmp 21) rfl rfl A L rfl (HR.out.on (below_then HBD.out HB1.out)) HAn.out ⟨wd.heap.size, 0, none⟩ 1 1 [x] rfl rfl (box_rt HX1.out) (by simp) (by have := HLn.out.1; simp; omega) ?_
  intro A2 c2 w2 hrow hb
  have HR2 := Lib.hid hrow
  have HB2 := Lib.hid hb
  clear hrow hb
  refine hK.out _ _ (⟨cell_on HB2.out hHeld.1, cell_on HB2.out hHeld.2.1, cell_on HB2.out hHeld.2.2.1, cell_on HB2.out hHeld.2.2.2.1, cell_on HB2.out hHeld.2.2.2.2.1, cell_on HB2.out hHeld.2.2.2.2.2.1, cell_on HB2.out hHeld.2.2.2.2.2.2.1, cell_on HB2.out hHeld.2.2.2.2.2.2.2⟩) (fun hNew => ?_)
  clear hK K hHeld; (have hHeld := hNew); clear hNew; (try simp only [Act.put, List.setIfInBounds_toArray, List.set_cons_zero, List.set_cons_succ])
  refine aloneH (i := 10) rfl (by kernel_rfl) (fun K hK => ?_)
  rw [if_pos (by rfl)]
  go_simp; ((refine (light_walk_n A2 c2 (L ++ [x]) (L.length + 1) (by simp) s q d w2 HR2.out (by have := HLn.out.1; simp; omega) _ HV.out).mono ?_); (rintro e w3 ⟨rfl, hb⟩); have HB3 := Lib.hid hb; clear hb; (try go_simp))
  refine hK.out _ _ (⟨cell_on HB3.out hHeld.1, cell_on HB3.out hHeld.2.1, cell_on HB3.out hHeld.2.2.1, cell_on HB3.out hHeld.2.2.2.1, cell_on HB3.out hHeld.2.2.2.2.1, cell_on HB3.out hHeld.2.2.2.2.2.1, cell_on HB3.out hHeld.2.2.2.2.2.2.1, cell_on HB3.out hHeld.2.2.2.2.2.2.2⟩) (fun hNew => ?_)
  clear hK K hHeld; (have hHeld := hNew); clear hNew; (try simp only [Act.put, List.setIfInBounds_toArray, List.set_cons_zero, List.set_cons_succ])
  (refine takeH (i := 11) (v := ?_) rfl (by kernel_rfl) (by kernel_rfl) (by kernel_rfl) (fun _ _ _ h => h) (Or.inl ⟨by rfl, ?_⟩) (by assumption) ?_; rotate_left; (focus ((intro wS hSw); (try dsimp only at hSw); obtain ⟨s0, s1, s2, s3, s4, s5, s6, s7⟩ := hSw; go_simp; (try with_reducible rfl); done)); (try simp only [Act.put, List.setIfInBounds_toArray, List.set_cons_zero, List.set_cons_succ]))
  (refine takeH (i := 12) (v := ?_) rfl (by kernel_rfl) (by kernel_rfl) (by kernel_rfl) (fun _ _ _ h => h) (Or.inl ⟨by rfl, ?_⟩) (by assumption) ?_; rotate_left; (focus ((intro wS hSw); (try dsimp only at hSw); obtain ⟨s0, s1, s2, s3, s4, s5, s6, s7⟩ := hSw; go_simp; (try with_reducible rfl); done)); (try simp only [Act.put, List.setIfInBounds_toArray, List.set_cons_zero, List.set_cons_succ]))
  (refine takeH (i := 13) (v := ?_) rfl (by kernel_rfl) (by kernel_rfl) (by kernel_rfl) (fun _ _ _ h => h) (Or.inl ⟨by rfl, ?_⟩) (by assumption) ?_; rotate_left; (focus ((intro wS hSw); (try dsimp only at hSw); obtain ⟨s0, s1, s2, s3, s4, s5, s6, s7⟩ := hSw; go_simp; (try with_reducible rfl); done)); (try simp only [Act.put, List.setIfInBounds_toArray, List.set_cons_zero, List.set_cons_succ]))
  (refine takeH (i := 14) (v := ?_) rfl (by kernel_rfl) (by kernel_rfl) (by kernel_rfl) (fun _ _ _ h => h) (Or.inl ⟨by rfl, ?_⟩) (by assumption) ?_; rotate_left; (focus ((intro wS hSw); (try dsimp only at hSw); obtain ⟨s0, s1, s2, s3, s4, s5, s6, s7⟩ := hSw; go_simp; (try with_reducible rfl); done)); (try simp only [Act.put, List.setIfInBounds_toArray, List.set_cons_zero, List.set_cons_succ]))
  (refine takeH (i := 15) (v := ?_) rfl (by kernel_rfl) (by kernel_rfl) (by kernel_rfl) (fun _ _ _ h => h) (Or.inl ⟨by rfl, ?_⟩) (by assumption) ?_; rotate_left; (focus ((intro wS hSw); (try dsimp only at hSw); obtain ⟨s0, s1, s2, s3, s4, s5, s6, s7⟩ := hSw; go_simp; (try with_reducible rfl); done)); (try simp only [Act.put, List.setIfInBounds_toArray, List.set_cons_zero, List.set_cons_succ]))
  (refine takeH (i := 16) (v := ?_) rfl (by kernel_rfl) (by kernel_rfl) (by kernel_rfl) (fun _ _ _ h => h) (Or.inl ⟨by rfl, ?_⟩) (by assumption) ?_; rotate_left; (focus ((intro wS hSw); (try dsimp only at hSw); obtain ⟨s0, s1, s2, s3, s4, s5, s6, s7⟩ := hSw; go_simp; (try with_reducible rfl); done)); (try simp only [Act.put, List.setIfInBounds_toArray, List.set_cons_zero, List.set_cons_succ]))
  (refine takeH (i := 17) (v := (.bool false)) rfl (by kernel_rfl) (by kernel_rfl) (by kernel_rfl) (fun _ _ _ h => h) (Or.inl ⟨by rfl, by (intro wS hSw); (try dsimp only at hSw); (obtain ⟨s0, s1, s2, s3, s4, s5, s6, s7⟩ := hSw); go_simp; exact toL_ne HSt.out⟩) (by assumption) ?_; (try simp only [Act.put, List.setIfInBounds_toArray, List.set_cons_zero, List.set_cons_succ]))
  (refine takeH (i := 18) (v := ?_) rfl (by kernel_rfl) (by kernel_rfl) (by kernel_rfl) (fun _ _ _ h => h) (Or.inl ⟨by rfl, ?_⟩) (by assumption) ?_; rotate_left; (focus ((intro wS hSw); (try dsimp only at hSw); obtain ⟨s0, s1, s2, s3, s4, s5, s6, s7⟩ := hSw; go_simp; (try with_reducible rfl); done)); (try simp only [Act.put, List.setIfInBounds_toArray, List.set_cons_zero, List.set_cons_succ]))
  (refine takeH (i := 19) (v := undef) rfl (by kernel_rfl) (by kernel_rfl) (by kernel_rfl) (fun _ _ _ h => h) (Or.inr ⟨by rfl, rfl⟩) (by assumption) ?_; (try simp only [Act.put, List.setIfInBounds_toArray, List.set_cons_zero, List.set_cons_succ]))
  (refine takeH (i := 20) (v := undef) rfl (by kernel_rfl) (by kernel_rfl) (by kernel_rfl) (fun _ _ _ h => h) (Or.inr ⟨by rfl, rfl⟩) (by assumption) ?_; (try simp only [Act.put, List.setIfInBounds_toArray, List.set_cons_zero, List.set_cons_succ]))
  (refine takeH (i := 21) (v := undef) rfl (by kernel_rfl) (by kernel_rfl) (by kernel_rfl) (fun _ _ _ h => h) (Or.inr ⟨by rfl, rfl⟩) (by assumption) ?_; (try simp only [Act.put, List.setIfInBounds_toArray, List.set_cons_zero, List.set_cons_succ]))
  (refine takeH (i := 22) (v := undef) rfl (by kernel_rfl) (by kernel_rfl) (by kernel_rfl) (fun _ _ _ h => h) (Or.inr ⟨by rfl, rfl⟩) (by assumption) ?_; (try simp only [Act.put, List.setIfInBounds_toArray, List.set_cons_zero, List.set_cons_succ]))
  (refine takeH (i := 23) (v := undef) rfl (by kernel_rfl) (by kernel_rfl) (by kernel_rfl) (fun _ _ _ h => h) (Or.inr ⟨by rfl, rfl⟩) (by assumption) ?_; (try simp only [Act.put, List.setIfInBounds_toArray, List.set_cons_zero, List.set_cons_succ]))
  (refine takeH (i := 24) (v := ?_) rfl (by kernel_rfl) (by kernel_rfl) (by kernel_rfl) (fun _ _ _ h => h) (Or.inl ⟨by rfl, ?_⟩) (by assumption) ?_; rotate_left; (focus ((intro wS hSw); (try dsimp only at hSw); obtain ⟨s0, s1, s2, s3, s4, s5, s6, s7⟩ := hSw; go_simp; (try with_reducible rfl); done)); (try simp only [Act.put, List.setIfInBounds_toArray, List.set_cons_zero, List.set_cons_succ]))
  (refine takeH (i := 25) (v := ?_) rfl (by kernel_rfl) (by kernel_rfl) (by kernel_rfl) (fun _ _ _ h => h) (Or.inl ⟨by rfl, ?_⟩) (by assumption) ?_; rotate_left; (focus ((intro wS hSw); (try dsimp only at hSw); obtain ⟨s0, s1, s2, s3, s4, s5, s6, s7⟩ := hSw; go_simp; (try with_reducible rfl); done)); (try simp only [Act.put, List.setIfInBounds_toArray, List.set_cons_zero, List.set_cons_succ]))
  refine wpAnyH_done (by kernel_rfl) ?_ _
  clear hHeld
  have HBF := Lib.hid (below_then HBD.out (below_then (below_then HB1.out HB2.out) HB3.out))
  have HI3 := Lib.hid (HID.out.on (below_then (below_then HB1.out HB2.out) HB3.out))
  have HL60 := Lib.hid (light_len HV.out)
  have HNw := Lib.hid (code_rnew w3)
  clear HX1 HB1 HB2 HB3 HR2 HBD HID HBF
  go_wp2_with (go_at_call 24; refine HNw.out.mono ?_; rintro e w4 ⟨rfl, h4, hb4⟩; have H4 := Lib.hid (And.intro h4 (HI3.out.on hb4)); clear h4 hb4; refine Stop.out ?_)
  unfold Stop
  go_wp2
  have HB0 := Lib.hid HI3.out.size
  clear HNw HI3
  generalize World.heap w3 = hp at H4 HB0 ⊢
  generalize hp.size = base at H4 HB0 ⊢
  go_loopw [46] (fun i wr => ∃ (k : Nat) (F : Lns), k ≤ L.length ∧ i = .int .i64 k ∧ Hid (RtAt wr base (base + 1) base k F) ∧ Hid (BxA w x s q d wr)) (fun i _ => L.length - (intOf i).toNat)
  case atStart => exact ⟨0, _, Nat.zero_le _, rfl, Lib.hid H4.out.1, Lib.hid H4.out.2⟩
  case round =>
    clear H4
    obtain ⟨k, F, hk, rfl, HF, HX⟩ := hrel
    by_cases hlt : k < L.length
    · have hlt' : (k : Int) < (L.length : Int) := by omega
      have hl60 : (L.length : Int) ≤ 60 := by have := HL60.out; omega
      obtain ⟨b, o, rfl, hbl, y0, y1, y2, y3, y4⟩ := (HR.out.on HX.out.2.2).at_ k hlt
      obtain ⟨y, hy⟩ : ∃ y, y = L[k] := ⟨_, rfl⟩
      rw [← hy] at y0 y1 y2 y3 y4
      have HYs : Hid (y.1.size ≤ 9223372036854775807) := Lib.hid (by rw [hy]; exact HLn.out.2.1 _ (List.getElem_mem hlt))
      have HBx := Lib.hid (below_alloc wr (.cells #[.string y.1, .int .i64 y.2.1, .int .i64 y.2.2.1, .int .i64 y.2.2.2.1, .int .i64 y.2.2.2.2] 56))
      have HS := Lib.hid (code_rset (HF.out.on HBx.out) y.1 y.2.1 y.2.2.1 y.2.2.2.1 y.2.2.2.2 HYs.out (HM.out.below (below_then HX.out.2.2 HBx.out) (Nat.le_refl _)) (by have := HL60.out; unfold maxLen; omega))
      clear hbl hy
      go_wp2_with (go_at_call 26; refine HS.out.mono ?_; rintro e w5 ⟨rfl, hb, F2, h2, _⟩; have H5 : Hid (RtAt w5 base (base + 1) base (k + 1) F2 ∧ BxA w x s q d w5) := (Lib.hid ⟨h2, (HX.out.on HBx.out).below hb HB0.out⟩); clear hb h2; refine Stop.out ?_)
      unfold Stop
      go_wp2
      go_roundw
      case rel => exact ⟨k + 1, F2, by omega, by go_num, Lib.hid H5.out.1, Lib.hid H5.out.2⟩
      case measure => simp [intOf]; omega
    · obtain rfl : k = L.length := by omega
      obtain ⟨y0, y1, y2⟩ := row3v HX.out.2.1
      have hO1 := code_of HF.out s q d HLn.out.2.2.2 (HM.out.below HX.out.2.2 (Nat.le_refl _))
      obtain ⟨X1, hX1⟩ : ∃ X1, X1 = ofX F s q d := ⟨_, rfl⟩
      obtain ⟨E1, hE1⟩ : ∃ E1, E1 = ofE F s q d := ⟨_, rfl⟩
      rw [← hX1, ← hE1] at hO1
      have HO1 := Lib.hid hO1
      have HXE := Lib.hid (And.intro hX1 hE1)
      clear hO1 hX1 hE1
      go_wp2_with (go_at_call 29; refine HO1.out.mono ?_; rintro e w5 ⟨rfl, hb5⟩; have H5 := Lib.hid (And.intro (HF.out.on hb5) (HX.out.on hb5)); clear hb5 y0 y1 y2; obtain ⟨x0, x1, x2, x3, x4⟩ := row5 H5.out.2.1; refine Stop.out ?_)
      unfold Stop
      have HS := Lib.hid (code_rset H5.out.1 x.1 x.2.1 x.2.2.1 x.2.2.2.1 x.2.2.2.2 HLn.out.2.2.1 (HM.out.below H5.out.2.2.2 (Nat.le_refl _)) (by have := HL60.out; unfold maxLen; omega))
      go_wp2_with (go_at_call 26; refine HS.out.mono ?_; rintro e w6 ⟨rfl, hb6, F2, h6, hst⟩; have H6 : Hid (RtAt w6 base (base + 1) base (L.length + 1) F2 ∧ BxA w x s q d w6 ∧ ofX F2 s q d = X1 ∧ ofE F2 s q d = E1) := (Lib.hid ⟨h6, H5.out.2.below hb6 HB0.out, by rw [HXE.out.1]; exact (of_apart hst HNe.out d).1, by rw [HXE.out.2]; exact (of_apart hst HNe.out d).2⟩); clear hb6 h6 hst x0 x1 x2 x3 x4; obtain ⟨y0, y1, y2⟩ := row3v H6.out.2.1.2.1; refine Stop.out ?_)
      unfold Stop
      have hO2 := code_of H6.out.1 s q d HLn.out.2.2.2 (HM.out.below H6.out.2.1.2.2 (Nat.le_refl _))
      rw [H6.out.2.2.1, H6.out.2.2.2] at hO2
      have HO2 := Lib.hid hO2
      clear hO2
      go_wp2_with (go_at_call 29; refine HO2.out.mono ?_; rintro e w7 ⟨rfl, hb7⟩; have H7 := Lib.hid (below_then H6.out.2.1.2.2 hb7); clear hb7 y0 y1 y2; refine Stop.out ?_)
      unfold Stop
      go_wp2_with (go_at_call 23; refine (rt_lives _ (HM.out.below H7.out (Nat.le_refl _))).mono ?_; rintro e w9 ⟨rfl, hb⟩; have HZ := Lib.hid (below_then H7.out hb); clear hb; refine Stop.out ?_)
      unfold Stop
      go_wp2
      go_ret
      exact ⟨rfl, HZ.out⟩
set_option maxHeartbeats 2000000 in
theorem apart_main2 (A : Option Addr) (c : Nat) (L : List Rt) (x : Rt) (s : ByteArray) (q d : Int) (w : World) (hr : RowR w A L) (hA : A = none → L = []) (hlc : L.length ≤ c) (hln : L.length * 48 ≤ 140737488351232) (hM : MaxL w)
    (hsz : (∀ y ∈ L, y.1.size ≤ 9223372036854775807) ∧ x.1.size ≤ 9223372036854775807 ∧ s.size ≤ 9223372036854775807) (V : Bool) (hV : lightB (L ++ [x]) s = V) (hV0 : V = true) (hst : s = x.1) (hqt : ¬ x.2.1 = q) :
    Calls Try.prog 7 #[.slice A L.length c, .agg #[.string x.1, .int .i64 x.2.1, .int .i64 x.2.2.1, .int .i64 x.2.2.2.1, .int .i64 x.2.2.2.2], .agg #[.string s, .int .i64 q, .int .i64 d]] w fun e w' => e = .returned (.bool true) ∧ Below w.heap.size w w' := by
  have hlc' : (L.length : Int) ≤ (c : Int) := by omega
  subst hV0
  have HQt := Lib.hid hqt
  have HSe := Lib.hid hst
  have HNe : Hid (¬ (s = x.1 ∧ q = x.2.1)) := Lib.hid (fun h => hqt h.2.symm)
  clear hqt hst
  have HR := Lib.hid hr
  have HAn := Lib.hid hA
  have HLn := Lib.hid (And.intro hln hsz)
  have HM := Lib.hid hM
  have HI := Lib.hid (bxA w x s q d)
  have HV := Lib.hid hV
  clear hr hA hln hM hV hsz
  go_enter Try.func7, Try.ntmps7
  go_wp2
  have HID := Lib.hid (HI.out.on (below_drew _))
  have HBD := Lib.hid (below_then HI.out.2.2 (below_drew _))
  obtain ⟨x0, x1, x2, x3, x4⟩ := row5 HI.out.1
  obtain ⟨y0, y1, y2⟩ := row3v HI.out.2.1
  refine wp_region_held_drew (S := fun V => V.cell? ⟨w.heap.size, 0, none⟩ = some (.string x.1) ∧ V.cell? ⟨w.heap.size, 1, none⟩ = some (.int .i64 x.2.1) ∧ V.cell? ⟨w.heap.size, 2, none⟩ = some (.int .i64 x.2.2.1) ∧ V.cell? ⟨w.heap.size, 3, none⟩ = some (.int .i64 x.2.2.2.1) ∧ V.cell? ⟨w.heap.size, 4, none⟩ = some (.int .i64 x.2.2.2.2) ∧ V.cell? ⟨w.heap.size + 1, 0, none⟩ = some (.string s) ∧ V.cell? ⟨w.heap.size + 1, 1, none⟩ = some (.int .i64 q) ∧ V.cell? ⟨w.heap.size + 1, 2, none⟩ = some (.int .i64 d)) (by kernel_rfl) ⟨x0, x1, x2, x3, x4, y0, y1, y2⟩ ?_
  intro hHeld
  clear x0 x1 x2 x3 x4 y0 y1 y2 HI
  generalize World.drew _ = wd at HID HBD hHeld ⊢
  (refine takeH (i := 0) (v := ?_) rfl (by kernel_rfl) (by kernel_rfl) (by kernel_rfl) (fun _ _ _ h => h) (Or.inl ⟨by rfl, ?_⟩) (by assumption) ?_; rotate_left; (focus ((intro wS hSw); (try dsimp only at hSw); obtain ⟨s0, s1, s2, s3, s4, s5, s6, s7⟩ := hSw; go_simp; (try with_reducible rfl); done)); (try simp only [Act.put, List.setIfInBounds_toArray, List.set_cons_zero, List.set_cons_succ]))
  (refine takeH (i := 1) (v := ?_) rfl (by kernel_rfl) (by kernel_rfl) (by kernel_rfl) (fun _ _ _ h => h) (Or.inl ⟨by rfl, ?_⟩) (by assumption) ?_; rotate_left; (focus ((intro wS hSw); (try dsimp only at hSw); obtain ⟨s0, s1, s2, s3, s4, s5, s6, s7⟩ := hSw; go_simp; (try with_reducible rfl); done)); (try simp only [Act.put, List.setIfInBounds_toArray, List.set_cons_zero, List.set_cons_succ]))
  (refine takeH (i := 2) (v := ?_) rfl (by kernel_rfl) (by kernel_rfl) (by kernel_rfl) (fun _ _ _ h => h) (Or.inl ⟨by rfl, ?_⟩) (by assumption) ?_; rotate_left; (focus ((intro wS hSw); (try dsimp only at hSw); obtain ⟨s0, s1, s2, s3, s4, s5, s6, s7⟩ := hSw; go_simp; (try with_reducible rfl); done)); (try simp only [Act.put, List.setIfInBounds_toArray, List.set_cons_zero, List.set_cons_succ]))
  (refine takeH (i := 3) (v := ?_) rfl (by kernel_rfl) (by kernel_rfl) (by kernel_rfl) (fun _ _ _ h => h) (Or.inl ⟨by rfl, ?_⟩) (by assumption) ?_; rotate_left; (focus ((intro wS hSw); (try dsimp only at hSw); obtain ⟨s0, s1, s2, s3, s4, s5, s6, s7⟩ := hSw; go_simp; (try with_reducible rfl); done)); (try simp only [Act.put, List.setIfInBounds_toArray, List.set_cons_zero, List.set_cons_succ]))
  (refine takeH (i := 4) (v := ?_) rfl (by kernel_rfl) (by kernel_rfl) (by kernel_rfl) (fun _ _ _ h => h) (Or.inl ⟨by rfl, ?_⟩) (by assumption) ?_; rotate_left; (focus ((intro wS hSw); (try dsimp only at hSw); obtain ⟨s0, s1, s2, s3, s4, s5, s6, s7⟩ := hSw; go_simp; (try with_reducible rfl); done)); (try simp only [Act.put, List.setIfInBounds_toArray, List.set_cons_zero, List.set_cons_succ]))
  (refine takeH (i := 5) (v := (.slice A L.length L.length)) rfl (by kernel_rfl) (by kernel_rfl) (by kernel_rfl) (fun _ _ _ h => h) (Or.inl ⟨by rfl, by (intro wS hSw); clear hSw; clear hHeld; (cases A with | none => (obtain rfl := HAn.out rfl; go_simp; done) | some y => (go_simp; done))⟩) (by assumption) ?_; (try simp only [Act.put, List.setIfInBounds_toArray, List.set_cons_zero, List.set_cons_succ]))
  (refine takeH (i := 6) (v := ?_) rfl (by kernel_rfl) (by kernel_rfl) (by kernel_rfl) (fun _ _ _ h => h) (Or.inl ⟨by rfl, ?_⟩) (by assumption) ?_; rotate_left; (focus ((intro wS hSw); (try dsimp only at hSw); obtain ⟨s0, s1, s2, s3, s4, s5, s6, s7⟩ := hSw; go_simp; (try with_reducible rfl); done)); (try simp only [Act.put, List.setIfInBounds_toArray, List.set_cons_zero, List.set_cons_succ]))
  (refine takeH (i := 9) (v := ?_) rfl (by kernel_rfl) (by kernel_rfl) (by kernel_rfl) (fun _ _ _ h => h) (Or.inl ⟨by rfl, ?_⟩) (by assumption) ?_; rotate_left; (focus ((intro wS hSw); (try dsimp only at hSw); obtain ⟨s0, s1, s2, s3, s4, s5, s6, s7⟩ := hSw; go_simp; (try with_reducible rfl); done)); (try simp only [Act.put, List.setIfInBounds_toArray, List.set_cons_zero, List.set_cons_succ]))
  refine aloneH (i := 7) rfl (by kernel_rfl) (fun K hK => ?_)
  rw [if_pos (by rfl)]
  go_simp
  have HX1 := Lib.hid (heap_alloc_new wd (.cells #[.string x.1, .int .i64 x.2.1, .int .i64 x.2.2.1, .int .i64 x.2.2.2.1, .int .i64 x.2.2.2.2] 56))
  have HB1 := Lib.hid (below_alloc wd (.cells #[.string x.1, .int .i64 x.2.1, .int .i64 x.2.2.1, .int .i64 x.2.2.2.1, .int .i64 x.2.2.2.2] 56))
  generalize hx : World.alloc wd (.cells #[.string x.1, .int .i64 x.2.1, .int .i64 x.2.2.1, .int .i64 x.2.2.2.1, .int .i64 x.2.2.2.2] 56) = w1 at HX1 HB1 ⊢
  clear hx
  refine hK.out _ _ (⟨cell_on HB1.out hHeld.1, cell_on HB1.out hHeld.2.1, cell_on HB1.out hHeld.2.2.1, cell_on HB1.out hHeld.2.2.2.1, cell_on HB1.out hHeld.2.2.2.2.1, cell_on HB1.out hHeld.2.2.2.2.2.1, cell_on HB1.out hHeld.2.2.2.2.2.2.1, cell_on HB1.out hHeld.2.2.2.2.2.2.2⟩) (fun hNew => ?_)
  clear hK K hHeld; (have hHeld := hNew); clear hNew; (try simp only [Act.put, List.setIfInBounds_toArray, List.set_cons_zero, List.set_cons_succ])
  refine aloneH (i := 8) rfl (by kernel_rfl) (fun K hK => ?_)
  rw [if_pos (by rfl)]
  refine wp_append_full w1 (.tmp 19) (.tmp 21) rfl rfl A L rfl (HR.out.on (below_then HBD.out HB1.out)) HAn.out ⟨wd.heap.size, 0, none⟩ 1 1 [x] rfl rfl (box_rt HX1.out) (by simp) (by have := HLn.out.1; simp; omega) ?_
  intro A2 c2 w2 hrow hb
  have HR2 := Lib.hid hrow
  have HB2 := Lib.hid hb
  clear hrow hb
  refine hK.out _ _ (⟨cell_on HB2.out hHeld.1, cell_on HB2.out hHeld.2.1, cell_on HB2.out hHeld.2.2.1, cell_on HB2.out hHeld.2.2.2.1, cell_on HB2.out hHeld.2.2.2.2.1, cell_on HB2.out hHeld.2.2.2.2.2.1, cell_on HB2.out hHeld.2.2.2.2.2.2.1, cell_on HB2.out hHeld.2.2.2.2.2.2.2⟩) (fun hNew => ?_)
  clear hK K hHeld; (have hHeld := hNew); clear hNew; (try simp only [Act.put, List.setIfInBounds_toArray, List.set_cons_zero, List.set_cons_succ])
  refine aloneH (i := 10) rfl (by kernel_rfl) (fun K hK => ?_)
  rw [if_pos (by rfl)]
  go_simp; ((refine (light_walk_n A2 c2 (L ++ [x]) (L.length + 1) (by simp) s q d w2 HR2.out (by have := HLn.out.1; simp; omega) _ HV.out).mono ?_); (rintro e w3 ⟨rfl, hb⟩); have HB3 := Lib.hid hb; clear hb; (try go_simp))
  refine hK.out _ _ (⟨cell_on HB3.out hHeld.1, cell_on HB3.out hHeld.2.1, cell_on HB3.out hHeld.2.2.1, cell_on HB3.out hHeld.2.2.2.1, cell_on HB3.out hHeld.2.2.2.2.1, cell_on HB3.out hHeld.2.2.2.2.2.1, cell_on HB3.out hHeld.2.2.2.2.2.2.1, cell_on HB3.out hHeld.2.2.2.2.2.2.2⟩) (fun hNew => ?_)
  clear hK K hHeld; (have hHeld := hNew); clear hNew; (try simp only [Act.put, List.setIfInBounds_toArray, List.set_cons_zero, List.set_cons_succ])
  (refine takeH (i := 11) (v := ?_) rfl (by kernel_rfl) (by kernel_rfl) (by kernel_rfl) (fun _ _ _ h => h) (Or.inl ⟨by rfl, ?_⟩) (by assumption) ?_; rotate_left; (focus ((intro wS hSw); (try dsimp only at hSw); obtain ⟨s0, s1, s2, s3, s4, s5, s6, s7⟩ := hSw; go_simp; (try with_reducible rfl); done)); (try simp only [Act.put, List.setIfInBounds_toArray, List.set_cons_zero, List.set_cons_succ]))
  (refine takeH (i := 12) (v := ?_) rfl (by kernel_rfl) (by kernel_rfl) (by kernel_rfl) (fun _ _ _ h => h) (Or.inl ⟨by rfl, ?_⟩) (by assumption) ?_; rotate_left; (focus ((intro wS hSw); (try dsimp only at hSw); obtain ⟨s0, s1, s2, s3, s4, s5, s6, s7⟩ := hSw; go_simp; (try with_reducible rfl); done)); (try simp only [Act.put, List.setIfInBounds_toArray, List.set_cons_zero, List.set_cons_succ]))
  (refine takeH (i := 13) (v := ?_) rfl (by kernel_rfl) (by kernel_rfl) (by kernel_rfl) (fun _ _ _ h => h) (Or.inl ⟨by rfl, ?_⟩) (by assumption) ?_; rotate_left; (focus ((intro wS hSw); (try dsimp only at hSw); obtain ⟨s0, s1, s2, s3, s4, s5, s6, s7⟩ := hSw; go_simp; (try with_reducible rfl); done)); (try simp only [Act.put, List.setIfInBounds_toArray, List.set_cons_zero, List.set_cons_succ]))
  (refine takeH (i := 14) (v := ?_) rfl (by kernel_rfl) (by kernel_rfl) (by kernel_rfl) (fun _ _ _ h => h) (Or.inl ⟨by rfl, ?_⟩) (by assumption) ?_; rotate_left; (focus ((intro wS hSw); (try dsimp only at hSw); obtain ⟨s0, s1, s2, s3, s4, s5, s6, s7⟩ := hSw; go_simp; (try with_reducible rfl); done)); (try simp only [Act.put, List.setIfInBounds_toArray, List.set_cons_zero, List.set_cons_succ]))
  (refine takeH (i := 15) (v := ?_) rfl (by kernel_rfl) (by kernel_rfl) (by kernel_rfl) (fun _ _ _ h => h) (Or.inl ⟨by rfl, ?_⟩) (by assumption) ?_; rotate_left; (focus ((intro wS hSw); (try dsimp only at hSw); obtain ⟨s0, s1, s2, s3, s4, s5, s6, s7⟩ := hSw; go_simp; (try with_reducible rfl); done)); (try simp only [Act.put, List.setIfInBounds_toArray, List.set_cons_zero, List.set_cons_succ]))
  (refine takeH (i := 16) (v := ?_) rfl (by kernel_rfl) (by kernel_rfl) (by kernel_rfl) (fun _ _ _ h => h) (Or.inl ⟨by rfl, ?_⟩) (by assumption) ?_; rotate_left; (focus ((intro wS hSw); (try dsimp only at hSw); obtain ⟨s0, s1, s2, s3, s4, s5, s6, s7⟩ := hSw; go_simp; (try with_reducible rfl); done)); (try simp only [Act.put, List.setIfInBounds_toArray, List.set_cons_zero, List.set_cons_succ]))
  (refine takeH (i := 17) (v := (.bool true)) rfl (by kernel_rfl) (by kernel_rfl) (by kernel_rfl) (fun _ _ _ h => h) (Or.inl ⟨by rfl, by (intro wS hSw); (try dsimp only at hSw); (obtain ⟨s0, s1, s2, s3, s4, s5, s6, s7⟩ := hSw); go_simp; (first | done | (rw [HSe.out]; done) | (simp [HSe.out]; done))⟩) (by assumption) ?_; (try simp only [Act.put, List.setIfInBounds_toArray, List.set_cons_zero, List.set_cons_succ]))
  (refine takeH (i := 18) (v := ?_) rfl (by kernel_rfl) (by kernel_rfl) (by kernel_rfl) (fun _ _ _ h => h) (Or.inl ⟨by rfl, ?_⟩) (by assumption) ?_; rotate_left; (focus ((intro wS hSw); (try dsimp only at hSw); obtain ⟨s0, s1, s2, s3, s4, s5, s6, s7⟩ := hSw; go_simp; (try with_reducible rfl); done)); (try simp only [Act.put, List.setIfInBounds_toArray, List.set_cons_zero, List.set_cons_succ]))
  (refine takeH (i := 19) (v := ?_) rfl (by kernel_rfl) (by kernel_rfl) (by kernel_rfl) (fun _ _ _ h => h) (Or.inl ⟨by rfl, ?_⟩) (by assumption) ?_; rotate_left; (focus ((intro wS hSw); (try dsimp only at hSw); obtain ⟨s0, s1, s2, s3, s4, s5, s6, s7⟩ := hSw; go_simp; (try with_reducible rfl); done)); (try simp only [Act.put, List.setIfInBounds_toArray, List.set_cons_zero, List.set_cons_succ]))
  (refine takeH (i := 20) (v := ?_) rfl (by kernel_rfl) (by kernel_rfl) (by kernel_rfl) (fun _ _ _ h => h) (Or.inl ⟨by rfl, ?_⟩) (by assumption) ?_; rotate_left; (focus ((intro wS hSw); (try dsimp only at hSw); obtain ⟨s0, s1, s2, s3, s4, s5, s6, s7⟩ := hSw; go_simp; (try with_reducible rfl); done)); (try simp only [Act.put, List.setIfInBounds_toArray, List.set_cons_zero, List.set_cons_succ]))
  (refine takeH (i := 21) (v := ?_) rfl (by kernel_rfl) (by kernel_rfl) (by kernel_rfl) (fun _ _ _ h => h) (Or.inl ⟨by rfl, ?_⟩) (by assumption) ?_; rotate_left; (focus ((intro wS hSw); (try dsimp only at hSw); obtain ⟨s0, s1, s2, s3, s4, s5, s6, s7⟩ := hSw; go_simp; (try with_reducible rfl); done)); (try simp only [Act.put, List.setIfInBounds_toArray, List.set_cons_zero, List.set_cons_succ]))
  (refine takeH (i := 22) (v := ?_) rfl (by kernel_rfl) (by kernel_rfl) (by kernel_rfl) (fun _ _ _ h => h) (Or.inl ⟨by rfl, ?_⟩) (by assumption) ?_; rotate_left; (focus ((intro wS hSw); (try dsimp only at hSw); obtain ⟨s0, s1, s2, s3, s4, s5, s6, s7⟩ := hSw; go_simp; (try with_reducible rfl); done)); (try simp only [Act.put, List.setIfInBounds_toArray, List.set_cons_zero, List.set_cons_succ]))
  (refine takeH (i := 23) (v := (.bool false)) rfl (by kernel_rfl) (by kernel_rfl) (by kernel_rfl) (fun _ _ _ h => h) (Or.inl ⟨by rfl, by (intro wS hSw); (try dsimp only at hSw); (obtain ⟨s0, s1, s2, s3, s4, s5, s6, s7⟩ := hSw); go_simp; (first | done | exact HQt.out | (simp [HQt.out]; done))⟩) (by assumption) ?_; (try simp only [Act.put, List.setIfInBounds_toArray, List.set_cons_zero, List.set_cons_succ]))
  (refine takeH (i := 24) (v := ?_) rfl (by kernel_rfl) (by kernel_rfl) (by kernel_rfl) (fun _ _ _ h => h) (Or.inl ⟨by rfl, ?_⟩) (by assumption) ?_; rotate_left; (focus ((intro wS hSw); (try dsimp only at hSw); obtain ⟨s0, s1, s2, s3, s4, s5, s6, s7⟩ := hSw; go_simp; (try with_reducible rfl); done)); (try simp only [Act.put, List.setIfInBounds_toArray, List.set_cons_zero, List.set_cons_succ]))
  (refine takeH (i := 25) (v := ?_) rfl (by kernel_rfl) (by kernel_rfl) (by kernel_rfl) (fun _ _ _ h => h) (Or.inl ⟨by rfl, ?_⟩) (by assumption) ?_; rotate_left; (focus ((intro wS hSw); (try dsimp only at hSw); obtain ⟨s0, s1, s2, s3, s4, s5, s6, s7⟩ := hSw; go_simp; (try with_reducible rfl); done)); (try simp only [Act.put, List.setIfInBounds_toArray, List.set_cons_zero, List.set_cons_succ]))
  refine wpAnyH_done (by kernel_rfl) ?_ _
  clear hHeld
  have HBF := Lib.hid (below_then HBD.out (below_then (below_then HB1.out HB2.out) HB3.out))
  have HI3 := Lib.hid (HID.out.on (below_then (below_then HB1.out HB2.out) HB3.out))
  have HL60 := Lib.hid (light_len HV.out)
  have HNw := Lib.hid (code_rnew w3)
  clear HX1 HB1 HB2 HB3 HR2 HBD HID HBF
  go_wp2_with (go_at_call 24; refine HNw.out.mono ?_; rintro e w4 ⟨rfl, h4, hb4⟩; have H4 := Lib.hid (And.intro h4 (HI3.out.on hb4)); clear h4 hb4; refine Stop.out ?_)
  unfold Stop
  go_wp2
  have HB0 := Lib.hid HI3.out.size
  clear HNw HI3
  generalize World.heap w3 = hp at H4 HB0 ⊢
  generalize hp.size = base at H4 HB0 ⊢
  go_loopw [46] (fun i wr => ∃ (k : Nat) (F : Lns), k ≤ L.length ∧ i = .int .i64 k ∧ Hid (RtAt wr base (base + 1) base k F) ∧ Hid (BxA w x s q d wr)) (fun i _ => L.length - (intOf i).toNat)
  case atStart => exact ⟨0, _, Nat.zero_le _, rfl, Lib.hid H4.out.1, Lib.hid H4.out.2⟩
  case round =>
    clear H4
    obtain ⟨k, F, hk, rfl, HF, HX⟩ := hrel
    by_cases hlt : k < L.length
    · have hlt' : (k : Int) < (L.length : Int) := by omega
      have hl60 : (L.length : Int) ≤ 60 := by have := HL60.out; omega
      obtain ⟨b, o, rfl, hbl, y0, y1, y2, y3, y4⟩ := (HR.out.on HX.out.2.2).at_ k hlt
      obtain ⟨y, hy⟩ : ∃ y, y = L[k] := ⟨_, rfl⟩
      rw [← hy] at y0 y1 y2 y3 y4
      have HYs : Hid (y.1.size ≤ 9223372036854775807) := Lib.hid (by rw [hy]; exact HLn.out.2.1 _ (List.getElem_mem hlt))
      have HBx := Lib.hid (below_alloc wr (.cells #[.string y.1, .int .i64 y.2.1, .int .i64 y.2.2.1, .int .i64 y.2.2.2.1, .int .i64 y.2.2.2.2] 56))
      have HS := Lib.hid (code_rset (HF.out.on HBx.out) y.1 y.2.1 y.2.2.1 y.2.2.2.1 y.2.2.2.2 HYs.out (HM.out.below (below_then HX.out.2.2 HBx.out) (Nat.le_refl _)) (by have := HL60.out; unfold maxLen; omega))
      clear hbl hy
      go_wp2_with (go_at_call 26; refine HS.out.mono ?_; rintro e w5 ⟨rfl, hb, F2, h2, _⟩; have H5 : Hid (RtAt w5 base (base + 1) base (k + 1) F2 ∧ BxA w x s q d w5) := (Lib.hid ⟨h2, (HX.out.on HBx.out).below hb HB0.out⟩); clear hb h2; refine Stop.out ?_)
      unfold Stop
      go_wp2
      go_roundw
      case rel => exact ⟨k + 1, F2, by omega, by go_num, Lib.hid H5.out.1, Lib.hid H5.out.2⟩
      case measure => simp [intOf]; omega
    · obtain rfl : k = L.length := by omega
      obtain ⟨y0, y1, y2⟩ := row3v HX.out.2.1
      have hO1 := code_of HF.out s q d HLn.out.2.2.2 (HM.out.below HX.out.2.2 (Nat.le_refl _))
      obtain ⟨X1, hX1⟩ : ∃ X1, X1 = ofX F s q d := ⟨_, rfl⟩
      obtain ⟨E1, hE1⟩ : ∃ E1, E1 = ofE F s q d := ⟨_, rfl⟩
      rw [← hX1, ← hE1] at hO1
      have HO1 := Lib.hid hO1
      have HXE := Lib.hid (And.intro hX1 hE1)
      clear hO1 hX1 hE1
      go_wp2_with (go_at_call 29; refine HO1.out.mono ?_; rintro e w5 ⟨rfl, hb5⟩; have H5 := Lib.hid (And.intro (HF.out.on hb5) (HX.out.on hb5)); clear hb5 y0 y1 y2; obtain ⟨x0, x1, x2, x3, x4⟩ := row5 H5.out.2.1; refine Stop.out ?_)
      unfold Stop
      have HS := Lib.hid (code_rset H5.out.1 x.1 x.2.1 x.2.2.1 x.2.2.2.1 x.2.2.2.2 HLn.out.2.2.1 (HM.out.below H5.out.2.2.2 (Nat.le_refl _)) (by have := HL60.out; unfold maxLen; omega))
      go_wp2_with (go_at_call 26; refine HS.out.mono ?_; rintro e w6 ⟨rfl, hb6, F2, h6, hst⟩; have H6 : Hid (RtAt w6 base (base + 1) base (L.length + 1) F2 ∧ BxA w x s q d w6 ∧ ofX F2 s q d = X1 ∧ ofE F2 s q d = E1) := (Lib.hid ⟨h6, H5.out.2.below hb6 HB0.out, by rw [HXE.out.1]; exact (of_apart hst HNe.out d).1, by rw [HXE.out.2]; exact (of_apart hst HNe.out d).2⟩); clear hb6 h6 hst x0 x1 x2 x3 x4; obtain ⟨y0, y1, y2⟩ := row3v H6.out.2.1.2.1; refine Stop.out ?_)
      unfold Stop
      have hO2 := code_of H6.out.1 s q d HLn.out.2.2.2 (HM.out.below H6.out.2.1.2.2 (Nat.le_refl _))
      rw [H6.out.2.2.1, H6.out.2.2.2] at hO2
      have HO2 := Lib.hid hO2
      clear hO2
      go_wp2_with (go_at_call 29; refine HO2.out.mono ?_; rintro e w7 ⟨rfl, hb7⟩; have H7 := Lib.hid (below_then H6.out.2.1.2.2 hb7); clear hb7 y0 y1 y2; refine Stop.out ?_)
      unfold Stop
      go_wp2_with (go_at_call 23; refine (rt_lives _ (HM.out.below H7.out (Nat.le_refl _))).mono ?_; rintro e w9 ⟨rfl, hb⟩; have HZ := Lib.hid (below_then H7.out hb); clear hb; refine Stop.out ?_)
      unfold Stop
      go_wp2
      go_ret
      exact ⟨rfl, HZ.out⟩
theorem ratesApart_any (A : Option Addr) (c : Nat) (L : List Rt) (x : Rt) (s : ByteArray) (q d : Int) (w : World) (hr : RowR w A L) (hA : A = none → L = []) (hlc : L.length ≤ c) (hln : L.length * 48 ≤ 140737488351232) (hM : MaxL w)
    (hsz : (∀ y ∈ L, y.1.size ≤ 9223372036854775807) ∧ x.1.size ≤ 9223372036854775807 ∧ s.size ≤ 9223372036854775807) :
    Calls Try.prog 7 #[.slice A L.length c, .agg #[.string x.1, .int .i64 x.2.1, .int .i64 x.2.2.1, .int .i64 x.2.2.2.1, .int .i64 x.2.2.2.2], .agg #[.string s, .int .i64 q, .int .i64 d]] w fun e w' => e = .returned (.bool true) ∧ Below w.heap.size w w' := by
  cases hV : lightB (L ++ [x]) s with
  | false => exact apart_no A c L x s q d w hr hA hlc hln hM hsz _ hV rfl
  | true =>
    by_cases hst : s = x.1
    · by_cases hqt : q = x.2.1
      · exact apart_same A c L x s q d w hr hA hlc hln hM hsz _ hV rfl hst hqt
      · exact apart_main2 A c L x s q d w hr hA hlc hln hM hsz _ hV rfl hst (fun e => hqt e.symm)
    · exact apart_main A c L x s q d w hr hA hlc hln hM hsz _ hV rfl (fun e => hst e.symm)
end Go.Proofs.Ytlnpflfkkjcopaa
