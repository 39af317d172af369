/- People in memory: who is made, what they tell at once. People: made; the choice; who is a taxable person. -/
import Derived.Test.YtgljajoknmgoeaaGreatPpC
namespace Go.Proofs.YtgljajoknmgoeaaGreat
open Go.RowKit
set_option maxRecDepth 100000
attribute [local go_sem] Oper.semAt_some

/-- people that a call made: their block, the line of the choice, the map, the home state, what stands on the line, what on each number's -/
def PpAt (w : World) (base P B0 bm n : Nat) (h : ByteArray) (O : List Sp) (F : Lns) : Prop :=
  w.heap[P]? = some (.cells #[.pointer (some ⟨B0, 0, none⟩), .string h, .map (some bm)] 58 (0, 0)) ∧ PmAt w base bm n F ∧ Lin w B0 256 O ∧ base ≤ B0 ∧ (∀ s L, F s ≠ some (B0, L)) ∧ base ≤ P ∧ isMem h = true
theorem row3a {W : World} {g : Nat} {a b c : Value} {t : TypeId} (h : W.heap[g]? = some (.cells #[a, b, c] t (0, 0))) : W.cell? ⟨g, 0, none⟩ = some a ∧ W.cell? ⟨g, 1, none⟩ = some b ∧ W.cell? ⟨g, 2, none⟩ = some c :=
  ⟨cell_of_row W g 0 _ _ _ h, cell_of_row W g 1 _ _ _ h, cell_of_row W g 2 _ _ _ h⟩
section
variable {w w' : World} {base P B0 bm n : Nat} {h : ByteArray} {O : List Sp} {F : Lns}
theorem PpAt.on (H : PpAt w base P B0 bm n h O F) (hb : Below w.heap.size w w') : PpAt w' base P B0 bm n h O F :=
  ⟨heap_on hb H.1, H.2.1.on hb, H.2.2.1.on hb, H.2.2.2⟩
theorem PpAt.mono (H : PpAt w base P B0 bm n h O F) {m : Nat} (hm : n ≤ m) : PpAt w base P B0 bm m h O F := ⟨H.1, H.2.1.mono hm, H.2.2⟩
theorem mem_size {c : ByteArray} (h : isMem c = true) : c.size = 2 := by
  unfold isMem at h
  rw [List.any_eq_true] at h
  obtain ⟨k, hk, e⟩ := h
  have e := of_decide_eq_true e
  subst e
  have : ∀ k ∈ tabL.map (·.1), k.size = 2 := by decide +kernel
  exact this k hk
theorem str_ne {c : ByteArray} (h : c.size = 2) : c.toList.isEmpty = false := by
  rw [ByteArray.toList_eq]
  obtain ⟨⟨l⟩⟩ := c
  match l, h with
  | [a, b], _ => rfl
theorem code_pmade (H : PpAt w base P B0 bm n h O F) : Calls Tryz.prog 24 #[.pointer (some ⟨P, 0, none⟩)] w fun e w' => e = .returned (.bool true) ∧ w = w' := by
  obtain ⟨c0, c1, c2⟩ := row3a H.1
  have hne := str_ne (mem_size H.2.2.2.2.2.2)
  clear H
  go_enter Tryz.func24, Tryz.ntmps24
  go_wp2
  go_ret
  exact ⟨rfl, rfl⟩
theorem code_pmade_nil (w : World) : Calls Tryz.prog 24 #[.pointer none] w fun e w' => e = .returned (.bool false) ∧ w = w' := by
  go_enter Tryz.func24, Tryz.ntmps24
  go_wp2
  go_ret
  exact ⟨rfl, rfl⟩
theorem code_pmade_bare (w : World) (P : Nat) (c1 : w.cell? ⟨P, 1, none⟩ = some (.string { data := #[] })) : Calls Tryz.prog 24 #[.pointer (some ⟨P, 0, none⟩)] w fun e w' => e = .returned (.bool false) ∧ w = w' := by
  go_enter Tryz.func24, Tryz.ntmps24
  go_wp2
  go_ret
  exact ⟨rfl, rfl⟩
theorem code_home (H : PpAt w base P B0 bm n h O F) : Calls Tryz.prog 19 #[.pointer (some ⟨P, 0, none⟩)] w fun e w' => e = .returned (.string h) ∧ w = w' := by
  have HM := Lib.hid (code_pmade H)
  obtain ⟨c0, c1, c2⟩ := row3a H.1
  clear H
  go_enter Tryz.func19, Tryz.ntmps19
  go_wp2_with (go_at_call 24; refine HM.out.mono ?_; rintro e w1 ⟨rfl, rfl⟩)
  go_ret
  exact ⟨rfl, rfl⟩
set_option maxHeartbeats 400000 in
theorem code_opted (H : PpAt w base P B0 bm n h O F) (day : Int) : Calls Tryz.prog 15 #[.pointer (some ⟨P, 0, none⟩), .int .i64 day] w fun e w' => e = .returned (.bool (atB O day)) ∧ Below w.heap.size w w' := by
  have HM := Lib.hid (code_pmade H)
  have HO := Lib.hid (code_holds w B0 O day H.2.2.1)
  obtain ⟨c0, c1, c2⟩ := row3a H.1
  clear H
  go_enter Tryz.func15, Tryz.ntmps15
  go_wp2_with (first | (go_at_call 24; refine HM.out.mono ?_; rintro e w1 ⟨rfl, rfl⟩) | (go_at_call 33; refine HO.out.mono ?_; rintro e w1 ⟨rfl, hb⟩; have HB := Lib.hid hb; clear hb))
  go_ret
  exact ⟨rfl, HB.out⟩
/-- not made by a call -/
def NotMade (p : Value) (w : World) : Prop := ∀ W, Below w.heap.size w W → Calls Tryz.prog 24 #[p] W fun e w' => e = .returned (.bool false) ∧ W = w'
theorem NotMade.on {p : Value} (h : NotMade p w) (hb : Below w.heap.size w w') : NotMade p w' := fun W hW => h W (below_then hb hW)
theorem home_not {p : Value} (h : NotMade p w) : Calls Tryz.prog 19 #[p] w fun e w' => e = .returned (.string { data := #[] }) ∧ w = w' := by
  have HM := Lib.hid (h w (below_same w))
  clear h
  go_enter Tryz.func19, Tryz.ntmps19
  go_wp2_with (go_at_call 24; refine HM.out.mono ?_; rintro e w1 ⟨rfl, rfl⟩)
  go_ret
  exact ⟨rfl, rfl⟩
theorem opted_not {p : Value} (h : NotMade p w) (day : Int) : Calls Tryz.prog 15 #[p, .int .i64 day] w fun e w' => e = .returned (.bool false) ∧ w = w' := by
  have HM := Lib.hid (h w (below_same w))
  clear h
  go_enter Tryz.func15, Tryz.ntmps15
  go_wp2_with (go_at_call 24; refine HM.out.mono ?_; rintro e w1 ⟨rfl, rfl⟩)
  go_ret
  exact ⟨rfl, rfl⟩
theorem opt_not {p : Value} (h : NotMade p w) (f u : Int) : Calls Tryz.prog 10 #[p, .agg #[.int .i64 f, .int .i64 u]] w fun e w' => e = .returned (.int .i64 1) ∧ Below w.heap.size w w' := by
  have HM := Lib.hid (fun o => h (w.alloc o) (below_alloc w o))
  have HB := Lib.hid (fun o => below_alloc w o)
  clear h
  go_enter Tryz.func10, Tryz.ntmps10
  go_wp2_with (go_at_call 24; refine (HM.out _).mono ?_; rintro e w1 ⟨rfl, rfl⟩)
  go_ret
  exact ⟨rfl, HB.out _⟩
theorem status_not {p : Value} (h : NotMade p w) (c m : ByteArray) (f u : Int) : Calls Tryz.prog 12 #[p, .string c, .string m, .agg #[.int .i64 f, .int .i64 u]] w fun e w' => e = .returned (.int .i64 1) ∧ Below w.heap.size w w' := by
  have HM := Lib.hid (fun o => h (w.alloc o) (below_alloc w o))
  have HB := Lib.hid (fun o => below_alloc w o)
  clear h
  go_enter Tryz.func12, Tryz.ntmps12
  go_wp2_with (go_at_call 24; refine (HM.out _).mono ?_; rintro e w1 ⟨rfl, rfl⟩)
  go_ret
  exact ⟨rfl, HB.out _⟩
theorem business_not {p : Value} (h : NotMade p w) (c m : ByteArray) (day : Int) : Calls Tryz.prog 17 #[p, .string c, .string m, .int .i64 day] w fun e w' => e = .returned (.bool false) ∧ w = w' := by
  have HM := Lib.hid (h w (below_same w))
  clear h
  go_enter Tryz.func17, Tryz.ntmps17
  go_wp2_with (go_at_call 24; refine HM.out.mono ?_; rintro e w1 ⟨rfl, rfl⟩)
  go_ret
  exact ⟨rfl, rfl⟩
theorem known_not {p : Value} (h : NotMade p w) : Calls Tryz.prog 9 #[p] w fun e w' => e = .returned (.slice none 0 0) ∧ w = w' := by
  have HM := Lib.hid (h w (below_same w))
  clear h
  go_enter Tryz.func9, Tryz.ntmps9
  go_wp2_with (go_at_call 24; refine HM.out.mono ?_; rintro e w1 ⟨rfl, rfl⟩)
  go_ret
  exact ⟨rfl, rfl⟩
theorem pclone_not {p : Value} (h : NotMade p w) : Calls Tryz.prog 8 #[p] w fun e w' => e = .returned (.pointer none) ∧ w = w' := by
  have HM := Lib.hid (h w (below_same w))
  clear h
  go_enter Tryz.func8, Tryz.ntmps8
  go_wp2_with (go_at_call 24; refine HM.out.mono ?_; rintro e w1 ⟨rfl, rfl⟩)
  go_ret
  exact ⟨rfl, rfl⟩
end
end Go.Proofs.YtgljajoknmgoeaaGreat

namespace Go.Proofs.YtgljajoknmgoeaaGreat
open Go.RowKit
set_option maxRecDepth 100000
attribute [local go_sem] Oper.semAt_some

section
variable {w w' : World} {base P B0 bm n : Nat} {h : ByteArray} {O : List Sp} {F : Lns}
theorem pp_made {w1 : World} {B : Nat} (hb : Below w.heap.size w w1) (hl : Lin w1 B 256 []) (hB : w.heap.size ≤ B) (hm : isMem h = true) :
    PpAt ((w1.alloc (.map #[] 0)).alloc (.cells #[.pointer (some ⟨B, 0, none⟩), .string h, .map (some w1.heap.size)] 58)) w.heap.size (w1.heap.size + 1) B w1.heap.size 0 h [] (fun _ => none) := by
  have e := heap_alloc_new (w1.alloc (.map #[] 0)) (.cells #[.pointer (some ⟨B, 0, none⟩), .string h, .map (some w1.heap.size)] 58)
  rw [World.size_alloc] at e
  have hs := hb.size
  refine ⟨e, ⟨⟨.map [], (World.ownsMap_made w1 _ _ _).alloc _, fun s _ => ⟨rfl, rfl⟩, fun kl h => (by cases h)⟩, ?_, ?_, hs, ?_⟩, hl.on (below_then (below_alloc _ _) (below_alloc _ _)), hB, ?_, by omega, hm⟩
  · intro s B L h
    cases h
  · intro s s' B L L' h
    cases h
  · simp
    omega
  · intro s L h
    cases h
theorem code_pnew_no (s : ByteArray) (hs : s.size ≤ 9223372036854775807) (hM : MaxL w) (hm : isMem s = false) : Calls Tryz.prog 6 #[.string s] w fun e w' => e = .returned (.pointer none) ∧ w = w' := by
  have HMb := Lib.hid (code_member s w hs hM)
  rw [hm] at HMb
  go_enter Tryz.func6, Tryz.ntmps6
  go_wp2_with (go_at_call 21; refine HMb.out.mono ?_; rintro e w1 ⟨rfl, rfl⟩)
  go_ret
  exact ⟨rfl, rfl⟩
set_option maxHeartbeats 400000 in
theorem code_pnew (s : ByteArray) (hM : MaxL w) (hm : isMem s = true) : Calls Tryz.prog 6 #[.string s] w fun e w' => ∃ P B0 bm, e = .returned (.pointer (some ⟨P, 0, none⟩)) ∧ PpAt w' w.heap.size P B0 bm 0 s [] (fun _ => none) ∧ Below w.heap.size w w' := by
  have HMb := Lib.hid (code_member s w (by have := mem_size hm; omega) hM)
  rw [hm] at HMb
  have HN := Lib.hid (code_newLine w)
  have HM := Lib.hid hm
  have hmm := @run_makeMap Tryz.prog
  clear hM hm
  go_enter Tryz.func6, Tryz.ntmps6
  go_wp2_with (first | (go_at_call 21; refine HMb.out.mono ?_; rintro e w1 ⟨rfl, rfl⟩) | (go_at_call 22; refine HN.out.mono ?_; rintro e w1 ⟨B, rfl, h1, h2, h3⟩; have H1 := Lib.hid (And.intro h1 (And.intro h2 h3)); clear h1 h2 h3))
  go_ret
  refine ⟨_, B, w1.heap.size, rfl, ?_, ?_⟩
  · simpa using pp_made H1.out.2.1 H1.out.1 H1.out.2.2 HM.out
  · exact below_then H1.out.2.1 (below_then (below_alloc _ _) (below_alloc _ _))
theorem PpAt.ne0 (H : PpAt w base P B0 bm n h O F) : P ≠ B0 := fun e => by
  obtain ⟨A, c, g0, _⟩ := H.2.2.1
  have := H.1
  rw [e, g0] at this
  injection this with this
  injection this with this
  have := congrArg Array.size this
  simp at this
/-- the choice's line was turned -/
theorem PpAt.chg0 {O2 : List Sp} (H : PpAt w base P B0 bm n h O F) (hc : Chg w w' B0) (hl : Lin w' B0 256 O2) : PpAt w' base P B0 bm n h O2 F := by
  exact ⟨hc.heap H.1 H.ne0, H.2.1.chgNo H.2.2.1 H.2.2.2.2.1 hc, hl, H.2.2.2⟩
set_option maxHeartbeats 400000 in
theorem code_opt_k (H : PpAt w base P B0 bm n h O F) (f u x : Int) : Calls Tryz.prog 10 #[.pointer (some ⟨P, 0, none⟩), .agg #[.int .i64 f, .int .i64 u]] w fun e w' => e = .returned (.int .i64 (setE 256 O f u)) ∧ PpAt w' base P B0 bm n h (setL 256 O (f, u, x)) F ∧ Chg w w' B0 := by
  have hb1 := below_alloc w (.cells #[.int .i64 f, .int .i64 u] 39)
  have H1 := H.on hb1
  obtain ⟨s0, s1, _, _⟩ := row2 (heap_alloc_new w (.cells #[.int .i64 f, .int .i64 u] 39))
  obtain ⟨c0, c1, c2⟩ := row3a H1.1
  have HM := Lib.hid (fun W (hW : Below (w.alloc (.cells #[.int .i64 f, .int .i64 u] 39)).heap.size (w.alloc (.cells #[.int .i64 f, .int .i64 u] 39)) W) => code_pmade (H1.on hW))
  have hbase : base ≤ w.heap.size := H.2.1.2.2.2.2
  have HB1 := Lib.hid (And.intro hb1 (And.intro H1 hbase))
  have HNe : Hid (B0 < w.heap.size) := Lib.hid H.2.2.1.lt
  clear hb1 H H1 hbase
  go_enter Tryz.func10, Tryz.ntmps10
  go_wp2_with (go_at_call 24; refine (HM.out _ (below_same _)).mono ?_; rintro e w1 ⟨rfl, rfl⟩; refine Stop.out ?_)
  unfold Stop
  go_wp2
  have hP0 : P ≠ B0 := HB1.out.2.1.ne0
  have hS0 : w.heap.size ≠ B0 := by have := HB1.out.2.2; have := HNe.out; omega
  refine wp_region_held_drew (S := fun V => V.cell? ⟨P, 0, none⟩ = some (.pointer (some ⟨B0, 0, none⟩)) ∧ V.cell? ⟨w.heap.size, 0, none⟩ = some (.int .i64 f) ∧ V.cell? ⟨w.heap.size, 1, none⟩ = some (.int .i64 u)) (by kernel_rfl) ⟨cell_on (below_drew _) c0, cell_on (below_drew _) s0, cell_on (below_drew _) s1⟩ ?_
  intro hHeld
  have HHo : Hid (∀ V, Below (w.alloc (.cells #[.int .i64 f, .int .i64 u] 39)).drew.heap.size (w.alloc (.cells #[.int .i64 f, .int .i64 u] 39)).drew V → Calls Tryz.prog 28 #[.agg #[.pointer (some ⟨B0, 0, none⟩)], .agg #[.int .i64 f, .int .i64 u]] V fun e w' => e = .returned (.int .i64 (setE 256 O f u)) ∧ Lin w' B0 256 (setL 256 O (f, u, x)) ∧ Chg V w' B0) := Lib.hid (fun V hV => code_hold V B0 O f u x ((HB1.out.2.1.on (below_then (below_drew _) hV)).2.2.1))
  have HBd := Lib.hid (below_drew (w.alloc (.cells #[.int .i64 f, .int .i64 u] 39)))
  clear c0 c1 c2 s0 s1 HM
  generalize hwd : (w.alloc (.cells #[.int .i64 f, .int .i64 u] 39)).drew = wd at HBd HHo hHeld ⊢
  clear hwd
  (refine takeH (i := 0) (v := ?_) rfl (by kernel_rfl) (by kernel_rfl) (by kernel_rfl) (fun _ _ _ h => h) (Or.inl ⟨by rfl, ?_⟩) (by assumption) ?_; rotate_left; (focus ((intro wS hSw); (try dsimp only at hSw); obtain ⟨s0, s1, s2⟩ := hSw; go_simp; (try with_reducible rfl); done)); (try simp only [Act.put, List.setIfInBounds_toArray, List.set_cons_zero, List.set_cons_succ]))
  (refine takeH (i := 1) (v := ?_) rfl (by kernel_rfl) (by kernel_rfl) (by kernel_rfl) (fun _ _ _ h => h) (Or.inl ⟨by rfl, ?_⟩) (by assumption) ?_; rotate_left; (focus ((intro wS hSw); (try dsimp only at hSw); obtain ⟨s0, s1, s2⟩ := hSw; go_simp; (try with_reducible rfl); done)); (try simp only [Act.put, List.setIfInBounds_toArray, List.set_cons_zero, List.set_cons_succ]))
  (refine takeH (i := 2) (v := ?_) rfl (by kernel_rfl) (by kernel_rfl) (by kernel_rfl) (fun _ _ _ h => h) (Or.inl ⟨by rfl, ?_⟩) (by assumption) ?_; rotate_left; (focus ((intro wS hSw); (try dsimp only at hSw); obtain ⟨s0, s1, s2⟩ := hSw; go_simp; (try with_reducible rfl); done)); (try simp only [Act.put, List.setIfInBounds_toArray, List.set_cons_zero, List.set_cons_succ]))
  (refine takeH (i := 3) (v := ?_) rfl (by kernel_rfl) (by kernel_rfl) (by kernel_rfl) (fun _ _ _ h => h) (Or.inl ⟨by rfl, ?_⟩) (by assumption) ?_; rotate_left; (focus ((intro wS hSw); (try dsimp only at hSw); obtain ⟨s0, s1, s2⟩ := hSw; go_simp; (try with_reducible rfl); done)); (try simp only [Act.put, List.setIfInBounds_toArray, List.set_cons_zero, List.set_cons_succ]))
  (refine takeH (i := 4) (v := ?_) rfl (by kernel_rfl) (by kernel_rfl) (by kernel_rfl) (fun _ _ _ h => h) (Or.inl ⟨by rfl, ?_⟩) (by assumption) ?_; rotate_left; (focus ((intro wS hSw); (try dsimp only at hSw); obtain ⟨s0, s1, s2⟩ := hSw; go_simp; (try with_reducible rfl); done)); (try simp only [Act.put, List.setIfInBounds_toArray, List.set_cons_zero, List.set_cons_succ]))
  refine aloneH (i := 5) rfl (by kernel_rfl) (fun K hK => ?_)
  rw [if_pos (by rfl)]
  go_simp; ((refine (HHo.out _ (below_same wd)).mono ?_); (rintro e w1 ⟨rfl, hl, hc⟩); have HC := Lib.hid (And.intro hl hc); clear hl hc; (try go_simp))
  refine hK.out _ _ (⟨HC.out.2.cell hHeld.1 hP0, HC.out.2.cell hHeld.2.1 hS0, HC.out.2.cell hHeld.2.2 hS0⟩) (fun hNew => ?_)
  clear hK K hHeld; (have hHeld := hNew); clear hNew; (try simp only [Act.put, List.setIfInBounds_toArray, List.set_cons_zero, List.set_cons_succ])
  (refine takeH (i := 6) (v := ?_) rfl (by kernel_rfl) (by kernel_rfl) (by kernel_rfl) (fun _ _ _ h => h) (Or.inl ⟨by rfl, ?_⟩) (by assumption) ?_; rotate_left; (focus ((intro wS hSw); (try dsimp only at hSw); obtain ⟨s0, s1, s2⟩ := hSw; go_simp; (try with_reducible rfl); done)); (try simp only [Act.put, List.setIfInBounds_toArray, List.set_cons_zero, List.set_cons_succ]))
  refine wpAnyH_done (by kernel_rfl) ?_ _
  clear hHeld
  go_wp2
  go_ret
  exact ⟨rfl, (HB1.out.2.1.on HBd.out).chg0 HC.out.2 HC.out.1, (Chg.of_below (below_then HB1.out.1 HBd.out)).trans HC.out.2⟩
theorem code_opt (H : PpAt w base P B0 bm n h O F) (f u x : Int) : Calls Tryz.prog 10 #[.pointer (some ⟨P, 0, none⟩), .agg #[.int .i64 f, .int .i64 u]] w fun e w' => e = .returned (.int .i64 (setE 256 O f u)) ∧ PpAt w' base P B0 bm n h (setL 256 O (f, u, x)) F ∧ Below base w w' :=
  (code_opt_k H f u x).mono fun _ _ ⟨a, b, c⟩ => ⟨a, b, c.below H.2.1.2.2.2.2 H.2.2.2.1⟩
end
end Go.Proofs.YtgljajoknmgoeaaGreat
