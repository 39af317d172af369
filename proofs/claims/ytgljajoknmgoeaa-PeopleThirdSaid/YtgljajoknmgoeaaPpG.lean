/- People: made; the choice; who is a taxable person. -/
import Derived.Test.YtgljajoknmgoeaaPpE
namespace Go.Proofs.Ytgljajoknmgoeaa
open Go.RowKit
set_option maxRecDepth 100000
attribute [local go_sem] Oper.semAt_some

section
variable {w w' : World} {base P B0 bm n : Nat} {h : ByteArray} {O : List Sp} {F : Lns}
theorem pp_made {w1 : World} {B : Nat} (hb : Below w.heap.size w w1) (hl : Lin w1 B 256 []) (hB : w.heap.size ≤ B) (hm : isMem h = true) :
    PpAt ((w1.alloc (.map #[] 0)).alloc (.cells #[.pointer (some ⟨B, 0, none⟩), .string h, .map (some w1.heap.size)] 45)) w.heap.size (w1.heap.size + 1) B w1.heap.size 0 h [] (fun _ => none) := by
  have e := heap_alloc_new (w1.alloc (.map #[] 0)) (.cells #[.pointer (some ⟨B, 0, none⟩), .string h, .map (some w1.heap.size)] 45)
  rw [World.size_alloc] at e
  have hs := hb.size
  refine ⟨e, ⟨⟨.map [], (World.ownsMap_made w1 _ _ _).alloc _, fun s _ => ⟨rfl, rfl⟩, fun kl h => (by cases h)⟩, ?_, ?_, hs, ?_⟩, hl.on (below_then (below_alloc _ _) (below_alloc _ _)), hB, ?_, by omega, hm⟩
  · intro s B L h
    cases h
  · intro s s' B L L' h
    cases h
  · simp
    omega
  · intro s L h
    cases h
theorem code_pnew_no (s : ByteArray) (hs : s.size ≤ 9223372036854775807) (hM : MaxL w) (hm : isMem s = false) : Calls Try.prog 8 #[.string s] w fun e w' => e = .returned (.pointer none) ∧ w = w' := by
  have HMb := Lib.hid (code_member s w hs hM)
  rw [hm] at HMb
  go_enter Try.func8, Try.ntmps8
  go_wp2_with (go_at_call 18; refine HMb.out.mono ?_; rintro e w1 ⟨rfl, rfl⟩)
  go_ret
  exact ⟨rfl, rfl⟩
set_option maxHeartbeats 400000 in
theorem code_pnew (s : ByteArray) (hM : MaxL w) (hm : isMem s = true) : Calls Try.prog 8 #[.string s] w fun e w' => ∃ P B0 bm, e = .returned (.pointer (some ⟨P, 0, none⟩)) ∧ PpAt w' w.heap.size P B0 bm 0 s [] (fun _ => none) ∧ Below w.heap.size w w' := by
  have HMb := Lib.hid (code_member s w (by have := mem_size hm; omega) hM)
  rw [hm] at HMb
  have HN := Lib.hid (code_newLine w)
  have HM := Lib.hid hm
  have hmm := @run_makeMap Try.prog
  clear hM hm
  go_enter Try.func8, Try.ntmps8
  go_wp2_with (first | (go_at_call 18; refine HMb.out.mono ?_; rintro e w1 ⟨rfl, rfl⟩) | (go_at_call 19; refine HN.out.mono ?_; rintro e w1 ⟨B, rfl, h1, h2, h3⟩; have H1 := Lib.hid (And.intro h1 (And.intro h2 h3)); clear h1 h2 h3))
  go_ret
  refine ⟨_, B, w1.heap.size, rfl, ?_, ?_⟩
  · simpa using pp_made H1.out.2.1 H1.out.1 H1.out.2.2 HM.out
  · exact below_then H1.out.2.1 (below_then (below_alloc _ _) (below_alloc _ _))
theorem PpAt.ne0 (H : PpAt w base P B0 bm n h O F) : P ≠ B0 := fun e => by
  obtain ⟨A, c, g0, _⟩ := H.2.2.1
  have := H.1
  rw [e, g0] at this
  injection this with this
  injection this with this
  have := congrArg Array.size this
  simp at this
/-- the choice's line was turned -/
theorem PpAt.chg0 {O2 : List Sp} (H : PpAt w base P B0 bm n h O F) (hc : Chg w w' B0) (hl : Lin w' B0 256 O2) : PpAt w' base P B0 bm n h O2 F := by
  exact ⟨hc.heap H.1 H.ne0, H.2.1.chgNo H.2.2.1 H.2.2.2.2.1 hc, hl, H.2.2.2⟩
set_option maxHeartbeats 400000 in
theorem code_opt (H : PpAt w base P B0 bm n h O F) (f u x : Int) : Calls Try.prog 14 #[.pointer (some ⟨P, 0, none⟩), .agg #[.int .i64 f, .int .i64 u]] w fun e w' => e = .returned (.int .i64 (setE 256 O f u)) ∧ PpAt w' base P B0 bm n h (setL 256 O (f, u, x)) F ∧ Below base w w' := by
  have hb1 := below_alloc w (.cells #[.int .i64 f, .int .i64 u] 35)
  have H1 := H.on hb1
  obtain ⟨s0, s1, _, _⟩ := row2 (heap_alloc_new w (.cells #[.int .i64 f, .int .i64 u] 35))
  obtain ⟨c0, c1, c2⟩ := row3a H1.1
  have HM := Lib.hid (fun W (hW : Below (w.alloc (.cells #[.int .i64 f, .int .i64 u] 35)).heap.size (w.alloc (.cells #[.int .i64 f, .int .i64 u] 35)) W) => code_pmade (H1.on hW))
  have hbase : base ≤ w.heap.size := H.2.1.2.2.2.2
  have HB1 := Lib.hid (And.intro hb1 (And.intro H1 hbase))
  have HNe : Hid (B0 < w.heap.size) := Lib.hid H.2.2.1.lt
  clear hb1 H H1 hbase
  go_enter Try.func14, Try.ntmps14
  go_wp2_with (go_at_call 20; refine (HM.out _ (below_same _)).mono ?_; rintro e w1 ⟨rfl, rfl⟩; refine Stop.out ?_)
  unfold Stop
  go_wp2
  have hP0 : P ≠ B0 := HB1.out.2.1.ne0
  have hS0 : w.heap.size ≠ B0 := by have := HB1.out.2.2; have := HNe.out; omega
  refine wp_region_held_drew (S := fun V => V.cell? ⟨P, 0, none⟩ = some (.pointer (some ⟨B0, 0, none⟩)) ∧ V.cell? ⟨w.heap.size, 0, none⟩ = some (.int .i64 f) ∧ V.cell? ⟨w.heap.size, 1, none⟩ = some (.int .i64 u)) (by kernel_rfl) ⟨cell_on (below_drew _) c0, cell_on (below_drew _) s0, cell_on (below_drew _) s1⟩ ?_
  intro hHeld
  have HHo : Hid (∀ V, Below (w.alloc (.cells #[.int .i64 f, .int .i64 u] 35)).drew.heap.size (w.alloc (.cells #[.int .i64 f, .int .i64 u] 35)).drew V → Calls Try.prog 22 #[.agg #[.pointer (some ⟨B0, 0, none⟩)], .agg #[.int .i64 f, .int .i64 u]] V fun e w' => e = .returned (.int .i64 (setE 256 O f u)) ∧ Lin w' B0 256 (setL 256 O (f, u, x)) ∧ Chg V w' B0) := Lib.hid (fun V hV => code_hold V B0 O f u x ((HB1.out.2.1.on (below_then (below_drew _) hV)).2.2.1))
  have HBd := Lib.hid (below_drew (w.alloc (.cells #[.int .i64 f, .int .i64 u] 35)))
  clear c0 c1 c2 s0 s1 HM
  generalize hwd : (w.alloc (.cells #[.int .i64 f, .int .i64 u] 35)).drew = wd at HBd HHo hHeld ⊢
  clear hwd
  (refine takeH (i := 0) (v := ?_) rfl (by kernel_rfl) (by kernel_rfl) (by kernel_rfl) (fun _ _ _ h => h) (Or.inl ⟨by rfl, ?_⟩) (by assumption) ?_; rotate_left; (focus ((intro wS hSw); (try dsimp only at hSw); obtain ⟨s0, s1, s2⟩ := hSw; go_simp; (try with_reducible rfl); done)); (try simp only [Act.put, List.setIfInBounds_toArray, List.set_cons_zero, List.set_cons_succ]))
  (refine takeH (i := 1) (v := ?_) rfl (by kernel_rfl) (by kernel_rfl) (by kernel_rfl) (fun _ _ _ h => h) (Or.inl ⟨by rfl, ?_⟩) (by assumption) ?_; rotate_left; (focus ((intro wS hSw); (try dsimp only at hSw); obtain ⟨s0, s1, s2⟩ := hSw; go_simp; (try with_reducible rfl); done)); (try simp only [Act.put, List.setIfInBounds_toArray, List.set_cons_zero, List.set_cons_succ]))
  (refine takeH (i := 2) (v := ?_) rfl (by kernel_rfl) (by kernel_rfl) (by kernel_rfl) (fun _ _ _ h => h) (Or.inl ⟨by rfl, ?_⟩) (by assumption) ?_; rotate_left; (focus ((intro wS hSw); (try dsimp only at hSw); obtain ⟨s0, s1, s2⟩ := hSw; go_simp; (try with_reducible rfl); done)); (try simp only [Act.put, List.setIfInBounds_toArray, List.set_cons_zero, List.set_cons_succ]))
  (refine takeH (i := 3) (v := ?_) rfl (by kernel_rfl) (by kernel_rfl) (by kernel_rfl) (fun _ _ _ h => h) (Or.inl ⟨by rfl, ?_⟩) (by assumption) ?_; rotate_left; (focus ((intro wS hSw); (try dsimp only at hSw); obtain ⟨s0, s1, s2⟩ := hSw; go_simp; (try with_reducible rfl); done)); (try simp only [Act.put, List.setIfInBounds_toArray, List.set_cons_zero, List.set_cons_succ]))
  (refine takeH (i := 4) (v := ?_) rfl (by kernel_rfl) (by kernel_rfl) (by kernel_rfl) (fun _ _ _ h => h) (Or.inl ⟨by rfl, ?_⟩) (by assumption) ?_; rotate_left; (focus ((intro wS hSw); (try dsimp only at hSw); obtain ⟨s0, s1, s2⟩ := hSw; go_simp; (try with_reducible rfl); done)); (try simp only [Act.put, List.setIfInBounds_toArray, List.set_cons_zero, List.set_cons_succ]))
  refine aloneH (i := 5) rfl (by kernel_rfl) (fun K hK => ?_)
  rw [if_pos (by rfl)]
  go_simp; ((refine (HHo.out _ (below_same wd)).mono ?_); (rintro e w1 ⟨rfl, hl, hc⟩); have HC := Lib.hid (And.intro hl hc); clear hl hc; (try go_simp))
  refine hK.out _ _ (⟨HC.out.2.cell hHeld.1 hP0, HC.out.2.cell hHeld.2.1 hS0, HC.out.2.cell hHeld.2.2 hS0⟩) (fun hNew => ?_)
  clear hK K hHeld; (have hHeld := hNew); clear hNew; (try simp only [Act.put, List.setIfInBounds_toArray, List.set_cons_zero, List.set_cons_succ])
  (refine takeH (i := 6) (v := ?_) rfl (by kernel_rfl) (by kernel_rfl) (by kernel_rfl) (fun _ _ _ h => h) (Or.inl ⟨by rfl, ?_⟩) (by assumption) ?_; rotate_left; (focus ((intro wS hSw); (try dsimp only at hSw); obtain ⟨s0, s1, s2⟩ := hSw; go_simp; (try with_reducible rfl); done)); (try simp only [Act.put, List.setIfInBounds_toArray, List.set_cons_zero, List.set_cons_succ]))
  refine wpAnyH_done (by kernel_rfl) ?_ _
  clear hHeld
  go_wp2
  go_ret
  exact ⟨rfl, (HB1.out.2.1.on HBd.out).chg0 HC.out.2 HC.out.1, (HB1.out.1.mono HB1.out.2.2).trans ((HBd.out.mono (Nat.le_trans HB1.out.2.2 HB1.out.1.size)).trans (HC.out.2.below (Nat.le_trans HB1.out.2.2 (Nat.le_trans HB1.out.1.size HBd.out.size)) HB1.out.2.1.2.2.2.1))⟩
end
end Go.Proofs.Ytgljajoknmgoeaa
