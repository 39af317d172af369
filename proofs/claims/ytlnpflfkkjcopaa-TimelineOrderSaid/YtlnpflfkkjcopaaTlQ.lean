/- The statement on the order in which spans are set, walked. -/
import Derived.Test.YtlnpflfkkjcopaaTlP
namespace Go.Proofs.Ytlnpflfkkjcopaa
open Go.RowKit
set_option maxRecDepth 100000

/-- the statement's two boxes -/
def OBox (w : World) (f u x g v y : Int) (W : World) : Prop :=
  W.heap[w.heap.size]? = some (.cells #[.int .i64 f, .int .i64 u, .int .i64 x] 29 (0, 0)) ∧ W.heap[w.heap.size + 1]? = some (.cells #[.int .i64 g, .int .i64 v, .int .i64 y] 29 (0, 0)) ∧ Below w.heap.size w W
theorem OBox.on {w W V : World} {f u x g v y : Int} (h : OBox w f u x g v y W) (hb : Below W.heap.size W V) : OBox w f u x g v y V := ⟨heap_on hb h.1, heap_on hb h.2.1, below_then h.2.2 hb⟩
theorem order_boxes (w : World) (f u x g v y : Int) : OBox w f u x g v y ((w.alloc (.cells #[.int .i64 f, .int .i64 u, .int .i64 x] 29)).alloc (.cells #[.int .i64 g, .int .i64 v, .int .i64 y] 29)) := by
  have e1 := heap_alloc_new w (.cells #[.int .i64 f, .int .i64 u, .int .i64 x] 29)
  have e2 := heap_alloc_new (w.alloc (.cells #[.int .i64 f, .int .i64 u, .int .i64 x] 29)) (.cells #[.int .i64 g, .int .i64 v, .int .i64 y] 29)
  simp only [World.size_alloc] at e2
  exact ⟨heap_on (below_alloc _ _) e1, e2, below_then (below_alloc _ _) (below_alloc _ _)⟩
theorem row3 {W : World} {g : Nat} {a b c : Value} {t : TypeId} (h : W.heap[g]? = some (.cells #[a, b, c] t (0, 0))) : W.cell? ⟨g, 0, none⟩ = some a ∧ W.cell? ⟨g, 1, none⟩ = some b ∧ W.cell? ⟨g, 2, none⟩ = some c := by
  have h0 := cell_of_row W g 0 _ _ _ h
  have h1 := cell_of_row W g 1 _ _ _ h
  have h2 := cell_of_row W g 2 _ _ _ h
  exact ⟨h0, h1, h2⟩
theorem OBox.cells {w W : World} {f u x g v y : Int} (h : OBox w f u x g v y W) : W.cell? ⟨w.heap.size, 0, none⟩ = some (.int .i64 f) ∧ W.cell? ⟨w.heap.size, 1, none⟩ = some (.int .i64 u) ∧ W.cell? ⟨w.heap.size, 2, none⟩ = some (.int .i64 x) ∧ W.cell? ⟨w.heap.size + 1, 0, none⟩ = some (.int .i64 g) ∧ W.cell? ⟨w.heap.size + 1, 1, none⟩ = some (.int .i64 v) ∧ W.cell? ⟨w.heap.size + 1, 2, none⟩ = some (.int .i64 y) := by
  obtain ⟨a0, a1, a2⟩ := row3 h.1
  obtain ⟨b0, b1, b2⟩ := row3 h.2.1
  exact ⟨a0, a1, a2, b0, b1, b2⟩
theorem hS_drew {w : World} {a b c d e f : Value} {p q r s t o : Addr} (h : w.cell? p = some a ∧ w.cell? q = some b ∧ w.cell? r = some c ∧ w.cell? s = some d ∧ w.cell? t = some e ∧ w.cell? o = some f) :
    w.drew.cell? p = some a ∧ w.drew.cell? q = some b ∧ w.drew.cell? r = some c ∧ w.drew.cell? s = some d ∧ w.drew.cell? t = some e ∧ w.drew.cell? o = some f :=
  ⟨cell_on (below_drew _) h.1, cell_on (below_drew _) h.2.1, cell_on (below_drew _) h.2.2.1, cell_on (below_drew _) h.2.2.2.1, cell_on (below_drew _) h.2.2.2.2.1, cell_on (below_drew _) h.2.2.2.2.2⟩
theorem order_ne {w wa w1 : World} {a b : Obj} {Bl Bm : Nat} (h1 : ((w.alloc a).alloc b).heap.size ≤ Bl) (h2 : w1.heap.size ≤ Bm) (h3 : Bl < w1.heap.size) (_ : w.heap.size ≤ wa.heap.size) :
    w.heap.size ≠ Bl ∧ w.heap.size + 1 ≠ Bl ∧ w.heap.size ≠ Bm ∧ Bl ≠ Bm ∧ Bm ≠ Bl ∧ w.heap.size ≤ Bl ∧ w.heap.size ≤ Bm := by
  simp only [World.size_alloc] at h1
  omega
theorem order_nm {w w1 : World} {a b : Obj} {Bl Bm : Nat} (h1 : ((w.alloc a).alloc b).heap.size ≤ Bl) (h2 : w1.heap.size ≤ Bm) (h3 : Bl < w1.heap.size) : w.heap.size ≠ Bm ∧ w.heap.size + 1 ≠ Bm := by
  simp only [World.size_alloc] at h1
  omega

set_option maxHeartbeats 1000000 in
theorem order_1 (f u x g v y day : Int) (w : World) (E2 E3 E4 : Int) (L1 L2 M1 M2 : List Sp) 
    (H1 : Hid (∀ W B, Lin W B 2 [] → Calls Try.prog 19 #[.pointer (some ⟨B, 0, none⟩), .agg #[.int .i64 f, .int .i64 u, .int .i64 x]] W fun e w' => e = .returned (.int .i64 30) ∧ Lin w' B 2 L1 ∧ Chg W w' B))
    (H2 : Hid (∀ W B, Lin W B 2 L1 → Calls Try.prog 19 #[.pointer (some ⟨B, 0, none⟩), .agg #[.int .i64 g, .int .i64 v, .int .i64 y]] W fun e w' => e = .returned (.int .i64 E2) ∧ Lin w' B 2 L2 ∧ Chg W w' B))
    (G1 : Hid (∀ W B, Lin W B 2 [] → Calls Try.prog 19 #[.pointer (some ⟨B, 0, none⟩), .agg #[.int .i64 g, .int .i64 v, .int .i64 y]] W fun e w' => e = .returned (.int .i64 E3) ∧ Lin w' B 2 M1 ∧ Chg W w' B))
    (G2 : Hid (∀ W B, Lin W B 2 M1 → Calls Try.prog 19 #[.pointer (some ⟨B, 0, none⟩), .agg #[.int .i64 f, .int .i64 u, .int .i64 x]] W fun e w' => e = .returned (.int .i64 E4) ∧ Lin w' B 2 M2 ∧ Chg W w' B)) :
    Calls Try.prog 5 #[.agg #[.int .i64 f, .int .i64 u, .int .i64 x], .agg #[.int .i64 g, .int .i64 v, .int .i64 y], .int .i64 day] w fun e w' => e = .returned (.bool true) ∧ Below w.heap.size w w' := by
  have HBx := Lib.hid (order_boxes w f u x g v y)
  go_enter Try.func5, Try.ntmps5
  go_wp2_with (go_at_call 10; refine (code_lnew _ 2 (by decide) (by decide)).mono ?_; rintro e w1 ⟨Bl, rfl, h1, hb1, hB⟩; have HN1 := Lib.hid (And.intro h1 (And.intro (HBx.out.on hb1) hB)); clear h1 hb1 hB; refine Stop.out ?_)
  unfold Stop
  go_wp2_with (go_at_call 10; refine (code_lnew _ 2 (by decide) (by decide)).mono ?_; rintro e w2 ⟨Bm, rfl, h1, hb1, hB⟩; have HN2 := Lib.hid (And.intro (HN1.out.1.on hb1) (And.intro h1 (And.intro (HN1.out.2.1.on hb1) hB))); clear h1 hb1 hB; refine Stop.out ?_)
  unfold Stop
  have HNe : Hid (w.heap.size ≠ Bl ∧ w.heap.size + 1 ≠ Bl ∧ w.heap.size ≠ Bm ∧ Bl ≠ Bm ∧ Bm ≠ Bl ∧ w.heap.size ≤ Bl ∧ w.heap.size ≤ Bm) := Lib.hid (order_ne HN1.out.2.2 HN2.out.2.2.2 HN1.out.1.lt HN1.out.2.1.2.2.size)
  have HNm : Hid (w.heap.size ≠ Bm ∧ w.heap.size + 1 ≠ Bm) := Lib.hid (order_nm HN1.out.2.2 HN2.out.2.2.2 HN1.out.1.lt)
  go_wp2
  refine wp_region_held_drew (S := fun W => W.cell? ⟨w.heap.size, 0, none⟩ = some (.int .i64 f) ∧ W.cell? ⟨w.heap.size, 1, none⟩ = some (.int .i64 u) ∧ W.cell? ⟨w.heap.size, 2, none⟩ = some (.int .i64 x) ∧ W.cell? ⟨w.heap.size + 1, 0, none⟩ = some (.int .i64 g) ∧ W.cell? ⟨w.heap.size + 1, 1, none⟩ = some (.int .i64 v) ∧ W.cell? ⟨w.heap.size + 1, 2, none⟩ = some (.int .i64 y)) (by kernel_rfl) (hS_drew HN2.out.2.2.1.cells) ?_
  intro hHeld
  have HF0 : Hid (Lin w2.drew Bl 2 [] ∧ Lin w2.drew Bm 2 [] ∧ Below w.heap.size w w2.drew) := Lib.hid ⟨HN2.out.1.on (below_drew _), HN2.out.2.1.on (below_drew _), below_then HN2.out.2.2.1.2.2 (below_drew _)⟩
  clear HN1 HN2 HBx
  generalize w2.drew = w0 at HF0 hHeld ⊢
  (refine takeH (i := 0) (v := ?_) rfl (by kernel_rfl) (by kernel_rfl) (by kernel_rfl) (fun _ _ _ h => h) (Or.inl ⟨by rfl, ?_⟩) (by assumption) ?_; rotate_left; (focus ((intro wS hSw); (try dsimp only at hSw); obtain ⟨s0, s1, s2, s3, s4, s5⟩ := hSw; go_simp; (try with_reducible rfl); done)); (try simp only [Act.put, List.setIfInBounds_toArray, List.set_cons_zero, List.set_cons_succ]))
  (refine takeH (i := 1) (v := ?_) rfl (by kernel_rfl) (by kernel_rfl) (by kernel_rfl) (fun _ _ _ h => h) (Or.inl ⟨by rfl, ?_⟩) (by assumption) ?_; rotate_left; (focus ((intro wS hSw); (try dsimp only at hSw); obtain ⟨s0, s1, s2, s3, s4, s5⟩ := hSw; go_simp; (try with_reducible rfl); done)); (try simp only [Act.put, List.setIfInBounds_toArray, List.set_cons_zero, List.set_cons_succ]))
  (refine takeH (i := 2) (v := ?_) rfl (by kernel_rfl) (by kernel_rfl) (by kernel_rfl) (fun _ _ _ h => h) (Or.inl ⟨by rfl, ?_⟩) (by assumption) ?_; rotate_left; (focus ((intro wS hSw); (try dsimp only at hSw); obtain ⟨s0, s1, s2, s3, s4, s5⟩ := hSw; go_simp; (try with_reducible rfl); done)); (try simp only [Act.put, List.setIfInBounds_toArray, List.set_cons_zero, List.set_cons_succ]))
  (refine takeH (i := 4) (v := ?_) rfl (by kernel_rfl) (by kernel_rfl) (by kernel_rfl) (fun _ _ _ h => h) (Or.inl ⟨by rfl, ?_⟩) (by assumption) ?_; rotate_left; (focus ((intro wS hSw); (try dsimp only at hSw); obtain ⟨s0, s1, s2, s3, s4, s5⟩ := hSw; go_simp; (try with_reducible rfl); done)); (try simp only [Act.put, List.setIfInBounds_toArray, List.set_cons_zero, List.set_cons_succ]))
  (refine takeH (i := 5) (v := ?_) rfl (by kernel_rfl) (by kernel_rfl) (by kernel_rfl) (fun _ _ _ h => h) (Or.inl ⟨by rfl, ?_⟩) (by assumption) ?_; rotate_left; (focus ((intro wS hSw); (try dsimp only at hSw); obtain ⟨s0, s1, s2, s3, s4, s5⟩ := hSw; go_simp; (try with_reducible rfl); done)); (try simp only [Act.put, List.setIfInBounds_toArray, List.set_cons_zero, List.set_cons_succ]))
  (refine takeH (i := 6) (v := ?_) rfl (by kernel_rfl) (by kernel_rfl) (by kernel_rfl) (fun _ _ _ h => h) (Or.inl ⟨by rfl, ?_⟩) (by assumption) ?_; rotate_left; (focus ((intro wS hSw); (try dsimp only at hSw); obtain ⟨s0, s1, s2, s3, s4, s5⟩ := hSw; go_simp; (try with_reducible rfl); done)); (try simp only [Act.put, List.setIfInBounds_toArray, List.set_cons_zero, List.set_cons_succ]))
  refine aloneH (i := 3) rfl (by kernel_rfl) (fun K hK => ?_)
  rw [if_pos (by rfl)]
  go_simp
  refine (H1.out w0 Bl HF0.out.1).mono ?_
  rintro e w1 ⟨rfl, hl, hc⟩
  have HC1 := Lib.hid (And.intro hl hc)
  clear hl hc
  (try go_simp)
  refine hK.out _ _ (⟨HC1.out.2.cell hHeld.1 HNe.out.1, HC1.out.2.cell hHeld.2.1 HNe.out.1, HC1.out.2.cell hHeld.2.2.1 HNe.out.1, HC1.out.2.cell hHeld.2.2.2.1 HNe.out.2.1, HC1.out.2.cell hHeld.2.2.2.2.1 HNe.out.2.1, HC1.out.2.cell hHeld.2.2.2.2.2 HNe.out.2.1⟩) (fun hNew => ?_)
  clear hK K hHeld; (have hHeld := hNew); clear hNew; (try simp only [Act.put, List.setIfInBounds_toArray, List.set_cons_zero, List.set_cons_succ])
  refine aloneH (i := 7) rfl (by kernel_rfl) (fun K hK => ?_)
  rw [if_pos (by rfl)]
  go_simp
  refine (H2.out w1 Bl HC1.out.1).mono ?_
  rintro e w2 ⟨rfl, hl, hc⟩
  have HC2 := Lib.hid (And.intro hl hc)
  clear hl hc
  (try go_simp)
  refine hK.out _ _ (⟨HC2.out.2.cell hHeld.1 HNe.out.1, HC2.out.2.cell hHeld.2.1 HNe.out.1, HC2.out.2.cell hHeld.2.2.1 HNe.out.1, HC2.out.2.cell hHeld.2.2.2.1 HNe.out.2.1, HC2.out.2.cell hHeld.2.2.2.2.1 HNe.out.2.1, HC2.out.2.cell hHeld.2.2.2.2.2 HNe.out.2.1⟩) (fun hNew => ?_)
  clear hK K hHeld; (have hHeld := hNew); clear hNew; (try simp only [Act.put, List.setIfInBounds_toArray, List.set_cons_zero, List.set_cons_succ])
  (refine takeH (i := 8) (v := ?_) rfl (by kernel_rfl) (by kernel_rfl) (by kernel_rfl) (fun _ _ _ h => h) (Or.inl ⟨by rfl, ?_⟩) (by assumption) ?_; rotate_left; (focus ((intro wS hSw); (try dsimp only at hSw); obtain ⟨s0, s1, s2, s3, s4, s5⟩ := hSw; go_simp; (try with_reducible rfl); done)); (try simp only [Act.put, List.setIfInBounds_toArray, List.set_cons_zero, List.set_cons_succ]))
  (refine takeH (i := 9) (v := ?_) rfl (by kernel_rfl) (by kernel_rfl) (by kernel_rfl) (fun _ _ _ h => h) (Or.inl ⟨by rfl, ?_⟩) (by assumption) ?_; rotate_left; (focus ((intro wS hSw); (try dsimp only at hSw); obtain ⟨s0, s1, s2, s3, s4, s5⟩ := hSw; go_simp; (try with_reducible rfl); done)); (try simp only [Act.put, List.setIfInBounds_toArray, List.set_cons_zero, List.set_cons_succ]))
  refine wpAnyH_done (by kernel_rfl) ?_ _
  have HS6 : Hid (w2.cell? ⟨w.heap.size, 0, none⟩ = some (.int .i64 f) ∧ w2.cell? ⟨w.heap.size, 1, none⟩ = some (.int .i64 u) ∧ w2.cell? ⟨w.heap.size, 2, none⟩ = some (.int .i64 x) ∧ w2.cell? ⟨w.heap.size + 1, 0, none⟩ = some (.int .i64 g) ∧ w2.cell? ⟨w.heap.size + 1, 1, none⟩ = some (.int .i64 v) ∧ w2.cell? ⟨w.heap.size + 1, 2, none⟩ = some (.int .i64 y)) := Lib.hid hHeld
  clear hHeld
  have HL6 : Hid (Lin w2 Bl 2 L2 ∧ Lin w2 Bm 2 [] ∧ Below w.heap.size w w2) := Lib.hid ⟨HC2.out.1, (HF0.out.2.1.chg HF0.out.1 HC1.out.2 HNe.out.2.2.2.2.1).chg HC1.out.1 HC2.out.2 HNe.out.2.2.2.2.1, (HF0.out.2.2.trans (HC1.out.2.below HF0.out.2.2.size HNe.out.2.2.2.2.2.1)).trans (HC2.out.2.below (Nat.le_trans HF0.out.2.2.size HC1.out.2.size) HNe.out.2.2.2.2.2.1)⟩
  go_wp2
  refine wp_region_held_drew (S := fun W => W.cell? ⟨w.heap.size, 0, none⟩ = some (.int .i64 f) ∧ W.cell? ⟨w.heap.size, 1, none⟩ = some (.int .i64 u) ∧ W.cell? ⟨w.heap.size, 2, none⟩ = some (.int .i64 x) ∧ W.cell? ⟨w.heap.size + 1, 0, none⟩ = some (.int .i64 g) ∧ W.cell? ⟨w.heap.size + 1, 1, none⟩ = some (.int .i64 v) ∧ W.cell? ⟨w.heap.size + 1, 2, none⟩ = some (.int .i64 y)) (by kernel_rfl) (hS_drew HS6.out) ?_
  intro hHeld
  have HF6 : Hid (Lin w2.drew Bl 2 L2 ∧ Lin w2.drew Bm 2 [] ∧ Below w.heap.size w w2.drew) := Lib.hid ⟨HL6.out.1.on (below_drew _), HL6.out.2.1.on (below_drew _), below_then HL6.out.2.2 (below_drew _)⟩
  clear HC1 HC2 HL6 HS6 HF0
  generalize w2.drew = w0 at HF6 hHeld ⊢
  (refine takeH (i := 0) (v := ?_) rfl (by kernel_rfl) (by kernel_rfl) (by kernel_rfl) (fun _ _ _ h => h) (Or.inl ⟨by rfl, ?_⟩) (by assumption) ?_; rotate_left; (focus ((intro wS hSw); (try dsimp only at hSw); obtain ⟨s0, s1, s2, s3, s4, s5⟩ := hSw; go_simp; (try with_reducible rfl); done)); (try simp only [Act.put, List.setIfInBounds_toArray, List.set_cons_zero, List.set_cons_succ]))
  (refine takeH (i := 1) (v := ?_) rfl (by kernel_rfl) (by kernel_rfl) (by kernel_rfl) (fun _ _ _ h => h) (Or.inl ⟨by rfl, ?_⟩) (by assumption) ?_; rotate_left; (focus ((intro wS hSw); (try dsimp only at hSw); obtain ⟨s0, s1, s2, s3, s4, s5⟩ := hSw; go_simp; (try with_reducible rfl); done)); (try simp only [Act.put, List.setIfInBounds_toArray, List.set_cons_zero, List.set_cons_succ]))
  (refine takeH (i := 2) (v := ?_) rfl (by kernel_rfl) (by kernel_rfl) (by kernel_rfl) (fun _ _ _ h => h) (Or.inl ⟨by rfl, ?_⟩) (by assumption) ?_; rotate_left; (focus ((intro wS hSw); (try dsimp only at hSw); obtain ⟨s0, s1, s2, s3, s4, s5⟩ := hSw; go_simp; (try with_reducible rfl); done)); (try simp only [Act.put, List.setIfInBounds_toArray, List.set_cons_zero, List.set_cons_succ]))
  (refine takeH (i := 4) (v := ?_) rfl (by kernel_rfl) (by kernel_rfl) (by kernel_rfl) (fun _ _ _ h => h) (Or.inl ⟨by rfl, ?_⟩) (by assumption) ?_; rotate_left; (focus ((intro wS hSw); (try dsimp only at hSw); obtain ⟨s0, s1, s2, s3, s4, s5⟩ := hSw; go_simp; (try with_reducible rfl); done)); (try simp only [Act.put, List.setIfInBounds_toArray, List.set_cons_zero, List.set_cons_succ]))
  (refine takeH (i := 5) (v := ?_) rfl (by kernel_rfl) (by kernel_rfl) (by kernel_rfl) (fun _ _ _ h => h) (Or.inl ⟨by rfl, ?_⟩) (by assumption) ?_; rotate_left; (focus ((intro wS hSw); (try dsimp only at hSw); obtain ⟨s0, s1, s2, s3, s4, s5⟩ := hSw; go_simp; (try with_reducible rfl); done)); (try simp only [Act.put, List.setIfInBounds_toArray, List.set_cons_zero, List.set_cons_succ]))
  (refine takeH (i := 6) (v := ?_) rfl (by kernel_rfl) (by kernel_rfl) (by kernel_rfl) (fun _ _ _ h => h) (Or.inl ⟨by rfl, ?_⟩) (by assumption) ?_; rotate_left; (focus ((intro wS hSw); (try dsimp only at hSw); obtain ⟨s0, s1, s2, s3, s4, s5⟩ := hSw; go_simp; (try with_reducible rfl); done)); (try simp only [Act.put, List.setIfInBounds_toArray, List.set_cons_zero, List.set_cons_succ]))
  refine aloneH (i := 3) rfl (by kernel_rfl) (fun K hK => ?_)
  rw [if_pos (by rfl)]
  go_simp
  refine (G1.out w0 Bm HF6.out.2.1).mono ?_
  rintro e w1 ⟨rfl, hl, hc⟩
  have HC1 := Lib.hid (And.intro hl hc)
  clear hl hc
  (try go_simp)
  refine hK.out _ _ (⟨HC1.out.2.cell hHeld.1 HNm.out.1, HC1.out.2.cell hHeld.2.1 HNm.out.1, HC1.out.2.cell hHeld.2.2.1 HNm.out.1, HC1.out.2.cell hHeld.2.2.2.1 HNm.out.2, HC1.out.2.cell hHeld.2.2.2.2.1 HNm.out.2, HC1.out.2.cell hHeld.2.2.2.2.2 HNm.out.2⟩) (fun hNew => ?_)
  clear hK K hHeld; (have hHeld := hNew); clear hNew; (try simp only [Act.put, List.setIfInBounds_toArray, List.set_cons_zero, List.set_cons_succ])
  refine aloneH (i := 7) rfl (by kernel_rfl) (fun K hK => ?_)
  rw [if_pos (by rfl)]
  go_simp
  refine (G2.out w1 Bm HC1.out.1).mono ?_
  rintro e w2 ⟨rfl, hl, hc⟩
  have HC2 := Lib.hid (And.intro hl hc)
  clear hl hc
  (try go_simp)
  refine hK.out _ _ (⟨HC2.out.2.cell hHeld.1 HNm.out.1, HC2.out.2.cell hHeld.2.1 HNm.out.1, HC2.out.2.cell hHeld.2.2.1 HNm.out.1, HC2.out.2.cell hHeld.2.2.2.1 HNm.out.2, HC2.out.2.cell hHeld.2.2.2.2.1 HNm.out.2, HC2.out.2.cell hHeld.2.2.2.2.2 HNm.out.2⟩) (fun hNew => ?_)
  clear hK K hHeld; (have hHeld := hNew); clear hNew; (try simp only [Act.put, List.setIfInBounds_toArray, List.set_cons_zero, List.set_cons_succ])
  (refine takeH (i := 8) (v := ?_) rfl (by kernel_rfl) (by kernel_rfl) (by kernel_rfl) (fun _ _ _ h => h) (Or.inl ⟨by rfl, ?_⟩) (by assumption) ?_; rotate_left; (focus ((intro wS hSw); (try dsimp only at hSw); obtain ⟨s0, s1, s2, s3, s4, s5⟩ := hSw; go_simp; (try with_reducible rfl); done)); (try simp only [Act.put, List.setIfInBounds_toArray, List.set_cons_zero, List.set_cons_succ]))
  (refine takeH (i := 9) (v := ?_) rfl (by kernel_rfl) (by kernel_rfl) (by kernel_rfl) (fun _ _ _ h => h) (Or.inl ⟨by rfl, ?_⟩) (by assumption) ?_; rotate_left; (focus ((intro wS hSw); (try dsimp only at hSw); obtain ⟨s0, s1, s2, s3, s4, s5⟩ := hSw; go_simp; (try with_reducible rfl); done)); (try simp only [Act.put, List.setIfInBounds_toArray, List.set_cons_zero, List.set_cons_succ]))
  refine wpAnyH_done (by kernel_rfl) ?_ _
  clear hHeld
  have HL9 : Hid (Lin w2 Bl 2 L2 ∧ Lin w2 Bm 2 M2 ∧ Below w.heap.size w w2) := Lib.hid ⟨(HF6.out.1.chg HF6.out.2.1 HC1.out.2 HNe.out.2.2.2.1).chg HC1.out.1 HC2.out.2 HNe.out.2.2.2.1, HC2.out.1, (HF6.out.2.2.trans (HC1.out.2.below HF6.out.2.2.size HNe.out.2.2.2.2.2.2)).trans (HC2.out.2.below (Nat.le_trans HF6.out.2.2.size HC1.out.2.size) HNe.out.2.2.2.2.2.2)⟩
  clear HC1 HC2 HF6
  go_wp2_with (go_at_call 9; refine (tl_lives _).mono ?_; rintro e w9 ⟨rfl, hb⟩; have HZ := Lib.hid (below_then HL9.out.2.2 hb); clear hb; refine Stop.out ?_)
  unfold Stop
  go_wp2
  go_ret
  exact ⟨rfl, HZ.out⟩
set_option maxHeartbeats 1000000 in
theorem order_2 (f u x g v y day : Int) (w : World) (E2 E4 : Int) (L1 L2 M1 M2 : List Sp) 
    (H1 : Hid (∀ W B, Lin W B 2 [] → Calls Try.prog 19 #[.pointer (some ⟨B, 0, none⟩), .agg #[.int .i64 f, .int .i64 u, .int .i64 x]] W fun e w' => e = .returned (.int .i64 0) ∧ Lin w' B 2 L1 ∧ Chg W w' B))
    (H2 : Hid (∀ W B, Lin W B 2 L1 → Calls Try.prog 19 #[.pointer (some ⟨B, 0, none⟩), .agg #[.int .i64 g, .int .i64 v, .int .i64 y]] W fun e w' => e = .returned (.int .i64 E2) ∧ Lin w' B 2 L2 ∧ Chg W w' B))
    (G1 : Hid (∀ W B, Lin W B 2 [] → Calls Try.prog 19 #[.pointer (some ⟨B, 0, none⟩), .agg #[.int .i64 g, .int .i64 v, .int .i64 y]] W fun e w' => e = .returned (.int .i64 30) ∧ Lin w' B 2 M1 ∧ Chg W w' B))
    (G2 : Hid (∀ W B, Lin W B 2 M1 → Calls Try.prog 19 #[.pointer (some ⟨B, 0, none⟩), .agg #[.int .i64 f, .int .i64 u, .int .i64 x]] W fun e w' => e = .returned (.int .i64 E4) ∧ Lin w' B 2 M2 ∧ Chg W w' B)) :
    Calls Try.prog 5 #[.agg #[.int .i64 f, .int .i64 u, .int .i64 x], .agg #[.int .i64 g, .int .i64 v, .int .i64 y], .int .i64 day] w fun e w' => e = .returned (.bool true) ∧ Below w.heap.size w w' := by
  have HBx := Lib.hid (order_boxes w f u x g v y)
  go_enter Try.func5, Try.ntmps5
  go_wp2_with (go_at_call 10; refine (code_lnew _ 2 (by decide) (by decide)).mono ?_; rintro e w1 ⟨Bl, rfl, h1, hb1, hB⟩; have HN1 := Lib.hid (And.intro h1 (And.intro (HBx.out.on hb1) hB)); clear h1 hb1 hB; refine Stop.out ?_)
  unfold Stop
  go_wp2_with (go_at_call 10; refine (code_lnew _ 2 (by decide) (by decide)).mono ?_; rintro e w2 ⟨Bm, rfl, h1, hb1, hB⟩; have HN2 := Lib.hid (And.intro (HN1.out.1.on hb1) (And.intro h1 (And.intro (HN1.out.2.1.on hb1) hB))); clear h1 hb1 hB; refine Stop.out ?_)
  unfold Stop
  have HNe : Hid (w.heap.size ≠ Bl ∧ w.heap.size + 1 ≠ Bl ∧ w.heap.size ≠ Bm ∧ Bl ≠ Bm ∧ Bm ≠ Bl ∧ w.heap.size ≤ Bl ∧ w.heap.size ≤ Bm) := Lib.hid (order_ne HN1.out.2.2 HN2.out.2.2.2 HN1.out.1.lt HN1.out.2.1.2.2.size)
  have HNm : Hid (w.heap.size ≠ Bm ∧ w.heap.size + 1 ≠ Bm) := Lib.hid (order_nm HN1.out.2.2 HN2.out.2.2.2 HN1.out.1.lt)
  go_wp2
  refine wp_region_held_drew (S := fun W => W.cell? ⟨w.heap.size, 0, none⟩ = some (.int .i64 f) ∧ W.cell? ⟨w.heap.size, 1, none⟩ = some (.int .i64 u) ∧ W.cell? ⟨w.heap.size, 2, none⟩ = some (.int .i64 x) ∧ W.cell? ⟨w.heap.size + 1, 0, none⟩ = some (.int .i64 g) ∧ W.cell? ⟨w.heap.size + 1, 1, none⟩ = some (.int .i64 v) ∧ W.cell? ⟨w.heap.size + 1, 2, none⟩ = some (.int .i64 y)) (by kernel_rfl) (hS_drew HN2.out.2.2.1.cells) ?_
  intro hHeld
  have HF0 : Hid (Lin w2.drew Bl 2 [] ∧ Lin w2.drew Bm 2 [] ∧ Below w.heap.size w w2.drew) := Lib.hid ⟨HN2.out.1.on (below_drew _), HN2.out.2.1.on (below_drew _), below_then HN2.out.2.2.1.2.2 (below_drew _)⟩
  clear HN1 HN2 HBx
  generalize w2.drew = w0 at HF0 hHeld ⊢
  (refine takeH (i := 0) (v := ?_) rfl (by kernel_rfl) (by kernel_rfl) (by kernel_rfl) (fun _ _ _ h => h) (Or.inl ⟨by rfl, ?_⟩) (by assumption) ?_; rotate_left; (focus ((intro wS hSw); (try dsimp only at hSw); obtain ⟨s0, s1, s2, s3, s4, s5⟩ := hSw; go_simp; (try with_reducible rfl); done)); (try simp only [Act.put, List.setIfInBounds_toArray, List.set_cons_zero, List.set_cons_succ]))
  (refine takeH (i := 1) (v := ?_) rfl (by kernel_rfl) (by kernel_rfl) (by kernel_rfl) (fun _ _ _ h => h) (Or.inl ⟨by rfl, ?_⟩) (by assumption) ?_; rotate_left; (focus ((intro wS hSw); (try dsimp only at hSw); obtain ⟨s0, s1, s2, s3, s4, s5⟩ := hSw; go_simp; (try with_reducible rfl); done)); (try simp only [Act.put, List.setIfInBounds_toArray, List.set_cons_zero, List.set_cons_succ]))
  (refine takeH (i := 2) (v := ?_) rfl (by kernel_rfl) (by kernel_rfl) (by kernel_rfl) (fun _ _ _ h => h) (Or.inl ⟨by rfl, ?_⟩) (by assumption) ?_; rotate_left; (focus ((intro wS hSw); (try dsimp only at hSw); obtain ⟨s0, s1, s2, s3, s4, s5⟩ := hSw; go_simp; (try with_reducible rfl); done)); (try simp only [Act.put, List.setIfInBounds_toArray, List.set_cons_zero, List.set_cons_succ]))
  (refine takeH (i := 4) (v := ?_) rfl (by kernel_rfl) (by kernel_rfl) (by kernel_rfl) (fun _ _ _ h => h) (Or.inl ⟨by rfl, ?_⟩) (by assumption) ?_; rotate_left; (focus ((intro wS hSw); (try dsimp only at hSw); obtain ⟨s0, s1, s2, s3, s4, s5⟩ := hSw; go_simp; (try with_reducible rfl); done)); (try simp only [Act.put, List.setIfInBounds_toArray, List.set_cons_zero, List.set_cons_succ]))
  (refine takeH (i := 5) (v := ?_) rfl (by kernel_rfl) (by kernel_rfl) (by kernel_rfl) (fun _ _ _ h => h) (Or.inl ⟨by rfl, ?_⟩) (by assumption) ?_; rotate_left; (focus ((intro wS hSw); (try dsimp only at hSw); obtain ⟨s0, s1, s2, s3, s4, s5⟩ := hSw; go_simp; (try with_reducible rfl); done)); (try simp only [Act.put, List.setIfInBounds_toArray, List.set_cons_zero, List.set_cons_succ]))
  (refine takeH (i := 6) (v := ?_) rfl (by kernel_rfl) (by kernel_rfl) (by kernel_rfl) (fun _ _ _ h => h) (Or.inl ⟨by rfl, ?_⟩) (by assumption) ?_; rotate_left; (focus ((intro wS hSw); (try dsimp only at hSw); obtain ⟨s0, s1, s2, s3, s4, s5⟩ := hSw; go_simp; (try with_reducible rfl); done)); (try simp only [Act.put, List.setIfInBounds_toArray, List.set_cons_zero, List.set_cons_succ]))
  refine aloneH (i := 3) rfl (by kernel_rfl) (fun K hK => ?_)
  rw [if_pos (by rfl)]
  go_simp
  refine (H1.out w0 Bl HF0.out.1).mono ?_
  rintro e w1 ⟨rfl, hl, hc⟩
  have HC1 := Lib.hid (And.intro hl hc)
  clear hl hc
  (try go_simp)
  refine hK.out _ _ (⟨HC1.out.2.cell hHeld.1 HNe.out.1, HC1.out.2.cell hHeld.2.1 HNe.out.1, HC1.out.2.cell hHeld.2.2.1 HNe.out.1, HC1.out.2.cell hHeld.2.2.2.1 HNe.out.2.1, HC1.out.2.cell hHeld.2.2.2.2.1 HNe.out.2.1, HC1.out.2.cell hHeld.2.2.2.2.2 HNe.out.2.1⟩) (fun hNew => ?_)
  clear hK K hHeld; (have hHeld := hNew); clear hNew; (try simp only [Act.put, List.setIfInBounds_toArray, List.set_cons_zero, List.set_cons_succ])
  refine aloneH (i := 7) rfl (by kernel_rfl) (fun K hK => ?_)
  rw [if_pos (by rfl)]
  go_simp
  refine (H2.out w1 Bl HC1.out.1).mono ?_
  rintro e w2 ⟨rfl, hl, hc⟩
  have HC2 := Lib.hid (And.intro hl hc)
  clear hl hc
  (try go_simp)
  refine hK.out _ _ (⟨HC2.out.2.cell hHeld.1 HNe.out.1, HC2.out.2.cell hHeld.2.1 HNe.out.1, HC2.out.2.cell hHeld.2.2.1 HNe.out.1, HC2.out.2.cell hHeld.2.2.2.1 HNe.out.2.1, HC2.out.2.cell hHeld.2.2.2.2.1 HNe.out.2.1, HC2.out.2.cell hHeld.2.2.2.2.2 HNe.out.2.1⟩) (fun hNew => ?_)
  clear hK K hHeld; (have hHeld := hNew); clear hNew; (try simp only [Act.put, List.setIfInBounds_toArray, List.set_cons_zero, List.set_cons_succ])
  (refine takeH (i := 8) (v := ?_) rfl (by kernel_rfl) (by kernel_rfl) (by kernel_rfl) (fun _ _ _ h => h) (Or.inl ⟨by rfl, ?_⟩) (by assumption) ?_; rotate_left; (focus ((intro wS hSw); (try dsimp only at hSw); obtain ⟨s0, s1, s2, s3, s4, s5⟩ := hSw; go_simp; (try with_reducible rfl); done)); (try simp only [Act.put, List.setIfInBounds_toArray, List.set_cons_zero, List.set_cons_succ]))
  (refine takeH (i := 9) (v := ?_) rfl (by kernel_rfl) (by kernel_rfl) (by kernel_rfl) (fun _ _ _ h => h) (Or.inl ⟨by rfl, ?_⟩) (by assumption) ?_; rotate_left; (focus ((intro wS hSw); (try dsimp only at hSw); obtain ⟨s0, s1, s2, s3, s4, s5⟩ := hSw; go_simp; (try with_reducible rfl); done)); (try simp only [Act.put, List.setIfInBounds_toArray, List.set_cons_zero, List.set_cons_succ]))
  refine wpAnyH_done (by kernel_rfl) ?_ _
  have HS6 : Hid (w2.cell? ⟨w.heap.size, 0, none⟩ = some (.int .i64 f) ∧ w2.cell? ⟨w.heap.size, 1, none⟩ = some (.int .i64 u) ∧ w2.cell? ⟨w.heap.size, 2, none⟩ = some (.int .i64 x) ∧ w2.cell? ⟨w.heap.size + 1, 0, none⟩ = some (.int .i64 g) ∧ w2.cell? ⟨w.heap.size + 1, 1, none⟩ = some (.int .i64 v) ∧ w2.cell? ⟨w.heap.size + 1, 2, none⟩ = some (.int .i64 y)) := Lib.hid hHeld
  clear hHeld
  have HL6 : Hid (Lin w2 Bl 2 L2 ∧ Lin w2 Bm 2 [] ∧ Below w.heap.size w w2) := Lib.hid ⟨HC2.out.1, (HF0.out.2.1.chg HF0.out.1 HC1.out.2 HNe.out.2.2.2.2.1).chg HC1.out.1 HC2.out.2 HNe.out.2.2.2.2.1, (HF0.out.2.2.trans (HC1.out.2.below HF0.out.2.2.size HNe.out.2.2.2.2.2.1)).trans (HC2.out.2.below (Nat.le_trans HF0.out.2.2.size HC1.out.2.size) HNe.out.2.2.2.2.2.1)⟩
  go_wp2
  refine wp_region_held_drew (S := fun W => W.cell? ⟨w.heap.size, 0, none⟩ = some (.int .i64 f) ∧ W.cell? ⟨w.heap.size, 1, none⟩ = some (.int .i64 u) ∧ W.cell? ⟨w.heap.size, 2, none⟩ = some (.int .i64 x) ∧ W.cell? ⟨w.heap.size + 1, 0, none⟩ = some (.int .i64 g) ∧ W.cell? ⟨w.heap.size + 1, 1, none⟩ = some (.int .i64 v) ∧ W.cell? ⟨w.heap.size + 1, 2, none⟩ = some (.int .i64 y)) (by kernel_rfl) (hS_drew HS6.out) ?_
  intro hHeld
  have HF6 : Hid (Lin w2.drew Bl 2 L2 ∧ Lin w2.drew Bm 2 [] ∧ Below w.heap.size w w2.drew) := Lib.hid ⟨HL6.out.1.on (below_drew _), HL6.out.2.1.on (below_drew _), below_then HL6.out.2.2 (below_drew _)⟩
  clear HC1 HC2 HL6 HS6 HF0
  generalize w2.drew = w0 at HF6 hHeld ⊢
  (refine takeH (i := 0) (v := ?_) rfl (by kernel_rfl) (by kernel_rfl) (by kernel_rfl) (fun _ _ _ h => h) (Or.inl ⟨by rfl, ?_⟩) (by assumption) ?_; rotate_left; (focus ((intro wS hSw); (try dsimp only at hSw); obtain ⟨s0, s1, s2, s3, s4, s5⟩ := hSw; go_simp; (try with_reducible rfl); done)); (try simp only [Act.put, List.setIfInBounds_toArray, List.set_cons_zero, List.set_cons_succ]))
  (refine takeH (i := 1) (v := ?_) rfl (by kernel_rfl) (by kernel_rfl) (by kernel_rfl) (fun _ _ _ h => h) (Or.inl ⟨by rfl, ?_⟩) (by assumption) ?_; rotate_left; (focus ((intro wS hSw); (try dsimp only at hSw); obtain ⟨s0, s1, s2, s3, s4, s5⟩ := hSw; go_simp; (try with_reducible rfl); done)); (try simp only [Act.put, List.setIfInBounds_toArray, List.set_cons_zero, List.set_cons_succ]))
  (refine takeH (i := 2) (v := ?_) rfl (by kernel_rfl) (by kernel_rfl) (by kernel_rfl) (fun _ _ _ h => h) (Or.inl ⟨by rfl, ?_⟩) (by assumption) ?_; rotate_left; (focus ((intro wS hSw); (try dsimp only at hSw); obtain ⟨s0, s1, s2, s3, s4, s5⟩ := hSw; go_simp; (try with_reducible rfl); done)); (try simp only [Act.put, List.setIfInBounds_toArray, List.set_cons_zero, List.set_cons_succ]))
  (refine takeH (i := 4) (v := ?_) rfl (by kernel_rfl) (by kernel_rfl) (by kernel_rfl) (fun _ _ _ h => h) (Or.inl ⟨by rfl, ?_⟩) (by assumption) ?_; rotate_left; (focus ((intro wS hSw); (try dsimp only at hSw); obtain ⟨s0, s1, s2, s3, s4, s5⟩ := hSw; go_simp; (try with_reducible rfl); done)); (try simp only [Act.put, List.setIfInBounds_toArray, List.set_cons_zero, List.set_cons_succ]))
  (refine takeH (i := 5) (v := ?_) rfl (by kernel_rfl) (by kernel_rfl) (by kernel_rfl) (fun _ _ _ h => h) (Or.inl ⟨by rfl, ?_⟩) (by assumption) ?_; rotate_left; (focus ((intro wS hSw); (try dsimp only at hSw); obtain ⟨s0, s1, s2, s3, s4, s5⟩ := hSw; go_simp; (try with_reducible rfl); done)); (try simp only [Act.put, List.setIfInBounds_toArray, List.set_cons_zero, List.set_cons_succ]))
  (refine takeH (i := 6) (v := ?_) rfl (by kernel_rfl) (by kernel_rfl) (by kernel_rfl) (fun _ _ _ h => h) (Or.inl ⟨by rfl, ?_⟩) (by assumption) ?_; rotate_left; (focus ((intro wS hSw); (try dsimp only at hSw); obtain ⟨s0, s1, s2, s3, s4, s5⟩ := hSw; go_simp; (try with_reducible rfl); done)); (try simp only [Act.put, List.setIfInBounds_toArray, List.set_cons_zero, List.set_cons_succ]))
  refine aloneH (i := 3) rfl (by kernel_rfl) (fun K hK => ?_)
  rw [if_pos (by rfl)]
  go_simp
  refine (G1.out w0 Bm HF6.out.2.1).mono ?_
  rintro e w1 ⟨rfl, hl, hc⟩
  have HC1 := Lib.hid (And.intro hl hc)
  clear hl hc
  (try go_simp)
  refine hK.out _ _ (⟨HC1.out.2.cell hHeld.1 HNm.out.1, HC1.out.2.cell hHeld.2.1 HNm.out.1, HC1.out.2.cell hHeld.2.2.1 HNm.out.1, HC1.out.2.cell hHeld.2.2.2.1 HNm.out.2, HC1.out.2.cell hHeld.2.2.2.2.1 HNm.out.2, HC1.out.2.cell hHeld.2.2.2.2.2 HNm.out.2⟩) (fun hNew => ?_)
  clear hK K hHeld; (have hHeld := hNew); clear hNew; (try simp only [Act.put, List.setIfInBounds_toArray, List.set_cons_zero, List.set_cons_succ])
  refine aloneH (i := 7) rfl (by kernel_rfl) (fun K hK => ?_)
  rw [if_pos (by rfl)]
  go_simp
  refine (G2.out w1 Bm HC1.out.1).mono ?_
  rintro e w2 ⟨rfl, hl, hc⟩
  have HC2 := Lib.hid (And.intro hl hc)
  clear hl hc
  (try go_simp)
  refine hK.out _ _ (⟨HC2.out.2.cell hHeld.1 HNm.out.1, HC2.out.2.cell hHeld.2.1 HNm.out.1, HC2.out.2.cell hHeld.2.2.1 HNm.out.1, HC2.out.2.cell hHeld.2.2.2.1 HNm.out.2, HC2.out.2.cell hHeld.2.2.2.2.1 HNm.out.2, HC2.out.2.cell hHeld.2.2.2.2.2 HNm.out.2⟩) (fun hNew => ?_)
  clear hK K hHeld; (have hHeld := hNew); clear hNew; (try simp only [Act.put, List.setIfInBounds_toArray, List.set_cons_zero, List.set_cons_succ])
  (refine takeH (i := 8) (v := ?_) rfl (by kernel_rfl) (by kernel_rfl) (by kernel_rfl) (fun _ _ _ h => h) (Or.inl ⟨by rfl, ?_⟩) (by assumption) ?_; rotate_left; (focus ((intro wS hSw); (try dsimp only at hSw); obtain ⟨s0, s1, s2, s3, s4, s5⟩ := hSw; go_simp; (try with_reducible rfl); done)); (try simp only [Act.put, List.setIfInBounds_toArray, List.set_cons_zero, List.set_cons_succ]))
  (refine takeH (i := 9) (v := ?_) rfl (by kernel_rfl) (by kernel_rfl) (by kernel_rfl) (fun _ _ _ h => h) (Or.inl ⟨by rfl, ?_⟩) (by assumption) ?_; rotate_left; (focus ((intro wS hSw); (try dsimp only at hSw); obtain ⟨s0, s1, s2, s3, s4, s5⟩ := hSw; go_simp; (try with_reducible rfl); done)); (try simp only [Act.put, List.setIfInBounds_toArray, List.set_cons_zero, List.set_cons_succ]))
  refine wpAnyH_done (by kernel_rfl) ?_ _
  clear hHeld
  have HL9 : Hid (Lin w2 Bl 2 L2 ∧ Lin w2 Bm 2 M2 ∧ Below w.heap.size w w2) := Lib.hid ⟨(HF6.out.1.chg HF6.out.2.1 HC1.out.2 HNe.out.2.2.2.1).chg HC1.out.1 HC2.out.2 HNe.out.2.2.2.1, HC2.out.1, (HF6.out.2.2.trans (HC1.out.2.below HF6.out.2.2.size HNe.out.2.2.2.2.2.2)).trans (HC2.out.2.below (Nat.le_trans HF6.out.2.2.size HC1.out.2.size) HNe.out.2.2.2.2.2.2)⟩
  clear HC1 HC2 HF6
  go_wp2_with (go_at_call 9; refine (tl_lives _).mono ?_; rintro e w9 ⟨rfl, hb⟩; have HZ := Lib.hid (below_then HL9.out.2.2 hb); clear hb; refine Stop.out ?_)
  unfold Stop
  go_wp2
  go_ret
  exact ⟨rfl, HZ.out⟩
set_option maxHeartbeats 1000000 in
theorem order_3 (f u x g v y day : Int) (w : World)  (L1 L2 M1 M2 : List Sp) 
    (H1 : Hid (∀ W B, Lin W B 2 [] → Calls Try.prog 19 #[.pointer (some ⟨B, 0, none⟩), .agg #[.int .i64 f, .int .i64 u, .int .i64 x]] W fun e w' => e = .returned (.int .i64 0) ∧ Lin w' B 2 L1 ∧ Chg W w' B))
    (H2 : Hid (∀ W B, Lin W B 2 L1 → Calls Try.prog 19 #[.pointer (some ⟨B, 0, none⟩), .agg #[.int .i64 g, .int .i64 v, .int .i64 y]] W fun e w' => e = .returned (.int .i64 50) ∧ Lin w' B 2 L2 ∧ Chg W w' B))
    (G1 : Hid (∀ W B, Lin W B 2 [] → Calls Try.prog 19 #[.pointer (some ⟨B, 0, none⟩), .agg #[.int .i64 g, .int .i64 v, .int .i64 y]] W fun e w' => e = .returned (.int .i64 0) ∧ Lin w' B 2 M1 ∧ Chg W w' B))
    (G2 : Hid (∀ W B, Lin W B 2 M1 → Calls Try.prog 19 #[.pointer (some ⟨B, 0, none⟩), .agg #[.int .i64 f, .int .i64 u, .int .i64 x]] W fun e w' => e = .returned (.int .i64 50) ∧ Lin w' B 2 M2 ∧ Chg W w' B)) :
    Calls Try.prog 5 #[.agg #[.int .i64 f, .int .i64 u, .int .i64 x], .agg #[.int .i64 g, .int .i64 v, .int .i64 y], .int .i64 day] w fun e w' => e = .returned (.bool true) ∧ Below w.heap.size w w' := by
  have HBx := Lib.hid (order_boxes w f u x g v y)
  go_enter Try.func5, Try.ntmps5
  go_wp2_with (go_at_call 10; refine (code_lnew _ 2 (by decide) (by decide)).mono ?_; rintro e w1 ⟨Bl, rfl, h1, hb1, hB⟩; have HN1 := Lib.hid (And.intro h1 (And.intro (HBx.out.on hb1) hB)); clear h1 hb1 hB; refine Stop.out ?_)
  unfold Stop
  go_wp2_with (go_at_call 10; refine (code_lnew _ 2 (by decide) (by decide)).mono ?_; rintro e w2 ⟨Bm, rfl, h1, hb1, hB⟩; have HN2 := Lib.hid (And.intro (HN1.out.1.on hb1) (And.intro h1 (And.intro (HN1.out.2.1.on hb1) hB))); clear h1 hb1 hB; refine Stop.out ?_)
  unfold Stop
  have HNe : Hid (w.heap.size ≠ Bl ∧ w.heap.size + 1 ≠ Bl ∧ w.heap.size ≠ Bm ∧ Bl ≠ Bm ∧ Bm ≠ Bl ∧ w.heap.size ≤ Bl ∧ w.heap.size ≤ Bm) := Lib.hid (order_ne HN1.out.2.2 HN2.out.2.2.2 HN1.out.1.lt HN1.out.2.1.2.2.size)
  have HNm : Hid (w.heap.size ≠ Bm ∧ w.heap.size + 1 ≠ Bm) := Lib.hid (order_nm HN1.out.2.2 HN2.out.2.2.2 HN1.out.1.lt)
  go_wp2
  refine wp_region_held_drew (S := fun W => W.cell? ⟨w.heap.size, 0, none⟩ = some (.int .i64 f) ∧ W.cell? ⟨w.heap.size, 1, none⟩ = some (.int .i64 u) ∧ W.cell? ⟨w.heap.size, 2, none⟩ = some (.int .i64 x) ∧ W.cell? ⟨w.heap.size + 1, 0, none⟩ = some (.int .i64 g) ∧ W.cell? ⟨w.heap.size + 1, 1, none⟩ = some (.int .i64 v) ∧ W.cell? ⟨w.heap.size + 1, 2, none⟩ = some (.int .i64 y)) (by kernel_rfl) (hS_drew HN2.out.2.2.1.cells) ?_
  intro hHeld
  have HF0 : Hid (Lin w2.drew Bl 2 [] ∧ Lin w2.drew Bm 2 [] ∧ Below w.heap.size w w2.drew) := Lib.hid ⟨HN2.out.1.on (below_drew _), HN2.out.2.1.on (below_drew _), below_then HN2.out.2.2.1.2.2 (below_drew _)⟩
  clear HN1 HN2 HBx
  generalize w2.drew = w0 at HF0 hHeld ⊢
  (refine takeH (i := 0) (v := ?_) rfl (by kernel_rfl) (by kernel_rfl) (by kernel_rfl) (fun _ _ _ h => h) (Or.inl ⟨by rfl, ?_⟩) (by assumption) ?_; rotate_left; (focus ((intro wS hSw); (try dsimp only at hSw); obtain ⟨s0, s1, s2, s3, s4, s5⟩ := hSw; go_simp; (try with_reducible rfl); done)); (try simp only [Act.put, List.setIfInBounds_toArray, List.set_cons_zero, List.set_cons_succ]))
  (refine takeH (i := 1) (v := ?_) rfl (by kernel_rfl) (by kernel_rfl) (by kernel_rfl) (fun _ _ _ h => h) (Or.inl ⟨by rfl, ?_⟩) (by assumption) ?_; rotate_left; (focus ((intro wS hSw); (try dsimp only at hSw); obtain ⟨s0, s1, s2, s3, s4, s5⟩ := hSw; go_simp; (try with_reducible rfl); done)); (try simp only [Act.put, List.setIfInBounds_toArray, List.set_cons_zero, List.set_cons_succ]))
  (refine takeH (i := 2) (v := ?_) rfl (by kernel_rfl) (by kernel_rfl) (by kernel_rfl) (fun _ _ _ h => h) (Or.inl ⟨by rfl, ?_⟩) (by assumption) ?_; rotate_left; (focus ((intro wS hSw); (try dsimp only at hSw); obtain ⟨s0, s1, s2, s3, s4, s5⟩ := hSw; go_simp; (try with_reducible rfl); done)); (try simp only [Act.put, List.setIfInBounds_toArray, List.set_cons_zero, List.set_cons_succ]))
  (refine takeH (i := 4) (v := ?_) rfl (by kernel_rfl) (by kernel_rfl) (by kernel_rfl) (fun _ _ _ h => h) (Or.inl ⟨by rfl, ?_⟩) (by assumption) ?_; rotate_left; (focus ((intro wS hSw); (try dsimp only at hSw); obtain ⟨s0, s1, s2, s3, s4, s5⟩ := hSw; go_simp; (try with_reducible rfl); done)); (try simp only [Act.put, List.setIfInBounds_toArray, List.set_cons_zero, List.set_cons_succ]))
  (refine takeH (i := 5) (v := ?_) rfl (by kernel_rfl) (by kernel_rfl) (by kernel_rfl) (fun _ _ _ h => h) (Or.inl ⟨by rfl, ?_⟩) (by assumption) ?_; rotate_left; (focus ((intro wS hSw); (try dsimp only at hSw); obtain ⟨s0, s1, s2, s3, s4, s5⟩ := hSw; go_simp; (try with_reducible rfl); done)); (try simp only [Act.put, List.setIfInBounds_toArray, List.set_cons_zero, List.set_cons_succ]))
  (refine takeH (i := 6) (v := ?_) rfl (by kernel_rfl) (by kernel_rfl) (by kernel_rfl) (fun _ _ _ h => h) (Or.inl ⟨by rfl, ?_⟩) (by assumption) ?_; rotate_left; (focus ((intro wS hSw); (try dsimp only at hSw); obtain ⟨s0, s1, s2, s3, s4, s5⟩ := hSw; go_simp; (try with_reducible rfl); done)); (try simp only [Act.put, List.setIfInBounds_toArray, List.set_cons_zero, List.set_cons_succ]))
  refine aloneH (i := 3) rfl (by kernel_rfl) (fun K hK => ?_)
  rw [if_pos (by rfl)]
  go_simp
  refine (H1.out w0 Bl HF0.out.1).mono ?_
  rintro e w1 ⟨rfl, hl, hc⟩
  have HC1 := Lib.hid (And.intro hl hc)
  clear hl hc
  (try go_simp)
  refine hK.out _ _ (⟨HC1.out.2.cell hHeld.1 HNe.out.1, HC1.out.2.cell hHeld.2.1 HNe.out.1, HC1.out.2.cell hHeld.2.2.1 HNe.out.1, HC1.out.2.cell hHeld.2.2.2.1 HNe.out.2.1, HC1.out.2.cell hHeld.2.2.2.2.1 HNe.out.2.1, HC1.out.2.cell hHeld.2.2.2.2.2 HNe.out.2.1⟩) (fun hNew => ?_)
  clear hK K hHeld; (have hHeld := hNew); clear hNew; (try simp only [Act.put, List.setIfInBounds_toArray, List.set_cons_zero, List.set_cons_succ])
  refine aloneH (i := 7) rfl (by kernel_rfl) (fun K hK => ?_)
  rw [if_pos (by rfl)]
  go_simp
  refine (H2.out w1 Bl HC1.out.1).mono ?_
  rintro e w2 ⟨rfl, hl, hc⟩
  have HC2 := Lib.hid (And.intro hl hc)
  clear hl hc
  (try go_simp)
  refine hK.out _ _ (⟨HC2.out.2.cell hHeld.1 HNe.out.1, HC2.out.2.cell hHeld.2.1 HNe.out.1, HC2.out.2.cell hHeld.2.2.1 HNe.out.1, HC2.out.2.cell hHeld.2.2.2.1 HNe.out.2.1, HC2.out.2.cell hHeld.2.2.2.2.1 HNe.out.2.1, HC2.out.2.cell hHeld.2.2.2.2.2 HNe.out.2.1⟩) (fun hNew => ?_)
  clear hK K hHeld; (have hHeld := hNew); clear hNew; (try simp only [Act.put, List.setIfInBounds_toArray, List.set_cons_zero, List.set_cons_succ])
  (refine takeH (i := 8) (v := ?_) rfl (by kernel_rfl) (by kernel_rfl) (by kernel_rfl) (fun _ _ _ h => h) (Or.inl ⟨by rfl, ?_⟩) (by assumption) ?_; rotate_left; (focus ((intro wS hSw); (try dsimp only at hSw); obtain ⟨s0, s1, s2, s3, s4, s5⟩ := hSw; go_simp; (try with_reducible rfl); done)); (try simp only [Act.put, List.setIfInBounds_toArray, List.set_cons_zero, List.set_cons_succ]))
  (refine takeH (i := 9) (v := ?_) rfl (by kernel_rfl) (by kernel_rfl) (by kernel_rfl) (fun _ _ _ h => h) (Or.inl ⟨by rfl, ?_⟩) (by assumption) ?_; rotate_left; (focus ((intro wS hSw); (try dsimp only at hSw); obtain ⟨s0, s1, s2, s3, s4, s5⟩ := hSw; go_simp; (try with_reducible rfl); done)); (try simp only [Act.put, List.setIfInBounds_toArray, List.set_cons_zero, List.set_cons_succ]))
  refine wpAnyH_done (by kernel_rfl) ?_ _
  have HS6 : Hid (w2.cell? ⟨w.heap.size, 0, none⟩ = some (.int .i64 f) ∧ w2.cell? ⟨w.heap.size, 1, none⟩ = some (.int .i64 u) ∧ w2.cell? ⟨w.heap.size, 2, none⟩ = some (.int .i64 x) ∧ w2.cell? ⟨w.heap.size + 1, 0, none⟩ = some (.int .i64 g) ∧ w2.cell? ⟨w.heap.size + 1, 1, none⟩ = some (.int .i64 v) ∧ w2.cell? ⟨w.heap.size + 1, 2, none⟩ = some (.int .i64 y)) := Lib.hid hHeld
  clear hHeld
  have HL6 : Hid (Lin w2 Bl 2 L2 ∧ Lin w2 Bm 2 [] ∧ Below w.heap.size w w2) := Lib.hid ⟨HC2.out.1, (HF0.out.2.1.chg HF0.out.1 HC1.out.2 HNe.out.2.2.2.2.1).chg HC1.out.1 HC2.out.2 HNe.out.2.2.2.2.1, (HF0.out.2.2.trans (HC1.out.2.below HF0.out.2.2.size HNe.out.2.2.2.2.2.1)).trans (HC2.out.2.below (Nat.le_trans HF0.out.2.2.size HC1.out.2.size) HNe.out.2.2.2.2.2.1)⟩
  go_wp2
  refine wp_region_held_drew (S := fun W => W.cell? ⟨w.heap.size, 0, none⟩ = some (.int .i64 f) ∧ W.cell? ⟨w.heap.size, 1, none⟩ = some (.int .i64 u) ∧ W.cell? ⟨w.heap.size, 2, none⟩ = some (.int .i64 x) ∧ W.cell? ⟨w.heap.size + 1, 0, none⟩ = some (.int .i64 g) ∧ W.cell? ⟨w.heap.size + 1, 1, none⟩ = some (.int .i64 v) ∧ W.cell? ⟨w.heap.size + 1, 2, none⟩ = some (.int .i64 y)) (by kernel_rfl) (hS_drew HS6.out) ?_
  intro hHeld
  have HF6 : Hid (Lin w2.drew Bl 2 L2 ∧ Lin w2.drew Bm 2 [] ∧ Below w.heap.size w w2.drew) := Lib.hid ⟨HL6.out.1.on (below_drew _), HL6.out.2.1.on (below_drew _), below_then HL6.out.2.2 (below_drew _)⟩
  clear HC1 HC2 HL6 HS6 HF0
  generalize w2.drew = w0 at HF6 hHeld ⊢
  (refine takeH (i := 0) (v := ?_) rfl (by kernel_rfl) (by kernel_rfl) (by kernel_rfl) (fun _ _ _ h => h) (Or.inl ⟨by rfl, ?_⟩) (by assumption) ?_; rotate_left; (focus ((intro wS hSw); (try dsimp only at hSw); obtain ⟨s0, s1, s2, s3, s4, s5⟩ := hSw; go_simp; (try with_reducible rfl); done)); (try simp only [Act.put, List.setIfInBounds_toArray, List.set_cons_zero, List.set_cons_succ]))
  (refine takeH (i := 1) (v := ?_) rfl (by kernel_rfl) (by kernel_rfl) (by kernel_rfl) (fun _ _ _ h => h) (Or.inl ⟨by rfl, ?_⟩) (by assumption) ?_; rotate_left; (focus ((intro wS hSw); (try dsimp only at hSw); obtain ⟨s0, s1, s2, s3, s4, s5⟩ := hSw; go_simp; (try with_reducible rfl); done)); (try simp only [Act.put, List.setIfInBounds_toArray, List.set_cons_zero, List.set_cons_succ]))
  (refine takeH (i := 2) (v := ?_) rfl (by kernel_rfl) (by kernel_rfl) (by kernel_rfl) (fun _ _ _ h => h) (Or.inl ⟨by rfl, ?_⟩) (by assumption) ?_; rotate_left; (focus ((intro wS hSw); (try dsimp only at hSw); obtain ⟨s0, s1, s2, s3, s4, s5⟩ := hSw; go_simp; (try with_reducible rfl); done)); (try simp only [Act.put, List.setIfInBounds_toArray, List.set_cons_zero, List.set_cons_succ]))
  (refine takeH (i := 4) (v := ?_) rfl (by kernel_rfl) (by kernel_rfl) (by kernel_rfl) (fun _ _ _ h => h) (Or.inl ⟨by rfl, ?_⟩) (by assumption) ?_; rotate_left; (focus ((intro wS hSw); (try dsimp only at hSw); obtain ⟨s0, s1, s2, s3, s4, s5⟩ := hSw; go_simp; (try with_reducible rfl); done)); (try simp only [Act.put, List.setIfInBounds_toArray, List.set_cons_zero, List.set_cons_succ]))
  (refine takeH (i := 5) (v := ?_) rfl (by kernel_rfl) (by kernel_rfl) (by kernel_rfl) (fun _ _ _ h => h) (Or.inl ⟨by rfl, ?_⟩) (by assumption) ?_; rotate_left; (focus ((intro wS hSw); (try dsimp only at hSw); obtain ⟨s0, s1, s2, s3, s4, s5⟩ := hSw; go_simp; (try with_reducible rfl); done)); (try simp only [Act.put, List.setIfInBounds_toArray, List.set_cons_zero, List.set_cons_succ]))
  (refine takeH (i := 6) (v := ?_) rfl (by kernel_rfl) (by kernel_rfl) (by kernel_rfl) (fun _ _ _ h => h) (Or.inl ⟨by rfl, ?_⟩) (by assumption) ?_; rotate_left; (focus ((intro wS hSw); (try dsimp only at hSw); obtain ⟨s0, s1, s2, s3, s4, s5⟩ := hSw; go_simp; (try with_reducible rfl); done)); (try simp only [Act.put, List.setIfInBounds_toArray, List.set_cons_zero, List.set_cons_succ]))
  refine aloneH (i := 3) rfl (by kernel_rfl) (fun K hK => ?_)
  rw [if_pos (by rfl)]
  go_simp
  refine (G1.out w0 Bm HF6.out.2.1).mono ?_
  rintro e w1 ⟨rfl, hl, hc⟩
  have HC1 := Lib.hid (And.intro hl hc)
  clear hl hc
  (try go_simp)
  refine hK.out _ _ (⟨HC1.out.2.cell hHeld.1 HNm.out.1, HC1.out.2.cell hHeld.2.1 HNm.out.1, HC1.out.2.cell hHeld.2.2.1 HNm.out.1, HC1.out.2.cell hHeld.2.2.2.1 HNm.out.2, HC1.out.2.cell hHeld.2.2.2.2.1 HNm.out.2, HC1.out.2.cell hHeld.2.2.2.2.2 HNm.out.2⟩) (fun hNew => ?_)
  clear hK K hHeld; (have hHeld := hNew); clear hNew; (try simp only [Act.put, List.setIfInBounds_toArray, List.set_cons_zero, List.set_cons_succ])
  refine aloneH (i := 7) rfl (by kernel_rfl) (fun K hK => ?_)
  rw [if_pos (by rfl)]
  go_simp
  refine (G2.out w1 Bm HC1.out.1).mono ?_
  rintro e w2 ⟨rfl, hl, hc⟩
  have HC2 := Lib.hid (And.intro hl hc)
  clear hl hc
  (try go_simp)
  refine hK.out _ _ (⟨HC2.out.2.cell hHeld.1 HNm.out.1, HC2.out.2.cell hHeld.2.1 HNm.out.1, HC2.out.2.cell hHeld.2.2.1 HNm.out.1, HC2.out.2.cell hHeld.2.2.2.1 HNm.out.2, HC2.out.2.cell hHeld.2.2.2.2.1 HNm.out.2, HC2.out.2.cell hHeld.2.2.2.2.2 HNm.out.2⟩) (fun hNew => ?_)
  clear hK K hHeld; (have hHeld := hNew); clear hNew; (try simp only [Act.put, List.setIfInBounds_toArray, List.set_cons_zero, List.set_cons_succ])
  (refine takeH (i := 8) (v := ?_) rfl (by kernel_rfl) (by kernel_rfl) (by kernel_rfl) (fun _ _ _ h => h) (Or.inl ⟨by rfl, ?_⟩) (by assumption) ?_; rotate_left; (focus ((intro wS hSw); (try dsimp only at hSw); obtain ⟨s0, s1, s2, s3, s4, s5⟩ := hSw; go_simp; (try with_reducible rfl); done)); (try simp only [Act.put, List.setIfInBounds_toArray, List.set_cons_zero, List.set_cons_succ]))
  (refine takeH (i := 9) (v := ?_) rfl (by kernel_rfl) (by kernel_rfl) (by kernel_rfl) (fun _ _ _ h => h) (Or.inl ⟨by rfl, ?_⟩) (by assumption) ?_; rotate_left; (focus ((intro wS hSw); (try dsimp only at hSw); obtain ⟨s0, s1, s2, s3, s4, s5⟩ := hSw; go_simp; (try with_reducible rfl); done)); (try simp only [Act.put, List.setIfInBounds_toArray, List.set_cons_zero, List.set_cons_succ]))
  refine wpAnyH_done (by kernel_rfl) ?_ _
  clear hHeld
  have HL9 : Hid (Lin w2 Bl 2 L2 ∧ Lin w2 Bm 2 M2 ∧ Below w.heap.size w w2) := Lib.hid ⟨(HF6.out.1.chg HF6.out.2.1 HC1.out.2 HNe.out.2.2.2.1).chg HC1.out.1 HC2.out.2 HNe.out.2.2.2.1, HC2.out.1, (HF6.out.2.2.trans (HC1.out.2.below HF6.out.2.2.size HNe.out.2.2.2.2.2.2)).trans (HC2.out.2.below (Nat.le_trans HF6.out.2.2.size HC1.out.2.size) HNe.out.2.2.2.2.2.2)⟩
  clear HC1 HC2 HF6
  go_wp2_with (go_at_call 9; refine (tl_lives _).mono ?_; rintro e w9 ⟨rfl, hb⟩; have HZ := Lib.hid (below_then HL9.out.2.2 hb); clear hb; refine Stop.out ?_)
  unfold Stop
  go_wp2
  go_ret
  exact ⟨rfl, HZ.out⟩
set_option maxHeartbeats 1000000 in
theorem order_4 (f u x g v y day : Int) (w : World)  (L1 L2 M1 M2 : List Sp) (X : Int) (q : Bool) (HLM : Hid (M2 = L2)) (HL2 : Hid (L2.length = 2)) (HA : Hid (∀ W B, Lin W B 2 L2 → Calls Try.prog 20 #[.pointer (some ⟨B, 0, none⟩), .int .i64 day] W fun e w' => e = .returned (.tuple #[.int .i64 X, .bool q]) ∧ Below W.heap.size W w'))
    (H1 : Hid (∀ W B, Lin W B 2 [] → Calls Try.prog 19 #[.pointer (some ⟨B, 0, none⟩), .agg #[.int .i64 f, .int .i64 u, .int .i64 x]] W fun e w' => e = .returned (.int .i64 0) ∧ Lin w' B 2 L1 ∧ Chg W w' B))
    (H2 : Hid (∀ W B, Lin W B 2 L1 → Calls Try.prog 19 #[.pointer (some ⟨B, 0, none⟩), .agg #[.int .i64 g, .int .i64 v, .int .i64 y]] W fun e w' => e = .returned (.int .i64 0) ∧ Lin w' B 2 L2 ∧ Chg W w' B))
    (G1 : Hid (∀ W B, Lin W B 2 [] → Calls Try.prog 19 #[.pointer (some ⟨B, 0, none⟩), .agg #[.int .i64 g, .int .i64 v, .int .i64 y]] W fun e w' => e = .returned (.int .i64 0) ∧ Lin w' B 2 M1 ∧ Chg W w' B))
    (G2 : Hid (∀ W B, Lin W B 2 M1 → Calls Try.prog 19 #[.pointer (some ⟨B, 0, none⟩), .agg #[.int .i64 f, .int .i64 u, .int .i64 x]] W fun e w' => e = .returned (.int .i64 0) ∧ Lin w' B 2 M2 ∧ Chg W w' B)) :
    Calls Try.prog 5 #[.agg #[.int .i64 f, .int .i64 u, .int .i64 x], .agg #[.int .i64 g, .int .i64 v, .int .i64 y], .int .i64 day] w fun e w' => e = .returned (.bool true) ∧ Below w.heap.size w w' := by
  have HBx := Lib.hid (order_boxes w f u x g v y)
  go_enter Try.func5, Try.ntmps5
  go_wp2_with (go_at_call 10; refine (code_lnew _ 2 (by decide) (by decide)).mono ?_; rintro e w1 ⟨Bl, rfl, h1, hb1, hB⟩; have HN1 := Lib.hid (And.intro h1 (And.intro (HBx.out.on hb1) hB)); clear h1 hb1 hB; refine Stop.out ?_)
  unfold Stop
  go_wp2_with (go_at_call 10; refine (code_lnew _ 2 (by decide) (by decide)).mono ?_; rintro e w2 ⟨Bm, rfl, h1, hb1, hB⟩; have HN2 := Lib.hid (And.intro (HN1.out.1.on hb1) (And.intro h1 (And.intro (HN1.out.2.1.on hb1) hB))); clear h1 hb1 hB; refine Stop.out ?_)
  unfold Stop
  have HNe : Hid (w.heap.size ≠ Bl ∧ w.heap.size + 1 ≠ Bl ∧ w.heap.size ≠ Bm ∧ Bl ≠ Bm ∧ Bm ≠ Bl ∧ w.heap.size ≤ Bl ∧ w.heap.size ≤ Bm) := Lib.hid (order_ne HN1.out.2.2 HN2.out.2.2.2 HN1.out.1.lt HN1.out.2.1.2.2.size)
  have HNm : Hid (w.heap.size ≠ Bm ∧ w.heap.size + 1 ≠ Bm) := Lib.hid (order_nm HN1.out.2.2 HN2.out.2.2.2 HN1.out.1.lt)
  go_wp2
  refine wp_region_held_drew (S := fun W => W.cell? ⟨w.heap.size, 0, none⟩ = some (.int .i64 f) ∧ W.cell? ⟨w.heap.size, 1, none⟩ = some (.int .i64 u) ∧ W.cell? ⟨w.heap.size, 2, none⟩ = some (.int .i64 x) ∧ W.cell? ⟨w.heap.size + 1, 0, none⟩ = some (.int .i64 g) ∧ W.cell? ⟨w.heap.size + 1, 1, none⟩ = some (.int .i64 v) ∧ W.cell? ⟨w.heap.size + 1, 2, none⟩ = some (.int .i64 y)) (by kernel_rfl) (hS_drew HN2.out.2.2.1.cells) ?_
  intro hHeld
  have HF0 : Hid (Lin w2.drew Bl 2 [] ∧ Lin w2.drew Bm 2 [] ∧ Below w.heap.size w w2.drew) := Lib.hid ⟨HN2.out.1.on (below_drew _), HN2.out.2.1.on (below_drew _), below_then HN2.out.2.2.1.2.2 (below_drew _)⟩
  clear HN1 HN2 HBx
  generalize w2.drew = w0 at HF0 hHeld ⊢
  (refine takeH (i := 0) (v := ?_) rfl (by kernel_rfl) (by kernel_rfl) (by kernel_rfl) (fun _ _ _ h => h) (Or.inl ⟨by rfl, ?_⟩) (by assumption) ?_; rotate_left; (focus ((intro wS hSw); (try dsimp only at hSw); obtain ⟨s0, s1, s2, s3, s4, s5⟩ := hSw; go_simp; (try with_reducible rfl); done)); (try simp only [Act.put, List.setIfInBounds_toArray, List.set_cons_zero, List.set_cons_succ]))
  (refine takeH (i := 1) (v := ?_) rfl (by kernel_rfl) (by kernel_rfl) (by kernel_rfl) (fun _ _ _ h => h) (Or.inl ⟨by rfl, ?_⟩) (by assumption) ?_; rotate_left; (focus ((intro wS hSw); (try dsimp only at hSw); obtain ⟨s0, s1, s2, s3, s4, s5⟩ := hSw; go_simp; (try with_reducible rfl); done)); (try simp only [Act.put, List.setIfInBounds_toArray, List.set_cons_zero, List.set_cons_succ]))
  (refine takeH (i := 2) (v := ?_) rfl (by kernel_rfl) (by kernel_rfl) (by kernel_rfl) (fun _ _ _ h => h) (Or.inl ⟨by rfl, ?_⟩) (by assumption) ?_; rotate_left; (focus ((intro wS hSw); (try dsimp only at hSw); obtain ⟨s0, s1, s2, s3, s4, s5⟩ := hSw; go_simp; (try with_reducible rfl); done)); (try simp only [Act.put, List.setIfInBounds_toArray, List.set_cons_zero, List.set_cons_succ]))
  (refine takeH (i := 4) (v := ?_) rfl (by kernel_rfl) (by kernel_rfl) (by kernel_rfl) (fun _ _ _ h => h) (Or.inl ⟨by rfl, ?_⟩) (by assumption) ?_; rotate_left; (focus ((intro wS hSw); (try dsimp only at hSw); obtain ⟨s0, s1, s2, s3, s4, s5⟩ := hSw; go_simp; (try with_reducible rfl); done)); (try simp only [Act.put, List.setIfInBounds_toArray, List.set_cons_zero, List.set_cons_succ]))
  (refine takeH (i := 5) (v := ?_) rfl (by kernel_rfl) (by kernel_rfl) (by kernel_rfl) (fun _ _ _ h => h) (Or.inl ⟨by rfl, ?_⟩) (by assumption) ?_; rotate_left; (focus ((intro wS hSw); (try dsimp only at hSw); obtain ⟨s0, s1, s2, s3, s4, s5⟩ := hSw; go_simp; (try with_reducible rfl); done)); (try simp only [Act.put, List.setIfInBounds_toArray, List.set_cons_zero, List.set_cons_succ]))
  (refine takeH (i := 6) (v := ?_) rfl (by kernel_rfl) (by kernel_rfl) (by kernel_rfl) (fun _ _ _ h => h) (Or.inl ⟨by rfl, ?_⟩) (by assumption) ?_; rotate_left; (focus ((intro wS hSw); (try dsimp only at hSw); obtain ⟨s0, s1, s2, s3, s4, s5⟩ := hSw; go_simp; (try with_reducible rfl); done)); (try simp only [Act.put, List.setIfInBounds_toArray, List.set_cons_zero, List.set_cons_succ]))
  refine aloneH (i := 3) rfl (by kernel_rfl) (fun K hK => ?_)
  rw [if_pos (by rfl)]
  go_simp
  refine (H1.out w0 Bl HF0.out.1).mono ?_
  rintro e w1 ⟨rfl, hl, hc⟩
  have HC1 := Lib.hid (And.intro hl hc)
  clear hl hc
  (try go_simp)
  refine hK.out _ _ (⟨HC1.out.2.cell hHeld.1 HNe.out.1, HC1.out.2.cell hHeld.2.1 HNe.out.1, HC1.out.2.cell hHeld.2.2.1 HNe.out.1, HC1.out.2.cell hHeld.2.2.2.1 HNe.out.2.1, HC1.out.2.cell hHeld.2.2.2.2.1 HNe.out.2.1, HC1.out.2.cell hHeld.2.2.2.2.2 HNe.out.2.1⟩) (fun hNew => ?_)
  clear hK K hHeld; (have hHeld := hNew); clear hNew; (try simp only [Act.put, List.setIfInBounds_toArray, List.set_cons_zero, List.set_cons_succ])
  refine aloneH (i := 7) rfl (by kernel_rfl) (fun K hK => ?_)
  rw [if_pos (by rfl)]
  go_simp
  refine (H2.out w1 Bl HC1.out.1).mono ?_
  rintro e w2 ⟨rfl, hl, hc⟩
  have HC2 := Lib.hid (And.intro hl hc)
  clear hl hc
  (try go_simp)
  refine hK.out _ _ (⟨HC2.out.2.cell hHeld.1 HNe.out.1, HC2.out.2.cell hHeld.2.1 HNe.out.1, HC2.out.2.cell hHeld.2.2.1 HNe.out.1, HC2.out.2.cell hHeld.2.2.2.1 HNe.out.2.1, HC2.out.2.cell hHeld.2.2.2.2.1 HNe.out.2.1, HC2.out.2.cell hHeld.2.2.2.2.2 HNe.out.2.1⟩) (fun hNew => ?_)
  clear hK K hHeld; (have hHeld := hNew); clear hNew; (try simp only [Act.put, List.setIfInBounds_toArray, List.set_cons_zero, List.set_cons_succ])
  (refine takeH (i := 8) (v := ?_) rfl (by kernel_rfl) (by kernel_rfl) (by kernel_rfl) (fun _ _ _ h => h) (Or.inl ⟨by rfl, ?_⟩) (by assumption) ?_; rotate_left; (focus ((intro wS hSw); (try dsimp only at hSw); obtain ⟨s0, s1, s2, s3, s4, s5⟩ := hSw; go_simp; (try with_reducible rfl); done)); (try simp only [Act.put, List.setIfInBounds_toArray, List.set_cons_zero, List.set_cons_succ]))
  (refine takeH (i := 9) (v := ?_) rfl (by kernel_rfl) (by kernel_rfl) (by kernel_rfl) (fun _ _ _ h => h) (Or.inl ⟨by rfl, ?_⟩) (by assumption) ?_; rotate_left; (focus ((intro wS hSw); (try dsimp only at hSw); obtain ⟨s0, s1, s2, s3, s4, s5⟩ := hSw; go_simp; (try with_reducible rfl); done)); (try simp only [Act.put, List.setIfInBounds_toArray, List.set_cons_zero, List.set_cons_succ]))
  refine wpAnyH_done (by kernel_rfl) ?_ _
  have HS6 : Hid (w2.cell? ⟨w.heap.size, 0, none⟩ = some (.int .i64 f) ∧ w2.cell? ⟨w.heap.size, 1, none⟩ = some (.int .i64 u) ∧ w2.cell? ⟨w.heap.size, 2, none⟩ = some (.int .i64 x) ∧ w2.cell? ⟨w.heap.size + 1, 0, none⟩ = some (.int .i64 g) ∧ w2.cell? ⟨w.heap.size + 1, 1, none⟩ = some (.int .i64 v) ∧ w2.cell? ⟨w.heap.size + 1, 2, none⟩ = some (.int .i64 y)) := Lib.hid hHeld
  clear hHeld
  have HL6 : Hid (Lin w2 Bl 2 L2 ∧ Lin w2 Bm 2 [] ∧ Below w.heap.size w w2) := Lib.hid ⟨HC2.out.1, (HF0.out.2.1.chg HF0.out.1 HC1.out.2 HNe.out.2.2.2.2.1).chg HC1.out.1 HC2.out.2 HNe.out.2.2.2.2.1, (HF0.out.2.2.trans (HC1.out.2.below HF0.out.2.2.size HNe.out.2.2.2.2.2.1)).trans (HC2.out.2.below (Nat.le_trans HF0.out.2.2.size HC1.out.2.size) HNe.out.2.2.2.2.2.1)⟩
  go_wp2
  refine wp_region_held_drew (S := fun W => W.cell? ⟨w.heap.size, 0, none⟩ = some (.int .i64 f) ∧ W.cell? ⟨w.heap.size, 1, none⟩ = some (.int .i64 u) ∧ W.cell? ⟨w.heap.size, 2, none⟩ = some (.int .i64 x) ∧ W.cell? ⟨w.heap.size + 1, 0, none⟩ = some (.int .i64 g) ∧ W.cell? ⟨w.heap.size + 1, 1, none⟩ = some (.int .i64 v) ∧ W.cell? ⟨w.heap.size + 1, 2, none⟩ = some (.int .i64 y)) (by kernel_rfl) (hS_drew HS6.out) ?_
  intro hHeld
  have HF6 : Hid (Lin w2.drew Bl 2 L2 ∧ Lin w2.drew Bm 2 [] ∧ Below w.heap.size w w2.drew) := Lib.hid ⟨HL6.out.1.on (below_drew _), HL6.out.2.1.on (below_drew _), below_then HL6.out.2.2 (below_drew _)⟩
  clear HC1 HC2 HL6 HS6 HF0
  generalize w2.drew = w0 at HF6 hHeld ⊢
  (refine takeH (i := 0) (v := ?_) rfl (by kernel_rfl) (by kernel_rfl) (by kernel_rfl) (fun _ _ _ h => h) (Or.inl ⟨by rfl, ?_⟩) (by assumption) ?_; rotate_left; (focus ((intro wS hSw); (try dsimp only at hSw); obtain ⟨s0, s1, s2, s3, s4, s5⟩ := hSw; go_simp; (try with_reducible rfl); done)); (try simp only [Act.put, List.setIfInBounds_toArray, List.set_cons_zero, List.set_cons_succ]))
  (refine takeH (i := 1) (v := ?_) rfl (by kernel_rfl) (by kernel_rfl) (by kernel_rfl) (fun _ _ _ h => h) (Or.inl ⟨by rfl, ?_⟩) (by assumption) ?_; rotate_left; (focus ((intro wS hSw); (try dsimp only at hSw); obtain ⟨s0, s1, s2, s3, s4, s5⟩ := hSw; go_simp; (try with_reducible rfl); done)); (try simp only [Act.put, List.setIfInBounds_toArray, List.set_cons_zero, List.set_cons_succ]))
  (refine takeH (i := 2) (v := ?_) rfl (by kernel_rfl) (by kernel_rfl) (by kernel_rfl) (fun _ _ _ h => h) (Or.inl ⟨by rfl, ?_⟩) (by assumption) ?_; rotate_left; (focus ((intro wS hSw); (try dsimp only at hSw); obtain ⟨s0, s1, s2, s3, s4, s5⟩ := hSw; go_simp; (try with_reducible rfl); done)); (try simp only [Act.put, List.setIfInBounds_toArray, List.set_cons_zero, List.set_cons_succ]))
  (refine takeH (i := 4) (v := ?_) rfl (by kernel_rfl) (by kernel_rfl) (by kernel_rfl) (fun _ _ _ h => h) (Or.inl ⟨by rfl, ?_⟩) (by assumption) ?_; rotate_left; (focus ((intro wS hSw); (try dsimp only at hSw); obtain ⟨s0, s1, s2, s3, s4, s5⟩ := hSw; go_simp; (try with_reducible rfl); done)); (try simp only [Act.put, List.setIfInBounds_toArray, List.set_cons_zero, List.set_cons_succ]))
  (refine takeH (i := 5) (v := ?_) rfl (by kernel_rfl) (by kernel_rfl) (by kernel_rfl) (fun _ _ _ h => h) (Or.inl ⟨by rfl, ?_⟩) (by assumption) ?_; rotate_left; (focus ((intro wS hSw); (try dsimp only at hSw); obtain ⟨s0, s1, s2, s3, s4, s5⟩ := hSw; go_simp; (try with_reducible rfl); done)); (try simp only [Act.put, List.setIfInBounds_toArray, List.set_cons_zero, List.set_cons_succ]))
  (refine takeH (i := 6) (v := ?_) rfl (by kernel_rfl) (by kernel_rfl) (by kernel_rfl) (fun _ _ _ h => h) (Or.inl ⟨by rfl, ?_⟩) (by assumption) ?_; rotate_left; (focus ((intro wS hSw); (try dsimp only at hSw); obtain ⟨s0, s1, s2, s3, s4, s5⟩ := hSw; go_simp; (try with_reducible rfl); done)); (try simp only [Act.put, List.setIfInBounds_toArray, List.set_cons_zero, List.set_cons_succ]))
  refine aloneH (i := 3) rfl (by kernel_rfl) (fun K hK => ?_)
  rw [if_pos (by rfl)]
  go_simp
  refine (G1.out w0 Bm HF6.out.2.1).mono ?_
  rintro e w1 ⟨rfl, hl, hc⟩
  have HC1 := Lib.hid (And.intro hl hc)
  clear hl hc
  (try go_simp)
  refine hK.out _ _ (⟨HC1.out.2.cell hHeld.1 HNm.out.1, HC1.out.2.cell hHeld.2.1 HNm.out.1, HC1.out.2.cell hHeld.2.2.1 HNm.out.1, HC1.out.2.cell hHeld.2.2.2.1 HNm.out.2, HC1.out.2.cell hHeld.2.2.2.2.1 HNm.out.2, HC1.out.2.cell hHeld.2.2.2.2.2 HNm.out.2⟩) (fun hNew => ?_)
  clear hK K hHeld; (have hHeld := hNew); clear hNew; (try simp only [Act.put, List.setIfInBounds_toArray, List.set_cons_zero, List.set_cons_succ])
  refine aloneH (i := 7) rfl (by kernel_rfl) (fun K hK => ?_)
  rw [if_pos (by rfl)]
  go_simp
  refine (G2.out w1 Bm HC1.out.1).mono ?_
  rintro e w2 ⟨rfl, hl, hc⟩
  have HC2 := Lib.hid (And.intro hl hc)
  clear hl hc
  (try go_simp)
  refine hK.out _ _ (⟨HC2.out.2.cell hHeld.1 HNm.out.1, HC2.out.2.cell hHeld.2.1 HNm.out.1, HC2.out.2.cell hHeld.2.2.1 HNm.out.1, HC2.out.2.cell hHeld.2.2.2.1 HNm.out.2, HC2.out.2.cell hHeld.2.2.2.2.1 HNm.out.2, HC2.out.2.cell hHeld.2.2.2.2.2 HNm.out.2⟩) (fun hNew => ?_)
  clear hK K hHeld; (have hHeld := hNew); clear hNew; (try simp only [Act.put, List.setIfInBounds_toArray, List.set_cons_zero, List.set_cons_succ])
  (refine takeH (i := 8) (v := ?_) rfl (by kernel_rfl) (by kernel_rfl) (by kernel_rfl) (fun _ _ _ h => h) (Or.inl ⟨by rfl, ?_⟩) (by assumption) ?_; rotate_left; (focus ((intro wS hSw); (try dsimp only at hSw); obtain ⟨s0, s1, s2, s3, s4, s5⟩ := hSw; go_simp; (try with_reducible rfl); done)); (try simp only [Act.put, List.setIfInBounds_toArray, List.set_cons_zero, List.set_cons_succ]))
  (refine takeH (i := 9) (v := ?_) rfl (by kernel_rfl) (by kernel_rfl) (by kernel_rfl) (fun _ _ _ h => h) (Or.inl ⟨by rfl, ?_⟩) (by assumption) ?_; rotate_left; (focus ((intro wS hSw); (try dsimp only at hSw); obtain ⟨s0, s1, s2, s3, s4, s5⟩ := hSw; go_simp; (try with_reducible rfl); done)); (try simp only [Act.put, List.setIfInBounds_toArray, List.set_cons_zero, List.set_cons_succ]))
  refine wpAnyH_done (by kernel_rfl) ?_ _
  clear hHeld
  have HL9 : Hid (Lin w2 Bl 2 L2 ∧ Lin w2 Bm 2 M2 ∧ Below w.heap.size w w2) := Lib.hid ⟨(HF6.out.1.chg HF6.out.2.1 HC1.out.2 HNe.out.2.2.2.1).chg HC1.out.1 HC2.out.2 HNe.out.2.2.2.1, HC2.out.1, (HF6.out.2.2.trans (HC1.out.2.below HF6.out.2.2.size HNe.out.2.2.2.2.2.2)).trans (HC2.out.2.below (Nat.le_trans HF6.out.2.2.size HC1.out.2.size) HNe.out.2.2.2.2.2.2)⟩
  clear HC1 HC2 HF6
  have HA1 : Hid (∀ W, Lin W Bl 2 L2 → Calls Try.prog 20 #[.pointer (some ⟨Bl, 0, none⟩), .int .i64 day] W fun e w' => e = .returned (.tuple #[.int .i64 X, .bool q]) ∧ Below W.heap.size W w') := Lib.hid (fun W h => HA.out W Bl h)
  have HA2 : Hid (∀ W, Lin W Bm 2 M2 → Calls Try.prog 20 #[.pointer (some ⟨Bm, 0, none⟩), .int .i64 day] W fun e w' => e = .returned (.tuple #[.int .i64 X, .bool q]) ∧ Below W.heap.size W w') := Lib.hid (fun W h => HA.out W Bm (HLM.out ▸ h))
  have HLn : Hid (∀ W, Lin W Bl 2 L2 → Calls Try.prog 21 #[.pointer (some ⟨Bl, 0, none⟩)] W fun e w' => e = .returned (.int .i64 2) ∧ W = w') := Lib.hid (fun W h => by have := code_llen W Bl 2 L2 h; rwa [HL2.out] at this)
  go_wp2_with (go_at_call 20; refine (HA1.out _ HL9.out.1).mono ?_; rintro e w3 ⟨rfl, hb⟩; have HL3 : Hid (Lin w3 Bl 2 L2 ∧ Lin w3 Bm 2 M2 ∧ Below w.heap.size w w3) := (Lib.hid ⟨HL9.out.1.on hb, HL9.out.2.1.on hb, below_then HL9.out.2.2 hb⟩); clear hb; refine Stop.out ?_)
  unfold Stop
  go_wp2_with (go_at_call 20; refine (HA2.out _ HL3.out.2.1).mono ?_; rintro e w4 ⟨rfl, hb⟩; have HL4 : Hid (Lin w4 Bl 2 L2 ∧ Below w.heap.size w w4) := (Lib.hid ⟨HL3.out.1.on hb, below_then HL3.out.2.2 hb⟩); clear hb; refine Stop.out ?_)
  unfold Stop
  go_wp2_with (go_at_call 21; refine (HLn.out _ HL4.out.1).mono ?_; rintro e w5 ⟨rfl, rfl⟩; refine Stop.out ?_)
  unfold Stop
  go_wp2_with (go_at_call 9; refine (tl_lives _).mono ?_; rintro e w9 ⟨rfl, hb⟩; have HZ := Lib.hid (below_then HL4.out.2 hb); clear hb; refine Stop.out ?_)
  unfold Stop
  go_wp2
  go_ret
  exact ⟨rfl, HZ.out⟩
theorem timelineOrder_any (f u x g v y day : Int) (w : World) : Calls Try.prog 5 #[.agg #[.int .i64 f, .int .i64 u, .int .i64 x], .agg #[.int .i64 g, .int .i64 v, .int .i64 y], .int .i64 day] w fun e w' => e = .returned (.bool true) ∧ Below w.heap.size w w' := by
  have H1 := fun W B (h : Lin W B 2 []) => code_ordset W B 2 [] f u x h
  have H2 := fun W B (h : Lin W B 2 (setL 2 [] (f, u, x))) => code_ordset W B 2 _ g v y h
  have G1 := fun W B (h : Lin W B 2 []) => code_ordset W B 2 [] g v y h
  have G2 := fun W B (h : Lin W B 2 (setL 2 [] (g, v, y))) => code_ordset W B 2 _ f u x h
  by_cases ha : isSp f u
  · by_cases hb : isSp g v
    · have ea : setL 2 [] (f, u, x) = [(f, u, x)] := setL_nil (p := (f, u, x)) ha
      have eb : setL 2 [] (g, v, y) = [(g, v, y)] := setL_nil (p := (g, v, y)) hb
      have e1 : setE 2 [] f u = 0 := by rw [setE_nil, if_pos ha]
      have e2 : setE 2 [] g v = 0 := by rw [setE_nil, if_pos hb]
      rw [e1, ea] at H1
      rw [ea] at H2
      rw [e2, eb] at G1
      rw [eb] at G2
      have e3 := setE_one (a := (f, u, x)) (b := (g, v, y)) hb
      have e4 := setE_one (a := (g, v, y)) (b := (f, u, x)) ha
      dsimp only at e3 e4
      rw [meetB_comm f u g v] at e4
      cases hm : meetB g v f u with
      | true =>
        rw [hm, if_pos rfl] at e3 e4
        rw [e3] at H2
        rw [e4] at G2
        exact order_3 f u x g v y day w _ _ _ _ (Lib.hid H1) (Lib.hid H2) (Lib.hid G1) (Lib.hid G2)
      | false =>
        rw [hm, if_neg (by decide)] at e3 e4
        rw [e3] at H2
        rw [e4] at G2
        obtain ⟨es, el⟩ := order_same (a := (f, u, x)) (b := (g, v, y)) ha hb hm
        exact order_4 f u x g v y day w _ _ _ _ (atX (setL 2 [(f, u, x)] (g, v, y)) day) (atB (setL 2 [(f, u, x)] (g, v, y)) day) (Lib.hid es.symm) (Lib.hid el) (Lib.hid (fun W B h => code_at' W B 2 _ day h)) (Lib.hid H1) (Lib.hid H2) (Lib.hid G1) (Lib.hid G2)
    · have ea : setL 2 [] (f, u, x) = [(f, u, x)] := setL_nil (p := (f, u, x)) ha
      have e1 : setE 2 [] f u = 0 := by rw [setE_nil, if_pos ha]
      have e2 : setE 2 [] g v = 30 := by rw [setE_nil, if_neg hb]
      rw [e1] at H1
      rw [e2] at G1
      exact order_2 f u x g v y day w _ _ _ _ _ _ (Lib.hid H1) (Lib.hid H2) (Lib.hid G1) (Lib.hid G2)
  · have e1 : setE 2 [] f u = 30 := by rw [setE_nil, if_neg ha]
    rw [e1] at H1
    exact order_1 f u x g v y day w _ _ _ _ _ _ _ (Lib.hid H1) (Lib.hid H2) (Lib.hid G1) (Lib.hid G2)
end Go.Proofs.Ytlnpflfkkjcopaa
