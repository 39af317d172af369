/- Does a line tell what the document's list does? -/
import Derived.Test.YtlnpflfkkjcopaaTlP
import Derived.Test.YtlnpflfkkjcopaaTlV
namespace Go.Proofs.Ytlnpflfkkjcopaa
open Go.RowKit
set_option maxRecDepth 100000
attribute [local go_sem] Oper.semAt_some

theorem seq_nil_in (f : Fn) (x c : Array Value) (W : World) (d : Nat) : (Op.equalIn (d + 1) 82 (.func f x c) .nilFunc).run Try.prog W = .ok false W := by
  have hu := Try.underlying82
  simp [Op.equalIn, run_underlying hu]
theorem seq_nil (f : Fn) (x c : Array Value) (W : World) : (binOp .eql 82 (.func f x c) .nilFunc).run Try.prog W = .ok (.bool false) W := by
  have h : (binOp .eql 82 (.func f x c) .nilFunc).run Try.prog W = ((Op.equalIn 10000 82 (.func f x c) .nilFunc).run Try.prog W).andThen fun b w' => .ok (.bool b) w' := by
    simp only [binOp]
    simp [Op.equal, Op.maxDepth]
  rw [h, seq_nil_in f x c W 9999]
  rfl
theorem results_bool {fn : Func} {p : Tmp} (h : fn.results = #[.cell p 4]) (tmps : Array Value) (W : World) (g : Nat) (v : Bool) (hp : tmps.getD p undef = .pointer (some ⟨g, 0, none⟩)) (hc : W.heap[g]? = some (.cells #[.bool v] 4 (0, 0))) :
    (results fn tmps).run Try.prog W = .ok (.bool v) W := by
  obtain ⟨c0, _⟩ := one_cell hc
  have hp' : tmps[p]?.getD undef = .pointer (some ⟨g, 0, none⟩) := by simpa [Array.getD_eq_getD_getElem?] using hp
  simp [results, h, hp', go_sem, c0]
theorem Row.below' {W V : World} {A : Option Addr} {L : List Sp} {b : Nat} (h : Row W A L) (hb : Below b W V) (hA : L ≠ [] → ∀ a, A = some a → a.block < b) : Row V A L := fun hn => by
  obtain ⟨g, o, e, hl, hr⟩ := h hn
  have hg : g < b := hA hn _ e
  exact ⟨g, o, e, Nat.lt_of_lt_of_le hl hb.size, fun j v hv => (hb.cell (p := ⟨g, o + j, none⟩) hg).trans (hr j v hv)⟩
theorem Row.setCell' {W : World} {A : Option Addr} {L : List Sp} {b o : Nat} {u : Value} (h : Row W A L) (hA : L ≠ [] → ∀ a, A = some a → a.block ≠ b) : Row (W.setCell ⟨b, o, none⟩ u) A L := fun hn => by
  obtain ⟨g, o', e, hl, hr⟩ := h hn
  have hg : g ≠ b := hA hn _ e
  exact ⟨g, o', e, by simpa using hl, fun j v hv => (World.cell?_of_block (heap_setCell_other _ _ _ _ (by simpa using hg))).trans (hr j v hv)⟩
/-- the call's own boxes, and the sorted list -/
def LikeT (w : World) (b7 : Nat) (A5 : Option Addr) (c5 : Nat) (L : List Sp) (n : Int) (W : World) : Prop :=
  W.heap[w.heap.size]? = some (.cells #[.bool false] 4 (0, 0)) ∧ W.heap[b7]? = some (.cells #[.slice A5 L.length c5] 22 (0, 0)) ∧ W.heap[b7 + 1]? = some (.cells #[.int .i64 n] 3 (0, 0)) ∧ Row W A5 L ∧ Below w.heap.size w W
theorem LikeT.below {w W V : World} {b7 c5 b : Nat} {A5 : Option Addr} {L : List Sp} {n : Int} (h : LikeT w b7 A5 c5 L n W) (hb : Below b W V) (h0 : w.heap.size < b) (h1 : b7 + 1 < b) (hA : L ≠ [] → ∀ a, A5 = some a → a.block < b7) : LikeT w b7 A5 c5 L n V :=
  ⟨(hb.block _ h0).trans h.1, (hb.block _ (by omega)).trans h.2.1, (hb.block _ h1).trans h.2.2.1, h.2.2.2.1.below' hb (fun hn a e => by have := hA hn a e; omega), h.2.2.2.2.trans (hb.mono (by omega))⟩
theorem like_round {w Wb wy : World} {b7 c5 b : Nat} {A5 : Option Addr} {L : List Sp} {n n2 : Int} (hI : LikeT w b7 A5 c5 L n Wb) (hF : Below Wb.heap.size Wb wy) (hbw : b < w.heap.size) (hz : w.heap.size < b7) (hA : L ≠ [] → ∀ a, A5 = some a → a.block < b7) (hs : b7 + 3 ≤ Wb.heap.size) :
    KeepsOthers Wb (wy.setCell ⟨b7 + 1, 0, none⟩ (.int .i64 n2)) ∧ KpS b Wb (wy.setCell ⟨b7 + 1, 0, none⟩ (.int .i64 n2)) ∧ LikeT w b7 A5 c5 L n2 (wy.setCell ⟨b7 + 1, 0, none⟩ (.int .i64 n2)) ∧ b7 + 3 ≤ (wy.setCell ⟨b7 + 1, 0, none⟩ (.int .i64 n2)).heap.size := by
  have hy := hI.below hF (by omega) (by omega) hA
  refine ⟨(others_below hF).trans (KeepsOthers.setCell _ _ _), ⟨fun h => (heap_setCell_other _ _ _ _ (by simp <;> omega)).trans (hF.block _ h), by simpa using hF.size⟩, ⟨(heap_setCell_other _ _ _ _ (by simp <;> omega)).trans hy.1, (heap_setCell_other _ _ _ _ (by simp)).trans hy.2.1, ?_, hy.2.2.2.1.setCell' (fun hn a e => by have := hA hn a e; omega), hy.2.2.2.2.setCell (p := ⟨b7 + 1, 0, none⟩) (by simp <;> omega) _⟩, by have := hF.size; simp; omega⟩
  exact heap_setCell_same wy (b7 + 1) 0 _ _ (.int .i64 n2) hy.2.2.1

theorem ownq_form {w : World} {B : Nat} {v : Value} {L : List Sp} (h : OwnQ w B v L) : ∃ A c, v = .slice A L.length c ∧ Row w A L ∧ (L ≠ [] → ∀ a, A = some a → a.block < w.heap.size) := by
  obtain ⟨A, c, rfl, hr, _⟩ := h.form
  refine ⟨A, c, rfl, hr, fun hn a e => ?_⟩
  obtain ⟨g, o, e2, hl, _⟩ := hr hn
  rw [e] at e2
  injection e2 with e2
  rw [e2]
  exact hl
set_option maxHeartbeats 2000000 in
theorem code_like (w : World) (B most : Nat) (A0 : Option Addr) (c0 : Nat) (L M : List Sp) (day : Int) (h : Lin w B most L) (hr : Row w A0 M) (hI : Inv L M) (hl : M.length ≤ 100) :
    Calls Try.prog 13 #[.pointer (some ⟨B, 0, none⟩), .slice A0 M.length c0, .int .i64 day] w fun e w' => e = .returned (.bool true) ∧ Below w.heap.size w w' := by
  obtain ⟨A, c, hLa⟩ := h
  have HL := Lib.hid hLa
  have HR := Lib.hid hr
  have HIv := Lib.hid (And.intro hI hl)
  have hx0 := heap_alloc_new w (.cells #[.bool false] 4)
  have HX0 := Lib.hid (And.intro hx0 (below_alloc w (.cells #[.bool false] 4)))
  have hfn := seq_nil
  clear hLa hr hI hl hx0
  refine callsIn_wide.1 (callsIn_of_wp_marks (n := 0) (F := Fence.wide) Try.func13 rfl trivial (wpIn_wide.2 ?_) rfl)
  simp only [Try.ntmps13, List.size_toArray, List.length_cons, List.length_nil, Nat.reduceAdd, Nat.reduceSub, Array.replicate_succ, Array.replicate_zero, List.push_toArray, List.append_toArray, List.nil_append, List.cons_append]
  go_wp2_with (go_at_call 40; refine (ref_sorted _ A0 c0 L M (HR.out.on HX0.out.2) HIv.out.1 HIv.out.2).mono ?_; rintro e w1 ⟨v, rfl, hq, hb⟩; have HX1 := Lib.hid (And.intro (heap_on hb HX0.out.1) (below_then HX0.out.2 hb)); obtain ⟨A5, c5, rfl, hr5, hA5⟩ := ownq_form hq; have HR5 := Lib.hid hr5; clear hb hq hr5; refine Stop.out ?_)
  unfold Stop
  have HI3 : Hid (LikeT w w1.heap.size A5 c5 L 0 ((w1.alloc (.cells #[.slice A5 L.length c5] 22)).alloc (.cells #[.int .i64 0] 3))) := Lib.hid (by
    have e2 := heap_alloc_new (w1.alloc (.cells #[.slice A5 L.length c5] 22)) (.cells #[.int .i64 0] 3)
    simp only [World.size_alloc] at e2
    exact ⟨heap_on (below_alloc _ _) (heap_on (below_alloc _ _) HX1.out.1), heap_on (below_alloc _ _) (heap_alloc_new w1 _), e2, (HR5.out.on (below_alloc _ _)).on (below_alloc _ _), below_then HX1.out.2 (below_then (below_alloc _ _) (below_alloc _ _))⟩)
  go_wp2_with (go_at_call 38; refine (code_lall _ B most c A L (HL.out.on HI3.out.2.2.2.2)).mono ?_; rintro e W9 ⟨rfl, hg, hb⟩; refine Stop.out ?_)
  unfold Stop
  unfold allF
  obtain ⟨b7, hb7⟩ : ∃ b7, b7 = w1.heap.size := ⟨_, rfl⟩
  have hz8 : ((w1.alloc (.cells #[.slice A5 L.length c5] 22)).alloc (.cells #[.int .i64 0] 3)).heap.size = b7 + 2 := by rw [hb7]; simp
  have h78 : w.heap.size < b7 := by rw [hb7]; exact heapLt HX1.out.1
  rw [← hb7] at hA5 HI3
  rw [hz8] at hg
  have hI9 : LikeT w b7 A5 c5 L 0 W9 := HI3.out.below hb (by omega) (by omega) hA5
  have hr9 : Row W9 A L := HL.out.2.1.on hI9.2.2.2.2
  have hz9 : b7 + 3 ≤ W9.heap.size := heapLt hg
  obtain ⟨b, hbw, hAb⟩ := HL.out.row
  have HA := Lib.hid (told W9 (b7 + 2) b A c L hg hr9 hAb (by have := HL.out.short; omega))
  rw [← hb7]
  clear hg hb hr9 hAb hz8 hb7 HX0 HX1 HI3 HR5
  go_wp2
  refine wp_rangeTold (gf := 55) (lb := #[.pointer (some ⟨b7 + 2, 0, none⟩)]) rfl (enters_of Try.func55 (by kernel_rfl) rfl) HA.out (fun h k => h.trans k) (fun A B h => ⟨fun _ => h.block _ (by omega), h.size⟩) (fun _ => rfl)
    (fun pre W => LikeT w b7 A5 c5 L (pre.length : Nat) W ∧ b7 + 3 ≤ W.heap.size) (fun _ _ _ => False) (fun _ A B h hb => ⟨h.1.below hb (by omega) (by omega) hA5, Nat.le_trans h.2 hb.size⟩) (fun _ _ _ _ h _ => h) ⟨hI9, hz9⟩ ?round ?done ?stop
  case stop =>
    rintro D cc pre W _ _ h _
    exact h.elim
  case round =>
    intro l r pre x W hl hr hI hx
    obtain ⟨post, hpost⟩ := hx
    obtain ⟨hI, hz⟩ := hI
    have hpl : pre.length < L.length := by
      have := congrArg List.length hpost
      simp at this
      omega
    have hLx : L[pre.length] = x := by
      subst hpost
      simp
    obtain ⟨k, hk⟩ : ∃ k, k = pre.length := ⟨_, rfl⟩
    have HK1 : Hid ((((pre ++ [x]).length : Nat) : Int) = (k : Int) + 1) := Lib.hid (by rw [List.length_append, hk]; simp)
    have hsh := HL.out.short
    rw [← hk] at hI hpl
    have hlW : l < W.heap.size := heapLt hr
    have HI := Lib.hid hI
    have hLk : ∃ h : k < L.length, L[k] = x := ⟨hpl, by subst hk; exact hLx⟩
    have HLk := Lib.hid hLk
    clear hI hr hpost hLx hLk hk
    dsimp only [encS]
    gi_wp2
    refine ⟨below_alloc _ _, fun Wb hB => ?_⟩
    have hIa := HI.out.below (below_alloc W (.cells #[.int .i64 x.1, .int .i64 x.2.1] 24)) (by omega) (by omega) hA5
    have hIb := hIa.below (hB.below (b := W9.heap.size) (by omega)) (by omega) (by omega) hA5
    have hx6 := (hB.block W.heap.size (by omega)).trans (heap_alloc_new W (.cells #[.int .i64 x.1, .int .i64 x.2.1] 24))
    have HZb : Hid (b7 + 3 ≤ Wb.heap.size) := Lib.hid (by have := hB.size; rw [World.size_alloc] at this; omega)
    obtain ⟨x0, x1, _, _⟩ := row2 hx6
    obtain ⟨y7, _⟩ := one_cell hIb.2.1
    obtain ⟨y8, _⟩ := one_cell hIb.2.2.1
    obtain ⟨b5, o5, rfl, _, z0, z1, z2⟩ := hIb.2.2.2.1.at_ k hpl
    obtain ⟨_, hLk⟩ := HLk.out
    rw [hLk] at z0 z1 z2
    have HIb := Lib.hid hIb
    have hwn : IntKind.i64.wrap ((k : Nat) + 1 : Int) = (k : Nat) + 1 := by rw [IntKind.wrap_i64]; omega
    have hki : (k : Int) < (L.length : Int) := by omega
    clear hIa hIb hx6 hB HI hLk
    gi_wp2
    refine region_in_round (S := fun V => V.cell? ⟨b7 + 1, 0, none⟩ = some (.int .i64 k) ∧ V.cell? ⟨b7, 0, none⟩ = some (.slice (some ⟨b5, o5, none⟩) L.length c5) ∧ V.cell? ⟨W.heap.size, 0, none⟩ = some (.int .i64 x.1) ∧ V.cell? ⟨W.heap.size, 1, none⟩ = some (.int .i64 x.2.1) ∧ V.cell? ⟨b5, o5 + k * 3, none⟩ = some (.int .i64 x.1) ∧ V.cell? ⟨b5, o5 + k * 3 + 1, none⟩ = some (.int .i64 x.2.1) ∧ V.cell? ⟨b5, o5 + k * 3 + 2, none⟩ = some (.int .i64 x.2.2)) (by kernel_rfl) (by kernel_rfl) ⟨cell_on (below_drew _) y8, cell_on (below_drew _) y7, cell_on (below_drew _) x0, cell_on (below_drew _) x1, cell_on (below_drew _) z0, cell_on (below_drew _) z1, cell_on (below_drew _) z2⟩ ?_
    intro hHeld
    have HBD := Lib.hid (below_drew Wb)
    have HIw : Hid (LikeT w b7 (some ⟨b5, o5, none⟩) c5 L (k : Nat) Wb.drew) := Lib.hid (HIb.out.below (below_drew Wb) (by have := HZb.out; omega) (by have := HZb.out; omega) hA5)
    clear x0 x1 y7 y8 z0 z1 z2
    generalize Wb.drew = w0 at HBD HIw hHeld ⊢
    (refine takeH (i := 0) (v := ?_) rfl (by kernel_rfl) (by kernel_rfl) (by kernel_rfl) (fun _ _ _ h => h) (Or.inl ⟨by rfl, ?_⟩) (by assumption) ?_; rotate_left; (focus ((intro wS hSw); (try dsimp only at hSw); obtain ⟨s0, s1, s2, s3, s4, s5, s6⟩ := hSw; go_simp; (try with_reducible rfl); done)); (try simp only [Act.put, List.setIfInBounds_toArray, List.set_cons_zero, List.set_cons_succ]))
    (refine takeH (i := 1) (v := ?_) rfl (by kernel_rfl) (by kernel_rfl) (by kernel_rfl) (fun _ _ _ h => h) (Or.inl ⟨by rfl, ?_⟩) (by assumption) ?_; rotate_left; (focus ((intro wS hSw); (try dsimp only at hSw); obtain ⟨s0, s1, s2, s3, s4, s5, s6⟩ := hSw; go_simp; (try with_reducible rfl); done)); (try simp only [Act.put, List.setIfInBounds_toArray, List.set_cons_zero, List.set_cons_succ]))
    (refine takeH (i := 2) (v := ?_) rfl (by kernel_rfl) (by kernel_rfl) (by kernel_rfl) (fun _ _ _ h => h) (Or.inl ⟨by rfl, ?_⟩) (by assumption) ?_; rotate_left; (focus ((intro wS hSw); (try dsimp only at hSw); obtain ⟨s0, s1, s2, s3, s4, s5, s6⟩ := hSw; go_simp; (try with_reducible rfl); done)); (try simp only [Act.put, List.setIfInBounds_toArray, List.set_cons_zero, List.set_cons_succ]))
    (refine takeH (i := 3) (v := (.bool false)) rfl (by kernel_rfl) (by kernel_rfl) (by kernel_rfl) (fun _ _ _ h => h) (Or.inl ⟨by rfl, by (intro wS hSw); (try dsimp only at hSw); (obtain ⟨s0, s1, s2, s3, s4, s5, s6⟩ := hSw); go_simp; (first | done | omega | (simp; omega) | simp)⟩) (by assumption) ?_; (try simp only [Act.put, List.setIfInBounds_toArray, List.set_cons_zero, List.set_cons_succ]))
    (refine takeH (i := 4) (v := ?_) rfl (by kernel_rfl) (by kernel_rfl) (by kernel_rfl) (fun _ _ _ h => h) (Or.inl ⟨by rfl, ?_⟩) (by assumption) ?_; rotate_left; (focus ((intro wS hSw); (try dsimp only at hSw); obtain ⟨s0, s1, s2, s3, s4, s5, s6⟩ := hSw; go_simp; (try with_reducible rfl); done)); (try simp only [Act.put, List.setIfInBounds_toArray, List.set_cons_zero, List.set_cons_succ]))
    (refine takeH (i := 5) (v := ?_) rfl (by kernel_rfl) (by kernel_rfl) (by kernel_rfl) (fun _ _ _ h => h) (Or.inl ⟨by rfl, ?_⟩) (by assumption) ?_; rotate_left; (focus ((intro wS hSw); (try dsimp only at hSw); obtain ⟨s0, s1, s2, s3, s4, s5, s6⟩ := hSw; go_simp; (try with_reducible rfl); done)); (try simp only [Act.put, List.setIfInBounds_toArray, List.set_cons_zero, List.set_cons_succ]))
    (refine takeH (i := 6) (v := ?_) rfl (by kernel_rfl) (by kernel_rfl) (by kernel_rfl) (fun _ _ _ h => h) (Or.inl ⟨by rfl, ?_⟩) (by assumption) ?_; rotate_left; (focus ((intro wS hSw); (try dsimp only at hSw); obtain ⟨s0, s1, s2, s3, s4, s5, s6⟩ := hSw; go_simp; (try with_reducible rfl); done)); (try simp only [Act.put, List.setIfInBounds_toArray, List.set_cons_zero, List.set_cons_succ]))
    (refine takeH (i := 7) (v := ?_) rfl (by kernel_rfl) (by kernel_rfl) (by kernel_rfl) (fun _ _ _ h => h) (Or.inl ⟨by rfl, ?_⟩) (by assumption) ?_; rotate_left; (focus ((intro wS hSw); (try dsimp only at hSw); obtain ⟨s0, s1, s2, s3, s4, s5, s6⟩ := hSw; go_simp; (try with_reducible rfl); done)); (try simp only [Act.put, List.setIfInBounds_toArray, List.set_cons_zero, List.set_cons_succ]))
    (refine takeH (i := 8) (v := ?_) rfl (by kernel_rfl) (by kernel_rfl) (by kernel_rfl) (fun _ _ _ h => h) (Or.inl ⟨by rfl, ?_⟩) (by assumption) ?_; rotate_left; (focus ((intro wS hSw); (try dsimp only at hSw); obtain ⟨s0, s1, s2, s3, s4, s5, s6⟩ := hSw; go_simp; (try with_reducible rfl); done)); (try simp only [Act.put, List.setIfInBounds_toArray, List.set_cons_zero, List.set_cons_succ]))
    (refine takeH (i := 9) (v := ?_) rfl (by kernel_rfl) (by kernel_rfl) (by kernel_rfl) (fun _ _ _ h => h) (Or.inl ⟨by rfl, ?_⟩) (by assumption) ?_; rotate_left; (focus ((intro wS hSw); (try dsimp only at hSw); obtain ⟨s0, s1, s2, s3, s4, s5, s6⟩ := hSw; go_simp; (try with_reducible rfl); done)); (try simp only [Act.put, List.setIfInBounds_toArray, List.set_cons_zero, List.set_cons_succ]))
    (refine takeH (i := 10) (v := ?_) rfl (by kernel_rfl) (by kernel_rfl) (by kernel_rfl) (fun _ _ _ h => h) (Or.inl ⟨by rfl, ?_⟩) (by assumption) ?_; rotate_left; (focus ((intro wS hSw); (try dsimp only at hSw); obtain ⟨s0, s1, s2, s3, s4, s5, s6⟩ := hSw; go_simp; (try with_reducible rfl); done)); (try simp only [Act.put, List.setIfInBounds_toArray, List.set_cons_zero, List.set_cons_succ]))
    (refine takeH (i := 11) (v := ?_) rfl (by kernel_rfl) (by kernel_rfl) (by kernel_rfl) (fun _ _ _ h => h) (Or.inl ⟨by rfl, ?_⟩) (by assumption) ?_; rotate_left; (focus ((intro wS hSw); (try dsimp only at hSw); obtain ⟨s0, s1, s2, s3, s4, s5, s6⟩ := hSw; go_simp; (try with_reducible rfl); done)); (try simp only [Act.put, List.setIfInBounds_toArray, List.set_cons_zero, List.set_cons_succ]))
    (refine takeH (i := 12) (v := ?_) rfl (by kernel_rfl) (by kernel_rfl) (by kernel_rfl) (fun _ _ _ h => h) (Or.inl ⟨by rfl, ?_⟩) (by assumption) ?_; rotate_left; (focus ((intro wS hSw); (try dsimp only at hSw); obtain ⟨s0, s1, s2, s3, s4, s5, s6⟩ := hSw; go_simp; (try with_reducible rfl); done)); (try simp only [Act.put, List.setIfInBounds_toArray, List.set_cons_zero, List.set_cons_succ]))
    (refine takeH (i := 13) (v := ?_) rfl (by kernel_rfl) (by kernel_rfl) (by kernel_rfl) (fun _ _ _ h => h) (Or.inl ⟨by rfl, ?_⟩) (by assumption) ?_; rotate_left; (focus ((intro wS hSw); (try dsimp only at hSw); obtain ⟨s0, s1, s2, s3, s4, s5, s6⟩ := hSw; go_simp; (try with_reducible rfl); done)); (try simp only [Act.put, List.setIfInBounds_toArray, List.set_cons_zero, List.set_cons_succ]))
    (refine takeH (i := 14) (v := ?_) rfl (by kernel_rfl) (by kernel_rfl) (by kernel_rfl) (fun _ _ _ h => h) (Or.inl ⟨by rfl, ?_⟩) (by assumption) ?_; rotate_left; (focus ((intro wS hSw); (try dsimp only at hSw); obtain ⟨s0, s1, s2, s3, s4, s5, s6⟩ := hSw; go_simp; (try with_reducible rfl); done)); (try simp only [Act.put, List.setIfInBounds_toArray, List.set_cons_zero, List.set_cons_succ]))
    (refine takeH (i := 15) (v := ?_) rfl (by kernel_rfl) (by kernel_rfl) (by kernel_rfl) (fun _ _ _ h => h) (Or.inl ⟨by rfl, ?_⟩) (by assumption) ?_; rotate_left; (focus ((intro wS hSw); (try dsimp only at hSw); obtain ⟨s0, s1, s2, s3, s4, s5, s6⟩ := hSw; go_simp; (try with_reducible rfl); done)); (try simp only [Act.put, List.setIfInBounds_toArray, List.set_cons_zero, List.set_cons_succ]))
    (refine takeH (i := 16) (v := ?_) rfl (by kernel_rfl) (by kernel_rfl) (by kernel_rfl) (fun _ _ _ h => h) (Or.inl ⟨by rfl, ?_⟩) (by assumption) ?_; rotate_left; (focus ((intro wS hSw); (try dsimp only at hSw); obtain ⟨s0, s1, s2, s3, s4, s5, s6⟩ := hSw; go_simp; (try with_reducible rfl); done)); (try simp only [Act.put, List.setIfInBounds_toArray, List.set_cons_zero, List.set_cons_succ]))
    (refine takeH (i := 17) (v := (.bool false)) rfl (by kernel_rfl) (by kernel_rfl) (by kernel_rfl) (fun _ _ _ h => h) (yieldsIf_neqSp (by rfl) _ _ _ rfl x.1 x.2.1 x.1 x.2.1 rfl rfl false (by simp)) (by assumption) ?_; (try simp only [Act.put, List.setIfInBounds_toArray, List.set_cons_zero, List.set_cons_succ]))
    (refine takeH (i := 18) (v := ?_) rfl (by kernel_rfl) (by kernel_rfl) (by kernel_rfl) (fun _ _ _ h => h) (Or.inl ⟨by rfl, ?_⟩) (by assumption) ?_; rotate_left; (focus ((intro wS hSw); (try dsimp only at hSw); obtain ⟨s0, s1, s2, s3, s4, s5, s6⟩ := hSw; go_simp; (try with_reducible rfl); done)); (try simp only [Act.put, List.setIfInBounds_toArray, List.set_cons_zero, List.set_cons_succ]))
    (refine takeH (i := 19) (v := ?_) rfl (by kernel_rfl) (by kernel_rfl) (by kernel_rfl) (fun _ _ _ h => h) (Or.inl ⟨by rfl, ?_⟩) (by assumption) ?_; rotate_left; (focus ((intro wS hSw); (try dsimp only at hSw); obtain ⟨s0, s1, s2, s3, s4, s5, s6⟩ := hSw; go_simp; (try with_reducible rfl); done)); (try simp only [Act.put, List.setIfInBounds_toArray, List.set_cons_zero, List.set_cons_succ]))
    (refine takeH (i := 20) (v := ?_) rfl (by kernel_rfl) (by kernel_rfl) (by kernel_rfl) (fun _ _ _ h => h) (Or.inl ⟨by rfl, ?_⟩) (by assumption) ?_; rotate_left; (focus ((intro wS hSw); (try dsimp only at hSw); obtain ⟨s0, s1, s2, s3, s4, s5, s6⟩ := hSw; go_simp; (try with_reducible rfl); done)); (try simp only [Act.put, List.setIfInBounds_toArray, List.set_cons_zero, List.set_cons_succ]))
    (refine takeH (i := 21) (v := ?_) rfl (by kernel_rfl) (by kernel_rfl) (by kernel_rfl) (fun _ _ _ h => h) (Or.inl ⟨by rfl, ?_⟩) (by assumption) ?_; rotate_left; (focus ((intro wS hSw); (try dsimp only at hSw); obtain ⟨s0, s1, s2, s3, s4, s5, s6⟩ := hSw; go_simp; (try with_reducible rfl); done)); (try simp only [Act.put, List.setIfInBounds_toArray, List.set_cons_zero, List.set_cons_succ]))
    (refine takeH (i := 22) (v := ?_) rfl (by kernel_rfl) (by kernel_rfl) (by kernel_rfl) (fun _ _ _ h => h) (Or.inl ⟨by rfl, ?_⟩) (by assumption) ?_; rotate_left; (focus ((intro wS hSw); (try dsimp only at hSw); obtain ⟨s0, s1, s2, s3, s4, s5, s6⟩ := hSw; go_simp; (try with_reducible rfl); done)); (try simp only [Act.put, List.setIfInBounds_toArray, List.set_cons_zero, List.set_cons_succ]))
    (refine takeH (i := 23) (v := ?_) rfl (by kernel_rfl) (by kernel_rfl) (by kernel_rfl) (fun _ _ _ h => h) (Or.inl ⟨by rfl, ?_⟩) (by assumption) ?_; rotate_left; (focus ((intro wS hSw); (try dsimp only at hSw); obtain ⟨s0, s1, s2, s3, s4, s5, s6⟩ := hSw; go_simp; (try with_reducible rfl); done)); (try simp only [Act.put, List.setIfInBounds_toArray, List.set_cons_zero, List.set_cons_succ]))
    (refine takeH (i := 24) (v := ?_) rfl (by kernel_rfl) (by kernel_rfl) (by kernel_rfl) (fun _ _ _ h => h) (Or.inl ⟨by rfl, ?_⟩) (by assumption) ?_; rotate_left; (focus ((intro wS hSw); (try dsimp only at hSw); obtain ⟨s0, s1, s2, s3, s4, s5, s6⟩ := hSw; go_simp; (try with_reducible rfl); done)); (try simp only [Act.put, List.setIfInBounds_toArray, List.set_cons_zero, List.set_cons_succ]))
    (refine takeH (i := 25) (v := ?_) rfl (by kernel_rfl) (by kernel_rfl) (by kernel_rfl) (fun _ _ _ h => h) (Or.inl ⟨by rfl, ?_⟩) (by assumption) ?_; rotate_left; (focus ((intro wS hSw); (try dsimp only at hSw); obtain ⟨s0, s1, s2, s3, s4, s5, s6⟩ := hSw; go_simp; (try with_reducible rfl); done)); (try simp only [Act.put, List.setIfInBounds_toArray, List.set_cons_zero, List.set_cons_succ]))
    (refine takeH (i := 26) (v := (.bool false)) rfl (by kernel_rfl) (by kernel_rfl) (by kernel_rfl) (fun _ _ _ h => h) (Or.inl ⟨by rfl, by (intro wS hSw); (try dsimp only at hSw); (obtain ⟨s0, s1, s2, s3, s4, s5, s6⟩ := hSw); go_simp; (first | done | omega | (simp; omega) | simp)⟩) (by assumption) ?_; (try simp only [Act.put, List.setIfInBounds_toArray, List.set_cons_zero, List.set_cons_succ]))
    (refine takeH (i := 27) (v := ?_) rfl (by kernel_rfl) (by kernel_rfl) (by kernel_rfl) (fun _ _ _ h => h) (Or.inl ⟨by rfl, ?_⟩) (by assumption) ?_; rotate_left; (focus ((intro wS hSw); (try dsimp only at hSw); obtain ⟨s0, s1, s2, s3, s4, s5, s6⟩ := hSw; go_simp; (try with_reducible rfl); done)); (try simp only [Act.put, List.setIfInBounds_toArray, List.set_cons_zero, List.set_cons_succ]))
    refine wpAnyH_done (by kernel_rfl) ?_ _
    refine only_normal ?_
    clear hHeld
    obtain ⟨y8, z8⟩ := one_cell HIw.out.2.2.1
    gi_wp2
    refine roundP_normal ?_
    rw [HK1.out]
    exact like_round HIb.out HBD.out hbw h78 hA5 HZb.out
  case done =>
    intro D xs W hD hxs hI hK
    obtain ⟨hI, hz⟩ := hI
    rw [hxs] at hI
    have hLW : LinAt W B most A c L := HL.out.on hI.2.2.2.2
    have HAt := Lib.hid (code_at W B most c A L day hLW)
    have hRW : Row W A0 M := HR.out.on hI.2.2.2.2
    have HRt := Lib.hid (fun V (hb : Below W.heap.size W V) => ref_at V A0 c0 M day (hRW.on hb) HIv.out.2)
    obtain ⟨e1, e2⟩ := HIv.out.1.at_ day
    rw [← e1, ← e2] at HRt
    generalize atX L day = X at HAt HRt
    generalize atB L day = q at HAt HRt
    have HI := Lib.hid hI
    have HK := Lib.hid hK
    clear hI hK hxs e1 e2 hLW hRW
    go_wp2_with (go_at_call 20; refine HAt.out.mono ?_; rintro e w2 ⟨rfl, hb⟩; have HB2 := Lib.hid hb; clear hb; refine Stop.out ?_)
    unfold Stop
    go_wp2_with (go_at_call 41; refine (HRt.out _ HB2.out).mono ?_; rintro e w3 ⟨rfl, rfl⟩; refine Stop.out ?_)
    unfold Stop
    go_wp2
    have HI2 : Hid (LikeT w b7 A5 c5 L (L.length : Nat) w2) := Lib.hid (HI.out.below HB2.out (by omega) (by omega) hA5)
    obtain ⟨y7, _⟩ := one_cell HI2.out.2.1
    obtain ⟨y8, _⟩ := one_cell HI2.out.2.2.1
    refine wp_region_noPanic (wp_region_held_drew (S := fun V => V.cell? ⟨b7 + 1, 0, none⟩ = some (.int .i64 L.length) ∧ V.cell? ⟨b7, 0, none⟩ = some (.slice A5 L.length c5)) (by kernel_rfl) ⟨cell_on (below_drew _) y8, cell_on (below_drew _) y7⟩ ?_)
    intro hHeld
    have hz2 : b7 + 3 ≤ w2.heap.size := Nat.le_trans hz HB2.out.size
    have HI3 : Hid (LikeT w b7 A5 c5 L (L.length : Nat) w2.drew) := Lib.hid (HI2.out.below (below_drew w2) (by omega) (by omega) hA5)
    have HK3 := Lib.hid (heap_on (below_then HB2.out (below_drew w2)) HK.out)
    have HLen := Lib.hid (code_llen w2.drew B most L ⟨A, c, HL.out.on HI3.out.2.2.2.2⟩)
    have hD2 : w.heap.size < D := by omega
    have hDb : D ≠ w.heap.size := by omega
    clear y7 y8 HI2 HI
    generalize w2.drew = w0 at HI3 HK3 HLen hHeld ⊢
    (refine takeH (i := 0) (v := ?_) rfl (by kernel_rfl) (by kernel_rfl) (by kernel_rfl) (fun _ _ _ h => h) (Or.inl ⟨by rfl, ?_⟩) (by assumption) ?_; rotate_left; (focus ((intro wS hSw); (try dsimp only at hSw); obtain ⟨s0, s1⟩ := hSw; go_simp; (try with_reducible rfl); done)); (try simp only [Act.put, List.setIfInBounds_toArray, List.set_cons_zero, List.set_cons_succ]))
    (refine takeH (i := 1) (v := ?_) rfl (by kernel_rfl) (by kernel_rfl) (by kernel_rfl) (fun _ _ _ h => h) (Or.inl ⟨by rfl, ?_⟩) (by assumption) ?_; rotate_left; (focus ((intro wS hSw); (try dsimp only at hSw); obtain ⟨s0, s1⟩ := hSw; go_simp; (try with_reducible rfl); done)); (try simp only [Act.put, List.setIfInBounds_toArray, List.set_cons_zero, List.set_cons_succ]))
    (refine takeH (i := 2) (v := ?_) rfl (by kernel_rfl) (by kernel_rfl) (by kernel_rfl) (fun _ _ _ h => h) (Or.inl ⟨by rfl, ?_⟩) (by assumption) ?_; rotate_left; (focus ((intro wS hSw); (try dsimp only at hSw); obtain ⟨s0, s1⟩ := hSw; go_simp; (try with_reducible rfl); done)); (try simp only [Act.put, List.setIfInBounds_toArray, List.set_cons_zero, List.set_cons_succ]))
    (refine takeH (i := 3) (v := (.bool true)) rfl (by kernel_rfl) (by kernel_rfl) (by kernel_rfl) (fun _ _ _ h => h) (Or.inl ⟨by rfl, by (intro wS hSw); (try dsimp only at hSw); (obtain ⟨s0, s1⟩ := hSw); go_simp; (first | done | omega | (simp; omega) | simp)⟩) (by assumption) ?_; (try simp only [Act.put, List.setIfInBounds_toArray, List.set_cons_zero, List.set_cons_succ]))
    (refine takeH (i := 4) (v := ?_) rfl (by kernel_rfl) (by kernel_rfl) (by kernel_rfl) (fun _ _ _ h => h) (Or.inl ⟨by rfl, ?_⟩) (by assumption) ?_; rotate_left; (focus ((intro wS hSw); (try dsimp only at hSw); obtain ⟨s0, s1⟩ := hSw; go_simp; (try with_reducible rfl); done)); (try simp only [Act.put, List.setIfInBounds_toArray, List.set_cons_zero, List.set_cons_succ]))
    (refine takeH (i := 5) (v := ?_) rfl (by kernel_rfl) (by kernel_rfl) (by kernel_rfl) (fun _ _ _ h => h) (Or.inl ⟨by rfl, ?_⟩) (by assumption) ?_; rotate_left; (focus ((intro wS hSw); (try dsimp only at hSw); obtain ⟨s0, s1⟩ := hSw; go_simp; (try with_reducible rfl); done)); (try simp only [Act.put, List.setIfInBounds_toArray, List.set_cons_zero, List.set_cons_succ]))
    (refine takeH (i := 7) (v := ?_) rfl (by kernel_rfl) (by kernel_rfl) (by kernel_rfl) (fun _ _ _ h => h) (Or.inl ⟨by rfl, ?_⟩) (by assumption) ?_; rotate_left; (focus ((intro wS hSw); (try dsimp only at hSw); obtain ⟨s0, s1⟩ := hSw; go_simp; (try with_reducible rfl); done)); (try simp only [Act.put, List.setIfInBounds_toArray, List.set_cons_zero, List.set_cons_succ]))
    refine aloneH (i := 6) rfl (by kernel_rfl) (fun K hK => ?_)
    rw [if_pos (by rfl)]
    go_simp; ((refine (HLen.out).mono ?_); (rintro e w1 ⟨rfl, rfl⟩); (try go_simp))
    have HB1 : Hid (Below w0.heap.size w0 w0) := Lib.hid (Below.refl _ _)
    refine hK.out _ _ (hHeld) (fun hNew => ?_)
    clear hK K hHeld; (have hHeld := hNew); clear hNew; (try simp only [Act.put, List.setIfInBounds_toArray, List.set_cons_zero, List.set_cons_succ])
    (refine takeH (i := 8) (v := (.bool true)) rfl (by kernel_rfl) (by kernel_rfl) (by kernel_rfl) (fun _ _ _ h => h) (Or.inl ⟨by rfl, by (intro wS hSw); (try dsimp only at hSw); (obtain ⟨s0, s1⟩ := hSw); go_simp; (first | done | omega | (simp; omega) | simp)⟩) (by assumption) ?_; (try simp only [Act.put, List.setIfInBounds_toArray, List.set_cons_zero, List.set_cons_succ]))
    (refine takeH (i := 9) (v := ?_) rfl (by kernel_rfl) (by kernel_rfl) (by kernel_rfl) (fun _ _ _ h => h) (Or.inl ⟨by rfl, ?_⟩) (by assumption) ?_; rotate_left; (focus ((intro wS hSw); (try dsimp only at hSw); obtain ⟨s0, s1⟩ := hSw; go_simp; (try with_reducible rfl); done)); (try simp only [Act.put, List.setIfInBounds_toArray, List.set_cons_zero, List.set_cons_succ]))
    (refine takeH (i := 10) (v := ?_) rfl (by kernel_rfl) (by kernel_rfl) (by kernel_rfl) (fun _ _ _ h => h) (Or.inl ⟨by rfl, ?_⟩) (by assumption) ?_; rotate_left; (focus ((intro wS hSw); (try dsimp only at hSw); obtain ⟨s0, s1⟩ := hSw; go_simp; (try with_reducible rfl); done)); (try simp only [Act.put, List.setIfInBounds_toArray, List.set_cons_zero, List.set_cons_succ]))
    (refine takeH (i := 11) (v := ?_) rfl (by kernel_rfl) (by kernel_rfl) (by kernel_rfl) (fun _ _ _ h => h) (Or.inl ⟨by rfl, ?_⟩) (by assumption) ?_; rotate_left; (focus ((intro wS hSw); (try dsimp only at hSw); obtain ⟨s0, s1⟩ := hSw; go_simp; (try with_reducible rfl); done)); (try simp only [Act.put, List.setIfInBounds_toArray, List.set_cons_zero, List.set_cons_succ]))
    (refine takeH (i := 12) (v := ?_) rfl (by kernel_rfl) (by kernel_rfl) (by kernel_rfl) (fun _ _ _ h => h) (Or.inl ⟨by rfl, ?_⟩) (by assumption) ?_; rotate_left; (focus ((intro wS hSw); (try dsimp only at hSw); obtain ⟨s0, s1⟩ := hSw; go_simp; (try with_reducible rfl); done)); (try simp only [Act.put, List.setIfInBounds_toArray, List.set_cons_zero, List.set_cons_succ]))
    (refine takeH (i := 13) (v := (.bool true)) rfl (by kernel_rfl) (by kernel_rfl) (by kernel_rfl) (fun _ _ _ h => h) (Or.inl ⟨by rfl, by (intro wS hSw); (try dsimp only at hSw); (obtain ⟨s0, s1⟩ := hSw); go_simp; (first | done | omega | (simp; omega) | simp)⟩) (by assumption) ?_; (try simp only [Act.put, List.setIfInBounds_toArray, List.set_cons_zero, List.set_cons_succ]))
    (refine takeH (i := 14) (v := ?_) rfl (by kernel_rfl) (by kernel_rfl) (by kernel_rfl) (fun _ _ _ h => h) (Or.inl ⟨by rfl, ?_⟩) (by assumption) ?_; rotate_left; (focus ((intro wS hSw); (try dsimp only at hSw); obtain ⟨s0, s1⟩ := hSw; go_simp; (try with_reducible rfl); done)); (try simp only [Act.put, List.setIfInBounds_toArray, List.set_cons_zero, List.set_cons_succ]))
    (refine takeH (i := 15) (v := ?_) rfl (by kernel_rfl) (by kernel_rfl) (by kernel_rfl) (fun _ _ _ h => h) (Or.inl ⟨by rfl, ?_⟩) (by assumption) ?_; rotate_left; (focus ((intro wS hSw); (try dsimp only at hSw); obtain ⟨s0, s1⟩ := hSw; go_simp; (try with_reducible rfl); done)); (try simp only [Act.put, List.setIfInBounds_toArray, List.set_cons_zero, List.set_cons_succ]))
    (refine takeH (i := 16) (v := ?_) rfl (by kernel_rfl) (by kernel_rfl) (by kernel_rfl) (fun _ _ _ h => h) (Or.inl ⟨by rfl, ?_⟩) (by assumption) ?_; rotate_left; (focus ((intro wS hSw); (try dsimp only at hSw); obtain ⟨s0, s1⟩ := hSw; go_simp; (try with_reducible rfl); done)); (try simp only [Act.put, List.setIfInBounds_toArray, List.set_cons_zero, List.set_cons_succ]))
    (refine takeH (i := 17) (v := ?_) rfl (by kernel_rfl) (by kernel_rfl) (by kernel_rfl) (fun _ _ _ h => h) (Or.inl ⟨by rfl, ?_⟩) (by assumption) ?_; rotate_left; (focus ((intro wS hSw); (try dsimp only at hSw); obtain ⟨s0, s1⟩ := hSw; go_simp; (try with_reducible rfl); done)); (try simp only [Act.put, List.setIfInBounds_toArray, List.set_cons_zero, List.set_cons_succ]))
    (refine takeH (i := 18) (v := (.bool true)) rfl (by kernel_rfl) (by kernel_rfl) (by kernel_rfl) (fun _ _ _ h => h) (Or.inl ⟨by rfl, by (intro wS hSw); (try dsimp only at hSw); (obtain ⟨s0, s1⟩ := hSw); go_simp; (first | done | omega | (simp; omega) | simp)⟩) (by assumption) ?_; (try simp only [Act.put, List.setIfInBounds_toArray, List.set_cons_zero, List.set_cons_succ]))
    (refine takeH (i := 19) (v := ?_) rfl (by kernel_rfl) (by kernel_rfl) (by kernel_rfl) (fun _ _ _ h => h) (Or.inl ⟨by rfl, ?_⟩) (by assumption) ?_; rotate_left; (focus ((intro wS hSw); (try dsimp only at hSw); obtain ⟨s0, s1⟩ := hSw; go_simp; (try with_reducible rfl); done)); (try simp only [Act.put, List.setIfInBounds_toArray, List.set_cons_zero, List.set_cons_succ]))
    refine aloneH (i := 20) rfl (by kernel_rfl) (fun K hK => ?_)
    rw [if_pos (by rfl)]
    obtain ⟨q2, z2⟩ := one_cell HI3.out.1
    go_simp
    refine hK.out _ _ (⟨(World.cell?_of_block (heap_setCell_other _ _ _ _ (by simp <;> omega))).trans hHeld.1, (World.cell?_of_block (heap_setCell_other _ _ _ _ (by simp <;> omega))).trans hHeld.2⟩) (fun hNew => ?_)
    clear hK K hHeld; (have hHeld := hNew); clear hNew; (try simp only [Act.put])
    refine wpAnyH_done (by kernel_rfl) ?_ _
    clear hHeld
    refine NoPanic.normal ?_
    go_wp2
    have hk : (w0.setCell ⟨w.heap.size, 0, none⟩ (.bool true)).heap[D]? = some (.deferred (some [])) := (heap_setCell_other _ _ _ _ (by simp <;> omega)).trans HK3.out
    refine ⟨by simp, .inl ⟨_, _, rfl, run_takeDeferred hk, ?_⟩⟩
    refine ⟨_, results_bool rfl _ _ w.heap.size true rfl ((World.putObj_heap_other (by omega)).trans (heap_setCell_same w0 w.heap.size 0 _ _ (.bool true) HI3.out.1)), rfl, ?_⟩
    exact (HI3.out.2.2.2.2.setCell (p := ⟨w.heap.size, 0, none⟩) (Nat.le_refl _) _).trans (put_below _ _ (by omega))
end Go.Proofs.Ytlnpflfkkjcopaa
