/- A journal in memory; the small calls on it. A journal that no call made; a journal opened. -/
import Derived.Test.YtfjejiapafdgeaaJ35
import Derived.Test.YtfjejiapafdgeaaJ25
namespace Go.Proofs.Ytfjejiapafdgeaa
open Go.RowKit
set_option maxRecDepth 100000
set_option linter.unusedSimpArgs false
set_option linter.unusedVariables false

structure JnV where
  B : Nat
  tail : Nat
  cut : Bool
  many : Nat
def jnCells (j : JnV) : Array Value := #[.pointer (some ⟨j.B, 0, none⟩), .int .i64 j.tail, .bool j.cut, .int .i64 j.many]
/-- a journal that a call made -/
def JnAt (w : World) (P : Nat) (j : JnV) : Prop := w.heap[P]? = some (.cells (jnCells j) 86 (0, 0))
theorem JnAt.cells {w : World} {P : Nat} {j : JnV} (h : JnAt w P j) : (w.cell? ⟨P, 0, none⟩ = some (.pointer (some ⟨j.B, 0, none⟩)) ∧ w.cell? ⟨P, 1, none⟩ = some (.int .i64 j.tail) ∧ w.cell? ⟨P, 2, none⟩ = some (.bool j.cut) ∧ w.cell? ⟨P, 3, none⟩ = some (.int .i64 j.many)) := cells4 h
theorem JnAt.below {w w' : World} {P : Nat} {j : JnV} (h : JnAt w P j) (hb : Below w.heap.size w w') : JnAt w' P j := heap_on hb h
theorem JnAt.chg {w w' : World} {P B bm : Nat} {j : JnV} (h : JnAt w P j) (hc : ChgD w w' B bm) (h1 : P ≠ B) (h2 : P ≠ bm) : JnAt w' P j := (hc.block _ (heapLt h) h1 h2).trans h
theorem code_jmade (w : World) (P : Nat) (j : JnV) (h : JnAt w P j) : Calls Try.prog 64 #[.pointer (some ⟨P, 0, none⟩)] w fun e w' => e = .returned (.bool true) ∧ w = w' := by
  obtain ⟨h0, h1, h2, h3⟩ := h.cells
  clear h
  go_enter Try.func64, Try.ntmps64
  go_wp2
  go_ret
  exact ⟨rfl, rfl⟩
theorem code_jlen (w : World) (P : Nat) (j : JnV) (h : JnAt w P j) : Calls Try.prog 38 #[.pointer (some ⟨P, 0, none⟩)] w fun e w' => e = .returned (.int .i64 j.many) ∧ w = w' := by
  have HM := Lib.hid (code_jmade w P j h)
  obtain ⟨h0, h1, h2, h3⟩ := h.cells
  clear h
  go_enter Try.func38, Try.ntmps38
  go_wp2_with (go_at_call 64; refine HM.out.mono ?_; rintro e w1 ⟨rfl, rfl⟩)
  go_ret
  exact ⟨rfl, rfl⟩
theorem code_jtail (w : World) (P : Nat) (j : JnV) (h : JnAt w P j) : Calls Try.prog 39 #[.pointer (some ⟨P, 0, none⟩)] w fun e w' => e = .returned (.int .i64 j.tail) ∧ w = w' := by
  have HM := Lib.hid (code_jmade w P j h)
  obtain ⟨h0, h1, h2, h3⟩ := h.cells
  clear h
  go_enter Try.func39, Try.ntmps39
  go_wp2_with (go_at_call 64; refine HM.out.mono ?_; rintro e w1 ⟨rfl, rfl⟩)
  go_ret
  exact ⟨rfl, rfl⟩
theorem code_jdead (w : World) (P : Nat) (j : JnV) (h : JnAt w P j) : Calls Try.prog 41 #[.pointer (some ⟨P, 0, none⟩)] w fun e w' => e = .returned (.bool j.cut) ∧ w = w' := by
  have HM := Lib.hid (code_jmade w P j h)
  obtain ⟨h0, h1, h2, h3⟩ := h.cells
  clear h
  go_enter Try.func41, Try.ntmps41
  go_wp2_with (go_at_call 64; refine HM.out.mono ?_; rintro e w1 ⟨rfl, rfl⟩)
  go_ret
  exact ⟨rfl, rfl⟩
theorem code_jroom (w : World) (P bm n : Nat) (j : JnV) (d : DiskV) (h : JnAt w P j) (hd : Dsk w j.B bm n d) (ht : j.tail ≤ d.many) : Calls Try.prog 40 #[.pointer (some ⟨P, 0, none⟩)] w fun e w' => e = .returned (.int .i64 ((d.many - j.tail : Nat) : Int)) ∧ Below w.heap.size w w' := by
  have HM := Lib.hid (code_jmade w P j h)
  have HL : Hid (∀ W, Below w.heap.size w W → Calls Try.prog 46 #[.pointer (some ⟨j.B, 0, none⟩)] W fun e w' => e = .returned (.int .i64 d.many) ∧ W = w') := Lib.hid (fun W hb => code_dlen W j.B bm n d (hd.below hb))
  have hws : IntKind.i64.wrap ((d.many : Int) - (j.tail : Int)) = ((d.many - j.tail : Nat) : Int) := (IntWalk.i64_left _).trans (by have := hd.2.2.1; unfold wrap64; omega)
  obtain ⟨h0, h1, h2, h3⟩ := h.cells
  have HS0 : Hid ((fun V : World => V.cell? ⟨P, 0, none⟩ = some (.pointer (some ⟨j.B, 0, none⟩)) ∧ V.cell? ⟨P, 1, none⟩ = some (.int .i64 j.tail)) w.drew) := Lib.hid ⟨cell_on (Below.refl _ _).drew h0, cell_on (Below.refl _ _).drew h1⟩
  have HBd : Hid (Below w.heap.size w w.drew) := Lib.hid (Below.refl _ _).drew
  clear h hd ht
  generalize ((d.many - j.tail : Nat) : Int) = r at hws ⊢
  generalize d.many = m at *
  generalize j.tail = tl at *
  generalize j.B = B at *
  go_enter Try.func40, Try.ntmps40
  go_wp2_with (go_at_call 64; refine HM.out.mono ?_; rintro e w1 ⟨rfl, rfl⟩)
  clear h0 h1 h2 h3
  refine wp_region_held_drew (S := fun V => V.cell? ⟨P, 0, none⟩ = some (.pointer (some ⟨B, 0, none⟩)) ∧ V.cell? ⟨P, 1, none⟩ = some (.int .i64 tl)) (by kernel_rfl) HS0.out ?_
  intro hHeld
  clear HS0
  generalize w.drew = wd at HBd hHeld ⊢
  (refine takeH (i := 0) (v := ?_) rfl (by kernel_rfl) (by kernel_rfl) (by kernel_rfl) (fun _ _ _ h => h) (Or.inl ⟨by rfl, ?_⟩) (by assumption) ?_; rotate_left; (focus ((intro wS hSw); (try dsimp only at hSw); obtain ⟨s0, s1⟩ := hSw; go_simp; (try with_reducible rfl); done)); (try simp only [Act.put, List.setIfInBounds_toArray, List.set_cons_zero, List.set_cons_succ]))
  (refine takeH (i := 1) (v := ?_) rfl (by kernel_rfl) (by kernel_rfl) (by kernel_rfl) (fun _ _ _ h => h) (Or.inl ⟨by rfl, ?_⟩) (by assumption) ?_; rotate_left; (focus ((intro wS hSw); (try dsimp only at hSw); obtain ⟨s0, s1⟩ := hSw; go_simp; (try with_reducible rfl); done)); (try simp only [Act.put, List.setIfInBounds_toArray, List.set_cons_zero, List.set_cons_succ]))
  (refine takeH (i := 2) (v := ?_) rfl (by kernel_rfl) (by kernel_rfl) (by kernel_rfl) (fun _ _ _ h => h) (Or.inl ⟨by rfl, ?_⟩) (by assumption) ?_; rotate_left; (focus ((intro wS hSw); (try dsimp only at hSw); obtain ⟨s0, s1⟩ := hSw; go_simp; (try with_reducible rfl); done)); (try simp only [Act.put, List.setIfInBounds_toArray, List.set_cons_zero, List.set_cons_succ]))
  (refine takeH (i := 3) (v := ?_) rfl (by kernel_rfl) (by kernel_rfl) (by kernel_rfl) (fun _ _ _ h => h) (Or.inl ⟨by rfl, ?_⟩) (by assumption) ?_; rotate_left; (focus ((intro wS hSw); (try dsimp only at hSw); obtain ⟨s0, s1⟩ := hSw; go_simp; (try with_reducible rfl); done)); (try simp only [Act.put, List.setIfInBounds_toArray, List.set_cons_zero, List.set_cons_succ]))
  (refine takeH (i := 4) (v := ?_) rfl (by kernel_rfl) (by kernel_rfl) (by kernel_rfl) (fun _ _ _ h => h) (Or.inl ⟨by rfl, ?_⟩) (by assumption) ?_; rotate_left; (focus ((intro wS hSw); (try dsimp only at hSw); obtain ⟨s0, s1⟩ := hSw; go_simp; (try with_reducible rfl); done)); (try simp only [Act.put, List.setIfInBounds_toArray, List.set_cons_zero, List.set_cons_succ]))
  (refine takeH (i := 6) (v := ?_) rfl (by kernel_rfl) (by kernel_rfl) (by kernel_rfl) (fun _ _ _ h => h) (Or.inl ⟨by rfl, ?_⟩) (by assumption) ?_; rotate_left; (focus ((intro wS hSw); (try dsimp only at hSw); obtain ⟨s0, s1⟩ := hSw; go_simp; (try with_reducible rfl); done)); (try simp only [Act.put, List.setIfInBounds_toArray, List.set_cons_zero, List.set_cons_succ]))
  (refine takeH (i := 7) (v := ?_) rfl (by kernel_rfl) (by kernel_rfl) (by kernel_rfl) (fun _ _ _ h => h) (Or.inl ⟨by rfl, ?_⟩) (by assumption) ?_; rotate_left; (focus ((intro wS hSw); (try dsimp only at hSw); obtain ⟨s0, s1⟩ := hSw; go_simp; (try with_reducible rfl); done)); (try simp only [Act.put, List.setIfInBounds_toArray, List.set_cons_zero, List.set_cons_succ]))
  (refine takeH (i := 8) (v := ?_) rfl (by kernel_rfl) (by kernel_rfl) (by kernel_rfl) (fun _ _ _ h => h) (Or.inl ⟨by rfl, ?_⟩) (by assumption) ?_; rotate_left; (focus ((intro wS hSw); (try dsimp only at hSw); obtain ⟨s0, s1⟩ := hSw; go_simp; (try with_reducible rfl); done)); (try simp only [Act.put, List.setIfInBounds_toArray, List.set_cons_zero, List.set_cons_succ]))
  (refine takeH (i := 9) (v := ?_) rfl (by kernel_rfl) (by kernel_rfl) (by kernel_rfl) (fun _ _ _ h => h) (Or.inl ⟨by rfl, ?_⟩) (by assumption) ?_; rotate_left; (focus ((intro wS hSw); (try dsimp only at hSw); obtain ⟨s0, s1⟩ := hSw; go_simp; (try with_reducible rfl); done)); (try simp only [Act.put, List.setIfInBounds_toArray, List.set_cons_zero, List.set_cons_succ]))
  (refine takeH (i := 10) (v := ?_) rfl (by kernel_rfl) (by kernel_rfl) (by kernel_rfl) (fun _ _ _ h => h) (Or.inl ⟨by rfl, ?_⟩) (by assumption) ?_; rotate_left; (focus ((intro wS hSw); (try dsimp only at hSw); obtain ⟨s0, s1⟩ := hSw; go_simp; (try with_reducible rfl); done)); (try simp only [Act.put, List.setIfInBounds_toArray, List.set_cons_zero, List.set_cons_succ]))
  refine aloneH (i := 5) rfl (by kernel_rfl) (fun K hK => ?_)
  rw [if_pos (by rfl)]
  go_simp; ((refine (HL.out wd HBd.out).mono ?_); (rintro e w1 ⟨rfl, rfl⟩); (try go_simp))
  have HB1 : Hid (Below wd.heap.size wd wd) := Lib.hid (Below.refl _ _)
  refine hK.out _ _ (hHeld) (fun hNew => ?_)
  clear hK K hHeld; (have hHeld := hNew); clear hNew; (try simp only [Act.put, List.setIfInBounds_toArray, List.set_cons_zero, List.set_cons_succ])
  (refine takeH (i := 11) (v := ?_) rfl (by kernel_rfl) (by kernel_rfl) (by kernel_rfl) (fun _ _ _ h => h) (Or.inl ⟨by rfl, ?_⟩) (by assumption) ?_; rotate_left; (focus ((intro wS hSw); (try dsimp only at hSw); obtain ⟨s0, s1⟩ := hSw; go_simp; (try with_reducible rfl); done)); (try simp only [Act.put, List.setIfInBounds_toArray, List.set_cons_zero, List.set_cons_succ]))
  (refine takeH (i := 12) (v := ?_) rfl (by kernel_rfl) (by kernel_rfl) (by kernel_rfl) (fun _ _ _ h => h) (Or.inl ⟨by rfl, ?_⟩) (by assumption) ?_; rotate_left; (focus ((intro wS hSw); (try dsimp only at hSw); obtain ⟨s0, s1⟩ := hSw; go_simp; (try with_reducible rfl); done)); (try simp only [Act.put, List.setIfInBounds_toArray, List.set_cons_zero, List.set_cons_succ]))
  refine wpAnyH_done (by kernel_rfl) ?_ _
  clear hHeld
  go_wp2
  go_ret
  exact ⟨rfl, HBd.out⟩
end Go.Proofs.Ytfjejiapafdgeaa

namespace Go.Proofs.Ytfjejiapafdgeaa
open Go.RowKit
set_option maxRecDepth 100000
set_option linter.unusedSimpArgs false
set_option linter.unusedVariables false

/-- a journal that no call made: nil, or all nought -/
def NoJ (W : World) (p : Value) : Prop := p = .pointer none ∨ ∃ b, p = .pointer (some ⟨b, 0, none⟩) ∧ b < W.heap.size ∧ W.cell? ⟨b, 0, none⟩ = some (.pointer none)
theorem NoJ.below {W W' : World} {p : Value} (h : NoJ W p) (hb : Below W.heap.size W W') : NoJ W' p := by
  rcases h with h | ⟨b, e, h1, h2⟩
  · exact .inl h
  · exact .inr ⟨b, e, Nat.lt_of_lt_of_le h1 hb.size, cell_on hb h2⟩
theorem nj_made (W : World) (p : Value) (h : NoJ W p) : Calls Try.prog 64 #[p] W fun e w' => e = .returned (.bool false) ∧ W = w' := by
  rcases h with rfl | ⟨b, rfl, _, hc⟩
  all_goals (
    go_enter Try.func64, Try.ntmps64
    go_wp2
    go_ret
    exact ⟨rfl, rfl⟩)
theorem nj_len (W : World) (p : Value) (h : NoJ W p) : Calls Try.prog 38 #[p] W fun e w' => e = .returned (.int .i64 0) ∧ W = w' := by
  have HM := Lib.hid (nj_made W p h)
  clear h
  go_enter Try.func38, Try.ntmps38
  go_wp2_with (go_at_call 64; refine HM.out.mono ?_; rintro e w1 ⟨rfl, rfl⟩)
  go_ret
  exact ⟨rfl, rfl⟩
theorem nj_tail (W : World) (p : Value) (h : NoJ W p) : Calls Try.prog 39 #[p] W fun e w' => e = .returned (.int .i64 0) ∧ W = w' := by
  have HM := Lib.hid (nj_made W p h)
  clear h
  go_enter Try.func39, Try.ntmps39
  go_wp2_with (go_at_call 64; refine HM.out.mono ?_; rintro e w1 ⟨rfl, rfl⟩)
  go_ret
  exact ⟨rfl, rfl⟩
theorem nj_room (W : World) (p : Value) (h : NoJ W p) : Calls Try.prog 40 #[p] W fun e w' => e = .returned (.int .i64 0) ∧ W = w' := by
  have HM := Lib.hid (nj_made W p h)
  clear h
  go_enter Try.func40, Try.ntmps40
  go_wp2_with (go_at_call 64; refine HM.out.mono ?_; rintro e w1 ⟨rfl, rfl⟩)
  go_ret
  exact ⟨rfl, rfl⟩
theorem nj_dead (W : World) (p : Value) (h : NoJ W p) : Calls Try.prog 41 #[p] W fun e w' => e = .returned (.bool false) ∧ W = w' := by
  have HM := Lib.hid (nj_made W p h)
  clear h
  go_enter Try.func41, Try.ntmps41
  go_wp2_with (go_at_call 64; refine HM.out.mono ?_; rintro e w1 ⟨rfl, rfl⟩)
  go_ret
  exact ⟨rfl, rfl⟩
theorem nj_append (W : World) (p : Value) (A : Option Addr) (n c : Nat) (h : NoJ W p) : Calls Try.prog 36 #[p, .slice A n c] W fun e w' => e = .returned (.tuple #[.int .i64 0, .int .i64 1]) ∧ W = w' := by
  have HM := Lib.hid (nj_made W p h)
  clear h
  go_enter Try.func36, Try.ntmps36
  go_wp2_with (go_at_call 64; refine HM.out.mono ?_; rintro e w1 ⟨rfl, rfl⟩)
  go_ret2
  exact ⟨rfl, rfl⟩
theorem jopen_none (W : World) : Calls Try.prog 33 #[.pointer none] W fun e w' => e = .returned (.tuple #[.pointer none, .slice none 0 0, .int .i64 1]) ∧ W = w' := by
  have HF := Lib.hid (no_find W (.pointer none) (.inl rfl))
  go_enter Try.func33, Try.ntmps33
  go_wp2_with (go_at_call 15; refine HF.out.mono ?_; rintro e w1 ⟨rfl, rfl⟩)
  go_ret3
  exact ⟨rfl, rfl⟩
/-- a journal opened where power stays -/
theorem code_jopen (w : World) (B bm nn : Nat) (d d2 : DiskV) (k : Nat) (h : Dsk w B bm nn d) (hok : OkD d) (hd : d.dead = false) (hn : nn ≤ 1000000) (hw : d.writes ≤ 1000000) (hwi : wipeL d 0 (dirtyL d.S (findT d.S d.many).2 d.many) = (d2, k, 0)) (hl : (findT d.S d.many).1.length ≤ 100000) :
    Calls Try.prog 33 #[.pointer (some ⟨B, 0, none⟩)] w fun e w' => ∃ P A c n, e = .returned (.tuple #[.pointer (some ⟨P, 0, none⟩), .slice A (findT d.S d.many).1.length c, .int .i64 0]) ∧ JnAt w' P ⟨B, (findT d.S d.many).2, false, (findT d.S d.many).1.length⟩ ∧ SecsAt w' A c (findT d.S d.many).1 ∧ Dsk w' B bm n d2 ∧ n ≤ nn + d.many ∧ w.heap.size ≤ P ∧ ChgD w w' B bm := by
  have HF : Hid (Calls Try.prog 15 #[.pointer (some ⟨B, 0, none⟩)] w fun e w' => ∃ A4 c4, e = .returned (.tuple #[.slice A4 (findT d.S d.many).1.length c4, .int .i64 (findT d.S d.many).2, .int .i64 0]) ∧ SecsAt w' A4 c4 (findT d.S d.many).1 ∧ Below w.heap.size w w') := Lib.hid (by
    refine (code_find w B bm nn d h hd).mono ?_
    rintro e w' ⟨v, rfl, ho, hb⟩
    obtain ⟨A4, c4, rfl, hs⟩ := ho.secs
    exact ⟨A4, c4, rfl, hs, hb⟩)
  have HW : Hid (∀ W, Below w.heap.size w W → Calls Try.prog 22 #[.pointer (some ⟨B, 0, none⟩), .int .i64 (findT d.S d.many).2] W fun e w' => ∃ n, e = .returned (.tuple #[.int .i64 (k : Nat), .int .i64 0]) ∧ Dsk w' B bm n d2 ∧ n ≤ nn + d.many ∧ ChgD W w' B bm) := Lib.hid (fun W hb => by
    refine (code_wipe W B bm nn d (findT d.S d.many).2 (h.below hb) hok hd (findT_le _ _) hn hw).mono ?_
    rintro e w' ⟨rfl, ⟨n, h1, h2⟩, h3⟩
    rw [hwi] at h1 ⊢
    exact ⟨n, rfl, h1, h2, h3⟩)
  have HD := Lib.hid h
  clear h hwi hok hd hn hw hl
  generalize (findT d.S d.many).1 = X at *
  generalize (findT d.S d.many).2 = t at *
  obtain ⟨lx, hlx⟩ : ∃ lx, lx = X.length := ⟨_, rfl⟩
  rw [← hlx] at HF ⊢
  have HLx := Lib.hid hlx
  clear hlx
  go_enter Try.func33, Try.ntmps33
  go_wp2_with (first
    | (go_at_call 15; refine HF.out.mono ?_; rintro e w1 ⟨A4, c4, rfl, hs1, hb1⟩; have HS1 := Lib.hid hs1; have HB1 := Lib.hid hb1; clear hs1 hb1; refine Stop.out ?_))
  unfold Stop
  go_wp2_with (first
    | (go_at_call 22; refine (HW.out _ HB1.out).mono ?_; rintro e w2 ⟨n, rfl, hd2, hn2, hc2⟩; have HS2 := Lib.hid (HS1.out.chg (HD.out.below HB1.out) hc2); have HD2 := Lib.hid (And.intro hd2 hn2); have HC2 := Lib.hid hc2; clear hd2 hn2 hc2; refine Stop.out ?_))
  unfold Stop
  go_wp2
  go_ret3
  exact ⟨w2.heap.size, A4, c4, n, rfl, heap_alloc_new w2 _, HS2.out.on (below_alloc w2 _), HD2.out.1.below (below_alloc w2 _), HD2.out.2, Nat.le_trans HB1.out.size HC2.out.size, ((ChgD.of_below HB1.out).trans HC2.out).trans (ChgD.of_below (below_alloc w2 _))⟩
end Go.Proofs.Ytfjejiapafdgeaa
