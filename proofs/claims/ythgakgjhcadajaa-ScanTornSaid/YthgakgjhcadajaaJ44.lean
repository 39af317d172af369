/- The chapter's example. Scan's calls on a disk that no call made, and on one without power. -/
import Derived.Test.YthgakgjhcadajaaJ40
import Derived.Test.YthgakgjhcadajaaJ42
import Derived.Test.YthgakgjhcadajaaJ43
import Derived.Test.YthgakgjhcadajaaJ20
namespace Go.Proofs.Ythgakgjhcadajaa
open Go.RowKit
set_option maxRecDepth 100000
set_option linter.unusedSimpArgs false
set_option linter.unusedVariables false

/-- the example's sectors -/
def exL (A B : Option Addr) : List PartV := [⟨1, -1, A, [5], 1, false⟩, ⟨2, 1, B, [6], 1, false⟩]
def exP : List Text := pagesT 1 [5] ++ (pagesT 2 [6]).take 1
def exS (j : Nat) : Text := if j < 4 then exP.getD j [] else zeros
theorem ex_find : findT exS 9 = ([[5]], 3) := by decide +kernel
theorem ex_dirty : (dirtyL exS 3 9).length = 1 := by decide +kernel
theorem ex_pages (A B : Option Addr) : lawP (exL A B) = exP := by
  have h1 : partP 1 [5] = pagesT 1 [5] := by decide +kernel
  have h2 : partP 2 [6] = pagesT 2 [6] := by decide +kernel
  have h3 : cutM (-1) (pagesT 1 [5]) = pagesT 1 [5] := by decide +kernel
  have h4 : cutM 1 (pagesT 2 [6]) = (pagesT 2 [6]).take 1 := by decide +kernel
  show ([(if false = true then _ else cutM (-1) (partP 1 [5])), (if false = true then _ else cutM 1 (partP 2 [6]))] : List (List Text)).flatten = _
  rw [if_neg (by decide), if_neg (by decide), h1, h2, h3, h4]
  rfl
theorem ex_64 : ∀ T ∈ exP, T.length = 64 := by
  rw [← ex_pages none none]
  exact lawP_64 _
theorem ex_laid : (laidD 9 exP (min 9 exP.length)).many = 9 ∧ (laidD 9 exP (min 9 exP.length)).dead = false ∧ (laidD 9 exP (min 9 exP.length)).S = exS := by
  have h4 : exP.length = 4 := by decide +kernel
  obtain ⟨a1, a2, _, _, _, _, a7⟩ := laid_facts 9 exP ex_64 4 (by omega) (by omega)
  rw [h4, show min 9 4 = 4 by decide]
  exact ⟨a1, a2, funext a7⟩
def exW (w : World) : World := ((w.alloc (.cells #[.int .u8 5] 5)).alloc (.cells #[.int .u8 6] 5)).alloc (.cells #[.int .i64 1, .int .i64 (-1), .slice (some ⟨w.heap.size, 0, none⟩) 1 1, .bool false, .int .i64 2, .int .i64 1, .slice (some ⟨w.heap.size + 1, 0, none⟩) 1 1, .bool false] 90)
theorem ex_parts (w : World) : PartsAt (exW w) (some ⟨w.heap.size + 1 + 1, 0, none⟩) (exL (some ⟨w.heap.size, 0, none⟩) (some ⟨w.heap.size + 1, 0, none⟩)) ∧ Below w.heap.size w (exW w) := by
  have e1 := heap_alloc_new w (.cells #[.int .u8 5] 5)
  have e2 := heap_alloc_new (w.alloc (.cells #[.int .u8 5] 5)) (.cells #[.int .u8 6] 5)
  have e3 := heap_alloc_new ((w.alloc (.cells #[.int .u8 5] 5)).alloc (.cells #[.int .u8 6] 5)) (.cells #[.int .i64 1, .int .i64 (-1), .slice (some ⟨w.heap.size, 0, none⟩) 1 1, .bool false, .int .i64 2, .int .i64 1, .slice (some ⟨w.heap.size + 1, 0, none⟩) 1 1, .bool false] 90)
  simp only [World.size_alloc] at e2 e3
  have b2 := below_alloc (w.alloc (.cells #[.int .u8 5] 5)) (.cells #[.int .u8 6] 5)
  have b3 := below_alloc ((w.alloc (.cells #[.int .u8 5] 5)).alloc (.cells #[.int .u8 6] 5)) (.cells #[.int .i64 1, .int .i64 (-1), .slice (some ⟨w.heap.size, 0, none⟩) 1 1, .bool false, .int .i64 2, .int .i64 1, .slice (some ⟨w.heap.size + 1, 0, none⟩) 1 1, .bool false] 90)
  have f1 : (exW w).heap[w.heap.size]? = some (.cells (([5] : Text).map cellOf).toArray 5) := heap_on b3 (heap_on b2 e1)
  have f2 : (exW w).heap[w.heap.size + 1]? = some (.cells (([6] : Text).map cellOf).toArray 5) := heap_on b3 e2
  have hs : (exW w).heap.size = w.heap.size + 3 := by simp [exW]
  refine ⟨fun q hq => ?_, below_then (below_then (below_alloc w _) b2) b3⟩
  have hq2 : q < 2 := hq
  rcases (show q = 0 ∨ q = 1 by omega) with rfl | rfl
  · exact ⟨_, _, rfl, by omega, cell_of_row _ _ 0 _ _ _ e3, cell_of_row _ _ 1 _ _ _ e3, cell_of_row _ _ 2 _ _ _ e3, cell_of_row _ _ 3 _ _ _ e3, (show 1 ≤ 1 from Nat.le_refl _), (show 1 ≤ maxLen by decide), mid_txt (range_cells f1), fun e => by cases e⟩
  · exact ⟨_, _, rfl, by omega, cell_of_row _ _ 4 _ _ _ e3, cell_of_row _ _ 5 _ _ _ e3, cell_of_row _ _ 6 _ _ _ e3, cell_of_row _ _ 7 _ _ _ e3, (show 1 ≤ 1 from Nat.le_refl _), (show 1 ≤ maxLen by decide), mid_txt (range_cells f2), fun e => by cases e⟩
theorem ex_lpages (w : World) : Calls Try.prog 14 #[.slice (some ⟨w.heap.size + 1 + 1, 0, none⟩) 2 2] (exW w) fun e w' => ∃ g c, e = .returned (.slice (some ⟨g, 0, none⟩) 4 c) ∧ SecsAt w' (some ⟨g, 0, none⟩) c exP ∧ Below w.heap.size w w' := by
  obtain ⟨hp, hb⟩ := ex_parts w
  have h := code_lpages (exL (some ⟨w.heap.size, 0, none⟩) (some ⟨w.heap.size + 1, 0, none⟩)) (some ⟨w.heap.size + 1 + 1, 0, none⟩) 2 (exW w) hp (show 2 ≤ 20 by decide) (fun q hq => by
    have hq2 : q < 2 := hq
    rcases (show q = 0 ∨ q = 1 by omega) with rfl | rfl <;> (show 1 ≤ 1000; decide))
  rw [ex_pages] at h
  have h4 : exP.length = 4 := by decide +kernel
  refine Calls.mono (R := _) h ?_
  rintro e w' ⟨v, rfl, ho, _, hb2⟩
  obtain ⟨g, c, rfl, _, _, hc⟩ := ho.form (by rw [h4]; decide)
  exact ⟨g, c, by rw [h4], .inr ⟨g, rfl, ho.texts rfl, hc⟩, hb.trans (hb2.mono hb.size)⟩
theorem ex_laids (W : World) (g c : Nat) (h : SecsAt W (some ⟨g, 0, none⟩) c exP) : Calls Try.prog 13 #[.int .i64 9, .slice (some ⟨g, 0, none⟩) 4 c] W fun e w' => ∃ B bm nn d g c tr, e = .returned (.tuple #[.pointer (some ⟨B, 0, none⟩), spelt g c tr d, .bool true]) ∧ Dsk w' B bm nn d ∧ Below W.heap.size W w' ∧ d.many = 9 ∧ d.dead = false ∧ d.S = exS := by
  have h4 : exP.length = 4 := by decide +kernel
  have hl := code_laid 9 exP (some ⟨g, 0, none⟩) c W (by decide) (by decide) (by rw [h4]; decide) ex_64 h
  rw [h4] at hl
  refine Calls.mono (R := _) hl ?_
  rintro e w' ⟨B, bm, nn, g1, c1, tr, he, hd, _, _, _, _, _, _, _, hb⟩
  have hx := ex_laid
  rw [h4] at hx
  exact ⟨B, bm, nn, _, g1, c1, tr, he, hd, hb, hx.1, hx.2.1, hx.2.2⟩
theorem ex_finds (W : World) (B bm nn : Nat) (d : DiskV) (h : Dsk W B bm nn d) (h1 : d.many = 9) (h2 : d.dead = false) (h3 : d.S = exS) : Calls Try.prog 15 #[.pointer (some ⟨B, 0, none⟩)] W fun e w' => ∃ g c b cb, e = .returned (.tuple #[.slice (some ⟨g, 0, none⟩) 1 c, .int .i64 3, .int .i64 0]) ∧ w'.cell? ⟨g, 0, none⟩ = some (.slice (some ⟨b, 0, none⟩) 1 cb) ∧ Txt w' (some ⟨b, 0, none⟩) [5] ∧ 1 ≤ c ∧ g < w'.heap.size ∧ Below W.heap.size W w' := by
  refine (code_find W B bm nn d h h2).mono ?_
  rw [h1, h3, ex_find]
  rintro e w' ⟨v, rfl, ho, hb⟩
  obtain ⟨g, c, rfl, _, hg, hc⟩ := ho.form (by decide)
  obtain ⟨b, cb, q1, q2, q3, q4, q5, q6⟩ := ho.at_ rfl 0 (by decide)
  exact ⟨g, c, b, cb, rfl, q1, mid_txt q4, hc, hg, hb⟩
theorem ex_dirtys (W : World) (B bm nn : Nat) (d : DiskV) (h : Dsk W B bm nn d) (h1 : d.many = 9) (h2 : d.dead = false) (h3 : d.S = exS) : Calls Try.prog 17 #[.pointer (some ⟨B, 0, none⟩), .int .i64 3] W fun e w' => e = .returned (.tuple #[.int .i64 1, .int .i64 0]) ∧ Below W.heap.size W w' := by
  have := code_dirty W B bm nn d 3 h h2 (by omega)
  rw [h1, h3, ex_dirty] at this
  exact this
set_option maxHeartbeats 2000000 in
theorem scan_lives (w : World) : Calls Try.prog 12 #[] w fun e w' => e = .returned (.bool true) ∧ Below w.heap.size w w' := by
  have HPg := Lib.hid (ex_lpages w)
  unfold exW at HPg
  go_enter Try.func12, Try.ntmps12
  go_wp2_with (first
    | (go_at_call 14; refine HPg.out.mono ?_; rintro e w1 ⟨g, c, rfl, hs, hb1⟩; have HS := Lib.hid hs; have HB1 := Lib.hid hb1; clear hs hb1)
    | (go_at_call 13; refine (ex_laids w1 g c HS.out).mono ?_; rintro e w2 ⟨B, bm, nn, d, g2, c2, tr, rfl, hd, hb2, h1, h2, h3⟩; have HD := Lib.hid (And.intro hd (And.intro h1 (And.intro h2 h3))); have HB2 := Lib.hid (HB1.out.trans (hb2.mono HB1.out.size)); clear hd hb2 h1 h2 h3; unfold spelt; refine Stop.out ?_))
  unfold Stop
  have HDa : Hid (∀ o, Dsk (w2.alloc o) B bm nn d) := Lib.hid (fun o => HD.out.1.below (below_alloc w2 o))
  go_wp2_with (first
    | (go_at_call 15; refine (ex_finds _ B bm nn d (HDa.out _) HD.out.2.1 HD.out.2.2.1 HD.out.2.2.2).mono ?_; rintro e w3 ⟨g3, c3, b3, cb3, rfl, hc3, ht3, hcc, hg3, hb3⟩; have HB3 := Lib.hid (below_then (below_then HB2.out (below_alloc w2 _)) hb3); have HD3 := Lib.hid ((HDa.out _).below hb3); have HF3 := Lib.hid (And.intro hc3 (And.intro ht3 (And.intro hcc hg3))); clear hc3 ht3 hcc hg3 hb3; refine Stop.out ?_))
  unfold Stop
  go_wp2_with (first
    | (go_at_call 17; refine (ex_dirtys _ B bm nn d HD3.out HD.out.2.1 HD.out.2.2.1 HD.out.2.2.2).mono ?_; rintro e w4 ⟨rfl, hb4⟩; have HB4 := Lib.hid (below_then HB3.out hb4); have hc4 := cell_on hb4 HF3.out.1; have ec := text_run_n w4 (some ⟨b3, 0, none⟩) cb3 1 [5] rfl (HF3.out.2.1.below hb4) (fun e => by cases e); clear hb4; refine Stop.out ?_))
  unfold Stop
  go_wp2
  go_ret
  exact ⟨rfl, HB4.out⟩
end Go.Proofs.Ythgakgjhcadajaa

namespace Go.Proofs.Ythgakgjhcadajaa
open Go.RowKit
set_option maxRecDepth 100000
set_option linter.unusedSimpArgs false
set_option linter.unusedVariables false

/-- a disk that no call made: nil, or all nought -/
def NoD (W : World) (p : Value) : Prop := p = .pointer none ∨ ∃ b, p = .pointer (some ⟨b, 0, none⟩) ∧ b < W.heap.size ∧ W.cell? ⟨b, 0, none⟩ = some (.int .i64 0)
theorem NoD.below {W W' : World} {p : Value} (h : NoD W p) (hb : Below W.heap.size W W') : NoD W' p := by
  rcases h with h | ⟨b, e, h1, h2⟩
  · exact .inl h
  · exact .inr ⟨b, e, Nat.lt_of_lt_of_le h1 hb.size, cell_on hb h2⟩
theorem no_len (W : World) (p : Value) (h : NoD W p) : Calls Try.prog 46 #[p] W fun e w' => e = .returned (.int .i64 0) ∧ W = w' := by
  rcases h with rfl | ⟨b, rfl, _, hc⟩
  all_goals (
    go_enter Try.func46, Try.ntmps46
    go_wp2
    go_ret
    exact ⟨rfl, rfl⟩)
theorem no_reach (W : World) (p : Value) (f : Int) (h : NoD W p) : Calls Try.prog 45 #[p, .int .i64 f] W fun e w' => e = .returned (.int .i64 1) ∧ W = w' := by
  have HL := Lib.hid (no_len W p h)
  clear h
  go_enter Try.func45, Try.ntmps45
  go_wp2_with (go_at_call 46; refine HL.out.mono ?_; rintro e w1 ⟨rfl, rfl⟩)
  go_ret
  exact ⟨rfl, rfl⟩
theorem no_dirty (W : World) (p : Value) (f : Int) (h : NoD W p) : Calls Try.prog 17 #[p, .int .i64 f] W fun e w' => e = .returned (.tuple #[.int .i64 0, .int .i64 1]) ∧ W = w' := by
  have HR := Lib.hid (no_reach W p f h)
  clear h
  go_enter Try.func17, Try.ntmps17
  go_wp2_with (go_at_call 45; refine HR.out.mono ?_; rintro e w1 ⟨rfl, rfl⟩)
  go_ret2
  exact ⟨rfl, rfl⟩
attribute [local go_sem] jump3_normal jump3_exit jump3_ret jump3_panic
/-- Find, where the sectors can't be read -/
theorem find_bad (W : World) (p : Value) (x : Int) (hx : x ≠ 0) (h : Calls Try.prog 45 #[p, .int .i64 0] W fun e w' => e = .returned (.int .i64 x) ∧ W = w') :
    Calls Try.prog 15 #[p] W fun e w' => e = .returned (.tuple #[.slice none 0 0, .int .i64 0, .int .i64 x]) ∧ W = w' := by
  have HR := Lib.hid h
  have hv : (x != 0) = true := by simpa using hx
  clear h
  go_enter Try.func15, Try.ntmps15
  go_wp2
  refine wp_scope3f (fun _ _ _ => False) (fun _ _ _ => False) (fun _ _ _ => False) rfl rfl rfl ?first (fun _ _ _ h => h.elim) (fun _ _ _ h => h.elim) (fun _ _ _ h => h.elim)
  intro Z hZ
  clear hZ
  go_wp2_with (go_at_call 45; refine HR.out.mono ?_; rintro e w1 ⟨rfl, rfl⟩)
  rw [jump3_ret]
  go_ret3
  exact ⟨rfl, rfl⟩
theorem dead_find (W : World) (B bm n : Nat) (d : DiskV) (h : Dsk W B bm n d) (hd : d.dead = true) : Calls Try.prog 15 #[.pointer (some ⟨B, 0, none⟩)] W fun e w' => e = .returned (.tuple #[.slice none 0 0, .int .i64 0, .int .i64 32]) ∧ W = w' :=
  find_bad W _ 32 (by decide) (by
    have h1 := code_sreach W B bm n d 0 h
    have h2 : sreachV d 0 = 32 := by unfold sreachV; rw [hd, if_neg (by have := h.2.2.2.2; omega), if_pos rfl]
    rwa [h2] at h1)
/-- two answers, each in a cell of its own -/
theorem results_ints {fn : Func} {p q : Tmp} (h : fn.results = #[.cell p 3, .cell q 33]) (tmps : Array Value) (W : World) (g g' : Nat) (v b : Value) (hp : tmps.getD p undef = .pointer (some ⟨g, 0, none⟩)) (hq : tmps.getD q undef = .pointer (some ⟨g', 0, none⟩))
    (h1 : W.cell? ⟨g, 0, none⟩ = some v) (h2 : W.cell? ⟨g', 0, none⟩ = some b) : (results fn tmps).run Try.prog W = .ok (.tuple #[v, b]) W := by
  have z1 : (isAgg 3).run Try.prog W = .ok false W := by rfl
  have z2 : (isAgg 33).run Try.prog W = .ok false W := by rfl
  have hp' : tmps[p]?.getD undef = .pointer (some ⟨g, 0, none⟩) := by simpa [Array.getD_eq_getD_getElem?] using hp
  have hq' : tmps[q]?.getD undef = .pointer (some ⟨g', 0, none⟩) := by simpa [Array.getD_eq_getD_getElem?] using hq
  simp [results, h, hp', hq', go_sem, loadVar, z1, z2, h1, h2]
theorem wipe_bad (W : World) (p : Option Addr) (f x : Int) (hx : x ≠ 0) (h : ∀ V, Below W.heap.size W V → Calls Try.prog 45 #[.pointer p, .int .i64 f] V fun e w' => e = .returned (.int .i64 x) ∧ V = w') :
    Calls Try.prog 22 #[.pointer p, .int .i64 f] W fun e w' => e = .returned (.tuple #[.int .i64 0, .int .i64 x]) ∧ Below W.heap.size W w' := by
  have HR := Lib.hid h
  have hv : (x != 0) = true := by simpa using hx
  have HB : Hid (Below W.heap.size W (((W.alloc (.cells #[.pointer p] 25)).alloc (.cells #[.int .i64 0] 3)).alloc (.cells #[.int .i64 0] 33))) := Lib.hid (below_then (below_then (below_alloc _ _) (below_alloc _ _)) (below_alloc _ _))
  clear h
  go_enter Try.func22, Try.ntmps22
  go_wp2_with (go_at_call 45; refine (HR.out _ HB.out).mono ?_; rintro e w1 ⟨rfl, rfl⟩)
  have e2 := heap_alloc_new (W.alloc (.cells #[.pointer p] 25)) (.cells #[.int .i64 0] 3)
  have e3 := heap_alloc_new ((W.alloc (.cells #[.pointer p] 25)).alloc (.cells #[.int .i64 0] 3)) (.cells #[.int .i64 x] 33)
  have b3 := below_alloc ((W.alloc (.cells #[.pointer p] 25)).alloc (.cells #[.int .i64 0] 3)) (.cells #[.int .i64 x] 33)
  simp only [World.size_alloc] at e2 e3
  refine bodyPost_ret (results_ints rfl _ _ (W.heap.size + 1) (W.heap.size + 1 + 1) (.int .i64 0) (.int .i64 x) rfl rfl (cell_of_row _ _ 0 _ _ _ (heap_on b3 e2)) (cell_of_row _ _ 0 _ _ _ e3)) rfl ⟨rfl, below_then (below_then (below_alloc _ _) (below_alloc _ _)) (below_alloc _ _)⟩
theorem no_find (W : World) (p : Value) (h : NoD W p) : Calls Try.prog 15 #[p] W fun e w' => e = .returned (.tuple #[.slice none 0 0, .int .i64 0, .int .i64 1]) ∧ W = w' := find_bad W p 1 (by decide) (no_reach W p 0 h)
theorem no_wipe (W : World) (p : Value) (f : Int) (h : NoD W p) : Calls Try.prog 22 #[p, .int .i64 f] W fun e w' => e = .returned (.tuple #[.int .i64 0, .int .i64 1]) ∧ Below W.heap.size W w' := by
  have hr := fun V hb => no_reach V p f (h.below hb)
  rcases h with rfl | ⟨b, rfl, _⟩
  · exact wipe_bad W none f 1 (by decide) hr
  · exact wipe_bad W _ f 1 (by decide) hr
end Go.Proofs.Ythgakgjhcadajaa
