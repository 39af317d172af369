/- The chapter's example. Parts, as they come in. What is wiped behind the tail changes nothing of what stands: walked. -/
import Derived.Test.YtfjejiapafdgeaaJ34
import Derived.Test.YtfjejiapafdgeaaJ12
import Derived.Test.YtfjejiapafdgeaaJ25
import Derived.Test.YtfjejiapafdgeaaJ26
import Derived.Test.YtfjejiapafdgeaaJ5
import Derived.Lib.SmallJoins
namespace Go.Proofs.Ytfjejiapafdgeaa
open Go.RowKit
set_option maxRecDepth 100000
set_option linter.unusedSimpArgs false
set_option linter.unusedVariables false

/-- the example's sectors -/
def exL (A B : Option Addr) : List PartV := [⟨1, -1, A, [5], 1, false⟩, ⟨2, 1, B, [6], 1, false⟩]
def exP : List Text := pagesT 1 [5] ++ (pagesT 2 [6]).take 1
def exS (j : Nat) : Text := if j < 4 then exP.getD j [] else zeros
theorem ex_find : findT exS 9 = ([[5]], 3) := by decide +kernel
theorem ex_dirty : (dirtyL exS 3 9).length = 1 := by decide +kernel
theorem ex_pages (A B : Option Addr) : lawP (exL A B) = exP := by
  have h1 : partP 1 [5] = pagesT 1 [5] := by decide +kernel
  have h2 : partP 2 [6] = pagesT 2 [6] := by decide +kernel
  have h3 : cutM (-1) (pagesT 1 [5]) = pagesT 1 [5] := by decide +kernel
  have h4 : cutM 1 (pagesT 2 [6]) = (pagesT 2 [6]).take 1 := by decide +kernel
  show ([(if false = true then _ else cutM (-1) (partP 1 [5])), (if false = true then _ else cutM 1 (partP 2 [6]))] : List (List Text)).flatten = _
  rw [if_neg (by decide), if_neg (by decide), h1, h2, h3, h4]
  rfl
theorem ex_64 : ∀ T ∈ exP, T.length = 64 := by
  rw [← ex_pages none none]
  exact lawP_64 _
theorem ex_laid : (laidD 9 exP (min 9 exP.length)).many = 9 ∧ (laidD 9 exP (min 9 exP.length)).dead = false ∧ (laidD 9 exP (min 9 exP.length)).S = exS := by
  have h4 : exP.length = 4 := by decide +kernel
  obtain ⟨a1, a2, _, _, _, _, a7⟩ := laid_facts 9 exP ex_64 4 (by omega) (by omega)
  rw [h4, show min 9 4 = 4 by decide]
  exact ⟨a1, a2, funext a7⟩
def exW (w : World) : World := ((w.alloc (.cells #[.int .u8 5] 5)).alloc (.cells #[.int .u8 6] 5)).alloc (.cells #[.int .i64 1, .int .i64 (-1), .slice (some ⟨w.heap.size, 0, none⟩) 1 1, .bool false, .int .i64 2, .int .i64 1, .slice (some ⟨w.heap.size + 1, 0, none⟩) 1 1, .bool false] 90)
theorem ex_parts (w : World) : PartsAt (exW w) (some ⟨w.heap.size + 1 + 1, 0, none⟩) (exL (some ⟨w.heap.size, 0, none⟩) (some ⟨w.heap.size + 1, 0, none⟩)) ∧ Below w.heap.size w (exW w) := by
  have e1 := heap_alloc_new w (.cells #[.int .u8 5] 5)
  have e2 := heap_alloc_new (w.alloc (.cells #[.int .u8 5] 5)) (.cells #[.int .u8 6] 5)
  have e3 := heap_alloc_new ((w.alloc (.cells #[.int .u8 5] 5)).alloc (.cells #[.int .u8 6] 5)) (.cells #[.int .i64 1, .int .i64 (-1), .slice (some ⟨w.heap.size, 0, none⟩) 1 1, .bool false, .int .i64 2, .int .i64 1, .slice (some ⟨w.heap.size + 1, 0, none⟩) 1 1, .bool false] 90)
  simp only [World.size_alloc] at e2 e3
  have b2 := below_alloc (w.alloc (.cells #[.int .u8 5] 5)) (.cells #[.int .u8 6] 5)
  have b3 := below_alloc ((w.alloc (.cells #[.int .u8 5] 5)).alloc (.cells #[.int .u8 6] 5)) (.cells #[.int .i64 1, .int .i64 (-1), .slice (some ⟨w.heap.size, 0, none⟩) 1 1, .bool false, .int .i64 2, .int .i64 1, .slice (some ⟨w.heap.size + 1, 0, none⟩) 1 1, .bool false] 90)
  have f1 : (exW w).heap[w.heap.size]? = some (.cells (([5] : Text).map cellOf).toArray 5) := heap_on b3 (heap_on b2 e1)
  have f2 : (exW w).heap[w.heap.size + 1]? = some (.cells (([6] : Text).map cellOf).toArray 5) := heap_on b3 e2
  have hs : (exW w).heap.size = w.heap.size + 3 := by simp [exW]
  refine ⟨fun q hq => ?_, below_then (below_then (below_alloc w _) b2) b3⟩
  have hq2 : q < 2 := hq
  rcases (show q = 0 ∨ q = 1 by omega) with rfl | rfl
  · exact ⟨_, _, rfl, by omega, cell_of_row _ _ 0 _ _ _ e3, cell_of_row _ _ 1 _ _ _ e3, cell_of_row _ _ 2 _ _ _ e3, cell_of_row _ _ 3 _ _ _ e3, (show 1 ≤ 1 from Nat.le_refl _), (show 1 ≤ maxLen by decide), mid_txt (range_cells f1), fun e => by cases e⟩
  · exact ⟨_, _, rfl, by omega, cell_of_row _ _ 4 _ _ _ e3, cell_of_row _ _ 5 _ _ _ e3, cell_of_row _ _ 6 _ _ _ e3, cell_of_row _ _ 7 _ _ _ e3, (show 1 ≤ 1 from Nat.le_refl _), (show 1 ≤ maxLen by decide), mid_txt (range_cells f2), fun e => by cases e⟩
theorem ex_lpages (w : World) : Calls Try.prog 14 #[.slice (some ⟨w.heap.size + 1 + 1, 0, none⟩) 2 2] (exW w) fun e w' => ∃ g c, e = .returned (.slice (some ⟨g, 0, none⟩) 4 c) ∧ SecsAt w' (some ⟨g, 0, none⟩) c exP ∧ Below w.heap.size w w' := by
  obtain ⟨hp, hb⟩ := ex_parts w
  have h := code_lpages (exL (some ⟨w.heap.size, 0, none⟩) (some ⟨w.heap.size + 1, 0, none⟩)) (some ⟨w.heap.size + 1 + 1, 0, none⟩) 2 (exW w) hp (show 2 ≤ 20 by decide) (fun q hq => by
    have hq2 : q < 2 := hq
    rcases (show q = 0 ∨ q = 1 by omega) with rfl | rfl <;> (show 1 ≤ 1000; decide))
  rw [ex_pages] at h
  have h4 : exP.length = 4 := by decide +kernel
  refine Calls.mono (R := _) h ?_
  rintro e w' ⟨v, rfl, ho, _, hb2⟩
  obtain ⟨g, c, rfl, _, _, hc⟩ := ho.form (by rw [h4]; decide)
  exact ⟨g, c, by rw [h4], .inr ⟨g, rfl, ho.texts rfl, hc⟩, hb.trans (hb2.mono hb.size)⟩
theorem ex_laids (W : World) (g c : Nat) (h : SecsAt W (some ⟨g, 0, none⟩) c exP) : Calls Try.prog 13 #[.int .i64 9, .slice (some ⟨g, 0, none⟩) 4 c] W fun e w' => ∃ B bm nn d g c tr, e = .returned (.tuple #[.pointer (some ⟨B, 0, none⟩), spelt g c tr d, .bool true]) ∧ Dsk w' B bm nn d ∧ Below W.heap.size W w' ∧ d.many = 9 ∧ d.dead = false ∧ d.S = exS := by
  have h4 : exP.length = 4 := by decide +kernel
  have hl := code_laid 9 exP (some ⟨g, 0, none⟩) c W (by decide) (by decide) (by rw [h4]; decide) ex_64 h
  rw [h4] at hl
  refine Calls.mono (R := _) hl ?_
  rintro e w' ⟨B, bm, nn, g1, c1, tr, he, hd, _, _, _, _, _, _, _, hb⟩
  have hx := ex_laid
  rw [h4] at hx
  exact ⟨B, bm, nn, _, g1, c1, tr, he, hd, hb, hx.1, hx.2.1, hx.2.2⟩
theorem ex_finds (W : World) (B bm nn : Nat) (d : DiskV) (h : Dsk W B bm nn d) (h1 : d.many = 9) (h2 : d.dead = false) (h3 : d.S = exS) : Calls Try.prog 15 #[.pointer (some ⟨B, 0, none⟩)] W fun e w' => ∃ g c b cb, e = .returned (.tuple #[.slice (some ⟨g, 0, none⟩) 1 c, .int .i64 3, .int .i64 0]) ∧ w'.cell? ⟨g, 0, none⟩ = some (.slice (some ⟨b, 0, none⟩) 1 cb) ∧ Txt w' (some ⟨b, 0, none⟩) [5] ∧ 1 ≤ c ∧ g < w'.heap.size ∧ Below W.heap.size W w' := by
  refine (code_find W B bm nn d h h2).mono ?_
  rw [h1, h3, ex_find]
  rintro e w' ⟨v, rfl, ho, hb⟩
  obtain ⟨g, c, rfl, _, hg, hc⟩ := ho.form (by decide)
  obtain ⟨b, cb, q1, q2, q3, q4, q5, q6⟩ := ho.at_ rfl 0 (by decide)
  exact ⟨g, c, b, cb, rfl, q1, mid_txt q4, hc, hg, hb⟩
theorem ex_dirtys (W : World) (B bm nn : Nat) (d : DiskV) (h : Dsk W B bm nn d) (h1 : d.many = 9) (h2 : d.dead = false) (h3 : d.S = exS) : Calls Try.prog 17 #[.pointer (some ⟨B, 0, none⟩), .int .i64 3] W fun e w' => e = .returned (.tuple #[.int .i64 1, .int .i64 0]) ∧ Below W.heap.size W w' := by
  have := code_dirty W B bm nn d 3 h h2 (by omega)
  rw [h1, h3, ex_dirty] at this
  exact this
set_option maxHeartbeats 2000000 in
theorem scan_lives (w : World) : Calls Try.prog 12 #[] w fun e w' => e = .returned (.bool true) ∧ Below w.heap.size w w' := by
  have HPg := Lib.hid (ex_lpages w)
  unfold exW at HPg
  go_enter Try.func12, Try.ntmps12
  go_wp2_with (first
    | (go_at_call 14; refine HPg.out.mono ?_; rintro e w1 ⟨g, c, rfl, hs, hb1⟩; have HS := Lib.hid hs; have HB1 := Lib.hid hb1; clear hs hb1)
    | (go_at_call 13; refine (ex_laids w1 g c HS.out).mono ?_; rintro e w2 ⟨B, bm, nn, d, g2, c2, tr, rfl, hd, hb2, h1, h2, h3⟩; have HD := Lib.hid (And.intro hd (And.intro h1 (And.intro h2 h3))); have HB2 := Lib.hid (HB1.out.trans (hb2.mono HB1.out.size)); clear hd hb2 h1 h2 h3; unfold spelt; refine Stop.out ?_))
  unfold Stop
  have HDa : Hid (∀ o, Dsk (w2.alloc o) B bm nn d) := Lib.hid (fun o => HD.out.1.below (below_alloc w2 o))
  go_wp2_with (first
    | (go_at_call 15; refine (ex_finds _ B bm nn d (HDa.out _) HD.out.2.1 HD.out.2.2.1 HD.out.2.2.2).mono ?_; rintro e w3 ⟨g3, c3, b3, cb3, rfl, hc3, ht3, hcc, hg3, hb3⟩; have HB3 := Lib.hid (below_then (below_then HB2.out (below_alloc w2 _)) hb3); have HD3 := Lib.hid ((HDa.out _).below hb3); have HF3 := Lib.hid (And.intro hc3 (And.intro ht3 (And.intro hcc hg3))); clear hc3 ht3 hcc hg3 hb3; refine Stop.out ?_))
  unfold Stop
  go_wp2_with (first
    | (go_at_call 17; refine (ex_dirtys _ B bm nn d HD3.out HD.out.2.1 HD.out.2.2.1 HD.out.2.2.2).mono ?_; rintro e w4 ⟨rfl, hb4⟩; have HB4 := Lib.hid (below_then HB3.out hb4); have hc4 := cell_on hb4 HF3.out.1; have ec := text_run_n w4 (some ⟨b3, 0, none⟩) cb3 1 [5] rfl (HF3.out.2.1.below hb4) (fun e => by cases e); clear hb4; refine Stop.out ?_))
  unfold Stop
  go_wp2
  go_ret
  exact ⟨rfl, HB4.out⟩
end Go.Proofs.Ytfjejiapafdgeaa

namespace Go.Proofs.Ytfjejiapafdgeaa
open Go.ChangeShapes Go.WideShapes Go.ChangeAt Go.RowKit Go.Joins Go.Deep
set_option maxRecDepth 100000
set_option linter.unusedVariables false
theorem cellsPart : Try.prog.cellsOf 90 = 4 := by kernel_rfl
section
variable {H : Type} {enc : TypeId × Value → H} {W : World} {base : Nat} {sp : Nat → Bool} {held : Bool}
/-- what holds of a part beside its cells -/
def PartOk (w : World) (o : PartV) : Prop := o.l.length ≤ o.c ∧ o.c ≤ maxLen ∧ Txt w o.A o.l ∧ (o.A = none → o.l = [])
/-- one of them: four cells -/
theorem part_of {fuel : Nat} {cs : List Value} {x : DataW H × List MemPlace} (h : DataW.trod enc Try.prog W base sp held fuel 90 cs = some x) (hl : cs.length = 4) :
    ∃ o : PartV, cs = [.int .i64 o.s, .int .i64 o.m, .slice o.A o.l.length o.c, .bool o.r] ∧ PartOk W o := by
  match cs, hl with
  | [c0, c1, c2, c3], _ =>
    obtain ⟨y0, y1, y2, y3, n, _, _, h0, h1, h2, h3⟩ := trod_struct4 Try.underlying90 h
    have hi : Try.prog.cellsOf 3 = 1 := by kernel_rfl
    have hs : Try.prog.cellsOf 51 = 1 := by kernel_rfl
    have hb : Try.prog.cellsOf 4 = 1 := by kernel_rfl
    obtain ⟨k, e0, _, _⟩ := DataW.trod_int Try.underlying3 h0
    obtain ⟨m, e1, _, _⟩ := DataW.trod_int Try.underlying3 h1
    obtain ⟨r, e3, _⟩ := DataW.trod_bool Try.underlying4 h3
    rw [hs] at h2
    simp only [hi, hb] at h0 h1 h2 h3 e0 e1 e3
    obtain ⟨A, l, c, e2, g1, g2, g3, g4⟩ := bytes_of (v := c2) (by simpa using h2)
    simp at e0 e1 e3
    subst e0 e1 e2 e3
    exact ⟨⟨k, m, A, l, c, r⟩, rfl, g1, g2, g3, g4⟩
theorem open_parts {r : Reach} {b0 : Nat} {v : Value} {d : DataW H} {p : List MemPlace} (hv : Value.okWide Try.prog W r b0 22 v) (h : DataW.Trod enc Try.prog W base sp held 22 v d p) :
    ∃ (A : Option Addr) (L : List PartV) (c : Nat), v = .slice A L.length c ∧ PartsAt W A L := by
  obtain ⟨a, n, c, rfl⟩ := okWide_slice Try.underlying22 hv
  obtain ⟨fuel, hf⟩ := h
  rcases open_slice Try.underlying22 (by simpa [Value.cells] using hf) with ⟨hcs, _⟩ | ⟨y, len, cap, m, k, D, Pl, hcs, _, hl, hm, hm', _, hi⟩
  · simp at hcs
    obtain ⟨rfl, rfl, rfl⟩ := hcs
    exact ⟨none, [], 0, rfl, fun i hi => by simp at hi⟩
  · simp at hcs
    obtain ⟨rfl, rfl, rfl⟩ := hcs
    have hnm : n ≤ m := by
      rw [hm']
      cases sp y.block
      · simp
      · simpa using hl
    rw [cellsPart] at hi
    by_cases hz : n = 0
    · subst hz
      exact ⟨some y, [], c, rfl, fun i hi => by simp at hi⟩
    have each0 : ∀ i : Nat, i < n → ∃ o : PartV, W.cell? ((y.add (i * 4)).add 0) = some (.int .i64 o.s) ∧ W.cell? ((y.add (i * 4)).add 1) = some (.int .i64 o.m) ∧ W.cell? ((y.add (i * 4)).add 2) = some (.slice o.A o.l.length o.c) ∧ W.cell? ((y.add (i * 4)).add 3) = some (.bool o.r) ∧ PartOk W o := fun i hin => by
      obtain ⟨cs', hc, ht⟩ := hi i (by omega)
      obtain ⟨_, hcl, hat⟩ := World.cells?_some hc
      obtain ⟨o, rfl, hg⟩ := part_of ht hcl
      exact ⟨o, hat 0 (by omega), hat 1 (by omega), hat 2 (by omega), hat 3 (by omega), hg⟩
    obtain ⟨b, off, spot⟩ := y
    have hspot : spot = none := by
      obtain ⟨o, g0, _⟩ := each0 0 (by omega)
      simpa [Addr.add] using World.cell?_spot g0
    subst hspot
    have e : ∀ i j : Nat, ((⟨b, off, none⟩ : Addr).add (i * 4)).add j = ⟨b, off + i * 4 + j, none⟩ := fun i j => by
      rw [add_twice]
      unfold Addr.add
      by_cases hj : i * 4 + j = 0
      · have h1 : i = 0 := by omega
        have h2 : j = 0 := by omega
        subst h1 h2
        simp
      · rw [if_neg hj]; simp [Nat.add_assoc]
    have each : ∀ i : Fin n, ∃ o : PartV, W.cell? ⟨b, off + i.val * 4, none⟩ = some (.int .i64 o.s) ∧ W.cell? ⟨b, off + i.val * 4 + 1, none⟩ = some (.int .i64 o.m) ∧ W.cell? ⟨b, off + i.val * 4 + 2, none⟩ = some (.slice o.A o.l.length o.c) ∧ W.cell? ⟨b, off + i.val * 4 + 3, none⟩ = some (.bool o.r) ∧ PartOk W o := fun i => by
      obtain ⟨o, h0, h1, h2, h3, hg⟩ := each0 i.val i.isLt
      rw [e] at h0 h1 h2 h3
      exact ⟨o, h0, h1, h2, h3, hg⟩
    have hL : (List.ofFn fun i => Classical.choose (each i)).length = n := List.length_ofFn
    refine ⟨some ⟨b, off, none⟩, List.ofFn fun i => Classical.choose (each i), c, by rw [hL], fun i hin => ?_⟩
    have hin' : i < n := by rw [hL] at hin; exact hin
    obtain ⟨h0, h1, h2, h3, hg⟩ := Classical.choose_spec (each ⟨i, hin'⟩)
    rw [List.getElem_ofFn]
    exact ⟨b, off, rfl, block_lt_of_cell h0, h0, h1, h2, h3, hg⟩
end
end Go.Proofs.Ytfjejiapafdgeaa

namespace Go.Proofs.Ytfjejiapafdgeaa
open Go.RowKit
set_option maxRecDepth 100000
set_option linter.unusedSimpArgs false
set_option linter.unusedVariables false

theorem lightB_is {many : Int} {L : List PartV} (h : lightB many L = true) : ∃ m : Nat, many = m ∧ 1 ≤ m ∧ m ≤ 40 ∧ L.length ≤ 20 ∧ ∀ q (hq : q < L.length), L[q].l.length ≤ 1000 := by
  have h := of_decide_eq_true h
  exact ⟨many.toNat, by omega, by omega, by omega, h.2.2.1, h.2.2.2⟩
theorem find_len (S : Nat → Text) (m : Nat) : ∀ f at_ L, L.length ≤ at_ → (findV S m f at_ L).1.length ≤ (findV S m f at_ L).2 := by
  intro f
  induction f with
  | zero => intro at_ L h; exact h
  | succ f ih =>
    intro at_ L h
    cases hq : batchQ S m at_ (L.length + 1 : Nat) with
    | true =>
      rw [find_next hq]
      have := batch_in hq
      exact ih _ _ (by rw [List.length_append]; simp; omega)
    | false => rw [find_end hq]; exact h
theorem findT_len (S : Nat → Text) (m : Nat) : (findT S m).1.length ≤ (findT S m).2 := find_len S m _ _ _ (Nat.le_refl _)
/-- what a law's disk is -/
structure LawD (m : Nat) (d : DiskV) : Prop where
  many : d.many = m
  dead : d.dead = false
  set : d.set = false
  ok : OkD d
  wr : d.writes ≤ 1000
theorem laid_lawD {m : Nat} {P : List Text} (h64 : ∀ T ∈ P, T.length = 64) (hm : m ≤ 40) (hok : OkD (laidD m P (min m P.length))) : LawD m (laidD m P (min m P.length)) := by
  obtain ⟨a1, a2, a3, _, _, a6, _⟩ := laid_facts m P h64 (min m P.length) (Nat.min_le_left _ _) (Nat.min_le_right _ _)
  exact ⟨a1, a2, a3, hok, by rw [a6]; have := Nat.min_le_left m P.length; omega⟩
theorem lawP_len20 (L : List PartV) (h : L.length ≤ 20) (hl : ∀ q (hq : q < L.length), L[q].l.length ≤ 1000) : (lawP L).length ≤ 360 := by
  have := lawP_len L hl L.length (Nat.le_refl _)
  rw [List.take_length] at this
  omega
set_option maxHeartbeats 4000000 in
theorem scanWipes_any (many : Int) (L : List PartV) (A : Option Addr) (cap : Nat) (w : World) (hP : PartsAt w A L) :
    Calls Try.prog 4 #[.int .i64 many, .slice A L.length cap] w fun e w' => e = .returned (.bool true) ∧ Below w.heap.size w w' := by
  have HLi := Lib.hid (code_light many L A cap w hP)
  have HLv := Lib.hid scan_lives
  cases hq : lightB many L with
  | false =>
    rw [hq] at HLi
    clear hq hP
    go_enter Try.func4, Try.ntmps4
    go_wp2_with (first
      | (go_at_call 11; refine HLi.out.mono ?_; rintro e w1 ⟨rfl, hb1⟩; have HB1 := Lib.hid hb1; clear hb1)
      | (go_at_call 12; refine (HLv.out _).mono ?_; rintro e w2 ⟨rfl, hb2⟩; have HB2 := Lib.hid (below_then HB1.out hb2); clear hb2))
    go_ret
    exact ⟨rfl, HB2.out⟩
  | true =>
    rw [hq] at HLi
    obtain ⟨m, rfl, hm1, hm2, hL, hl⟩ := lightB_is hq
    have HP := Lib.hid hP
    have HM := Lib.hid (And.intro hm1 (And.intro hm2 (And.intro hL hl)))
    have H64 := Lib.hid (lawP_64 L)
    have HPl := Lib.hid (lawP_len20 L hL hl)
    clear hq hP hm1 hm2 hL hl
    obtain ⟨P, hPP⟩ : ∃ P, P = lawP L := ⟨_, rfl⟩
    have HPP := Lib.hid hPP
    rw [← hPP] at H64 HPl
    clear hPP
    go_enter Try.func4, Try.ntmps4
    go_wp2_with (first
      | (go_at_call 11; refine HLi.out.mono ?_; rintro e w1 ⟨rfl, hb1⟩; have HB1 := Lib.hid hb1; clear hb1; refine Stop.out ?_))
    unfold Stop
    have HPg : Hid (Calls Try.prog 14 #[.slice A L.length cap] w1 fun e w' => ∃ A2 c2, e = .returned (.slice A2 P.length c2) ∧ SecsAt w' A2 c2 P ∧ Below w1.heap.size w1 w') := Lib.hid (by
      refine (code_lpages L A cap w1 (HP.out.below HB1.out) HM.out.2.2.1 HM.out.2.2.2).mono ?_
      rintro e w' ⟨v, rfl, ho, _, hb⟩
      obtain ⟨A2, c2, rfl, hs⟩ := ho.secs
      rw [← HPP.out] at hs ⊢
      exact ⟨A2, c2, rfl, hs, hb⟩)
    go_wp2_with (first
      | (go_at_call 14; refine HPg.out.mono ?_; rintro e w2 ⟨A2, c2, rfl, hs2, hb2⟩; have HS2 := Lib.hid hs2; have HB2 := Lib.hid (below_then HB1.out hb2); clear hs2 hb2; refine Stop.out ?_))
    unfold Stop
    go_wp2_with (first
      | (go_at_call 13; refine (code_laid m P A2 c2 w2 HM.out.1 HM.out.2.1 (by have := HPl.out; omega) H64.out HS2.out).mono ?_; rintro e w3 ⟨B, bm, nn, g, c, tr, rfl, hd, hnn, _, hok, hB, hbm, _, _, hb3⟩; have HD3 := Lib.hid (And.intro hd (And.intro hnn hok)); have HBB := Lib.hid (And.intro (Nat.le_trans HB2.out.size hB) (Nat.le_trans HB2.out.size hbm)); have HB3 := Lib.hid (below_then HB2.out hb3); clear hd hnn hok hB hbm hb3; unfold spelt; refine Stop.out ?_))
    unfold Stop
    have HLw : Hid (LawD m (laidD m P (min m P.length))) := Lib.hid (laid_lawD H64.out HM.out.2.1 HD3.out.2.2)
    generalize laidD m P (min m P.length) = d at HD3 HLw ⊢
    have H6d : Hid (∀ i, i < d.many → (d.S i).length = 64) := Lib.hid (sec_64 HD3.out.1)
    obtain ⟨x, hx⟩ : ∃ x, x = findT d.S d.many := ⟨_, rfl⟩
    have HX := Lib.hid hx
    have HXt : Hid (x.2 ≤ d.many ∧ d.many ≤ 40) := Lib.hid ⟨by rw [hx]; exact findT_le _ _, by rw [HLw.out.many]; exact HM.out.2.1⟩
    clear hx
    obtain ⟨d2, q1, q2, q3, q4, q5, q6, q7, q8, q9⟩ := wiped_from (d := d) (tail := x.2) HLw.out.dead HLw.out.set H6d.out
    have HW2 := Lib.hid (And.intro q1 (And.intro q2 (And.intro q3 (And.intro q4 (And.intro q5 (And.intro q6 q7))))))
    have HFx : Hid (findT d2.S d2.many = x ∧ dirtyL d2.S x.2 d2.many = []) := Lib.hid (by
      rw [q2, HX.out]
      refine ⟨find_wiped (fun j hj => q8 j (by rw [HX.out]; exact hj) (Nat.lt_of_lt_of_le hj (findT_le _ _))) (fun j h1 h2 => q9 j (by rw [HX.out]; exact h1) h2), ?_⟩
      exact dirty_none (fun j h1 h2 => q9 j (by rw [HX.out]; exact h1) h2))
    have HOk2 : Hid (OkD d2 ∧ d2.writes ≤ 2000) := Lib.hid (by
      have h1 := HLw.out.ok
      have h2 := dirtyL_len d.S x.2 d.many
      have h3 := HXt.out.2
      have h4 := HLw.out.wr
      refine ⟨⟨by rw [q5]; exact h1.1, by rw [q5]; exact h1.2.1, by rw [q6]; exact h1.2.2.1, by rw [q6]; exact h1.2.2.2.1, ?_⟩, ?_⟩
      · rw [q7]; have := h1.2.2.2.2; omega
      · rw [q7]; omega)
    clear q1 q2 q3 q4 q5 q6 q7 q8 q9
    have HD3a : Hid (∀ o, Dsk (w3.alloc o) B bm nn d) := Lib.hid (fun o => HD3.out.1.below (below_alloc w3 o))
    have HFi : Hid (∀ W n, Dsk W B bm n d → Calls Try.prog 15 #[.pointer (some ⟨B, 0, none⟩)] W fun e w' => ∃ A4 c4, e = .returned (.tuple #[.slice A4 x.1.length c4, .int .i64 x.2, .int .i64 0]) ∧ SecsAt w' A4 c4 x.1 ∧ Below W.heap.size W w') := Lib.hid (fun W n h => by
      refine (code_find W B bm n d h HLw.out.dead).mono ?_
      rw [← HX.out]
      rintro e w' ⟨v, rfl, ho, hb⟩
      obtain ⟨A4, c4, rfl, hs⟩ := ho.secs
      exact ⟨A4, c4, rfl, hs, hb⟩)
    have HFi2 : Hid (∀ W n, Dsk W B bm n d2 → Calls Try.prog 15 #[.pointer (some ⟨B, 0, none⟩)] W fun e w' => ∃ A4 c4, e = .returned (.tuple #[.slice A4 x.1.length c4, .int .i64 x.2, .int .i64 0]) ∧ SecsAt w' A4 c4 x.1 ∧ Below W.heap.size W w') := Lib.hid (fun W n h => by
      refine (code_find W B bm n d2 h HW2.out.2.2.1).mono ?_
      rw [HFx.out.1]
      rintro e w' ⟨v, rfl, ho, hb⟩
      obtain ⟨A4, c4, rfl, hs⟩ := ho.secs
      exact ⟨A4, c4, rfl, hs, hb⟩)
    have HXl : Hid (x.1.length ≤ 100000) := Lib.hid (by
      have h1 := findT_len d.S d.many
      rw [← HX.out] at h1
      have := HXt.out
      omega)
    have HWi : Hid (∀ W, Dsk W B bm nn d → Calls Try.prog 22 #[.pointer (some ⟨B, 0, none⟩), .int .i64 x.2] W fun e w' => ∃ k n5, e = .returned (.tuple #[.int .i64 (k : Nat), .int .i64 0]) ∧ Dsk w' B bm n5 d2 ∧ n5 ≤ 1000 ∧ ChgD W w' B bm) := Lib.hid (fun W h => by
      refine (code_wipe W B bm nn d x.2 h HLw.out.ok HLw.out.dead HXt.out.1 (by have := HD3.out.2.1; omega) (by have := HLw.out.wr; omega)).mono ?_
      rintro e w' ⟨rfl, ⟨n5, h1, h2⟩, h3⟩
      rw [HW2.out.1] at h1 ⊢
      exact ⟨_, n5, rfl, h1, by have h4 := HD3.out.2.1; have h5 := HXt.out.2; omega, h3⟩)
    have HWi2 : Hid (∀ W n, Dsk W B bm n d2 → n ≤ 1000 → Calls Try.prog 22 #[.pointer (some ⟨B, 0, none⟩), .int .i64 x.2] W fun e w' => ∃ n5, e = .returned (.tuple #[.int .i64 0, .int .i64 0]) ∧ Dsk w' B bm n5 d2 ∧ ChgD W w' B bm) := Lib.hid (fun W n h hn => by
      refine (code_wipe W B bm n d2 x.2 h HOk2.out.1 HW2.out.2.2.1 (by rw [HW2.out.2.1]; exact HXt.out.1) (by omega) (by have := HOk2.out.2; omega)).mono ?_
      rintro e w' ⟨rfl, ⟨n5, h1, _⟩, h3⟩
      rw [HFx.out.2] at h1 ⊢
      exact ⟨n5, rfl, h1, h3⟩)
    have HDi : Hid (∀ W n, Dsk W B bm n d2 → Calls Try.prog 17 #[.pointer (some ⟨B, 0, none⟩), .int .i64 x.2] W fun e w' => e = .returned (.tuple #[.int .i64 0, .int .i64 0]) ∧ Below W.heap.size W w') := Lib.hid (fun W n h => by
      have h1 := code_dirty W B bm n d2 x.2 h HW2.out.2.2.1 (by rw [HW2.out.2.1]; exact HXt.out.1)
      rw [HFx.out.2] at h1
      exact h1)
    generalize x.1 = X at HFi HFi2 HXl
    generalize hx2 : x.2 = x2 at HFi HFi2 HWi HWi2 HDi
    clear hx2 HLi HPg
    go_wp2_with (first
      | (go_at_call 15; refine (HFi.out _ nn (HD3a.out _)).mono ?_; rintro e w4 ⟨A4, c4, rfl, hs4, hb4⟩; have HS4 := Lib.hid hs4; have HD4 := Lib.hid ((HD3a.out _).below hb4); have HB4 := Lib.hid (below_then (below_then HB3.out (below_alloc w3 _)) hb4); clear hs4 hb4; refine Stop.out ?_))
    unfold Stop
    go_wp2_with (first
      | (go_at_call 22; refine (HWi.out _ HD4.out).mono ?_; rintro e w5 ⟨k, n5, rfl, hd5, hn5, hc5⟩; have HS5 := Lib.hid (HS4.out.chg HD4.out hc5); have HD5 := Lib.hid (And.intro hd5 hn5); have HB5 := Lib.hid (HB4.out.trans (hc5.below HB4.out.size HBB.out.1 HBB.out.2)); clear hd5 hn5 hc5; refine Stop.out ?_))
    unfold Stop
    go_wp2_with (first
      | (go_at_call 15; refine (HFi2.out _ n5 HD5.out.1).mono ?_; rintro e w6 ⟨A6, c6, rfl, hs6, hb6⟩; have HS6 := Lib.hid (And.intro (HS5.out.on hb6) hs6); have HD6 := Lib.hid (HD5.out.1.below hb6); have HB6 := Lib.hid (below_then HB5.out hb6); clear hs6 hb6; refine Stop.out ?_))
    unfold Stop
    go_wp2_with (first
      | (go_at_call 25; refine (code_writes _ B bm n5 d2 HD6.out).mono ?_; rintro e w7 ⟨rfl, rfl⟩; refine Stop.out ?_))
    unfold Stop
    go_wp2_with (first
      | (go_at_call 22; refine (HWi2.out _ n5 HD6.out HD5.out.2).mono ?_; rintro e w8 ⟨n8, rfl, hd8, hc8⟩; have HS8 := Lib.hid (And.intro (HS6.out.1.chg HD6.out hc8) (HS6.out.2.chg HD6.out hc8)); have HD8 := Lib.hid hd8; have HB8 := Lib.hid (HB6.out.trans (hc8.below HB6.out.size HBB.out.1 HBB.out.2)); clear hd8 hc8; refine Stop.out ?_))
    unfold Stop
    go_wp2_with (first
      | (go_at_call 17; refine (HDi.out _ n8 HD8.out).mono ?_; rintro e w9 ⟨rfl, hb9⟩; have HS9 := Lib.hid (And.intro (HS8.out.1.on hb9) (HS8.out.2.on hb9)); have HD9 := Lib.hid (HD8.out.below hb9); have HB9 := Lib.hid (below_then HB8.out hb9); clear hb9; refine Stop.out ?_))
    unfold Stop
    have hk0 : (0 : Int) ≤ (k : Int) := by omega
    go_wp2_with (first
      | (go_at_call 19; refine (code_lsame X A4 A6 c4 c6 _ HXl.out HS9.out.1 HS9.out.2).mono ?_; rintro e w10 ⟨rfl, hb10⟩; have HD10 := Lib.hid (HD9.out.below hb10); have HB10 := Lib.hid (below_then HB9.out hb10); clear hb10; refine Stop.out ?_))
    unfold Stop
    go_wp2_with (first
      | (go_at_call 25; refine (code_writes _ B bm n8 d2 HD10.out).mono ?_; rintro e w11 ⟨rfl, rfl⟩; refine Stop.out ?_))
    unfold Stop
    go_wp2_with (first
      | (go_at_call 12; refine (HLv.out _).mono ?_; rintro e w12 ⟨rfl, hb12⟩; have HB12 := Lib.hid (below_then HB10.out hb12); clear hb12))
    go_ret
    exact ⟨rfl, HB12.out⟩
end Go.Proofs.Ytfjejiapafdgeaa
