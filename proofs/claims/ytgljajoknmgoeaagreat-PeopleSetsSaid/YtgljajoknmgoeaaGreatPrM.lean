/- The document's people: the choice. -/
import Derived.Test.YtgljajoknmgoeaaGreatPrL
namespace Go.Proofs.YtgljajoknmgoeaaGreat
open Go.RowKit
set_option maxRecDepth 100000
attribute [local go_sem] Oper.semAt_some

theorem results_pp {fn : Func} {p q : Tmp} (h : fn.results = #[.cell p 35, .tmp q]) (tmps : Array Value) (W : World) (g : Nat) (a b c v : Value) (hp : tmps.getD p undef = .pointer (some ⟨g, 0, none⟩)) (hq : tmps.getD q undef = v) (hc : W.heap[g]? = some (.cells #[a, b, c] 35 (0, 0))) :
    (results fn tmps).run Tryz.prog W = .ok (.tuple #[.agg #[a, b, c], v]) W := by
  obtain ⟨c0, c1, c2⟩ := row3a hc
  have hp' : tmps[p]?.getD undef = .pointer (some ⟨g, 0, none⟩) := by simpa [Array.getD_eq_getD_getElem?] using hp
  have hq' : tmps[q]?.getD undef = v := by simpa [Array.getD_eq_getD_getElem?] using hq
  simp [results, h, hp', hq', go_sem, c0, c1, c2]
def pCells (home : ByteArray) (AO : Option Addr) (nO cO : Nat) (A : Option Addr) (n c : Nat) : Obj := .cells #[.string home, .slice AO nO cO, .slice A n c] 35 (0, 0)
/-- the call's own boxes: people, a span, what is handed back -/
def ChI (w : World) (home : ByteArray) (AO : Option Addr) (nO cO : Nat) (A : Option Addr) (n c : Nat) (f u x : Int) (W : World) : Prop :=
  W.heap[w.heap.size]? = some (pCells home AO nO cO A n c) ∧ W.heap[w.heap.size + 1]? = some (.cells #[.int .i64 f, .int .i64 u, .int .i64 x] 24 (0, 0)) ∧ W.heap[w.heap.size + 1 + 1]? = some (pCells { data := #[] } none 0 0 none 0 0) ∧ Below w.heap.size w W
theorem ChI.on {w W V : World} {home : ByteArray} {AO A : Option Addr} {nO cO n c : Nat} {f u x : Int} (h : ChI w home AO nO cO A n c f u x W) (hb : Below W.heap.size W V) : ChI w home AO nO cO A n c f u x V :=
  ⟨heap_on hb h.1, heap_on hb h.2.1, heap_on hb h.2.2.1, below_then h.2.2.2 hb⟩
theorem chI (w : World) (home : ByteArray) (AO : Option Addr) (nO cO : Nat) (A : Option Addr) (n c : Nat) (f u x : Int) :
    ChI w home AO nO cO A n c f u x (((w.alloc (.cells #[.string home, .slice AO nO cO, .slice A n c] 35)).alloc (.cells #[.int .i64 f, .int .i64 u, .int .i64 x] 24)).alloc (.cells #[.string { data := #[] }, .slice none 0 0, .slice none 0 0] 35)) := by
  have e1 := heap_alloc_new w (.cells #[.string home, .slice AO nO cO, .slice A n c] 35)
  have e2 := heap_alloc_new (w.alloc (.cells #[.string home, .slice AO nO cO, .slice A n c] 35)) (.cells #[.int .i64 f, .int .i64 u, .int .i64 x] 24)
  have e3 := heap_alloc_new ((w.alloc (.cells #[.string home, .slice AO nO cO, .slice A n c] 35)).alloc (.cells #[.int .i64 f, .int .i64 u, .int .i64 x] 24)) (.cells #[.string { data := #[] }, .slice none 0 0, .slice none 0 0] 35)
  simp only [World.size_alloc] at e2 e3
  exact ⟨heap_on (below_alloc _ _) (heap_on (below_alloc _ _) e1), heap_on (below_alloc _ _) e2, e3, below_then (below_alloc _ _) (below_then (below_alloc _ _) (below_alloc _ _))⟩
theorem frz {W : World} {g : Nat} {a b c : Value} {t : TypeId} (h : W.heap[g]? = some (.cells #[a, b, c] t (0, 0))) : W.frozen? ⟨g, 0, none⟩ = false ∧ W.frozen? ⟨g, 1, none⟩ = false ∧ W.frozen? ⟨g, 2, none⟩ = false :=
  ⟨frozen_of_row W g 0 _ _ h, frozen_of_row W g 1 _ _ h, frozen_of_row W g 2 _ _ h⟩
theorem set3 {W : World} {g : Nat} {a b c x y z : Value} {t : TypeId} (h : W.heap[g]? = some (.cells #[a, b, c] t (0, 0))) : (((W.setCell ⟨g, 0, none⟩ x).setCell ⟨g, 1, none⟩ y).setCell ⟨g, 2, none⟩ z).heap[g]? = some (.cells #[x, y, z] t (0, 0)) :=
  heap_setCell_same _ g 2 _ _ z (heap_setCell_same _ g 1 _ _ y (heap_setCell_same W g 0 _ _ x h))
theorem set3_other {W : World} {g k : Nat} {x y z : Value} (hk : k ≠ g) : (((W.setCell ⟨g, 0, none⟩ x).setCell ⟨g, 1, none⟩ y).setCell ⟨g, 2, none⟩ z).heap[k]? = W.heap[k]? := by
  rw [heap_setCell_other _ _ _ _ (by simpa using hk), heap_setCell_other _ _ _ _ (by simpa using hk), heap_setCell_other _ _ _ _ (by simpa using hk)]
theorem set3_below {w W : World} {b g : Nat} {x y z : Value} (h : Below b w W) (hg : b ≤ g) : Below b w (((W.setCell ⟨g, 0, none⟩ x).setCell ⟨g, 1, none⟩ y).setCell ⟨g, 2, none⟩ z) :=
  ((h.setCell (p := ⟨g, 0, none⟩) (by simpa using hg) _).setCell (p := ⟨g, 1, none⟩) (by simpa using hg) _).setCell (p := ⟨g, 2, none⟩) (by simpa using hg) _
/-- a row that lies in other blocks -/
theorem Row.others {w W : World} {A : Option Addr} {L : List Sp} {S : Nat → Prop} (h : Row w A L) (hA : L ≠ [] → ∀ a, A = some a → ¬ S a.block) (hs : w.heap.size ≤ W.heap.size) (k : ∀ i, ¬ S i → W.heap[i]? = w.heap[i]?) : Row W A L := fun hn => by
  obtain ⟨b, o, ea, hb, hr⟩ := h hn
  exact ⟨b, o, ea, Nat.lt_of_lt_of_le hb hs, fun j v hv => (World.cell?_of_block (k b (hA hn _ ea))).trans (hr j v hv)⟩
/-- a row of spans does not lie in a box of people -/
theorem Row.no_box {w : World} {A : Option Addr} {L : List Sp} {g : Nat} {a b c : Value} {t : TypeId} (h : Row w A L) (hg : w.heap[g]? = some (.cells #[a, b, c] t (0, 0))) (hb : ∀ i, b ≠ .int .i64 i) (hc : ∀ i, c ≠ .int .i64 i) (ha : ∀ i, a ≠ .int .i64 i) : L ≠ [] → ∀ q, A = some q → q.block ≠ g := fun hn q hq e => by
  obtain ⟨b0, o, ea, hb0, hr⟩ := h hn
  rw [hq] at ea
  injection ea with ea
  subst ea
  have e' : b0 = g := e
  subst e'
  have h0 := hr _ _ (flat_at L 0 (List.length_pos_iff.2 hn)).1
  rw [cell_of_row _ _ _ _ _ _ hg] at h0
  match o with
  | 0 => simp at h0; exact ha _ h0
  | 1 => simp at h0; exact hb _ h0
  | 2 => simp at h0; exact hc _ h0
  | k + 3 => simp at h0
def ChQ (w : World) (home : ByteArray) (OD : List Sp) (A : Option Addr) (n c : Nat) (f u x : Int) (e : Ending) (w' : World) : Prop :=
  ∃ A' c', e = .returned (.tuple #[.agg #[.string home, .slice A' (refL 256 OD (f, u, x)).length c', .slice A n c], .int .i64 (refE 256 OD f u)]) ∧ Row w' A' (refL 256 OD (f, u, x)) ∧ (A' = none → refL 256 OD (f, u, x) = []) ∧ Below w.heap.size w w'
set_option maxHeartbeats 1000000 in
theorem ref_choose (home : ByteArray) (AO : Option Addr) (cO : Nat) (OD : List Sp) (A : Option Addr) (n c : Nat) (f u x : Int) (w : World) (hr : Row w AO OD) (hn : AO = none → OD = []) (hl : OD.length ≤ 100) :
    Calls Tryz.prog 11 #[.agg #[.string home, .slice AO OD.length cO, .slice A n c], .agg #[.int .i64 f, .int .i64 u, .int .i64 x]] w (ChQ w home OD A n c f u x) := by
  have hI := chI w home AO OD.length cO A n c f u x
  obtain ⟨p0, p1, p2⟩ := row3a hI.1
  obtain ⟨s0, s1, s2⟩ := row3a hI.2.1
  have hs := ref_set _ AO cO 256 OD f u x (hr.on hI.2.2.2) hn hl
  unfold SetQ at hs
  have HS := Lib.hid hs
  clear hs
  have HI := Lib.hid hI
  clear hI
  have hE : refE 256 OD f u ≠ 0 → refL 256 OD (f, u, x) = OD := fun h => by unfold refL; rw [if_neg h]
  have HE := Lib.hid hE
  have HR := Lib.hid (And.intro hr hn)
  clear hE hr hn
  unfold ChQ
  generalize refE 256 OD f u = E at HS HE ⊢
  go_enter Tryz.func11, Tryz.ntmps11
  go_wp2_with (go_at_call 29; refine HS.out.mono ?_; rintro e w1 ⟨A2, c2, rfl, h1, h2, hb⟩; have HI1 := Lib.hid (HI.out.on hb); have HQ := Lib.hid (And.intro h1 h2); clear h1 h2 hb; refine Stop.out ?_)
  unfold Stop
  have hP := HI1.out.1
  have hT := HI1.out.2.2.1
  have hSp := HI1.out.2.1
  unfold pCells at hP hT
  clear p0 p1 p2 s0 s1 s2
  obtain ⟨p0, p1, p2⟩ := row3a hP
  obtain ⟨z0, z1, z2⟩ := frz hT
  obtain ⟨y0, y1, y2⟩ := frz hP
  have HP := Lib.hid (And.intro hP hT)
  obtain ⟨t0, t1, t2⟩ := row3a hT
  clear hP hT hSp
  have HZ : Hid (w.heap.size + 1 + 1 < w1.heap.size) := Lib.hid (block_lt_of_cell t0)
  by_cases hE0 : E = 0
  · subst hE0
    clear HS HE
    have b1 : Below w.heap.size w (w1.setCell ⟨w.heap.size, 1, none⟩ (.slice A2 (refL 256 OD (f, u, x)).length c2)) := HI1.out.2.2.2.setCell (p := ⟨w.heap.size, 1, none⟩) (by simp) _
    have hP2 := heap_setCell_same w1 w.heap.size 1 _ _ (.slice A2 (refL 256 OD (f, u, x)).length c2) HP.out.1
    have hT2 : (w1.setCell ⟨w.heap.size, 1, none⟩ (.slice A2 (refL 256 OD (f, u, x)).length c2)).heap[w.heap.size + 1 + 1]? = some (.cells #[.string { data := #[] }, .slice none 0 0, .slice none 0 0] 35 (0, 0)) := (heap_setCell_other _ _ _ _ (by simp; omega)).trans HP.out.2
    have HF := Lib.hid (And.intro b1 hT2)
    clear b1 hP2 hT2
    go_wp2
    refine bodyPost_ret (results_pp rfl _ _ (w.heap.size + 1 + 1) _ _ _ _ rfl rfl (set3 HF.out.2)) rfl ?_
    have nb := HQ.out.1.no_box HP.out.1 (by simp) (by simp) (by simp)
    have nt := HQ.out.1.no_box HP.out.2 (by simp) (by simp) (by simp)
    refine ⟨A2, c2, rfl, HQ.out.1.others (S := fun i => i = w.heap.size ∨ i = w.heap.size + 1 + 1) (fun hn q hq hs => hs.elim (nb hn q hq) (nt hn q hq)) (by simp) (fun i hi => ?_), HQ.out.2, set3_below HF.out.1 (by omega)⟩
    rw [set3_other (fun e => hi (.inr e)), heap_setCell_other _ _ _ _ (by simpa using fun e => hi (.inl e))]
  · have bE : (E == 0) = false := beq_false_of_ne hE0
    have HL := Lib.hid (HE.out hE0)
    clear HS HE
    go_wp2
    refine bodyPost_ret (results_pp rfl _ _ (w.heap.size + 1 + 1) _ _ _ _ rfl rfl (set3 HP.out.2)) rfl ?_
    rw [HL.out]
    have nt := (HR.out.1.on HI1.out.2.2.2).no_box HP.out.2 (by simp) (by simp) (by simp)
    refine ⟨AO, cO, rfl, (HR.out.1.on HI1.out.2.2.2).others (S := fun i => i = w.heap.size + 1 + 1) (fun hn q hq hs => nt hn q hq hs) (by simp) (fun i hi => set3_other hi), HR.out.2, set3_below HI1.out.2.2.2 (by omega)⟩
end Go.Proofs.YtgljajoknmgoeaaGreat
