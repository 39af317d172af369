/- The statement on bytes that are read whole and written again, walked. -/
import Derived.Test.YtjcjnokpbhmmiaaBlobInv
import Derived.Test.YtjcjnokpbhmmiaaBlobBoth
namespace Go.Proofs.Ytjcjnokpbhmmiaa
open Go.RowKit
set_option maxRecDepth 100000

/-- a slice of whole numbers, as it lies -/
def Ints (w : World) (A : Option Addr) (L : List Int) : Prop :=
  ∀ i (h : i < L.length), ∃ a, A = some a ∧ a.block < w.heap.size ∧ w.cell? (a.add i) = some (.int .i64 L[i]) ∧ -9223372036854775808 ≤ L[i] ∧ L[i] ≤ 9223372036854775807
theorem Ints.below {w w' : World} {A : Option Addr} {L : List Int} (h : Ints w A L) (hb : Below w.heap.size w w') : Ints w' A L := fun i hi => by
  obtain ⟨a, e, hbl, hc, h1⟩ := h i hi
  exact ⟨a, e, Nat.lt_of_lt_of_le hbl hb.size, (hb.cell (by rw [add_block]; exact hbl)).trans hc, h1⟩

theorem rdr_only {w w' : World} {g k : Nat} {b : Bool} {rest : Text} (h : Rdr w g b rest) (ho : Only w w' k) (hk : g < k) : Rdr w' g b rest := by
  obtain ⟨A, c, h1, h2, h3, h4, h5, h6⟩ := h
  exact ⟨A, c, (ho.block g (heap_lt h1) (by omega)).trans h1, h2, h3, h4.only ho (fun a ha => by have := h6 a ha; omega), h5, h6⟩
theorem rdr_below {w w' : World} {g B : Nat} {b : Bool} {rest : Text} (h : Rdr w g b rest) (hb : Below B w w') (hk : g < B) : Rdr w' g b rest := by
  obtain ⟨A, c, h1, h2, h3, h4, h5, h6⟩ := h
  refine ⟨A, c, (hb.block g hk).trans h1, h2, h3, fun hn => ?_, h5, h6⟩
  obtain ⟨a, e, hl, hc⟩ := h4 hn
  refine ⟨a, e, Nat.lt_of_lt_of_le hl hb.size, fun i hi => ?_⟩
  have : (a.add i).block = a.block := add_block a i
  have h7 := h6 a e
  rw [World.cell?_of_block (w := w) (by rw [this]; exact hb.block _ (by omega))]
  exact hc i hi
theorem rdr_lt {w : World} {g : Nat} {b : Bool} {rest : Text} (h : Rdr w g b rest) : g < w.heap.size := by
  obtain ⟨A, c, h1, _⟩ := h
  exact heap_lt h1
theorem own_only {w w' : World} {B g n : Nat} {v : Value} {xs : List Value} (h : w.ownsRow B 5 1 v n xs) (ho : Only w w' g) (hg : g < B) : w'.ownsRow B 5 1 v n xs := by
  refine ⟨h.1, ?_⟩
  rcases h.2 with h0 | ⟨k, c, cur, rfl, a1, a2, a3⟩
  · exact .inl h0
  · exact .inr ⟨k, c, cur, rfl, a1, (ho.block k (heap_lt a2) (by omega)).trans a2, a3⟩
theorem wrt_only {w w' : World} {B g gw : Nat} {S : Option Text} {v : Value} (h : Wrt w B gw S v) (ho : Only w w' g) (hg : g < B) : Wrt w' B gw S v :=
  ⟨(ho.block gw h.lt (by have := h.2.1; omega)).trans h.1, h.2.1, own_only h.2.2.1 ho hg, h.2.2.2⟩

/-- what the statement has as it goes: a reader, and a writer of what was read -/
def OneI (w0 : World) (B g gw : Nat) (T : Text) (b : Bool) (rest : Text) (S : Option Text) (v : Value) (w : World) : Prop :=
  Rdr w g b rest ∧ g < B ∧ Wrt w B gw S v ∧ (b = false → ∃ J, S = some J ∧ J ++ rest = T) ∧ Below w0.heap.size w0 w ∧ w0.heap.size ≤ g ∧ B ≤ w.heap.size
/-- behind a reading call -/
def OneM (w0 : World) (B g gw : Nat) (T : Text) (b : Bool) (rest : Text) (S d : Option Text) (v : Value) (w : World) : Prop :=
  Rdr w g b rest ∧ g < B ∧ Wrt w B gw S v ∧ (b = false → ∃ J D, S = some J ∧ d = some D ∧ J ++ (D ++ rest) = T) ∧ Below w0.heap.size w0 w ∧ w0.heap.size ≤ g ∧ B ≤ w.heap.size
theorem one_read {w0 w w' : World} {B g gw : Nat} {T : Text} {b b' : Bool} {rest rest' : Text} {S d : Option Text} {v : Value} (h : OneI w0 B g gw T b rest S v w) (ho : Only w w' g) (hr : Rdr w' g b' rest')
    (hd : b' = false → b = false ∧ ∃ D, d = some D ∧ rest = D ++ rest') : OneM w0 B g gw T b' rest' S d v w' := by
  obtain ⟨h1, h2, h3, h4, h5, h6, h7⟩ := h
  refine ⟨hr, h2, wrt_only h3 ho h2, fun hb => ?_, h5.trans (ho.below h6 h5.size), h6, Nat.le_trans h7 ho.size⟩
  obtain ⟨e, D, e1, e2⟩ := hd hb
  obtain ⟨J, j1, j2⟩ := h4 e
  exact ⟨J, D, j1, e1, by rw [← e2]; exact j2⟩
theorem one_put {w0 w w' : World} {B g gw : Nat} {T : Text} {b : Bool} {rest : Text} {S d : Option Text} {v : Value} {e : Ending} (h : OneM w0 B g gw T b rest S d v w) (hp : Put w B gw S v d e w') :
    e = .returned (.pointer (some ⟨gw, 0, none⟩)) ∧ ∃ v', OneI w0 B g gw T b rest (nextS S d) v' w' := by
  obtain ⟨h1, h2, h3, h4, h5, h6, h7⟩ := h
  obtain ⟨rfl, v', p1, p2, p3⟩ := hp
  have hb := p2.below h3 h7
  refine ⟨rfl, v', rdr_below h1 hb h2, h2, p1, fun hb => ?_, h5.trans (hb.mono (by omega)), h6, Nat.le_trans h7 p2.size⟩
  obtain ⟨J, D, j1, j2, j3⟩ := h4 hb
  refine ⟨J ++ D, by rw [j1, j2]; rfl, by rw [List.append_assoc]; exact j3⟩

/-- the block of what is written, as it lies behind a reading call -/
theorem one_cells {w wo w2 : World} {g : Nat} {cs : Array Value} {t : TypeId} (hg : g < w.heap.size) (h : wo = w.alloc (.cells cs t)) (ho : Only wo w2 g) : w2.heap[w.heap.size]? = some (.cells cs t (0, 0)) := by
  subst h
  rw [ho.block w.heap.size (by simp) (by omega)]
  exact heap_alloc_new w _
theorem only_set {w wo w2 : World} {g i : Nat} {u : Value} {o : Obj} (h : wo = w.alloc o) (ho : Only wo w2 g) : Only w (w2.setCell ⟨w.heap.size, i, none⟩ u) g := by
  subst h
  refine ⟨ho.os, ho.tape, ho.output, Nat.le_trans (Nat.le_trans (by simp) ho.size) (by simp), fun k h1 h2 => ?_⟩
  rw [heap_setCell_other _ _ _ _ (by show k ≠ w.heap.size; omega), ho.block k (by simp; omega) h2]
  exact ((Below.refl w.heap.size w).alloc (Nat.le_refl _) o).block k h1

/-- which of the three it is -/
theorem kind3 (x : Int) : wrap64 ((IntKind.u64.wrap x).tmod 3) = 0 ∨ wrap64 ((IntKind.u64.wrap x).tmod 3) = 1 ∨ wrap64 ((IntKind.u64.wrap x).tmod 3) = 2 := by
  have h1 : IntKind.u64.wrap x = x % 18446744073709551616 := by simp [IntKind.wrap, IntKind.signed, IntKind.bits]
  rw [h1, Int.tmod_eq_emod_of_nonneg (by omega)]
  unfold wrap64
  omega
/-- a number read, in one form -/
theorem rnum_one (w : World) (g : Nat) (b : Bool) (rest : Text) (hr : Rdr w g b rest) :
    Calls Try.prog 11 #[.pointer (some ⟨g, 0, none⟩)] w fun e w' => ∃ n b' rest', e = .returned (.int .i64 n) ∧ (-9223372036854775808 ≤ n ∧ n ≤ 9223372036854775807) ∧ Hid (Rdr w' g b' rest' ∧ Only w w' g ∧ (b' = false → b = false ∧ ∃ D, docN n = some D ∧ rest = D ++ rest')) := by
  refine (code_rnum w g b rest hr).mono fun e w' h => ?_
  cases hn : numP rest with
  | none =>
    rw [hn] at h
    obtain ⟨h1, h2, h3⟩ := h
    exact ⟨0, true, [], h1, by omega, Lib.hid ⟨h2, h3, by simp⟩⟩
  | some p =>
    obtain ⟨n, r⟩ := p
    rw [hn] at h
    obtain ⟨h1, h2, h3⟩ := h
    obtain ⟨D, d1, d2, d3, d4⟩ := numP_back hn
    exact ⟨n, b, r, h1, by omega, Lib.hid ⟨h2, h3, fun hb => ⟨hb, D, d1, d2⟩⟩⟩
theorem rtext_one (w : World) (g : Nat) (b : Bool) (rest : Text) (hr : Rdr w g b rest) :
    Calls Try.prog 13 #[.pointer (some ⟨g, 0, none⟩)] w fun e w' => ∃ s b' rest', e = .returned (.string s) ∧ s.size ≤ 9223372036854775807 ∧ Hid (Rdr w' g b' rest' ∧ Only w w' g ∧ (b' = false → b = false ∧ ∃ D, docS s = some D ∧ rest = D ++ rest')) := by
  refine (code_rtext w g b rest hr).mono fun e w' h => ?_
  cases hn : textP rest with
  | none =>
    rw [hn] at h
    obtain ⟨h1, h2, h3⟩ := h
    exact ⟨{data:=#[]}, true, [], h1, by decide, Lib.hid ⟨h2, h3, by simp⟩⟩
  | some p =>
    obtain ⟨s, r⟩ := p
    rw [hn] at h
    obtain ⟨h1, h2, h3⟩ := h
    obtain ⟨D, d1, d2⟩ := textP_back hn
    refine ⟨s, b, r, h1, ?_, Lib.hid ⟨h2, h3, fun hb => ⟨hb, D, d1, d2⟩⟩⟩
    unfold docS at d1
    by_cases h0 : 65536 < s.size
    · rw [if_pos h0] at d1; cases d1
    · omega
theorem rflag_one (w : World) (g : Nat) (b : Bool) (rest : Text) (hr : Rdr w g b rest) :
    Calls Try.prog 15 #[.pointer (some ⟨g, 0, none⟩)] w fun e w' => ∃ f b' rest', e = .returned (.bool f) ∧ Hid (Rdr w' g b' rest' ∧ Only w w' g ∧ (b' = false → b = false ∧ ∃ D, some (flagT f) = some D ∧ rest = D ++ rest')) := by
  refine (code_rflag w g b rest hr).mono fun e w' h => ?_
  cases hn : flagP rest with
  | none =>
    rw [hn] at h
    obtain ⟨h1, h2, h3⟩ := h
    exact ⟨false, true, [], h1, Lib.hid ⟨h2, h3, by simp⟩⟩
  | some p =>
    obtain ⟨f, r⟩ := p
    rw [hn] at h
    obtain ⟨h1, h2, h3⟩ := h
    exact ⟨f, b, r, h1, Lib.hid ⟨h2, h3, fun hb => ⟨hb, _, rfl, flagP_back hn⟩⟩⟩
end Go.Proofs.Ytjcjnokpbhmmiaa
