/- People's map gone through, line by line. -/
import Derived.Test.YtgljajoknmgoeaaGreatPpI
import Derived.Maps.RangeWalk
namespace Go.Proofs.YtgljajoknmgoeaaGreat
open Go.RowKit
set_option maxRecDepth 100000

abbrev Ks := List ByteArray
/-- a map of lines being gone through: T was met -/
def Rng (w : World) (base bm n : Nat) (F : Lns) (r : Nat) (T : Ks) (cnt : Nat) : Prop :=
  PmAt w base bm n F ∧ (∃ (D : DataW Unit) (left : Lit → Bool), w.ranges Tryz.prog 9 lnR bm r n D left cnt ∧ PpD D F ∧ (∀ s, okKey s → (left (keyL s) = true ↔ ((F s).isSome = true ∧ s ∉ T))) ∧ (∀ kl, left kl = true → Maps.has D kl = true)) ∧
  T.Nodup ∧ ∀ t ∈ T, okKey t ∧ (F t).isSome = true
def KsOk (F : Lns) (T : Ks) : Prop := T.Nodup ∧ ∀ t ∈ T, okKey t ∧ (F t).isSome = true
theorem iter_of {w : World} {D : DataW Unit} {left : Lit → Bool} {bm r n cnt : Nat} (h : w.ranges Tryz.prog 9 lnR bm r n D left cnt) : ∃ a b c d, w.heap[r]? = some (.mapIter a b c d) := by
  obtain ⟨es, clock, since, seen, c0, _, _, _, _, hr, _⟩ := h
  exact ⟨_, _, _, _, hr⟩
/-- a line stands where an iterator was turned -/
theorem Lin.but {w w' : World} {B most r : Nat} {L : List Sp} (h : Lin w B most L) (hg : w.grownBy w' (some r)) {a : Option Nat} {b : Nat} {c : Array Nat} {d : Nat} (hr : w.heap[r]? = some (.mapIter a b c d)) : Lin w' B most L := by
  have hblk : ∀ k, k < w.heap.size → k ≠ r → w'.heap[k]? = w.heap[k]? := fun k hk hne => hg.block k hk (fun e => hne (by injection e))
  obtain ⟨A, cc, g0, g1, g2⟩ := h
  have hB : B ≠ r := fun e => by
    rw [e, hr] at g0
    injection g0 with g0
    cases g0
  refine ⟨A, cc, (hblk B (heapLt g0) hB).trans g0, fun hn => ?_, g2⟩
  obtain ⟨b2, o, ea, hb2, hra⟩ := g1 hn
  have hne : b2 ≠ r := fun e => by
    subst e
    have := hra _ _ (flat2_at L 0 (List.length_pos_iff.2 hn)).2
    unfold World.cell? at this
    rw [hr] at this
    simp at this
  exact ⟨b2, o, ea, Nat.lt_of_lt_of_le hb2 hg.size, fun j v hv => (World.cell?_of_block (hblk b2 hb2 hne)).trans (hra j v hv)⟩
/-- nothing but the iterator was turned -/
theorem PmAt.but {w w' : World} {base bm n r : Nat} {F : Lns} (h : PmAt w base bm n F) (hg : w.grownBy w' (some r)) {a : Option Nat} {b : Nat} {c : Array Nat} {d : Nat} (hr : w.heap[r]? = some (.mapIter a b c d)) : PmAt w' base bm n F := by
  obtain ⟨⟨D, h2, h3⟩, h4, h5, h7, h8⟩ := h
  have hb : bm ≠ r := fun e => by
    obtain ⟨es, clock, hb, _⟩ := h2
    rw [e, hr] at hb
    injection hb with hb
    cases hb
  exact ⟨⟨D, h2.kept hg (by simpa using hb), h3⟩, fun s B L e => ⟨(h4 s B L e).1.but hg hr, (h4 s B L e).2⟩, h5, h7, Nat.le_trans h8 hg.size⟩
theorem PpAt.but {w w' : World} {base P B0 bm n r : Nat} {h : ByteArray} {O : List Sp} {F : Lns} (H : PpAt w base P B0 bm n h O F) (hg : w.grownBy w' (some r)) {a : Option Nat} {b : Nat} {c : Array Nat} {d : Nat} (hr : w.heap[r]? = some (.mapIter a b c d)) : PpAt w' base P B0 bm n h O F := by
  have hP : P ≠ r := fun e => by
    have h1 := H.1
    rw [e, hr] at h1
    injection h1 with h1
    cases h1
  exact ⟨(hg.block P (heapLt H.1) (fun e => hP (by injection e))).trans H.1, H.2.1.but hg hr, H.2.2.1.but hg hr, H.2.2.2⟩
theorem Rng.on {w w' : World} {base bm n r cnt : Nat} {F : Lns} {T : Ks} (h : Rng w base bm n F r T cnt) (hb : Below w.heap.size w w') : Rng w' base bm n F r T cnt := by
  obtain ⟨h1, ⟨D, left, h2, h3⟩, h4⟩ := h
  exact ⟨h1.on hb, ⟨D, left, h2.kept (row := none) ⟨hb.os, hb.tape, hb.output, hb.size, fun k hk _ => hb.block k hk⟩ (by simp) (by simp), h3⟩, h4⟩
theorem Rng.left {w : World} {base bm n r cnt : Nat} {F : Lns} {T : Ks} (h : Rng w base bm n F r T cnt) : w.rangeLeft bm r = cnt := by
  obtain ⟨_, ⟨D, left, h2, _⟩, _⟩ := h
  exact h2.left_eq
theorem Rng.iter {w : World} {base bm n r cnt : Nat} {F : Lns} {T : Ks} (h : Rng w base bm n F r T cnt) : ∃ a b c d, w.heap[r]? = some (.mapIter a b c d) := by
  obtain ⟨_, ⟨D, left, h2, _⟩, _⟩ := h
  exact iter_of h2
theorem Rng.ks {w : World} {base bm n r cnt : Nat} {F : Lns} {T : Ks} (h : Rng w base bm n F r T cnt) : KsOk F T := h.2.2
theorem Rng.put {w w' : World} {base bm n r cnt b2 : Nat} {F : Lns} {T : Ks} (h : Rng w base bm n F r T cnt) (h1 : PmAt w' base bm n F) (hg : w.grownBy w' (some b2)) (hb : bm ≠ b2) (hr : r ≠ b2) : Rng w' base bm n F r T cnt := by
  obtain ⟨_, ⟨D, left, h2, h3⟩, h4⟩ := h
  exact ⟨h1, ⟨D, left, h2.kept hg (by simpa using hb) (by simpa using hr), h3⟩, h4⟩
section
variable {w : World} {ops : Array Oper} {rest : List Oper} {o : Oper} {a : Act} {Q : Exit → Act → World → Prop}
theorem wpList_range_pp (hg : o.guard = none) (m : Operand) (hop : o.op = Op.range 56 m) {base bm n : Nat} {F : Lns} (h : PmAt w base bm n F) (hm : a.eval m = .map (some bm))
    (hK : ∀ w' cnt, Rng w' base bm n F w.heap.size [] cnt → Below w.heap.size w w' → wpList Tryz.prog ops Q rest (a.put o.dst (.pointer (some ⟨w.heap.size, 0, none⟩))) w') :
    wpList Tryz.prog ops Q (o :: rest) a w := by
  have h0 := h
  obtain ⟨⟨D, h2, h3⟩, _⟩ := h
  refine wpList_range_own w hg m 56 hop 9 _ strKey Tryz.underlying56 lnR bm n D hm h2 fun w' r1 r2 r3 => ?_
  have hb : Below w.heap.size w w' := ⟨r2.os, r2.tape, r2.output, r2.size, fun k hk => r2.block k hk (by simp)⟩
  refine hK w' _ ⟨h0.on hb, ⟨D, _, r1, h3, fun s hk => ?_, fun kl h => h⟩, List.nodup_nil, fun t ht => absurd ht (by simp)⟩ hb
  rw [(h3.1 s hk).2]
  simp
theorem wpList_next_pp (hg : o.guard = none) (it : Operand) (b : Bool) (hop : o.op = Op.next it b) {base bm n r cnt : Nat} {F : Lns} {T : Ks} (h : Rng w base bm n F r T cnt) (hit : a.eval it = .pointer (some ⟨r, 0, none⟩)) (hb : b = false)
    (hDone : (∀ s, okKey s → (F s).isSome = true → s ∈ T) → wpList Tryz.prog ops Q rest (a.put o.dst (.tuple #[.bool false])) w)
    (hMore : ∀ s B L w' cnt', F s = some (B, L) → s ∉ T → okKey s → Rng w' base bm n F r (s :: T) cnt' → cnt' < cnt → w.grownBy w' (some r) → w'.heap.size = w.heap.size →
      (Instr.entry (.pointer (some ⟨r, 0, none⟩))).run Tryz.prog w' = .ok (.tuple #[.string s, .agg #[.pointer (some ⟨B, 0, none⟩)]]) w' → wpList Tryz.prog ops Q rest (a.put o.dst (.tuple #[.bool true, .string s, .agg #[.pointer (some ⟨B, 0, none⟩)]])) w') :
    wpList Tryz.prog ops Q (o :: rest) a w := by
  subst hb
  obtain ⟨h1, ⟨D, left, h2, h3, h4, h5⟩, h6, h7⟩ := h
  obtain ⟨i0, i1, i2, i3, hir⟩ := iter_of h2
  refine wpList_plain hg fun K' hK' => ?_
  unfold Oper.wp
  rcases h2.next strKey o.type with ⟨h0, hl, hrun⟩ | ⟨key, v, kl, y, w', cnt', hkey, hlk, hv, hat, hrun, hrg, hlt, hgr, hsz, hen⟩
  · simp [execOp, hop, hit, hrun, Result.andThen]
    refine hK' _ _ (hDone fun s hk hs => ?_)
    by_cases hT : s ∈ T
    · exact hT
    · have := (h4 s hk).2 ⟨hs, hT⟩
      rw [hl] at this
      cases this
  · obtain ⟨s, hk, rfl⟩ := h3.2 kl (h5 kl hlk)
    obtain rfl : key = .string s := strKey.inj hkey (keyOk hk)
    obtain ⟨hs, hT⟩ := (h4 s hk).1 hlk
    obtain ⟨⟨B, L⟩, hF⟩ := Option.isSome_iff_exists.1 hs
    have e1 := (h3.1 s hk).1
    rw [hat, hF] at e1
    obtain ⟨y1, ps⟩ := y
    have e1' : y1 = .lit (.int .i64 (B : Int)) := e1
    subst e1'
    have hvB : v = .agg #[.pointer (some ⟨B, 0, none⟩)] := by
      rcases lnR_inv hv with ⟨e, _⟩ | ⟨B', e, e'⟩
      · exact absurd e (by omega)
      · have : B = B' := by omega
        rw [e', this]
        rfl
    subst hvB
    simp [execOp, hop, hit, hrun, Result.andThen]
    refine hK' _ _ (hMore s B L w' cnt' hF hT hk ⟨h1.but hgr hir, ⟨D, _, hrg, h3, fun s' hk' => ?_, fun kl' h' => ?_⟩, List.nodup_cons.2 ⟨hT, h6⟩, fun t ht => ?_⟩ hlt hgr hsz hen)
    · by_cases hsc : s' = s
      · obtain rfl := hsc
        have := WideAt.sameKey_self (strKey.key (keyOk hk'))
        simp [this]
      · have hne : keyL s' ≠ keyL s := fun e => hsc (keyL_inj e)
        have hsk : (keyL s').sameKey (keyL s) = false := by
          cases h9 : (keyL s').sameKey (keyL s)
          · rfl
          · exact absurd (WideAt.sameKey_eq h9) hne
        have h10 := h4 s' hk'
        simp only [hsk, Bool.not_false, Bool.and_true, h10, List.mem_cons, not_or]
        constructor
        · rintro ⟨k1, k2⟩
          exact ⟨k1, hsc, k2⟩
        · rintro ⟨k1, _, k2⟩
          exact ⟨k1, k2⟩
    · rw [Bool.and_eq_true] at h'
      exact h5 kl' h'.1
    · rcases List.mem_cons.1 ht with rfl | ht
      · exact ⟨hk, hs⟩
      · exact h7 t ht
end
end Go.Proofs.YtgljajoknmgoeaaGreat
