/- People in memory: what the map is good for. -/
import Derived.Test.YtgljajoknmgoeaaGreatUlP
import Derived.Maps.Own
import Derived.Maps.OwnOps
import Derived.Maps.OwnSet
import Derived.Maps.Views
namespace Go.Proofs.YtgljajoknmgoeaaGreat
open Go.RowKit
set_option maxRecDepth 100000

/-- a line as a value -/
def lnP (B : Nat) : Value := .agg #[.pointer (some ⟨B, 0, none⟩)]
def lnN : Value := .agg #[.pointer none]
/-- how a line's pointer reads -/
def ptrR (v : Value) : Option (DataW Unit × List MemPlace) :=
  match v with
  | .pointer none => some (.lit (.int .i64 (-1)), [])
  | .pointer (some ⟨B, 0, none⟩) => some (.lit (.int .i64 (B : Int)), [])
  | _ => none
theorem ptrR_inv {v : Value} {n : Int} {ps : List MemPlace} (h : ptrR v = some (.lit (.int .i64 n), ps)) : (n = -1 ∧ v = .pointer none) ∨ (∃ B : Nat, n = (B : Int) ∧ v = .pointer (some ⟨B, 0, none⟩)) := by
  unfold ptrR at h
  split at h
  · simp only [Option.some.injEq, Prod.mk.injEq, DataW.lit.injEq, Lit.int.injEq, true_and] at h
    exact .inl ⟨h.1.symm, rfl⟩
  · rename_i B
    simp only [Option.some.injEq, Prod.mk.injEq, DataW.lit.injEq, Lit.int.injEq, true_and] at h
    exact .inr ⟨B, h.1.symm, rfl⟩
  · cases h
/-- how a line reads -/
def cellsR (l : List Value) : Option (DataW Unit × List MemPlace) :=
  match l with
  | [x] => ptrR x
  | _ => none
def lnR (v : Value) : Option (DataW Unit × List MemPlace) :=
  match v with
  | .agg cs => cellsR cs.toList
  | _ => none
theorem lnR_inv {v : Value} {n : Int} {ps : List MemPlace} (h : lnR v = some (.lit (.int .i64 n), ps)) : (n = -1 ∧ v = lnN) ∨ (∃ B : Nat, n = (B : Int) ∧ v = lnP B) := by
  unfold lnR at h
  split at h
  · rename_i cs
    obtain ⟨l⟩ := cs
    simp only at h
    unfold cellsR at h
    split at h
    · rcases ptrR_inv h with ⟨a, b⟩ | ⟨B, a, b⟩
      · subst b
        exact .inl ⟨a, rfl⟩
      · subst b
        exact .inr ⟨B, a, rfl⟩
    · cases h
  · cases h
/-- which line belongs to a name, and what stands on it -/
abbrev Lns := ByteArray → Option (Nat × List Sp)
def idOf (x : Option (Nat × List Sp)) : Int := match x with | none => -1 | some y => (y.1 : Int)
def okKey (s : ByteArray) : Prop := s.size ≤ 1000
def keyL (s : ByteArray) : Lit := .string s.data.toList
theorem strKey : Maps.Keyed Tryz.prog 9 := Maps.string_keyed Tryz.underlying9
theorem keyOk {s : ByteArray} (h : okKey s) : keyOf Tryz.prog 9 (.string s) = some (keyL s) := by
  have hm : s.size ≤ maxLen := by unfold okKey at h; unfold maxLen; omega
  exact Go.WideMaps.keyOf_string_mk Tryz.underlying9 hm
theorem keyL_inj {s s' : ByteArray} (h : keyL s = keyL s') : s = s' := by
  obtain ⟨⟨x⟩⟩ := s
  obtain ⟨⟨y⟩⟩ := s'
  simp [keyL] at h
  rw [h]
def PpD (D : DataW Unit) (F : Lns) : Prop := (∀ s, okKey s → D.atKey (keyL s) (.lit (.int .i64 (-1))) = .lit (.int .i64 (idOf (F s))) ∧ Maps.has D (keyL s) = (F s).isSome) ∧ (∀ kl, Maps.has D kl = true → ∃ s, okKey s ∧ kl = keyL s)
/-- the map of lines -/
def PmAt (w : World) (base bm n : Nat) (F : Lns) : Prop :=
  (∃ D, w.ownsMap Tryz.prog 9 lnR bm n D ∧ PpD D F) ∧
  (∀ s B L, F s = some (B, L) → Lin w B 256 L ∧ base ≤ B ∧ okKey s) ∧ (∀ s s' B L L', F s = some (B, L) → F s' = some (B, L') → s = s') ∧ base ≤ bm ∧ base ≤ w.heap.size
open Classical in
/-- one line set in the place of another one -/
noncomputable def upd (F : Lns) (s : ByteArray) (x : Option (Nat × List Sp)) : Lns := fun s' => if s' = s then x else F s'
theorem upd_same {F : Lns} {s : ByteArray} {x : Option (Nat × List Sp)} : upd F s x s = x := by
  unfold upd
  rw [if_pos rfl]
theorem upd_other {F : Lns} {s s' : ByteArray} {x : Option (Nat × List Sp)} (h : ¬ s' = s) : upd F s x s' = F s' := by
  unfold upd
  rw [if_neg h]
theorem upd_line {F : Lns} {s s' : ByteArray} {B B' : Nat} {L L2 L' : List Sp} (hf : F s = some (B, L)) (h : upd F s (some (B, L2)) s' = some (B', L')) : ∃ L'', F s' = some (B', L'') := by
  by_cases hs : s' = s
  · obtain rfl := hs
    rw [upd_same] at h
    injection h with h
    injection h with h1 h2
    subst h1
    exact ⟨L, hf⟩
  · rw [upd_other hs] at h
    exact ⟨L', h⟩
theorem upd_idem {F : Lns} {s : ByteArray} {x y : Option (Nat × List Sp)} : upd (upd F s x) s y = upd F s y := by
  funext s'
  by_cases h : s' = s
  · obtain rfl := h
    rw [upd_same, upd_same]
  · rw [upd_other h, upd_other h, upd_other h]
theorem upd_self {F : Lns} {s : ByteArray} {x : Option (Nat × List Sp)} (h : F s = x) : upd F s x = F := by
  funext s'
  by_cases e : s' = s
  · obtain rfl := e
    rw [upd_same, h]
  · rw [upd_other e]
section
variable {w w' : World} {base bm n : Nat} {F : Lns}
theorem PmAt.bmlt (h : PmAt w base bm n F) : bm < w.heap.size := let ⟨⟨_, h2, _⟩, _⟩ := h; h2.lt
theorem PmAt.on (h : PmAt w base bm n F) (hb : Below w.heap.size w w') : PmAt w' base bm n F := by
  obtain ⟨⟨D, h2, h3⟩, h4, h5, h7, h8⟩ := h
  exact ⟨⟨D, h2.kept (row := none) ⟨hb.os, hb.tape, hb.output, hb.size, fun k hk _ => hb.block k hk⟩ (by simp), h3⟩, fun s B L e => ⟨(h4 s B L e).1.on hb, (h4 s B L e).2⟩, h5, h7, Nat.le_trans h8 hb.size⟩
theorem PmAt.mono (h : PmAt w base bm n F) {m : Nat} (hm : n ≤ m) : PmAt w base bm m F := by
  obtain ⟨⟨D, h2, h3⟩, h4⟩ := h
  exact ⟨⟨D, h2.mono hm, h3⟩, h4⟩
theorem Lin.ne_map {B : Nat} {L : List Sp} (h : PmAt w base bm n F) (hl : Lin w B 256 L) : bm ≠ B := by
  obtain ⟨A, c, hg, _⟩ := hl
  obtain ⟨⟨D, h2, _⟩, _⟩ := h
  obtain ⟨es, clock, hb, _⟩ := h2
  intro e
  rw [e, hg] at hb
  injection hb with hb
  cases hb
theorem Chg.grown {B : Nat} (h : Chg w w' B) : w.grownBy w' (some B) := ⟨h.os, h.tape, h.output, h.size, fun k hk hne => h.block k hk (fun e => hne (by rw [e]))⟩
/-- a line that is not among them was turned -/
theorem PmAt.chgNo {B : Nat} {L : List Sp} (h : PmAt w base bm n F) (hl : Lin w B 256 L) (hn : ∀ s L', F s ≠ some (B, L')) (hc : Chg w w' B) : PmAt w' base bm n F := by
  have e2 := Lin.ne_map h hl
  obtain ⟨⟨D, h2, h3⟩, h4, h5, h7, h8⟩ := h
  refine ⟨⟨D, h2.kept hc.grown (by simpa using e2), h3⟩, fun s B' L' e => ⟨(h4 s B' L' e).1.chg hl hc (fun e' => hn s L' (by rw [e, e'])), (h4 s B' L' e).2⟩, h5, h7, Nat.le_trans h8 hc.size⟩
/-- one of them was turned -/
theorem PmAt.chgOne {B : Nat} {L L2 : List Sp} {s : ByteArray} (h : PmAt w base bm n F) (hf : F s = some (B, L)) (hc : Chg w w' B) (hl2 : Lin w' B 256 L2) : PmAt w' base bm n (upd F s (some (B, L2))) := by
  have hl := (h.2.1 s B L hf).1
  have e2 := Lin.ne_map h hl
  obtain ⟨⟨D, h2, h3⟩, h4, h5, h7, h8⟩ := h
  refine ⟨⟨D, h2.kept hc.grown (by simpa using e2), fun s' hk => ?_, h3.2⟩, fun s' B' L' e => ?_, fun s1 s2 B' L1 L2' a b => ?_, h7, Nat.le_trans h8 hc.size⟩
  · by_cases hs : s' = s
    · obtain rfl := hs
      rw [upd_same]
      have := h3.1 s' hk
      rw [hf] at this
      exact this
    · rw [upd_other hs]
      exact h3.1 s' hk
  · by_cases hs : s' = s
    · obtain rfl := hs
      rw [upd_same] at e
      injection e with e
      injection e with ea eb
      subst ea eb
      exact ⟨hl2, (h4 s' B L hf).2⟩
    · rw [upd_other hs] at e
      refine ⟨(h4 s' B' L' e).1.chg hl hc (fun e' => ?_), (h4 s' B' L' e).2⟩
      subst e'
      exact hs (h5 s' s B' L' L e hf)
  · obtain ⟨M1, a'⟩ := upd_line hf a
    obtain ⟨M2, b'⟩ := upd_line hf b
    exact h5 s1 s2 B' M1 M2 a' b'
/-- a line stands when a map is written -/
theorem Lin.map_kept {B most : Nat} {L : List Sp} (h : PmAt w base bm n F) (hblk : ∀ k, k ≠ bm → w'.heap[k]? = w.heap[k]?) (hsz : w.heap.size ≤ w'.heap.size) (hl : Lin w B most L) : Lin w' B most L := by
  obtain ⟨⟨D, h2, _⟩, _⟩ := h
  obtain ⟨A, cc, g0, g1, g2⟩ := hl
  have hne : B ≠ bm := fun e => by
    obtain ⟨es, clock, hb, _⟩ := h2
    rw [← e, g0] at hb
    injection hb with hb
    cases hb
  refine ⟨A, cc, (hblk B hne).trans g0, fun hnn => ?_, g2⟩
  obtain ⟨b, o, ea, hb, hra⟩ := g1 hnn
  have hnb : b ≠ bm := fun e => by
    subst e
    obtain ⟨es, clock, hbm, _⟩ := h2
    have := hra _ _ (flat2_at L 0 (List.length_pos_iff.2 hnn)).2
    unfold World.cell? at this
    rw [hbm] at this
    simp at this
  exact ⟨b, o, ea, Nat.lt_of_lt_of_le hb hsz, fun j v hv => (World.cell?_of_block (hblk b hnb)).trans (hra j v hv)⟩
/-- a line put into the map -/
theorem PmAt.put {B : Nat} {L : List Sp} {s : ByteArray} (h : PmAt w base bm n F) (hn : n < maxLen) (hk : okKey s) (hl : Lin w B 256 L) (hB : base ≤ B) (hf : F s = some (B, L) ∨ (∀ s' L', F s' ≠ some (B, L'))) :
    ∃ w', (Instr.mapUpdate 56 (.map (some bm)) (.string s) (.agg #[.pointer (some ⟨B, 0, none⟩)])).run Tryz.prog w = .ok () w' ∧ PmAt w' base bm (n + 1) (upd F s (some (B, L))) ∧ w.grownBy w' (some bm) ∧ ∀ k, k ≠ bm → w'.heap[k]? = w.heap[k]? := by
  have hh := h
  obtain ⟨⟨D, h2, h3⟩, h4, h5, h7, h8⟩ := h
  obtain ⟨w', hr, h9, ht⟩ := h2.store strKey Tryz.underlying56 hn (keyOk hk) (show lnR (.agg #[.pointer (some ⟨B, 0, none⟩)]) = some (.lit (.int .i64 (B : Int)), []) from rfl)
  have hg := ht.grown
  have hblk : ∀ k, k ≠ bm → w'.heap[k]? = w.heap[k]? := fun k hkb => by
    obtain ⟨es, clock, es', clock', hb, rfl⟩ := ht
    exact Go.ChangeMaps.heap_setBlock_other hb _ hkb
  have keep : ∀ {B' : Nat} {L' : List Sp}, Lin w B' 256 L' → Lin w' B' 256 L' := fun {B' L'} hl' => hl'.map_kept hh hblk hg.size
  refine ⟨w', hr, ⟨⟨_, h9, fun s' hk' => ?_, fun kl hkl => ?_⟩, fun s' B' L' e => ?_, fun s1 s2 B' L1 L2 a b => ?_, h7, Nat.le_trans h8 hg.size⟩, hg, hblk⟩
  · by_cases hs : s' = s
    · obtain rfl := hs
      rw [upd_same]
      exact ⟨Maps.atKey_put_same h2.isMap (strKey.key (keyOk hk)) _ _, Maps.has_put_same h2.isMap (strKey.key (keyOk hk)) _⟩
    · rw [upd_other hs]
      have hne : keyL s' ≠ keyL s := fun e => hs (keyL_inj e)
      rw [Maps.atKey_put_other hne, Maps.has_put_other hne]
      exact h3.1 s' hk'
  · by_cases e : kl = keyL s
    · exact ⟨s, hk, e⟩
    · rw [Maps.has_put_other e] at hkl
      exact h3.2 kl hkl
  · by_cases hs : s' = s
    · obtain rfl := hs
      rw [upd_same] at e
      injection e with e
      injection e with ea eb
      subst ea eb
      exact ⟨keep hl, hB, hk⟩
    · rw [upd_other hs] at e
      exact ⟨keep (h4 s' B' L' e).1, (h4 s' B' L' e).2⟩
  · rcases hf with hf | hf
    · obtain ⟨M1, a'⟩ := upd_line hf a
      obtain ⟨M2, b'⟩ := upd_line hf b
      exact h5 s1 s2 B' M1 M2 a' b'
    · by_cases hs1 : s1 = s <;> by_cases hs2 : s2 = s
      · exact hs1.trans hs2.symm
      · obtain rfl := hs1
        rw [upd_same] at a
        rw [upd_other hs2] at b
        injection a with a
        injection a with a1 a2
        subst a1
        exact absurd b (hf _ _)
      · obtain rfl := hs2
        rw [upd_same] at b
        rw [upd_other hs1] at a
        injection b with b
        injection b with b1 b2
        subst b1
        exact absurd a (hf _ _)
      · rw [upd_other hs1] at a
        rw [upd_other hs2] at b
        exact h5 s1 s2 B' L1 L2 a b
/-- what a name's line is -/
def lnV (x : Option (Nat × List Sp)) : Value := match x with | none => lnN | some y => lnP y.1
def Ln (F : Lns) (s : ByteArray) : List Sp := match F s with | none => [] | some y => y.2
/-- looked up, with whether it is there -/
theorem PmAt.look {s : ByteArray} (h : PmAt w base bm n F) (hk : okKey s) (b : Bool) : (Instr.lookup 56 (.map (some bm)) (.string s) b).run Tryz.prog w = .ok (if b then .tuple #[lnV (F s), .bool (F s).isSome] else lnV (F s)) w := by
  obtain ⟨⟨D, h2, h3⟩, _⟩ := h
  obtain ⟨e1, e2⟩ := h3.1 s hk
  have hz : (zeroValue 54).run Tryz.prog w = .ok lnN w := by kernel_rfl
  have fin : ∀ {v : Value} {ps : List MemPlace}, lnR v = some (D.atKey (keyL s) (.lit (.int .i64 (-1))), ps) → v = lnV (F s) := by
    intro v ps hv
    rw [e1] at hv
    unfold idOf at hv
    cases hF : F s with
    | none =>
      rw [hF] at hv
      rcases lnR_inv hv with ⟨_, e⟩ | ⟨B, e, _⟩
      · exact e
      · exact absurd e (by show ¬ ((-1 : Int) = (B : Int)); omega)
    | some x =>
      rw [hF] at hv
      rcases lnR_inv hv with ⟨e, _⟩ | ⟨B, e, e'⟩
      · exact absurd e (by show ¬ ((x.1 : Int) = -1); omega)
      · have e3 : (x.1 : Int) = (B : Int) := e
        have : x.1 = B := by omega
        rw [e']
        show _ = lnP x.1
        rw [this]
  cases b with
  | true =>
    obtain ⟨v, ps, hr, hv⟩ := h2.look_ok strKey Tryz.underlying56 hz (show lnR lnN = some (.lit (.int .i64 (-1)), []) from rfl) (keyOk hk)
    rw [e2, fin hv] at hr
    exact hr
  | false =>
    obtain ⟨v, ps, hr, hv⟩ := h2.lookup strKey Tryz.underlying56 hz (show lnR lnN = some (.lit (.int .i64 (-1)), []) from rfl) (keyOk hk)
    rw [fin hv] at hr
    exact hr
end
end Go.Proofs.YtgljajoknmgoeaaGreat
