/- Rates in memory: a map from a state and a category to a line. Rates in memory: what the map is good for. -/
import Derived.Test.YtlnpflfkkjcopaaRtV
import Derived.Test.YtlnpflfkkjcopaaTlP
import Derived.Test.YtlnpflfkkjcopaaLawEndB
import Derived.Maps.OwnSet
import Derived.DeepKeys4
namespace Go.Proofs.Ytlnpflfkkjcopaa
open Go.RowKit
set_option maxRecDepth 100000

abbrev tKey : TypeId := 90
def keyV (s : ByteArray) (c : Int) : Value := .agg #[.string s, .int .i64 c]
def keyL (s : ByteArray) (c : Int) : Lit := .string (keyBytes [.string s.data.toList, .int .i64 c])
theorem keyRow : (90 : TypeId) < Try.prog.types.size := of_decide_eq_true (by kernel_rfl)
theorem keyWide : (match Try.prog.underlying 90 with | some (.array _ _) | some (.struct _) => true | _ => false) = true := by rw [Try.underlying90]
theorem keyR : Maps.Keyed Try.prog 90 := Maps.Keyed.of_law (deep_law_laid laidOut (m := 2) (by omega) keyRow (by kernel_rfl) keyWide)
theorem cellsKey : Try.prog.cellsOf 90 = 2 := by kernel_rfl
theorem cellsInt1 : Try.prog.cellsOf 3 = 1 := by kernel_rfl
theorem cellsStr1 : Try.prog.cellsOf 9 = 1 := by kernel_rfl
theorem keyOk (s : ByteArray) (c : Int) (hs : s.size ≤ 1000) (hc : 1 ≤ c ∧ c ≤ 3) : keyOf Try.prog 90 (keyV s c) = some (keyL s c) := by
  have hm : s.size ≤ maxLen := by unfold maxLen; omega
  have hw : (Lit.int .i64 c).wf = true := by simp [Lit.wf, IntKind.min, IntKind.max, IntKind.signed, IntKind.bits]; omega
  have h1 : Try.prog.keyType 90 = true := by kernel_rfl
  have h2 : (keyV s c).formed Try.prog 90 = true := by simp [keyV, Value.formed, Try.underlying90, cellsKey]
  obtain ⟨m, hm2⟩ := Nat.exists_eq_succ_of_ne_zero (Nat.ne_of_gt (Nat.lt_of_le_of_lt (Nat.zero_le _) keyRow))
  have h3 : Try.prog.keyLits (Try.prog.types.size + 1) 90 (keyV s c).cells.toList = some [.string s.data.toList, .int .i64 c] := by
    rw [hm2, Nat.succ_eq_add_one]
    simp [Program.keyLits, keyV, Value.cells, Try.underlying90, Try.underlying9, Try.underlying3, cellsKey, cellsInt1, cellsStr1, hm, hw]
  unfold keyOf
  rw [Try.underlying90]
  simp only [h1, h2, h3, Bool.and_self, if_true, Option.map_some]
  rfl
theorem keyL_ne {s s' : ByteArray} {c c' : Int} (hs : s.size ≤ 1000) (hs' : s'.size ≤ 1000) (hc : 1 ≤ c ∧ c ≤ 3) (hc' : 1 ≤ c' ∧ c' ≤ 3) (hne : ¬ (s = s' ∧ c = c')) : keyL s c ≠ keyL s' c' := fun e => by
  have h1 := keyOk s c hs hc
  have h2 := keyOk s' c' hs' hc'
  rw [← e] at h2
  have := keyR.inj h1 h2
  unfold keyV at this
  injection this with this
  injection this with this
  simp only [List.cons.injEq, Value.string.injEq, Value.int.injEq, and_true, true_and] at this
  exact hne this
end Go.Proofs.Ytlnpflfkkjcopaa

namespace Go.Proofs.Ytlnpflfkkjcopaa
open Go.RowKit
set_option maxRecDepth 100000

/-- how a line's pointer reads -/
def ptrR (v : Value) : Option (DataW Unit × List MemPlace) :=
  match v with
  | .pointer none => some (.lit (.int .i64 (-1)), [])
  | .pointer (some ⟨B, 0, none⟩) => some (.lit (.int .i64 (B : Int)), [])
  | _ => none
theorem ptrR_inv {v : Value} {n : Int} {ps : List MemPlace} (h : ptrR v = some (.lit (.int .i64 n), ps)) : (n = -1 ∧ v = .pointer none) ∨ (∃ B : Nat, n = (B : Int) ∧ v = .pointer (some ⟨B, 0, none⟩)) := by
  unfold ptrR at h
  split at h
  · simp only [Option.some.injEq, Prod.mk.injEq, DataW.lit.injEq, Lit.int.injEq, true_and] at h
    exact .inl ⟨h.1.symm, rfl⟩
  · rename_i B
    simp only [Option.some.injEq, Prod.mk.injEq, DataW.lit.injEq, Lit.int.injEq, true_and] at h
    exact .inr ⟨B, h.1.symm, rfl⟩
  · cases h
/-- which line belongs to a state and a category, and what stands on it -/
abbrev Lns := ByteArray → Int → Option (Nat × List Sp)
def idOf (x : Option (Nat × List Sp)) : Int := match x with | none => -1 | some y => (y.1 : Int)
def okKey (s : ByteArray) (c : Int) : Prop := s.size ≤ 1000 ∧ 1 ≤ c ∧ c ≤ 3
def RtD (D : DataW Unit) (F : Lns) : Prop := (∀ s c, okKey s c → D.atKey (keyL s c) (.lit (.int .i64 (-1))) = .lit (.int .i64 (idOf (F s c))) ∧ Maps.has D (keyL s c) = (F s c).isSome) ∧ (∀ kl, Maps.has D kl = true → ∃ s c, okKey s c ∧ kl = keyL s c)
def RtAt (w : World) (base R bm n : Nat) (F : Lns) : Prop :=
  w.heap[R]? = some (.cells #[.map (some bm)] 71 (0, 0)) ∧ (∃ D, w.ownsMap Try.prog 90 ptrR bm n D ∧ RtD D F) ∧
  (∀ s c B L, F s c = some (B, L) → Lin w B 256 L ∧ base ≤ B ∧ okKey s c) ∧ (∀ s c s' c' B L L', F s c = some (B, L) → F s' c' = some (B, L') → s = s' ∧ c = c') ∧ base ≤ R ∧ base ≤ bm ∧ base ≤ w.heap.size
open Classical in
/-- one line set in the place of another one -/
noncomputable def upd (F : Lns) (s : ByteArray) (c : Int) (x : Option (Nat × List Sp)) : Lns := fun s' c' => if s' = s ∧ c' = c then x else F s' c'
theorem upd_same {F : Lns} {s : ByteArray} {c : Int} {x : Option (Nat × List Sp)} : upd F s c x s c = x := by
  unfold upd
  rw [if_pos ⟨rfl, rfl⟩]
theorem upd_other {F : Lns} {s s' : ByteArray} {c c' : Int} {x : Option (Nat × List Sp)} (h : ¬ (s' = s ∧ c' = c)) : upd F s c x s' c' = F s' c' := by
  unfold upd
  rw [if_neg h]

theorem upd_line {F : Lns} {s s' : ByteArray} {c c' : Int} {B B' : Nat} {L L2 L' : List Sp} (hf : F s c = some (B, L)) (h : upd F s c (some (B, L2)) s' c' = some (B', L')) : ∃ L'', F s' c' = some (B', L'') := by
  by_cases hs : s' = s ∧ c' = c
  · obtain ⟨rfl, rfl⟩ := hs
    rw [upd_same] at h
    injection h with h
    injection h with h1 h2
    subst h1
    exact ⟨L, hf⟩
  · rw [upd_other hs] at h
    exact ⟨L', h⟩
section
variable {w w' : World} {base R bm n : Nat} {F : Lns}
theorem RtAt.bmlt (h : RtAt w base R bm n F) : bm < w.heap.size := let ⟨_, ⟨_, h2, _⟩, _⟩ := h; h2.lt
theorem RtAt.on (h : RtAt w base R bm n F) (hb : Below w.heap.size w w') : RtAt w' base R bm n F := by
  obtain ⟨h1, ⟨D, h2, h3⟩, h4, h5, h6, h7, h8⟩ := h
  exact ⟨heap_on hb h1, ⟨D, h2.kept (row := none) ⟨hb.os, hb.tape, hb.output, hb.size, fun k hk _ => hb.block k hk⟩ (by simp), h3⟩, fun s c B L e => ⟨(h4 s c B L e).1.on hb, (h4 s c B L e).2⟩, h5, h6, h7, Nat.le_trans h8 hb.size⟩
theorem RtAt.mono (h : RtAt w base R bm n F) {m : Nat} (hm : n ≤ m) : RtAt w base R bm m F := by
  obtain ⟨h1, ⟨D, h2, h3⟩, h4⟩ := h
  exact ⟨h1, ⟨D, h2.mono hm, h3⟩, h4⟩
theorem Lin.ne_rates {B : Nat} {L : List Sp} (h : RtAt w base R bm n F) (hl : Lin w B 256 L) : R ≠ B ∧ bm ≠ B := by
  obtain ⟨A, c, hg, _⟩ := hl
  obtain ⟨h1, ⟨D, h2, _⟩, _⟩ := h
  obtain ⟨es, clock, hb, _⟩ := h2
  refine ⟨fun e => ?_, fun e => ?_⟩
  · rw [e, hg] at h1
    injection h1 with h1
    injection h1 with h1
    have := congrArg Array.size h1
    simp at this
  · rw [e, hg] at hb
    injection hb with hb
    cases hb
theorem Chg.grown {B : Nat} (h : Chg w w' B) : w.grownBy w' (some B) := ⟨h.os, h.tape, h.output, h.size, fun k hk hne => h.block k hk (fun e => hne (by rw [e]))⟩
/-- a line that is not among them was turned -/
theorem RtAt.chgNo {B : Nat} {L : List Sp} (h : RtAt w base R bm n F) (hl : Lin w B 256 L) (hn : ∀ s c L', F s c ≠ some (B, L')) (hc : Chg w w' B) : RtAt w' base R bm n F := by
  obtain ⟨e1, e2⟩ := Lin.ne_rates h hl
  obtain ⟨h1, ⟨D, h2, h3⟩, h4, h5, h6, h7, h8⟩ := h
  refine ⟨hc.heap h1 e1, ⟨D, h2.kept hc.grown (by simpa using e2), h3⟩, fun s c B' L' e => ⟨(h4 s c B' L' e).1.chg hl hc (fun e' => hn s c L' (by rw [e, e'])), (h4 s c B' L' e).2⟩, h5, h6, h7, Nat.le_trans h8 hc.size⟩
/-- one of them was turned -/
theorem RtAt.chgOne {B : Nat} {L L2 : List Sp} {s : ByteArray} {c : Int} (h : RtAt w base R bm n F) (hf : F s c = some (B, L)) (hc : Chg w w' B) (hl2 : Lin w' B 256 L2) : RtAt w' base R bm n (upd F s c (some (B, L2))) := by
  have hl := (h.2.2.1 s c B L hf).1
  obtain ⟨e1, e2⟩ := Lin.ne_rates h hl
  obtain ⟨h1, ⟨D, h2, h3⟩, h4, h5, h6, h7, h8⟩ := h
  refine ⟨hc.heap h1 e1, ⟨D, h2.kept hc.grown (by simpa using e2), fun s' c' hk => ?_, h3.2⟩, fun s' c' B' L' e => ?_, fun s1 c1 s2 c2 B' L1 L2' a b => ?_, h6, h7, Nat.le_trans h8 hc.size⟩
  · by_cases hs : s' = s ∧ c' = c
    · obtain ⟨rfl, rfl⟩ := hs
      rw [upd_same]
      have := h3.1 s' c' hk
      rw [hf] at this
      exact this
    · rw [upd_other hs]
      exact h3.1 s' c' hk
  · by_cases hs : s' = s ∧ c' = c
    · obtain ⟨rfl, rfl⟩ := hs
      rw [upd_same] at e
      injection e with e
      injection e with ea eb
      subst ea eb
      exact ⟨hl2, (h4 s' c' B L hf).2⟩
    · rw [upd_other hs] at e
      refine ⟨(h4 s' c' B' L' e).1.chg hl hc (fun e' => ?_), (h4 s' c' B' L' e).2⟩
      subst e'
      exact hs (h5 s' c' s c B' L' L e hf)
  · obtain ⟨M1, a'⟩ := upd_line hf a
    obtain ⟨M2, b'⟩ := upd_line hf b
    exact h5 s1 c1 s2 c2 B' M1 M2 a' b'
/-- a line put into the map -/
theorem RtAt.put {B : Nat} {L : List Sp} {s : ByteArray} {c : Int} (h : RtAt w base R bm n F) (hn : n < maxLen) (hk : okKey s c) (hl : Lin w B 256 L) (hB : base ≤ B) (hf : F s c = some (B, L) ∨ (∀ s' c' L', F s' c' ≠ some (B, L'))) :
    ∃ w', (Instr.mapUpdate 69 (.map (some bm)) (keyV s c) (.pointer (some ⟨B, 0, none⟩))).run Try.prog w = .ok () w' ∧ RtAt w' base R bm (n + 1) (upd F s c (some (B, L))) ∧ w.grownBy w' (some bm) ∧ ∀ k, k ≠ bm → w'.heap[k]? = w.heap[k]? := by
  obtain ⟨e1, e2⟩ := Lin.ne_rates h hl
  obtain ⟨h1, ⟨D, h2, h3⟩, h4, h5, h6, h7, h8⟩ := h
  obtain ⟨w', hr, h9, ht⟩ := h2.store keyR Try.underlying69 hn (keyOk s c hk.1 hk.2) (show ptrR (.pointer (some ⟨B, 0, none⟩)) = some (.lit (.int .i64 (B : Int)), []) from rfl)
  have hg := ht.grown
  have hblk : ∀ k, k ≠ bm → w'.heap[k]? = w.heap[k]? := fun k hkb => by
    obtain ⟨es, clock, es', clock', hb, rfl⟩ := ht
    exact Go.ChangeMaps.heap_setBlock_other hb _ hkb
  have hRb : R ≠ bm := fun e => by
    obtain ⟨es, clock, hb, _⟩ := h2
    rw [← e, h1] at hb
    injection hb with hb
    cases hb
  have hc : Chg w w' bm := ⟨hg.os, hg.tape, hg.output, hg.size, fun k _ hne => hblk k hne⟩
  have keep : ∀ {B' : Nat} {L' : List Sp}, Lin w B' 256 L' → Lin w' B' 256 L' := fun {B' L'} hl' => by
    obtain ⟨A, cc, g0, g1, g2⟩ := hl'
    have hne : B' ≠ bm := fun e => by
      obtain ⟨es, clock, hb, _⟩ := h2
      rw [← e, g0] at hb
      injection hb with hb
      cases hb
    refine ⟨A, cc, (hblk B' hne).trans g0, fun hnn => ?_, g2⟩
    obtain ⟨b, o, ea, hb, hra⟩ := g1 hnn
    have hnb : b ≠ bm := fun e => by
      subst e
      obtain ⟨es, clock, hbm, _⟩ := h2
      have h3' : 3 ≤ (flat L').length := by
        rw [flat_len]
        have := List.length_pos_iff.2 hnn
        omega
      have := hra 0 _ (List.getElem?_eq_getElem (by omega))
      unfold World.cell? at this
      rw [hbm] at this
      simp at this
    exact ⟨b, o, ea, Nat.lt_of_lt_of_le hb hg.size, fun j v hv => (World.cell?_of_block (hblk b hnb)).trans (hra j v hv)⟩
  refine ⟨w', hr, ⟨(hblk R hRb).trans h1, ⟨_, h9, fun s' c' hk' => ?_, fun kl hkl => ?_⟩, fun s' c' B' L' e => ?_, fun s1 c1 s2 c2 B' L1 L2 a b => ?_, h6, h7, Nat.le_trans h8 hg.size⟩, hg, hblk⟩
  · by_cases hs : s' = s ∧ c' = c
    · obtain ⟨rfl, rfl⟩ := hs
      rw [upd_same]
      exact ⟨Maps.atKey_put_same h2.isMap (keyR.key (keyOk s' c' hk.1 hk.2)) _ _, Maps.has_put_same h2.isMap (keyR.key (keyOk s' c' hk.1 hk.2)) _⟩
    · rw [upd_other hs]
      have hne := keyL_ne hk'.1 hk.1 hk'.2 hk.2 hs
      rw [Maps.atKey_put_other hne, Maps.has_put_other hne]
      exact h3.1 s' c' hk'
  · by_cases e : kl = keyL s c
    · exact ⟨s, c, hk, e⟩
    · rw [Maps.has_put_other e] at hkl
      exact h3.2 kl hkl
  · by_cases hs : s' = s ∧ c' = c
    · obtain ⟨rfl, rfl⟩ := hs
      rw [upd_same] at e
      injection e with e
      injection e with ea eb
      subst ea eb
      exact ⟨keep hl, hB, hk⟩
    · rw [upd_other hs] at e
      exact ⟨keep (h4 s' c' B' L' e).1, (h4 s' c' B' L' e).2⟩
  · rcases hf with hf | hf
    · obtain ⟨M1, a'⟩ := upd_line hf a
      obtain ⟨M2, b'⟩ := upd_line hf b
      exact h5 s1 c1 s2 c2 B' M1 M2 a' b'
    · by_cases hs1 : s1 = s ∧ c1 = c <;> by_cases hs2 : s2 = s ∧ c2 = c
      · exact ⟨hs1.1.trans hs2.1.symm, hs1.2.trans hs2.2.symm⟩
      · obtain ⟨rfl, rfl⟩ := hs1
        rw [upd_same] at a
        rw [upd_other hs2] at b
        injection a with a
        injection a with a1 a2
        subst a1
        exact absurd b (hf _ _ _)
      · obtain ⟨rfl, rfl⟩ := hs2
        rw [upd_same] at b
        rw [upd_other hs1] at a
        injection b with b
        injection b with b1 b2
        subst b1
        exact absurd a (hf _ _ _)
      · rw [upd_other hs1] at a
        rw [upd_other hs2] at b
        exact h5 s1 c1 s2 c2 B' L1 L2 a b
/-- looked up, with whether it is there -/
theorem RtAt.look {s : ByteArray} {c : Int} (h : RtAt w base R bm n F) (hk : okKey s c) (b : Bool) : ∃ v, (Instr.lookup 69 (.map (some bm)) (keyV s c) b).run Try.prog w = .ok (if b then .tuple #[v, .bool (F s c).isSome] else v) w ∧
    v = (match F s c with | none => .pointer none | some x => .pointer (some ⟨x.1, 0, none⟩)) := by
  obtain ⟨h1, ⟨D, h2, h3⟩, _⟩ := h
  obtain ⟨e1, e2⟩ := h3.1 s c hk
  have hz : (zeroValue 26).run Try.prog w = .ok (.pointer none) w := by kernel_rfl
  have fin : ∀ {v : Value} {ps : List MemPlace}, ptrR v = some (D.atKey (keyL s c) (.lit (.int .i64 (-1))), ps) → v = (match F s c with | none => .pointer none | some x => .pointer (some ⟨x.1, 0, none⟩)) := by
    intro v ps hv
    rw [e1] at hv
    unfold idOf at hv
    cases hF : F s c with
    | none =>
      rw [hF] at hv
      rcases ptrR_inv hv with ⟨_, e⟩ | ⟨B, e, _⟩
      · exact e
      · exact absurd e (by show ¬ ((-1 : Int) = (B : Int)); omega)
    | some x =>
      rw [hF] at hv
      rcases ptrR_inv hv with ⟨e, _⟩ | ⟨B, e, e'⟩
      · exact absurd e (by show ¬ ((x.1 : Int) = -1); omega)
      · have e3 : (x.1 : Int) = (B : Int) := e
        have : x.1 = B := by omega
        rw [e']
        show _ = Value.pointer (some ⟨x.1, 0, none⟩)
        rw [this]
  cases b with
  | true =>
    obtain ⟨v, ps, hr, hv⟩ := h2.look_ok keyR Try.underlying69 hz (show ptrR (.pointer none) = some (.lit (.int .i64 (-1)), []) from rfl) (keyOk s c hk.1 hk.2)
    refine ⟨v, ?_, fin hv⟩
    rw [e2] at hr
    exact hr
  | false =>
    obtain ⟨v, ps, hr, hv⟩ := h2.lookup keyR Try.underlying69 hz (show ptrR (.pointer none) = some (.lit (.int .i64 (-1)), []) from rfl) (keyOk s c hk.1 hk.2)
    exact ⟨v, hr, fin hv⟩
end
end Go.Proofs.Ytlnpflfkkjcopaa
