/- A row of spans copied; one span put into a row of the call's own, where it belongs. -/
import Derived.Test.YtgljajoknmgoeaaUlF
import Derived.Lib.Overlaps
import Derived.Laws.Externs
import Derived.Laws.IdiomCopy
import Derived.Lib.AppendZerosOnto
import Derived.Lib.SliceRun
import Derived.Lib.Walk
import Derived.Shelf.Spec.SlicesInsertGrow
namespace Go.Proofs.Ytgljajoknmgoeaa
open Go.RowKit
set_option maxRecDepth 100000

abbrev ePart : TypeId := 98
abbrev tParts : TypeId := 73
theorem partFact : (Try.prog.info? 98).map (fun i => (i.zero, i.size, i.bytes)) = some (some (.agg #[.int .i64 0, .int .i64 0]), 2, 24) := by kernel_rfl
theorem flat2_one (L : List Sp) : ∀ v ∈ flat2 L, v.oneCell' = true := by
  intro v hv
  obtain ⟨p, _, hp⟩ := List.mem_flatMap.1 hv
  simp [flatP2] at hp
  rcases hp with rfl | rfl <;> rfl
/-- ALL IS READ BEFORE ANYTHING IS WRITTEN, at elements of three cells -/
theorem run_copy2 {P : Program} (w : World) (dT sT ty elem : TypeId) (b o dLen dCap : Nat) (a : Addr) (sLen sCap : Nat) (cs : List Value)
    (hu : P.underlying dT = some (.slice elem)) (hs : (P.info? elem).map (·.size) = some 2) (hn : cs.length = Nat.min sLen dLen * 2)
    (hsrc : ∀ j v, cs[j]? = some v → w.cell? (a.add j) = some v) (hc : ∀ j, j < cs.length → (w.cell? ⟨b, o + j, none⟩).isSome = true) (hf : ∀ j, j < cs.length → w.frozen? ⟨b, o + j, none⟩ = false) (h1 : ∀ v ∈ cs, v.oneCell' = true) :
    (Builtin.copy_ #[dT, sT] ty #[.slice (some ⟨b, o, none⟩) dLen dCap, .slice (some a) sLen sCap]).run P w = .ok (goInt (Nat.min sLen dLen)) (w.setCells b o cs) := by
  have hl := run_loadCells_list (P := P) w a cs hsrc
  have hst := run_storeCells_cells (P := P) b o cs 0 w (by simpa using hc) (by simpa using hf) h1
  cases hq : P.info? elem with
  | none => simp [hq] at hs
  | some i =>
    have hi : i.size = 2 := by simpa [hq] using hs
    simp [Builtin.copy_, run_underlying hu, Builtin.lenOf, Builtin.firstCells, sizeOf, typeInfo, hq, hi, ← hn, hl, hst]
theorem flat2_append (L M : List Sp) : flat2 (L ++ M) = flat2 L ++ flat2 M := List.flatMap_append
theorem flat2_drop (L : List Sp) : ∀ i, flat2 (L.drop i) = (flat2 L).drop (i * 2) := by
  induction L with
  | nil => intro i; simp [flat2]
  | cons p L ih =>
    intro i
    cases i with
    | zero => rfl
    | succ i =>
      have e : flat2 (p :: L) = flatP2 p ++ flat2 L := rfl
      rw [List.drop_succ_cons, ih, e, List.drop_append]
      have : (flatP2 p).length = 2 := rfl
      rw [show (flatP2 p).drop ((i + 1) * 2) = [] from List.drop_eq_nil_of_le (by omega), this, show (i + 1) * 2 - 2 = i * 2 by omega]
      rfl
theorem flat2_take (L : List Sp) : ∀ i, flat2 (L.take i) = (flat2 L).take (i * 2) := by
  induction L with
  | nil => intro i; simp [flat2]
  | cons p L ih =>
    intro i
    cases i with
    | zero => rfl
    | succ i =>
      have e : flat2 (p :: L) = flatP2 p ++ flat2 L := rfl
      have e2 : flat2 (p :: L.take i) = flatP2 p ++ flat2 (L.take i) := rfl
      rw [List.take_succ_cons, e2, ih, e, List.take_append]
      have : (flatP2 p).length = 2 := rfl
      rw [show (flatP2 p).take ((i + 1) * 2) = flatP2 p from List.take_of_length_le (by omega), this, show (i + 1) * 2 - 2 = i * 2 by omega]
/-- a row of the call's own -/
def OwnR (w : World) (base : Nat) (v : Value) (L : List Sp) : Prop := w.ownsRow base 98 2 v L.length (flat2 L)
theorem OwnR.on {w W : World} {B : Nat} {v : Value} {L : List Sp} (h : OwnR w B v L) (hb : Below w.heap.size w W) : OwnR W B v L :=
  World.ownsRow.kept (row := none) h ⟨hb.os, hb.tape, hb.output, hb.size, fun k hk _ => hb.block k hk⟩ (by
    rcases h.2 with ⟨rfl, _⟩ | ⟨g, c, cur, rfl, _⟩
    · exact .inl rfl
    · exact .inr (by simp [Value.ownBlock]))
theorem OwnR.form {w : World} {B : Nat} {v : Value} {L : List Sp} (h : OwnR w B v L) : ∃ A c, v = .slice A L.length c ∧ Row2 w A L ∧ L.length ≤ c ∧ c ≤ maxLen ∧ (A = none → L = [] ∧ c = 0) := by
  rcases h.2 with ⟨rfl, h0⟩ | ⟨g, c, cur, rfl, hB, hh, hc, hm, hcs, ht⟩
  · have : L = [] := List.eq_nil_of_length_eq_zero h0
    subst this
    exact ⟨none, 0, rfl, Row2.nil, Nat.le_refl _, Nat.zero_le _, fun _ => ⟨rfl, rfl⟩⟩
  · refine ⟨_, c, rfl, fun hn => ⟨g, 0, rfl, heapLt hh, fun j v hv => ?_⟩, hc, hm, fun e => by cases e⟩
    have := World.ownsRow.cells (g := g) h rfl j v hv
    rwa [Addr.add_mid] at this
set_option maxHeartbeats 1000000 in
theorem code_clone (A : Option Addr) (c : Nat) (L : List Sp) (w : World) (hr : Row2 w A L) (hn : A = none → L = [] ∧ c = 0) (hl : L.length ≤ 256) : Calls Try.prog 62 #[.slice A L.length c] w fun e w' => ∃ v, e = .returned v ∧ OwnR w' w.heap.size v L ∧ Below w.heap.size w w' := by
  obtain ⟨i0, hi, hz0, hz1, hz2⟩ := info_parts partFact
  have hq : ∀ (w : World) (a : Option Addr) (n c n' c' : Nat), (binOp .eql 73 (.slice a n c) (.slice none n' c')).run Try.prog w = .ok (.bool a.isNone) w := fun w a n c n' c' => Lib.run_eql_slice_nil w _ _ a n c n' c' Try.underlying73
  cases A with
  | none =>
    obtain ⟨rfl, rfl⟩ := hn rfl
    clear hr hn hl
    go_enter Try.func62, Try.ntmps62
    go_wp2
    go_ret
    exact ⟨_, rfl, World.ownsRow_nil _ _ _ _, Below.refl _ _⟩
  | some a =>
    have hnews : ∀ j u, (flat2 L)[j]? = some u → w.cell? (a.add j) = some u := fun j u hu => by
      have hne : L ≠ [] := by
        intro e; subst e; simp [flat2] at hu
      obtain ⟨b, o, e, _, hra⟩ := hr hne
      injection e with e
      subst e
      rw [Addr.add_mid]
      exact hra j u hu
    have HN : Hid (∀ X, ∀ j u, (flat2 L)[j]? = some u → (w.alloc X).cell? (a.add j) = some u) := Lib.hid (fun X j u hu => cell_on (below_alloc _ _) (hnews j u hu))
    have HO := Lib.hid (World.ownsRow_lit w (e := 98) (base := w.heap.size) (size := 2) #[] 0 (Nat.le_refl _) (by unfold maxLen; omega) rfl)
    have HL := Lib.hid (And.intro hl (And.intro (flat2_len L) (flat2_one L)))
    clear hr hn hnews hl
    go_enter Try.func62, Try.ntmps62
    go_wp2_with (at_builtin; refine wpList_append_own _ rfl _ _ 73 rfl w.heap.size 98 i0 _ 2 24 Try.underlying73 hi hz0 hz1 hz2 rfl (by decide) _ 0 [] rfl ?own a L.length c (flat2 L) rfl (by rw [HL.out.2.1]; omega) (HN.out _) HL.out.2.2 (by have := HL.out.1; unfold maxLen; omega) (by have := HL.out.1; omega) (by simp) ?_; (case own => exact HO.out); intro v' w' hown hg hv; have HV : Hid (OwnR w' w.heap.size v' L ∧ Below w.heap.size w w') := (Lib.hid ⟨by simpa [OwnR] using hown, (below_alloc w _).grown hg (by simp) (fun k hk => (HO.out.lt k hk).1)⟩); clear hown hg hv)
    go_ret
    exact ⟨_, rfl, HV.out.1, HV.out.2⟩
end Go.Proofs.Ytgljajoknmgoeaa
