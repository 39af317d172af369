/- Documents that are there: what the map of documents is good for. -/
import Derived.Test.YtjanhgekocpobaaDocM
import Derived.Maps.Own
import Derived.Maps.OwnOps
import Derived.Maps.OwnSet
import Derived.Maps.Views
namespace Go.Proofs.Ytjanhgekocpobaa
open Go.RowKit
set_option maxRecDepth 100000

/-- a document as a value -/
def docC (d : DocV) : List Value := [.string d.id, .bool d.sale, .bool d.credit, .string d.refers, .int .i64 d.day, .string d.country, .string d.number, .string d.currency, .slice d.linesA d.lines.length d.linesC]
def docVal (d : DocV) : Value := .agg (docC d).toArray
def docZ : DocV := ⟨⟨#[]⟩, false, false, ⟨#[]⟩, 0, ⟨#[]⟩, ⟨#[]⟩, ⟨#[]⟩, none, [], 0⟩
def adrL : Option Addr → Option (List (DataW Unit))
  | none => some [.lit (.int .i64 (-1)), .lit (.int .i64 0)]
  | some ⟨b, o, none⟩ => some [.lit (.int .i64 (b : Nat)), .lit (.int .i64 (o : Nat))]
  | _ => none
theorem adrL_inv {A B : Option Addr} {x : List (DataW Unit)} (h : adrL A = some x) (h' : adrL B = some x) : A = B := by
  unfold adrL at h h'
  split at h <;> split at h' <;> simp_all
  all_goals first | (cases h; cases h'; rfl) | skip
  all_goals first | (subst h; simp_all) | skip
  all_goals omega
def strD (s : ByteArray) : DataW Unit := .lit (.string s.data.toList)
theorem strD_inj {s t : ByteArray} (h : strD s = strD t) : s = t := by
  unfold strD at h
  injection h with h
  injection h with h
  exact ByteArray.ext (Array.ext' h)
/-- how a document reads: all of it -/
def cellsR (l : List Value) : Option (DataW Unit × List MemPlace) :=
  match l with
  | [.string a, .bool b, .bool c, .string r, .int .i64 dy, .string co, .string nu, .string cu, .slice A n k] =>
    match adrL A with
    | some x => some (.agg ([strD a, .lit (.bool b), .lit (.bool c), strD r, .lit (.int .i64 dy), strD co, strD nu, strD cu, .lit (.int .i64 (n : Nat)), .lit (.int .i64 (k : Nat))] ++ x), [])
    | none => none
  | _ => none
def docR (v : Value) : Option (DataW Unit × List MemPlace) :=
  match v with
  | .agg cs => cellsR cs.toList
  | _ => none
def Plain (d : DocV) : Prop := d.linesA = none ∨ ∃ b o, d.linesA = some ⟨b, o, none⟩
def docD (d : DocV) : DataW Unit := match docR (docVal d) with | some x => x.1 | none => .nil
theorem docR_val {d : DocV} (h : Plain d) : docR (docVal d) = some (docD d, []) := by
  have : ∃ x, docR (docVal d) = some (x, []) := by
    unfold docVal docR docC cellsR
    simp only []
    rcases h with h | ⟨b, o, h⟩
    · rw [h]; exact ⟨_, rfl⟩
    · rw [h]; exact ⟨_, rfl⟩
  obtain ⟨x, hx⟩ := this
  unfold docD
  rw [hx]
theorem cellsR_inv {l m : List Value} {x y : DataW Unit × List MemPlace} (h : cellsR l = some x) (h' : cellsR m = some y) (e : x.1 = y.1) : l = m := by
  unfold cellsR at h h'
  split at h
  · split at h
    · rename_i X hX
      split at h'
      · split at h'
        · rename_i Y hY
          cases h
          cases h'
          simp only [DataW.agg.injEq, List.cons_append, List.nil_append, List.cons.injEq, DataW.lit.injEq, Lit.bool.injEq, Lit.int.injEq, true_and] at e
          obtain ⟨e1, e2, e3, e4, e5, e6, e7, e8, e9, e10, e11⟩ := e
          have f1 := strD_inj e1
          have f4 := strD_inj e4
          have f6 := strD_inj e6
          have f7 := strD_inj e7
          have f8 := strD_inj e8
          have f9 := Int.ofNat_inj.1 e9
          have f10 := Int.ofNat_inj.1 e10
          subst e11
          have f11 := adrL_inv hX hY
          subst f1 e2 e3 f4 e5 f6 f7 f8 f9 f10 f11
          rfl
        · cases h'
      · cases h'
    · cases h
  · cases h
theorem docR_inv {v : Value} {d : DocV} {ps : List MemPlace} (hd : Plain d) (h : docR v = some (docD d, ps)) : v = docVal d := by
  have h2 := docR_val hd
  unfold docR at h
  split at h
  · rename_i cs
    have h3 : cellsR (docC d) = some (docD d, []) := h2
    have := cellsR_inv h h3 rfl
    obtain ⟨l⟩ := cs
    simp only at this
    subst this
    rfl
  · cases h
abbrev Docs := ByteArray → Option DocV
def dOf (x : Option DocV) : DocV := match x with | none => docZ | some d => d
def okKey (s : ByteArray) : Prop := s.size ≤ 1000
def keyL (s : ByteArray) : Lit := .string s.data.toList
theorem strKey : Maps.Keyed Try.prog 9 := Maps.string_keyed Try.underlying9
theorem keyOk {s : ByteArray} (h : okKey s) : keyOf Try.prog 9 (.string s) = some (keyL s) := by
  have hm : s.size ≤ maxLen := by unfold okKey at h; unfold maxLen; omega
  exact Go.WideMaps.keyOf_string_mk Try.underlying9 hm
theorem keyL_inj {s s' : ByteArray} (h : keyL s = keyL s') : s = s' := by
  obtain ⟨⟨x⟩⟩ := s
  obtain ⟨⟨y⟩⟩ := s'
  simp [keyL] at h
  rw [h]
def IdD (D : DataW Unit) (F : Docs) : Prop := (∀ s, okKey s → D.atKey (keyL s) (docD docZ) = docD (dOf (F s)) ∧ Maps.has D (keyL s) = (F s).isSome)
/-- the map of documents: n of them -/
def DmAt (w : World) (base bm n : Nat) (F : Docs) : Prop :=
  (∃ D, w.ownsMap Try.prog 9 docR bm n D ∧ IdD D F ∧ Maps.size D = n) ∧
  (∀ s d, F s = some d → DocVOk w d ∧ okKey s ∧ d.id = s ∧ ∃ g, d.linesA = some ⟨g, 0, none⟩ ∧ base ≤ g ∧ ∃ cur, w.heap[g]? = some (.cells cur 60 (0, 0))) ∧ base ≤ bm ∧ base ≤ w.heap.size
theorem plainZ : Plain docZ := .inl rfl
theorem DmAt.plain {w : World} {base bm n : Nat} {F : Docs} (h : DmAt w base bm n F) (s : ByteArray) : Plain (dOf (F s)) := by
  cases e : F s with
  | none => exact plainZ
  | some d =>
    obtain ⟨_, _, _, g, hg, _⟩ := h.2.1 s d e
    exact .inr ⟨g, 0, hg⟩
open Classical in
noncomputable def upd (F : Docs) (s : ByteArray) (x : Option DocV) : Docs := fun s' => if s' = s then x else F s'
theorem upd_same {F : Docs} {s : ByteArray} {x : Option DocV} : upd F s x s = x := by
  unfold upd
  rw [if_pos rfl]
theorem upd_other {F : Docs} {s s' : ByteArray} {x : Option DocV} (h : ¬ s' = s) : upd F s x s' = F s' := by
  unfold upd
  rw [if_neg h]
section
variable {w w' : World} {base bm n : Nat} {F : Docs}
theorem DmAt.lt (h : DmAt w base bm n F) : bm < w.heap.size := let ⟨⟨_, h2, _⟩, _⟩ := h; h2.lt
theorem DmAt.on (h : DmAt w base bm n F) (hb : Below w.heap.size w w') : DmAt w' base bm n F := by
  obtain ⟨⟨D, h2, h3, hz⟩, h4, h7, h8⟩ := h
  exact ⟨⟨D, h2.kept (row := none) ⟨hb.os, hb.tape, hb.output, hb.size, fun k hk _ => hb.block k hk⟩ (by simp), h3, hz⟩, fun s d e => by
    obtain ⟨a1, a2, a3, g, a4, a5, cur, a6⟩ := h4 s d e
    exact ⟨a1.on hb, a2, a3, g, a4, a5, cur, heap_on hb a6⟩, h7, Nat.le_trans h8 hb.size⟩
/-- looked up, with whether it is there -/
theorem DmAt.look {s : ByteArray} (h : DmAt w base bm n F) (hk : okKey s) (b : Bool) : (Instr.lookup 45 (.map (some bm)) (.string s) b).run Try.prog w = .ok (if b then .tuple #[docVal (dOf (F s)), .bool (F s).isSome] else docVal (dOf (F s))) w := by
  have hp := h.plain s
  obtain ⟨⟨D, h2, h3, _⟩, _⟩ := h
  obtain ⟨e1, e2⟩ := h3 s hk
  have hz : (zeroValue 29).run Try.prog w = .ok (docVal docZ) w := by kernel_rfl
  cases b with
  | true =>
    obtain ⟨v, ps, hr, hv⟩ := h2.look_ok strKey Try.underlying45 hz (docR_val plainZ) (keyOk hk)
    rw [e1] at hv
    rw [e2, docR_inv hp hv] at hr
    exact hr
  | false =>
    obtain ⟨v, ps, hr, hv⟩ := h2.lookup strKey Try.underlying45 hz (docR_val plainZ) (keyOk hk)
    rw [e1] at hv
    rw [docR_inv hp hv] at hr
    exact hr
/-- how many -/
theorem DmAt.len (h : DmAt w base bm n F) (ty : TypeId) : (Builtin.len_ #[45] ty #[.map (some bm)]).run Try.prog w = .ok (.int .i64 (n : Nat)) w := by
  obtain ⟨⟨D, h2, _, hz⟩, _⟩ := h
  rw [← hz]
  exact h2.len Try.underlying45 ty
/-- a block that is no map and no line's was turned, or one was laid -/
theorem DmAt.grown {row : Option Nat} (h : DmAt w base bm n F) (hg : w.grownBy w' row) (hb : some bm ≠ row) (hl : ∀ g cur, w.heap[g]? = some (.cells cur 60 (0, 0)) → some g ≠ row) : DmAt w' base bm n F := by
  obtain ⟨⟨D, h2, h3, hz⟩, h4, h7, h8⟩ := h
  refine ⟨⟨D, h2.kept hg hb, h3, hz⟩, fun s d e => ?_, h7, Nat.le_trans h8 hg.size⟩
  obtain ⟨⟨b1, b2, b3, b4, b5, b6, b7⟩, a2, a3, g, a4, a5, cur, a6⟩ := h4 s d e
  have hgl := heapLt a6
  have hk : w'.heap[g]? = w.heap[g]? := hg.block g hgl (hl g cur a6)
  refine ⟨⟨b1, b2, b3, b4, b5, fun hn => ?_, b7⟩, a2, a3, g, a4, a5, cur, hk.trans a6⟩
  obtain ⟨b, o, e1, c1, c2⟩ := b6 hn
  rw [a4] at e1
  injection e1 with e1
  injection e1 with e2 e3
  subst e2 e3
  exact ⟨g, 0, a4, Nat.lt_of_lt_of_le hgl hg.size, fun j v hv => (World.cell?_of_block hk).trans (c2 j v hv)⟩
/-- one more is laid into the map -/
theorem DmAt.put {d : DocV} (h : DmAt w base bm n F) (hn : n < maxLen) (hk : okKey d.id) (hd : DocVOk w d) (hf : F d.id = none) (g : Nat) (hA : d.linesA = some ⟨g, 0, none⟩) (hg : base ≤ g) (cur : Array Value) (hcur : w.heap[g]? = some (.cells cur 60 (0, 0))) :
    ∃ w', (Instr.mapUpdate 45 (.map (some bm)) (.string d.id) (docVal d)).run Try.prog w = .ok () w' ∧ DmAt w' base bm (n + 1) (upd F d.id (some d)) ∧ w.grownBy w' (some bm) ∧ ∀ k, k ≠ bm → w'.heap[k]? = w.heap[k]? := by
  have hp : Plain d := .inr ⟨g, 0, hA⟩
  have hh := h
  obtain ⟨⟨D, h2, h3, hz⟩, h4, h7, h8⟩ := h
  obtain ⟨w', hr, h9, ht⟩ := h2.store strKey Try.underlying45 hn (keyOk hk) (docR_val hp)
  have hgr := ht.grown
  have hblk : ∀ k, k ≠ bm → w'.heap[k]? = w.heap[k]? := fun k hkb => by
    obtain ⟨es, clock, es', clock', hb, rfl⟩ := ht
    exact Go.ChangeMaps.heap_setBlock_other hb _ hkb
  have hnm : ∀ g cur, w.heap[g]? = some (.cells cur 60 (0, 0)) → g ≠ bm := fun g cur hc e => by
    obtain ⟨es, clock, hb, _⟩ := h2
    rw [e, hb] at hc
    injection hc with hc
    cases hc
  have keep : ∀ {x : DocV} {g : Nat} {cur : Array Value}, DocVOk w x → x.linesA = some ⟨g, 0, none⟩ → w.heap[g]? = some (.cells cur 60 (0, 0)) → DocVOk w' x := by
    intro x g cur hx ha hc
    obtain ⟨b1, b2, b3, b4, b5, b6, b7⟩ := hx
    refine ⟨b1, b2, b3, b4, b5, fun hne => ?_, b7⟩
    obtain ⟨b, o, e1, c1, c2⟩ := b6 hne
    rw [ha] at e1
    injection e1 with e1
    injection e1 with e2 e3
    subst e2 e3
    exact ⟨g, 0, ha, Nat.lt_of_lt_of_le c1 hgr.size, fun j v hv => (World.cell?_of_block (hblk g (hnm g cur hc))).trans (c2 j v hv)⟩
  refine ⟨w', hr, ⟨⟨_, h9, fun s' hk' => ?_, ?_⟩, fun s' x e => ?_, h7, Nat.le_trans h8 hgr.size⟩, hgr, hblk⟩
  · by_cases hs : s' = d.id
    · obtain rfl := hs
      rw [upd_same]
      exact ⟨Maps.atKey_put_same h2.isMap (strKey.key (keyOk hk)) _ _, Maps.has_put_same h2.isMap (strKey.key (keyOk hk)) _⟩
    · rw [upd_other hs]
      have hne : keyL s' ≠ keyL d.id := fun e => hs (keyL_inj e)
      rw [Maps.atKey_put_other hne, Maps.has_put_other hne]
      exact h3 s' hk'
  · rw [Maps.size_put (h2.tidy strKey)]
    have := (h3 d.id hk).2
    rw [hf] at this
    rw [this, hz]
    rfl
  · by_cases hs : s' = d.id
    · obtain rfl := hs
      rw [upd_same] at e
      injection e with e
      subst e
      exact ⟨keep hd hA hcur, hk, rfl, g, hA, hg, cur, (hblk g (hnm g cur hcur)).trans hcur⟩
    · rw [upd_other hs] at e
      obtain ⟨a1, a2, a3, g', a4, a5, cur', a6⟩ := h4 s' x e
      exact ⟨keep a1 a4 a6, a2, a3, g', a4, a5, cur', (hblk g' (hnm g' cur' a6)).trans a6⟩
end
end Go.Proofs.Ytjanhgekocpobaa
