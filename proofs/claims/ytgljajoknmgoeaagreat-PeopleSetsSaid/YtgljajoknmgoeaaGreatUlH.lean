/- A row of spans copied; one span put into a row of the call's own, where it belongs. One span put into a row of the call's own. -/
import Derived.Test.YtgljajoknmgoeaaGreatUlF
import Derived.Lib.Overlaps
import Derived.Laws.Externs
import Derived.Laws.IdiomCopy
import Derived.Lib.AppendZerosOnto
import Derived.Lib.SliceRun
import Derived.Lib.Walk
import Derived.Shelf.Spec.SlicesInsertGrow
namespace Go.Proofs.YtgljajoknmgoeaaGreat
open Go.RowKit
set_option maxRecDepth 100000

abbrev ePart : TypeId := 92
abbrev tParts : TypeId := 87
theorem partFact : (Tryz.prog.info? 92).map (fun i => (i.zero, i.size, i.bytes)) = some (some (.agg #[.int .i64 0, .int .i64 0]), 2, 24) := by kernel_rfl
theorem flat2_one (L : List Sp) : ∀ v ∈ flat2 L, v.oneCell' = true := by
  intro v hv
  obtain ⟨p, _, hp⟩ := List.mem_flatMap.1 hv
  simp [flatP2] at hp
  rcases hp with rfl | rfl <;> rfl
/-- ALL IS READ BEFORE ANYTHING IS WRITTEN, at elements of three cells -/
theorem run_copy2 {P : Program} (w : World) (dT sT ty elem : TypeId) (b o dLen dCap : Nat) (a : Addr) (sLen sCap : Nat) (cs : List Value)
    (hu : P.underlying dT = some (.slice elem)) (hs : (P.info? elem).map (·.size) = some 2) (hn : cs.length = Nat.min sLen dLen * 2)
    (hsrc : ∀ j v, cs[j]? = some v → w.cell? (a.add j) = some v) (hc : ∀ j, j < cs.length → (w.cell? ⟨b, o + j, none⟩).isSome = true) (hf : ∀ j, j < cs.length → w.frozen? ⟨b, o + j, none⟩ = false) (h1 : ∀ v ∈ cs, v.oneCell' = true) :
    (Builtin.copy_ #[dT, sT] ty #[.slice (some ⟨b, o, none⟩) dLen dCap, .slice (some a) sLen sCap]).run P w = .ok (goInt (Nat.min sLen dLen)) (w.setCells b o cs) := by
  have hl := run_loadCells_list (P := P) w a cs hsrc
  have hst := run_storeCells_cells (P := P) b o cs 0 w (by simpa using hc) (by simpa using hf) h1
  cases hq : P.info? elem with
  | none => simp [hq] at hs
  | some i =>
    have hi : i.size = 2 := by simpa [hq] using hs
    simp [Builtin.copy_, run_underlying hu, Builtin.lenOf, Builtin.firstCells, sizeOf, typeInfo, hq, hi, ← hn, hl, hst]
theorem flat2_append (L M : List Sp) : flat2 (L ++ M) = flat2 L ++ flat2 M := List.flatMap_append
theorem flat2_drop (L : List Sp) : ∀ i, flat2 (L.drop i) = (flat2 L).drop (i * 2) := by
  induction L with
  | nil => intro i; simp [flat2]
  | cons p L ih =>
    intro i
    cases i with
    | zero => rfl
    | succ i =>
      have e : flat2 (p :: L) = flatP2 p ++ flat2 L := rfl
      rw [List.drop_succ_cons, ih, e, List.drop_append]
      have : (flatP2 p).length = 2 := rfl
      rw [show (flatP2 p).drop ((i + 1) * 2) = [] from List.drop_eq_nil_of_le (by omega), this, show (i + 1) * 2 - 2 = i * 2 by omega]
      rfl
theorem flat2_take (L : List Sp) : ∀ i, flat2 (L.take i) = (flat2 L).take (i * 2) := by
  induction L with
  | nil => intro i; simp [flat2]
  | cons p L ih =>
    intro i
    cases i with
    | zero => rfl
    | succ i =>
      have e : flat2 (p :: L) = flatP2 p ++ flat2 L := rfl
      have e2 : flat2 (p :: L.take i) = flatP2 p ++ flat2 (L.take i) := rfl
      rw [List.take_succ_cons, e2, ih, e, List.take_append]
      have : (flatP2 p).length = 2 := rfl
      rw [show (flatP2 p).take ((i + 1) * 2) = flatP2 p from List.take_of_length_le (by omega), this, show (i + 1) * 2 - 2 = i * 2 by omega]
/-- a row of the call's own -/
def OwnR (w : World) (base : Nat) (v : Value) (L : List Sp) : Prop := w.ownsRow base 92 2 v L.length (flat2 L)
theorem OwnR.on {w W : World} {B : Nat} {v : Value} {L : List Sp} (h : OwnR w B v L) (hb : Below w.heap.size w W) : OwnR W B v L :=
  World.ownsRow.kept (row := none) h ⟨hb.os, hb.tape, hb.output, hb.size, fun k hk _ => hb.block k hk⟩ (by
    rcases h.2 with ⟨rfl, _⟩ | ⟨g, c, cur, rfl, _⟩
    · exact .inl rfl
    · exact .inr (by simp [Value.ownBlock]))
theorem OwnR.form {w : World} {B : Nat} {v : Value} {L : List Sp} (h : OwnR w B v L) : ∃ A c, v = .slice A L.length c ∧ Row2 w A L ∧ L.length ≤ c ∧ c ≤ maxLen ∧ (A = none → L = [] ∧ c = 0) := by
  rcases h.2 with ⟨rfl, h0⟩ | ⟨g, c, cur, rfl, hB, hh, hc, hm, hcs, ht⟩
  · have : L = [] := List.eq_nil_of_length_eq_zero h0
    subst this
    exact ⟨none, 0, rfl, Row2.nil, Nat.le_refl _, Nat.zero_le _, fun _ => ⟨rfl, rfl⟩⟩
  · refine ⟨_, c, rfl, fun hn => ⟨g, 0, rfl, heapLt hh, fun j v hv => ?_⟩, hc, hm, fun e => by cases e⟩
    have := World.ownsRow.cells (g := g) h rfl j v hv
    rwa [Addr.add_mid] at this
set_option maxHeartbeats 1000000 in
theorem code_clone (A : Option Addr) (c : Nat) (L : List Sp) (w : World) (hr : Row2 w A L) (hn : A = none → L = [] ∧ c = 0) (hl : L.length ≤ 256) : Calls Tryz.prog 58 #[.slice A L.length c] w fun e w' => ∃ v, e = .returned v ∧ OwnR w' w.heap.size v L ∧ Below w.heap.size w w' := by
  obtain ⟨i0, hi, hz0, hz1, hz2⟩ := info_parts partFact
  have hq : ∀ (w : World) (a : Option Addr) (n c n' c' : Nat), (binOp .eql 87 (.slice a n c) (.slice none n' c')).run Tryz.prog w = .ok (.bool a.isNone) w := fun w a n c n' c' => Lib.run_eql_slice_nil w _ _ a n c n' c' Tryz.underlying87
  cases A with
  | none =>
    obtain ⟨rfl, rfl⟩ := hn rfl
    clear hr hn hl
    go_enter Tryz.func58, Tryz.ntmps58
    go_wp2
    go_ret
    exact ⟨_, rfl, World.ownsRow_nil _ _ _ _, Below.refl _ _⟩
  | some a =>
    have hnews : ∀ j u, (flat2 L)[j]? = some u → w.cell? (a.add j) = some u := fun j u hu => by
      have hne : L ≠ [] := by
        intro e; subst e; simp [flat2] at hu
      obtain ⟨b, o, e, _, hra⟩ := hr hne
      injection e with e
      subst e
      rw [Addr.add_mid]
      exact hra j u hu
    have HN : Hid (∀ X, ∀ j u, (flat2 L)[j]? = some u → (w.alloc X).cell? (a.add j) = some u) := Lib.hid (fun X j u hu => cell_on (below_alloc _ _) (hnews j u hu))
    have HO := Lib.hid (World.ownsRow_lit w (e := 92) (base := w.heap.size) (size := 2) #[] 0 (Nat.le_refl _) (by unfold maxLen; omega) rfl)
    have HL := Lib.hid (And.intro hl (And.intro (flat2_len L) (flat2_one L)))
    clear hr hn hnews hl
    go_enter Tryz.func58, Tryz.ntmps58
    go_wp2_with (at_builtin; refine wpList_append_own _ rfl _ _ 87 rfl w.heap.size 92 i0 _ 2 24 Tryz.underlying87 hi hz0 hz1 hz2 rfl (by decide) _ 0 [] rfl ?own a L.length c (flat2 L) rfl (by rw [HL.out.2.1]; omega) (HN.out _) HL.out.2.2 (by have := HL.out.1; unfold maxLen; omega) (by have := HL.out.1; omega) (by simp) ?_; (case own => exact HO.out); intro v' w' hown hg hv; have HV : Hid (OwnR w' w.heap.size v' L ∧ Below w.heap.size w w') := (Lib.hid ⟨by simpa [OwnR] using hown, (below_alloc w _).grown hg (by simp) (fun k hk => (HO.out.lt k hk).1)⟩); clear hown hg hv)
    go_ret
    exact ⟨_, rfl, HV.out.1, HV.out.2⟩
end Go.Proofs.YtgljajoknmgoeaaGreat

namespace Go.Proofs.YtgljajoknmgoeaaGreat
open Go.RowKit
set_option maxRecDepth 100000

def insL (L : List Sp) (i : Nat) (x : Sp) : List Sp := L.take i ++ x :: L.drop i
theorem insL_len (L : List Sp) (i : Nat) (x : Sp) : (insL L i x).length = L.length + 1 := by
  unfold insL
  rw [List.length_append, List.length_cons, List.length_take, List.length_drop]
  omega
theorem flat2_ins (L : List Sp) (i : Nat) (x : Sp) : flat2 (insL L i x) = (flat2 L).take (i * 2) ++ flatP2 x ++ (flat2 L).drop (i * 2) := by
  unfold insL
  have e : flat2 (x :: L.drop i) = flatP2 x ++ flat2 (L.drop i) := rfl
  rw [flat2_append, e, flat2_take, flat2_drop, List.append_assoc]
/-- what is copied over a row, from one place on -/
def overL (cur : List Value) (o : Nat) (cs : List Value) : List Value := cur.take o ++ cs ++ cur.drop (o + cs.length)
theorem overL_len {cur cs : List Value} {o : Nat} (h : o + cs.length ≤ cur.length) : (overL cur o cs).length = cur.length := by
  unfold overL
  simp only [List.length_append, List.length_take, List.length_drop]
  omega
/-- shifted, then filled -/
theorem shift_list (cur l x : List Value) (i n : Nat) (hx : x.length = 2) (hl : l.length = n * 2) (hc : cur.take (n * 2) = l) (hsz : (n + 1) * 2 ≤ cur.length) (hi : i ≤ n) :
    (overL (overL cur ((i + 1) * 2) (l.drop (i * 2))) (i * 2) x).take ((n + 1) * 2) = l.take (i * 2) ++ x ++ l.drop (i * 2) := by
  have h1 : (overL cur ((i + 1) * 2) (l.drop (i * 2))).take (i * 2) = l.take (i * 2) := by
    unfold overL
    rw [List.append_assoc, List.take_append_of_le_length (by rw [List.length_take]; omega), List.take_take, ← hc, List.take_take]
    congr 1
    omega
  have h2 : (overL cur ((i + 1) * 2) (l.drop (i * 2))).drop (i * 2 + 2) = l.drop (i * 2) ++ cur.drop ((i + 1) * 2 + (l.drop (i * 2)).length) := by
    unfold overL
    rw [List.append_assoc, show i * 2 + 2 = (cur.take ((i + 1) * 2)).length by rw [List.length_take]; omega, List.drop_left]
  have e : overL (overL cur ((i + 1) * 2) (l.drop (i * 2))) (i * 2) x = (l.take (i * 2) ++ x ++ l.drop (i * 2)) ++ cur.drop ((i + 1) * 2 + (l.drop (i * 2)).length) := by
    show (overL cur ((i + 1) * 2) (l.drop (i * 2))).take (i * 2) ++ x ++ (overL cur ((i + 1) * 2) (l.drop (i * 2))).drop (i * 2 + x.length) = _
    rw [hx, h1, h2]
    simp only [List.append_assoc]
  rw [e, List.take_append_of_le_length (by simp only [List.length_append, List.length_take, List.length_drop]; omega)]
  exact List.take_of_length_le (by simp only [List.length_append, List.length_take, List.length_drop]; omega)
/-- filled, then what stood behind -/
theorem grow_list (cur l x : List Value) (i n : Nat) (hx : x.length = 2) (hl : l.length = n * 2) (hc : cur.take (i * 2) = l.take (i * 2)) (hsz : (n + 1) * 2 ≤ cur.length) (hi : i ≤ n) :
    (overL (overL cur (i * 2) x) ((i + 1) * 2) (l.drop (i * 2))).take ((n + 1) * 2) = l.take (i * 2) ++ x ++ l.drop (i * 2) := by
  have h1 : (overL cur (i * 2) x).take ((i + 1) * 2) = l.take (i * 2) ++ x := by
    unfold overL
    rw [List.take_append_of_le_length (by simp only [List.length_append, List.length_take]; omega), hc]
    exact List.take_of_length_le (by simp only [List.length_append, List.length_take]; omega)
  have e : ∃ r, overL (overL cur (i * 2) x) ((i + 1) * 2) (l.drop (i * 2)) = (l.take (i * 2) ++ x ++ l.drop (i * 2)) ++ r := by
    refine ⟨(overL cur (i * 2) x).drop ((i + 1) * 2 + (l.drop (i * 2)).length), ?_⟩
    show (overL cur (i * 2) x).take ((i + 1) * 2) ++ l.drop (i * 2) ++ (overL cur (i * 2) x).drop ((i + 1) * 2 + (l.drop (i * 2)).length) = _
    rw [h1]
  obtain ⟨r, e⟩ := e
  rw [e, List.take_append_of_le_length (by simp only [List.length_append, List.length_take, List.length_drop]; omega)]
  exact List.take_of_length_le (by simp only [List.length_append, List.length_take, List.length_drop]; omega)
theorem run_copy2_row {P : Program} (w : World) (dT sT ty elem : TypeId) (g o dLen dCap : Nat) (a : Addr) (sLen sCap : Nat) (cur : Array Value) (t : TypeId) (cs : List Value)
    (hu : P.underlying dT = some (.slice elem)) (hs : (P.info? elem).map (·.size) = some 2) (hn : cs.length = Nat.min sLen dLen * 2) (hg : w.heap[g]? = some (.cells cur t (0, 0))) (hfit : o + cs.length ≤ cur.size)
    (hsrc : ∀ j v, cs[j]? = some v → w.cell? (a.add j) = some v) (h1 : ∀ v ∈ cs, v.oneCell' = true) :
    (Builtin.copy_ #[dT, sT] ty #[.slice (some ⟨g, o, none⟩) dLen dCap, .slice (some a) sLen sCap]).run P w = .ok (goInt (Nat.min sLen dLen)) (w.setRow g (overL cur.toList o cs).toArray) := by
  have hl := run_loadCells_list (P := P) w a cs hsrc
  have hst := run_storeCells_at P g o t cs 0 cur w hg (by simpa using hfit) h1
  simp only [Nat.add_zero] at hst
  cases hq : P.info? elem with
  | none => simp [hq] at hs
  | some i =>
    have hi : i.size = 2 := by simpa [hq] using hs
    simp [Builtin.copy_, run_underlying hu, Builtin.lenOf, Builtin.firstCells, sizeOf, typeInfo, hq, hi, ← hn, hl, hst, overL]
theorem sizeP : (Tryz.prog.info? 92).map (·.size) = some 2 := by kernel_rfl
theorem sizePr (w : World) : (Go.sizeOf 92).run Tryz.prog w = .ok 2 w := by
  have h := sizeP
  cases hq : Tryz.prog.info? 92 with
  | none => simp [hq] at h
  | some i =>
    have hz : i.size = 2 := by simpa [hq] using h
    simp [sizeOf, typeInfo, hq, hz]
theorem cutp {w : World} {g : Nat} {cur : Array Value} {t : TypeId} {o : Nat} {cs : List Value} (hg : w.heap[g]? = some (.cells cur t (0, 0))) (h : ∀ j v, cs[j]? = some v → cur.toList[o + j]? = some v) : ∀ j v, cs[j]? = some v → w.cell? ((⟨g, o, none⟩ : Addr).add j) = some v := fun j v hv => by
  rw [Addr.add_mid]
  have := cell_of_row w g (o + j) _ _ _ hg
  rw [this]
  have h2 := h j v hv
  simpa using h2
/-- what an insertion leaves -/
def InsP (w : World) (base : Nat) (L : List Sp) (i : Nat) (x : Sp) (e : Ending) (w' : World) : Prop := ∃ v, e = .returned v ∧ OwnR w' base v (insL L i x) ∧ Below base w w'
set_option maxHeartbeats 1000000 in
theorem ins_end (w : World) (base : Nat) (v : Value) (L : List Sp) (x : Sp) (vb : Nat) (ho : OwnR w base v L) (hv : w.heap[vb]? = some (.cells #[.int .i64 x.1, .int .i64 x.2.1] 92 (0, 0))) (hl : L.length ≤ 256) (hb : base ≤ w.heap.size) :
    Calls Tryz.prog 66 #[v, .int .i64 L.length, .slice (some ⟨vb, 0, none⟩) 1 1] w (InsP w base L L.length x) := by
  obtain ⟨i0, hi, hz0, hz1, hz2⟩ := info_parts partFact
  obtain ⟨A, c, rfl, hr, hc, hm, hA⟩ := ho.form
  have hsrc : ∀ j u, (flatP2 x)[j]? = some u → w.cell? ((⟨vb, 0, none⟩ : Addr).add j) = some u := cutp hv (fun j u hu => by simpa [flatP2] using hu)
  have hc63 : (c : Int) ≤ 9223372036854775807 := by unfold maxLen at hm; omega
  have HH := Lib.hid (And.intro ho (And.intro hsrc (And.intro hl hb)))
  have hin : (L.length : Int) ≤ 256 := by omega
  have hcc : (L.length : Int) ≤ (c : Int) := by omega
  clear ho hr hA hsrc hl hb hv
  go_enter Tryz.func66, Tryz.ntmps66
  go_wp2_with (at_builtin; refine wpList_append_own _ rfl _ _ 87 rfl base 92 i0 _ 2 24 Tryz.underlying87 hi hz0 hz1 hz2 rfl (by decide) _ L.length (flat2 L) rfl HH.out.1 ⟨vb, 0, none⟩ 1 1 (flatP2 x) rfl rfl HH.out.2.1 (by intro v hv; exact flat2_one [x] v (by simpa [flat2] using hv)) (by have := HH.out.2.2.1; unfold maxLen; omega) (by have := HH.out.2.2.1; omega) HH.out.2.2.2 ?_; intro v' w' hown hg hv; have HV := Lib.hid (And.intro hown hg); clear hown hg hv)
  all_goals
    go_ret
    refine ⟨_, rfl, ?_, (Below.refl base w).grown HV.out.2 HH.out.2.2.2 (fun k hk => (World.ownsRow.lt HH.out.1 k hk).1)⟩
    unfold OwnR
    rw [insL_len, flat2_ins, List.take_of_length_le (by rw [flat2_len]; omega), List.drop_eq_nil_of_le (by rw [flat2_len]; omega), List.append_nil]
    exact HV.out.1
theorem setRow_size (w : World) (g : Nat) (cs : Array Value) : (w.setRow g cs).heap.size = w.heap.size := by simp
set_option maxHeartbeats 2000000 in
theorem ins_shift (w : World) (base g cap : Nat) (cur : Array Value) (L : List Sp) (i : Nat) (x : Sp) (vb : Nat) (hg : w.heap[g]? = some (.cells cur 92 (0, 0))) (hcs : cur.size = cap * 2) (ht : cur.toList.take (L.length * 2) = flat2 L) (hroom : L.length + 1 ≤ cap) (hm : cap ≤ maxLen)
    (hi : i < L.length) (hv : w.heap[vb]? = some (.cells #[.int .i64 x.1, .int .i64 x.2.1] 92 (0, 0))) (hne : vb ≠ g) (hl : L.length ≤ 256) (hbg : base ≤ g) :
    Calls Tryz.prog 66 #[.slice (some ⟨g, 0, none⟩) L.length cap, .int .i64 i, .slice (some ⟨vb, 0, none⟩) 1 1] w (InsP w base L i x) := by
  obtain ⟨n, hn⟩ : ∃ n, n = L.length := ⟨_, rfl⟩
  have hfl : (flat2 L).length = n * 2 := by rw [flat2_len, hn]; omega
  obtain ⟨l, hll⟩ : ∃ l, l = flat2 L := ⟨_, rfl⟩
  rw [← hll] at hfl ht
  rw [← hn] at hi hroom hl ht ⊢
  have hsv : w.shape? vb = some (92, 2) := by unfold World.shape?; rw [hv]; rfl
  have hsg : w.shape? g = some (92, cap * 2) := by unfold World.shape?; rw [hg]; simp [hcs]
  have hf0 : w.frozen? ⟨vb, 0, none⟩ = false := frozen_of_row w vb 0 _ _ hv
  have hf3 : w.frozen? ⟨vb, 2, none⟩ = false := frozen_of_row w vb 2 _ _ hv
  have hov : ∀ lb cb, (callFunc 90 #[.slice (some ⟨vb, 0, none⟩) 1 1, .slice (some ⟨g, (i + 1) * 2, none⟩) lb cb]).run Tryz.prog w = .ok (.value (.bool false)) w := fun lb cb => by
    rw [run_callFunc_extern Tryz.func90 (by kernel_rfl) (by kernel_rfl) (by kernel_rfl) (e := Extern.SlicesOverlaps.overlaps #[87, 87] #[4]) (by kernel_rfl),
      Lib.run_overlaps_apart w 87 4 92 Tryz.underlying87 2 sizePr ⟨vb, 0, none⟩ ⟨g, (i + 1) * 2, none⟩ 1 1 lb cb hne _ _ _ _ hsv hsg (by omega) hf0 hf3]
    rfl
  have hdl : (l.drop (i * 2)).length = (n - i) * 2 := by rw [List.length_drop, hfl]; omega
  have hwg : w.drew.heap[g]? = some (.cells cur 92 (0, 0)) := hg
  have hcurl : cur.toList.length = cap * 2 := by simpa using hcs
  have hcp1 : ∀ ty dc sc, (Builtin.copy_ #[87, 87] ty #[.slice (some ⟨g, (i + 1) * 2, none⟩) (n - i) dc, .slice (some ⟨g, i * 2, none⟩) (n + 1 - i) sc]).run Tryz.prog w.drew = .ok (goInt (Nat.min (n + 1 - i) (n - i))) (w.drew.setRow g (overL cur.toList ((i + 1) * 2) (l.drop (i * 2))).toArray) := fun ty dc sc =>
    run_copy2_row w.drew _ _ ty 92 g ((i + 1) * 2) _ dc ⟨g, i * 2, none⟩ _ sc cur _ (l.drop (i * 2)) Tryz.underlying87 sizeP (by rw [hdl]; simp only [Nat.min_def]; split <;> omega) hwg (by rw [hdl, hcs]; omega)
      (cutp hwg (fun j v hv => by
        rw [List.getElem?_drop, ← ht, List.getElem?_take] at hv
        split at hv
        · exact hv
        · cases hv)) (fun v hv => flat2_one L v (by rw [← hll]; exact List.mem_of_mem_drop hv))
  obtain ⟨c1, hc1⟩ : ∃ c1, c1 = (overL cur.toList ((i + 1) * 2) (l.drop (i * 2))).toArray := ⟨_, rfl⟩
  rw [← hc1] at hcp1
  have hc1s : c1.size = cap * 2 := by rw [hc1]; simp only [List.size_toArray]; rw [overL_len (by rw [hdl, hcurl]; omega), hcurl]
  obtain ⟨w1, hw1⟩ : ∃ w1, w1 = w.drew.setRow g c1 := ⟨_, rfl⟩
  have hg1 : w1.heap[g]? = some (.cells c1 92 (0, 0)) := by rw [hw1]; exact setRow_heap _ _ _ _ _ _ hwg
  have hv1 : w1.heap[vb]? = some (.cells #[.int .i64 x.1, .int .i64 x.2.1] 92 (0, 0)) := by rw [hw1]; exact (setRow_other _ _ _ _ hne).trans hv
  have hcp2 : ∀ ty dc, (Builtin.copy_ #[87, 87] ty #[.slice (some ⟨g, i * 2, none⟩) (n + 1 - i) dc, .slice (some ⟨vb, 0, none⟩) 1 1]).run Tryz.prog w1 = .ok (goInt (Nat.min 1 (n + 1 - i))) (w1.setRow g (overL c1.toList (i * 2) (flatP2 x)).toArray) := fun ty dc =>
    run_copy2_row w1 _ _ ty 92 g (i * 2) _ dc ⟨vb, 0, none⟩ _ 1 c1 _ (flatP2 x) Tryz.underlying87 sizeP (by simp only [Nat.min_def, flatP2, List.length_cons, List.length_nil]; split <;> omega) hg1 (by rw [hc1s]; simp [flatP2]; omega) (cutp hv1 (fun j v hv => by simpa [flatP2] using hv)) (by intro v hv; exact flat2_one [x] v (by simpa [flat2] using hv))
  have HF : Hid (InsP w base L i x (.returned (.slice (some ⟨g, 0, none⟩) (n + 1) cap)) (w1.setRow g (overL c1.toList (i * 2) (flatP2 x)).toArray)) := Lib.hid (by
    refine ⟨_, rfl, ⟨by rw [flat2_len]; omega, .inr ⟨g, cap, _, by rw [insL_len, hn], hbg, setRow_heap _ _ _ _ _ _ hg1, by rw [insL_len]; omega, hm, ?_, ?_⟩⟩, ?_⟩
    · simp only [List.size_toArray]
      rw [overL_len (by simp only [Array.length_toList, hc1s, flatP2, List.length_cons, List.length_nil]; omega)]
      simpa using hc1s
    · rw [insL_len, ← hn, flat2_ins, ← hll, hc1]
      exact shift_list cur.toList l (flatP2 x) i n rfl hfl ht (by rw [hcurl]; omega) (by omega)
    · rw [hw1]
      exact ⟨rfl, rfl, rfl, by simp, fun k hk => (setRow_other _ _ _ _ (by omega)).trans (setRow_other _ _ _ _ (by omega))⟩)
  subst hw1
  clear hsv hsg hf0 hf3 hg hv hwg hg1 hv1 hcurl hc1 hc1s hdl ht hcs hfl hll hn
  have hin : (0 : Int) ≤ (i : Int) := by omega
  have hin1 : (i : Int) ≤ (n : Int) := by omega
  have hin2 : (n : Int) ≤ 256 := by omega
  have hne1 : ¬ ((i : Int) = (n : Int)) := by omega
  have hcap : (n : Int) + 1 ≤ (cap : Int) := by omega
  have hcap2 : (cap : Int) ≤ 9223372036854775807 := by unfold maxLen at hm; omega
  have hb4 : ¬ (cap = i) := by omega
  have hb5 : ¬ (cap = i + 1) := by omega
  go_enter Tryz.func66, Tryz.ntmps66
  go_wp2_with (simp only [hov])
  have mixed : Tryz.prog.follows .mixedOrders = true := by kernel_rfl
  have hwr : IntKind.i64.wrap ((i : Int) + 1) = (i : Int) + 1 := by rw [IntKind.wrap_i64]; omega
  have hb1 : (0 : Int) ≤ (i : Int) + 1 := by omega
  have htn : ((i : Int) + 1).toNat = i + 1 := by omega
  have hb3 : (i : Int) ≤ (n : Int) + 1 := by omega
  have hb6 : (i : Int) + 1 ≤ (n : Int) + 1 := by omega
  go_region_law_o (refine step_copy_runI rfl _ _ 87 87 rfl _ _ (by simp [Act.eval, Act.put]) (by simp [Act.eval, Act.put]) (hcp1 _ _ _) ?_)
  go_wp2_with (at_builtin; refine wpList_copy_runI _ rfl _ _ 87 87 rfl _ _ rfl rfl (hcp2 _ _) ?_)
  go_ret
  exact HF.out
end Go.Proofs.YtgljajoknmgoeaaGreat
