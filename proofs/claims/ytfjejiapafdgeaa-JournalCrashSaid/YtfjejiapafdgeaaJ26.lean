/- Texts of a row, appended to a row of the call's own. append(s, make([]byte, k)...): nought behind a row of the call's own. The statements' own pages: what stands behind a list of parts. -/
import Derived.Test.YtfjejiapafdgeaaJ15
import Derived.Test.YtfjejiapafdgeaaJ9
import Derived.Lib.AppendZerosOnto
import Derived.Laws.CopyRow
import Derived.Test.YtfjejiapafdgeaaJ24
import Derived.Test.YtfjejiapafdgeaaJ21
namespace Go.Proofs.Ytfjejiapafdgeaa
open Go.RowKit
set_option maxRecDepth 100000

/-- the texts whose slices stand in block g from 0 on -/
def TextsAt (w : World) (g : Nat) (M : List Text) : Prop :=
  ∀ j (h : j < M.length), ∃ b c, w.cell? ⟨g, j, none⟩ = some (.slice (some ⟨b, 0, none⟩) M[j].length c) ∧ M[j].length ≤ c ∧ c ≤ maxLen ∧ w.rangeAt b 0 (M[j].map cellOf) ∧ b < w.heap.size ∧ 0 < M[j].length
theorem OwnT.texts {B : Nat} {v : Value} {L : List Text} {W : World} {g : Nat} {n c : Nat} (h : OwnT B v L W) (hv : v = .slice (some ⟨g, 0, none⟩) n c) : TextsAt W g L := fun j hj => h.at_ hv j hj
theorem TextsAt.take {w : World} {g : Nat} {M : List Text} (h : TextsAt w g M) (k : Nat) : TextsAt w g (M.take k) := fun j hj => by
  have hj' : j < M.length := by rw [List.length_take] at hj; omega
  have e : (M.take k)[j] = M[j] := List.getElem_take
  rw [e]
  exact h j hj'
/-- a text's block is no row's -/
theorem OwnT.apart {B : Nat} {v : Value} {L : List Text} {w : World} (h : OwnT B v L w) (hz : L = [] → v = .slice none 0 0) {b : Nat} {T : Text} (hr : w.rangeAt b 0 (T.map cellOf)) (hT : 0 < T.length) : v.ownBlock ≠ some b := by
  intro hv
  cases hL : L with
  | nil => rw [hz hL] at hv; cases hv
  | cons x L' =>
    have hl : 0 < L.length := by rw [hL]; simp
    obtain ⟨g, c, e, _⟩ := h.form hl
    obtain ⟨b', c', h1, _⟩ := h.at_ e 0 hl
    rw [e] at hv
    injection hv with hv
    have hg : g = b := hv
    subst hg
    cases hT2 : T with
    | nil => rw [hT2] at hT; cases hT
    | cons y T' =>
      have h2 := hr 0 (cellOf y) (by rw [hT2]; rfl)
      rw [h1] at h2
      injection h2 with h2
      unfold cellOf at h2
      cases h2
theorem append_texts_run (w : World) (B : Nat) (v : Value) (L : List Text) (hown : OwnT B v L w) (hz : L = [] → v = .slice none 0 0) (g2 c2 : Nat) (M : List Text) (hM : TextsAt w g2 M) (hL : L.length + M.length ≤ 100000) (hB : B ≤ w.heap.size) :
    ∃ v' w', (Builtin.append_ #[31, 31] 31 #[v, .slice (some ⟨g2, 0, none⟩) M.length c2]).run Try.prog w = .ok v' w' ∧ OwnT B v' (L ++ M) w' ∧ w.grownBy w' v.ownBlock ∧ (v'.ownBlock = v.ownBlock ∨ v'.ownBlock = some w.heap.size) ∧ (L ++ M = [] → v' = .slice none 0 0) := by
  have hap : ∀ j (h : j < M.length) (b : Nat), w.rangeAt b 0 (M[j].map cellOf) → 0 < M[j].length → v.ownBlock ≠ some b := fun j h b hr h0 => hown.apart hz hr h0
  obtain ⟨ys, hys, hyl⟩ : ∃ ys : List Value, (∀ j (h : j < M.length), w.cell? ⟨g2, j, none⟩ = ys[j]?) ∧ ys.length = M.length := by
    refine ⟨(List.range M.length).map fun j => (w.cell? ⟨g2, j, none⟩).getD undef, fun j h => ?_, by simp⟩
    obtain ⟨b, c, e, _⟩ := hM j h
    rw [e]
    simp [h, e]
  have hx := hown
  obtain ⟨xs, h1, h2⟩ := hown
  obtain ⟨i0, hi, hz0, hz1, hz2⟩ := info_parts rowFact
  obtain ⟨v', w', q1, q2, q3, q4, q5⟩ := run_append_own_at (P := Try.prog) w B 31 31 51 i0 (.slice none 0 0) 1 24 Try.underlying31 hi hz0 hz1 hz2 rfl (by decide) v L.length xs h1 ⟨g2, 0, none⟩ M.length c2 ys (by rw [hyl, Nat.mul_one])
    (fun j u hu => by
      have hj : j < M.length := by have := (List.getElem?_eq_some_iff.1 hu).1; omega
      rw [Addr.add_mid, Nat.zero_add, hys j hj]
      exact hu) (fun u hu => by
      obtain ⟨j, hj, e⟩ := List.getElem_of_mem hu
      have hj' : j < M.length := by omega
      obtain ⟨b, c, e2, _⟩ := hM j hj'
      rw [hys j hj', List.getElem?_eq_getElem hj, e] at e2
      injection e2 with e2
      rw [e2]
      rfl) (by unfold maxLen; omega) (by omega) hB
  refine ⟨v', w', q1, ⟨xs ++ ys, by rw [List.length_append]; exact q2, fun j hj => ?_⟩, q3, q5, fun hn => ?_⟩
  · have hxs : xs.length = L.length := by have := h1.1; omega
    have far : ∀ k, k < w.heap.size → v.ownBlock ≠ some k → v'.ownBlock ≠ some k := fun k hk hv e => by
      rcases q5 with q5 | q5
      · exact hv (q5.symm.trans e)
      · rw [q5] at e
        injection e with e
        omega
    by_cases hj2 : j < L.length
    · obtain ⟨b', c', e, e1, e2, e3, e4, e5, e6⟩ := h2 j hj2
      rw [List.getElem_append_left hj2]
      refine ⟨b', c', by rw [List.getElem?_append_left (by omega)]; exact e, e1, e2, fun i u hu => q3.cell (e3 i u hu) (Ne.symm e5), Nat.lt_of_lt_of_le e4 q3.size, far b' e4 e5, e6⟩
    · have hj3 : j - L.length < M.length := by rw [List.length_append] at hj; omega
      obtain ⟨b, c, e, e1, e2, e3, e4, e5⟩ := hM (j - L.length) hj3
      have hne := hap _ hj3 b e3 e5
      rw [List.getElem_append_right (by omega)]
      refine ⟨b, c, by rw [List.getElem?_append_right (by omega), hxs, ← hys _ hj3]; exact e, e1, e2, fun i u hu => q3.cell (e3 i u hu) (Ne.symm hne), Nat.lt_of_lt_of_le e4 q3.size, far b e4 hne, e5⟩
  · obtain ⟨hL0, hM0⟩ := List.append_eq_nil_iff.1 hn
    exact q4.2 ⟨hz hL0, by rw [hM0]; rfl⟩
end Go.Proofs.Ytfjejiapafdgeaa

namespace Go.Proofs.Ytfjejiapafdgeaa
open Go.RowKit
set_option maxRecDepth 100000

theorem zeroCells_u8 (k : Nat) : Builtin.zeroCells (Value.int .u8 0).cells k = (((List.replicate k (0 : UInt8)).map cellOf).toArray) := by
  apply Array.ext
  · simp [Builtin.zeroCells, Value.cells]
  · intro i h1 h2
    simp [Builtin.zeroCells, Value.cells, Nat.mod_one, cellOf]
theorem append_zeros_run (w : World) (B : Nat) (v : Value) (l : Text) (hown : w.ownsRow B 5 1 v l.length (l.map cellOf)) (k : Nat) (hk : l.length + k ≤ 4096) (hB : B ≤ w.heap.size) :
    ∃ v' w', (Builtin.append_ #[51, 3] 51 #[v, .int .i64 k]).run Try.prog w = .ok v' w' ∧ w'.ownsRow B 5 1 v' (l ++ List.replicate k 0).length ((l ++ List.replicate k 0).map cellOf) ∧ w.grownBy w' v.ownBlock := by
  obtain ⟨i0, hi, hz0, hz1, hz2⟩ := info_parts u8fact
  have hwk : IntKind.i64.wrap (k : Int) = (k : Int) := by rw [IntKind.wrap_i64]; omega
  have n1 : ¬ ((k : Int) < 0) := by omega
  have n2 : ¬ (281474976710656 < (k : Int)) := by omega
  have hlen : (l ++ List.replicate k (0 : UInt8)).length = l.length + k := by simp
  rcases Nat.eq_zero_or_pos k with rfl | hk0
  · have hw0 : IntKind.i64.wrap (0 : Int) = 0 := by rw [IntKind.wrap_i64]; omega
    have hself : (Builtin.append_ #[51, 3] 51 #[v, .int .i64 (0 : Nat)]).run Try.prog w = .ok v w := by
      rcases hown.2 with ⟨rfl, h0⟩ | ⟨g, cap, cur, rfl, _, _, hnc, _⟩
      · simp [Builtin.append_, run_underlying Try.underlying51, run_underlying Try.underlying3, sizeOf, typeInfo, hi, asInt, asIntOf, hw0, hz2]
      · simp [Builtin.append_, run_underlying Try.underlying51, run_underlying Try.underlying3, sizeOf, typeInfo, hi, asInt, asIntOf, hw0, hz2, hnc, storeCells]
    exact ⟨v, w, hself, by simpa using hown, World.grownBy.refl w _⟩
  · have hkn : ¬ k = 0 := by omega
    -- what the growing arm leaves
    have grown : ∀ (old : Nat), (w.drew.alloc (.cells ((l.map cellOf).toArray ++ Builtin.zeroCells (Value.int .u8 0).cells k ++ Builtin.zeroCells (Value.int .u8 0).cells (grownCap w (l.length + k) old 5 - (l.length + k))) 5)).ownsRow B 5 1 (.slice (some ⟨w.heap.size, 0, none⟩) (l.length + k) (grownCap w (l.length + k) old 5)) (l ++ List.replicate k 0).length ((l ++ List.replicate k 0).map cellOf) := by
      intro old
      have hge := grownCap_ge w (l.length + k) old 5
      have hcm : grownCap w (l.length + k) old 5 ≤ maxLen := grownCap_le_maxLen w (l.length + k) old _ (by unfold maxLen; omega)
      refine ⟨by simp, .inr ⟨w.heap.size, _, _, by rw [hlen], hB, heap_alloc_new w.drew _, by rw [hlen]; exact hge, hcm, ?_, ?_⟩⟩
      · simp only [Array.size_append, zeroCells_u8, List.size_toArray, List.length_map, List.length_replicate]
        omega
      · rw [zeroCells_u8, zeroCells_u8, hlen]
        simp only [Array.toList_append, Nat.mul_one, List.map_append]
        rw [List.take_append_of_le_length (by simp)]
        exact List.take_of_length_le (by simp)
    rcases hown.2 with ⟨rfl, h0⟩ | ⟨g, cap, cur, rfl, hbg, hg, hnc, hcm, hcs, htake⟩
    · have hl : l = [] := List.eq_nil_of_length_eq_zero h0
      subst hl
      have h := Lib.run_append_grow_zeros (P := Try.prog) w 51 3 51 5 i0 (.int .u8 0) .i64 .i64 Try.underlying51 Try.underlying3 hi hz0 none 0 0 [] (run_firstCells_none w.drew i0.size 0 0 0) k (by omega) (by omega) (by omega) (by omega) (by rw [hz2]; omega)
        (growslice_fits (by omega) (by rw [hz2]; omega))
      exact ⟨_, _, h, by have := grown 0; simpa using this, ⟨rfl, rfl, rfl, by simp, fun j hj _ => Below.heap_alloc w.drew _ j hj⟩⟩
    · by_cases hroom : l.length + k ≤ cap
      · have hst := run_storeCells_at Try.prog g l.length 5 ((List.replicate k (0 : UInt8)).map cellOf) 0 cur w hg (by simp; omega) (cells_one _)
        have hwn : (Builtin.append_ #[51, 3] 51 #[.slice (some ⟨g, 0, none⟩) l.length cap, .int .i64 k]).run Try.prog w = .ok (.slice (some ⟨g, 0, none⟩) (l.length + k) cap) (w.setRow g (cur.toList.take (l.length + 0) ++ (List.replicate k (0 : UInt8)).map cellOf ++ cur.toList.drop (l.length + 0 + ((List.replicate k (0 : UInt8)).map cellOf).length)).toArray) := by
          have hzv : (zeroValue 5).run Try.prog w = .ok (.int .u8 0) w := by simp [zeroValue, typeInfo, hi, hz0]
          simp [Builtin.append_, run_underlying Try.underlying51, run_underlying Try.underlying3, sizeOf, typeInfo, hi, asInt, asIntOf, hwk, hz1, hz2, n1, n2, hroom, hkn, zeroCells_u8]
          rw [Addr.add_mid, Nat.zero_add]
          simp only [Nat.add_zero, List.length_replicate, List.map_replicate, List.append_assoc] at hst
          rw [hst]
          rfl
        refine ⟨_, _, hwn, ⟨by simp, .inr ⟨g, cap, _, by rw [hlen], hbg, setRow_heap w g cur _ _ _ hg, by rw [hlen]; exact hroom, hcm, ?_, ?_⟩⟩, ⟨rfl, rfl, rfl, by simp, fun j _ hj => setRow_other w g j _ (fun e => hj (by simp [Value.ownBlock, e]))⟩⟩
        · simp only [List.size_toArray, List.length_append, List.length_take, List.length_drop, Array.length_toList, List.length_map, List.length_replicate]
          omega
        · rw [Nat.mul_one] at htake
          rw [Nat.add_zero, htake, hlen, Nat.mul_one, List.map_append]
          rw [List.take_append_of_le_length (by simp)]
          exact List.take_of_length_le (by simp)
      · have holds : ∀ j u, (l.map cellOf)[j]? = some u → w.drew.cell? ((⟨g, 0, none⟩ : Addr).add j) = some u := hown.cells (g := g) rfl
        have h := Lib.run_append_grow_zeros (P := Try.prog) w 51 3 51 5 i0 (.int .u8 0) .i64 .i64 Try.underlying51 Try.underlying3 hi hz0 (some ⟨g, 0, none⟩) l.length cap (l.map cellOf) (run_firstCells_some (w := w.drew) i0.size l.length ⟨g, 0, none⟩ l.length cap (l.map cellOf) (by rw [hz1]; simp) holds) k (by omega) (by omega) (by omega) (by omega) (by rw [hz2]; omega)
          (growslice_fits (by omega) (by rw [hz2]; omega))
        exact ⟨_, _, h, grown cap, ⟨rfl, rfl, rfl, by simp, fun j hj _ => Below.heap_alloc w.drew _ j hj⟩⟩
theorem wpList_append_zeros {w : World} {ops : Array Oper} {rest : List Oper} {o : Oper} {a : Act} {Q : Exit → Act → World → Prop} (hgd : o.guard = none) (s x : Operand)
    (ho : o.op = .call { callee := .builtin .append, args := #[s, x], argTypes := #[51, 3] }) (hty : o.type = 51)
    (B : Nat) (w0 : World) (v : Value) (l : Text) (hs : a.eval s = v) (hown : w.ownsRow B 5 1 v l.length (l.map cellOf)) (k : Nat) (z : Int) (hx : a.eval x = .int .i64 z) (hz : z = (k : Int)) (hk : l.length + k ≤ 4096) (hb : Below B w0 w) (hB : B ≤ w.heap.size)
    (h : ∀ v' w', w'.ownsRow B 5 1 v' (l ++ List.replicate k 0).length ((l ++ List.replicate k 0).map cellOf) → Below B w0 w' → wpList Try.prog ops Q rest (a.put o.dst v') w') :
    wpList Try.prog ops Q (o :: rest) a w := by
  subst hz
  refine wpList_plain hgd fun K hK => ?_
  obtain ⟨v', w', hr, h2, h3⟩ := append_zeros_run w B v l hown k hk hB
  unfold Oper.wp execOp
  simp only [ho, hty, resolve, invoke, builtin, Sem.run_bind, Sem.run_pure, Result.andThen_ok, List.map_toArray, List.map_cons, List.map_nil, hs, hx, hr]
  exact hK _ _ (h v' w' h2 (hb.grown h3 hB fun k hk => (hown.lt k hk).1))
end Go.Proofs.Ytfjejiapafdgeaa

namespace Go.Proofs.Ytfjejiapafdgeaa
open Go.RowKit
set_option maxRecDepth 100000
set_option linter.unusedSimpArgs false
set_option linter.unusedVariables false

structure PartV where
  s : Int
  m : Int
  A : Option Addr
  l : Text
  c : Nat
  r : Bool
/-- parts, as they lie -/
def PartsAt (w : World) (A : Option Addr) (L : List PartV) : Prop :=
  ∀ q (h : q < L.length), ∃ b off, A = some ⟨b, off, none⟩ ∧ b < w.heap.size ∧ w.cell? ⟨b, off + q * 4, none⟩ = some (.int .i64 L[q].s) ∧ w.cell? ⟨b, off + q * 4 + 1, none⟩ = some (.int .i64 L[q].m) ∧ w.cell? ⟨b, off + q * 4 + 2, none⟩ = some (.slice L[q].A L[q].l.length L[q].c) ∧
    w.cell? ⟨b, off + q * 4 + 3, none⟩ = some (.bool L[q].r) ∧ L[q].l.length ≤ L[q].c ∧ L[q].c ≤ maxLen ∧ Txt w L[q].A L[q].l ∧ (L[q].A = none → L[q].l = [])
theorem PartsAt.below {w w' : World} {A : Option Addr} {L : List PartV} (h : PartsAt w A L) (hb : Below w.heap.size w w') : PartsAt w' A L := fun q hq => by
  obtain ⟨b, off, e, hl, h0, h1, h2, h3, h4, h5, h6, h7⟩ := h q hq
  exact ⟨b, off, e, Nat.lt_of_lt_of_le hl hb.size, (hb.cell hl).trans h0, (hb.cell hl).trans h1, (hb.cell hl).trans h2, (hb.cell hl).trans h3, h4, h5, h6.below hb, h7⟩
/-- a sector of any bytes, cut or filled -/
def rawT (l : Text) : Text := (l ++ List.replicate 64 0).take 64
theorem rawT_len (l : Text) : (rawT l).length = 64 := by unfold rawT; rw [List.length_take, List.length_append, List.length_replicate]; omega
/-- a batch's sectors, or none -/
def partP (s : Int) (l : Text) : List Text := if headOk s l.length = true then pagesT s.toNat l else []
/-- the first ones of them -/
def cutM (m : Int) (P : List Text) : List Text := if 0 ≤ m ∧ m < P.length then P.take m.toNat else P
def PartV.pages (o : PartV) : List Text := if o.r = true then [rawT o.l] else cutM o.m (partP o.s o.l)
def lawP (L : List PartV) : List Text := (L.map PartV.pages).flatten
theorem lawP_next (L : List PartV) (k : Nat) (h : k < L.length) : lawP (L.take (k + 1)) = lawP (L.take k) ++ L[k].pages := by
  unfold lawP
  rw [← List.take_append_getElem h, List.map_append, List.flatten_append]
  simp
theorem part_len (s : Int) (l : Text) : (partP s l).length ≤ manyC l + 2 := by
  unfold partP
  split
  · rw [pagesT_len]; exact Nat.le_refl _
  · exact Nat.zero_le _
theorem cutM_len (m : Int) (P : List Text) : (cutM m P).length ≤ P.length := by
  unfold cutM
  split
  · rw [List.length_take]; omega
  · exact Nat.le_refl _
theorem pages_len (o : PartV) (h : o.l.length ≤ 1000) : o.pages.length ≤ 18 := by
  unfold PartV.pages
  split
  · simp
  · have h1 := cutM_len o.m (partP o.s o.l)
    have h2 := part_len o.s o.l
    have h3 : manyC o.l ≤ 16 := by unfold manyC; omega
    omega
theorem lawP_len (L : List PartV) (h : ∀ q (hq : q < L.length), L[q].l.length ≤ 1000) : ∀ k, k ≤ L.length → (lawP (L.take k)).length ≤ 18 * k := by
  intro k
  induction k with
  | zero => intro _; simp [lawP]
  | succ k ih =>
    intro hk
    rw [lawP_next L k (by omega), List.length_append]
    have h1 := ih (by omega)
    have h2 := pages_len L[k] (h k (by omega))
    omega

/-- where a batch's sectors lie -/
def SecsAt (w : World) (A : Option Addr) (c : Nat) (M : List Text) : Prop := (A = none ∧ M = [] ∧ c = 0) ∨ ∃ g, A = some ⟨g, 0, none⟩ ∧ TextsAt w g M ∧ M.length ≤ c
theorem SecsAt.on {w w' : World} {A : Option Addr} {c : Nat} {M : List Text} (h : SecsAt w A c M) (hb : Below w.heap.size w w') : SecsAt w' A c M := by
  rcases h with h | ⟨g, e, h, h'⟩
  · exact .inl h
  · refine .inr ⟨g, e, fun j hj => ?_, h'⟩
    obtain ⟨b, c, q1, q2, q3, q4, q5, q6⟩ := h j hj
    exact ⟨b, c, cell_on hb q1, q2, q3, range_on hb q4, Nat.lt_of_lt_of_le q5 hb.size, q6⟩
theorem ref_pagesA (s : Int) (l : Text) (A : Option Addr) (c : Nat) (w : World) (hl : l.length ≤ 1000) (hc : l.length ≤ c) (hT : Txt w A l) :
    Calls Try.prog 26 #[.int .i64 s, .slice A l.length c] w fun e w' => ∃ B9 c9 x, e = .returned (.tuple #[.slice B9 (partP s l).length c9, .int .i64 x]) ∧ SecsAt w' B9 c9 (partP s l) ∧ Below w.heap.size w w' := by
  cases hh : headOk s l.length with
  | false =>
    have e : partP s l = [] := by unfold partP; rw [hh]; rfl
    rw [e]
    refine (ref_pages_no s l A c w (by omega) hT hh).mono ?_
    rintro e w' ⟨rfl, hb⟩
    exact ⟨none, 0, 2, rfl, .inl ⟨rfl, rfl, rfl⟩, hb⟩
  | true =>
    have e : partP s l = pagesT s.toNat l := by unfold partP; rw [if_pos hh]
    rw [e]
    have h2 := headOk_len hh
    unfold headOk seqOk at hh
    simp only [Bool.and_eq_true, decide_eq_true_eq] at hh
    obtain ⟨n, rfl⟩ : ∃ n : Nat, s = n := ⟨s.toNat, by omega⟩
    rw [Int.toNat_natCast]
    refine (ref_pages_yes n l A c w (by omega) (by omega) (by omega) (by omega) hc hT).mono ?_
    rintro e w' ⟨g, c9, rfl, ho, hb⟩
    obtain ⟨g', c', e', _, _, hcc⟩ := ho.form (by rw [pagesT_len]; omega)
    injection e' with _ _ e2
    subst e2
    exact ⟨_, _, 0, rfl, .inr ⟨g, rfl, ho.texts rfl, hcc⟩, hb⟩
theorem append_texts_any (w : World) (B : Nat) (v : Value) (L : List Text) (hown : OwnT B v L w) (hz : L = [] → v = .slice none 0 0) (A2 : Option Addr) (c2 : Nat) (M : List Text) (hM : SecsAt w A2 c2 M) (hL : L.length + M.length ≤ 100000) (hB : B ≤ w.heap.size) :
    ∃ v' w', (Builtin.append_ #[31, 31] 31 #[v, .slice A2 M.length c2]).run Try.prog w = .ok v' w' ∧ OwnT B v' (L ++ M) w' ∧ w.grownBy w' v.ownBlock ∧ (v'.ownBlock = v.ownBlock ∨ v'.ownBlock = some w.heap.size) ∧ (L ++ M = [] → v' = .slice none 0 0) := by
  rcases hM with ⟨rfl, rfl, rfl⟩ | ⟨g, rfl, hM, _⟩
  · obtain ⟨i0, hi, hz0, hz1, hz2⟩ := info_parts rowFact
    refine ⟨v, w, ?_, by simpa using hown, World.grownBy.refl w _, .inl rfl, by simpa using hz⟩
    obtain ⟨xs, h1, _⟩ := hown
    rcases h1.2 with ⟨rfl, h0⟩ | ⟨g, cap, cur, rfl, _, _, hnc, _⟩
    · simp [Builtin.append_, run_underlying Try.underlying31, sizeOf, typeInfo, hi, Builtin.lenOf, Builtin.firstCells]
    · simp [Builtin.append_, run_underlying Try.underlying31, sizeOf, typeInfo, hi, Builtin.lenOf, Builtin.firstCells, hnc, storeCells]
  · exact append_texts_run w B v L hown hz g c2 M hM hL hB
theorem wpList_append_texts {w : World} {ops : Array Oper} {rest : List Oper} {o : Oper} {a : Act} {Q : Exit → Act → World → Prop} (hgd : o.guard = none) (s x : Operand)
    (ho : o.op = .call { callee := .builtin .append, args := #[s, x], argTypes := #[31, 31] }) (hty : o.type = 31)
    (B : Nat) (v : Value) (L : List Text) (hs : a.eval s = v) (hown : OwnT B v L w) (hz : L = [] → v = .slice none 0 0) (A2 : Option Addr) (n2 c2 : Nat) (hx : a.eval x = .slice A2 n2 c2) (M : List Text) (hn : n2 = M.length) (hM : SecsAt w A2 c2 M) (hL : L.length + M.length ≤ 100000) (hB : B ≤ w.heap.size)
    (h : ∀ v' w', OwnT B v' (L ++ M) w' → w.grownBy w' v.ownBlock → (L ++ M = [] → v' = .slice none 0 0) → wpList Try.prog ops Q rest (a.put o.dst v') w') : wpList Try.prog ops Q (o :: rest) a w :=
  wpList_plain hgd fun K hK => by
    subst hn
    obtain ⟨v', w', q1, q2, q3, q4, q5⟩ := append_texts_any w B v L hown hz A2 c2 M hM hL hB
    unfold Oper.wp execOp
    simp only [ho, hty, resolve, invoke, builtin, Sem.run_bind, Sem.run_pure, Result.andThen_ok, List.map_toArray, List.map_cons, List.map_nil, hs, hx, q1]
    exact hK _ _ (h v' w' q2 q3 q5)
end Go.Proofs.Ytfjejiapafdgeaa
