/- The statements' own pages: what stands behind a list of parts. A disk made; a sector laid over; power. -/
import Derived.Test.YthgakgjhcadajaaJ28
import Derived.Test.YthgakgjhcadajaaJ29
import Derived.Test.YthgakgjhcadajaaJ24
import Derived.Test.YthgakgjhcadajaaJ9
import Derived.Deep.RegionHeld3
import Derived.Test.YthgakgjhcadajaaJ8
namespace Go.Proofs.Ythgakgjhcadajaa
open Go.RowKit
set_option maxRecDepth 100000
set_option linter.unusedSimpArgs false
set_option linter.unusedVariables false

structure PartV where
  s : Int
  m : Int
  A : Option Addr
  l : Text
  c : Nat
  r : Bool
/-- parts, as they lie -/
def PartsAt (w : World) (A : Option Addr) (L : List PartV) : Prop :=
  ∀ q (h : q < L.length), ∃ b off, A = some ⟨b, off, none⟩ ∧ b < w.heap.size ∧ w.cell? ⟨b, off + q * 4, none⟩ = some (.int .i64 L[q].s) ∧ w.cell? ⟨b, off + q * 4 + 1, none⟩ = some (.int .i64 L[q].m) ∧ w.cell? ⟨b, off + q * 4 + 2, none⟩ = some (.slice L[q].A L[q].l.length L[q].c) ∧
    w.cell? ⟨b, off + q * 4 + 3, none⟩ = some (.bool L[q].r) ∧ L[q].l.length ≤ L[q].c ∧ L[q].c ≤ maxLen ∧ Txt w L[q].A L[q].l ∧ (L[q].A = none → L[q].l = [])
theorem PartsAt.below {w w' : World} {A : Option Addr} {L : List PartV} (h : PartsAt w A L) (hb : Below w.heap.size w w') : PartsAt w' A L := fun q hq => by
  obtain ⟨b, off, e, hl, h0, h1, h2, h3, h4, h5, h6, h7⟩ := h q hq
  exact ⟨b, off, e, Nat.lt_of_lt_of_le hl hb.size, (hb.cell hl).trans h0, (hb.cell hl).trans h1, (hb.cell hl).trans h2, (hb.cell hl).trans h3, h4, h5, h6.below hb, h7⟩
/-- a sector of any bytes, cut or filled -/
def rawT (l : Text) : Text := (l ++ List.replicate 64 0).take 64
theorem rawT_len (l : Text) : (rawT l).length = 64 := by unfold rawT; rw [List.length_take, List.length_append, List.length_replicate]; omega
/-- a batch's sectors, or none -/
def partP (s : Int) (l : Text) : List Text := if headOk s l.length = true then pagesT s.toNat l else []
/-- the first ones of them -/
def cutM (m : Int) (P : List Text) : List Text := if 0 ≤ m ∧ m < P.length then P.take m.toNat else P
def PartV.pages (o : PartV) : List Text := if o.r = true then [rawT o.l] else cutM o.m (partP o.s o.l)
def lawP (L : List PartV) : List Text := (L.map PartV.pages).flatten
theorem lawP_next (L : List PartV) (k : Nat) (h : k < L.length) : lawP (L.take (k + 1)) = lawP (L.take k) ++ L[k].pages := by
  unfold lawP
  rw [← List.take_append_getElem h, List.map_append, List.flatten_append]
  simp
theorem part_len (s : Int) (l : Text) : (partP s l).length ≤ manyC l + 2 := by
  unfold partP
  split
  · rw [pagesT_len]; exact Nat.le_refl _
  · exact Nat.zero_le _
theorem cutM_len (m : Int) (P : List Text) : (cutM m P).length ≤ P.length := by
  unfold cutM
  split
  · rw [List.length_take]; omega
  · exact Nat.le_refl _
theorem pages_len (o : PartV) (h : o.l.length ≤ 1000) : o.pages.length ≤ 18 := by
  unfold PartV.pages
  split
  · simp
  · have h1 := cutM_len o.m (partP o.s o.l)
    have h2 := part_len o.s o.l
    have h3 : manyC o.l ≤ 16 := by unfold manyC; omega
    omega
theorem lawP_len (L : List PartV) (h : ∀ q (hq : q < L.length), L[q].l.length ≤ 1000) : ∀ k, k ≤ L.length → (lawP (L.take k)).length ≤ 18 * k := by
  intro k
  induction k with
  | zero => intro _; simp [lawP]
  | succ k ih =>
    intro hk
    rw [lawP_next L k (by omega), List.length_append]
    have h1 := ih (by omega)
    have h2 := pages_len L[k] (h k (by omega))
    omega

/-- where a batch's sectors lie -/
def SecsAt (w : World) (A : Option Addr) (c : Nat) (M : List Text) : Prop := (A = none ∧ M = [] ∧ c = 0) ∨ ∃ g, A = some ⟨g, 0, none⟩ ∧ TextsAt w g M ∧ M.length ≤ c
theorem SecsAt.on {w w' : World} {A : Option Addr} {c : Nat} {M : List Text} (h : SecsAt w A c M) (hb : Below w.heap.size w w') : SecsAt w' A c M := by
  rcases h with h | ⟨g, e, h, h'⟩
  · exact .inl h
  · refine .inr ⟨g, e, fun j hj => ?_, h'⟩
    obtain ⟨b, c, q1, q2, q3, q4, q5, q6⟩ := h j hj
    exact ⟨b, c, cell_on hb q1, q2, q3, range_on hb q4, Nat.lt_of_lt_of_le q5 hb.size, q6⟩
theorem ref_pagesA (s : Int) (l : Text) (A : Option Addr) (c : Nat) (w : World) (hl : l.length ≤ 1000) (hc : l.length ≤ c) (hT : Txt w A l) :
    Calls Try.prog 26 #[.int .i64 s, .slice A l.length c] w fun e w' => ∃ B9 c9 x, e = .returned (.tuple #[.slice B9 (partP s l).length c9, .int .i64 x]) ∧ SecsAt w' B9 c9 (partP s l) ∧ Below w.heap.size w w' := by
  cases hh : headOk s l.length with
  | false =>
    have e : partP s l = [] := by unfold partP; rw [hh]; rfl
    rw [e]
    refine (ref_pages_no s l A c w (by omega) hT hh).mono ?_
    rintro e w' ⟨rfl, hb⟩
    exact ⟨none, 0, 2, rfl, .inl ⟨rfl, rfl, rfl⟩, hb⟩
  | true =>
    have e : partP s l = pagesT s.toNat l := by unfold partP; rw [if_pos hh]
    rw [e]
    have h2 := headOk_len hh
    unfold headOk seqOk at hh
    simp only [Bool.and_eq_true, decide_eq_true_eq] at hh
    obtain ⟨n, rfl⟩ : ∃ n : Nat, s = n := ⟨s.toNat, by omega⟩
    rw [Int.toNat_natCast]
    refine (ref_pages_yes n l A c w (by omega) (by omega) (by omega) (by omega) hc hT).mono ?_
    rintro e w' ⟨g, c9, rfl, ho, hb⟩
    obtain ⟨g', c', e', _, _, hcc⟩ := ho.form (by rw [pagesT_len]; omega)
    injection e' with _ _ e2
    subst e2
    exact ⟨_, _, 0, rfl, .inr ⟨g, rfl, ho.texts rfl, hcc⟩, hb⟩
theorem append_texts_any (w : World) (B : Nat) (v : Value) (L : List Text) (hown : OwnT B v L w) (hz : L = [] → v = .slice none 0 0) (A2 : Option Addr) (c2 : Nat) (M : List Text) (hM : SecsAt w A2 c2 M) (hL : L.length + M.length ≤ 100000) (hB : B ≤ w.heap.size) :
    ∃ v' w', (Builtin.append_ #[31, 31] 31 #[v, .slice A2 M.length c2]).run Try.prog w = .ok v' w' ∧ OwnT B v' (L ++ M) w' ∧ w.grownBy w' v.ownBlock ∧ (v'.ownBlock = v.ownBlock ∨ v'.ownBlock = some w.heap.size) ∧ (L ++ M = [] → v' = .slice none 0 0) := by
  rcases hM with ⟨rfl, rfl, rfl⟩ | ⟨g, rfl, hM, _⟩
  · obtain ⟨i0, hi, hz0, hz1, hz2⟩ := info_parts rowFact
    refine ⟨v, w, ?_, by simpa using hown, World.grownBy.refl w _, .inl rfl, by simpa using hz⟩
    obtain ⟨xs, h1, _⟩ := hown
    rcases h1.2 with ⟨rfl, h0⟩ | ⟨g, cap, cur, rfl, _, _, hnc, _⟩
    · simp [Builtin.append_, run_underlying Try.underlying31, sizeOf, typeInfo, hi, Builtin.lenOf, Builtin.firstCells]
    · simp [Builtin.append_, run_underlying Try.underlying31, sizeOf, typeInfo, hi, Builtin.lenOf, Builtin.firstCells, hnc, storeCells]
  · exact append_texts_run w B v L hown hz g c2 M hM hL hB
theorem wpList_append_texts {w : World} {ops : Array Oper} {rest : List Oper} {o : Oper} {a : Act} {Q : Exit → Act → World → Prop} (hgd : o.guard = none) (s x : Operand)
    (ho : o.op = .call { callee := .builtin .append, args := #[s, x], argTypes := #[31, 31] }) (hty : o.type = 31)
    (B : Nat) (v : Value) (L : List Text) (hs : a.eval s = v) (hown : OwnT B v L w) (hz : L = [] → v = .slice none 0 0) (A2 : Option Addr) (n2 c2 : Nat) (hx : a.eval x = .slice A2 n2 c2) (M : List Text) (hn : n2 = M.length) (hM : SecsAt w A2 c2 M) (hL : L.length + M.length ≤ 100000) (hB : B ≤ w.heap.size)
    (h : ∀ v' w', OwnT B v' (L ++ M) w' → w.grownBy w' v.ownBlock → (L ++ M = [] → v' = .slice none 0 0) → wpList Try.prog ops Q rest (a.put o.dst v') w') : wpList Try.prog ops Q (o :: rest) a w :=
  wpList_plain hgd fun K hK => by
    subst hn
    obtain ⟨v', w', q1, q2, q3, q4, q5⟩ := append_texts_any w B v L hown hz A2 c2 M hM hL hB
    unfold Oper.wp execOp
    simp only [ho, hty, resolve, invoke, builtin, Sem.run_bind, Sem.run_pure, Result.andThen_ok, List.map_toArray, List.map_cons, List.map_nil, hs, hx, q1]
    exact hK _ _ (h v' w' q2 q3 q5)
end Go.Proofs.Ythgakgjhcadajaa

namespace Go.Proofs.Ythgakgjhcadajaa
open Go.RowKit
set_option maxRecDepth 100000

theorem look_page {w : World} {bm n : Nat} {d : DiskV} (h : PagesD w bm n d) (i : Nat) (hi : i < d.many) (hm : d.many ≤ 4096) :
    (Instr.lookup 56 (.map (some bm)) (.int .i64 i) false).run Try.prog w = .ok (pageV (d.S i)) w := by
  obtain ⟨D, h1, h2⟩ := h
  obtain ⟨v, ps, hr, hv⟩ := h1.lookup keyInt Try.underlying56 (zero_page pageS w) (pageR_mk zeros_len) (key_of i (by omega))
  rw [(h2 i hi).1] at hv
  rw [hr, (pageR_inv hv).1]

theorem wpList_look_page {w : World} {ops : Array Oper} {rest : List Oper} {o : Oper} {a : Act} {Q : Exit → Act → World → Prop} (hgd : o.guard = none) (m x : Operand) (ho : o.op = .lookup 56 m x false)
    {bm n : Nat} {d : DiskV} (h : PagesD w bm n d) (i : Nat) (hi : i < d.many) (hm : d.many ≤ 4096) (hmv : a.eval m = .map (some bm)) (hx : a.eval x = .int .i64 i)
    (hK : wpList Try.prog ops Q rest (a.put o.dst (pageV (d.S i))) w) : wpList Try.prog ops Q (o :: rest) a w := by
  refine wpList_plain hgd fun K hK' => ?_
  have hr := look_page h i hi hm
  unfold Oper.wp execOp
  simp only [ho, hmv, hx, Sem.run_bind, hr, Result.andThen_ok, Sem.run_pure]
  exact hK' _ _ hK

/-- sector i laid over by a text -/
def DiskV.lay (d : DiskV) (i : Nat) (m : Text) : DiskV := { d with S := fun k => if k = i then overP (d.S i) m else d.S k }

theorem del_pages {w : World} {bm n : Nat} {d : DiskV} (h : PagesD w bm n d) (i : Nat) (hi : i < d.many) (hm : d.many ≤ 4096) (m : Text) (hz : overP (d.S i) m = zeros) (ty : TypeId) :
    ∃ w', (Builtin.delete_ #[56, 3] ty #[.map (some bm), .int .i64 i]).run Try.prog w = .ok (.tuple #[]) w' ∧ PagesD w' bm n (d.lay i m) ∧ w.mapTurned w' bm := by
  obtain ⟨D, h1, h2⟩ := h
  obtain ⟨w', hr, h3, h4⟩ := h1.drop keyInt Try.underlying56 (key_of i (by omega)) ty
  refine ⟨w', hr, ⟨_, h3, fun k hk => ?_⟩, h4⟩
  unfold DiskV.lay
  by_cases e : k = i
  · subst e
    simp only [if_true, hz]
    exact ⟨Maps.atKey_del_same _, zeros_len⟩
  · simp only [if_neg e]
    rw [Maps.atKey_del_other (by intro h; injection h with _ h; omega)]
    exact h2 k hk
theorem keyLit {i : Int} : WideAt.IsKeyLit (.int .i64 i) := by simp [WideAt.IsKeyLit]
theorem put_pages {w : World} {bm n : Nat} {d : DiskV} (h : PagesD w bm n d) (i : Nat) (hi : i < d.many) (hm : d.many ≤ 4096) (m : Text) (hn : n < maxLen) :
    ∃ w', (Instr.mapUpdate 56 (.map (some bm)) (.int .i64 i) (pageV (overP (d.S i) m))).run Try.prog w = .ok () w' ∧ PagesD w' bm (n + 1) (d.lay i m) ∧ w.mapTurned w' bm := by
  obtain ⟨D, h1, h2⟩ := h
  obtain ⟨w', hr, h3, h4⟩ := h1.store keyInt Try.underlying56 hn (key_of i (by omega)) (pageR_mk (overP_len (h2 i hi).2))
  refine ⟨w', hr, ⟨_, h3, fun k hk => ?_⟩, h4⟩
  unfold DiskV.lay
  by_cases e : k = i
  · subst e
    simp only [if_true]
    exact ⟨Maps.atKey_put_same h1.isMap keyLit _ _, overP_len (h2 k hk).2⟩
  · simp only [if_neg e]
    rw [Maps.atKey_put_other (by intro h; injection h with _ h; omega)]
    exact h2 k hk
theorem PagesD.mono {w : World} {bm n n' : Nat} {d : DiskV} (h : PagesD w bm n d) (hn : n ≤ n') : PagesD w bm n' d := let ⟨D, h1, h2⟩ := h; ⟨D, h1.mono hn, h2⟩

theorem turned_chg {w w' : World} {B bm : Nat} (h : w.mapTurned w' bm) : ChgD w w' B bm := by
  have hg := h.grown
  exact ⟨hg.os, hg.tape, hg.output, hg.size, fun k hk _ h2 => hg.block k hk (fun e => h2 (by injection e))⟩

theorem code_dnone (w : World) (many : Int) (h : many < 1 ∨ 4096 < many) : Calls Try.prog 29 #[.int .i64 many] w fun e w' => e = .returned (.pointer none) ∧ w = w' := by
  by_cases h1 : many < 1
  · go_enter Try.func29, Try.ntmps29
    go_wp2
    go_ret
    exact ⟨rfl, rfl⟩
  · have h2 : 4096 < many := by omega
    have h1' : 1 ≤ many := by omega
    go_enter Try.func29, Try.ntmps29
    go_wp2
    go_ret
    exact ⟨rfl, rfl⟩
/-- a new disk of so many sectors -/
def newD (many : Nat) : DiskV := ⟨many, fun _ => zeros, false, false, 0, 0, 0⟩
theorem code_dnew (w : World) (many : Int) (h1 : 1 ≤ many) (h2 : many ≤ 4096) : Calls Try.prog 29 #[.int .i64 many] w fun e w' =>
    e = .returned (.pointer (some ⟨w.heap.size + 1, 0, none⟩)) ∧ Dsk w' (w.heap.size + 1) w.heap.size 0 (newD many.toNat) ∧ Below w.heap.size w w' := by
  have hmm := @run_makeMap Try.prog
  go_enter Try.func29, Try.ntmps29
  go_wp2
  go_ret
  refine ⟨rfl, ⟨?_, ⟨.map [], (World.ownsMap_made w _ _ _).alloc _, fun i _ => ⟨rfl, zeros_len⟩⟩, ?_, ?_, ?_⟩, ?_⟩
  · have := heap_alloc_new (w.alloc (.map #[] 0)) (.cells (cellsD w.heap.size (newD many.toNat)) 60)
    rw [World.size_alloc] at this
    have e : cellsD w.heap.size (newD many.toNat) = #[.int .i64 many, .map (some w.heap.size), .bool false, .bool false, .int .i64 0, .int .i64 0, .int .i64 0] := by
      simp [cellsD, newD]; omega
    rw [e] at this
    simpa [e] using this
  · show many.toNat ≤ 4096
    omega
  · omega
  · show 0 < many.toNat
    omega
  · exact ((Below.refl _ w).alloc (Nat.le_refl _) _).alloc (by simp) _
end Go.Proofs.Ythgakgjhcadajaa
