/- Two steps of a walk through a statement whose order is open: one operation taken first; one call that comes up alone. A disk made; a sector laid over; power. A sector laid over. -/
import Derived.Deep.RegionHeld3
import Derived.Test.YtfjejiapafdgeaaJ1
namespace Go.Proofs.Ytfjejiapafdgeaa
set_option maxRecDepth 100000

section
variable {P : Program} {ops : Array Oper} {Q : Exit → Act → World → Prop} {md : Region.Mode} {S : World → Prop}

/-- an operation that yields in every world that meets S, or is not wanted, is taken first -/
theorem takeH {i : Nat} {dst : Option Tmp} {op : Op} {ty : TypeId} {pos : String} {after : Array Edge} {guard : Option (Nat × Bool)} {v : Value} {fuel : Nat} {listed : Array Bool} {a : Act} {w : World}
    (hi : ops[i]? = some { dst := dst, op := op, type := ty, pos := pos, after := after, guard := guard })
    (hs : Region.noSelect ops = true) (hf : Region.free md ops listed i = true) (hr : (Region.ready md ops listed).contains i = true)
    (hQ : ∀ c a w, Q (.panic c) (a.put dst v) w → Q (.panic c) a w)
    (hy : YieldsIf P ops S { dst := dst, op := op, type := ty, pos := pos, after := after, guard := guard } v a) (hS : S w)
    (h : wpAnyH P md ops Q S fuel (listed.setIfInBounds i true) (a.put dst v) w) : wpAnyH P md ops Q S (fuel + 1) listed a w :=
  wpAnyH_take hi hs hf hr hQ hy hS h

theorem takeP {i : Nat} {dst : Option Tmp} {op : Op} {ty : TypeId} {pos : String} {after : Array Edge} {guard : Option (Nat × Bool)} {fuel : Nat} {listed : Array Bool} {a : Act} {w : World} (v : Value)
    (hi : ops[i]? = some { dst := dst, op := op, type := ty, pos := pos, after := after, guard := guard })
    (hy : YieldsIf P ops S { dst := dst, op := op, type := ty, pos := pos, after := after, guard := guard } v a)
    (h : wpAnyH P md ops Q S fuel (listed.setIfInBounds i true) (a.put dst v) w)
    (hs : Region.noSelect ops = true := by kernel_rfl) (hf : Region.free md ops listed i = true := by kernel_rfl) (hr : (Region.ready md ops listed).contains i = true := by kernel_rfl)
    (hQ : ∀ c a w, Q (.panic c) (a.put dst v) w → Q (.panic c) a w := by exact fun _ _ _ h => h) (hS : S w := by assumption) : wpAnyH P md ops Q S (fuel + 1) listed a w :=
  takeH hi hs hf hr hQ hy hS h
theorem pA {α : Type} (l : List α) (i : Nat) (a : α) : l.toArray.setIfInBounds i a = (l.set i a).toArray := List.setIfInBounds_toArray ..
theorem pB {α : Type} {x b : α} {xs : List α} : (x :: xs).set 0 b = b :: xs := List.set_cons_zero
theorem pC {α : Type} {x b : α} {xs : List α} {n : Nat} : (x :: xs).set (n + 1) b = x :: xs.set n b := List.set_cons_succ
/-- a call that comes up alone -/
theorem aloneH {i : Nat} {dst : Option Tmp} {op : Op} {ty : TypeId} {pos : String} {after : Array Edge} {guard : Option (Nat × Bool)} {fuel : Nat} {listed : Array Bool} {a : Act} {w : World}
    (hi : ops[i]? = some { dst := dst, op := op, type := ty, pos := pos, after := after, guard := guard })
    (hr : Region.ready md ops listed = [i])
    (h : ∀ K' : Act → World → Prop, Shut (∀ a w, S w → (S w → wpAnyH P md ops Q S fuel (listed.setIfInBounds i true) a w) → K' a w) →
      if Region.wanted { dst := dst, op := op, type := ty, pos := pos, after := after, guard := guard } (yielded ops a.tmps) = true then
        Oper.wp P { dst := dst, op := op, type := ty, pos := pos, after := after, guard := guard } a w K' Q else K' (a.put dst undef) w) :
    wpAnyH P md ops Q S (fuel + 1) listed a w :=
  wpAnyH_ready hr (by simp) (AllReadyH.cons hi h AllReadyH.nil)
/-- what is held may be said more strongly from here on -/
theorem wpAnyH_imp {S' : World → Prop} (himp : ∀ w, S' w → S w) : ∀ (fuel : Nat) (listed : Array Bool) (a : Act) (w : World), wpAnyH P md ops Q S' fuel listed a w → wpAnyH P md ops Q S fuel listed a w
  | 0, _, _, _, h => h
  | fuel + 1, _, _, _, h => ⟨h.1, fun i hi => wpOp_mono (fun a' w' h' => ⟨himp w' h'.1, wpAnyH_imp himp fuel _ a' w' h'.2⟩) (h.2 i hi)⟩
end
end Go.Proofs.Ytfjejiapafdgeaa

namespace Go.Proofs.Ytfjejiapafdgeaa
open Go.RowKit
set_option maxRecDepth 100000

theorem look_page {w : World} {bm n : Nat} {d : DiskV} (h : PagesD w bm n d) (i : Nat) (hi : i < d.many) (hm : d.many ≤ 4096) :
    (Instr.lookup 56 (.map (some bm)) (.int .i64 i) false).run Try.prog w = .ok (pageV (d.S i)) w := by
  obtain ⟨D, h1, h2⟩ := h
  obtain ⟨v, ps, hr, hv⟩ := h1.lookup keyInt Try.underlying56 (zero_page pageS w) (pageR_mk zeros_len) (key_of i (by omega))
  rw [(h2 i hi).1] at hv
  rw [hr, (pageR_inv hv).1]

theorem wpList_look_page {w : World} {ops : Array Oper} {rest : List Oper} {o : Oper} {a : Act} {Q : Exit → Act → World → Prop} (hgd : o.guard = none) (m x : Operand) (ho : o.op = .lookup 56 m x false)
    {bm n : Nat} {d : DiskV} (h : PagesD w bm n d) (i : Nat) (hi : i < d.many) (hm : d.many ≤ 4096) (hmv : a.eval m = .map (some bm)) (hx : a.eval x = .int .i64 i)
    (hK : wpList Try.prog ops Q rest (a.put o.dst (pageV (d.S i))) w) : wpList Try.prog ops Q (o :: rest) a w := by
  refine wpList_plain hgd fun K hK' => ?_
  have hr := look_page h i hi hm
  unfold Oper.wp execOp
  simp only [ho, hmv, hx, Sem.run_bind, hr, Result.andThen_ok, Sem.run_pure]
  exact hK' _ _ hK

/-- sector i laid over by a text -/
def DiskV.lay (d : DiskV) (i : Nat) (m : Text) : DiskV := { d with S := fun k => if k = i then overP (d.S i) m else d.S k }

theorem del_pages {w : World} {bm n : Nat} {d : DiskV} (h : PagesD w bm n d) (i : Nat) (hi : i < d.many) (hm : d.many ≤ 4096) (m : Text) (hz : overP (d.S i) m = zeros) (ty : TypeId) :
    ∃ w', (Builtin.delete_ #[56, 3] ty #[.map (some bm), .int .i64 i]).run Try.prog w = .ok (.tuple #[]) w' ∧ PagesD w' bm n (d.lay i m) ∧ w.mapTurned w' bm := by
  obtain ⟨D, h1, h2⟩ := h
  obtain ⟨w', hr, h3, h4⟩ := h1.drop keyInt Try.underlying56 (key_of i (by omega)) ty
  refine ⟨w', hr, ⟨_, h3, fun k hk => ?_⟩, h4⟩
  unfold DiskV.lay
  by_cases e : k = i
  · subst e
    simp only [if_true, hz]
    exact ⟨Maps.atKey_del_same _, zeros_len⟩
  · simp only [if_neg e]
    rw [Maps.atKey_del_other (by intro h; injection h with _ h; omega)]
    exact h2 k hk
theorem keyLit {i : Int} : WideAt.IsKeyLit (.int .i64 i) := by simp [WideAt.IsKeyLit]
theorem put_pages {w : World} {bm n : Nat} {d : DiskV} (h : PagesD w bm n d) (i : Nat) (hi : i < d.many) (hm : d.many ≤ 4096) (m : Text) (hn : n < maxLen) :
    ∃ w', (Instr.mapUpdate 56 (.map (some bm)) (.int .i64 i) (pageV (overP (d.S i) m))).run Try.prog w = .ok () w' ∧ PagesD w' bm (n + 1) (d.lay i m) ∧ w.mapTurned w' bm := by
  obtain ⟨D, h1, h2⟩ := h
  obtain ⟨w', hr, h3, h4⟩ := h1.store keyInt Try.underlying56 hn (key_of i (by omega)) (pageR_mk (overP_len (h2 i hi).2))
  refine ⟨w', hr, ⟨_, h3, fun k hk => ?_⟩, h4⟩
  unfold DiskV.lay
  by_cases e : k = i
  · subst e
    simp only [if_true]
    exact ⟨Maps.atKey_put_same h1.isMap keyLit _ _, overP_len (h2 k hk).2⟩
  · simp only [if_neg e]
    rw [Maps.atKey_put_other (by intro h; injection h with _ h; omega)]
    exact h2 k hk
theorem PagesD.mono {w : World} {bm n n' : Nat} {d : DiskV} (h : PagesD w bm n d) (hn : n ≤ n') : PagesD w bm n' d := let ⟨D, h1, h2⟩ := h; ⟨D, h1.mono hn, h2⟩

theorem turned_chg {w w' : World} {B bm : Nat} (h : w.mapTurned w' bm) : ChgD w w' B bm := by
  have hg := h.grown
  exact ⟨hg.os, hg.tape, hg.output, hg.size, fun k hk _ h2 => hg.block k hk (fun e => h2 (by injection e))⟩

theorem code_dnone (w : World) (many : Int) (h : many < 1 ∨ 4096 < many) : Calls Try.prog 29 #[.int .i64 many] w fun e w' => e = .returned (.pointer none) ∧ w = w' := by
  by_cases h1 : many < 1
  · go_enter Try.func29, Try.ntmps29
    go_wp2
    go_ret
    exact ⟨rfl, rfl⟩
  · have h2 : 4096 < many := by omega
    have h1' : 1 ≤ many := by omega
    go_enter Try.func29, Try.ntmps29
    go_wp2
    go_ret
    exact ⟨rfl, rfl⟩
/-- a new disk of so many sectors -/
def newD (many : Nat) : DiskV := ⟨many, fun _ => zeros, false, false, 0, 0, 0⟩
theorem code_dnew (w : World) (many : Int) (h1 : 1 ≤ many) (h2 : many ≤ 4096) : Calls Try.prog 29 #[.int .i64 many] w fun e w' =>
    e = .returned (.pointer (some ⟨w.heap.size + 1, 0, none⟩)) ∧ Dsk w' (w.heap.size + 1) w.heap.size 0 (newD many.toNat) ∧ Below w.heap.size w w' := by
  have hmm := @run_makeMap Try.prog
  go_enter Try.func29, Try.ntmps29
  go_wp2
  go_ret
  refine ⟨rfl, ⟨?_, ⟨.map [], (World.ownsMap_made w _ _ _).alloc _, fun i _ => ⟨rfl, zeros_len⟩⟩, ?_, ?_, ?_⟩, ?_⟩
  · have := heap_alloc_new (w.alloc (.map #[] 0)) (.cells (cellsD w.heap.size (newD many.toNat)) 60)
    rw [World.size_alloc] at this
    have e : cellsD w.heap.size (newD many.toNat) = #[.int .i64 many, .map (some w.heap.size), .bool false, .bool false, .int .i64 0, .int .i64 0, .int .i64 0] := by
      simp [cellsD, newD]; omega
    rw [e] at this
    simpa [e] using this
  · show many.toNat ≤ 4096
    omega
  · omega
  · show 0 < many.toNat
    omega
  · exact ((Below.refl _ w).alloc (Nat.le_refl _) _).alloc (by simp) _
end Go.Proofs.Ytfjejiapafdgeaa

namespace Go.Proofs.Ytfjejiapafdgeaa
open Go.RowKit
set_option maxRecDepth 100000

theorem wp_put_page {o : Oper} {a : Act} {w : World} {K : Act → World → Prop} {Q : Exit → Act → World → Prop} (m x v : Operand) (ho : o.op = .mapUpdate 56 m x v)
    {bm n : Nat} {d : DiskV} (h : PagesD w bm n d) (i : Nat) (hi : i < d.many) (hm : d.many ≤ 4096) (t : Text) (hn : n < maxLen) (hmv : a.eval m = .map (some bm)) (hx : a.eval x = .int .i64 i) (hv : a.eval v = pageV (overP (d.S i) t))
    (hK : ∀ w', PagesD w' bm (n + 1) (d.lay i t) → w.mapTurned w' bm → K (a.put o.dst undef) w') : o.wp Try.prog a w K Q := by
  obtain ⟨w', hr, h1, h2⟩ := put_pages h i hi hm t hn
  unfold Oper.wp execOp
  simp only [ho, hmv, hx, hv, Sem.run_bind, hr, Result.andThen_ok, Sem.run_pure]
  exact hK w' h1 h2
theorem wpList_del_page {w : World} {ops : Array Oper} {rest : List Oper} {o : Oper} {a : Act} {Q : Exit → Act → World → Prop} (hgd : o.guard = none) (m x : Operand)
    (ho : o.op = .call { callee := .builtin .delete, args := #[m, x], argTypes := #[56, 3] })
    {bm n : Nat} {d : DiskV} (h : PagesD w bm n d) (i : Nat) (hi : i < d.many) (hm : d.many ≤ 4096) (t : Text) (hz : overP (d.S i) t = zeros) (hmv : a.eval m = .map (some bm)) (hx : a.eval x = .int .i64 i)
    (hK : ∀ w', PagesD w' bm (n + 1) (d.lay i t) → w.mapTurned w' bm → wpList Try.prog ops Q rest (a.put o.dst (.tuple #[])) w') : wpList Try.prog ops Q (o :: rest) a w := by
  refine wpList_plain hgd fun K hK' => ?_
  obtain ⟨w', hr, h1, h2⟩ := del_pages h i hi hm t hz o.type
  unfold Oper.wp
  simp [execOp, ho, resolve, invoke, builtin, hmv, hx, hr, Result.andThen]
  exact hK' _ _ (hK w' (h1.mono (by omega)) h2)

theorem lay_post {w w1 w2 : World} {B bm n : Nat} {d : DiskV} (h : Dsk w B bm n d) (hb : Below w.heap.size w w1) (i : Nat) (m : Text) (hp : PagesD w2 bm (n + 1) (d.lay i m)) (ht : w1.mapTurned w2 bm) :
    Dsk w2 B bm (n + 1) (d.lay i m) ∧ ChgD w w2 B bm := by
  have hc : ChgD w1 w2 B bm := turned_chg ht
  have hg := ht.grown
  refine ⟨⟨?_, hp, h.2.2.1, h.2.2.2.1, h.2.2.2.2⟩, (ChgD.of_below hb).trans hc⟩
  rw [hg.block B (Nat.lt_of_lt_of_le h.lt hb.size) (fun e => h.2.2.2.1 (by injection e with e; exact e.symm)), hb.block B h.lt]
  exact h.1

theorem copied_below {w w1 w2 : World} {B g : Nat} (hb : Below B w w1) (hg : B ≤ g) (hk : ∀ k, k ≠ g → w2.heap[k]? = w1.heap[k]?) (hs : w2.heap.size = w1.heap.size) (ho : w2.os = w1.os) (ht : w2.tape = w1.tape) (hu : w2.output = w1.output) : Below B w w2 :=
  hb.trans ⟨ho, ht, hu, by omega, fun k hk' => hk k (by omega)⟩


set_option maxHeartbeats 800000 in
theorem code_dput (w : World) (B bm n : Nat) (d : DiskV) (h : Dsk w B bm n d) (i : Nat) (hi : i < d.many) (hn : n < maxLen) (A : Option Addr) (c : Nat) (m : Text) (hT : Txt w A m) :
    Calls Try.prog 63 #[.pointer (some ⟨B, 0, none⟩), .int .i64 i, .slice A m.length c] w fun e w' => (∃ v, e = .returned v) ∧ Dsk w' B bm (n + 1) (d.lay i m) ∧ ChgD w w' B bm := by
  have HD := Lib.hid h
  have HT := Lib.hid hT
  obtain ⟨_, c1, _⟩ := h.cells
  have hm := h.2.2.1
  obtain ⟨l, hl⟩ : ∃ l, l = d.S i := ⟨_, rfl⟩
  have hlen : l.length = 64 := by obtain ⟨_, ⟨D, _, h2⟩, _⟩ := h; rw [hl]; exact (h2 i hi).2
  have HL := Lib.hid hl
  have HB1 : Hid (∀ x y, Below w.heap.size w ((w.alloc x).setRow w.heap.size y)) := Lib.hid (fun x y => below_setRow ((Below.refl _ w).alloc (Nat.le_refl _) x) (Nat.le_refl _) y)
  have HP : Hid (PagesD w bm n d) := Lib.hid h.2.1
  clear h hT hl
  by_cases hz : overP l m = zeros
  · have HZ : Hid (decide (overP l m = zeros) = true) := Lib.hid (decide_eq_true hz)
    have HZ2 : Hid (overP (d.S i) m = zeros) := Lib.hid (by rw [← HL.out]; exact hz)
    clear hz
    go_enter Try.func63, Try.ntmps63
    go_wp2_with (first
      | (at_lookup; refine wpList_look_page rfl _ _ rfl HP.out i hi hm rfl rfl ?_; rw [← HL.out]; (try simp only [Act.put, List.setIfInBounds_toArray, List.set_cons_zero, List.set_cons_succ]))
      | ((with_reducible refine wpList_alloc_page pageS (o := ⟨some 6, _, _, _, _, _⟩) ?a1 ?a2 ?_); (case a1 => rfl); (case a2 => rfl); (try simp only [Act.put, List.setIfInBounds_toArray, List.set_cons_zero, List.set_cons_succ]))
      | ((with_reducible refine wpList_store_page pageS (o := ⟨none, _, _, _, _, _⟩) ?a1 (.tmp 6) (.tmp 12) ?a2 w.heap.size ?a3 l hlen ?a4 _ ?a5 _ (heap_alloc_new w _) ?_); (case a1 => rfl); (case a2 => rfl); (case a3 => rfl); (case a4 => rfl); (case a5 => simp [zeros]); (try simp only [Act.put]))
      | ((with_reducible refine wpList_copy_page (o := ⟨some 15, _, _, _, _, _⟩) ?a1 (.tmp 13) (.tmp 14) ?a2 w.heap.size 64 ?a3 A c m ?a4 (HT.out.below (HB1.out _ _)) l hlen _ (setRow_heap _ _ _ _ _ _ (heap_alloc_new w _)) ?_); (case a1 => rfl); (case a2 => rfl); (case a3 => rfl); (case a4 => rfl); intro w1 hg1 hk1 hs1 ho1 ht1 hu1; have hb1 := copied_below (HB1.out _ _) (Nat.le_refl _) hk1 hs1 ho1 ht1 hu1; obtain ⟨_, c1', _⟩ := (HD.out.below hb1).cells; have HB2 := Lib.hid hb1; have HG1 := Lib.hid hg1; have HK := Lib.hid (heapLt hg1); clear hb1 hg1 hk1 hs1 ho1 ht1 hu1; (try simp only [Act.put, List.setIfInBounds_toArray, List.set_cons_zero, List.set_cons_succ]))
      | ((with_reducible refine wpList_load_page pageS (o := ⟨some 16, _, _, _, _, _⟩) ?a1 (.tmp 6) ?a2 w.heap.size ?a3 _ (overP_len hlen) _ _ HG1.out ?_); (case a1 => rfl); (case a2 => rfl); (case a3 => rfl); (try simp only [Act.put, List.setIfInBounds_toArray, List.set_cons_zero, List.set_cons_succ]))
      | ((with_reducible refine wpList_zero_page pageS (o := ⟨some 17, _, _, _, _, _⟩) ?a1 ?a2 ?_); (case a1 => rfl); (case a2 => rfl); (try simp only [Act.put, List.setIfInBounds_toArray, List.set_cons_zero, List.set_cons_succ]))
      | ((with_reducible refine wpList_eql_page pageS (o := ⟨some 18, _, _, _, _, _⟩) ?a1 (.tmp 16) (.tmp 17) 124 ?a2 _ _ ?a3 ?a4 (overP_len hlen) zeros_len true HZ.out ?_); (case a1 => rfl); (case a2 => rfl); (case a3 => rfl); (case a4 => rfl))
      | (at_delete; refine wpList_del_page rfl _ _ rfl (HP.out.kept (HB2.out.block bm HP.out.lt)) i hi hm m HZ2.out rfl rfl ?_; intro w2 hp2 ht2; have HF := Lib.hid (lay_post HD.out HB2.out i m hp2 ht2); clear hp2 ht2))
    refine bodyPost_ret (results_none rfl _ _ _) rfl ?_
    exact ⟨⟨_, rfl⟩, HF.out⟩
  · have HZ : Hid (decide (overP l m = zeros) = false) := Lib.hid (decide_eq_false hz)
    clear hz
    go_enter Try.func63, Try.ntmps63
    go_wp2_with (first
      | (at_lookup; refine wpList_look_page rfl _ _ rfl HP.out i hi hm rfl rfl ?_; rw [← HL.out]; (try simp only [Act.put, List.setIfInBounds_toArray, List.set_cons_zero, List.set_cons_succ]))
      | ((with_reducible refine wpList_alloc_page pageS (o := ⟨some 6, _, _, _, _, _⟩) ?a1 ?a2 ?_); (case a1 => rfl); (case a2 => rfl); (try simp only [Act.put, List.setIfInBounds_toArray, List.set_cons_zero, List.set_cons_succ]))
      | ((with_reducible refine wpList_store_page pageS (o := ⟨none, _, _, _, _, _⟩) ?a1 (.tmp 6) (.tmp 12) ?a2 w.heap.size ?a3 l hlen ?a4 _ ?a5 _ (heap_alloc_new w _) ?_); (case a1 => rfl); (case a2 => rfl); (case a3 => rfl); (case a4 => rfl); (case a5 => simp [zeros]); (try simp only [Act.put]))
      | ((with_reducible refine wpList_copy_page (o := ⟨some 15, _, _, _, _, _⟩) ?a1 (.tmp 13) (.tmp 14) ?a2 w.heap.size 64 ?a3 A c m ?a4 (HT.out.below (HB1.out _ _)) l hlen _ (setRow_heap _ _ _ _ _ _ (heap_alloc_new w _)) ?_); (case a1 => rfl); (case a2 => rfl); (case a3 => rfl); (case a4 => rfl); intro w1 hg1 hk1 hs1 ho1 ht1 hu1; have hb1 := copied_below (HB1.out _ _) (Nat.le_refl _) hk1 hs1 ho1 ht1 hu1; obtain ⟨_, c1', _⟩ := (HD.out.below hb1).cells; have HB2 := Lib.hid hb1; have HG1 := Lib.hid hg1; have HK := Lib.hid (heapLt hg1); clear hb1 hg1 hk1 hs1 ho1 ht1 hu1; (try simp only [Act.put, List.setIfInBounds_toArray, List.set_cons_zero, List.set_cons_succ]))
      | ((with_reducible refine wpList_load_page pageS (o := ⟨some 16, _, _, _, _, _⟩) ?a1 (.tmp 6) ?a2 w.heap.size ?a3 _ (overP_len hlen) _ _ HG1.out ?_); (case a1 => rfl); (case a2 => rfl); (case a3 => rfl); (try simp only [Act.put, List.setIfInBounds_toArray, List.set_cons_zero, List.set_cons_succ]))
      | ((with_reducible refine wpList_zero_page pageS (o := ⟨some 17, _, _, _, _, _⟩) ?a1 ?a2 ?_); (case a1 => rfl); (case a2 => rfl); (try simp only [Act.put, List.setIfInBounds_toArray, List.set_cons_zero, List.set_cons_succ]))
      | ((with_reducible refine wpList_eql_page pageS (o := ⟨some 18, _, _, _, _, _⟩) ?a1 (.tmp 16) (.tmp 17) 124 ?a2 _ _ ?a3 ?a4 (overP_len hlen) zeros_len false HZ.out ?_); (case a1 => rfl); (case a2 => rfl); (case a3 => rfl); (case a4 => rfl)))
    refine wp_region_held_drew (S := fun w' => w'.cell? ⟨B, 1, none⟩ = some (.map (some bm)) ∧ w'.heap[w.heap.size]? = some (.cells ((overP l m).map cellOf).toArray 124 (0, 0))) (by kernel_rfl) ⟨c1', HG1.out⟩ ?_
    intro hHeld
    (refine takeH (i := 0) (v := ?_) rfl (by kernel_rfl) (by kernel_rfl) (by kernel_rfl) (fun _ _ _ h => h) (Or.inl ⟨by rfl, ?_⟩) (by assumption) ?_; rotate_left; (focus ((intro wS hSw); obtain ⟨s1, s2⟩ := hSw; go_simp; (try with_reducible rfl); done)); (try simp only [Act.put, List.setIfInBounds_toArray, List.set_cons_zero, List.set_cons_succ]))
    (refine takeH (i := 1) (v := ?_) rfl (by kernel_rfl) (by kernel_rfl) (by kernel_rfl) (fun _ _ _ h => h) (Or.inl ⟨by rfl, ?_⟩) (by assumption) ?_; rotate_left; (focus ((intro wS hSw); obtain ⟨s1, s2⟩ := hSw; go_simp; (try with_reducible rfl); done)); (try simp only [Act.put, List.setIfInBounds_toArray, List.set_cons_zero, List.set_cons_succ]))
    (refine takeH (i := 2) (v := ?_) rfl (by kernel_rfl) (by kernel_rfl) (by kernel_rfl) (fun _ _ _ h => h) (Or.inl ⟨by rfl, ?_⟩) (by assumption) ?_; rotate_left; (focus ((intro wS hSw); obtain ⟨s1, s2⟩ := hSw; go_simp; (try with_reducible rfl); done)); (try simp only [Act.put, List.setIfInBounds_toArray, List.set_cons_zero, List.set_cons_succ]))
    (refine takeH (i := 3) (v := ?_) rfl (by kernel_rfl) (by kernel_rfl) (by kernel_rfl) (fun _ _ _ h => h) (Or.inl ⟨by rfl, ?_⟩) (by assumption) ?_; rotate_left; (focus ((intro wS hSw); obtain ⟨s1, s2⟩ := hSw; go_simp; (try with_reducible rfl); done)); (try simp only [Act.put, List.setIfInBounds_toArray, List.set_cons_zero, List.set_cons_succ]))
    (refine takeH (i := 4) (v := ?_) rfl (by kernel_rfl) (by kernel_rfl) (by kernel_rfl) (fun _ _ _ h => h) (Or.inl ⟨by rfl, ?_⟩) (by assumption) ?_; rotate_left; (focus ((intro wS hSw); obtain ⟨s1, s2⟩ := hSw; go_simp; (try with_reducible rfl); done)); (try simp only [Act.put, List.setIfInBounds_toArray, List.set_cons_zero, List.set_cons_succ]))
    (refine takeH (i := 5) (v := pageV (overP l m)) rfl (by kernel_rfl) (by kernel_rfl) (by kernel_rfl) (fun _ _ _ h => h) (yieldsIf_load_page pageS (by rfl) (.tmp 6) rfl w.heap.size rfl (overP l m) (overP_len hlen) _ _ (fun w h => h.2)) (by assumption) ?_; (try simp only [Act.put, List.setIfInBounds_toArray, List.set_cons_zero, List.set_cons_succ]))
    (refine aloneH (i := 6) rfl (by kernel_rfl) (fun K hK => ?_); rw [if_pos (by rfl)]; refine wp_put_page (.tmp 27) (.tmp 28) (.tmp 29) rfl (HP.out.kept (w' := w1.drew) (HB2.out.block bm HP.out.lt)) i hi hm m hn rfl rfl (by rw [← HL.out]; rfl) ?_; intro w2 hp2 ht2; have HF := Lib.hid (lay_post HD.out HB2.out.drew i m hp2 ht2); have hHeld2 := hHeld; refine hK.out _ _ ⟨?b1, ?b2⟩ (fun hNew => ?_); (case b1 => exact HF.out.1.cells.2.1); (case b2 => exact (ht2.grown.block _ HK.out (fun e => by have := HP.out.lt; injection e with e; omega)).trans hHeld2.2); clear hK K hHeld; (have hHeld := hNew); clear hNew; (try simp only [Act.put]))
    refine wpAnyH_done (by kernel_rfl) ?_ _
    go_end0
    exact ⟨⟨_, rfl⟩, HF.out⟩
end Go.Proofs.Ytfjejiapafdgeaa
