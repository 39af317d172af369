/- A disk made; a sector laid over; power. -/
import Derived.Test.YtglbpbhdhnikbaaSecDisk
import Derived.Deep.RegionHeld3
import Derived.Test.YtglbpbhdhnikbaaRegion
namespace Go.Proofs.Ytglbpbhdhnikbaa
open Go.RowKit
set_option maxRecDepth 100000

theorem look_page {w : World} {bm n : Nat} {d : DiskV} (h : PagesD w bm n d) (i : Nat) (hi : i < d.many) (hm : d.many ≤ 4096) :
    (Instr.lookup 95 (.map (some bm)) (.int .i64 i) false).run Try.prog w = .ok (pageV (d.S i)) w := by
  obtain ⟨D, h1, h2⟩ := h
  obtain ⟨v, ps, hr, hv⟩ := h1.lookup keyInt Try.underlying95 (zero_page pageS w) (pageR_mk zeros_len) (key_of i (by omega))
  rw [(h2 i hi).1] at hv
  rw [hr, (pageR_inv hv).1]

theorem wpList_look_page {w : World} {ops : Array Oper} {rest : List Oper} {o : Oper} {a : Act} {Q : Exit → Act → World → Prop} (hgd : o.guard = none) (m x : Operand) (ho : o.op = .lookup 95 m x false)
    {bm n : Nat} {d : DiskV} (h : PagesD w bm n d) (i : Nat) (hi : i < d.many) (hm : d.many ≤ 4096) (hmv : a.eval m = .map (some bm)) (hx : a.eval x = .int .i64 i)
    (hK : wpList Try.prog ops Q rest (a.put o.dst (pageV (d.S i))) w) : wpList Try.prog ops Q (o :: rest) a w := by
  refine wpList_plain hgd fun K hK' => ?_
  have hr := look_page h i hi hm
  unfold Oper.wp execOp
  simp only [ho, hmv, hx, Sem.run_bind, hr, Result.andThen_ok, Sem.run_pure]
  exact hK' _ _ hK

/-- sector i laid over by a text -/
def DiskV.lay (d : DiskV) (i : Nat) (m : Text) : DiskV := { d with S := fun k => if k = i then overP (d.S i) m else d.S k }

theorem del_pages {w : World} {bm n : Nat} {d : DiskV} (h : PagesD w bm n d) (i : Nat) (hi : i < d.many) (hm : d.many ≤ 4096) (m : Text) (hz : overP (d.S i) m = zeros) (ty : TypeId) :
    ∃ w', (Builtin.delete_ #[95, 3] ty #[.map (some bm), .int .i64 i]).run Try.prog w = .ok (.tuple #[]) w' ∧ PagesD w' bm n (d.lay i m) ∧ w.mapTurned w' bm := by
  obtain ⟨D, h1, h2⟩ := h
  obtain ⟨w', hr, h3, h4⟩ := h1.drop keyInt Try.underlying95 (key_of i (by omega)) ty
  refine ⟨w', hr, ⟨_, h3, fun k hk => ?_⟩, h4⟩
  unfold DiskV.lay
  by_cases e : k = i
  · subst e
    simp only [if_true, hz]
    exact ⟨Maps.atKey_del_same _, zeros_len⟩
  · simp only [if_neg e]
    rw [Maps.atKey_del_other (by intro h; injection h with _ h; omega)]
    exact h2 k hk
theorem keyLit {i : Int} : WideAt.IsKeyLit (.int .i64 i) := by simp [WideAt.IsKeyLit]
theorem put_pages {w : World} {bm n : Nat} {d : DiskV} (h : PagesD w bm n d) (i : Nat) (hi : i < d.many) (hm : d.many ≤ 4096) (m : Text) (hn : n < maxLen) :
    ∃ w', (Instr.mapUpdate 95 (.map (some bm)) (.int .i64 i) (pageV (overP (d.S i) m))).run Try.prog w = .ok () w' ∧ PagesD w' bm (n + 1) (d.lay i m) ∧ w.mapTurned w' bm := by
  obtain ⟨D, h1, h2⟩ := h
  obtain ⟨w', hr, h3, h4⟩ := h1.store keyInt Try.underlying95 hn (key_of i (by omega)) (pageR_mk (overP_len (h2 i hi).2))
  refine ⟨w', hr, ⟨_, h3, fun k hk => ?_⟩, h4⟩
  unfold DiskV.lay
  by_cases e : k = i
  · subst e
    simp only [if_true]
    exact ⟨Maps.atKey_put_same h1.isMap keyLit _ _, overP_len (h2 k hk).2⟩
  · simp only [if_neg e]
    rw [Maps.atKey_put_other (by intro h; injection h with _ h; omega)]
    exact h2 k hk
theorem PagesD.mono {w : World} {bm n n' : Nat} {d : DiskV} (h : PagesD w bm n d) (hn : n ≤ n') : PagesD w bm n' d := let ⟨D, h1, h2⟩ := h; ⟨D, h1.mono hn, h2⟩

theorem turned_chg {w w' : World} {B bm : Nat} (h : w.mapTurned w' bm) : ChgD w w' B bm := by
  have hg := h.grown
  exact ⟨hg.os, hg.tape, hg.output, hg.size, fun k hk _ h2 => hg.block k hk (fun e => h2 (by injection e))⟩

theorem code_dnone (w : World) (many : Int) (h : many < 1 ∨ 4096 < many) : Calls Try.prog 17 #[.int .i64 many] w fun e w' => e = .returned (.pointer none) ∧ w = w' := by
  by_cases h1 : many < 1
  · go_enter Try.func17, Try.ntmps17
    go_wp2
    go_ret
    exact ⟨rfl, rfl⟩
  · have h2 : 4096 < many := by omega
    have h1' : 1 ≤ many := by omega
    go_enter Try.func17, Try.ntmps17
    go_wp2
    go_ret
    exact ⟨rfl, rfl⟩
/-- a new disk of so many sectors -/
def newD (many : Nat) : DiskV := ⟨many, fun _ => zeros, false, false, 0, 0, 0⟩
theorem code_dnew (w : World) (many : Int) (h1 : 1 ≤ many) (h2 : many ≤ 4096) : Calls Try.prog 17 #[.int .i64 many] w fun e w' =>
    e = .returned (.pointer (some ⟨w.heap.size + 1, 0, none⟩)) ∧ Dsk w' (w.heap.size + 1) w.heap.size 0 (newD many.toNat) ∧ Below w.heap.size w w' := by
  have hmm := @run_makeMap Try.prog
  go_enter Try.func17, Try.ntmps17
  go_wp2
  go_ret
  refine ⟨rfl, ⟨?_, ⟨.map [], (World.ownsMap_made w _ _ _).alloc _, fun i _ => ⟨rfl, zeros_len⟩⟩, ?_, ?_, ?_⟩, ?_⟩
  · have := heap_alloc_new (w.alloc (.map #[] 0)) (.cells (cellsD w.heap.size (newD many.toNat)) 99)
    rw [World.size_alloc] at this
    have e : cellsD w.heap.size (newD many.toNat) = #[.int .i64 many, .map (some w.heap.size), .bool false, .bool false, .int .i64 0, .int .i64 0, .int .i64 0] := by
      simp [cellsD, newD]; omega
    rw [e] at this
    simpa [e] using this
  · show many.toNat ≤ 4096
    omega
  · omega
  · show 0 < many.toNat
    omega
  · exact ((Below.refl _ w).alloc (Nat.le_refl _) _).alloc (by simp) _
end Go.Proofs.Ytglbpbhdhnikbaa
