/- The document's own disk: made. A disk cloned. -/
import Derived.Test.YtmgonokhgijgoaaJ39
import Derived.Deep.RegionLaw
import Derived.Deep.AppendLies
import Derived.Deep.OwnRows
import Derived.Test.YtmgonokhgijgoaaJ25
import Derived.Laws.Externs
import Derived.MapKept
namespace Go.Proofs.Ytmgonokhgijgoaa
open Go.RowKit
set_option maxRecDepth 100000

def zeroS : ByteArray := ⟨zeros.toArray⟩
theorem make64 (w : World) : (Instr.makeSlice 51 (.int .i64 64) (.int .i64 64)).run Try.prog w = .ok (.slice (some ⟨w.heap.size, 0, none⟩) 64 64) (w.alloc (.cells (zeros.map cellOf).toArray 5)) := by
  have hmk := run_make_row' (P := Try.prog) 51 5 (.int .u8 0) 1 Try.underlying51 u8fact rfl .i64 .i64 64 (by omega) (by omega) w
  have e : madeCells #[Value.int .u8 0] 64 = (zeros.map cellOf).toArray := by
    apply Array.ext
    · simp [madeCells, zeros]
    · intro i h1 h2
      have h3 : i < zeros.length := by simpa using h2
      have h4 : zeros[i] = 0 := by unfold zeros; exact List.getElem_replicate ..
      simp only [List.getElem_toArray, List.getElem_map, h4]
      simp [madeCells, cellOf, Nat.mod_one]
  rw [e] at hmk
  exact hmk

theorem one_new (w : World) (s : ByteArray) (g : Nat) (hg : w.heap.size = g) : ∀ j u, ([Value.string s] : List Value)[j]? = some u → (w.alloc (.cells #[.string s] 9)).drew.cell? ((⟨g, 0, none⟩ : Addr).add j) = some u := fun j u hu => by
  subst hg
  cases j with
  | zero =>
    simp at hu
    subst hu
    have h7 : (⟨w.heap.size, 0, none⟩ : Addr).add 0 = ⟨w.heap.size, 0, none⟩ := by simp [Addr.add]
    rw [h7]
    exact cell_of_row _ w.heap.size 0 _ _ _ (heap_alloc_new w (.cells #[.string s] 9))
  | succ j => simp at hu
theorem own_set_str {w : World} {base : Nat} {v : Value} {n : Nat} {xs : List Value} (h : w.ownsRow base 9 1 v n xs) (a : Addr) (u : Value) (hne : v.ownBlock ≠ some a.block) : (w.setCell a u).ownsRow base 9 1 v n xs :=
  h.kept (row := some a.block) ⟨rfl, rfl, rfl, by simp, fun k _ hk => heap_setCell_other w a k u (fun e => hk (by rw [e]))⟩ (.inr hne)
set_option maxHeartbeats 2000000 in
theorem ref_new (w : World) (m : Nat) (h1 : 1 ≤ m) (h2 : m ≤ 40) : Calls Try.prog 43 #[.int .i64 m] w fun e w' => ∃ g c, e = .returned (refV g c 0 (newD m)) ∧ RefIs w' g c 0 (newD m) ∧ Below w.heap.size w w' ∧ w.heap.size ≤ g := by
  have hmk := make64
  have hmix : Try.prog.follows .mixedOrders = true := by kernel_rfl
  go_enter Try.func43, Try.ntmps43
  go_wp2
  go_loopw [4] (fun i wr => ∃ (k : Nat) (v : Value), k ≤ m ∧ i = .int .i64 k ∧ (∃ A n c, v = .slice A n c) ∧ Hid (wr.heap[w.heap.size + 1]? = some (.cells #[v, .int .i64 (-1), .int .i64 0, .bool false, .int .i64 0] 28 (0, 0))) ∧
    Hid (wr.heap[w.heap.size]? = some (.cells #[.slice none 0 0, .int .i64 0, .int .i64 0, .bool false, .int .i64 0] 28 (0, 0))) ∧ Hid (wr.ownsRow (w.heap.size + 2) 9 1 v k (List.replicate k (.string zeroS))) ∧ Hid (Below w.heap.size w wr)) (fun i _ => m - (intOf i).toNat)
  case atStart =>
    refine ⟨0, .slice none 0 0, Nat.zero_le _, rfl, ⟨_, _, _, rfl⟩, Lib.hid ?_, Lib.hid ?_, Lib.hid (World.ownsRow_nil _ _ _ _), Lib.hid (((Below.refl _ w).alloc (Nat.le_refl _) _).alloc (by simp) _)⟩
    · have := heap_alloc_new (w.alloc (.cells #[.slice none 0 0, .int .i64 0, .int .i64 0, .bool false, .int .i64 0] 28)) (.cells #[.slice none 0 0, .int .i64 (-1), .int .i64 0, .bool false, .int .i64 0] 28)
      rwa [World.size_alloc] at this
    · rw [Below.heap_alloc _ _ _ (by simp)]
      exact heap_alloc_new w _
  case round =>
    obtain ⟨k, v, hk, rfl, ⟨A, n, c, rfl⟩, H3, H2, HO, HB⟩ := hrel
    have c0 := cell_of_row wr _ 0 _ _ _ H3.out
    have c1 := cell_of_row wr _ 1 _ _ _ H3.out
    have c2 := cell_of_row wr _ 2 _ _ _ H3.out
    have c3 := cell_of_row wr _ 3 _ _ _ H3.out
    have c4 := cell_of_row wr _ 4 _ _ _ H3.out
    simp only [List.getElem?_toArray, List.getElem?_cons_zero, List.getElem?_cons_succ] at c0 c1 c2 c3 c4
    have f0 := frozen_of_row wr _ 0 _ _ H3.out
    have hlt3 := heapLt H3.out
    by_cases hlt : k < m
    · have hlt' : (k : Int) < (m : Int) := by omega
      have hcv : (convert 51 9 (.slice (some ⟨wr.heap.size, 0, none⟩) 64 64)).run Try.prog (wr.alloc (.cells (zeros.map cellOf).toArray 5)).drew = .ok (.string zeroS) (wr.alloc (.cells (zeros.map cellOf).toArray 5)).drew :=
        text_run_n _ _ 64 64 zeros zeros_len (txt_page (t := 5) (fr := (0, 0)) (heap_alloc_new wr _)) (by simp)
      obtain ⟨i0, hi, hz0, hz1, hz2⟩ := info_parts strfactS
      have hb8 : ∀ x y, Below wr.heap.size wr ((wr.alloc x).alloc y).drew := fun x y => (((Below.refl wr.heap.size wr).alloc (Nat.le_refl _) x).alloc (by simp) y).drew
      have HO8 : Hid (∀ x y, ((wr.alloc x).alloc y).drew.ownsRow (w.heap.size + 2) 9 1 (.slice A n c) k (List.replicate k (.string zeroS))) := Lib.hid (fun x y => HO.out.kept (row := none) ⟨(hb8 x y).os, (hb8 x y).tape, (hb8 x y).output, (hb8 x y).size, fun q hq _ => (hb8 x y).block q hq⟩ (by
        rcases HO.out.2 with ⟨h, _⟩ | ⟨g, c, cur, h, _⟩
        · exact .inl (by rw [h]; rfl)
        · exact .inr (by simp [h, Value.ownBlock])))
      have hsz3 : w.heap.size + 2 ≤ wr.heap.size := by omega
      have HGW : Hid (∀ x y w2, ((wr.alloc x).alloc y).drew.grownBy w2 (Value.slice A n c).ownBlock → w2.heap[w.heap.size + 1]? = some (.cells #[.slice A n c, .int .i64 (-1), .int .i64 0, .bool false, .int .i64 0] 28 (0, 0)) ∧
          w2.heap[w.heap.size]? = some (.cells #[.slice none 0 0, .int .i64 0, .int .i64 0, .bool false, .int .i64 0] 28 (0, 0)) ∧ Below w.heap.size w w2) := Lib.hid (fun x y w2 hg => by
        have hrow : ∀ q, some q = (Value.slice A n c).ownBlock → w.heap.size + 2 ≤ q := fun q e => (HO.out.lt q e.symm).1
        have hbw := (hb8 x y)
        refine ⟨?_, ?_, ?_⟩
        · exact (hg.block _ (by have := hbw.size; omega) (fun e => by have := hrow _ e; omega)).trans ((hbw.block _ (by omega)).trans H3.out)
        · exact (hg.block _ (by have := hbw.size; omega) (fun e => by have := hrow _ e; omega)).trans ((hbw.block _ (by omega)).trans H2.out)
        · exact (HB.out.trans (hbw.mono HB.out.size)).grown hg (Nat.le_trans HB.out.size hbw.size) (fun q e => by have := hrow q e.symm; omega))
      have hc1 : ∀ x, (wr.alloc x).cell? ⟨w.heap.size + 1, 0, none⟩ = some (.slice A n c) := fun x => (((Below.refl wr.heap.size wr).alloc (Nat.le_refl _) x).cell hlt3).trans c0
      have hc2 : ∀ x y, ((wr.alloc x).alloc y).cell? ⟨w.heap.size + 1, 0, none⟩ = some (.slice A n c) := fun x y => ((((Below.refl wr.heap.size wr).alloc (Nat.le_refl _) x).alloc (by simp) y).cell hlt3).trans c0
      clear hb8
      go_wp2
      go_region_law ((refine step_append_lies _ (by rfl) _ _ _ (by rfl) (w.heap.size + 2) 9 i0 (.string {data:=#[]}) 1 16 Try.underlying26 hi hz0 hz1 hz2 rfl (by decide) _ k _ (by rfl) (HO8.out _ _) ⟨wr.heap.size + 1, 0, none⟩ 1 1 [.string zeroS] (by rfl) rfl (one_new _ _ _ (by simp)) (by simp [Value.oneCell']) (by omega) (by unfold maxLen; omega) (by omega) (by simp <;> omega) (wr.heap.size + 2) (by simp) ?_; intro g2 cap2 w2 hown2 hgrow2 hat2 hlt2; obtain ⟨y3, y2, hb2⟩ := HGW.out _ _ w2 hgrow2; have d0 := cell_of_row w2 _ 0 _ _ _ y3; have d1 := frozen_of_row w2 _ 0 _ _ y3; have HY := Lib.hid (And.intro y3 (And.intro y2 hb2)); have HOW := Lib.hid hown2; clear y3 y2 hb2 hown2 hgrow2 hat2 hlt2))
      all_goals go_wp2
      all_goals go_roundw
      all_goals first
        | (show _ < _; simp [intOf]; omega)
        | (refine ⟨k + 1, .slice (some ⟨g2, 0, none⟩) (k + 1) cap2, by omega, by go_num, ⟨_, _, _, rfl⟩, Lib.hid (heap_setCell_same w2 _ 0 _ _ _ HY.out.1), Lib.hid ((heap_setCell_other _ _ _ _ (by simp)).trans HY.out.2.1), Lib.hid ?_, Lib.hid (HY.out.2.2.setCell (p := ⟨w.heap.size + 1, 0, none⟩) (by simp) _)⟩; rw [List.replicate_succ']; exact own_set_str HOW.out ⟨w.heap.size + 1, 0, none⟩ _ (fun e => by have := (HOW.out.lt _ e).1; simp at this))
    · obtain rfl : k = m := by omega
      have d0 := cell_of_row wr _ 0 _ _ _ H2.out
      have d1 := cell_of_row wr _ 1 _ _ _ H2.out
      have d2 := cell_of_row wr _ 2 _ _ _ H2.out
      have d3 := cell_of_row wr _ 3 _ _ _ H2.out
      have d4 := cell_of_row wr _ 4 _ _ _ H2.out
      simp only [List.getElem?_toArray, List.getElem?_cons_zero, List.getElem?_cons_succ] at d0 d1 d2 d3 d4
      have z0 := frozen_of_row wr _ 0 _ _ H2.out
      have z1 := frozen_of_row wr _ 1 _ _ H2.out
      have z2 := frozen_of_row wr _ 2 _ _ H2.out
      have z3 := frozen_of_row wr _ 3 _ _ H2.out
      have z4 := frozen_of_row wr _ 4 _ _ H2.out
      rcases HO.out.2 with ⟨_, h0⟩ | ⟨g, cc, cur, hv, hB, hh, hc, hm, _⟩
      · omega
      injection hv with e1 e2 e3
      subst e1 e2 e3
      have HP : Hid (Pgs wr g (pagesL (newD n)) ∧ n ≤ c ∧ c ≤ maxLen ∧ w.heap.size + 2 ≤ g) := Lib.hid ⟨⟨heapLt hh, fun i hi => by
        have hi' : i < n := by rw [pagesL_len] at hi; exact hi
        have := HO.out.cells (g := g) rfl i (.string zeroS) (by rw [List.getElem?_replicate, if_pos hi'])
        rw [Addr.add_mid, Nat.zero_add] at this
        rw [this, pagesL_at]
        rfl⟩, hc, hm, by omega⟩
      clear hh hc hm hB
      go_wp2
      have hx := set_struct5 H2.out (.slice (some ⟨g, 0, none⟩) n c) (.int .i64 (-1)) (.int .i64 0) (.bool false) (.int .i64 0)
      have hri : RefIs wr g c 0 (newD n) := ⟨HP.out.1, HP.out.2.1, HP.out.2.2.1, fun hx => by cases hx⟩
      exact bodyPost_ret (results_cell_of rfl _ _ w.heap.size _ rfl (load_ref _ _ (refC g c n (-1) 0 false 0) rfl _ _ hx)) rfl ⟨g, c, rfl, hri.set5 (by have := HP.out.2.2.2; omega) _ _ _ _ _, set_below5 HB.out (Nat.le_refl _) _ _ _ _ _, by have := HP.out.2.2.2; omega⟩
end Go.Proofs.Ytmgonokhgijgoaa

namespace Go.Proofs.Ytmgonokhgijgoaa
open Go.RowKit
set_option maxRecDepth 100000

theorem eql_map_in (w : World) (d b : Nat) : (Op.equalIn (d + 1) 56 (.map (some b)) (.map none)).run Try.prog w = .ok false w := by
  rw [Op.equalIn]
  simp only [Sem.run_bind, run_underlying Try.underlying56, Result.andThen_ok]
  rfl
theorem eql_map_step (t : TypeId) (b : Nat) (w : World) : (binOp .eql t (.map (some b)) (.map none)).run Try.prog w = ((Op.equalIn 10000 t (.map (some b)) (.map none)).run Try.prog w).andThen fun b w' => .ok (.bool b) w' := by
  simp only [binOp]
  simp [Op.equal, Op.maxDepth]
theorem eql_map_nil (w : World) (b : Nat) : (binOp .eql 56 (.map (some b)) (.map none)).run Try.prog w = .ok (.bool false) w := by
  rw [eql_map_step, eql_map_in w 9999 b]
  rfl
theorem assert_map (w : World) (xT : TypeId) (v : Value) : (Instr.typeAssert (.iface 56 v) xT 56 false).run Try.prog w = .ok v w := by
  simp [Instr.typeAssert, run_underlying Try.underlying56, go_sem, Result.andThen]
theorem clone_map (w : World) {r : Nat} {es : Array MapEntry} {clock : Nat} (t : TypeId) (hb : w.heap[r]? = some (.map es clock)) :
    (Extern.MapsClone.clone #[.iface t (.map (some r))]).run Try.prog w = .ok (.iface t (.map (some w.heap.size))) (w.alloc (.map es clock)) := by
  have e : Extern.MapsClone.clone #[.iface t (.map (some r))] = (do
    let .map entries clock ← getObj r | stuck "maps.clone: a map expected"
    pure (.iface t (.map (some (← newObj (.map entries clock)))))) := rfl
  rw [e]
  simp [MapKept.run_getObj_map hb, Result.andThen, go_sem]

end Go.Proofs.Ytmgonokhgijgoaa
