/- Two lines side by side; the statement's own 'set'; two spans set in either order. -/
import Derived.Test.YtlnpflfkkjcopaaTlN
namespace Go.Proofs.Ytlnpflfkkjcopaa
open Go.RowKit
set_option maxRecDepth 100000

theorem Chg.cell {w w' : World} {B : Nat} (h : Chg w w' B) {a : Addr} {v : Value} (hc : w.cell? a = some v) (hne : a.block ≠ B) : w'.cell? a = some v := (World.cell?_of_block (h.block _ (block_lt_of_cell hc) hne)).trans hc
theorem Chg.heap {w w' : World} {B g : Nat} {o : Obj} (h : Chg w w' B) (hg : w.heap[g]? = some o) (hne : g ≠ B) : w'.heap[g]? = some o := (h.block g (heapLt hg) hne).trans hg
/-- a row does not lie in a line's own block -/
theorem row_apart {w : World} {b o B most : Nat} {L M : List Sp} (hr : w.rangeAt b o (flat L)) (hn : L ≠ []) (h : Lin w B most M) : b ≠ B := fun e => by
  subst e
  obtain ⟨A, c, hg, _⟩ := h
  have h3 : 3 ≤ (flat L).length := by
    rw [flat_len]
    have := List.length_pos_iff.2 hn
    omega
  have h2 := hr 2 _ (List.getElem?_eq_getElem (by omega))
  rw [cell_of_row w b (o + 2) _ _ _ hg] at h2
  simp at h2
theorem Row.chg {w w' : World} {A : Option Addr} {B most : Nat} {L M : List Sp} (h : Row w A L) (h' : Lin w B most M) (c : Chg w w' B) : Row w' A L := fun hn => by
  obtain ⟨b, o, e, hb, hr⟩ := h hn
  have hne := row_apart hr hn h'
  exact ⟨b, o, e, Nat.lt_of_lt_of_le hb c.size, fun j v hv => c.cell (hr j v hv) hne⟩
theorem Lin.chg {w w' : World} {B B' most most' : Nat} {L M : List Sp} (h : Lin w B most L) (h' : Lin w B' most' M) (c : Chg w w' B') (hne : B ≠ B') : Lin w' B most L := by
  obtain ⟨A, k, h0, h1, h2⟩ := h
  exact ⟨A, k, c.heap h0 hne, h1.chg h' c, h2⟩
set_option maxHeartbeats 400000 in
theorem code_ordset (w : World) (B most : Nat) (L : List Sp) (f u x : Int) (h : Lin w B most L) :
    Calls Try.prog 19 #[.pointer (some ⟨B, 0, none⟩), .agg #[.int .i64 f, .int .i64 u, .int .i64 x]] w fun e w' => e = .returned (.int .i64 (setE most L f u)) ∧ Lin w' B most (setL most L (f, u, x)) ∧ Chg w w' B := by
  have HS := Lib.hid (fun o => code_set (w.alloc o) B most L f u x (h.on (below_alloc _ _)))
  clear h
  go_enter Try.func19, Try.ntmps19
  go_wp2_with (go_at_call 12; refine (HS.out _).mono ?_; rintro e w1 ⟨rfl, h1, h2⟩; have H1 := Lib.hid (And.intro h1 ((Chg.of_below (below_alloc w _)).trans h2)); clear h1 h2; refine Stop.out ?_)
  unfold Stop
  go_wp2
  go_ret
  exact ⟨rfl, H1.out⟩

/-! ### two spans -/
theorem setE_nil {f u : Int} : setE 2 [] f u = if isSp f u then 0 else 30 := by
  unfold setE gapL
  by_cases h : isSp f u
  · rw [if_pos h, if_pos h, if_neg (by simp), if_neg (by simp)]
  · rw [if_neg h, if_neg h]
theorem setL_nil {p : Sp} (h : isSp p.1 p.2.1) : setL 2 [] p = [p] := by
  unfold setL
  rw [setE_nil, if_pos h, if_pos rfl]
  rfl
theorem cut_pos {f u : Int} {p : Sp} : 0 < cutN f u p ↔ meetB f u p.1 p.2.1 = true := by
  have h := cut_bd f u p
  unfold cutN meetU meetF at *
  by_cases hb : meetB f u p.1 p.2.1 = true
  · rw [if_pos hb, if_pos hb, if_pos hb] at *
    obtain ⟨_, _, h1, h2, h3⟩ := (meet_iff _ _ _ _).1 (of_decide_eq_true hb)
    exact ⟨fun _ => hb, fun _ => by omega⟩
  · rw [if_neg hb]
    exact ⟨fun h => absurd h (by omega), fun h => absurd h hb⟩
theorem setE_one {a b : Sp} (hb : isSp b.1 b.2.1) : setE 2 [a] b.1 b.2.1 = if meetB b.1 b.2.1 a.1 a.2.1 = true then 50 else 0 := by
  have hc := cut_pos (f := b.1) (u := b.2.1) (p := a)
  have h0 := cut_bd b.1 b.2.1 a
  have hg : gapL b.1 b.2.1 [a] = b.2.1 - b.1 + 1 - cutN b.1 b.2.1 a := by unfold gapL; simp
  unfold setE
  rw [if_pos hb, hg]
  by_cases hm : meetB b.1 b.2.1 a.1 a.2.1 = true
  · have := hc.2 hm
    rw [if_pos hm, if_pos (by omega)]
  · have : ¬ 0 < cutN b.1 b.2.1 a := fun h => hm (hc.1 h)
    rw [if_neg hm, if_neg (by omega), if_neg (by simp)]
theorem apart_of {a b : Sp} (ha : isSp a.1 a.2.1) (hb : isSp b.1 b.2.1) (hm : ¬ meetB b.1 b.2.1 a.1 a.2.1 = true) : a.1 ≠ b.1 := fun e => by
  refine hm (decide_eq_true ⟨hb, ha, ?_, ?_⟩)
  · obtain ⟨_, h2, _⟩ := hb; omega
  · obtain ⟨_, h2, _⟩ := ha; omega
theorem order_same {a b : Sp} (ha : isSp a.1 a.2.1) (hb : isSp b.1 b.2.1) (hm : meetB b.1 b.2.1 a.1 a.2.1 = false) : setL 2 [a] b = setL 2 [b] a ∧ (setL 2 [a] b).length = 2 := by
  have hm' : meetB a.1 a.2.1 b.1 b.2.1 = false := by rw [meetB_comm]; exact hm
  have hne := apart_of ha hb (by rw [hm]; decide)
  have e1 : setL 2 [a] b = insL [a] (pos b.1 [a]) b := by unfold setL; rw [setE_one hb, hm]; rfl
  have e2 : setL 2 [b] a = insL [b] (pos a.1 [b]) a := by unfold setL; rw [setE_one ha, hm']; rfl
  rw [e1, e2, insL_len]
  refine ⟨?_, rfl⟩
  by_cases h : a.1 < b.1
  · have p1 : pos b.1 [a] = 1 := pos_yes (L := []) h
    have p2 : pos a.1 [b] = 0 := pos_no (L := []) (by omega)
    rw [p1, p2]; rfl
  · have p1 : pos b.1 [a] = 0 := pos_no (L := []) h
    have p2 : pos a.1 [b] = 1 := pos_yes (L := []) (by omega)
    rw [p1, p2]; rfl
end Go.Proofs.Ytlnpflfkkjcopaa
