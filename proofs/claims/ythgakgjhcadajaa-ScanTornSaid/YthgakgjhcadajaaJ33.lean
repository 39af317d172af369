/- All sectors told, one by one. The chapter's example of a disk. -/
import Derived.Test.YthgakgjhcadajaaJ31
import Derived.Test.YthgakgjhcadajaaJ18
import Derived.Maps.OwnIn
import Derived.Test.YthgakgjhcadajaaJ32
namespace Go.Proofs.Ythgakgjhcadajaa
open Go.RowKit
set_option maxRecDepth 100000

section
variable {F : Fence} {nF : Nat} {w : World} {ops : Array Oper} {rest : List Oper} {o : Oper} {a : Act} {Q : Exit → Act → World → Prop}
theorem wpListIn_look_page (hgd : o.guard = none) (m x : Operand) (ho : o.op = .lookup 56 m x false)
    {bm n : Nat} {d : DiskV} (h : PagesD w bm n d) (i : Nat) (hi : i < d.many) (hm : d.many ≤ 4096) (hmv : a.eval m = .map (some bm)) (hx : a.eval x = .int .i64 i)
    (hK : wpListIn F nF Try.prog ops Q rest (a.put o.dst (pageV (d.S i))) w) : wpListIn F nF Try.prog ops Q (o :: rest) a w := by
  refine wpListIn_plain hgd fun K hK' => ?_
  have hr := look_page h i hi hm
  unfold Oper.wpIn
  refine ⟨by simp [Oper.about, ho], ?_⟩
  rw [Oper.semAt_plain F _ _ (by rw [ho]; intro c hc'; cases hc')]
  unfold execOp
  simp only [ho, hmv, hx, Sem.run_bind, hr, Result.andThen_ok, Sem.run_pure]
  exact hK' _ _ hK
end

/-- what comes: a number, and where its bytes lie -/
def encA (x : Nat × Nat) : Array Value := #[.int .i64 x.1, .slice (some ⟨x.2, 0, none⟩) 64 64]
def FxA (d : DiskV) (pre : List (Nat × Nat)) (x : Nat × Nat) (W : World) : Prop := x.1 = pre.length ∧ x.1 < d.many ∧ Txt W (some ⟨x.2, 0, none⟩) (d.S x.1)
/-- the disk's blocks, and the closure's own, are as they were -/
def KpA (Bs B bm : Nat) (A C : World) : Prop := (Bs < A.heap.size → C.heap[Bs]? = A.heap[Bs]?) ∧ (B < A.heap.size → C.heap[B]? = A.heap[B]?) ∧ (bm < A.heap.size → C.heap[bm]? = A.heap[bm]?) ∧ A.heap.size ≤ C.heap.size
theorem KpA.trans {Bs B bm : Nat} {A C E : World} (h : KpA Bs B bm A C) (k : KpA Bs B bm C E) : KpA Bs B bm A E :=
  ⟨fun x => (k.1 (by have := h.2.2.2; omega)).trans (h.1 x), fun x => (k.2.1 (by have := h.2.2.2; omega)).trans (h.2.1 x), fun x => (k.2.2.1 (by have := h.2.2.2; omega)).trans (h.2.2.1 x), Nat.le_trans h.2.2.2 k.2.2.2⟩
theorem Dsk.kp {w w' : World} {Bs B bm n : Nat} {d : DiskV} (h : Dsk w B bm n d) (k : KpA Bs B bm w w') : Dsk w' B bm n d :=
  ⟨(k.2.1 h.lt).trans h.1, h.2.1.kept (k.2.2.1 h.2.1.lt), h.2.2⟩

theorem kp_below {Bs B bm : Nat} {A C : World} (h : Below A.heap.size A C) : KpA Bs B bm A C := ⟨fun x => h.block _ x, fun x => h.block _ x, fun x => h.block _ x, h.size⟩
theorem code_all (w : World) (B : Nat) : Calls Try.prog 55 #[.pointer (some ⟨B, 0, none⟩)] w fun e w' => e = .returned (.func (.func 80) #[] #[.pointer (some ⟨w.heap.size, 0, none⟩)]) ∧
    w' = w.alloc (.cells #[.pointer (some ⟨B, 0, none⟩)] 25) := by
  have hmf : ∀ (fn : Fn) (first cap : Array Value) (w : World), (Instr.makeFunc fn first cap).run Try.prog w = .ok (.func fn first cap) w := fun _ _ _ _ => rfl
  go_enter Try.func55, Try.ntmps55
  go_wp2
  go_ret
  exact ⟨rfl, rfl⟩

set_option maxHeartbeats 2000000 in
theorem all_told (w : World) (Bs B bm n : Nat) (d : DiskV) (h : Dsk w B bm n d) (hs : w.heap[Bs]? = some (.cells #[.pointer (some ⟨B, 0, none⟩)] 25 (0, 0))) :
    SeqTold Try.prog 80 #[.pointer (some ⟨Bs, 0, none⟩)] encA (FxA d) (KpA Bs B bm) (fun xs => xs.length = d.many) (fun _ => True) w := by
  intro l J Jx W hbW hJ hJx hY h0
  have hD : Dsk W B bm n d := h.below hbW
  have hsW : W.heap[Bs]? = some (.cells #[.pointer (some ⟨B, 0, none⟩)] 25 (0, 0)) := (hbW.block Bs (heapLt hs)).trans hs
  have hm := h.2.2.1
  have HL := Lib.hid (code_dlen W B bm n d hD)
  have HD := Lib.hid hD
  have cs0 := cell_of_row W Bs 0 _ _ _ hsW
  simp only [List.getElem?_toArray, List.getElem?_cons_zero] at cs0
  have HS := Lib.hid hsW
  have HJ := Lib.hid hJ
  have HY := Lib.hid hY
  have H0 := Lib.hid h0
  clear hJ hJx hY h0 hD hsW h hs hbW
  refine callsIn_wide.1 (callsIn_of_wp (n := 2) (F := Fence.wide) Try.func80 rfl trivial ?_ rfl)
  simp only [Try.ntmps80, List.size_toArray, List.length_cons, List.length_nil, Nat.reduceAdd, Nat.reduceSub, Array.replicate_succ, Array.replicate_zero, List.push_toArray, List.append_toArray, List.nil_append, List.cons_append]
  gi_wp2_with (refine ⟨trivial, ?_⟩; gi_at_call 46; refine (callsIn_wide.2 HL.out).mono ?_; rintro e w1 ⟨rfl, rfl⟩)
  gi_loopw [7] (fun i wr => ∃ pre : List (Nat × Nat), pre.length ≤ d.many ∧ i = .int .i64 pre.length ∧ Hid (J pre wr) ∧ Hid (KpA Bs B bm W wr)) (fun i _ => d.many - (intOf i).toNat)
  case atStart => exact ⟨[], Nat.zero_le _, rfl, H0, Lib.hid ⟨fun _ => rfl, fun _ => rfl, fun _ => rfl, Nat.le_refl _⟩⟩
  case round =>
    obtain ⟨pre, hk, rfl, HJp, HK⟩ := hrel
    obtain ⟨k, hkk⟩ : ∃ k, k = pre.length := ⟨_, rfl⟩
    rw [← hkk] at hk ⊢
    have HKK := Lib.hid hkk
    clear hkk
    by_cases hlt : k < d.many
    · have hDr : Dsk wr B bm n d := HD.out.kp HK.out
      have hsr : wr.heap[Bs]? = some (.cells #[.pointer (some ⟨B, 0, none⟩)] 25 (0, 0)) := (HK.out.1 (heapLt HS.out)).trans HS.out
      have c0 := cell_of_row wr Bs 0 _ _ _ hsr
      simp only [List.getElem?_toArray, List.getElem?_cons_zero] at c0
      obtain ⟨_, c1, _⟩ := hDr.cells
      obtain ⟨T, hT⟩ : ∃ T, T = d.S k := ⟨_, rfl⟩
      have hlen : T.length = 64 := by obtain ⟨_, ⟨D, _, h2⟩, _⟩ := hDr; rw [hT]; exact (h2 k hlt).2
      have HT := Lib.hid hT
      have HP : Hid (PagesD wr bm n d) := Lib.hid hDr.2.1
      have hb2 : Below wr.heap.size wr ((wr.alloc (.cells (zeros.map cellOf).toArray 124)).setRow wr.heap.size (T.map cellOf).toArray) := below_setRow ((Below.refl _ wr).alloc (Nat.le_refl _) _) (Nat.le_refl _) _
      obtain ⟨fn, tmps, assign, body, hy, hR⟩ := HY.out pre (k, wr.heap.size) _ (HJ.out _ _ _ HJp.out hb2) ⟨HKK.out, hlt, by rw [← hT]; exact txt_page (setRow_heap _ _ _ _ _ _ (heap_alloc_new wr _))⟩
      dsimp only [encA] at hy
      have HB2 := Lib.hid hb2
      have HR := Lib.hid hR
      have hlt' : (k : Int) < (d.many : Int) := by omega
      clear hDr hsr hT hb2 hR
      gi_wp2_with (first
        | (gi_at_lookup; refine wpListIn_look_page rfl _ _ rfl HP.out k hlt hm rfl rfl ?_; rw [← HT.out]; (try simp only [Act.put, List.setIfInBounds_toArray, List.set_cons_zero, List.set_cons_succ]))
        | ((with_reducible refine wpListIn_alloc_page pageS (o := ⟨some 4, _, _, _, _, _⟩) ?a1 ?a2 ?_); (case a1 => rfl); (case a2 => rfl); (try simp only [Act.put, List.setIfInBounds_toArray, List.set_cons_zero, List.set_cons_succ]))
        | ((with_reducible refine wpListIn_store_page pageS (o := ⟨none, _, _, _, _, _⟩) ?a1 (.tmp 4) (.tmp 15) ?a2 wr.heap.size ?a3 T hlen ?a4 _ ?a5 _ (heap_alloc_new wr _) ?_); (case a1 => rfl); (case a2 => rfl); (case a3 => rfl); (case a4 => rfl); (case a5 => simp [zeros]); (try simp only [Act.put])))
      refine HR.out.mono ?_
      rintro e W3 (⟨rfl, hJ3, hk3⟩ | ⟨rfl, hJx3⟩)
      · have HJ3 := Lib.hid hJ3
        have HK3 := Lib.hid ((HK.out.trans (kp_below HB2.out)).trans hk3)
        clear hJ3 hk3 hy
        gi_wp2
        go_roundw
        case rel => exact ⟨pre ++ [(k, wr.heap.size)], by rw [List.length_append, ← HKK.out]; simp; omega, by rw [List.length_append, ← HKK.out]; simp, HJ3, HK3⟩
        case measure => simp [intOf]; omega
      · have HJ3 := Lib.hid hJx3
        clear hJx3 hy
        gi_wp2
        refine bodyPost_ret (results_none rfl _ _ _) rfl ?_
        exact ⟨⟨_, rfl⟩, .inr ⟨_, trivial, HJ3.out⟩⟩
    · obtain rfl : k = d.many := by omega
      gi_wp2
      go_end0
      exact ⟨⟨_, rfl⟩, .inl ⟨pre, HKK.out.symm, HJp.out⟩⟩
end Go.Proofs.Ythgakgjhcadajaa

namespace Go.Proofs.Ythgakgjhcadajaa
open Go.RowKit
set_option maxRecDepth 100000

def v0 : DiskV := newD 1
def v1 : DiskV := writeD v0 0 (fillT 97)
def v2 : DiskV := { v1 with set := true, after := 0, torn := 2 }
def v3 : DiskV := writeD v2 0 (fillT 98)
def v4 : DiskV := { v3 with dead := false, set := false, after := 0, torn := 0 }
theorem e1 : writeE v0 0 (fillT 97) = 0 := by decide
theorem e3 : writeE v2 0 (fillT 98) = 32 := by decide
theorem r4 : reachV v4 0 = 0 := by decide
theorem s4 : v4.S 0 = 98 :: 98 :: (fillT 97).drop 2 := by decide
theorem ok0 : OkD v0 := by unfold OkD; decide
theorem ok2 : OkD v2 := by unfold OkD; decide

end Go.Proofs.Ythgakgjhcadajaa
