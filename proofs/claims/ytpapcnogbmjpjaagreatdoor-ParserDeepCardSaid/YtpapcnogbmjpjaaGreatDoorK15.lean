/- What is no sum and has no sign. -/
import Derived.Test.YtpapcnogbmjpjaaGreatDoorK14
namespace Go.Proofs.YtpapcnogbmjpjaaGreatDoor
open Go.RowKit
set_option maxRecDepth 100000
set_option linter.unusedSimpArgs false
set_option linter.unusedVariables false
attribute [local go_sem] Oper.semAt_some

theorem skip_f {w : World} {R : Nat} {en : Int} {s : Rd} (h : RdAt w R en s) (x : ByteArray) (hx : x ≠ ⟨#[]⟩) (hs : skipP x s = none) : Calls Tryz.prog 56 #[.pointer (some ⟨R, 0, none⟩), .string x] w fun e w' => e = .returned (.bool false) ∧ RdAt w' R en s ∧ Chg R w w' := by
  have := code_skip h x hx
  rw [hs] at this
  exact this
theorem skip_t {w : World} {R : Nat} {en : Int} {s s1 : Rd} (h : RdAt w R en s) (x : ByteArray) (hx : x ≠ ⟨#[]⟩) (hs : skipP x s = some s1) : Calls Tryz.prog 56 #[.pointer (some ⟨R, 0, none⟩), .string x] w fun e w' => e = .returned (.bool true) ∧ RdAt w' R en s1 ∧ Chg R w w' := by
  have := code_skip h x hx
  rw [hs] at this
  exact this
/-- what reading a row of trees comes to, in memory -/
def OutL (R : Nat) (en : Int) (w : World) (r : PR (List Sh)) (e : Ending) (w' : World) : Prop := match r with
  | .ok l s => ∃ kb kc ts, e = .returned (.slice (some ⟨kb, 0, none⟩) ts.length kc) ∧ TreesQ w.heap.size w' ts l ∧ RowTr w' kb ts ∧ ts ≠ [] ∧ kb ∉ bL ts ∧ w.heap.size ≤ kb ∧ ts.length ≤ kc ∧ kc ≤ maxLen ∧ RdAt w' R en s ∧ Chg R w w'
  | .flt a k => Flt e a k ∧ Chg R w w'
  | .out => True
/-- what reading a number comes to, in memory -/
def OutN (R : Nat) (en : Int) (w : World) (r : PR Int) (e : Ending) (w' : World) : Prop := match r with
  | .ok n s => e = .returned (.int .i64 n) ∧ RdAt w' R en s ∧ Chg R w w'
  | .flt a k => Flt e a k ∧ Chg R w w'
  | .out => True
def BrackC (G : Gr) (R f : Nat) : Prop := ∀ (m d : Nat) (s : Rd) (w : World), 1 ≤ m → m ≤ 3 → d ≤ 64 → RdAt w R G.en s → brackP G f m d opB s ≠ .out → Calls Tryz.prog 105 #[.pointer (some ⟨R, 0, none⟩), .int .i64 (m : Nat), .int .i64 (d : Nat)] w (OutL R G.en w (brackP G f m d opB s))
def BoxNC (G : Gr) (R : Nat) : Prop := ∀ (s : Rd) (w : World), RdAt w R G.en s → Calls Tryz.prog 57 #[.pointer (some ⟨R, 0, none⟩)] w (OutN R G.en w (boxNP G.en s))
def TotalC (G : Gr) (R : Nat) : Prop := ∀ (s : Rd) (w : World), RdAt w R G.en s → G.total s ≠ .out → Calls Tryz.prog 104 #[.pointer (some ⟨R, 0, none⟩)] w (OutQ R G.en w (G.total s))
theorem all5 {k n : Int} {fd : ByteArray} {fA : Option Addr} {fn fc : Nat} {kv : Value} (h : kv.oneCell' = true) : ∀ v ∈ [Value.int .i64 k, .int .i64 n, .string fd, .slice fA fn fc, kv], v.oneCell' = true := by
  intro v hv
  simp only [List.mem_cons, List.not_mem_nil, or_false] at hv
  rcases hv with rfl | rfl | rfl | rfl | rfl
  · rfl
  · rfl
  · rfl
  · rfl
  · exact h
/-- a tree that came is told on, by the cell of the result -/
theorem out_tree {R g B : Nat} {en : Int} {w w3 w5 : World} {k n : Int} {fd : ByteArray} {fA : Option Addr} {fn fc : Nat} {kv : Value} {kb kc : Nat} {ks : List Tr} {sh : Sh} {s : Rd} {o1 o2 : Int} {o3 : ByteArray} {o4 o5 : Value} (h4 : ∃ A n k, o4 = .slice A n k) (h5 : ∃ A n k, o5 = .slice A n k)
    (hkv : Hid (kv = kidsV kb kc ks)) (ht : TreeQ B w3 (.mk k n fd fA fn fc kb kc ks) sh) (hB : w.heap.size ≤ B) (hg : g = w.heap.size) (hgB : g < B) (hr : RdAt w3 R en s) (hR : R < w.heap.size) (hG : w3.heap[g]? = some (.cells #[.int .i64 o1, .int .i64 o2, .string o3, o4, o5] 32 (0, 0))) (hc : Chg R w w3) (hcg : Chg g w3 w5) :
    OutQ R en w (.ok sh s) (.returned (.agg #[.int .i64 k, .int .i64 n, .string fd, .slice fA fn fc, kv])) w5 :=
  ⟨k, n, fd, fA, fn, fc, kv, kb, kc, ks, rfl, hkv, (ht.chgE hgB hG hcg).less hB, hr.row5 h4 h5 hG (by omega) hcg, hc.over hcg (by omega)⟩
theorem tak_yes {en : Int} {s s1 : Rd} {t : TokV} (h : takeP' 2 en s = .ok t s1) : ∃ L, s.T = t :: L ∧ t.1 = 2 ∧ s1 = { s with T := L } := by
  unfold takeP' at h
  cases hT : s.T with
  | nil => rw [hT] at h; cases h
  | cons a L =>
    rw [hT] at h
    dsimp only at h
    by_cases e : a.1 = 2
    · rw [if_pos e] at h
      injection h with h1 h2
      subst h1
      exact ⟨L, rfl, e, h2.symm⟩
    · rw [if_neg e] at h; cases h
theorem tak_no {en a k : Int} {s : Rd} (h : takeP' 2 en s = .flt a k) : (nextT en s).1 ≠ 2 ∧ a = (nextT en s).2.1 ∧ k = 81 := by
  unfold takeP' at h
  unfold nextT
  cases hT : s.T with
  | nil =>
    rw [hT] at h
    injection h with h1 h2
    exact ⟨(fun e => by cases e), h1.symm, h2.symm⟩
  | cons b L =>
    rw [hT] at h
    dsimp only at h
    by_cases e : b.1 = 2
    · rw [if_pos e] at h; cases h
    · rw [if_neg e] at h
      injection h with h1 h2
      exact ⟨e, h1.symm, h2.symm⟩
theorem kids_ne (kb kc : Nat) {ts : List Tr} (h : ts ≠ []) : (Value.slice (some ⟨kb, 0, none⟩) ts.length kc) = kidsV kb kc ts := by
  cases ts with
  | nil => exact absurd rfl h
  | cons a l => rfl
theorem cell_far {R g : Nat} {w1 w2 : World} {o : Obj} (hc : Chg R w1 w2) (h : w1.heap[g]? = some o) (hR : g ≠ R) : w2.heap[g]? = some o := (hc.heap (heapLt h) hR).trans h
set_option maxHeartbeats 4000000 in
theorem prim_box_ok (G : Gr) (R d : Nat) (s : Rd) (w : World) (hr : RdAt w R G.en s) (hB : BoxNC G R) {s1 s2 : Rd} {n : Int} (hsl : skipP bxB s = some s1) (hn : boxNP G.en s1 = .ok n s2) : Calls Tryz.prog 86 #[.pointer (some ⟨R, 0, none⟩), .int .i64 (d : Nat)] w (OutQ R G.en w (.ok (leafS 2 n) s2)) := by
  have hB0 := below_alloc w (.cells #[.int .i64 0, .int .i64 0, .string ⟨#[]⟩, .slice none 0 0, .slice none 0 0] 32)
  have H0 := Lib.hid (heap_alloc_new w (.cells #[.int .i64 0, .int .i64 0, .string ⟨#[]⟩, .slice none 0 0, .slice none 0 0] 32))
  have HR0 := Lib.hid (hr.on hB0)
  have HB0 := Lib.hid hB0
  have HC0 : Hid (Chg R (w.alloc (.cells #[.int .i64 0, .int .i64 0, .string ⟨#[]⟩, .slice none 0 0, .slice none 0 0] 32)) (w.alloc (.cells #[.int .i64 0, .int .i64 0, .string ⟨#[]⟩, .slice none 0 0, .slice none 0 0] 32))) := Lib.hid (Chg.refl _ _)
  have HRl := Lib.hid hr.lt
  have HSl := Lib.hid hsl
  clear hr hB0  hsl
  go_enter Tryz.func86, Tryz.ntmps86
  go_wp2_with (go_at_call 56; refine (skip_t HR0.out bxB (by decide) HSl.out).mono ?_; rintro e wb ⟨rfl, hr, hc⟩; refine Stop.out ?_)
  unfold Stop
  have HRb := Lib.hid hr
  have HCb := Lib.hid (HC0.out.trans hc)
  clear hr hc
  have hcall := hB s1 wb HRb.out
  rw [hn] at hcall
  have HCl := Lib.hid hcall
  have hbr : ∀ w, (Instr.build 32 #[(0, .int .i64 2), (1, .int .i64 n)]).run Tryz.prog w = .ok (.agg #[.int .i64 2, .int .i64 n, .string ⟨#[]⟩, .slice none 0 0, .slice none 0 0]) w := fun w => run_build w 32 _ _ (by kernel_rfl)
  clear hcall hn hB
  go_wp2_with (go_at_call 57; refine HCl.out.mono ?_; rintro e wc ⟨rfl, hr, hc⟩; refine Stop.out ?_)
  unfold Stop
  have HRc := Lib.hid hr
  have HCc := Lib.hid (HCb.out.trans hc)
  have HGwc : Hid (wc.heap[w.heap.size]? = some (.cells #[.int .i64 0, .int .i64 0, .string ⟨#[]⟩, .slice none 0 0, .slice none 0 0] 32 (0, 0))) := Lib.hid (cell_far HCc.out H0.out (by have := HRl.out; omega))
  clear hr hc HCl
  go_wp2_with ((with_reducible refine wpList_store_row (o := ⟨none, _, _, _, _, _⟩) 32 ?b0 (.tmp 4) (.tmp 10) ?b1 w.heap.size ?b2 [.int .i64 2, .int .i64 n, .string ⟨#[]⟩, .slice none 0 0, .slice none 0 0] ?b3 ?b4 ?b5 #[.int .i64 0, .int .i64 0, .string ⟨#[]⟩, .slice none 0 0, .slice none 0 0] ?b6 32 ?b7 ?_); (case b0 => rfl); (case b1 => rfl); (case b2 => rfl); (case b3 => exact expr_info); (case b4 => simp [Value.oneCell']); (case b5 => rfl); (case b6 => rfl); (case b7 => exact HGwc.out); (try simp only [Act.put]); refine Stop.out ?_)
  unfold Stop
  have HRw := Lib.hid (row_then (g := w.heap.size) (new := #[.int .i64 2, .int .i64 n, .string ⟨#[]⟩, .slice none 0 0, .slice none 0 0]) HGwc.out rfl rfl)
  have HCg := Lib.hid (setRow_chg wc w.heap.size #[.int .i64 2, .int .i64 n, .string ⟨#[]⟩, .slice none 0 0, .slice none 0 0])
  generalize World.setRow _ _ _ = wz at HRw HCg ⊢
  have HFin := Lib.hid (out_tree ⟨_, _, _, rfl⟩ ⟨_, _, _, rfl⟩ (Lib.hid (rfl : (Value.slice none 0 0) = kidsV 0 0 [])) (leaf_tree _ wc 2 n) (B := wc.heap.size) (by have := HB0.out.size; have := World.size_alloc w (.cells #[.int .i64 0, .int .i64 0, .string ⟨#[]⟩, .slice none 0 0, .slice none 0 0] 32); have := HCc.out.size; omega) rfl (by have := World.size_alloc w (.cells #[.int .i64 0, .int .i64 0, .string ⟨#[]⟩, .slice none 0 0, .slice none 0 0] 32); have := HCc.out.size; omega) HRc.out HRl.out HGwc.out ((Chg.of HB0.out).trans HCc.out) HCg.out)
  clear HGwc HCg
  go_wp2
  exact bodyPost_ret (results_cell_row Tryz.results86 _ _ w.heap.size 32 #[.int .i64 2, .int .i64 n, .string ⟨#[]⟩, .slice none 0 0, .slice none 0 0] (0, 0) _ rfl HRw.out Tryz.underlying32 rfl expr_info) rfl HFin.out
set_option maxHeartbeats 4000000 in
theorem prim_box_flt (G : Gr) (R d : Nat) (s : Rd) (w : World) (hr : RdAt w R G.en s) (hB : BoxNC G R) {s1 : Rd} {a k : Int} (hsl : skipP bxB s = some s1) (hn : boxNP G.en s1 = .flt a k) : Calls Tryz.prog 86 #[.pointer (some ⟨R, 0, none⟩), .int .i64 (d : Nat)] w (OutQ R G.en w (.flt a k)) := by
  have hB0 := below_alloc w (.cells #[.int .i64 0, .int .i64 0, .string ⟨#[]⟩, .slice none 0 0, .slice none 0 0] 32)
  have H0 := Lib.hid (heap_alloc_new w (.cells #[.int .i64 0, .int .i64 0, .string ⟨#[]⟩, .slice none 0 0, .slice none 0 0] 32))
  have HR0 := Lib.hid (hr.on hB0)
  have HB0 := Lib.hid hB0
  have HC0 : Hid (Chg R (w.alloc (.cells #[.int .i64 0, .int .i64 0, .string ⟨#[]⟩, .slice none 0 0, .slice none 0 0] 32)) (w.alloc (.cells #[.int .i64 0, .int .i64 0, .string ⟨#[]⟩, .slice none 0 0, .slice none 0 0] 32))) := Lib.hid (Chg.refl _ _)
  have HRl := Lib.hid hr.lt
  have HSl := Lib.hid hsl
  clear hr hB0  hsl
  go_enter Tryz.func86, Tryz.ntmps86
  go_wp2_with (go_at_call 56; refine (skip_t HR0.out bxB (by decide) HSl.out).mono ?_; rintro e wb ⟨rfl, hr, hc⟩; refine Stop.out ?_)
  unfold Stop
  have HRb := Lib.hid hr
  have HCb := Lib.hid (HC0.out.trans hc)
  clear hr hc
  have hcall := hB s1 wb HRb.out
  rw [hn] at hcall
  have HCl := Lib.hid hcall
  clear hcall hn hB
  go_wp2_with (go_at_call 57; refine HCl.out.mono ?_; rintro e wc ⟨rfl, hc⟩; refine Stop.out ?_)
  unfold Stop
  first | exact ⟨rfl, OutQ.fault rfl ((Chg.of HB0.out).trans (HCb.out.trans hc))⟩ | (go_wp2; exact ⟨rfl, OutQ.fault rfl ((Chg.of HB0.out).trans (HCb.out.trans hc))⟩)
set_option maxHeartbeats 4000000 in
theorem prim_sum_flt (G : Gr) (R d : Nat) (s : Rd) (w : World) (hr : RdAt w R G.en s) (hB : TotalC G R) {s1 : Rd} {a k : Int} (hs0 : skipP bxB s = none) (hsl : skipP smB s = some s1) (hn : G.total s1 = .flt a k) : Calls Tryz.prog 86 #[.pointer (some ⟨R, 0, none⟩), .int .i64 (d : Nat)] w (OutQ R G.en w (.flt a k)) := by
  have hB0 := below_alloc w (.cells #[.int .i64 0, .int .i64 0, .string ⟨#[]⟩, .slice none 0 0, .slice none 0 0] 32)
  have H0 := Lib.hid (heap_alloc_new w (.cells #[.int .i64 0, .int .i64 0, .string ⟨#[]⟩, .slice none 0 0, .slice none 0 0] 32))
  have HR0 := Lib.hid (hr.on hB0)
  have HB0 := Lib.hid hB0
  have HC0 : Hid (Chg R (w.alloc (.cells #[.int .i64 0, .int .i64 0, .string ⟨#[]⟩, .slice none 0 0, .slice none 0 0] 32)) (w.alloc (.cells #[.int .i64 0, .int .i64 0, .string ⟨#[]⟩, .slice none 0 0, .slice none 0 0] 32))) := Lib.hid (Chg.refl _ _)
  have HRl := Lib.hid hr.lt
  have HS0 := Lib.hid hs0
  have HSl := Lib.hid hsl
  clear hr hB0 hs0 hsl
  go_enter Tryz.func86, Tryz.ntmps86
  go_wp2_with (go_at_call 56; refine (skip_f HR0.out bxB (by decide) HS0.out).mono ?_; rintro e wa1 ⟨rfl, hr, hc⟩; refine Stop.out ?_)
  unfold Stop
  have HR1 := Lib.hid hr
  have HC1 := Lib.hid (HC0.out.trans hc)
  clear hr hc
  go_wp2_with (go_at_call 56; refine (skip_t HR1.out smB (by decide) HSl.out).mono ?_; rintro e wb ⟨rfl, hr, hc⟩; refine Stop.out ?_)
  unfold Stop
  have HRb := Lib.hid hr
  have HCb := Lib.hid (HC1.out.trans hc)
  clear hr hc
  have hcall := hB s1 wb HRb.out (by rw [hn]; exact fun e => by cases e)
  rw [hn] at hcall
  have HCl := Lib.hid hcall
  clear hcall hn hB
  go_wp2_with (go_at_call 104; refine HCl.out.mono ?_; rintro e wc ⟨rfl, hc⟩; refine Stop.out ?_)
  unfold Stop
  first | exact ⟨rfl, OutQ.fault rfl ((Chg.of HB0.out).trans (HCb.out.trans hc))⟩ | (go_wp2; exact ⟨rfl, OutQ.fault rfl ((Chg.of HB0.out).trans (HCb.out.trans hc))⟩)
set_option maxHeartbeats 4000000 in
theorem prim_sum_ok (G : Gr) (R d : Nat) (s : Rd) (w : World) (hr : RdAt w R G.en s) (hB : TotalC G R) {s1 s2 : Rd} {sh : Sh} (hs0 : skipP bxB s = none) (hsl : skipP smB s = some s1) (hn : G.total s1 = .ok sh s2) : Calls Tryz.prog 86 #[.pointer (some ⟨R, 0, none⟩), .int .i64 (d : Nat)] w (OutQ R G.en w (.ok sh s2)) := by
  have hB0 := below_alloc w (.cells #[.int .i64 0, .int .i64 0, .string ⟨#[]⟩, .slice none 0 0, .slice none 0 0] 32)
  have H0 := Lib.hid (heap_alloc_new w (.cells #[.int .i64 0, .int .i64 0, .string ⟨#[]⟩, .slice none 0 0, .slice none 0 0] 32))
  have HR0 := Lib.hid (hr.on hB0)
  have HB0 := Lib.hid hB0
  have HC0 : Hid (Chg R (w.alloc (.cells #[.int .i64 0, .int .i64 0, .string ⟨#[]⟩, .slice none 0 0, .slice none 0 0] 32)) (w.alloc (.cells #[.int .i64 0, .int .i64 0, .string ⟨#[]⟩, .slice none 0 0, .slice none 0 0] 32))) := Lib.hid (Chg.refl _ _)
  have HRl := Lib.hid hr.lt
  have HS0 := Lib.hid hs0
  have HSl := Lib.hid hsl
  clear hr hB0 hs0 hsl
  go_enter Tryz.func86, Tryz.ntmps86
  go_wp2_with (go_at_call 56; refine (skip_f HR0.out bxB (by decide) HS0.out).mono ?_; rintro e wa1 ⟨rfl, hr, hc⟩; refine Stop.out ?_)
  unfold Stop
  have HR1 := Lib.hid hr
  have HC1 := Lib.hid (HC0.out.trans hc)
  clear hr hc
  go_wp2_with (go_at_call 56; refine (skip_t HR1.out smB (by decide) HSl.out).mono ?_; rintro e wb ⟨rfl, hr, hc⟩; refine Stop.out ?_)
  unfold Stop
  have HRb := Lib.hid hr
  have HCb := Lib.hid (HC1.out.trans hc)
  clear hr hc
  have hcall := hB s1 wb HRb.out (by rw [hn]; exact fun e => by cases e)
  rw [hn] at hcall
  have HCl := Lib.hid hcall
  clear hcall hn hB
  go_wp2_with (go_at_call 104; refine HCl.out.mono ?_; rintro e wc ⟨k, n, fd, fA, fn, fc, kv, kb, kc, ks, rfl, hkv, ht, hr, hc⟩; refine Stop.out ?_)
  unfold Stop
  have HRc := Lib.hid hr
  have HTq := Lib.hid ht
  have hone := kids_one kb kc ks
  rw [← hkv.out] at hone
  have HKv := hkv
  have HCc := Lib.hid (HCb.out.trans hc)
  have HGwc : Hid (wc.heap[w.heap.size]? = some (.cells #[.int .i64 0, .int .i64 0, .string ⟨#[]⟩, .slice none 0 0, .slice none 0 0] 32 (0, 0))) := Lib.hid (cell_far HCc.out H0.out (by have := HRl.out; omega))
  have hall := all5 (k := k) (n := n) (fd := fd) (fA := fA) (fn := fn) (fc := fc) hone
  clear hr hc ht hkv HCl
  go_wp2_with ((with_reducible refine wpList_store_row (o := ⟨none, _, _, _, _, _⟩) 32 ?b0 (.tmp 4) (.tmp 15) ?b1 w.heap.size ?b2 [.int .i64 k, .int .i64 n, .string fd, .slice fA fn fc, kv] ?b3 ?b4 ?b5 #[.int .i64 0, .int .i64 0, .string ⟨#[]⟩, .slice none 0 0, .slice none 0 0] ?b6 32 ?b7 ?_); (case b0 => rfl); (case b1 => rfl); (case b2 => rfl); (case b3 => exact expr_info); (case b4 => exact hall); (case b5 => rfl); (case b6 => rfl); (case b7 => exact HGwc.out); (try simp only [Act.put]); refine Stop.out ?_)
  unfold Stop
  have HRw := Lib.hid (row_then (g := w.heap.size) (new := #[.int .i64 k, .int .i64 n, .string fd, .slice fA fn fc, kv]) HGwc.out rfl rfl)
  have HCg := Lib.hid (setRow_chg wc w.heap.size #[.int .i64 k, .int .i64 n, .string fd, .slice fA fn fc, kv])
  generalize World.setRow _ _ _ = wz at HRw HCg ⊢
  have HFin := Lib.hid (out_tree ⟨_, _, _, rfl⟩ ⟨_, _, _, rfl⟩ (HKv) (HTq.out) (B := wb.heap.size) (by have := HB0.out.size; have := World.size_alloc w (.cells #[.int .i64 0, .int .i64 0, .string ⟨#[]⟩, .slice none 0 0, .slice none 0 0] 32); have := HCb.out.size; omega) rfl (by have := World.size_alloc w (.cells #[.int .i64 0, .int .i64 0, .string ⟨#[]⟩, .slice none 0 0, .slice none 0 0] 32); have := HCb.out.size; omega) HRc.out HRl.out HGwc.out ((Chg.of HB0.out).trans HCc.out) HCg.out)
  clear HGwc HCg
  go_wp2
  exact bodyPost_ret (results_cell_row Tryz.results86 _ _ w.heap.size 32 #[.int .i64 k, .int .i64 n, .string fd, .slice fA fn fc, kv] (0, 0) _ rfl HRw.out Tryz.underlying32 rfl expr_info) rfl HFin.out
set_option maxHeartbeats 4000000 in
theorem prim_min_flt (G : Gr) (R d f : Nat) (s : Rd) (w : World) (hr : RdAt w R G.en s) (hd : d ≤ 64) (hB : BrackC G R f) {s1 : Rd} {a k : Int} (hs0 : skipP bxB s = none) (hs1 : skipP smB s = none) (hsl : skipP mnB s = some s1) (hn : brackP G f 2 d opB s1 = .flt a k) : Calls Tryz.prog 86 #[.pointer (some ⟨R, 0, none⟩), .int .i64 (d : Nat)] w (OutQ R G.en w (.flt a k)) := by
  have hB0 := below_alloc w (.cells #[.int .i64 0, .int .i64 0, .string ⟨#[]⟩, .slice none 0 0, .slice none 0 0] 32)
  have H0 := Lib.hid (heap_alloc_new w (.cells #[.int .i64 0, .int .i64 0, .string ⟨#[]⟩, .slice none 0 0, .slice none 0 0] 32))
  have HR0 := Lib.hid (hr.on hB0)
  have HB0 := Lib.hid hB0
  have HC0 : Hid (Chg R (w.alloc (.cells #[.int .i64 0, .int .i64 0, .string ⟨#[]⟩, .slice none 0 0, .slice none 0 0] 32)) (w.alloc (.cells #[.int .i64 0, .int .i64 0, .string ⟨#[]⟩, .slice none 0 0, .slice none 0 0] 32))) := Lib.hid (Chg.refl _ _)
  have HRl := Lib.hid hr.lt
  have HS0 := Lib.hid hs0
  have HS1 := Lib.hid hs1
  have HSl := Lib.hid hsl
  clear hr hB0 hs0 hs1 hsl
  go_enter Tryz.func86, Tryz.ntmps86
  go_wp2_with (go_at_call 56; refine (skip_f HR0.out bxB (by decide) HS0.out).mono ?_; rintro e wa1 ⟨rfl, hr, hc⟩; refine Stop.out ?_)
  unfold Stop
  have HR1 := Lib.hid hr
  have HC1 := Lib.hid (HC0.out.trans hc)
  clear hr hc
  go_wp2_with (go_at_call 56; refine (skip_f HR1.out smB (by decide) HS1.out).mono ?_; rintro e wa2 ⟨rfl, hr, hc⟩; refine Stop.out ?_)
  unfold Stop
  have HR2 := Lib.hid hr
  have HC2 := Lib.hid (HC1.out.trans hc)
  clear hr hc
  go_wp2_with (go_at_call 56; refine (skip_t HR2.out mnB (by decide) HSl.out).mono ?_; rintro e wb ⟨rfl, hr, hc⟩; refine Stop.out ?_)
  unfold Stop
  have HRb := Lib.hid hr
  have HCb := Lib.hid (HC2.out.trans hc)
  clear hr hc
  have hcall := hB 2 d s1 wb (by decide) (by decide) hd HRb.out (by rw [hn]; exact fun e => by cases e)
  rw [hn] at hcall
  have HCl := Lib.hid hcall
  clear hcall hn hB
  go_wp2_with (go_at_call 105; refine HCl.out.mono ?_; rintro e wc ⟨rfl, hc⟩; refine Stop.out ?_)
  unfold Stop
  first | exact ⟨rfl, OutQ.fault rfl ((Chg.of HB0.out).trans (HCb.out.trans hc))⟩ | (go_wp2; exact ⟨rfl, OutQ.fault rfl ((Chg.of HB0.out).trans (HCb.out.trans hc))⟩)
set_option maxHeartbeats 4000000 in
theorem prim_min_ok (G : Gr) (R d f : Nat) (s : Rd) (w : World) (hr : RdAt w R G.en s) (hd : d ≤ 64) (hB : BrackC G R f) {s1 s2 : Rd} {l : List Sh} (hs0 : skipP bxB s = none) (hs1 : skipP smB s = none) (hsl : skipP mnB s = some s1) (hn : brackP G f 2 d opB s1 = .ok l s2) : Calls Tryz.prog 86 #[.pointer (some ⟨R, 0, none⟩), .int .i64 (d : Nat)] w (OutQ R G.en w (.ok (nodeS 7 l) s2)) := by
  have hB0 := below_alloc w (.cells #[.int .i64 0, .int .i64 0, .string ⟨#[]⟩, .slice none 0 0, .slice none 0 0] 32)
  have H0 := Lib.hid (heap_alloc_new w (.cells #[.int .i64 0, .int .i64 0, .string ⟨#[]⟩, .slice none 0 0, .slice none 0 0] 32))
  have HR0 := Lib.hid (hr.on hB0)
  have HB0 := Lib.hid hB0
  have HC0 : Hid (Chg R (w.alloc (.cells #[.int .i64 0, .int .i64 0, .string ⟨#[]⟩, .slice none 0 0, .slice none 0 0] 32)) (w.alloc (.cells #[.int .i64 0, .int .i64 0, .string ⟨#[]⟩, .slice none 0 0, .slice none 0 0] 32))) := Lib.hid (Chg.refl _ _)
  have HRl := Lib.hid hr.lt
  have HS0 := Lib.hid hs0
  have HS1 := Lib.hid hs1
  have HSl := Lib.hid hsl
  clear hr hB0 hs0 hs1 hsl
  go_enter Tryz.func86, Tryz.ntmps86
  go_wp2_with (go_at_call 56; refine (skip_f HR0.out bxB (by decide) HS0.out).mono ?_; rintro e wa1 ⟨rfl, hr, hc⟩; refine Stop.out ?_)
  unfold Stop
  have HR1 := Lib.hid hr
  have HC1 := Lib.hid (HC0.out.trans hc)
  clear hr hc
  go_wp2_with (go_at_call 56; refine (skip_f HR1.out smB (by decide) HS1.out).mono ?_; rintro e wa2 ⟨rfl, hr, hc⟩; refine Stop.out ?_)
  unfold Stop
  have HR2 := Lib.hid hr
  have HC2 := Lib.hid (HC1.out.trans hc)
  clear hr hc
  go_wp2_with (go_at_call 56; refine (skip_t HR2.out mnB (by decide) HSl.out).mono ?_; rintro e wb ⟨rfl, hr, hc⟩; refine Stop.out ?_)
  unfold Stop
  have HRb := Lib.hid hr
  have HCb := Lib.hid (HC2.out.trans hc)
  clear hr hc
  have hcall := hB 2 d s1 wb (by decide) (by decide) hd HRb.out (by rw [hn]; exact fun e => by cases e)
  rw [hn] at hcall
  have HCl := Lib.hid hcall
  clear hcall hn hB
  go_wp2_with (go_at_call 105; refine HCl.out.mono ?_; rintro e wc ⟨kb, kc, ts, rfl, hts, hrw, hne, hnb, hge, hlk, hkm, hr, hc⟩; refine Stop.out ?_)
  unfold Stop
  have HRc := Lib.hid hr
  have HTs := Lib.hid hts
  have HTr := Lib.hid hrw
  have HTf := Lib.hid (And.intro hne (And.intro hnb (And.intro hge (And.intro hlk hkm))))
  have HCc := Lib.hid (HCb.out.trans hc)
  have HGwc : Hid (wc.heap[w.heap.size]? = some (.cells #[.int .i64 0, .int .i64 0, .string ⟨#[]⟩, .slice none 0 0, .slice none 0 0] 32 (0, 0))) := Lib.hid (cell_far HCc.out H0.out (by have := HRl.out; omega))
  have HNd := Lib.hid (code_node wc 7 (some ⟨kb, 0, none⟩) ts.length kc)
  clear hts hrw hne hnb hge hlk hkm hr hc HCl
  go_wp2_with (go_at_call 63; refine HNd.out.mono ?_; rintro e wd ⟨rfl, hb⟩; refine Stop.out ?_)
  unfold Stop
  have HRd := Lib.hid (HRc.out.on hb)
  have HCd := Lib.hid (HCc.out.trans (Chg.of hb))
  have HGwd := Lib.hid (heap_on hb HGwc.out)
  have HTt := Lib.hid (node_tree 7 (HTs.out.on hb) (HTr.out.on (hb.block kb HTr.out.lt)) HTf.out.2.2.1 HTf.out.2.1 HTf.out.2.2.2.1 HTf.out.2.2.2.2)
  have HKv := Lib.hid (kids_ne kb kc HTf.out.1)
  clear hb HGwc HRc HTs HTr HTf HNd
  go_wp2_with ((with_reducible refine wpList_store_row (o := ⟨none, _, _, _, _, _⟩) 32 ?b0 (.tmp 4) (.tmp 22) ?b1 w.heap.size ?b2 [.int .i64 7, .int .i64 0, .string ⟨#[]⟩, .slice none 0 0, .slice (some ⟨kb, 0, none⟩) ts.length kc] ?b3 ?b4 ?b5 #[.int .i64 0, .int .i64 0, .string ⟨#[]⟩, .slice none 0 0, .slice none 0 0] ?b6 32 ?b7 ?_); (case b0 => rfl); (case b1 => rfl); (case b2 => rfl); (case b3 => exact expr_info); (case b4 => simp [Value.oneCell']); (case b5 => rfl); (case b6 => rfl); (case b7 => exact HGwd.out); (try simp only [Act.put]); refine Stop.out ?_)
  unfold Stop
  have HRw := Lib.hid (row_then (g := w.heap.size) (new := #[.int .i64 7, .int .i64 0, .string ⟨#[]⟩, .slice none 0 0, .slice (some ⟨kb, 0, none⟩) ts.length kc]) HGwd.out rfl rfl)
  have HCg := Lib.hid (setRow_chg wd w.heap.size #[.int .i64 7, .int .i64 0, .string ⟨#[]⟩, .slice none 0 0, .slice (some ⟨kb, 0, none⟩) ts.length kc])
  generalize World.setRow _ _ _ = wz at HRw HCg ⊢
  have HFin := Lib.hid (out_tree ⟨_, _, _, rfl⟩ ⟨_, _, _, rfl⟩ (HKv) (HTt.out) (B := wb.heap.size) (by have := HB0.out.size; have := World.size_alloc w (.cells #[.int .i64 0, .int .i64 0, .string ⟨#[]⟩, .slice none 0 0, .slice none 0 0] 32); have := HCb.out.size; omega) rfl (by have := World.size_alloc w (.cells #[.int .i64 0, .int .i64 0, .string ⟨#[]⟩, .slice none 0 0, .slice none 0 0] 32); have := HCb.out.size; omega) HRd.out HRl.out HGwd.out ((Chg.of HB0.out).trans HCd.out) HCg.out)
  clear HGwd HCg
  go_wp2
  exact bodyPost_ret (results_cell_row Tryz.results86 _ _ w.heap.size 32 #[.int .i64 7, .int .i64 0, .string ⟨#[]⟩, .slice none 0 0, .slice (some ⟨kb, 0, none⟩) ts.length kc] (0, 0) _ rfl HRw.out Tryz.underlying32 rfl expr_info) rfl HFin.out
set_option maxHeartbeats 4000000 in
theorem prim_max_flt (G : Gr) (R d f : Nat) (s : Rd) (w : World) (hr : RdAt w R G.en s) (hd : d ≤ 64) (hB : BrackC G R f) {s1 : Rd} {a k : Int} (hs0 : skipP bxB s = none) (hs1 : skipP smB s = none) (hs2 : skipP mnB s = none) (hsl : skipP mxB s = some s1) (hn : brackP G f 2 d opB s1 = .flt a k) : Calls Tryz.prog 86 #[.pointer (some ⟨R, 0, none⟩), .int .i64 (d : Nat)] w (OutQ R G.en w (.flt a k)) := by
  have hB0 := below_alloc w (.cells #[.int .i64 0, .int .i64 0, .string ⟨#[]⟩, .slice none 0 0, .slice none 0 0] 32)
  have H0 := Lib.hid (heap_alloc_new w (.cells #[.int .i64 0, .int .i64 0, .string ⟨#[]⟩, .slice none 0 0, .slice none 0 0] 32))
  have HR0 := Lib.hid (hr.on hB0)
  have HB0 := Lib.hid hB0
  have HC0 : Hid (Chg R (w.alloc (.cells #[.int .i64 0, .int .i64 0, .string ⟨#[]⟩, .slice none 0 0, .slice none 0 0] 32)) (w.alloc (.cells #[.int .i64 0, .int .i64 0, .string ⟨#[]⟩, .slice none 0 0, .slice none 0 0] 32))) := Lib.hid (Chg.refl _ _)
  have HRl := Lib.hid hr.lt
  have HS0 := Lib.hid hs0
  have HS1 := Lib.hid hs1
  have HS2 := Lib.hid hs2
  have HSl := Lib.hid hsl
  clear hr hB0 hs0 hs1 hs2 hsl
  go_enter Tryz.func86, Tryz.ntmps86
  go_wp2_with (go_at_call 56; refine (skip_f HR0.out bxB (by decide) HS0.out).mono ?_; rintro e wa1 ⟨rfl, hr, hc⟩; refine Stop.out ?_)
  unfold Stop
  have HR1 := Lib.hid hr
  have HC1 := Lib.hid (HC0.out.trans hc)
  clear hr hc
  go_wp2_with (go_at_call 56; refine (skip_f HR1.out smB (by decide) HS1.out).mono ?_; rintro e wa2 ⟨rfl, hr, hc⟩; refine Stop.out ?_)
  unfold Stop
  have HR2 := Lib.hid hr
  have HC2 := Lib.hid (HC1.out.trans hc)
  clear hr hc
  go_wp2_with (go_at_call 56; refine (skip_f HR2.out mnB (by decide) HS2.out).mono ?_; rintro e wa3 ⟨rfl, hr, hc⟩; refine Stop.out ?_)
  unfold Stop
  have HR3 := Lib.hid hr
  have HC3 := Lib.hid (HC2.out.trans hc)
  clear hr hc
  go_wp2_with (go_at_call 56; refine (skip_t HR3.out mxB (by decide) HSl.out).mono ?_; rintro e wb ⟨rfl, hr, hc⟩; refine Stop.out ?_)
  unfold Stop
  have HRb := Lib.hid hr
  have HCb := Lib.hid (HC3.out.trans hc)
  clear hr hc
  have hcall := hB 2 d s1 wb (by decide) (by decide) hd HRb.out (by rw [hn]; exact fun e => by cases e)
  rw [hn] at hcall
  have HCl := Lib.hid hcall
  clear hcall hn hB
  go_wp2_with (go_at_call 105; refine HCl.out.mono ?_; rintro e wc ⟨rfl, hc⟩; refine Stop.out ?_)
  unfold Stop
  first | exact ⟨rfl, OutQ.fault rfl ((Chg.of HB0.out).trans (HCb.out.trans hc))⟩ | (go_wp2; exact ⟨rfl, OutQ.fault rfl ((Chg.of HB0.out).trans (HCb.out.trans hc))⟩)
set_option maxHeartbeats 4000000 in
theorem prim_max_ok (G : Gr) (R d f : Nat) (s : Rd) (w : World) (hr : RdAt w R G.en s) (hd : d ≤ 64) (hB : BrackC G R f) {s1 s2 : Rd} {l : List Sh} (hs0 : skipP bxB s = none) (hs1 : skipP smB s = none) (hs2 : skipP mnB s = none) (hsl : skipP mxB s = some s1) (hn : brackP G f 2 d opB s1 = .ok l s2) : Calls Tryz.prog 86 #[.pointer (some ⟨R, 0, none⟩), .int .i64 (d : Nat)] w (OutQ R G.en w (.ok (nodeS 8 l) s2)) := by
  have hB0 := below_alloc w (.cells #[.int .i64 0, .int .i64 0, .string ⟨#[]⟩, .slice none 0 0, .slice none 0 0] 32)
  have H0 := Lib.hid (heap_alloc_new w (.cells #[.int .i64 0, .int .i64 0, .string ⟨#[]⟩, .slice none 0 0, .slice none 0 0] 32))
  have HR0 := Lib.hid (hr.on hB0)
  have HB0 := Lib.hid hB0
  have HC0 : Hid (Chg R (w.alloc (.cells #[.int .i64 0, .int .i64 0, .string ⟨#[]⟩, .slice none 0 0, .slice none 0 0] 32)) (w.alloc (.cells #[.int .i64 0, .int .i64 0, .string ⟨#[]⟩, .slice none 0 0, .slice none 0 0] 32))) := Lib.hid (Chg.refl _ _)
  have HRl := Lib.hid hr.lt
  have HS0 := Lib.hid hs0
  have HS1 := Lib.hid hs1
  have HS2 := Lib.hid hs2
  have HSl := Lib.hid hsl
  clear hr hB0 hs0 hs1 hs2 hsl
  go_enter Tryz.func86, Tryz.ntmps86
  go_wp2_with (go_at_call 56; refine (skip_f HR0.out bxB (by decide) HS0.out).mono ?_; rintro e wa1 ⟨rfl, hr, hc⟩; refine Stop.out ?_)
  unfold Stop
  have HR1 := Lib.hid hr
  have HC1 := Lib.hid (HC0.out.trans hc)
  clear hr hc
  go_wp2_with (go_at_call 56; refine (skip_f HR1.out smB (by decide) HS1.out).mono ?_; rintro e wa2 ⟨rfl, hr, hc⟩; refine Stop.out ?_)
  unfold Stop
  have HR2 := Lib.hid hr
  have HC2 := Lib.hid (HC1.out.trans hc)
  clear hr hc
  go_wp2_with (go_at_call 56; refine (skip_f HR2.out mnB (by decide) HS2.out).mono ?_; rintro e wa3 ⟨rfl, hr, hc⟩; refine Stop.out ?_)
  unfold Stop
  have HR3 := Lib.hid hr
  have HC3 := Lib.hid (HC2.out.trans hc)
  clear hr hc
  go_wp2_with (go_at_call 56; refine (skip_t HR3.out mxB (by decide) HSl.out).mono ?_; rintro e wb ⟨rfl, hr, hc⟩; refine Stop.out ?_)
  unfold Stop
  have HRb := Lib.hid hr
  have HCb := Lib.hid (HC3.out.trans hc)
  clear hr hc
  have hcall := hB 2 d s1 wb (by decide) (by decide) hd HRb.out (by rw [hn]; exact fun e => by cases e)
  rw [hn] at hcall
  have HCl := Lib.hid hcall
  clear hcall hn hB
  go_wp2_with (go_at_call 105; refine HCl.out.mono ?_; rintro e wc ⟨kb, kc, ts, rfl, hts, hrw, hne, hnb, hge, hlk, hkm, hr, hc⟩; refine Stop.out ?_)
  unfold Stop
  have HRc := Lib.hid hr
  have HTs := Lib.hid hts
  have HTr := Lib.hid hrw
  have HTf := Lib.hid (And.intro hne (And.intro hnb (And.intro hge (And.intro hlk hkm))))
  have HCc := Lib.hid (HCb.out.trans hc)
  have HGwc : Hid (wc.heap[w.heap.size]? = some (.cells #[.int .i64 0, .int .i64 0, .string ⟨#[]⟩, .slice none 0 0, .slice none 0 0] 32 (0, 0))) := Lib.hid (cell_far HCc.out H0.out (by have := HRl.out; omega))
  have HNd := Lib.hid (code_node wc 8 (some ⟨kb, 0, none⟩) ts.length kc)
  clear hts hrw hne hnb hge hlk hkm hr hc HCl
  go_wp2_with (go_at_call 63; refine HNd.out.mono ?_; rintro e wd ⟨rfl, hb⟩; refine Stop.out ?_)
  unfold Stop
  have HRd := Lib.hid (HRc.out.on hb)
  have HCd := Lib.hid (HCc.out.trans (Chg.of hb))
  have HGwd := Lib.hid (heap_on hb HGwc.out)
  have HTt := Lib.hid (node_tree 8 (HTs.out.on hb) (HTr.out.on (hb.block kb HTr.out.lt)) HTf.out.2.2.1 HTf.out.2.1 HTf.out.2.2.2.1 HTf.out.2.2.2.2)
  have HKv := Lib.hid (kids_ne kb kc HTf.out.1)
  clear hb HGwc HRc HTs HTr HTf HNd
  go_wp2_with ((with_reducible refine wpList_store_row (o := ⟨none, _, _, _, _, _⟩) 32 ?b0 (.tmp 4) (.tmp 29) ?b1 w.heap.size ?b2 [.int .i64 8, .int .i64 0, .string ⟨#[]⟩, .slice none 0 0, .slice (some ⟨kb, 0, none⟩) ts.length kc] ?b3 ?b4 ?b5 #[.int .i64 0, .int .i64 0, .string ⟨#[]⟩, .slice none 0 0, .slice none 0 0] ?b6 32 ?b7 ?_); (case b0 => rfl); (case b1 => rfl); (case b2 => rfl); (case b3 => exact expr_info); (case b4 => simp [Value.oneCell']); (case b5 => rfl); (case b6 => rfl); (case b7 => exact HGwd.out); (try simp only [Act.put]); refine Stop.out ?_)
  unfold Stop
  have HRw := Lib.hid (row_then (g := w.heap.size) (new := #[.int .i64 8, .int .i64 0, .string ⟨#[]⟩, .slice none 0 0, .slice (some ⟨kb, 0, none⟩) ts.length kc]) HGwd.out rfl rfl)
  have HCg := Lib.hid (setRow_chg wd w.heap.size #[.int .i64 8, .int .i64 0, .string ⟨#[]⟩, .slice none 0 0, .slice (some ⟨kb, 0, none⟩) ts.length kc])
  generalize World.setRow _ _ _ = wz at HRw HCg ⊢
  have HFin := Lib.hid (out_tree ⟨_, _, _, rfl⟩ ⟨_, _, _, rfl⟩ (HKv) (HTt.out) (B := wb.heap.size) (by have := HB0.out.size; have := World.size_alloc w (.cells #[.int .i64 0, .int .i64 0, .string ⟨#[]⟩, .slice none 0 0, .slice none 0 0] 32); have := HCb.out.size; omega) rfl (by have := World.size_alloc w (.cells #[.int .i64 0, .int .i64 0, .string ⟨#[]⟩, .slice none 0 0, .slice none 0 0] 32); have := HCb.out.size; omega) HRd.out HRl.out HGwd.out ((Chg.of HB0.out).trans HCd.out) HCg.out)
  clear HGwd HCg
  go_wp2
  exact bodyPost_ret (results_cell_row Tryz.results86 _ _ w.heap.size 32 #[.int .i64 8, .int .i64 0, .string ⟨#[]⟩, .slice none 0 0, .slice (some ⟨kb, 0, none⟩) ts.length kc] (0, 0) _ rfl HRw.out Tryz.underlying32 rfl expr_info) rfl HFin.out
set_option maxHeartbeats 4000000 in
theorem prim_clp_flt (G : Gr) (R d f : Nat) (s : Rd) (w : World) (hr : RdAt w R G.en s) (hd : d ≤ 64) (hB : BrackC G R f) {s1 : Rd} {a k : Int} (hs0 : skipP bxB s = none) (hs1 : skipP smB s = none) (hs2 : skipP mnB s = none) (hs3 : skipP mxB s = none) (hsl : skipP clB s = some s1) (hn : brackP G f 3 d opB s1 = .flt a k) : Calls Tryz.prog 86 #[.pointer (some ⟨R, 0, none⟩), .int .i64 (d : Nat)] w (OutQ R G.en w (.flt a k)) := by
  have hB0 := below_alloc w (.cells #[.int .i64 0, .int .i64 0, .string ⟨#[]⟩, .slice none 0 0, .slice none 0 0] 32)
  have H0 := Lib.hid (heap_alloc_new w (.cells #[.int .i64 0, .int .i64 0, .string ⟨#[]⟩, .slice none 0 0, .slice none 0 0] 32))
  have HR0 := Lib.hid (hr.on hB0)
  have HB0 := Lib.hid hB0
  have HC0 : Hid (Chg R (w.alloc (.cells #[.int .i64 0, .int .i64 0, .string ⟨#[]⟩, .slice none 0 0, .slice none 0 0] 32)) (w.alloc (.cells #[.int .i64 0, .int .i64 0, .string ⟨#[]⟩, .slice none 0 0, .slice none 0 0] 32))) := Lib.hid (Chg.refl _ _)
  have HRl := Lib.hid hr.lt
  have HS0 := Lib.hid hs0
  have HS1 := Lib.hid hs1
  have HS2 := Lib.hid hs2
  have HS3 := Lib.hid hs3
  have HSl := Lib.hid hsl
  clear hr hB0 hs0 hs1 hs2 hs3 hsl
  go_enter Tryz.func86, Tryz.ntmps86
  go_wp2_with (go_at_call 56; refine (skip_f HR0.out bxB (by decide) HS0.out).mono ?_; rintro e wa1 ⟨rfl, hr, hc⟩; refine Stop.out ?_)
  unfold Stop
  have HR1 := Lib.hid hr
  have HC1 := Lib.hid (HC0.out.trans hc)
  clear hr hc
  go_wp2_with (go_at_call 56; refine (skip_f HR1.out smB (by decide) HS1.out).mono ?_; rintro e wa2 ⟨rfl, hr, hc⟩; refine Stop.out ?_)
  unfold Stop
  have HR2 := Lib.hid hr
  have HC2 := Lib.hid (HC1.out.trans hc)
  clear hr hc
  go_wp2_with (go_at_call 56; refine (skip_f HR2.out mnB (by decide) HS2.out).mono ?_; rintro e wa3 ⟨rfl, hr, hc⟩; refine Stop.out ?_)
  unfold Stop
  have HR3 := Lib.hid hr
  have HC3 := Lib.hid (HC2.out.trans hc)
  clear hr hc
  go_wp2_with (go_at_call 56; refine (skip_f HR3.out mxB (by decide) HS3.out).mono ?_; rintro e wa4 ⟨rfl, hr, hc⟩; refine Stop.out ?_)
  unfold Stop
  have HR4 := Lib.hid hr
  have HC4 := Lib.hid (HC3.out.trans hc)
  clear hr hc
  go_wp2_with (go_at_call 56; refine (skip_t HR4.out clB (by decide) HSl.out).mono ?_; rintro e wb ⟨rfl, hr, hc⟩; refine Stop.out ?_)
  unfold Stop
  have HRb := Lib.hid hr
  have HCb := Lib.hid (HC4.out.trans hc)
  clear hr hc
  have hcall := hB 3 d s1 wb (by decide) (by decide) hd HRb.out (by rw [hn]; exact fun e => by cases e)
  rw [hn] at hcall
  have HCl := Lib.hid hcall
  clear hcall hn hB
  go_wp2_with (go_at_call 105; refine HCl.out.mono ?_; rintro e wc ⟨rfl, hc⟩; refine Stop.out ?_)
  unfold Stop
  first | exact ⟨rfl, OutQ.fault rfl ((Chg.of HB0.out).trans (HCb.out.trans hc))⟩ | (go_wp2; exact ⟨rfl, OutQ.fault rfl ((Chg.of HB0.out).trans (HCb.out.trans hc))⟩)
set_option maxHeartbeats 4000000 in
theorem prim_clp_ok (G : Gr) (R d f : Nat) (s : Rd) (w : World) (hr : RdAt w R G.en s) (hd : d ≤ 64) (hB : BrackC G R f) {s1 s2 : Rd} {l : List Sh} (hs0 : skipP bxB s = none) (hs1 : skipP smB s = none) (hs2 : skipP mnB s = none) (hs3 : skipP mxB s = none) (hsl : skipP clB s = some s1) (hn : brackP G f 3 d opB s1 = .ok l s2) : Calls Tryz.prog 86 #[.pointer (some ⟨R, 0, none⟩), .int .i64 (d : Nat)] w (OutQ R G.en w (.ok (nodeS 9 l) s2)) := by
  have hB0 := below_alloc w (.cells #[.int .i64 0, .int .i64 0, .string ⟨#[]⟩, .slice none 0 0, .slice none 0 0] 32)
  have H0 := Lib.hid (heap_alloc_new w (.cells #[.int .i64 0, .int .i64 0, .string ⟨#[]⟩, .slice none 0 0, .slice none 0 0] 32))
  have HR0 := Lib.hid (hr.on hB0)
  have HB0 := Lib.hid hB0
  have HC0 : Hid (Chg R (w.alloc (.cells #[.int .i64 0, .int .i64 0, .string ⟨#[]⟩, .slice none 0 0, .slice none 0 0] 32)) (w.alloc (.cells #[.int .i64 0, .int .i64 0, .string ⟨#[]⟩, .slice none 0 0, .slice none 0 0] 32))) := Lib.hid (Chg.refl _ _)
  have HRl := Lib.hid hr.lt
  have HS0 := Lib.hid hs0
  have HS1 := Lib.hid hs1
  have HS2 := Lib.hid hs2
  have HS3 := Lib.hid hs3
  have HSl := Lib.hid hsl
  clear hr hB0 hs0 hs1 hs2 hs3 hsl
  go_enter Tryz.func86, Tryz.ntmps86
  go_wp2_with (go_at_call 56; refine (skip_f HR0.out bxB (by decide) HS0.out).mono ?_; rintro e wa1 ⟨rfl, hr, hc⟩; refine Stop.out ?_)
  unfold Stop
  have HR1 := Lib.hid hr
  have HC1 := Lib.hid (HC0.out.trans hc)
  clear hr hc
  go_wp2_with (go_at_call 56; refine (skip_f HR1.out smB (by decide) HS1.out).mono ?_; rintro e wa2 ⟨rfl, hr, hc⟩; refine Stop.out ?_)
  unfold Stop
  have HR2 := Lib.hid hr
  have HC2 := Lib.hid (HC1.out.trans hc)
  clear hr hc
  go_wp2_with (go_at_call 56; refine (skip_f HR2.out mnB (by decide) HS2.out).mono ?_; rintro e wa3 ⟨rfl, hr, hc⟩; refine Stop.out ?_)
  unfold Stop
  have HR3 := Lib.hid hr
  have HC3 := Lib.hid (HC2.out.trans hc)
  clear hr hc
  go_wp2_with (go_at_call 56; refine (skip_f HR3.out mxB (by decide) HS3.out).mono ?_; rintro e wa4 ⟨rfl, hr, hc⟩; refine Stop.out ?_)
  unfold Stop
  have HR4 := Lib.hid hr
  have HC4 := Lib.hid (HC3.out.trans hc)
  clear hr hc
  go_wp2_with (go_at_call 56; refine (skip_t HR4.out clB (by decide) HSl.out).mono ?_; rintro e wb ⟨rfl, hr, hc⟩; refine Stop.out ?_)
  unfold Stop
  have HRb := Lib.hid hr
  have HCb := Lib.hid (HC4.out.trans hc)
  clear hr hc
  have hcall := hB 3 d s1 wb (by decide) (by decide) hd HRb.out (by rw [hn]; exact fun e => by cases e)
  rw [hn] at hcall
  have HCl := Lib.hid hcall
  clear hcall hn hB
  go_wp2_with (go_at_call 105; refine HCl.out.mono ?_; rintro e wc ⟨kb, kc, ts, rfl, hts, hrw, hne, hnb, hge, hlk, hkm, hr, hc⟩; refine Stop.out ?_)
  unfold Stop
  have HRc := Lib.hid hr
  have HTs := Lib.hid hts
  have HTr := Lib.hid hrw
  have HTf := Lib.hid (And.intro hne (And.intro hnb (And.intro hge (And.intro hlk hkm))))
  have HCc := Lib.hid (HCb.out.trans hc)
  have HGwc : Hid (wc.heap[w.heap.size]? = some (.cells #[.int .i64 0, .int .i64 0, .string ⟨#[]⟩, .slice none 0 0, .slice none 0 0] 32 (0, 0))) := Lib.hid (cell_far HCc.out H0.out (by have := HRl.out; omega))
  have HNd := Lib.hid (code_node wc 9 (some ⟨kb, 0, none⟩) ts.length kc)
  clear hts hrw hne hnb hge hlk hkm hr hc HCl
  go_wp2_with (go_at_call 63; refine HNd.out.mono ?_; rintro e wd ⟨rfl, hb⟩; refine Stop.out ?_)
  unfold Stop
  have HRd := Lib.hid (HRc.out.on hb)
  have HCd := Lib.hid (HCc.out.trans (Chg.of hb))
  have HGwd := Lib.hid (heap_on hb HGwc.out)
  have HTt := Lib.hid (node_tree 9 (HTs.out.on hb) (HTr.out.on (hb.block kb HTr.out.lt)) HTf.out.2.2.1 HTf.out.2.1 HTf.out.2.2.2.1 HTf.out.2.2.2.2)
  have HKv := Lib.hid (kids_ne kb kc HTf.out.1)
  clear hb HGwc HRc HTs HTr HTf HNd
  go_wp2_with ((with_reducible refine wpList_store_row (o := ⟨none, _, _, _, _, _⟩) 32 ?b0 (.tmp 4) (.tmp 36) ?b1 w.heap.size ?b2 [.int .i64 9, .int .i64 0, .string ⟨#[]⟩, .slice none 0 0, .slice (some ⟨kb, 0, none⟩) ts.length kc] ?b3 ?b4 ?b5 #[.int .i64 0, .int .i64 0, .string ⟨#[]⟩, .slice none 0 0, .slice none 0 0] ?b6 32 ?b7 ?_); (case b0 => rfl); (case b1 => rfl); (case b2 => rfl); (case b3 => exact expr_info); (case b4 => simp [Value.oneCell']); (case b5 => rfl); (case b6 => rfl); (case b7 => exact HGwd.out); (try simp only [Act.put]); refine Stop.out ?_)
  unfold Stop
  have HRw := Lib.hid (row_then (g := w.heap.size) (new := #[.int .i64 9, .int .i64 0, .string ⟨#[]⟩, .slice none 0 0, .slice (some ⟨kb, 0, none⟩) ts.length kc]) HGwd.out rfl rfl)
  have HCg := Lib.hid (setRow_chg wd w.heap.size #[.int .i64 9, .int .i64 0, .string ⟨#[]⟩, .slice none 0 0, .slice (some ⟨kb, 0, none⟩) ts.length kc])
  generalize World.setRow _ _ _ = wz at HRw HCg ⊢
  have HFin := Lib.hid (out_tree ⟨_, _, _, rfl⟩ ⟨_, _, _, rfl⟩ (HKv) (HTt.out) (B := wb.heap.size) (by have := HB0.out.size; have := World.size_alloc w (.cells #[.int .i64 0, .int .i64 0, .string ⟨#[]⟩, .slice none 0 0, .slice none 0 0] 32); have := HCb.out.size; omega) rfl (by have := World.size_alloc w (.cells #[.int .i64 0, .int .i64 0, .string ⟨#[]⟩, .slice none 0 0, .slice none 0 0] 32); have := HCb.out.size; omega) HRd.out HRl.out HGwd.out ((Chg.of HB0.out).trans HCd.out) HCg.out)
  clear HGwd HCg
  go_wp2
  exact bodyPost_ret (results_cell_row Tryz.results86 _ _ w.heap.size 32 #[.int .i64 9, .int .i64 0, .string ⟨#[]⟩, .slice none 0 0, .slice (some ⟨kb, 0, none⟩) ts.length kc] (0, 0) _ rfl HRw.out Tryz.underlying32 rfl expr_info) rfl HFin.out
end Go.Proofs.YtpapcnogbmjpjaaGreatDoor
