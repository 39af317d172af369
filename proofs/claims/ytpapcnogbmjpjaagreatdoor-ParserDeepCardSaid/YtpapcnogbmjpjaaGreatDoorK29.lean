/- Boxes that were read; an expression alone. Whether a box is too deep. -/
import Derived.Test.YtpapcnogbmjpjaaGreatDoorK28
namespace Go.Proofs.YtpapcnogbmjpjaaGreatDoor
open Go.RowKit
set_option maxRecDepth 100000
set_option linter.unusedSimpArgs false
set_option linter.unusedVariables false
attribute [local go_sem] Oper.semAt_some

/-- a box: its number, its tree -/
def bxC (p : Int × Tr) : List Value := .int .i64 p.1 :: exC p.2
def bxCs (l : List (Int × Tr)) : List Value := l.flatMap bxC
theorem bxC_len (p : Int × Tr) : (bxC p).length = 6 := by unfold bxC; rw [List.length_cons, exC_len]
theorem bxCs_len : ∀ l : List (Int × Tr), (bxCs l).length = l.length * 6 := by
  intro l
  induction l with
  | nil => rfl
  | cons a l ih =>
    show (bxC a ++ bxCs l).length = _
    rw [List.length_append, ih, bxC_len, List.length_cons]
    omega
theorem bxCs_app (l : List (Int × Tr)) (u : Int × Tr) : bxCs (l ++ [u]) = bxCs l ++ bxC u := by simp [bxCs]
/-- boxes that were read -/
structure BoxesQ (B : Nat) (w : World) (l : List (Int × Tr)) (s : List (Int × Sh)) : Prop where
  trees : TreesQ B w (l.map (·.2)) (s.map (·.2))
  nums : l.map (·.1) = s.map (·.1)
theorem BoxesQ.on {B : Nat} {w w' : World} {l : List (Int × Tr)} {s : List (Int × Sh)} (h : BoxesQ B w l s) (hb : Below w.heap.size w w') : BoxesQ B w' l s := ⟨h.trees.on hb, h.nums⟩
/-- what reading boxes comes to, in memory -/
def OutB (R : Nat) (en : Int) (w : World) (r : PR (List (Int × Sh))) (e : Ending) (w' : World) : Prop := match r with
  | .ok s sx => ∃ v l, e = .returned v ∧ w'.ownsRow w.heap.size 42 6 v l.length (bxCs l) ∧ BoxesQ w.heap.size w' l s ∧ RdAt w' R en sx ∧ Chg R w w'
  | .flt a k => Flt e a k ∧ Chg R w w'
  | .out => True
theorem OutB.fault {R : Nat} {en a k : Int} {w w' : World} {e : Ending} (h1 : Flt e a k) (h2 : Chg R w w') : OutB R en w (.flt a k) e w' := ⟨h1, h2⟩
/-- an expression, with fuel enough -/
def exprE (en : Int) (d : Nat) (s : Rd) : PR Sh := exprP (gramG en) (8 * s.T.length + 4) d s
theorem exprE_out (en : Int) (d : Nat) (s : Rd) : exprE en d s ≠ .out :=
  (enough (gramG en) (fun s x s1 h => total_len en s x s1 h) (total_out en) _).2.2.2.1 d s (Nat.le_refl _)
theorem exprE_len {en : Int} {d : Nat} {s s1 : Rd} {x : Sh} (h : exprE en d s = .ok x s1) : s1.T.length ≤ s.T.length :=
  (less_all (gramG en) (fun s x s1 h => total_len en s x s1 h) _).2.2.2.1 _ _ _ _ h
theorem code_exprE {en : Int} {R d : Nat} {s : Rd} {w : World} (hd : d ≤ 64) (hr : RdAt w R en s) : Calls Tryz.prog 38 #[.pointer (some ⟨R, 0, none⟩), .int .i64 (d : Nat)] w (OutQ R en w (exprE en d s)) :=
  code_expr_of en R (code_total en R) hd hr _ (Nat.le_refl _)
def aloneP (en : Int) (s : Rd) : PR (List (Int × Sh)) := match exprE en 0 s with
  | .ok x s1 => if s1.T = [] then .ok [(0, x)] s1 else .flt (posP en s1) 81
  | .flt a k => .flt a k
  | .out => .out
theorem build_box (n k : Int) (m : Int) (fd : ByteArray) (fA : Option Addr) (fn fc : Nat) (KA : Option Addr) (KN KC : Nat) (w : World) : (Instr.build 42 #[(1, .agg #[.int .i64 k, .int .i64 n, .string fd, .slice fA fn fc, .slice KA KN KC])]).run Tryz.prog w = .ok (.agg #[.int .i64 0, .int .i64 k, .int .i64 n, .string fd, .slice fA fn fc, .slice KA KN KC]) w := run_build w 42 _ _ (by kernel_rfl)
theorem own_one {w : World} {B g : Nat} {u : Int × Tr} (h : w.heap[g]? = some (.cells (bxC u).toArray 42 (0, 0))) (hB : B ≤ g) : w.ownsRow B 42 6 (.slice (some ⟨g, 0, none⟩) 1 1) 1 (bxCs [u]) := by
  have hl : (bxCs [u]).length = 6 := bxCs_len [u]
  have hb : bxCs [u] = bxC u := by simp [bxCs]
  have h6 := bxC_len u
  refine ⟨by rw [hl], .inr ⟨g, 1, _, rfl, hB, h, Nat.le_refl _, by decide, by simpa using h6, ?_⟩⟩
  rw [hb]
  simp only [Nat.one_mul]
  rw [List.take_of_length_le]
  exact Nat.le_of_eq h6
set_option maxHeartbeats 4000000 in
theorem code_alone {R : Nat} {en : Int} {s : Rd} {w : World} (hr : RdAt w R en s) : Calls Tryz.prog 20 #[.pointer (some ⟨R, 0, none⟩)] w (OutB R en w (aloneP en s)) := by
  have HRl := Lib.hid hr.lt
  have HCl := Lib.hid (code_exprE (d := 0) (Nat.zero_le _) hr)
  clear hr
  unfold aloneP
  cases he : exprE en 0 s with
  | out => exact (exprE_out en 0 s he).elim
  | flt a k =>
    rw [he] at HCl
    clear he
    go_enter Tryz.func20, Tryz.ntmps20
    go_wp2_with (go_at_call 38; refine HCl.out.mono ?_; rintro e w3 ⟨rfl, hc⟩; refine Stop.out ?_)
    unfold Stop
    first | exact ⟨rfl, OutB.fault rfl hc⟩ | (go_wp2; exact ⟨rfl, OutB.fault rfl hc⟩)
  | ok x s1 =>
    rw [he] at HCl
    clear he
    dsimp only
    obtain ⟨r, hrr⟩ : ∃ r, (if s1.T = [] then PR.ok [((0 : Int), x)] s1 else .flt (posP en s1) 81) = r := ⟨_, rfl⟩
    rw [hrr]
    have HRr := Lib.hid hrr
    clear hrr
    go_enter Tryz.func20, Tryz.ntmps20
    go_wp2_with (go_at_call 38; refine HCl.out.mono ?_; rintro e w3 ⟨k, n, fd, fA, fn, fc, kv, kb, kc, ks, rfl, hkv, ht, hr, hc⟩; refine Stop.out ?_)
    unfold Stop
    obtain ⟨KA, KN, KC, rfl⟩ := kids_slice hkv.out
    have HKv := hkv
    have HN0 := Lib.hid (heap_alloc_new w3 (.cells #[.int .i64 0, .int .i64 0, .string ⟨#[]⟩, .slice none 0 0, .slice none 0 0] 32))
    have HBF := Lib.hid (box_row w3 #[.int .i64 0, .int .i64 0, .string ⟨#[]⟩, .slice none 0 0, .slice none 0 0] #[.int .i64 k, .int .i64 n, .string fd, .slice fA fn fc, .slice KA KN KC] 32 rfl)
    have HTq := Lib.hid ht
    have HRd := Lib.hid hr
    have HC3 := Lib.hid hc
    clear ht hr hc hkv HCl
    go_wp2_with ((with_reducible refine wpList_store_row (o := ⟨none, _, _, _, _, _⟩) 32 ?b0 (.tmp 3) (.tmp 5) ?b1 w3.heap.size ?b2 [.int .i64 k, .int .i64 n, .string fd, .slice fA fn fc, .slice KA KN KC] ?b3 ?b4 ?b5 #[.int .i64 0, .int .i64 0, .string ⟨#[]⟩, .slice none 0 0, .slice none 0 0] ?b6 32 ?b7 ?_); (case b0 => rfl); (case b1 => rfl); (case b2 => rfl); (case b3 => exact expr_info); (case b4 => simp [Value.oneCell']); (case b5 => rfl); (case b6 => rfl); (case b7 => exact HN0.out); (try simp only [Act.put]); refine Stop.out ?_)
    unfold Stop
    clear HN0
    generalize World.setRow _ _ _ = w5 at HBF ⊢
    have HT5 := Lib.hid (HTq.out.on HBF.out.1)
    have HR5 := Lib.hid (HRd.out.on HBF.out.1)
    have HC5 := Lib.hid (HC3.out.trans (Chg.of HBF.out.1))
    have HX5 := Lib.hid HBF.out.2
    obtain ⟨g5, hg5⟩ : ∃ g, g = w3.heap.size := ⟨_, rfl⟩
    rw [← hg5] at HX5 ⊢
    clear HBF HTq HRd HC3 hg5
    obtain ⟨A, c, hf, hcm⟩ := rd_front HR5.out
    obtain ⟨c0, c1, c2, c3⟩ := row4c hf
    clear hf hcm
    by_cases hn : s1.T = []
    · have hr2 : PR.ok [((0 : Int), x)] s1 = r := by have := HRr.out; rw [if_pos hn] at this; exact this
      subst hr2
      have hl : s1.T.length = 0 := by rw [hn]; rfl
      rw [hl] at c0
      have hbb := build_box n k n fd fA fn fc KA KN KC
      obtain ⟨e0, e1, e2, e3, e4⟩ := row5c HX5.out
      clear HRr hn hl
      go_wp2_with (go_at_call 39; refine (code_must_yes R w5).mono ?_; rintro e we ⟨rfl, heq⟩; obtain rfl := heq.symm; refine Stop.out ?_)
      unfold Stop
      have HA6 := Lib.hid (heap_alloc_new w5 (.cells #[.int .i64 0, .int .i64 k, .int .i64 n, .string fd, .slice fA fn fc, .slice KA KN KC] 42))
      have HB6 := Lib.hid (below_alloc w5 (.cells #[.int .i64 0, .int .i64 k, .int .i64 n, .string fd, .slice fA fn fc, .slice KA KN KC] 42))
      have HK6 : Hid (bxC (0, .mk k n fd fA fn fc kb kc ks) = [.int .i64 0, .int .i64 k, .int .i64 n, .string fd, .slice fA fn fc, .slice KA KN KC]) := Lib.hid (by unfold bxC exC; rw [HKv.out])
      go_wp2
      go_ret
      refine ⟨_, [(0, .mk k n fd fA fn fc kb kc ks)], rfl, own_one (by rw [HK6.out]; exact HA6.out) (by have := HC5.out.size; omega), ⟨TreesQ.one (HT5.out.on HB6.out), rfl⟩, HR5.out.on HB6.out, HC5.out.trans (Chg.of HB6.out)⟩
    · have hr2 : PR.flt (posP en s1) 81 = r := by have := HRr.out; rw [if_neg hn] at this; exact this
      subst hr2
      have hq : (((s1.T.length : Nat) : Int) == 0) = false := by
        have : s1.T.length ≠ 0 := fun e => hn (List.length_eq_zero_iff.1 e)
        simp
        omega
      have HMu := Lib.hid (code_must_no HR5.out _ rfl)
      clear HRr hn
      go_wp2_with (go_at_call 39; refine HMu.out.mono ?_; rintro e we ⟨rfl, hb⟩; refine Stop.out ?_)
      unfold Stop
      first | exact ⟨rfl, OutB.fault rfl (HC5.out.trans (Chg.of hb))⟩ | (go_wp2; exact ⟨rfl, OutB.fault rfl (HC5.out.trans (Chg.of hb))⟩)
end Go.Proofs.YtpapcnogbmjpjaaGreatDoor

namespace Go.Proofs.YtpapcnogbmjpjaaGreatDoor
open Go.RowKit
set_option maxRecDepth 100000
set_option linter.unusedSimpArgs false
set_option linter.unusedVariables false
attribute [local go_sem] Oper.semAt_some

theorem bxCs_at : ∀ (l : List (Int × Tr)) (i : Nat) (h : i < l.length) (j : Nat), j < 6 → (bxCs l)[6 * i + j]? = (bxC l[i])[j]? := by
  intro l
  induction l with
  | nil => intro i h; exact absurd h (Nat.not_lt_zero _)
  | cons t l ih =>
    intro i h j hj
    have e : bxCs (t :: l) = bxC t ++ bxCs l := rfl
    cases i with
    | zero =>
      rw [e, Nat.mul_zero, Nat.zero_add, List.getElem?_append_left (by rw [bxC_len]; exact hj)]
      rfl
    | succ i =>
      rw [e, List.getElem?_append_right (by rw [bxC_len]; omega), bxC_len, show 6 * (i + 1) + j - 6 = 6 * i + j by omega]
      exact ih i (by simpa using h) j hj
def RowX (w : World) (b : Nat) (l : List (Int × Tr)) : Prop := ∃ cs : Array Value, w.heap[b]? = some (.cells cs 42 (0, 0)) ∧ ∀ (j : Nat) (v : Value), (bxCs l)[j]? = some v → cs[j]? = some v
theorem RowX.on {w w' : World} {b : Nat} {l : List (Int × Tr)} (h : RowX w b l) (hb : Below w.heap.size w w') : RowX w' b l := by
  obtain ⟨cs, h1, h2⟩ := h
  exact ⟨cs, heap_on hb h1, h2⟩
theorem RowX.cells {w : World} {b : Nat} {l : List (Int × Tr)} (h : RowX w b l) (i : Nat) (hi : i < l.length) : ∀ (j : Nat) (v : Value), (bxC l[i])[j]? = some v → w.cell? ⟨b, i * 6 + j, none⟩ = some v := fun j v hv => by
  obtain ⟨cs, h1, h2⟩ := h
  have hj : j < 6 := by have := (List.getElem?_eq_some_iff.1 hv).1; rw [bxC_len] at this; exact this
  rw [Nat.mul_comm i 6]
  exact cell_of_row w b _ _ _ _ h1 |>.trans (h2 _ _ ((bxCs_at l i hi j hj).trans hv))
def deepAny (l : List (Int × Tr)) : Bool := l.any fun p => decide (64 < dep p.2)
theorem deepAny_app (l m : List (Int × Tr)) : deepAny (l ++ m) = (deepAny l || deepAny m) := by simp [deepAny]
theorem deepAny_take (l : List (Int × Tr)) (k : Nat) (h : k < l.length) : deepAny (l.take (k + 1)) = (deepAny (l.take k) || decide (64 < dep l[k].2)) := by
  rw [List.take_succ_eq_append_getElem h, deepAny_app]
  simp [deepAny]
theorem deepAny_hit (l : List (Int × Tr)) (k : Nat) (h : k < l.length) (hd : decide (64 < dep l[k].2) = true) : deepAny l = true := by
  unfold deepAny
  exact List.any_eq_true.2 ⟨l[k], List.getElem_mem _, hd⟩
set_option maxHeartbeats 4000000 in
theorem code_index_x (A : Option Addr) (c : Nat) (l : List (Int × Tr)) (w : World) (hl : l.length ≤ 256) (hr : l ≠ [] → ∃ b, A = some ⟨b, 0, none⟩ ∧ RowX w b l) (ht : ∀ p ∈ l, AtT w p.2 ∧ (bT p.2).Nodup) : Calls Tryz.prog 74 #[.slice A l.length c, .func (.func 55) #[] #[]] w fun e w' => (∃ j : Int, e = .returned (.int .i64 j) ∧ decide (0 ≤ j) = deepAny l) ∧ Below w.heap.size w w' := by
  have HR := Lib.hid hr
  have HT := Lib.hid ht
  have hln : (l.length : Int) ≤ 256 := by omega
  clear hr ht hl
  go_enter Tryz.func74, Tryz.ntmps74
  go_wp2
  go_loopw [8] (fun v8 wr => ∃ k : Nat, k ≤ l.length ∧ v8 = .int .i64 (k : Nat) ∧ Hid (Below w.heap.size w wr ∧ deepAny (l.take k) = false)) (fun v8 _ => l.length - (intOf v8).toNat)
  case atStart => exact ⟨0, Nat.zero_le _, rfl, Lib.hid ⟨Below.refl _ _, rfl⟩⟩
  case round =>
    obtain ⟨k, hk, rfl, HB⟩ := hrel
    by_cases hlt : k < l.length
    · obtain ⟨b, hA, hrow⟩ := HR.out (fun e => by rw [e] at hlt; simp at hlt)
      subst hA
      have HRow := Lib.hid (hrow.on HB.out.1)
      have HDk := Lib.hid (deepAny_take l k hlt)
      have HHit := Lib.hid (deepAny_hit l k hlt)
      have hTk := HT.out l[k] (List.getElem_mem _)
      have HC := Lib.hid (HRow.out.cells k hlt)
      clear hrow HRow
      obtain ⟨tk, htk⟩ : ∃ t, t = l[k] := ⟨_, rfl⟩
      rw [← htk] at HC hTk HDk HHit
      clear htk
      obtain ⟨n0, tr⟩ := tk
      have HG := Lib.hid (code_isTooDeep wr n0 tr (AtT.on _ hTk.1 (fun q hq => HB.out.1.block q (AtT.lt _ hTk.1 q hq)) HB.out.1.size) hTk.2)
      dsimp only at HDk HHit
      obtain ⟨q, hq⟩ : ∃ q, decide (64 < dep tr) = q := ⟨_, rfl⟩
      rw [hq] at HG HDk HHit
      clear hq hTk
      obtain ⟨t0, t1, t2, fA, fn, fc, kb, kc, ks⟩ := tr
      obtain ⟨KA, KN, KC, hkv⟩ := kids_slice (kv := kidsV kb kc ks) rfl
      have hx : (.int .i64 n0 :: exC (.mk t0 t1 t2 fA fn fc kb kc ks)).toArray = #[.int .i64 n0, .int .i64 t0, .int .i64 t1, .string t2, .slice fA fn fc, .slice KA KN KC] := by simp only [exC]; rw [hkv]
      rw [hx] at HG
      have hxc : bxC (n0, .mk t0 t1 t2 fA fn fc kb kc ks) = [.int .i64 n0, .int .i64 t0, .int .i64 t1, .string t2, .slice fA fn fc, .slice KA KN KC] := by simp only [bxC, exC]; rw [hkv]
      rw [hxc] at HC
      clear hx hxc hkv
      have u0 := HC.out 0 _ rfl
      rw [Nat.add_zero] at u0
      have u1 := HC.out 1 _ rfl
      have u2 := HC.out 2 _ rfl
      have u3 := HC.out 3 _ rfl
      have u4 := HC.out 4 _ rfl
      have u5 := HC.out 5 _ rfl
      clear HC HR HT
      go_wp2_with (go_at_call 55; refine HG.out.mono ?_; rintro e w3 ⟨rfl, hb⟩; refine Stop.out ?_)
      unfold Stop
      have HB6 := Lib.hid (below_then HB.out.1 hb)
      have HF := Lib.hid HB.out.2
      clear hb u0 u1 u2 u3 u4 u5 HG HB
      cases q with
      | true =>
        go_wp2
        go_ret
        exact ⟨⟨_, rfl, by rw [HHit.out (by trivial)]; simp⟩, HB6.out⟩
      | false =>
        clear HHit
        go_wp2
        exact ⟨⟨k + 1, by omega, by first | rfl | simp, Lib.hid ⟨HB6.out, by have := HDk.out; rw [HF.out] at this; simpa using this⟩⟩, by simp [intOf]; omega⟩
    · obtain rfl : k = l.length := by omega
      go_wp2
      go_ret
      exact ⟨⟨_, rfl, by have := HB.out.2; rw [List.take_length] at this; rw [this]; rfl⟩, HB.out.1⟩
theorem code_anyDeep (A : Option Addr) (c : Nat) (l : List (Int × Tr)) (w : World) (hl : l.length ≤ 256) (hr : l ≠ [] → ∃ b, A = some ⟨b, 0, none⟩ ∧ RowX w b l) (ht : ∀ p ∈ l, AtT w p.2 ∧ (bT p.2).Nodup) : Calls Tryz.prog 54 #[.slice A l.length c, .func (.func 55) #[] #[]] w fun e w' => e = .returned (.bool (deepAny l)) ∧ Below w.heap.size w w' := by
  have HI := Lib.hid (code_index_x A c l w hl hr ht)
  obtain ⟨q, hq⟩ : ∃ q, deepAny l = q := ⟨_, rfl⟩
  rw [hq] at HI ⊢
  clear hl hr ht hq
  go_enter Tryz.func54, Tryz.ntmps54
  go_wp2_with (go_at_call 74; refine HI.out.mono ?_; rintro e wz ⟨⟨j, rfl, hj⟩, hb⟩; refine Stop.out ?_)
  unfold Stop
  have HB := Lib.hid hb
  have HJ := Lib.hid hj
  clear hb hj
  go_wp2
  go_ret
  refine ⟨?_, HB.out⟩
  rw [← HJ.out]
  first | rfl | (trace_state; fail)
end Go.Proofs.YtpapcnogbmjpjaaGreatDoor
