/- What is in brackets, and what is a number. What has no sign: all of it. -/
import Derived.Test.YtpapcnogbmjpjaaGreatDoorK15
namespace Go.Proofs.YtpapcnogbmjpjaaGreatDoor
open Go.RowKit
set_option maxRecDepth 100000
set_option linter.unusedSimpArgs false
set_option linter.unusedVariables false
attribute [local go_sem] Oper.semAt_some

theorem TreesQ.head {B : Nat} {w : World} {t : Tr} {tl : List Tr} {l : List Sh} (h : TreesQ B w (t :: tl) l) : TreeQ B w t (l.headD (leafS 0 0)) := by
  cases l with
  | nil => exact absurd h.sh (by unfold ShowsL; exact id)
  | cons x l' =>
    refine ⟨?_, ?_, ?_, ?_⟩
    · have := h.at_; unfold AtL at this; exact this.1
    · have := h.nd; simp only [bL] at this; exact (List.nodup_append.1 this).1
    · intro b hb; exact h.ge b (by simp only [bL, List.mem_append]; exact .inl hb)
    · have := h.sh; unfold ShowsL at this; exact this.1
theorem par_list : opB.toList = ([40] : List UInt8) := by first | rfl | decide | kernel_rfl | simp [opB]
set_option maxHeartbeats 4000000 in
theorem prim_par_flt (G : Gr) (R d f : Nat) (s : Rd) (w : World) (hr : RdAt w R G.en s) (hd : d ≤ 64) (hB : BrackC G R f) {a k : Int} (hs0 : skipP bxB s = none) (hs1 : skipP smB s = none) (hs2 : skipP mnB s = none) (hs3 : skipP mxB s = none) (hs4 : skipP clB s = none) (hx : (nextT G.en s).2.2.1 = opB) (hn : brackP G f 1 d opB s = .flt a k) : Calls Tryz.prog 86 #[.pointer (some ⟨R, 0, none⟩), .int .i64 (d : Nat)] w (OutQ R G.en w (.flt a k)) := by
  obtain ⟨tx, htx⟩ : ∃ t, nextT G.en s = t := ⟨_, rfl⟩
  rw [htx] at hx
  obtain ⟨a0, a1, a2, a3⟩ := tx
  have hft := tok_text a0 a1 a3 a2
  have HX := Lib.hid htx
  clear htx
  have hq : (a2.toList == ([40] : List UInt8)) = true := by rw [← par_list, str_beq]; exact decide_eq_true hx
  clear hx
  have hB0 := below_alloc w (.cells #[.int .i64 0, .int .i64 0, .string ⟨#[]⟩, .slice none 0 0, .slice none 0 0] 32)
  have H0 := Lib.hid (heap_alloc_new w (.cells #[.int .i64 0, .int .i64 0, .string ⟨#[]⟩, .slice none 0 0, .slice none 0 0] 32))
  have HR0 := Lib.hid (hr.on hB0)
  have HB0 := Lib.hid hB0
  have HC0 : Hid (Chg R (w.alloc (.cells #[.int .i64 0, .int .i64 0, .string ⟨#[]⟩, .slice none 0 0, .slice none 0 0] 32)) (w.alloc (.cells #[.int .i64 0, .int .i64 0, .string ⟨#[]⟩, .slice none 0 0, .slice none 0 0] 32))) := Lib.hid (Chg.refl _ _)
  have HRl := Lib.hid hr.lt
  have HS0 := Lib.hid hs0
  have HS1 := Lib.hid hs1
  have HS2 := Lib.hid hs2
  have HS3 := Lib.hid hs3
  have HS4 := Lib.hid hs4
  clear hr hB0 hs0 hs1 hs2 hs3 hs4
  go_enter Tryz.func86, Tryz.ntmps86
  go_wp2_with (go_at_call 56; refine (skip_f HR0.out bxB (by decide) HS0.out).mono ?_; rintro e wa1 ⟨rfl, hr, hc⟩; refine Stop.out ?_)
  unfold Stop
  have HR1 := Lib.hid hr
  have HC1 := Lib.hid (HC0.out.trans hc)
  clear hr hc
  go_wp2_with (go_at_call 56; refine (skip_f HR1.out smB (by decide) HS1.out).mono ?_; rintro e wa2 ⟨rfl, hr, hc⟩; refine Stop.out ?_)
  unfold Stop
  have HR2 := Lib.hid hr
  have HC2 := Lib.hid (HC1.out.trans hc)
  clear hr hc
  go_wp2_with (go_at_call 56; refine (skip_f HR2.out mnB (by decide) HS2.out).mono ?_; rintro e wa3 ⟨rfl, hr, hc⟩; refine Stop.out ?_)
  unfold Stop
  have HR3 := Lib.hid hr
  have HC3 := Lib.hid (HC2.out.trans hc)
  clear hr hc
  go_wp2_with (go_at_call 56; refine (skip_f HR3.out mxB (by decide) HS3.out).mono ?_; rintro e wa4 ⟨rfl, hr, hc⟩; refine Stop.out ?_)
  unfold Stop
  have HR4 := Lib.hid hr
  have HC4 := Lib.hid (HC3.out.trans hc)
  clear hr hc
  go_wp2_with (go_at_call 56; refine (skip_f HR4.out clB (by decide) HS4.out).mono ?_; rintro e wa5 ⟨rfl, hr, hc⟩; refine Stop.out ?_)
  unfold Stop
  have HR5 := Lib.hid hr
  have HC5 := Lib.hid (HC4.out.trans hc)
  clear hr hc
  have HRb := HR5
  have HCb := HC5
  have HNx := Lib.hid (code_next HRb.out _ HX.out)
  go_wp2_with (go_at_call 75; refine HNx.out.mono ?_; rintro e wb ⟨rfl, hb⟩; refine Stop.out ?_)
  unfold Stop
  try unfold tokA
  have HRb2 := Lib.hid (HRb.out.on hb)
  have HCb2 := Lib.hid (HCb.out.trans (Chg.of hb))
  clear hb HNx
  have hcall := hB 1 d s wb (by decide) (by decide) hd HRb2.out (by rw [hn]; exact fun e => by cases e)
  rw [hn] at hcall
  have HCl := Lib.hid hcall
  clear hcall hn hB
  go_wp2_with (go_at_call 105; refine HCl.out.mono ?_; rintro e wc ⟨rfl, hc⟩; refine Stop.out ?_)
  unfold Stop
  first | exact ⟨rfl, OutQ.fault rfl ((Chg.of HB0.out).trans (HCb2.out.trans hc))⟩ | (go_wp2; exact ⟨rfl, OutQ.fault rfl ((Chg.of HB0.out).trans (HCb2.out.trans hc))⟩)
set_option maxHeartbeats 4000000 in
theorem prim_par_ok (G : Gr) (R d f : Nat) (s : Rd) (w : World) (hr : RdAt w R G.en s) (hd : d ≤ 64) (hB : BrackC G R f) {s2 : Rd} {l : List Sh} (hs0 : skipP bxB s = none) (hs1 : skipP smB s = none) (hs2 : skipP mnB s = none) (hs3 : skipP mxB s = none) (hs4 : skipP clB s = none) (hx : (nextT G.en s).2.2.1 = opB) (hn : brackP G f 1 d opB s = .ok l s2) : Calls Tryz.prog 86 #[.pointer (some ⟨R, 0, none⟩), .int .i64 (d : Nat)] w (OutQ R G.en w (.ok (l.headD (leafS 0 0)) s2)) := by
  obtain ⟨tx, htx⟩ : ∃ t, nextT G.en s = t := ⟨_, rfl⟩
  rw [htx] at hx
  obtain ⟨a0, a1, a2, a3⟩ := tx
  have hft := tok_text a0 a1 a3 a2
  have HX := Lib.hid htx
  clear htx
  have hq : (a2.toList == ([40] : List UInt8)) = true := by rw [← par_list, str_beq]; exact decide_eq_true hx
  clear hx
  have hB0 := below_alloc w (.cells #[.int .i64 0, .int .i64 0, .string ⟨#[]⟩, .slice none 0 0, .slice none 0 0] 32)
  have H0 := Lib.hid (heap_alloc_new w (.cells #[.int .i64 0, .int .i64 0, .string ⟨#[]⟩, .slice none 0 0, .slice none 0 0] 32))
  have HR0 := Lib.hid (hr.on hB0)
  have HB0 := Lib.hid hB0
  have HC0 : Hid (Chg R (w.alloc (.cells #[.int .i64 0, .int .i64 0, .string ⟨#[]⟩, .slice none 0 0, .slice none 0 0] 32)) (w.alloc (.cells #[.int .i64 0, .int .i64 0, .string ⟨#[]⟩, .slice none 0 0, .slice none 0 0] 32))) := Lib.hid (Chg.refl _ _)
  have HRl := Lib.hid hr.lt
  have HS0 := Lib.hid hs0
  have HS1 := Lib.hid hs1
  have HS2 := Lib.hid hs2
  have HS3 := Lib.hid hs3
  have HS4 := Lib.hid hs4
  clear hr hB0 hs0 hs1 hs2 hs3 hs4
  go_enter Tryz.func86, Tryz.ntmps86
  go_wp2_with (go_at_call 56; refine (skip_f HR0.out bxB (by decide) HS0.out).mono ?_; rintro e wa1 ⟨rfl, hr, hc⟩; refine Stop.out ?_)
  unfold Stop
  have HR1 := Lib.hid hr
  have HC1 := Lib.hid (HC0.out.trans hc)
  clear hr hc
  go_wp2_with (go_at_call 56; refine (skip_f HR1.out smB (by decide) HS1.out).mono ?_; rintro e wa2 ⟨rfl, hr, hc⟩; refine Stop.out ?_)
  unfold Stop
  have HR2 := Lib.hid hr
  have HC2 := Lib.hid (HC1.out.trans hc)
  clear hr hc
  go_wp2_with (go_at_call 56; refine (skip_f HR2.out mnB (by decide) HS2.out).mono ?_; rintro e wa3 ⟨rfl, hr, hc⟩; refine Stop.out ?_)
  unfold Stop
  have HR3 := Lib.hid hr
  have HC3 := Lib.hid (HC2.out.trans hc)
  clear hr hc
  go_wp2_with (go_at_call 56; refine (skip_f HR3.out mxB (by decide) HS3.out).mono ?_; rintro e wa4 ⟨rfl, hr, hc⟩; refine Stop.out ?_)
  unfold Stop
  have HR4 := Lib.hid hr
  have HC4 := Lib.hid (HC3.out.trans hc)
  clear hr hc
  go_wp2_with (go_at_call 56; refine (skip_f HR4.out clB (by decide) HS4.out).mono ?_; rintro e wa5 ⟨rfl, hr, hc⟩; refine Stop.out ?_)
  unfold Stop
  have HR5 := Lib.hid hr
  have HC5 := Lib.hid (HC4.out.trans hc)
  clear hr hc
  have HRb := HR5
  have HCb := HC5
  have HNx := Lib.hid (code_next HRb.out _ HX.out)
  go_wp2_with (go_at_call 75; refine HNx.out.mono ?_; rintro e wb ⟨rfl, hb⟩; refine Stop.out ?_)
  unfold Stop
  try unfold tokA
  have HRb2 := Lib.hid (HRb.out.on hb)
  have HCb2 := Lib.hid (HCb.out.trans (Chg.of hb))
  clear hb HNx
  have hcall := hB 1 d s wb (by decide) (by decide) hd HRb2.out (by rw [hn]; exact fun e => by cases e)
  rw [hn] at hcall
  have HCl := Lib.hid hcall
  clear hcall hn hB
  go_wp2_with (go_at_call 105; refine HCl.out.mono ?_; rintro e wc ⟨kb, kc, ts, rfl, hts, hrw, hne, hnb, hge, hlk, hkm, hr, hc⟩; refine Stop.out ?_)
  unfold Stop
  obtain ⟨t0, tl, rfl⟩ : ∃ t tl, ts = t :: tl := by
    cases ts with
    | nil => exact absurd rfl hne
    | cons t tl => exact ⟨t, tl, rfl⟩
  have HC0t := hrw.cells5 0 (Nat.succ_pos _)
  obtain ⟨k, n, fd, fA, fn, fc, kb', kc', ks⟩ := t0
  have u0 := HC0t 0 _ rfl
  have u1 := HC0t 1 _ rfl
  have u2 := HC0t 2 _ rfl
  have u3 := HC0t 3 _ rfl
  have u4 := HC0t 4 _ rfl
  simp only [Nat.zero_mul, Nat.zero_add] at u0 u1 u2 u3 u4
  obtain ⟨kv, hkv⟩ : ∃ v, v = kidsV kb' kc' ks := ⟨_, rfl⟩
  rw [← hkv] at u4
  have HKv := Lib.hid hkv
  have hone := kids_one kb' kc' ks
  rw [← hkv] at hone
  have hall := all5 (k := k) (n := n) (fd := fd) (fA := fA) (fn := fn) (fc := fc) hone
  have HTq := Lib.hid hts.head
  have HRc := Lib.hid hr
  have HCc := Lib.hid (HCb2.out.trans hc)
  have HGwc : Hid (wc.heap[w.heap.size]? = some (.cells #[.int .i64 0, .int .i64 0, .string ⟨#[]⟩, .slice none 0 0, .slice none 0 0] 32 (0, 0))) := Lib.hid (cell_far HCc.out H0.out (by have := HRl.out; omega))
  obtain ⟨tn, htn⟩ : ∃ m, m = tl.length := ⟨_, rfl⟩
  simp only [List.length_cons, ← htn]
  have hlen : (0 : Int) < ((tn + 1 : Nat) : Int) := by omega
  clear htn hts hrw hne hnb hge hlk hkm hr hc HCl HC0t hkv hone
  go_wp2_with ((with_reducible refine wpList_store_row (o := ⟨none, _, _, _, _, _⟩) 32 ?b0 (.tmp 4) (.tmp 46) ?b1 w.heap.size ?b2 [.int .i64 k, .int .i64 n, .string fd, .slice fA fn fc, kv] ?b3 ?b4 ?b5 #[.int .i64 0, .int .i64 0, .string ⟨#[]⟩, .slice none 0 0, .slice none 0 0] ?b6 32 ?b7 ?_); (case b0 => rfl); (case b1 => rfl); (case b2 => rfl); (case b3 => exact expr_info); (case b4 => exact hall); (case b5 => rfl); (case b6 => rfl); (case b7 => exact HGwc.out); (try simp only [Act.put]); refine Stop.out ?_)
  unfold Stop
  have HRw := Lib.hid (row_then (g := w.heap.size) (new := #[.int .i64 k, .int .i64 n, .string fd, .slice fA fn fc, kv]) HGwc.out rfl rfl)
  have HCg := Lib.hid (setRow_chg wc w.heap.size #[.int .i64 k, .int .i64 n, .string fd, .slice fA fn fc, kv])
  generalize World.setRow _ _ _ = wz at HRw HCg ⊢
  have HFin := Lib.hid (out_tree ⟨_, _, _, rfl⟩ ⟨_, _, _, rfl⟩ (HKv) (HTq.out) (B := wb.heap.size) (by have := HB0.out.size; have := World.size_alloc w (.cells #[.int .i64 0, .int .i64 0, .string ⟨#[]⟩, .slice none 0 0, .slice none 0 0] 32); have := HCb2.out.size; omega) rfl (by have := World.size_alloc w (.cells #[.int .i64 0, .int .i64 0, .string ⟨#[]⟩, .slice none 0 0, .slice none 0 0] 32); have := HCb2.out.size; omega) HRc.out HRl.out HGwc.out ((Chg.of HB0.out).trans HCc.out) HCg.out)
  clear HGwc HCg
  go_wp2
  exact bodyPost_ret (results_cell_row Tryz.results86 _ _ w.heap.size 32 #[.int .i64 k, .int .i64 n, .string fd, .slice fA fn fc, kv] (0, 0) _ rfl HRw.out Tryz.underlying32 rfl expr_info) rfl HFin.out
set_option maxHeartbeats 4000000 in
theorem prim_int_flt (G : Gr) (R d : Nat) (s : Rd) (w : World) (hr : RdAt w R G.en s) (hs0 : skipP bxB s = none) (hs1 : skipP smB s = none) (hs2 : skipP mnB s = none) (hs3 : skipP mxB s = none) (hs4 : skipP clB s = none) (hx : (nextT G.en s).2.2.1 ≠ opB) {a k : Int} (hn : takeP' 2 G.en s = .flt a k) : Calls Tryz.prog 86 #[.pointer (some ⟨R, 0, none⟩), .int .i64 (d : Nat)] w (OutQ R G.en w (.flt a k)) := by
  obtain ⟨hk, rfl, rfl⟩ := tak_no hn
  clear hn
  obtain ⟨tx, htx⟩ : ∃ t, nextT G.en s = t := ⟨_, rfl⟩
  rw [htx] at hx hk ⊢
  obtain ⟨a0, a1, a2, a3⟩ := tx
  have hft := tok_text a0 a1 a3 a2
  have HX := Lib.hid htx
  clear htx
  have hq : (a2.toList == ([40] : List UInt8)) = false := by rw [← par_list, str_beq]; exact decide_eq_false hx
  clear hx
  have hB0 := below_alloc w (.cells #[.int .i64 0, .int .i64 0, .string ⟨#[]⟩, .slice none 0 0, .slice none 0 0] 32)
  have H0 := Lib.hid (heap_alloc_new w (.cells #[.int .i64 0, .int .i64 0, .string ⟨#[]⟩, .slice none 0 0, .slice none 0 0] 32))
  have HR0 := Lib.hid (hr.on hB0)
  have HB0 := Lib.hid hB0
  have HC0 : Hid (Chg R (w.alloc (.cells #[.int .i64 0, .int .i64 0, .string ⟨#[]⟩, .slice none 0 0, .slice none 0 0] 32)) (w.alloc (.cells #[.int .i64 0, .int .i64 0, .string ⟨#[]⟩, .slice none 0 0, .slice none 0 0] 32))) := Lib.hid (Chg.refl _ _)
  have HRl := Lib.hid hr.lt
  have HS0 := Lib.hid hs0
  have HS1 := Lib.hid hs1
  have HS2 := Lib.hid hs2
  have HS3 := Lib.hid hs3
  have HS4 := Lib.hid hs4
  clear hr hB0 hs0 hs1 hs2 hs3 hs4
  go_enter Tryz.func86, Tryz.ntmps86
  go_wp2_with (go_at_call 56; refine (skip_f HR0.out bxB (by decide) HS0.out).mono ?_; rintro e wa1 ⟨rfl, hr, hc⟩; refine Stop.out ?_)
  unfold Stop
  have HR1 := Lib.hid hr
  have HC1 := Lib.hid (HC0.out.trans hc)
  clear hr hc
  go_wp2_with (go_at_call 56; refine (skip_f HR1.out smB (by decide) HS1.out).mono ?_; rintro e wa2 ⟨rfl, hr, hc⟩; refine Stop.out ?_)
  unfold Stop
  have HR2 := Lib.hid hr
  have HC2 := Lib.hid (HC1.out.trans hc)
  clear hr hc
  go_wp2_with (go_at_call 56; refine (skip_f HR2.out mnB (by decide) HS2.out).mono ?_; rintro e wa3 ⟨rfl, hr, hc⟩; refine Stop.out ?_)
  unfold Stop
  have HR3 := Lib.hid hr
  have HC3 := Lib.hid (HC2.out.trans hc)
  clear hr hc
  go_wp2_with (go_at_call 56; refine (skip_f HR3.out mxB (by decide) HS3.out).mono ?_; rintro e wa4 ⟨rfl, hr, hc⟩; refine Stop.out ?_)
  unfold Stop
  have HR4 := Lib.hid hr
  have HC4 := Lib.hid (HC3.out.trans hc)
  clear hr hc
  go_wp2_with (go_at_call 56; refine (skip_f HR4.out clB (by decide) HS4.out).mono ?_; rintro e wa5 ⟨rfl, hr, hc⟩; refine Stop.out ?_)
  unfold Stop
  have HR5 := Lib.hid hr
  have HC5 := Lib.hid (HC4.out.trans hc)
  clear hr hc
  have HRb := HR5
  have HCb := HC5
  have HNx := Lib.hid (code_next HRb.out _ HX.out)
  go_wp2_with (go_at_call 75; refine HNx.out.mono ?_; rintro e wb ⟨rfl, hb⟩; refine Stop.out ?_)
  unfold Stop
  try unfold tokA
  have HRb2 := Lib.hid (HRb.out.on hb)
  have HCb2 := Lib.hid (HCb.out.trans (Chg.of hb))
  clear hb HNx
  have HCl := Lib.hid (code_take_no HRb2.out _ HX.out 2 hk)
  clear hk
  go_wp2_with (go_at_call 76; refine HCl.out.mono ?_; rintro e wc ⟨rfl, hc⟩; refine Stop.out ?_)
  unfold Stop
  first | exact ⟨rfl, OutQ.fault rfl ((Chg.of HB0.out).trans (HCb2.out.trans (Chg.of hc)))⟩ | (go_wp2; exact ⟨rfl, OutQ.fault rfl ((Chg.of HB0.out).trans (HCb2.out.trans (Chg.of hc)))⟩)
set_option maxHeartbeats 4000000 in
theorem prim_int_ok (G : Gr) (R d : Nat) (s : Rd) (w : World) (hr : RdAt w R G.en s) (hs0 : skipP bxB s = none) (hs1 : skipP smB s = none) (hs2 : skipP mnB s = none) (hs3 : skipP mxB s = none) (hs4 : skipP clB s = none) (hx : (nextT G.en s).2.2.1 ≠ opB) {tk : TokV} {s1 : Rd} (hn : takeP' 2 G.en s = .ok tk s1) : Calls Tryz.prog 86 #[.pointer (some ⟨R, 0, none⟩), .int .i64 (d : Nat)] w (OutQ R G.en w (.ok (leafS 1 tk.2.2.2) s1)) := by
  obtain ⟨L, hT, hk, rfl⟩ := tak_yes hn
  have hnx : nextT G.en s = tk := by unfold nextT; rw [hT]
  rw [hnx] at hx
  obtain ⟨a0, a1, a2, a3⟩ := tk
  have hft := tok_text a0 a1 a3 a2
  have hfn := tok_n a0 a1 a3 a2
  have HX := Lib.hid hnx
  have HT := Lib.hid hT
  obtain rfl : a0 = 2 := hk
  have hq : (a2.toList == ([40] : List UInt8)) = false := by rw [← par_list, str_beq]; exact decide_eq_false hx
  have hbr : ∀ w, (Instr.build 32 #[(0, .int .i64 1), (1, .int .i64 a3)]).run Tryz.prog w = .ok (.agg #[.int .i64 1, .int .i64 a3, .string ⟨#[]⟩, .slice none 0 0, .slice none 0 0]) w := fun w => run_build w 32 _ _ (by kernel_rfl)
  clear hx hn hT hnx
  have hB0 := below_alloc w (.cells #[.int .i64 0, .int .i64 0, .string ⟨#[]⟩, .slice none 0 0, .slice none 0 0] 32)
  have H0 := Lib.hid (heap_alloc_new w (.cells #[.int .i64 0, .int .i64 0, .string ⟨#[]⟩, .slice none 0 0, .slice none 0 0] 32))
  have HR0 := Lib.hid (hr.on hB0)
  have HB0 := Lib.hid hB0
  have HC0 : Hid (Chg R (w.alloc (.cells #[.int .i64 0, .int .i64 0, .string ⟨#[]⟩, .slice none 0 0, .slice none 0 0] 32)) (w.alloc (.cells #[.int .i64 0, .int .i64 0, .string ⟨#[]⟩, .slice none 0 0, .slice none 0 0] 32))) := Lib.hid (Chg.refl _ _)
  have HRl := Lib.hid hr.lt
  have HS0 := Lib.hid hs0
  have HS1 := Lib.hid hs1
  have HS2 := Lib.hid hs2
  have HS3 := Lib.hid hs3
  have HS4 := Lib.hid hs4
  clear hr hB0 hs0 hs1 hs2 hs3 hs4
  go_enter Tryz.func86, Tryz.ntmps86
  go_wp2_with (go_at_call 56; refine (skip_f HR0.out bxB (by decide) HS0.out).mono ?_; rintro e wa1 ⟨rfl, hr, hc⟩; refine Stop.out ?_)
  unfold Stop
  have HR1 := Lib.hid hr
  have HC1 := Lib.hid (HC0.out.trans hc)
  clear hr hc
  go_wp2_with (go_at_call 56; refine (skip_f HR1.out smB (by decide) HS1.out).mono ?_; rintro e wa2 ⟨rfl, hr, hc⟩; refine Stop.out ?_)
  unfold Stop
  have HR2 := Lib.hid hr
  have HC2 := Lib.hid (HC1.out.trans hc)
  clear hr hc
  go_wp2_with (go_at_call 56; refine (skip_f HR2.out mnB (by decide) HS2.out).mono ?_; rintro e wa3 ⟨rfl, hr, hc⟩; refine Stop.out ?_)
  unfold Stop
  have HR3 := Lib.hid hr
  have HC3 := Lib.hid (HC2.out.trans hc)
  clear hr hc
  go_wp2_with (go_at_call 56; refine (skip_f HR3.out mxB (by decide) HS3.out).mono ?_; rintro e wa4 ⟨rfl, hr, hc⟩; refine Stop.out ?_)
  unfold Stop
  have HR4 := Lib.hid hr
  have HC4 := Lib.hid (HC3.out.trans hc)
  clear hr hc
  go_wp2_with (go_at_call 56; refine (skip_f HR4.out clB (by decide) HS4.out).mono ?_; rintro e wa5 ⟨rfl, hr, hc⟩; refine Stop.out ?_)
  unfold Stop
  have HR5 := Lib.hid hr
  have HC5 := Lib.hid (HC4.out.trans hc)
  clear hr hc
  have HRb := HR5
  have HCb := HC5
  have HNx := Lib.hid (code_next HRb.out _ HX.out)
  go_wp2_with (go_at_call 75; refine HNx.out.mono ?_; rintro e wb ⟨rfl, hb⟩; refine Stop.out ?_)
  unfold Stop
  try unfold tokA
  have HRb2 := Lib.hid (HRb.out.on hb)
  have HCb2 := Lib.hid (HCb.out.trans (Chg.of hb))
  clear hb HNx
  have HCl := Lib.hid (code_take_yes HRb2.out HT.out)
  go_wp2_with (go_at_call 76; refine HCl.out.mono ?_; rintro e wc ⟨rfl, hr, hc⟩; refine Stop.out ?_)
  unfold Stop
  try unfold tokA
  have HRc := Lib.hid hr
  have HCc := Lib.hid (HCb2.out.trans hc)
  have HGwc : Hid (wc.heap[w.heap.size]? = some (.cells #[.int .i64 0, .int .i64 0, .string ⟨#[]⟩, .slice none 0 0, .slice none 0 0] 32 (0, 0))) := Lib.hid (cell_far HCc.out H0.out (by have := HRl.out; omega))
  clear hr hc HCl
  go_wp2_with ((with_reducible refine wpList_store_row (o := ⟨none, _, _, _, _, _⟩) 32 ?b0 (.tmp 4) (.tmp 50) ?b1 w.heap.size ?b2 [.int .i64 1, .int .i64 a3, .string ⟨#[]⟩, .slice none 0 0, .slice none 0 0] ?b3 ?b4 ?b5 #[.int .i64 0, .int .i64 0, .string ⟨#[]⟩, .slice none 0 0, .slice none 0 0] ?b6 32 ?b7 ?_); (case b0 => rfl); (case b1 => rfl); (case b2 => rfl); (case b3 => exact expr_info); (case b4 => simp [Value.oneCell']); (case b5 => rfl); (case b6 => rfl); (case b7 => exact HGwc.out); (try simp only [Act.put]); refine Stop.out ?_)
  unfold Stop
  have HRw := Lib.hid (row_then (g := w.heap.size) (new := #[.int .i64 1, .int .i64 a3, .string ⟨#[]⟩, .slice none 0 0, .slice none 0 0]) HGwc.out rfl rfl)
  have HCg := Lib.hid (setRow_chg wc w.heap.size #[.int .i64 1, .int .i64 a3, .string ⟨#[]⟩, .slice none 0 0, .slice none 0 0])
  generalize World.setRow _ _ _ = wz at HRw HCg ⊢
  have HFin := Lib.hid (out_tree ⟨_, _, _, rfl⟩ ⟨_, _, _, rfl⟩ (Lib.hid (rfl : (Value.slice none 0 0) = kidsV 0 0 [])) (leaf_tree _ wc 1 a3) (B := wc.heap.size) (by have := HB0.out.size; have := World.size_alloc w (.cells #[.int .i64 0, .int .i64 0, .string ⟨#[]⟩, .slice none 0 0, .slice none 0 0] 32); have := HCc.out.size; omega) rfl (by have := World.size_alloc w (.cells #[.int .i64 0, .int .i64 0, .string ⟨#[]⟩, .slice none 0 0, .slice none 0 0] 32); have := HCc.out.size; omega) HRc.out HRl.out HGwc.out ((Chg.of HB0.out).trans HCc.out) HCg.out)
  clear HGwc HCg
  go_wp2
  exact bodyPost_ret (results_cell_row Tryz.results86 _ _ w.heap.size 32 #[.int .i64 1, .int .i64 a3, .string ⟨#[]⟩, .slice none 0 0, .slice none 0 0] (0, 0) _ rfl HRw.out Tryz.underlying32 rfl expr_info) rfl HFin.out
end Go.Proofs.YtpapcnogbmjpjaaGreatDoor

namespace Go.Proofs.YtpapcnogbmjpjaaGreatDoor
open Go.RowKit
set_option maxRecDepth 100000
set_option linter.unusedSimpArgs false
set_option linter.unusedVariables false
attribute [local go_sem] Oper.semAt_some

theorem prim_step (G : Gr) (R f : Nat) (hN : BoxNC G R) (hT : TotalC G R) (hB : BrackC G R f) : PrimC G R (f + 1) := by
  intro d s w hd hr hne
  unfold primP at hne ⊢
  cases h0 : skipP bxB s with
  | some s1 =>
    simp only [h0] at hne ⊢
    cases hn : boxNP G.en s1 with
    | ok n s2 => exact prim_box_ok G R d s w hr hN h0 hn
    | flt a k => exact prim_box_flt G R d s w hr hN h0 hn
    | out => rw [hn] at hne; exact absurd rfl hne
  | none =>
  cases h1 : skipP smB s with
  | some s1 =>
    simp only [h0, h1] at hne ⊢
    cases hn : G.total s1 with
    | ok n s2 => exact prim_sum_ok G R d s w hr hT h0 h1 hn
    | flt a k => exact prim_sum_flt G R d s w hr hT h0 h1 hn
    | out => rw [hn] at hne; exact absurd rfl hne
  | none =>
  cases h2 : skipP mnB s with
  | some s1 =>
    simp only [h0, h1, h2] at hne ⊢
    cases hn : brackP G f 2 d opB s1 with
    | ok n s2 => exact prim_min_ok G R d f s w hr hd hB h0 h1 h2 hn
    | flt a k => exact prim_min_flt G R d f s w hr hd hB h0 h1 h2 hn
    | out => rw [hn] at hne; exact absurd rfl hne
  | none =>
  cases h3 : skipP mxB s with
  | some s1 =>
    simp only [h0, h1, h2, h3] at hne ⊢
    cases hn : brackP G f 2 d opB s1 with
    | ok n s2 => exact prim_max_ok G R d f s w hr hd hB h0 h1 h2 h3 hn
    | flt a k => exact prim_max_flt G R d f s w hr hd hB h0 h1 h2 h3 hn
    | out => rw [hn] at hne; exact absurd rfl hne
  | none =>
  cases h4 : skipP clB s with
  | some s1 =>
    simp only [h0, h1, h2, h3, h4] at hne ⊢
    cases hn : brackP G f 3 d opB s1 with
    | ok n s2 => exact prim_clp_ok G R d f s w hr hd hB h0 h1 h2 h3 h4 hn
    | flt a k => exact prim_clp_flt G R d f s w hr hd hB h0 h1 h2 h3 h4 hn
    | out => rw [hn] at hne; exact absurd rfl hne
  | none =>
    simp only [h0, h1, h2, h3, h4] at hne ⊢
    by_cases hx : (nextT G.en s).2.2.1 = opB
    · simp only [if_pos hx] at hne ⊢
      cases hn : brackP G f 1 d opB s with
      | ok n s2 => exact prim_par_ok G R d f s w hr hd hB h0 h1 h2 h3 h4 hx hn
      | flt a k => exact prim_par_flt G R d f s w hr hd hB h0 h1 h2 h3 h4 hx hn
      | out => rw [hn] at hne; exact absurd rfl hne
    · simp only [if_neg hx] at hne ⊢
      cases hn : takeP' 2 G.en s with
      | ok n s2 => exact prim_int_ok G R d s w hr h0 h1 h2 h3 h4 hx hn
      | flt a k => exact prim_int_flt G R d s w hr h0 h1 h2 h3 h4 hx hn
      | out => rw [hn] at hne; exact absurd rfl hne
end Go.Proofs.YtpapcnogbmjpjaaGreatDoor
