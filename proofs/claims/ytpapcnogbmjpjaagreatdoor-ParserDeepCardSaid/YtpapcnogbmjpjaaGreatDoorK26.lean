/- Names and signs, as they are read. Filters, as they are read. -/
import Derived.Test.YtpapcnogbmjpjaaGreatDoorK25
namespace Go.Proofs.YtpapcnogbmjpjaaGreatDoor
open Go.RowKit
set_option maxRecDepth 100000
set_option linter.unusedSimpArgs false
set_option linter.unusedVariables false
attribute [local go_sem] Oper.semAt_some

theorem takk_yes {k en : Int} {s s1 : Rd} {t : TokV} (h : takeP' k en s = .ok t s1) : ∃ L, s.T = t :: L ∧ t.1 = k ∧ s1 = { s with T := L } := by
  unfold takeP' at h
  cases hT : s.T with
  | nil => rw [hT] at h; cases h
  | cons a L =>
    rw [hT] at h
    dsimp only at h
    by_cases e : a.1 = k
    · rw [if_pos e] at h
      injection h with h1 h2
      subst h1
      exact ⟨L, rfl, e, h2.symm⟩
    · rw [if_neg e] at h; cases h
theorem takk_no {k en a x : Int} (hk : k ≠ 0) {s : Rd} (h : takeP' k en s = .flt a x) : (nextT en s).1 ≠ k ∧ a = (nextT en s).2.1 ∧ x = 81 := by
  unfold takeP' at h
  unfold nextT
  cases hT : s.T with
  | nil =>
    rw [hT] at h
    injection h with h1 h2
    exact ⟨fun e => hk e.symm, h1.symm, h2.symm⟩
  | cons b L =>
    rw [hT] at h
    dsimp only at h
    by_cases e : b.1 = k
    · rw [if_pos e] at h; cases h
    · rw [if_neg e] at h
      injection h with h1 h2
      exact ⟨e, h1.symm, h2.symm⟩
theorem takk_out {k en : Int} {s : Rd} (h : takeP' k en s = .out) : False := by
  unfold takeP' at h
  split at h
  · cases h
  · split at h <;> cases h
def nameP (en : Int) (s : Rd) : PR ByteArray := if nameB (nextT en s).2.2.1 = true then (match takeP' 1 en s with
  | .ok t s1 => .ok t.2.2.1 s1
  | .flt a k => .flt a k
  | .out => .out) else .flt (posP en s) 81
def eqB : ByteArray := ⟨#[61]⟩
def ltB : ByteArray := ⟨#[60]⟩
def gtB : ByteArray := ⟨#[62]⟩
def signP (en : Int) (s : Rd) : PR Int := match skipP eqB s with
  | some s1 => .ok 61 s1
  | none => match skipP ltB s with
    | some s1 => .ok 60 s1
    | none => match skipP gtB s with
      | some s1 => .ok 62 s1
      | none => .flt (posP en s) 81
theorem build_tot (x : ByteArray) (w : World) : (Instr.build 32 #[(0, .int .i64 3), (2, .string x)]).run Tryz.prog w = .ok (.agg #[.int .i64 3, .int .i64 0, .string x, .slice none 0 0, .slice none 0 0]) w := run_build w 32 _ _ (by kernel_rfl)
/-- what reading a text comes to, in memory -/
def OutS (R : Nat) (en : Int) (w : World) (r : PR ByteArray) (e : Ending) (w' : World) : Prop := match r with
  | .ok x s => e = .returned (.string x) ∧ RdAt w' R en s ∧ Chg R w w'
  | .flt a k => Flt e a k ∧ Chg R w w'
  | .out => True
def OutG (R : Nat) (en : Int) (w : World) (r : PR Int) (e : Ending) (w' : World) : Prop := match r with
  | .ok x s => e = .returned (.int .u8 x) ∧ RdAt w' R en s ∧ Chg R w w'
  | .flt a k => Flt e a k ∧ Chg R w w'
  | .out => True
set_option maxHeartbeats 4000000 in
theorem code_name {R : Nat} {en : Int} {s : Rd} {w : World} (hr : RdAt w R en s) : Calls Tryz.prog 117 #[.pointer (some ⟨R, 0, none⟩)] w (OutS R en w (nameP en s)) := by
  have HR0 := Lib.hid hr
  have HNx := Lib.hid (code_next hr _ rfl)
  obtain ⟨t, ht⟩ : ∃ t, nextT en s = t := ⟨_, rfl⟩
  have HX := Lib.hid ht
  have hG : ∀ W, Calls Tryz.prog 42 #[.agg #[.int .i64 3, .int .i64 0, .string t.2.2.1, .slice none 0 0, .slice none 0 0]] W fun e w' => e = .returned (.bool (nameB t.2.2.1)) ∧ Below W.heap.size W w' := fun W => by
    have := code_good_tot t.2.2.1 none 0 0 [] W (.inl ⟨rfl, rfl, rfl, rfl⟩)
    unfold totB at this
    simpa using this
  unfold nameP posP
  rw [ht]
  rw [ht] at HNx
  obtain ⟨a0, a1, a2, a3⟩ := t
  have hft := tok_text a0 a1 a3 a2
  have hbt := build_tot a2
  dsimp only at hG ⊢
  clear hr ht
  cases hn : nameB a2 with
  | false =>
    rw [hn] at hG
    have HG := Lib.hid hG
    clear hG hn
    rw [if_neg (by simp)]
    go_enter Tryz.func117, Tryz.ntmps117
    go_wp2_with (go_at_call 75; refine HNx.out.mono ?_; rintro e w2 ⟨rfl, hb⟩; refine Stop.out ?_)
    unfold Stop
    try unfold tokA
    have HR2 := Lib.hid (HR0.out.on hb)
    have HB2 := Lib.hid hb
    clear hb HNx
    go_wp2_with (go_at_call 42; refine (HG.out _).mono ?_; rintro e w3 ⟨rfl, hb⟩; refine Stop.out ?_)
    unfold Stop
    have HM := Lib.hid (code_must_no (HR2.out.on hb) _ HX.out)
    have HB3 := Lib.hid (below_then HB2.out hb)
    clear hb
    go_wp2_with (go_at_call 39; refine HM.out.mono ?_; rintro e w4 ⟨rfl, hb⟩; refine Stop.out ?_)
    unfold Stop
    first | exact ⟨rfl, rfl, Chg.of (below_then HB3.out hb)⟩ | (go_wp2; exact ⟨rfl, rfl, Chg.of (below_then HB3.out hb)⟩)
  | true =>
    rw [hn] at hG
    have HG := Lib.hid hG
    clear hG hn
    rw [if_pos rfl]
    cases hk : takeP' 1 en s with
    | out => exact (takk_out hk).elim
    | ok t s1 =>
      obtain ⟨L, hT, hk1, rfl⟩ := takk_yes hk
      have e := HX.out
      unfold nextT at e
      rw [hT] at e
      dsimp only at e
      subst e
      have HT := Lib.hid hT
      obtain rfl : a0 = 1 := hk1
      clear hk hT
      go_enter Tryz.func117, Tryz.ntmps117
      go_wp2_with (go_at_call 75; refine HNx.out.mono ?_; rintro e w2 ⟨rfl, hb⟩; refine Stop.out ?_)
      unfold Stop
      try unfold tokA
      have HR2 := Lib.hid (HR0.out.on hb)
      have HB2 := Lib.hid hb
      clear hb HNx
      go_wp2_with (go_at_call 42; refine (HG.out _).mono ?_; rintro e w3 ⟨rfl, hb⟩; refine Stop.out ?_)
      unfold Stop
      have HR3 := Lib.hid (HR2.out.on hb)
      have HB3 := Lib.hid (below_then HB2.out hb)
      clear hb
      go_wp2_with (go_at_call 39; refine (code_must_yes R w3).mono ?_; rintro e w3' ⟨rfl, heq⟩; obtain rfl := heq.symm; refine Stop.out ?_)
      unfold Stop
      have HTk := Lib.hid (code_take_yes HR3.out HT.out)
      go_wp2_with (go_at_call 76; refine HTk.out.mono ?_; rintro e w4 ⟨rfl, hr, hc⟩; refine Stop.out ?_)
      unfold Stop
      try unfold tokA
      have HFin := Lib.hid (And.intro hr ((Chg.of HB3.out).trans hc))
      clear hr hc HTk
      go_wp2
      go_ret
      exact ⟨rfl, HFin.out.1, HFin.out.2⟩
    | flt a k =>
      obtain ⟨hk1, rfl, rfl⟩ := takk_no (by decide) hk
      rw [HX.out] at hk1 ⊢
      clear hk
      go_enter Tryz.func117, Tryz.ntmps117
      go_wp2_with (go_at_call 75; refine HNx.out.mono ?_; rintro e w2 ⟨rfl, hb⟩; refine Stop.out ?_)
      unfold Stop
      try unfold tokA
      have HR2 := Lib.hid (HR0.out.on hb)
      have HB2 := Lib.hid hb
      clear hb HNx
      go_wp2_with (go_at_call 42; refine (HG.out _).mono ?_; rintro e w3 ⟨rfl, hb⟩; refine Stop.out ?_)
      unfold Stop
      have HR3 := Lib.hid (HR2.out.on hb)
      have HB3 := Lib.hid (below_then HB2.out hb)
      clear hb
      go_wp2_with (go_at_call 39; refine (code_must_yes R w3).mono ?_; rintro e w3' ⟨rfl, heq⟩; obtain rfl := heq.symm; refine Stop.out ?_)
      unfold Stop
      have HTk := Lib.hid (code_take_no HR3.out _ HX.out 1 hk1)
      clear hk1
      go_wp2_with (go_at_call 76; refine HTk.out.mono ?_; rintro e w4 ⟨rfl, hb⟩; refine Stop.out ?_)
      unfold Stop
      first | exact ⟨rfl, rfl, Chg.of (below_then HB3.out hb)⟩ | (go_wp2; exact ⟨rfl, rfl, Chg.of (below_then HB3.out hb)⟩)
set_option maxHeartbeats 4000000 in
theorem code_sign {R : Nat} {en : Int} {s : Rd} {w : World} (hr : RdAt w R en s) : Calls Tryz.prog 129 #[.pointer (some ⟨R, 0, none⟩)] w (OutG R en w (signP en s)) := by
  unfold signP
  cases h0 : skipP eqB s with
  | some s1 =>
    have HS := Lib.hid (skip_t hr eqB (by decide) h0)
    clear h0 hr
    go_enter Tryz.func129, Tryz.ntmps129
    go_wp2_with (go_at_call 56; refine HS.out.mono ?_; rintro e w2 ⟨rfl, hr, hc⟩; refine Stop.out ?_)
    unfold Stop
    have HF := Lib.hid (And.intro hr hc)
    clear hr hc HS
    go_wp2
    go_ret
    exact ⟨rfl, HF.out.1, HF.out.2⟩
  | none =>
  have HS0 := Lib.hid (skip_f hr eqB (by decide) h0)
  clear h0 hr
  cases h1 : skipP ltB s with
  | some s1 =>
    have H1 := Lib.hid h1
    clear h1
    go_enter Tryz.func129, Tryz.ntmps129
    go_wp2_with (go_at_call 56; refine HS0.out.mono ?_; rintro e w2 ⟨rfl, hr, hc⟩; refine Stop.out ?_)
    unfold Stop
    have HS := Lib.hid (skip_t hr ltB (by decide) H1.out)
    have HC := Lib.hid hc
    clear hr hc HS0
    go_wp2_with (go_at_call 56; refine HS.out.mono ?_; rintro e w3 ⟨rfl, hr, hc⟩; refine Stop.out ?_)
    unfold Stop
    have HF := Lib.hid (And.intro hr (HC.out.trans hc))
    clear hr hc HS
    go_wp2
    go_ret
    exact ⟨rfl, HF.out.1, HF.out.2⟩
  | none =>
  cases h2 : skipP gtB s with
  | some s1 =>
    have H1 := Lib.hid h1
    have H2 := Lib.hid h2
    clear h1 h2
    go_enter Tryz.func129, Tryz.ntmps129
    go_wp2_with (go_at_call 56; refine HS0.out.mono ?_; rintro e w2 ⟨rfl, hr, hc⟩; refine Stop.out ?_)
    unfold Stop
    have HS := Lib.hid (skip_f hr ltB (by decide) H1.out)
    have HC := Lib.hid hc
    clear hr hc HS0
    go_wp2_with (go_at_call 56; refine HS.out.mono ?_; rintro e w3 ⟨rfl, hr, hc⟩; refine Stop.out ?_)
    unfold Stop
    have HR2 := Lib.hid hr
    have HC2 := Lib.hid (HC.out.trans hc)
    clear hr hc HS
    have HS3 := Lib.hid (skip_t HR2.out gtB (by decide) H2.out)
    go_wp2_with (go_at_call 56; refine HS3.out.mono ?_; rintro e w4 ⟨rfl, hr, hc⟩; refine Stop.out ?_)
    unfold Stop
    have HF := Lib.hid (And.intro hr (HC2.out.trans hc))
    clear hr hc HS3
    go_wp2_with (go_at_call 39; refine (code_must_yes R w4).mono ?_; rintro e w5 ⟨rfl, heq⟩; obtain rfl := heq.symm; refine Stop.out ?_)
    unfold Stop
    go_wp2
    go_ret
    exact ⟨rfl, HF.out.1, HF.out.2⟩
  | none =>
    have H1 := Lib.hid h1
    have H2 := Lib.hid h2
    clear h1 h2
    go_enter Tryz.func129, Tryz.ntmps129
    go_wp2_with (go_at_call 56; refine HS0.out.mono ?_; rintro e w2 ⟨rfl, hr, hc⟩; refine Stop.out ?_)
    unfold Stop
    have HS := Lib.hid (skip_f hr ltB (by decide) H1.out)
    have HC := Lib.hid hc
    clear hr hc HS0
    go_wp2_with (go_at_call 56; refine HS.out.mono ?_; rintro e w3 ⟨rfl, hr, hc⟩; refine Stop.out ?_)
    unfold Stop
    have HR2 := Lib.hid hr
    have HC2 := Lib.hid (HC.out.trans hc)
    clear hr hc HS
    have HS3 := Lib.hid (skip_f HR2.out gtB (by decide) H2.out)
    go_wp2_with (go_at_call 56; refine HS3.out.mono ?_; rintro e w4 ⟨rfl, hr, hc⟩; refine Stop.out ?_)
    unfold Stop
    have HM := Lib.hid (code_must_no hr _ rfl)
    have HC4 := Lib.hid (HC2.out.trans hc)
    clear hr hc HS3
    go_wp2_with (go_at_call 39; refine HM.out.mono ?_; rintro e w5 ⟨rfl, hb⟩; refine Stop.out ?_)
    unfold Stop
    first | exact ⟨rfl, rfl, HC4.out.trans (Chg.of hb)⟩ | (go_wp2; exact ⟨rfl, rfl, HC4.out.trans (Chg.of hb)⟩)
end Go.Proofs.YtpapcnogbmjpjaaGreatDoor

namespace Go.Proofs.YtpapcnogbmjpjaaGreatDoor
open Go.RowKit
set_option maxRecDepth 100000
set_option linter.unusedSimpArgs false
set_option linter.unusedVariables false
attribute [local go_sem] Oper.semAt_some

theorem RdAt.rowF {w w' : World} {R g : Nat} {en : Int} {s : Rd} (h : RdAt w R en s) {cs : Array Value} (hg : w.heap[g]? = some (Obj.cells cs 60 (0, 0))) (hR : R ≠ g) (hs : w.heap.size ≤ w'.heap.size) (hc : ∀ k, k < w.heap.size → k ≠ g → w'.heap[k]? = w.heap[k]?) : RdAt w' R en s := by
  obtain ⟨A, k, h1, h2, h3, h4, h5, h6, h7⟩ := h
  refine ⟨A, k, (hc R (heapLt h1) hR).trans h1, ?_, ?_, h4, h5, h6, h7⟩
  · intro hn
    obtain ⟨b', o', e, hlt, hcs⟩ := h2 hn
    have hne : b' ≠ g := (h3 b' o' e).off hg (by decide)
    refine ⟨b', o', e, Nat.lt_of_lt_of_le hlt hs, fun j v hv => ?_⟩
    rw [World.cell?_of_block (hc b' (by simpa using hlt) hne)]
    exact hcs j v hv
  · intro b o e
    have ht := h3 b o e
    have hne : b ≠ g := ht.off hg (by decide)
    obtain ⟨cs', hcs⟩ := ht
    exact ⟨cs', (hc b (heapLt hcs) hne).trans hcs⟩
def filtP (en : Int) (s : Rd) : PR FilV := match nameP en s with
  | .ok tag s1 => (match signP en s1 with
    | .ok sg s2 => (match takeP' 2 en s2 with
      | .ok t s3 => .ok ⟨tag, sg, t.2.2.2⟩ s3
      | .flt a k => .flt a k
      | .out => .out)
    | .flt a k => .flt a k
    | .out => .out)
  | .flt a k => .flt a k
  | .out => .out
/-- what reading a filter comes to, in memory -/
def OutF (R : Nat) (en : Int) (w : World) (r : PR FilV) (e : Ending) (w' : World) : Prop := match r with
  | .ok f s => e = .returned (.agg #[.string f.tag, .int .u8 f.sg, .int .i64 f.n]) ∧ RdAt w' R en s ∧ Chg R w w'
  | .flt a k => Flt e a k ∧ Chg R w w'
  | .out => True
theorem two_alloc (w : World) (a b : Obj) : Below w.heap.size w ((w.alloc a).alloc b) ∧ ((w.alloc a).alloc b).heap[w.heap.size]? = some a ∧ ((w.alloc a).alloc b).heap[w.heap.size + 1]? = some b := by
  have B1 := below_alloc w a
  have B2 := below_alloc (w.alloc a) b
  have hs : (w.alloc a).heap.size = w.heap.size + 1 := World.size_alloc _ _
  refine ⟨below_then B1 B2, heap_on B2 (heap_alloc_new w a), ?_⟩
  rw [← hs]
  exact heap_alloc_new _ b
theorem cell_put {w : World} {R g : Nat} {en : Int} {s : Rd} (h : RdAt w R en s) {cs : Array Value} (hg : w.heap[g]? = some (Obj.cells cs 60 (0, 0))) (hR : R ≠ g) (i : Nat) (v : Value) : RdAt (w.setCell ⟨g, i, none⟩ v) R en s :=
  h.rowF hg hR (by rw [World.size_setCell]; exact Nat.le_refl _) (fun k _ hne => heap_setCell_other w ⟨g, i, none⟩ k v hne)
theorem put_row {w : World} {g : Nat} {cs : Array Value} {T : TypeId} (h : w.heap[g]? = some (.cells cs T (0, 0))) (i : Nat) (v : Value) : (w.setCell ⟨g, i, none⟩ v).heap[g]? = some (.cells (cs.setIfInBounds i v) T (0, 0)) := by
  simpa using heap_setCell_same w g i _ _ v h
theorem signP_out {en : Int} {s : Rd} (h : signP en s = .out) : False := by
  unfold signP at h
  split at h
  · cases h
  · split at h
    · cases h
    · split at h <;> cases h
theorem nameP_out {en : Int} {s : Rd} (h : nameP en s = .out) : False := by
  unfold nameP at h
  split at h
  · cases ht : takeP' 1 en s with
    | out => exact takk_out ht
    | ok t s1 => simp only [ht] at h; cases h
    | flt a k => simp only [ht] at h; cases h
  · cases h
set_option maxHeartbeats 4000000 in
theorem code_filter {R : Nat} {en : Int} {s : Rd} {w : World} (hr : RdAt w R en s) : Calls Tryz.prog 118 #[.pointer (some ⟨R, 0, none⟩)] w (OutF R en w (filtP en s)) := by
  obtain ⟨hB0, h2, h3⟩ := two_alloc w (.cells #[.string ⟨#[]⟩, .int .u8 0, .int .i64 0] 60) (.cells #[.string ⟨#[]⟩, .int .u8 0, .int .i64 0] 60)
  have HRl := Lib.hid hr.lt
  have H2 := Lib.hid h2
  have H3 := Lib.hid h3
  have HC0 : Hid (Chg R w ((w.alloc (.cells #[.string ⟨#[]⟩, .int .u8 0, .int .i64 0] 60)).alloc (.cells #[.string ⟨#[]⟩, .int .u8 0, .int .i64 0] 60))) := Lib.hid (Chg.of hB0)
  have HNm := Lib.hid (code_name (hr.on hB0))
  clear hr hB0 h2 h3
  unfold filtP
  cases hn : nameP en s with
  | out => exact (nameP_out hn).elim
  | flt a k =>
    rw [hn] at HNm
    clear hn
    go_enter Tryz.func118, Tryz.ntmps118
    go_wp2_with (go_at_call 117; refine HNm.out.mono ?_; rintro e w1 ⟨rfl, hc⟩; refine Stop.out ?_)
    unfold Stop
    first | exact ⟨rfl, rfl, HC0.out.trans hc⟩ | (go_wp2; exact ⟨rfl, rfl, HC0.out.trans hc⟩)
  | ok tag s1 =>
    rw [hn] at HNm
    clear hn
    try dsimp only
    cases hs : signP en s1 with
    | out => exact (signP_out hs).elim
    | flt a k =>
      have HE2 := Lib.hid hs
      clear hs
      try dsimp only
      go_enter Tryz.func118, Tryz.ntmps118
      go_wp2_with (go_at_call 117; refine HNm.out.mono ?_; rintro e w1 ⟨rfl, hr, hc⟩; refine Stop.out ?_)
      unfold Stop
      have HC1 := Lib.hid (HC0.out.trans hc)
      have H21 := Lib.hid (cell_far hc H2.out (by have := HRl.out; omega))
      have H31 := Lib.hid (cell_far hc H3.out (by have := HRl.out; omega))
      have hne3 : R ≠ w.heap.size + 1 := by have := HRl.out; omega
      have HSg := Lib.hid (code_sign (cell_put hr H31.out hne3 0 (.string tag)))
      rw [HE2.out] at HSg
      have HP := Lib.hid (put_row H31.out 0 (.string tag))
      have HQ := Lib.hid ((heap_setCell_other w1 ⟨w.heap.size + 1, 0, none⟩ w.heap.size (.string tag) (by show w.heap.size ≠ w.heap.size + 1; omega)).trans H21.out)
      have HCp := Lib.hid (HC1.out.over (Chg.one (R := w.heap.size + 1) w1 0 (.string tag)) (by omega))
      obtain ⟨e0, e1, e2⟩ := row3c H31.out
      have hz := frozen_of_row w1 (w.heap.size + 1) 0 _ _ H31.out
      clear hr hc HNm H2 H3 H21 H31 HC1 HC0
      go_wp2_with (go_at_call 129; refine HSg.out.mono ?_; rintro e w3 ⟨rfl, hc⟩; refine Stop.out ?_)
      unfold Stop
      first | exact ⟨rfl, rfl, HCp.out.trans hc⟩ | (go_wp2; exact ⟨rfl, rfl, HCp.out.trans hc⟩)
    | ok sg s2 =>
      have HE2 := Lib.hid hs
      clear hs
      try dsimp only
      cases hk : takeP' 2 en s2 with
      | out => exact (takk_out hk).elim
      | flt a k =>
        obtain ⟨hk1, rfl, rfl⟩ := takk_no (by decide) hk
        have HK := Lib.hid hk1
        clear hk hk1
        try dsimp only
        go_enter Tryz.func118, Tryz.ntmps118
        go_wp2_with (go_at_call 117; refine HNm.out.mono ?_; rintro e w1 ⟨rfl, hr, hc⟩; refine Stop.out ?_)
        unfold Stop
        have HC1 := Lib.hid (HC0.out.trans hc)
        have H21 := Lib.hid (cell_far hc H2.out (by have := HRl.out; omega))
        have H31 := Lib.hid (cell_far hc H3.out (by have := HRl.out; omega))
        have hne3 : R ≠ w.heap.size + 1 := by have := HRl.out; omega
        have HSg := Lib.hid (code_sign (cell_put hr H31.out hne3 0 (.string tag)))
        rw [HE2.out] at HSg
        have HP := Lib.hid (put_row H31.out 0 (.string tag))
        have HQ := Lib.hid ((heap_setCell_other w1 ⟨w.heap.size + 1, 0, none⟩ w.heap.size (.string tag) (by show w.heap.size ≠ w.heap.size + 1; omega)).trans H21.out)
        have HCp := Lib.hid (HC1.out.over (Chg.one (R := w.heap.size + 1) w1 0 (.string tag)) (by omega))
        obtain ⟨e0, e1, e2⟩ := row3c H31.out
        have hz := frozen_of_row w1 (w.heap.size + 1) 0 _ _ H31.out
        clear hr hc HNm H2 H3 H21 H31 HC1 HC0
        go_wp2_with (go_at_call 129; refine HSg.out.mono ?_; rintro e w3 ⟨rfl, hr, hc⟩; refine Stop.out ?_)
        unfold Stop
        clear e0 e1 e2 hz
        have HC3 := Lib.hid (HCp.out.trans hc)
        have H23 := Lib.hid (cell_far hc HQ.out (by have := HRl.out; omega))
        have H33 := Lib.hid (cell_far hc HP.out hne3.symm)
        have HR4 := Lib.hid (cell_put hr H33.out hne3 1 (.int .u8 sg))
        have HP4 := Lib.hid (put_row H33.out 1 (.int .u8 sg))
        have HQ4 := Lib.hid ((heap_setCell_other w3 ⟨w.heap.size + 1, 1, none⟩ w.heap.size (.int .u8 sg) (by show w.heap.size ≠ w.heap.size + 1; omega)).trans H23.out)
        have HC4 := Lib.hid (HC3.out.over (Chg.one (R := w.heap.size + 1) w3 1 (.int .u8 sg)) (by omega))
        obtain ⟨e0, e1, e2⟩ := row3c H33.out
        have hz := frozen_of_row w3 (w.heap.size + 1) 1 _ _ H33.out
        clear hr hc HSg HCp HQ HP HC3 H23 H33
        have HTk := Lib.hid (code_take_no HR4.out _ rfl 2 HK.out)
        go_wp2_with (go_at_call 76; refine HTk.out.mono ?_; rintro e w5 ⟨rfl, hb⟩; refine Stop.out ?_)
        unfold Stop
        first | exact ⟨rfl, rfl, HC4.out.trans (Chg.of hb)⟩ | (go_wp2; exact ⟨rfl, rfl, HC4.out.trans (Chg.of hb)⟩)
      | ok t s3 =>
        obtain ⟨L, hT, hk1, rfl⟩ := takk_yes hk
        have HT := Lib.hid hT
        clear hk hT
        obtain ⟨a0, a1, a2, a3⟩ := t
        obtain rfl : a0 = 2 := hk1
        have hfn := tok_n 2 a1 a3 a2
        try dsimp only
        go_enter Tryz.func118, Tryz.ntmps118
        go_wp2_with (go_at_call 117; refine HNm.out.mono ?_; rintro e w1 ⟨rfl, hr, hc⟩; refine Stop.out ?_)
        unfold Stop
        have HC1 := Lib.hid (HC0.out.trans hc)
        have H21 := Lib.hid (cell_far hc H2.out (by have := HRl.out; omega))
        have H31 := Lib.hid (cell_far hc H3.out (by have := HRl.out; omega))
        have hne3 : R ≠ w.heap.size + 1 := by have := HRl.out; omega
        have HSg := Lib.hid (code_sign (cell_put hr H31.out hne3 0 (.string tag)))
        rw [HE2.out] at HSg
        have HP := Lib.hid (put_row H31.out 0 (.string tag))
        have HQ := Lib.hid ((heap_setCell_other w1 ⟨w.heap.size + 1, 0, none⟩ w.heap.size (.string tag) (by show w.heap.size ≠ w.heap.size + 1; omega)).trans H21.out)
        have HCp := Lib.hid (HC1.out.over (Chg.one (R := w.heap.size + 1) w1 0 (.string tag)) (by omega))
        obtain ⟨e0, e1, e2⟩ := row3c H31.out
        have hz := frozen_of_row w1 (w.heap.size + 1) 0 _ _ H31.out
        clear hr hc HNm H2 H3 H21 H31 HC1 HC0
        go_wp2_with (go_at_call 129; refine HSg.out.mono ?_; rintro e w3 ⟨rfl, hr, hc⟩; refine Stop.out ?_)
        unfold Stop
        clear e0 e1 e2 hz
        have HC3 := Lib.hid (HCp.out.trans hc)
        have H23 := Lib.hid (cell_far hc HQ.out (by have := HRl.out; omega))
        have H33 := Lib.hid (cell_far hc HP.out hne3.symm)
        have HR4 := Lib.hid (cell_put hr H33.out hne3 1 (.int .u8 sg))
        have HP4 := Lib.hid (put_row H33.out 1 (.int .u8 sg))
        have HQ4 := Lib.hid ((heap_setCell_other w3 ⟨w.heap.size + 1, 1, none⟩ w.heap.size (.int .u8 sg) (by show w.heap.size ≠ w.heap.size + 1; omega)).trans H23.out)
        have HC4 := Lib.hid (HC3.out.over (Chg.one (R := w.heap.size + 1) w3 1 (.int .u8 sg)) (by omega))
        obtain ⟨e0, e1, e2⟩ := row3c H33.out
        have hz := frozen_of_row w3 (w.heap.size + 1) 1 _ _ H33.out
        clear hr hc HSg HCp HQ HP HC3 H23 H33
        have HTk := Lib.hid (code_take_yes HR4.out HT.out)
        go_wp2_with (go_at_call 76; refine HTk.out.mono ?_; rintro e w5 ⟨rfl, hr, hc⟩; refine Stop.out ?_)
        unfold Stop
        try unfold tokA
        clear e0 e1 e2 hz
        have HC5 := Lib.hid (HC4.out.trans hc)
        have H25 := Lib.hid (cell_far hc HQ4.out (by have := HRl.out; omega))
        have H35 := Lib.hid (cell_far hc HP4.out hne3.symm)
        have HR6 := Lib.hid (cell_put hr H35.out hne3 2 (.int .i64 a3))
        have HP6 := Lib.hid (put_row H35.out 2 (.int .i64 a3))
        have HQ6 := Lib.hid ((heap_setCell_other w5 ⟨w.heap.size + 1, 2, none⟩ w.heap.size (.int .i64 a3) (by show w.heap.size ≠ w.heap.size + 1; omega)).trans H25.out)
        have HC6 := Lib.hid (HC5.out.over (Chg.one (R := w.heap.size + 1) w5 2 (.int .i64 a3)) (by omega))
        obtain ⟨e0, e1, e2⟩ := row3c H35.out
        have hz := frozen_of_row w5 (w.heap.size + 1) 2 _ _ H35.out
        clear hr hc HTk HR4 HP4 HQ4 HC4 HC5 H25 H35
        go_wp2_with (with_reducible show wpList _ _ _ (({ dst := some 14, op := Op.load _ _, .. } : Oper) :: _) _ _; refine Stop.out ?_)
        unfold Stop
        clear e0 e1 e2 hz
        generalize World.setCell _ _ _ = w7 at HR6 HP6 HQ6 HC6 ⊢
        obtain ⟨e0, e1, e2⟩ := row3c HP6.out
        go_wp2_with ((with_reducible refine wpList_store_row (o := ⟨none, _, _, _, _, _⟩) 60 ?b0 (.tmp 2) (.tmp 14) ?b1 w.heap.size ?b2 [.string tag, .int .u8 sg, .int .i64 a3] ?b3 ?b4 ?b5 #[.string ⟨#[]⟩, .int .u8 0, .int .i64 0] ?b6 60 ?b7 ?_); (case b0 => rfl); (case b1 => rfl); (case b2 => rfl); (case b3 => exact fil_info); (case b4 => simp [Value.oneCell']); (case b5 => rfl); (case b6 => rfl); (case b7 => exact HQ6.out); (try simp only [Act.put]); refine Stop.out ?_)
        unfold Stop
        clear e0 e1 e2
        have HRw := Lib.hid (row_then (g := w.heap.size) (new := #[.string tag, .int .u8 sg, .int .i64 a3]) HQ6.out rfl rfl)
        have HCg := Lib.hid (setRow_chg w7 w.heap.size #[.string tag, .int .u8 sg, .int .i64 a3])
        generalize World.setRow _ _ _ = w8 at HRw HCg ⊢
        have HFin := Lib.hid (And.intro (HR6.out.rowF HQ6.out (by have := HRl.out; omega) HCg.out.size (fun k hk hne => HCg.out.heap hk hne)) (HC6.out.over HCg.out (Nat.le_refl _)))
        clear HCg HR6 HP6 HQ6 HC6
        go_wp2
        exact bodyPost_ret (results_cell_row Tryz.results118 _ _ w.heap.size 60 #[.string tag, .int .u8 sg, .int .i64 a3] (0, 0) _ rfl HRw.out Tryz.underlying60 rfl fil_info) rfl ⟨rfl, HFin.out.1, HFin.out.2⟩
end Go.Proofs.YtpapcnogbmjpjaaGreatDoor
