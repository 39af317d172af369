/- An expression that is read. A box is read. -/
import Derived.Test.YtpapcnogbmjpjaaGreatDoorK31
import Derived.Deep.MidRow
namespace Go.Proofs.YtpapcnogbmjpjaaGreatDoor
open Go.RowKit
set_option maxRecDepth 100000
set_option linter.unusedSimpArgs false
set_option linter.unusedVariables false
attribute [local go_sem] Oper.semAt_some

theorem results_cell_of3 {fn : Func} {p u v : Tmp} {ty : TypeId} (h : fn.results = #[.cell p ty, .tmp u, .tmp v]) (tmps : Array Value) (W : World) (g : Nat) (x y z : Value) (hp : tmps.getD p undef = .pointer (some ⟨g, 0, none⟩)) (hy : tmps.getD u undef = y) (hz : tmps.getD v undef = z) (hr : (loadVar ty ⟨g, 0, none⟩).run Tryz.prog W = .ok x W) :
    (results fn tmps).run Tryz.prog W = .ok (.tuple #[x, y, z]) W := by
  have hp' : tmps[p]?.getD undef = .pointer (some ⟨g, 0, none⟩) := by simpa [Array.getD_eq_getD_getElem?] using hp
  have hy' : tmps[u]?.getD undef = y := by simpa [Array.getD_eq_getD_getElem?] using hy
  have hz' : tmps[v]?.getD undef = z := by simpa [Array.getD_eq_getD_getElem?] using hz
  have ha : (asAddr (tmps[p]?.getD undef)).run Tryz.prog W = .ok ⟨g, 0, none⟩ W := by rw [hp']; rfl
  simp [results, h, Sem.run_bind, ha, hr, hy', hz']
theorem load_ex (w : World) (g : Nat) (a b c d e : Value) (t : TypeId) (h : w.heap[g]? = some (.cells #[a, b, c, d, e] t (0, 0))) : (loadVar 32 ⟨g, 0, none⟩).run Tryz.prog w = .ok (.agg #[a, b, c, d, e]) w :=
  run_loadVar_row w g t 32 #[a, b, c, d, e] (0, 0) _ h Tryz.underlying32 rfl (by kernel_rfl)
theorem aloneP_one {en : Int} {s sx : Rd} {l : List (Int × Sh)} (h : aloneP en s = .ok l sx) : ∃ x, l = [(0, x)] := by
  unfold aloneP at h
  cases he : exprE en 0 s with
  | out => simp only [he] at h; cases h
  | flt a k => simp only [he] at h; cases h
  | ok x s1 =>
    simp only [he] at h
    split at h
    · injection h with h _
      exact ⟨x, h.symm⟩
    · cases h
theorem readA_one {s : ByteArray} {l : List (Int × Sh)} (h : readP aloneP s = .ok l) : ∃ x, l = [(0, x)] := by
  unfold readP at h
  split at h
  · cases h
  · cases hp : aloneP ((s.size : Nat) : Int) ⟨(lexI s 0 []).1, false, false⟩ with
    | out => simp only [hp] at h; cases h
    | flt a k => simp only [hp] at h; cases h
    | ok l' sx =>
      simp only [hp] at h
      split at h
      · cases h
      · injection h with h
        subst h
        exact aloneP_one hp
theorem aloneP_out (en : Int) (s : Rd) : aloneP en s ≠ .out := fun h => by
  unfold aloneP at h
  cases he : exprE en 0 s with
  | out => exact exprE_out en 0 s he
  | flt a k => simp only [he] at h; cases h
  | ok x s1 =>
    simp only [he] at h
    split at h <;> cases h
/-- what reading an expression tells -/
def OutX (w : World) (r : RR) (e : Ending) (w' : World) : Prop := match r with
  | .err a k => e = .returned (.tuple #[.agg #[.int .i64 0, .int .i64 0, .string ⟨#[]⟩, .slice none 0 0, .slice none 0 0], .int .i64 a, .int .i64 k]) ∧ Below w.heap.size w w'
  | .ok s => ∃ k n fd fA fn fc kv kb kc ks x, s = [(0, x)] ∧ e = .returned (.tuple #[.agg #[.int .i64 k, .int .i64 n, .string fd, .slice fA fn fc, kv], .int .i64 0, .int .i64 0]) ∧ Hid (kv = kidsV kb kc ks) ∧ TreeQ w.heap.size w' (.mk k n fd fA fn fc kb kc ks) x ∧ Below w.heap.size w w'
set_option maxHeartbeats 4000000 in
theorem code_Expr (s : ByteArray) (w : World) (hs : s.size ≤ 65536) : Calls Tryz.prog 8 #[.string s] w (OutX w (readP aloneP s)) := by
  have HRd := Lib.hid (code_read_alone s (w.alloc (.cells #[.int .i64 0, .int .i64 0, .string ⟨#[]⟩, .slice none 0 0, .slice none 0 0] 32)) hs (fun R en s w h => code_alone h) aloneP_out)
  have HB0 := Lib.hid (below_alloc w (.cells #[.int .i64 0, .int .i64 0, .string ⟨#[]⟩, .slice none 0 0, .slice none 0 0] 32))
  have H0 := Lib.hid (heap_alloc_new w (.cells #[.int .i64 0, .int .i64 0, .string ⟨#[]⟩, .slice none 0 0, .slice none 0 0] 32))
  have HS0 : Hid ((w.alloc (.cells #[.int .i64 0, .int .i64 0, .string ⟨#[]⟩, .slice none 0 0, .slice none 0 0] 32)).heap.size = w.heap.size + 1) := Lib.hid (World.size_alloc _ _)
  have HNe := Lib.hid (fun a k h => readP_ne (fun _ _ _ _ h => aloneP_ne h) aloneP_out (s := s) (a := a) (k := k) h)
  have HOne := Lib.hid (fun l h => readA_one (s := s) (l := l) h)
  obtain ⟨r, hr⟩ : ∃ r, readP aloneP s = r := ⟨_, rfl⟩
  rw [hr] at HRd HOne HNe ⊢
  clear hr hs
  cases r with
  | err a k =>
    have hkn : (k != 0) = true := by have := HNe.out a k rfl; simpa using this
    clear HNe
    go_enter Tryz.func8, Tryz.ntmps8
    go_wp2_with (go_at_call 13; refine HRd.out.mono ?_; rintro e w3 ⟨rfl, hb⟩; refine Stop.out ?_)
    unfold Stop
    have HG := Lib.hid (heap_on hb H0.out)
    have HB3 := Lib.hid (below_then HB0.out hb)
    clear hb HRd
    go_wp2_with ((with_reducible refine wpList_store_row (o := ⟨none, _, _, _, _, _⟩) 32 ?b0 (.tmp 2) (.tmp 14) ?b1 w.heap.size ?b2 [.int .i64 0, .int .i64 0, .string ⟨#[]⟩, .slice none 0 0, .slice none 0 0] ?b3 ?b4 ?b5 #[.int .i64 0, .int .i64 0, .string ⟨#[]⟩, .slice none 0 0, .slice none 0 0] ?b6 32 ?b7 ?_); (case b0 => rfl); (case b1 => rfl); (case b2 => rfl); (case b3 => exact expr_info); (case b4 => simp [Value.oneCell']); (case b5 => rfl); (case b6 => rfl); (case b7 => exact HG.out); (try simp only [Act.put]); refine Stop.out ?_)
    unfold Stop
    have HRw := Lib.hid (row_then (g := w.heap.size) (new := #[.int .i64 0, .int .i64 0, .string ⟨#[]⟩, .slice none 0 0, .slice none 0 0]) HG.out rfl rfl)
    have HCg := Lib.hid (setRow_chg w3 w.heap.size #[.int .i64 0, .int .i64 0, .string ⟨#[]⟩, .slice none 0 0, .slice none 0 0])
    have HB9 := Lib.hid (HB3.out.trans (HCg.out.low (Nat.le_refl _) HB3.out.size))
    clear HG HCg HB3
    generalize World.setRow _ _ _ = wz at HRw HB9 ⊢
    go_wp2
    exact bodyPost_ret (results_cell_of3 Tryz.results8 _ _ w.heap.size _ _ _ rfl rfl rfl (load_ex _ _ _ _ _ _ _ _ HRw.out)) rfl ⟨rfl, HB9.out⟩
  | ok l =>
    obtain ⟨x, rfl⟩ := HOne.out l rfl
    go_enter Tryz.func8, Tryz.ntmps8
    go_wp2_with (go_at_call 13; refine HRd.out.mono ?_; rintro e w3 ⟨v, lt, rfl, ho, hq, hb⟩; refine Stop.out ?_)
    unfold Stop
    have HG := Lib.hid (heap_on hb H0.out)
    have HB3 := Lib.hid (below_then HB0.out hb)
    obtain ⟨A, c, rfl, hrow⟩ := own_rowx ho
    obtain ⟨tt, rfl⟩ : ∃ tt, lt = [(0, tt)] := by
      have hn := hq.nums
      cases lt with
      | nil => simp at hn
      | cons p q =>
        cases q with
        | nil => simp at hn; exact ⟨p.2, by rw [← hn]⟩
        | cons _ _ => simp at hn
    obtain ⟨b, rfl, hrx⟩ := hrow (by simp)
    have HT : Hid (TreeQ (w.heap.size + 1) w3 tt x) := Lib.hid (by
      have h := hq.trees
      rw [HS0.out] at h
      have h1 := h.at_
      have h2 := h.nd
      have h3 := h.ge
      have h4 := h.sh
      simp only [List.map_cons, List.map_nil] at h1 h2 h3 h4
      unfold AtL at h1
      unfold ShowsL at h4
      simp only [bL, List.append_nil] at h2 h3
      exact ⟨h1.1, h2, h3, h4.1⟩)
    have HC := Lib.hid (hrx.cells 0 (by simp))
    clear ho hq hb hrow hrx HRd HOne
    obtain ⟨k, n, fd, fA, fn, fc, kb, kc, ks⟩ := tt
    obtain ⟨KA, KN, KC, hkv⟩ := kids_slice (kv := kidsV kb kc ks) rfl
    have hxc : bxC (0, .mk k n fd fA fn fc kb kc ks) = [.int .i64 0, .int .i64 k, .int .i64 n, .string fd, .slice fA fn fc, .slice KA KN KC] := by simp only [bxC, exC]; rw [hkv]
    simp only [List.getElem_cons_zero, Nat.zero_mul, Nat.zero_add] at HC
    rw [hxc] at HC
    have HKv := Lib.hid hkv.symm
    clear hxc hkv
    have u1 := HC.out 1 _ rfl
    have u2 := HC.out 2 _ rfl
    have u3 := HC.out 3 _ rfl
    have u4 := HC.out 4 _ rfl
    have u5 := HC.out 5 _ rfl
    clear HC
    simp only [List.length_cons, List.length_nil, Nat.zero_add]
    go_wp2_with ((with_reducible refine wpList_store_row (o := ⟨none, _, _, _, _, _⟩) 32 ?b0 (.tmp 2) (.tmp 20) ?b1 w.heap.size ?b2 [.int .i64 k, .int .i64 n, .string fd, .slice fA fn fc, .slice KA KN KC] ?b3 ?b4 ?b5 #[.int .i64 0, .int .i64 0, .string ⟨#[]⟩, .slice none 0 0, .slice none 0 0] ?b6 32 ?b7 ?_); (case b0 => rfl); (case b1 => rfl); (case b2 => rfl); (case b3 => exact expr_info); (case b4 => simp [Value.oneCell']); (case b5 => rfl); (case b6 => rfl); (case b7 => exact HG.out); (try simp only [Act.put]); refine Stop.out ?_)
    unfold Stop
    clear u1 u2 u3 u4 u5
    have HRw := Lib.hid (row_then (g := w.heap.size) (new := #[.int .i64 k, .int .i64 n, .string fd, .slice fA fn fc, .slice KA KN KC]) HG.out rfl rfl)
    have HCg := Lib.hid (setRow_chg w3 w.heap.size #[.int .i64 k, .int .i64 n, .string fd, .slice fA fn fc, .slice KA KN KC])
    have HT2 := Lib.hid (HT.out.chgE (Nat.lt_succ_self _) HG.out HCg.out)
    have HB9 := Lib.hid (HB3.out.trans (HCg.out.low (Nat.le_refl _) HB3.out.size))
    clear HG HT HCg HB3
    generalize World.setRow _ _ _ = wz at HRw HT2 HB9 ⊢
    go_wp2
    exact bodyPost_ret (results_cell_of3 Tryz.results8 _ _ w.heap.size _ _ _ rfl rfl rfl (load_ex _ _ _ _ _ _ _ _ HRw.out)) rfl ⟨k, n, fd, fA, fn, fc, _, kb, kc, ks, x, rfl, rfl, HKv, HT2.out.less (Nat.le_succ _), HB9.out⟩
end Go.Proofs.YtpapcnogbmjpjaaGreatDoor

namespace Go.Proofs.YtpapcnogbmjpjaaGreatDoor
open Go.RowKit
set_option maxRecDepth 100000
set_option linter.unusedSimpArgs false
set_option linter.unusedVariables false
attribute [local go_sem] Oper.semAt_some

theorem RdAt.rowB {w w' : World} {R g : Nat} {en : Int} {s : Rd} (h : RdAt w R en s) {cs : Array Value} (hg : w.heap[g]? = some (Obj.cells cs 42 (0, 0))) (hR : R ≠ g) (hs : w.heap.size ≤ w'.heap.size) (hc : ∀ k, k < w.heap.size → k ≠ g → w'.heap[k]? = w.heap[k]?) : RdAt w' R en s := by
  obtain ⟨A, k, h1, h2, h3, h4, h5, h6, h7⟩ := h
  refine ⟨A, k, (hc R (heapLt h1) hR).trans h1, ?_, ?_, h4, h5, h6, h7⟩
  · intro hn
    obtain ⟨b', o', e, hlt, hcs⟩ := h2 hn
    have hne : b' ≠ g := (h3 b' o' e).off hg (by decide)
    refine ⟨b', o', e, Nat.lt_of_lt_of_le hlt hs, fun j v hv => ?_⟩
    rw [World.cell?_of_block (hc b' (by simpa using hlt) hne)]
    exact hcs j v hv
  · intro b o e
    have ht := h3 b o e
    have hne : b ≠ g := ht.off hg (by decide)
    obtain ⟨cs', hcs⟩ := ht
    exact ⟨cs', (hc b (heapLt hcs) hne).trans hcs⟩
theorem cell_putB {w : World} {R g : Nat} {en : Int} {s : Rd} (h : RdAt w R en s) {cs : Array Value} (hg : w.heap[g]? = some (Obj.cells cs 42 (0, 0))) (hR : R ≠ g) (i : Nat) (v : Value) : RdAt (w.setCell ⟨g, i, none⟩ v) R en s :=
  h.rowB hg hR (by rw [World.size_setCell]; exact Nat.le_refl _) (fun k _ hne => heap_setCell_other w ⟨g, i, none⟩ k v hne)
theorem TreeQ.chgB {B g : Nat} {w w' : World} {t : Tr} {s : Sh} (h : TreeQ B w t s) (hB : g < B) {cs : Array Value} (hg : w.heap[g]? = some (.cells cs 42 (0, 0))) (hc : Chg g w w') : TreeQ B w' t s :=
  ⟨h.at_.on t (fun k hk => hc.heap (AtT.lt t h.at_ k hk) (by have := h.ge k hk; omega)) hc.size, h.nd, h.ge, h.sh.keep (fun g' cs' hg' => (hc.heap (heapLt hg') (fun e => by
    rw [e, hg] at hg'
    injection hg' with hg'
    injection hg' with _ h2 _
    exact absurd h2 (by decide))).trans hg') t s⟩
theorem setCells_chg (g : Nat) : ∀ (vs : List Value) (o : Nat) (w : World), Chg g w (w.setCells g o vs)
  | [], _, w => Chg.refl _ _
  | v :: vs, o, w => (Chg.one w o v).trans (setCells_chg g vs (o + 1) _)
theorem heap_setCells5 (w : World) (g o : Nat) (cs : Array Value) (t : TypeId) (a b c d e : Value) (h : w.heap[g]? = some (.cells cs t (0, 0))) :
    (w.setCells g o [a, b, c, d, e]).heap[g]? = some (.cells (((((cs.setIfInBounds o a).setIfInBounds (o + 1) b).setIfInBounds (o + 2) c).setIfInBounds (o + 3) d).setIfInBounds (o + 4) e) t (0, 0)) := by
  have h1 := heap_setCell_same w g o cs t a h
  have h2 := heap_setCell_same _ g (o + 1) _ t b h1
  have h3 := heap_setCell_same _ g (o + 2) _ t c h2
  have h4 := heap_setCell_same _ g (o + 3) _ t d h3
  exact heap_setCell_same _ g (o + 4) _ t e h4
theorem there6 {w : World} {g : Nat} {cs : Array Value} {t : TypeId} (h : w.heap[g]? = some (.cells cs t (0, 0))) (hs : cs.size = 6) : w.there g 1 5 := fun j hj => by
  refine ⟨?_, frozen_of_row _ _ _ _ _ h⟩
  rw [cell_of_row _ _ _ _ _ _ h, Array.getElem?_eq_getElem (show 1 + j < cs.size by omega)]
  rfl
theorem box_info : (Tryz.prog.info? 42).map (·.size) = some 6 := by kernel_rfl
def eqB2 : ByteArray := ⟨#[61]⟩
def scB : ByteArray := ⟨#[59]⟩
def boxP (en : Int) (s : Rd) : PR (Int × Sh) := match skipP bxB s with
  | none => .flt (posP en s) 81
  | some s1 => match boxNP en s1 with
    | .out => .out
    | .flt a k => .flt a k
    | .ok m s2 => match skipP eqB s2 with
      | none => .flt (posP en s2) 81
      | some s3 => match exprE en 0 s3 with
        | .out => .out
        | .flt a k => .flt a k
        | .ok x s4 => match skipP scB s4 with
          | none => .flt (posP en s4) 81
          | some s5 => .ok (m, x) s5
theorem boxNP_out {en : Int} {s : Rd} (h : boxNP en s = .out) : False := by
  unfold boxNP at h
  split at h
  · cases h
  · cases h
  · rename_i heq; exact take_out heq
theorem boxNP_len {en m : Int} {s s1 : Rd} (h : boxNP en s = .ok m s1) : s1.T.length < s.T.length := by
  unfold boxNP at h
  split at h
  · rename_i heq
    injection h with _ h
    subst h
    have := takk_len heq
    exact this
  · cases h
  · cases h
theorem boxP_out {en : Int} {s : Rd} (h : boxP en s = .out) : False := by
  unfold boxP at h
  split at h
  · cases h
  · split at h
    · rename_i heq; exact boxNP_out heq
    · cases h
    · split at h
      · cases h
      · split at h
        · rename_i heq; exact exprE_out _ _ _ heq
        · cases h
        · split at h <;> cases h
theorem boxP_ne {en a k : Int} {s : Rd} (h : boxP en s = .flt a k) : k ≠ 0 := by
  unfold boxP at h
  split at h
  · injection h with _ h; omega
  · split at h
    · cases h
    · rename_i heq; injection h with _ h; subst h; exact boxNP_ne heq
    · split at h
      · injection h with _ h; omega
      · split at h
        · cases h
        · rename_i heq; injection h with _ h; subst h; exact exprE_ne heq
        · split at h
          · injection h with _ h; omega
          · cases h
theorem boxP_len {en : Int} {s s1 : Rd} {p : Int × Sh} (h : boxP en s = .ok p s1) : s1.T.length < s.T.length := by
  unfold boxP at h
  split at h
  · cases h
  · rename_i h0
    split at h
    · cases h
    · cases h
    · rename_i h1
      split at h
      · cases h
      · rename_i h2
        split at h
        · cases h
        · cases h
        · rename_i h3
          split at h
          · cases h
          · rename_i h4
            injection h with _ h
            subst h
            have e0 := skip_len h0
            have e1 := boxNP_len h1
            have e2 := skip_len h2
            have e3 := exprE_len h3
            have e4 := skip_len h4
            omega
/-- what reading a box comes to, in memory -/
def OutBx (R : Nat) (en : Int) (w : World) (r : PR (Int × Sh)) (e : Ending) (w' : World) : Prop := match r with
  | .ok p s => ∃ k n fd fA fn fc kv kb kc ks, e = .returned (.agg #[.int .i64 p.1, .int .i64 k, .int .i64 n, .string fd, .slice fA fn fc, kv]) ∧ Hid (kv = kidsV kb kc ks) ∧ TreeQ w.heap.size w' (.mk k n fd fA fn fc kb kc ks) p.2 ∧ RdAt w' R en s ∧ Chg R w w'
  | .flt a k => Flt e a k ∧ Chg R w w'
  | .out => True
theorem OutBx.fault {R : Nat} {en a k : Int} {w w' : World} {e : Ending} (h1 : Flt e a k) (h2 : Chg R w w') : OutBx R en w (.flt a k) e w' := ⟨h1, h2⟩
set_option maxHeartbeats 8000000 in
theorem code_box {R : Nat} {en : Int} {s : Rd} {w : World} (hr : RdAt w R en s) : Calls Tryz.prog 30 #[.pointer (some ⟨R, 0, none⟩)] w (OutBx R en w (boxP en s)) := by
  obtain ⟨hB0, h2, h3⟩ := two_alloc w (.cells #[.int .i64 0, .int .i64 0, .int .i64 0, .string ⟨#[]⟩, .slice none 0 0, .slice none 0 0] 42) (.cells #[.int .i64 0, .int .i64 0, .int .i64 0, .string ⟨#[]⟩, .slice none 0 0, .slice none 0 0] 42)
  have HRl := Lib.hid hr.lt
  have HR0 := Lib.hid (hr.on hB0)
  have HC0 : Hid (Chg R w _) := Lib.hid (Chg.of (R := R) hB0)
  have H2 := Lib.hid h2
  have H3 := Lib.hid h3
  clear hr hB0 h2 h3
  have hne1 : R ≠ w.heap.size + 1 := by have := HRl.out; omega
  unfold boxP
  cases h0 : skipP bxB s with
  | none =>
    dsimp only
    have HSk := Lib.hid (skip_f HR0.out bxB (by decide) h0)
    clear h0
    go_enter Tryz.func30, Tryz.ntmps30
    go_wp2_with (go_at_call 56; refine HSk.out.mono ?_; rintro e wd ⟨rfl, hr, hc⟩; refine Stop.out ?_)
    unfold Stop
    have HMu := Lib.hid (code_must_no hr _ rfl)
    have HCf := Lib.hid (HC0.out.trans hc)
    clear hr hc HSk
    go_wp2_with (go_at_call 39; refine HMu.out.mono ?_; rintro e we ⟨rfl, hb⟩; refine Stop.out ?_)
    unfold Stop
    first | exact ⟨rfl, OutBx.fault rfl (HCf.out.trans (Chg.of hb))⟩ | (go_wp2; exact ⟨rfl, OutBx.fault rfl (HCf.out.trans (Chg.of hb))⟩)
  | some s1 =>
  dsimp only
  have HSk := Lib.hid (skip_t HR0.out bxB (by decide) h0)
  clear h0
  cases h1 : boxNP en s1 with
  | out => exact (boxNP_out h1).elim
  | flt a k =>
    dsimp only
    go_enter Tryz.func30, Tryz.ntmps30
    go_wp2_with (go_at_call 56; refine HSk.out.mono ?_; rintro e wa ⟨rfl, hr, hc⟩; refine Stop.out ?_)
    unfold Stop
    have HRa := Lib.hid hr
    have HCa := Lib.hid hc
    clear hr hc HSk
    go_wp2_with (go_at_call 39; refine (code_must_yes R wa).mono ?_; rintro e we ⟨rfl, heq⟩; obtain rfl := heq.symm; refine Stop.out ?_)
    unfold Stop
    have HBn := Lib.hid (boxN_C (gramG en) R s1 wa HRa.out)
    rw [show (gramG en).en = en from rfl, h1] at HBn
    have HCf := Lib.hid (HC0.out.trans HCa.out)
    clear h1
    go_wp2_with (go_at_call 57; refine HBn.out.mono ?_; rintro e w3 ⟨rfl, hc⟩; refine Stop.out ?_)
    unfold Stop
    first | exact ⟨rfl, OutBx.fault rfl (HCf.out.trans hc)⟩ | (go_wp2; exact ⟨rfl, OutBx.fault rfl (HCf.out.trans hc)⟩)
  | ok m s2 =>
  dsimp only
  obtain ⟨r, hrr⟩ : ∃ r, (match skipP eqB s2 with
      | none => PR.flt (posP en s2) 81
      | some s3 => match exprE en 0 s3 with
        | .out => .out
        | .flt a k => .flt a k
        | .ok x s4 => match skipP scB s4 with
          | none => .flt (posP en s4) 81
          | some s5 => .ok (m, x) s5) = r := ⟨_, rfl⟩
  rw [hrr]
  go_enter Tryz.func30, Tryz.ntmps30
  go_wp2_with (go_at_call 56; refine HSk.out.mono ?_; rintro e wa ⟨rfl, hr, hc⟩; refine Stop.out ?_)
  unfold Stop
  have HRa := Lib.hid hr
  have HCa := Lib.hid hc
  clear hr hc HSk
  go_wp2_with (go_at_call 39; refine (code_must_yes R wa).mono ?_; rintro e we ⟨rfl, heq⟩; obtain rfl := heq.symm; refine Stop.out ?_)
  unfold Stop
  have HBn := Lib.hid (boxN_C (gramG en) R s1 wa HRa.out)
  rw [show (gramG en).en = en from rfl, h1] at HBn
  have HG2 := Lib.hid (cell_far HCa.out H2.out (by have := HRl.out; omega))
  have HX2 := Lib.hid (cell_far HCa.out H3.out hne1.symm)
  clear h1 H2 H3
  go_wp2_with (go_at_call 57; refine HBn.out.mono ?_; rintro e w3 ⟨rfl, hr, hc⟩; refine Stop.out ?_)
  unfold Stop
  have HX3 := Lib.hid (cell_far hc HX2.out hne1.symm)
  have HG3 := Lib.hid (cell_far hc HG2.out (by have := HRl.out; omega))
  have HR4 := Lib.hid (cell_putB hr HX3.out hne1 0 (.int .i64 m))
  have HX4 := Lib.hid (put_row HX3.out 0 (.int .i64 m))
  have HG4 := Lib.hid ((heap_setCell_other w3 ⟨w.heap.size + 1, 0, none⟩ w.heap.size (.int .i64 m) (by show w.heap.size ≠ w.heap.size + 1; omega)).trans HG3.out)
  have HC4 := Lib.hid (((HC0.out.trans HCa.out).trans hc).over (Chg.one (R := w.heap.size + 1) w3 0 (.int .i64 m)) (by omega))
  obtain ⟨e0, e1, e2, e3, e4, e5⟩ := row6c HX3.out
  have hz := frozen_of_row w3 (w.heap.size + 1) 0 _ _ HX3.out
  clear hr hc HBn HX2 HX3 HG2 HG3 HCa HRa HC0 HR0
  cases h2 : skipP eqB s2 with
  | none =>
    simp only [h2] at hrr
    subst hrr
    go_wp2_with (with_reducible show wpList _ _ _ (({ dst := some 13, op := Op.call _, .. } : Oper) :: _) _ _; refine Stop.out ?_)
    unfold Stop
    clear e0 e1 e2 e3 e4 e5 hz
    generalize World.setCell _ _ _ = w4 at HR4 HX4 HG4 HC4 ⊢
    have HSk := Lib.hid (skip_f HR4.out eqB (by decide) h2)
    clear h2
    go_wp2_with (go_at_call 56; refine HSk.out.mono ?_; rintro e wd ⟨rfl, hr, hc⟩; refine Stop.out ?_)
    unfold Stop
    have HMu := Lib.hid (code_must_no hr _ rfl)
    have HCf := Lib.hid (HC4.out.trans hc)
    clear hr hc HSk
    go_wp2_with (go_at_call 39; refine HMu.out.mono ?_; rintro e we ⟨rfl, hb⟩; refine Stop.out ?_)
    unfold Stop
    first | exact ⟨rfl, OutBx.fault rfl (HCf.out.trans (Chg.of hb))⟩ | (go_wp2; exact ⟨rfl, OutBx.fault rfl (HCf.out.trans (Chg.of hb))⟩)
  | some s3 =>
  simp only [h2] at hrr
  go_wp2_with (with_reducible show wpList _ _ _ (({ dst := some 13, op := Op.call _, .. } : Oper) :: _) _ _; refine Stop.out ?_)
  unfold Stop
  clear e0 e1 e2 e3 e4 e5 hz
  generalize World.setCell _ _ _ = w4 at HR4 HX4 HG4 HC4 ⊢
  have HSk := Lib.hid (skip_t HR4.out eqB (by decide) h2)
  clear h2
  go_wp2_with (go_at_call 56; refine HSk.out.mono ?_; rintro e wb ⟨rfl, hr, hc⟩; refine Stop.out ?_)
  unfold Stop
  have HRb := Lib.hid hr
  have HCb := Lib.hid hc
  clear hr hc HSk
  go_wp2_with (go_at_call 39; refine (code_must_yes R wb).mono ?_; rintro e we ⟨rfl, heq⟩; obtain rfl := heq.symm; refine Stop.out ?_)
  unfold Stop
  have HX5 := Lib.hid (cell_far HCb.out HX4.out hne1.symm)
  have HG5 := Lib.hid (cell_far HCb.out HG4.out (by have := HRl.out; omega))
  have HC5 := Lib.hid (HC4.out.trans HCb.out)
  have HEx := Lib.hid (code_exprE (d := 0) (Nat.zero_le _) HRb.out)
  clear HX4 HG4 HC4 HCb HR4
  cases h3 : exprE en 0 s3 with
  | out => exact (exprE_out en 0 s3 h3).elim
  | flt a k =>
    simp only [h3] at hrr
    subst hrr
    rw [h3] at HEx
    clear h3
    go_wp2_with (go_at_call 38; refine HEx.out.mono ?_; rintro e w6 ⟨rfl, hc⟩; refine Stop.out ?_)
    unfold Stop
    first | exact ⟨rfl, OutBx.fault rfl (HC5.out.trans hc)⟩ | (go_wp2; exact ⟨rfl, OutBx.fault rfl (HC5.out.trans hc)⟩)
  | ok x s4 =>
    simp only [h3] at hrr
    rw [h3] at HEx
    clear h3
    go_wp2_with (go_at_call 38; refine HEx.out.mono ?_; rintro e w6 ⟨k, n, fd, fA, fn, fc, kv, kb, kc, ks, rfl, hkv, ht, hr, hc⟩; refine Stop.out ?_)
    unfold Stop
    obtain ⟨KA, KN, KC, rfl⟩ := kids_slice hkv.out
    have HKv := hkv
    have HX6 := Lib.hid (cell_far hc HX5.out hne1.symm)
    have HG6 := Lib.hid (cell_far hc HG5.out (by have := HRl.out; omega))
    have HC6 := Lib.hid (HC5.out.trans hc)
    have HR6 := Lib.hid hr
    have HT6 : Hid (TreeQ (w.heap.size + 2) w6 (.mk k n fd fA fn fc kb kc ks) x) := Lib.hid (ht.less (by have := heapLt HX5.out; omega))
    clear ht hr hc hkv HEx HX5 HG5 HC5 HRb
    go_wp2_with (with_reducible show wpList _ _ _ (({ dst := none, op := Op.store 32 _ _, .. } : Oper) :: _) _ _; refine Stop.out ?_)
    unfold Stop
    refine wpList_store_mid rfl 32 (.tmp 17) (.tmp 16) rfl (w.heap.size + 1) 1 #[.int .i64 k, .int .i64 n, .string fd, .slice fA fn fc, .slice KA KN KC] rfl rfl (there6 HX6.out rfl) expr_info (by simp [Value.oneCell']) ?_
    simp only [Act.put]
    have HX7 := Lib.hid (heap_setCells5 w6 (w.heap.size + 1) 1 _ _ (.int .i64 k) (.int .i64 n) (.string fd) (.slice fA fn fc) (.slice KA KN KC) HX6.out)
    have HCs := Lib.hid (setCells_chg (w.heap.size + 1) [.int .i64 k, .int .i64 n, .string fd, .slice fA fn fc, .slice KA KN KC] 1 w6)
    have HG7 := Lib.hid ((HCs.out.heap (heapLt HG6.out) (by omega)).trans HG6.out)
    have HR7 := Lib.hid (HR6.out.rowB HX6.out hne1 HCs.out.size (fun k hk hne => HCs.out.heap hk hne))
    have HT7 := Lib.hid (HT6.out.chgB (by omega) HX6.out HCs.out)
    have HC7 := Lib.hid (HC6.out.over HCs.out (by omega))
    clear HX6 HG6 HC6 HR6 HT6 HCs
    generalize World.setCells _ _ _ _ = w7 at HX7 HG7 HC7 HR7 HT7 ⊢
    have HX8 : Hid (w7.heap[w.heap.size + 1]? = some (.cells #[.int .i64 m, .int .i64 k, .int .i64 n, .string fd, .slice fA fn fc, .slice KA KN KC] 42 (0, 0))) := Lib.hid (by simpa using HX7.out)
    clear HX7
    cases h4 : skipP scB s4 with
    | none =>
      simp only [h4] at hrr
      subst hrr
      have HSk := Lib.hid (skip_f HR7.out scB (by decide) h4)
      clear h4
      go_wp2_with (go_at_call 56; refine HSk.out.mono ?_; rintro e wd ⟨rfl, hr, hc⟩; refine Stop.out ?_)
      unfold Stop
      have HMu := Lib.hid (code_must_no hr _ rfl)
      have HCf := Lib.hid (HC7.out.trans hc)
      clear hr hc HSk
      go_wp2_with (go_at_call 39; refine HMu.out.mono ?_; rintro e we ⟨rfl, hb⟩; refine Stop.out ?_)
      unfold Stop
      first | exact ⟨rfl, OutBx.fault rfl (HCf.out.trans (Chg.of hb))⟩ | (go_wp2; exact ⟨rfl, OutBx.fault rfl (HCf.out.trans (Chg.of hb))⟩)
    | some s5 =>
      simp only [h4] at hrr
      subst hrr
      have HSk := Lib.hid (skip_t HR7.out scB (by decide) h4)
      clear h4
      go_wp2_with (go_at_call 56; refine HSk.out.mono ?_; rintro e wc ⟨rfl, hr, hc⟩; refine Stop.out ?_)
      unfold Stop
      have HRc := Lib.hid hr
      have HCc := Lib.hid hc
      clear hr hc HSk
      go_wp2_with (go_at_call 39; refine (code_must_yes R wc).mono ?_; rintro e we ⟨rfl, heq⟩; obtain rfl := heq.symm; refine Stop.out ?_)
      unfold Stop
      obtain ⟨cs, hrd⟩ := rd_block HR7.out
      have HX := Lib.hid (cell_far HCc.out HX8.out hne1.symm)
      have HG := Lib.hid (cell_far HCc.out HG7.out (by have := HRl.out; omega))
      have HC := Lib.hid (HC7.out.trans HCc.out)
      have HT := Lib.hid (HT7.out.chg (by have := HRl.out; omega) hrd HCc.out)
      clear HX8 HG7 HC7 HT7 HCc HR7 hrd
      obtain ⟨e0, e1, e2, e3, e4, e5⟩ := row6c HX.out
      go_wp2_with ((with_reducible refine wpList_store_row (o := ⟨none, _, _, _, _, _⟩) 42 ?b0 (.tmp 2) (.tmp 22) ?b1 w.heap.size ?b2 [.int .i64 m, .int .i64 k, .int .i64 n, .string fd, .slice fA fn fc, .slice KA KN KC] ?b3 ?b4 ?b5 #[.int .i64 0, .int .i64 0, .int .i64 0, .string ⟨#[]⟩, .slice none 0 0, .slice none 0 0] ?b6 42 ?b7 ?_); (case b0 => rfl); (case b1 => rfl); (case b2 => rfl); (case b3 => exact box_info); (case b4 => simp [Value.oneCell']); (case b5 => rfl); (case b6 => rfl); (case b7 => exact HG.out); (try simp only [Act.put]); refine Stop.out ?_)
      unfold Stop
      clear e0 e1 e2 e3 e4 e5
      have HRw := Lib.hid (row_then (g := w.heap.size) (new := #[.int .i64 m, .int .i64 k, .int .i64 n, .string fd, .slice fA fn fc, .slice KA KN KC]) HG.out rfl rfl)
      have HCg := Lib.hid (setRow_chg wc w.heap.size #[.int .i64 m, .int .i64 k, .int .i64 n, .string fd, .slice fA fn fc, .slice KA KN KC])
      have HT9 := Lib.hid (HT.out.chgB (by omega) HG.out HCg.out)
      have HR9 := Lib.hid (HRc.out.rowB HG.out (by have := HRl.out; omega) HCg.out.size (fun k hk hne => HCg.out.heap hk hne))
      have HC9 := Lib.hid (HC.out.over HCg.out (Nat.le_refl _))
      clear HG HX HC HT HCg HRc
      generalize World.setRow _ _ _ = wz at HRw HT9 HR9 HC9 ⊢
      go_wp2
      exact bodyPost_ret (results_cell_row Tryz.results30 _ _ w.heap.size 42 #[.int .i64 m, .int .i64 k, .int .i64 n, .string fd, .slice fA fn fc, .slice KA KN KC] (0, 0) _ rfl HRw.out Tryz.underlying42 rfl box_info) rfl ⟨k, n, fd, fA, fn, fc, _, kb, kc, ks, rfl, HKv, HT9.out.less (by omega), HR9.out, HC9.out⟩
end Go.Proofs.YtpapcnogbmjpjaaGreatDoor
