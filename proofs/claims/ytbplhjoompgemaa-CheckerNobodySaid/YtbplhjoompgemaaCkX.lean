/- A plan of boxes that have leaves. -/
import Derived.Test.YtbplhjoompgemaaCkW
namespace Go.Proofs.Ytbplhjoompgemaa
open Go.RowKit
set_option maxRecDepth 100000
set_option linter.unusedSimpArgs false
set_option linter.unusedVariables false
attribute [local go_sem] Oper.semAt_some

theorem own_rowB {w : World} {B : Nat} {v : Value} {L : List LB} (h : w.ownsRow B 43 6 v L.length (lbCs L)) (hn : 1 ≤ L.length) : ∃ g c, v = .slice (some ⟨g, 0, none⟩) L.length c ∧ RowB w g L := by
  rcases h.2 with ⟨_, h0⟩ | ⟨g, c, cur, rfl, hB, hh, hc, hm, hcs, ht⟩
  · omega
  · refine ⟨g, c, rfl, cur, hh, fun j v hv => ?_⟩
    have hj := (List.getElem?_eq_some_iff.1 hv).1
    rw [lbCs_len] at hj
    rw [← ht, List.getElem?_take] at hv
    split at hv
    · simpa using hv
    · cases hv
/-- what a plan is built of -/
structure PlanOk (l : List LB) (NN : List (List Int)) : Prop where
  few : l.length ≤ 20
  some_ : 1 ≤ l.length
  ok : ∀ x ∈ l, LBOk x
  once : (plcs l).length = l.length
  len : NN.length = l.length
  refs : ∀ (k : Nat) (h : k < l.length) (h2 : k < NN.length), NN[k].length = (refL l[k].2.1 l[k].2.2).length ∧ ∀ (j : Nat) (h3 : j < (refL l[k].2.1 l[k].2.2).length) (h4 : j < NN[k].length), valI (refL l[k].2.1 l[k].2.2)[j] (plcs l) = some NN[k][j]
  low : ∀ N ∈ NN, N.length ≤ 1000 ∧ ∀ x ∈ N, ∃ i : Nat, x = (i : Nat) ∧ i < l.length
def PlanP (w w' : World) (l : List LB) (NN : List (List Int)) (e : Ending) : Prop := Below w.heap.size w w' ∧ ∃ k, k ≤ l.length ∧ (k < l.length → nextP NN (iterP NN k).1 = none) ∧ (iterP NN k).2.length = k ∧
  ((k < l.length ∧ e = .returned (.tuple #[.pointer none, .int .i64 84])) ∨ (k = l.length ∧ ∃ P A c x y z, e = .returned (.tuple #[.pointer (some ⟨P, 0, none⟩), .int .i64 0]) ∧ w'.heap[P]? = some (.cells #[x, y, z, .slice A k c] 36 (0, 0)) ∧ OwnI w' w.heap.size (.slice A k c) (iterP NN k).2))
theorem check_end {w w3 w4 w5 w6 w7 : World} {P m : Nat} (h3 : Below w.heap.size w w3) (h4 : Chg2 P m w3 w4) (h5 : Chg P w4 w5) (h6 : Below w5.heap.size w5 w6) (h7 : Chg P w6 w7) (hm : w.heap.size ≤ m) (hP : w.heap.size ≤ P) : Below w.heap.size w w7 :=
  ⟨h7.os.trans (h6.os.trans (h5.os.trans (h4.os.trans h3.os))), h7.tape.trans (h6.tape.trans (h5.tape.trans (h4.tape.trans h3.tape))), h7.output.trans (h6.output.trans (h5.output.trans (h4.output.trans h3.output))), Nat.le_trans h3.size (Nat.le_trans h4.size (Nat.le_trans h5.size (Nat.le_trans h6.size h7.size))), fun k hk => by
    have k3 := Nat.lt_of_lt_of_le hk h3.size
    have k4 := Nat.lt_of_lt_of_le k3 h4.size
    have k5 := Nat.lt_of_lt_of_le k4 h5.size
    have k6 := Nat.lt_of_lt_of_le k5 h6.size
    exact (h7.heap k6 (by omega)).trans ((h6.block k k5).trans ((h5.heap k4 (by omega)).trans ((h4.block k k3 (by omega) (by omega)).trans (h3.block k hk))))⟩
set_option maxHeartbeats 4000000 in
theorem code_Check (b c : Nat) (l : List LB) (NN : List (List Int)) (w : World) (hr : RowB w b l) (h : PlanOk l NN) : Calls Try.prog 7 #[.slice (some ⟨b, 0, none⟩) l.length c] w fun e w' => PlanP w w' l NN e := by
  have hmm := @run_makeMap Try.prog
  have hnot : ∀ (x : Bool) (w : World), (Op.unary .not (.bool x)).run Try.prog w = .ok (.bool (!x)) w := fun _ _ => rfl
  have HR := Lib.hid hr
  have HO := Lib.hid h
  have hbp : ∀ w (m : Nat), (Instr.build 36 #[(1, .map (some m))]).run Try.prog w = .ok (.agg #[.slice none 0 0, .map (some m), .slice none 0 0, .slice none 0 0]) w := fun w m => run_build w 36 _ _ (by kernel_rfl)
  have hln : (l.length : Int) ≤ 20 := by have := h.few; omega
  clear hr h
  have HB1 := Lib.hid (below_alloc w (.map #[] 0))
  have HM1 := Lib.hid (heap_alloc_new w (.map #[] 0))
  have HB2 := Lib.hid (below_alloc (w.alloc (.map #[] 0)) (.cells #[.slice none 0 0, .map (some w.heap.size), .slice none 0 0, .slice none 0 0] 36))
  have HP2 := Lib.hid (heap_alloc_new (w.alloc (.map #[] 0)) (.cells #[.slice none 0 0, .map (some w.heap.size), .slice none 0 0, .slice none 0 0] 36))
  have hsz : (w.alloc (.map #[] 0)).heap.size = w.heap.size + 1 := World.size_alloc _ _
  rw [hsz] at HP2
  go_enter Try.func7, Try.ntmps7
  go_wp2_with (go_at_call 16; refine Stop.out ?_)
  unfold Stop
  have HB0 := Lib.hid (below_then HB1.out HB2.out)
  have HM2 := Lib.hid (heap_on HB2.out HM1.out)
  generalize World.alloc _ _ = w2 at HB0 HM2 HP2 ⊢
  obtain ⟨m, hm⟩ : ∃ m, m = w.heap.size := ⟨_, rfl⟩
  obtain ⟨P, hP⟩ : ∃ P, P = m + 1 := ⟨_, rfl⟩
  have HmE := Lib.hid (And.intro hm hP)
  rw [← hm] at HM2 HP2 ⊢
  rw [← hP] at HP2 ⊢
  clear hm hP hsz HB1 HM1
  refine (code_Good b c l w2 HO.out.few (HR.out.on HB0.out) HO.out.ok).mono ?_
  rintro e w3 ⟨rfl, hb⟩
  have HB3 := Lib.hid (below_then HB0.out hb)
  have HP3 := Lib.hid (heap_on hb HP2.out)
  have HM3 : Hid (MapI w3 m []) := Lib.hid (heap_on hb HM2.out)
  clear hb HP2 HM2 HB0
  have HNm := Lib.hid (code_number P m b c l w3 HO.out.few (HR.out.on HB3.out) HP3.out HM3.out)
  rw [decide_eq_true HO.out.once] at HNm
  go_wp2_with (go_at_call 17; refine HNm.out.mono ?_; rintro e w4 ⟨rfl, hn⟩; refine Stop.out ?_)
  unfold Stop
  have HN4 := Lib.hid hn
  obtain ⟨A4, c4, hbx, hbo⟩ := hn.box
  obtain ⟨gb, cb, he, hrb⟩ := own_rowB hbo HO.out.some_
  injection he with he1 he2 he3
  subst he1 he3
  have HL := Lib.hid (code_link P m gb c4 l NN (plcs l) w4 HO.out.few hrb HO.out.ok hbx hn.map HO.out.len HO.out.refs)
  have hbm : b ≠ m := fun e => by
    obtain ⟨cs, h1, _⟩ := HR.out.on HB3.out
    exact HM3.out.not _ _ _ (e ▸ h1)
  have hbP : b ≠ P := fun e => by
    obtain ⟨cs, h1, _⟩ := HR.out.on HB3.out
    exact cells_ne h1 HP3.out (by decide) e
  have HR4 := Lib.hid ((HR.out.on HB3.out).to (hn.chg.block b (HR.out.on HB3.out).lt hbP hbm))
  have HbP := Lib.hid hbP
  clear hn hbx hbo hrb hbm hbP HNm HP3 HM3
  go_wp2_with (go_at_call 18; refine HL.out.mono ?_; rintro e w5 ⟨rfl, hn⟩; refine Stop.out ?_)
  unfold Stop
  have HL5 := Lib.hid hn
  have hr5 := HR4.out.to (hn.chg.heap HR4.out.lt HbP.out)
  have HU := Lib.hid (code_unnamed b c l w5 HO.out.few hr5 (fun x hx => by rcases (HO.out.ok x hx).2 with h | h; exact .inl h.1; exact .inr h.1))
  clear hn hr5 HL
  go_wp2_with (go_at_call 19; refine HU.out.mono ?_; rintro e w6 ⟨rfl, hb⟩; refine Stop.out ?_)
  unfold Stop
  obtain ⟨A5, c5, vals, hbx, hbo, hvl, hvi⟩ := HL5.out.box
  have HNd : Hid (NeedsAt w6 w4.heap.size (.slice A5 NN.length c5) vals NN) := Lib.hid ⟨own_on hbo hb, hvl, fun j h1 h2 => (hvi j h1 h2).on hb⟩
  have HS := Lib.hid (code_sort P m gb c4 l.length (.slice A5 NN.length c5) vals NN w4.heap.size w6 HO.out.some_ HO.out.few HO.out.len (heap_on hb hbx) HNd.out HO.out.low)
  have HB6 := Lib.hid hb
  clear hb hbx hbo hvl hvi HU
  go_wp2_with (go_at_call 21; refine HS.out.mono ?_; rintro e w7 ⟨k, hk, rfl, hk1, hk2, hc, A7, c7, hp7, ho7⟩; refine Stop.out ?_)
  unfold Stop
  have HBf : Hid (Below w.heap.size w w7) := Lib.hid (check_end HB3.out HN4.out.chg HL5.out.chg HB6.out hc (by rw [← HmE.out.1]; exact Nat.le_refl _) (by have := HmE.out; omega))
  have HSz : Hid (w.heap.size ≤ w6.heap.size) := Lib.hid (Nat.le_trans HB3.out.size (Nat.le_trans HN4.out.chg.size (Nat.le_trans HL5.out.chg.size HB6.out.size)))
  have HF := Lib.hid (And.intro hk (And.intro hk1 (And.intro hk2 (And.intro hp7 ho7))))
  clear hk1 hk2 hc hp7 ho7 HS
  by_cases hkl : k = l.length
  · have hd : decide (k = l.length) = true := decide_eq_true hkl
    rw [hd]
    have HK := Lib.hid hkl
    clear hd hkl
    go_wp2
    go_ret2
    have hx := HF.out
    exact ⟨HBf.out, k, hx.1, hx.2.1, hx.2.2.1, .inr ⟨HK.out, P, A7, c7, _, _, _, rfl, hx.2.2.2.1, hx.2.2.2.2.less HSz.out⟩⟩
  · have hd : decide (k = l.length) = false := decide_eq_false hkl
    rw [hd]
    have HK := Lib.hid hkl
    clear hd hkl
    go_wp2
    go_ret2
    have hx := HF.out
    exact ⟨HBf.out, k, hx.1, hx.2.1, hx.2.2.1, .inl ⟨by have := HK.out; omega, rfl⟩⟩
end Go.Proofs.Ytbplhjoompgemaa
