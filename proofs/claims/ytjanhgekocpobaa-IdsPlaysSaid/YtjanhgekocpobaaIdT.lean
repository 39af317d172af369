/- Documents that are there: the document's own check. -/
import Derived.Test.YtjanhgekocpobaaIdS
import Derived.Test.YtjanhgekocpobaaRgT
namespace Go.Proofs.Ytjanhgekocpobaa
open Go.RowKit
set_option maxRecDepth 100000
set_option linter.unusedSimpArgs false
set_option linter.unusedVariables false
attribute [local go_sem] Oper.semAt_some

def refV (W : List DocV) (d : DocV) : Int := if goodB d = false then 2 else if 0 ≤ findI W d.id then 51 else if d.credit = false then 0 else if findI W d.refers < 0 then 72 else if forB (W.getD (findI W d.refers).toNat docZ) d = false then 72 else 0
theorem find_lt {W : List DocV} {s : ByteArray} (h : ¬ findI W s < 0) : ∃ i, ∃ hi : i < W.length, findI W s = (i : Nat) ∧ W[i].id = s := by
  unfold findI at h ⊢
  split at h
  · rename_i h1
    refine ⟨W.findIdx (isD s), h1, by rw [if_pos h1], ?_⟩
    have := List.findIdx_getElem (p := isD s) (w := h1)
    simpa [isD] using this
  · exact absurd (by decide) h
set_option maxHeartbeats 4000000 in
/-- a credit, held against the document that it refers to -/
theorem ref_check (W : List DocV) (A : Option Addr) (c : Nat) (d : DocV) (w : World) (hr : RowD w A W) (hl : W.length ≤ 1000) (hd : DocVOk w d) (hln : d.lines.length ≤ 140737488351232) (V : Int) (hV : refV W d = V) : Calls Try.prog 10 #[.slice A W.length c, .agg #[.string d.id, .bool d.sale, .bool d.credit, .string d.refers, .int .i64 d.day, .string d.country, .string d.number, .string d.currency, .slice d.linesA d.lines.length d.linesC]] w fun e w' => e = .returned (.int .i64 V) ∧ Below w.heap.size w w' := by
  have HGd : Hid (∀ V, docGood d (rightP d.country d.number) (currB d.currency) = V → ∀ W', Below w.heap.size w W' → Calls Try.prog 19 #[.agg #[.string d.id, .bool d.sale, .bool d.credit, .string d.refers, .int .i64 d.day, .string d.country, .string d.number, .string d.currency, .slice d.linesA d.lines.length d.linesC]] W' fun e w1 => e = .returned (.bool V) ∧ Below W'.heap.size W' w1) := Lib.hid (fun V hV W' hW => refDoc_val d V W' (hd.on hW) hln hV)
  have HF1 : Hid (∀ W', Below w.heap.size w W' → Calls Try.prog 13 #[.slice A W.length c, .string d.id] W' fun e w1 => e = .returned (.int .i64 (findI W d.id)) ∧ W' = w1) := Lib.hid (fun W' hW => ref_find W A c d.id W' (hr.on hW) hl _ rfl)
  have HF2 : Hid (∀ W', Below w.heap.size w W' → Calls Try.prog 13 #[.slice A W.length c, .string d.refers] W' fun e w1 => e = .returned (.int .i64 (findI W d.refers)) ∧ W' = w1) := Lib.hid (fun W' hW => ref_find W A c d.refers W' (hr.on hW) hl _ rfl)
  have HR := Lib.hid hr
  have HV := Lib.hid hV
  have hl' : (W.length : Int) ≤ 1000 := by omega
  have HX0 := Lib.hid (heap_alloc_new w (.cells #[.string d.id, .bool d.sale, .bool d.credit, .string d.refers, .int .i64 d.day, .string d.country, .string d.number, .string d.currency, .slice d.linesA d.lines.length d.linesC] 29))
  have HB0 := Lib.hid (below_alloc w (.cells #[.string d.id, .bool d.sale, .bool d.credit, .string d.refers, .int .i64 d.day, .string d.country, .string d.number, .string d.currency, .slice d.linesA d.lines.length d.linesC] 29))
  clear hr hV hd hln hl
  go_enter Try.func10, Try.ntmps10
  go_wp2_with ((with_reducible show wpList _ _ _ (({ dst := some 7, op := Op.load _ _, .. } : Oper) :: _) _ _); refine Stop.out ?_)
  unfold Stop
  generalize w.alloc (.cells #[.string d.id, .bool d.sale, .bool d.credit, .string d.refers, .int .i64 d.day, .string d.country, .string d.number, .string d.currency, .slice d.linesA d.lines.length d.linesC] 29) = w1 at HX0 HB0 ⊢
  obtain ⟨g, hgg⟩ : ∃ g, g = w.heap.size := ⟨_, rfl⟩
  rw [← hgg] at HX0 ⊢
  clear hgg
  obtain ⟨u0, u1, u2, u3, u4, u5, u6, u7, u8⟩ := cellsLineV HX0.out
  by_cases hg : goodB d = false
  · have HVv : Hid (refV W d = 2) := Lib.hid (by unfold refV; rw [if_pos hg])
    go_wp2_with (go_at_call 19; refine (HGd.out false hg _ HB0.out).mono ?_; rintro e w2 ⟨rfl, hb⟩; have HB2 := Lib.hid (below_then HB0.out hb); clear hb)
    have e := HV.out
    rw [HVv.out] at e
    subst e
    go_ret
    exact ⟨rfl, HB2.out⟩
  have hg2 : docGood d (rightP d.country d.number) (currB d.currency) = true := by simpa [goodB] using hg
  go_wp2_with (go_at_call 19; refine (HGd.out true hg2 _ HB0.out).mono ?_; rintro e w2 ⟨rfl, hb⟩; have HB2 := Lib.hid (below_then HB0.out hb); have HX2 := Lib.hid (heap_on hb HX0.out); clear hb; refine Stop.out ?_)
  unfold Stop
  clear u0 u1 u2 u3 u4 u5 u6 u7 u8 HX0 HB0 HGd hg2
  have HG := Lib.hid hg
  clear hg
  obtain ⟨u0, u1, u2, u3, u4, u5, u6, u7, u8⟩ := cellsLineV HX2.out
  have HFi := Lib.hid (HF1.out _ HB2.out)
  have HFj := Lib.hid (HF2.out _ HB2.out)
  clear HF1 HF2
  by_cases h1 : 0 ≤ findI W d.id
  · have HVv : Hid (refV W d = 51) := Lib.hid (by unfold refV; rw [if_neg HG.out, if_pos h1])
    have e := HV.out
    rw [HVv.out] at e
    subst e
    generalize findI W d.id = f1 at h1 HFi
    go_wp2_with (go_at_call 13; refine HFi.out.mono ?_; rintro e w3 ⟨rfl, rfl⟩)
    go_ret
    exact ⟨rfl, HB2.out⟩
  have H1 := Lib.hid h1
  cases hcr : d.credit with
  | false =>
    have HVv : Hid (refV W d = 0) := Lib.hid (by unfold refV; rw [if_neg HG.out, if_neg H1.out, if_pos hcr])
    have e := HV.out
    rw [HVv.out] at e
    subst e
    rw [hcr] at u2
    have h1' : findI W d.id < 0 := by omega
    generalize findI W d.id = f1 at h1' HFi
    clear h1 hcr H1 HVv HV
    go_wp2_with (go_at_call 13; refine HFi.out.mono ?_; rintro e w3 ⟨rfl, rfl⟩)
    go_ret
    exact ⟨rfl, HB2.out⟩
  | true =>
    have HCr := Lib.hid hcr
    rw [hcr] at u2
    have h1' : findI W d.id < 0 := by omega
    by_cases h2 : findI W d.refers < 0
    · have HVv : Hid (refV W d = 72) := Lib.hid (by unfold refV; rw [if_neg HG.out, if_neg H1.out, if_neg (by rw [hcr]; decide), if_pos h2])
      have e := HV.out
      rw [HVv.out] at e
      subst e
      clear h1 hcr H1 HVv HV HCr HG
      generalize findI W d.id = f1 at h1' HFi
      generalize findI W d.refers = f2 at h2 HFj
      go_wp2_with (go_at_call 13; first | ((with_reducible refine HFi.out.mono ?_); rintro e w3 ⟨rfl, rfl⟩) | ((with_reducible refine HFj.out.mono ?_); rintro e w3 ⟨rfl, rfl⟩))
      go_ret
      exact ⟨rfl, HB2.out⟩
    obtain ⟨i, hi, hfi, _⟩ := find_lt h2
    have HVv : Hid (refV W d = if forB W[i] d = false then 72 else 0) := Lib.hid (by unfold refV; rw [if_neg HG.out, if_neg H1.out, if_neg (by rw [hcr]; decide), if_neg h2, hfi, Int.toNat_natCast, List.getD_eq_getElem?_getD, List.getElem?_eq_getElem hi]; rfl)
    rw [hfi] at HFj
    obtain ⟨b, o, rfl, hbl, y0, y1, y2, y3, y4, y5, y6, y7, y8⟩ := (HR.out.on HB2.out).at_ i hi
    have e := HV.out
    rw [HVv.out] at e
    have HE := Lib.hid e
    have hi' : (i : Int) < (W.length : Int) := by omega
    clear h1 h2 hcr H1 HVv HV HG hfi e hbl HR
    generalize findI W d.id = f1 at h1' HFi
    generalize W[i] = x at y0 y1 y2 y3 y4 y5 y6 y7 y8 HE
    have HN := Lib.hid (heap_alloc_new w2 (.cells #[.string x.id, .bool x.sale, .bool x.credit, .string x.refers, .int .i64 x.day, .string x.country, .string x.number, .string x.currency, .slice x.linesA x.lines.length x.linesC] 29))
    have HBn := Lib.hid (below_then HB2.out (below_alloc w2 (.cells #[.string x.id, .bool x.sale, .bool x.credit, .string x.refers, .int .i64 x.day, .string x.country, .string x.number, .string x.currency, .slice x.linesA x.lines.length x.linesC] 29)))
    have HXn := Lib.hid (heap_on (below_alloc w2 (.cells #[.string x.id, .bool x.sale, .bool x.credit, .string x.refers, .int .i64 x.day, .string x.country, .string x.number, .string x.currency, .slice x.linesA x.lines.length x.linesC] 29)) HX2.out)
    go_wp2_with (first
      | (go_at_call 13; first | ((with_reducible refine HFi.out.mono ?_); rintro e w3 ⟨rfl, rfl⟩) | ((with_reducible refine HFj.out.mono ?_); rintro e w3 ⟨rfl, rfl⟩))
      | ((with_reducible show wpList _ _ _ (({ dst := some 28, op := Op.fieldAddr _ _ _, .. } : Oper) :: _) _ _); refine Stop.out ?_))
    unfold Stop
    generalize w2.alloc (.cells #[.string x.id, .bool x.sale, .bool x.credit, .string x.refers, .int .i64 x.day, .string x.country, .string x.number, .string x.currency, .slice x.linesA x.lines.length x.linesC] 29) = w4 at HN HBn HXn ⊢
    obtain ⟨gx, hgx⟩ : ∃ gx, gx = w2.heap.size := ⟨_, rfl⟩
    rw [← hgx] at HN ⊢
    clear hgx u0 u1 u2 u3 u4 u5 u6 u7 u8 y0 y1 y2 y3 y4 y5 y6 y7 y8 HFi HFj h1' hi' HX2 HB2
    obtain ⟨u0, u1, u2, u3, u4, u5, u6, u7, u8⟩ := cellsLineV HXn.out
    obtain ⟨v0, v1, v2, v3, v4, v5, v6, v7, v8⟩ := cellsLineV HN.out
    clear u0 u2 u3 u8 v0 v3 v8 HN HXn
    by_cases k1 : x.credit = true
    · have e := HE.out
      rw [if_pos (by unfold forB; rw [k1]; rfl)] at e
      subst e
      rw [k1] at v2
      clear k1 HE
      go_wp2
      go_ret
      exact ⟨rfl, HBn.out⟩
    have k1' : x.credit = false := by simpa using k1
    rw [k1'] at v2
    by_cases k2 : x.sale = d.sale
    case neg =>
      have e := HE.out
      rw [if_pos (by unfold forB dealB; rw [beq_false_of_ne k2]; simp)] at e
      subst e
      have f2 : (x.sale != d.sale) = true := by simpa using k2
      have f2a : (x.sale == d.sale) = false := beq_false_of_ne k2
      clear k1 k1' HE
      go_wp2
      go_ret
      exact ⟨rfl, HBn.out⟩
    have f2 : (x.sale != d.sale) = false := by simpa using k2
    have K2 := Lib.hid k2
    clear k1 k2
    by_cases k3 : x.country = d.country
    case neg =>
      have e := HE.out
      rw [if_pos (by unfold forB dealB; rw [show (x.country.toList == d.country.toList) = false by rw [str_beq]; simpa using k3]; simp)] at e
      subst e
      have f3 : (x.country.toList == d.country.toList) = false := by rw [str_beq]; simpa using k3
      have f3' : (x.country.toList != d.country.toList) = true := by unfold bne; rw [f3]; rfl
      clear k1' k3 HE
      go_wp2
      go_ret
      exact ⟨rfl, HBn.out⟩
    have f3 : (x.country.toList == d.country.toList) = true := by rw [str_beq]; simpa using k3
    have f3' : (x.country.toList != d.country.toList) = false := by unfold bne; rw [f3]; rfl
    have K3 := Lib.hid k3
    clear k3
    by_cases k4 : x.number = d.number
    case neg =>
      have e := HE.out
      rw [if_pos (by unfold forB dealB; rw [show (x.number.toList == d.number.toList) = false by rw [str_beq]; simpa using k4]; simp)] at e
      subst e
      have f4 : (x.number.toList == d.number.toList) = false := by rw [str_beq]; simpa using k4
      have f4' : (x.number.toList != d.number.toList) = true := by unfold bne; rw [f4]; rfl
      clear k1' k4 HE
      go_wp2
      go_ret
      exact ⟨rfl, HBn.out⟩
    have f4 : (x.number.toList == d.number.toList) = true := by rw [str_beq]; simpa using k4
    have f4' : (x.number.toList != d.number.toList) = false := by unfold bne; rw [f4]; rfl
    have K4 := Lib.hid k4
    clear k4
    by_cases k5 : x.currency = d.currency
    case neg =>
      have e := HE.out
      rw [if_pos (by unfold forB dealB; rw [show (x.currency.toList == d.currency.toList) = false by rw [str_beq]; simpa using k5]; simp)] at e
      subst e
      have f5 : (x.currency.toList == d.currency.toList) = false := by rw [str_beq]; simpa using k5
      have f5' : (x.currency.toList != d.currency.toList) = true := by unfold bne; rw [f5]; rfl
      clear k1' k5 HE
      go_wp2
      go_ret
      exact ⟨rfl, HBn.out⟩
    have f5 : (x.currency.toList == d.currency.toList) = true := by rw [str_beq]; simpa using k5
    have f5' : (x.currency.toList != d.currency.toList) = false := by unfold bne; rw [f5]; rfl
    have K5 := Lib.hid k5
    clear k5
    by_cases k6 : x.day ≤ d.day
    · have e := HE.out
      rw [if_neg (by unfold forB dealB; rw [k1', K2.out, f3, f4, f5, decide_eq_true k6]; simp)] at e
      subst e
      clear k1' HE
      go_wp2
      go_ret
      exact ⟨rfl, HBn.out⟩
    · have e := HE.out
      rw [if_pos (by unfold forB dealB; rw [decide_eq_false k6]; simp)] at e
      subst e
      have f6 : d.day < x.day := by omega
      clear k1' k6 HE
      go_wp2
      go_ret
      exact ⟨rfl, HBn.out⟩
end Go.Proofs.Ytjanhgekocpobaa
