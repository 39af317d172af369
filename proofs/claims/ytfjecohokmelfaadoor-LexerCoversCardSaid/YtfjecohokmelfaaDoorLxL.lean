/- Tokens shown, by the program and by the document; the chapter's example. -/
import Derived.Test.YtfjecohokmelfaaDoorLxK
namespace Go.Proofs.YtfjecohokmelfaaDoor
open Go.RowKit
set_option maxRecDepth 100000
set_option linter.unusedSimpArgs false
set_option linter.unusedVariables false

theorem join_own (L : List TokV) (v : Value) (B : Nat) (w : World) (hl : L.length ≤ 100000) (hj : (showL L).length ≤ 1000000) (h : w.ownsRow B 9 1 v (L.map fun t => t.2.2.1).length ((L.map fun t => t.2.2.1).map .string)) :
    Calls Tryd.prog 20 #[v, .string ⟨#[32]⟩] w fun e w' => e = .returned (.string ⟨(showL L).toArray⟩) ∧ Below w.heap.size w w' := by
  have e : showL L = Lib.join ((L.map fun t => t.2.2.1).map (·.data.toList)) [32] := by unfold showL; rw [List.map_map]; rfl
  rcases h.2 with ⟨rfl, h0⟩ | ⟨g, c, cur, rfl, _, hh, hc, hm, hx⟩
  · rw [List.length_map] at h0
    have hL : L = [] := List.eq_nil_of_length_eq_zero h0
    subst hL
    exact (Tryd.strings_Join_none none 0 ⟨#[32]⟩ w).mono fun e w' h => ⟨h.1, h.2 ▸ Below.refl _ _⟩
  · have hb := heapLt hh
    rw [e]
    refine Tryd.strings_Join g 0 c (L.map fun t => t.2.2.1) ⟨#[32]⟩ w (fun j x hx => ?_) hb (by rw [List.length_map]; omega) hc (by rw [← e]; omega)
    have := World.ownsRow.cells (g := g) h rfl j (.string x) (by rw [List.getElem?_map, hx]; rfl)
    rw [Addr.add_mid] at this
    exact this
set_option maxHeartbeats 2000000 in
theorem code_show (L : List TokV) (A : Option Addr) (c : Nat) (w : World) (hl : L.length ≤ 100000) (hj : (showL L).length ≤ 1000000) (h : RowTokV w A L) :
    Calls Tryd.prog 10 #[.slice A L.length c] w fun e w' => e = .returned (.string ⟨(showL L).toArray⟩) ∧ Below w.heap.size w w' := by
  obtain ⟨i0, hi, hz0, hz1, hz2⟩ := info_parts strfact
  have HA := Lib.hid h
  have HL := Lib.hid hl
  have HJ := Lib.hid hj
  have HI := Lib.hid (And.intro hi (And.intro hz0 (And.intro hz1 hz2)))
  clear h hl hj hi hz0 hz1 hz2
  obtain ⟨ll, hll⟩ : ∃ ll, ll = L.length := ⟨_, rfl⟩
  rw [← hll]
  have HLl := Lib.hid hll
  clear hll
  go_enter Tryd.func10, Tryd.ntmps10
  go_wp2_with (first
    | ((with_reducible refine wpList_make_own _ rfl _ _ 45 rfl w.heap.size 9 i0 (.string {data:=#[]}) 1 Tryd.underlying45 HI.out.1 HI.out.2.1 HI.out.2.2.1 _ _ _ ll rfl rfl rfl (by rw [HI.out.2.2.2]; have := HL.out; have := HLl.out; omega) (by unfold maxLen; have := HL.out; have := HLl.out; omega) (Nat.le_refl _) ?_); intro wm hown hgrow; have HO : Hid (wm.ownsRow w.heap.size 9 1 (.slice (some ⟨w.heap.size, 0, none⟩) 0 ll) ((L.take 0).map fun t => t.2.2.1).length (((L.take 0).map fun t => t.2.2.1).map .string)) := Lib.hid (by simpa using hown); have HB : Hid (Below w.heap.size w wm) := Lib.hid ((Below.refl _ _).grown hgrow (Nat.le_refl _) (by simp)); clear hown hgrow; refine Stop.out ?_))
  unfold Stop
  go_wp2
  go_loopw [3, 5, 11] (fun v3 v5 v11 wr => ∃ (v : Value) (k : Nat), v = v3 ∧ v11 = .int .i64 (k : Nat) ∧ Hid (k ≤ L.length ∧ wr.ownsRow w.heap.size 9 1 v ((L.take k).map fun t => t.2.2.1).length (((L.take k).map fun t => t.2.2.1).map .string) ∧ Below w.heap.size w wr)) (fun _ _ v11 _ => leftI L.length v11)
  case atStart => exact ⟨_, 0, rfl, rfl, Lib.hid ⟨Nat.zero_le _, HO.out, HB.out⟩⟩
  case round =>
    obtain ⟨v, k, rfl, rfl, HE⟩ := hrel
    by_cases hlt : k < L.length
    · have hlt' : (k : Int) < (ll : Int) := by have := HLl.out; omega
      have HLt := Lib.hid hlt
      have HWk : Hid (wrap64 ((k : Int) + 1) = ((k + 1 : Nat) : Int)) := Lib.hid (wrap1 (by have := HL.out; omega))
      obtain ⟨b, o, rfl, p1, q0, q1, q2, q3⟩ := (HA.out.on HE.out.2.2).at_ k hlt
      obtain ⟨x, hx⟩ : ∃ x : TokV, x = L[k] := ⟨_, rfl⟩
      have HTk : Hid ((L.take (k + 1)).map (fun t => t.2.2.1) = (L.take k).map (fun t => t.2.2.1) ++ [x.2.2.1]) := Lib.hid (by rw [hx, List.take_succ_eq_append_getElem hlt, List.map_append]; rfl)
      have hx' : L[k] = x := hx.symm
      clear hx
      generalize L[k] = y at q0 q1 q2 q3 hx'
      subst hx'
      have HLn : Hid (((L.take k).map fun t => t.2.2.1).length ≤ 100000) := Lib.hid (by rw [List.length_map, List.length_take]; have := HL.out; omega)
      have HB1 : Hid (Below w.heap.size w (wr.alloc (.cells #[.int .i64 y.1, .int .i64 y.2.1, .string y.2.2.1, .int .i64 y.2.2.2] 36))) := Lib.hid (below_then HE.out.2.2 (below_alloc wr _))
      have HO1 : Hid ((wr.alloc (.cells #[.int .i64 y.1, .int .i64 y.2.1, .string y.2.2.1, .int .i64 y.2.2.2] 36)).ownsRow w.heap.size 9 1 v ((L.take k).map fun t => t.2.2.1).length (((L.take k).map fun t => t.2.2.1).map .string)) := Lib.hid (own_belowS HE.out.2.1 (below_alloc wr _))
      have HG1 : Hid ((wr.alloc (.cells #[.int .i64 y.1, .int .i64 y.2.1, .string y.2.2.1, .int .i64 y.2.2.2] 36)).heap.size = wr.heap.size + 1) := Lib.hid (by simp)
      clear hlt
      go_wp2_with (first
        | ((with_reducible refine wpList_append_str (w0 := w) (wb := wr.alloc (.cells #[.int .i64 y.1, .int .i64 y.2.1, .string y.2.2.1, .int .i64 y.2.2.2] 36)) rfl _ _ rfl v ((L.take k).map fun t => t.2.2.1) y.2.2.1 rfl HO1.out rfl (wr.heap.size + 1) HG1.out rfl HB1.out HLn.out ?_); intro v5 w5 ho5 hb5; have HO5 := Lib.hid ho5; have HB5 := Lib.hid hb5; clear ho5 hb5; refine Stop.out ?_))
      unfold Stop
      clear q0 q1 q2 q3 HO1 HB1
      have hwk := HWk.out
      go_wp2
      go_roundw
      case rel => exact ⟨v5, k + 1, rfl, by first | rfl | rw [hwk], Lib.hid ⟨HLt.out, by rw [HTk.out]; exact HO5.out, HB5.out⟩⟩
      case measure => first | exact leftI_lt (Nat.lt_succ_self k) HLt.out | (rw [hwk]; exact leftI_lt (Nat.lt_succ_self k) HLt.out)
    · have hge : (ll : Int) ≤ (k : Int) := by have := HLl.out; omega
      have hk : k = L.length := by have := HE.out.1; omega
      have HJn : Hid (Calls Tryd.prog 20 #[v, .string ⟨#[32]⟩] wr fun e w' => e = .returned (.string ⟨(showL L).toArray⟩) ∧ Below wr.heap.size wr w') := Lib.hid (join_own L v w.heap.size wr HL.out HJ.out (by have := HE.out.2.1; rw [hk, List.take_length] at this; exact this))
      clear hk hlt
      go_wp2_with (first
        | (go_at_call 20; refine HJn.out.mono ?_; rintro e w2 ⟨rfl, hb⟩; have HB2 := Lib.hid (below_then HE.out.2.2 hb); clear hb))
      go_ret
      exact ⟨rfl, HB2.out⟩
theorem sumT_take (L : List TokV) (k : Nat) : sumT (L.take k) ≤ sumT L := by
  have e : sumT L = sumT (L.take k) + sumT (L.drop k) := by
    unfold sumT
    rw [← List.sum_append, ← List.map_append, List.take_append_drop]
  omega
set_option maxHeartbeats 2000000 in
theorem ref_show (L : List TokV) (A : Option Addr) (c : Nat) (w : World) (hl : L.length ≤ 100000) (hj : sumT L ≤ 1000000) (h : RowTokR w A L) :
    Calls Tryd.prog 11 #[.slice A L.length c] w fun e w' => e = .returned (.string ⟨(showL L).toArray⟩) ∧ w = w' := by
  have HA := Lib.hid h
  have HL := Lib.hid hl
  have HJ := Lib.hid hj
  clear h hl hj
  obtain ⟨ll, hll⟩ : ∃ ll, ll = L.length := ⟨_, rfl⟩
  rw [← hll]
  have HLl := Lib.hid hll
  clear hll
  go_enter Tryd.func11, Tryd.ntmps11
  go_wp2
  go_loopw [3, 4] (fun v3 v4 wr => ∃ (X : ByteArray) (k : Nat), v3 = .string X ∧ v4 = .int .i64 (k : Nat) ∧ Hid (k ≤ L.length ∧ X.data.toList = showL (L.take k)) ∧ w = wr) (fun _ v4 _ => leftI L.length v4)
  case atStart => exact ⟨⟨#[]⟩, 0, rfl, rfl, Lib.hid ⟨Nat.zero_le _, rfl⟩, by first | rfl | trivial⟩
  case round =>
    obtain ⟨X, k, rfl, rfl, HE, rfl⟩ := hrel
    by_cases hlt : k < L.length
    · have hlt' : (k : Int) < (ll : Int) := by have := HLl.out; omega
      have HLt := Lib.hid hlt
      have HWk : Hid (wrap64 ((k : Int) + 1) = ((k + 1 : Nat) : Int)) := Lib.hid (wrap1 (by have := HL.out; omega))
      obtain ⟨b, o, rfl, p1, q0, q1, q2, q3⟩ := HA.out.at_ k hlt
      have HKz : Hid (L.take k = [] ↔ k = 0) := Lib.hid ⟨fun h => by
        have := congrArg List.length h
        rw [List.length_take] at this
        simp at this
        rcases this with h | h
        · exact h
        · rw [h] at hlt; simp at hlt, fun h => by subst h; rfl⟩
      have HT0 : Hid (k = 0 → showL (L.take (k + 1)) = (L[k]).2.2.1.data.toList) := Lib.hid fun h => by rw [List.take_succ_eq_append_getElem hlt, showL_snoc, if_pos (HKz.out.2 h)]; rfl
      have HT1 : Hid (k ≠ 0 → showL (L.take (k + 1)) = showL (L.take k) ++ [32] ++ (L[k]).2.2.1.data.toList) := Lib.hid fun h => by rw [List.take_succ_eq_append_getElem hlt, showL_snoc, if_neg (fun h2 => h (HKz.out.1 h2))]; rfl
      have HSz : Hid (X.size ≤ 2000000 ∧ (L[k]).2.2.1.size ≤ 1000000) := Lib.hid (by
        have h1 : X.data.toList.length = X.size := by rw [Array.length_toList]; rfl
        have h2 := showL_len (L.take k)
        have h3 := sumT_take L k
        have h4 := sumT_take L (k + 1)
        have h5 : (L.take k).length ≤ 100000 := by rw [List.length_take]; have := HL.out; omega
        rw [List.take_succ_eq_append_getElem hlt, sumT_snoc] at h4
        have h6 := HJ.out
        rw [HE.out.2] at h1
        refine ⟨by omega, ?_⟩
        have h7 : (L[k]).2.2.1.size ≤ sumT L := by
          refine Nat.le_trans ?_ h4
          exact Nat.le_add_left _ _
        omega)
      obtain ⟨x, hx⟩ : ∃ x : ByteArray, x = (L[k]).2.2.1 := ⟨_, rfl⟩
      rw [← hx] at HT0 HT1 HSz
      have q2' : w.cell? ⟨b, o + k * 4 + 2, none⟩ = some (.string x) := by rw [hx]; exact q2
      clear q0 q1 q2 q3 hx hlt
      have hwk := HWk.out
      by_cases hk0 : 0 < k
      · have hkp : (0 : Int) < (k : Int) := by clear hwk; omega
        have HK0 : Hid (k ≠ 0) := Lib.hid (by clear hwk; omega)
        obtain ⟨X1, hX1⟩ : ∃ X1 : ByteArray, X1 = X ++ ⟨#[32]⟩ := ⟨_, rfl⟩
        obtain ⟨X2, hX2⟩ : ∃ X2 : ByteArray, X2 = X1 ++ x := ⟨_, rfl⟩
        have hadd1 : ∀ W : World, (Op.stringOp .add X ⟨#[32]⟩).run Tryd.prog W = .ok (.string X1) W := fun W => by
          rw [run_string_add_sum W _ _ (by have h1 : (⟨#[32]⟩ : ByteArray).size = 1 := rfl; have h2 := HSz.out; omega), hX1]
        have hadd2 : ∀ W : World, (Op.stringOp .add X1 x).run Tryd.prog W = .ok (.string X2) W := fun W => by
          rw [run_string_add_sum W _ _ (by have h1 : (⟨#[32]⟩ : ByteArray).size = 1 := rfl; have h2 := HSz.out; rw [hX1, ByteArray.size_append]; omega), hX2]
        have HX2 : Hid (X2.data.toList = X.data.toList ++ [32] ++ x.data.toList) := Lib.hid (by rw [hX2, hX1, ByteArray.toList_data_append, ByteArray.toList_data_append])
        clear hX1 hX2
        go_wp2
        go_roundw
        case rel => exact ⟨_, k + 1, rfl, by first | rfl | rw [hwk], Lib.hid ⟨HLt.out, by rw [HT1.out HK0.out, HX2.out, HE.out.2]⟩, by first | rfl | trivial⟩
        case measure => first | exact leftI_lt (Nat.lt_succ_self k) HLt.out | (rw [hwk]; exact leftI_lt (Nat.lt_succ_self k) HLt.out)
      · have hkp : (k : Int) ≤ 0 := by clear hwk; omega
        have HK0 : Hid (k = 0) := Lib.hid (by clear hwk; omega)
        obtain ⟨X2, hX2⟩ : ∃ X2 : ByteArray, X2 = X ++ x := ⟨_, rfl⟩
        have hadd2 : ∀ W : World, (Op.stringOp .add X x).run Tryd.prog W = .ok (.string X2) W := fun W => by
          rw [run_string_add_sum W _ _ (by have h2 := HSz.out; omega), hX2]
        have HX2 : Hid (X2.data.toList = X.data.toList ++ x.data.toList) := Lib.hid (by rw [hX2, ByteArray.toList_data_append])
        clear hX2
        go_wp2
        go_roundw
        case rel => exact ⟨_, k + 1, rfl, by first | rfl | rw [hwk], Lib.hid ⟨HLt.out, by rw [HT0.out HK0.out, HX2.out, HE.out.2, HK0.out]; rfl⟩, by first | rfl | trivial⟩
        case measure => first | exact leftI_lt (Nat.lt_succ_self k) HLt.out | (rw [hwk]; exact leftI_lt (Nat.lt_succ_self k) HLt.out)
    · have hge : (ll : Int) ≤ (k : Int) := by have := HLl.out; omega
      have hk : k = L.length := by have := HE.out.1; omega
      have hX : X = ⟨(showL L).toArray⟩ := by
        have h2 := HE.out.2
        rw [hk, List.take_length] at h2
        apply ByteArray.ext
        apply Array.ext'
        rw [h2]
      have HX := Lib.hid hX
      clear hk hlt hX
      go_wp2
      go_ret
      exact ⟨by rw [HX.out]; rfl, rfl⟩
end Go.Proofs.YtfjecohokmelfaaDoor
