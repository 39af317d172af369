/- For which states, as the document says it. -/
import Derived.Test.YtlnpflfkkjcopaaRtS
import Derived.Deep.QuietTactic
namespace Go.Proofs.Ytlnpflfkkjcopaa
open Go.RowKit Go.Maps
set_option maxRecDepth 1000000

def statB (M : List Rt) (s : ByteArray) : Bool := M.any fun r => decide (r.1 = s)
theorem keys_small : ∀ s ∈ keysL, s.size ≤ 1000 := by decide +kernel
theorem stat_next {M : List Rt} {j : Nat} {s : ByteArray} (h : j < M.length) : statB (M.take (j + 1)) s = (statB (M.take j) s || decide (M[j].1 = s)) := by
  unfold statB
  rw [List.take_succ_eq_append_getElem h, List.any_append]
  simp
set_option maxHeartbeats 1000000 in
theorem ref_states (A : Option Addr) (c : Nat) (M : List Rt) (w : World) (hr : RowR w A M) (hl : M.length ≤ 100) : Calls Try.prog 33 #[.slice A M.length c] w (ToldL w (keysL.filter (statB M))) := by
  have HM := Lib.hid (ref_members w)
  have HR := Lib.hid hr
  have hl' : (M.length : Int) ≤ 100 := by omega
  have hlen : keysL.length = 27 := rfl
  have hsm := keys_small
  generalize keysL = K at *
  have hK : (K.length : Int) ≤ 27 := by omega
  have HSm := Lib.hid hsm
  clear hlen hr hsm
  go_enter Try.func33, Try.ntmps33
  go_wp2_with (go_at_call 54; refine HM.out.mono ?_; rintro e w1 ⟨A1, n, rfl, hs, hb⟩; have HS := Lib.hid hs; have HB1 := Lib.hid hb; clear hs hb)
  clear HM
  go_loopw [3, 5] (fun v i wr => ∃ (j : Nat), j ≤ K.length ∧ i = .int .i64 j ∧ Hid (wr.ownsRow w1.heap.size 9 1 v ((K.take j).filter (statB M)).length (((K.take j).filter (statB M)).map .string)) ∧ Hid (Below w1.heap.size w1 wr)) (fun _ i _ => K.length - (intOf i).toNat)
  case atStart => exact ⟨0, Nat.zero_le _, rfl, Lib.hid (World.ownsRow_nil _ _ _ _), Lib.hid (below_same _)⟩
  case round =>
    obtain ⟨j, hj, rfl, HO, HWn⟩ := hrel
    have HW : Hid (Strs wr A1 K ∧ Below w.heap.size w wr) := Lib.hid ⟨HS.out.below HWn.out, below_then HB1.out HWn.out⟩
    by_cases hlt : j < K.length
    · have hji : (j : Int) < (K.length : Int) := by omega
      obtain ⟨a, rfl, hbl, hc, hz⟩ := HW.out.1 j hlt
      obtain ⟨t, ht⟩ : ∃ t, t = K[j] := ⟨_, rfl⟩
      rw [← ht] at hc hz
      have HN : Hid ((K.take (j + 1)).filter (statB M) = (K.take j).filter (statB M) ++ (if statB M t then [t] else [])) := Lib.hid (by
        rw [List.take_succ_eq_append_getElem hlt, List.filter_append, ← ht]
        congr 1
        cases h : statB M t <;> simp [h])
      have HLn : Hid (((K.take j).filter (statB M)).length ≤ 1000) := Lib.hid (by
        have h1 := List.length_filter_le (statB M) (K.take j)
        have h2 : (K.take j).length ≤ j := List.length_take_le _ _
        omega)
      clear ht hz hbl
      go_wp2
      go_loopw [6, 7] (fun v i wi => ∃ (k : Nat) (q : Bool), k ≤ M.length ∧ i = .int .i64 k ∧ v = .bool q ∧ Hid (q = statB (M.take k) t) ∧ Hid (Below wr.heap.size wr wi)) (fun _ i _ => M.length - (intOf i).toNat)
      case atStart => exact ⟨0, false, Nat.zero_le _, rfl, rfl, Lib.hid rfl, Lib.hid (below_same _)⟩
      case round =>
        rename World => wi
        obtain ⟨k, q, hk, rfl, rfl, HQ, HI⟩ := hrel
        by_cases hkt : k < M.length
        · have hki : (k : Int) < (M.length : Int) := by omega
          obtain ⟨b, o, rfl, _, y0, _⟩ := ((HR.out.on HW.out.2).on HI.out).at_ k hkt
          have hc2 := cell_on HI.out hc
          obtain ⟨y, hy⟩ : ∃ y, y = M[k].1 := ⟨_, rfl⟩
          rw [← hy] at y0
          have HX := Lib.hid (stat_next (s := t) hkt)
          rw [← hy, ← HQ.out] at HX
          clear hy
          cases q with
          | true =>
            have HX2 : Hid (true = statB (M.take (k + 1)) t) := Lib.hid (by rw [HX.out]; rfl)
            clear HX
            go_wp2
            go_quiet (fail)
            go_wp2
            go_roundw
            case rel => exact ⟨k + 1, true, by omega, by go_num, rfl, HX2, Lib.hid (below_drewN' HI.out _)⟩
            case measure => simp [intOf]; omega
          | false =>
            by_cases hq : y = t
            · have hb2 : (y.toList == t.toList) = true := by rw [str_beq]; simpa using hq
              have HX2 : Hid (true = statB (M.take (k + 1)) t) := Lib.hid (by rw [HX.out, decide_eq_true hq]; rfl)
              clear hq HX
              go_wp2
              go_quiet (fail)
              go_wp2
              go_roundw
              case rel => exact ⟨k + 1, true, by omega, by go_num, rfl, HX2, Lib.hid (below_drewN' HI.out _)⟩
              case measure => simp [intOf]; omega
            · have hb2 : (y.toList == t.toList) = false := by rw [str_beq]; simpa using hq
              have HX2 : Hid (false = statB (M.take (k + 1)) t) := Lib.hid (by rw [HX.out, decide_eq_false hq]; rfl)
              clear hq HX
              go_wp2
              go_quiet (fail)
              go_wp2
              go_roundw
              case rel => exact ⟨k + 1, false, by omega, by go_num, rfl, HX2, Lib.hid (below_drewN' HI.out _)⟩
              case measure => simp [intOf]; omega
        · obtain rfl : k = M.length := by omega
          have HQ2 : Hid (q = statB M t) := Lib.hid (by have := HQ.out; rwa [List.take_length] at this)
          have HBi : Hid (Below w1.heap.size w1 wi) := Lib.hid (below_then HWn.out HI.out)
          have HOi := Lib.hid (own_belowS HO.out HI.out)
          have hc2 := cell_on HI.out hc
          clear HQ HI HO
          cases q with
          | true =>
            have HN2 : Hid ((K.take (j + 1)).filter (statB M) = (K.take j).filter (statB M) ++ [t]) := Lib.hid (by rw [HN.out, ← HQ2.out]; rfl)
            clear HN HQ2
            go_wp2_with (refine wpList_append_str (w0 := w1) (wb := wi) rfl _ _ rfl _ _ t rfl HOi.out rfl _ rfl rfl HBi.out ?c1 ?c2; (case c1 => exact HLn.out); intro v1 w2 hown hbb; have HO1 := Lib.hid hown; have HB9 := Lib.hid hbb; clear hown hbb)
            go_roundw
            case rel => exact ⟨j + 1, by omega, by go_num, by rw [HN2.out]; exact HO1, HB9⟩
            case measure => simp [intOf]; omega
          | false =>
            have HN2 : Hid ((K.take (j + 1)).filter (statB M) = (K.take j).filter (statB M)) := Lib.hid (by rw [HN.out, ← HQ2.out]; simp)
            clear HN HQ2
            go_wp2
            go_roundw
            case rel => exact ⟨j + 1, by omega, by go_num, by rw [HN2.out]; exact HOi, HBi⟩
            case measure => simp [intOf]; omega
    · obtain rfl : j = K.length := by omega
      have HO2 := HO.out
      rw [List.take_length] at HO2
      obtain ⟨A9, c9, rfl, hs9⟩ := own_strs HO2 (fun s hs => HSm.out s (List.mem_filter.1 hs).1)
      have HS9 := Lib.hid hs9
      clear HO2 HO hs9
      go_wp2
      go_ret
      exact ⟨A9, c9, rfl, HS9.out, HW.out.2⟩
end Go.Proofs.Ytlnpflfkkjcopaa
