/- Rates: not more than are looked at. -/
import Derived.Test.YtlnpflfkkjcopaaRtK
namespace Go.Proofs.Ytlnpflfkkjcopaa
open Go.RowKit
set_option maxRecDepth 100000

def shortB (L : List Rt) : Bool := L.all (fun r => decide (r.1.size ≤ 100))
def lightB (L : List Rt) (s : ByteArray) : Bool := shortB L && (decide (L.length ≤ 60) && decide (s.size ≤ 100))
theorem short_next {L : List Rt} {k : Nat} (hk : k < L.length) (h : shortB (L.take k) = true) (hs : L[k].1.size ≤ 100) : shortB (L.take (k + 1)) = true := by
  rw [List.take_succ_eq_append_getElem hk]
  unfold shortB at *
  rw [List.all_append, h]
  simp [hs]
theorem short_not {L : List Rt} {k : Nat} (hk : k < L.length) (hs : ¬ L[k].1.size ≤ 100) : shortB L = false := by
  unfold shortB
  rw [List.all_eq_false]
  exact ⟨L[k], List.getElem_mem hk, by simpa using hs⟩
set_option maxHeartbeats 1000000 in
theorem light_walk (A : Option Addr) (c : Nat) (L : List Rt) (s : ByteArray) (q d : Int) (w : World) (hr : RowR w A L) (hl : L.length ≤ 4000000000000000000) (V : Bool) (hV : lightB L s = V) :
    Calls Try.prog 22 #[.slice A L.length c, .agg #[.string s, .int .i64 q, .int .i64 d]] w fun e w' => e = .returned (.bool V) ∧ Below w.heap.size w w' := by
  have HI := Lib.hid (And.intro (heap_alloc_new w (.cells #[.string s, .int .i64 q, .int .i64 d] 51)) (below_alloc w (.cells #[.string s, .int .i64 q, .int .i64 d] 51)))
  have HR := Lib.hid hr
  have HV := Lib.hid hV
  clear hr hV
  go_enter Try.func22, Try.ntmps22
  go_wp2
  go_loopw [9] (fun i wr => ∃ (k : Nat), k ≤ L.length ∧ i = .int .i64 k ∧ Hid (shortB (L.take k) = true) ∧ Hid (wr.heap[w.heap.size]? = some (.cells #[.string s, .int .i64 q, .int .i64 d] 51 (0, 0)) ∧ Below w.heap.size w wr)) (fun i _ => L.length - (intOf i).toNat)
  case atStart => exact ⟨0, Nat.zero_le _, rfl, Lib.hid rfl, HI⟩
  case round =>
    clear HI
    obtain ⟨k, hk, rfl, HS, HI⟩ := hrel
    by_cases hlt : k < L.length
    · have hlt' : (k : Int) < (L.length : Int) := by omega
      obtain ⟨b, o, rfl, hbl, y0, y1, y2, y3, y4⟩ := (HR.out.on HI.out.2).at_ k hlt
      have HB1 := Lib.hid (fun o => below_alloc wr o)
      by_cases hs : L[k].1.size ≤ 100
      · have hs' : (L[k].1.size : Int) ≤ 100 := by omega
        have HN := Lib.hid (short_next hlt HS.out hs)
        clear hs hbl
        go_wp2
        go_roundw
        case rel => exact ⟨k + 1, by omega, by go_num, HN, Lib.hid ⟨heap_on (HB1.out _) HI.out.1, below_then HI.out.2 (HB1.out _)⟩⟩
        case measure => simp [intOf]; omega
      · have hs' : (100 : Int) < (L[k].1.size : Int) := by omega
        have HN : Hid (lightB L s = false) := Lib.hid (by unfold lightB; rw [short_not hlt hs]; rfl)
        clear hs hbl
        go_wp2
        go_ret
        exact ⟨by rw [← HV.out, HN.out]; rfl, below_then HI.out.2 (HB1.out _)⟩
    · obtain rfl : k = L.length := by omega
      have hS : shortB L = true := by have := HS.out; rwa [List.take_length] at this
      have a0 := cell_of_row wr w.heap.size 0 _ _ _ HI.out.1
      simp only [List.getElem?_toArray, List.getElem?_cons_zero] at a0
      have e : lightB L s = (decide (L.length ≤ 60) && decide (s.size ≤ 100)) := by unfold lightB; rw [hS]; rfl
      rw [HV.out] at e
      clear HS hS HV
      by_cases h60 : L.length ≤ 60
      · have i60 : (L.length : Int) ≤ 60 := by omega
        rw [decide_eq_true h60, Bool.true_and] at e
        by_cases h100 : s.size ≤ 100
        · have i100 : (s.size : Int) ≤ 100 := by omega
          rw [decide_eq_true h100] at e
          subst e
          clear h60 h100
          go_wp2
          go_ret
          exact ⟨ret_bool (by simp), HI.out.2⟩
        · have i100 : ¬ (s.size : Int) ≤ 100 := by omega
          rw [decide_eq_false h100] at e
          subst e
          clear h60 h100
          go_wp2
          go_ret
          exact ⟨ret_bool (by simp), HI.out.2⟩
      · have i60 : ¬ (L.length : Int) ≤ 60 := by omega
        rw [decide_eq_false h60, Bool.false_and] at e
        subst e
        clear h60
        go_wp2
        go_ret
        exact ⟨rfl, HI.out.2⟩
theorem code_light (A : Option Addr) (c : Nat) (L : List Rt) (s : ByteArray) (q d : Int) (w : World) (hr : RowR w A L) (hl : L.length ≤ 4000000000000000000) :
    Calls Try.prog 22 #[.slice A L.length c, .agg #[.string s, .int .i64 q, .int .i64 d]] w fun e w' => e = .returned (.bool (lightB L s)) ∧ Below w.heap.size w w' :=
  light_walk A c L s q d w hr hl _ rfl
end Go.Proofs.Ytlnpflfkkjcopaa
