/- The document's line of a state and a category. -/
import Derived.Test.YtlnpflfkkjcopaaRtR
import Derived.Test.YtlnpflfkkjcopaaRtN
import Derived.Test.YtlnpflfkkjcopaaTlX
namespace Go.Proofs.Ytlnpflfkkjcopaa
open Go.RowKit
set_option maxRecDepth 100000

def keyB (s : ByteArray) (q : Int) (r : Rt) : Bool := decide (r.1 = s) && decide (r.2.1 = q)
def lineR (M : List Rt) (s : ByteArray) (q : Int) : List Sp := (M.filter (keyB s q)).map (·.2.2)
theorem lineR_yes {M : List Rt} {k : Nat} {s : ByteArray} {q : Int} (hk : k < M.length) (h1 : M[k].1 = s) (h2 : M[k].2.1 = q) : lineR (M.take (k + 1)) s q = lineR (M.take k) s q ++ [M[k].2.2] := by
  unfold lineR
  rw [List.take_succ_eq_append_getElem hk, List.filter_append, List.map_append]
  simp [keyB, h1, h2]
theorem lineR_no {M : List Rt} {k : Nat} {s : ByteArray} {q : Int} (hk : k < M.length) (h : ¬ (M[k].1 = s ∧ M[k].2.1 = q)) : lineR (M.take (k + 1)) s q = lineR (M.take k) s q := by
  unfold lineR
  rw [List.take_succ_eq_append_getElem hk, List.filter_append]
  have : keyB s q M[k] = false := by
    unfold keyB
    by_cases h1 : M[k].1 = s
    · rw [decide_eq_false (fun e => h ⟨h1, e⟩), Bool.and_false]
    · rw [decide_eq_false h1, Bool.false_and]
  simp [this]
theorem lineR_len (M : List Rt) (s : ByteArray) (q : Int) : (lineR M s q).length ≤ M.length := by
  unfold lineR
  rw [List.length_map]
  exact List.length_filter_le _ _
set_option maxHeartbeats 1000000 in
theorem ref_line (A : Option Addr) (c : Nat) (M : List Rt) (s : ByteArray) (q : Int) (w : World) (hr : RowR w A M) (hl : M.length ≤ 500) :
    Calls Try.prog 50 #[.slice A M.length c, .string s, .int .i64 q] w fun e w' => ∃ v, e = .returned v ∧ OwnQ w' w.heap.size v (lineR M s q) ∧ Below w.heap.size w w' := by
  have HR := Lib.hid hr
  have hl' : (M.length : Int) ≤ 500 := by omega
  clear hr
  go_enter Try.func50, Try.ntmps50
  go_wp2
  go_loopw [7, 8] (fun wv i wr => ∃ (k : Nat), k ≤ M.length ∧ i = .int .i64 k ∧ Hid (OwnQ wr w.heap.size wv (lineR (M.take k) s q)) ∧ Hid (Below w.heap.size w wr)) (fun _ i _ => M.length - (intOf i).toNat)
  case atStart => exact ⟨0, Nat.zero_le _, rfl, Lib.hid (World.ownsRow_nil _ _ _ _), Lib.hid (Below.refl _ _)⟩
  case round =>
    obtain ⟨k, hk, rfl, HO, HB⟩ := hrel
    by_cases hlt : k < M.length
    · have hlt' : (k : Int) < (M.length : Int) := by omega
      obtain ⟨b, o, rfl, hbl, y0, y1, y2, y3, y4⟩ := (HR.out.on HB.out).at_ k hlt
      have HY := Lib.hid (fun h1 h2 => lineR_yes (s := s) (q := q) hlt h1 h2)
      have HN := Lib.hid (fun h => lineR_no (s := s) (q := q) hlt h)
      obtain ⟨y, hy⟩ : ∃ y, y = M[k] := ⟨_, rfl⟩
      rw [← hy] at y0 y1 y2 y3 y4 HY HN
      clear hbl hy
      by_cases h1 : y.1 = s
      · have hb1 : (y.1.toList == s.toList) = true := by rw [str_beq]; simpa using h1
        by_cases h2 : y.2.1 = q
        · have hb2 : (y.2.1 == q) = true := by simpa using h2
          obtain ⟨p, hp⟩ : ∃ p, p = y.2.2 := ⟨_, rfl⟩
          rw [← hp] at y2 y3 y4
          have HS9 : Hid (lineR (M.take (k + 1)) s q = lineR (M.take k) s q ++ [p]) := Lib.hid (by rw [hp]; exact HY.out h1 h2)
          have HXb := Lib.hid (heap_alloc_new wr (.cells #[.int .i64 p.1, .int .i64 p.2.1, .int .i64 p.2.2] 29))
          have HBa := Lib.hid (below_alloc wr (.cells #[.int .i64 p.1, .int .i64 p.2.1, .int .i64 p.2.2] 29))
          have HLn : Hid ((lineR (M.take k) s q).length ≤ 500) := Lib.hid (by have := lineR_len (M.take k) s q; have h3 : (M.take k).length ≤ k := List.length_take_le _ _; omega)
          clear h1 h2 hp HY HN
          go_wp2_with (at_builtin; refine wpList_append_q rfl _ _ rfl rfl w.heap.size _ (lineR (M.take k) s q) rfl (HO.out.on HBa.out) (some ⟨wr.heap.size, 0, none⟩) 1 1 [p] rfl rfl (box_row HXb.out) (by simp) (by have := HLn.out; simp; omega) (Nat.le_trans HB.out.size HBa.out.size) ?_; intro v9 w9 hown hg; have HQ9 := Lib.hid hown; have HB9 : Hid (Below w.heap.size w w9) := (Lib.hid ((below_then HB.out HBa.out).grown hg (Nat.le_trans HB.out.size HBa.out.size) (fun k hk => (World.ownsRow.lt (HO.out.on HBa.out) k hk).1))); clear hown hg)
          go_roundw
          case rel => exact ⟨k + 1, by omega, by go_num, by rw [HS9.out]; exact HQ9, HB9⟩
          case measure => simp [intOf]; omega
        · have hb2 : (y.2.1 == q) = false := beq_no h2
          have HS9 := Lib.hid (HN.out (fun h => h2 h.2))
          clear h1 h2 HY HN
          go_wp2
          go_roundw
          case rel => exact ⟨k + 1, by omega, by go_num, by rw [HS9.out]; exact HO, HB⟩
          case measure => simp [intOf]; omega
      · have hb1 : (y.1.toList == s.toList) = false := by rw [str_beq]; simpa using h1
        have HS9 := Lib.hid (HN.out (fun h => h1 h.1))
        clear h1 HY HN
        go_wp2
        go_roundw
        case rel => exact ⟨k + 1, by omega, by go_num, by rw [HS9.out]; exact HO, HB⟩
        case measure => simp [intOf]; omega
    · obtain rfl : k = M.length := by omega
      go_wp2
      go_ret
      exact ⟨_, rfl, by have := HO.out; rwa [List.take_length] at this, HB.out⟩
end Go.Proofs.Ytlnpflfkkjcopaa
