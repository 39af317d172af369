/- A line's spans told, one by one. -/
import Derived.Test.YtgljajoknmgoeaaGreatUlC
import Derived.Test.YtgljajoknmgoeaaGreatRangeB
import Derived.Laws.EntriesVeiled
namespace Go.Proofs.YtgljajoknmgoeaaGreat
open Go.RowKit
set_option maxRecDepth 100000

def encS (p : Sp) : Array Value := #[.agg #[.int .i64 p.1, .int .i64 p.2.1], .agg #[]]
def FxS (L : List Sp) (pre : List Sp) (x : Sp) (_ : World) : Prop := ∃ post, L = pre ++ x :: post
/-- the row is as it was -/
def KpS (b : Nat) (A C : World) : Prop := (b < A.heap.size → C.heap[b]? = A.heap[b]?) ∧ A.heap.size ≤ C.heap.size
theorem KpS.trans {b : Nat} {A B C : World} (h : KpS b A B) (k : KpS b B C) : KpS b A C := ⟨fun x => (k.1 (Nat.lt_of_lt_of_le x h.2)).trans (h.1 x), Nat.le_trans h.2 k.2⟩
theorem KpS.of_below {b : Nat} {A C : World} (h : Below A.heap.size A C) : KpS b A C := ⟨fun x => h.block _ x, h.size⟩
theorem Row2.kp {b : Nat} {A C : World} {p : Option Addr} {L : List Sp} (h : Row2 A p L) (hp : L ≠ [] → ∀ a, p = some a → a.block = b) (k : KpS b A C) : Row2 C p L := fun hn => by
  obtain ⟨g, o, rfl, hl, hr⟩ := h hn
  have hg : g = b := hp hn _ rfl
  subst hg
  exact ⟨g, o, rfl, Nat.lt_of_lt_of_le hl k.2, fun j v hv => (World.cell?_of_block (k.1 hl)).trans (hr j v hv)⟩
theorem pre_next {L pre : List Sp} (h : pre = L.take pre.length) (hl : pre.length < L.length) : ∃ post, L = pre ++ L[pre.length] :: post := by
  refine ⟨L.drop (pre.length + 1), ?_⟩
  rw [List.getElem_cons_drop, ]
  conv => lhs; rw [← List.take_append_drop pre.length L]
  rw [← h]
theorem sizePart : (Tryz.prog.info? 92).map (·.size) = some 2 := by kernel_rfl

set_option maxHeartbeats 2000000 in
theorem told (w : World) (g b : Nat) (A : Option Addr) (c : Nat) (L : List Sp) (hg : w.heap[g]? = some (.cells #[.slice A L.length c] 87 (0, 0))) (hr : Row2 w A L) (hA : L ≠ [] → ∀ a, A = some a → a.block = b) (hc : L.length ≤ 100000) :
    SeqTold Tryz.prog 89 #[.pointer (some ⟨g, 0, none⟩)] encS (FxS L) (KpS b) (fun xs => xs = L) (fun _ => True) w := by
  intro l J Jx W hbW hJ hJx hY h0
  have c0 := cell_of_row W g 0 _ _ _ (heap_on hbW hg)
  simp only [List.getElem?_toArray, List.getElem?_cons_zero] at c0
  have HR := Lib.hid (hr.on hbW)
  have HA := Lib.hid hA
  have HJ := Lib.hid hJ
  have HY := Lib.hid hY
  have H0 := Lib.hid h0
  clear hJ hJx hY h0 hbW hg hr hA
  refine callsIn_wide.1 (callsIn_of_wp (n := 2) (F := Fence.wide) Tryz.func89 rfl trivial ?_ rfl)
  simp only [Tryz.ntmps89, List.size_toArray, List.length_cons, List.length_nil, Nat.reduceAdd, Nat.reduceSub, Array.replicate_succ, Array.replicate_zero, List.push_toArray, List.append_toArray, List.nil_append, List.cons_append]
  gi_wp2
  clear c0
  gi_loopw [7] (fun i wr => ∃ pre : List Sp, pre = L.take pre.length ∧ pre.length ≤ L.length ∧ i = .int .i64 pre.length ∧ Hid (J pre wr) ∧ Hid (KpS b W wr)) (fun i _ => L.length - (intOf i).toNat)
  case atStart => exact ⟨[], rfl, Nat.zero_le _, rfl, H0, Lib.hid ⟨fun _ => rfl, Nat.le_refl _⟩⟩
  case round =>
    obtain ⟨pre, hp, hk, rfl, HJp, HK⟩ := hrel
    obtain ⟨k, hkk⟩ : ∃ k, k = pre.length := ⟨_, rfl⟩
    have HP := Lib.hid hp
    rw [← hkk] at hk ⊢
    have HKK := Lib.hid hkk
    clear hkk hp
    by_cases hlt : k < L.length
    · have hlt' : (k : Int) < (L.length : Int) := by omega
      obtain ⟨bb, o, rfl, hbl, x0, x1⟩ := (HR.out.kp HA.out HK.out).at_ k hlt
      obtain ⟨x, hx⟩ : ∃ x, x = L[k] := ⟨_, rfl⟩
      rw [← hx] at x0 x1
      have hnx : FxS L pre x wr := by
        have := HKK.out
        subst this
        rw [hx]
        exact pre_next HP.out hlt
      have hb2 := below_alloc wr (.cells #[.int .i64 x.1, .int .i64 x.2.1] 92)
      obtain ⟨fn, tmps, assign, body, hy, hRR⟩ := HY.out pre x _ (HJ.out _ _ _ HJp.out hb2) hnx
      dsimp only [encS] at hy
      have HRR := Lib.hid hRR
      have HN := Lib.hid (And.intro hnx hb2)
      have HX := Lib.hid hx
      clear hRR hnx hb2 hx
      have hpa := part_new wr (.int .i64 x.1) (.int .i64 x.2.1)
      gi_wp2
      refine HRR.out.mono ?_
      rintro e W3 (⟨rfl, hJ3, hk3⟩ | ⟨rfl, hJx3⟩)
      · have HJ3 := Lib.hid hJ3
        have HK3 := Lib.hid ((HK.out.trans (KpS.of_below HN.out.2)).trans hk3)
        have HL3 : Hid ((pre ++ [x]).length = k + 1) := Lib.hid (by rw [List.length_append, ← HKK.out]; rfl)
        have HT3 : Hid (pre ++ [x] = L.take (pre ++ [x]).length) := Lib.hid (by
          rw [HL3.out, List.take_succ_eq_append_getElem hlt, ← HX.out, HKK.out, ← HP.out])
        clear hJ3 hk3 hy
        gi_wp2
        go_roundw
        case rel => exact ⟨pre ++ [x], HT3.out, by rw [HL3.out]; omega, by rw [HL3.out]; simp, HJ3, HK3⟩
        case measure => simp [intOf]; omega
      · have HJ3 := Lib.hid hJx3
        clear hJx3 hy
        gi_wp2
        refine bodyPost_ret (results_none rfl _ _ _) rfl ?_
        exact ⟨⟨_, rfl⟩, .inr ⟨_, trivial, HJ3.out⟩⟩
    · obtain rfl : k = L.length := by omega
      gi_wp2
      go_end0
      exact ⟨⟨_, rfl⟩, .inl ⟨pre, by have h1 := HP.out; have h2 := HKK.out; rw [← h2, List.take_length] at h1; exact h1, HJp.out⟩⟩
end Go.Proofs.YtgljajoknmgoeaaGreat
