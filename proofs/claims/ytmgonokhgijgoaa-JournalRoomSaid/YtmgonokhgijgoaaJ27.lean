/- The document's batch: a string's bytes, and where there is none. The document's batch: where there is none. -/
import Derived.Test.YtmgonokhgijgoaaJ23
import Derived.Test.YtmgonokhgijgoaaJ20
import Derived.Test.YtmgonokhgijgoaaJ26
import Derived.Laws.IdiomStrings
namespace Go.Proofs.Ytmgonokhgijgoaa
open Go.RowKit
set_option maxRecDepth 100000
set_option linter.unusedSimpArgs false
set_option linter.unusedVariables false

/-- a string's bytes, in a block of their own -/
def ConvI (w : World) (T : Text) (v : Value) (w' : World) : Prop := ∃ c, v = .slice (some ⟨w.heap.size, 0, none⟩) T.length c ∧ T.length ≤ c ∧ c ≤ maxLen ∧ w'.rangeAt w.heap.size 0 (T.map cellOf) ∧ w.heap.size < w'.heap.size ∧ Below w.heap.size w w'
theorem conv_run (w : World) (T : Text) (n : Nat) (hn : T.length = n) (hm : T.length ≤ 100000) : ∃ v w', (convert 9 51 (.string ⟨T.toArray⟩)).run Try.prog w = .ok v w' ∧ ConvI w T v w' := by
  have h := run_bytes_of_string (P := Try.prog) w 9 51 5 ⟨T.toArray⟩ Try.underlying9 Try.underlying51 Try.underlying5
  have hs : (⟨T.toArray⟩ : ByteArray).size = T.length := by simp [ByteArray.size]
  refine ⟨_, _, h, grownCap w T.length 0 5, by rw [hs], grownCap_ge _ _ _ _, grownCap_le_maxLen _ _ _ _ (by unfold maxLen; omega), fun j u hu => ?_, ?_, ?_⟩
  · have hj : j < T.length := by have := (List.getElem?_eq_some_iff.1 hu).1; simpa using this
    rw [Nat.zero_add, cell_of_row _ w.heap.size j _ _ _ (heap_alloc_new w.drew _), bytesRow_at _ _ j (by simpa using hj)]
    rw [List.getElem?_map, List.getElem?_eq_getElem hj] at hu
    rw [← hu]
    simp [cellOf]
  · show w.heap.size < (w.drew.heap.push _).size
    rw [Array.size_push]
    exact Nat.lt_succ_self _
  · exact ((Below.refl _ w).drew).alloc (Nat.le_refl _) _
theorem wp_conv {w : World} {o : Oper} {a : Act} {K : Act → World → Prop} {Q : Exit → Act → World → Prop} (x : Operand) (ho : o.op = .convert 9 51 x) (S : ByteArray) (T : Text) (hS : S = ⟨T.toArray⟩) (hm : T.length ≤ 100000) (hx : a.eval x = .string S)
    (h : ∀ v w', ConvI w T v w' → K (a.put o.dst v) w') : o.wp Try.prog a w K Q := by
  subst hS
  obtain ⟨v, w', hr, hc⟩ := conv_run w T _ rfl hm
  unfold Oper.wp execOp
  simp only [ho, hx]
  rw [Sem.run_bind, hr]
  exact h v w' hc
theorem wpList_conv {w : World} {ops : Array Oper} {rest : List Oper} {o : Oper} {a : Act} {Q : Exit → Act → World → Prop} (hgd : o.guard = none) (x : Operand) (ho : o.op = .convert 9 51 x) (S : ByteArray) (T : Text) (hS : S = ⟨T.toArray⟩) (hm : T.length ≤ 100000) (hx : a.eval x = .string S)
    (h : ∀ v w', ConvI w T v w' → wpList Try.prog ops Q rest (a.put o.dst v) w') : wpList Try.prog ops Q (o :: rest) a w :=
  wpList_plain hgd fun _ hK => wp_conv x ho S T hS hm hx fun v w' q => hK _ _ (h v w' q)

theorem ref_batch_end (w : World) (g c m : Nat) (seq : Int) : Calls Try.prog 51 #[.slice (some ⟨g, 0, none⟩) m c, .int .i64 m, .int .i64 seq] w fun e w' => e = .returned (.tuple #[.slice none 0 0, .int .i64 0]) ∧ w = w' := by
  go_enter Try.func51, Try.ntmps51
  go_wp2
  go_ret2
  exact ⟨rfl, rfl⟩
end Go.Proofs.Ytmgonokhgijgoaa

namespace Go.Proofs.Ytmgonokhgijgoaa
open Go.RowKit
set_option maxRecDepth 100000
set_option linter.unusedSimpArgs false
set_option linter.unusedVariables false

set_option maxHeartbeats 2000000 in
theorem ref_batch_1 (w : World) (g c m k : Nat) (seq s l u : Int) (q : Bool) (T : Text) (hk : k < m) (hm : m ≤ 1000) (hT : T.length = 64) (hc : w.cell? ⟨g, k, none⟩ = some (.string ⟨T.toArray⟩)) (hv : beginV T = .tuple #[headV s l u, .bool q]) (hq : q = false) : Calls Try.prog 51 #[.slice (some ⟨g, 0, none⟩) m c, .int .i64 k, .int .i64 seq] w fun e w' => e = .returned (.tuple #[.slice none 0 0, .int .i64 0]) ∧ Below w.heap.size w w' := by
  have HBg : Hid (∀ A cc W, Txt W A T → T.length ≤ cc → Calls Try.prog 75 #[.slice A T.length cc] W fun e w' => e = .returned (.tuple #[headV s l u, .bool q]) ∧ Below W.heap.size W w') := Lib.hid fun A cc W h1 h2 => by
    have := ref_begin T A cc W h1 h2
    rwa [hv] at this
  have HNe := Lib.hid (ref_need l)
  obtain ⟨N, hN⟩ : ∃ N : Int, N = needV l := ⟨_, rfl⟩
  rw [← hN] at HNe
  have HNN := Lib.hid hN
  have hge : ¬ m ≤ k := by omega
  obtain ⟨S, hS⟩ : ∃ S : ByteArray, S = ⟨T.toArray⟩ := ⟨_, rfl⟩
  rw [← hS] at hc
  have HS := Lib.hid hS
  clear hS hv
  have hkm : (k : Int) < (m : Int) := by omega
  have hne : ¬ (k : Int) = (m : Int) := by omega
  have HTl : Hid (T.length ≤ 100000) := Lib.hid (by omega)
  subst hq
  clear hT hm hk hN
  unfold headV at HBg
  go_enter Try.func51, Try.ntmps51
  go_wp2_with (refine wpList_conv (o := ⟨some 24, _, _, _, _, _⟩) rfl (.tmp 23) rfl S T HS.out HTl.out rfl ?_; (try simp only [Act.put, List.setIfInBounds_toArray, List.set_cons_zero, List.set_cons_succ]); refine Stop.out ?_)
  unfold Stop
  rintro v w1 ⟨c1, rfl, hc1, hm1, hr1, hs1, hb1⟩
  have HT1 := Lib.hid (mid_txt hr1)
  have HB1 := Lib.hid hb1
  clear hc hr1 hs1 hb1 hge hne hkm HTl
  generalize T.length = n at HBg hc1 ⊢
  go_wp2_with (go_at_call 75; refine (HBg.out _ _ _ HT1.out hc1).mono ?_; rintro e w2 ⟨rfl, hb2⟩; have HB2 := Lib.hid (below_then HB1.out hb2); clear hb2; refine Stop.out ?_)
  unfold Stop
  go_wp2_with (go_at_call 42; refine (HNe.out _).mono ?_; rintro e w3 ⟨rfl, rfl⟩; refine Stop.out ?_)
  unfold Stop
  go_wp2
  go_ret2
  refine ⟨rfl, ?_⟩
  exact below_then HB2.out (below_alloc _ _)
set_option maxHeartbeats 2000000 in
theorem ref_batch_2 (w : World) (g c m k : Nat) (seq s l u : Int) (q : Bool) (T : Text) (hk : k < m) (hm : m ≤ 1000) (hT : T.length = 64) (hc : w.cell? ⟨g, k, none⟩ = some (.string ⟨T.toArray⟩)) (hv : beginV T = .tuple #[headV s l u, .bool q]) (hq : q = true) (hs : s ≠ seq) : Calls Try.prog 51 #[.slice (some ⟨g, 0, none⟩) m c, .int .i64 k, .int .i64 seq] w fun e w' => e = .returned (.tuple #[.slice none 0 0, .int .i64 0]) ∧ Below w.heap.size w w' := by
  have HBg : Hid (∀ A cc W, Txt W A T → T.length ≤ cc → Calls Try.prog 75 #[.slice A T.length cc] W fun e w' => e = .returned (.tuple #[headV s l u, .bool q]) ∧ Below W.heap.size W w') := Lib.hid fun A cc W h1 h2 => by
    have := ref_begin T A cc W h1 h2
    rwa [hv] at this
  have HNe := Lib.hid (ref_need l)
  obtain ⟨N, hN⟩ : ∃ N : Int, N = needV l := ⟨_, rfl⟩
  rw [← hN] at HNe
  have HNN := Lib.hid hN
  have hge : ¬ m ≤ k := by omega
  obtain ⟨S, hS⟩ : ∃ S : ByteArray, S = ⟨T.toArray⟩ := ⟨_, rfl⟩
  rw [← hS] at hc
  have HS := Lib.hid hS
  clear hS hv
  have hkm : (k : Int) < (m : Int) := by omega
  have hne : ¬ (k : Int) = (m : Int) := by omega
  have HTl : Hid (T.length ≤ 100000) := Lib.hid (by omega)
  subst hq
  have HQ := Lib.hid hs
  clear hs
  clear hT hm hk hN
  unfold headV at HBg
  go_enter Try.func51, Try.ntmps51
  go_wp2_with (refine wpList_conv (o := ⟨some 24, _, _, _, _, _⟩) rfl (.tmp 23) rfl S T HS.out HTl.out rfl ?_; (try simp only [Act.put, List.setIfInBounds_toArray, List.set_cons_zero, List.set_cons_succ]); refine Stop.out ?_)
  unfold Stop
  rintro v w1 ⟨c1, rfl, hc1, hm1, hr1, hs1, hb1⟩
  have HT1 := Lib.hid (mid_txt hr1)
  have HB1 := Lib.hid hb1
  clear hc hr1 hs1 hb1 hge hne hkm HTl
  generalize T.length = n at HBg hc1 ⊢
  go_wp2_with (go_at_call 75; refine (HBg.out _ _ _ HT1.out hc1).mono ?_; rintro e w2 ⟨rfl, hb2⟩; have HB2 := Lib.hid (below_then HB1.out hb2); clear hb2; refine Stop.out ?_)
  unfold Stop
  go_wp2_with (go_at_call 42; refine (HNe.out _).mono ?_; rintro e w3 ⟨rfl, rfl⟩; refine Stop.out ?_)
  unfold Stop
  have hs := HQ.out
  go_wp2
  go_ret2
  refine ⟨rfl, ?_⟩
  exact below_then HB2.out (below_alloc _ _)
set_option maxHeartbeats 2000000 in
theorem ref_batch_3 (w : World) (g c m k : Nat) (seq s l u : Int) (q : Bool) (T : Text) (hk : k < m) (hm : m ≤ 1000) (hT : T.length = 64) (hc : w.cell? ⟨g, k, none⟩ = some (.string ⟨T.toArray⟩)) (hv : beginV T = .tuple #[headV s l u, .bool q]) (hq : q = true) (hs : s = seq) (hb : (m : Int) - k < needV l) : Calls Try.prog 51 #[.slice (some ⟨g, 0, none⟩) m c, .int .i64 k, .int .i64 seq] w fun e w' => e = .returned (.tuple #[.slice none 0 0, .int .i64 0]) ∧ Below w.heap.size w w' := by
  have HBg : Hid (∀ A cc W, Txt W A T → T.length ≤ cc → Calls Try.prog 75 #[.slice A T.length cc] W fun e w' => e = .returned (.tuple #[headV s l u, .bool q]) ∧ Below W.heap.size W w') := Lib.hid fun A cc W h1 h2 => by
    have := ref_begin T A cc W h1 h2
    rwa [hv] at this
  have HNe := Lib.hid (ref_need l)
  obtain ⟨N, hN⟩ : ∃ N : Int, N = needV l := ⟨_, rfl⟩
  rw [← hN] at HNe
  have HNN := Lib.hid hN
  have hge : ¬ m ≤ k := by omega
  obtain ⟨S, hS⟩ : ∃ S : ByteArray, S = ⟨T.toArray⟩ := ⟨_, rfl⟩
  rw [← hS] at hc
  have HS := Lib.hid hS
  clear hS hv
  have hkm : (k : Int) < (m : Int) := by omega
  have hne : ¬ (k : Int) = (m : Int) := by omega
  have HTl : Hid (T.length ≤ 100000) := Lib.hid (by omega)
  subst hq
  subst hs
  have HQ : Hid ((m : Int) - k < N ∧ wrap64 ((m : Int) - k) = (m : Int) - k) := Lib.hid ⟨by rw [hN]; exact hb, by unfold wrap64; omega⟩
  clear hb
  clear hT hm hk hN
  unfold headV at HBg
  go_enter Try.func51, Try.ntmps51
  go_wp2_with (refine wpList_conv (o := ⟨some 24, _, _, _, _, _⟩) rfl (.tmp 23) rfl S T HS.out HTl.out rfl ?_; (try simp only [Act.put, List.setIfInBounds_toArray, List.set_cons_zero, List.set_cons_succ]); refine Stop.out ?_)
  unfold Stop
  rintro v w1 ⟨c1, rfl, hc1, hm1, hr1, hs1, hb1⟩
  have HT1 := Lib.hid (mid_txt hr1)
  have HB1 := Lib.hid hb1
  clear hc hr1 hs1 hb1 hge hne hkm HTl
  generalize T.length = n at HBg hc1 ⊢
  go_wp2_with (go_at_call 75; refine (HBg.out _ _ _ HT1.out hc1).mono ?_; rintro e w2 ⟨rfl, hb2⟩; have HB2 := Lib.hid (below_then HB1.out hb2); clear hb2; refine Stop.out ?_)
  unfold Stop
  go_wp2_with (go_at_call 42; refine (HNe.out _).mono ?_; rintro e w3 ⟨rfl, rfl⟩; refine Stop.out ?_)
  unfold Stop
  obtain ⟨hs1, hs2⟩ := HQ.out
  go_wp2
  go_ret2
  refine ⟨rfl, ?_⟩
  exact below_then HB2.out (below_alloc _ _)
end Go.Proofs.Ytmgonokhgijgoaa
