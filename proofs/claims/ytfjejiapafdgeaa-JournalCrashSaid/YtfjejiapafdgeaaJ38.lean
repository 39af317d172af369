/- The document's batch: a string's bytes, and where there is none. The document's batch: where there is none. The document's batch: what stands between its first and its last. -/
import Derived.Test.YtfjejiapafdgeaaJ24
import Derived.Test.YtfjejiapafdgeaaJ37
import Derived.Test.YtfjejiapafdgeaaJ21
import Derived.Test.YtfjejiapafdgeaaJ27
import Derived.Laws.IdiomStrings
namespace Go.Proofs.Ytfjejiapafdgeaa
open Go.RowKit
set_option maxRecDepth 100000
set_option linter.unusedSimpArgs false
set_option linter.unusedVariables false

/-- a string's bytes, in a block of their own -/
def ConvI (w : World) (T : Text) (v : Value) (w' : World) : Prop := ∃ c, v = .slice (some ⟨w.heap.size, 0, none⟩) T.length c ∧ T.length ≤ c ∧ c ≤ maxLen ∧ w'.rangeAt w.heap.size 0 (T.map cellOf) ∧ w.heap.size < w'.heap.size ∧ Below w.heap.size w w'
theorem conv_run (w : World) (T : Text) (n : Nat) (hn : T.length = n) (hm : T.length ≤ 100000) : ∃ v w', (convert 9 51 (.string ⟨T.toArray⟩)).run Try.prog w = .ok v w' ∧ ConvI w T v w' := by
  have h := run_bytes_of_string (P := Try.prog) w 9 51 5 ⟨T.toArray⟩ Try.underlying9 Try.underlying51 Try.underlying5
  have hs : (⟨T.toArray⟩ : ByteArray).size = T.length := by simp [ByteArray.size]
  refine ⟨_, _, h, grownCap w T.length 0 5, by rw [hs], grownCap_ge _ _ _ _, grownCap_le_maxLen _ _ _ _ (by unfold maxLen; omega), fun j u hu => ?_, ?_, ?_⟩
  · have hj : j < T.length := by have := (List.getElem?_eq_some_iff.1 hu).1; simpa using this
    rw [Nat.zero_add, cell_of_row _ w.heap.size j _ _ _ (heap_alloc_new w.drew _), bytesRow_at _ _ j (by simpa using hj)]
    rw [List.getElem?_map, List.getElem?_eq_getElem hj] at hu
    rw [← hu]
    simp [cellOf]
  · show w.heap.size < (w.drew.heap.push _).size
    rw [Array.size_push]
    exact Nat.lt_succ_self _
  · exact ((Below.refl _ w).drew).alloc (Nat.le_refl _) _
theorem wp_conv {w : World} {o : Oper} {a : Act} {K : Act → World → Prop} {Q : Exit → Act → World → Prop} (x : Operand) (ho : o.op = .convert 9 51 x) (S : ByteArray) (T : Text) (hS : S = ⟨T.toArray⟩) (hm : T.length ≤ 100000) (hx : a.eval x = .string S)
    (h : ∀ v w', ConvI w T v w' → K (a.put o.dst v) w') : o.wp Try.prog a w K Q := by
  subst hS
  obtain ⟨v, w', hr, hc⟩ := conv_run w T _ rfl hm
  unfold Oper.wp execOp
  simp only [ho, hx]
  rw [Sem.run_bind, hr]
  exact h v w' hc
theorem wpList_conv {w : World} {ops : Array Oper} {rest : List Oper} {o : Oper} {a : Act} {Q : Exit → Act → World → Prop} (hgd : o.guard = none) (x : Operand) (ho : o.op = .convert 9 51 x) (S : ByteArray) (T : Text) (hS : S = ⟨T.toArray⟩) (hm : T.length ≤ 100000) (hx : a.eval x = .string S)
    (h : ∀ v w', ConvI w T v w' → wpList Try.prog ops Q rest (a.put o.dst v) w') : wpList Try.prog ops Q (o :: rest) a w :=
  wpList_plain hgd fun _ hK => wp_conv x ho S T hS hm hx fun v w' q => hK _ _ (h v w' q)

theorem ref_batch_end (w : World) (g c m : Nat) (seq : Int) : Calls Try.prog 51 #[.slice (some ⟨g, 0, none⟩) m c, .int .i64 m, .int .i64 seq] w fun e w' => e = .returned (.tuple #[.slice none 0 0, .int .i64 0]) ∧ w = w' := by
  go_enter Try.func51, Try.ntmps51
  go_wp2
  go_ret2
  exact ⟨rfl, rfl⟩
end Go.Proofs.Ytfjejiapafdgeaa

namespace Go.Proofs.Ytfjejiapafdgeaa
open Go.RowKit
set_option maxRecDepth 100000
set_option linter.unusedSimpArgs false
set_option linter.unusedVariables false

set_option maxHeartbeats 2000000 in
theorem ref_batch_1 (w : World) (g c m k : Nat) (seq s l u : Int) (q : Bool) (T : Text) (hk : k < m) (hm : m ≤ 1000) (hT : T.length = 64) (hc : w.cell? ⟨g, k, none⟩ = some (.string ⟨T.toArray⟩)) (hv : beginV T = .tuple #[headV s l u, .bool q]) (hq : q = false) : Calls Try.prog 51 #[.slice (some ⟨g, 0, none⟩) m c, .int .i64 k, .int .i64 seq] w fun e w' => e = .returned (.tuple #[.slice none 0 0, .int .i64 0]) ∧ Below w.heap.size w w' := by
  have HBg : Hid (∀ A cc W, Txt W A T → T.length ≤ cc → Calls Try.prog 75 #[.slice A T.length cc] W fun e w' => e = .returned (.tuple #[headV s l u, .bool q]) ∧ Below W.heap.size W w') := Lib.hid fun A cc W h1 h2 => by
    have := ref_begin T A cc W h1 h2
    rwa [hv] at this
  have HNe := Lib.hid (ref_need l)
  obtain ⟨N, hN⟩ : ∃ N : Int, N = needV l := ⟨_, rfl⟩
  rw [← hN] at HNe
  have HNN := Lib.hid hN
  have hge : ¬ m ≤ k := by omega
  obtain ⟨S, hS⟩ : ∃ S : ByteArray, S = ⟨T.toArray⟩ := ⟨_, rfl⟩
  rw [← hS] at hc
  have HS := Lib.hid hS
  clear hS hv
  have hkm : (k : Int) < (m : Int) := by omega
  have hne : ¬ (k : Int) = (m : Int) := by omega
  have HTl : Hid (T.length ≤ 100000) := Lib.hid (by omega)
  subst hq
  clear hT hm hk hN
  unfold headV at HBg
  go_enter Try.func51, Try.ntmps51
  go_wp2_with (refine wpList_conv (o := ⟨some 24, _, _, _, _, _⟩) rfl (.tmp 23) rfl S T HS.out HTl.out rfl ?_; (try simp only [Act.put, List.setIfInBounds_toArray, List.set_cons_zero, List.set_cons_succ]); refine Stop.out ?_)
  unfold Stop
  rintro v w1 ⟨c1, rfl, hc1, hm1, hr1, hs1, hb1⟩
  have HT1 := Lib.hid (mid_txt hr1)
  have HB1 := Lib.hid hb1
  clear hc hr1 hs1 hb1 hge hne hkm HTl
  generalize T.length = n at HBg hc1 ⊢
  go_wp2_with (go_at_call 75; refine (HBg.out _ _ _ HT1.out hc1).mono ?_; rintro e w2 ⟨rfl, hb2⟩; have HB2 := Lib.hid (below_then HB1.out hb2); clear hb2; refine Stop.out ?_)
  unfold Stop
  go_wp2_with (go_at_call 42; refine (HNe.out _).mono ?_; rintro e w3 ⟨rfl, rfl⟩; refine Stop.out ?_)
  unfold Stop
  go_wp2
  go_ret2
  refine ⟨rfl, ?_⟩
  exact below_then HB2.out (below_alloc _ _)
set_option maxHeartbeats 2000000 in
theorem ref_batch_2 (w : World) (g c m k : Nat) (seq s l u : Int) (q : Bool) (T : Text) (hk : k < m) (hm : m ≤ 1000) (hT : T.length = 64) (hc : w.cell? ⟨g, k, none⟩ = some (.string ⟨T.toArray⟩)) (hv : beginV T = .tuple #[headV s l u, .bool q]) (hq : q = true) (hs : s ≠ seq) : Calls Try.prog 51 #[.slice (some ⟨g, 0, none⟩) m c, .int .i64 k, .int .i64 seq] w fun e w' => e = .returned (.tuple #[.slice none 0 0, .int .i64 0]) ∧ Below w.heap.size w w' := by
  have HBg : Hid (∀ A cc W, Txt W A T → T.length ≤ cc → Calls Try.prog 75 #[.slice A T.length cc] W fun e w' => e = .returned (.tuple #[headV s l u, .bool q]) ∧ Below W.heap.size W w') := Lib.hid fun A cc W h1 h2 => by
    have := ref_begin T A cc W h1 h2
    rwa [hv] at this
  have HNe := Lib.hid (ref_need l)
  obtain ⟨N, hN⟩ : ∃ N : Int, N = needV l := ⟨_, rfl⟩
  rw [← hN] at HNe
  have HNN := Lib.hid hN
  have hge : ¬ m ≤ k := by omega
  obtain ⟨S, hS⟩ : ∃ S : ByteArray, S = ⟨T.toArray⟩ := ⟨_, rfl⟩
  rw [← hS] at hc
  have HS := Lib.hid hS
  clear hS hv
  have hkm : (k : Int) < (m : Int) := by omega
  have hne : ¬ (k : Int) = (m : Int) := by omega
  have HTl : Hid (T.length ≤ 100000) := Lib.hid (by omega)
  subst hq
  have HQ := Lib.hid hs
  clear hs
  clear hT hm hk hN
  unfold headV at HBg
  go_enter Try.func51, Try.ntmps51
  go_wp2_with (refine wpList_conv (o := ⟨some 24, _, _, _, _, _⟩) rfl (.tmp 23) rfl S T HS.out HTl.out rfl ?_; (try simp only [Act.put, List.setIfInBounds_toArray, List.set_cons_zero, List.set_cons_succ]); refine Stop.out ?_)
  unfold Stop
  rintro v w1 ⟨c1, rfl, hc1, hm1, hr1, hs1, hb1⟩
  have HT1 := Lib.hid (mid_txt hr1)
  have HB1 := Lib.hid hb1
  clear hc hr1 hs1 hb1 hge hne hkm HTl
  generalize T.length = n at HBg hc1 ⊢
  go_wp2_with (go_at_call 75; refine (HBg.out _ _ _ HT1.out hc1).mono ?_; rintro e w2 ⟨rfl, hb2⟩; have HB2 := Lib.hid (below_then HB1.out hb2); clear hb2; refine Stop.out ?_)
  unfold Stop
  go_wp2_with (go_at_call 42; refine (HNe.out _).mono ?_; rintro e w3 ⟨rfl, rfl⟩; refine Stop.out ?_)
  unfold Stop
  have hs := HQ.out
  go_wp2
  go_ret2
  refine ⟨rfl, ?_⟩
  exact below_then HB2.out (below_alloc _ _)
set_option maxHeartbeats 2000000 in
theorem ref_batch_3 (w : World) (g c m k : Nat) (seq s l u : Int) (q : Bool) (T : Text) (hk : k < m) (hm : m ≤ 1000) (hT : T.length = 64) (hc : w.cell? ⟨g, k, none⟩ = some (.string ⟨T.toArray⟩)) (hv : beginV T = .tuple #[headV s l u, .bool q]) (hq : q = true) (hs : s = seq) (hb : (m : Int) - k < needV l) : Calls Try.prog 51 #[.slice (some ⟨g, 0, none⟩) m c, .int .i64 k, .int .i64 seq] w fun e w' => e = .returned (.tuple #[.slice none 0 0, .int .i64 0]) ∧ Below w.heap.size w w' := by
  have HBg : Hid (∀ A cc W, Txt W A T → T.length ≤ cc → Calls Try.prog 75 #[.slice A T.length cc] W fun e w' => e = .returned (.tuple #[headV s l u, .bool q]) ∧ Below W.heap.size W w') := Lib.hid fun A cc W h1 h2 => by
    have := ref_begin T A cc W h1 h2
    rwa [hv] at this
  have HNe := Lib.hid (ref_need l)
  obtain ⟨N, hN⟩ : ∃ N : Int, N = needV l := ⟨_, rfl⟩
  rw [← hN] at HNe
  have HNN := Lib.hid hN
  have hge : ¬ m ≤ k := by omega
  obtain ⟨S, hS⟩ : ∃ S : ByteArray, S = ⟨T.toArray⟩ := ⟨_, rfl⟩
  rw [← hS] at hc
  have HS := Lib.hid hS
  clear hS hv
  have hkm : (k : Int) < (m : Int) := by omega
  have hne : ¬ (k : Int) = (m : Int) := by omega
  have HTl : Hid (T.length ≤ 100000) := Lib.hid (by omega)
  subst hq
  subst hs
  have HQ : Hid ((m : Int) - k < N ∧ wrap64 ((m : Int) - k) = (m : Int) - k) := Lib.hid ⟨by rw [hN]; exact hb, by unfold wrap64; omega⟩
  clear hb
  clear hT hm hk hN
  unfold headV at HBg
  go_enter Try.func51, Try.ntmps51
  go_wp2_with (refine wpList_conv (o := ⟨some 24, _, _, _, _, _⟩) rfl (.tmp 23) rfl S T HS.out HTl.out rfl ?_; (try simp only [Act.put, List.setIfInBounds_toArray, List.set_cons_zero, List.set_cons_succ]); refine Stop.out ?_)
  unfold Stop
  rintro v w1 ⟨c1, rfl, hc1, hm1, hr1, hs1, hb1⟩
  have HT1 := Lib.hid (mid_txt hr1)
  have HB1 := Lib.hid hb1
  clear hc hr1 hs1 hb1 hge hne hkm HTl
  generalize T.length = n at HBg hc1 ⊢
  go_wp2_with (go_at_call 75; refine (HBg.out _ _ _ HT1.out hc1).mono ?_; rintro e w2 ⟨rfl, hb2⟩; have HB2 := Lib.hid (below_then HB1.out hb2); clear hb2; refine Stop.out ?_)
  unfold Stop
  go_wp2_with (go_at_call 42; refine (HNe.out _).mono ?_; rintro e w3 ⟨rfl, rfl⟩; refine Stop.out ?_)
  unfold Stop
  obtain ⟨hs1, hs2⟩ := HQ.out
  go_wp2
  go_ret2
  refine ⟨rfl, ?_⟩
  exact below_then HB2.out (below_alloc _ _)
end Go.Proofs.Ytfjejiapafdgeaa

namespace Go.Proofs.Ytfjejiapafdgeaa
open Go.RowKit
set_option maxRecDepth 100000
set_option linter.unusedSimpArgs false
set_option linter.unusedVariables false

/-- how far a count is from the end of all that can be -/
def leftOf (i : Value) : Nat := 4000 - (intOf i).toNat

theorem leftOf_next (r : Nat) (h : r < 4000) : leftOf (.int .i64 (wrap64 ((r : Int) + 1))) < leftOf (.int .i64 (r : Int)) := by
  have h3 : wrap64 ((r : Int) + 1) = (r : Int) + 1 := by unfold wrap64; omega
  rw [h3]
  show 4000 - ((r : Int) + 1).toNat < 4000 - ((r : Int)).toNat
  omega

def selT (q : Bool) (X : Text) : Text := if q = true then X else []
def selN (q : Bool) (n : Nat) : Int := if q = true then (n : Int) else 0
/-- what the document's batch tells -/
def BatchR (w : World) (q : Bool) (X : Text) (n : Nat) (e : Ending) (w' : World) : Prop := ∃ B c, e = .returned (.tuple #[.slice B (selT q X).length c, .int .i64 (selN q n)]) ∧ Txt w' B (selT q X) ∧ Fresh0 w B c (selT q X) ∧ Below w.heap.size w w'
theorem batchR_no {w : World} {q : Bool} {X : Text} {n : Nat} (hq : q = false) : ∀ e w', (e = .returned (.tuple #[.slice none 0 0, .int .i64 0]) ∧ Below w.heap.size w w') → BatchR w q X n e w' := by
  subst hq
  rintro e w' ⟨rfl, hb⟩
  exact ⟨none, 0, rfl, txt_nil2 _ _, .inl ⟨rfl, rfl⟩, hb⟩
theorem batchR_yes {w w' : World} {X : Text} {n c : Nat} {B : Option Addr} (h1 : Txt w' B X) (h2 : Fresh0 w B c X) (h3 : Below w.heap.size w w') : BatchR w true X n (.returned (.tuple #[.slice B X.length c, .int .i64 (n : Int)])) w' :=
  ⟨B, c, rfl, h1, h2, h3⟩
set_option maxHeartbeats 4000000 in
theorem ref_batch_4 (w : World) (g c m k n : Nat) (s l u : Int) (D : Nat → Text) (hk : k < m) (hm : m ≤ 1000) (h64 : ∀ j, j < m → (D j).length = 64) (hc : ∀ j, j < m → w.cell? ⟨g, j, none⟩ = some (.string ⟨(D j).toArray⟩)) (hv : beginV (D k) = .tuple #[headV s l u, .bool true]) (hn : needV l = n) (hn3 : 3 ≤ n) (hkn : k + n ≤ m) (hu : 0 ≤ u ∧ u < 4294967296) : Calls Try.prog 51 #[.slice (some ⟨g, 0, none⟩) m c, .int .i64 k, .int .i64 s] w (BatchR w (joinQ (someT D (k + 1) (n - 2)) s l u && endOk (D (k + n - 1)) s u) (joinX (someT D (k + 1) (n - 2)) s l u) n) := by
  obtain ⟨kk, hkk⟩ : ∃ kk : Nat, kk = k + n - 1 := ⟨_, rfl⟩
  rw [← hkk]
  obtain ⟨X, hX⟩ : ∃ X, X = joinX (someT D (k + 1) (n - 2)) s l u := ⟨_, rfl⟩
  obtain ⟨qj, hqj⟩ : ∃ qj, qj = joinQ (someT D (k + 1) (n - 2)) s l u := ⟨_, rfl⟩
  obtain ⟨qe, hqe⟩ : ∃ qe, qe = endOk (D kk) s u := ⟨_, rfl⟩
  rw [← hX, ← hqj, ← hqe]
  have HJQ := Lib.hid (And.intro hX (And.intro hqj (And.intro hqe hkk)))
  clear hX hqj hqe hkk
  have HBg : Hid (∀ A cc W, Txt W A (D k) → (D k).length ≤ cc → Calls Try.prog 75 #[.slice A (D k).length cc] W fun e w' => e = .returned (.tuple #[headV s l u, .bool true]) ∧ Below W.heap.size W w') := Lib.hid fun A cc W h1 h2 => by
    have := ref_begin (D k) A cc W h1 h2
    rwa [hv] at this
  have HNe := Lib.hid (ref_need l)
  rw [hn] at HNe
  have hge : ¬ m ≤ k := by omega
  have HC := Lib.hid hc
  have hck := hc k hk
  obtain ⟨S, hS⟩ : ∃ S : ByteArray, S = ⟨(D k).toArray⟩ := ⟨_, rfl⟩
  rw [← hS] at hck
  have HS := Lib.hid hS
  have hkm : (k : Int) < (m : Int) := by omega
  have hne : ¬ (k : Int) = (m : Int) := by omega
  have HTl : Hid ((D k).length ≤ 100000) := Lib.hid (by rw [h64 k hk]; decide)
  have H64 := Lib.hid h64
  have HQ : Hid (¬ (m : Int) - k < (n : Int) ∧ wrap64 ((m : Int) - k) = (m : Int) - k ∧ wrap64 ((k : Int) + 1) = (k : Int) + 1) := Lib.hid ⟨by omega, by unfold wrap64; omega, by unfold wrap64; omega⟩
  have HL := Lib.hid (And.intro hk (And.intro hm (And.intro hn3 hkn)))
  have HGs : Hid (g < w.heap.size) := Lib.hid (block_lt_of_cell hck)
  have HU := Lib.hid hu
  clear hu
  clear hS hv h64 hm hk hn hn3 hkn hc
  unfold headV at HBg
  go_enter Try.func51, Try.ntmps51
  go_wp2_with (refine wpList_conv (o := ⟨some 24, _, _, _, _, _⟩) rfl (.tmp 23) rfl S (D k) HS.out HTl.out rfl ?_; (try simp only [Act.put, List.setIfInBounds_toArray, List.set_cons_zero, List.set_cons_succ]); refine Stop.out ?_)
  unfold Stop
  rintro v w1 ⟨c1, rfl, hc1, hm1, hr1, hs1, hb1⟩
  have HT1 := Lib.hid (mid_txt hr1)
  have HB1 := Lib.hid hb1
  clear hck hr1 hs1 hb1 hge hne hkm HTl
  generalize (D k).length = nn at HBg hc1 ⊢
  go_wp2_with (go_at_call 75; refine (HBg.out _ _ _ HT1.out hc1).mono ?_; rintro e w2 ⟨rfl, hb2⟩; have HB2 := Lib.hid (below_then HB1.out hb2); clear hb2; refine Stop.out ?_)
  unfold Stop
  go_wp2_with (go_at_call 42; refine (HNe.out _).mono ?_; rintro e w3 ⟨rfl, rfl⟩; refine Stop.out ?_)
  unfold Stop
  clear HBg hc1 hm1 HT1 HB1 HS HNe
  obtain ⟨q1, q2, q3⟩ := HQ.out
  go_upto_region 8 with fail
  clear HQ q1 q2
  have HX3 : Hid ((w2.alloc (headO' s l u)).heap[w2.heap.size]? = some (headO' s l u)) := Lib.hid (heap_alloc_new w2 _)
  have HB3 : Hid (Below w.heap.size w (w2.alloc (headO' s l u))) := Lib.hid (below_then HB2.out (below_alloc _ _))
  unfold headO' at HX3 HB3
  generalize (w2.alloc (.cells #[.int .i64 s, .int .i64 l, .int .u32 u] 112)) = w4 at HX3 HB3 ⊢
  have HO0 : Hid (OwnT w4.heap.size (.slice none 0 0) (someT D (k + 1) 0) w4) := Lib.hid (OwnT.nil _ _)
  have HLT : Hid (w.heap.size ≤ w2.heap.size ∧ w2.heap.size < w4.heap.size ∧ w.heap.size ≤ w4.heap.size) := Lib.hid ⟨HB2.out.size, heapLt HX3.out, HB3.out.size⟩
  clear HB2
  go_wp2
  have HQ3 := Lib.hid q3
  clear q3
  go_loopw [11, 12] (fun v i wr => ∃ p : Nat, k + 1 + p ≤ k + n - 1 ∧ i = .int .i64 ((k + 1 + p : Nat) : Int) ∧ Hid (OwnT w4.heap.size v (someT D (k + 1) p) wr) ∧ Hid (wr.heap[w2.heap.size]? = some (.cells #[.int .i64 s, .int .i64 l, .int .u32 u] 112)) ∧ Hid (Below w.heap.size w wr) ∧ Hid (w4.heap.size ≤ wr.heap.size)) (fun _ i _ => leftOf i)
  case atStart => exact ⟨0, by have := HL.out; omega, congrArg (Value.int .i64) (by rw [HQ3.out]; omega), HO0, HX3, HB3, Lib.hid (Nat.le_refl _)⟩
  case round =>
    obtain ⟨p, hp, rfl, HO, HX, HB, HZ⟩ := hrel
    obtain ⟨r, hr⟩ : ∃ r, r = k + 1 + p := ⟨_, rfl⟩
    rw [← hr]
    have HR := Lib.hid (And.intro hp hr)
    have hrm : r < m := by have := HL.out; omega
    have w1' : wrap64 ((k : Int) + n) = (k : Int) + n := by have := HL.out; unfold wrap64; omega
    have w2' : wrap64 ((k : Int) + n - 1) = (k : Int) + n - 1 := by have := HL.out; unfold wrap64; omega
    have w3' : wrap64 ((r : Int) + 1) = (r : Int) + 1 := by have := HL.out; unfold wrap64; omega
    clear hp hr
    by_cases hlt : (r : Int) < (k : Int) + n - 1
    · have hge : ¬ m ≤ r := by omega
      have hrm' : (r : Int) < (m : Int) := by omega
      obtain ⟨S2, hS2⟩ : ∃ S : ByteArray, S = ⟨(D r).toArray⟩ := ⟨_, rfl⟩
      have hcr := (HB.out.cell (p := ⟨g, r, none⟩) HGs.out).trans (HC.out r hrm)
      rw [← hS2] at hcr
      have HS2 := Lib.hid hS2
      have HTl : Hid ((D r).length ≤ 100000 ∧ 0 < (D r).length) := Lib.hid (by rw [H64.out r hrm]; decide)
      clear hS2
      go_wp2_with (refine wpList_conv (o := ⟨some 62, _, _, _, _, _⟩) rfl (.tmp 61) rfl S2 (D r) HS2.out HTl.out.1 rfl ?_; (try simp only [Act.put, List.setIfInBounds_toArray, List.set_cons_zero, List.set_cons_succ]); refine Stop.out ?_)
      unfold Stop
      rintro v w5 ⟨c5, rfl, hc5, hm5, hr5, hs5, hb5⟩
      have HG5 := Lib.hid (And.intro hc5 hm5)
      have HR5 := Lib.hid (And.intro hr5 hs5)
      have HBX := Lib.hid (below_then hb5 (below_alloc w5 (.cells #[.slice (some ⟨wr.heap.size, 0, none⟩) (D r).length c5] 51)))
      have HO5 := Lib.hid (HO.out.on HBX.out)
      have HNE : Hid (u11.ownBlock ≠ some wr.heap.size) := Lib.hid (fun e => by have := (HO.out.base _ e).2; omega)
      have HSB : Hid (w4.heap.size ≤ (w5.alloc (.cells #[.slice (some ⟨wr.heap.size, 0, none⟩) (D r).length c5] 51)).heap.size) := Lib.hid (by have h1 := HBX.out.size; have h2 := HZ.out; omega)
      have HGL : Hid (wr.heap.size < (w5.alloc (.cells #[.slice (some ⟨wr.heap.size, 0, none⟩) (D r).length c5] 51)).heap.size) := Lib.hid (by have := HR5.out.2; rw [World.size_alloc]; omega)
      have HLen : Hid ((someT D (k + 1) p).length ≤ 100000) := Lib.hid (by rw [someT_len]; have h1 := HL.out; have h2 := HR.out; omega)
      have HB4 := Lib.hid (below_then HB.out HBX.out)
      have HX4 := Lib.hid (heap_on HBX.out HX.out)
      have HE : Hid (someT D (k + 1) p ++ [D r] = someT D (k + 1) (p + 1)) := Lib.hid (by rw [someT_next, HR.out.2])
      clear hc5 hm5 hr5 hs5 hb5 hge hrm' hcr hrm
      go_wp2_with (at_builtin; refine wpList_append_rows (o := ⟨some 64, _, _, _, _, _⟩) rfl (.tmp 57) (.tmp 63) rfl rfl w4.heap.size u11 (someT D (k + 1) p) rfl HO5.out w5.heap.size rfl wr.heap.size c5 _ (D r) _ _ (heap_alloc_new w5 _) rfl HTl.out.2 HG5.out.1 HG5.out.2 (range_on (below_alloc w5 _) HR5.out.1) HGL.out HNE.out HLen.out HSB.out ?_; intro v4 w6 hov hgv hvv; rw [HE.out] at hov; have HO6 := Lib.hid hov; have HG6 := Lib.hid hgv; clear hov hgv hvv; refine Stop.out ?_)
      unfold Stop
      have HB6 : Hid (Below w.heap.size w w6) := Lib.hid (HB4.out.grown HG6.out HB4.out.size (fun j hj => by have h1 := (HO.out.base _ hj).1; have h2 := HLT.out; omega))
      have HX6 : Hid (w6.heap[w2.heap.size]? = some (.cells #[.int .i64 s, .int .i64 l, .int .u32 u] 112)) := Lib.hid ((HG6.out.block _ (heapLt HX4.out) (fun e => by have h1 := (HO.out.base _ e.symm).1; have h2 := HLT.out; omega)).trans HX4.out)
      have HZ6 : Hid (w4.heap.size ≤ w6.heap.size) := Lib.hid (by have h1 := HG6.out.size; have h2 := HSB.out; omega)
      go_wp2
      go_roundw
      case rel => exact ⟨p + 1, by have := HR.out; omega, congrArg (Value.int .i64) (by have := HR.out; omega), HO6, HX6, HB6, HZ6⟩
      case measure => exact leftOf_next r (by have := HL.out; have := HR.out; omega)
    · have HP : Hid (p = n - 2) := Lib.hid (by have h1 := HR.out; have h2 := HL.out; omega)
      have HTR : Hid (∃ g6 c6, u11 = .slice (some ⟨g6, 0, none⟩) (someT D (k + 1) p).length c6 ∧ TextRows wr (some ⟨g6, 0, none⟩) (someT D (k + 1) p)) := Lib.hid (by
        obtain ⟨g6, c6, e, _⟩ := HO.out.form (by rw [someT_len, HP.out]; have := HL.out; omega)
        exact ⟨g6, c6, e, HO.out.rows e⟩)
      obtain ⟨g6, c6, rfl, hrow⟩ := HTR.out
      have HJ := Lib.hid (ref_join (someT D (k + 1) p) (some ⟨g6, 0, none⟩) c6 s l u wr HU.out hrow)
      rw [show joinQ (someT D (k + 1) p) s l u = qj by rw [HP.out, HJQ.out.2.1], show joinX (someT D (k + 1) p) s l u = X by rw [HP.out, HJQ.out.1]] at HJ
      obtain ⟨y0, y1, y2⟩ := head_cells' HX.out
      unfold headV at HJ
      have HC0 := Lib.hid HC.out
      clear HTR hrow HO
      have HJ2 := Lib.hid HJ.out
      generalize (someT D (k + 1) p).length = nl at HJ ⊢
      clear HJ2
      go_wp2_with (go_at_call 76; refine HJ.out.mono ?_; rintro e w7 ⟨B7, c7, rfl, ht7, hn7, hb7⟩; refine Stop.out ?_)
      unfold Stop
      have HBR := Lib.hid HB.out
      have HB7 := Lib.hid (below_then HB.out hb7)
      have HX7 : Hid (w7.heap[w2.heap.size]? = some (.cells #[.int .i64 s, .int .i64 l, .int .u32 u] 112)) := Lib.hid (heap_on hb7 HX.out)
      have HT7 := Lib.hid (And.intro ht7 hn7)
      have hkk : kk = k + n - 1 := HJQ.out.2.2.2
      have hkk' : (kk : Int) = (k : Int) + n - 1 := by have := HL.out; omega
      have w2'' : wrap64 ((k : Int) + n - 1) = (kk : Int) := w2'.trans hkk'.symm
      clear w2' hkk'
      have hkm : kk < m := by have := HL.out; omega
      have hge2 : ¬ m ≤ kk := by omega
      have hkm' : (kk : Int) < (m : Int) := by omega
      obtain ⟨S3, hS3⟩ : ∃ S : ByteArray, S = ⟨(D kk).toArray⟩ := ⟨_, rfl⟩
      have hck3 := (HB7.out.cell (p := ⟨g, kk, none⟩) HGs.out).trans (HC0.out kk hkm)
      rw [← hS3] at hck3
      have HS3 := Lib.hid hS3
      have HTl3 : Hid ((D kk).length ≤ 100000) := Lib.hid (by rw [H64.out kk hkm]; decide)
      have HE0 : Hid (∀ A cc W, Txt W A (D kk) → (A = none → D kk = []) → Calls Try.prog 77 #[.slice A (D kk).length cc, .agg #[.int .i64 s, .int .i64 l, .int .u32 u]] W fun e w' => e = .returned (.bool (endOk (D kk) s u)) ∧ Below W.heap.size W w') := Lib.hid (fun A cc W h1 h2 => ref_end (D kk) A cc s l u W h1 h2 HU.out)
      have HE := HE0
      rw [← HJQ.out.2.2.1] at HE
      clear HE0
      clear hkk hS3 ht7 hn7 hb7 y0 y1 y2 HJ HX HB HZ HQ3 HP HR hlt hrm w3'
      have HBd : Hid (Below w.heap.size w w7.drew) := Lib.hid HB7.out.drew
      cases qj
      · go_wp2
        refine wp_region_held_drew (S := fun _ => True) (by kernel_rfl) trivial ?_
        intro hHeld
        generalize w7.drew = wd at HBd hHeld ⊢
        (refine takeH (i := 0) (v := ?_) rfl (by kernel_rfl) (by kernel_rfl) (by kernel_rfl) (fun _ _ _ h => h) (Or.inl ⟨by rfl, ?_⟩) (by assumption) ?_; rotate_left; (focus ((intro wS hSw); (try dsimp only at hSw); skip; go_simp; (try with_reducible rfl); done)); (try simp only [Act.put, List.setIfInBounds_toArray, List.set_cons_zero, List.set_cons_succ]))
        (refine takeH (i := 1) (v := ?_) rfl (by kernel_rfl) (by kernel_rfl) (by kernel_rfl) (fun _ _ _ h => h) (Or.inl ⟨by rfl, ?_⟩) (by assumption) ?_; rotate_left; (focus ((intro wS hSw); (try dsimp only at hSw); skip; go_simp; (try with_reducible rfl); done)); (try simp only [Act.put, List.setIfInBounds_toArray, List.set_cons_zero, List.set_cons_succ]))
        (refine takeH (i := 2) (v := ?_) rfl (by kernel_rfl) (by kernel_rfl) (by kernel_rfl) (fun _ _ _ h => h) (Or.inl ⟨by rfl, ?_⟩) (by assumption) ?_; rotate_left; (focus ((intro wS hSw); (try dsimp only at hSw); skip; go_simp; (try with_reducible rfl); done)); (try simp only [Act.put, List.setIfInBounds_toArray, List.set_cons_zero, List.set_cons_succ]))
        (refine takeH (i := 3) (v := undef) rfl (by kernel_rfl) (by kernel_rfl) (by kernel_rfl) (fun _ _ _ h => h) (Or.inr ⟨by rfl, rfl⟩) (by assumption) ?_; (try simp only [Act.put, List.setIfInBounds_toArray, List.set_cons_zero, List.set_cons_succ]))
        (refine takeH (i := 4) (v := undef) rfl (by kernel_rfl) (by kernel_rfl) (by kernel_rfl) (fun _ _ _ h => h) (Or.inr ⟨by rfl, rfl⟩) (by assumption) ?_; (try simp only [Act.put, List.setIfInBounds_toArray, List.set_cons_zero, List.set_cons_succ]))
        (refine takeH (i := 5) (v := undef) rfl (by kernel_rfl) (by kernel_rfl) (by kernel_rfl) (fun _ _ _ h => h) (Or.inr ⟨by rfl, rfl⟩) (by assumption) ?_; (try simp only [Act.put, List.setIfInBounds_toArray, List.set_cons_zero, List.set_cons_succ]))
        (refine takeH (i := 6) (v := undef) rfl (by kernel_rfl) (by kernel_rfl) (by kernel_rfl) (fun _ _ _ h => h) (Or.inr ⟨by rfl, rfl⟩) (by assumption) ?_; (try simp only [Act.put, List.setIfInBounds_toArray, List.set_cons_zero, List.set_cons_succ]))
        (refine takeH (i := 7) (v := undef) rfl (by kernel_rfl) (by kernel_rfl) (by kernel_rfl) (fun _ _ _ h => h) (Or.inr ⟨by rfl, rfl⟩) (by assumption) ?_; (try simp only [Act.put, List.setIfInBounds_toArray, List.set_cons_zero, List.set_cons_succ]))
        (refine takeH (i := 8) (v := undef) rfl (by kernel_rfl) (by kernel_rfl) (by kernel_rfl) (fun _ _ _ h => h) (Or.inr ⟨by rfl, rfl⟩) (by assumption) ?_; (try simp only [Act.put, List.setIfInBounds_toArray, List.set_cons_zero, List.set_cons_succ]))
        (refine takeH (i := 9) (v := undef) rfl (by kernel_rfl) (by kernel_rfl) (by kernel_rfl) (fun _ _ _ h => h) (Or.inr ⟨by rfl, rfl⟩) (by assumption) ?_; (try simp only [Act.put, List.setIfInBounds_toArray, List.set_cons_zero, List.set_cons_succ]))
        (refine takeH (i := 10) (v := undef) rfl (by kernel_rfl) (by kernel_rfl) (by kernel_rfl) (fun _ _ _ h => h) (Or.inr ⟨by rfl, rfl⟩) (by assumption) ?_; (try simp only [Act.put, List.setIfInBounds_toArray, List.set_cons_zero, List.set_cons_succ]))
        (refine takeH (i := 11) (v := undef) rfl (by kernel_rfl) (by kernel_rfl) (by kernel_rfl) (fun _ _ _ h => h) (Or.inr ⟨by rfl, rfl⟩) (by assumption) ?_; (try simp only [Act.put, List.setIfInBounds_toArray, List.set_cons_zero, List.set_cons_succ]))
        (refine takeH (i := 12) (v := undef) rfl (by kernel_rfl) (by kernel_rfl) (by kernel_rfl) (fun _ _ _ h => h) (Or.inr ⟨by rfl, rfl⟩) (by assumption) ?_; (try simp only [Act.put, List.setIfInBounds_toArray, List.set_cons_zero, List.set_cons_succ]))
        (refine takeH (i := 13) (v := undef) rfl (by kernel_rfl) (by kernel_rfl) (by kernel_rfl) (fun _ _ _ h => h) (Or.inr ⟨by rfl, rfl⟩) (by assumption) ?_; (try simp only [Act.put, List.setIfInBounds_toArray, List.set_cons_zero, List.set_cons_succ]))
        (refine takeH (i := 14) (v := ?_) rfl (by kernel_rfl) (by kernel_rfl) (by kernel_rfl) (fun _ _ _ h => h) (Or.inl ⟨by rfl, ?_⟩) (by assumption) ?_; rotate_left; (focus ((intro wS hSw); (try dsimp only at hSw); skip; go_simp; (try with_reducible rfl); done)); (try simp only [Act.put, List.setIfInBounds_toArray, List.set_cons_zero, List.set_cons_succ]))
        refine wpAnyH_done (by kernel_rfl) ?_ _
        clear hHeld
        go_wp2
        go_ret2
        refine batchR_no rfl _ _ ⟨rfl, HBd.out⟩
      · go_wp2
        have k0 := (cell_of_row w7 w2.heap.size 0 _ _ _ HX7.out).trans rfl
        have k1 := (cell_of_row w7 w2.heap.size 1 _ _ _ HX7.out).trans rfl
        have k2 := (cell_of_row w7 w2.heap.size 2 _ _ _ HX7.out).trans rfl
        have HS0 : Hid ((fun V : World => V.cell? ⟨w2.heap.size, 0, none⟩ = some (.int .i64 s) ∧ V.cell? ⟨w2.heap.size, 1, none⟩ = some (.int .i64 l) ∧ V.cell? ⟨w2.heap.size, 2, none⟩ = some (.int .u32 u) ∧ V.cell? ⟨g, kk, none⟩ = some (.string S3)) w7.drew) := Lib.hid ⟨cell_on (Below.refl _ _).drew k0, cell_on (Below.refl _ _).drew k1, cell_on (Below.refl _ _).drew k2, cell_on (Below.refl _ _).drew hck3⟩
        clear k0 k1 k2 hck3
        have HT7d : Hid (Txt w7.drew B7 X) := Lib.hid (HT7.out.1.below (Below.refl _ _).drew)
        have v1 : IntKind.i64.wrap ((k : Int) + n) = (k : Int) + n := (IntWalk.i64_left _).trans w1'
        have v2 : IntKind.i64.wrap ((k : Int) + n - 1) = (kk : Int) := (IntWalk.i64_left _).trans w2''
        clear w1' w2''
        refine wp_region_held_drew (S := fun V : World => V.cell? ⟨w2.heap.size, 0, none⟩ = some (.int .i64 s) ∧ V.cell? ⟨w2.heap.size, 1, none⟩ = some (.int .i64 l) ∧ V.cell? ⟨w2.heap.size, 2, none⟩ = some (.int .u32 u) ∧ V.cell? ⟨g, kk, none⟩ = some (.string S3)) (by kernel_rfl) HS0.out ?_
        intro hHeld
        clear HS0
        generalize w7.drew = wd at HBd hHeld HT7d ⊢
        (refine takeH (i := 0) (v := ?_) rfl (by kernel_rfl) (by kernel_rfl) (by kernel_rfl) (fun _ _ _ h => h) (Or.inl ⟨by rfl, ?_⟩) (by assumption) ?_; rotate_left; (focus ((intro wS hSw); (try dsimp only at hSw); obtain ⟨s0, s1, s2, s3⟩ := hSw; go_simp; (try with_reducible rfl); done)); (try simp only [Act.put, List.setIfInBounds_toArray, List.set_cons_zero, List.set_cons_succ]))
        (refine takeH (i := 1) (v := ?_) rfl (by kernel_rfl) (by kernel_rfl) (by kernel_rfl) (fun _ _ _ h => h) (Or.inl ⟨by rfl, ?_⟩) (by assumption) ?_; rotate_left; (focus ((intro wS hSw); (try dsimp only at hSw); obtain ⟨s0, s1, s2, s3⟩ := hSw; go_simp; (try with_reducible rfl); done)); (try simp only [Act.put, List.setIfInBounds_toArray, List.set_cons_zero, List.set_cons_succ]))
        (refine takeH (i := 2) (v := ?_) rfl (by kernel_rfl) (by kernel_rfl) (by kernel_rfl) (fun _ _ _ h => h) (Or.inl ⟨by rfl, ?_⟩) (by assumption) ?_; rotate_left; (focus ((intro wS hSw); (try dsimp only at hSw); obtain ⟨s0, s1, s2, s3⟩ := hSw; go_simp; (try with_reducible rfl); done)); (try simp only [Act.put, List.setIfInBounds_toArray, List.set_cons_zero, List.set_cons_succ]))
        (refine takeH (i := 3) (v := ?_) rfl (by kernel_rfl) (by kernel_rfl) (by kernel_rfl) (fun _ _ _ h => h) (Or.inl ⟨by rfl, ?_⟩) (by assumption) ?_; rotate_left; (focus ((intro wS hSw); (try dsimp only at hSw); obtain ⟨s0, s1, s2, s3⟩ := hSw; go_simp; (try with_reducible rfl); done)); (try simp only [Act.put, List.setIfInBounds_toArray, List.set_cons_zero, List.set_cons_succ]))
        (refine takeH (i := 4) (v := ?_) rfl (by kernel_rfl) (by kernel_rfl) (by kernel_rfl) (fun _ _ _ h => h) (Or.inl ⟨by rfl, ?_⟩) (by assumption) ?_; rotate_left; (focus ((intro wS hSw); (try dsimp only at hSw); obtain ⟨s0, s1, s2, s3⟩ := hSw; go_simp; (try with_reducible rfl); done)); (try simp only [Act.put, List.setIfInBounds_toArray, List.set_cons_zero, List.set_cons_succ]))
        (refine takeH (i := 5) (v := ?_) rfl (by kernel_rfl) (by kernel_rfl) (by kernel_rfl) (fun _ _ _ h => h) (Or.inl ⟨by rfl, ?_⟩) (by assumption) ?_; rotate_left; (focus ((intro wS hSw); (try dsimp only at hSw); obtain ⟨s0, s1, s2, s3⟩ := hSw; go_simp; (try with_reducible rfl); done)); (try simp only [Act.put, List.setIfInBounds_toArray, List.set_cons_zero, List.set_cons_succ]))
        (refine takeH (i := 6) (v := ?_) rfl (by kernel_rfl) (by kernel_rfl) (by kernel_rfl) (fun _ _ _ h => h) (Or.inl ⟨by rfl, ?_⟩) (by assumption) ?_; rotate_left; (focus ((intro wS hSw); (try dsimp only at hSw); obtain ⟨s0, s1, s2, s3⟩ := hSw; go_simp; (try with_reducible rfl); done)); (try simp only [Act.put, List.setIfInBounds_toArray, List.set_cons_zero, List.set_cons_succ]))
        (refine takeH (i := 7) (v := ?_) rfl (by kernel_rfl) (by kernel_rfl) (by kernel_rfl) (fun _ _ _ h => h) (Or.inl ⟨by rfl, ?_⟩) (by assumption) ?_; rotate_left; (focus ((intro wS hSw); (try dsimp only at hSw); obtain ⟨s0, s1, s2, s3⟩ := hSw; go_simp; (try with_reducible rfl); done)); (try simp only [Act.put, List.setIfInBounds_toArray, List.set_cons_zero, List.set_cons_succ]))
        (refine takeH (i := 8) (v := ?_) rfl (by kernel_rfl) (by kernel_rfl) (by kernel_rfl) (fun _ _ _ h => h) (Or.inl ⟨by rfl, ?_⟩) (by assumption) ?_; rotate_left; (focus ((intro wS hSw); (try dsimp only at hSw); obtain ⟨s0, s1, s2, s3⟩ := hSw; go_simp; (try with_reducible rfl); done)); (try simp only [Act.put, List.setIfInBounds_toArray, List.set_cons_zero, List.set_cons_succ]))
        (refine takeH (i := 9) (v := ?_) rfl (by kernel_rfl) (by kernel_rfl) (by kernel_rfl) (fun _ _ _ h => h) (Or.inl ⟨by rfl, ?_⟩) (by assumption) ?_; rotate_left; (focus ((intro wS hSw); (try dsimp only at hSw); obtain ⟨s0, s1, s2, s3⟩ := hSw; go_simp; (try with_reducible rfl); done)); (try simp only [Act.put, List.setIfInBounds_toArray, List.set_cons_zero, List.set_cons_succ]))
        (refine takeH (i := 11) (v := ?_) rfl (by kernel_rfl) (by kernel_rfl) (by kernel_rfl) (fun _ _ _ h => h) (Or.inl ⟨by rfl, ?_⟩) (by assumption) ?_; rotate_left; (focus ((intro wS hSw); (try dsimp only at hSw); obtain ⟨s0, s1, s2, s3⟩ := hSw; go_simp; (try with_reducible rfl); done)); (try simp only [Act.put, List.setIfInBounds_toArray, List.set_cons_zero, List.set_cons_succ]))
        refine aloneH (i := 10) rfl (by kernel_rfl) (fun K hK => ?_)
        rw [if_pos (by rfl)]
        refine wp_conv (.tmp 80) rfl S3 (D kk) HS3.out HTl3.out rfl ?_
        rintro v w1 ⟨c9, rfl, hc9, hm9, hr9, hs9, hb9⟩
        have HB1 := Lib.hid hb9
        have HT9 := Lib.hid (mid_txt hr9)
        clear hc9 hm9 hr9 hs9 hb9
        refine hK.out _ _ (⟨cell_on HB1.out hHeld.1, cell_on HB1.out hHeld.2.1, cell_on HB1.out hHeld.2.2.1, cell_on HB1.out hHeld.2.2.2⟩) (fun hNew => ?_)
        clear hK K hHeld; (have hHeld := hNew); clear hNew; (try simp only [Act.put, List.setIfInBounds_toArray, List.set_cons_zero, List.set_cons_succ])
        refine aloneH (i := 12) rfl (by kernel_rfl) (fun K hK => ?_)
        rw [if_pos (by rfl)]
        go_simp; ((refine (HE.out _ _ _ HT9.out (fun e => by cases e)).mono ?_); (rintro e w2 ⟨rfl, hb⟩); have HB2 := Lib.hid hb; clear hb; (try go_simp))
        refine hK.out _ _ (⟨cell_on HB2.out hHeld.1, cell_on HB2.out hHeld.2.1, cell_on HB2.out hHeld.2.2.1, cell_on HB2.out hHeld.2.2.2⟩) (fun hNew => ?_)
        clear hK K hHeld; (have hHeld := hNew); clear hNew; (try simp only [Act.put, List.setIfInBounds_toArray, List.set_cons_zero, List.set_cons_succ])
        (refine takeH (i := 13) (v := ?_) rfl (by kernel_rfl) (by kernel_rfl) (by kernel_rfl) (fun _ _ _ h => h) (Or.inl ⟨by rfl, ?_⟩) (by assumption) ?_; rotate_left; (focus ((intro wS hSw); (try dsimp only at hSw); obtain ⟨s0, s1, s2, s3⟩ := hSw; go_simp; (try with_reducible rfl); done)); (try simp only [Act.put, List.setIfInBounds_toArray, List.set_cons_zero, List.set_cons_succ]))
        (refine takeH (i := 14) (v := ?_) rfl (by kernel_rfl) (by kernel_rfl) (by kernel_rfl) (fun _ _ _ h => h) (Or.inl ⟨by rfl, ?_⟩) (by assumption) ?_; rotate_left; (focus ((intro wS hSw); (try dsimp only at hSw); obtain ⟨s0, s1, s2, s3⟩ := hSw; go_simp; (try with_reducible rfl); done)); (try simp only [Act.put, List.setIfInBounds_toArray, List.set_cons_zero, List.set_cons_succ]))
        refine wpAnyH_done (by kernel_rfl) ?_ _
        have HF7 : Hid (Fresh0 w B7 c7 X) := Lib.hid (HT7.out.2.mono HBR.out.size)
        have HB9 : Hid (Below w.heap.size w w2) := Lib.hid (HBd.out.trans ((below_then HB1.out HB2.out).mono HBd.out.size))
        have HT8 : Hid (Txt w2 B7 X) := Lib.hid (HT7d.out.below (below_then HB1.out HB2.out))
        clear hHeld
        cases qe
        · go_wp2
          go_ret2
          refine batchR_no rfl _ _ ⟨rfl, HB9.out⟩
        · go_wp2
          go_ret2
          exact batchR_yes HT8.out HF7.out HB9.out
end Go.Proofs.Ytfjejiapafdgeaa
