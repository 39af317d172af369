/- The document's batch, whatever stands there. -/
import Derived.Test.YtfjejiapafdgeaaJ38
import Derived.Test.YtfjejiapafdgeaaJ25
namespace Go.Proofs.Ytfjejiapafdgeaa
open Go.RowKit
set_option maxRecDepth 100000
set_option linter.unusedSimpArgs false
set_option linter.unusedVariables false

theorem ref_batch (w : World) (g c m k : Nat) (seq : Int) (D : Nat → Text) (hk : k ≤ m) (hm : m ≤ 1000) (h64 : ∀ j, j < m → (D j).length = 64) (hc : ∀ j, j < m → w.cell? ⟨g, j, none⟩ = some (.string ⟨(D j).toArray⟩)) :
    Calls Try.prog 51 #[.slice (some ⟨g, 0, none⟩) m c, .int .i64 k, .int .i64 seq] w (BatchR w (batchQ D m k seq) (batchT D k) (needT (D k))) := by
  by_cases hkm : k < m
  · obtain ⟨s, l, u, q, hv, hqI, hqs⟩ := begin_is (D k)
    cases q with
    | false =>
      refine (ref_batch_1 w g c m k seq s l u false (D k) hkm hm (h64 k hkm) (hc k hkm) hv rfl).mono (batchR_no ?_)
      unfold batchQ
      rw [← hqI]
      simp
    | true =>
      obtain ⟨rfl, rfl, rfl⟩ := hqs rfl
      by_cases hs : seqB (D k) = seq
      · have hbig := need_big hqI.symm
        have hn := need_is hqI.symm
        by_cases hkn : k + needT (D k) ≤ m
        · subst hs
          have h := ref_batch_4 w g c m k (needT (D k)) (seqB (D k)) (lenB (D k)) (sumB (D k)) D hkm hm h64 hc hv hn hbig hkn (sum_32 _)
          have e : batchQ D m k (seqB (D k)) = (joinQ (someT D (k + 1) (needT (D k) - 2)) (seqB (D k)) (lenB (D k)) (sumB (D k)) && endOk (D (k + needT (D k) - 1)) (seqB (D k)) (sumB (D k))) := by
            unfold batchQ
            rw [decide_eq_true hkm, ← hqI, decide_eq_true rfl, decide_eq_true hkn, Bool.and_comm (joinQ _ _ _ _)]
            rfl
          rw [← e] at h
          cases hb : batchQ D m k (seqB (D k)) with
          | false => rw [hb] at h; exact h
          | true =>
            rw [hb] at e h
            have e2 := e.symm
            rw [Bool.and_eq_true] at e2
            have e3 := (joinX_is e2.1).1
            rw [Int.toNat_natCast] at e3
            have e4 : joinX (someT D (k + 1) (needT (D k) - 2)) (seqB (D k)) (lenB (D k)) (sumB (D k)) = batchT D k := e3
            rwa [e4] at h
        · refine (ref_batch_3 w g c m k seq _ _ _ true (D k) hkm hm (h64 k hkm) (hc k hkm) hv rfl hs (by rw [hn]; omega)).mono (batchR_no ?_)
          unfold batchQ
          rw [decide_eq_false hkn]
          simp
      · refine (ref_batch_2 w g c m k seq _ _ _ true (D k) hkm hm (h64 k hkm) (hc k hkm) hv rfl hs).mono (batchR_no ?_)
        unfold batchQ
        rw [decide_eq_false hs]
        simp
  · obtain rfl : k = m := by omega
    refine (ref_batch_end w g c k seq).mono ?_
    rintro e w' ⟨h1, rfl⟩
    refine batchR_no ?_ _ _ ⟨h1, Below.refl _ _⟩
    unfold batchQ
    rw [decide_eq_false (Nat.lt_irrefl k)]
    rfl
theorem leftOf_lt (a r : Nat) (h : a < r) (h2 : a < 4000) : leftOf (.int .i64 (r : Nat)) < leftOf (.int .i64 (a : Nat)) := by
  show 4000 - ((r : Int)).toNat < 4000 - ((a : Int)).toNat
  omega
/-- on the way through the batches -/
structure FindI (w : World) (D : Nat → Text) (m at_ : Nat) (L : List Text) (v : Value) (X : Text) (B : Option Addr) (cb : Nat) (wr : World) : Prop where
  own : OwnT w.heap.size v L wr
  low : Below w.heap.size w wr
  look : LookS D m at_ L
  txt : Txt wr B X
  fresh : Fresh0 w B cb X
  apart : ∀ g, B = some ⟨g, 0, none⟩ → v.ownBlock ≠ some g
set_option maxHeartbeats 2000000 in
theorem ref_find (w : World) (g c m : Nat) (D : Nat → Text) (hm : m ≤ 1000) (h64 : ∀ j, j < m → (D j).length = 64) (hc : ∀ j, j < m → w.cell? ⟨g, j, none⟩ = some (.string ⟨(D j).toArray⟩)) (hg : g < w.heap.size) :
    Calls Try.prog 16 #[.slice (some ⟨g, 0, none⟩) m c] w fun e w' => ∃ v, e = .returned (.tuple #[v, .int .i64 (findT D m).2]) ∧ OwnT w.heap.size v (findT D m).1 w' ∧ Below w.heap.size w w' := by
  have HBt : Hid (∀ W, Below w.heap.size w W → ∀ k seq, k ≤ m → Calls Try.prog 51 #[.slice (some ⟨g, 0, none⟩) m c, .int .i64 (k : Nat), .int .i64 seq] W (BatchR W (batchQ D m k seq) (batchT D k) (needT (D k)))) := Lib.hid fun W hb k seq hk => ref_batch W g c m k seq D hk hm h64 (fun j hj => (hb.cell (p := ⟨g, j, none⟩) hg).trans (hc j hj))
  have HM := Lib.hid hm
  clear hm h64 hc hg
  go_enter Try.func16, Try.ntmps16
  go_wp2_with (go_at_call 51; refine (HBt.out w (Below.refl _ _) 0 1 (Nat.zero_le _)).mono ?_; rintro e w1 ⟨B1, c1, rfl, ht1, hf1, hb1⟩; have HI1 : Hid (FindI w D m 0 [] (.slice none 0 0) (selT (batchQ D m 0 1) (batchT D 0)) B1 c1 w1) := Lib.hid ⟨OwnT.nil _ _, hb1, ⟨Nat.zero_le _, Nat.zero_le _, m + 1, by omega, rfl⟩, ht1, hf1, fun g' _ e => by cases e⟩; clear ht1 hf1 hb1; refine Stop.out ?_)
  unfold Stop
  go_wp2
  go_loopw [4, 5, 6, 7] (fun v4 v5 v6 v7 wr => ∃ (at_ : Nat) (L : List Text) (B : Option Addr) (cb : Nat), v5 = .int .i64 (at_ : Nat) ∧ v6 = .slice B (selT (batchQ D m at_ (L.length + 1 : Nat)) (batchT D at_)).length cb ∧ v7 = .int .i64 (selN (batchQ D m at_ (L.length + 1 : Nat)) (needT (D at_))) ∧ Hid (FindI w D m at_ L v4 (selT (batchQ D m at_ (L.length + 1 : Nat)) (batchT D at_)) B cb wr)) (fun _ v5 _ _ _ => leftOf v5)
  case atStart => exact ⟨0, [], B1, c1, rfl, rfl, rfl, HI1⟩
  case round =>
    obtain ⟨at_, L, B, cb, rfl, h6, h7, HI⟩ := hrel
    clear HI1
    generalize hq : batchQ D m at_ (L.length + 1 : Nat) = q at h6 h7 HI
    have HQ := Lib.hid hq
    clear hq
    cases q with
    | false =>
      have h6' : u6 = .slice B 0 cb := h6
      have h7' : u7 = .int .i64 0 := h7
      clear h6 h7
      subst h6' h7'
      have HT : Hid (findT D m = (L, at_)) := Lib.hid (look_end HI.out.look HQ.out)
      go_wp2
      go_ret2
      rw [HT.out]
      exact ⟨u4, rfl, HI.out.own, HI.out.low⟩
    | true =>
      have h6' : u6 = .slice B (batchT D at_).length cb := h6
      have h7' : u7 = .int .i64 (needT (D at_) : Int) := h7
      have HI' : Hid (FindI w D m at_ L u4 (batchT D at_) B cb wr) := HI
      clear h6 h7 HI
      have HI := HI'
      clear HI'
      subst h6' h7'
      have HTl : Hid (0 < (batchT D at_).length) := Lib.hid (batch_len HQ.out)
      have HIn := Lib.hid (batch_in HQ.out)
      have HLn : Hid (LookS D m (at_ + needT (D at_)) (L ++ [batchT D at_])) := Lib.hid (look_next HI.out.look HQ.out)
      obtain ⟨r, hr⟩ : ∃ r, r = at_ + needT (D at_) := ⟨_, rfl⟩
      rw [← hr] at HLn
      have HR := Lib.hid hr
      have HRi : Hid ((at_ : Int) + (needT (D at_) : Int) = (r : Int)) := Lib.hid (by rw [hr]; omega)
      have HRr : Hid (wrap64 ((at_ : Int) + (needT (D at_) : Int)) = (r : Int)) := Lib.hid (by have := HM.out; have := HIn.out.2.2.2.1; unfold wrap64; omega)
      clear hr
      have hn0 : (0 : Int) < (needT (D at_) : Int) := by have := HIn.out.2.2.2.2; omega
      have hwr := HRr.out
      obtain ⟨Av, cv, rfl⟩ := HI.out.own.shape
      generalize batchT D at_ = X at HTl HI HLn ⊢
      have HB := Lib.hid HI.out.low
      have HLk := Lib.hid HI.out.look
      have HO := Lib.hid HI.out.own
      obtain ⟨gb, hB, hgb, hcb1, hcb2⟩ : ∃ gb, B = some ⟨gb, 0, none⟩ ∧ w.heap.size ≤ gb ∧ X.length ≤ cb ∧ cb ≤ maxLen := by
        rcases HI.out.fresh with ⟨_, h0⟩ | h
        · have h := HTl.out
          rw [h0] at h
          cases h
        · exact h
      subst hB
      have HCb := Lib.hid (And.intro hcb1 hcb2)
      have HNE := Lib.hid (HI.out.apart gb rfl)
      have HRg : Hid (wr.rangeAt gb 0 (X.map cellOf) ∧ gb < wr.heap.size) := Lib.hid ⟨txt_range HI.out.txt, by
        obtain ⟨a, e, h1, _⟩ := HI.out.txt (by intro e; have := HTl.out; rw [e] at this; cases this)
        injection e with e
        subst e
        exact h1⟩
      have HBX := Lib.hid (below_alloc wr (.cells #[.slice (some ⟨gb, 0, none⟩) X.length cb] 51))
      have HO5 := Lib.hid (HO.out.on HBX.out)
      have HGL : Hid (gb < (wr.alloc (.cells #[.slice (some ⟨gb, 0, none⟩) X.length cb] 51)).heap.size) := Lib.hid (by have := HRg.out.2; rw [World.size_alloc]; omega)
      have HLen : Hid (L.length ≤ 1000) := Lib.hid (by have h1 := HLk.out.2.1; have h2 := HLk.out.1; have h3 := HM.out; omega)
      have HSB : Hid (w.heap.size ≤ (wr.alloc (.cells #[.slice (some ⟨gb, 0, none⟩) X.length cb] 51)).heap.size) := Lib.hid (by have h1 := HB.out.size; have h2 := HBX.out.size; omega)
      clear hgb hcb1 hcb2 HI
      generalize hnX : X.length = nT at *
      have HnT := Lib.hid hnX
      obtain ⟨ll, hll⟩ : ∃ ll, ll = L.length := ⟨_, rfl⟩
      rw [← hll]
      have HLL := Lib.hid hll
      rw [hll] at HLL
      clear hnX
      subst hll
      go_wp2_with (at_builtin; refine wpList_append_rows (o := ⟨some 18, _, _, _, _, _⟩) rfl (.tmp 15) (.tmp 17) rfl rfl w.heap.size (.slice Av L.length cv) L rfl HO5.out wr.heap.size rfl gb cb _ X _ _ (heap_alloc_new wr _) HnT.out HTl.out HCb.out.1 HCb.out.2 (range_on (below_alloc wr _) HRg.out.1) HGL.out HNE.out (Nat.le_trans HLen.out (by decide)) HSB.out ?_; intro v4 w6 hov hgv hvv; have HO6 := Lib.hid hov; have HG6 := Lib.hid hgv; clear hov hgv hvv; refine Stop.out ?_)
      unfold Stop
      have HB6 : Hid (Below w.heap.size w w6) := Lib.hid ((HB.out.trans (HBX.out.mono HB.out.size)).grown HG6.out (by have := HSB.out; omega) (fun j hj => by have h1 := (HO.out.base _ hj).1; omega))
      obtain ⟨A6, c6, rfl⟩ := HO6.out.shape
      obtain ⟨l1, hl1⟩ : ∃ l1, l1 = (L ++ [X]).length := ⟨_, rfl⟩
      obtain ⟨l2, hl2⟩ : ∃ l2, l2 = l1 + 1 := ⟨_, rfl⟩
      have hwl : wrap64 ((l1 : Int) + 1) = (l2 : Int) := by have := HLen.out; rw [List.length_append] at hl1; simp at hl1; unfold wrap64; omega
      rw [← hl1] at HO6 ⊢
      have HL1 := Lib.hid hl1
      have HL2 := Lib.hid hl2
      clear hl1 hl2
      have hrm : r ≤ m := by rw [HR.out]; exact HIn.out.2.2.2.1
      go_wp2_with (go_at_call 51; refine (HBt.out w6 HB6.out r (l2 : Nat) hrm).mono ?_; rintro e w7 ⟨B7, c7, rfl, ht7, hf7, hb7⟩; have HT7 := Lib.hid ht7; have HF7 := Lib.hid hf7; have HB7 := Lib.hid hb7; clear ht7 hf7 hb7; refine Stop.out ?_)
      unfold Stop
      have HI7 : Hid (FindI w D m r (L ++ [X]) (.slice A6 l1 c6) (selT (batchQ D m r (l2 : Nat)) (batchT D r)) B7 c7 w7) := Lib.hid ⟨HO6.out.on HB7.out, below_then HB6.out HB7.out, HLn.out, HT7.out, HF7.out.mono HB6.out.size, fun g' e1 e2 => by
        have h1 := (HO6.out.base _ e2).2
        rcases HF7.out with ⟨h2, _⟩ | ⟨g3, h2, h3, _⟩
        · rw [h2] at e1; cases e1
        · rw [h2] at e1
          injection e1 with e1
          injection e1 with e1
          omega⟩
      have HMs : Hid (leftOf (.int .i64 (r : Nat)) < leftOf (.int .i64 (at_ : Nat))) := Lib.hid (leftOf_lt _ _ (by rw [HR.out]; omega) (by have := HM.out; have := HIn.out.1; omega))
      go_wp2
      go_roundw
      case rel =>
        have e2 : l2 = (L ++ [X]).length + 1 := by rw [HL2.out, HL1.out]
        rw [e2] at HI7 ⊢
        exact ⟨r, L ++ [X], B7, c7, rfl, rfl, rfl, HI7⟩
      case measure => exact HMs.out
end Go.Proofs.Ytfjejiapafdgeaa
