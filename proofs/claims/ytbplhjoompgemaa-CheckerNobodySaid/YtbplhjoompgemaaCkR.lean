/- A plan links boxes. -/
import Derived.Test.YtbplhjoompgemaaCkQ
namespace Go.Proofs.Ytbplhjoompgemaa
open Go.RowKit
set_option maxRecDepth 100000
set_option linter.unusedSimpArgs false
set_option linter.unusedVariables false
attribute [local go_sem] Oper.semAt_some

theorem code_SortS (A : Option Addr) (n c : Nat) (hn : n ≤ 1) (w : World) : Calls Try.prog 31 #[.slice A n c] w fun e w' => e = .returned (.tuple #[]) ∧ w' = w := by
  match n, hn with
  | 0, _ => exact code_Sort0 A c w
  | 1, _ => exact code_Sort1 A c w
theorem rd_set2 {w : World} {R : Nat} {a b c d : Value} {T : TypeId} (h : w.heap[R]? = some (.cells #[a, b, c, d] T (0, 0))) (v : Value) : (w.setCell ⟨R, 2, none⟩ v).heap[R]? = some (.cells #[a, b, v, d] T (0, 0)) := by
  simpa using heap_setCell_same w R 2 _ _ v h
/-- what a row of numbers is like, as it is held -/
theorem OwnI.slice {w : World} {B : Nat} {v : Value} {l : List Int} (h : OwnI w B v l) : ∃ A c, v = .slice A l.length c ∧ (∀ j (hj : j < l.length), ∃ g, A = some ⟨g, 0, none⟩ ∧ w.cell? ⟨g, j, none⟩ = some (.int .i64 l[j])) := by
  rcases h.form with ⟨rfl, rfl⟩ | ⟨g, c, rfl, h2, h3, h4, h5, h6, h7⟩
  · exact ⟨none, 0, rfl, fun j hj => absurd hj (Nat.not_lt_zero _)⟩
  · exact ⟨_, c, rfl, fun j hj => ⟨g, rfl, h6 j hj⟩⟩
/-- a plan that has linked some of its boxes -/
structure LinkAt (w0 w : World) (P m B : Nat) (bv : Value) (NN : List (List Int)) : Prop where
  chg : Chg P w0 w
  box : ∃ A c vals, w.heap[P]? = some (.cells #[bv, .map (some m), .slice A NN.length c, .slice none 0 0] 36 (0, 0)) ∧ w.ownsRow B 30 1 (.slice A NN.length c) NN.length vals ∧ vals.length = NN.length ∧ ∀ (j : Nat) (h : j < vals.length) (h2 : j < NN.length), OwnI w B vals[j] NN[j]
theorem link_more {w0 wr wi wj wq : World} {P m B : Nat} {bv v : Value} {A A' : Option Addr} {c c' : Nat} {vals : List Value} {N : List Int} {NN : List (List Int)} (hB : B = w0.heap.size) (hP0 : P < w0.heap.size) (hc : Chg P w0 wr)
    (hbx : wr.heap[P]? = some (.cells #[bv, .map (some m), .slice A NN.length c, .slice none 0 0] 36 (0, 0))) (ho : wr.ownsRow B 30 1 (.slice A NN.length c) NN.length vals) (hl : vals.length = NN.length)
    (hi : ∀ (j : Nat) (h : j < vals.length) (h2 : j < NN.length), OwnI wr B vals[j] NN[j])
    (hb : Below wr.heap.size wr wi) (hn : OwnI wi B v N)
    (hoj : wj.ownsRow B 30 1 (.slice A' (NN.length + 1) c') (NN.length + 1) (vals ++ [v])) (hg : wi.grownBy wj (Value.slice A NN.length c).ownBlock) (hq : wq = wj.setCell ⟨P, 2, none⟩ (.slice A' (NN.length + 1) c')) :
    LinkAt w0 wq P m B bv (NN ++ [N]) := by
  have hoi := own_on ho hb
  have hbi := heap_on hb hbx
  have hbj := (hg.block P (heapLt hbi) (Ne.symm (own_off hoi hbi (by decide)))).trans hbi
  have hcq : Chg P wj wq := by rw [hq]; exact Chg.one wj 2 _
  have hbq : wq.heap[P]? = some (.cells #[bv, .map (some m), .slice A' (NN.length + 1) c', .slice none 0 0] 36 (0, 0)) := by rw [hq]; exact rd_set2 hbj _
  have keepI : ∀ {u : Value} {L : List Int}, OwnI wi B u L → OwnI wq B u L := fun {u L} hu => by
    have h1 : OwnI wj B u L := own_kept hu (fun k cs hk hcs => (hg.block k (heapLt hcs) (Ne.symm (own_off hoi hcs (by decide)))).trans hcs)
    exact h1.chg hcq (own_off h1 hbj (by decide))
  refine ⟨⟨hcq.os.trans (hg.os.trans (hb.os.trans hc.os)), hcq.tape.trans (hg.tape.trans (hb.tape.trans hc.tape)), hcq.output.trans (hg.output.trans (hb.output.trans hc.output)), Nat.le_trans hc.size (Nat.le_trans hb.size (Nat.le_trans hg.size hcq.size)), fun i hi1 hr => ?_⟩, A', c', vals ++ [v], ?_, ?_, ?_, ?_⟩
  · have hne : i ≠ P := fun e => hr (by rw [e])
    have hi2 := Nat.lt_of_lt_of_le hi1 hc.size
    have hi3 := Nat.lt_of_lt_of_le hi2 hb.size
    have hnb : some i ≠ (Value.slice A NN.length c).ownBlock := fun e => by
      have := (own_block hoi i e.symm).1
      omega
    exact (hcq.heap (Nat.lt_of_lt_of_le hi3 hg.size) hne).trans ((hg.block i hi3 hnb).trans ((hb.block i hi2).trans (hc.heap hi1 hne)))
  · rw [List.length_append]; exact hbq
  · rw [List.length_append]; exact own_chg hoj hcq (own_off hoj hbj (by decide))
  · simp [hl]
  · intro j h h2
    by_cases hj : j < NN.length
    · have e1 : (vals ++ [v])[j] = vals[j]'(by omega) := List.getElem_append_left (by omega)
      have e2 : (NN ++ [N])[j] = NN[j] := List.getElem_append_left hj
      rw [e1, e2]
      exact keepI ((hi j (by omega) hj).on hb)
    · have e0 : j = NN.length := by simp at h2; omega
      subst e0
      have e1 : (vals ++ [v])[NN.length] = v := by simp [← hl]
      have e2 : (NN ++ [N])[NN.length] = N := by simp
      rw [e1, e2]
      exact keepI hn
set_option maxHeartbeats 4000000 in
theorem code_link (P m b cb : Nat) (l : List LB) (NN : List (List Int)) (E : List (Int × Int)) (w : World) (hl : l.length ≤ 20) (hr : RowB w b l) (hok : ∀ x ∈ l, LBOk x)
    (hP : w.heap[P]? = some (.cells #[.slice (some ⟨b, 0, none⟩) l.length cb, .map (some m), .slice none 0 0, .slice none 0 0] 36 (0, 0))) (hM : MapI w m E)
    (hN : NN.length = l.length) (hNN : ∀ (k : Nat) (h : k < l.length) (h2 : k < NN.length), NN[k].length = (refL l[k].2.1 l[k].2.2).length ∧ ∀ (j : Nat) (h3 : j < (refL l[k].2.1 l[k].2.2).length) (h4 : j < NN[k].length), valI (refL l[k].2.1 l[k].2.2)[j] E = some NN[k][j]) :
    Calls Try.prog 18 #[.pointer (some ⟨P, 0, none⟩)] w fun e w' => e = .returned (.bool true) ∧ LinkAt w w' P m w.heap.size (.slice (some ⟨b, 0, none⟩) l.length cb) NN := by
  have HR := Lib.hid hr
  have HOk := Lib.hid hok
  have hln : (l.length : Int) ≤ 20 := by omega
  have HLn := Lib.hid hl
  have HNl := Lib.hid hN
  have HNN := Lib.hid hNN
  have HPl := Lib.hid (heapLt hP)
  have HPm : Hid (m ≠ P) := Lib.hid (fun e => by
    rw [← e] at hP
    exact hM.not _ _ _ hP)
  have HbP : Hid (b ≠ P) := Lib.hid (fun e => by
    obtain ⟨cs, h1, _⟩ := hr
    rw [e, hP] at h1
    injection h1 with h1
    injection h1 with _ h1 _
    exact absurd h1 (by decide))
  have HM := Lib.hid hM
  obtain ⟨bv, hbv⟩ : ∃ bv : Value, bv = .slice (some ⟨b, 0, none⟩) l.length cb := ⟨_, rfl⟩
  have HN0 : Hid (LinkAt w w P m w.heap.size bv []) := Lib.hid ⟨Chg.refl _ _, none, 0, [], by rw [hbv]; exact hP, World.ownsRow_nil w _ _ 1, rfl, fun j h => absurd h (Nat.not_lt_zero _)⟩
  rw [← hbv]
  obtain ⟨B, hB⟩ : ∃ B, B = w.heap.size := ⟨_, rfl⟩
  rw [← hB] at HN0 ⊢
  have HBw := Lib.hid hB
  have HBv := Lib.hid hbv
  obtain ⟨r0, r1, r2, r3⟩ := row4c hP
  clear hr hl hM hB hok hN hNN hbv hP
  go_enter Try.func18, Try.ntmps18
  go_wp2
  clear r0 r1 r2 r3
  go_loopw [15] (fun v15 wr => ∃ k : Nat, k ≤ l.length ∧ v15 = .int .i64 (k : Nat) ∧ Hid (LinkAt w wr P m B bv (NN.take k))) (fun v15 _ => l.length - (intOf v15).toNat)
  case atStart => exact ⟨0, Nat.zero_le _, rfl, HN0⟩
  case round =>
    obtain ⟨k, hk, rfl, HN⟩ := hrel
    by_cases hlt : k < l.length
    · have HRow := Lib.hid (HR.out.to (HN.out.chg.heap HR.out.lt HbP.out))
      obtain ⟨tk, htk⟩ : ∃ t, t = l[k] := ⟨_, rfl⟩
      have hOk := HOk.out l[k] (List.getElem_mem _)
      have hkn : k < NN.length := by rw [HNl.out]; exact hlt
      have hNk := HNN.out k hlt hkn
      have HC := Lib.hid (HRow.out.cells k hlt)
      rw [← htk] at HC hOk hNk
      obtain ⟨n0, n1, n2⟩ := tk
      obtain ⟨N, hNe⟩ : ∃ N, N = NN[k] := ⟨_, rfl⟩
      rw [← hNe] at hNk
      have HNe : Hid (NN.take (k + 1) = NN.take k ++ [N]) := Lib.hid (by rw [hNe]; exact List.take_succ_eq_append_getElem hkn)
      have HNk := Lib.hid hNk
      have HG := Lib.hid (code_Refs n1 n2 hOk.2)
      have hrl : (refL n1 n2).length ≤ 1 := by unfold refL; split <;> simp
      have HRl := Lib.hid hrl
      clear htk hOk hNk hNe hrl hkn
      have u0 := HC.out 0 _ rfl
      rw [Nat.add_zero] at u0
      have u1 := HC.out 1 _ rfl
      have u2 := HC.out 2 _ rfl
      have u3 := HC.out 3 _ rfl
      have u4 := HC.out 4 _ rfl
      have u5 := HC.out 5 _ rfl
      clear HC
      have HZ := Lib.hid (heap_alloc_new wr (.cells #[.int .i64 0, .int .i64 0, .int .i64 0, .string ⟨#[]⟩, .slice none 0 0, .slice none 0 0] 43))
      have HBF := Lib.hid (box_row wr #[.int .i64 0, .int .i64 0, .int .i64 0, .string ⟨#[]⟩, .slice none 0 0, .slice none 0 0] #[.int .i64 n0, .int .i64 n1, .int .i64 n2, .string ⟨#[]⟩, .slice none 0 0, .slice none 0 0] 43 rfl)
      go_wp2_with ((with_reducible refine wpList_store_row (o := ⟨none, _, _, _, _, _⟩) 43 ?b0 (.tmp 4) (.tmp 18) ?b1 wr.heap.size ?b2 [.int .i64 n0, .int .i64 n1, .int .i64 n2, .string ⟨#[]⟩, .slice none 0 0, .slice none 0 0] ?b3 ?b4 ?b5 #[.int .i64 0, .int .i64 0, .int .i64 0, .string ⟨#[]⟩, .slice none 0 0, .slice none 0 0] ?b6 43 ?b7 ?_); (case b0 => rfl); (case b1 => rfl); (case b2 => rfl); (case b3 => exact box_info); (case b4 => simp [Value.oneCell']); (case b5 => rfl); (case b6 => rfl); (case b7 => exact HZ.out); (try simp only [Act.put]); refine Stop.out ?_)
      unfold Stop
      clear u0 u1 u2 u3 u4 u5 HZ
      generalize World.setRow _ _ _ = ws at HBF ⊢
      obtain ⟨g, hg⟩ : ∃ g, g = wr.heap.size := ⟨_, rfl⟩
      have HB5 : Hid (Below wr.heap.size wr ws) := Lib.hid HBF.out.1
      rw [← hg] at HBF ⊢
      clear hg
      obtain ⟨y0, y1, y2, y3, y4, y5⟩ := row6c HBF.out.2
      unfold lfV at HG
      go_wp2_with (go_at_call 30; refine (HG.out _).mono ?_; rintro e w3 ⟨v, rfl, hb, ho⟩; refine Stop.out ?_)
      unfold Stop
      have HB6 := Lib.hid (below_then HB5.out hb)
      have HOr := Lib.hid ho
      obtain ⟨Ar, cr, rfl, hcell⟩ := ho.slice
      obtain ⟨refs, hrefs⟩ : ∃ r, r = refL n1 n2 := ⟨_, rfl⟩
      rw [← hrefs] at hcell HOr HNk HRl ⊢
      have HCell := Lib.hid hcell
      have hrl : (refs.length : Int) ≤ 1 := by have := HRl.out; omega
      obtain ⟨rl, hrle⟩ : ∃ rl, rl = refs.length := ⟨_, rfl⟩
      have HRle := Lib.hid hrle
      rw [← hrle] at hrl ⊢
      clear hb ho hcell hrefs hrle y0 y1 y2 y3 y4 y5 HBF HG
      go_wp2
      go_loopw [5, 23] (fun v5 v23 wi => ∃ j : Nat, j ≤ rl ∧ v23 = .int .i64 (j : Nat) ∧ ∃ A2 c2, v5 = .slice A2 j c2 ∧ Hid (Below w3.heap.size w3 wi ∧ OwnI wi w3.heap.size (.slice A2 j c2) (N.take j))) (fun _ v23 _ => rl - (intOf v23).toNat)
      case atStart => exact ⟨0, Nat.zero_le _, rfl, none, 0, rfl, Lib.hid ⟨Below.refl _ _, OwnI.nil _ _⟩⟩
      case round =>
        obtain ⟨j, hj, rfl, A2, c2, rfl, HI⟩ := hrel
        rename World => wi
        have hk2 : (NN.take k).length = k := by
          have := HNl.out
          rw [List.length_take]; omega
        obtain ⟨A, c, vals, hbx, hbo, hvl, hvi⟩ := HN.out.box
        rw [hk2] at hbx hbo hvl
        have HBb := Lib.hid hbo
        have HVi := Lib.hid (And.intro hvl hvi)
        have HBx := Lib.hid hbx
        have HBi := Lib.hid (below_then HB6.out HI.out.1)
        have HPi := Lib.hid (heap_on HBi.out hbx)
        have HMi : Hid (MapI wi m E) := Lib.hid ((HM.out.to (HN.out.chg.heap (heapLt HM.out) HPm.out)).on HBi.out)
        have HK2 := Lib.hid hk2
        clear hk2 hbx hbo hvl hvi
        by_cases hjl : j < rl
        · have hjr : j < refs.length := by rw [← HRle.out]; exact hjl
          have hjN : j < N.length := by rw [HNk.out.1]; exact hjr
          obtain ⟨gr, hgr, hcl⟩ := HCell.out j hjr
          have hval := HNk.out.2 j hjr hjN
          have HTk : Hid (N.take (j + 1) = N.take j ++ [N[j]]) := Lib.hid (List.take_succ_eq_append_getElem hjN)
          obtain ⟨r, hr⟩ : ∃ r, r = refs[j] := ⟨_, rfl⟩
          obtain ⟨x, hx⟩ : ∃ x, x = N[j] := ⟨_, rfl⟩
          rw [← hr] at hcl hval
          rw [← hx] at hval HTk
          subst hgr
          have x0 := cell_on HI.out.1 hcl
          have hlk := run_lookI wi m r E HMi.out
          rw [hval] at hlk
          simp only [Option.getD_some, Option.isSome_some] at hlk
          obtain ⟨r0, r1, r2, r3⟩ := row4c HPi.out
          have hra := Lib.hid (heap_alloc_new wi (.cells #[.int .i64 x] 3))
          have hba := Lib.hid (below_alloc wi (.cells #[.int .i64 x] 3))
          have HOa := Lib.hid (HI.out.2.on hba.out)
          have HLj : Hid ((N.take j).length ≤ 1000) := Lib.hid (by rw [List.length_take]; have := HRl.out; omega)
          have HLj1 : Hid ((N.take j ++ [x]).length = j + 1) := Lib.hid (by rw [List.length_append, List.length_take]; simp; omega)
          have HSa : Hid (w3.heap.size ≤ (wi.alloc (.cells #[.int .i64 x] 3)).heap.size) := Lib.hid (Nat.le_trans HI.out.1.size hba.out.size)
          clear hcl hval hr hx hjr hjN
          go_wp2_with (at_builtin; refine wpList_append_int rfl _ _ rfl _ (N.take j) x 3 rfl HOa.out hra.out rfl HSa.out HLj.out ?_; intro v' w5 k1 k2 _; have HO := Lib.hid k1; have HG5 := Lib.hid k2; clear k1 k2; refine Stop.out ?_)
          unfold Stop
          obtain ⟨A3, c3, hv3, _⟩ := HO.out.slice
          rw [HLj1.out] at hv3
          subst hv3
          have HI5 : Hid (Below w3.heap.size w3 w5 ∧ OwnI w5 w3.heap.size (.slice A3 (j + 1) c3) (N.take (j + 1))) := Lib.hid ⟨(below_then HI.out.1 hba.out).grown HG5.out HSa.out (fun k hk => (HOa.out.lt k hk).1), by rw [HTk.out]; exact HO.out⟩
          clear hra hba HOa HLj HLj1 HSa HO HG5 hlk x0 r0 r1 r2 r3 HTk
          go_wp2
          exact ⟨⟨j + 1, by omega, by simp, A3, c3, rfl, HI5⟩, by simp [intOf]; omega⟩
        · obtain rfl : j = rl := by omega
          have HNf : Hid (OwnI wi w3.heap.size (.slice A2 j c2) N) := Lib.hid (by
            have h1 := HI.out.2
            rw [List.take_of_length_le (by rw [HNk.out.1, ← HRle.out]; exact Nat.le_refl _)] at h1
            exact h1)
          have hj1 : j ≤ 1 := by rw [HRle.out]; exact HRl.out
          have HSt := Lib.hid (code_SortS A2 j c2 hj1)
          obtain ⟨r0, r1, r2, r3⟩ := row4c HPi.out
          have hra := Lib.hid (heap_alloc_new wi (.cells #[.slice A2 j c2] 30))
          have hba := Lib.hid (below_alloc wi (.cells #[.slice A2 j c2] 30))
          have HSb : Hid (B ≤ wi.heap.size) := Lib.hid (by rw [HBw.out]; exact Nat.le_trans HN.out.chg.size HBi.out.size)
          have HS3 : Hid (B ≤ w3.heap.size) := Lib.hid (by rw [HBw.out]; exact Nat.le_trans HN.out.chg.size HB6.out.size)
          have HOa := Lib.hid (own_on HBb.out (below_then HBi.out hba.out))
          have HSa : Hid (B ≤ (wi.alloc (.cells #[.slice A2 j c2] 30)).heap.size) := Lib.hid (Nat.le_trans HSb.out hba.out.size)
          have HLk : Hid (k ≤ 100000) := Lib.hid (by have := HLn.out; omega)
          clear hj1
          go_wp2_with (go_at_call 31; refine (HSt.out _).mono ?_; rintro e w5 ⟨rfl, rfl⟩; refine Stop.out ?_)
          unfold Stop
          go_wp2_with (at_builtin; refine wpList_app (S := 34) (T := 30) Try.underlying34 factS rfl (by decide) (by decide) rfl (.tmp 49) (.tmp 51) rfl B (.slice A k c) k vals [.slice A2 j c2] rfl HOa.out _ rfl hra.out rfl (by simp [Value.oneCell']) HLk.out HSa.out ?_; intro v' wj k1 k2 _; have HO := Lib.hid k1; have HG5 := Lib.hid k2; clear k1 k2; refine Stop.out ?_)
          unfold Stop
          obtain ⟨A3, c3, hv3, _, _⟩ := own_form HO.out
          subst hv3
          have hPa := heap_on hba.out HPi.out
          have hPj := (HG5.out.block P (heapLt hPa) (Ne.symm (own_off HOa.out hPa (by decide)))).trans hPa
          have HFin : Hid (∀ wq, wq = wj.setCell ⟨P, 2, none⟩ (.slice A3 (k + 1) c3) → LinkAt w wq P m B bv (NN.take (k + 1))) := Lib.hid (fun wq hq => by
            rw [HNe.out]
            exact link_more (wi := w5.alloc (.cells #[.slice A2 j c2] 30)) HBw.out HPl.out HN.out.chg (by rw [HK2.out]; exact HBx.out) (by rw [HK2.out]; exact HBb.out) (by rw [HK2.out]; exact HVi.out.1) HVi.out.2
              (below_then HBi.out hba.out) ((HNf.out.on hba.out).less HS3.out) (by rw [HK2.out]; exact HO.out) (by rw [HK2.out]; exact HG5.out) (by rw [HK2.out]; exact hq))
          obtain ⟨q0, q1, q2, q3⟩ := row4c hPj
          have hz2 := frozen_of_row wj P 2 _ _ hPj
          clear hPa hPj hra hba HOa HSa HO HG5 HNf HI HBi HPi HMi r0 r1 r2 r3 HBb HVi HBx HK2 HSt HS3 HSb
          go_wp2
          exact ⟨⟨k + 1, by omega, by simp, Lib.hid (HFin.out _ rfl)⟩, by simp [intOf]; omega⟩
    · obtain rfl : k = l.length := by omega
      rw [← HNl.out, List.take_length] at HN
      go_wp2
      go_ret
      exact ⟨rfl, HN.out⟩
end Go.Proofs.Ytbplhjoompgemaa
