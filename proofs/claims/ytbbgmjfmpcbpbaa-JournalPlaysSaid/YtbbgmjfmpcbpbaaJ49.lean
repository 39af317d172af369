/- Whatever stands on a disk: batches that are more than are looked at; power that goes while the journal is opened. -/
import Derived.Test.YtbbgmjfmpcbpbaaJ47
import Derived.Test.YtbbgmjfmpcbpbaaJ48
import Derived.Test.YtbbgmjfmpcbpbaaJ42
namespace Go.Proofs.Ytbbgmjfmpcbpbaa
open Go.RowKit
set_option maxRecDepth 100000
set_option linter.unusedSimpArgs false
set_option linter.unusedVariables false

theorem jplays_heavy (many : Int) (L : List PartV) (A : Option Addr) (cap : Nat) (l : List Text) (A2 : Option Addr) (cap2 : Nat) (after torn : Int) (w : World) (hP : PartsAt w A L) (hB : BatsAt w A2 l) (hl : l.length ≤ 9223372036854775807) (hq : lightB many L = false ∨ jlight l = false) :
    Calls Try.prog 7 #[.int .i64 many, .slice A L.length cap, .slice A2 l.length cap2, .int .i64 after, .int .i64 torn] w fun e w' => e = .returned (.bool true) ∧ Below w.heap.size w w' := by
  have HLi := Lib.hid (code_light many L A cap w hP)
  have HLj : Hid (∀ W, Below w.heap.size w W → Calls Try.prog 31 #[.slice A2 l.length cap2] W fun e w' => e = .returned (.bool (jlight l)) ∧ Below W.heap.size W w') := Lib.hid (fun W hb => (code_jlight l A2 cap2 W hl (hB.below hb)).mono fun e w' h => ⟨h.1, h.2 ▸ Below.refl _ _⟩)
  have HLv := Lib.hid jn_lives
  clear hP hB hl
  cases h1 : lightB many L with
  | false =>
    rw [h1] at HLi
    clear h1 hq HLj
    go_enter Try.func7, Try.ntmps7
    go_wp2_with (first
      | (go_at_call 11; refine HLi.out.mono ?_; rintro e w1 ⟨rfl, hb1⟩; have HB1 := Lib.hid hb1; clear hb1)
      | (go_at_call 32; refine (HLv.out _).mono ?_; rintro e w2 ⟨rfl, hb2⟩; have HB2 := Lib.hid (below_then HB1.out hb2); clear hb2))
    go_ret
    exact ⟨rfl, HB2.out⟩
  | true =>
    rw [h1] at HLi hq
    have h2 : jlight l = false := by rcases hq with h | h <;> first | exact h | cases h
    rw [h2] at HLj
    clear h1 h2 hq
    go_enter Try.func7, Try.ntmps7
    go_wp2_with (first
      | (go_at_call 11; refine HLi.out.mono ?_; rintro e w1 ⟨rfl, hb1⟩; have HB1 := Lib.hid hb1; clear hb1)
      | (go_at_call 31; refine (HLj.out _ HB1.out).mono ?_; rintro e w2 ⟨rfl, hb2⟩; have HB2 := Lib.hid (below_then HB1.out hb2); clear hb2)
      | (go_at_call 32; refine (HLv.out _).mono ?_; rintro e w3 ⟨rfl, hb3⟩; have HB3 := Lib.hid (below_then HB2.out hb3); clear hb3))
    go_ret
    exact ⟨rfl, HB3.out⟩
/-- the disk as it is opened: with the fuse that is asked for -/
def fusedD (m : Nat) (P : List Text) (after torn : Int) : DiskV := (FX (laidD m P (min m P.length)) after torn).1
set_option maxHeartbeats 4000000 in
theorem jplays_cut (many : Int) (L : List PartV) (A : Option Addr) (cap : Nat) (l : List Text) (A9 : Option Addr) (cap9 : Nat) (after torn : Int) (w : World) (hP : PartsAt w A L) (hBt : BatsAt w A9 l) (hl9 : l.length ≤ 9223372036854775807) (ha : after ≤ 9223372036854775807) (hq : lightB many L = true) (hj : jlight l = true)
    (hcut : (WX (fusedD many.toNat (lawP L) after torn) (findT (fusedD many.toNat (lawP L) after torn).S (fusedD many.toNat (lawP L) after torn).many).2).2.2 ≠ 0) :
    Calls Try.prog 7 #[.int .i64 many, .slice A L.length cap, .slice A9 l.length cap9, .int .i64 after, .int .i64 torn] w fun e w' => e = .returned (.bool true) ∧ Below w.heap.size w w' := by
  have HLi := Lib.hid (code_light many L A cap w hP)
  have HLj : Hid (∀ W, Below w.heap.size w W → Calls Try.prog 31 #[.slice A9 l.length cap9] W fun e w' => e = .returned (.bool true) ∧ Below W.heap.size W w') := Lib.hid (fun W hb => by rw [← hj]; exact (code_jlight l A9 cap9 W hl9 (hBt.below hb)).mono fun e w' h => ⟨h.1, h.2 ▸ Below.refl _ _⟩)
  have HLv := Lib.hid jn_lives
  rw [hq] at HLi
  obtain ⟨m, rfl, hm1, hm2, hL, hl⟩ := lightB_is hq
  rw [Int.toNat_natCast] at hcut
  have HP := Lib.hid hP
  have HA := Lib.hid ha
  have HM := Lib.hid (And.intro hm1 (And.intro hm2 (And.intro hL hl)))
  have H64 := Lib.hid (lawP_64 L)
  have HPl := Lib.hid (lawP_len20 L hL hl)
  clear hq hP hm1 hm2 hL hl ha hj hBt hl9
  obtain ⟨P, hPP⟩ : ∃ P, P = lawP L := ⟨_, rfl⟩
  have HPP := Lib.hid hPP
  rw [← hPP] at H64 HPl hcut
  have HCut := Lib.hid hcut
  clear hPP hcut
  go_enter Try.func7, Try.ntmps7
  go_wp2_with (first
    | (go_at_call 11; refine HLi.out.mono ?_; rintro e w0 ⟨rfl, hb1⟩; have HB0 := Lib.hid hb1; clear hb1)
    | (go_at_call 31; refine (HLj.out _ HB0.out).mono ?_; rintro e w1 ⟨rfl, hb1⟩; have HB1 := Lib.hid (below_then HB0.out hb1); clear hb1; refine Stop.out ?_))
  unfold Stop
  have HPg : Hid (Calls Try.prog 14 #[.slice A L.length cap] w1 fun e w' => ∃ A2 c2, e = .returned (.slice A2 P.length c2) ∧ SecsAt w' A2 c2 P ∧ Below w1.heap.size w1 w') := Lib.hid (by
    refine (code_lpages L A cap w1 (HP.out.below HB1.out) HM.out.2.2.1 HM.out.2.2.2).mono ?_
    rintro e w' ⟨v, rfl, ho, _, hb⟩
    obtain ⟨A2, c2, rfl, hs⟩ := ho.secs
    rw [← HPP.out] at hs ⊢
    exact ⟨A2, c2, rfl, hs, hb⟩)
  clear HLi HLj HB0
  go_wp2_with (first
    | (go_at_call 14; refine HPg.out.mono ?_; rintro e w2 ⟨A2, c2, rfl, hs2, hb2⟩; have HS2 := Lib.hid hs2; have HB2 := Lib.hid (below_then HB1.out hb2); clear hs2 hb2; refine Stop.out ?_))
  unfold Stop
  go_wp2_with (first
    | (go_at_call 13; refine (code_laid m P A2 c2 w2 HM.out.1 HM.out.2.1 (by have := HPl.out; omega) H64.out HS2.out).mono ?_; rintro e w3 ⟨B, bm, nn, g, c, tr, rfl, hd, hnn, hr, hok, hB, hbm, hgB, hgb, hb3⟩; have HD3 := Lib.hid (And.intro hd (And.intro hnn hok)); have HR3 := Lib.hid hr; have HBB := Lib.hid (And.intro (Nat.le_trans HB2.out.size hB) (Nat.le_trans HB2.out.size hbm)); have HGB := Lib.hid (And.intro hgB hgb); have HB3 := Lib.hid (below_then HB2.out hb3); clear hd hnn hr hok hB hbm hgB hgb hb3; unfold spelt; refine Stop.out ?_))
  unfold Stop
  have HLw : Hid (LawD m (laidD m P (min m P.length))) := Lib.hid (laid_lawD H64.out HM.out.2.1 HD3.out.2.2)
  unfold fusedD at HCut
  generalize laidD m P (min m P.length) = d at HD3 HR3 HLw HCut ⊢
  have H6d : Hid (∀ i, i < d.many → (d.S i).length = 64) := Lib.hid (sec_64 HD3.out.1)
  have HMd : Hid (1 ≤ d.many ∧ d.many ≤ 40) := Lib.hid (by rw [HLw.out.many]; exact ⟨HM.out.1, HM.out.2.1⟩)
  obtain ⟨d4, hd4⟩ : ∃ d4, d4 = (FX d after torn).1 := ⟨_, rfl⟩
  obtain ⟨f4, hf4⟩ : ∃ f4, f4 = (FX d after torn).2 := ⟨_, rfl⟩
  rw [← hd4] at HCut
  have HF4 : Hid (OkD d4 ∧ d4.many = d.many ∧ d4.S = d.S ∧ d4.writes = d.writes ∧ d4.dead = d.dead) := Lib.hid (by rw [hd4]; exact FX_facts HD3.out.2.2 HA.out)
  have H64d : Hid (∀ k, k < d4.many → (d4.S k).length = 64) := Lib.hid (fun k hk => by rw [HF4.out.2.2.1]; rw [HF4.out.2.1] at hk; exact H6d.out k hk)
  have HDd : Hid (d4.dead = false) := Lib.hid (by rw [HF4.out.2.2.2.2]; exact HLw.out.dead)
  have HWr4 : Hid (d4.writes ≤ 1000000) := Lib.hid (by rw [HF4.out.2.2.2.1]; have := HLw.out.wr; omega)
  have HM4 : Hid (1 ≤ d4.many ∧ d4.many ≤ 1000) := Lib.hid (by rw [HF4.out.2.1]; have := HMd.out; omega)
  obtain ⟨d5, hd5⟩ : ∃ d5, d5 = (WX d4 (findT d4.S d4.many).2).1 := ⟨_, rfl⟩
  obtain ⟨f5, hf5⟩ : ∃ f5, f5 = (WX d4 (findT d4.S d4.many).2).2.2 := ⟨_, rfl⟩
  have HFu : Hid (∀ W V, V = W → Dsk W B bm nn d → Calls Try.prog 20 #[.pointer (some ⟨B, 0, none⟩), .int .i64 after, .int .i64 torn] V fun e w' => e = .returned (.int .i64 f4) ∧ Dsk w' B bm nn d4 ∧ ChgD W w' B bm) := Lib.hid (fun W V hV h => by rw [hd4, hf4, hV]; exact fuse_any W B bm nn d after torn h)
  have HRu : Hid (∀ W, RefIs W g c tr d → Calls Try.prog 21 #[spelt g c tr d, .int .i64 after, .int .i64 torn] W fun e w' => ∃ tr4, e = .returned (.tuple #[spelt g c tr4 d4, .int .i64 f4]) ∧ RefIs w' g c tr4 d4 ∧ Below W.heap.size W w') := Lib.hid (fun W h => by rw [hd4, hf4]; exact rfuse_any W g c tr d after torn h)
  have HOp : Hid (∀ W, Dsk W B bm nn d4 → Calls Try.prog 33 #[.pointer (some ⟨B, 0, none⟩)] W fun e w' => e = .returned (.tuple #[.pointer none, .slice none 0 0, .int .i64 f5]) ∧ (∃ n, Dsk w' B bm n d5) ∧ ChgD W w' B bm) := Lib.hid (fun W h => by
    rw [hd5, hf5]
    refine (jopen_cut W B bm nn d4 h HF4.out.1 HDd.out (by have := HD3.out.2.1; omega) HWr4.out HCut.out).mono ?_
    rintro e w' ⟨n, rfl, q1, _, q3⟩
    exact ⟨rfl, ⟨n, q1⟩, q3⟩)
  have HRo : Hid (∀ W tr4, RefIs W g c tr4 d4 → Calls Try.prog 34 #[spelt g c tr4 d4] W fun e w' => ∃ g5 c5 tr5, e = .returned (.tuple #[.agg zeroJ.toArray, .slice none 0 0, spelt g5 c5 tr5 d5, .int .i64 f5]) ∧ RefIs w' g5 c5 tr5 d5 ∧ Below W.heap.size W w') := Lib.hid (fun W tr4 h => by
    rw [hd5, hf5]
    exact ref_jopen_cut W g c tr4 d4 h HF4.out.1 HDd.out HM4.out.1 HM4.out.2 HWr4.out H64d.out HCut.out)
  have HLk : Hid (∀ W n g5 c5 tr5, Dsk W B bm n d5 → RefIs W g5 c5 tr5 d5 → Calls Try.prog 24 #[.pointer (some ⟨B, 0, none⟩), spelt g5 c5 tr5 d5] W fun e w' => e = .returned (.bool true) ∧ Below W.heap.size W w') := Lib.hid (fun W n g5 c5 tr5 q1 q2 => play_like W B bm n g5 c5 tr5 d5 q1 q2)
  have HSm : Hid (∀ W, Calls Try.prog 35 #[.slice none 0 0, .slice none 0 0] W fun e w' => e = .returned (.bool true) ∧ Below W.heap.size W w') := Lib.hid (fun W => code_jsame [] none none 0 0 W (by decide) (.inl ⟨rfl, rfl, rfl⟩) (.inl ⟨rfl, rfl, rfl⟩))
  have HMn : Hid (d4.many = d.many) := Lib.hid HF4.out.2.1
  have HM5 : Hid (1 ≤ d5.many) := Lib.hid (by rw [hd5, WX_many]; exact HM4.out.1)
  have hf0 : (f5 != 0) = true := bne_tJ (by rw [hf5]; exact HCut.out)
  clear hd4 hf4 hd5 hf5 HPg HF4 HCut
  obtain ⟨wb, hwb⟩ : ∃ wb, wb = w3.alloc (.cells #[.slice (some ⟨g, 0, none⟩) d.many c, .int .i64 (aftR d), .int .i64 tr, .bool d.dead, .int .i64 d.writes] 28) := ⟨_, rfl⟩
  have HBb : Hid (Below w.heap.size w wb) := Lib.hid (by rw [hwb]; exact below_then HB3.out (below_alloc _ _))
  have HDb : Hid (Dsk wb B bm nn d) := Lib.hid (by rw [hwb]; exact HD3.out.1.below (below_alloc _ _))
  have HRb : Hid (RefIs wb g c tr d) := Lib.hid (by rw [hwb]; exact HR3.out.below (below_alloc _ _))
  have HXb : Hid (wb.heap[w3.heap.size]? = some (.cells (refC g c d.many (aftR d) tr d.dead d.writes).toArray 28 (0, 0))) := Lib.hid (by rw [hwb]; exact heap_alloc_new w3 _)
  have HNb : Hid (B ≠ w3.heap.size ∧ bm ≠ w3.heap.size ∧ w.heap.size ≤ w3.heap.size) := Lib.hid ⟨Nat.ne_of_lt HD3.out.1.lt, Nat.ne_of_lt HD3.out.1.2.1.lt, HB3.out.size⟩
  have HWB := Lib.hid hwb
  clear hwb
  go_wp2_with (first
    | (go_at_call 20; refine (HFu.out wb _ HWB.out.symm HDb.out).mono ?_; rintro e w9 ⟨rfl, hd9, hc9⟩; have HD9 := Lib.hid hd9; have HR9 := Lib.hid (HRb.out.chg2 hc9 HGB.out.1 HGB.out.2); have HX9 := Lib.hid ((hc9.block _ (heapLt HXb.out) HNb.out.1.symm HNb.out.2.1.symm).trans HXb.out); have HB9 := Lib.hid (HBb.out.trans (hc9.below HBb.out.size HBB.out.1 HBB.out.2)); clear hd9 hc9; refine Stop.out ?_))
  unfold Stop
  clear HWB HBb HDb HRb HXb HB3 HR3
  obtain ⟨⟨z0, z1, z2, z3, z4⟩, _⟩ := cells5 HX9.out
  go_wp2_with (first
    | (go_at_call 21; refine (HRu.out _ HR9.out).mono ?_; rintro e w10 ⟨tr4, rfl, hr10, hb10⟩; have HD10 := Lib.hid (HD9.out.below hb10); have HR10 := Lib.hid hr10; have HX10 := Lib.hid (heap_on hb10 HX9.out); have HB10 := Lib.hid (below_then HB9.out hb10); clear hr10 hb10; refine Stop.out ?_))
  unfold Stop
  clear z0 z1 z2 z3 z4 HD9 HR9 HX9 HB9
  go_wp2_with (first
    | ((with_reducible refine wpList_store_row 28 (o := ⟨none, _, _, _, _, _⟩) ?a1 (.tmp 12) (.tmp 55) ?a2 w3.heap.size ?a3 (refC g c d4.many (aftR d4) tr4 d4.dead d4.writes) ?a4 ?a5 ?a6 (refC g c d.many (aftR d) tr d.dead d.writes).toArray ?a7 28 ?a8 ?_); (case a1 => rfl); (case a2 => rfl); (case a3 => rfl); (case a4 => kernel_rfl); (case a5 => exact one5 _ _ _ _ _ _ _); (case a6 => rfl); (case a7 => rfl); (case a8 => exact HX10.out); (try simp only [Act.put]); refine Stop.out ?_))
  unfold Stop
  have HD11 := Lib.hid (HD10.out.setRow (b := w3.heap.size) (refC g c d4.many (aftR d4) tr4 d4.dead d4.writes).toArray HNb.out.1 HNb.out.2.1)
  have HR11 := Lib.hid (HR10.out.setRow (b := w3.heap.size) (refC g c d4.many (aftR d4) tr4 d4.dead d4.writes).toArray (ref_box HR10.out (by rw [HMn.out]; exact HMd.out.1) HX10.out (fun s e => by cases e)))
  have HX11 : Hid ((w10.setRow w3.heap.size (refC g c d4.many (aftR d4) tr4 d4.dead d4.writes).toArray).heap[w3.heap.size]? = some (.cells (refC g c d4.many (aftR d4) tr4 d4.dead d4.writes).toArray 28 (0, 0))) := Lib.hid (setRow_heap _ _ _ _ _ _ HX10.out)
  have HB11 := Lib.hid (below_setRow HB10.out HNb.out.2.2 (refC g c d4.many (aftR d4) tr4 d4.dead d4.writes).toArray)
  generalize w10.setRow w3.heap.size (refC g c d4.many (aftR d4) tr4 d4.dead d4.writes).toArray = w11 at HD11 HR11 HX11 HB11 ⊢
  clear HD10 HR10 HX10 HB10
  go_wp2_with (first
    | (go_at_call 33; refine (HOp.out _ HD11.out).mono ?_; rintro e w12 ⟨rfl, ⟨n12, hd12⟩, hc12⟩; have HD12 := Lib.hid hd12; have HR12 := Lib.hid (HR11.out.chg2 hc12 HGB.out.1 HGB.out.2); have HX12 := Lib.hid ((hc12.block _ (heapLt HX11.out) HNb.out.1.symm HNb.out.2.1.symm).trans HX11.out); have HB12 := Lib.hid (HB11.out.trans (hc12.below HB11.out.size HBB.out.1 HBB.out.2)); clear hd12 hc12; refine Stop.out ?_))
  unfold Stop
  clear HD11 HR11 HX11 HB11
  obtain ⟨⟨z0, z1, z2, z3, z4⟩, _⟩ := cells5 HX12.out
  go_wp2_with (first
    | (go_at_call 34; refine (HRo.out _ tr4 HR12.out).mono ?_; rintro e w13 ⟨g5, c5', tr5, rfl, hr13, hb13⟩; have HD13 := Lib.hid (HD12.out.below hb13); have HR13 := Lib.hid hr13; have HX13 := Lib.hid (heap_on hb13 HX12.out); have HB13 := Lib.hid (below_then HB12.out hb13); clear hr13 hb13; refine Stop.out ?_))
  unfold Stop
  clear z0 z1 z2 z3 z4 HD12 HR12 HX12 HB12
  have HZ : Hid ((.agg zeroJ.toArray : Value) = .agg #[.slice none 0 0, .int .i64 0, .int .i64 0, .bool false, .int .i64 0, .int .i64 0, .int .i64 0, .bool false]) := Lib.hid rfl
  rw [HZ.out]
  obtain ⟨wc, hwc⟩ : ∃ wc, wc = w13.alloc (.cells #[.slice none 0 0, .int .i64 0, .int .i64 0, .bool false, .int .i64 0, .int .i64 0, .int .i64 0, .bool false] 70) := ⟨_, rfl⟩
  have b13 : Below w13.heap.size w13 wc := by rw [hwc]; exact below_alloc _ _
  have HD13c := Lib.hid (HD13.out.below b13)
  have HR13c := Lib.hid (HR13.out.below b13)
  have HX13c := Lib.hid (heap_on b13 HX13.out)
  have HB13c := Lib.hid (below_then HB13.out b13)
  have HWc := Lib.hid hwc
  clear hwc b13 HD13 HR13 HX13 HB13
  go_wp2_with (first
    | ((with_reducible refine wpList_store_row 28 (o := ⟨none, _, _, _, _, _⟩) ?a1 (.tmp 12) (.tmp 68) ?a2 w3.heap.size ?a3 (refC g5 c5' d5.many (aftR d5) tr5 d5.dead d5.writes) ?a4 ?a5 ?a6 (refC g c d4.many (aftR d4) tr4 d4.dead d4.writes).toArray ?a7 28 ?a8 ?_); (case a1 => rfl); (case a2 => rfl); (case a3 => rfl); (case a4 => kernel_rfl); (case a5 => exact one5 _ _ _ _ _ _ _); (case a6 => rfl); (case a7 => rfl); (case a8 => rw [← HWc.out]; exact HX13c.out); (try simp only [Act.put]); refine Stop.out ?_))
  unfold Stop
  rw [← HWc.out]
  have HD14 := Lib.hid (HD13c.out.setRow (b := w3.heap.size) (refC g5 c5' d5.many (aftR d5) tr5 d5.dead d5.writes).toArray HNb.out.1 HNb.out.2.1)
  have HR14 := Lib.hid (HR13c.out.setRow (b := w3.heap.size) (refC g5 c5' d5.many (aftR d5) tr5 d5.dead d5.writes).toArray (ref_box HR13c.out HM5.out HX13c.out (fun s e => by cases e)))
  have HX14 : Hid ((wc.setRow w3.heap.size (refC g5 c5' d5.many (aftR d5) tr5 d5.dead d5.writes).toArray).heap[w3.heap.size]? = some (.cells (refC g5 c5' d5.many (aftR d5) tr5 d5.dead d5.writes).toArray 28 (0, 0))) := Lib.hid (setRow_heap _ _ _ _ _ _ HX13c.out)
  have HB14 := Lib.hid (below_setRow HB13c.out HNb.out.2.2 (refC g5 c5' d5.many (aftR d5) tr5 d5.dead d5.writes).toArray)
  generalize wc.setRow w3.heap.size (refC g5 c5' d5.many (aftR d5) tr5 d5.dead d5.writes).toArray = w14 at HD14 HR14 HX14 HB14 ⊢
  clear HD13c HR13c HX13c HB13c HWc
  go_wp2_with (first
    | (go_at_call 35; refine (HSm.out _).mono ?_; rintro e w15 ⟨rfl, hb⟩; have HD15 := Lib.hid (HD14.out.below hb); have HR15 := Lib.hid (HR14.out.below hb); have HX15 := Lib.hid (heap_on hb HX14.out); have HB15 := Lib.hid (below_then HB14.out hb); clear hb; refine Stop.out ?_))
  unfold Stop
  obtain ⟨⟨z0, z1, z2, z3, z4⟩, _⟩ := cells5 HX15.out
  go_wp2_with (first
    | (go_at_call 24; refine (HLk.out _ n12 g5 c5' tr5 HD15.out HR15.out).mono ?_; rintro e w16 ⟨rfl, hb⟩; have HB16 := Lib.hid (below_then HB15.out hb); clear hb; refine Stop.out ?_))
  unfold Stop
  clear z0 z1 z2 z3 z4
  go_wp2_with (first
    | (go_at_call 32; refine (HLv.out _).mono ?_; rintro e w17 ⟨rfl, hb⟩; have HB17 := Lib.hid (below_then HB16.out hb); clear hb))
  go_ret
  exact ⟨rfl, HB17.out⟩
end Go.Proofs.Ytbbgmjfmpcbpbaa
