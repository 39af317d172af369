/- JournalPlays where both journals open. -/
import Derived.Test.YtbbgmjfmpcbpbaaJ50
import Derived.Test.YtbbgmjfmpcbpbaaJ48
import Derived.Test.YtbbgmjfmpcbpbaaJ42
namespace Go.Proofs.Ytbbgmjfmpcbpbaa
open Go.RowKit
set_option maxRecDepth 100000
set_option linter.unusedSimpArgs false
set_option linter.unusedVariables false

theorem play_prog {w W : World} {G B bm P m k n g c : Nat} {j : JnV} {d : DiskV} {tr : Int} (hI : PlayJ w G B bm P m k j d n g c tr W) (b : Text) (A : Option Addr) (cp : Nat) (hk : k ≤ 30) (hm1 : 1 ≤ m) (hm : m ≤ 40) (hb : b.length ≤ 600) (hc : b.length ≤ cp) (hT : Txt W A b)
    (p1 : P ≠ B) (p2 : P ≠ bm) (q1 : G ≠ P) (q2 : G ≠ B) (q3 : G ≠ bm) (l1 : w.heap.size ≤ P) (l2 : w.heap.size ≤ B) (l3 : w.heap.size ≤ bm) :
    Calls Try.prog 36 #[.pointer (some ⟨P, 0, none⟩), .slice A b.length cp] W fun e w' => e = .returned (.tuple #[.int .i64 (AppX d j b).2.2.1, .int .i64 (AppX d j b).2.2.2]) ∧ ∃ n2, n2 ≤ n + 1000 ∧ Dsk w' B bm n2 (AppX d j b).1 ∧ JnAt w' P (AppX d j b).2.1 ∧ w'.heap[G]? = some (.cells (jQ g c d.many (aftR d) tr d.dead d.writes j.many j.tail j.cut).toArray 70 (0, 0)) ∧ RefIs w' g c tr d ∧ Below w.heap.size w w' := by
  have hjb := hI.jb
  have hd := hI.dsk
  rw [← hjb] at hd p1
  have hmm := hI.mm
  refine (code_japp W P bm n j d b A cp hI.at_ hd hI.ok (by have := hI.nn; omega) (by have := hI.wr; omega) p1 p2 (by have := hI.few; omega) hI.tail (by omega) hc hT).mono ?_
  rintro e w' ⟨rfl, ⟨n', h1, h2⟩, h3, h4⟩
  rw [hjb] at h1 h4
  have a1 := ref_boxG hI.ref (by omega) hI.at_ (v0 := .pointer (some ⟨j.B, 0, none⟩)) rfl (fun s e => by cases e)
  have a2 := hI.ref.apart hI.dsk
  refine ⟨rfl, n', h2, h1, h3, (h4.block G (heapLt hI.box) q1 q2 q3).trans hI.box, hI.ref.chgJ h4 a1 a2.1 a2.2, hI.low.trans (h4.below hI.low.size l1 l2 l3)⟩
set_option maxHeartbeats 4000000 in
theorem jplays_yes (many : Int) (L : List PartV) (A : Option Addr) (cap : Nat) (l : List Text) (A9 : Option Addr) (cap9 : Nat) (after torn : Int) (w : World) (hP : PartsAt w A L) (hBt : BatsAt w A9 l) (hl9 : l.length ≤ 9223372036854775807) (ha : after ≤ 9223372036854775807) (hq : lightB many L = true) (hj : jlight l = true)
    (hcut : (WX (fusedD many.toNat (lawP L) after torn) (findT (fusedD many.toNat (lawP L) after torn).S (fusedD many.toNat (lawP L) after torn).many).2).2.2 = 0) :
    Calls Try.prog 7 #[.int .i64 many, .slice A L.length cap, .slice A9 l.length cap9, .int .i64 after, .int .i64 torn] w fun e w' => e = .returned (.bool true) ∧ Below w.heap.size w w' := by
  have HLi := Lib.hid (code_light many L A cap w hP)
  have HLj : Hid (∀ W, Below w.heap.size w W → Calls Try.prog 31 #[.slice A9 l.length cap9] W fun e w' => e = .returned (.bool true) ∧ Below W.heap.size W w') := Lib.hid (fun W hb => by rw [← hj]; exact (code_jlight l A9 cap9 W hl9 (hBt.below hb)).mono fun e w' h => ⟨h.1, h.2 ▸ Below.refl _ _⟩)
  have HLv := Lib.hid jn_lives
  rw [hq] at HLi
  obtain ⟨m, rfl, hm1, hm2, hL, hl⟩ := lightB_is hq
  rw [Int.toNat_natCast] at hcut
  have HP := Lib.hid hP
  have HA := Lib.hid ha
  have HM := Lib.hid (And.intro hm1 (And.intro hm2 (And.intro hL hl)))
  have H64 := Lib.hid (lawP_64 L)
  have HPl := Lib.hid (lawP_len20 L hL hl)
  have HBt := Lib.hid hBt
  have Hlj := Lib.hid hj
  clear hq hP hm1 hm2 hL hl ha hj hBt hl9
  obtain ⟨P, hPP⟩ : ∃ P, P = lawP L := ⟨_, rfl⟩
  have HPP := Lib.hid hPP
  rw [← hPP] at H64 HPl hcut
  have HCut := Lib.hid hcut
  clear hPP hcut
  go_enter Try.func7, Try.ntmps7
  go_wp2_with (first
    | (go_at_call 11; refine HLi.out.mono ?_; rintro e w0 ⟨rfl, hb1⟩; have HB0 := Lib.hid hb1; clear hb1)
    | (go_at_call 31; refine (HLj.out _ HB0.out).mono ?_; rintro e w1 ⟨rfl, hb1⟩; have HB1 := Lib.hid (below_then HB0.out hb1); clear hb1; refine Stop.out ?_))
  unfold Stop
  have HPg : Hid (Calls Try.prog 14 #[.slice A L.length cap] w1 fun e w' => ∃ A2 c2, e = .returned (.slice A2 P.length c2) ∧ SecsAt w' A2 c2 P ∧ Below w1.heap.size w1 w') := Lib.hid (by
    refine (code_lpages L A cap w1 (HP.out.below HB1.out) HM.out.2.2.1 HM.out.2.2.2).mono ?_
    rintro e w' ⟨v, rfl, ho, _, hb⟩
    obtain ⟨A2, c2, rfl, hs⟩ := ho.secs
    rw [← HPP.out] at hs ⊢
    exact ⟨A2, c2, rfl, hs, hb⟩)
  clear HLi HLj HB0
  go_wp2_with (first
    | (go_at_call 14; refine HPg.out.mono ?_; rintro e w2 ⟨A2, c2, rfl, hs2, hb2⟩; have HS2 := Lib.hid hs2; have HB2 := Lib.hid (below_then HB1.out hb2); clear hs2 hb2; refine Stop.out ?_))
  unfold Stop
  go_wp2_with (first
    | (go_at_call 13; refine (code_laid m P A2 c2 w2 HM.out.1 HM.out.2.1 (by have := HPl.out; omega) H64.out HS2.out).mono ?_; rintro e w3 ⟨B, bm, nn, g, c, tr, rfl, hd, hnn, hr, hok, hB, hbm, hgB, hgb, hb3⟩; have HD3 := Lib.hid (And.intro hd (And.intro hnn hok)); have HR3 := Lib.hid hr; have HBB := Lib.hid (And.intro (Nat.le_trans HB2.out.size hB) (Nat.le_trans HB2.out.size hbm)); have HGB := Lib.hid (And.intro hgB hgb); have HB3 := Lib.hid (below_then HB2.out hb3); clear hd hnn hr hok hB hbm hgB hgb hb3; unfold spelt; refine Stop.out ?_))
  unfold Stop
  have HLw : Hid (LawD m (laidD m P (min m P.length))) := Lib.hid (laid_lawD H64.out HM.out.2.1 HD3.out.2.2)
  unfold fusedD at HCut
  generalize laidD m P (min m P.length) = d at HD3 HR3 HLw HCut ⊢
  have H6d : Hid (∀ i, i < d.many → (d.S i).length = 64) := Lib.hid (sec_64 HD3.out.1)
  have HMd : Hid (1 ≤ d.many ∧ d.many ≤ 40) := Lib.hid (by rw [HLw.out.many]; exact ⟨HM.out.1, HM.out.2.1⟩)
  obtain ⟨d4, hd4⟩ : ∃ d4, d4 = (FX d after torn).1 := ⟨_, rfl⟩
  obtain ⟨f4, hf4⟩ : ∃ f4, f4 = (FX d after torn).2 := ⟨_, rfl⟩
  rw [← hd4] at HCut
  have HF4 : Hid (OkD d4 ∧ d4.many = d.many ∧ d4.S = d.S ∧ d4.writes = d.writes ∧ d4.dead = d.dead) := Lib.hid (by rw [hd4]; exact FX_facts HD3.out.2.2 HA.out)
  have H64d : Hid (∀ k, k < d4.many → (d4.S k).length = 64) := Lib.hid (fun k hk => by rw [HF4.out.2.2.1]; rw [HF4.out.2.1] at hk; exact H6d.out k hk)
  have HDd : Hid (d4.dead = false) := Lib.hid (by rw [HF4.out.2.2.2.2]; exact HLw.out.dead)
  have HWr4 : Hid (d4.writes ≤ 1000000) := Lib.hid (by rw [HF4.out.2.2.2.1]; have := HLw.out.wr; omega)
  have HM4 : Hid (1 ≤ d4.many ∧ d4.many ≤ 1000) := Lib.hid (by rw [HF4.out.2.1]; have := HMd.out; omega)
  obtain ⟨d5, hd5⟩ : ∃ d5, d5 = (WX d4 (findT d4.S d4.many).2).1 := ⟨_, rfl⟩
  obtain ⟨X, hX⟩ : ∃ X, X = (findT d4.S d4.many).1 := ⟨_, rfl⟩
  obtain ⟨t0, ht0⟩ : ∃ t0, t0 = (findT d4.S d4.many).2 := ⟨_, rfl⟩
  have HXl : Hid (X.length ≤ 40 ∧ t0 ≤ d4.many) := Lib.hid (by
    have h1 := findT_len d4.S d4.many
    have h2 := findT_le d4.S d4.many
    have h3 := HMd.out
    have h4 := HF4.out.2.1
    rw [hX, ht0]
    omega)
  have HWi : Hid (wipeL d4 0 (dirtyL d4.S (findT d4.S d4.many).2 d4.many) = (d5, (WX d4 (findT d4.S d4.many).2).2.1, 0)) := Lib.hid (by
    have hy := HCut.out
    have e : sreachV d4 ((findT d4.S d4.many).2 : Nat) = 0 := Classical.byContradiction fun q => by unfold WX at hy; rw [if_neg q] at hy; exact q hy
    rw [hd5]
    unfold WX at hy ⊢
    rw [if_pos e] at hy ⊢
    rw [Int.toNat_natCast] at hy ⊢
    rw [← hy])
  have HFu : Hid (∀ W V, V = W → Dsk W B bm nn d → Calls Try.prog 20 #[.pointer (some ⟨B, 0, none⟩), .int .i64 after, .int .i64 torn] V fun e w' => e = .returned (.int .i64 f4) ∧ Dsk w' B bm nn d4 ∧ ChgD W w' B bm) := Lib.hid (fun W V hV h => by rw [hd4, hf4, hV]; exact fuse_any W B bm nn d after torn h)
  have HRu : Hid (∀ W, RefIs W g c tr d → Calls Try.prog 21 #[spelt g c tr d, .int .i64 after, .int .i64 torn] W fun e w' => ∃ tr4, e = .returned (.tuple #[spelt g c tr4 d4, .int .i64 f4]) ∧ RefIs w' g c tr4 d4 ∧ Below W.heap.size W w') := Lib.hid (fun W h => by rw [hd4, hf4]; exact rfuse_any W g c tr d after torn h)
  have HOp : Hid (∀ W, Dsk W B bm nn d4 → Calls Try.prog 33 #[.pointer (some ⟨B, 0, none⟩)] W fun e w' => ∃ P A4 c4 n, e = .returned (.tuple #[.pointer (some ⟨P, 0, none⟩), .slice A4 X.length c4, .int .i64 0]) ∧ JnAt w' P ⟨B, t0, false, X.length⟩ ∧ SecsAt w' A4 c4 X ∧ Dsk w' B bm n d5 ∧ n ≤ 80 ∧ W.heap.size ≤ P ∧ ChgD W w' B bm) := Lib.hid (fun W h => by
    refine (code_jopen W B bm nn d4 d5 _ h HF4.out.1 HDd.out (by have := HD3.out.2.1; omega) HWr4.out HWi.out (by rw [← hX]; have := HXl.out; omega)).mono ?_
    rintro e w' ⟨P, A4, c4, n, rfl, q1, q2, q3, q4, q5, q6⟩
    rw [← hX, ← ht0] at q1
    rw [← hX] at q2 ⊢
    exact ⟨P, A4, c4, n, rfl, q1, q2, q3, by have h1 := HD3.out.2.1; have h2 := HMd.out; have h3 := HF4.out.2.1; omega, q5, q6⟩)
  have HRo : Hid (∀ W tr4, RefIs W g c tr4 d4 → Calls Try.prog 34 #[spelt g c tr4 d4] W fun e w' => ∃ g5 c5 tr5 A5 cc5, e = .returned (.tuple #[.agg #[.slice (some ⟨g5, 0, none⟩) d5.many c5, .int .i64 (aftR d5), .int .i64 tr5, .bool d5.dead, .int .i64 d5.writes, .int .i64 X.length, .int .i64 t0, .bool false], .slice A5 X.length cc5, spelt g5 c5 tr5 d5, .int .i64 0]) ∧ RefIs w' g5 c5 tr5 d5 ∧ SecsAt w' A5 cc5 X ∧ Below W.heap.size W w') := Lib.hid (fun W tr4 h => by
    rw [hd5, hX, ht0]
    exact ref_jopen_yes W g c tr4 d4 h HF4.out.1 HDd.out HM4.out.1 HM4.out.2 HWr4.out H64d.out HCut.out)
  have HLk : Hid (∀ W n g5 c5 tr5, Dsk W B bm n d5 → RefIs W g5 c5 tr5 d5 → Calls Try.prog 24 #[.pointer (some ⟨B, 0, none⟩), spelt g5 c5 tr5 d5] W fun e w' => e = .returned (.bool true) ∧ Below W.heap.size W w') := Lib.hid (fun W n g5 c5 tr5 q1 q2 => play_like W B bm n g5 c5 tr5 d5 q1 q2)
  have HSm : Hid (∀ W A4 c4 A5 c5, SecsAt W A4 c4 X → SecsAt W A5 c5 X → Calls Try.prog 35 #[.slice A4 X.length c4, .slice A5 X.length c5] W fun e w' => e = .returned (.bool true) ∧ Below W.heap.size W w') := Lib.hid (fun W A4 c4 A5 c5 q1 q2 => code_jsame X A4 A5 c4 c5 W (by have := HXl.out; omega) q1 q2)
  have HMn : Hid (d4.many = d.many) := Lib.hid HF4.out.2.1
  have HM5 : Hid (1 ≤ d5.many) := Lib.hid (by rw [hd5, WX_many]; exact HM4.out.1)
  have H5 : Hid (OkD d5 ∧ d5.many = d.many ∧ d5.writes ≤ 2000 ∧ (∀ k, k < d5.many → (d5.S k).length = 64)) := Lib.hid (by
    obtain ⟨q1, q2, q3⟩ := WX_keeps d4 (findT d4.S d4.many).2 HF4.out.1 H64d.out
    have q4 := HF4.out.2.2.2.1
    have q5 := HLw.out.wr
    have q6 := HMd.out
    have q7 := HF4.out.2.1
    have q8 := WX_many d4 (findT d4.S d4.many).2
    rw [hd5]
    exact ⟨q1, q8.trans q7, by omega, q3⟩)
  clear hd4 hf4 hd5 hX ht0 HPg HF4 HCut HWi
  obtain ⟨wb, hwb⟩ : ∃ wb, wb = w3.alloc (.cells #[.slice (some ⟨g, 0, none⟩) d.many c, .int .i64 (aftR d), .int .i64 tr, .bool d.dead, .int .i64 d.writes] 28) := ⟨_, rfl⟩
  have HBb : Hid (Below w.heap.size w wb) := Lib.hid (by rw [hwb]; exact below_then HB3.out (below_alloc _ _))
  have HDb : Hid (Dsk wb B bm nn d) := Lib.hid (by rw [hwb]; exact HD3.out.1.below (below_alloc _ _))
  have HRb : Hid (RefIs wb g c tr d) := Lib.hid (by rw [hwb]; exact HR3.out.below (below_alloc _ _))
  have HXb : Hid (wb.heap[w3.heap.size]? = some (.cells (refC g c d.many (aftR d) tr d.dead d.writes).toArray 28 (0, 0))) := Lib.hid (by rw [hwb]; exact heap_alloc_new w3 _)
  have HNb : Hid (B ≠ w3.heap.size ∧ bm ≠ w3.heap.size ∧ w.heap.size ≤ w3.heap.size) := Lib.hid ⟨Nat.ne_of_lt HD3.out.1.lt, Nat.ne_of_lt HD3.out.1.2.1.lt, HB3.out.size⟩
  have HWB := Lib.hid hwb
  clear hwb
  go_wp2_with (first
    | (go_at_call 20; refine (HFu.out wb _ HWB.out.symm HDb.out).mono ?_; rintro e w9 ⟨rfl, hd9, hc9⟩; have HD9 := Lib.hid hd9; have HR9 := Lib.hid (HRb.out.chg2 hc9 HGB.out.1 HGB.out.2); have HX9 := Lib.hid ((hc9.block _ (heapLt HXb.out) HNb.out.1.symm HNb.out.2.1.symm).trans HXb.out); have HB9 := Lib.hid (HBb.out.trans (hc9.below HBb.out.size HBB.out.1 HBB.out.2)); clear hd9 hc9; refine Stop.out ?_))
  unfold Stop
  clear HWB HBb HDb HRb HXb HB3 HR3
  obtain ⟨⟨z0, z1, z2, z3, z4⟩, _⟩ := cells5 HX9.out
  go_wp2_with (first
    | (go_at_call 21; refine (HRu.out _ HR9.out).mono ?_; rintro e w10 ⟨tr4, rfl, hr10, hb10⟩; have HD10 := Lib.hid (HD9.out.below hb10); have HR10 := Lib.hid hr10; have HX10 := Lib.hid (heap_on hb10 HX9.out); have HB10 := Lib.hid (below_then HB9.out hb10); clear hr10 hb10; refine Stop.out ?_))
  unfold Stop
  clear z0 z1 z2 z3 z4 HD9 HR9 HX9 HB9
  go_wp2_with (first
    | ((with_reducible refine wpList_store_row 28 (o := ⟨none, _, _, _, _, _⟩) ?a1 (.tmp 12) (.tmp 55) ?a2 w3.heap.size ?a3 (refC g c d4.many (aftR d4) tr4 d4.dead d4.writes) ?a4 ?a5 ?a6 (refC g c d.many (aftR d) tr d.dead d.writes).toArray ?a7 28 ?a8 ?_); (case a1 => rfl); (case a2 => rfl); (case a3 => rfl); (case a4 => kernel_rfl); (case a5 => exact one5 _ _ _ _ _ _ _); (case a6 => rfl); (case a7 => rfl); (case a8 => exact HX10.out); (try simp only [Act.put]); refine Stop.out ?_))
  unfold Stop
  have HD11 := Lib.hid (HD10.out.setRow (b := w3.heap.size) (refC g c d4.many (aftR d4) tr4 d4.dead d4.writes).toArray HNb.out.1 HNb.out.2.1)
  have HR11 := Lib.hid (HR10.out.setRow (b := w3.heap.size) (refC g c d4.many (aftR d4) tr4 d4.dead d4.writes).toArray (ref_box HR10.out (by rw [HMn.out]; exact HMd.out.1) HX10.out (fun s e => by cases e)))
  have HX11 : Hid ((w10.setRow w3.heap.size (refC g c d4.many (aftR d4) tr4 d4.dead d4.writes).toArray).heap[w3.heap.size]? = some (.cells (refC g c d4.many (aftR d4) tr4 d4.dead d4.writes).toArray 28 (0, 0))) := Lib.hid (setRow_heap _ _ _ _ _ _ HX10.out)
  have HB11 := Lib.hid (below_setRow HB10.out HNb.out.2.2 (refC g c d4.many (aftR d4) tr4 d4.dead d4.writes).toArray)
  generalize w10.setRow w3.heap.size (refC g c d4.many (aftR d4) tr4 d4.dead d4.writes).toArray = w11 at HD11 HR11 HX11 HB11 ⊢
  clear HD10 HR10 HX10 HB10
  go_wp2_with (first
    | (go_at_call 33; refine (HOp.out _ HD11.out).mono ?_; rintro e w12 ⟨P, A4, c4, n12, rfl, hj12, hs12, hd12, hn12, hP12, hc12⟩; have HJ12 := Lib.hid hj12; have HPB := Lib.hid (And.intro (Nat.ne_of_gt (Nat.lt_of_lt_of_le HD11.out.lt hP12)) (Nat.ne_of_gt (Nat.lt_of_lt_of_le HD11.out.2.1.lt hP12))); have HS12 := Lib.hid hs12; have HN12 := Lib.hid hn12; have HP12 := Lib.hid (Nat.le_trans HB11.out.size hP12); have HPx := Lib.hid (Nat.lt_of_lt_of_le (heapLt HX11.out) hP12); have HD12 := Lib.hid hd12; have HR12 := Lib.hid (HR11.out.chg2 hc12 HGB.out.1 HGB.out.2); have HX12 := Lib.hid ((hc12.block _ (heapLt HX11.out) HNb.out.1.symm HNb.out.2.1.symm).trans HX11.out); have HB12 := Lib.hid (HB11.out.trans (hc12.below HB11.out.size HBB.out.1 HBB.out.2)); clear hj12 hs12 hn12 hP12 hd12 hc12; refine Stop.out ?_))
  unfold Stop
  clear HD11 HR11 HX11 HB11
  obtain ⟨⟨z0, z1, z2, z3, z4⟩, _⟩ := cells5 HX12.out
  go_wp2_with (first
    | (go_at_call 34; refine (HRo.out _ tr4 HR12.out).mono ?_; rintro e w13 ⟨g5, c5', tr5, A5, cc5, rfl, hr13, hs13, hb13⟩; have HS13 := Lib.hid (And.intro (HS12.out.on hb13) hs13); have HJ13 := Lib.hid (HJ12.out.below hb13); have HD13 := Lib.hid (HD12.out.below hb13); have HR13 := Lib.hid hr13; have HX13 := Lib.hid (heap_on hb13 HX12.out); have HRo13 := Lib.hid (HR12.out.below hb13); have HB13 := Lib.hid (below_then HB12.out hb13); clear hr13 hs13 hb13; refine Stop.out ?_))
  unfold Stop
  clear z0 z1 z2 z3 z4 HD12 HR12 HX12 HB12
  obtain ⟨wc, hwc⟩ : ∃ wc, wc = w13.alloc (.cells #[.slice (some ⟨g5, 0, none⟩) d5.many c5', .int .i64 (aftR d5), .int .i64 tr5, .bool d5.dead, .int .i64 d5.writes, .int .i64 X.length, .int .i64 t0, .bool false] 70) := ⟨_, rfl⟩
  have b13 : Below w13.heap.size w13 wc := by rw [hwc]; exact below_alloc _ _
  have HD13c := Lib.hid (HD13.out.below b13)
  have HR13c := Lib.hid (HR13.out.below b13)
  have HX13c := Lib.hid (heap_on b13 HX13.out)
  have HB13c := Lib.hid (below_then HB13.out b13)
  have HS13c := Lib.hid (And.intro (HS13.out.1.on b13) (HS13.out.2.on b13))
  have HJ13c := Lib.hid (HJ13.out.below b13)
  have HQ13c : Hid (wc.heap[w13.heap.size]? = some (.cells (jQ g5 c5' d5.many (aftR d5) tr5 d5.dead d5.writes X.length t0 false).toArray 70 (0, 0))) := Lib.hid (by rw [hwc]; exact heap_alloc_new _ _)
  have HWc := Lib.hid hwc
  have HRoc := Lib.hid (HRo13.out.below b13)
  have HLt13 := Lib.hid (heapLt HX13.out)
  have HG : Hid (w.heap.size ≤ w13.heap.size ∧ w13.heap.size ≠ P ∧ w13.heap.size ≠ B ∧ w13.heap.size ≠ bm) := Lib.hid ⟨HB13.out.size, Nat.ne_of_gt (heapLt HJ13.out), Nat.ne_of_gt HD13.out.lt, Nat.ne_of_gt HD13.out.2.1.lt⟩
  clear hwc b13 HRo13 HD13 HR13 HX13 HB13
  go_wp2_with (first
    | ((with_reducible refine wpList_store_row 28 (o := ⟨none, _, _, _, _, _⟩) ?a1 (.tmp 12) (.tmp 68) ?a2 w3.heap.size ?a3 (refC g5 c5' d5.many (aftR d5) tr5 d5.dead d5.writes) ?a4 ?a5 ?a6 (refC g c d4.many (aftR d4) tr4 d4.dead d4.writes).toArray ?a7 28 ?a8 ?_); (case a1 => rfl); (case a2 => rfl); (case a3 => rfl); (case a4 => kernel_rfl); (case a5 => exact one5 _ _ _ _ _ _ _); (case a6 => rfl); (case a7 => rfl); (case a8 => rw [← HWc.out]; exact HX13c.out); (try simp only [Act.put]); refine Stop.out ?_))
  unfold Stop
  rw [← HWc.out]
  have HD14 := Lib.hid (HD13c.out.setRow (b := w3.heap.size) (refC g5 c5' d5.many (aftR d5) tr5 d5.dead d5.writes).toArray HNb.out.1 HNb.out.2.1)
  have HR14 := Lib.hid (HR13c.out.setRow (b := w3.heap.size) (refC g5 c5' d5.many (aftR d5) tr5 d5.dead d5.writes).toArray (ref_box HR13c.out HM5.out HX13c.out (fun s e => by cases e)))
  have HX14 : Hid ((wc.setRow w3.heap.size (refC g5 c5' d5.many (aftR d5) tr5 d5.dead d5.writes).toArray).heap[w3.heap.size]? = some (.cells (refC g5 c5' d5.many (aftR d5) tr5 d5.dead d5.writes).toArray 28 (0, 0))) := Lib.hid (setRow_heap _ _ _ _ _ _ HX13c.out)
  have HB14 := Lib.hid (below_setRow HB13c.out HNb.out.2.2 (refC g5 c5' d5.many (aftR d5) tr5 d5.dead d5.writes).toArray)
  have HJ14 : Hid (JnAt (wc.setRow w3.heap.size (refC g5 c5' d5.many (aftR d5) tr5 d5.dead d5.writes).toArray) P ⟨B, t0, false, X.length⟩) := Lib.hid (by
    have h := HJ13c.out
    unfold JnAt at h ⊢
    exact (setRow_other _ _ _ _ (by have := HPx.out; omega)).trans h)
  have HQ14 : Hid ((wc.setRow w3.heap.size (refC g5 c5' d5.many (aftR d5) tr5 d5.dead d5.writes).toArray).heap[w13.heap.size]? = some (.cells (jQ g5 c5' d5.many (aftR d5) tr5 d5.dead d5.writes X.length t0 false).toArray 70 (0, 0))) := Lib.hid ((setRow_other _ _ _ _ (by have := HLt13.out; omega)).trans HQ13c.out)
  have HS14 := Lib.hid (And.intro (HS13c.out.1.box HX13c.out HRoc.out HM4.out.1 (refC g5 c5' d5.many (aftR d5) tr5 d5.dead d5.writes).toArray) (HS13c.out.2.box HX13c.out HRoc.out HM4.out.1 (refC g5 c5' d5.many (aftR d5) tr5 d5.dead d5.writes).toArray))
  generalize wc.setRow w3.heap.size (refC g5 c5' d5.many (aftR d5) tr5 d5.dead d5.writes).toArray = w14 at HD14 HR14 HX14 HB14 HJ14 HQ14 HS14 ⊢
  clear HX13c HRoc HS13c HJ13c HQ13c HD13c HR13c HB13c HWc HLt13
  go_wp2_with (first
    | (go_at_call 35; refine (HSm.out _ A4 c4 A5 cc5 HS14.out.1 HS14.out.2).mono ?_; rintro e w15 ⟨rfl, hb15⟩; have HD15 := Lib.hid (HD14.out.below hb15); have HR15 := Lib.hid (HR14.out.below hb15); have HX15 := Lib.hid (heap_on hb15 HX14.out); have HQ15 := Lib.hid (heap_on hb15 HQ14.out); have HJ15 := Lib.hid (HJ14.out.below hb15); have HB15 := Lib.hid (below_then HB14.out hb15); clear hb15; refine Stop.out ?_))
  unfold Stop
  clear HS14 HD14 HR14 HX14 HQ14 HJ14 HB14
  obtain ⟨⟨z0, z1, z2, z3, z4⟩, _⟩ := cells5 HX15.out
  go_wp2_with (first
    | (go_at_call 24; refine (HLk.out _ n12 g5 c5' tr5 HD15.out HR15.out).mono ?_; rintro e w16 ⟨rfl, hb⟩; have HD16 := Lib.hid (HD15.out.below hb); have HR16 := Lib.hid (HR15.out.below hb); have HQ16 := Lib.hid (heap_on hb HQ15.out); have HJ16 := Lib.hid (HJ15.out.below hb); have HB16 := Lib.hid (below_then HB15.out hb); clear hb; refine Stop.out ?_))
  unfold Stop
  clear z0 z1 z2 z3 z4 HD15 HR15 HX15 HQ15 HJ15 HB15
  generalize w13.heap.size = G at HQ16 HG ⊢
  clear HSm HOp HRo HLk HFu HRu
  go_wp2
  have HLl : Hid (l.length ≤ 30 ∧ ∀ q (h : q < l.length), l[q].length ≤ 600) := Lib.hid (by have h := of_decide_eq_true (show decide _ = true from Hlj.out); exact ⟨h.2, h.1⟩)
  have HI0 : Hid (PlayJ w G B bm P m 0 ⟨B, t0, false, X.length⟩ d5 n12 g5 c5' tr5 w16) := Lib.hid ⟨HJ16.out, HD16.out, HQ16.out, HR16.out, rfl, H5.out.1, H5.out.2.2.2, H5.out.2.1.trans HLw.out.many, by have := H5.out.2.2.1; omega, by have := HN12.out; omega, by have h1 := HXl.out.2; have h2 := HMn.out; have h3 := H5.out.2.1; show t0 ≤ _; omega, by have := HXl.out.1; show X.length ≤ _; omega, HB16.out⟩
  have HMm : Hid (1 ≤ m ∧ m ≤ 40) := Lib.hid ⟨HM.out.1, HM.out.2.1⟩
  clear HP HA HM HPl H64 HPP HB1 HS2 HB2 HGB HLw HD3 H6d HMd H64d HDd HWr4 HM4 HXl HMn HM5 H5 HNb HN12 HPx HJ16 HD16 HQ16 HR16 HB16 HJ12 HS12 HJ13 HS13 Hlj
  obtain ⟨ll, hll⟩ : ∃ ll, ll = l.length := ⟨_, rfl⟩
  rw [← hll]
  have Hll := Lib.hid hll
  clear hll
  go_loopw [21, 22, 23, 24, 25, 97] (fun v21 v22 v23 v24 v25 i wr => ∃ (k : Nat) (j : JnV) (d2 : DiskV) (n2 g2 c2 : Nat) (tr2 : Int), k ≤ ll ∧ i = .int .i64 (k : Nat) ∧ Hid (PlayJ w G B bm P m k j d2 n2 g2 c2 tr2 wr)) (fun _ _ _ _ _ i _ => roundsLeft ll i)
  case atStart => exact ⟨0, _, _, _, _, _, _, Nat.zero_le _, rfl, HI0⟩
  case round =>
    obtain ⟨k, j1, d1, n1, g1, c1, tr1, hk, rfl, HI⟩ := hrel
    clear HI0
    by_cases hlt : k < ll
    · have hlt' : (k : Int) < (ll : Int) := by omega
      have hge : ¬ ll ≤ k := by omega
      have HMs : Hid (roundsLeft ll (.int .i64 ((k : Int) + 1)) < roundsLeft ll (.int .i64 (k : Int))) := Lib.hid (roundsLeft_next _ _ hlt)
      have HJk : Hid (ll ≤ 30 ∧ k < ll) := Lib.hid ⟨by rw [Hll.out]; exact HLl.out.1, hlt⟩
      have hwk : wrap64 ((k : Int) + 1) = (k : Int) + 1 := by have := HJk.out.1; unfold wrap64; omega
      have hkL : k < l.length := by rw [← Hll.out]; exact hlt
      obtain ⟨b0, off, Ai, ci, rfl, hbl, hc0, hl1, hl2, hT0, hnn⟩ := HBt.out k hkL
      have hc := (HI.out.low.cell (p := ⟨b0, off + k, none⟩) hbl).trans hc0
      have hT := hT0.below HI.out.low
      have HL6 : l[k].length ≤ 600 := HLl.out.2 k hkL
      obtain ⟨b, hbb⟩ : ∃ b, b = l[k] := ⟨_, rfl⟩
      rw [← hbb] at hc hl1 hT hT0 HL6
      have HT0 := Lib.hid hT0
      have HT := Lib.hid hT
      have HLb := Lib.hid (And.intro HL6 hl1)
      clear hl1 hl2 hT hT0 hc0 hnn HL6 hbb
      have HAp : Hid (Calls Try.prog 36 #[.pointer (some ⟨P, 0, none⟩), .slice Ai b.length ci] wr fun e w' => e = .returned (.tuple #[.int .i64 (AppX d1 j1 b).2.2.1, .int .i64 (AppX d1 j1 b).2.2.2]) ∧ ∃ n2, n2 ≤ n1 + 1000 ∧ Dsk w' B bm n2 (AppX d1 j1 b).1 ∧ JnAt w' P (AppX d1 j1 b).2.1 ∧ w'.heap[G]? = some (.cells (jQ g1 c1 d1.many (aftR d1) tr1 d1.dead d1.writes j1.many j1.tail j1.cut).toArray 70 (0, 0)) ∧ RefIs w' g1 c1 tr1 d1 ∧ Below w.heap.size w w') := Lib.hid (play_prog HI.out b Ai ci (by have := HJk.out; omega) HMm.out.1 HMm.out.2 HLb.out.1 HLb.out.2 HT.out HPB.out.1 HPB.out.2 HG.out.2.1 HG.out.2.2.1 HG.out.2.2.2 HP12.out HBB.out.1 HBB.out.2)
      have HAr : Hid (∀ V, RefIs V g1 c1 tr1 d1 → Txt V Ai b → Calls Try.prog 37 #[.agg (jQ g1 c1 d1.many (aftR d1) tr1 d1.dead d1.writes j1.many j1.tail j1.cut).toArray, .slice Ai b.length ci] V (AppRR V (AppX d1 j1 b))) := Lib.hid (fun V h1 h2 => ref_japp V g1 c1 tr1 d1 j1 b Ai ci h1 HI.out.ok (by have h3 := HI.out.mm; have h4 := HMm.out.2; omega) (by have h3 := HI.out.mm; have h4 := HMm.out.1; omega) (by have h3 := HI.out.wr; have h4 := HJk.out; omega) HI.out.h64 (by have h3 := HI.out.few; have h4 := HJk.out; omega) HI.out.tail (by have := HLb.out.1; omega) HLb.out.2 h2)
      have HFin0 := Lib.hid (AppX_keeps d1 j1 b HI.out.ok HI.out.h64 HI.out.tail (by have := HLb.out.1; omega))
      have HI1 := Lib.hid (And.intro HI.out.jb (And.intro HI.out.mm (And.intro HI.out.wr (And.intro HI.out.nn (And.intro HI.out.few HI.out.tail)))))
      generalize b.length = bl at hc HAp HAr HLb ⊢
      obtain ⟨d2, hd2⟩ : ∃ d2, d2 = (AppX d1 j1 b).1 := ⟨_, rfl⟩
      obtain ⟨j2, hj2⟩ : ∃ j2, j2 = (AppX d1 j1 b).2.1 := ⟨_, rfl⟩
      obtain ⟨xn, hxn⟩ : ∃ xn, xn = (AppX d1 j1 b).2.2.1 := ⟨_, rfl⟩
      obtain ⟨xe, hxe⟩ : ∃ xe, xe = (AppX d1 j1 b).2.2.2 := ⟨_, rfl⟩
      unfold AppRR at HAr
      rw [← hd2, ← hj2, ← hxn, ← hxe] at HAp
      simp only [← hd2, ← hj2, ← hxn, ← hxe] at HAr
      rw [← hd2, ← hj2] at HFin0
      clear hd2 hj2 hxn hxe HI
      go_wp2_with (first
        | (go_at_call 36; refine HAp.out.mono ?_; rintro e w17 ⟨rfl, n2, hn2, hd17, hj17, hb17, hr17, hl17⟩; have HN2 := Lib.hid hn2; have HD17 := Lib.hid hd17; have HJ17 := Lib.hid hj17; have HX17 := Lib.hid hb17; have HR17 := Lib.hid hr17; have HT17 := Lib.hid (HT0.out.below hl17); have HB17 := Lib.hid hl17; clear hn2 hd17 hj17 hb17 hr17 hl17; refine Stop.out ?_))
      unfold Stop
      clear HAp hc
      go_wp2_with (first
        | ((with_reducible refine wpList_load_row (o := ⟨some 108, _, _, _, _, _⟩) ?a1 70 (.tmp 17) ?a2 G ?a3 70 (jQ g1 c1 d1.many (aftR d1) tr1 d1.dead d1.writes j1.many j1.tail j1.cut).toArray (0, 0) _ HX17.out Try.underlying70 ?a4 ?a5 ?_); (case a1 => rfl); (case a2 => rfl); (case a3 => rfl); (case a4 => rfl); (case a5 => kernel_rfl); refine Stop.out ?_))
      unfold Stop
      try simp only [Act.put]
      go_wp2_with (first
        | (go_at_call 37; refine (HAr.out _ HR17.out HT17.out).mono ?_; rintro e w18 ⟨g2, c2, tr2, rfl, hr18, hb18⟩; have HD18 := Lib.hid (HD17.out.below hb18); have HJ18 := Lib.hid (HJ17.out.below hb18); have HX18 := Lib.hid (heap_on hb18 HX17.out); have HR18 := Lib.hid hr18; have HB18 := Lib.hid (below_then HB17.out hb18); clear hr18 hb18; refine Stop.out ?_))
      unfold Stop
      clear HD17 HJ17 HX17 HR17 HT17 HB17 HAr
      go_wp2_with (first
        | ((with_reducible refine wpList_store_rowK 70 (o := ⟨none, _, _, _, _, _⟩) ?b1 (.tmp 17) (.tmp 111) ?b2 G ?b3 (jQ g2 c2 d2.many (aftR d2) tr2 d2.dead d2.writes j2.many j2.tail j2.cut) ?b4 ?b7 ?b5 (jQ g1 c1 d1.many (aftR d1) tr1 d1.dead d1.writes j1.many j1.tail j1.cut).toArray ?b6 _ HX18.out ?_); (case b1 => rfl); (case b2 => rfl); (case b3 => rfl); (case b4 => kernel_rfl); (case b5 => rfl); (case b6 => rfl); (case b7 => exact one8Q _ _ _ _ _ _ _ _ _ _); (try simp only [Act.put]); refine Stop.out ?_))
      unfold Stop
      have HDm : Hid (1 ≤ d2.many) := Lib.hid (by rw [HFin0.out.1, HI1.out.2.1]; exact HMm.out.1)
      have HRw := Lib.hid (HR18.out.setRow (b := G) (jQ g2 c2 d2.many (aftR d2) tr2 d2.dead d2.writes j2.many j2.tail j2.cut).toArray (ref_boxG HR18.out HDm.out HX18.out (v0 := .slice (some ⟨g1, 0, none⟩) d1.many c1) rfl (fun s e => by cases e)))
      have HDw := Lib.hid (HD18.out.setRow (b := G) (jQ g2 c2 d2.many (aftR d2) tr2 d2.dead d2.writes j2.many j2.tail j2.cut).toArray HG.out.2.2.1.symm HG.out.2.2.2.symm)
      have HJw : Hid (JnAt (w18.setRow G (jQ g2 c2 d2.many (aftR d2) tr2 d2.dead d2.writes j2.many j2.tail j2.cut).toArray) P j2) := Lib.hid (by
        have h := HJ18.out
        unfold JnAt at h ⊢
        exact (setRow_other _ _ _ _ HG.out.2.1.symm).trans h)
      have HXw : Hid ((w18.setRow G (jQ g2 c2 d2.many (aftR d2) tr2 d2.dead d2.writes j2.many j2.tail j2.cut).toArray).heap[G]? = some (.cells (jQ g2 c2 d2.many (aftR d2) tr2 d2.dead d2.writes j2.many j2.tail j2.cut).toArray 70 (0, 0))) := Lib.hid (setRow_heap _ _ _ _ _ _ HX18.out)
      have HBw := Lib.hid (below_setRow HB18.out HG.out.1 (jQ g2 c2 d2.many (aftR d2) tr2 d2.dead d2.writes j2.many j2.tail j2.cut).toArray)
      generalize w18.setRow G (jQ g2 c2 d2.many (aftR d2) tr2 d2.dead d2.writes j2.many j2.tail j2.cut).toArray = w19 at HRw HDw HJw HXw HBw ⊢
      clear HD18 HJ18 HX18 HR18 HB18
      have HFin : Hid (j2.B = B ∧ OkD d2 ∧ (∀ i, i < d2.many → (d2.S i).length = 64) ∧ d2.many = m ∧ d2.writes ≤ 2000 + 1000 * ((k + 1 : Nat) : Int) ∧ n2 ≤ 80 + 1000 * (k + 1) ∧ j2.tail ≤ d2.many ∧ j2.many ≤ 40 + (k + 1)) := Lib.hid (by
        obtain ⟨f1, f2, f3, f4, f5, f6, f7⟩ := HFin0.out
        obtain ⟨e1, e2, e3, e4, e5, e6⟩ := HI1.out
        exact ⟨f7.trans e1, f2, f4, f1.trans e2, by omega, by have := HN2.out; omega, by omega, by omega⟩)
      have HLen : Hid (∀ W, JnAt W P j2 → Calls Try.prog 38 #[.pointer (some ⟨P, 0, none⟩)] W fun e w' => e = .returned (.int .i64 j2.many) ∧ W = w') := Lib.hid (fun W h => code_jlen W P j2 h)
      have HTl : Hid (∀ W, JnAt W P j2 → Calls Try.prog 39 #[.pointer (some ⟨P, 0, none⟩)] W fun e w' => e = .returned (.int .i64 j2.tail) ∧ W = w') := Lib.hid (fun W h => code_jtail W P j2 h)
      have HDead : Hid (∀ W, JnAt W P j2 → Calls Try.prog 41 #[.pointer (some ⟨P, 0, none⟩)] W fun e w' => e = .returned (.bool j2.cut) ∧ W = w') := Lib.hid (fun W h => code_jdead W P j2 h)
      have HRoom : Hid (∀ W, JnAt W P j2 → Dsk W B bm n2 d2 → Calls Try.prog 40 #[.pointer (some ⟨P, 0, none⟩)] W fun e w' => e = .returned (.int .i64 ((d2.many - j2.tail : Nat) : Int)) ∧ Below W.heap.size W w') := Lib.hid (fun W h hd => code_jroom W P bm n2 j2 d2 h (by rw [HFin.out.1]; exact hd) HFin.out.2.2.2.2.2.2.1)
      have HLk : Hid (∀ W, Dsk W B bm n2 d2 → RefIs W g2 c2 tr2 d2 → Calls Try.prog 24 #[.pointer (some ⟨B, 0, none⟩), spelt g2 c2 tr2 d2] W fun e w' => e = .returned (.bool true) ∧ Below W.heap.size W w') := Lib.hid (fun W q1 q2 => play_like W B bm n2 g2 c2 tr2 d2 q1 q2)
      unfold spelt at HLk
      have HWs : Hid (IntKind.i64.wrap ((d2.many : Int) - (j2.tail : Int)) = ((d2.many - j2.tail : Nat) : Int)) := Lib.hid ((IntWalk.i64_left _).trans (by have h1 := HFin.out.2.2.2.1; have h2 := HMm.out.2; have h3 := HFin.out.2.2.2.2.2.2.1; unfold wrap64; omega))
      clear HFin0 HI1 HN2
      go_wp2_with fail
      refine wp_region_held_drew (S := fun W => W.heap[G]? = some (.cells (jQ g2 c2 d2.many (aftR d2) tr2 d2.dead d2.writes j2.many j2.tail j2.cut).toArray 70 (0, 0)) ∧ W.cell? ⟨G, 5, none⟩ = some (.int .i64 j2.many) ∧ W.cell? ⟨G, 6, none⟩ = some (.int .i64 j2.tail) ∧ W.cell? ⟨G, 7, none⟩ = some (.bool j2.cut) ∧ W.cell? ⟨G, 0, none⟩ = some (.slice (some ⟨g2, 0, none⟩) d2.many c2)) (by kernel_rfl) ⟨HXw.out, cell_of_row _ _ 5 _ _ _ HXw.out, cell_of_row _ _ 6 _ _ _ HXw.out, cell_of_row _ _ 7 _ _ _ HXw.out, cell_of_row _ _ 0 _ _ _ HXw.out⟩ ?_
      have HJd := Lib.hid (HJw.out.below (Below.refl _ _).drew)
      have HDd := Lib.hid (HDw.out.below (Below.refl _ _).drew)
      have HRd := Lib.hid (HRw.out.below (Below.refl _ _).drew)
      have HBd := Lib.hid HBw.out.drew
      have hBox := Lib.hid (heap_on (Below.refl _ _).drew HXw.out)
      clear HJw HDw HRw HBw HXw
      intro hHeld
      generalize w19.drew = wd at HJd HDd HRd HBd hBox hHeld ⊢
      (refine takeH (i := 0) (v := ?_) rfl (by kernel_rfl) (by kernel_rfl) (by kernel_rfl) (fun _ _ _ h => h) (Or.inl ⟨by rfl, ?_⟩) (by assumption) ?_; rotate_left; (focus ((intro wS hSw); (try dsimp only at hSw); obtain ⟨s0, s1, s2, s3, s4⟩ := hSw; go_simp; (try with_reducible rfl); done)); (try simp only [Act.put, List.setIfInBounds_toArray, List.set_cons_zero, List.set_cons_succ]))
      (refine takeH (i := 1) (v := ?_) rfl (by kernel_rfl) (by kernel_rfl) (by kernel_rfl) (fun _ _ _ h => h) (Or.inl ⟨by rfl, ?_⟩) (by assumption) ?_; rotate_left; (focus ((intro wS hSw); (try dsimp only at hSw); obtain ⟨s0, s1, s2, s3, s4⟩ := hSw; go_simp; (try with_reducible rfl); done)); (try simp only [Act.put, List.setIfInBounds_toArray, List.set_cons_zero, List.set_cons_succ]))
      (refine takeH (i := 2) (v := ?_) rfl (by kernel_rfl) (by kernel_rfl) (by kernel_rfl) (fun _ _ _ h => h) (Or.inl ⟨by rfl, ?_⟩) (by assumption) ?_; rotate_left; (focus ((intro wS hSw); (try dsimp only at hSw); obtain ⟨s0, s1, s2, s3, s4⟩ := hSw; go_simp; (try with_reducible rfl); done)); (try simp only [Act.put, List.setIfInBounds_toArray, List.set_cons_zero, List.set_cons_succ]))
      (refine takeH (i := 3) (v := ?_) rfl (by kernel_rfl) (by kernel_rfl) (by kernel_rfl) (fun _ _ _ h => h) (Or.inl ⟨by rfl, ?_⟩) (by assumption) ?_; rotate_left; (focus ((intro wS hSw); (try dsimp only at hSw); obtain ⟨s0, s1, s2, s3, s4⟩ := hSw; go_simp; (try with_reducible rfl); done)); (try simp only [Act.put, List.setIfInBounds_toArray, List.set_cons_zero, List.set_cons_succ]))
      (refine takeH (i := 4) (v := ?_) rfl (by kernel_rfl) (by kernel_rfl) (by kernel_rfl) (fun _ _ _ h => h) (Or.inl ⟨by rfl, ?_⟩) (by assumption) ?_; rotate_left; (focus ((intro wS hSw); (try dsimp only at hSw); obtain ⟨s0, s1, s2, s3, s4⟩ := hSw; go_simp; (try with_reducible rfl); done)); (try simp only [Act.put, List.setIfInBounds_toArray, List.set_cons_zero, List.set_cons_succ]))
      (refine takeH (i := 5) (v := ?_) rfl (by kernel_rfl) (by kernel_rfl) (by kernel_rfl) (fun _ _ _ h => h) (Or.inl ⟨by rfl, ?_⟩) (by assumption) ?_; rotate_left; (focus ((intro wS hSw); (try dsimp only at hSw); obtain ⟨s0, s1, s2, s3, s4⟩ := hSw; go_simp; (try with_reducible rfl); done)); (try simp only [Act.put, List.setIfInBounds_toArray, List.set_cons_zero, List.set_cons_succ]))
      (refine takeH (i := 6) (v := ?_) rfl (by kernel_rfl) (by kernel_rfl) (by kernel_rfl) (fun _ _ _ h => h) (Or.inl ⟨by rfl, ?_⟩) (by assumption) ?_; rotate_left; (focus ((intro wS hSw); (try dsimp only at hSw); obtain ⟨s0, s1, s2, s3, s4⟩ := hSw; go_simp; (try with_reducible rfl); done)); (try simp only [Act.put, List.setIfInBounds_toArray, List.set_cons_zero, List.set_cons_succ]))
      (refine takeH (i := 7) (v := ?_) rfl (by kernel_rfl) (by kernel_rfl) (by kernel_rfl) (fun _ _ _ h => h) (Or.inl ⟨by rfl, ?_⟩) (by assumption) ?_; rotate_left; (focus ((intro wS hSw); (try dsimp only at hSw); obtain ⟨s0, s1, s2, s3, s4⟩ := hSw; go_simp; (try with_reducible rfl); done)); (try simp only [Act.put, List.setIfInBounds_toArray, List.set_cons_zero, List.set_cons_succ]))
      (refine takeH (i := 8) (v := ?_) rfl (by kernel_rfl) (by kernel_rfl) (by kernel_rfl) (fun _ _ _ h => h) (Or.inl ⟨by rfl, ?_⟩) (by assumption) ?_; rotate_left; (focus ((intro wS hSw); (try dsimp only at hSw); obtain ⟨s0, s1, s2, s3, s4⟩ := hSw; go_simp; (try with_reducible rfl); done)); (try simp only [Act.put, List.setIfInBounds_toArray, List.set_cons_zero, List.set_cons_succ]))
      (refine takeH (i := 9) (v := ?_) rfl (by kernel_rfl) (by kernel_rfl) (by kernel_rfl) (fun _ _ _ h => h) (Or.inl ⟨by rfl, ?_⟩) (by assumption) ?_; rotate_left; (focus ((intro wS hSw); (try dsimp only at hSw); obtain ⟨s0, s1, s2, s3, s4⟩ := hSw; go_simp; (try with_reducible rfl); done)); (try simp only [Act.put, List.setIfInBounds_toArray, List.set_cons_zero, List.set_cons_succ]))
      (refine takeH (i := 11) (v := ?_) rfl (by kernel_rfl) (by kernel_rfl) (by kernel_rfl) (fun _ _ _ h => h) (Or.inl ⟨by rfl, ?_⟩) (by assumption) ?_; rotate_left; (focus ((intro wS hSw); (try dsimp only at hSw); obtain ⟨s0, s1, s2, s3, s4⟩ := hSw; go_simp; (try with_reducible rfl); done)); (try simp only [Act.put, List.setIfInBounds_toArray, List.set_cons_zero, List.set_cons_succ]))
      (refine takeH (i := 12) (v := ?_) rfl (by kernel_rfl) (by kernel_rfl) (by kernel_rfl) (fun _ _ _ h => h) (Or.inl ⟨by rfl, ?_⟩) (by assumption) ?_; rotate_left; (focus ((intro wS hSw); (try dsimp only at hSw); obtain ⟨s0, s1, s2, s3, s4⟩ := hSw; go_simp; (try with_reducible rfl); done)); (try simp only [Act.put, List.setIfInBounds_toArray, List.set_cons_zero, List.set_cons_succ]))
      refine aloneH (i := 10) rfl (by kernel_rfl) (fun K hK => ?_)
      rw [if_pos (by rfl)]
      go_simp; ((refine (HLen.out _ (HJd.out.below (Below.refl _ wd))).mono ?_); (rintro e v1 ⟨rfl, rfl⟩); (try go_simp))
      have HB1 : Hid (Below wd.heap.size wd wd) := Lib.hid (Below.refl _ _)
      refine hK.out _ _ (hHeld) (fun hNew => ?_)
      clear hK K hHeld; (have hHeld := hNew); clear hNew; (try simp only [Act.put, List.setIfInBounds_toArray, List.set_cons_zero, List.set_cons_succ])
      (refine takeH (i := 13) (v := ?_) rfl (by kernel_rfl) (by kernel_rfl) (by kernel_rfl) (fun _ _ _ h => h) (Or.inl ⟨by rfl, ?_⟩) (by assumption) ?_; rotate_left; (focus ((intro wS hSw); (try dsimp only at hSw); obtain ⟨s0, s1, s2, s3, s4⟩ := hSw; go_simp; (try with_reducible rfl); done)); (try simp only [Act.put, List.setIfInBounds_toArray, List.set_cons_zero, List.set_cons_succ]))
      (refine takeH (i := 14) (v := ?_) rfl (by kernel_rfl) (by kernel_rfl) (by kernel_rfl) (fun _ _ _ h => h) (Or.inl ⟨by rfl, ?_⟩) (by assumption) ?_; rotate_left; (focus ((intro wS hSw); (try dsimp only at hSw); obtain ⟨s0, s1, s2, s3, s4⟩ := hSw; go_simp; (try with_reducible rfl); done)); (try simp only [Act.put, List.setIfInBounds_toArray, List.set_cons_zero, List.set_cons_succ]))
      (refine takeH (i := 15) (v := ?_) rfl (by kernel_rfl) (by kernel_rfl) (by kernel_rfl) (fun _ _ _ h => h) (Or.inl ⟨by rfl, ?_⟩) (by assumption) ?_; rotate_left; (focus ((intro wS hSw); (try dsimp only at hSw); obtain ⟨s0, s1, s2, s3, s4⟩ := hSw; go_simp; (try with_reducible rfl); done)); (try simp only [Act.put, List.setIfInBounds_toArray, List.set_cons_zero, List.set_cons_succ]))
      (refine takeH (i := 16) (v := ?_) rfl (by kernel_rfl) (by kernel_rfl) (by kernel_rfl) (fun _ _ _ h => h) (Or.inl ⟨by rfl, ?_⟩) (by assumption) ?_; rotate_left; (focus ((intro wS hSw); (try dsimp only at hSw); obtain ⟨s0, s1, s2, s3, s4⟩ := hSw; go_simp; (try with_reducible rfl); done)); (try simp only [Act.put, List.setIfInBounds_toArray, List.set_cons_zero, List.set_cons_succ]))
      (refine takeH (i := 18) (v := ?_) rfl (by kernel_rfl) (by kernel_rfl) (by kernel_rfl) (fun _ _ _ h => h) (Or.inl ⟨by rfl, ?_⟩) (by assumption) ?_; rotate_left; (focus ((intro wS hSw); (try dsimp only at hSw); obtain ⟨s0, s1, s2, s3, s4⟩ := hSw; go_simp; (try with_reducible rfl); done)); (try simp only [Act.put, List.setIfInBounds_toArray, List.set_cons_zero, List.set_cons_succ]))
      (refine takeH (i := 19) (v := ?_) rfl (by kernel_rfl) (by kernel_rfl) (by kernel_rfl) (fun _ _ _ h => h) (Or.inl ⟨by rfl, ?_⟩) (by assumption) ?_; rotate_left; (focus ((intro wS hSw); (try dsimp only at hSw); obtain ⟨s0, s1, s2, s3, s4⟩ := hSw; go_simp; (try with_reducible rfl); done)); (try simp only [Act.put, List.setIfInBounds_toArray, List.set_cons_zero, List.set_cons_succ]))
      refine aloneH (i := 17) rfl (by kernel_rfl) (fun K hK => ?_)
      rw [if_pos (by rfl)]
      go_simp; ((refine (HTl.out _ (HJd.out.below HB1.out)).mono ?_); (rintro e v2 ⟨rfl, rfl⟩); (try go_simp))
      have HB2 : Hid (Below wd.heap.size wd wd) := Lib.hid (Below.refl _ _)
      refine hK.out _ _ (hHeld) (fun hNew => ?_)
      clear hK K hHeld; (have hHeld := hNew); clear hNew; (try simp only [Act.put, List.setIfInBounds_toArray, List.set_cons_zero, List.set_cons_succ])
      (refine takeH (i := 20) (v := ?_) rfl (by kernel_rfl) (by kernel_rfl) (by kernel_rfl) (fun _ _ _ h => h) (Or.inl ⟨by rfl, ?_⟩) (by assumption) ?_; rotate_left; (focus ((intro wS hSw); (try dsimp only at hSw); obtain ⟨s0, s1, s2, s3, s4⟩ := hSw; go_simp; (try with_reducible rfl); done)); (try simp only [Act.put, List.setIfInBounds_toArray, List.set_cons_zero, List.set_cons_succ]))
      (refine takeH (i := 21) (v := ?_) rfl (by kernel_rfl) (by kernel_rfl) (by kernel_rfl) (fun _ _ _ h => h) (Or.inl ⟨by rfl, ?_⟩) (by assumption) ?_; rotate_left; (focus ((intro wS hSw); (try dsimp only at hSw); obtain ⟨s0, s1, s2, s3, s4⟩ := hSw; go_simp; (try with_reducible rfl); done)); (try simp only [Act.put, List.setIfInBounds_toArray, List.set_cons_zero, List.set_cons_succ]))
      (refine takeH (i := 22) (v := ?_) rfl (by kernel_rfl) (by kernel_rfl) (by kernel_rfl) (fun _ _ _ h => h) (Or.inl ⟨by rfl, ?_⟩) (by assumption) ?_; rotate_left; (focus ((intro wS hSw); (try dsimp only at hSw); obtain ⟨s0, s1, s2, s3, s4⟩ := hSw; go_simp; (try with_reducible rfl); done)); (try simp only [Act.put, List.setIfInBounds_toArray, List.set_cons_zero, List.set_cons_succ]))
      (refine takeH (i := 23) (v := ?_) rfl (by kernel_rfl) (by kernel_rfl) (by kernel_rfl) (fun _ _ _ h => h) (Or.inl ⟨by rfl, ?_⟩) (by assumption) ?_; rotate_left; (focus ((intro wS hSw); (try dsimp only at hSw); obtain ⟨s0, s1, s2, s3, s4⟩ := hSw; go_simp; (try with_reducible rfl); done)); (try simp only [Act.put, List.setIfInBounds_toArray, List.set_cons_zero, List.set_cons_succ]))
      (refine takeH (i := 25) (v := ?_) rfl (by kernel_rfl) (by kernel_rfl) (by kernel_rfl) (fun _ _ _ h => h) (Or.inl ⟨by rfl, ?_⟩) (by assumption) ?_; rotate_left; (focus ((intro wS hSw); (try dsimp only at hSw); obtain ⟨s0, s1, s2, s3, s4⟩ := hSw; go_simp; (try with_reducible rfl); done)); (try simp only [Act.put, List.setIfInBounds_toArray, List.set_cons_zero, List.set_cons_succ]))
      (refine takeH (i := 26) (v := ?_) rfl (by kernel_rfl) (by kernel_rfl) (by kernel_rfl) (fun _ _ _ h => h) (Or.inl ⟨by rfl, ?_⟩) (by assumption) ?_; rotate_left; (focus ((intro wS hSw); (try dsimp only at hSw); obtain ⟨s0, s1, s2, s3, s4⟩ := hSw; go_simp; (try with_reducible rfl); done)); (try simp only [Act.put, List.setIfInBounds_toArray, List.set_cons_zero, List.set_cons_succ]))
      (refine takeH (i := 27) (v := ?_) rfl (by kernel_rfl) (by kernel_rfl) (by kernel_rfl) (fun _ _ _ h => h) (Or.inl ⟨by rfl, ?_⟩) (by assumption) ?_; rotate_left; (focus ((intro wS hSw); (try dsimp only at hSw); obtain ⟨s0, s1, s2, s3, s4⟩ := hSw; go_simp; (try with_reducible rfl); done)); (try simp only [Act.put, List.setIfInBounds_toArray, List.set_cons_zero, List.set_cons_succ]))
      (refine takeH (i := 28) (v := ?_) rfl (by kernel_rfl) (by kernel_rfl) (by kernel_rfl) (fun _ _ _ h => h) (Or.inl ⟨by rfl, ?_⟩) (by assumption) ?_; rotate_left; (focus ((intro wS hSw); (try dsimp only at hSw); obtain ⟨s0, s1, s2, s3, s4⟩ := hSw; go_simp; (try with_reducible rfl); done)); (try simp only [Act.put, List.setIfInBounds_toArray, List.set_cons_zero, List.set_cons_succ]))
      (refine takeH (i := 29) (v := ?_) rfl (by kernel_rfl) (by kernel_rfl) (by kernel_rfl) (fun _ _ _ h => h) (Or.inl ⟨by rfl, ?_⟩) (by assumption) ?_; rotate_left; (focus ((intro wS hSw); (try dsimp only at hSw); obtain ⟨s0, s1, s2, s3, s4⟩ := hSw; go_simp; (try with_reducible rfl); done)); (try simp only [Act.put, List.setIfInBounds_toArray, List.set_cons_zero, List.set_cons_succ]))
      (refine takeH (i := 30) (v := ?_) rfl (by kernel_rfl) (by kernel_rfl) (by kernel_rfl) (fun _ _ _ h => h) (Or.inl ⟨by rfl, ?_⟩) (by assumption) ?_; rotate_left; (focus ((intro wS hSw); (try dsimp only at hSw); obtain ⟨s0, s1, s2, s3, s4⟩ := hSw; go_simp; (try with_reducible rfl); done)); (try simp only [Act.put, List.setIfInBounds_toArray, List.set_cons_zero, List.set_cons_succ]))
      (refine takeH (i := 31) (v := (.int .i64 ((d2.many - j2.tail : Nat) : Int))) rfl (by kernel_rfl) (by kernel_rfl) (by kernel_rfl) (fun _ _ _ h => h) (Or.inl ⟨by rfl, by (intro wS hSw); (try dsimp only at hSw); (obtain ⟨s0, s1, s2, s3, s4⟩ := hSw); go_simp; (first | done | (rw [HWs.out]; done) | (simp only [HWs.out]; done))⟩) (by assumption) ?_; (try simp only [Act.put, List.setIfInBounds_toArray, List.set_cons_zero, List.set_cons_succ]))
      refine aloneH (i := 24) rfl (by kernel_rfl) (fun K hK => ?_)
      rw [if_pos (by rfl)]
      go_simp; ((refine (HRoom.out _ (HJd.out.below (below_then HB1.out HB2.out)) (HDd.out.below (below_then HB1.out HB2.out))).mono ?_); (rintro e w3 ⟨rfl, hb⟩); have HB3 := Lib.hid hb; clear hb; (try go_simp))
      refine hK.out _ _ (⟨heap_on HB3.out hHeld.1, cell_on HB3.out hHeld.2.1, cell_on HB3.out hHeld.2.2.1, cell_on HB3.out hHeld.2.2.2.1, cell_on HB3.out hHeld.2.2.2.2⟩) (fun hNew => ?_)
      clear hK K hHeld; (have hHeld := hNew); clear hNew; (try simp only [Act.put, List.setIfInBounds_toArray, List.set_cons_zero, List.set_cons_succ])
      (refine takeH (i := 32) (v := ?_) rfl (by kernel_rfl) (by kernel_rfl) (by kernel_rfl) (fun _ _ _ h => h) (Or.inl ⟨by rfl, ?_⟩) (by assumption) ?_; rotate_left; (focus ((intro wS hSw); (try dsimp only at hSw); obtain ⟨s0, s1, s2, s3, s4⟩ := hSw; go_simp; (try with_reducible rfl); done)); (try simp only [Act.put, List.setIfInBounds_toArray, List.set_cons_zero, List.set_cons_succ]))
      (refine takeH (i := 33) (v := ?_) rfl (by kernel_rfl) (by kernel_rfl) (by kernel_rfl) (fun _ _ _ h => h) (Or.inl ⟨by rfl, ?_⟩) (by assumption) ?_; rotate_left; (focus ((intro wS hSw); (try dsimp only at hSw); obtain ⟨s0, s1, s2, s3, s4⟩ := hSw; go_simp; (try with_reducible rfl); done)); (try simp only [Act.put, List.setIfInBounds_toArray, List.set_cons_zero, List.set_cons_succ]))
      (refine takeH (i := 34) (v := ?_) rfl (by kernel_rfl) (by kernel_rfl) (by kernel_rfl) (fun _ _ _ h => h) (Or.inl ⟨by rfl, ?_⟩) (by assumption) ?_; rotate_left; (focus ((intro wS hSw); (try dsimp only at hSw); obtain ⟨s0, s1, s2, s3, s4⟩ := hSw; go_simp; (try with_reducible rfl); done)); (try simp only [Act.put, List.setIfInBounds_toArray, List.set_cons_zero, List.set_cons_succ]))
      (refine takeH (i := 35) (v := ?_) rfl (by kernel_rfl) (by kernel_rfl) (by kernel_rfl) (fun _ _ _ h => h) (Or.inl ⟨by rfl, ?_⟩) (by assumption) ?_; rotate_left; (focus ((intro wS hSw); (try dsimp only at hSw); obtain ⟨s0, s1, s2, s3, s4⟩ := hSw; go_simp; (try with_reducible rfl); done)); (try simp only [Act.put, List.setIfInBounds_toArray, List.set_cons_zero, List.set_cons_succ]))
      (refine takeH (i := 37) (v := ?_) rfl (by kernel_rfl) (by kernel_rfl) (by kernel_rfl) (fun _ _ _ h => h) (Or.inl ⟨by rfl, ?_⟩) (by assumption) ?_; rotate_left; (focus ((intro wS hSw); (try dsimp only at hSw); obtain ⟨s0, s1, s2, s3, s4⟩ := hSw; go_simp; (try with_reducible rfl); done)); (try simp only [Act.put, List.setIfInBounds_toArray, List.set_cons_zero, List.set_cons_succ]))
      (refine takeH (i := 38) (v := ?_) rfl (by kernel_rfl) (by kernel_rfl) (by kernel_rfl) (fun _ _ _ h => h) (Or.inl ⟨by rfl, ?_⟩) (by assumption) ?_; rotate_left; (focus ((intro wS hSw); (try dsimp only at hSw); obtain ⟨s0, s1, s2, s3, s4⟩ := hSw; go_simp; (try with_reducible rfl); done)); (try simp only [Act.put, List.setIfInBounds_toArray, List.set_cons_zero, List.set_cons_succ]))
      refine aloneH (i := 36) rfl (by kernel_rfl) (fun K hK => ?_)
      rw [if_pos (by rfl)]
      go_simp; ((refine (HDead.out _ (HJd.out.below (below_then (below_then HB1.out HB2.out) HB3.out))).mono ?_); (rintro e v4 ⟨rfl, rfl⟩); (try go_simp))
      have HB4 : Hid (Below w3.heap.size w3 w3) := Lib.hid (Below.refl _ _)
      refine hK.out _ _ (hHeld) (fun hNew => ?_)
      clear hK K hHeld; (have hHeld := hNew); clear hNew; (try simp only [Act.put, List.setIfInBounds_toArray, List.set_cons_zero, List.set_cons_succ])
      (refine takeH (i := 39) (v := ?_) rfl (by kernel_rfl) (by kernel_rfl) (by kernel_rfl) (fun _ _ _ h => h) (Or.inl ⟨by rfl, ?_⟩) (by assumption) ?_; rotate_left; (focus ((intro wS hSw); (try dsimp only at hSw); obtain ⟨s0, s1, s2, s3, s4⟩ := hSw; go_simp; (try with_reducible rfl); done)); (try simp only [Act.put, List.setIfInBounds_toArray, List.set_cons_zero, List.set_cons_succ]))
      (refine takeH (i := 40) (v := ?_) rfl (by kernel_rfl) (by kernel_rfl) (by kernel_rfl) (fun _ _ _ h => h) (Or.inl ⟨by rfl, ?_⟩) (by assumption) ?_; rotate_left; (focus ((intro wS hSw); (try dsimp only at hSw); obtain ⟨s0, s1, s2, s3, s4⟩ := hSw; go_simp; (try with_reducible rfl); done)); (try simp only [Act.put, List.setIfInBounds_toArray, List.set_cons_zero, List.set_cons_succ]))
      (refine takeH (i := 41) (v := ?_) rfl (by kernel_rfl) (by kernel_rfl) (by kernel_rfl) (fun _ _ _ h => h) (Or.inl ⟨by rfl, ?_⟩) (by assumption) ?_; rotate_left; (focus ((intro wS hSw); (try dsimp only at hSw); obtain ⟨s0, s1, s2, s3, s4⟩ := hSw; go_simp; (try with_reducible rfl); done)); (try simp only [Act.put, List.setIfInBounds_toArray, List.set_cons_zero, List.set_cons_succ]))
      (refine takeH (i := 42) (v := ?_) rfl (by kernel_rfl) (by kernel_rfl) (by kernel_rfl) (fun _ _ _ h => h) (Or.inl ⟨by rfl, ?_⟩) (by assumption) ?_; rotate_left; (focus ((intro wS hSw); (try dsimp only at hSw); obtain ⟨s0, s1, s2, s3, s4⟩ := hSw; go_simp; (try with_reducible rfl); done)); (try simp only [Act.put, List.setIfInBounds_toArray, List.set_cons_zero, List.set_cons_succ]))
      (refine takeH (i := 43) (v := ?_) rfl (by kernel_rfl) (by kernel_rfl) (by kernel_rfl) (fun _ _ _ h => h) (Or.inl ⟨by rfl, ?_⟩) (by assumption) ?_; rotate_left; (focus ((intro wS hSw); (try dsimp only at hSw); obtain ⟨s0, s1, s2, s3, s4⟩ := hSw; go_simp; (try with_reducible rfl); done)); (try simp only [Act.put, List.setIfInBounds_toArray, List.set_cons_zero, List.set_cons_succ]))
      (refine takeH (i := 44) (v := (.agg [.slice (some ⟨g2, 0, none⟩) d2.many c2, .int .i64 (aftR d2), .int .i64 tr2, .bool d2.dead, .int .i64 d2.writes].toArray)) rfl (by kernel_rfl) (by kernel_rfl) (by kernel_rfl) (fun _ _ _ h => h) (yieldsIf_load_mid (by rfl) 28 (.tmp 157) rfl G 0 rfl [.slice (some ⟨g2, 0, none⟩) d2.many c2, .int .i64 (aftR d2), .int .i64 tr2, .bool d2.dead, .int .i64 d2.writes] _ (fun W h => mid5 h.1) Try.underlying28 rfl (by kernel_rfl)) (by assumption) ?_; (try simp only [Act.put, List.setIfInBounds_toArray, List.set_cons_zero, List.set_cons_succ]))
      refine aloneH (i := 45) rfl (by kernel_rfl) (fun K hK => ?_)
      rw [if_pos (by rfl)]
      go_simp; ((refine (HLk.out _ (HDd.out.below (below_then (below_then (below_then HB1.out HB2.out) HB3.out) HB4.out)) (HRd.out.below (below_then (below_then (below_then HB1.out HB2.out) HB3.out) HB4.out))).mono ?_); (rintro e w5 ⟨rfl, hb⟩); have HB5 := Lib.hid hb; clear hb; (try go_simp))
      refine hK.out _ _ (⟨heap_on HB5.out hHeld.1, cell_on HB5.out hHeld.2.1, cell_on HB5.out hHeld.2.2.1, cell_on HB5.out hHeld.2.2.2.1, cell_on HB5.out hHeld.2.2.2.2⟩) (fun hNew => ?_)
      clear hK K hHeld; (have hHeld := hNew); clear hNew; (try simp only [Act.put, List.setIfInBounds_toArray, List.set_cons_zero, List.set_cons_succ])
      (refine takeH (i := 46) (v := ?_) rfl (by kernel_rfl) (by kernel_rfl) (by kernel_rfl) (fun _ _ _ h => h) (Or.inl ⟨by rfl, ?_⟩) (by assumption) ?_; rotate_left; (focus ((intro wS hSw); (try dsimp only at hSw); obtain ⟨s0, s1, s2, s3, s4⟩ := hSw; go_simp; (try with_reducible rfl); done)); (try simp only [Act.put, List.setIfInBounds_toArray, List.set_cons_zero, List.set_cons_succ]))
      (refine takeH (i := 47) (v := ?_) rfl (by kernel_rfl) (by kernel_rfl) (by kernel_rfl) (fun _ _ _ h => h) (Or.inl ⟨by rfl, ?_⟩) (by assumption) ?_; rotate_left; (focus ((intro wS hSw); (try dsimp only at hSw); obtain ⟨s0, s1, s2, s3, s4⟩ := hSw; go_simp; (try with_reducible rfl); done)); (try simp only [Act.put, List.setIfInBounds_toArray, List.set_cons_zero, List.set_cons_succ]))
      refine wpAnyH_done (by kernel_rfl) ?_ _
      have b1 := (below_then (below_then (below_then (below_then HB1.out HB2.out) HB3.out) HB4.out) HB5.out)
      have HIz : Hid (PlayJ w G B bm P m (k + 1) j2 d2 n2 g2 c2 tr2 w5) := Lib.hid ⟨HJd.out.below b1, HDd.out.below b1, heap_on b1 hBox.out, HRd.out.below b1, HFin.out.1, HFin.out.2.1, HFin.out.2.2.1, HFin.out.2.2.2.1, HFin.out.2.2.2.2.1, HFin.out.2.2.2.2.2.1, HFin.out.2.2.2.2.2.2.1, HFin.out.2.2.2.2.2.2.2, below_then HBd.out b1⟩
      clear b1 hHeld HJd HDd HRd HBd hBox
      go_wp2
      go_roundw
      case rel => exact ⟨k + 1, _, _, _, _, _, _, HJk.out.2, by go_num, HIz⟩
      case measure => rw [hwk]; exact roundsLeft_next _ _ HJk.out.2
    · have hge : ll ≤ k := by omega
      have hge' : ¬ (k : Int) < (ll : Int) := by omega
      have HBr := Lib.hid HI.out.low
      go_wp2_with (first
        | (go_at_call 32; refine (HLv.out _).mono ?_; rintro e w20 ⟨rfl, hb⟩; have HBz := Lib.hid (below_then HBr.out hb); clear hb))
      go_ret
      exact ⟨rfl, HBz.out⟩
end Go.Proofs.Ytbbgmjfmpcbpbaa
