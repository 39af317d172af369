/- On any disk just the batches stand that the document says. Sectors put behind a journal's tail. -/
import Derived.Test.YtfjejiapafdgeaaJ41
import Derived.Test.YtfjejiapafdgeaaJ36
namespace Go.Proofs.Ytfjejiapafdgeaa
open Go.RowKit
set_option maxRecDepth 100000
set_option linter.unusedSimpArgs false
set_option linter.unusedVariables false

theorem int_top {n : Int} (h : (Lit.int .i64 n).wf = true) : n ≤ 9223372036854775807 := by
  simp [Lit.wf, IntKind.min, IntKind.max, IntKind.signed, IntKind.bits] at h
  omega
theorem RefIs.chg2 {w w' : World} {g c B bm : Nat} {tr : Int} {d : DiskV} (h : RefIs w g c tr d) (hc : ChgD w w' B bm) (h1 : g ≠ B) (h2 : g ≠ bm) : RefIs w' g c tr d :=
  ⟨⟨Nat.lt_of_lt_of_le h.1.1 hc.size, fun i hi => (hc.cell (a := ⟨g, i, none⟩) h.1.1 h1 h2).trans (h.1.2 i hi)⟩, h.2⟩
theorem wipeL_many (L : List Nat) : ∀ (d : DiskV) (n : Nat), (wipeL d n L).1.many = d.many := by
  induction L with
  | nil => intro d n; rfl
  | cons i L ih =>
    intro d n
    show (if writeE d i zeros = 0 then _ else _ : DiskV × Nat × Int).1.many = d.many
    split
    · rw [ih, writeD_many]
    · exact writeD_many _ _ _
theorem WX_many (d : DiskV) (tail : Int) : (WX d tail).1.many = d.many := by
  unfold WX
  split
  · exact wipeL_many _ _ _
  · rfl
/-- the document's Find on the document's disk -/
theorem rfind_any (W : World) (g c : Nat) (tr : Int) (d : DiskV) (h : RefIs W g c tr d) (hm : d.many ≤ 1000) (h64 : ∀ k, k < d.many → (d.S k).length = 64) :
    Calls Try.prog 16 #[.slice (some ⟨g, 0, none⟩) d.many c] W fun e w' => ∃ A4 c4, e = .returned (.tuple #[.slice A4 (findT d.S d.many).1.length c4, .int .i64 (findT d.S d.many).2]) ∧ SecsAt w' A4 c4 (findT d.S d.many).1 ∧ Below W.heap.size W w' := by
  refine (ref_find W g c d.many d.S hm h64 (fun j hj => by
    have := h.1.2 j (by rw [pagesL_len]; exact hj)
    rwa [pagesL_at] at this) h.1.1).mono ?_
  rintro e w' ⟨v, rfl, ho, hb⟩
  obtain ⟨A4, c4, rfl, hs⟩ := ho.secs
  exact ⟨A4, c4, rfl, hs, hb⟩
theorem find_any (W : World) (B bm n : Nat) (d : DiskV) (h : Dsk W B bm n d) (hd : d.dead = false) :
    Calls Try.prog 15 #[.pointer (some ⟨B, 0, none⟩)] W fun e w' => ∃ A4 c4, e = .returned (.tuple #[.slice A4 (findT d.S d.many).1.length c4, .int .i64 (findT d.S d.many).2, .int .i64 0]) ∧ SecsAt w' A4 c4 (findT d.S d.many).1 ∧ Below W.heap.size W w' := by
  refine (code_find W B bm n d h hd).mono ?_
  rintro e w' ⟨v, rfl, ho, hb⟩
  obtain ⟨A4, c4, rfl, hs⟩ := ho.secs
  exact ⟨A4, c4, rfl, hs, hb⟩
set_option maxHeartbeats 4000000 in
theorem scanFinds_any (many : Int) (L : List PartV) (A : Option Addr) (cap : Nat) (tail after torn : Int) (w : World) (hP : PartsAt w A L) (ha : after ≤ 9223372036854775807) :
    Calls Try.prog 3 #[.int .i64 many, .slice A L.length cap, .int .i64 tail, .int .i64 after, .int .i64 torn] w fun e w' => e = .returned (.bool true) ∧ Below w.heap.size w w' := by
  have HLi := Lib.hid (code_light many L A cap w hP)
  have HLv := Lib.hid scan_lives
  cases hq : lightB many L with
  | false =>
    rw [hq] at HLi
    clear hq hP
    go_enter Try.func3, Try.ntmps3
    go_wp2_with (first
      | (go_at_call 11; refine HLi.out.mono ?_; rintro e w1 ⟨rfl, hb1⟩; have HB1 := Lib.hid hb1; clear hb1)
      | (go_at_call 12; refine (HLv.out _).mono ?_; rintro e w2 ⟨rfl, hb2⟩; have HB2 := Lib.hid (below_then HB1.out hb2); clear hb2))
    go_ret
    exact ⟨rfl, HB2.out⟩
  | true =>
    rw [hq] at HLi
    obtain ⟨m, rfl, hm1, hm2, hL, hl⟩ := lightB_is hq
    have HP := Lib.hid hP
    have HA := Lib.hid ha
    have HM := Lib.hid (And.intro hm1 (And.intro hm2 (And.intro hL hl)))
    have H64 := Lib.hid (lawP_64 L)
    have HPl := Lib.hid (lawP_len20 L hL hl)
    clear hq hP hm1 hm2 hL hl ha
    obtain ⟨P, hPP⟩ : ∃ P, P = lawP L := ⟨_, rfl⟩
    have HPP := Lib.hid hPP
    rw [← hPP] at H64 HPl
    clear hPP
    go_enter Try.func3, Try.ntmps3
    go_wp2_with (first
      | (go_at_call 11; refine HLi.out.mono ?_; rintro e w1 ⟨rfl, hb1⟩; have HB1 := Lib.hid hb1; clear hb1; refine Stop.out ?_))
    unfold Stop
    have HPg : Hid (Calls Try.prog 14 #[.slice A L.length cap] w1 fun e w' => ∃ A2 c2, e = .returned (.slice A2 P.length c2) ∧ SecsAt w' A2 c2 P ∧ Below w1.heap.size w1 w') := Lib.hid (by
      refine (code_lpages L A cap w1 (HP.out.below HB1.out) HM.out.2.2.1 HM.out.2.2.2).mono ?_
      rintro e w' ⟨v, rfl, ho, _, hb⟩
      obtain ⟨A2, c2, rfl, hs⟩ := ho.secs
      rw [← HPP.out] at hs ⊢
      exact ⟨A2, c2, rfl, hs, hb⟩)
    go_wp2_with (first
      | (go_at_call 14; refine HPg.out.mono ?_; rintro e w2 ⟨A2, c2, rfl, hs2, hb2⟩; have HS2 := Lib.hid hs2; have HB2 := Lib.hid (below_then HB1.out hb2); clear hs2 hb2; refine Stop.out ?_))
    unfold Stop
    go_wp2_with (first
      | (go_at_call 13; refine (code_laid m P A2 c2 w2 HM.out.1 HM.out.2.1 (by have := HPl.out; omega) H64.out HS2.out).mono ?_; rintro e w3 ⟨B, bm, nn, g, c, tr, rfl, hd, hnn, hr, hok, hB, hbm, hgB, hgb, hb3⟩; have HD3 := Lib.hid (And.intro hd (And.intro hnn hok)); have HR3 := Lib.hid hr; have HBB := Lib.hid (And.intro (Nat.le_trans HB2.out.size hB) (Nat.le_trans HB2.out.size hbm)); have HGB := Lib.hid (And.intro hgB hgb); have HB3 := Lib.hid (below_then HB2.out hb3); clear hd hnn hr hok hB hbm hgB hgb hb3; unfold spelt; refine Stop.out ?_))
    unfold Stop
    have HLw : Hid (LawD m (laidD m P (min m P.length))) := Lib.hid (laid_lawD H64.out HM.out.2.1 HD3.out.2.2)
    generalize laidD m P (min m P.length) = d at HD3 HR3 HLw ⊢
    have H6d : Hid (∀ i, i < d.many → (d.S i).length = 64) := Lib.hid (sec_64 HD3.out.1)
    have HMd : Hid (1 ≤ d.many ∧ d.many ≤ 40) := Lib.hid (by rw [HLw.out.many]; exact ⟨HM.out.1, HM.out.2.1⟩)
    obtain ⟨x, hx⟩ : ∃ x, x = findT d.S d.many := ⟨_, rfl⟩
    obtain ⟨n0, hn0⟩ : ∃ n0 : Int, n0 = (DX d tail : Nat) := ⟨_, rfl⟩
    obtain ⟨e0, he0⟩ : ∃ e0, e0 = sreachV d tail := ⟨_, rfl⟩
    obtain ⟨d4, hd4⟩ : ∃ d4, d4 = (FX d after torn).1 := ⟨_, rfl⟩
    obtain ⟨f4, hf4⟩ : ∃ f4, f4 = (FX d after torn).2 := ⟨_, rfl⟩
    obtain ⟨d5, hd5⟩ : ∃ d5, d5 = (WX d4 tail).1 := ⟨_, rfl⟩
    obtain ⟨k5, hk5⟩ : ∃ k5 : Int, k5 = ((WX d4 tail).2.1 : Nat) := ⟨_, rfl⟩
    obtain ⟨e5, he5⟩ : ∃ e5, e5 = (WX d4 tail).2.2 := ⟨_, rfl⟩
    have HF4 : Hid (OkD d4 ∧ d4.many = d.many ∧ d4.S = d.S ∧ d4.writes = d.writes ∧ d4.dead = d.dead) := Lib.hid (by rw [hd4]; exact FX_facts HD3.out.2.2 HA.out)
    have HXl : Hid (x.1.length ≤ 100000) := Lib.hid (by
      have h1 := findT_len d.S d.many
      have h2 := findT_le d.S d.many
      have := HMd.out
      rw [hx]
      omega)
    have HFi : Hid (∀ W V, V = W → Dsk W B bm nn d → Calls Try.prog 15 #[.pointer (some ⟨B, 0, none⟩)] V fun e w' => ∃ A4 c4, e = .returned (.tuple #[.slice A4 x.1.length c4, .int .i64 x.2, .int .i64 0]) ∧ SecsAt w' A4 c4 x.1 ∧ Below W.heap.size W w') := Lib.hid (fun W V hV h => by rw [hx, hV]; exact find_any W B bm nn d h HLw.out.dead)
    have HRf : Hid (∀ W, RefIs W g c tr d → Calls Try.prog 16 #[.slice (some ⟨g, 0, none⟩) d.many c] W fun e w' => ∃ A4 c4, e = .returned (.tuple #[.slice A4 x.1.length c4, .int .i64 x.2]) ∧ SecsAt w' A4 c4 x.1 ∧ Below W.heap.size W w') := Lib.hid (fun W h => by rw [hx]; exact rfind_any W g c tr d h (by have := HMd.out; omega) H6d.out)
    have HDi : Hid (∀ W, Dsk W B bm nn d → Calls Try.prog 17 #[.pointer (some ⟨B, 0, none⟩), .int .i64 tail] W fun e w' => e = .returned (.tuple #[.int .i64 n0, .int .i64 e0]) ∧ Below W.heap.size W w') := Lib.hid (fun W h => by rw [hn0, he0]; exact dirty_any W B bm nn d tail h)
    have HRd : Hid (∀ W, RefIs W g c tr d → Calls Try.prog 18 #[spelt g c tr d, .int .i64 tail] W fun e w' => e = .returned (.tuple #[.int .i64 n0, .int .i64 e0]) ∧ Below W.heap.size W w') := Lib.hid (fun W h => by rw [hn0, he0]; exact rdirty_any W g c tr d tail h (by have := HMd.out; omega) H6d.out)
    have HFu : Hid (∀ W, Dsk W B bm nn d → Calls Try.prog 20 #[.pointer (some ⟨B, 0, none⟩), .int .i64 after, .int .i64 torn] W fun e w' => e = .returned (.int .i64 f4) ∧ Dsk w' B bm nn d4 ∧ ChgD W w' B bm) := Lib.hid (fun W h => by rw [hd4, hf4]; exact fuse_any W B bm nn d after torn h)
    have HRu : Hid (∀ W, RefIs W g c tr d → Calls Try.prog 21 #[spelt g c tr d, .int .i64 after, .int .i64 torn] W fun e w' => ∃ tr4, e = .returned (.tuple #[spelt g c tr4 d4, .int .i64 f4]) ∧ RefIs w' g c tr4 d4 ∧ Below W.heap.size W w') := Lib.hid (fun W h => by rw [hd4, hf4]; exact rfuse_any W g c tr d after torn h)
    have HWi : Hid (∀ W, Dsk W B bm nn d4 → Calls Try.prog 22 #[.pointer (some ⟨B, 0, none⟩), .int .i64 tail] W fun e w' => e = .returned (.tuple #[.int .i64 k5, .int .i64 e5]) ∧ (∃ n, Dsk w' B bm n d5) ∧ ChgD W w' B bm) := Lib.hid (fun W h => by
      rw [hd5, hk5, he5]
      refine (wipe_any W B bm nn d4 tail h HF4.out.1 (by have := HD3.out.2.1; omega) (by rw [HF4.out.2.2.2.1]; have := HLw.out.wr; omega)).mono ?_
      rintro e w' ⟨q1, ⟨n, q2, _⟩, q3⟩
      exact ⟨q1, ⟨n, q2⟩, q3⟩)
    have HRw : Hid (∀ W tr4, RefIs W g c tr4 d4 → Calls Try.prog 23 #[spelt g c tr4 d4, .int .i64 tail] W fun e w' => ∃ g5 c5 tr5, e = .returned (.tuple #[spelt g5 c5 tr5 d5, .int .i64 k5, .int .i64 e5]) ∧ RefIs w' g5 c5 tr5 d5 ∧ Below W.heap.size W w') := Lib.hid (fun W tr4 h => by
      rw [hd5, hk5, he5]
      exact rwipe_any W g c tr4 d4 tail h HF4.out.1 (by rw [HF4.out.2.1]; exact HMd.out.1) (by rw [HF4.out.2.1]; have := HMd.out; omega) (by rw [HF4.out.2.2.2.1]; have := HLw.out.wr; omega) (fun k hk => by rw [HF4.out.2.2.1]; rw [HF4.out.2.1] at hk; exact H6d.out k hk))
    have HLk : Hid (∀ W n g5 c5 tr5, Dsk W B bm n d5 → RefIs W g5 c5 tr5 d5 → Calls Try.prog 24 #[.pointer (some ⟨B, 0, none⟩), spelt g5 c5 tr5 d5] W fun e w' => e = .returned (.bool true) ∧ Below W.heap.size W w') := Lib.hid (fun W n g5 c5 tr5 q1 q2 => play_like W B bm n g5 c5 tr5 d5 q1 q2)
    have HMn : Hid (d4.many = d.many) := Lib.hid HF4.out.2.1
    have HM5 : Hid (1 ≤ d5.many) := Lib.hid (by rw [hd5, WX_many, HMn.out]; exact HMd.out.1)
    clear hx hn0 he0 hd4 hf4 hd5 hk5 he5 HLi HPg HF4
    obtain ⟨wb, hwb⟩ : ∃ wb, wb = w3.alloc (.cells #[.slice (some ⟨g, 0, none⟩) d.many c, .int .i64 (aftR d), .int .i64 tr, .bool d.dead, .int .i64 d.writes] 28) := ⟨_, rfl⟩
    have HBb : Hid (Below w.heap.size w wb) := Lib.hid (by rw [hwb]; exact below_then HB3.out (below_alloc _ _))
    have HDb : Hid (Dsk wb B bm nn d) := Lib.hid (by rw [hwb]; exact HD3.out.1.below (below_alloc _ _))
    have HRb : Hid (RefIs wb g c tr d) := Lib.hid (by rw [hwb]; exact HR3.out.below (below_alloc _ _))
    have HXb : Hid (wb.heap[w3.heap.size]? = some (.cells (refC g c d.many (aftR d) tr d.dead d.writes).toArray 28 (0, 0))) := Lib.hid (by rw [hwb]; exact heap_alloc_new w3 _)
    have HNb : Hid (B ≠ w3.heap.size ∧ bm ≠ w3.heap.size ∧ w.heap.size ≤ w3.heap.size) := Lib.hid ⟨Nat.ne_of_lt HD3.out.1.lt, Nat.ne_of_lt HD3.out.1.2.1.lt, HB3.out.size⟩
    have HWB := Lib.hid hwb
    clear hwb
    go_wp2_with (first
      | (go_at_call 15; refine (HFi.out wb _ HWB.out.symm HDb.out).mono ?_; rintro e w4 ⟨A4, c4, rfl, hs4, hb4⟩; have HS4 := Lib.hid hs4; have HD4 := Lib.hid (HDb.out.below hb4); have HR4 := Lib.hid (HRb.out.below hb4); have HX4 := Lib.hid (heap_on hb4 HXb.out); have HB4 := Lib.hid (below_then HBb.out hb4); clear hs4 hb4; refine Stop.out ?_))
    unfold Stop
    clear HFi HWB HBb HDb HRb HXb HB3 HR3
    obtain ⟨⟨z0, z1, z2, z3, z4⟩, _⟩ := cells5 HX4.out
    go_wp2_with (first
      | (go_at_call 16; refine (HRf.out _ HR4.out).mono ?_; rintro e w5 ⟨A5, c5, rfl, hs5, hb5⟩; have HS5 := Lib.hid (And.intro (HS4.out.on hb5) hs5); have HD5 := Lib.hid (HD4.out.below hb5); have HR5 := Lib.hid (HR4.out.below hb5); have HX5 := Lib.hid (heap_on hb5 HX4.out); have HB5 := Lib.hid (below_then HB4.out hb5); clear hs5 hb5; refine Stop.out ?_))
    unfold Stop
    clear z0 z1 z2 z3 z4 HRf HS4 HD4 HR4 HX4 HB4
    go_wp2_with (first
      | (go_at_call 17; refine (HDi.out _ HD5.out).mono ?_; rintro e w6 ⟨rfl, hb6⟩; have HS6 := Lib.hid (And.intro (HS5.out.1.on hb6) (HS5.out.2.on hb6)); have HD6 := Lib.hid (HD5.out.below hb6); have HR6 := Lib.hid (HR5.out.below hb6); have HX6 := Lib.hid (heap_on hb6 HX5.out); have HB6 := Lib.hid (below_then HB5.out hb6); clear hb6; refine Stop.out ?_))
    unfold Stop
    clear HS5 HD5 HR5 HX5 HB5
    obtain ⟨⟨z0, z1, z2, z3, z4⟩, _⟩ := cells5 HX6.out
    go_wp2_with (first
      | (go_at_call 18; refine (HRd.out _ HR6.out).mono ?_; rintro e w7 ⟨rfl, hb7⟩; have HS7 := Lib.hid (And.intro (HS6.out.1.on hb7) (HS6.out.2.on hb7)); have HD7 := Lib.hid (HD6.out.below hb7); have HR7 := Lib.hid (HR6.out.below hb7); have HX7 := Lib.hid (heap_on hb7 HX6.out); have HB7 := Lib.hid (below_then HB6.out hb7); clear hb7; refine Stop.out ?_))
    unfold Stop
    clear z0 z1 z2 z3 z4 HS6 HD6 HR6 HX6 HB6
    go_wp2_with (first
      | (go_at_call 19; refine (code_lsame x.1 A4 A5 c4 c5 _ HXl.out HS7.out.1 HS7.out.2).mono ?_; rintro e w8 ⟨rfl, hb8⟩; have HD8 := Lib.hid (HD7.out.below hb8); have HR8 := Lib.hid (HR7.out.below hb8); have HX8 := Lib.hid (heap_on hb8 HX7.out); have HB8 := Lib.hid (below_then HB7.out hb8); clear hb8; refine Stop.out ?_))
    unfold Stop
    clear HS7 HD7 HR7 HX7 HB7
    go_wp2_with (first
      | (go_at_call 20; refine (HFu.out _ HD8.out).mono ?_; rintro e w9 ⟨rfl, hd9, hc9⟩; have HD9 := Lib.hid hd9; have HR9 := Lib.hid (HR8.out.chg2 hc9 HGB.out.1 HGB.out.2); have HX9 := Lib.hid ((hc9.block _ (heapLt HX8.out) HNb.out.1.symm HNb.out.2.1.symm).trans HX8.out); have HB9 := Lib.hid (HB8.out.trans (hc9.below HB8.out.size HBB.out.1 HBB.out.2)); clear hd9 hc9; refine Stop.out ?_))
    unfold Stop
    clear HD8 HR8 HX8 HB8
    obtain ⟨⟨z0, z1, z2, z3, z4⟩, _⟩ := cells5 HX9.out
    go_wp2_with (first
      | (go_at_call 21; refine (HRu.out _ HR9.out).mono ?_; rintro e w10 ⟨tr4, rfl, hr10, hb10⟩; have HD10 := Lib.hid (HD9.out.below hb10); have HR10 := Lib.hid hr10; have HX10 := Lib.hid (heap_on hb10 HX9.out); have HB10 := Lib.hid (below_then HB9.out hb10); clear hr10 hb10; refine Stop.out ?_))
    unfold Stop
    clear z0 z1 z2 z3 z4 HD9 HR9 HX9 HB9
    go_wp2_with (first
      | ((with_reducible refine wpList_store_row 28 (o := ⟨none, _, _, _, _, _⟩) ?a1 (.tmp 12) (.tmp 94) ?a2 w3.heap.size ?a3 (refC g c d4.many (aftR d4) tr4 d4.dead d4.writes) ?a4 ?a5 ?a6 (refC g c d.many (aftR d) tr d.dead d.writes).toArray ?a7 28 ?a8 ?_); (case a1 => rfl); (case a2 => rfl); (case a3 => rfl); (case a4 => kernel_rfl); (case a5 => exact one5 _ _ _ _ _ _ _); (case a6 => rfl); (case a7 => rfl); (case a8 => exact HX10.out); (try simp only [Act.put]); refine Stop.out ?_))
    unfold Stop
    have HD11 := Lib.hid (HD10.out.setRow (b := w3.heap.size) (refC g c d4.many (aftR d4) tr4 d4.dead d4.writes).toArray HNb.out.1 HNb.out.2.1)
    have HR11 := Lib.hid (HR10.out.setRow (b := w3.heap.size) (refC g c d4.many (aftR d4) tr4 d4.dead d4.writes).toArray (ref_box HR10.out (by rw [HMn.out]; exact HMd.out.1) HX10.out (fun s e => by cases e)))
    have HX11 : Hid ((w10.setRow w3.heap.size (refC g c d4.many (aftR d4) tr4 d4.dead d4.writes).toArray).heap[w3.heap.size]? = some (.cells (refC g c d4.many (aftR d4) tr4 d4.dead d4.writes).toArray 28 (0, 0))) := Lib.hid (setRow_heap _ _ _ _ _ _ HX10.out)
    have HB11 := Lib.hid (below_setRow HB10.out HNb.out.2.2 (refC g c d4.many (aftR d4) tr4 d4.dead d4.writes).toArray)
    generalize w10.setRow w3.heap.size (refC g c d4.many (aftR d4) tr4 d4.dead d4.writes).toArray = w11 at HD11 HR11 HX11 HB11 ⊢
    clear HD10 HR10 HX10 HB10
    go_wp2_with (first
      | (go_at_call 22; refine (HWi.out _ HD11.out).mono ?_; rintro e w12 ⟨rfl, ⟨n12, hd12⟩, hc12⟩; have HD12 := Lib.hid hd12; have HR12 := Lib.hid (HR11.out.chg2 hc12 HGB.out.1 HGB.out.2); have HX12 := Lib.hid ((hc12.block _ (heapLt HX11.out) HNb.out.1.symm HNb.out.2.1.symm).trans HX11.out); have HB12 := Lib.hid (HB11.out.trans (hc12.below HB11.out.size HBB.out.1 HBB.out.2)); clear hd12 hc12; refine Stop.out ?_))
    unfold Stop
    clear HD11 HR11 HX11 HB11
    obtain ⟨⟨z0, z1, z2, z3, z4⟩, _⟩ := cells5 HX12.out
    go_wp2_with (first
      | (go_at_call 23; refine (HRw.out _ tr4 HR12.out).mono ?_; rintro e w13 ⟨g5, c5', tr5, rfl, hr13, hb13⟩; have HD13 := Lib.hid (HD12.out.below hb13); have HR13 := Lib.hid hr13; have HX13 := Lib.hid (heap_on hb13 HX12.out); have HB13 := Lib.hid (below_then HB12.out hb13); clear hr13 hb13; refine Stop.out ?_))
    unfold Stop
    clear z0 z1 z2 z3 z4 HD12 HR12 HX12 HB12
    go_wp2_with (first
      | ((with_reducible refine wpList_store_row 28 (o := ⟨none, _, _, _, _, _⟩) ?a1 (.tmp 12) (.tmp 106) ?a2 w3.heap.size ?a3 (refC g5 c5' d5.many (aftR d5) tr5 d5.dead d5.writes) ?a4 ?a5 ?a6 (refC g c d4.many (aftR d4) tr4 d4.dead d4.writes).toArray ?a7 28 ?a8 ?_); (case a1 => rfl); (case a2 => rfl); (case a3 => rfl); (case a4 => kernel_rfl); (case a5 => exact one5 _ _ _ _ _ _ _); (case a6 => rfl); (case a7 => rfl); (case a8 => exact HX13.out); (try simp only [Act.put]); refine Stop.out ?_))
    unfold Stop
    have HD14 := Lib.hid (HD13.out.setRow (b := w3.heap.size) (refC g5 c5' d5.many (aftR d5) tr5 d5.dead d5.writes).toArray HNb.out.1 HNb.out.2.1)
    have HR14 := Lib.hid (HR13.out.setRow (b := w3.heap.size) (refC g5 c5' d5.many (aftR d5) tr5 d5.dead d5.writes).toArray (ref_box HR13.out HM5.out HX13.out (fun s e => by cases e)))
    have HX14 : Hid ((w13.setRow w3.heap.size (refC g5 c5' d5.many (aftR d5) tr5 d5.dead d5.writes).toArray).heap[w3.heap.size]? = some (.cells (refC g5 c5' d5.many (aftR d5) tr5 d5.dead d5.writes).toArray 28 (0, 0))) := Lib.hid (setRow_heap _ _ _ _ _ _ HX13.out)
    have HB14 := Lib.hid (below_setRow HB13.out HNb.out.2.2 (refC g5 c5' d5.many (aftR d5) tr5 d5.dead d5.writes).toArray)
    generalize w13.setRow w3.heap.size (refC g5 c5' d5.many (aftR d5) tr5 d5.dead d5.writes).toArray = w14 at HD14 HR14 HX14 HB14 ⊢
    clear HD13 HR13 HX13 HB13
    obtain ⟨⟨z0, z1, z2, z3, z4⟩, _⟩ := cells5 HX14.out
    go_wp2_with (first
      | (go_at_call 24; refine (HLk.out _ n12 g5 c5' tr5 HD14.out HR14.out).mono ?_; rintro e w15 ⟨rfl, hb15⟩; have HB15 := Lib.hid (below_then HB14.out hb15); clear hb15; refine Stop.out ?_))
    unfold Stop
    clear z0 z1 z2 z3 z4
    go_wp2_with (first
      | (go_at_call 12; refine (HLv.out _).mono ?_; rintro e w16 ⟨rfl, hb16⟩; have HB16 := Lib.hid (below_then HB15.out hb16); clear hb16))
    go_ret
    exact ⟨rfl, HB16.out⟩
end Go.Proofs.Ytfjejiapafdgeaa

namespace Go.Proofs.Ytfjejiapafdgeaa
open Go.RowKit
set_option maxRecDepth 100000
set_option linter.unusedSimpArgs false
set_option linter.unusedVariables false

/-- nothing but a journal and its disk was turned -/
structure ChgJ (w w' : World) (P B bm : Nat) : Prop where
  os : w'.os = w.os
  tape : w'.tape = w.tape
  output : w'.output = w.output
  size : w.heap.size ≤ w'.heap.size
  block : ∀ k, k < w.heap.size → k ≠ P → k ≠ B → k ≠ bm → w'.heap[k]? = w.heap[k]?
theorem ChgJ.refl (w : World) (P B bm : Nat) : ChgJ w w P B bm := ⟨rfl, rfl, rfl, Nat.le_refl _, fun _ _ _ _ _ => rfl⟩
theorem ChgJ.trans {w w' w'' : World} {P B bm : Nat} (h : ChgJ w w' P B bm) (k : ChgJ w' w'' P B bm) : ChgJ w w'' P B bm :=
  ⟨k.os.trans h.os, k.tape.trans h.tape, k.output.trans h.output, Nat.le_trans h.size k.size, fun j h0 h1 h2 h3 => (k.block j (Nat.lt_of_lt_of_le h0 h.size) h1 h2 h3).trans (h.block j h0 h1 h2 h3)⟩
theorem ChgJ.of_chg {w w' : World} {P B bm : Nat} (h : ChgD w w' B bm) : ChgJ w w' P B bm := ⟨h.os, h.tape, h.output, h.size, fun k h0 _ h2 h3 => h.block k h0 h2 h3⟩
theorem ChgJ.of_below {w w' : World} {P B bm : Nat} (h : Below w.heap.size w w') : ChgJ w w' P B bm := ChgJ.of_chg (ChgD.of_below h)
theorem ChgJ.setP {w w' : World} {P B bm : Nat} (h : ChgJ w w' P B bm) (i : Nat) (v : Value) : ChgJ w (w'.setCell ⟨P, i, none⟩ v) P B bm :=
  ⟨h.os, h.tape, h.output, by simpa using h.size, fun k h0 h1 h2 h3 => (heap_setCell_other _ _ _ _ h1).trans (h.block k h0 h1 h2 h3)⟩
theorem ChgJ.below {w w' : World} {P B bm base : Nat} (h : ChgJ w w' P B bm) (h0 : base ≤ w.heap.size) (h1 : base ≤ P) (h2 : base ≤ B) (h3 : base ≤ bm) : Below base w w' :=
  ⟨h.os, h.tape, h.output, h.size, fun k hk => h.block k (Nat.lt_of_lt_of_le hk h0) (Nat.ne_of_lt (Nat.lt_of_lt_of_le hk h1)) (Nat.ne_of_lt (Nat.lt_of_lt_of_le hk h2)) (Nat.ne_of_lt (Nat.lt_of_lt_of_le hk h3))⟩
theorem Dsk.setP {w : World} {B bm n P : Nat} {d : DiskV} (h : Dsk w B bm n d) (i : Nat) (v : Value) (h1 : P ≠ B) (h2 : P ≠ bm) : Dsk (w.setCell ⟨P, i, none⟩ v) B bm n d :=
  ⟨(heap_setCell_other _ _ _ _ h1.symm).trans h.1, h.2.1.kept (heap_setCell_other _ _ _ _ h2.symm), h.2.2⟩
/-- sectors written one behind the other, until one tells an error -/
def putF (d : DiskV) (t : Nat) : List Text → DiskV × Int
  | [] => (d, 0)
  | T :: L => if writeE d (t : Nat) T = 0 then putF (writeD d (t : Nat) T) (t + 1) L else (writeD d (t : Nat) T, writeE d (t : Nat) T)
/-- a disk on its way -/
structure OnP (d : DiskV) (t : Nat) (L : List Text) (k : Nat) (d1 : DiskV) : Prop where
  many : d1.many = d.many
  ok : OkD d1
  wr : d1.writes ≤ d.writes + k
  rest : putF d t L = putF d1 (t + k) (L.drop k)
theorem OnP.start {d : DiskV} {t : Nat} {L : List Text} (h : OkD d) : OnP d t L 0 d := ⟨rfl, h, by omega, rfl⟩
theorem OnP.step {d d1 : DiskV} {t k : Nat} {L : List Text} (h : OnP d t L k d1) (hk : k < L.length) (he : writeE d1 (t + k : Nat) L[k] = 0) : OnP d t L (k + 1) (writeD d1 (t + k : Nat) L[k]) := by
  refine ⟨by rw [writeD_many]; exact h.many, writeD_ok _ _ _ h.ok, ?_, ?_⟩
  · have h1 := writeD_writes d1 (t + k : Nat) L[k]
    have h2 := h.wr
    omega
  · rw [h.rest, List.drop_eq_getElem_cons hk]
    show (if writeE d1 ((t + k : Nat) : Int) L[k] = 0 then _ else _) = _
    rw [if_pos he]
    rfl
theorem OnP.cut {d d1 : DiskV} {t k : Nat} {L : List Text} (h : OnP d t L k d1) (hk : k < L.length) (he : writeE d1 (t + k : Nat) L[k] ≠ 0) : putF d t L = (writeD d1 (t + k : Nat) L[k], writeE d1 (t + k : Nat) L[k]) := by
  rw [h.rest, List.drop_eq_getElem_cons hk]
  show (if writeE d1 ((t + k : Nat) : Int) L[k] = 0 then _ else _) = _
  rw [if_neg he]
theorem OnP.done {d d1 : DiskV} {t : Nat} {L : List Text} (h : OnP d t L L.length d1) : putF d t L = (d1, 0) := by
  rw [h.rest, List.drop_length]
  rfl
def PutI (w : World) (P bm n : Nat) (j : JnV) (d : DiskV) (L : List Text) (A : Option Addr) (c k : Nat) (V : World) : Prop := ∃ n1 d1, Dsk V j.B bm n1 d1 ∧ n1 ≤ n + k ∧ JnAt V P j ∧ SecsAt V A c L ∧ ChgJ w V P j.B bm ∧ OnP d j.tail L k d1
/-- what put leaves -/
def PutP (w : World) (P bm n : Nat) (j : JnV) (L : List Text) (x : DiskV × Int) (e : Ending) (w' : World) : Prop :=
  e = .returned (.int .i64 x.2) ∧ (∃ n', Dsk w' j.B bm n' x.1 ∧ n' ≤ n + L.length) ∧ JnAt w' P (if x.2 = 0 then { j with tail := j.tail + L.length } else { j with cut := true }) ∧ ChgJ w w' P j.B bm
set_option maxHeartbeats 2000000 in
theorem code_jput (w : World) (P bm n : Nat) (j : JnV) (d : DiskV) (L : List Text) (A : Option Addr) (c : Nat) (hJ : JnAt w P j) (hD : Dsk w j.B bm n d) (hok : OkD d) (hn : n ≤ 1000000) (hw : d.writes ≤ 1000000)
    (hL : L.length ≤ 1000) (ht : j.tail ≤ 100000) (hA : SecsAt w A c L) (p1 : P ≠ j.B) (p2 : P ≠ bm) :
    Calls Try.prog 66 #[.pointer (some ⟨P, 0, none⟩), .slice A L.length c] w (PutP w P bm n j L (putF d j.tail L)) := by
  have HM := Lib.hid (And.intro hn (And.intro hw (And.intro hL ht)))
  have HPn := Lib.hid (And.intro p1 p2)
  have HI0 : Hid (PutI w P bm n j d L A c 0 w) := Lib.hid ⟨n, d, hD, Nat.le_refl _, hJ, hA, ChgJ.refl _ _ _ _, OnP.start hok⟩
  clear hJ hD hok hn hw hL ht hA p1 p2
  obtain ⟨X, hX⟩ : ∃ X, X = putF d j.tail L := ⟨_, rfl⟩
  rw [← hX]
  have HXx := Lib.hid hX
  clear hX
  obtain ⟨ll, hll⟩ : ∃ ll, ll = L.length := ⟨_, rfl⟩
  rw [← hll]
  have HLl := Lib.hid hll
  have HL1 : Hid (ll ≤ 1000) := Lib.hid (by rw [hll]; exact HM.out.2.2.1)
  clear hll
  go_enter Try.func66, Try.ntmps66
  go_wp2
  go_loopw [5, 6, 7, 10] (fun v5 v6 v7 v10 wr => ∃ k : Nat, k ≤ ll ∧ v10 = .int .i64 (k : Nat) ∧ Hid (PutI w P bm n j d L A c k wr)) (fun _ _ _ v10 _ => leftOf v10)
  case atStart => exact ⟨0, Nat.zero_le _, rfl, HI0⟩
  case round =>
    obtain ⟨k, hk, rfl, HI⟩ := hrel
    clear HI0
    obtain ⟨n1, d1, q1, q2, q3, q4, q5, q6⟩ := HI.out
    have HD := Lib.hid q1
    have hn1 := q2
    have HJ := Lib.hid q3
    have HA := Lib.hid q4
    have HX := Lib.hid q5
    have HO := Lib.hid q6
    clear q1 q2 q3 q4 q5 q6 HI
    obtain ⟨z0, z1, z2, z3⟩ := HJ.out.cells
    by_cases hlt : k < ll
    · have hlt' : (k : Int) < (ll : Int) := by omega
      have hge : ¬ ll ≤ k := by omega
      have hkL : k < L.length := by rw [← HLl.out]; exact hlt
      obtain ⟨g, hAg, hT, _⟩ : ∃ g, A = some ⟨g, 0, none⟩ ∧ TextsAt wr g L ∧ L.length ≤ c := by
        rcases HA.out with ⟨_, h0, _⟩ | h
        · rw [h0] at hkL; exact absurd hkL (Nat.not_lt_zero _)
        · exact h
      obtain ⟨b, cb, hcell, hcb, hcm, hrg, hbl, h0⟩ := hT k hkL
      obtain ⟨T, hTT⟩ : ∃ T, T = L[k] := ⟨_, rfl⟩
      rw [← hTT] at hcell hcb hrg h0
      have HTT := Lib.hid hTT
      have HTx := Lib.hid (And.intro hcb (And.intro hcm (mid_txt hrg)))
      obtain ⟨r, hr⟩ : ∃ r, r = j.tail + k := ⟨_, rfl⟩
      have HR := Lib.hid hr
      have HWi : Hid (IntKind.i64.wrap ((j.tail : Int) + (k : Int)) = (r : Int)) := Lib.hid ((IntWalk.i64_left _).trans (by have := HL1.out; have := HM.out.2.2.2; unfold wrap64; omega))
      have HWk : Hid (wrap64 ((k : Int) + 1) = (k : Int) + 1) := Lib.hid (by have := HL1.out; unfold wrap64; omega)
      have HMs : Hid (leftOf (.int .i64 (wrap64 ((k : Int) + 1))) < leftOf (.int .i64 (k : Int))) := Lib.hid (leftOf_next k (by have := HL1.out; omega))
      have HNq : Hid (n1 + 1 ≤ n + L.length ∧ n1 + 1 ≤ n + (k + 1)) := Lib.hid (by rw [← HLl.out]; omega)
      obtain ⟨d2, hd2⟩ : ∃ d2, d2 = writeD d1 (r : Nat) T := ⟨_, rfl⟩
      obtain ⟨ev, hev⟩ : ∃ ev, ev = writeE d1 (r : Nat) T := ⟨_, rfl⟩
      have HWr : Hid (Calls Try.prog 27 #[.pointer (some ⟨j.B, 0, none⟩), .int .i64 (r : Nat), .slice (some ⟨b, 0, none⟩) T.length cb] wr.drew fun e w' => e = .returned (.int .i64 ev) ∧ Dsk w' j.B bm (n1 + 1) d2 ∧ ChgD wr.drew w' j.B bm) := Lib.hid (by
        rw [hev, hd2]
        refine code_write wr.drew j.B bm n1 d1 r (HD.out.below (Below.refl _ _).drew) (by have := HL1.out; have := HM.out.1; unfold maxLen; omega) HO.out.ok (some ⟨b, 0, none⟩) cb T HTx.out.1 (HTx.out.2.2.below (Below.refl _ _).drew) ?_
        have h1 := HO.out.wr
        have h2 := HM.out.2.1
        have h3 := HL1.out
        omega)
      have HO2 : Hid (ev = 0 → OnP d j.tail L (k + 1) d2) := Lib.hid (fun e => by
        rw [hd2, HTT.out, HR.out]
        exact HO.out.step hkL (by rw [← HTT.out, ← HR.out, ← hev]; exact e))
      have HCt : Hid (ev ≠ 0 → X = (d2, ev)) := Lib.hid (fun e => by
        rw [HXx.out, hd2, hev, HTT.out, HR.out]
        exact HO.out.cut hkL (by rw [← HTT.out, ← HR.out, ← hev]; exact e))
      have HS0 : Hid ((fun V : World => V.cell? ⟨P, 0, none⟩ = some (.pointer (some ⟨j.B, 0, none⟩)) ∧ V.cell? ⟨P, 1, none⟩ = some (.int .i64 j.tail)) wr.drew) := Lib.hid ⟨cell_on (Below.refl _ _).drew z0, cell_on (Below.refl _ _).drew z1⟩
      have HJd := Lib.hid (HJ.out.below (Below.refl _ _).drew)
      have HAd := Lib.hid (HA.out.on (Below.refl _ _).drew)
      have HXd : Hid (ChgJ w wr.drew P j.B bm) := Lib.hid (HX.out.trans (ChgJ.of_below (Below.refl _ _).drew))
      have HDd := Lib.hid (HD.out.below (Below.refl _ _).drew)
      subst hAg
      generalize T.length = nT at hcell HWr
      clear hT hcb hcm hrg hbl h0 hTT hr hd2 hev HD HJ HA HX HO HTx HTT z0 z1 z2 z3 hkL
      go_wp2
      refine wp_region_held_drew (S := fun V : World => V.cell? ⟨P, 0, none⟩ = some (.pointer (some ⟨j.B, 0, none⟩)) ∧ V.cell? ⟨P, 1, none⟩ = some (.int .i64 j.tail)) (by kernel_rfl) HS0.out ?_
      intro hHeld
      clear HS0 hcell
      have hwi := HWi.out
      generalize wr.drew = wd at HWr HJd HAd HXd HDd hHeld ⊢
      (refine takeH (i := 0) (v := ?_) rfl (by kernel_rfl) (by kernel_rfl) (by kernel_rfl) (fun _ _ _ h => h) (Or.inl ⟨by rfl, ?_⟩) (by assumption) ?_; rotate_left; (focus ((intro wS hSw); (try dsimp only at hSw); obtain ⟨s0, s1⟩ := hSw; go_simp; (try with_reducible rfl); done)); (try simp only [Act.put, List.setIfInBounds_toArray, List.set_cons_zero, List.set_cons_succ]))
      (refine takeH (i := 1) (v := ?_) rfl (by kernel_rfl) (by kernel_rfl) (by kernel_rfl) (fun _ _ _ h => h) (Or.inl ⟨by rfl, ?_⟩) (by assumption) ?_; rotate_left; (focus ((intro wS hSw); (try dsimp only at hSw); obtain ⟨s0, s1⟩ := hSw; go_simp; (try with_reducible rfl); done)); (try simp only [Act.put, List.setIfInBounds_toArray, List.set_cons_zero, List.set_cons_succ]))
      (refine takeH (i := 2) (v := ?_) rfl (by kernel_rfl) (by kernel_rfl) (by kernel_rfl) (fun _ _ _ h => h) (Or.inl ⟨by rfl, ?_⟩) (by assumption) ?_; rotate_left; (focus ((intro wS hSw); (try dsimp only at hSw); obtain ⟨s0, s1⟩ := hSw; go_simp; (try with_reducible rfl); done)); (try simp only [Act.put, List.setIfInBounds_toArray, List.set_cons_zero, List.set_cons_succ]))
      (refine takeH (i := 3) (v := ?_) rfl (by kernel_rfl) (by kernel_rfl) (by kernel_rfl) (fun _ _ _ h => h) (Or.inl ⟨by rfl, ?_⟩) (by assumption) ?_; rotate_left; (focus ((intro wS hSw); (try dsimp only at hSw); obtain ⟨s0, s1⟩ := hSw; go_simp; (try with_reducible rfl); done)); (try simp only [Act.put, List.setIfInBounds_toArray, List.set_cons_zero, List.set_cons_succ]))
      (refine takeH (i := 4) (v := ?_) rfl (by kernel_rfl) (by kernel_rfl) (by kernel_rfl) (fun _ _ _ h => h) (Or.inl ⟨by rfl, ?_⟩) (by assumption) ?_; rotate_left; (focus ((intro wS hSw); (try dsimp only at hSw); obtain ⟨s0, s1⟩ := hSw; go_simp; (try with_reducible rfl); done)); (try simp only [Act.put, List.setIfInBounds_toArray, List.set_cons_zero, List.set_cons_succ]))
      (refine takeH (i := 5) (v := ?_) rfl (by kernel_rfl) (by kernel_rfl) (by kernel_rfl) (fun _ _ _ h => h) (Or.inl ⟨by rfl, ?_⟩) (by assumption) ?_; rotate_left; (focus ((intro wS hSw); (try dsimp only at hSw); obtain ⟨s0, s1⟩ := hSw; go_simp; (try with_reducible rfl); done)); (try simp only [Act.put, List.setIfInBounds_toArray, List.set_cons_zero, List.set_cons_succ]))
      (refine takeH (i := 6) (v := ?_) rfl (by kernel_rfl) (by kernel_rfl) (by kernel_rfl) (fun _ _ _ h => h) (Or.inl ⟨by rfl, ?_⟩) (by assumption) ?_; rotate_left; (focus ((intro wS hSw); (try dsimp only at hSw); obtain ⟨s0, s1⟩ := hSw; go_simp; (try with_reducible rfl); done)); (try simp only [Act.put, List.setIfInBounds_toArray, List.set_cons_zero, List.set_cons_succ]))
      (refine takeH (i := 7) (v := ?_) rfl (by kernel_rfl) (by kernel_rfl) (by kernel_rfl) (fun _ _ _ h => h) (Or.inl ⟨by rfl, ?_⟩) (by assumption) ?_; rotate_left; (focus ((intro wS hSw); (try dsimp only at hSw); obtain ⟨s0, s1⟩ := hSw; go_simp; (try with_reducible rfl); done)); (try simp only [Act.put, List.setIfInBounds_toArray, List.set_cons_zero, List.set_cons_succ]))
      (refine takeH (i := 8) (v := ?_) rfl (by kernel_rfl) (by kernel_rfl) (by kernel_rfl) (fun _ _ _ h => h) (Or.inl ⟨by rfl, ?_⟩) (by assumption) ?_; rotate_left; (focus ((intro wS hSw); (try dsimp only at hSw); obtain ⟨s0, s1⟩ := hSw; go_simp; (try with_reducible rfl); done)); (try simp only [Act.put, List.setIfInBounds_toArray, List.set_cons_zero, List.set_cons_succ]))
      (refine takeH (i := 9) (v := ?_) rfl (by kernel_rfl) (by kernel_rfl) (by kernel_rfl) (fun _ _ _ h => h) (Or.inl ⟨by rfl, ?_⟩) (by assumption) ?_; rotate_left; (focus ((intro wS hSw); (try dsimp only at hSw); obtain ⟨s0, s1⟩ := hSw; go_simp; (try with_reducible rfl); done)); (try simp only [Act.put, List.setIfInBounds_toArray, List.set_cons_zero, List.set_cons_succ]))
      (refine takeH (i := 10) (v := ?_) rfl (by kernel_rfl) (by kernel_rfl) (by kernel_rfl) (fun _ _ _ h => h) (Or.inl ⟨by rfl, ?_⟩) (by assumption) ?_; rotate_left; (focus ((intro wS hSw); (try dsimp only at hSw); obtain ⟨s0, s1⟩ := hSw; go_simp; (try with_reducible rfl); done)); (try simp only [Act.put, List.setIfInBounds_toArray, List.set_cons_zero, List.set_cons_succ]))
      refine aloneH (i := 11) rfl (by kernel_rfl) (fun K hK => ?_)
      rw [if_pos (by rfl)]
      go_simp; ((refine (HWr.out).mono ?_); (rintro e w1 ⟨rfl, hd2, hc2⟩); have HD2 := Lib.hid hd2; have HC2 := Lib.hid hc2; (try go_simp))
      refine hK.out _ _ (⟨(hc2.cell (a := ⟨P, 0, none⟩) (block_lt_of_cell hHeld.1) HPn.out.1 HPn.out.2).trans hHeld.1, (hc2.cell (a := ⟨P, 1, none⟩) (block_lt_of_cell hHeld.2) HPn.out.1 HPn.out.2).trans hHeld.2⟩) (fun hNew => ?_)
      clear hK K hHeld; (have hHeld := hNew); clear hNew; (try simp only [Act.put, List.setIfInBounds_toArray, List.set_cons_zero, List.set_cons_succ])
      (refine takeH (i := 12) (v := ?_) rfl (by kernel_rfl) (by kernel_rfl) (by kernel_rfl) (fun _ _ _ h => h) (Or.inl ⟨by rfl, ?_⟩) (by assumption) ?_; rotate_left; (focus ((intro wS hSw); (try dsimp only at hSw); obtain ⟨s0, s1⟩ := hSw; go_simp; (try with_reducible rfl); done)); (try simp only [Act.put, List.setIfInBounds_toArray, List.set_cons_zero, List.set_cons_succ]))
      refine wpAnyH_done (by kernel_rfl) ?_ _
      clear hHeld hc2 hwi HWi
      have hwk := HWk.out
      have HJ2 : Hid (JnAt w1 P j) := Lib.hid (HJd.out.chg HC2.out HPn.out.1 HPn.out.2)
      have HA2 : Hid (SecsAt w1 (some ⟨g, 0, none⟩) c L) := Lib.hid (HAd.out.chg HDd.out HC2.out)
      have HX2 : Hid (ChgJ w w1 P j.B bm) := Lib.hid (HXd.out.trans (ChgJ.of_chg HC2.out))
      clear HWr HJd HAd HXd HDd HC2
      by_cases he : ev = 0
      · subst he
        go_wp2
        go_roundw
        case rel => exact ⟨k + 1, by omega, congrArg (Value.int .i64) (by omega), Lib.hid ⟨n1 + 1, d2, HD2.out, HNq.out.2, HJ2.out, HA2.out, HX2.out, HO2.out rfl⟩⟩
        case measure => exact HMs.out
      · have hne : ¬ ev = 0 := he
        have hcut := Lib.hid (HCt.out he)
        obtain ⟨z0, z1, z2, z3⟩ := HJ2.out.cells
        have y2 := frozen_of_row w1 P 2 _ _ HJ2.out
        have hPl : Hid (P < w1.heap.size) := Lib.hid (heapLt HJ2.out)
        clear he HO2 HCt
        go_wp2
        go_ret
        unfold PutP
        rw [hcut.out, if_neg hne]
        refine ⟨rfl, ⟨n1 + 1, (HD2.out.setP _ _ HPn.out.1 HPn.out.2), HNq.out.1⟩, ?_, HX2.out.setP _ _⟩
        exact heap_setCell_same w1 P 2 _ _ (.bool true) HJ2.out
    · obtain rfl : k = ll := by omega
      have hdn : X = (d1, 0) := by
        rw [HXx.out]
        have h1 := HO.out
        rw [HLl.out] at h1
        exact h1.done
      have HDn := Lib.hid hdn
      have hwt : wrap64 ((j.tail : Int) + (k : Int)) = ((j.tail + k : Nat) : Int) := by have := HL1.out; have := HM.out.2.2.2; unfold wrap64; omega
      have y1 := frozen_of_row wr P 1 _ _ HJ.out
      clear hdn
      go_wp2
      go_ret
      unfold PutP
      rw [HDn.out, if_pos rfl, ← HLl.out]
      refine ⟨rfl, ⟨n1, (HD.out.setP _ _ HPn.out.1 HPn.out.2), hn1⟩, ?_, HX.out.setP _ _⟩
      exact heap_setCell_same wr P 1 _ _ (.int .i64 ((j.tail + k : Nat) : Int)) HJ.out
end Go.Proofs.Ytfjejiapafdgeaa
