/- What is wiped behind the tail changes nothing of what stands: walked. Dirty, Wipe and the fuse of both, whatever comes in. -/
import Derived.Test.YtmgonokhgijgoaaJ44
import Derived.Test.YtmgonokhgijgoaaJ45
import Derived.Test.YtmgonokhgijgoaaJ46
import Derived.Test.YtmgonokhgijgoaaJ43
import Derived.Test.YtmgonokhgijgoaaJ34
namespace Go.Proofs.Ytmgonokhgijgoaa
open Go.RowKit
set_option maxRecDepth 100000
set_option linter.unusedSimpArgs false
set_option linter.unusedVariables false

theorem lightB_is {many : Int} {L : List PartV} (h : lightB many L = true) : ∃ m : Nat, many = m ∧ 1 ≤ m ∧ m ≤ 40 ∧ L.length ≤ 20 ∧ ∀ q (hq : q < L.length), L[q].l.length ≤ 1000 := by
  have h := of_decide_eq_true h
  exact ⟨many.toNat, by omega, by omega, by omega, h.2.2.1, h.2.2.2⟩
theorem find_len (S : Nat → Text) (m : Nat) : ∀ f at_ L, L.length ≤ at_ → (findV S m f at_ L).1.length ≤ (findV S m f at_ L).2 := by
  intro f
  induction f with
  | zero => intro at_ L h; exact h
  | succ f ih =>
    intro at_ L h
    cases hq : batchQ S m at_ (L.length + 1 : Nat) with
    | true =>
      rw [find_next hq]
      have := batch_in hq
      exact ih _ _ (by rw [List.length_append]; simp; omega)
    | false => rw [find_end hq]; exact h
theorem findT_len (S : Nat → Text) (m : Nat) : (findT S m).1.length ≤ (findT S m).2 := find_len S m _ _ _ (Nat.le_refl _)
/-- what a law's disk is -/
structure LawD (m : Nat) (d : DiskV) : Prop where
  many : d.many = m
  dead : d.dead = false
  set : d.set = false
  ok : OkD d
  wr : d.writes ≤ 1000
theorem laid_lawD {m : Nat} {P : List Text} (h64 : ∀ T ∈ P, T.length = 64) (hm : m ≤ 40) (hok : OkD (laidD m P (min m P.length))) : LawD m (laidD m P (min m P.length)) := by
  obtain ⟨a1, a2, a3, _, _, a6, _⟩ := laid_facts m P h64 (min m P.length) (Nat.min_le_left _ _) (Nat.min_le_right _ _)
  exact ⟨a1, a2, a3, hok, by rw [a6]; have := Nat.min_le_left m P.length; omega⟩
theorem lawP_len20 (L : List PartV) (h : L.length ≤ 20) (hl : ∀ q (hq : q < L.length), L[q].l.length ≤ 1000) : (lawP L).length ≤ 360 := by
  have := lawP_len L hl L.length (Nat.le_refl _)
  rw [List.take_length] at this
  omega
set_option maxHeartbeats 4000000 in
theorem scanWipes_any (many : Int) (L : List PartV) (A : Option Addr) (cap : Nat) (w : World) (hP : PartsAt w A L) :
    Calls Try.prog 4 #[.int .i64 many, .slice A L.length cap] w fun e w' => e = .returned (.bool true) ∧ Below w.heap.size w w' := by
  have HLi := Lib.hid (code_light many L A cap w hP)
  have HLv := Lib.hid scan_lives
  cases hq : lightB many L with
  | false =>
    rw [hq] at HLi
    clear hq hP
    go_enter Try.func4, Try.ntmps4
    go_wp2_with (first
      | (go_at_call 11; refine HLi.out.mono ?_; rintro e w1 ⟨rfl, hb1⟩; have HB1 := Lib.hid hb1; clear hb1)
      | (go_at_call 12; refine (HLv.out _).mono ?_; rintro e w2 ⟨rfl, hb2⟩; have HB2 := Lib.hid (below_then HB1.out hb2); clear hb2))
    go_ret
    exact ⟨rfl, HB2.out⟩
  | true =>
    rw [hq] at HLi
    obtain ⟨m, rfl, hm1, hm2, hL, hl⟩ := lightB_is hq
    have HP := Lib.hid hP
    have HM := Lib.hid (And.intro hm1 (And.intro hm2 (And.intro hL hl)))
    have H64 := Lib.hid (lawP_64 L)
    have HPl := Lib.hid (lawP_len20 L hL hl)
    clear hq hP hm1 hm2 hL hl
    obtain ⟨P, hPP⟩ : ∃ P, P = lawP L := ⟨_, rfl⟩
    have HPP := Lib.hid hPP
    rw [← hPP] at H64 HPl
    clear hPP
    go_enter Try.func4, Try.ntmps4
    go_wp2_with (first
      | (go_at_call 11; refine HLi.out.mono ?_; rintro e w1 ⟨rfl, hb1⟩; have HB1 := Lib.hid hb1; clear hb1; refine Stop.out ?_))
    unfold Stop
    have HPg : Hid (Calls Try.prog 14 #[.slice A L.length cap] w1 fun e w' => ∃ A2 c2, e = .returned (.slice A2 P.length c2) ∧ SecsAt w' A2 c2 P ∧ Below w1.heap.size w1 w') := Lib.hid (by
      refine (code_lpages L A cap w1 (HP.out.below HB1.out) HM.out.2.2.1 HM.out.2.2.2).mono ?_
      rintro e w' ⟨v, rfl, ho, _, hb⟩
      obtain ⟨A2, c2, rfl, hs⟩ := ho.secs
      rw [← HPP.out] at hs ⊢
      exact ⟨A2, c2, rfl, hs, hb⟩)
    go_wp2_with (first
      | (go_at_call 14; refine HPg.out.mono ?_; rintro e w2 ⟨A2, c2, rfl, hs2, hb2⟩; have HS2 := Lib.hid hs2; have HB2 := Lib.hid (below_then HB1.out hb2); clear hs2 hb2; refine Stop.out ?_))
    unfold Stop
    go_wp2_with (first
      | (go_at_call 13; refine (code_laid m P A2 c2 w2 HM.out.1 HM.out.2.1 (by have := HPl.out; omega) H64.out HS2.out).mono ?_; rintro e w3 ⟨B, bm, nn, g, c, tr, rfl, hd, hnn, _, hok, hB, hbm, _, _, hb3⟩; have HD3 := Lib.hid (And.intro hd (And.intro hnn hok)); have HBB := Lib.hid (And.intro (Nat.le_trans HB2.out.size hB) (Nat.le_trans HB2.out.size hbm)); have HB3 := Lib.hid (below_then HB2.out hb3); clear hd hnn hok hB hbm hb3; unfold spelt; refine Stop.out ?_))
    unfold Stop
    have HLw : Hid (LawD m (laidD m P (min m P.length))) := Lib.hid (laid_lawD H64.out HM.out.2.1 HD3.out.2.2)
    generalize laidD m P (min m P.length) = d at HD3 HLw ⊢
    have H6d : Hid (∀ i, i < d.many → (d.S i).length = 64) := Lib.hid (sec_64 HD3.out.1)
    obtain ⟨x, hx⟩ : ∃ x, x = findT d.S d.many := ⟨_, rfl⟩
    have HX := Lib.hid hx
    have HXt : Hid (x.2 ≤ d.many ∧ d.many ≤ 40) := Lib.hid ⟨by rw [hx]; exact findT_le _ _, by rw [HLw.out.many]; exact HM.out.2.1⟩
    clear hx
    obtain ⟨d2, q1, q2, q3, q4, q5, q6, q7, q8, q9⟩ := wiped_from (d := d) (tail := x.2) HLw.out.dead HLw.out.set H6d.out
    have HW2 := Lib.hid (And.intro q1 (And.intro q2 (And.intro q3 (And.intro q4 (And.intro q5 (And.intro q6 q7))))))
    have HFx : Hid (findT d2.S d2.many = x ∧ dirtyL d2.S x.2 d2.many = []) := Lib.hid (by
      rw [q2, HX.out]
      refine ⟨find_wiped (fun j hj => q8 j (by rw [HX.out]; exact hj) (Nat.lt_of_lt_of_le hj (findT_le _ _))) (fun j h1 h2 => q9 j (by rw [HX.out]; exact h1) h2), ?_⟩
      exact dirty_none (fun j h1 h2 => q9 j (by rw [HX.out]; exact h1) h2))
    have HOk2 : Hid (OkD d2 ∧ d2.writes ≤ 2000) := Lib.hid (by
      have h1 := HLw.out.ok
      have h2 := dirtyL_len d.S x.2 d.many
      have h3 := HXt.out.2
      have h4 := HLw.out.wr
      refine ⟨⟨by rw [q5]; exact h1.1, by rw [q5]; exact h1.2.1, by rw [q6]; exact h1.2.2.1, by rw [q6]; exact h1.2.2.2.1, ?_⟩, ?_⟩
      · rw [q7]; have := h1.2.2.2.2; omega
      · rw [q7]; omega)
    clear q1 q2 q3 q4 q5 q6 q7 q8 q9
    have HD3a : Hid (∀ o, Dsk (w3.alloc o) B bm nn d) := Lib.hid (fun o => HD3.out.1.below (below_alloc w3 o))
    have HFi : Hid (∀ W n, Dsk W B bm n d → Calls Try.prog 15 #[.pointer (some ⟨B, 0, none⟩)] W fun e w' => ∃ A4 c4, e = .returned (.tuple #[.slice A4 x.1.length c4, .int .i64 x.2, .int .i64 0]) ∧ SecsAt w' A4 c4 x.1 ∧ Below W.heap.size W w') := Lib.hid (fun W n h => by
      refine (code_find W B bm n d h HLw.out.dead).mono ?_
      rw [← HX.out]
      rintro e w' ⟨v, rfl, ho, hb⟩
      obtain ⟨A4, c4, rfl, hs⟩ := ho.secs
      exact ⟨A4, c4, rfl, hs, hb⟩)
    have HFi2 : Hid (∀ W n, Dsk W B bm n d2 → Calls Try.prog 15 #[.pointer (some ⟨B, 0, none⟩)] W fun e w' => ∃ A4 c4, e = .returned (.tuple #[.slice A4 x.1.length c4, .int .i64 x.2, .int .i64 0]) ∧ SecsAt w' A4 c4 x.1 ∧ Below W.heap.size W w') := Lib.hid (fun W n h => by
      refine (code_find W B bm n d2 h HW2.out.2.2.1).mono ?_
      rw [HFx.out.1]
      rintro e w' ⟨v, rfl, ho, hb⟩
      obtain ⟨A4, c4, rfl, hs⟩ := ho.secs
      exact ⟨A4, c4, rfl, hs, hb⟩)
    have HXl : Hid (x.1.length ≤ 100000) := Lib.hid (by
      have h1 := findT_len d.S d.many
      rw [← HX.out] at h1
      have := HXt.out
      omega)
    have HWi : Hid (∀ W, Dsk W B bm nn d → Calls Try.prog 22 #[.pointer (some ⟨B, 0, none⟩), .int .i64 x.2] W fun e w' => ∃ k n5, e = .returned (.tuple #[.int .i64 (k : Nat), .int .i64 0]) ∧ Dsk w' B bm n5 d2 ∧ n5 ≤ 1000 ∧ ChgD W w' B bm) := Lib.hid (fun W h => by
      refine (code_wipe W B bm nn d x.2 h HLw.out.ok HLw.out.dead HXt.out.1 (by have := HD3.out.2.1; omega) (by have := HLw.out.wr; omega)).mono ?_
      rintro e w' ⟨rfl, ⟨n5, h1, h2⟩, h3⟩
      rw [HW2.out.1] at h1 ⊢
      exact ⟨_, n5, rfl, h1, by have h4 := HD3.out.2.1; have h5 := HXt.out.2; omega, h3⟩)
    have HWi2 : Hid (∀ W n, Dsk W B bm n d2 → n ≤ 1000 → Calls Try.prog 22 #[.pointer (some ⟨B, 0, none⟩), .int .i64 x.2] W fun e w' => ∃ n5, e = .returned (.tuple #[.int .i64 0, .int .i64 0]) ∧ Dsk w' B bm n5 d2 ∧ ChgD W w' B bm) := Lib.hid (fun W n h hn => by
      refine (code_wipe W B bm n d2 x.2 h HOk2.out.1 HW2.out.2.2.1 (by rw [HW2.out.2.1]; exact HXt.out.1) (by omega) (by have := HOk2.out.2; omega)).mono ?_
      rintro e w' ⟨rfl, ⟨n5, h1, _⟩, h3⟩
      rw [HFx.out.2] at h1 ⊢
      exact ⟨n5, rfl, h1, h3⟩)
    have HDi : Hid (∀ W n, Dsk W B bm n d2 → Calls Try.prog 17 #[.pointer (some ⟨B, 0, none⟩), .int .i64 x.2] W fun e w' => e = .returned (.tuple #[.int .i64 0, .int .i64 0]) ∧ Below W.heap.size W w') := Lib.hid (fun W n h => by
      have h1 := code_dirty W B bm n d2 x.2 h HW2.out.2.2.1 (by rw [HW2.out.2.1]; exact HXt.out.1)
      rw [HFx.out.2] at h1
      exact h1)
    generalize x.1 = X at HFi HFi2 HXl
    generalize hx2 : x.2 = x2 at HFi HFi2 HWi HWi2 HDi
    clear hx2 HLi HPg
    go_wp2_with (first
      | (go_at_call 15; refine (HFi.out _ nn (HD3a.out _)).mono ?_; rintro e w4 ⟨A4, c4, rfl, hs4, hb4⟩; have HS4 := Lib.hid hs4; have HD4 := Lib.hid ((HD3a.out _).below hb4); have HB4 := Lib.hid (below_then (below_then HB3.out (below_alloc w3 _)) hb4); clear hs4 hb4; refine Stop.out ?_))
    unfold Stop
    go_wp2_with (first
      | (go_at_call 22; refine (HWi.out _ HD4.out).mono ?_; rintro e w5 ⟨k, n5, rfl, hd5, hn5, hc5⟩; have HS5 := Lib.hid (HS4.out.chg HD4.out hc5); have HD5 := Lib.hid (And.intro hd5 hn5); have HB5 := Lib.hid (HB4.out.trans (hc5.below HB4.out.size HBB.out.1 HBB.out.2)); clear hd5 hn5 hc5; refine Stop.out ?_))
    unfold Stop
    go_wp2_with (first
      | (go_at_call 15; refine (HFi2.out _ n5 HD5.out.1).mono ?_; rintro e w6 ⟨A6, c6, rfl, hs6, hb6⟩; have HS6 := Lib.hid (And.intro (HS5.out.on hb6) hs6); have HD6 := Lib.hid (HD5.out.1.below hb6); have HB6 := Lib.hid (below_then HB5.out hb6); clear hs6 hb6; refine Stop.out ?_))
    unfold Stop
    go_wp2_with (first
      | (go_at_call 25; refine (code_writes _ B bm n5 d2 HD6.out).mono ?_; rintro e w7 ⟨rfl, rfl⟩; refine Stop.out ?_))
    unfold Stop
    go_wp2_with (first
      | (go_at_call 22; refine (HWi2.out _ n5 HD6.out HD5.out.2).mono ?_; rintro e w8 ⟨n8, rfl, hd8, hc8⟩; have HS8 := Lib.hid (And.intro (HS6.out.1.chg HD6.out hc8) (HS6.out.2.chg HD6.out hc8)); have HD8 := Lib.hid hd8; have HB8 := Lib.hid (HB6.out.trans (hc8.below HB6.out.size HBB.out.1 HBB.out.2)); clear hd8 hc8; refine Stop.out ?_))
    unfold Stop
    go_wp2_with (first
      | (go_at_call 17; refine (HDi.out _ n8 HD8.out).mono ?_; rintro e w9 ⟨rfl, hb9⟩; have HS9 := Lib.hid (And.intro (HS8.out.1.on hb9) (HS8.out.2.on hb9)); have HD9 := Lib.hid (HD8.out.below hb9); have HB9 := Lib.hid (below_then HB8.out hb9); clear hb9; refine Stop.out ?_))
    unfold Stop
    have hk0 : (0 : Int) ≤ (k : Int) := by omega
    go_wp2_with (first
      | (go_at_call 19; refine (code_lsame X A4 A6 c4 c6 _ HXl.out HS9.out.1 HS9.out.2).mono ?_; rintro e w10 ⟨rfl, hb10⟩; have HD10 := Lib.hid (HD9.out.below hb10); have HB10 := Lib.hid (below_then HB9.out hb10); clear hb10; refine Stop.out ?_))
    unfold Stop
    go_wp2_with (first
      | (go_at_call 25; refine (code_writes _ B bm n8 d2 HD10.out).mono ?_; rintro e w11 ⟨rfl, rfl⟩; refine Stop.out ?_))
    unfold Stop
    go_wp2_with (first
      | (go_at_call 12; refine (HLv.out _).mono ?_; rintro e w12 ⟨rfl, hb12⟩; have HB12 := Lib.hid (below_then HB10.out hb12); clear hb12))
    go_ret
    exact ⟨rfl, HB12.out⟩
end Go.Proofs.Ytmgonokhgijgoaa

namespace Go.Proofs.Ytmgonokhgijgoaa
open Go.RowKit
set_option maxRecDepth 100000
set_option linter.unusedSimpArgs false
set_option linter.unusedVariables false

theorem sreach_ok {d : DiskV} {tail : Int} (h : sreachV d tail = 0) : ∃ t : Nat, tail = t ∧ t ≤ d.many ∧ d.dead = false := by
  unfold sreachV at h
  by_cases h1 : tail < 0 ∨ (d.many : Int) < tail
  · rw [if_pos h1] at h; omega
  · rw [if_neg h1] at h
    cases hd : d.dead with
    | true => rw [hd, if_pos rfl] at h; omega
    | false => exact ⟨tail.toNat, by omega, by omega, rfl⟩
/-- how many are dirty -/
def DX (d : DiskV) (tail : Int) : Nat := if sreachV d tail = 0 then (dirtyL d.S tail.toNat d.many).length else 0
/-- what wiping leaves, how many, the error -/
def WX (d : DiskV) (tail : Int) : DiskV × Nat × Int := if sreachV d tail = 0 then wipeL d 0 (dirtyL d.S tail.toNat d.many) else (d, 0, sreachV d tail)
/-- what the fuse leaves, the error -/
def FX (d : DiskV) (a t : Int) : DiskV × Int := if 0 ≤ a ∧ 0 ≤ t ∧ t ≤ 64 then (fuseD d a t, 0) else (d, 2)
theorem dirty_any (w : World) (B bm n : Nat) (d : DiskV) (tail : Int) (h : Dsk w B bm n d) :
    Calls Try.prog 17 #[.pointer (some ⟨B, 0, none⟩), .int .i64 tail] w fun e w' => e = .returned (.tuple #[.int .i64 (DX d tail : Nat), .int .i64 (sreachV d tail)]) ∧ Below w.heap.size w w' := by
  by_cases hz : sreachV d tail = 0
  · obtain ⟨t, rfl, ht, hd⟩ := sreach_ok hz
    have h1 := code_dirty w B bm n d t h hd ht
    unfold DX
    rw [if_pos hz, hz, Int.toNat_natCast]
    exact h1
  · unfold DX
    rw [if_neg hz]
    refine (code_dirty_bad w B bm n d tail h hz).mono ?_
    rintro e w' ⟨h1, rfl⟩
    exact ⟨h1, Below.refl _ _⟩
theorem rdirty_any (w : World) (g c : Nat) (tr : Int) (d : DiskV) (tail : Int) (h : RefIs w g c tr d) (hm : d.many ≤ 1000) (h64 : ∀ k, k < d.many → (d.S k).length = 64) :
    Calls Try.prog 18 #[spelt g c tr d, .int .i64 tail] w fun e w' => e = .returned (.tuple #[.int .i64 (DX d tail : Nat), .int .i64 (sreachV d tail)]) ∧ Below w.heap.size w w' := by
  by_cases hz : sreachV d tail = 0
  · obtain ⟨t, rfl, ht, hd⟩ := sreach_ok hz
    have h1 := ref_dirty w g c tr d t h hd ht hm h64
    unfold DX
    rw [if_pos hz, hz, Int.toNat_natCast]
    exact h1
  · unfold DX
    rw [if_neg hz]
    exact ref_dirty_bad w g c tr d tail hz
theorem wipe_any (w : World) (B bm nn : Nat) (d : DiskV) (tail : Int) (h : Dsk w B bm nn d) (hok : OkD d) (hn : nn ≤ 1000000) (hw : d.writes ≤ 1000000) :
    Calls Try.prog 22 #[.pointer (some ⟨B, 0, none⟩), .int .i64 tail] w fun e w' => e = .returned (.tuple #[.int .i64 ((WX d tail).2.1 : Nat), .int .i64 (WX d tail).2.2]) ∧ (∃ n, Dsk w' B bm n (WX d tail).1 ∧ n ≤ nn + d.many) ∧ ChgD w w' B bm := by
  by_cases hz : sreachV d tail = 0
  · obtain ⟨t, rfl, ht, hd⟩ := sreach_ok hz
    have h1 := code_wipe w B bm nn d t h hok hd ht hn hw
    unfold WX
    rw [if_pos hz, Int.toNat_natCast]
    exact h1
  · unfold WX
    rw [if_neg hz]
    refine (wipe_bad w (some ⟨B, 0, none⟩) tail (sreachV d tail) hz (fun V hV => code_sreach V B bm nn d tail (h.below hV))).mono ?_
    rintro e w' ⟨h1, hb⟩
    exact ⟨h1, ⟨nn, h.below hb, by omega⟩, ChgD.of_below hb⟩
set_option maxHeartbeats 1000000 in
theorem ref_wipe_bad (w : World) (g c : Nat) (tr : Int) (d : DiskV) (tail : Int) (h : RefIs w g c tr d) (hm1 : 1 ≤ d.many) (hz : sreachV d tail ≠ 0) :
    Calls Try.prog 23 #[spelt g c tr d, .int .i64 tail] w (WipeRR w (d, 0, sreachV d tail)) := by
  obtain ⟨wa, hwa⟩ : ∃ wa, wa = (w.alloc (.cells #[.slice (some ⟨g, 0, none⟩) d.many c, .int .i64 (aftR d), .int .i64 tr, .bool d.dead, .int .i64 d.writes] 28)).alloc zBox := ⟨_, rfl⟩
  have HBa : Hid (Below w.heap.size w wa) := Lib.hid (by rw [hwa]; exact below_then (below_alloc _ _) (below_alloc _ _))
  obtain ⟨z, hzz⟩ : ∃ z, z = sreachV d tail := ⟨_, rfl⟩
  have HDi : Hid (∀ V, V = wa → Calls Try.prog 18 #[spelt g c tr d, .int .i64 tail] V fun e w' => e = .returned (.tuple #[.int .i64 0, .int .i64 z]) ∧ Below V.heap.size V w') := Lib.hid (fun V hV => by rw [hV, hzz]; exact ref_dirty_bad wa g c tr d tail hz)
  rw [← hzz] at hz ⊢
  have HX : Hid (wa.heap[w.heap.size]? = some (.cells (refC g c d.many (aftR d) tr d.dead d.writes).toArray 28 (0, 0))) := Lib.hid (by
    rw [hwa]
    exact heap_on (below_alloc _ _) (heap_alloc_new w _))
  have HZ : Hid (wa.heap[w.heap.size + 1]? = some zBox) := Lib.hid (by
    rw [hwa]
    have := heap_alloc_new (w.alloc (.cells #[.slice (some ⟨g, 0, none⟩) d.many c, .int .i64 (aftR d), .int .i64 tr, .bool d.dead, .int .i64 d.writes] 28)) zBox
    rwa [World.size_alloc] at this)
  have HR := Lib.hid h
  have HM := Lib.hid hm1
  have HWA := Lib.hid hwa
  have hne : ¬ z = 0 := hz
  clear h hm1 hwa hz hzz
  go_enter Try.func23, Try.ntmps23
  go_wp2_with (go_at_call 18; refine (HDi.out _ HWA.out.symm).mono ?_; rintro e w1 ⟨rfl, hb1⟩; have HB1 : Hid (Below wa.heap.size wa w1) := Lib.hid (by rw [HWA.out]; exact hb1); clear hb1; refine Stop.out ?_)
  unfold Stop
  have HX1 := Lib.hid (heap_on HB1.out HX.out)
  have HZ1 := Lib.hid (heap_on HB1.out HZ.out)
  have HR1 := Lib.hid ((HR.out.below HBa.out).below HB1.out)
  have HBw := Lib.hid (below_then HBa.out HB1.out)
  clear HX HZ HDi HB1 HWA
  obtain ⟨⟨z0, z1, z2, z3, z4⟩, _⟩ := cells5 HX1.out
  obtain ⟨⟨y0, y1, y2, y3, y4⟩, ⟨x0, x1, x2, x3, x4⟩⟩ := cells5 HZ1.out
  go_wp2
  have hx := set_struct5 HZ1.out (.slice (some ⟨g, 0, none⟩) d.many c) (.int .i64 (aftR d)) (.int .i64 tr) (.bool d.dead) (.int .i64 d.writes)
  refine bodyPost_ret (results_cell_of3 rfl _ _ (w.heap.size + 1) _ _ _ rfl rfl rfl (load_ref _ _ (refC g c d.many (aftR d) tr d.dead d.writes) rfl _ _ hx)) rfl ?_
  exact ⟨g, c, tr, rfl, HR1.out.set5 (ref_box HR1.out HM.out HZ1.out (fun s e => by cases e)) _ _ _ _ _, set_below5 HBw.out (by omega) _ _ _ _ _⟩
theorem rwipe_any (w : World) (g c : Nat) (tr : Int) (d : DiskV) (tail : Int) (h : RefIs w g c tr d) (hok : OkD d) (hm1 : 1 ≤ d.many) (hm : d.many ≤ 1000) (hw : d.writes ≤ 1000000) (h64 : ∀ k, k < d.many → (d.S k).length = 64) :
    Calls Try.prog 23 #[spelt g c tr d, .int .i64 tail] w (WipeRR w (WX d tail)) := by
  by_cases hz : sreachV d tail = 0
  · obtain ⟨t, rfl, ht, hd⟩ := sreach_ok hz
    unfold WX
    rw [if_pos hz, Int.toNat_natCast]
    exact ref_wipe w g c tr d t h hok hd ht hm1 hm hw h64
  · unfold WX
    rw [if_neg hz]
    exact ref_wipe_bad w g c tr d tail h hm1 hz
theorem fuse_any (w : World) (B bm n : Nat) (d : DiskV) (a t : Int) (h : Dsk w B bm n d) :
    Calls Try.prog 20 #[.pointer (some ⟨B, 0, none⟩), .int .i64 a, .int .i64 t] w fun e w' => e = .returned (.int .i64 (FX d a t).2) ∧ Dsk w' B bm n (FX d a t).1 ∧ ChgD w w' B bm := by
  unfold FX
  by_cases hz : 0 ≤ a ∧ 0 ≤ t ∧ t ≤ 64
  · rw [if_pos hz]
    exact code_fuse w B bm n d a t h hz
  · rw [if_neg hz]
    exact play_dfuse_bad w B bm n d a t h (by omega)
theorem rfuse_any (w : World) (g c : Nat) (tr : Int) (d : DiskV) (a t : Int) (h : RefIs w g c tr d) :
    Calls Try.prog 21 #[spelt g c tr d, .int .i64 a, .int .i64 t] w fun e w' => ∃ tr2, e = .returned (.tuple #[spelt g c tr2 (FX d a t).1, .int .i64 (FX d a t).2]) ∧ RefIs w' g c tr2 (FX d a t).1 ∧ Below w.heap.size w w' := by
  unfold FX
  by_cases hz : 0 ≤ a ∧ 0 ≤ t ∧ t ≤ 64
  · rw [if_pos hz]
    refine (play_fuse w g c tr d a t h hz).mono ?_
    rintro e w' ⟨h1, h2, h3⟩
    exact ⟨t, h1, h2, h3⟩
  · rw [if_neg hz]
    refine (play_fuse_bad w g c tr d a t h (by omega)).mono ?_
    rintro e w' ⟨h1, h2, h3⟩
    exact ⟨tr, h1, h2, h3⟩
theorem FX_facts {d : DiskV} {a t : Int} (hok : OkD d) (ha : a ≤ 9223372036854775807) : OkD (FX d a t).1 ∧ (FX d a t).1.many = d.many ∧ (FX d a t).1.S = d.S ∧ (FX d a t).1.writes = d.writes ∧ (FX d a t).1.dead = d.dead := by
  unfold FX
  by_cases hz : 0 ≤ a ∧ 0 ≤ t ∧ t ≤ 64
  · rw [if_pos hz]
    exact ⟨fuseD_ok hok hz ha, rfl, rfl, rfl, rfl⟩
  · rw [if_neg hz]
    exact ⟨hok, rfl, rfl, rfl, rfl⟩
theorem Dsk.setRow {w : World} {B bm n b : Nat} {d : DiskV} (h : Dsk w B bm n d) (u : Array Value) (h1 : B ≠ b) (h2 : bm ≠ b) : Dsk (w.setRow b u) B bm n d :=
  ⟨(setRow_other _ _ _ _ h1).trans h.1, h.2.1.kept (setRow_other _ _ _ _ h2), h.2.2⟩
end Go.Proofs.Ytmgonokhgijgoaa
