/- The statement on a disk that is played with, walked. -/
import Derived.Test.YtglbpbhdhnikbaaSecPlayD
namespace Go.Proofs.Ytglbpbhdhnikbaa
open Go.RowKit
set_option maxRecDepth 100000

structure StepV where
  k : Int
  i : Int
  n : Int
  A : Option Addr
  l : Text
  c : Nat
def Stps (w : World) (A : Option Addr) (L : List StepV) : Prop :=
  ∀ q (h : q < L.length), ∃ b off, A = some ⟨b, off, none⟩ ∧ b < w.heap.size ∧ w.cell? ⟨b, off + q * 4, none⟩ = some (.int .i64 L[q].k) ∧ w.cell? ⟨b, off + q * 4 + 1, none⟩ = some (.int .i64 L[q].i) ∧ w.cell? ⟨b, off + q * 4 + 2, none⟩ = some (.int .i64 L[q].n) ∧
    w.cell? ⟨b, off + q * 4 + 3, none⟩ = some (.slice L[q].A L[q].l.length L[q].c) ∧ L[q].l.length ≤ L[q].c ∧ L[q].c ≤ maxLen ∧ Txt w L[q].A L[q].l ∧ (L[q].A = none → L[q].l = []) ∧ L[q].i ≤ 9223372036854775807 ∧ L[q].n ≤ 9223372036854775807
theorem Stps.below {w w' : World} {A : Option Addr} {L : List StepV} (h : Stps w A L) (hb : Below w.heap.size w w') : Stps w' A L := fun q hq => by
  obtain ⟨b, off, e, hl, h0, h1, h2, h3, h4, h5, h6, h7⟩ := h q hq
  exact ⟨b, off, e, Nat.lt_of_lt_of_le hl hb.size, (hb.cell hl).trans h0, (hb.cell hl).trans h1, (hb.cell hl).trans h2, (hb.cell hl).trans h3, h4, h5, h6.below hb, h7⟩

/-- what one round leaves -/
def Went (w : World) (b6 N : Nat) (p : Value) (W : World) : Prop := ∃ B bm nn g c tr d, p = .pointer (some ⟨B, 0, none⟩) ∧ Pair w b6 B bm nn g c tr d N W

set_option maxHeartbeats 3000000 in
theorem plays_in (m : Nat) (L : List StepV) (A : Option Addr) (cap : Nat) (w : World) (h1 : 1 ≤ m) (h2 : m ≤ 40) (hL : L.length ≤ 60) (hS : Stps w A L) :
    Calls Try.prog 4 #[.int .i64 m, .slice A L.length cap] w fun e w' => e = .returned (.bool true) ∧ Below w.heap.size w w' := by
  have HN : Hid (Calls Try.prog 17 #[.int .i64 m] w fun e W => ∃ B bm, e = .returned (.pointer (some ⟨B, 0, none⟩)) ∧ Dsk W B bm 0 (newD m) ∧ w.heap.size ≤ B ∧ w.heap.size ≤ bm ∧ Below w.heap.size w W) := Lib.hid (by
    have := code_dnew w m (by omega) (by omega)
    rw [Int.toNat_natCast] at this
    exact this.mono fun e W ⟨q1, q2, q3⟩ => ⟨_, _, q1, q2, by omega, by omega, q3⟩)
  have HR : Hid (∀ W, Calls Try.prog 18 #[.int .i64 m] W fun e w' => ∃ g c, e = .returned (refV g c 0 (newD m)) ∧ RefIs w' g c 0 (newD m) ∧ Below W.heap.size W w' ∧ W.heap.size ≤ g) := Lib.hid (fun W => ref_new W m h1 h2)
  have HS := Lib.hid hS
  clear hS
  have i1 : (1 : Int) ≤ (m : Int) := by omega
  have i2 : (m : Int) ≤ 40 := by omega
  have i3 : (L.length : Int) ≤ 60 := by omega
  go_enter Try.func4, Try.ntmps4
  go_wp2_with (first
    | (go_at_call 17; refine HN.out.mono ?_; rintro e w1 ⟨B, bm, rfl, hd, hB, hbm, hb1⟩; have HD := Lib.hid (And.intro hd (And.intro hB (And.intro hbm hb1))); clear hd hB hbm hb1)
    | (go_at_call 18; refine (HR.out w1).mono ?_; rintro e w2 ⟨g, c, rfl, hr, hb2, hgw⟩; have HRR := Lib.hid (And.intro hr hb2); have HG := Lib.hid hgw; clear hr hb2 hgw; unfold refV))
  obtain ⟨b6, hb6⟩ : ∃ b6, b6 = w2.heap.size := ⟨_, rfl⟩
  obtain ⟨W0, hW0⟩ : ∃ W0, W0 = w2.alloc (.cells #[.slice (some ⟨g, 0, none⟩) (newD m).many c, .int .i64 (aftR (newD m)), .int .i64 0, .bool (newD m).dead, .int .i64 (newD m).writes] 38) := ⟨_, rfl⟩
  have HP0 : Hid (Pair w b6 B bm 0 g c 0 (newD m) 0 W0) := Lib.hid (by
    obtain ⟨hd, hB, hbm, hb1⟩ := HD.out
    obtain ⟨hr, hb2⟩ := HRR.out
    have hb3 : Below w2.heap.size w2 W0 := by rw [hW0]; exact (Below.refl _ _).alloc (Nat.le_refl _) _
    have h20 : Below w.heap.size w w2 := hb1.trans (hb2.mono hb1.size)
    have hg2 : g < w2.heap.size := hr.1.1
    have hBl := hd.lt
    have hbl := hd.2.1.lt
    have hs12 := hb2.size
    have hgw : w1.heap.size ≤ g := HG.out
    exact ⟨(hd.below hb2).below hb3, hr.below hb3, by rw [hb6, hW0]; exact heap_alloc_new w2 _, ⟨by simp [newD], by simp [newD], by simp [newD], by simp [newD], by simp [newD]⟩, h2, h1, Nat.le_refl _, by simp [newD], hB, hbm, by rw [hb6]; exact h20.size, by omega, by omega, by omega, by omega, by omega, h20.trans (hb3.mono h20.size)⟩)
  rw [← hW0, ← hb6]
  clear hW0 hb6 HN HR HD HRR
  go_loopw [5, 47] (fun p i wr => ∃ k B bm nn g c tr d, k ≤ L.length ∧ i = .int .i64 (k : Nat) ∧ p = .pointer (some ⟨B, 0, none⟩) ∧ Hid (Pair w b6 B bm nn g c tr d (3 * k) wr)) (fun _ i _ => L.length - (intOf i).toNat)
  case atStart => exact ⟨0, B, bm, 0, g, c, 0, newD m, Nat.zero_le _, rfl, rfl, HP0⟩
  case round =>
    clear HP0
    obtain ⟨k, B, bm, nn, g, c, tr, d, hk, rfl, rfl, HP⟩ := hrel
    by_cases hlt : k < L.length
    · have hlt' : (k : Int) < (L.length : Int) := by omega
      obtain ⟨b, off, rfl, hbl, s0, s1, s2, s3, hs⟩ := HS.out k hlt
      obtain ⟨o, ho⟩ : ∃ o, o = L[k] := ⟨_, rfl⟩
      rw [← ho] at s0 s1 s2 s3 hs
      clear ho
      have hbw := HP.out.below
      replace s0 := (hbw.cell hbl).trans s0
      replace s1 := (hbw.cell hbl).trans s1
      replace s2 := (hbw.cell hbl).trans s2
      replace s3 := (hbw.cell hbl).trans s3
      have hbl' : b < wr.heap.size := Nat.lt_of_lt_of_le hbl hbw.size
      have HSt := Lib.hid hs
      have HBl := Lib.hid hbl
      have HLt : Hid (B < wr.heap.size ∧ bm < wr.heap.size ∧ b6 < wr.heap.size) := Lib.hid ⟨HP.out.dsk.lt, HP.out.dsk.2.1.lt, heapLt HP.out.box⟩
      have HA : Hid (∀ X, Pair w b6 B bm nn g c tr d (3 * k) (wr.alloc X)) := Lib.hid (fun X => HP.out.later ((Below.refl _ _).alloc (Nat.le_refl _) _) (Nat.le_refl _))
      have HN1 := Lib.hid (And.intro HP.out.nn HP.out.wr)
      have HN2 := Lib.hid (And.intro HP.out.n1 HP.out.n2)
      have HOk := Lib.hid (And.intro HP.out.ok (And.intro HP.out.many HP.out.len))
      clear hs hbw hbl HP
      have HHA := Lib.hid HSt.out.2.2.2.1
      by_cases h0 : o.k = 0
      · have e0 : (o.k == 0) = true := by simpa using h0
        clear h0
        by_cases hbig : 1000 < o.l.length
        · have hbig' : (1000 : Int) < (o.l.length : Int) := by omega
          clear hbig
          go_wp2_with (go_at_call 16; refine (sec_lives _).mono ?_; rintro e w6 ⟨rfl, hb6⟩; have HZ := Lib.hid ((HA.out _).below.trans (hb6.mono (HA.out _).below.size)); clear hb6)
          go_ret
          exact ⟨rfl, HZ.out⟩
        · have hbig' : (o.l.length : Int) ≤ 1000 := by omega
          clear hbig
          go_wp2_with (first
            | (go_at_call 19; refine (code_write _ B bm nn d o.i (HA.out _).dsk (by have := HN1.out.1; unfold maxLen; omega) HOk.out.1 o.A o.c o.l HSt.out.1 (HSt.out.2.2.1.below (HA.out _).below) (by have := HN1.out.2; omega)).mono ?_; rintro e w3 ⟨rfl, hd3, hc3⟩; obtain ⟨⟨x0, x1, x2, x3, x4⟩, ⟨z0, z1, z2, z3, z4⟩⟩ := cells5 ((HA.out _).boxOn hc3); obtain ⟨y0, y1, y2, y3⟩ := cells4 (step_on hc3 HLt.out.1 HLt.out.2.1); have ec := text_run_n w3 o.A o.c o.l.length o.l rfl (HSt.out.2.2.1.below ((HA.out _).on hc3)) HHA.out; have HX3 := Lib.hid (And.intro hd3 hc3); clear hd3 hc3)
            | (go_at_call 20; refine (play_write _ g c tr d o.i o.l ((HA.out _).ref.chg HX3.out.2 HN2.out.1 HN2.out.2) HOk.out.1 (by have := HN1.out.2; omega) (by have := HOk.out.2.1; omega) HOk.out.2.2).mono ?_; rintro e w4 ⟨g1, c1, tr1, rfl, hr4, hb4⟩; obtain ⟨⟨x0, x1, x2, x3, x4⟩, ⟨z0, z1, z2, z3, z4⟩⟩ := cells5 (Pair.boxLast ((HA.out _).boxOn HX3.out.2) hb4)
               have HP4 := Lib.hid ((HA.out _).renew (N1 := 3 * (k + 1)) HX3.out.1 HX3.out.2 hr4 hb4 (writeD_ok _ _ _ HOk.out.1) (writeD_many _ _ _) (by have := HN1.out.1; omega) (by have := HN1.out.2; have := writeD_writes d o.i o.l; omega)); clear hr4 hb4)
            | (go_at_call 29; refine (play_like _ B bm (nn + 1) g1 c1 tr1 (writeD d o.i o.l) HP4.out.dsk HP4.out.ref).mono ?_; rintro e w7 ⟨rfl, hb7⟩; have HP7 := Lib.hid (HP4.out.later hb7 (Nat.le_refl _)); clear hb7))
          go_roundw
          case rel => exact ⟨k + 1, B, bm, nn + 1, g1, c1, tr1, writeD d o.i o.l, by omega, by go_num, rfl, HP7⟩
          case measure => simp [intOf]; omega
      · have e0 : (o.k == 0) = false := by simpa using h0
        by_cases hk1 : o.k = 1
        · have e1 : (o.k == 1) = true := by simpa using hk1
          clear h0 hk1
          go_wp2_with (first
            | (go_at_call 21; refine (play_dread _ B bm nn d o.i (HA.out _).dsk).mono ?_; rintro e w3 ⟨A3, c3, T3, rfl, hd3, hc3, ht3, hs3, ha3⟩; obtain ⟨⟨x0, x1, x2, x3, x4⟩, ⟨z0, z1, z2, z3, z4⟩⟩ := cells5 ((HA.out _).boxOn hc3); obtain ⟨y0, y1, y2, y3⟩ := cells4 (step_on hc3 HLt.out.1 HLt.out.2.1); have HX3 := Lib.hid (And.intro hd3 hc3); have HT3 := Lib.hid (And.intro ht3 (And.intro hs3 ha3)); clear hd3 hc3 ht3 hs3 ha3)
            | (go_at_call 22; refine (play_read _ g c tr d o.i T3 ((HA.out _).ref.chg HX3.out.2 HN2.out.1 HN2.out.2) HT3.out.2.1).mono ?_; rintro e w4 ⟨rfl, hb4⟩; obtain ⟨⟨x0, x1, x2, x3, x4⟩, ⟨z0, z1, z2, z3, z4⟩⟩ := cells5 (Pair.boxLast ((HA.out _).boxOn HX3.out.2) hb4); have ec := text_run_n w4 A3 c3 T3.length T3 rfl (HT3.out.1.below hb4) HT3.out.2.2
               have HP4 := Lib.hid (((HA.out _).still HX3.out.1 HX3.out.2).later hb4 (show 3 * k ≤ 3 * (k + 1) by omega)); clear hb4)
            | (go_at_call 29; refine (play_like _ B bm nn g c tr d HP4.out.dsk HP4.out.ref).mono ?_; rintro e w7 ⟨rfl, hb7⟩; have HP7 := Lib.hid (HP4.out.later hb7 (Nat.le_refl _)); clear hb7))
          go_roundw
          case rel => exact ⟨k + 1, B, bm, nn, g, c, tr, d, by omega, by go_num, rfl, HP7⟩
          case measure => simp [intOf]; omega
        · have e1 : (o.k == 1) = false := by simpa using hk1
          by_cases hk2 : o.k = 2
          · have e2 : (o.k == 2) = true := by simpa using hk2
            clear h0 hk1 hk2
            by_cases hok : 0 ≤ o.i ∧ 0 ≤ o.n ∧ o.n ≤ 64
            · have HK := Lib.hid hok
              clear hok
              go_wp2_with (first
                | (go_at_call 23; refine (code_fuse _ B bm nn d o.i o.n (HA.out _).dsk HK.out).mono ?_; rintro e w3 ⟨rfl, hd3, hc3⟩; obtain ⟨⟨x0, x1, x2, x3, x4⟩, ⟨z0, z1, z2, z3, z4⟩⟩ := cells5 ((HA.out _).boxOn hc3); obtain ⟨y0, y1, y2, y3⟩ := cells4 (step_on hc3 HLt.out.1 HLt.out.2.1); have HX3 := Lib.hid (And.intro hd3 hc3); clear hd3 hc3)
                | (go_at_call 24; refine (play_fuse _ g c tr d o.i o.n ((HA.out _).ref.chg HX3.out.2 HN2.out.1 HN2.out.2) HK.out).mono ?_; rintro e w4 ⟨rfl, hr4, hb4⟩; obtain ⟨⟨x0, x1, x2, x3, x4⟩, ⟨z0, z1, z2, z3, z4⟩⟩ := cells5 (Pair.boxLast ((HA.out _).boxOn HX3.out.2) hb4)
                   have HP4 := Lib.hid ((HA.out _).renew (N1 := 3 * (k + 1)) (d1 := fuseD d o.i o.n) HX3.out.1 HX3.out.2 hr4 hb4 (fuseD_ok HOk.out.1 HK.out HSt.out.2.2.2.2.1) rfl (by have := HN1.out.1; omega) (by have := HN1.out.2; show d.writes ≤ _; omega)); clear hr4 hb4)
                | (go_at_call 29; refine (play_like _ B bm nn g c o.n (fuseD d o.i o.n) HP4.out.dsk HP4.out.ref).mono ?_; rintro e w7 ⟨rfl, hb7⟩; have HP7 := Lib.hid (HP4.out.later hb7 (Nat.le_refl _)); clear hb7))
              go_roundw
              case rel => exact ⟨k + 1, B, bm, nn, g, c, o.n, fuseD d o.i o.n, by omega, by go_num, rfl, HP7⟩
              case measure => simp [intOf]; omega
            · have HK : Hid (o.i < 0 ∨ o.n < 0 ∨ 64 < o.n) := Lib.hid (by omega)
              clear hok
              go_wp2_with (first
                | (go_at_call 23; refine (play_dfuse_bad _ B bm nn d o.i o.n (HA.out _).dsk HK.out).mono ?_; rintro e w3 ⟨rfl, hd3, hc3⟩; obtain ⟨⟨x0, x1, x2, x3, x4⟩, ⟨z0, z1, z2, z3, z4⟩⟩ := cells5 ((HA.out _).boxOn hc3); obtain ⟨y0, y1, y2, y3⟩ := cells4 (step_on hc3 HLt.out.1 HLt.out.2.1); have HX3 := Lib.hid (And.intro hd3 hc3); clear hd3 hc3)
                | (go_at_call 24; refine (play_fuse_bad _ g c tr d o.i o.n ((HA.out _).ref.chg HX3.out.2 HN2.out.1 HN2.out.2) HK.out).mono ?_; rintro e w4 ⟨rfl, hr4, hb4⟩; obtain ⟨⟨x0, x1, x2, x3, x4⟩, ⟨z0, z1, z2, z3, z4⟩⟩ := cells5 (Pair.boxLast ((HA.out _).boxOn HX3.out.2) hb4)
                   have HP4 := Lib.hid ((HA.out _).renew (N1 := 3 * (k + 1)) HX3.out.1 HX3.out.2 hr4 hb4 HOk.out.1 rfl (by have := HN1.out.1; omega) (by have := HN1.out.2; omega)); clear hr4 hb4)
                | (go_at_call 29; refine (play_like _ B bm nn g c tr d HP4.out.dsk HP4.out.ref).mono ?_; rintro e w7 ⟨rfl, hb7⟩; have HP7 := Lib.hid (HP4.out.later hb7 (Nat.le_refl _)); clear hb7))
              go_roundw
              case rel => exact ⟨k + 1, B, bm, nn, g, c, tr, d, by omega, by go_num, rfl, HP7⟩
              case measure => simp [intOf]; omega
          · have e2 : (o.k == 2) = false := by simpa using hk2
            by_cases hk3 : o.k = 3
            · have e3 : (o.k == 3) = true := by simpa using hk3
              clear h0 hk1 hk2 hk3
              go_wp2_with (first
                | (go_at_call 25; refine (code_power _ B bm nn d (HA.out _).dsk).mono ?_; rintro e w3 ⟨rfl, hd3, hc3⟩; obtain ⟨⟨x0, x1, x2, x3, x4⟩, ⟨z0, z1, z2, z3, z4⟩⟩ := cells5 ((HA.out _).boxOn hc3); have HX3 := Lib.hid (And.intro hd3 hc3); clear hd3 hc3)
                | (go_at_call 26; refine (play_power _ g c tr d ((HA.out _).ref.chg HX3.out.2 HN2.out.1 HN2.out.2)).mono ?_; rintro e w4 ⟨rfl, hr4, hb4⟩; obtain ⟨⟨x0, x1, x2, x3, x4⟩, ⟨z0, z1, z2, z3, z4⟩⟩ := cells5 (Pair.boxLast ((HA.out _).boxOn HX3.out.2) hb4)
                   have HP4 := Lib.hid ((HA.out _).renew (N1 := 3 * (k + 1)) HX3.out.1 HX3.out.2 hr4 hb4 (offD_ok HOk.out.1) rfl (by have := HN1.out.1; omega) (by have := HN1.out.2; show d.writes ≤ _; omega)); clear hr4 hb4)
                | (go_at_call 29; refine (play_like _ B bm nn g c tr (offD d) HP4.out.dsk HP4.out.ref).mono ?_; rintro e w7 ⟨rfl, hb7⟩; have HP7 := Lib.hid (HP4.out.later hb7 (Nat.le_refl _)); clear hb7))
              go_roundw
              case rel => exact ⟨k + 1, B, bm, nn, g, c, tr, offD d, by omega, by go_num, rfl, HP7⟩
              case measure => simp [intOf]; omega
            · have e3 : (o.k == 3) = false := by simpa using hk3
              clear h0 hk1 hk2 hk3
              go_wp2_with (first
                | (go_at_call 27; refine (pair_clone (HA.out _)).mono ?_; rintro e w3 ⟨B', bm', rfl, ht3⟩; have HT3 := Lib.hid ht3; clear ht3)
                | (go_at_call 28; refine (code_fill64 7 7 rfl _).mono ?_; rintro e w4 ⟨g4, c4, rfl, hc4, ht4, hb4⟩; have HT4 := Lib.hid (And.intro (HT3.out.later hb4) ht4); clear ht4 hb4)
                | (go_at_call 19; refine (twin_write HT4.out.1 HN1.out.1 HN1.out.2 (by omega) g4 c4 hc4 HT4.out.2).mono ?_; rintro e w5 ⟨v5, d5, rfl, ht5⟩; have HT5 := Lib.hid ht5; clear ht5)
                | (go_at_call 25; refine (twin_power HT5.out).mono ?_; rintro e w6 ⟨rfl, ht6⟩; have HT6 := Lib.hid ht6; obtain ⟨⟨x0, x1, x2, x3, x4⟩, ⟨z0, z1, z2, z3, z4⟩⟩ := cells5 ht6.pair.box; clear ht6)
                | (go_at_call 29; refine (play_like _ B' bm' nn g c tr d HT6.out.pair.dsk HT6.out.pair.ref).mono ?_; rintro e w7 ⟨rfl, hb7⟩; have HP7 := Lib.hid (HT6.out.pair.later hb7 (show 3 * k ≤ 3 * (k + 1) by omega)); clear hb7))
              go_roundw
              case rel => exact ⟨k + 1, B', bm', nn, g, c, tr, d, by omega, by go_num, rfl, HP7⟩
              case measure => simp [intOf]; omega
    · obtain rfl : k = L.length := by omega
      go_wp2_with (go_at_call 16; refine (sec_lives _).mono ?_; rintro e w6 ⟨rfl, hb6⟩)
      go_ret
      exact ⟨rfl, HP.out.below.trans (hb6.mono HP.out.below.size)⟩
end Go.Proofs.Ytglbpbhdhnikbaa
