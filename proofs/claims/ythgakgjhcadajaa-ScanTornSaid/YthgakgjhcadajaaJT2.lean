/- A torn batch: walked. The statement on a torn batch, at every input. -/
import Derived.Test.YthgakgjhcadajaaJT1
namespace Go.Proofs.Ythgakgjhcadajaa
open Go.RowKit
set_option maxRecDepth 100000
set_option linter.unusedSimpArgs false
set_option linter.unusedVariables false

set_option maxHeartbeats 8000000 in
theorem torn_in (many : Int) (L : List PartV) (A : Option Addr) (cap : Nat) (b : Text) (Ab : Option Addr) (cb : Nat) (pages torn : Int) (w : World) (hP : PartsAt w A L) (hq : lightB many L = true) (hb1 : 1 ≤ b.length) (hb2 : b.length ≤ 500) (hp0 : 0 ≤ pages) (ht0 : 0 ≤ torn) (ht1 : torn ≤ 64) (hcb : b.length ≤ cb) (hTb : Txt w Ab b) (hAb : Ab = none → b = []) :
    Calls Try.prog 5 #[.int .i64 many, .slice A L.length cap, .slice Ab b.length cb, .int .i64 pages, .int .i64 torn] w fun e w' => e = .returned (.bool true) ∧ Below w.heap.size w w' := by
    have HLi := Lib.hid (code_light many L A cap w hP)
    have HLv := Lib.hid scan_lives
    rw [hq] at HLi
    obtain ⟨m, rfl, hm1, hm2, hL, hl⟩ := lightB_is hq
    have HP := Lib.hid hP
    have HM := Lib.hid (And.intro hm1 (And.intro hm2 (And.intro hL hl)))
    have H64 := Lib.hid (lawP_64 L)
    have HPl := Lib.hid (lawP_len20 L hL hl)
    have HTb := Lib.hid hTb
    have HBb := Lib.hid (And.intro hb1 (And.intro hb2 (And.intro hcb hAb)))
    have HTo := Lib.hid (And.intro ht0 ht1)
    clear hq hP hm1 hm2 hL hl hTb hAb hcb
    obtain ⟨nb, hnb⟩ : ∃ nb, nb = b.length := ⟨_, rfl⟩
    rw [← hnb] at hb1 hb2 ⊢
    have HNb := Lib.hid hnb
    clear hnb
    have ib1 : (1 : Int) ≤ (nb : Int) := by omega
    have ib2 : (nb : Int) ≤ 500 := by omega
    have n1 : ¬ (nb : Int) < 1 := by omega
    have n2 : ¬ (500 : Int) < (nb : Int) := by omega
    have n3 : ¬ pages < 0 := by omega
    have n4 : ¬ torn < 0 := by omega
    have n5 : ¬ 64 < torn := by omega
    clear hb1 hb2
    obtain ⟨P, hPP⟩ : ∃ P, P = lawP L := ⟨_, rfl⟩
    have HPP := Lib.hid hPP
    rw [← hPP] at H64 HPl
    clear hPP
    go_enter Try.func5, Try.ntmps5
    go_wp2_with (first
      | (go_at_call 11; refine HLi.out.mono ?_; rintro e w1 ⟨rfl, hb1⟩; have HB1 := Lib.hid hb1; clear hb1; refine Stop.out ?_))
    unfold Stop
    have HPg : Hid (Calls Try.prog 14 #[.slice A L.length cap] w1 fun e w' => ∃ A2 c2, e = .returned (.slice A2 P.length c2) ∧ SecsAt w' A2 c2 P ∧ Below w1.heap.size w1 w') := Lib.hid (by
      refine (code_lpages L A cap w1 (HP.out.below HB1.out) HM.out.2.2.1 HM.out.2.2.2).mono ?_
      rintro e w' ⟨v, rfl, ho, _, hb⟩
      obtain ⟨A2, c2, rfl, hs⟩ := ho.secs
      rw [← HPP.out] at hs ⊢
      exact ⟨A2, c2, rfl, hs, hb⟩)
    go_wp2_with (first
      | (go_at_call 14; refine HPg.out.mono ?_; rintro e w2 ⟨A2, c2, rfl, hs2, hb2⟩; have HS2 := Lib.hid hs2; have HB2 := Lib.hid (below_then HB1.out hb2); clear hs2 hb2; refine Stop.out ?_))
    unfold Stop
    go_wp2_with (first
      | (go_at_call 13; refine (code_laid m P A2 c2 w2 HM.out.1 HM.out.2.1 (by have := HPl.out; omega) H64.out HS2.out).mono ?_; rintro e w3 ⟨B, bm, nn, g, c, tr, rfl, hd, hnn, _, hok, hB, hbm, _, _, hb3⟩; have HD3 := Lib.hid (And.intro hd (And.intro hnn hok)); have HBB := Lib.hid (And.intro (Nat.le_trans HB2.out.size hB) (Nat.le_trans HB2.out.size hbm)); have HB3 := Lib.hid (below_then HB2.out hb3); clear hd hnn hok hB hbm hb3; unfold spelt; refine Stop.out ?_))
    unfold Stop
    have HLw : Hid (LawD m (laidD m P (min m P.length))) := Lib.hid (laid_lawD H64.out HM.out.2.1 HD3.out.2.2)
    generalize laidD m P (min m P.length) = d at HD3 HLw ⊢
    have H6d : Hid (∀ i, i < d.many → (d.S i).length = 64) := Lib.hid (sec_64 HD3.out.1)
    obtain ⟨x, hx⟩ : ∃ x, x = findT d.S d.many := ⟨_, rfl⟩
    have HX := Lib.hid hx
    have HXt : Hid (x.2 ≤ d.many ∧ d.many ≤ 40) := Lib.hid ⟨by rw [hx]; exact findT_le _ _, by rw [HLw.out.many]; exact HM.out.2.1⟩
    clear hx
    obtain ⟨d2, q1, q2, q3, q4, q5, q6, q7, q8, q9⟩ := wiped_from (d := d) (tail := x.2) HLw.out.dead HLw.out.set H6d.out
    have HW2 := Lib.hid (And.intro q1 (And.intro q2 (And.intro q3 (And.intro q4 (And.intro q5 (And.intro q6 q7))))))
    have HFx : Hid (findT d2.S d2.many = x ∧ dirtyL d2.S x.2 d2.many = []) := Lib.hid (by
      rw [q2, HX.out]
      refine ⟨find_wiped (fun j hj => q8 j (by rw [HX.out]; exact hj) (Nat.lt_of_lt_of_le hj (findT_le _ _))) (fun j h1 h2 => q9 j (by rw [HX.out]; exact h1) h2), ?_⟩
      exact dirty_none (fun j h1 h2 => q9 j (by rw [HX.out]; exact h1) h2))
    have HOk2 : Hid (OkD d2 ∧ d2.writes ≤ 2000) := Lib.hid (by
      have h1 := HLw.out.ok
      have h2 := dirtyL_len d.S x.2 d.many
      have h3 := HXt.out.2
      have h4 := HLw.out.wr
      refine ⟨⟨by rw [q5]; exact h1.1, by rw [q5]; exact h1.2.1, by rw [q6]; exact h1.2.2.1, by rw [q6]; exact h1.2.2.2.1, ?_⟩, ?_⟩
      · rw [q7]; have := h1.2.2.2.2; omega
      · rw [q7]; omega)
    have HZr0 : Hid (∀ j, x.2 ≤ j → j < d2.many → d2.S j = zeros) := Lib.hid (fun j h1 h2 => q9 j h1 (by rw [← q2]; exact h2))
    have HXle0 : Hid (x.1.length ≤ x.2) := Lib.hid (by rw [HX.out]; exact findT_len _ _)
    clear q1 q2 q3 q4 q5 q6 q7 q8 q9
    have HD3a : Hid (∀ o, Dsk (w3.alloc o) B bm nn d) := Lib.hid (fun o => HD3.out.1.below (below_alloc w3 o))
    have HFi : Hid (∀ W n, Dsk W B bm n d → Calls Try.prog 15 #[.pointer (some ⟨B, 0, none⟩)] W fun e w' => ∃ A4 c4, e = .returned (.tuple #[.slice A4 x.1.length c4, .int .i64 x.2, .int .i64 0]) ∧ SecsAt w' A4 c4 x.1 ∧ Below W.heap.size W w') := Lib.hid (fun W n h => by
      refine (code_find W B bm n d h HLw.out.dead).mono ?_
      rw [← HX.out]
      rintro e w' ⟨v, rfl, ho, hb⟩
      obtain ⟨A4, c4, rfl, hs⟩ := ho.secs
      exact ⟨A4, c4, rfl, hs, hb⟩)
    have HXl : Hid (x.1.length ≤ 100000) := Lib.hid (by
      have h1 := findT_len d.S d.many
      rw [← HX.out] at h1
      have := HXt.out
      omega)
    have HWi : Hid (∀ W, Dsk W B bm nn d → Calls Try.prog 22 #[.pointer (some ⟨B, 0, none⟩), .int .i64 x.2] W fun e w' => ∃ k n5, e = .returned (.tuple #[.int .i64 (k : Nat), .int .i64 0]) ∧ Dsk w' B bm n5 d2 ∧ n5 ≤ 1000 ∧ ChgD W w' B bm) := Lib.hid (fun W h => by
      refine (code_wipe W B bm nn d x.2 h HLw.out.ok HLw.out.dead HXt.out.1 (by have := HD3.out.2.1; omega) (by have := HLw.out.wr; omega)).mono ?_
      rintro e w' ⟨rfl, ⟨n5, h1, h2⟩, h3⟩
      rw [HW2.out.1] at h1 ⊢
      exact ⟨_, n5, rfl, h1, by have h4 := HD3.out.2.1; have h5 := HXt.out.2; omega, h3⟩)
    obtain ⟨lx, hlx⟩ : ∃ lx, lx = x.1.length := ⟨_, rfl⟩
    have HLx := Lib.hid hlx
    have HRx : Hid (findT d2.S d2.many = (x.1, x.2)) := Lib.hid (by rw [HFx.out.1])
    have HXle := HXle0
    have HZr := HZr0
    clear HXle0 HZr0
    generalize hX : x.1 = X at HFi HXl HLx HRx hlx HXle
    rw [← hlx] at HFi
    generalize hx2 : x.2 = t at HFi HWi HXt HFx HRx HXle HZr
    clear hX hx2 HLi HPg hlx
    have it0 : (0 : Int) ≤ (t : Int) := by omega
    have itm : (t : Int) ≤ (m : Int) := by have h1 := HXt.out.1; rw [HLw.out.many] at h1; omega
    have n6 : ¬ (t : Int) < 0 := by omega
    have n7 : ¬ (m : Int) < (t : Int) := by omega
    go_wp2_with (first
      | (go_at_call 15; refine (HFi.out _ nn (HD3a.out _)).mono ?_; rintro e w4 ⟨A4, c4, rfl, hs4, hb4⟩; have HS4 := Lib.hid hs4; have HD4 := Lib.hid ((HD3a.out _).below hb4); have HB4 := Lib.hid (below_then (below_then HB3.out (below_alloc w3 _)) hb4); clear hs4 hb4; refine Stop.out ?_))
    unfold Stop
    go_wp2_with (first
      | (go_at_call 22; refine (HWi.out _ HD4.out).mono ?_; rintro e w5 ⟨k, n5, rfl, hd5, hn5, hc5⟩; have HS5 := Lib.hid (HS4.out.chg HD4.out hc5); have HD5 := Lib.hid (And.intro hd5 hn5); have HB5 := Lib.hid (HB4.out.trans (hc5.below HB4.out.size HBB.out.1 HBB.out.2)); clear hd5 hn5 hc5; refine Stop.out ?_))
    unfold Stop
    have hwl : wrap64 ((lx : Int) + 1) = ((lx + 1 : Nat) : Int) := by have h1 := HXl.out; rw [← HLx.out] at h1; unfold wrap64; omega
    obtain ⟨P2, hP2⟩ : ∃ P2, P2 = pagesT (lx + 1) b := ⟨_, rfl⟩
    have HP2 := Lib.hid hP2
    have HP2l : Hid (P2.length = manyC b + 2 ∧ P2.length ≤ 10 ∧ ∀ T ∈ P2, T.length = 64) := Lib.hid (by
      have e : partP ((lx + 1 : Nat) : Int) b = P2 := by
        rw [hP2]
        unfold partP
        rw [if_pos, Int.toNat_natCast]
        unfold headOk seqOk needV
        have h1 := HXl.out; rw [← HLx.out] at h1
        have h2 := HBb.out
        rw [if_neg (by omega)]
        simp
        omega
      have h2 := HBb.out.2.1
      have h3 : P2.length = manyC b + 2 := by rw [hP2]; exact pagesT_len _ _
      refine ⟨h3, by rw [h3]; unfold manyC; omega, ?_⟩
      rw [← e]
      exact partP_64 _ _)
    have HPq : Hid (∀ W, Below w.heap.size w W → Calls Try.prog 26 #[.int .i64 ((lx + 1 : Nat) : Int), .slice Ab nb cb] W fun e w' => ∃ G c9 y, e = .returned (.tuple #[.slice (some ⟨G, 0, none⟩) P2.length c9, .int .i64 y]) ∧ TextsAt w' G P2 ∧ P2.length ≤ c9 ∧ Below W.heap.size W w') := Lib.hid (fun W hb => by
      have h := ref_pagesA ((lx + 1 : Nat) : Int) b Ab cb W (by have := HBb.out; omega) HBb.out.2.2.1 (HTb.out.below hb)
      have e : partP ((lx + 1 : Nat) : Int) b = P2 := by
        rw [HP2.out]
        unfold partP
        rw [if_pos, Int.toNat_natCast]
        unfold headOk seqOk needV
        have h1 := HXl.out; rw [← HLx.out] at h1
        have h2 := HBb.out
        rw [if_neg (by omega)]
        simp
        omega
      rw [e, ← HNb.out] at h
      refine h.mono ?_
      rintro e w' ⟨B9, c9, y, rfl, hs, hb⟩
      rcases hs with ⟨_, h0, _⟩ | ⟨G, rfl, h1, h2⟩
      · have := HP2l.out.1
        rw [h0] at this
        cases this
      · exact ⟨G, c9, y, rfl, h1, h2, hb⟩)
    obtain ⟨np, hnp⟩ : ∃ np, np = P2.length := ⟨_, rfl⟩
    rw [← hnp] at HPq
    have HNp := Lib.hid hnp
    clear hP2 hnp
    go_wp2_with (first
      | (go_at_call 26; refine (HPq.out _ HB5.out).mono ?_; rintro e w6 ⟨G, c9, y, rfl, hg6, hc9, hb6⟩; have HS6 := Lib.hid (HS5.out.on hb6); have HD6 := Lib.hid (HD5.out.1.below hb6); have HB6 := Lib.hid (below_then HB5.out hb6); have HG6 := Lib.hid (And.intro hg6 hc9); clear hg6 hc9 hb6; refine Stop.out ?_))
    unfold Stop
    have hws : wrap64 ((m : Int) - (t : Int)) = (m : Int) - (t : Int) := by have := HM.out.2.1; unfold wrap64; omega
    have hnp0 : (0 : Int) < (np : Int) := by have h1 := HP2l.out.1; rw [← HNp.out] at h1; omega
    clear HPq hwl
    by_cases hroom : (m : Int) - (t : Int) < (np : Int)
    · go_wp2_with (first
        | (go_at_call 12; refine (HLv.out _).mono ?_; rintro e w12 ⟨rfl, hb12⟩; have HB12 := Lib.hid (below_then HB6.out hb12); clear hb12))
      go_ret
      exact ⟨rfl, HB12.out⟩
    · have hroom' : (np : Int) ≤ (m : Int) - (t : Int) := by omega
      by_cases hpn : (np : Int) ≤ pages
      · go_wp2_with (first
          | (go_at_call 12; refine (HLv.out _).mono ?_; rintro e w12 ⟨rfl, hb12⟩; have HB12 := Lib.hid (below_then HB6.out hb12); clear hb12))
        go_ret
        exact ⟨rfl, HB12.out⟩
      · obtain ⟨pg, rfl⟩ : ∃ pg : Nat, pages = (pg : Int) := ⟨pages.toNat, by omega⟩
        have hpn' : (pg : Int) < (np : Int) := by omega
        have HPN : Hid (pg < np ∧ t + np ≤ m) := Lib.hid ⟨by omega, by omega⟩
        have hpc : (pg : Int) ≤ (c9 : Int) := by have h1 := HG6.out.2; omega
        have HSG : Hid (SecsAt w6 (some ⟨G, 0, none⟩) c9 P2) := Lib.hid (.inr ⟨G, rfl, HG6.out.1, by rw [← HNp.out]; exact HG6.out.2⟩)
        have H6e : Hid (∀ i, i < d2.many → (d2.S i).length = 64) := Lib.hid (sec_64 HD6.out)
        have HPf : Hid (∀ k, k ≤ P2.length → (putL d2 t P2 k).many = d2.many ∧ (putL d2 t P2 k).dead = false ∧ (putL d2 t P2 k).set = false ∧ OkD (putL d2 t P2 k) ∧ (putL d2 t P2 k).writes = d2.writes + k ∧ ∀ j, (putL d2 t P2 k).S j = if t ≤ j ∧ j < t + k then P2.getD (j - t) [] else d2.S j) := Lib.hid (putL_facts d2 t P2 HP2l.out.2.2 HW2.out.2.2.1 HW2.out.2.2.2.1 HOk2.out.1 (by rw [HW2.out.2.1, HLw.out.many, ← HNp.out]; exact HPN.out.2) H6e.out)
        clear hp0
        go_wp2
        clear hpc
        go_loopw [115] (fun i wr => ∃ k n : Nat, k ≤ pg ∧ i = .int .i64 (k : Nat) ∧ Hid (Dsk wr B bm n (putL d2 t P2 k)) ∧ Hid (n ≤ n5 + k) ∧ Hid (Below w.heap.size w wr) ∧ Hid (SecsAt wr A4 c4 X) ∧ Hid (SecsAt wr (some ⟨G, 0, none⟩) c9 P2)) (fun i _ => roundsLeft pg i)
        case atStart => exact ⟨0, n5, Nat.zero_le _, rfl, HD6, Lib.hid (Nat.le_refl _), HB6, HS6, HSG⟩
        case round =>
          clear HSG HS6 HB6 HD6
          obtain ⟨k, n, hk, rfl, HD, HN, HB, HS, HG⟩ := hrel
          by_cases hlt : k < pg
          · have hlt' : (k : Int) < (pg : Int) := by omega
            have hwk : wrap64 ((k : Int) + 1) = (k : Int) + 1 := by have := HPN.out.1; have := HP2l.out.2.1; rw [← HNp.out] at this; unfold wrap64; omega
            have hwt : wrap64 ((t : Int) + (k : Int)) = ((t + k : Nat) : Int) := by have := HPN.out; have := HM.out.2.1; unfold wrap64; omega
            obtain ⟨r, hr⟩ : ∃ r, r = t + k := ⟨_, rfl⟩
            rw [← hr] at hwt
            have HR := Lib.hid hr
            clear hr
            have hk2 : k < P2.length := by rw [← HNp.out]; have := HPN.out.1; omega
            rcases HG.out with ⟨h0, _⟩ | ⟨G', h0, hTA, _⟩
            · cases h0
            obtain rfl : G = G' := by injection h0 with h0; injection h0 with h0
            obtain ⟨bq, cq, q1, q2, q3, q4, q5, q6⟩ := hTA k hk2
            have HT64 : Hid (P2[k].length = 64) := Lib.hid (HP2l.out.2.2 _ (List.getElem_mem _))
            have HTk : Hid (P2.getD k [] = P2[k]) := Lib.hid (by rw [List.getD_eq_getElem?_getD, List.getElem?_eq_getElem hk2]; rfl)
            have HWr : Hid (Calls Try.prog 27 #[.pointer (some ⟨B, 0, none⟩), .int .i64 (r : Nat), .slice (some ⟨bq, 0, none⟩) 64 cq] wr fun e w' => e = .returned (.int .i64 0) ∧ Dsk w' B bm (n + 1) (putL d2 t P2 (k + 1)) ∧ ChgD wr w' B bm) := Lib.hid (by
              obtain ⟨a1, a2, a3, a4, a5, _⟩ := HPf.out k (by omega)
              have h := code_write wr B bm n (putL d2 t P2 k) r HD.out (by have h1 := HN.out; have h2 := HD5.out.2; have h3 := HP2l.out.2.1; unfold maxLen; omega) a4 (some ⟨bq, 0, none⟩) cq P2[k] q2 (mid_txt q4) (by rw [a5]; have h1 := HOk2.out.2; have h3 := HP2l.out.2.1; omega)
              have he := (writeD_plain (d := putL d2 t P2 k) (k := r) (T := P2[k]) (by rw [a1, HW2.out.2.1, HLw.out.many, HR.out]; have := HPN.out; omega) a2 a3 HT64.out).2
              rw [he, HT64.out] at h
              have e2 : putL d2 t P2 (k + 1) = writeD (putL d2 t P2 k) (r : Int) P2[k] := by
                show writeD (putL d2 t P2 k) ((t + k : Nat) : Int) (P2.getD k []) = _
                rw [HTk.out, HR.out]
              rw [e2]
              exact h)
            rw [HT64.out] at q1
            clear q2 q3 q4 q5 q6 hTA h0
            go_wp2_with (go_at_call 27; refine HWr.out.mono ?_; rintro e w7 ⟨rfl, hd7, hc7⟩; have HD7 := Lib.hid hd7; have HB7 := Lib.hid (HB.out.trans (hc7.below HB.out.size HBB.out.1 HBB.out.2)); have HS7 := Lib.hid (And.intro (HS.out.chg HD.out hc7) (HG.out.chg HD.out hc7)); clear hd7 hc7)
            go_roundw
            case rel => exact ⟨k + 1, n + 1, by omega, congrArg (Value.int .i64) (by omega), HD7, Lib.hid (by have := HN.out; omega), HB7, Lib.hid HS7.out.1, Lib.hid HS7.out.2⟩
            case measure => rw [hwk]; exact roundsLeft_next _ _ hlt
          · obtain rfl : k = pg := by omega
            have hwt : wrap64 ((t : Int) + (k : Int)) = ((t + k : Nat) : Int) := by have := HPN.out; have := HM.out.2.1; unfold wrap64; omega
            obtain ⟨r, hr⟩ : ∃ r, r = t + k := ⟨_, rfl⟩
            rw [← hr] at hwt
            have HR := Lib.hid hr
            clear hr
            have hk2 : k < P2.length := by rw [← HNp.out]; exact HPN.out.1
            rcases HG.out with ⟨h0, _⟩ | ⟨G', h0, hTA, _⟩
            · cases h0
            obtain rfl : G = G' := by injection h0 with h0; injection h0 with h0
            obtain ⟨bq, cq, q1, q2, q3, q4, q5, q6⟩ := hTA k hk2
            have HT64 : Hid (P2[k].length = 64) := Lib.hid (HP2l.out.2.2 _ (List.getElem_mem _))
            have HTk : Hid (P2.getD k [] = P2[k]) := Lib.hid (by rw [List.getD_eq_getElem?_getD, List.getElem?_eq_getElem hk2]; rfl)
            have HQ := Lib.hid (And.intro q2 (And.intro q3 (And.intro q4 (And.intro q5 q6))))
            rw [HT64.out] at q1
            have HQ1 := Lib.hid q1
            clear q1 q2 q3 q4 q5 q6 hTA h0
            obtain ⟨dp, hdp⟩ : ∃ dp, dp = putL d2 t P2 k := ⟨_, rfl⟩
            have HPk : Hid (dp.many = d2.many ∧ dp.dead = false ∧ dp.set = false ∧ OkD dp ∧ dp.writes = d2.writes + k) := Lib.hid (by
              obtain ⟨a1, a2, a3, a4, a5, _⟩ := HPf.out k (by omega)
              rw [hdp]
              exact ⟨a1, a2, a3, a4, a5⟩)
            rw [← hdp] at HD
            have HDP := Lib.hid hdp
            clear hdp
            have HFu : Hid (Calls Try.prog 20 #[.pointer (some ⟨B, 0, none⟩), .int .i64 0, .int .i64 torn] wr fun e w' => e = .returned (.int .i64 0) ∧ Dsk w' B bm n { dp with set := true, after := 0, torn := torn } ∧ ChgD wr w' B bm) := Lib.hid (code_fuse wr B bm n dp 0 torn HD.out ⟨by decide, HTo.out⟩)
            go_wp2_with (go_at_call 20; refine HFu.out.mono ?_; rintro e w7 ⟨rfl, hd7, hc7⟩; have HD7 := Lib.hid hd7; have HB7 := Lib.hid (HB.out.trans (hc7.below HB.out.size HBB.out.1 HBB.out.2)); have HS7 := Lib.hid (And.intro (HS.out.chg HD.out hc7) (HG.out.chg HD.out hc7)); have HC7 := Lib.hid hc7; clear hd7 hc7; refine Stop.out ?_)
            unfold Stop
            rcases HS7.out.2 with ⟨h0, _⟩ | ⟨G', h0, hTA, _⟩
            · cases h0
            obtain rfl : G = G' := by injection h0 with h0; injection h0 with h0
            obtain ⟨b3, c3, r1, r2, r3, r4, r5, r6⟩ := hTA k hk2
            rw [HT64.out] at r1
            have HWr : Hid (Calls Try.prog 27 #[.pointer (some ⟨B, 0, none⟩), .int .i64 (r : Nat), .slice (some ⟨b3, 0, none⟩) 64 c3] w7 fun e w' => e = .returned (.int .i64 32) ∧ Dsk w' B bm (n + 1) (writeD { dp with set := true, after := 0, torn := torn } r P2[k]) ∧ ChgD w7 w' B bm) := Lib.hid (by
              obtain ⟨a1, a2, a3, a4, a5⟩ := HPk.out
              have h := code_write w7 B bm n { dp with set := true, after := 0, torn := torn } r HD7.out (by have h1 := HN.out; have h2 := HD5.out.2; have h3 := HP2l.out.2.1; unfold maxLen; omega) ⟨HTo.out.1, HTo.out.2, (show (0 : Int) ≤ 0 by decide), (show (0 : Int) ≤ 9223372036854775807 by decide), a4.2.2.2.2⟩ (some ⟨b3, 0, none⟩) c3 P2[k] r2 (mid_txt r4) (by show dp.writes < _; rw [a5]; have h1 := HOk2.out.2; have h3 := HP2l.out.2.1; omega)
              have he := (write_torn (d := { dp with set := true, after := 0, torn := torn }) (k := r) (T := P2[k]) (by show r < dp.many; rw [a1, HW2.out.2.1, HLw.out.many, HR.out]; have := HPN.out; omega) a2 HT64.out rfl rfl).1
              rw [he, HT64.out] at h
              exact h)
            clear r2 r3 r4 r5 r6 hTA h0
            go_wp2_with (first
              | (go_at_call 27; refine HWr.out.mono ?_; rintro e w8 ⟨rfl, hd8, hc8⟩; have HD8 := Lib.hid hd8; have HB8 := Lib.hid (HB7.out.trans (hc8.below HB7.out.size HBB.out.1 HBB.out.2)); have HS8 := Lib.hid (And.intro (HS7.out.1.chg HD7.out hc8) (HS7.out.2.chg HD7.out hc8)); clear hd8 hc8; refine Stop.out ?_))
            unfold Stop
            have HPw : Hid (Calls Try.prog 28 #[.pointer (some ⟨B, 0, none⟩)] w8 fun e w' => e = .returned (.int .i64 0) ∧ Dsk w' B bm (n + 1) (tornD d2 t k P2 torn) ∧ ChgD w8 w' B bm) := Lib.hid (by
              obtain ⟨a1, a2, a3, a4, a5⟩ := HPk.out
              have h := code_power w8 B bm (n + 1) _ HD8.out
              have he := (write_torn (d := { dp with set := true, after := 0, torn := torn }) (k := r) (T := P2[k]) (by show r < dp.many; rw [a1, HW2.out.2.1, HLw.out.many, HR.out]; have := HPN.out; omega) a2 HT64.out rfl rfl).2
              rw [he, HDP.out, HR.out, ← HTk.out] at h
              exact h)
            go_wp2_with (first
              | (go_at_call 28; refine HPw.out.mono ?_; rintro e w9 ⟨rfl, hd9, hc9⟩; have HD9 := Lib.hid hd9; have HB9 := Lib.hid (HB8.out.trans (hc9.below HB8.out.size HBB.out.1 HBB.out.2)); have HS9 := Lib.hid (HS8.out.1.chg HD8.out hc9); clear hd9 hc9; refine Stop.out ?_))
            unfold Stop
            have HSt := Lib.hid (tornD_S (m := 0) (torn := torn) HP2l.out.2.2 HW2.out.2.2.1 HW2.out.2.2.2.1 HOk2.out.1 (by rw [HW2.out.2.1, HLw.out.many, ← HNp.out]; exact HPN.out.2) H6e.out hk2)
            have HTf : Hid (findT (tornD d2 t k P2 torn).S d2.many = (X, t) ∨ (k + 1 = np ∧ findT (tornD d2 t k P2 torn).S d2.many = (X ++ [b], t + np))) := Lib.hid (by
              have hz : ∀ j, t ≤ j → j < d2.many → d2.S j = zeros := HZr.out
              have h := torn_find (S := d2.S) (S3 := (tornD d2 t k P2 torn).S) (m := d2.many) (t := t) (pg := k) (X := X) (b := b) HRx.out (by rw [HW2.out.2.1]; exact HXt.out.1) (by have h1 := HXt.out; have h2 := HXle.out; omega) HSt.out.1 HBb.out.1 HBb.out.2.1 (by rw [← HP2l.out.1]; exact hk2) (by rw [← HP2l.out.1, ← HNp.out, HW2.out.2.1, HLw.out.many]; exact HPN.out.2)
                (fun i hi hip => by
                  have e : pagesT (X.length + 1) b = P2 := by rw [HP2.out, HLx.out]
                  have hi2 : i < P2.length := by rw [← e]; exact hi
                  rw [HSt.out.2.1 i hi2 hip]
                  congr 1
                  exact e.symm)
                (fun j h1 h2 => by rw [HSt.out.2.2 j h1]; exact hz j (by omega) h2)
              rw [← HP2l.out.1, ← HNp.out] at h
              exact h)
            have HTm : Hid ((tornD d2 t k P2 torn).many = d2.many) := Lib.hid (by
              show (putL d2 t P2 k).many = _
              rw [← HDP.out]
              exact HPk.out.1)
            have HFz : Hid (∀ X2 t2, findT (tornD d2 t k P2 torn).S d2.many = (X2, t2) → Calls Try.prog 15 #[.pointer (some ⟨B, 0, none⟩)] w9 fun e w' => ∃ A6 c6, e = .returned (.tuple #[.slice A6 X2.length c6, .int .i64 (t2 : Nat), .int .i64 0]) ∧ SecsAt w' A6 c6 X2 ∧ Below w9.heap.size w9 w') := Lib.hid (fun X2 t2 he => by
              refine (code_find w9 B bm (n + 1) _ HD9.out rfl).mono ?_
              rw [HTm.out, he]
              rintro e w' ⟨v, rfl, ho, hb⟩
              obtain ⟨A6, c6, rfl, hs⟩ := ho.secs
              exact ⟨A6, c6, rfl, hs, hb⟩)
            have HS9t : Hid (Txt w9 Ab b) := Lib.hid (HTb.out.below HB9.out)
            clear r1 hwt
            rcases HTf.out with hf | ⟨hk1, hf⟩
            · have HF1 := Lib.hid (HFz.out X t hf)
              rw [← HLx.out] at HF1
              clear hf
              go_wp2_with (first
                | (go_at_call 15; refine HF1.out.mono ?_; rintro e w10 ⟨A6, c6, rfl, hs10, hb10⟩; have HS10 := Lib.hid (And.intro (HS9.out.on hb10) hs10); have HB10 := Lib.hid (below_then HB9.out hb10); clear hs10 hb10; refine Stop.out ?_))
              unfold Stop
              have HSm : Hid (Calls Try.prog 19 #[.slice A6 lx c6, .slice A4 lx c4] w10 fun e w' => e = .returned (.bool true) ∧ Below w10.heap.size w10 w') := Lib.hid (by
                have h := code_lsame X A6 A4 c6 c4 w10 HXl.out HS10.out.2 HS10.out.1
                rwa [← HLx.out] at h)
              go_wp2_with (first
                | (go_at_call 19; refine HSm.out.mono ?_; rintro e w11 ⟨rfl, hb11⟩; have HB11 := Lib.hid (below_then HB10.out hb11); clear hb11)
                | (go_at_call 12; refine (HLv.out _).mono ?_; rintro e w12 ⟨rfl, hb12⟩; have HB12 := Lib.hid (below_then HB11.out hb12); clear hb12))
              go_ret
              exact ⟨rfl, HB12.out⟩
            · have HF1 := Lib.hid (HFz.out _ _ hf)
              obtain ⟨ly, hly⟩ : ∃ ly, ly = lx + 1 := ⟨_, rfl⟩
              rw [List.length_append, ← HLx.out] at HF1
              have HF2 : Hid (Calls Try.prog 15 #[.pointer (some ⟨B, 0, none⟩)] w9 fun e w' => ∃ A6 c6, e = .returned (.tuple #[.slice A6 ly c6, .int .i64 ((t + np : Nat) : Int), .int .i64 0]) ∧ SecsAt w' A6 c6 (X ++ [b]) ∧ Below w9.heap.size w9 w') := Lib.hid (by rw [hly]; exact HF1.out)
              obtain ⟨r2, hr2⟩ : ∃ r2, r2 = t + np := ⟨_, rfl⟩
              rw [← hr2] at HF2
              have hwl : wrap64 ((lx : Int) + 1) = (ly : Int) := by have h1 := HXl.out; rw [← HLx.out] at h1; unfold wrap64; omega
              have hwp : wrap64 ((np : Int) - 1) = (k : Int) := by have h1 := HP2l.out.2.1; rw [← HNp.out] at h1; unfold wrap64; omega
              have hwr2 : wrap64 ((t : Int) + (np : Int)) = (r2 : Int) := by have h1 := HPN.out; have h2 := HM.out.2.1; unfold wrap64; omega
              have JWL : Hid (IntKind.i64.wrap ((lx : Int) + 1) = (ly : Int)) := Lib.hid ((IntWalk.i64_left _).trans hwl)
              have JWP : Hid (IntKind.i64.wrap ((np : Int) - 1) = (k : Int)) := Lib.hid ((IntWalk.i64_left _).trans hwp)
              have JWR2 : Hid (IntKind.i64.wrap ((t : Int) + (np : Int)) = (r2 : Int)) := Lib.hid ((IntWalk.i64_left _).trans hwr2)
              have hyl : ((ly : Int) == (lx : Int)) = false := beq_false_of_ne (by omega)
              have hyl2 : ¬ (ly : Int) = (lx : Int) := by omega
              have hyl3 : ¬ ly = lx := by omega
              have HLy := Lib.hid hly
              clear HF1 hf hly hr2
              go_wp2_with (first
                | (go_at_call 15; refine HF2.out.mono ?_; rintro e w10 ⟨A6, c6, rfl, hs10, hb10⟩; have HS10 := Lib.hid (And.intro (HS9.out.on hb10) hs10); have HB10 := Lib.hid (below_then HB9.out hb10); have HT10 := Lib.hid (HS9t.out.below hb10); clear hs10 hb10; refine Stop.out ?_))
              unfold Stop
              rcases HS10.out.2 with ⟨_, h0, _⟩ | ⟨G6, rfl, hT6, hc6⟩
              · simp at h0
              have hxl : lx < (X ++ [b]).length := by rw [List.length_append, ← HLx.out]; simp
              obtain ⟨b9, cb9, q1, q2, q3, q4, q5, q6⟩ := hT6 lx hxl
              have hxb : (X ++ [b])[lx] = b := by
                have e : lx = X.length := HLx.out
                subst e
                simp
              rw [hxb] at q1 q4
              rw [← HNb.out] at q1
              have HSx : Hid (∀ V, Below w10.heap.size w10 V → Calls Try.prog 19 #[.slice (some ⟨G6, 0, none⟩) lx c6, .slice A4 lx c4] V fun e w' => e = .returned (.bool true) ∧ Below V.heap.size V w') := Lib.hid (fun V hV => by
                have hx : SecsAt w10 (some ⟨G6, 0, none⟩) c6 X := by
                  have h := hT6.take lx
                  have e : (X ++ [b]).take lx = X := by rw [HLx.out]; simp
                  rw [e] at h
                  exact .inr ⟨G6, rfl, h, by have := hc6; rw [List.length_append] at this; omega⟩
                have h := code_lsame X (some ⟨G6, 0, none⟩) A4 c6 c4 V HXl.out (hx.on hV) (HS10.out.1.on hV)
                rwa [← HLx.out] at h)
              have hlc : (lx : Int) ≤ (c6 : Int) := by have := hc6; rw [List.length_append, ← HLx.out] at this; omega
              have hlc2 : lx ≤ c6 := by omega
              have hxy : (lx : Int) < (ly : Int) := by have := HLy.out; omega
              have hxy2 : lx < ly := by have := HLy.out; omega
              have hxy3 : ¬ ly ≤ lx := by omega
              have ht9 : Txt w10 (some ⟨b9, 0, none⟩) b := mid_txt q4
              have HS0 : Hid ((fun V : World => V.cell? ⟨G6, lx, none⟩ = some (.slice (some ⟨b9, 0, none⟩) nb cb9) ∧ Txt V (some ⟨b9, 0, none⟩) b ∧ Txt V Ab b) w10.drew) := Lib.hid ⟨cell_on (Below.refl _ _).drew q1, ht9.below (Below.refl _ _).drew, HT10.out.below (Below.refl _ _).drew⟩
              have HBd : Hid (Below w10.heap.size w10 w10.drew) := Lib.hid (Below.refl _ _).drew
              have hAb := HBb.out.2.2.2
              have hnl : b.length = nb := HNb.out.symm
              have hbs : (b.toArray.toList == b.toArray.toList) = true := beq_self_eq_true _
              clear q1 q2 q3 q4 q5 q6 hT6 hc6 hxl hxb ht9
              go_wp2
              refine wp_region_held_drew (S := fun V => V.cell? ⟨G6, lx, none⟩ = some (.slice (some ⟨b9, 0, none⟩) nb cb9) ∧ Txt V (some ⟨b9, 0, none⟩) b ∧ Txt V Ab b) (by kernel_rfl) HS0.out ?_
              intro hHeld
              clear HS0
              generalize w10.drew = wd at HBd hHeld ⊢
              (refine takeH (i := 0) (v := ?_) rfl (by kernel_rfl) (by kernel_rfl) (by kernel_rfl) (fun _ _ _ h => h) (Or.inl ⟨by rfl, ?_⟩) (by assumption) ?_; rotate_left; (focus ((intro wS hSw); (try dsimp only at hSw); obtain ⟨s0, t0, t1⟩ := hSw; (have e1 := text_run_n wS (some ⟨b9, 0, none⟩) cb9 nb b hnl t0 (fun e => by cases e)); (have e2 := text_run_n wS Ab cb nb b hnl t1 hAb); clear t0 t1; go_simp; (try with_reducible rfl); done)); (try simp only [Act.put, List.setIfInBounds_toArray, List.set_cons_zero, List.set_cons_succ]))
              (refine takeH (i := 1) (v := ?_) rfl (by kernel_rfl) (by kernel_rfl) (by kernel_rfl) (fun _ _ _ h => h) (Or.inl ⟨by rfl, ?_⟩) (by assumption) ?_; rotate_left; (focus ((intro wS hSw); (try dsimp only at hSw); obtain ⟨s0, t0, t1⟩ := hSw; (have e1 := text_run_n wS (some ⟨b9, 0, none⟩) cb9 nb b hnl t0 (fun e => by cases e)); (have e2 := text_run_n wS Ab cb nb b hnl t1 hAb); clear t0 t1; go_simp; (try with_reducible rfl); done)); (try simp only [Act.put, List.setIfInBounds_toArray, List.set_cons_zero, List.set_cons_succ]))
              (refine takeH (i := 2) (v := ?_) rfl (by kernel_rfl) (by kernel_rfl) (by kernel_rfl) (fun _ _ _ h => h) (Or.inl ⟨by rfl, ?_⟩) (by assumption) ?_; rotate_left; (focus ((intro wS hSw); (try dsimp only at hSw); obtain ⟨s0, t0, t1⟩ := hSw; (have e1 := text_run_n wS (some ⟨b9, 0, none⟩) cb9 nb b hnl t0 (fun e => by cases e)); (have e2 := text_run_n wS Ab cb nb b hnl t1 hAb); clear t0 t1; go_simp; (try with_reducible rfl); done)); (try simp only [Act.put, List.setIfInBounds_toArray, List.set_cons_zero, List.set_cons_succ]))
              (refine takeH (i := 3) (v := ?_) rfl (by kernel_rfl) (by kernel_rfl) (by kernel_rfl) (fun _ _ _ h => h) (Or.inl ⟨by rfl, ?_⟩) (by assumption) ?_; rotate_left; (focus ((intro wS hSw); (try dsimp only at hSw); obtain ⟨s0, t0, t1⟩ := hSw; (have e1 := text_run_n wS (some ⟨b9, 0, none⟩) cb9 nb b hnl t0 (fun e => by cases e)); (have e2 := text_run_n wS Ab cb nb b hnl t1 hAb); clear t0 t1; go_simp; (try with_reducible rfl); done)); (try simp only [Act.put, List.setIfInBounds_toArray, List.set_cons_zero, List.set_cons_succ]))
              (refine takeH (i := 4) (v := (.int .i64 (ly : Nat))) rfl (by kernel_rfl) (by kernel_rfl) (by kernel_rfl) (fun _ _ _ h => h) (Or.inl ⟨by rfl, by (intro wS hSw); (try dsimp only at hSw); (obtain ⟨s0, t0, t1⟩ := hSw); clear t0 t1; go_simp; (first | done | exact JWL.out)⟩) (by assumption) ?_; (try simp only [Act.put, List.setIfInBounds_toArray, List.set_cons_zero, List.set_cons_succ]))
              (refine takeH (i := 5) (v := (.bool true)) rfl (by kernel_rfl) (by kernel_rfl) (by kernel_rfl) (fun _ _ _ h => h) (Or.inl ⟨by rfl, by (intro wS hSw); (try dsimp only at hSw); (obtain ⟨s0, t0, t1⟩ := hSw); clear t0 t1; go_simp; (first | done | simp | rfl | omega)⟩) (by assumption) ?_; (try simp only [Act.put, List.setIfInBounds_toArray, List.set_cons_zero, List.set_cons_succ]))
              (refine takeH (i := 6) (v := ?_) rfl (by kernel_rfl) (by kernel_rfl) (by kernel_rfl) (fun _ _ _ h => h) (Or.inl ⟨by rfl, ?_⟩) (by assumption) ?_; rotate_left; (focus ((intro wS hSw); (try dsimp only at hSw); obtain ⟨s0, t0, t1⟩ := hSw; (have e1 := text_run_n wS (some ⟨b9, 0, none⟩) cb9 nb b hnl t0 (fun e => by cases e)); (have e2 := text_run_n wS Ab cb nb b hnl t1 hAb); clear t0 t1; go_simp; (try with_reducible rfl); done)); (try simp only [Act.put, List.setIfInBounds_toArray, List.set_cons_zero, List.set_cons_succ]))
              (refine takeH (i := 7) (v := ?_) rfl (by kernel_rfl) (by kernel_rfl) (by kernel_rfl) (fun _ _ _ h => h) (Or.inl ⟨by rfl, ?_⟩) (by assumption) ?_; rotate_left; (focus ((intro wS hSw); (try dsimp only at hSw); obtain ⟨s0, t0, t1⟩ := hSw; (have e1 := text_run_n wS (some ⟨b9, 0, none⟩) cb9 nb b hnl t0 (fun e => by cases e)); (have e2 := text_run_n wS Ab cb nb b hnl t1 hAb); clear t0 t1; go_simp; (try with_reducible rfl); done)); (try simp only [Act.put, List.setIfInBounds_toArray, List.set_cons_zero, List.set_cons_succ]))
              (refine takeH (i := 8) (v := ?_) rfl (by kernel_rfl) (by kernel_rfl) (by kernel_rfl) (fun _ _ _ h => h) (Or.inl ⟨by rfl, ?_⟩) (by assumption) ?_; rotate_left; (focus ((intro wS hSw); (try dsimp only at hSw); obtain ⟨s0, t0, t1⟩ := hSw; (have e1 := text_run_n wS (some ⟨b9, 0, none⟩) cb9 nb b hnl t0 (fun e => by cases e)); (have e2 := text_run_n wS Ab cb nb b hnl t1 hAb); clear t0 t1; go_simp; (try with_reducible rfl); done)); (try simp only [Act.put, List.setIfInBounds_toArray, List.set_cons_zero, List.set_cons_succ]))
              (refine takeH (i := 9) (v := ?_) rfl (by kernel_rfl) (by kernel_rfl) (by kernel_rfl) (fun _ _ _ h => h) (Or.inl ⟨by rfl, ?_⟩) (by assumption) ?_; rotate_left; (focus ((intro wS hSw); (try dsimp only at hSw); obtain ⟨s0, t0, t1⟩ := hSw; (have e1 := text_run_n wS (some ⟨b9, 0, none⟩) cb9 nb b hnl t0 (fun e => by cases e)); (have e2 := text_run_n wS Ab cb nb b hnl t1 hAb); clear t0 t1; go_simp; (try with_reducible rfl); done)); (try simp only [Act.put, List.setIfInBounds_toArray, List.set_cons_zero, List.set_cons_succ]))
              (refine takeH (i := 10) (v := ?_) rfl (by kernel_rfl) (by kernel_rfl) (by kernel_rfl) (fun _ _ _ h => h) (Or.inl ⟨by rfl, ?_⟩) (by assumption) ?_; rotate_left; (focus ((intro wS hSw); (try dsimp only at hSw); obtain ⟨s0, t0, t1⟩ := hSw; (have e1 := text_run_n wS (some ⟨b9, 0, none⟩) cb9 nb b hnl t0 (fun e => by cases e)); (have e2 := text_run_n wS Ab cb nb b hnl t1 hAb); clear t0 t1; go_simp; (try with_reducible rfl); done)); (try simp only [Act.put, List.setIfInBounds_toArray, List.set_cons_zero, List.set_cons_succ]))
              (refine takeH (i := 11) (v := ?_) rfl (by kernel_rfl) (by kernel_rfl) (by kernel_rfl) (fun _ _ _ h => h) (Or.inl ⟨by rfl, ?_⟩) (by assumption) ?_; rotate_left; (focus ((intro wS hSw); (try dsimp only at hSw); obtain ⟨s0, t0, t1⟩ := hSw; (have e1 := text_run_n wS (some ⟨b9, 0, none⟩) cb9 nb b hnl t0 (fun e => by cases e)); (have e2 := text_run_n wS Ab cb nb b hnl t1 hAb); clear t0 t1; go_simp; (try with_reducible rfl); done)); (try simp only [Act.put, List.setIfInBounds_toArray, List.set_cons_zero, List.set_cons_succ]))
              refine aloneH (i := 12) rfl (by kernel_rfl) (fun K hK => ?_)
              rw [if_pos (by rfl)]
              go_simp; ((refine (HSx.out wd (HBd.out)).mono ?_); (rintro e w1 ⟨rfl, hb⟩); have HB1 := Lib.hid hb; clear hb; (try go_simp))
              refine hK.out _ _ (⟨cell_on HB1.out hHeld.1, (hHeld.2.1).below HB1.out, (hHeld.2.2).below HB1.out⟩) (fun hNew => ?_)
              clear hK K hHeld; (have hHeld := hNew); clear hNew; (try simp only [Act.put, List.setIfInBounds_toArray, List.set_cons_zero, List.set_cons_succ])
              (refine takeH (i := 13) (v := ?_) rfl (by kernel_rfl) (by kernel_rfl) (by kernel_rfl) (fun _ _ _ h => h) (Or.inl ⟨by rfl, ?_⟩) (by assumption) ?_; rotate_left; (focus ((intro wS hSw); (try dsimp only at hSw); obtain ⟨s0, t0, t1⟩ := hSw; (have e1 := text_run_n wS (some ⟨b9, 0, none⟩) cb9 nb b hnl t0 (fun e => by cases e)); (have e2 := text_run_n wS Ab cb nb b hnl t1 hAb); clear t0 t1; go_simp; (try with_reducible rfl); done)); (try simp only [Act.put, List.setIfInBounds_toArray, List.set_cons_zero, List.set_cons_succ]))
              (refine takeH (i := 14) (v := ?_) rfl (by kernel_rfl) (by kernel_rfl) (by kernel_rfl) (fun _ _ _ h => h) (Or.inl ⟨by rfl, ?_⟩) (by assumption) ?_; rotate_left; (focus ((intro wS hSw); (try dsimp only at hSw); obtain ⟨s0, t0, t1⟩ := hSw; (have e1 := text_run_n wS (some ⟨b9, 0, none⟩) cb9 nb b hnl t0 (fun e => by cases e)); (have e2 := text_run_n wS Ab cb nb b hnl t1 hAb); clear t0 t1; go_simp; (try with_reducible rfl); done)); (try simp only [Act.put, List.setIfInBounds_toArray, List.set_cons_zero, List.set_cons_succ]))
              (refine takeH (i := 15) (v := ?_) rfl (by kernel_rfl) (by kernel_rfl) (by kernel_rfl) (fun _ _ _ h => h) (Or.inl ⟨by rfl, ?_⟩) (by assumption) ?_; rotate_left; (focus ((intro wS hSw); (try dsimp only at hSw); obtain ⟨s0, t0, t1⟩ := hSw; (have e1 := text_run_n wS (some ⟨b9, 0, none⟩) cb9 nb b hnl t0 (fun e => by cases e)); (have e2 := text_run_n wS Ab cb nb b hnl t1 hAb); clear t0 t1; go_simp; (try with_reducible rfl); done)); (try simp only [Act.put, List.setIfInBounds_toArray, List.set_cons_zero, List.set_cons_succ]))
              (refine takeH (i := 16) (v := ?_) rfl (by kernel_rfl) (by kernel_rfl) (by kernel_rfl) (fun _ _ _ h => h) (Or.inl ⟨by rfl, ?_⟩) (by assumption) ?_; rotate_left; (focus ((intro wS hSw); (try dsimp only at hSw); obtain ⟨s0, t0, t1⟩ := hSw; (have e1 := text_run_n wS (some ⟨b9, 0, none⟩) cb9 nb b hnl t0 (fun e => by cases e)); (have e2 := text_run_n wS Ab cb nb b hnl t1 hAb); clear t0 t1; go_simp; (try with_reducible rfl); done)); (try simp only [Act.put, List.setIfInBounds_toArray, List.set_cons_zero, List.set_cons_succ]))
              (refine takeH (i := 17) (v := ?_) rfl (by kernel_rfl) (by kernel_rfl) (by kernel_rfl) (fun _ _ _ h => h) (Or.inl ⟨by rfl, ?_⟩) (by assumption) ?_; rotate_left; (focus ((intro wS hSw); (try dsimp only at hSw); obtain ⟨s0, t0, t1⟩ := hSw; (have e1 := text_run_n wS (some ⟨b9, 0, none⟩) cb9 nb b hnl t0 (fun e => by cases e)); (have e2 := text_run_n wS Ab cb nb b hnl t1 hAb); clear t0 t1; go_simp; (try with_reducible rfl); done)); (try simp only [Act.put, List.setIfInBounds_toArray, List.set_cons_zero, List.set_cons_succ]))
              (refine takeH (i := 18) (v := ?_) rfl (by kernel_rfl) (by kernel_rfl) (by kernel_rfl) (fun _ _ _ h => h) (Or.inl ⟨by rfl, ?_⟩) (by assumption) ?_; rotate_left; (focus ((intro wS hSw); (try dsimp only at hSw); obtain ⟨s0, t0, t1⟩ := hSw; (have e1 := text_run_n wS (some ⟨b9, 0, none⟩) cb9 nb b hnl t0 (fun e => by cases e)); (have e2 := text_run_n wS Ab cb nb b hnl t1 hAb); clear t0 t1; go_simp; (try with_reducible rfl); done)); (try simp only [Act.put, List.setIfInBounds_toArray, List.set_cons_zero, List.set_cons_succ]))
              (refine takeH (i := 19) (v := ?_) rfl (by kernel_rfl) (by kernel_rfl) (by kernel_rfl) (fun _ _ _ h => h) (Or.inl ⟨by rfl, ?_⟩) (by assumption) ?_; rotate_left; (focus ((intro wS hSw); (try dsimp only at hSw); obtain ⟨s0, t0, t1⟩ := hSw; (have e1 := text_run_n wS (some ⟨b9, 0, none⟩) cb9 nb b hnl t0 (fun e => by cases e)); (have e2 := text_run_n wS Ab cb nb b hnl t1 hAb); clear t0 t1; go_simp; (try with_reducible rfl); done)); (try simp only [Act.put, List.setIfInBounds_toArray, List.set_cons_zero, List.set_cons_succ]))
              (refine takeH (i := 20) (v := ?_) rfl (by kernel_rfl) (by kernel_rfl) (by kernel_rfl) (fun _ _ _ h => h) (Or.inl ⟨by rfl, ?_⟩) (by assumption) ?_; rotate_left; (focus ((intro wS hSw); (try dsimp only at hSw); obtain ⟨s0, t0, t1⟩ := hSw; (have e1 := text_run_n wS (some ⟨b9, 0, none⟩) cb9 nb b hnl t0 (fun e => by cases e)); (have e2 := text_run_n wS Ab cb nb b hnl t1 hAb); clear t0 t1; go_simp; (try with_reducible rfl); done)); (try simp only [Act.put, List.setIfInBounds_toArray, List.set_cons_zero, List.set_cons_succ]))
              (refine takeH (i := 21) (v := ?_) rfl (by kernel_rfl) (by kernel_rfl) (by kernel_rfl) (fun _ _ _ h => h) (Or.inl ⟨by rfl, ?_⟩) (by assumption) ?_; rotate_left; (focus ((intro wS hSw); (try dsimp only at hSw); obtain ⟨s0, t0, t1⟩ := hSw; (have e1 := text_run_n wS (some ⟨b9, 0, none⟩) cb9 nb b hnl t0 (fun e => by cases e)); (have e2 := text_run_n wS Ab cb nb b hnl t1 hAb); clear t0 t1; go_simp; (try with_reducible rfl); done)); (try simp only [Act.put, List.setIfInBounds_toArray, List.set_cons_zero, List.set_cons_succ]))
              (refine takeH (i := 22) (v := ?_) rfl (by kernel_rfl) (by kernel_rfl) (by kernel_rfl) (fun _ _ _ h => h) (Or.inl ⟨by rfl, ?_⟩) (by assumption) ?_; rotate_left; (focus ((intro wS hSw); (try dsimp only at hSw); obtain ⟨s0, t0, t1⟩ := hSw; (have e1 := text_run_n wS (some ⟨b9, 0, none⟩) cb9 nb b hnl t0 (fun e => by cases e)); (have e2 := text_run_n wS Ab cb nb b hnl t1 hAb); clear t0 t1; go_simp; (try with_reducible rfl); done)); (try simp only [Act.put, List.setIfInBounds_toArray, List.set_cons_zero, List.set_cons_succ]))
              (refine takeH (i := 23) (v := (.bool true)) rfl (by kernel_rfl) (by kernel_rfl) (by kernel_rfl) (fun _ _ _ h => h) (Or.inl ⟨by rfl, by (intro wS hSw); (try dsimp only at hSw); (obtain ⟨s0, t0, t1⟩ := hSw); clear t0 t1; go_simp; (first | done | simp | rfl | omega)⟩) (by assumption) ?_; (try simp only [Act.put, List.setIfInBounds_toArray, List.set_cons_zero, List.set_cons_succ]))
              (refine takeH (i := 24) (v := ?_) rfl (by kernel_rfl) (by kernel_rfl) (by kernel_rfl) (fun _ _ _ h => h) (Or.inl ⟨by rfl, ?_⟩) (by assumption) ?_; rotate_left; (focus ((intro wS hSw); (try dsimp only at hSw); obtain ⟨s0, t0, t1⟩ := hSw; (have e1 := text_run_n wS (some ⟨b9, 0, none⟩) cb9 nb b hnl t0 (fun e => by cases e)); (have e2 := text_run_n wS Ab cb nb b hnl t1 hAb); clear t0 t1; go_simp; (try with_reducible rfl); done)); (try simp only [Act.put, List.setIfInBounds_toArray, List.set_cons_zero, List.set_cons_succ]))
              (refine takeH (i := 25) (v := ?_) rfl (by kernel_rfl) (by kernel_rfl) (by kernel_rfl) (fun _ _ _ h => h) (Or.inl ⟨by rfl, ?_⟩) (by assumption) ?_; rotate_left; (focus ((intro wS hSw); (try dsimp only at hSw); obtain ⟨s0, t0, t1⟩ := hSw; (have e1 := text_run_n wS (some ⟨b9, 0, none⟩) cb9 nb b hnl t0 (fun e => by cases e)); (have e2 := text_run_n wS Ab cb nb b hnl t1 hAb); clear t0 t1; go_simp; (try with_reducible rfl); done)); (try simp only [Act.put, List.setIfInBounds_toArray, List.set_cons_zero, List.set_cons_succ]))
              (refine takeH (i := 26) (v := ?_) rfl (by kernel_rfl) (by kernel_rfl) (by kernel_rfl) (fun _ _ _ h => h) (Or.inl ⟨by rfl, ?_⟩) (by assumption) ?_; rotate_left; (focus ((intro wS hSw); (try dsimp only at hSw); obtain ⟨s0, t0, t1⟩ := hSw; (have e1 := text_run_n wS (some ⟨b9, 0, none⟩) cb9 nb b hnl t0 (fun e => by cases e)); (have e2 := text_run_n wS Ab cb nb b hnl t1 hAb); clear t0 t1; go_simp; (try with_reducible rfl); done)); (try simp only [Act.put, List.setIfInBounds_toArray, List.set_cons_zero, List.set_cons_succ]))
              (refine takeH (i := 27) (v := ?_) rfl (by kernel_rfl) (by kernel_rfl) (by kernel_rfl) (fun _ _ _ h => h) (Or.inl ⟨by rfl, ?_⟩) (by assumption) ?_; rotate_left; (focus ((intro wS hSw); (try dsimp only at hSw); obtain ⟨s0, t0, t1⟩ := hSw; (have e1 := text_run_n wS (some ⟨b9, 0, none⟩) cb9 nb b hnl t0 (fun e => by cases e)); (have e2 := text_run_n wS Ab cb nb b hnl t1 hAb); clear t0 t1; go_simp; (try with_reducible rfl); done)); (try simp only [Act.put, List.setIfInBounds_toArray, List.set_cons_zero, List.set_cons_succ]))
              (refine takeH (i := 28) (v := ?_) rfl (by kernel_rfl) (by kernel_rfl) (by kernel_rfl) (fun _ _ _ h => h) (Or.inl ⟨by rfl, ?_⟩) (by assumption) ?_; rotate_left; (focus ((intro wS hSw); (try dsimp only at hSw); obtain ⟨s0, t0, t1⟩ := hSw; (have e1 := text_run_n wS (some ⟨b9, 0, none⟩) cb9 nb b hnl t0 (fun e => by cases e)); (have e2 := text_run_n wS Ab cb nb b hnl t1 hAb); clear t0 t1; go_simp; (try with_reducible rfl); done)); (try simp only [Act.put, List.setIfInBounds_toArray, List.set_cons_zero, List.set_cons_succ]))
              (refine takeH (i := 29) (v := (.int .i64 (k : Nat))) rfl (by kernel_rfl) (by kernel_rfl) (by kernel_rfl) (fun _ _ _ h => h) (Or.inl ⟨by rfl, by (intro wS hSw); (try dsimp only at hSw); (obtain ⟨s0, t0, t1⟩ := hSw); clear t0 t1; go_simp; (first | done | exact JWP.out)⟩) (by assumption) ?_; (try simp only [Act.put, List.setIfInBounds_toArray, List.set_cons_zero, List.set_cons_succ]))
              (refine takeH (i := 30) (v := (.bool true)) rfl (by kernel_rfl) (by kernel_rfl) (by kernel_rfl) (fun _ _ _ h => h) (Or.inl ⟨by rfl, by (intro wS hSw); (try dsimp only at hSw); (obtain ⟨s0, t0, t1⟩ := hSw); clear t0 t1; go_simp; (first | done | simp | rfl | omega)⟩) (by assumption) ?_; (try simp only [Act.put, List.setIfInBounds_toArray, List.set_cons_zero, List.set_cons_succ]))
              (refine takeH (i := 31) (v := ?_) rfl (by kernel_rfl) (by kernel_rfl) (by kernel_rfl) (fun _ _ _ h => h) (Or.inl ⟨by rfl, ?_⟩) (by assumption) ?_; rotate_left; (focus ((intro wS hSw); (try dsimp only at hSw); obtain ⟨s0, t0, t1⟩ := hSw; (have e1 := text_run_n wS (some ⟨b9, 0, none⟩) cb9 nb b hnl t0 (fun e => by cases e)); (have e2 := text_run_n wS Ab cb nb b hnl t1 hAb); clear t0 t1; go_simp; (try with_reducible rfl); done)); (try simp only [Act.put, List.setIfInBounds_toArray, List.set_cons_zero, List.set_cons_succ]))
              (refine takeH (i := 32) (v := ?_) rfl (by kernel_rfl) (by kernel_rfl) (by kernel_rfl) (fun _ _ _ h => h) (Or.inl ⟨by rfl, ?_⟩) (by assumption) ?_; rotate_left; (focus ((intro wS hSw); (try dsimp only at hSw); obtain ⟨s0, t0, t1⟩ := hSw; (have e1 := text_run_n wS (some ⟨b9, 0, none⟩) cb9 nb b hnl t0 (fun e => by cases e)); (have e2 := text_run_n wS Ab cb nb b hnl t1 hAb); clear t0 t1; go_simp; (try with_reducible rfl); done)); (try simp only [Act.put, List.setIfInBounds_toArray, List.set_cons_zero, List.set_cons_succ]))
              (refine takeH (i := 33) (v := ?_) rfl (by kernel_rfl) (by kernel_rfl) (by kernel_rfl) (fun _ _ _ h => h) (Or.inl ⟨by rfl, ?_⟩) (by assumption) ?_; rotate_left; (focus ((intro wS hSw); (try dsimp only at hSw); obtain ⟨s0, t0, t1⟩ := hSw; (have e1 := text_run_n wS (some ⟨b9, 0, none⟩) cb9 nb b hnl t0 (fun e => by cases e)); (have e2 := text_run_n wS Ab cb nb b hnl t1 hAb); clear t0 t1; go_simp; (try with_reducible rfl); done)); (try simp only [Act.put, List.setIfInBounds_toArray, List.set_cons_zero, List.set_cons_succ]))
              (refine takeH (i := 34) (v := ?_) rfl (by kernel_rfl) (by kernel_rfl) (by kernel_rfl) (fun _ _ _ h => h) (Or.inl ⟨by rfl, ?_⟩) (by assumption) ?_; rotate_left; (focus ((intro wS hSw); (try dsimp only at hSw); obtain ⟨s0, t0, t1⟩ := hSw; (have e1 := text_run_n wS (some ⟨b9, 0, none⟩) cb9 nb b hnl t0 (fun e => by cases e)); (have e2 := text_run_n wS Ab cb nb b hnl t1 hAb); clear t0 t1; go_simp; (try with_reducible rfl); done)); (try simp only [Act.put, List.setIfInBounds_toArray, List.set_cons_zero, List.set_cons_succ]))
              (refine takeH (i := 35) (v := ?_) rfl (by kernel_rfl) (by kernel_rfl) (by kernel_rfl) (fun _ _ _ h => h) (Or.inl ⟨by rfl, ?_⟩) (by assumption) ?_; rotate_left; (focus ((intro wS hSw); (try dsimp only at hSw); obtain ⟨s0, t0, t1⟩ := hSw; (have e1 := text_run_n wS (some ⟨b9, 0, none⟩) cb9 nb b hnl t0 (fun e => by cases e)); (have e2 := text_run_n wS Ab cb nb b hnl t1 hAb); clear t0 t1; go_simp; (try with_reducible rfl); done)); (try simp only [Act.put, List.setIfInBounds_toArray, List.set_cons_zero, List.set_cons_succ]))
              (refine takeH (i := 36) (v := ?_) rfl (by kernel_rfl) (by kernel_rfl) (by kernel_rfl) (fun _ _ _ h => h) (Or.inl ⟨by rfl, ?_⟩) (by assumption) ?_; rotate_left; (focus ((intro wS hSw); (try dsimp only at hSw); obtain ⟨s0, t0, t1⟩ := hSw; (have e1 := text_run_n wS (some ⟨b9, 0, none⟩) cb9 nb b hnl t0 (fun e => by cases e)); (have e2 := text_run_n wS Ab cb nb b hnl t1 hAb); clear t0 t1; go_simp; (try with_reducible rfl); done)); (try simp only [Act.put, List.setIfInBounds_toArray, List.set_cons_zero, List.set_cons_succ]))
              (refine takeH (i := 37) (v := (.int .i64 (r2 : Nat))) rfl (by kernel_rfl) (by kernel_rfl) (by kernel_rfl) (fun _ _ _ h => h) (Or.inl ⟨by rfl, by (intro wS hSw); (try dsimp only at hSw); (obtain ⟨s0, t0, t1⟩ := hSw); clear t0 t1; go_simp; (first | done | exact JWR2.out)⟩) (by assumption) ?_; (try simp only [Act.put, List.setIfInBounds_toArray, List.set_cons_zero, List.set_cons_succ]))
              (refine takeH (i := 38) (v := (.bool true)) rfl (by kernel_rfl) (by kernel_rfl) (by kernel_rfl) (fun _ _ _ h => h) (Or.inl ⟨by rfl, by (intro wS hSw); (try dsimp only at hSw); (obtain ⟨s0, t0, t1⟩ := hSw); clear t0 t1; go_simp; (first | done | simp | rfl | omega)⟩) (by assumption) ?_; (try simp only [Act.put, List.setIfInBounds_toArray, List.set_cons_zero, List.set_cons_succ]))
              (refine takeH (i := 39) (v := ?_) rfl (by kernel_rfl) (by kernel_rfl) (by kernel_rfl) (fun _ _ _ h => h) (Or.inl ⟨by rfl, ?_⟩) (by assumption) ?_; rotate_left; (focus ((intro wS hSw); (try dsimp only at hSw); obtain ⟨s0, t0, t1⟩ := hSw; (have e1 := text_run_n wS (some ⟨b9, 0, none⟩) cb9 nb b hnl t0 (fun e => by cases e)); (have e2 := text_run_n wS Ab cb nb b hnl t1 hAb); clear t0 t1; go_simp; (try with_reducible rfl); done)); (try simp only [Act.put, List.setIfInBounds_toArray, List.set_cons_zero, List.set_cons_succ]))
              (refine takeH (i := 40) (v := ?_) rfl (by kernel_rfl) (by kernel_rfl) (by kernel_rfl) (fun _ _ _ h => h) (Or.inl ⟨by rfl, ?_⟩) (by assumption) ?_; rotate_left; (focus ((intro wS hSw); (try dsimp only at hSw); obtain ⟨s0, t0, t1⟩ := hSw; (have e1 := text_run_n wS (some ⟨b9, 0, none⟩) cb9 nb b hnl t0 (fun e => by cases e)); (have e2 := text_run_n wS Ab cb nb b hnl t1 hAb); clear t0 t1; go_simp; (try with_reducible rfl); done)); (try simp only [Act.put, List.setIfInBounds_toArray, List.set_cons_zero, List.set_cons_succ]))
              refine aloneH (i := 41) rfl (by kernel_rfl) (fun K hK => ?_)
              rw [if_pos (by rfl)]
              go_simp; ((refine (HLv.out w1).mono ?_); (rintro e w2 ⟨rfl, hb⟩); have HB2 := Lib.hid hb; clear hb; (try go_simp))
              refine hK.out _ _ (⟨cell_on HB2.out hHeld.1, (hHeld.2.1).below HB2.out, (hHeld.2.2).below HB2.out⟩) (fun hNew => ?_)
              clear hK K hHeld; (have hHeld := hNew); clear hNew; (try simp only [Act.put, List.setIfInBounds_toArray, List.set_cons_zero, List.set_cons_succ])
              (refine takeH (i := 42) (v := ?_) rfl (by kernel_rfl) (by kernel_rfl) (by kernel_rfl) (fun _ _ _ h => h) (Or.inl ⟨by rfl, ?_⟩) (by assumption) ?_; rotate_left; (focus ((intro wS hSw); (try dsimp only at hSw); obtain ⟨s0, t0, t1⟩ := hSw; (have e1 := text_run_n wS (some ⟨b9, 0, none⟩) cb9 nb b hnl t0 (fun e => by cases e)); (have e2 := text_run_n wS Ab cb nb b hnl t1 hAb); clear t0 t1; go_simp; (try with_reducible rfl); done)); (try simp only [Act.put, List.setIfInBounds_toArray, List.set_cons_zero, List.set_cons_succ]))
              (refine takeH (i := 43) (v := ?_) rfl (by kernel_rfl) (by kernel_rfl) (by kernel_rfl) (fun _ _ _ h => h) (Or.inl ⟨by rfl, ?_⟩) (by assumption) ?_; rotate_left; (focus ((intro wS hSw); (try dsimp only at hSw); obtain ⟨s0, t0, t1⟩ := hSw; (have e1 := text_run_n wS (some ⟨b9, 0, none⟩) cb9 nb b hnl t0 (fun e => by cases e)); (have e2 := text_run_n wS Ab cb nb b hnl t1 hAb); clear t0 t1; go_simp; (try with_reducible rfl); done)); (try simp only [Act.put, List.setIfInBounds_toArray, List.set_cons_zero, List.set_cons_succ]))
              refine wpAnyH_done (by kernel_rfl) ?_ _
              clear hHeld
              go_wp2
              go_ret
              exact ⟨rfl, (HB10.out.trans (HBd.out.mono HB10.out.size)).trans ((below_then HB1.out HB2.out).mono (by have h1 := HB10.out.size; have h2 := HBd.out.size; omega))⟩
end Go.Proofs.Ythgakgjhcadajaa

namespace Go.Proofs.Ythgakgjhcadajaa
open Go.RowKit
set_option maxRecDepth 100000

theorem scanTorn_any (many : Int) (L : List PartV) (A : Option Addr) (cap : Nat) (Ab : Option Addr) (b : Text) (cb : Nat) (pages torn : Int) (w : World) (hP : PartsAt w A L) (hcb : b.length ≤ cb) (hTb : Txt w Ab b) (hAb : Ab = none → b = []) :
    Calls Try.prog 5 #[.int .i64 many, .slice A L.length cap, .slice Ab b.length cb, .int .i64 pages, .int .i64 torn] w fun e w' => e = .returned (.bool true) ∧ Below w.heap.size w w' := by
  cases hq : lightB many L with
  | false => exact torn_out many L A cap Ab b.length cb pages torn w hP false hq (.inl rfl)
  | true =>
    by_cases h : b.length < 1 ∨ 500 < b.length ∨ pages < 0 ∨ torn < 0 ∨ 64 < torn
    · exact torn_out many L A cap Ab b.length cb pages torn w hP true hq (.inr h)
    · exact torn_in many L A cap b Ab cb pages torn w hP hq (by omega) (by omega) (by omega) (by omega) (by omega) hcb hTb hAb
end Go.Proofs.Ythgakgjhcadajaa
