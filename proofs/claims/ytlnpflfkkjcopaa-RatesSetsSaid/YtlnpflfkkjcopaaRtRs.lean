/- The statement on what is set, walked. -/
import Derived.Test.YtlnpflfkkjcopaaRtCo
import Derived.Test.YtlnpflfkkjcopaaRtP
namespace Go.Proofs.Ytlnpflfkkjcopaa
open Go.RowKit
set_option maxRecDepth 100000

theorem code_rclone_at {w : World} {base R bm n : Nat} {F : Lns} {M : List Rt} (h : RtAt w base R bm n F) (hR : RelR F M) (hl : M.length ≤ 900) : Calls Try.prog 25 #[.pointer (some ⟨R, 0, none⟩)] w fun e w' =>
    ∃ base2 R2 bm2 n2 F2, e = .returned (.pointer (some ⟨R2, 0, none⟩)) ∧ RtAt w' base2 R2 bm2 n2 F2 ∧ w.heap.size ≤ base2 ∧ n2 ≤ 1000 ∧ RelR F2 M ∧ Below w.heap.size w w' :=
  (code_rclone h (fun T hT => by have := hR.len_le hT; omega)).mono fun e w' ⟨n2, F2, he, h2, hn, hc, hb⟩ => ⟨_, _, _, n2, F2, he, h2, Nat.le_refl _, hn, hR.copy hc, hb⟩
theorem code_rlen_at {w : World} {base R bm n : Nat} {F : Lns} {M : List Rt} (h : RtAt w base R bm n F) (hR : RelR F M) (hl : M.length ≤ 900) : Calls Try.prog 27 #[.pointer (some ⟨R, 0, none⟩)] w fun e w' => e = .returned (.int .i64 M.length) ∧ Below w.heap.size w w' :=
  (code_rlen h (fun T hT => by have := hR.sum_le hT; omega)).mono fun e w' ⟨T, hT, hall, he, hb⟩ => ⟨by rw [he, hR.sum_eq hT hall], hb⟩
theorem code_rstates_at {w : World} {base R bm n : Nat} {F : Lns} {M : List Rt} (h : RtAt w base R bm n F) (hR : RelR F M) (hl : M.length ≤ 900) : Calls Try.prog 32 #[.pointer (some ⟨R, 0, none⟩)] w (ToldL w (keysL.filter (statB M))) :=
  (code_rstates h (fun T hT => by have := hR.len_le hT; omega)).mono fun e w' ⟨T, hT, hall, ht⟩ => by rw [hR.states hT hall] at ht; exact ht
theorem code_of_at {w : World} {base R bm n : Nat} {F : Lns} {M : List Rt} (h : RtAt w base R bm n F) (hR : RelR F M) (s : ByteArray) (c d : Int) (hs : s.size ≤ 9223372036854775807) (hM : MaxL w) :
    Calls Try.prog 29 #[.pointer (some ⟨R, 0, none⟩), .string s, .int .i64 c, .int .i64 d] w fun e w' => e = .returned (.tuple #[.int .i64 (rofX M s c d), .int .i64 (rofE M s c d)]) ∧ Below w.heap.size w w' := by
  have := code_of h s c d hs hM
  rw [(hR.of s c d).1, (hR.of s c d).2] at this
  exact this
theorem code_rset_at {w : World} {base R bm n : Nat} {F : Lns} {M : List Rt} (h : RtAt w base R bm n F) (hR : RelR F M) (y : Rt) (hs : y.1.size ≤ 9223372036854775807) (hM : MaxL w) (hn : n < maxLen) :
    Calls Try.prog 26 #[.pointer (some ⟨R, 0, none⟩), .string y.1, .int .i64 y.2.1, .agg #[.int .i64 y.2.2.1, .int .i64 y.2.2.2.1], .int .i64 y.2.2.2.2] w fun e w' =>
      e = .returned (.int .i64 (rsetE M y)) ∧ Below base w w' ∧ ∃ F', RtAt w' base R bm (n + 1) F' ∧ RelR F' (rsetL M y) :=
  (code_rset h y.1 y.2.1 y.2.2.1 y.2.2.2.1 y.2.2.2.2 hs hM hn).mono fun e w' ⟨he, hb, F', h', hst⟩ => ⟨by rw [he]; exact congrArg (fun E => Ending.returned (.int .i64 E)) (hR.err y.1 y.2.1 y.2.2), hb, F', h', hR.set hst⟩
theorem rsetL_len (M : List Rt) (y : Rt) : (rsetL M y).length ≤ M.length + 1 := by
  unfold rsetL
  split
  · simp
  · omega
theorem keys_len (M : List Rt) : (keysL.filter (statB M)).length ≤ 1000 := Nat.le_trans (List.length_filter_le _ _) (by decide)
set_option maxHeartbeats 4000000 in
theorem sets_walk (A : Option Addr) (c : Nat) (L : List Rt) (s : ByteArray) (q d : Int) (w : World) (hr : RowR w A L) (hln : L.length ≤ 4000000000000000000) (hM : MaxL w)
    (hsz : (∀ y ∈ L, y.1.size ≤ 9223372036854775807) ∧ s.size ≤ 9223372036854775807) (V : Bool) (hV : lightB L s = V) :
    Calls Try.prog 6 #[.slice A L.length c, .agg #[.string s, .int .i64 q, .int .i64 d]] w fun e w' => e = .returned (.bool true) ∧ Below w.heap.size w w' := by
  have HR := Lib.hid hr
  have HSz := Lib.hid hsz
  have HM := Lib.hid hM
  have HX0 := Lib.hid (And.intro (heap_alloc_new w (.cells #[.string s, .int .i64 q, .int .i64 d] 51)) (below_alloc w (.cells #[.string s, .int .i64 q, .int .i64 d] 51)))
  have HLt := Lib.hid (light_walk A c L s q d _ (hr.on (below_alloc w (.cells #[.string s, .int .i64 q, .int .i64 d] 51))) hln V hV)
  cases V with
  | false =>
    clear hr hln hM hsz hV
    go_enter Try.func6, Try.ntmps6
    go_wp2_with (go_at_call 22; refine HLt.out.mono ?_; rintro e w1 ⟨rfl, hb⟩; have HB1 := Lib.hid (below_then HX0.out.2 hb); clear hb; refine Stop.out ?_)
    unfold Stop
    go_wp2_with (go_at_call 23; refine (rt_lives _ (HM.out.below HB1.out (Nat.le_refl _))).mono ?_; rintro e w9 ⟨rfl, hb⟩; have HZ := Lib.hid (below_then HB1.out hb); clear hb)
    go_ret
    exact ⟨rfl, HZ.out⟩
  | true =>
    have hl60 : L.length ≤ 60 := by
      unfold lightB at hV
      rw [Bool.and_eq_true, Bool.and_eq_true, decide_eq_true_iff] at hV
      exact hV.2.1
    have i60 : (L.length : Int) ≤ 60 := by omega
    clear hr hln hM hsz hV
    go_enter Try.func6, Try.ntmps6
    go_wp2_with (go_at_call 22; refine HLt.out.mono ?_; rintro e w1 ⟨rfl, hb⟩; have HX1 := Lib.hid (And.intro (heap_on hb HX0.out.1) (below_then HX0.out.2 hb)); clear hb; refine Stop.out ?_)
    unfold Stop
    have HNw := Lib.hid (code_rnew w1)
    go_wp2_with (go_at_call 24; refine HNw.out.mono ?_; rintro e w2 ⟨rfl, h2, hb⟩; have HF2 := Lib.hid h2; have HX2 := Lib.hid (And.intro (heap_on hb HX1.out.1) (below_then HX1.out.2 hb)); clear h2 hb; refine Stop.out ?_)
    unfold Stop
    go_wp2
    clear HNw HX1 HX0 HLt
    go_loopw [5, 6, 30] (fun rv wv i wr => ∃ (k base R bm n : Nat) (F : Lns) (A' : Option Addr) (c' : Nat) (M : List Rt), k ≤ L.length ∧ i = .int .i64 k ∧ rv = .pointer (some ⟨R, 0, none⟩) ∧ wv = .slice A' M.length c' ∧ Hid (RtAt wr base R bm n F) ∧ Hid (RowR wr A' M ∧ (A' = none → M = [])) ∧ Hid (RelR F M ∧ M.length ≤ k) ∧ Hid (wr.heap[w.heap.size]? = some (.cells #[.string s, .int .i64 q, .int .i64 d] 51 (0, 0)) ∧ Below w.heap.size w wr)) (fun _ _ i _ => L.length - (intOf i).toNat)
    case atStart => exact ⟨0, _, _, _, _, _, none, 0, [], Nat.zero_le _, rfl, rfl, rfl, HF2, Lib.hid ⟨RowR.nil, fun _ => rfl⟩, Lib.hid ⟨RelR.nil, Nat.le_refl _⟩, HX2⟩
    case round =>
      clear HF2 HX2
      obtain ⟨k, base, R, bm, n, F, A', c', M, hk, rfl, rfl, rfl, HF, HRw, HRl, HX⟩ := hrel
      by_cases hlt : k < L.length
      · have hlt' : (k : Int) < (L.length : Int) := by omega
        obtain ⟨b, o, rfl, hbl, y0, y1, y2, y3, y4⟩ := (HR.out.on HX.out.2).at_ k hlt
        obtain ⟨y, hy⟩ : ∃ y, y = L[k] := ⟨_, rfl⟩
        rw [← hy] at y0 y1 y2 y3 y4
        have HYs : Hid (y.1.size ≤ 9223372036854775807) := Lib.hid (by rw [hy]; exact HSz.out.1 _ (List.getElem_mem hlt))
        have HMl : Hid (M.length ≤ 60) := Lib.hid (by have := HRl.out.2; omega)
        have HBx := Lib.hid (below_alloc wr (.cells #[.string y.1, .int .i64 y.2.1, .int .i64 y.2.2.1, .int .i64 y.2.2.2.1, .int .i64 y.2.2.2.2] 56))
        have HYb := Lib.hid (heap_alloc_new wr (.cells #[.string y.1, .int .i64 y.2.1, .int .i64 y.2.2.1, .int .i64 y.2.2.2.1, .int .i64 y.2.2.2.2] 56))
        have HCl := Lib.hid (code_rclone_at (HF.out.on HBx.out) HRl.out.1 (by have := HMl.out; omega))
        clear hbl hy
        go_wp2_with (go_at_call 25; refine HCl.out.mono ?_; rintro e w2 ⟨base2, R2, bm2, n2, F2, rfl, h2, hb2, hn2, hr2, hb⟩; have HF2 := Lib.hid h2; have HR2 := Lib.hid (And.intro hr2 (And.intro hn2 hb2)); have HB2 := Lib.hid hb; have HY2 := Lib.hid (heap_on hb HYb.out); obtain ⟨z0, z1, z2, z3, z4⟩ := row5 HY2.out; clear h2 hb2 hn2 hr2 hb; refine Stop.out ?_)
        unfold Stop
        have HW2 := Lib.hid (below_then HBx.out HB2.out)
        have HSt := Lib.hid (code_rset_at HF2.out HR2.out.1 y HYs.out (HM.out.below (below_then HX.out.2 HW2.out) (Nat.le_refl _)) (by have := HR2.out.2.1; unfold maxLen; omega))
        go_wp2_with (go_at_call 26; refine HSt.out.mono ?_; rintro e w3 ⟨rfl, hb, F3, h3, hr3⟩; have HF3 := Lib.hid (And.intro h3 hr3); have HB3 : Hid (Below (wr.alloc (.cells #[.string y.1, .int .i64 y.2.1, .int .i64 y.2.2.1, .int .i64 y.2.2.2.1, .int .i64 y.2.2.2.2] 56)).heap.size w2 w3) := (Lib.hid (hb.mono HR2.out.2.2)); clear h3 hr3 hb z0 z1 z2 z3 z4; refine Stop.out ?_)
        unfold Stop
        have HW3 : Hid (Below wr.heap.size wr w3) := Lib.hid (HBx.out.trans ((HB2.out.trans HB3.out).mono HBx.out.size))
        have HLe := Lib.hid (code_rlen_at (HF.out.on HW3.out) HRl.out.1 (by have := HMl.out; omega))
        go_wp2_with (go_at_call 27; refine HLe.out.mono ?_; rintro e w4 ⟨rfl, hb⟩; have HB4 := Lib.hid hb; have HY4 : Hid (w4.heap[wr.heap.size]? = some (.cells #[.string y.1, .int .i64 y.2.1, .int .i64 y.2.2.1, .int .i64 y.2.2.2.1, .int .i64 y.2.2.2.2] 56 (0, 0))) := (Lib.hid (heap_on hb (((HB2.out.trans HB3.out).block _ (heapLt HYb.out)).trans HYb.out))); have HW4 := Lib.hid (HW3.out.trans (hb.mono HW3.out.size)); obtain ⟨z0, z1, z2, z3, z4⟩ := row5 HY4.out; clear hb; refine Stop.out ?_)
        unfold Stop
        have HRs := Lib.hid (ref_rset A' c' M y w4 (HRw.out.1.on HW4.out) HRw.out.2 (by have := HMl.out; omega))
        go_wp2_with (go_at_call 28; refine HRs.out.mono ?_; rintro e w5 ⟨A2, c2, rfl, hr5, hn5, hb⟩; have HR5 := Lib.hid (And.intro hr5 hn5); have HB5 := Lib.hid hb; clear hr5 hn5 hb z0 z1 z2 z3 z4; refine Stop.out ?_)
        unfold Stop
        have HM3 : Hid ((rsetL M y).length ≤ M.length + 1) := Lib.hid (rsetL_len M y)
        generalize rsetL M y = M3 at HF3 HR5 HM3 ⊢
        generalize rsetE M y = E3 at *
        have HF5 := Lib.hid (HF3.out.1.on (below_then HB4.out HB5.out))
        have HX5 : Hid (w5.heap[w.heap.size]? = some (.cells #[.string s, .int .i64 q, .int .i64 d] 51 (0, 0)) ∧ Below w.heap.size w w5) := Lib.hid (by
          have hb := below_then HW4.out HB5.out
          exact ⟨heap_on hb HX.out.1, below_then HX.out.2 hb⟩)
        have HM60 : Hid (M3.length ≤ 61) := Lib.hid (by have := HM3.out; have := HMl.out; omega)
        obtain ⟨a0, a1, a2⟩ := row3v HX5.out.1
        have HO1 := Lib.hid (code_of_at HF5.out HF3.out.2 s q d HSz.out.2 (HM.out.below HX5.out.2 (Nat.le_refl _)))
        clear HB2 HB3 HB4 HY2 HY4 HW2 HW3 HW4 HBx HYb HCl HSt HLe HRs HF2 HR2 y0 y1 y2 y3 y4
        go_wp2_with (go_at_call 29; refine HO1.out.mono ?_; rintro e w6 ⟨rfl, hb⟩; have HB6 := Lib.hid hb; clear hb a0 a1 a2; obtain ⟨a0, a1, a2⟩ := row3v (heap_on HB6.out HX5.out.1); refine Stop.out ?_)
        unfold Stop
        have HO2 := Lib.hid (ref_of A2 c2 M3 s q d w6 (HR5.out.1.on HB6.out) (by have := HM60.out; omega))
        go_wp2_with (go_at_call 30; refine HO2.out.mono ?_; rintro e w7 ⟨rfl, hb⟩; have HB7 := Lib.hid (below_then HB6.out hb); clear hb a0 a1 a2; refine Stop.out ?_)
        unfold Stop
        generalize rofX M3 s q d = X3 at *
        generalize rofE M3 s q d = Y3 at *
        have HLe := Lib.hid (code_rlen_at (HF5.out.on HB7.out) HF3.out.2 (by have := HM60.out; omega))
        go_wp2_with (go_at_call 27; refine HLe.out.mono ?_; rintro e w8 ⟨rfl, hb⟩; have HB8 := Lib.hid (below_then HB7.out hb); clear hb; refine Stop.out ?_)
        unfold Stop
        have HSs := Lib.hid (code_rstates_at (HF5.out.on HB8.out) HF3.out.2 (by have := HM60.out; omega))
        go_wp2_with (go_at_call 32; refine HSs.out.mono ?_; rintro e w9 ⟨As, ns, rfl, hs9, hb⟩; have HS9 := Lib.hid hs9; have HB9 := Lib.hid (below_then HB8.out hb); clear hs9 hb; refine Stop.out ?_)
        unfold Stop
        have HRt := Lib.hid (ref_states A2 c2 M3 w9 (HR5.out.1.on HB9.out) (by have := HM60.out; omega))
        go_wp2_with (go_at_call 33; refine HRt.out.mono ?_; rintro e w10 ⟨At, nt, rfl, hs10, hb⟩; have HS10 := Lib.hid hs10; have HSb := Lib.hid (HS9.out.below hb); have HB10 := Lib.hid (below_then HB9.out hb); clear hs10 hb; refine Stop.out ?_)
        unfold Stop
        have HSa := ref_same (keysL.filter (statB M3)) (keysL.filter (statB M3)) As At ns nt w10 (keys_len M3) HSb.out HS10.out
        rw [decide_eq_true (rfl : keysL.filter (statB M3) = keysL.filter (statB M3))] at HSa
        have HSm := Lib.hid HSa
        clear HSa
        generalize (keysL.filter (statB M3)).length = nk at *
        go_wp2_with (go_at_call 31; refine HSm.out.mono ?_; rintro e w11 ⟨rfl, hb⟩; have HB11 := Lib.hid (below_then HB10.out hb); clear hb; refine Stop.out ?_)
        unfold Stop
        go_wp2
        go_roundw
        case rel => exact ⟨k + 1, base2, R2, bm2, n2 + 1, F3, A2, c2, M3, by omega, by go_num, rfl, rfl, Lib.hid (HF5.out.on HB11.out), Lib.hid ⟨HR5.out.1.on HB11.out, HR5.out.2⟩, Lib.hid ⟨HF3.out.2, by have := HM3.out; have := HRl.out.2; omega⟩, Lib.hid ⟨heap_on HB11.out HX5.out.1, below_then HX5.out.2 HB11.out⟩⟩
        case measure => simp [intOf]; omega
      · obtain rfl : k = L.length := by omega
        have HMl : Hid (M.length ≤ 60) := Lib.hid (by have := HRl.out.2; omega)
        obtain ⟨a0, a1, a2⟩ := row3v HX.out.1
        have HO1 := Lib.hid (code_of_at HF.out HRl.out.1 s q d HSz.out.2 (HM.out.below HX.out.2 (Nat.le_refl _)))
        go_wp2_with (go_at_call 29; refine HO1.out.mono ?_; rintro e w6 ⟨rfl, hb⟩; have HB6 := Lib.hid hb; clear hb a0 a1 a2; obtain ⟨a0, a1, a2⟩ := row3v (heap_on HB6.out HX.out.1); refine Stop.out ?_)
        unfold Stop
        have HO2 := Lib.hid (ref_of A' c' M s q d w6 (HRw.out.1.on HB6.out) (by have := HMl.out; omega))
        go_wp2_with (go_at_call 30; refine HO2.out.mono ?_; rintro e w7 ⟨rfl, hb⟩; have HB7 := Lib.hid (below_then HX.out.2 (below_then HB6.out hb)); clear hb a0 a1 a2; refine Stop.out ?_)
        unfold Stop
        generalize rofX M s q d = X3 at *
        generalize rofE M s q d = Y3 at *
        go_wp2_with (go_at_call 23; refine (rt_lives _ (HM.out.below HB7.out (Nat.le_refl _))).mono ?_; rintro e w9 ⟨rfl, hb⟩; have HZ := Lib.hid (below_then HB7.out hb); clear hb; refine Stop.out ?_)
        unfold Stop
        go_wp2
        go_ret
        exact ⟨rfl, HZ.out⟩
end Go.Proofs.Ytlnpflfkkjcopaa
