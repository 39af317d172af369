/- JournalCrash, walked. -/
import Derived.Test.YtfjejiapafdgeaaJ46
namespace Go.Proofs.Ytfjejiapafdgeaa
open Go.RowKit
set_option maxRecDepth 100000
set_option linter.unusedSimpArgs false
set_option linter.unusedVariables false

set_option maxHeartbeats 2000000 in
theorem jcrash_out (many : Int) (L : List Text) (A : Option Addr) (cap : Nat) (fc : CutV) (nc : Nat) (Ac : Option Addr) (cc : Nat) (w : World) (hL : L.length ≤ 9223372036854775807) (hR : BatsAt w A L) (h : many < 1 ∨ 60 < many ∨ jlight L = false ∨ 10 < nc) :
    Calls Try.prog 8 #[.int .i64 many, .slice A L.length cap, .agg #[.int .i64 fc.1, .int .i64 fc.2], .slice Ac nc cc] w fun e w' => e = .returned (.bool true) ∧ Below w.heap.size w w' := by
  have HLv := Lib.hid jn_lives
  have HLi : Hid (∀ V, Below w.heap.size w V → Calls Try.prog 31 #[.slice A L.length cap] V fun e w' => e = .returned (.bool (jlight L)) ∧ V = w') := Lib.hid fun V hV => code_jlight L A cap V hL (hR.below hV)
  by_cases h1 : many < 1
  · clear hR hL h
    go_enter Try.func8, Try.ntmps8
    go_wp2_with (go_at_call 32; refine (HLv.out _).mono ?_; rintro e w1 ⟨rfl, hb1⟩; have HB1 := Lib.hid (below_then (below_alloc w _) hb1); clear hb1)
    go_ret
    exact ⟨rfl, HB1.out⟩
  by_cases h2 : 60 < many
  · clear hR hL h
    go_enter Try.func8, Try.ntmps8
    go_wp2_with (go_at_call 32; refine (HLv.out _).mono ?_; rintro e w1 ⟨rfl, hb1⟩; have HB1 := Lib.hid (below_then (below_alloc w _) hb1); clear hb1)
    go_ret
    exact ⟨rfl, HB1.out⟩
  cases hq : jlight L with
  | false =>
    rw [hq] at HLi
    clear hR hL hq h
    go_enter Try.func8, Try.ntmps8
    go_wp2_with (first
      | (go_at_call 31; refine (HLi.out _ (below_alloc _ _)).mono ?_; rintro e w1 ⟨rfl, rfl⟩)
      | (go_at_call 32; refine (HLv.out _).mono ?_; rintro e w1 ⟨rfl, hb1⟩; have HB1 := Lib.hid (below_then (below_alloc w _) hb1); clear hb1))
    go_ret
    exact ⟨rfl, HB1.out⟩
  | true =>
    have h3 : (10 : Int) < (nc : Int) := by
      rw [hq] at h
      rcases h with h | h | h | h
      · exact absurd h h1
      · exact absurd h h2
      · cases h
      · omega
    rw [hq] at HLi
    clear hR hL hq h
    go_enter Try.func8, Try.ntmps8
    go_wp2_with (first
      | (go_at_call 31; refine (HLi.out _ (below_alloc _ _)).mono ?_; rintro e w1 ⟨rfl, rfl⟩)
      | (go_at_call 32; refine (HLv.out _).mono ?_; rintro e w1 ⟨rfl, hb1⟩; have HB1 := Lib.hid (below_then (below_alloc w _) hb1); clear hb1))
    go_ret
    exact ⟨rfl, HB1.out⟩
set_option maxHeartbeats 8000000 in
theorem jcrash_in (m : Nat) (L : List Text) (A : Option Addr) (cap : Nat) (fc : CutV) (Lc : List CutV) (Ac : Option Addr) (cc : Nat) (w : World) (hL : L.length ≤ 9223372036854775807) (hR : BatsAt w A L) (hfc : IntB fc.1 ∧ IntB fc.2) (hC : RowCutV w Ac Lc) (hbc : ∀ x ∈ Lc, IntB x.1 ∧ IntB x.2) (h1 : 1 ≤ m) (h2 : m ≤ 60) (hq : jlight L = true) (hlc : Lc.length ≤ 10) :
    Calls Try.prog 8 #[.int .i64 m, .slice A L.length cap, .agg #[.int .i64 fc.1, .int .i64 fc.2], .slice Ac Lc.length cc] w fun e w' => e = .returned (.bool true) ∧ Below w.heap.size w w' := by
  have HLv := Lib.hid jn_lives
  have HLi : Hid (∀ V, Below w.heap.size w V → Calls Try.prog 31 #[.slice A L.length cap] V fun e w' => e = .returned (.bool true) ∧ V = w') := Lib.hid fun V hV => by rw [← hq]; exact code_jlight L A cap V hL (hR.below hV)
  have HM : Hid (1 ≤ m ∧ m ≤ 60) := Lib.hid ⟨h1, h2⟩
  unfold jlight at hq
  have hq2 := of_decide_eq_true hq
  have HQ := Lib.hid hq2
  have HR := Lib.hid hR
  have HC := Lib.hid hC
  have HFc := Lib.hid hfc
  have HBc := Lib.hid hbc
  obtain ⟨ll, hll⟩ : ∃ ll, ll = L.length := ⟨_, rfl⟩
  obtain ⟨lc, hlcc⟩ : ∃ lc, lc = Lc.length := ⟨_, rfl⟩
  rw [← hll] at HLi ⊢
  rw [← hlcc]
  have HLl : Hid (ll = L.length ∧ ll ≤ 30) := Lib.hid ⟨hll, by rw [hll]; exact hq2.2⟩
  have HLc : Hid (lc = Lc.length ∧ lc ≤ 10) := Lib.hid ⟨hlcc, by rw [hlcc]; exact hlc⟩
  have g1 : ¬ (m : Int) < 1 := by omega
  have g2 : ¬ (60 : Int) < (m : Int) := by omega
  have g3 : ¬ (10 : Int) < (lc : Int) := by omega
  clear hR hL hq hq2 hll hC hfc hbc hlc hlcc h1 h2
  have HN : Hid (∀ V, Calls Try.prog 29 #[.int .i64 m] V fun e W => ∃ B bm, e = .returned (.pointer (some ⟨B, 0, none⟩)) ∧ Dsk W B bm 0 (newD m) ∧ V.heap.size ≤ B ∧ V.heap.size ≤ bm ∧ Below V.heap.size V W) := Lib.hid (fun V => by
    have := code_dnew V m (by have := HM.out; omega) (by have := HM.out; omega)
    rw [Int.toNat_natCast] at this
    exact this.mono fun e W ⟨q1, q2, q3⟩ => ⟨_, _, q1, q2, by omega, by omega, q3⟩)
  go_enter Try.func8, Try.ntmps8
  go_wp2_with (first
    | (go_at_call 31; refine (HLi.out _ (below_alloc _ _)).mono ?_; rintro e w1 ⟨rfl, rfl⟩; refine Stop.out ?_))
  unfold Stop
  obtain ⟨w1, hw1⟩ : ∃ w1, w1 = w.alloc (.cells #[.int .i64 fc.1, .int .i64 fc.2] 78) := ⟨_, rfl⟩
  rw [← hw1]
  have HX1 : Hid (w1.heap[w.heap.size]? = some (.cells #[.int .i64 fc.1, .int .i64 fc.2] 78 (0, 0))) := Lib.hid (by rw [hw1]; exact heap_alloc_new w _)
  have HB1 : Hid (Below w.heap.size w w1) := Lib.hid (by rw [hw1]; exact below_alloc w _)
  have HZ1 : Hid (w.heap.size < w1.heap.size) := Lib.hid (heapLt HX1.out)
  clear hw1 HLi
  obtain ⟨G, hG⟩ : ∃ G, G = w.heap.size := ⟨_, rfl⟩
  rw [← hG] at HX1 ⊢
  have HG := Lib.hid hG
  clear hG
  go_wp2_with (first
    | (go_at_call 29; refine (HN.out _).mono ?_; rintro e w2 ⟨B, bm, rfl, hd, hB, hbm, hb⟩; have HD2 := Lib.hid hd; have HBB : Hid (w1.heap.size ≤ B ∧ w1.heap.size ≤ bm) := Lib.hid (And.intro hB hbm); have HB2 := Lib.hid (below_then HB1.out hb); have HX2 := Lib.hid (heap_on hb HX1.out); clear hd hB hbm hb; refine Stop.out ?_))
  unfold Stop
  have HNb : Hid (G ≠ B ∧ G ≠ bm ∧ w.heap.size ≤ B ∧ w.heap.size ≤ bm) := Lib.hid (by have a1 := HZ1.out; have a2 := HBB.out; have a3 := HG.out; omega)
  go_wp2_with (first
    | (go_at_call 33; refine (jopen_new w2 B bm m HM.out.1 HM.out.2 HD2.out).mono ?_; rintro e w3 ⟨P, A3, c3, n, rfl, hj, hn, hP, hc⟩; have HJ3 := Lib.hid hj; have HN3 := Lib.hid hn; have HPl : Hid (w2.heap.size ≤ P ∧ w.heap.size ≤ P) := Lib.hid ⟨hP, Nat.le_trans HB2.out.size hP⟩; have HB3 : Hid (Below w.heap.size w w3) := Lib.hid (HB2.out.trans (hc.below HB2.out.size HNb.out.2.2.1 HNb.out.2.2.2)); have HX3 := Lib.hid ((hc.block _ (heapLt HX2.out) HNb.out.1 HNb.out.2.1).trans HX2.out); clear hj hn hP hc; refine Stop.out ?_))
  unfold Stop
  clear HN HX1 HX2 HD2 HB1 HB2
  obtain ⟨x0, x1⟩ := cellsCutV HX3.out
  have HFu : Hid (Calls Try.prog 20 #[.pointer (some ⟨B, 0, none⟩), .int .i64 fc.1, .int .i64 fc.2] w3 fun e w' => ∃ f, e = .returned (.int .i64 f) ∧ Dsk w' B bm n (FX (newD m) fc.1 fc.2).1 ∧ ChgD w3 w' B bm) := Lib.hid ((fuse_any w3 B bm n (newD m) fc.1 fc.2 HJ3.out.dsk).mono fun e w' h => ⟨_, h.1, h.2.1, h.2.2⟩)
  go_wp2_with (first
    | (go_at_call 20; refine HFu.out.mono ?_; rintro e w4 ⟨f4, rfl, hd, hc⟩; have HD4 := Lib.hid hd; have HJ4 : Hid (JnAt w4 P ⟨B, 0, false, 0⟩) := Lib.hid (HJ3.out.at_.chg hc HJ3.out.p1 HJ3.out.p2); have HB4 : Hid (Below w.heap.size w w4) := Lib.hid (HB3.out.trans (hc.below HB3.out.size HNb.out.2.2.1 HNb.out.2.2.2)); clear hd hc x0 x1; refine Stop.out ?_))
  unfold Stop
  obtain ⟨d4, hd4⟩ : ∃ d4, d4 = (FX (newD m) fc.1 fc.2).1 := ⟨_, rfl⟩
  have HV4 : Hid (Live d4 ⟨B, 0, false, 0⟩ m []) := Lib.hid (by rw [hd4]; exact (Live.new m B).fx HFc.out.1.2)
  have HW4 : Hid (d4.writes ≤ 0) := Lib.hid (by rw [hd4, (fx_same (newD_ok m) HFc.out.1.2).2.2.2.1]; exact Int.le_refl 0)
  rw [← hd4] at HD4
  clear hd4
  obtain ⟨B0, hB0⟩ : ∃ B0, B0 = w4.heap.size := ⟨_, rfl⟩
  have HB0 : Hid (B < B0 ∧ bm < B0 ∧ P < B0 ∧ w.heap.size ≤ B0 ∧ P ≠ B ∧ P ≠ bm) := Lib.hid ⟨by rw [hB0]; exact HD4.out.lt, by rw [hB0]; exact HD4.out.2.1.lt, by rw [hB0]; exact heapLt HJ4.out, by rw [hB0]; exact HB4.out.size, HJ3.out.p1, HJ3.out.p2⟩
  have HI4 : Hid (LiveS w B bm P B0 m 0 n ⟨B, 0, false, 0⟩ d4 [] (.slice none 0 0) w4) := Lib.hid ⟨HJ4.out, HD4.out, rfl, HV4.out, OwnB.nil _ _ _, Nat.le_refl _, by have := HW4.out; omega, by have := HN3.out; omega, HB4.out, by rw [hB0]; exact Nat.le_refl _⟩
  clear HFu HX3 HJ3 HB3 HN3 HD4 HJ4 HV4 HW4 HB4 hB0 HBB HZ1 HG HFc
  go_wp2
  go_loopw [13, 16, 17, 18, 72] (fun v13 v16 v17 v18 i wr => ∃ (k nX : Nat) (X : List Text) (A13 : Option Addr) (c13 : Nat), k ≤ ll ∧ i = .int .i64 (k : Nat) ∧ v13 = .slice A13 nX c13 ∧ Hid (nX = X.length) ∧ Hid (∃ n j d, LiveS w B bm P B0 m k n j d X (.slice A13 nX c13) wr)) (fun _ _ _ _ i _ => roundsLeft ll i)
  case atStart => exact ⟨0, 0, [], none, 0, Nat.zero_le _, rfl, rfl, Lib.hid rfl, Lib.hid ⟨_, _, _, HI4.out⟩⟩
  case round =>
    obtain ⟨k, nX, X, A13, c13, hk, rfl, rfl, HnX, HIx⟩ := hrel
    clear HI4
    obtain ⟨n1, j, d, hI⟩ := HIx.out
    have HI := Lib.hid hI
    clear hI HIx
    by_cases hlt : k < ll
    · have hlt' : (k : Int) < (ll : Int) := by omega
      have hge : ¬ ll ≤ k := by omega
      have HMs : Hid (roundsLeft ll (.int .i64 ((k : Int) + 1)) < roundsLeft ll (.int .i64 (k : Int))) := Lib.hid (roundsLeft_next _ _ hlt)
      have HK : Hid (k + 1 ≤ ll ∧ (k : Int) + 1 = ((k + 1 : Nat) : Int)) := Lib.hid ⟨hlt, rfl⟩
      have HWk : Hid (wrap64 ((k : Int) + 1) = (k : Int) + 1) := Lib.hid (by have := HLl.out.2; unfold wrap64; omega)
      have hkL : k < L.length := by rw [← HLl.out.1]; exact hlt
      have HT0 := Lib.hid (HR.out k hkL)
      obtain ⟨b0, off, Ai, ci, rfl, hbl, hc, hl1, hl2, hT, hnn⟩ := HR.out.below HI.out.low k hkL
      have HL6 : Hid (L[k].length ≤ 600) := Lib.hid (HQ.out.1 k hkL)
      have HTw : Hid (Txt w Ai L[k]) := Lib.hid (by
        obtain ⟨b', off', Ai', ci', e, p1, p2, _, _, p3, _⟩ := HT0.out
        injection e with e; injection e with e1 e2
        subst e1 e2
        have := (HI.out.low.cell (p := ⟨b0, off + k, none⟩) p1).trans p2
        rw [hc] at this
        injection this with this; injection this with this
        rw [this]
        exact p3)
      clear HT0
      have HAp : Hid (Calls Try.prog 36 #[.pointer (some ⟨P, 0, none⟩), .slice Ai L[k].length ci] wr (AppP wr P bm n1 j (AppX d j L[k]))) := Lib.hid (by
        have hI := HI.out
        have hjb := hI.jb
        have hd := hI.dsk
        rw [← hjb] at hd
        have hkk := HLl.out.2
        have hm := HM.out
        have htl : j.tail ≤ d.many := by
          have := findT_le d.S m
          rw [hI.live.find] at this
          rw [hI.live.many]
          exact this
        exact code_japp wr P bm n1 j d L[k] Ai ci hI.at_ hd hI.live.ok (by have := hI.nn; omega) (by have := hI.wr; omega) (by rw [hjb]; exact HB0.out.2.2.2.2.1) HB0.out.2.2.2.2.2 (by rw [hI.live.len]; have := hI.few; omega) htl (by have := HL6.out; omega) hl1 hT)
      have hcase := app_case (b := L[k]) HI.out.live (by have := HI.out.few; have := HLl.out.2; omega) (by have := HL6.out; omega) (by have := HM.out.2; omega)
      obtain ⟨b, hbb⟩ : ∃ b, b = L[k] := ⟨_, rfl⟩
      rw [← hbb] at hc hl1 hT hnn HL6 HTw HAp hcase
      obtain ⟨nl, hnl⟩ : ∃ nl, nl = b.length := ⟨_, rfl⟩
      rw [← hnl] at hc hl1 HAp
      have Hnl := Lib.hid hnl
      have HCi : Hid (nl ≤ ci ∧ ci ≤ maxLen ∧ (Ai = none → b = [])) := Lib.hid ⟨hl1, hl2, hnn⟩
      clear hbb hnl hl1 hl2 hnn hT hkL
      rcases hcase with ⟨f, hA, hf0, hf32⟩ | ⟨d', j', hA, hL', hB', hw', hb1⟩ | ⟨d', j', hA, X', t', hG', hX', hB', hw', hb1⟩
      · rw [hA] at HAp
        have hq0 : (f == 0) = false := beq_false_of_ne hf0
        have hq1 : (f != 0) = true := by simp [hf0]
        have hq2 : (f == 32) = false := beq_false_of_ne hf32
        have HSt : Hid (∀ w', AppP wr P bm n1 j (d, j, 0, f) (.returned (.tuple #[.int .i64 0, .int .i64 f])) w' → ∃ n2 j2 d2, LiveS w B bm P B0 m (k + 1) n2 j2 d2 X (.slice A13 nX c13) w') := Lib.hid (by
          rintro w' ⟨_, ⟨n', q2, q3⟩, q4, q5⟩
          have hI := HI.out
          have h0 := HB0.out
          rw [hI.jb] at q2 q5
          exact ⟨n', j, d, q4, q2, hI.jb, hI.live, hI.own.turn (fun x hx hl => q5.block x hl (by omega) (by omega) (by omega)), by have := hI.few; omega, by have := hI.wr; omega, by have := hI.nn; have h3 : n' ≤ n1 + 1000 := q3; omega, hI.low.trans (q5.below hI.low.size HPl.out.2 HNb.out.2.2.1 HNb.out.2.2.2), Nat.le_trans hI.hz q5.size⟩)
        clear hA
        go_wp2_with (first
          | (go_at_call 36; refine HAp.out.mono ?_; intro e w5 ha; obtain rfl := ha.1; have HI5 := Lib.hid (HSt.out w5 ha); clear ha; refine Stop.out ?_))
        unfold Stop
        clear HAp HSt HI
        have hwk := HWk.out
        go_wp2
        go_roundw
        case rel => exact ⟨k + 1, nX, X, A13, c13, HK.out.1, congrArg (Value.int .i64) (HWk.out.trans HK.out.2), rfl, HnX, HI5⟩
        case measure => first | exact HMs.out | (rw [hwk]; exact HMs.out)
      · rw [hA] at HAp
        obtain ⟨n2x, hn2x⟩ : ∃ q, q = X.length + 1 := ⟨_, rfl⟩
        rw [← hn2x] at HAp
        have HSt : Hid (∀ w', AppP wr P bm n1 j (d', j', ((n2x : Nat) : Int), 0) (.returned (.tuple #[.int .i64 (n2x : Nat), .int .i64 0])) w' → OwnB w B0 (.slice A13 nX c13) X w' ∧ B0 ≤ w'.heap.size ∧ (∀ w2 v, JnAt w2 P j' → (∃ n2, Dsk w2 B bm n2 d' ∧ n2 ≤ n1 + 1000) → OwnB w B0 v (X ++ [b]) w2 → Below w.heap.size w w2 → B0 ≤ w2.heap.size → ∃ n3 j2 d2, LiveS w B bm P B0 m (k + 1) n3 j2 d2 (X ++ [b]) v w2) ∧ JnAt w' P j' ∧ (∃ n2, Dsk w' B bm n2 d' ∧ n2 ≤ n1 + 1000) ∧ Below w.heap.size w w') := Lib.hid (by
          rintro w' ⟨_, ⟨n', q2, q3⟩, q4, q5⟩
          have hI := HI.out
          have h0 := HB0.out
          rw [hI.jb] at q2 q5
          refine ⟨hI.own.turn (fun x hx hl => q5.block x hl (by omega) (by omega) (by omega)), Nat.le_trans hI.hz q5.size, ?_, q4, ⟨n', q2, q3⟩, hI.low.trans (q5.below hI.low.size HPl.out.2 HNb.out.2.2.1 HNb.out.2.2.2)⟩
          rintro w2 v z1 ⟨n2, z2, z2'⟩ z3 z4 z5
          exact ⟨n2, j', d', z1, z2, hB'.trans hI.jb, hL', z3, by rw [List.length_append]; have := hI.few; simp; omega, by have := hI.wr; omega, by have := hI.nn; omega, z4, z5⟩)
        have HNx : Hid (nX = X.length ∧ n2x = X.length + 1 ∧ X.length ≤ 40) := Lib.hid ⟨HnX.out, hn2x, by have := HI.out.few; have := HLl.out.2; omega⟩
        clear hA hn2x hL'
        go_wp2_with (first
          | (go_at_call 36; refine HAp.out.mono ?_; intro e w5 ha; obtain rfl := ha.1; have HI5 := Lib.hid (HSt.out w5 ha); clear ha; refine Stop.out ?_))
        unfold Stop
        clear HAp HSt HI
        have HAl : Hid (Below w5.heap.size w5 (w5.alloc (.cells #[.slice Ai nl ci] 51))) := Lib.hid (below_alloc _ _)
        have HGa : Hid ((w5.alloc (.cells #[.slice Ai nl ci] 51)).heap[w5.heap.size]? = some (.cells #[.slice Ai nl ci] 51 (0, 0))) := Lib.hid (heap_alloc_new w5 _)
        have hwk := HWk.out
        have hne : ((n2x : Int) != (n2x : Int)) = false := by simp
        go_wp2_with (first
          | ((with_reducible refine wpList_append_bats rfl _ _ rfl rfl w B0 (.slice A13 nX c13) X rfl (HI5.out.1.on HAl.out) _ rfl ci nl Ai b _ _ HGa.out Hnl.out.symm HCi.out.1 HCi.out.2.1 HTw.out HCi.out.2.2 (by have := HNx.out; omega) (Nat.le_trans HI5.out.2.1 HAl.out.size) n2x HNx.out.2.1.symm ?_); intro A6 c6 w6 ho6 hg6; have HI6 : Hid (∃ n3 j2 d2, LiveS w B bm P B0 m (k + 1) n3 j2 d2 (X ++ [b]) (.slice A6 n2x c6) w6) := Lib.hid (step_own HI5.out HAl.out hg6 (by have := HB0.out; omega) (by have := HB0.out; omega) (by have := HB0.out; omega) ho6 HB0.out.2.2.2.1); clear ho6 hg6; refine Stop.out ?_))
        unfold Stop
        clear HI5 HAl HGa
        have HnX2 : Hid (n2x = (X ++ [b]).length) := Lib.hid (by rw [List.length_append]; exact HNx.out.2.1)
        go_wp2
        go_roundw
        case rel => exact ⟨k + 1, n2x, X ++ [b], A6, c6, HK.out.1, congrArg (Value.int .i64) (HWk.out.trans HK.out.2), rfl, HnX2, HI6⟩
        case measure => first | exact HMs.out | (rw [hwk]; exact HMs.out)
      · rw [hA] at HAp
        have HSt : Hid (∀ w', AppP wr P bm n1 j (d', j', 0, 32) (.returned (.tuple #[.int .i64 0, .int .i64 32])) w' → ∃ n2, GoneS w B bm B0 m 0 n2 d' X X' t' (.slice A13 nX c13) w') := Lib.hid (by
          rintro w' ⟨_, ⟨n', q2, q3⟩, q4, q5⟩
          have hI := HI.out
          have h0 := HB0.out
          have hl := HLl.out
          have hfw := hI.few
          have h3 : n' ≤ n1 + 1000 := q3
          rw [hI.jb] at q2 q5
          exact ⟨n', q2, hG', hI.own.turn (fun x hx hl => q5.block x hl (by omega) (by omega) (by omega)), by omega, by (rcases hX' with h | h); (rw [h]; omega); (rw [h, List.length_append, show [b].length = 1 from rfl]; omega), by have := hI.wr; omega, by have := hI.nn; omega, hI.low.trans (q5.below hI.low.size HPl.out.2 HNb.out.2.2.1 HNb.out.2.2.2), Nat.le_trans hI.hz q5.size⟩)
        have HNx : Hid (nX = X.length) := HnX
        obtain ⟨a0, rfl⟩ : ∃ a0, Ai = some a0 := by
          cases Ai with
          | none =>
            have := HCi.out.2.2 rfl
            rw [this] at hb1
            simp at hb1
          | some a0 => exact ⟨a0, rfl⟩
        have HXx : Hid (X = X' ∨ X ++ [b] = X') := Lib.hid (by rcases hX' with h | h; exact .inl h.symm; exact .inr h.symm)
        clear hA hG' hX' hB' hw' hb1
        go_wp2_with (first
          | (go_at_call 36; refine HAp.out.mono ?_; intro e w5 ha; obtain rfl := ha.1; have HI5 := Lib.hid (HSt.out w5 ha); clear ha; refine Stop.out ?_))
        unfold Stop
        clear HAp HSt HI
        obtain ⟨n5, hI5⟩ := HI5.out
        have HI7 := Lib.hid hI5
        clear HI5 hI5
        go_wp2
        go_loopw [20, 98] (fun v20 i wr => ∃ k : Nat, k ≤ lc ∧ i = .int .i64 (k : Nat) ∧ Hid (∃ n d, GoneS w B bm B0 m k n d X X' t' (.slice A13 nX c13) wr)) (fun _ i _ => roundsLeft lc i)
        case atStart => exact ⟨0, Nat.zero_le _, rfl, Lib.hid ⟨_, _, HI7.out⟩⟩
        case round =>
          obtain ⟨q, hq, rfl, HIx⟩ := hrel
          clear HI7
          obtain ⟨n7, d7, hI⟩ := HIx.out
          have HI := Lib.hid hI
          clear hI HIx
          by_cases hqt : q < lc
          · have hqt' : (q : Int) < (lc : Int) := by omega
            have HMq : Hid (roundsLeft lc (.int .i64 ((q : Int) + 1)) < roundsLeft lc (.int .i64 (q : Int))) := Lib.hid (roundsLeft_next _ _ hqt)
            have HK : Hid (q + 1 ≤ lc ∧ (q : Int) + 1 = ((q + 1 : Nat) : Int)) := Lib.hid ⟨hqt, rfl⟩
            have HWq : Hid (wrap64 ((q : Int) + 1) = (q : Int) + 1) := Lib.hid (by have := HLc.out.2; unfold wrap64; omega)
            have hqL : q < Lc.length := by rw [← HLc.out.1]; exact hqt
            obtain ⟨bC, oC, rfl, hbl, hc0, hc1⟩ := (HC.out.on HI.out.low).at_ q hqL
            have HBx := Lib.hid (HBc.out _ (List.getElem_mem hqL))
            generalize Lc[q] = xc at hc0 hc1 HBx
            clear hqL
            have HPw : Hid (∀ V, Below wr.heap.size wr V → Calls Try.prog 28 #[.pointer (some ⟨B, 0, none⟩)] V fun e w' => e = .returned (.int .i64 0) ∧ Dsk w' B bm n7 (offD d7) ∧ ChgD V w' B bm) := Lib.hid fun V hV => code_poweroff V B bm n7 d7 (HI.out.dsk.below hV)
            go_wp2_with (first
              | (go_at_call 28; refine (HPw.out _ (below_alloc _ _)).mono ?_; rintro e w8 ⟨rfl, hd8, hc8⟩; have HX8 : Hid (w8.heap[wr.heap.size]? = some (.cells #[.int .i64 xc.1, .int .i64 xc.2] 78 (0, 0))) := Lib.hid ((hc8.block _ (by simp) (Nat.ne_of_gt (Nat.lt_of_lt_of_le HB0.out.1 HI.out.hz)) (Nat.ne_of_gt (Nat.lt_of_lt_of_le HB0.out.2.1 HI.out.hz))).trans (heap_alloc_new wr _)); have HI8 : Hid (GoneS w B bm B0 m q n7 (offD d7) X X' t' (.slice A13 nX c13) w8) := Lib.hid ((HI.out.on (below_alloc wr _)).chg hc8 HNb.out.2.2.1 HNb.out.2.2.2 HB0.out.1 HB0.out.2.1 hd8 HI.out.gone.off HI.out.wr HI.out.nn); clear hd8 hc8; refine Stop.out ?_))
            unfold Stop
            clear HPw hc0 hc1
            have HDd : Hid ((offD d7).dead = false) := Lib.hid rfl
            generalize offD d7 = d8 at HI8 HDd
            clear HI
            obtain ⟨x0, x1⟩ := cellsCutV HX8.out
            obtain ⟨Gx, hGx⟩ : ∃ Gx, Gx = wr.heap.size := ⟨_, rfl⟩
            rw [← hGx] at x0 x1 ⊢
            clear hGx HX8
            obtain ⟨d9, hd9⟩ : ∃ d9, d9 = (FX d8 xc.1 xc.2).1 := ⟨_, rfl⟩
            have HFx : Hid (Calls Try.prog 20 #[.pointer (some ⟨B, 0, none⟩), .int .i64 xc.1, .int .i64 xc.2] w8 fun e w' => ∃ f, e = .returned (.int .i64 f) ∧ GoneS w B bm B0 m q n7 d9 X X' t' (.slice A13 nX c13) w' ∧ d9.dead = false) := Lib.hid (by
              have hI := HI8.out
              obtain ⟨_, _, _, z4, z5⟩ := fx_same (t := xc.2) hI.gone.ok HBx.out.1.2
              refine (fuse_any w8 B bm n7 d8 xc.1 xc.2 hI.dsk).mono ?_
              rintro e w' ⟨rfl, hd, hc⟩
              rw [← hd9] at hd z4 z5
              exact ⟨_, rfl, hI.chg hc HNb.out.2.2.1 HNb.out.2.2.2 HB0.out.1 HB0.out.2.1 hd (by rw [hd9]; exact hI.gone.fx HBx.out.1.2) (by rw [z4]; exact hI.wr) hI.nn, z5.trans HDd.out⟩)
            clear hd9
            go_wp2_with (first
              | (go_at_call 20; refine HFx.out.mono ?_; rintro e w9 ⟨f9, rfl, hI9, hdd⟩; have HI9 := Lib.hid hI9; have HDe := Lib.hid hdd; clear hI9 hdd x0 x1; refine Stop.out ?_))
            unfold Stop
            clear HFx HI8 HDd
            have HOp : Hid (Calls Try.prog 33 #[.pointer (some ⟨B, 0, none⟩)] w9 fun e w' => ∃ v n' d', e = .returned v ∧ GoneS w B bm B0 m (q + 1) n' d' X X' t' (.slice A13 nX c13) w') := Lib.hid (by
              have hI := HI9.out
              have hm := HM.out
              have hl := HLc.out
              refine (gone_open w9 B bm n7 d9 m X' t' hI.dsk hI.gone HDe.out (by have := hI.nn; omega) (by have := hI.wr; omega) (by have := hI.few2; omega)).mono ?_
              rintro e w' ⟨v, n', d', rfl, hd, hg, hn, hw, hc⟩
              exact ⟨v, n', d', rfl, hI.chg hc HNb.out.2.2.1 HNb.out.2.2.2 HB0.out.1 HB0.out.2.1 hd hg (by have := hI.wr; omega) (by have := hI.nn; omega)⟩)
            have hwq := HWq.out
            go_wp2_with (first
              | (go_at_call 33; refine HOp.out.mono ?_; rintro e w10 ⟨v, n10, d10, rfl, hI10⟩; have HI10 := Lib.hid hI10; clear hI10; refine Stop.out ?_))
            unfold Stop
            clear HOp HI9 HDe
            go_wp2
            go_roundw
            case rel => first | exact ⟨q + 1, HK.out.1, congrArg (Value.int .i64) HK.out.2, Lib.hid ⟨_, _, HI10.out⟩⟩ | exact ⟨q + 1, HK.out.1, congrArg (Value.int .i64) (HWq.out.trans HK.out.2), Lib.hid ⟨_, _, HI10.out⟩⟩
            case measure => first | exact HMq.out | (rw [hwq]; exact HMq.out)
          · have hqe : (lc : Int) ≤ (q : Int) := by omega
            have hqe' : ¬ (q : Int) < (lc : Int) := by omega
            have hI := HI.out
            have HPw : Hid (Calls Try.prog 28 #[.pointer (some ⟨B, 0, none⟩)] wr fun e w' => e = .returned (.int .i64 0) ∧ GoneS w B bm B0 m q n7 (offD d7) X X' t' (.slice A13 nX c13) w') := Lib.hid ((code_poweroff wr B bm n7 d7 hI.dsk).mono fun e w' h => ⟨h.1, hI.chg h.2.2 HNb.out.2.2.1 HNb.out.2.2.2 HB0.out.1 HB0.out.2.1 h.2.1 hI.gone.off hI.wr hI.nn⟩)
            clear hI
            go_wp2_with (first
              | (go_at_call 28; refine HPw.out.mono ?_; rintro e w8 ⟨rfl, hI8⟩; have HI8 := Lib.hid hI8; clear hI8; refine Stop.out ?_))
            unfold Stop
            have HDd : Hid ((offD d7).dead = false ∧ (offD d7).set = false) := Lib.hid ⟨rfl, rfl⟩
            generalize offD d7 = d8 at HI8 HDd
            clear HPw HI
            obtain ⟨nY, hnY⟩ : ∃ nY, nY = (X' : List Text).length := ⟨_, rfl⟩
            have HnY := Lib.hid hnY
            clear hnY
            have HOp : Hid (Calls Try.prog 33 #[.pointer (some ⟨B, 0, none⟩)] w8 fun e w' => ∃ P9 A9 c9 n' d', e = .returned (.tuple #[.pointer (some ⟨P9, 0, none⟩), .slice A9 nY c9, .int .i64 0]) ∧ JnAt w' P9 ⟨B, t', false, nY⟩ ∧ SecsAt w' A9 c9 X' ∧ P9 ≠ B ∧ P9 ≠ bm ∧ Still d' m X' t' ∧ GoneS w B bm B0 m (q + 1) n' d' X X' t' (.slice A13 nX c13) w') := Lib.hid (by
              have hI := HI8.out
              have hm := HM.out
              have hl := HLc.out
              have h0 := HB0.out
              rw [HnY.out]
              refine (last_open w8 B bm n7 d8 m X' t' hI.dsk hI.gone HDd.out.1 HDd.out.2 (by have := hI.nn; omega) (by have := hI.wr; omega) (by have := hI.few2; omega)).mono ?_
              rintro e w' ⟨P9, A9, c9, n', d', rfl, hj, hs, hd, hst, hn, hw, hP, hc⟩
              have hz := hI.hz
              exact ⟨P9, A9, c9, n', d', rfl, hj, hs, by omega, by omega, hst, hI.chg hc HNb.out.2.2.1 HNb.out.2.2.2 h0.1 h0.2.1 hd ⟨hst.many, hst.ok, fun k hk => (hd.2.1.choose_spec.2 k (by rw [hst.many]; exact hk)).2, InvI.of_find hst.find (.inl fun k hk hm => hst.blank k (by omega) hm)⟩ (by have := hI.wr; omega) (by have := hI.nn; omega)⟩)
            go_wp2_with (first
              | (go_at_call 33; refine HOp.out.mono ?_; rintro e w9 ⟨P9, A9, c9, n9, d9, rfl, hj, hs, h1, h2, hst, hI9⟩; have HJ9 := Lib.hid hj; have HS9 := Lib.hid hs; have HP9 := Lib.hid (And.intro h1 h2); have HSt := Lib.hid hst; have HI9 := Lib.hid hI9; clear hj hs h1 h2 hst hI9; refine Stop.out ?_))
            unfold Stop
            clear HOp HI8 HDd
            have HY : Hid (nY = (X' : List Text).length ∧ nY ≤ 31) := Lib.hid ⟨HnY.out, by rw [HnY.out]; exact HI9.out.few2⟩
            clear HnY
            obtain ⟨wv, hwv⟩ : ∃ wv, wv = d9.writes := ⟨_, rfl⟩
            have HWr : Hid (∀ V n, Dsk V B bm n d9 → Calls Try.prog 25 #[.pointer (some ⟨B, 0, none⟩)] V fun e w' => e = .returned (.int .i64 wv) ∧ V = w') := Lib.hid fun V n hV => by rw [hwv]; exact code_writes V B bm n d9 hV
            clear hwv
            go_wp2_with (first
              | (go_at_call 25; refine (HWr.out _ _ HI9.out.dsk).mono ?_; rintro e w10 ⟨rfl, rfl⟩; refine Stop.out ?_))
            unfold Stop
            have HOp2 : Hid (Calls Try.prog 33 #[.pointer (some ⟨B, 0, none⟩)] w9 fun e w' => ∃ P11 A11 c11 n', e = .returned (.tuple #[.pointer (some ⟨P11, 0, none⟩), .slice A11 nY c11, .int .i64 0]) ∧ JnAt w' P11 ⟨B, t', false, nY⟩ ∧ SecsAt w' A11 c11 X' ∧ JnAt w' P9 ⟨B, t', false, nY⟩ ∧ SecsAt w' A9 c9 X' ∧ Dsk w' B bm n' d9 ∧ OwnB w B0 (.slice A13 nX c13) X w' ∧ Below w.heap.size w w') := Lib.hid (by
              have hI := HI9.out
              have hl := HLc.out
              have h0 := HB0.out
              have hY := HY.out.1
              have hj9' := HJ9.out
              rw [hY] at hj9' ⊢
              refine (still_open w9 B bm n9 d9 m X' t' hI.dsk HSt.out (by have := hI.nn; omega) (by have := hI.wr; omega) (by have := hI.few2; omega)).mono ?_
              rintro e w' ⟨P11, A11, c11, n', rfl, hj, hs, hd, hP, hc⟩
              exact ⟨P11, A11, c11, n', rfl, hj, hs, hj9'.chg hc HP9.out.1 HP9.out.2, HS9.out.chg hI.dsk hc, hd, hI.own.turn (fun x hx hl => hc.block x hl (by omega) (by omega)), hI.low.trans (hc.below hI.low.size HNb.out.2.2.1 HNb.out.2.2.2)⟩)
            go_wp2_with (first
              | (go_at_call 33; refine HOp2.out.mono ?_; rintro e w11 ⟨P11, A11, c11, n11, rfl, hj, hs, hj9, hs9, hd, ho, hb⟩; have HJ11 := Lib.hid (And.intro hj hj9); have HS11 := Lib.hid (And.intro hs hs9); have HD11 := Lib.hid hd; have HO11 := Lib.hid ho; have HB11 := Lib.hid hb; clear hj hs hj9 hs9 hd ho hb; refine Stop.out ?_))
            unfold Stop
            clear HOp2 HI9 HJ9 HS9 HP9 HSt
            go_wp2_with (first
              | (go_at_call 25; refine (HWr.out _ _ HD11.out).mono ?_; rintro e w12 ⟨rfl, rfl⟩; refine Stop.out ?_))
            unfold Stop
            have HSm : Hid (Calls Try.prog 35 #[.slice A9 nY c9, .slice A11 nY c11] w11 fun e w' => e = .returned (.bool true) ∧ Below w11.heap.size w11 w') := Lib.hid (by
              rw [HY.out.1]
              exact code_jsame X' A9 A11 c9 c11 w11 (by have := HY.out; omega) HS11.out.2 HS11.out.1)
            go_wp2_with (first
              | (go_at_call 35; refine HSm.out.mono ?_; rintro e w12 ⟨rfl, hb12⟩; have HJ12 := Lib.hid (And.intro (HJ11.out.1.below hb12) (HJ11.out.2.below hb12)); have HS12 := Lib.hid (HS11.out.2.on hb12); have HO12 := Lib.hid (HO11.out.on hb12); have HB12 := Lib.hid (below_then HB11.out hb12); clear hb12; refine Stop.out ?_))
            unfold Stop
            clear HSm HJ11 HS11 HO11 HB11 HD11
            go_wp2_with (first
              | (go_at_call 39; refine (code_jtail _ P11 _ HJ12.out.1).mono ?_; rintro e w13 ⟨rfl, rfl⟩; refine Stop.out ?_))
            unfold Stop
            go_wp2_with (first
              | (go_at_call 39; refine (code_jtail _ P9 _ HJ12.out.2).mono ?_; rintro e w13 ⟨rfl, rfl⟩; refine Stop.out ?_))
            unfold Stop
            have HBa : Hid (BatsAt w12 A13 X) := Lib.hid (HO12.out.bats HB12.out)
            clear HJ12 HO12
            rcases HXx.out with hXX | hXX
            · subst hXX
              have HYX : Hid (nY = nX) := Lib.hid (by rw [HY.out.1, HNx.out])
              obtain rfl : nY = nX := HYX.out
              have hws : wrap64 ((nY : Int) + 1) = (nY : Int) + 1 := by have := HY.out.2; unfold wrap64; omega
              have hns : ((nY : Int) == (nY : Int) + 1) = false := beq_false_of_ne (by omega)
              have hns2 : ¬ (nY : Int) = (nY : Int) + 1 := by omega
              have HSm : Hid (Calls Try.prog 35 #[.slice A9 nY c9, .slice A13 nY c13] w12 fun e w' => e = .returned (.bool true) ∧ Below w12.heap.size w12 w') := Lib.hid (by
                have h1 := HY.out
                have h2 := HS12.out.bats
                have h := code_jsameB X A9 A13 c9 c13 w12 (by rw [← HNx.out]; omega) h2 HBa.out
                rwa [← HNx.out] at h)
              go_wp2_with (first
                | (go_at_call 35; refine HSm.out.mono ?_; rintro e w14 ⟨rfl, hb14⟩; have HB14 := Lib.hid (below_then HB12.out hb14); clear hb14; refine Stop.out ?_))
              unfold Stop
              go_wp2_with (first
                | (go_at_call 32; refine (HLv.out _).mono ?_; rintro e w15 ⟨rfl, hb15⟩; have HB15 := Lib.hid (below_then HB14.out hb15); clear hb15))
              go_ret
              exact ⟨rfl, HB15.out⟩
            · subst hXX
              have hly : nY = nX + 1 := by rw [HY.out.1, HNx.out, List.length_append]; rfl
              have HWs : Hid (wrap64 ((nX : Int) + 1) = (nY : Int)) := Lib.hid (by have := HY.out.2; unfold wrap64; omega)
              rcases HS12.out with ⟨_, h0, _⟩ | ⟨G6, rfl, hT6, hc6⟩
              · simp at h0
              have hxl : nX < (X ++ [b]).length := by rw [List.length_append, ← HNx.out]; simp
              obtain ⟨b9, cb9, q1, -, -, q4, -, -⟩ := hT6 nX hxl
              have hxb : (X ++ [b])[nX] = b := by
                have e : nX = X.length := HNx.out
                subst e
                simp
              rw [hxb] at q1 q4
              rw [← Hnl.out] at q1
              have HXl : Hid (X.length ≤ 100000) := Lib.hid (by have h1 := HY.out.2; have h2 := HNx.out; clear q1 q4 hT6 hc6 hxl hxb; omega)
              have hx : BatsAt w12 (some ⟨G6, 0, none⟩) X := HS12.out.bats.take
              have HSx : Hid (∀ V, Below w12.heap.size w12 V → Calls Try.prog 35 #[.slice (some ⟨G6, 0, none⟩) nX c9, .slice A13 nX c13] V fun e w' => e = .returned (.bool true) ∧ Below V.heap.size V w') := Lib.hid (same_pre HNx.out HXl.out hx HBa.out)
              clear hx
              have HFx : Hid ((nX : Int) ≤ (c9 : Int) ∧ nX ≤ c9 ∧ (nX : Int) < (nY : Int) ∧ nX < nY ∧ ¬ nY ≤ nX) := Lib.hid (by have := hc6; rw [List.length_append, ← HNx.out] at this; omega)
              have ht9 : Txt w12 (some ⟨b9, 0, none⟩) b := mid_txt q4
              have HS0 : Hid ((fun V : World => V.cell? ⟨G6, nX, none⟩ = some (.slice (some ⟨b9, 0, none⟩) nl cb9) ∧ Txt V (some ⟨b9, 0, none⟩) b ∧ Txt V (some a0) b) w12.drew) := Lib.hid ⟨cell_on (Below.refl _ _).drew q1, ht9.below (Below.refl _ _).drew, (HTw.out.below HB12.out).below (Below.refl _ _).drew⟩
              have HBd : Hid (Below w12.heap.size w12 w12.drew) := Lib.hid (Below.refl _ _).drew
              clear q1 q4 hT6 hc6 hxl hxb ht9 hly
              have hws := HWs.out
              go_wp2
              clear hws
              obtain ⟨hlc, hlc2, hxy, hxy2, hxy3⟩ := HFx.out
              have hnl : b.length = nl := Hnl.out.symm
              have hbs : (b.toArray.toList == b.toArray.toList) = true := beq_self_eq_true _
              refine wp_region_held_drew (S := fun V => V.cell? ⟨G6, nX, none⟩ = some (.slice (some ⟨b9, 0, none⟩) nl cb9) ∧ Txt V (some ⟨b9, 0, none⟩) b ∧ Txt V (some a0) b) (by kernel_rfl) HS0.out ?_
              intro hHeld
              clear HS0
              generalize w12.drew = wd at HBd hHeld ⊢
              (refine takeH (i := 0) (v := ?_) rfl (by kernel_rfl) (by kernel_rfl) (by kernel_rfl) (fun _ _ _ h => h) (Or.inl ⟨by rfl, ?_⟩) (by assumption) ?_; rotate_left; (focus ((intro wS hSw); (try dsimp only at hSw); obtain ⟨s0, t0, t1⟩ := hSw; (have e1 := text_run_n wS (some ⟨b9, 0, none⟩) cb9 nl b hnl t0 (fun e => by cases e)); (have e2 := text_run_n wS (some a0) ci nl b hnl t1 (fun e => by cases e)); (have e3 := neq_nilslice a0 nl ci wS); clear t0 t1; go_simp; (try with_reducible rfl); done)); (try simp only [Act.put, List.setIfInBounds_toArray, List.set_cons_zero, List.set_cons_succ]))
              (refine takeH (i := 1) (v := ?_) rfl (by kernel_rfl) (by kernel_rfl) (by kernel_rfl) (fun _ _ _ h => h) (Or.inl ⟨by rfl, ?_⟩) (by assumption) ?_; rotate_left; (focus ((intro wS hSw); (try dsimp only at hSw); obtain ⟨s0, t0, t1⟩ := hSw; (have e1 := text_run_n wS (some ⟨b9, 0, none⟩) cb9 nl b hnl t0 (fun e => by cases e)); (have e2 := text_run_n wS (some a0) ci nl b hnl t1 (fun e => by cases e)); (have e3 := neq_nilslice a0 nl ci wS); clear t0 t1; go_simp; (try with_reducible rfl); done)); (try simp only [Act.put, List.setIfInBounds_toArray, List.set_cons_zero, List.set_cons_succ]))
              (refine takeH (i := 2) (v := ?_) rfl (by kernel_rfl) (by kernel_rfl) (by kernel_rfl) (fun _ _ _ h => h) (Or.inl ⟨by rfl, ?_⟩) (by assumption) ?_; rotate_left; (focus ((intro wS hSw); (try dsimp only at hSw); obtain ⟨s0, t0, t1⟩ := hSw; (have e1 := text_run_n wS (some ⟨b9, 0, none⟩) cb9 nl b hnl t0 (fun e => by cases e)); (have e2 := text_run_n wS (some a0) ci nl b hnl t1 (fun e => by cases e)); (have e3 := neq_nilslice a0 nl ci wS); clear t0 t1; go_simp; (try with_reducible rfl); done)); (try simp only [Act.put, List.setIfInBounds_toArray, List.set_cons_zero, List.set_cons_succ]))
              (refine takeH (i := 3) (v := ?_) rfl (by kernel_rfl) (by kernel_rfl) (by kernel_rfl) (fun _ _ _ h => h) (Or.inl ⟨by rfl, ?_⟩) (by assumption) ?_; rotate_left; (focus ((intro wS hSw); (try dsimp only at hSw); obtain ⟨s0, t0, t1⟩ := hSw; (have e1 := text_run_n wS (some ⟨b9, 0, none⟩) cb9 nl b hnl t0 (fun e => by cases e)); (have e2 := text_run_n wS (some a0) ci nl b hnl t1 (fun e => by cases e)); (have e3 := neq_nilslice a0 nl ci wS); clear t0 t1; go_simp; (try with_reducible rfl); done)); (try simp only [Act.put, List.setIfInBounds_toArray, List.set_cons_zero, List.set_cons_succ]))
              (refine takeH (i := 4) (v := ?_) rfl (by kernel_rfl) (by kernel_rfl) (by kernel_rfl) (fun _ _ _ h => h) (Or.inl ⟨by rfl, ?_⟩) (by assumption) ?_; rotate_left; (focus ((intro wS hSw); (try dsimp only at hSw); obtain ⟨s0, t0, t1⟩ := hSw; (have e1 := text_run_n wS (some ⟨b9, 0, none⟩) cb9 nl b hnl t0 (fun e => by cases e)); (have e2 := text_run_n wS (some a0) ci nl b hnl t1 (fun e => by cases e)); (have e3 := neq_nilslice a0 nl ci wS); clear t0 t1; go_simp; (try with_reducible rfl); done)); (try simp only [Act.put, List.setIfInBounds_toArray, List.set_cons_zero, List.set_cons_succ]))
              (refine takeH (i := 5) (v := ?_) rfl (by kernel_rfl) (by kernel_rfl) (by kernel_rfl) (fun _ _ _ h => h) (Or.inl ⟨by rfl, ?_⟩) (by assumption) ?_; rotate_left; (focus ((intro wS hSw); (try dsimp only at hSw); obtain ⟨s0, t0, t1⟩ := hSw; (have e1 := text_run_n wS (some ⟨b9, 0, none⟩) cb9 nl b hnl t0 (fun e => by cases e)); (have e2 := text_run_n wS (some a0) ci nl b hnl t1 (fun e => by cases e)); (have e3 := neq_nilslice a0 nl ci wS); clear t0 t1; go_simp; (try with_reducible rfl); done)); (try simp only [Act.put, List.setIfInBounds_toArray, List.set_cons_zero, List.set_cons_succ]))
              (refine takeH (i := 6) (v := ?_) rfl (by kernel_rfl) (by kernel_rfl) (by kernel_rfl) (fun _ _ _ h => h) (Or.inl ⟨by rfl, ?_⟩) (by assumption) ?_; rotate_left; (focus ((intro wS hSw); (try dsimp only at hSw); obtain ⟨s0, t0, t1⟩ := hSw; (have e1 := text_run_n wS (some ⟨b9, 0, none⟩) cb9 nl b hnl t0 (fun e => by cases e)); (have e2 := text_run_n wS (some a0) ci nl b hnl t1 (fun e => by cases e)); (have e3 := neq_nilslice a0 nl ci wS); clear t0 t1; go_simp; (try with_reducible rfl); done)); (try simp only [Act.put, List.setIfInBounds_toArray, List.set_cons_zero, List.set_cons_succ]))
              (refine takeH (i := 7) (v := ?_) rfl (by kernel_rfl) (by kernel_rfl) (by kernel_rfl) (fun _ _ _ h => h) (Or.inl ⟨by rfl, ?_⟩) (by assumption) ?_; rotate_left; (focus ((intro wS hSw); (try dsimp only at hSw); obtain ⟨s0, t0, t1⟩ := hSw; (have e1 := text_run_n wS (some ⟨b9, 0, none⟩) cb9 nl b hnl t0 (fun e => by cases e)); (have e2 := text_run_n wS (some a0) ci nl b hnl t1 (fun e => by cases e)); (have e3 := neq_nilslice a0 nl ci wS); clear t0 t1; go_simp; (try with_reducible rfl); done)); (try simp only [Act.put, List.setIfInBounds_toArray, List.set_cons_zero, List.set_cons_succ]))
              (refine takeH (i := 8) (v := ?_) rfl (by kernel_rfl) (by kernel_rfl) (by kernel_rfl) (fun _ _ _ h => h) (Or.inl ⟨by rfl, ?_⟩) (by assumption) ?_; rotate_left; (focus ((intro wS hSw); (try dsimp only at hSw); obtain ⟨s0, t0, t1⟩ := hSw; (have e1 := text_run_n wS (some ⟨b9, 0, none⟩) cb9 nl b hnl t0 (fun e => by cases e)); (have e2 := text_run_n wS (some a0) ci nl b hnl t1 (fun e => by cases e)); (have e3 := neq_nilslice a0 nl ci wS); clear t0 t1; go_simp; (try with_reducible rfl); done)); (try simp only [Act.put, List.setIfInBounds_toArray, List.set_cons_zero, List.set_cons_succ]))
              (refine takeH (i := 9) (v := ?_) rfl (by kernel_rfl) (by kernel_rfl) (by kernel_rfl) (fun _ _ _ h => h) (Or.inl ⟨by rfl, ?_⟩) (by assumption) ?_; rotate_left; (focus ((intro wS hSw); (try dsimp only at hSw); obtain ⟨s0, t0, t1⟩ := hSw; (have e1 := text_run_n wS (some ⟨b9, 0, none⟩) cb9 nl b hnl t0 (fun e => by cases e)); (have e2 := text_run_n wS (some a0) ci nl b hnl t1 (fun e => by cases e)); (have e3 := neq_nilslice a0 nl ci wS); clear t0 t1; go_simp; (try with_reducible rfl); done)); (try simp only [Act.put, List.setIfInBounds_toArray, List.set_cons_zero, List.set_cons_succ]))
              (refine takeH (i := 10) (v := ?_) rfl (by kernel_rfl) (by kernel_rfl) (by kernel_rfl) (fun _ _ _ h => h) (Or.inl ⟨by rfl, ?_⟩) (by assumption) ?_; rotate_left; (focus ((intro wS hSw); (try dsimp only at hSw); obtain ⟨s0, t0, t1⟩ := hSw; (have e1 := text_run_n wS (some ⟨b9, 0, none⟩) cb9 nl b hnl t0 (fun e => by cases e)); (have e2 := text_run_n wS (some a0) ci nl b hnl t1 (fun e => by cases e)); (have e3 := neq_nilslice a0 nl ci wS); clear t0 t1; go_simp; (try with_reducible rfl); done)); (try simp only [Act.put, List.setIfInBounds_toArray, List.set_cons_zero, List.set_cons_succ]))
              (refine takeH (i := 11) (v := ?_) rfl (by kernel_rfl) (by kernel_rfl) (by kernel_rfl) (fun _ _ _ h => h) (Or.inl ⟨by rfl, ?_⟩) (by assumption) ?_; rotate_left; (focus ((intro wS hSw); (try dsimp only at hSw); obtain ⟨s0, t0, t1⟩ := hSw; (have e1 := text_run_n wS (some ⟨b9, 0, none⟩) cb9 nl b hnl t0 (fun e => by cases e)); (have e2 := text_run_n wS (some a0) ci nl b hnl t1 (fun e => by cases e)); (have e3 := neq_nilslice a0 nl ci wS); clear t0 t1; go_simp; (try with_reducible rfl); done)); (try simp only [Act.put, List.setIfInBounds_toArray, List.set_cons_zero, List.set_cons_succ]))
              (refine takeH (i := 12) (v := ?_) rfl (by kernel_rfl) (by kernel_rfl) (by kernel_rfl) (fun _ _ _ h => h) (Or.inl ⟨by rfl, ?_⟩) (by assumption) ?_; rotate_left; (focus ((intro wS hSw); (try dsimp only at hSw); obtain ⟨s0, t0, t1⟩ := hSw; (have e1 := text_run_n wS (some ⟨b9, 0, none⟩) cb9 nl b hnl t0 (fun e => by cases e)); (have e2 := text_run_n wS (some a0) ci nl b hnl t1 (fun e => by cases e)); (have e3 := neq_nilslice a0 nl ci wS); clear t0 t1; go_simp; (try with_reducible rfl); done)); (try simp only [Act.put, List.setIfInBounds_toArray, List.set_cons_zero, List.set_cons_succ]))
              (refine takeH (i := 13) (v := ?_) rfl (by kernel_rfl) (by kernel_rfl) (by kernel_rfl) (fun _ _ _ h => h) (Or.inl ⟨by rfl, ?_⟩) (by assumption) ?_; rotate_left; (focus ((intro wS hSw); (try dsimp only at hSw); obtain ⟨s0, t0, t1⟩ := hSw; (have e1 := text_run_n wS (some ⟨b9, 0, none⟩) cb9 nl b hnl t0 (fun e => by cases e)); (have e2 := text_run_n wS (some a0) ci nl b hnl t1 (fun e => by cases e)); (have e3 := neq_nilslice a0 nl ci wS); clear t0 t1; go_simp; (try with_reducible rfl); done)); (try simp only [Act.put, List.setIfInBounds_toArray, List.set_cons_zero, List.set_cons_succ]))
              (refine takeH (i := 14) (v := ?_) rfl (by kernel_rfl) (by kernel_rfl) (by kernel_rfl) (fun _ _ _ h => h) (Or.inl ⟨by rfl, ?_⟩) (by assumption) ?_; rotate_left; (focus ((intro wS hSw); (try dsimp only at hSw); obtain ⟨s0, t0, t1⟩ := hSw; (have e1 := text_run_n wS (some ⟨b9, 0, none⟩) cb9 nl b hnl t0 (fun e => by cases e)); (have e2 := text_run_n wS (some a0) ci nl b hnl t1 (fun e => by cases e)); (have e3 := neq_nilslice a0 nl ci wS); clear t0 t1; go_simp; (try with_reducible rfl); done)); (try simp only [Act.put, List.setIfInBounds_toArray, List.set_cons_zero, List.set_cons_succ]))
              (refine takeH (i := 15) (v := ?_) rfl (by kernel_rfl) (by kernel_rfl) (by kernel_rfl) (fun _ _ _ h => h) (Or.inl ⟨by rfl, ?_⟩) (by assumption) ?_; rotate_left; (focus ((intro wS hSw); (try dsimp only at hSw); obtain ⟨s0, t0, t1⟩ := hSw; (have e1 := text_run_n wS (some ⟨b9, 0, none⟩) cb9 nl b hnl t0 (fun e => by cases e)); (have e2 := text_run_n wS (some a0) ci nl b hnl t1 (fun e => by cases e)); (have e3 := neq_nilslice a0 nl ci wS); clear t0 t1; go_simp; (try with_reducible rfl); done)); (try simp only [Act.put, List.setIfInBounds_toArray, List.set_cons_zero, List.set_cons_succ]))
              (refine takeH (i := 16) (v := ?_) rfl (by kernel_rfl) (by kernel_rfl) (by kernel_rfl) (fun _ _ _ h => h) (Or.inl ⟨by rfl, ?_⟩) (by assumption) ?_; rotate_left; (focus ((intro wS hSw); (try dsimp only at hSw); obtain ⟨s0, t0, t1⟩ := hSw; (have e1 := text_run_n wS (some ⟨b9, 0, none⟩) cb9 nl b hnl t0 (fun e => by cases e)); (have e2 := text_run_n wS (some a0) ci nl b hnl t1 (fun e => by cases e)); (have e3 := neq_nilslice a0 nl ci wS); clear t0 t1; go_simp; (try with_reducible rfl); done)); (try simp only [Act.put, List.setIfInBounds_toArray, List.set_cons_zero, List.set_cons_succ]))
              (refine takeH (i := 17) (v := ?_) rfl (by kernel_rfl) (by kernel_rfl) (by kernel_rfl) (fun _ _ _ h => h) (Or.inl ⟨by rfl, ?_⟩) (by assumption) ?_; rotate_left; (focus ((intro wS hSw); (try dsimp only at hSw); obtain ⟨s0, t0, t1⟩ := hSw; (have e1 := text_run_n wS (some ⟨b9, 0, none⟩) cb9 nl b hnl t0 (fun e => by cases e)); (have e2 := text_run_n wS (some a0) ci nl b hnl t1 (fun e => by cases e)); (have e3 := neq_nilslice a0 nl ci wS); clear t0 t1; go_simp; (try with_reducible rfl); done)); (try simp only [Act.put, List.setIfInBounds_toArray, List.set_cons_zero, List.set_cons_succ]))
              (refine takeH (i := 18) (v := ?_) rfl (by kernel_rfl) (by kernel_rfl) (by kernel_rfl) (fun _ _ _ h => h) (Or.inl ⟨by rfl, ?_⟩) (by assumption) ?_; rotate_left; (focus ((intro wS hSw); (try dsimp only at hSw); obtain ⟨s0, t0, t1⟩ := hSw; (have e1 := text_run_n wS (some ⟨b9, 0, none⟩) cb9 nl b hnl t0 (fun e => by cases e)); (have e2 := text_run_n wS (some a0) ci nl b hnl t1 (fun e => by cases e)); (have e3 := neq_nilslice a0 nl ci wS); clear t0 t1; go_simp; (try with_reducible rfl); done)); (try simp only [Act.put, List.setIfInBounds_toArray, List.set_cons_zero, List.set_cons_succ]))
              refine aloneH (i := 19) rfl (by kernel_rfl) (fun K hK => ?_)
              rw [if_pos (by rfl)]
              go_simp; ((refine (HSx.out wd (HBd.out)).mono ?_); (rintro e w1 ⟨rfl, hb⟩); have HB1 := Lib.hid hb; clear hb; (try go_simp))
              refine hK.out _ _ (⟨cell_on HB1.out hHeld.1, (hHeld.2.1).below HB1.out, (hHeld.2.2).below HB1.out⟩) (fun hNew => ?_)
              clear hK K hHeld; (have hHeld := hNew); clear hNew; (try simp only [Act.put, List.setIfInBounds_toArray, List.set_cons_zero, List.set_cons_succ])
              (refine takeH (i := 20) (v := ?_) rfl (by kernel_rfl) (by kernel_rfl) (by kernel_rfl) (fun _ _ _ h => h) (Or.inl ⟨by rfl, ?_⟩) (by assumption) ?_; rotate_left; (focus ((intro wS hSw); (try dsimp only at hSw); obtain ⟨s0, t0, t1⟩ := hSw; (have e1 := text_run_n wS (some ⟨b9, 0, none⟩) cb9 nl b hnl t0 (fun e => by cases e)); (have e2 := text_run_n wS (some a0) ci nl b hnl t1 (fun e => by cases e)); (have e3 := neq_nilslice a0 nl ci wS); clear t0 t1; go_simp; (try with_reducible rfl); done)); (try simp only [Act.put, List.setIfInBounds_toArray, List.set_cons_zero, List.set_cons_succ]))
              (refine takeH (i := 21) (v := ?_) rfl (by kernel_rfl) (by kernel_rfl) (by kernel_rfl) (fun _ _ _ h => h) (Or.inl ⟨by rfl, ?_⟩) (by assumption) ?_; rotate_left; (focus ((intro wS hSw); (try dsimp only at hSw); obtain ⟨s0, t0, t1⟩ := hSw; (have e1 := text_run_n wS (some ⟨b9, 0, none⟩) cb9 nl b hnl t0 (fun e => by cases e)); (have e2 := text_run_n wS (some a0) ci nl b hnl t1 (fun e => by cases e)); (have e3 := neq_nilslice a0 nl ci wS); clear t0 t1; go_simp; (try with_reducible rfl); done)); (try simp only [Act.put, List.setIfInBounds_toArray, List.set_cons_zero, List.set_cons_succ]))
              refine aloneH (i := 22) rfl (by kernel_rfl) (fun K hK => ?_)
              rw [if_pos (by rfl)]
              go_simp; ((refine (HLv.out w1).mono ?_); (rintro e w2 ⟨rfl, hb⟩); have HB2 := Lib.hid hb; clear hb; (try go_simp))
              refine hK.out _ _ (⟨cell_on HB2.out hHeld.1, (hHeld.2.1).below HB2.out, (hHeld.2.2).below HB2.out⟩) (fun hNew => ?_)
              clear hK K hHeld; (have hHeld := hNew); clear hNew; (try simp only [Act.put, List.setIfInBounds_toArray, List.set_cons_zero, List.set_cons_succ])
              (refine takeH (i := 23) (v := ?_) rfl (by kernel_rfl) (by kernel_rfl) (by kernel_rfl) (fun _ _ _ h => h) (Or.inl ⟨by rfl, ?_⟩) (by assumption) ?_; rotate_left; (focus ((intro wS hSw); (try dsimp only at hSw); obtain ⟨s0, t0, t1⟩ := hSw; (have e1 := text_run_n wS (some ⟨b9, 0, none⟩) cb9 nl b hnl t0 (fun e => by cases e)); (have e2 := text_run_n wS (some a0) ci nl b hnl t1 (fun e => by cases e)); (have e3 := neq_nilslice a0 nl ci wS); clear t0 t1; go_simp; (try with_reducible rfl); done)); (try simp only [Act.put, List.setIfInBounds_toArray, List.set_cons_zero, List.set_cons_succ]))
              (refine takeH (i := 24) (v := ?_) rfl (by kernel_rfl) (by kernel_rfl) (by kernel_rfl) (fun _ _ _ h => h) (Or.inl ⟨by rfl, ?_⟩) (by assumption) ?_; rotate_left; (focus ((intro wS hSw); (try dsimp only at hSw); obtain ⟨s0, t0, t1⟩ := hSw; (have e1 := text_run_n wS (some ⟨b9, 0, none⟩) cb9 nl b hnl t0 (fun e => by cases e)); (have e2 := text_run_n wS (some a0) ci nl b hnl t1 (fun e => by cases e)); (have e3 := neq_nilslice a0 nl ci wS); clear t0 t1; go_simp; (try with_reducible rfl); done)); (try simp only [Act.put, List.setIfInBounds_toArray, List.set_cons_zero, List.set_cons_succ]))
              refine wpAnyH_done (by kernel_rfl) ?_ _
              clear hHeld
              go_wp2
              go_ret
              exact ⟨rfl, (HB12.out.trans (HBd.out.mono HB12.out.size)).trans ((below_then HB1.out HB2.out).mono (by have h1 := HB12.out.size; have h2 := HBd.out.size; omega))⟩
    · have hge : (ll : Int) ≤ (k : Int) := by omega
      have hge' : ¬ (k : Int) < (ll : Int) := by omega
      obtain ⟨t', ht'⟩ : ∃ t', t' = j.tail := ⟨_, rfl⟩
      have HI5 : Hid (∃ n2, GoneS w B bm B0 m 0 n2 d X X t' (.slice A13 nX c13) wr) := Lib.hid ⟨n1, by rw [ht']; exact HI.out.gone (by have := HLl.out.2; omega)⟩
      have HNx : Hid (nX = X.length) := HnX
      clear HI ht'
      obtain ⟨n5, hI5⟩ := HI5.out
      have HI7 := Lib.hid hI5
      clear HI5 hI5
      go_wp2
      go_loopw [20, 98] (fun v20 i wr => ∃ k : Nat, k ≤ lc ∧ i = .int .i64 (k : Nat) ∧ Hid (∃ n d, GoneS w B bm B0 m k n d X X t' (.slice A13 nX c13) wr)) (fun _ i _ => roundsLeft lc i)
      case atStart => exact ⟨0, Nat.zero_le _, rfl, Lib.hid ⟨_, _, HI7.out⟩⟩
      case round =>
        obtain ⟨q, hq, rfl, HIx⟩ := hrel
        clear HI7
        obtain ⟨n7, d7, hI⟩ := HIx.out
        have HI := Lib.hid hI
        clear hI HIx
        by_cases hqt : q < lc
        · have hqt' : (q : Int) < (lc : Int) := by omega
          have HMq : Hid (roundsLeft lc (.int .i64 ((q : Int) + 1)) < roundsLeft lc (.int .i64 (q : Int))) := Lib.hid (roundsLeft_next _ _ hqt)
          have HK : Hid (q + 1 ≤ lc ∧ (q : Int) + 1 = ((q + 1 : Nat) : Int)) := Lib.hid ⟨hqt, rfl⟩
          have HWq : Hid (wrap64 ((q : Int) + 1) = (q : Int) + 1) := Lib.hid (by have := HLc.out.2; unfold wrap64; omega)
          have hqL : q < Lc.length := by rw [← HLc.out.1]; exact hqt
          obtain ⟨bC, oC, rfl, hbl, hc0, hc1⟩ := (HC.out.on HI.out.low).at_ q hqL
          have HBx := Lib.hid (HBc.out _ (List.getElem_mem hqL))
          generalize Lc[q] = xc at hc0 hc1 HBx
          clear hqL
          have HPw : Hid (∀ V, Below wr.heap.size wr V → Calls Try.prog 28 #[.pointer (some ⟨B, 0, none⟩)] V fun e w' => e = .returned (.int .i64 0) ∧ Dsk w' B bm n7 (offD d7) ∧ ChgD V w' B bm) := Lib.hid fun V hV => code_poweroff V B bm n7 d7 (HI.out.dsk.below hV)
          go_wp2_with (first
            | (go_at_call 28; refine (HPw.out _ (below_alloc _ _)).mono ?_; rintro e w8 ⟨rfl, hd8, hc8⟩; have HX8 : Hid (w8.heap[wr.heap.size]? = some (.cells #[.int .i64 xc.1, .int .i64 xc.2] 78 (0, 0))) := Lib.hid ((hc8.block _ (by simp) (Nat.ne_of_gt (Nat.lt_of_lt_of_le HB0.out.1 HI.out.hz)) (Nat.ne_of_gt (Nat.lt_of_lt_of_le HB0.out.2.1 HI.out.hz))).trans (heap_alloc_new wr _)); have HI8 : Hid (GoneS w B bm B0 m q n7 (offD d7) X X t' (.slice A13 nX c13) w8) := Lib.hid ((HI.out.on (below_alloc wr _)).chg hc8 HNb.out.2.2.1 HNb.out.2.2.2 HB0.out.1 HB0.out.2.1 hd8 HI.out.gone.off HI.out.wr HI.out.nn); clear hd8 hc8; refine Stop.out ?_))
          unfold Stop
          clear HPw hc0 hc1
          have HDd : Hid ((offD d7).dead = false) := Lib.hid rfl
          generalize offD d7 = d8 at HI8 HDd
          clear HI
          obtain ⟨x0, x1⟩ := cellsCutV HX8.out
          obtain ⟨Gx, hGx⟩ : ∃ Gx, Gx = wr.heap.size := ⟨_, rfl⟩
          rw [← hGx] at x0 x1 ⊢
          clear hGx HX8
          obtain ⟨d9, hd9⟩ : ∃ d9, d9 = (FX d8 xc.1 xc.2).1 := ⟨_, rfl⟩
          have HFx : Hid (Calls Try.prog 20 #[.pointer (some ⟨B, 0, none⟩), .int .i64 xc.1, .int .i64 xc.2] w8 fun e w' => ∃ f, e = .returned (.int .i64 f) ∧ GoneS w B bm B0 m q n7 d9 X X t' (.slice A13 nX c13) w' ∧ d9.dead = false) := Lib.hid (by
            have hI := HI8.out
            obtain ⟨_, _, _, z4, z5⟩ := fx_same (t := xc.2) hI.gone.ok HBx.out.1.2
            refine (fuse_any w8 B bm n7 d8 xc.1 xc.2 hI.dsk).mono ?_
            rintro e w' ⟨rfl, hd, hc⟩
            rw [← hd9] at hd z4 z5
            exact ⟨_, rfl, hI.chg hc HNb.out.2.2.1 HNb.out.2.2.2 HB0.out.1 HB0.out.2.1 hd (by rw [hd9]; exact hI.gone.fx HBx.out.1.2) (by rw [z4]; exact hI.wr) hI.nn, z5.trans HDd.out⟩)
          clear hd9
          go_wp2_with (first
            | (go_at_call 20; refine HFx.out.mono ?_; rintro e w9 ⟨f9, rfl, hI9, hdd⟩; have HI9 := Lib.hid hI9; have HDe := Lib.hid hdd; clear hI9 hdd x0 x1; refine Stop.out ?_))
          unfold Stop
          clear HFx HI8 HDd
          have HOp : Hid (Calls Try.prog 33 #[.pointer (some ⟨B, 0, none⟩)] w9 fun e w' => ∃ v n' d', e = .returned v ∧ GoneS w B bm B0 m (q + 1) n' d' X X t' (.slice A13 nX c13) w') := Lib.hid (by
            have hI := HI9.out
            have hm := HM.out
            have hl := HLc.out
            refine (gone_open w9 B bm n7 d9 m X t' hI.dsk hI.gone HDe.out (by have := hI.nn; omega) (by have := hI.wr; omega) (by have := hI.few2; omega)).mono ?_
            rintro e w' ⟨v, n', d', rfl, hd, hg, hn, hw, hc⟩
            exact ⟨v, n', d', rfl, hI.chg hc HNb.out.2.2.1 HNb.out.2.2.2 HB0.out.1 HB0.out.2.1 hd hg (by have := hI.wr; omega) (by have := hI.nn; omega)⟩)
          have hwq := HWq.out
          go_wp2_with (first
            | (go_at_call 33; refine HOp.out.mono ?_; rintro e w10 ⟨v, n10, d10, rfl, hI10⟩; have HI10 := Lib.hid hI10; clear hI10; refine Stop.out ?_))
          unfold Stop
          clear HOp HI9 HDe
          go_wp2
          go_roundw
          case rel => first | exact ⟨q + 1, HK.out.1, congrArg (Value.int .i64) HK.out.2, Lib.hid ⟨_, _, HI10.out⟩⟩ | exact ⟨q + 1, HK.out.1, congrArg (Value.int .i64) (HWq.out.trans HK.out.2), Lib.hid ⟨_, _, HI10.out⟩⟩
          case measure => first | exact HMq.out | (rw [hwq]; exact HMq.out)
        · have hqe : (lc : Int) ≤ (q : Int) := by omega
          have hqe' : ¬ (q : Int) < (lc : Int) := by omega
          have hI := HI.out
          have HPw : Hid (Calls Try.prog 28 #[.pointer (some ⟨B, 0, none⟩)] wr fun e w' => e = .returned (.int .i64 0) ∧ GoneS w B bm B0 m q n7 (offD d7) X X t' (.slice A13 nX c13) w') := Lib.hid ((code_poweroff wr B bm n7 d7 hI.dsk).mono fun e w' h => ⟨h.1, hI.chg h.2.2 HNb.out.2.2.1 HNb.out.2.2.2 HB0.out.1 HB0.out.2.1 h.2.1 hI.gone.off hI.wr hI.nn⟩)
          clear hI
          go_wp2_with (first
            | (go_at_call 28; refine HPw.out.mono ?_; rintro e w8 ⟨rfl, hI8⟩; have HI8 := Lib.hid hI8; clear hI8; refine Stop.out ?_))
          unfold Stop
          have HDd : Hid ((offD d7).dead = false ∧ (offD d7).set = false) := Lib.hid ⟨rfl, rfl⟩
          generalize offD d7 = d8 at HI8 HDd
          clear HPw HI
          obtain ⟨nY, hnY⟩ : ∃ nY, nY = (X : List Text).length := ⟨_, rfl⟩
          have HnY := Lib.hid hnY
          clear hnY
          have HOp : Hid (Calls Try.prog 33 #[.pointer (some ⟨B, 0, none⟩)] w8 fun e w' => ∃ P9 A9 c9 n' d', e = .returned (.tuple #[.pointer (some ⟨P9, 0, none⟩), .slice A9 nY c9, .int .i64 0]) ∧ JnAt w' P9 ⟨B, t', false, nY⟩ ∧ SecsAt w' A9 c9 X ∧ P9 ≠ B ∧ P9 ≠ bm ∧ Still d' m X t' ∧ GoneS w B bm B0 m (q + 1) n' d' X X t' (.slice A13 nX c13) w') := Lib.hid (by
            have hI := HI8.out
            have hm := HM.out
            have hl := HLc.out
            have h0 := HB0.out
            rw [HnY.out]
            refine (last_open w8 B bm n7 d8 m X t' hI.dsk hI.gone HDd.out.1 HDd.out.2 (by have := hI.nn; omega) (by have := hI.wr; omega) (by have := hI.few2; omega)).mono ?_
            rintro e w' ⟨P9, A9, c9, n', d', rfl, hj, hs, hd, hst, hn, hw, hP, hc⟩
            have hz := hI.hz
            exact ⟨P9, A9, c9, n', d', rfl, hj, hs, by omega, by omega, hst, hI.chg hc HNb.out.2.2.1 HNb.out.2.2.2 h0.1 h0.2.1 hd ⟨hst.many, hst.ok, fun k hk => (hd.2.1.choose_spec.2 k (by rw [hst.many]; exact hk)).2, InvI.of_find hst.find (.inl fun k hk hm => hst.blank k (by omega) hm)⟩ (by have := hI.wr; omega) (by have := hI.nn; omega)⟩)
          go_wp2_with (first
            | (go_at_call 33; refine HOp.out.mono ?_; rintro e w9 ⟨P9, A9, c9, n9, d9, rfl, hj, hs, h1, h2, hst, hI9⟩; have HJ9 := Lib.hid hj; have HS9 := Lib.hid hs; have HP9 := Lib.hid (And.intro h1 h2); have HSt := Lib.hid hst; have HI9 := Lib.hid hI9; clear hj hs h1 h2 hst hI9; refine Stop.out ?_))
          unfold Stop
          clear HOp HI8 HDd
          have HY : Hid (nY = (X : List Text).length ∧ nY ≤ 31) := Lib.hid ⟨HnY.out, by rw [HnY.out]; exact HI9.out.few2⟩
          clear HnY
          obtain ⟨wv, hwv⟩ : ∃ wv, wv = d9.writes := ⟨_, rfl⟩
          have HWr : Hid (∀ V n, Dsk V B bm n d9 → Calls Try.prog 25 #[.pointer (some ⟨B, 0, none⟩)] V fun e w' => e = .returned (.int .i64 wv) ∧ V = w') := Lib.hid fun V n hV => by rw [hwv]; exact code_writes V B bm n d9 hV
          clear hwv
          go_wp2_with (first
            | (go_at_call 25; refine (HWr.out _ _ HI9.out.dsk).mono ?_; rintro e w10 ⟨rfl, rfl⟩; refine Stop.out ?_))
          unfold Stop
          have HOp2 : Hid (Calls Try.prog 33 #[.pointer (some ⟨B, 0, none⟩)] w9 fun e w' => ∃ P11 A11 c11 n', e = .returned (.tuple #[.pointer (some ⟨P11, 0, none⟩), .slice A11 nY c11, .int .i64 0]) ∧ JnAt w' P11 ⟨B, t', false, nY⟩ ∧ SecsAt w' A11 c11 X ∧ JnAt w' P9 ⟨B, t', false, nY⟩ ∧ SecsAt w' A9 c9 X ∧ Dsk w' B bm n' d9 ∧ OwnB w B0 (.slice A13 nX c13) X w' ∧ Below w.heap.size w w') := Lib.hid (by
            have hI := HI9.out
            have hl := HLc.out
            have h0 := HB0.out
            have hY := HY.out.1
            have hj9' := HJ9.out
            rw [hY] at hj9' ⊢
            refine (still_open w9 B bm n9 d9 m X t' hI.dsk HSt.out (by have := hI.nn; omega) (by have := hI.wr; omega) (by have := hI.few2; omega)).mono ?_
            rintro e w' ⟨P11, A11, c11, n', rfl, hj, hs, hd, hP, hc⟩
            exact ⟨P11, A11, c11, n', rfl, hj, hs, hj9'.chg hc HP9.out.1 HP9.out.2, HS9.out.chg hI.dsk hc, hd, hI.own.turn (fun x hx hl => hc.block x hl (by omega) (by omega)), hI.low.trans (hc.below hI.low.size HNb.out.2.2.1 HNb.out.2.2.2)⟩)
          go_wp2_with (first
            | (go_at_call 33; refine HOp2.out.mono ?_; rintro e w11 ⟨P11, A11, c11, n11, rfl, hj, hs, hj9, hs9, hd, ho, hb⟩; have HJ11 := Lib.hid (And.intro hj hj9); have HS11 := Lib.hid (And.intro hs hs9); have HD11 := Lib.hid hd; have HO11 := Lib.hid ho; have HB11 := Lib.hid hb; clear hj hs hj9 hs9 hd ho hb; refine Stop.out ?_))
          unfold Stop
          clear HOp2 HI9 HJ9 HS9 HP9 HSt
          go_wp2_with (first
            | (go_at_call 25; refine (HWr.out _ _ HD11.out).mono ?_; rintro e w12 ⟨rfl, rfl⟩; refine Stop.out ?_))
          unfold Stop
          have HSm : Hid (Calls Try.prog 35 #[.slice A9 nY c9, .slice A11 nY c11] w11 fun e w' => e = .returned (.bool true) ∧ Below w11.heap.size w11 w') := Lib.hid (by
            rw [HY.out.1]
            exact code_jsame X A9 A11 c9 c11 w11 (by have := HY.out; omega) HS11.out.2 HS11.out.1)
          go_wp2_with (first
            | (go_at_call 35; refine HSm.out.mono ?_; rintro e w12 ⟨rfl, hb12⟩; have HJ12 := Lib.hid (And.intro (HJ11.out.1.below hb12) (HJ11.out.2.below hb12)); have HS12 := Lib.hid (HS11.out.2.on hb12); have HO12 := Lib.hid (HO11.out.on hb12); have HB12 := Lib.hid (below_then HB11.out hb12); clear hb12; refine Stop.out ?_))
          unfold Stop
          clear HSm HJ11 HS11 HO11 HB11 HD11
          go_wp2_with (first
            | (go_at_call 39; refine (code_jtail _ P11 _ HJ12.out.1).mono ?_; rintro e w13 ⟨rfl, rfl⟩; refine Stop.out ?_))
          unfold Stop
          go_wp2_with (first
            | (go_at_call 39; refine (code_jtail _ P9 _ HJ12.out.2).mono ?_; rintro e w13 ⟨rfl, rfl⟩; refine Stop.out ?_))
          unfold Stop
          have HBa : Hid (BatsAt w12 A13 X) := Lib.hid (HO12.out.bats HB12.out)
          clear HJ12 HO12
          have HYX : Hid (nY = nX) := Lib.hid (by rw [HY.out.1, HNx.out])
          obtain rfl : nY = nX := HYX.out
          have hws : wrap64 ((nY : Int) + 1) = (nY : Int) + 1 := by have := HY.out.2; unfold wrap64; omega
          have hns : ((nY : Int) == (nY : Int) + 1) = false := beq_false_of_ne (by omega)
          have hns2 : ¬ (nY : Int) = (nY : Int) + 1 := by omega
          have HSm : Hid (Calls Try.prog 35 #[.slice A9 nY c9, .slice A13 nY c13] w12 fun e w' => e = .returned (.bool true) ∧ Below w12.heap.size w12 w') := Lib.hid (by
            have h1 := HY.out
            have h2 := HS12.out.bats
            have h := code_jsameB X A9 A13 c9 c13 w12 (by rw [← HNx.out]; omega) h2 HBa.out
            rwa [← HNx.out] at h)
          go_wp2_with (first
            | (go_at_call 35; refine HSm.out.mono ?_; rintro e w14 ⟨rfl, hb14⟩; have HB14 := Lib.hid (below_then HB12.out hb14); clear hb14; refine Stop.out ?_))
          unfold Stop
          go_wp2_with (first
            | (go_at_call 32; refine (HLv.out _).mono ?_; rintro e w15 ⟨rfl, hb15⟩; have HB15 := Lib.hid (below_then HB14.out hb15); clear hb15))
          go_ret
          exact ⟨rfl, HB15.out⟩
end Go.Proofs.Ytfjejiapafdgeaa
