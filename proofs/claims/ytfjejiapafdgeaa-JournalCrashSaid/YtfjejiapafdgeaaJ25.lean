/- scan: what Find finds. Scan's calls on a disk that no call made, and on one without power. -/
import Derived.Test.YtfjejiapafdgeaaJ24
import Derived.Test.YtfjejiapafdgeaaJ11
import Derived.Test.YtfjejiapafdgeaaJ3
import Derived.Test.YtfjejiapafdgeaaJ15
import Derived.Test.YtfjejiapafdgeaaJ21
import Derived.WalkMore
import Derived.Test.YtfjejiapafdgeaaJ12
import Derived.Test.YtfjejiapafdgeaaJ18
namespace Go.Proofs.Ytfjejiapafdgeaa
open Go.RowKit
set_option maxRecDepth 100000
set_option linter.unusedSimpArgs false
set_option linter.unusedVariables false

theorem sec_read (w : World) (B bm n : Nat) (d : DiskV) (h : Dsk w B bm n d) (hd : d.dead = false) (W : World) (hb : Below w.heap.size w W) (i : Nat) (hi : i < d.many) : Calls Try.prog 47 #[.pointer (some ⟨B, 0, none⟩), .int .i64 i] W fun e w' => e = .returned (.tuple #[.slice (some ⟨W.heap.size, 0, none⟩) 64 64, .int .i64 0]) ∧ Txt w' (some ⟨W.heap.size, 0, none⟩) (d.S i) ∧ Below W.heap.size W w' := by
  refine (code_read W B bm n d i (h.below hb)).mono ?_
  have hz : reachV d i = 0 := by unfold reachV; rw [hd, if_neg (by decide), if_neg (by omega)]
  rintro e w' (⟨h1, _⟩ | ⟨_, h2, h3, h4⟩)
  · exact absurd hz h1
  · exact ⟨h2, by rwa [Int.toNat_natCast] at h3, h4⟩
theorem sec_64 {w : World} {B bm n : Nat} {d : DiskV} (h : Dsk w B bm n d) : ∀ i, i < d.many → (d.S i).length = 64 := by
  obtain ⟨_, ⟨D, _, h2⟩, _⟩ := h
  exact fun i hi => (h2 i hi).2
/-- how many pages a slice holds, from the end of all that can be -/
def pagesLeft (v : Value) : Nat := match v with | .slice _ n _ => 5000 - n | _ => 5000
theorem pagesLeft_next (A A' : Option Addr) (k c c' : Nat) (h : k < 5000) : pagesLeft (.slice A' (k + 1) c') < pagesLeft (.slice A k c) := by
  show 5000 - (k + 1) < 5000 - k
  omega
/-- a frame of Find, at a label -/
def FrF (B hb : Nat) (v : Value) (at_ : Nat) (v9 : Value) (a : Act) : Prop := ∃ T : Nat → Value, a = ⟨#[.pointer (some ⟨B, 0, none⟩), undef, v, .int .i64 (at_ : Nat), .int .i64 0, .int .i64 0, .pointer (some ⟨hb, 0, none⟩), T 7, T 8, v9, T 10, T 11, T 12, T 13, T 14, T 15, T 16, T 17, T 18, T 19, T 20, T 21, T 22, T 23, T 24, T 25, T 26, T 27, T 28, T 29, T 30, T 31, T 32, T 33, T 34, T 35, T 36, T 37, T 38, T 39, T 40, T 41, T 42, T 43, T 44, T 45, T 46, T 47, T 48, T 49, T 50, T 51, T 52, T 53, T 54, T 55, T 56, T 57, T 58, T 59, T 60, T 61, T 62, T 63, T 64, T 65, T 66, T 67, T 68, T 69, T 70, T 71, T 72, T 73, T 74, T 75, T 76, T 77, T 78, T 79, T 80, T 81], []⟩
theorem FrF.of {B hb at_ : Nat} {v v9 : Value} {tm : Array Value} (h : tm = #[.pointer (some ⟨B, 0, none⟩), undef, v, .int .i64 (at_ : Nat), .int .i64 0, .int .i64 0, .pointer (some ⟨hb, 0, none⟩), tm.getD 7 undef, tm.getD 8 undef, v9, tm.getD 10 undef, tm.getD 11 undef, tm.getD 12 undef, tm.getD 13 undef, tm.getD 14 undef, tm.getD 15 undef, tm.getD 16 undef, tm.getD 17 undef, tm.getD 18 undef, tm.getD 19 undef, tm.getD 20 undef, tm.getD 21 undef, tm.getD 22 undef, tm.getD 23 undef, tm.getD 24 undef, tm.getD 25 undef, tm.getD 26 undef, tm.getD 27 undef, tm.getD 28 undef, tm.getD 29 undef, tm.getD 30 undef, tm.getD 31 undef, tm.getD 32 undef, tm.getD 33 undef, tm.getD 34 undef, tm.getD 35 undef, tm.getD 36 undef, tm.getD 37 undef, tm.getD 38 undef, tm.getD 39 undef, tm.getD 40 undef, tm.getD 41 undef, tm.getD 42 undef, tm.getD 43 undef, tm.getD 44 undef, tm.getD 45 undef, tm.getD 46 undef, tm.getD 47 undef, tm.getD 48 undef, tm.getD 49 undef, tm.getD 50 undef, tm.getD 51 undef, tm.getD 52 undef, tm.getD 53 undef, tm.getD 54 undef, tm.getD 55 undef, tm.getD 56 undef, tm.getD 57 undef, tm.getD 58 undef, tm.getD 59 undef, tm.getD 60 undef, tm.getD 61 undef, tm.getD 62 undef, tm.getD 63 undef, tm.getD 64 undef, tm.getD 65 undef, tm.getD 66 undef, tm.getD 67 undef, tm.getD 68 undef, tm.getD 69 undef, tm.getD 70 undef, tm.getD 71 undef, tm.getD 72 undef, tm.getD 73 undef, tm.getD 74 undef, tm.getD 75 undef, tm.getD 76 undef, tm.getD 77 undef, tm.getD 78 undef, tm.getD 79 undef, tm.getD 80 undef, tm.getD 81 undef]) : FrF B hb v at_ v9 ⟨tm, []⟩ := ⟨fun i => tm.getD i undef, by rw [← h]⟩
/-- what is found so far -/
def LookS (S : Nat → Text) (m at_ : Nat) (L : List Text) : Prop := at_ ≤ m ∧ L.length ≤ at_ ∧ ∃ f, m < f + at_ ∧ findT S m = findV S m f at_ L
def LookW (w : World) (S : Nat → Text) (m at_ : Nat) (L : List Text) (v : Value) (W : World) : Prop :=
  OwnT (w.heap.size + 1) v L W ∧ (∃ s n u, W.heap[w.heap.size]? = some (headO s n u)) ∧ Below w.heap.size w W ∧ LookS S m at_ L
/-- at 'look' -/
def R2F (w : World) (B : Nat) (S : Nat → Text) (m : Nat) (x : Nat) (a : Act) (W : World) : Prop := ∃ at_ L v v9, x = 3 * (m + 1 - at_) + 2 ∧ FrF B w.heap.size v at_ v9 a ∧ Hid (LookW w S m at_ L v W)
/-- at 'told' -/
def R0F (w : World) (B : Nat) (S : Nat → Text) (m : Nat) (x : Nat) (a : Act) (W : World) : Prop := ∃ at_ L v v9, x = 0 ∧ FrF B w.heap.size v at_ v9 a ∧ Hid (findT S m = (L, at_) ∧ OwnT (w.heap.size + 1) v L W ∧ Below w.heap.size w W)
/-- at 'whole' -/
def WholeW (w : World) (S : Nat → Text) (m at_ k : Nat) (L : List Text) (v : Value) (g c : Nat) (W : World) : Prop :=
  OwnT (w.heap.size + 1) v L W ∧ OwnT (w.heap.size + 1) (.slice (some ⟨g, 0, none⟩) (k + 1 : Nat) c) (someT S at_ (k + 1)) W ∧ k + 1 ≤ c ∧ c ≤ maxLen ∧ W.heap[w.heap.size]? = some (headO (seqB (S at_)) (lenB (S at_)) (sumB (S at_))) ∧ Below w.heap.size w W ∧ LookS S m at_ L ∧
    k + 1 = needT (S at_) ∧ isB (S at_) = true ∧ seqB (S at_) = (L.length + 1 : Nat) ∧ at_ + (k + 1) ≤ m
def R1F (w : World) (B : Nat) (S : Nat → Text) (m : Nat) (x : Nat) (a : Act) (W : World) : Prop := ∃ at_ L v k g c, x = 3 * (m + 1 - at_) + 1 ∧ FrF B w.heap.size v at_ (.slice (some ⟨g, 0, none⟩) (k + 1 : Nat) c) a ∧ Hid (WholeW w S m at_ k L v g c W)
theorem batch_rest {S : Nat → Text} {m at_ : Nat} {L : List Text} (h1 : isB (S at_) = true) (h2 : seqB (S at_) = (L.length + 1 : Nat)) (h3 : at_ + needT (S at_) ≤ m) :
    batchQ S m at_ (L.length + 1 : Nat) = (endOk (S (at_ + needT (S at_) - 1)) (seqB (S at_)) (sumB (S at_)) && joinQ (someT S (at_ + 1) (needT (S at_) - 2)) (seqB (S at_)) (lenB (S at_)) (sumB (S at_))) := by
  have := need_big h1
  unfold batchQ
  rw [h1, decide_eq_true h2, decide_eq_true h3, decide_eq_true (show at_ < m by omega)]
  rfl
/-- why no batch is there -/
theorem batch_none {S : Nat → Text} {m at_ : Nat} {L : List Text} (h : ¬ (at_ < m ∧ isB (S at_) = true ∧ seqB (S at_) = (L.length + 1 : Nat) ∧ at_ + needT (S at_) ≤ m)) : batchQ S m at_ (L.length + 1 : Nat) = false := by
  cases hq : batchQ S m at_ (L.length + 1 : Nat) with
  | false => rfl
  | true =>
    obtain ⟨h1, h2, h3, h4, _⟩ := batch_in hq
    exact absurd ⟨h1, h2, h3, h4⟩ h
theorem look_end {S : Nat → Text} {m at_ : Nat} {L : List Text} (h : LookS S m at_ L) (hq : batchQ S m at_ (L.length + 1 : Nat) = false) : findT S m = (L, at_) := by
  obtain ⟨_, _, f, _, e⟩ := h
  rw [e, find_end hq]
theorem look_next {S : Nat → Text} {m at_ : Nat} {L : List Text} (h : LookS S m at_ L) (hq : batchQ S m at_ (L.length + 1 : Nat) = true) : LookS S m (at_ + needT (S at_)) (L ++ [batchT S at_]) := by
  obtain ⟨h1, h2, f, h3, e⟩ := h
  obtain ⟨q1, _, _, q4, q5⟩ := batch_in hq
  cases f with
  | zero => omega
  | succ f =>
    refine ⟨q4, by rw [List.length_append]; simp; omega, f, by omega, ?_⟩
    rw [e, find_next hq]
theorem sum_32 (l : Text) : (0 : Int) ≤ (sumB l : Int) ∧ (sumB l : Int) < 4294967296 := by
  have h := numT_lt ((l.drop 17).take 4)
  have h2 : 256 ^ ((l.drop 17).take 4).length ≤ 256 ^ 4 := Nat.pow_le_pow_right (by decide) (by rw [List.length_take]; omega)
  have h3 : 256 ^ 4 = 4294967296 := by decide
  unfold sumB
  omega
theorem batch_len {S : Nat → Text} {m i : Nat} {q : Int} (h : batchQ S m i q = true) : 0 < (batchT S i).length := by
  unfold batchQ at h
  simp only [Bool.and_eq_true, decide_eq_true_eq] at h
  obtain ⟨_, h1, h2⟩ := joinX_is h.2.2.2.2.2
  rw [Int.toNat_natCast] at h1 h2
  unfold batchT
  omega
theorem begin_is (l : Text) : ∃ (s n u : Int) (q : Bool), beginV l = .tuple #[headV s n u, .bool q] ∧ q = isB l ∧ (q = true → s = seqB l ∧ n = lenB l ∧ u = sumB l) := by
  unfold beginV
  cases h : isB l with
  | true => exact ⟨_, _, _, true, by rw [if_pos rfl], rfl, fun _ => ⟨rfl, rfl, rfl⟩⟩
  | false => exact ⟨0, 0, 0, false, by rw [if_neg (by decide)], rfl, fun e => by cases e⟩
attribute [local go_sem] jump3_normal jump3_exit jump3_ret jump3_panic
set_option maxHeartbeats 4000000 in
theorem code_find (w : World) (B bm n : Nat) (d : DiskV) (h : Dsk w B bm n d) (hd : d.dead = false) :
    Calls Try.prog 15 #[.pointer (some ⟨B, 0, none⟩)] w fun e w' => ∃ v, e = .returned (.tuple #[v, .int .i64 (findT d.S d.many).2, .int .i64 0]) ∧ OwnT w.heap.size v (findT d.S d.many).1 w' ∧ Below w.heap.size w w' := by
  have HRe : Hid (Calls Try.prog 45 #[.pointer (some ⟨B, 0, none⟩), .int .i64 0] w fun e w' => e = .returned (.int .i64 0) ∧ w = w') := Lib.hid (by
    have h1 := code_sreach w B bm n d 0 h
    have h2 : sreachV d 0 = 0 := by unfold sreachV; rw [hd, if_neg (by have := h.2.2.2.2; omega), if_neg (by decide)]
    rwa [h2] at h1)
  have HLn : Hid (∀ W, Below w.heap.size w W → Calls Try.prog 46 #[.pointer (some ⟨B, 0, none⟩)] W fun e w' => e = .returned (.int .i64 d.many) ∧ W = w') := Lib.hid fun W hb => code_dlen W B bm n d (h.below hb)
  have HRd := Lib.hid (sec_read w B bm n d h hd)
  have H64 := Lib.hid (sec_64 h)
  have HM : Hid (d.many ≤ 4096) := Lib.hid h.2.2.1
  clear h hd
  obtain ⟨m, hm⟩ : ∃ m, m = d.many := ⟨_, rfl⟩
  obtain ⟨S, hS⟩ : ∃ S, S = d.S := ⟨_, rfl⟩
  rw [← hm] at HLn HRd H64 HM ⊢
  rw [← hS] at HRd H64 ⊢
  clear hm hS d
  go_enter Try.func15, Try.ntmps15
  go_wp2
  refine wp_scope3f (R0F w B S m) (R1F w B S m) (R2F w B S m) rfl rfl rfl ?first ?p0 ?p1 ?p2
  case first =>
    intro Z hZ
    have HZ := Lib.hid hZ
    clear hZ
    go_wp2_with (go_at_call 45; refine HRe.out.mono ?_; rintro e w1 ⟨rfl, rfl⟩)
    refine HZ.out _ _ _ ⟨0, [], .slice none 0 0, .slice none 0 0, rfl, (FrF.of (by kernel_rfl)), Lib.hid ⟨OwnT.nil _ _, ⟨0, 0, 0, heap_alloc_new w _⟩, below_alloc w _, Nat.zero_le _, Nat.zero_le _, m + 1, by omega, rfl⟩⟩
  case p0 =>
    rintro x a W ⟨at_, L, v, v9, rfl, hfr, HE⟩
    obtain ⟨T, rfl⟩ := hfr
    go_wp2
    rw [jump3_ret]
    go_ret3
    obtain ⟨h1, h2, h3⟩ := HE.out
    rw [h1]
    exact ⟨v, rfl, h2.less (Nat.le_succ _), h3⟩
  case p1 =>
    rintro x a W ⟨at_, L, v, k, g, c, rfl, hfr, HE⟩
    obtain ⟨T, rfl⟩ := hfr
    obtain ⟨hOv, hO9, hkc, hcm, hX, hB, hLk, hkn, hI, hsq, hkm⟩ := HE.out
    clear HE
    have hbig := need_big hI
    rw [← hkn] at hbig
    have HBt : Hid (Calls Try.prog 50 #[.slice (some ⟨g, 0, none⟩) (k + 1 : Nat) c, headV (seqB (S at_)) (lenB (S at_)) (sumB (S at_))] W (JoinG W (batchQ S m at_ (L.length + 1 : Nat)) (if batchQ S m at_ (L.length + 1 : Nat) = true then batchT S at_ else batchX (endOk (S (at_ + k)) (seqB (S at_)) (sumB (S at_))) (joinX (someT S (at_ + 1) (k - 1)) (seqB (S at_)) (lenB (S at_)) (sumB (S at_)))))) := Lib.hid (by
      have h := code_batch (someT S at_ (k + 1)) g 0 c k (seqB (S at_)) (lenB (S at_)) (sumB (S at_)) W (someT_len _ _ _) (by omega) hkc hcm (sum_32 _) (hO9.rows rfl)
      rw [someT_get, someT_mid] at h
      have hq := batch_rest hI hsq (by rw [← hkn]; exact hkm)
      rw [← hkn, show at_ + (k + 1) - 1 = at_ + k by omega, show k + 1 - 2 = k - 1 by omega] at hq
      rw [← hq] at h
      cases hb : batchQ S m at_ (L.length + 1 : Nat) with
      | false => rw [hb] at h; exact h
      | true =>
        rw [hb] at hq
        have hq' := hq.symm
        rw [Bool.and_eq_true] at hq'
        rw [hb] at h
        unfold batchX at h
        rw [if_pos hq'.1, (joinX_is hq'.2).1, Int.toNat_natCast] at h
        unfold batchT
        rw [← hkn, show k + 1 - 2 = k - 1 by omega]
        exact h)
    obtain ⟨Av, cv, rfl⟩ := hOv.shape
    have HOv := Lib.hid hOv
    have HLk := Lib.hid hLk
    have HX := Lib.hid hX
    have HBW := Lib.hid hB
    have HK := Lib.hid (And.intro hkn (And.intro hI (And.intro hsq hkm)))
    have HK2 := Lib.hid (And.intro hbig (And.intro hkc hcm))
    generalize hq : batchQ S m at_ (L.length + 1 : Nat) = q at HBt
    have HQq := Lib.hid hq
    obtain ⟨ll, hll⟩ : ∃ ll, ll = L.length := ⟨_, rfl⟩
    rw [← hll] at HOv ⊢
    have HLL := Lib.hid hll
    clear hq hll hO9 hOv hkc hcm hX hB hLk hkn hI hsq hkm hbig
    unfold headV at HBt
    obtain ⟨y0, y1, y2⟩ := head_cells HX.out
    generalize hTT : (if q = true then batchT S at_ else batchX (endOk (S (at_ + k)) (seqB (S at_)) (sumB (S at_))) (joinX (someT S (at_ + 1) (k - 1)) (seqB (S at_)) (lenB (S at_)) (sumB (S at_)))) = TT at HBt
    have HTT := Lib.hid hTT
    clear hTT
    obtain ⟨k1, hk⟩ : ∃ k1, k1 = k + 1 := ⟨_, rfl⟩
    rw [← hk] at HBt HK HK2 ⊢
    obtain ⟨r, hr⟩ : ∃ r, r = at_ + k1 := ⟨_, rfl⟩
    have hwr : wrap64 ((at_ : Int) + (k1 : Int)) = (r : Int) := by have := HM.out; have := HK.out.2.2.2; unfold wrap64; omega
    have HR := Lib.hid hr
    have HLn2 : Hid (at_ + k1 ≤ m ∧ 3 ≤ k1) := Lib.hid ⟨HK.out.2.2.2, HK2.out.1⟩
    clear hr hk
    go_wp2_with (go_at_call 50; refine HBt.out.mono ?_; rintro e w3 ⟨B3, c3, rfl, ht3, hf3, hb3⟩; have HT3 := Lib.hid ht3; have HF3 := Lib.hid hf3; have HB3 := Lib.hid hb3; clear ht3 hf3 hb3; refine Stop.out ?_)
    unfold Stop
    have HB3w : Hid (Below w.heap.size w w3) := Lib.hid (HBW.out.trans (HB3.out.mono HBW.out.size))
    have HO3 := Lib.hid (HOv.out.on HB3.out)
    have HX3 := Lib.hid (heap_on HB3.out HX.out)
    clear HBt y0 y1 y2
    cases q with
    | false =>
      have HT : Hid (findT S m = (L, at_)) := Lib.hid (look_end HLk.out HQq.out)
      go_wp2
      refine wp_goto ?_
      exact Or.inl ⟨rfl, 0, by omega, at_, L, .slice Av ll cv, .slice (some ⟨g, 0, none⟩) k1 c, rfl, (FrF.of (by kernel_rfl)), Lib.hid ⟨HT.out, HO3.out, HB3w.out⟩⟩
    | true =>
      have HTb : Hid (batchT S at_ = TT) := Lib.hid (by have h := HTT.out; rwa [if_pos rfl] at h)
      have HTl : Hid (0 < TT.length) := Lib.hid (by have h := batch_len HQq.out; rwa [HTb.out] at h)
      rcases HF3.out with ⟨_, h0⟩ | ⟨g3, rfl, hg3, hc3, hm3⟩
      · have h := HTl.out
        rw [h0] at h
        cases h
      · have HC3 := Lib.hid (And.intro hc3 hm3)
        have HR3 : Hid (w3.rangeAt g3 0 (TT.map cellOf) ∧ g3 < w3.heap.size) := Lib.hid ⟨txt_range HT3.out, by
          obtain ⟨a, e, h1, _⟩ := HT3.out (by intro e; have := HTl.out; rw [e] at this; cases this)
          injection e with e
          subst e
          exact h1⟩
        have HBX := Lib.hid (below_alloc w3 (.cells #[.slice (some ⟨g3, 0, none⟩) TT.length c3] 51))
        have HO5 := Lib.hid (HO3.out.on HBX.out)
        have HNE : Hid ((Value.slice Av ll cv).ownBlock ≠ some g3) := Lib.hid (fun e => by have := (HOv.out.base _ e).2; omega)
        have HGL : Hid (g3 < (w3.alloc (.cells #[.slice (some ⟨g3, 0, none⟩) TT.length c3] 51)).heap.size) := Lib.hid (by have := HR3.out.2; rw [World.size_alloc]; omega)
        have HLen : Hid (L.length ≤ 100000) := Lib.hid (by have h1 := HLk.out.2.1; have h2 := HLn2.out.1; have h3 := HM.out; omega)
        have HSB : Hid (w.heap.size + 1 ≤ (w3.alloc (.cells #[.slice (some ⟨g3, 0, none⟩) TT.length c3] 51)).heap.size) := Lib.hid (by have h1 := heapLt HX3.out; have h2 := HBX.out.size; omega)
        clear HF3 hg3 hc3 hm3 HT3
        generalize hn : TT.length = nT at *
        have HnT := Lib.hid hn
        clear hn
        go_wp2_with (at_builtin; refine wpList_append_rows (o := ⟨some 77, _, _, _, _, _⟩) rfl (.tmp 74) (.tmp 76) rfl rfl (w.heap.size + 1) (.slice Av ll cv) L rfl HO5.out w3.heap.size rfl g3 c3 _ TT _ _ (heap_alloc_new w3 _) HnT.out HTl.out HC3.out.1 HC3.out.2 (range_on (below_alloc w3 _) HR3.out.1) HGL.out HNE.out HLen.out HSB.out ?_; intro v4 w6 hov hgv hvv; have HO6 := Lib.hid hov; have HG6 := Lib.hid hgv; clear hov hgv hvv; refine Stop.out ?_)
        unfold Stop
        have HX6 : Hid (w6.heap[w.heap.size]? = some (headO (seqB (S at_)) (lenB (S at_)) (sumB (S at_)))) := Lib.hid ((HG6.out.block _ (heapLt (heap_on HBX.out HX3.out)) (fun e => by have h1 := (HOv.out.base _ e.symm).1; omega)).trans (heap_on HBX.out HX3.out))
        have HB6 : Hid (Below w.heap.size w w6) := Lib.hid ((HB3w.out.trans (HBX.out.mono HB3w.out.size)).grown HG6.out (by have := HSB.out; omega) (fun j hj => by have h1 := (HOv.out.base _ hj).1; omega))
        have HL6 : Hid (LookS S m r (L ++ [TT])) := Lib.hid (by
          have h := look_next HLk.out HQq.out
          rw [← HK.out.1, HTb.out, ← HR.out] at h
          exact h)
        go_wp2
        refine wp_goto ?_
        rw [hwr]
        exact Or.inr (Or.inr ⟨rfl, 3 * (m + 1 - r) + 2, by have h1 := HR.out; have h2 := HLn2.out; omega, r, L ++ [TT], v4, .slice (some ⟨g, 0, none⟩) k1 c, rfl, (FrF.of (by kernel_rfl)), Lib.hid ⟨HO6.out, ⟨_, _, _, HX6.out⟩, HB6.out, HL6.out⟩⟩)
  case p2 =>
    rintro x a W ⟨at_, L, v, v9, rfl, hfr, HE⟩
    obtain ⟨T, rfl⟩ := hfr
    have HBW := Lib.hid HE.out.2.2.1
    have HOv := Lib.hid HE.out.1
    have HLk := Lib.hid HE.out.2.2.2
    obtain ⟨s0, n0, u0, hx0⟩ := HE.out.2.1
    have HX0 := Lib.hid hx0
    clear hx0 HE
    obtain ⟨Av, cv, rfl⟩ := HOv.out.shape
    have HLm : Hid (at_ ≤ m ∧ L.length ≤ at_) := Lib.hid ⟨HLk.out.1, HLk.out.2.1⟩
    obtain ⟨ll, hll⟩ : ∃ ll, ll = L.length := ⟨_, rfl⟩
    rw [← hll] at HOv HLm ⊢
    have HLL := Lib.hid hll
    clear hll
    have HWs : Hid (w.heap.size < W.heap.size) := Lib.hid (heapLt HX0.out)
    go_wp2
    go_loopw [2, 3, 4, 9] (fun v2 v3 v4 v9 wr => v2 = .slice Av ll cv ∧ v3 = .int .i64 (at_ : Nat) ∧ v4 = .int .i64 0 ∧ ∃ k A c, v9 = .slice A k c ∧ at_ + k ≤ m ∧ Hid (OwnT W.heap.size v9 (someT S at_ k) wr) ∧ Hid (ChgD W wr w.heap.size w.heap.size) ∧ Hid (k = 0 → v9 = .slice none 0 0) ∧ Hid (0 < k → isB (S at_) = true ∧ seqB (S at_) = (L.length + 1 : Nat) ∧ k < needT (S at_) ∧ wr.heap[w.heap.size]? = some (headO (seqB (S at_)) (lenB (S at_)) (sumB (S at_)))) ∧ Hid (∃ s n u, wr.heap[w.heap.size]? = some (headO s n u))) (fun _ _ _ v9 _ => pagesLeft v9)
    case atStart => exact ⟨rfl, rfl, rfl, 0, none, 0, rfl, HLm.out.1, Lib.hid (OwnT.nil _ _), Lib.hid (ChgD.refl _ _ _), Lib.hid (fun _ => rfl), Lib.hid (fun h => absurd h (Nat.lt_irrefl 0)), Lib.hid ⟨s0, n0, u0, HX0.out⟩⟩
    case round =>
      obtain ⟨rfl, rfl, rfl, k, A, c, rfl, hk, HO, HC, HN, HI, HH⟩ := hrel
      obtain ⟨r, hr⟩ : ∃ r, r = at_ + k := ⟨_, rfl⟩
      have hwr : wrap64 ((at_ : Int) + (k : Int)) = (r : Int) := by have := HM.out; unfold wrap64; omega
      have HBr : Hid (Below w.heap.size w wr) := Lib.hid (HBW.out.trans (HC.out.below (Nat.le_of_lt HWs.out) (Nat.le_refl _) (Nat.le_refl _)))
      have HR := Lib.hid (And.intro hk hr)
      clear hk hr
      by_cases hlt : (r : Int) < (m : Int)
      · have HRm : Hid (r < m) := Lib.hid (by omega)
        go_wp2_with (first
          | (go_at_call 46; refine (HLn.out _ HBr.out).mono ?_; rintro e w1 ⟨rfl, rfl⟩)
          | (go_at_call 47; refine (HRd.out _ HBr.out r HRm.out).mono ?_; rintro e w5 ⟨rfl, ht5, hb5⟩; have HT5 := Lib.hid ht5; have HB5 := Lib.hid hb5; clear ht5 hb5; refine Stop.out ?_))
        unfold Stop
        have HBX := Lib.hid (below_then HB5.out (below_alloc w5 (.cells #[.slice (some ⟨wr.heap.size, 0, none⟩) 64 64] 51)))
        have HR5 : Hid (w5.rangeAt wr.heap.size 0 ((S r).map cellOf) ∧ wr.heap.size < w5.heap.size) := Lib.hid ⟨txt_range HT5.out, by
          obtain ⟨a, e, h1, _⟩ := HT5.out (by intro e; have := H64.out r HRm.out; rw [e] at this; cases this)
          injection e with e
          subst e
          exact h1⟩
        have HO5 := Lib.hid (HO.out.on HBX.out)
        have HNE : Hid ((Value.slice A k c).ownBlock ≠ some wr.heap.size) := Lib.hid (fun e => by have := (HO.out.base _ e).2; omega)
        have HGL : Hid (wr.heap.size < (w5.alloc (.cells #[.slice (some ⟨wr.heap.size, 0, none⟩) 64 64] 51)).heap.size) := Lib.hid (by have := HR5.out.2; rw [World.size_alloc]; omega)
        have HLen : Hid ((someT S at_ k).length ≤ 100000) := Lib.hid (by rw [someT_len]; have h1 := HR.out; have h2 := HM.out; omega)
        have HWx : Hid (W.heap.size ≤ (w5.alloc (.cells #[.slice (some ⟨wr.heap.size, 0, none⟩) 64 64] 51)).heap.size) := Lib.hid (Nat.le_trans HC.out.size HBX.out.size)
        have HS64 := Lib.hid (H64.out r HRm.out)
        have HE : Hid (someT S at_ k ++ [S r] = someT S at_ (k + 1)) := Lib.hid (by rw [someT_next, HR.out.2])
        go_wp2_with (at_builtin; refine wpList_append_rows (o := ⟨some 39, _, _, _, _, _⟩) rfl (.tmp 36) (.tmp 38) rfl rfl W.heap.size (.slice A k c) (someT S at_ k) rfl HO5.out w5.heap.size rfl wr.heap.size 64 64 (S r) _ _ (heap_alloc_new w5 _) HS64.out (by decide) (Nat.le_refl _) (by unfold maxLen; omega) (range_on (below_alloc w5 _) HR5.out.1) HGL.out HNE.out HLen.out HWx.out ?_; intro v4 w6 hov hgv hvv; rw [HE.out] at hov; have HO6 := Lib.hid hov; have HG6 := Lib.hid hgv; clear hov hgv hvv; refine Stop.out ?_)
        unfold Stop
        obtain ⟨g6, c6, rfl, hgB, hg6, hc6⟩ := HO6.out.form (by rw [someT_len]; omega)
        rw [someT_len] at HO6 hc6 ⊢
        have HCM : Hid (c6 ≤ maxLen) := Lib.hid (by
          obtain ⟨xs, h1, _⟩ := HO6.out
          rcases h1.2 with ⟨h2, _⟩ | ⟨g, cap, cur, h2, _, _, _, h3, _⟩
          · cases h2
          · injection h2 with _ _ h4
            omega)
        have HCc : Hid (k + 1 ≤ c6 ∧ W.heap.size ≤ g6 ∧ g6 < w6.heap.size) := Lib.hid ⟨hc6, hgB, hg6⟩
        have HC6 : Hid (ChgD W w6 w.heap.size w.heap.size) := Lib.hid ((HC.out.more HBX.out).grow HG6.out (fun j hj => (HO.out.base _ hj).1))
        have HB6 : Hid (Below w.heap.size w w6) := Lib.hid (HBW.out.trans (HC6.out.below (Nat.le_of_lt HWs.out) (Nat.le_refl _) (Nat.le_refl _)))
        have HF6 : Hid (w6.heap[w.heap.size]? = wr.heap[w.heap.size]?) := Lib.hid ((HG6.out.block _ (Nat.lt_of_lt_of_le HWs.out HWx.out) (fun e => by have h1 := (HO.out.base _ e.symm).1; have h2 := HWs.out; omega)).trans (HBX.out.block _ (Nat.lt_of_lt_of_le HWs.out HC.out.size)))
        clear hgB hg6 hc6 HLen HWx HGL HNE HE HO5 HR5 hwr
        rcases Nat.eq_zero_or_pos k with h0 | h0
        · subst h0
          have hv := HN.out rfl
          injection hv with hA _ hc
          subst hA
          subst hc
          obtain rfl : r = at_ := by have := HR.out; omega
          have HT6 : Hid (Txt w6 (some ⟨wr.heap.size, 0, none⟩) (S r)) := Lib.hid ((HT5.out.below (below_alloc w5 _)).below ((Below.refl _ _).grown HG6.out (Nat.le_refl _) (fun j hj => by cases hj)))
          obtain ⟨s1, n1, u1, hh⟩ := HH.out
          rw [← HF6.out] at hh
          have HX6 := Lib.hid hh
          obtain ⟨s, nn, u, q, hb, hq, hs⟩ := begin_is (S r)
          have HBg : Hid (∀ A cc W, Txt W A (S r) → 64 ≤ cc → Calls Try.prog 48 #[.slice A 64 cc] W fun e w' => e = .returned (.tuple #[headV s nn u, .bool q]) ∧ Below W.heap.size W w') := Lib.hid fun A cc W h1 h2 => by
            have := code_begin (S r) A cc W h1 (by rw [HS64.out]; exact h2)
            rwa [hb, HS64.out] at this
          have HQ := Lib.hid (And.intro hq hs)
          clear hb hq hs hh HI HN HH HT5 HBX HG6 HF6 HB5
          unfold headV at HBg
          go_wp2_with (first
            | (go_at_call 48; refine (HBg.out _ _ _ HT6.out (Nat.le_refl _)).mono ?_; rintro e w7 ⟨rfl, hb7⟩; have HB7 := Lib.hid hb7; clear hb7; refine Stop.out ?_))
          unfold Stop
          have HX7 := Lib.hid (heap_on HB7.out HX6.out)
          go_wp2_with ((with_reducible refine wpList_store_row 96 (o := ⟨none, _, _, _, _, _⟩) ?a1 (.tmp 6) (.tmp 46) ?a2 w.heap.size ?a3 [.int .i64 s, .int .i64 nn, .int .u32 u] ?a4 ?a5 ?a6 #[.int .i64 s1, .int .i64 n1, .int .u32 u1] ?a7 96 ?a8 ?_); (case a1 => rfl); (case a2 => rfl); (case a3 => rfl); (case a4 => kernel_rfl); (case a5 => exact one3 _ _ _ _ _ _); (case a6 => rfl); (case a7 => rfl); (case a8 => exact HX7.out); (try simp only [Act.put]); refine Stop.out ?_)
          unfold Stop
          have HX8 : Hid ((w7.setRow w.heap.size [.int .i64 s, .int .i64 nn, .int .u32 u].toArray).heap[w.heap.size]? = some (headO s nn u)) := Lib.hid (setRow_heap _ _ _ _ _ _ HX7.out)
          have HC8 : Hid (ChgD W (w7.setRow w.heap.size [.int .i64 s, .int .i64 nn, .int .u32 u].toArray) w.heap.size w.heap.size) := Lib.hid ((HC6.out.more HB7.out).box _)
          have HO8 : Hid (OwnT W.heap.size (.slice (some ⟨g6, 0, none⟩) (0 + 1) c6) (someT S r (0 + 1)) (w7.setRow w.heap.size [.int .i64 s, .int .i64 nn, .int .u32 u].toArray)) := Lib.hid ((HO6.out.on HB7.out).head HWs.out HX7.out (by simp [World.setRow]) (fun j hj hne => setRow_other _ _ _ _ hne))
          generalize (w7.setRow w.heap.size [.int .i64 s, .int .i64 nn, .int .u32 u].toArray) = w8 at HX8 HC8 HO8 ⊢
          have HB8 : Hid (Below w.heap.size w w8) := Lib.hid (HBW.out.trans (HC8.out.below (Nat.le_of_lt HWs.out) (Nat.le_refl _) (Nat.le_refl _)))
          have HOv8 : Hid (OwnT (w.heap.size + 1) (.slice Av ll cv) L w8) := Lib.hid (HOv.out.head (Nat.lt_succ_self _) HX0.out HC8.out.size (fun j hj hne => HC8.out.block j hj hne hne))
          clear HB7 HX7 HC6 HB6 HT6 HX6 HBg HO6
          cases q with
          | false =>
            have HT : Hid (findT S m = (L, r)) := Lib.hid (look_end HLk.out (batch_none (fun ⟨_, q2, _, _⟩ => by have h1 := HQ.out.1; rw [q2] at h1; cases h1)))
            go_wp2
            refine wp_goto ?_
            exact Or.inl ⟨rfl, 0, by omega, r, L, .slice Av ll cv, .slice (some ⟨g6, 0, none⟩) 1 c6, rfl, (FrF.of (by kernel_rfl)), Lib.hid ⟨HT.out, HOv8.out, HB8.out⟩⟩
          | true =>
            obtain ⟨rfl, rfl, rfl⟩ := HQ.out.2 rfl
            have hbig := need_big HQ.out.1.symm
            have HNe := Lib.hid (code_need (lenB (S r)))
            rw [need_is HQ.out.1.symm] at HNe
            obtain ⟨y0, y1, y2⟩ := head_cells HX8.out
            obtain ⟨nt, hnt⟩ : ∃ nt, nt = needT (S r) := ⟨_, rfl⟩
            rw [← hnt] at HNe hbig
            have HNT := Lib.hid hnt
            clear hnt
            have hl1 : wrap64 ((ll : Int) + 1) = (ll : Int) + 1 := by have := HLm.out; have := HM.out; unfold wrap64; omega
            have hn1 : ((1 : Int) == (nt : Int)) = false := beq_false_of_ne (by omega)
            have hn2 : ¬ (1 : Int) = (nt : Int) := by omega
            clear hbig
            by_cases hsq : seqB (S r) = (ll : Int) + 1
            · have HSQ := Lib.hid hsq
              have hs1 : (seqB (S r) != (ll : Int) + 1) = false := by rw [hsq]; simp
              have HX9 := Lib.hid HX8.out
              clear HX8
              generalize hln : (lenB (S r) : Int) = nn at *
              generalize hsm : (sumB (S r) : Int) = u at *
              generalize hsg : seqB (S r) = s at *
              have HSG := Lib.hid (And.intro hsg (And.intro hln hsm))
              clear hsg hln hsm hsq
              go_wp2_with (go_at_call 49; refine (HNe.out _).mono ?_; rintro e w9 ⟨rfl, rfl⟩)
              go_roundw
              case rel => exact ⟨rfl, rfl, rfl, 1, _, _, rfl, by have := HRm.out; omega, HO8, HC8, Lib.hid (fun e => absurd e (by decide)), Lib.hid (fun _ => ⟨HQ.out.1.symm, by rw [HSG.out.1, HSQ.out, ← HLL.out]; rfl, by have h1 := need_big HQ.out.1.symm; omega, by rw [HSG.out.1, HSG.out.2.1, HSG.out.2.2]; exact HX9.out⟩), Lib.hid ⟨_, _, _, HX9.out⟩⟩
              case measure => exact pagesLeft_next _ _ 0 _ _ (by decide)
            · have HT : Hid (findT S m = (L, r)) := Lib.hid (look_end HLk.out (batch_none (fun ⟨_, _, q3, _⟩ => hsq (by rw [q3, ← HLL.out]; rfl))))
              have hs1 : (seqB (S r) != (ll : Int) + 1) = true := by rw [bne_iff_ne]; exact hsq
              generalize (lenB (S r) : Int) = nn at *
              generalize (sumB (S r) : Int) = u at *
              generalize seqB (S r) = s at *
              go_wp2
              refine wp_goto ?_
              exact Or.inl ⟨rfl, 0, by omega, r, L, .slice Av ll cv, .slice (some ⟨g6, 0, none⟩) 1 c6, rfl, (FrF.of (by kernel_rfl)), Lib.hid ⟨HT.out, HOv8.out, HB8.out⟩⟩
        · obtain ⟨i1, i2, i3, i4⟩ := HI.out h0
          have HIs := Lib.hid (And.intro i1 (And.intro i2 i3))
          have HX6 : Hid (w6.heap[w.heap.size]? = some (headO (seqB (S at_)) (lenB (S at_)) (sumB (S at_)))) := Lib.hid (HF6.out.trans i4)
          have HOv6 : Hid (OwnT (w.heap.size + 1) (.slice Av ll cv) L w6) := Lib.hid (HOv.out.head (Nat.lt_succ_self _) HX0.out HC6.out.size (fun j hj hne => HC6.out.block j hj hne hne))
          have HNe := Lib.hid (code_need (lenB (S at_)))
          rw [need_is i1] at HNe
          have hk1 : ((k + 1 : Nat) : Int) ≠ 1 := by omega
          have HK0 := Lib.hid h0
          obtain ⟨y0, y1, y2⟩ := head_cells HX6.out
          obtain ⟨nt, hnt⟩ : ∃ nt, nt = needT (S at_) := ⟨_, rfl⟩
          rw [← hnt] at HNe
          have HNT := Lib.hid hnt
          obtain ⟨k1, hk⟩ : ∃ k1, k1 = k + 1 := ⟨_, rfl⟩
          rw [← hk] at hk1 HO6 ⊢
          have HK1 := Lib.hid hk
          have hb1 : ((k1 : Int) == 1) = false := beq_false_of_ne hk1
          clear hnt i1 i2 i3 i4 h0 hk HI HF6 HN HH HT5 HBX HG6 HB5
          have HX9 := Lib.hid HX6.out
          clear HX6
          by_cases hkn : k1 = nt
          · subst hkn
            generalize hln : (lenB (S at_) : Int) = nn at *
            generalize hsm : (sumB (S at_) : Int) = u at *
            generalize hsg : seqB (S at_) = s at *
            have HSG := Lib.hid (And.intro hsg (And.intro hln hsm))
            clear hsg hln hsm
            go_wp2_with (go_at_call 49; refine (HNe.out _).mono ?_; rintro e w9 ⟨rfl, rfl⟩)
            refine wp_goto ?_
            have e := HK1.out
            subst e
            exact Or.inr (Or.inl ⟨rfl, 3 * (m + 1 - at_) + 1, by omega, at_, L, .slice Av ll cv, k, g6, c6, rfl, (FrF.of (by kernel_rfl)), Lib.hid ⟨HOv6.out, HO6.out.less HWs.out, HCc.out.1, HCM.out, by rw [HSG.out.1, HSG.out.2.1, HSG.out.2.2]; exact HX9.out, HB6.out, HLk.out, HNT.out, HIs.out.1, by rw [HSG.out.1]; exact HIs.out.2.1, by have h1 := HR.out; have h2 := HRm.out; omega⟩⟩)
          · have hb2 : ((k1 : Int) == (nt : Int)) = false := beq_false_of_ne (by omega)
            have hb3 : ¬ (k1 : Int) = (nt : Int) := by omega
            generalize hln : (lenB (S at_) : Int) = nn at *
            generalize hsm : (sumB (S at_) : Int) = u at *
            generalize hsg : seqB (S at_) = s at *
            have HSG := Lib.hid (And.intro hsg (And.intro hln hsm))
            clear hsg hln hsm
            go_wp2_with (go_at_call 49; refine (HNe.out _).mono ?_; rintro e w9 ⟨rfl, rfl⟩)
            go_roundw
            case rel => exact ⟨rfl, rfl, rfl, k1, _, _, rfl, by have h1 := HR.out; have h2 := HK1.out; have h3 := HRm.out; omega, HO6, HC6, Lib.hid (fun e => by have := HK1.out; omega), Lib.hid (fun _ => ⟨HIs.out.1, by rw [HSG.out.1]; exact HIs.out.2.1, by have h1 := HIs.out.2.2; have h2 := HK1.out; have h3 := HNT.out; omega, by rw [HSG.out.1, HSG.out.2.1, HSG.out.2.2]; exact HX9.out⟩), Lib.hid ⟨_, _, _, HX9.out⟩⟩
            case measure => rw [HK1.out]; exact pagesLeft_next _ _ k _ _ (by have h1 := HR.out; have h2 := HM.out; omega)
      · have hge : (m : Int) ≤ (r : Int) := by omega
        have HQ : Hid (findT S m = (L, at_)) := Lib.hid (look_end HLk.out (batch_none (fun ⟨q1, _, _, q4⟩ => by
          have h1 := HR.out
          by_cases h0 : k = 0
          · omega
          · have h2 := (HI.out (by omega)).2.2.1
            omega)))
        go_wp2_with (go_at_call 46; refine (HLn.out _ HBr.out).mono ?_; rintro e w1 ⟨rfl, rfl⟩)
        refine wp_label ?_
        go_wp2
        rw [jump3_ret]
        go_ret3
        rw [HQ.out]
        exact ⟨_, rfl, (HOv.out.head (Nat.lt_succ_self _) HX0.out HC.out.size (fun j hj hne => HC.out.block j hj hne hne)).less (Nat.le_succ _), HBr.out⟩
end Go.Proofs.Ytfjejiapafdgeaa

namespace Go.Proofs.Ytfjejiapafdgeaa
open Go.RowKit
set_option maxRecDepth 100000
set_option linter.unusedSimpArgs false
set_option linter.unusedVariables false

/-- a disk that no call made: nil, or all nought -/
def NoD (W : World) (p : Value) : Prop := p = .pointer none ∨ ∃ b, p = .pointer (some ⟨b, 0, none⟩) ∧ b < W.heap.size ∧ W.cell? ⟨b, 0, none⟩ = some (.int .i64 0)
theorem NoD.below {W W' : World} {p : Value} (h : NoD W p) (hb : Below W.heap.size W W') : NoD W' p := by
  rcases h with h | ⟨b, e, h1, h2⟩
  · exact .inl h
  · exact .inr ⟨b, e, Nat.lt_of_lt_of_le h1 hb.size, cell_on hb h2⟩
theorem no_len (W : World) (p : Value) (h : NoD W p) : Calls Try.prog 46 #[p] W fun e w' => e = .returned (.int .i64 0) ∧ W = w' := by
  rcases h with rfl | ⟨b, rfl, _, hc⟩
  all_goals (
    go_enter Try.func46, Try.ntmps46
    go_wp2
    go_ret
    exact ⟨rfl, rfl⟩)
theorem no_reach (W : World) (p : Value) (f : Int) (h : NoD W p) : Calls Try.prog 45 #[p, .int .i64 f] W fun e w' => e = .returned (.int .i64 1) ∧ W = w' := by
  have HL := Lib.hid (no_len W p h)
  clear h
  go_enter Try.func45, Try.ntmps45
  go_wp2_with (go_at_call 46; refine HL.out.mono ?_; rintro e w1 ⟨rfl, rfl⟩)
  go_ret
  exact ⟨rfl, rfl⟩
theorem no_dirty (W : World) (p : Value) (f : Int) (h : NoD W p) : Calls Try.prog 17 #[p, .int .i64 f] W fun e w' => e = .returned (.tuple #[.int .i64 0, .int .i64 1]) ∧ W = w' := by
  have HR := Lib.hid (no_reach W p f h)
  clear h
  go_enter Try.func17, Try.ntmps17
  go_wp2_with (go_at_call 45; refine HR.out.mono ?_; rintro e w1 ⟨rfl, rfl⟩)
  go_ret2
  exact ⟨rfl, rfl⟩
attribute [local go_sem] jump3_normal jump3_exit jump3_ret jump3_panic
/-- Find, where the sectors can't be read -/
theorem find_bad (W : World) (p : Value) (x : Int) (hx : x ≠ 0) (h : Calls Try.prog 45 #[p, .int .i64 0] W fun e w' => e = .returned (.int .i64 x) ∧ W = w') :
    Calls Try.prog 15 #[p] W fun e w' => e = .returned (.tuple #[.slice none 0 0, .int .i64 0, .int .i64 x]) ∧ W = w' := by
  have HR := Lib.hid h
  have hv : (x != 0) = true := by simpa using hx
  clear h
  go_enter Try.func15, Try.ntmps15
  go_wp2
  refine wp_scope3f (fun _ _ _ => False) (fun _ _ _ => False) (fun _ _ _ => False) rfl rfl rfl ?first (fun _ _ _ h => h.elim) (fun _ _ _ h => h.elim) (fun _ _ _ h => h.elim)
  intro Z hZ
  clear hZ
  go_wp2_with (go_at_call 45; refine HR.out.mono ?_; rintro e w1 ⟨rfl, rfl⟩)
  rw [jump3_ret]
  go_ret3
  exact ⟨rfl, rfl⟩
theorem dead_find (W : World) (B bm n : Nat) (d : DiskV) (h : Dsk W B bm n d) (hd : d.dead = true) : Calls Try.prog 15 #[.pointer (some ⟨B, 0, none⟩)] W fun e w' => e = .returned (.tuple #[.slice none 0 0, .int .i64 0, .int .i64 32]) ∧ W = w' :=
  find_bad W _ 32 (by decide) (by
    have h1 := code_sreach W B bm n d 0 h
    have h2 : sreachV d 0 = 32 := by unfold sreachV; rw [hd, if_neg (by have := h.2.2.2.2; omega), if_pos rfl]
    rwa [h2] at h1)
/-- two answers, each in a cell of its own -/
theorem results_ints {fn : Func} {p q : Tmp} (h : fn.results = #[.cell p 3, .cell q 33]) (tmps : Array Value) (W : World) (g g' : Nat) (v b : Value) (hp : tmps.getD p undef = .pointer (some ⟨g, 0, none⟩)) (hq : tmps.getD q undef = .pointer (some ⟨g', 0, none⟩))
    (h1 : W.cell? ⟨g, 0, none⟩ = some v) (h2 : W.cell? ⟨g', 0, none⟩ = some b) : (results fn tmps).run Try.prog W = .ok (.tuple #[v, b]) W := by
  have z1 : (isAgg 3).run Try.prog W = .ok false W := by rfl
  have z2 : (isAgg 33).run Try.prog W = .ok false W := by rfl
  have hp' : tmps[p]?.getD undef = .pointer (some ⟨g, 0, none⟩) := by simpa [Array.getD_eq_getD_getElem?] using hp
  have hq' : tmps[q]?.getD undef = .pointer (some ⟨g', 0, none⟩) := by simpa [Array.getD_eq_getD_getElem?] using hq
  simp [results, h, hp', hq', go_sem, loadVar, z1, z2, h1, h2]
theorem wipe_bad (W : World) (p : Option Addr) (f x : Int) (hx : x ≠ 0) (h : ∀ V, Below W.heap.size W V → Calls Try.prog 45 #[.pointer p, .int .i64 f] V fun e w' => e = .returned (.int .i64 x) ∧ V = w') :
    Calls Try.prog 22 #[.pointer p, .int .i64 f] W fun e w' => e = .returned (.tuple #[.int .i64 0, .int .i64 x]) ∧ Below W.heap.size W w' := by
  have HR := Lib.hid h
  have hv : (x != 0) = true := by simpa using hx
  have HB : Hid (Below W.heap.size W (((W.alloc (.cells #[.pointer p] 25)).alloc (.cells #[.int .i64 0] 3)).alloc (.cells #[.int .i64 0] 33))) := Lib.hid (below_then (below_then (below_alloc _ _) (below_alloc _ _)) (below_alloc _ _))
  clear h
  go_enter Try.func22, Try.ntmps22
  go_wp2_with (go_at_call 45; refine (HR.out _ HB.out).mono ?_; rintro e w1 ⟨rfl, rfl⟩)
  have e2 := heap_alloc_new (W.alloc (.cells #[.pointer p] 25)) (.cells #[.int .i64 0] 3)
  have e3 := heap_alloc_new ((W.alloc (.cells #[.pointer p] 25)).alloc (.cells #[.int .i64 0] 3)) (.cells #[.int .i64 x] 33)
  have b3 := below_alloc ((W.alloc (.cells #[.pointer p] 25)).alloc (.cells #[.int .i64 0] 3)) (.cells #[.int .i64 x] 33)
  simp only [World.size_alloc] at e2 e3
  refine bodyPost_ret (results_ints rfl _ _ (W.heap.size + 1) (W.heap.size + 1 + 1) (.int .i64 0) (.int .i64 x) rfl rfl (cell_of_row _ _ 0 _ _ _ (heap_on b3 e2)) (cell_of_row _ _ 0 _ _ _ e3)) rfl ⟨rfl, below_then (below_then (below_alloc _ _) (below_alloc _ _)) (below_alloc _ _)⟩
theorem no_find (W : World) (p : Value) (h : NoD W p) : Calls Try.prog 15 #[p] W fun e w' => e = .returned (.tuple #[.slice none 0 0, .int .i64 0, .int .i64 1]) ∧ W = w' := find_bad W p 1 (by decide) (no_reach W p 0 h)
theorem no_wipe (W : World) (p : Value) (f : Int) (h : NoD W p) : Calls Try.prog 22 #[p, .int .i64 f] W fun e w' => e = .returned (.tuple #[.int .i64 0, .int .i64 1]) ∧ Below W.heap.size W w' := by
  have hr := fun V hb => no_reach V p f (h.below hb)
  rcases h with rfl | ⟨b, rfl, _⟩
  · exact wipe_bad W none f 1 (by decide) hr
  · exact wipe_bad W _ f 1 (by decide) hr
end Go.Proofs.Ytfjejiapafdgeaa
