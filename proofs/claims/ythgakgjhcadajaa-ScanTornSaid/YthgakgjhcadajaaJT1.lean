/- What stands behind a torn batch: plain facts. A torn batch: what the statement leaves out, and the disk on its way. -/
import Derived.Test.YthgakgjhcadajaaJScZ
namespace Go.Proofs.Ythgakgjhcadajaa
open Go.RowKit
set_option maxRecDepth 100000
set_option linter.unusedSimpArgs false
set_option linter.unusedVariables false

theorem find_from {S S3 : Nat → Text} {m : Nat} : ∀ f at_ L, m < f + at_ → at_ ≤ m → (∀ j, at_ ≤ j → j < (findV S m f at_ L).2 → S3 j = S j) → ∃ f', m < f' + (findV S m f at_ L).2 ∧ findV S3 m f at_ L = findV S3 m f' (findV S m f at_ L).2 (findV S m f at_ L).1 := by
  intro f
  induction f with
  | zero => intro at_ L h1 h2; omega
  | succ f ih =>
    intro at_ L h1 h2 h3
    cases hq : batchQ S m at_ (L.length + 1 : Nat) with
    | true =>
      rw [find_next hq] at h3 ⊢
      have hge := find_ge S m f (at_ + needT (S at_)) (L ++ [batchT S at_])
      obtain ⟨q1, q2, q3, q4, q5⟩ := batch_in hq
      obtain ⟨e1, e2, e3⟩ := batch_same hq (fun j q1 q2 => h3 j q1 (by omega))
      rw [find_next e1, e2, e3]
      exact ih _ _ (by omega) q4 (fun j q1 q2 => h3 j (by omega) q2)
    | false =>
      rw [find_end hq]
      exact ⟨f + 1, h1, rfl⟩
theorem endP_blank (s u : Nat) : endP s u ≠ zeros := by
  intro e
  have h : (endP s u)[4]? = some 69 := by
    rw [endP_eq]
    unfold wrapT endB Crc.four
    rfl
  rw [e] at h
  exact absurd h (by decide)
/-- what a head tells -/
theorem headP_is (s n u : Nat) (h1 : 1 ≤ s) (h2 : s ≤ 4611686018427387904) (h3 : 1 ≤ n) (h4 : n ≤ 131072) (h5 : u < 4294967296) : isB (headP s n u) = true ∧ seqB (headP s n u) = s ∧ lenB (headP s n u) = n ∧ sumB (headP s n u) = u := by
  have h := begin_headP s n u h1 h2 h3 h4 h5
  obtain ⟨s', n', u', q, e1, e2, e3⟩ := begin_is (headP s n u)
  rw [h] at e1
  unfold headV at e1
  simp only [Value.tuple.injEq, Array.mk.injEq, List.cons.injEq, Value.agg.injEq, Value.int.injEq, Value.bool.injEq, and_true, true_and] at e1
  obtain ⟨⟨a1, a2, a3⟩, a4⟩ := e1
  obtain ⟨b1, b2, b3⟩ := e3 a4.symm
  refine ⟨by rw [← e2, ← a4], by omega, by omega, by omega⟩
theorem torn_find {S S3 : Nat → Text} {m t pg : Nat} {X : List Text} {b : Text} (hS : findT S m = (X, t)) (ht : t ≤ m) (hX : X.length ≤ 1000) (h1 : ∀ j, j < t → S3 j = S j) (hb1 : 1 ≤ b.length) (hb2 : b.length ≤ 500) (hpg : pg < manyC b + 2) (hn : t + (manyC b + 2) ≤ m)
    (h2 : ∀ i (hi : i < (pagesT (X.length + 1) b).length), i < pg → S3 (t + i) = (pagesT (X.length + 1) b)[i]) (h3 : ∀ j, t + pg < j → j < m → S3 j = zeros) :
    findT S3 m = (X, t) ∨ (pg + 1 = manyC b + 2 ∧ findT S3 m = (X ++ [b], t + (manyC b + 2))) := by
  have hS' : findV S m (m + 1) 0 [] = (X, t) := hS
  obtain ⟨f', hf, e⟩ := find_from (S := S) (S3 := S3) (m := m) (m + 1) 0 [] (by omega) (Nat.zero_le _) (fun j _ hj => by rw [hS'] at hj; exact h1 j hj)
  rw [hS'] at hf e
  have e' : findT S3 m = findV S3 m f' t X := e
  rw [e']
  cases hq : batchQ S3 m t (X.length + 1 : Nat) with
  | false => exact .inl (find_end hq)
  | true =>
    right
    have hq0 := hq
    unfold batchQ at hq0
    simp only [Bool.and_eq_true, decide_eq_true_eq] at hq0
    obtain ⟨p1, p2, p3, p4, p5, p6⟩ := hq0
    have p7 := need_big p2
    have hend : S3 (t + needT (S3 t) - 1) ≠ zeros := by
      intro hz
      rw [hz] at p5
      unfold endOk at p5
      simp only [Bool.and_eq_true, decide_eq_true_eq] at p5
      exact endP_blank _ _ p5.2.symm
    have hk : needT (S3 t) ≤ pg + 1 := by
      apply Classical.byContradiction
      intro h
      exact hend (h3 _ (by omega) (by omega))
    have hlen : (pagesT (X.length + 1) b).length = manyC b + 2 := pagesT_len _ _
    have hh : S3 t = headP (X.length + 1) b.length (sumN b) := h2 0 (by omega) (by omega)
    have hu : sumN b < 4294967296 := (Crc.sumT b).isLt
    obtain ⟨a1, a2, a3, a4⟩ := headP_is (X.length + 1) b.length (sumN b) (by omega) (by omega) hb1 (by omega) hu
    have hneed : needT (S3 t) = manyC b + 2 := by
      rw [hh]
      unfold needT needV manyC
      rw [a3, if_neg (by omega)]
      omega
    rw [hneed] at hk p4
    have hpg' : pg + 1 = manyC b + 2 := by omega
    refine ⟨hpg', ?_⟩
    have hbt : batchT S3 t = b := by
      have hs : someT S3 (t + 1) (manyC b) = cutP b (manyC b) := by
        refine List.ext_getElem (by rw [someT_len, cutP_len]) fun i i1 i2 => ?_
        rw [someT_get, show t + 1 + i = t + (i + 1) by omega, h2 (i + 1) (by rw [hlen]; rw [someT_len] at i1; omega) (by rw [someT_len] at i1; omega)]
        simp only [pagesT, List.getElem_cons_succ]
        exact List.getElem_append_left i2
      unfold batchT
      rw [hneed, show manyC b + 2 - 2 = manyC b by omega, hs, hh, a3]
      exact back_text b
    cases f' with
    | zero => omega
    | succ f' =>
      rw [find_next hq, hbt, hneed]
      refine find_end ?_
      cases hb : batchQ S3 m (t + (manyC b + 2)) ((X ++ [b]).length + 1 : Nat) with
      | false => rfl
      | true =>
        obtain ⟨q1, q2, _⟩ := batch_in hb
        rw [h3 _ (by omega) q1, zeros_noB] at q2
        cases q2
end Go.Proofs.Ythgakgjhcadajaa

namespace Go.Proofs.Ythgakgjhcadajaa
open Go.RowKit
set_option maxRecDepth 100000
set_option linter.unusedSimpArgs false
set_option linter.unusedVariables false

set_option maxHeartbeats 4000000 in
theorem torn_out (many : Int) (L : List PartV) (A : Option Addr) (cap : Nat) (Ab : Option Addr) (lb cb : Nat) (pages torn : Int) (w : World) (hP : PartsAt w A L) (hq : Bool) (hl : lightB many L = hq) (h : hq = false ∨ lb < 1 ∨ 500 < lb ∨ pages < 0 ∨ torn < 0 ∨ 64 < torn) :
    Calls Try.prog 5 #[.int .i64 many, .slice A L.length cap, .slice Ab lb cb, .int .i64 pages, .int .i64 torn] w fun e w' => e = .returned (.bool true) ∧ Below w.heap.size w w' := by
  have HLi := Lib.hid (code_light many L A cap w hP)
  have HLv := Lib.hid scan_lives
  rw [hl] at HLi
  clear hl hP
  cases hq with
  | false =>
    clear h
    go_enter Try.func5, Try.ntmps5
    go_wp2_with (first
      | (go_at_call 11; refine HLi.out.mono ?_; rintro e w1 ⟨rfl, hb1⟩; have HB1 := Lib.hid hb1; clear hb1)
      | (go_at_call 12; refine (HLv.out _).mono ?_; rintro e w2 ⟨rfl, hb2⟩; have HB2 := Lib.hid (below_then HB1.out hb2); clear hb2))
    go_ret
    exact ⟨rfl, HB2.out⟩
  | true =>
    have h : (lb : Int) < 1 ∨ ((1 : Int) ≤ lb ∧ (500 : Int) < lb) ∨ ((1 : Int) ≤ lb ∧ (lb : Int) ≤ 500 ∧ pages < 0) ∨ ((1 : Int) ≤ lb ∧ (lb : Int) ≤ 500 ∧ 0 ≤ pages ∧ torn < 0) ∨ ((1 : Int) ≤ lb ∧ (lb : Int) ≤ 500 ∧ 0 ≤ pages ∧ 0 ≤ torn ∧ 64 < torn) := by
      rcases h with h | h
      · cases h
      · omega
    rcases h with i1 | ⟨i1, i2⟩ | ⟨i1, i2, i3⟩ | ⟨i1, i2, i3, i4⟩ | ⟨i1, i2, i3, i4, i5⟩
    all_goals (
      go_enter Try.func5, Try.ntmps5
      go_wp2_with (first
        | (go_at_call 11; refine HLi.out.mono ?_; rintro e w1 ⟨rfl, hb1⟩; have HB1 := Lib.hid hb1; clear hb1)
        | (go_at_call 12; refine (HLv.out _).mono ?_; rintro e w2 ⟨rfl, hb2⟩; have HB2 := Lib.hid (below_then HB1.out hb2); clear hb2))
      go_ret
      exact ⟨rfl, HB2.out⟩)
/-- some sectors of a batch laid from a sector on -/
def putL (d : DiskV) (t : Nat) (P : List Text) : Nat → DiskV
  | 0 => d
  | k + 1 => writeD (putL d t P k) ((t + k : Nat) : Int) (P.getD k [])
theorem putL_facts (d : DiskV) (t : Nat) (P : List Text) (h64 : ∀ T ∈ P, T.length = 64) (hd : d.dead = false) (hs : d.set = false) (ho : OkD d) (hm : t + P.length ≤ d.many) (h64d : ∀ i, i < d.many → (d.S i).length = 64) : ∀ k, k ≤ P.length →
    (putL d t P k).many = d.many ∧ (putL d t P k).dead = false ∧ (putL d t P k).set = false ∧ OkD (putL d t P k) ∧ (putL d t P k).writes = d.writes + k ∧ ∀ j, (putL d t P k).S j = if t ≤ j ∧ j < t + k then P.getD (j - t) [] else d.S j := by
  intro k
  induction k with
  | zero => intro _; exact ⟨rfl, hd, hs, ho, by simp [putL], fun j => by rw [if_neg (by omega)]; rfl⟩
  | succ k ih =>
    intro hk
    obtain ⟨a1, a2, a3, a4, a5, a6⟩ := ih (by omega)
    have hT : (P.getD k []).length = 64 := by
      rw [List.getD_eq_getElem?_getD, List.getElem?_eq_getElem (by omega)]
      exact h64 _ (List.getElem_mem _)
    obtain ⟨e, _⟩ := writeD_plain (d := putL d t P k) (k := t + k) (T := P.getD k []) (by rw [a1]; omega) a2 a3 hT
    have e' : putL d t P (k + 1) = _ := e
    have e2 : putL d t P (k + 1) = writeD (putL d t P k) ((t + k : Nat) : Int) (P.getD k []) := rfl
    refine ⟨by rw [e2, writeD_many, a1], by rw [e']; exact a2, by rw [e']; exact a3, by rw [e2]; exact writeD_ok _ _ _ a4, ?_, fun j => ?_⟩
    · rw [e']
      show (putL d t P k).writes + 1 = _
      rw [a5]
      omega
    · rw [e']
      show (if j = t + k then overP ((putL d t P k).S (t + k)) (P.getD k []) else (putL d t P k).S j) = _
      by_cases hj : j = t + k
      · subst hj
        rw [if_pos rfl, if_pos (by omega), show t + k - t = k by omega]
        unfold overP
        rw [List.take_of_length_le (by omega), List.drop_of_length_le]
        · simp
        · have : ((putL d t P k).S (t + k)).length = 64 := by rw [a6, if_neg (by omega)]; exact h64d _ (by omega)
          omega
      · rw [if_neg hj, a6]
        by_cases hjk : t ≤ j ∧ j < t + k
        · rw [if_pos hjk, if_pos (by omega)]
        · rw [if_neg hjk, if_neg (by omega)]
theorem write_torn {d : DiskV} {k : Nat} {T : Text} (hk : k < d.many) (hd : d.dead = false) (hT : T.length = 64) (hs : d.set = true) (ha : d.after = 0) :
    writeE d k T = 32 ∧ writeD d k T = { d.lay k (T.take d.torn.toNat) with dead := true, set := false, after := 0, torn := 0 } := by
  have hz : reachV d k = 0 := by unfold reachV; rw [hd, if_neg (by decide), if_neg (by omega)]
  constructor
  · unfold writeE
    rw [if_neg (by omega), if_neg (by omega), if_pos ⟨hs, ha⟩]
  · unfold writeD
    rw [if_neg (by omega), if_neg (by omega), if_pos ⟨hs, ha⟩, Int.toNat_natCast]
/-- power goes while a sector is written, and comes back -/
def tornD (d : DiskV) (t pg : Nat) (P : List Text) (torn : Int) : DiskV :=
  { (putL d t P pg) with S := fun j => if j = t + pg then overP ((putL d t P pg).S (t + pg)) ((P.getD pg []).take torn.toNat) else (putL d t P pg).S j, dead := false, set := false, after := 0, torn := 0 }
theorem tornD_S {d : DiskV} {t pg m : Nat} {P : List Text} {torn : Int} (h64 : ∀ T ∈ P, T.length = 64) (hd : d.dead = false) (hs : d.set = false) (ho : OkD d) (hm : t + P.length ≤ d.many) (h64d : ∀ i, i < d.many → (d.S i).length = 64) (hpg : pg < P.length) :
    (∀ j, j < t → (tornD d t pg P torn).S j = d.S j) ∧ (∀ i (hi : i < P.length), i < pg → (tornD d t pg P torn).S (t + i) = P[i]) ∧ (∀ j, t + pg < j → (tornD d t pg P torn).S j = d.S j) := by
  obtain ⟨_, _, _, _, _, a6⟩ := putL_facts d t P h64 hd hs ho hm h64d pg (by omega)
  refine ⟨fun j hj => ?_, fun i hi hip => ?_, fun j hj => ?_⟩
  · show (if j = t + pg then _ else (putL d t P pg).S j) = _
    rw [if_neg (by omega), a6, if_neg (by omega)]
  · show (if t + i = t + pg then _ else (putL d t P pg).S (t + i)) = _
    rw [if_neg (by omega), a6, if_pos (by omega), show t + i - t = i by omega, List.getD_eq_getElem?_getD, List.getElem?_eq_getElem hi]
    rfl
  · show (if j = t + pg then _ else (putL d t P pg).S j) = _
    rw [if_neg (by omega), a6, if_neg (by omega)]
end Go.Proofs.Ythgakgjhcadajaa
