/- A torn batch: what the statement leaves out, and the disk on its way. Where power goes while a disk is wiped, or while a batch is appended: plain facts. A batch appended while power may go: plain facts. -/
import Derived.Test.YtfjejiapafdgeaaJ43
import Derived.Test.YtfjejiapafdgeaaJ41
namespace Go.Proofs.Ytfjejiapafdgeaa
open Go.RowKit
set_option maxRecDepth 100000
set_option linter.unusedSimpArgs false
set_option linter.unusedVariables false

set_option maxHeartbeats 4000000 in
theorem torn_out (many : Int) (L : List PartV) (A : Option Addr) (cap : Nat) (Ab : Option Addr) (lb cb : Nat) (pages torn : Int) (w : World) (hP : PartsAt w A L) (hq : Bool) (hl : lightB many L = hq) (h : hq = false ∨ lb < 1 ∨ 500 < lb ∨ pages < 0 ∨ torn < 0 ∨ 64 < torn) :
    Calls Try.prog 5 #[.int .i64 many, .slice A L.length cap, .slice Ab lb cb, .int .i64 pages, .int .i64 torn] w fun e w' => e = .returned (.bool true) ∧ Below w.heap.size w w' := by
  have HLi := Lib.hid (code_light many L A cap w hP)
  have HLv := Lib.hid scan_lives
  rw [hl] at HLi
  clear hl hP
  cases hq with
  | false =>
    clear h
    go_enter Try.func5, Try.ntmps5
    go_wp2_with (first
      | (go_at_call 11; refine HLi.out.mono ?_; rintro e w1 ⟨rfl, hb1⟩; have HB1 := Lib.hid hb1; clear hb1)
      | (go_at_call 12; refine (HLv.out _).mono ?_; rintro e w2 ⟨rfl, hb2⟩; have HB2 := Lib.hid (below_then HB1.out hb2); clear hb2))
    go_ret
    exact ⟨rfl, HB2.out⟩
  | true =>
    have h : (lb : Int) < 1 ∨ ((1 : Int) ≤ lb ∧ (500 : Int) < lb) ∨ ((1 : Int) ≤ lb ∧ (lb : Int) ≤ 500 ∧ pages < 0) ∨ ((1 : Int) ≤ lb ∧ (lb : Int) ≤ 500 ∧ 0 ≤ pages ∧ torn < 0) ∨ ((1 : Int) ≤ lb ∧ (lb : Int) ≤ 500 ∧ 0 ≤ pages ∧ 0 ≤ torn ∧ 64 < torn) := by
      rcases h with h | h
      · cases h
      · omega
    rcases h with i1 | ⟨i1, i2⟩ | ⟨i1, i2, i3⟩ | ⟨i1, i2, i3, i4⟩ | ⟨i1, i2, i3, i4, i5⟩
    all_goals (
      go_enter Try.func5, Try.ntmps5
      go_wp2_with (first
        | (go_at_call 11; refine HLi.out.mono ?_; rintro e w1 ⟨rfl, hb1⟩; have HB1 := Lib.hid hb1; clear hb1)
        | (go_at_call 12; refine (HLv.out _).mono ?_; rintro e w2 ⟨rfl, hb2⟩; have HB2 := Lib.hid (below_then HB1.out hb2); clear hb2))
      go_ret
      exact ⟨rfl, HB2.out⟩)
/-- some sectors of a batch laid from a sector on -/
def putL (d : DiskV) (t : Nat) (P : List Text) : Nat → DiskV
  | 0 => d
  | k + 1 => writeD (putL d t P k) ((t + k : Nat) : Int) (P.getD k [])
theorem putL_facts (d : DiskV) (t : Nat) (P : List Text) (h64 : ∀ T ∈ P, T.length = 64) (hd : d.dead = false) (hs : d.set = false) (ho : OkD d) (hm : t + P.length ≤ d.many) (h64d : ∀ i, i < d.many → (d.S i).length = 64) : ∀ k, k ≤ P.length →
    (putL d t P k).many = d.many ∧ (putL d t P k).dead = false ∧ (putL d t P k).set = false ∧ OkD (putL d t P k) ∧ (putL d t P k).writes = d.writes + k ∧ ∀ j, (putL d t P k).S j = if t ≤ j ∧ j < t + k then P.getD (j - t) [] else d.S j := by
  intro k
  induction k with
  | zero => intro _; exact ⟨rfl, hd, hs, ho, by simp [putL], fun j => by rw [if_neg (by omega)]; rfl⟩
  | succ k ih =>
    intro hk
    obtain ⟨a1, a2, a3, a4, a5, a6⟩ := ih (by omega)
    have hT : (P.getD k []).length = 64 := by
      rw [List.getD_eq_getElem?_getD, List.getElem?_eq_getElem (by omega)]
      exact h64 _ (List.getElem_mem _)
    obtain ⟨e, _⟩ := writeD_plain (d := putL d t P k) (k := t + k) (T := P.getD k []) (by rw [a1]; omega) a2 a3 hT
    have e' : putL d t P (k + 1) = _ := e
    have e2 : putL d t P (k + 1) = writeD (putL d t P k) ((t + k : Nat) : Int) (P.getD k []) := rfl
    refine ⟨by rw [e2, writeD_many, a1], by rw [e']; exact a2, by rw [e']; exact a3, by rw [e2]; exact writeD_ok _ _ _ a4, ?_, fun j => ?_⟩
    · rw [e']
      show (putL d t P k).writes + 1 = _
      rw [a5]
      omega
    · rw [e']
      show (if j = t + k then overP ((putL d t P k).S (t + k)) (P.getD k []) else (putL d t P k).S j) = _
      by_cases hj : j = t + k
      · subst hj
        rw [if_pos rfl, if_pos (by omega), show t + k - t = k by omega]
        unfold overP
        rw [List.take_of_length_le (by omega), List.drop_of_length_le]
        · simp
        · have : ((putL d t P k).S (t + k)).length = 64 := by rw [a6, if_neg (by omega)]; exact h64d _ (by omega)
          omega
      · rw [if_neg hj, a6]
        by_cases hjk : t ≤ j ∧ j < t + k
        · rw [if_pos hjk, if_pos (by omega)]
        · rw [if_neg hjk, if_neg (by omega)]
theorem write_torn {d : DiskV} {k : Nat} {T : Text} (hk : k < d.many) (hd : d.dead = false) (hT : T.length = 64) (hs : d.set = true) (ha : d.after = 0) :
    writeE d k T = 32 ∧ writeD d k T = { d.lay k (T.take d.torn.toNat) with dead := true, set := false, after := 0, torn := 0 } := by
  have hz : reachV d k = 0 := by unfold reachV; rw [hd, if_neg (by decide), if_neg (by omega)]
  constructor
  · unfold writeE
    rw [if_neg (by omega), if_neg (by omega), if_pos ⟨hs, ha⟩]
  · unfold writeD
    rw [if_neg (by omega), if_neg (by omega), if_pos ⟨hs, ha⟩, Int.toNat_natCast]
/-- power goes while a sector is written, and comes back -/
def tornD (d : DiskV) (t pg : Nat) (P : List Text) (torn : Int) : DiskV :=
  { (putL d t P pg) with S := fun j => if j = t + pg then overP ((putL d t P pg).S (t + pg)) ((P.getD pg []).take torn.toNat) else (putL d t P pg).S j, dead := false, set := false, after := 0, torn := 0 }
theorem tornD_S {d : DiskV} {t pg m : Nat} {P : List Text} {torn : Int} (h64 : ∀ T ∈ P, T.length = 64) (hd : d.dead = false) (hs : d.set = false) (ho : OkD d) (hm : t + P.length ≤ d.many) (h64d : ∀ i, i < d.many → (d.S i).length = 64) (hpg : pg < P.length) :
    (∀ j, j < t → (tornD d t pg P torn).S j = d.S j) ∧ (∀ i (hi : i < P.length), i < pg → (tornD d t pg P torn).S (t + i) = P[i]) ∧ (∀ j, t + pg < j → (tornD d t pg P torn).S j = d.S j) := by
  obtain ⟨_, _, _, _, _, a6⟩ := putL_facts d t P h64 hd hs ho hm h64d pg (by omega)
  refine ⟨fun j hj => ?_, fun i hi hip => ?_, fun j hj => ?_⟩
  · show (if j = t + pg then _ else (putL d t P pg).S j) = _
    rw [if_neg (by omega), a6, if_neg (by omega)]
  · show (if t + i = t + pg then _ else (putL d t P pg).S (t + i)) = _
    rw [if_neg (by omega), a6, if_pos (by omega), show t + i - t = i by omega, List.getD_eq_getElem?_getD, List.getElem?_eq_getElem hi]
    rfl
  · show (if j = t + pg then _ else (putL d t P pg).S j) = _
    rw [if_neg (by omega), a6, if_neg (by omega)]
end Go.Proofs.Ytfjejiapafdgeaa

namespace Go.Proofs.Ytfjejiapafdgeaa
open Go.RowKit
set_option maxRecDepth 100000
set_option linter.unusedSimpArgs false
set_option linter.unusedVariables false

/-- a sector whose first bytes are wiped -/
def cutZ (P : Text) (k : Nat) : Text := List.replicate k 0 ++ P.drop k
theorem cutZ_zero (P : Text) : cutZ P 0 = P := by simp [cutZ]
theorem cutZ_drop (P : Text) {k j : Nat} (h : k ≤ j) : (cutZ P k).drop j = P.drop j := by
  unfold cutZ
  rw [List.drop_append, List.drop_replicate, List.length_replicate, show k - j = 0 by omega, List.drop_drop, show k + (j - k) = j by omega]
  rfl
theorem zeros_take (j : Nat) : zeros.take j = List.replicate (min j 64) 0 := by unfold zeros; rw [List.take_replicate]
theorem over_cut (P : Text) (k j : Nat) : overP (cutZ P k) (zeros.take j) = cutZ P (max k (min j 64)) := by
  rw [zeros_take]
  generalize hi : min j 64 = i
  have h64 : i ≤ 64 := by omega
  unfold overP
  rw [List.take_replicate, show min 64 i = i by omega, List.length_replicate]
  by_cases h : i ≤ k
  · rw [Nat.max_eq_left h]
    unfold cutZ
    rw [List.drop_append, List.drop_replicate, List.length_replicate, show i - k = 0 by omega, List.drop_zero, ← List.append_assoc, List.replicate_append_replicate, show i + (k - i) = k by omega]
  · rw [Nat.max_eq_right (by omega), cutZ_drop P (by omega)]
    rfl
theorem over_zeros (j : Nat) : overP zeros (zeros.take j) = zeros := by
  have h := over_cut zeros 0 j
  rw [cutZ_zero] at h
  rw [h]
  unfold cutZ zeros
  rw [List.drop_replicate, List.replicate_append_replicate]
  congr 1
  omega
theorem headP_mark (s n u : Nat) : (headP s n u)[4]? = some 72 := by
  rw [headP_eq]
  unfold wrapT headB Crc.four
  rfl
/-- a head whose first bytes are wiped is as it was, or no head -/
theorem head_cut {P : Text} {k : Nat} (hB : isB P = true) (hne : cutZ P k ≠ P) : isB (cutZ P k) = false := by
  cases hq : isB (cutZ P k) with
  | false => rfl
  | true =>
    exfalso
    unfold isB at hB hq
    simp only [Bool.and_eq_true, decide_eq_true_eq] at hB hq
    by_cases h : k ≤ 4
    · have e1 : seqB (cutZ P k) = seqB P := by unfold seqB; rw [cutZ_drop P (by omega)]
      have e2 : lenB (cutZ P k) = lenB P := by unfold lenB; rw [cutZ_drop P (by omega)]
      have e3 : sumB (cutZ P k) = sumB P := by unfold sumB; rw [cutZ_drop P (by omega)]
      have e := hq.2
      rw [e1, e2, e3] at e
      exact hne (e.trans hB.2.symm)
    · have h1 := headP_mark (seqB (cutZ P k)).toNat (lenB (cutZ P k)) (sumB (cutZ P k))
      rw [← hq.2] at h1
      unfold cutZ at h1
      rw [List.getElem?_append_left (by rw [List.length_replicate]; omega), List.getElem?_replicate, if_pos (by omega)] at h1
      exact absurd h1 (by decide)
def setT (S : Nat → Text) (t : Nat) (P : Text) : Nat → Text := fun j => if j = t then P else S j
/-- behind the tail all is blank; or the tail's sector is; or that one is a head, perhaps with its first bytes wiped, whose batch is not whole -/
def RestI (S : Nat → Text) (m t : Nat) (q : Int) : Prop :=
  (∀ j, t < j → j < m → S j = zeros) ∨ S t = zeros ∨ ∃ P k, S t = cutZ P k ∧ isB P = true ∧ batchQ (setT S t P) m t q = false
theorem endOk_blank (s u : Int) : endOk zeros s u = false := by
  cases h : endOk zeros s u with
  | false => rfl
  | true =>
    unfold endOk at h
    simp only [Bool.and_eq_true, decide_eq_true_eq] at h
    exact absurd h.2.symm (endP_blank _ _)
theorem rest_no {S : Nat → Text} {m t : Nat} {q : Int} (h : RestI S m t q) : batchQ S m t q = false := by
  cases hb : batchQ S m t q with
  | false => rfl
  | true =>
    exfalso
    obtain ⟨b1, b2, b3, b4, b5⟩ := batch_in hb
    rcases h with h | h | ⟨P, k, h1, h2, h3⟩
    · have hb2 := hb
      unfold batchQ at hb2
      simp only [Bool.and_eq_true, decide_eq_true_eq] at hb2
      have he := hb2.2.2.2.2.1
      rw [h (t + needT (S t) - 1) (by omega) (by omega), endOk_blank] at he
      exact absurd he (by decide)
    · rw [h, zeros_noB] at b2
      exact absurd b2 (by decide)
    · by_cases he : cutZ P k = P
      · rw [he] at h1
        have e : setT S t P = S := by
          funext j
          unfold setT
          by_cases hj : j = t
          · rw [if_pos hj, hj, h1]
          · rw [if_neg hj]
        rw [e, hb] at h3
        exact absurd h3 (by decide)
      · rw [h1, head_cut h2 he] at b2
        exact absurd b2 (by decide)
/-- wherever a wipe was cut, these batches stand there, up to there -/
structure InvI (S : Nat → Text) (m : Nat) (X : List Text) (t : Nat) : Prop where
  le : t ≤ m
  lead : ∃ S0, findT S0 m = (X, t) ∧ ∀ j, j < t → S j = S0 j
  rest : RestI S m t (X.length + 1 : Nat)
theorem InvI.find {S : Nat → Text} {m : Nat} {X : List Text} {t : Nat} (h : InvI S m X t) : findT S m = (X, t) := by
  obtain ⟨S0, h1, h2⟩ := h.lead
  have h1' : findV S0 m (m + 1) 0 [] = (X, t) := h1
  obtain ⟨f', hf, e⟩ := find_from (S := S0) (S3 := S) (m := m) (m + 1) 0 [] (by omega) (Nat.zero_le _) (fun j _ hj => by rw [h1'] at hj; exact h2 j hj)
  rw [h1'] at e
  have e' : findT S m = findV S m f' t X := e
  rw [e']
  exact find_end (rest_no h.rest)
theorem InvI.of_find {S : Nat → Text} {m : Nat} {X : List Text} {t : Nat} (h : findT S m = (X, t)) (hr : RestI S m t (X.length + 1 : Nat)) : InvI S m X t :=
  ⟨by have := findT_le S m; rw [h] at this; exact this, ⟨S, h, fun _ _ => rfl⟩, hr⟩
/-- what a write may leave -/
theorem writeD_S (d : DiskV) (i : Nat) (T : Text) : (writeD d i T).S = d.S ∨ ∃ k, (writeD d i T).S = fun j => if j = i then overP (d.S i) (T.take k) else d.S j := by
  unfold writeD
  by_cases h1 : reachV d i ≠ 0
  · rw [if_pos h1]; exact .inl rfl
  · rw [if_neg h1]
    by_cases h2 : T.length ≠ 64
    · rw [if_pos h2]; exact .inl rfl
    · rw [if_neg h2, Int.toNat_natCast]
      by_cases h3 : d.set = true ∧ d.after = 0
      · rw [if_pos h3]; exact .inr ⟨d.torn.toNat, rfl⟩
      · rw [if_neg h3]
        refine .inr ⟨64, ?_⟩
        rw [List.take_of_length_le (by omega)]
        rfl
theorem writeD_at {d : DiskV} {i j : Nat} {T : Text} (h : j ≠ i) : (writeD d i T).S j = d.S j := by
  rcases writeD_S d i T with e | ⟨k, e⟩
  · rw [e]
  · rw [e]
    show (if j = i then _ else _) = _
    rw [if_neg h]
theorem wipe_low {t : Nat} : ∀ (L : List Nat) (d : DiskV) (n : Nat), (∀ i ∈ L, t ≤ i) → ∀ j, j < t → (wipeL d n L).1.S j = d.S j
  | [], _, _, _, _, _ => rfl
  | i :: L, d, n, h, j, hj => by
    have hi := h i (List.mem_cons_self ..)
    by_cases he : writeE d (i : Nat) zeros = 0
    · have e : wipeL d n (i :: L) = wipeL (writeD d (i : Nat) zeros) (n + 1) L := if_pos he
      rw [e, wipe_low L _ _ (fun x hx => h x (List.mem_cons_of_mem _ hx)) j hj, writeD_at (by omega)]
    · have e : wipeL d n (i :: L) = (writeD d (i : Nat) zeros, 0, writeE d (i : Nat) zeros) := if_neg he
      rw [e]
      exact writeD_at (by omega)
theorem wipe_blank {t : Nat} : ∀ (L : List Nat) (d : DiskV) (n : Nat), d.S t = zeros → (wipeL d n L).1.S t = zeros
  | [], _, _, h => h
  | i :: L, d, n, h => by
    have hw : (writeD d (i : Nat) zeros).S t = zeros := by
      rcases writeD_S d i zeros with e | ⟨k, e⟩
      · rw [e, h]
      · rw [e]
        show (if t = i then _ else _) = _
        by_cases ht : t = i
        · subst ht; rw [if_pos rfl, h, over_zeros]
        · rw [if_neg ht, h]
    by_cases he : writeE d (i : Nat) zeros = 0
    · have e : wipeL d n (i :: L) = wipeL (writeD d (i : Nat) zeros) (n + 1) L := if_pos he
      rw [e]
      exact wipe_blank L _ _ hw
    · have e : wipeL d n (i :: L) = (writeD d (i : Nat) zeros, 0, writeE d (i : Nat) zeros) := if_neg he
      rw [e]
      exact hw
theorem dirty_ge (S : Nat → Text) (t m : Nat) : ∀ i ∈ dirtyL S t m, t ≤ i := fun i hi => by
  have := (List.mem_filter.1 hi).2
  unfold dirtyQ at this
  simp only [Bool.and_eq_true, decide_eq_true_eq] at this
  exact this.1
theorem dirty_low (S : Nat → Text) (t : Nat) : ∀ m, m ≤ t → dirtyL S t m = [] := fun m hm => List.filter_eq_nil_iff.2 fun j hj => by
  have := List.mem_range.1 hj
  unfold dirtyQ
  rw [decide_eq_false (by omega)]
  simp
/-- a wipe, wherever it is cut, leaves what stands there as it is -/
theorem wipe_inv {d : DiskV} {X : List Text} {t : Nat} (hI : InvI d.S d.many X t) (hd : d.dead = false) (h64 : ∀ i, i < d.many → (d.S i).length = 64) :
    InvI (wipeL d 0 (dirtyL d.S t d.many)).1.S d.many X t := by
  obtain ⟨S0, h1, h2⟩ := hI.lead
  refine ⟨hI.le, ⟨S0, h1, fun j hj => (wipe_low _ _ _ (dirty_ge _ _ _) j hj).trans (h2 j hj)⟩, ?_⟩
  by_cases hz : d.S t = zeros
  · exact .inr (.inl (wipe_blank _ _ _ hz))
  by_cases htm : t < d.many
  · have hq : dirtyQ d.S t t = true := by unfold dirtyQ; simp [hz]
    obtain ⟨more, em⟩ := dirtyL_split d.S t d.many t htm hq
    rw [em, dirty_low d.S t t (Nat.le_refl _), List.nil_append]
    by_cases he : writeE d (t : Nat) zeros = 0
    · have e : wipeL d 0 (t :: more) = wipeL (writeD d (t : Nat) zeros) (0 + 1) more := if_pos he
      rw [e]
      refine .inr (.inl (wipe_blank _ _ _ ?_))
      rw [write_going htm hd zeros_len he]
      show (if t = t then overP (d.S t) zeros else _) = _
      rw [if_pos rfl, overP_full (h64 t htm) zeros_len]
    · have e : wipeL d 0 (t :: more) = (writeD d (t : Nat) zeros, 0, writeE d (t : Nat) zeros) := if_neg he
      rw [e]
      show RestI (writeD d (t : Nat) zeros).S d.many t _
      rcases writeD_S d t zeros with e2 | ⟨k, e2⟩
      · rw [e2]; exact hI.rest
      · have hoth : ∀ j, j ≠ t → (writeD d (t : Nat) zeros).S j = d.S j := fun j hj => writeD_at hj
        have hat : (writeD d (t : Nat) zeros).S t = overP (d.S t) (zeros.take k) := by
          rw [e2]
          show (if t = t then _ else _) = _
          rw [if_pos rfl]
        rcases hI.rest with h | h | ⟨P, k0, q1, q2, q3⟩
        · exact .inl fun j hj hm => (hoth j (by omega)).trans (h j hj hm)
        · exact absurd h hz
        · refine .inr (.inr ⟨P, max k0 (min k 64), by rw [hat, q1, over_cut], q2, ?_⟩)
          have es : setT (writeD d (t : Nat) zeros).S t P = setT d.S t P := by
            funext j
            unfold setT
            by_cases hj : j = t
            · rw [if_pos hj, if_pos hj]
            · rw [if_neg hj, if_neg hj, hoth j hj]
          rw [es]
          exact q3
  · rw [dirty_low d.S t d.many (by omega)]
    exact hI.rest
theorem wr64 {d : DiskV} {i : Nat} {T : Text} (h : ∀ k, k < d.many → (d.S k).length = 64) : ∀ k, k < d.many → ((writeD d i T).S k).length = 64 := fun k hk => by
  rcases writeD_S d i T with e | ⟨j, e⟩
  · rw [e]; exact h k hk
  · rw [e]
    show (if k = i then _ else _ : Text).length = 64
    by_cases hi : k = i
    · rw [if_pos hi]; exact overP_len (by rw [← hi]; exact h k hk)
    · rw [if_neg hi]; exact h k hk
theorem wipe_keeps : ∀ (L : List Nat) (d : DiskV) (n : Nat), OkD d → (∀ k, k < d.many → (d.S k).length = 64) →
    (wipeL d n L).1.many = d.many ∧ OkD (wipeL d n L).1 ∧ (wipeL d n L).1.writes ≤ d.writes + L.length ∧ (∀ k, k < d.many → ((wipeL d n L).1.S k).length = 64)
  | [], d, n, h, h64 => ⟨rfl, h, by show d.writes ≤ d.writes + ((0 : Nat) : Int); omega, h64⟩
  | i :: L, d, n, h, h64 => by
    have hw := writeD_writes d (i : Nat) zeros
    have hm := writeD_many d (i : Nat) zeros
    by_cases he : writeE d (i : Nat) zeros = 0
    · have e : wipeL d n (i :: L) = wipeL (writeD d (i : Nat) zeros) (n + 1) L := if_pos he
      rw [e]
      obtain ⟨q1, q2, q3, q4⟩ := wipe_keeps L (writeD d (i : Nat) zeros) (n + 1) (writeD_ok _ _ _ h) (by rw [hm]; exact wr64 h64)
      refine ⟨q1.trans hm, q2, ?_, by rw [hm] at q4; exact q4⟩
      rw [List.length_cons]
      omega
    · have e : wipeL d n (i :: L) = (writeD d (i : Nat) zeros, 0, writeE d (i : Nat) zeros) := if_neg he
      rw [e]
      refine ⟨hm, writeD_ok _ _ _ h, ?_, wr64 h64⟩
      rw [List.length_cons]
      show (writeD d (i : Nat) zeros).writes ≤ _
      omega
end Go.Proofs.Ytfjejiapafdgeaa

namespace Go.Proofs.Ytfjejiapafdgeaa
open Go.RowKit
set_option maxRecDepth 100000
set_option linter.unusedSimpArgs false
set_option linter.unusedVariables false

/-- what is put stands there, as far as power went -/
theorem putF_fuse : ∀ (L : List Text) (d : DiskV) (t : Nat), (∀ T ∈ L, T.length = 64) → d.dead = false → t + L.length ≤ d.many → (∀ i, i < d.many → (d.S i).length = 64) →
    ((putF d t L).2 = 0 ∧ (putF d t L).1.dead = false ∧ ∀ j, (putF d t L).1.S j = if t ≤ j ∧ j < t + L.length then L.getD (j - t) [] else d.S j) ∨
    ((putF d t L).2 = 32 ∧ (putF d t L).1.dead = true ∧ ∃ pg T', pg < L.length ∧ ∀ j, (putF d t L).1.S j = if t ≤ j ∧ j < t + pg then L.getD (j - t) [] else if j = t + pg then T' else d.S j) := by
  intro L
  induction L with
  | nil =>
    intro d t _ hd _ _
    refine .inl ⟨rfl, hd, fun j => ?_⟩
    rw [if_neg (by simp only [List.length_nil]; omega)]
    rfl
  | cons T L ih =>
    intro d t h64 hd hm hS
    have hm' : t + (L.length + 1) ≤ d.many := hm
    have hT : T.length = 64 := h64 T (List.mem_cons_self ..)
    by_cases he : writeE d (t : Nat) T = 0
    · have e : putF d t (T :: L) = putF (writeD d (t : Nat) T) (t + 1) L := if_pos he
      have hw := write_going (by omega) hd hT he
      have hmw := writeD_many d (t : Nat) T
      have hdw : (writeD d (t : Nat) T).dead = false := by rw [hw]; exact hd
      have hSw : ∀ j, (writeD d (t : Nat) T).S j = if j = t then T else d.S j := fun j => by
        rw [hw]
        show (if j = t then overP (d.S t) T else d.S j) = _
        rw [overP_full (hS t (by omega)) hT]
      rw [e]
      rcases ih (writeD d (t : Nat) T) (t + 1) (fun T' hT' => h64 T' (List.mem_cons_of_mem _ hT')) hdw (by rw [hmw]; omega) (by rw [hmw]; exact wr64 hS) with ⟨a1, a2, a3⟩ | ⟨a1, a2, pg, T', a3, a4⟩
      · refine .inl ⟨a1, a2, fun j => ?_⟩
        rw [a3, hSw, List.length_cons]
        by_cases h0 : j = t
        · subst h0
          rw [if_neg (by omega), if_pos rfl, if_pos (by omega), Nat.sub_self]
          rfl
        · by_cases h1 : t + 1 ≤ j ∧ j < t + 1 + L.length
          · rw [if_pos h1, if_pos (by omega), show j - t = (j - (t + 1)) + 1 by omega]
            rfl
          · rw [if_neg h1, if_neg h0, if_neg (by omega)]
      · refine .inr ⟨a1, a2, pg + 1, T', by rw [List.length_cons]; omega, fun j => ?_⟩
        rw [a4, hSw]
        by_cases h0 : j = t
        · subst h0
          rw [if_neg (by omega), if_neg (by omega), if_pos rfl, if_pos (by omega), Nat.sub_self]
          rfl
        · by_cases h1 : t + 1 ≤ j ∧ j < t + 1 + pg
          · rw [if_pos h1, if_pos (by omega), show j - t = (j - (t + 1)) + 1 by omega]
            rfl
          · by_cases h2 : j = t + 1 + pg
            · rw [if_neg h1, if_pos h2, if_neg (by omega), if_pos (by omega)]
            · rw [if_neg h1, if_neg h2, if_neg h0, if_neg (by omega), if_neg (by omega)]
    · have e : putF d t (T :: L) = (writeD d (t : Nat) T, writeE d (t : Nat) T) := if_neg he
      have hz : reachV d t = 0 := by unfold reachV; rw [hd, if_neg (by decide), if_neg (by omega)]
      have hf : d.set = true ∧ d.after = 0 := by
        apply Classical.byContradiction
        intro h
        apply he
        unfold writeE
        rw [if_neg (by omega), if_neg (by omega), if_neg h]
      obtain ⟨w1, w2⟩ := write_torn (d := d) (k := t) (T := T) (by omega) hd hT hf.1 hf.2
      rw [e]
      refine .inr ⟨w1, by rw [w2], 0, overP (d.S t) (T.take d.torn.toNat), by rw [List.length_cons]; omega, fun j => ?_⟩
      rw [if_neg (by omega), Nat.add_zero]
      show (writeD d (t : Nat) T).S j = _
      rw [w2]
      rfl
/-- a batch laid behind what stands there -/
theorem laid_find {S S3 : Nat → Text} {m t : Nat} {X : List Text} {b : Text} (hS : findT S m = (X, t)) (hX : X.length ≤ 1000) (h1 : ∀ j, j < t → S3 j = S j) (hb1 : 1 ≤ b.length) (hb2 : b.length ≤ 1000) (hn : t + (manyC b + 2) ≤ m)
    (h2 : ∀ i, i < manyC b + 2 → S3 (t + i) = (pagesT (X.length + 1) b).getD i []) (h3 : ∀ j, t + (manyC b + 2) ≤ j → j < m → S3 j = zeros) :
    findT S3 m = (X ++ [b], t + (manyC b + 2)) := by
  have hS' : findV S m (m + 1) 0 [] = (X, t) := hS
  obtain ⟨f', hf, e⟩ := find_from (S := S) (S3 := S3) (m := m) (m + 1) 0 [] (by omega) (Nat.zero_le _) (fun j _ hj => by rw [hS'] at hj; exact h1 j hj)
  rw [hS'] at hf e
  have e' : findT S3 m = findV S3 m f' t X := e
  rw [e']
  have hlen : (pagesT (X.length + 1) b).length = manyC b + 2 := pagesT_len _ _
  have hcl : (cutP b (manyC b)).length = manyC b := cutP_len _ _
  have hh : S3 t = headP (X.length + 1) b.length (sumN b) := h2 0 (by omega)
  have hu : sumN b < 4294967296 := (Crc.sumT b).isLt
  obtain ⟨a1, a2, a3, a4⟩ := headP_is (X.length + 1) b.length (sumN b) (by omega) (by omega) hb1 (by omega) hu
  have hneed : needT (S3 t) = manyC b + 2 := by
    rw [hh]
    unfold needT needV manyC
    rw [a3, if_neg (by omega)]
    omega
  have hend : S3 (t + (manyC b + 1)) = endP (X.length + 1) (sumN b) := by
    rw [h2 (manyC b + 1) (by omega)]
    unfold pagesT
    rw [List.getD_cons_succ, List.getD_eq_getElem?_getD, List.getElem?_append_right (by omega), hcl, Nat.sub_self]
    rfl
  have hs : someT S3 (t + 1) (manyC b) = cutP b (manyC b) := by
    refine List.ext_getElem (by rw [someT_len, cutP_len]) fun i i1 i2 => ?_
    rw [someT_len] at i1
    rw [someT_get, show t + 1 + i = t + (i + 1) by omega, h2 (i + 1) (by omega)]
    unfold pagesT
    rw [List.getD_cons_succ, List.getD_eq_getElem?_getD, List.getElem?_append_left i2, List.getElem?_eq_getElem i2]
    rfl
  have hbt : batchT S3 t = b := by
    unfold batchT
    rw [hneed, show manyC b + 2 - 2 = manyC b by omega, hs, hh, a3]
    exact back_text b
  have hhd : headOk (X.length + 1 : Nat) (b.length : Nat) = true := by
    unfold headOk seqOk needV
    rw [if_neg (by omega)]
    simp only [Bool.and_eq_true, decide_eq_true_eq]
    refine ⟨⟨by omega, by omega⟩, by omega⟩
  have hq : batchQ S3 m t (X.length + 1 : Nat) = true := by
    unfold batchQ
    rw [hneed, hh, a1, a2, a3, a4, show t + (manyC b + 2) - 1 = t + (manyC b + 1) by omega, hend, show manyC b + 2 - 2 = manyC b by omega, hs]
    simp only [Bool.and_eq_true, decide_eq_true_eq]
    refine ⟨by omega, trivial, trivial, by omega, ?_, ?_⟩
    · unfold endOk seqOk
      simp only [Bool.and_eq_true, decide_eq_true_eq]
      refine ⟨⟨endP_len _ _, by omega, by omega⟩, ?_⟩
      rw [Int.toNat_natCast, Int.toNat_natCast]
    · rw [joinQ_all hhd (by rw [hcl]; rfl) (fun i hi => by rw [cutP_at]; exact cutT_len _ _)]
      exact back_joins b
  cases f' with
  | zero => omega
  | succ f' =>
    rw [find_next hq, hbt, hneed]
    refine find_end ?_
    cases hb : batchQ S3 m (t + (manyC b + 2)) ((X ++ [b]).length + 1 : Nat) with
    | false => rfl
    | true =>
      obtain ⟨q1, q2, _⟩ := batch_in hb
      rw [h3 _ (by omega) q1, zeros_noB] at q2
      cases q2
/-- power went while a batch was laid -/
theorem torn_inv {S S3 : Nat → Text} {m t pg : Nat} {X : List Text} {b T' : Text} (hS : findT S m = (X, t)) (ht : t ≤ m) (hX : X.length ≤ 1000) (hb1 : 1 ≤ b.length) (hb2 : b.length ≤ 1000) (hpg : pg < manyC b + 2) (hn : t + (manyC b + 2) ≤ m)
    (hbl : ∀ j, t ≤ j → j < m → S j = zeros) (h2 : ∀ j, S3 j = if t ≤ j ∧ j < t + pg then (pagesT (X.length + 1) b).getD (j - t) [] else if j = t + pg then T' else S j) :
    ∃ X' t', InvI S3 m X' t' ∧ (X' = X ∨ X' = X ++ [b]) := by
  have hS' : findV S m (m + 1) 0 [] = (X, t) := hS
  have hlow : ∀ j, j < t → S3 j = S j := fun j hj => by rw [h2, if_neg (by omega), if_neg (by omega)]
  have hhi : ∀ j, t + pg < j → j < m → S3 j = zeros := fun j hj hm => by rw [h2, if_neg (by omega), if_neg (by omega)]; exact hbl j (by omega) hm
  obtain ⟨f', hf, e⟩ := find_from (S := S) (S3 := S3) (m := m) (m + 1) 0 [] (by omega) (Nat.zero_le _) (fun j _ hj => by rw [hS'] at hj; exact hlow j hj)
  rw [hS'] at hf e
  have e' : findT S3 m = findV S3 m f' t X := e
  have hu : sumN b < 4294967296 := (Crc.sumT b).isLt
  obtain ⟨a1, a2, a3, a4⟩ := headP_is (X.length + 1) b.length (sumN b) (by omega) (by omega) hb1 (by omega) hu
  cases hq : batchQ S3 m t (X.length + 1 : Nat) with
  | false =>
    refine ⟨X, t, InvI.of_find (e'.trans (find_end hq)) ?_, .inl rfl⟩
    by_cases h0 : pg = 0
    · subst h0
      exact .inl fun j hj hm => hhi j (by omega) hm
    · have hh : S3 t = headP (X.length + 1) b.length (sumN b) := by
        rw [h2, if_pos (by omega), Nat.sub_self]
        rfl
      refine .inr (.inr ⟨S3 t, 0, (cutZ_zero _).symm, by rw [hh]; exact a1, ?_⟩)
      have es : setT S3 t (S3 t) = S3 := by
        funext j
        unfold setT
        by_cases hj : j = t
        · rw [if_pos hj, hj]
        · rw [if_neg hj]
      rw [es]
      exact hq
  | true =>
    refine ⟨X ++ [b], t + (manyC b + 2), ?_, .inr rfl⟩
    have hq0 := hq
    unfold batchQ at hq0
    simp only [Bool.and_eq_true, decide_eq_true_eq] at hq0
    obtain ⟨p1, p2, p3, p4, p5, p6⟩ := hq0
    have p7 := need_big p2
    have hend : S3 (t + needT (S3 t) - 1) ≠ zeros := by
      intro hz
      rw [hz, endOk_blank] at p5
      exact absurd p5 (by decide)
    have hk : needT (S3 t) ≤ pg + 1 := by
      apply Classical.byContradiction
      intro h
      exact hend (hhi _ (by omega) (by omega))
    have hh : S3 t = headP (X.length + 1) b.length (sumN b) := by
      rw [h2, if_pos (by omega), Nat.sub_self]
      rfl
    have hneed : needT (S3 t) = manyC b + 2 := by
      rw [hh]
      unfold needT needV manyC
      rw [a3, if_neg (by omega)]
      omega
    rw [hneed] at hk p4
    have hpg' : pg + 1 = manyC b + 2 := by omega
    have hcl : (cutP b (manyC b)).length = manyC b := cutP_len _ _
    have hbt : batchT S3 t = b := by
      have hs : someT S3 (t + 1) (manyC b) = cutP b (manyC b) := by
        refine List.ext_getElem (by rw [someT_len, cutP_len]) fun i i1 i2 => ?_
        rw [someT_len] at i1
        rw [someT_get, show t + 1 + i = t + (i + 1) by omega, h2, if_pos (by omega), show t + (i + 1) - t = i + 1 by omega]
        unfold pagesT
        rw [List.getD_cons_succ, List.getD_eq_getElem?_getD, List.getElem?_append_left i2, List.getElem?_eq_getElem i2]
        rfl
      unfold batchT
      rw [hneed, show manyC b + 2 - 2 = manyC b by omega, hs, hh, a3]
      exact back_text b
    refine InvI.of_find ?_ (.inl fun j hj hm => hhi j (by omega) hm)
    rw [e']
    cases f' with
    | zero => omega
    | succ f' =>
      rw [find_next hq, hbt, hneed]
      refine find_end ?_
      cases hb : batchQ S3 m (t + (manyC b + 2)) ((X ++ [b]).length + 1 : Nat) with
      | false => rfl
      | true =>
        obtain ⟨q1, q2, _⟩ := batch_in hb
        rw [hhi _ (by omega) q1, zeros_noB] at q2
        cases q2
theorem put_keeps : ∀ (L : List Text) (d : DiskV) (t : Nat), OkD d → (∀ k, k < d.many → (d.S k).length = 64) →
    (putF d t L).1.many = d.many ∧ OkD (putF d t L).1 ∧ (putF d t L).1.writes ≤ d.writes + L.length ∧ (∀ k, k < d.many → ((putF d t L).1.S k).length = 64)
  | [], d, t, h, h64 => ⟨rfl, h, by show d.writes ≤ d.writes + ((0 : Nat) : Int); omega, h64⟩
  | T :: L, d, t, h, h64 => by
    have hw := writeD_writes d (t : Nat) T
    have hm := writeD_many d (t : Nat) T
    by_cases he : writeE d (t : Nat) T = 0
    · have e : putF d t (T :: L) = putF (writeD d (t : Nat) T) (t + 1) L := if_pos he
      rw [e]
      obtain ⟨q1, q2, q3, q4⟩ := put_keeps L (writeD d (t : Nat) T) (t + 1) (writeD_ok _ _ _ h) (by rw [hm]; exact wr64 h64)
      refine ⟨q1.trans hm, q2, ?_, by rw [hm] at q4; exact q4⟩
      rw [List.length_cons]
      omega
    · have e : putF d t (T :: L) = (writeD d (t : Nat) T, writeE d (t : Nat) T) := if_neg he
      rw [e]
      refine ⟨hm, writeD_ok _ _ _ h, ?_, wr64 h64⟩
      rw [List.length_cons]
      show (writeD d (t : Nat) T).writes ≤ _
      omega
/-- a disk and its journal while power is there: these batches, and nothing behind them -/
structure Live (d : DiskV) (j : JnV) (m : Nat) (X : List Text) : Prop where
  many : d.many = m
  dead : d.dead = false
  ok : OkD d
  h64 : ∀ k, k < m → (d.S k).length = 64
  find : findT d.S m = (X, j.tail)
  len : j.many = X.length
  cut : j.cut = false
  blank : ∀ k, j.tail ≤ k → k < m → d.S k = zeros
/-- a disk whose power went -/
structure Gone (d : DiskV) (m : Nat) (X : List Text) (t : Nat) : Prop where
  many : d.many = m
  ok : OkD d
  h64 : ∀ k, k < m → (d.S k).length = 64
  inv : InvI d.S m X t
theorem Live.gone {d : DiskV} {j : JnV} {m : Nat} {X : List Text} (h : Live d j m X) : Gone d m X j.tail :=
  ⟨h.many, h.ok, h.h64, InvI.of_find h.find (.inl fun k hk hm => h.blank k (by omega) hm)⟩
/-- what an append does, while power is there -/
def AppC (d : DiskV) (j : JnV) (m : Nat) (X : List Text) (b : Text) : Prop :=
  (∃ f : Int, AppX d j b = (d, j, 0, f) ∧ f ≠ 0 ∧ f ≠ 32) ∨
  (∃ (d' : DiskV) (j' : JnV), AppX d j b = (d', j', ((X.length + 1 : Nat) : Int), 0) ∧ Live d' j' m (X ++ [b]) ∧ j'.B = j.B ∧ d'.writes ≤ d.writes + 1000 ∧ 1 ≤ b.length) ∨
  (∃ (d' : DiskV) (j' : JnV), AppX d j b = (d', j', 0, 32) ∧ ∃ (X' : List Text) (t' : Nat), Gone d' m X' t' ∧ (X' = X ∨ X' = X ++ [b]) ∧ j'.B = j.B ∧ d'.writes ≤ d.writes + 1000 ∧ 1 ≤ b.length)
theorem app_case {d : DiskV} {j : JnV} {m : Nat} {X : List Text} {b : Text} (h : Live d j m X) (hX : X.length ≤ 100) (hb : b.length ≤ 1000) (hm : m ≤ 1000) : AppC d j m X b := by
  have hmany := h.many
  have htl : j.tail ≤ m := by have := findT_le d.S m; rw [h.find] at this; exact this
  by_cases hh : headOk (j.many + 1 : Nat) b.length = false
  · refine .inl ⟨2, ?_, by decide, by decide⟩
    unfold AppX
    rw [if_neg (by rw [h.cut]; decide), if_pos hh]
  have hh' : headOk (j.many + 1 : Nat) b.length = true := by simpa using hh
  have h1 : 1 ≤ b.length := by have := headOk_len hh'; omega
  by_cases hf : d.many - j.tail < manyC b + 2
  · refine .inl ⟨31, ?_, by decide, by decide⟩
    unfold AppX
    rw [if_neg (by rw [h.cut]; decide), if_neg hh, if_pos hf]
  have hlen : (pagesT (j.many + 1) b).length = manyC b + 2 := pagesT_len _ _
  have hC : manyC b ≤ 16 := by unfold manyC; omega
  have hA : AppX d j b = AppY j (manyC b + 2) (putF d j.tail (pagesT (j.many + 1) b)) := by
    unfold AppX
    rw [if_neg (by rw [h.cut]; decide), if_neg hh, if_neg hf]
  obtain ⟨k1, k2, k3, k4⟩ := put_keeps (pagesT (j.many + 1) b) d j.tail h.ok (by rw [hmany]; exact h.h64)
  have hwr : (putF d j.tail (pagesT (j.many + 1) b)).1.writes ≤ d.writes + 1000 := by omega
  rcases putF_fuse (pagesT (j.many + 1) b) d j.tail (pages_64 _ _ hh') h.dead (by rw [hlen]; omega) (by rw [hmany]; exact h.h64) with ⟨a1, a2, a3⟩ | ⟨a1, a2, pg, T', a3, a4⟩
  · refine .inr (.inl ⟨(putF d j.tail (pagesT (j.many + 1) b)).1, { j with tail := j.tail + (manyC b + 2), many := j.many + 1 }, ?_, ⟨k1.trans hmany, a2, k2, by rw [hmany] at k4; exact k4, ?_, ?_, h.cut, ?_⟩, rfl, hwr, h1⟩)
    · rw [hA]
      unfold AppY
      rw [if_pos a1, h.len]
    · show findT _ m = (X ++ [b], j.tail + (manyC b + 2))
      rw [h.len] at a3 hlen ⊢
      refine laid_find h.find (by omega) (fun k hk => ?_) h1 hb (by omega) (fun i hi => ?_) (fun k hk hkm => ?_)
      · rw [a3, if_neg (by omega)]
      · rw [a3, if_pos (by omega), show j.tail + i - j.tail = i by omega]
      · rw [a3, if_neg (by omega)]
        exact h.blank k (by omega) hkm
    · show j.many + 1 = (X ++ [b]).length
      rw [h.len, List.length_append]
      rfl
    · intro k hk hkm
      have hk' : j.tail + (manyC b + 2) ≤ k := hk
      rw [a3, if_neg (by omega)]
      exact h.blank k (by omega) hkm
  · have hAe : AppX d j b = ((putF d j.tail (pagesT (j.many + 1) b)).1, { j with cut := true }, 0, 32) := by
      rw [hA]
      unfold AppY
      rw [if_neg (by rw [a1]; decide), a1]
    rw [hlen] at a3
    have ho := fun k (hk : k < m) => (by rw [hmany] at k4; exact k4 k hk : ((putF d j.tail (pagesT (j.many + 1) b)).1.S k).length = 64)
    rw [h.len] at a4 hAe ho k1 k2 hwr
    obtain ⟨X', t', q1, q2⟩ := torn_inv h.find htl (by omega) h1 hb a3 (by omega) h.blank a4
    exact .inr (.inr ⟨_, _, hAe, X', t', ⟨k1.trans hmany, k2, ho, q1⟩, q2, rfl, hwr, h1⟩)
/-- what is left behind an open that power may cut -/
theorem open_gone {d : DiskV} {m : Nat} {X : List Text} {t : Nat} (h : Gone d m X t) (hd : d.dead = false) : findT d.S d.many = (X, t) ∧ Gone (WX d t).1 m X t ∧ (WX d t).1.writes ≤ d.writes + m ∧ (WX d t).1.many = m := by
  have hm := h.many
  have hle := h.inv.le
  have hr : sreachV d t = 0 := by
    unfold sreachV
    rw [if_neg (by omega), if_neg (by rw [hd]; decide)]
  have e : (WX d t).1 = (wipeL d 0 (dirtyL d.S t d.many)).1 := by
    unfold WX
    rw [if_pos hr, Int.toNat_natCast]
  obtain ⟨k1, k2, k3, k4⟩ := wipe_keeps (dirtyL d.S t d.many) d 0 h.ok (by rw [hm]; exact h.h64)
  have hl := dirtyL_len d.S t d.many
  have hi := wipe_inv (d := d) (by rw [hm]; exact h.inv) hd (by rw [hm]; exact h.h64)
  rw [e]
  refine ⟨by rw [hm]; exact h.inv.find, ⟨k1.trans hm, k2, fun k hk => k4 k (by rw [hm]; exact hk), ?_⟩, by omega, k1.trans hm⟩
  generalize dirtyL d.S t d.many = L at hi ⊢
  rw [hm] at hi
  exact hi
end Go.Proofs.Ytfjejiapafdgeaa
