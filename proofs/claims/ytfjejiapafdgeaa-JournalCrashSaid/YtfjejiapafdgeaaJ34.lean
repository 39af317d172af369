/- What wiping behind the tail leaves: plain facts. Are parts not more than are looked at here. A disk laid with pages, walked. -/
import Derived.Test.YtfjejiapafdgeaaJ33
import Derived.Test.YtfjejiapafdgeaaJ32
namespace Go.Proofs.Ytfjejiapafdgeaa
open Go.RowKit
set_option maxRecDepth 100000
set_option linter.unusedSimpArgs false
set_option linter.unusedVariables false

theorem wipe_all : ∀ (L : List Nat) (n : Nat) (d : DiskV), (∀ i ∈ L, i < d.many) → d.dead = false → d.set = false → (∀ i, i < d.many → (d.S i).length = 64) →
    ∃ d2, wipeL d n L = (d2, n + L.length, 0) ∧ d2.many = d.many ∧ d2.dead = false ∧ d2.set = false ∧ d2.torn = d.torn ∧ d2.after = d.after ∧ d2.writes = d.writes + L.length ∧ ∀ j, j < d.many → d2.S j = if j ∈ L then zeros else d.S j := by
  intro L
  induction L with
  | nil => intro n d _ h2 h3 _; exact ⟨d, rfl, rfl, h2, h3, rfl, rfl, by simp, fun j _ => by simp⟩
  | cons i L ih =>
    intro n d h1 h2 h3 h4
    have hi : i < d.many := h1 i (by simp)
    obtain ⟨e1, e2⟩ := writeD_plain (d := d) (k := i) (T := zeros) hi h2 h3 zeros_len
    have hS : ∀ j, j < d.many → (writeD d i zeros).S j = if j = i then zeros else d.S j := fun j hj => by
      rw [e1]
      show (if j = i then overP (d.S i) zeros else d.S j) = _
      by_cases h : j = i
      · rw [if_pos h, if_pos h, overP_full (h4 i hi) zeros_len]
      · rw [if_neg h, if_neg h]
    have hm : (writeD d i zeros).many = d.many := writeD_many _ _ _
    obtain ⟨d2, q1, q2, q3, q4, q5, q6, q7, q8⟩ := ih (n + 1) (writeD d i zeros) (fun j hj => by rw [hm]; exact h1 j (by simp [hj])) (by rw [e1]; exact h2) (by rw [e1]; exact h3) (fun j hj => by
      rw [hm] at hj
      rw [hS j hj]
      split
      · exact zeros_len
      · exact h4 j hj)
    refine ⟨d2, ?_, q2.trans hm, q3, q4, by rw [q5, e1]; rfl, by rw [q6, e1], ?_, fun j hj => ?_⟩
    · show (if writeE d i zeros = 0 then _ else _) = _
      rw [if_pos e2, q1, List.length_cons, Nat.add_right_comm, Nat.add_assoc]
    · rw [q7, e1, List.length_cons]
      show d.writes + 1 + _ = _
      omega
    · rw [q8 j (by rw [hm]; exact hj), hS j hj]
      by_cases h : j = i
      · subst h; simp
      · by_cases h' : j ∈ L
        · simp [h']
        · simp [h, h']
theorem find_ge (S : Nat → Text) (m : Nat) : ∀ f at_ L, at_ ≤ (findV S m f at_ L).2 := by
  intro f
  induction f with
  | zero => intro at_ L; exact Nat.le_refl _
  | succ f ih =>
    intro at_ L
    show at_ ≤ (if batchQ S m at_ (L.length + 1 : Nat) = true then findV S m f (at_ + needT (S at_)) (L ++ [batchT S at_]) else (L, at_)).2
    split
    · exact Nat.le_trans (Nat.le_add_right _ _) (ih _ _)
    · exact Nat.le_refl _
theorem find_le (S : Nat → Text) (m : Nat) : ∀ f at_ L, at_ ≤ m → (findV S m f at_ L).2 ≤ m := by
  intro f
  induction f with
  | zero => intro at_ L h; exact h
  | succ f ih =>
    intro at_ L h
    show (if batchQ S m at_ (L.length + 1 : Nat) = true then findV S m f (at_ + needT (S at_)) (L ++ [batchT S at_]) else (L, at_)).2 ≤ m
    split
    · rename_i hq
      exact ih _ _ (batch_in hq).2.2.2.1
    · exact h
/-- a batch is told by its own sectors alone -/
theorem batch_same {S S2 : Nat → Text} {m i : Nat} {q : Int} (hq : batchQ S m i q = true) (h : ∀ j, i ≤ j → j < i + needT (S i) → S2 j = S j) : batchQ S2 m i q = true ∧ needT (S2 i) = needT (S i) ∧ batchT S2 i = batchT S i := by
  obtain ⟨h1, h2, h3, h4, h5⟩ := batch_in hq
  have e0 : S2 i = S i := h i (Nat.le_refl _) (by omega)
  have e1 : S2 (i + needT (S i) - 1) = S (i + needT (S i) - 1) := h _ (by omega) (by omega)
  have e2 : someT S2 (i + 1) (needT (S i) - 2) = someT S (i + 1) (needT (S i) - 2) := by
    unfold someT
    refine List.map_congr_left fun k hk => ?_
    have := List.mem_range.1 hk
    exact h _ (by omega) (by omega)
  refine ⟨?_, by rw [e0], ?_⟩
  · unfold batchQ at hq ⊢
    rw [e0, e1, e2]
    exact hq
  · unfold batchT
    rw [e0, e2]
theorem find_same {S S2 : Nat → Text} {m : Nat} : ∀ f at_ L, (∀ j, at_ ≤ j → j < (findV S m f at_ L).2 → S2 j = S j) → ((findV S m f at_ L).2 < m → isB (S2 (findV S m f at_ L).2) = false) → findV S2 m f at_ L = findV S m f at_ L := by
  intro f
  induction f with
  | zero => intro at_ L _ _; rfl
  | succ f ih =>
    intro at_ L h1 h2
    cases hq : batchQ S m at_ (L.length + 1 : Nat) with
    | true =>
      rw [find_next hq] at h1 h2 ⊢
      have hge := find_ge S m f (at_ + needT (S at_)) (L ++ [batchT S at_])
      obtain ⟨e1, e2, e3⟩ := batch_same hq (fun j q1 q2 => h1 j q1 (by omega))
      rw [find_next e1, e2, e3]
      exact ih _ _ (fun j q1 q2 => h1 j (by omega) q2) h2
    | false =>
      rw [find_end hq] at h1 h2 ⊢
      have e : batchQ S2 m at_ (L.length + 1 : Nat) = false := by
        cases hb : batchQ S2 m at_ (L.length + 1 : Nat) with
        | false => rfl
        | true =>
          obtain ⟨q1, q2, _⟩ := batch_in hb
          rw [h2 q1] at q2
          cases q2
      rw [find_end e]
theorem zeros_noB : isB zeros = false := by decide +kernel
theorem find_wiped {S S2 : Nat → Text} {m : Nat} (h1 : ∀ j, j < (findT S m).2 → S2 j = S j) (h2 : ∀ j, (findT S m).2 ≤ j → j < m → S2 j = zeros) : findT S2 m = findT S m :=
  find_same _ _ _ (fun j _ hj => h1 j hj) (fun h => by
    have e := h2 _ (Nat.le_refl _) h
    show isB (S2 (findT S m).2) = false
    rw [e]
    exact zeros_noB)
theorem findT_le (S : Nat → Text) (m : Nat) : (findT S m).2 ≤ m := find_le S m _ _ _ (Nat.zero_le _)
/-- wiped from the tail on -/
theorem wiped_from {d : DiskV} {tail : Nat} (h2 : d.dead = false) (h3 : d.set = false) (h4 : ∀ i, i < d.many → (d.S i).length = 64) :
    ∃ d2, wipeL d 0 (dirtyL d.S tail d.many) = (d2, (dirtyL d.S tail d.many).length, 0) ∧ d2.many = d.many ∧ d2.dead = false ∧ d2.set = false ∧ d2.torn = d.torn ∧ d2.after = d.after ∧ d2.writes = d.writes + (dirtyL d.S tail d.many).length ∧ (∀ j, j < tail → j < d.many → d2.S j = d.S j) ∧ (∀ j, tail ≤ j → j < d.many → d2.S j = zeros) := by
  obtain ⟨d2, q1, q2, q3, q4, q5, q6, q7, q8⟩ := wipe_all (dirtyL d.S tail d.many) 0 d (dirtyL_lt _ _ _) h2 h3 h4
  rw [Nat.zero_add] at q1
  refine ⟨d2, q1, q2, q3, q4, q5, q6, q7, fun j hj hm => ?_, fun j hj hm => ?_⟩
  · rw [q8 j hm, if_neg]
    intro h
    have := (List.mem_filter.1 h).2
    unfold dirtyQ at this
    simp at this
    omega
  · rw [q8 j hm]
    split
    · rfl
    · rename_i h
      apply Classical.byContradiction
      intro hz
      exact h (List.mem_filter.2 ⟨List.mem_range.2 hm, by unfold dirtyQ; simp [hj, hz]⟩)
theorem dirty_none {S : Nat → Text} {tail m : Nat} (h : ∀ j, tail ≤ j → j < m → S j = zeros) : dirtyL S tail m = [] := by
  refine List.filter_eq_nil_iff.2 fun j hj => ?_
  unfold dirtyQ
  by_cases ht : tail ≤ j
  · rw [h j ht (List.mem_range.1 hj)]
    simp
  · simp [ht]
/-- rows of texts are no disk's -/
theorem SecsAt.chg {w w' : World} {A : Option Addr} {c : Nat} {L : List Text} {B bm n : Nat} {d : DiskV} (h : SecsAt w A c L) (hd : Dsk w B bm n d) (hc : ChgD w w' B bm) : SecsAt w' A c L := by
  rcases h with h | ⟨g, e, h, h'⟩
  · exact .inl h
  refine .inr ⟨g, e, fun j hj => ?_, h'⟩
  obtain ⟨b, cb, q1, q2, q3, q4, q5, q6⟩ := h j hj
  obtain ⟨_, ⟨es, clock, hm, _⟩, _⟩ := hd.2.1
  have g1 : g ≠ B := by
    rintro rfl
    have hk := cell_of_row w g j _ _ _ hd.1
    rw [q1] at hk
    unfold cellsD at hk
    rcases j with _ | _ | _ | _ | _ | _ | _ | j <;> simp at hk
  have g2 : g ≠ bm := by
    rintro rfl
    simp [World.cell?, hm] at q1
  have k0 := q4 0 (cellOf (L[j][0]'q6)) (by simp [q6])
  have b1 : b ≠ B := by
    rintro rfl
    have hk := cell_of_row w b 0 _ _ _ hd.1
    rw [k0] at hk
    simp [cellsD, cellOf] at hk
  have b2 : b ≠ bm := by
    rintro rfl
    simp [World.cell?, hm] at k0
  exact ⟨b, cb, (hc.cell (a := ⟨g, j, none⟩) (block_lt_of_cell q1) g1 g2).trans q1, q2, q3, fun i u hu => (hc.cell (a := ⟨b, 0 + i, none⟩) q5 b1 b2).trans (q4 i u hu), Nat.lt_of_lt_of_le q5 hc.size, q6⟩
end Go.Proofs.Ytfjejiapafdgeaa

namespace Go.Proofs.Ytfjejiapafdgeaa
open Go.RowKit
set_option maxRecDepth 100000
set_option linter.unusedSimpArgs false
set_option linter.unusedVariables false

def lightB (many : Int) (L : List PartV) : Bool := decide (1 ≤ many ∧ many ≤ 40 ∧ L.length ≤ 20 ∧ ∀ q (h : q < L.length), L[q].l.length ≤ 1000)
theorem light_far (many : Int) (n : Nat) (A : Option Addr) (cap : Nat) (w : World) (h : many < 1 ∨ 40 < many ∨ 20 < n) :
    Calls Try.prog 11 #[.int .i64 many, .slice A n cap] w fun e w' => e = .returned (.bool false) ∧ w = w' := by
  by_cases h1 : many < 1
  · go_enter Try.func11, Try.ntmps11
    go_wp2
    go_ret
    exact ⟨rfl, rfl⟩
  · have h1' : 1 ≤ many := by omega
    by_cases h2 : 40 < many
    · go_enter Try.func11, Try.ntmps11
      go_wp2
      go_ret
      exact ⟨rfl, rfl⟩
    · have h2' : many ≤ 40 := by omega
      have h3 : (20 : Int) < (n : Int) := by omega
      clear h h1 h2
      go_enter Try.func11, Try.ntmps11
      go_wp2
      go_ret
      exact ⟨rfl, rfl⟩
set_option maxHeartbeats 1000000 in
theorem light_near (many : Int) (L : List PartV) (A : Option Addr) (cap : Nat) (w : World) (h1 : 1 ≤ many) (h2 : many ≤ 40) (h3 : L.length ≤ 20) (hP : PartsAt w A L) :
    Calls Try.prog 11 #[.int .i64 many, .slice A L.length cap] w fun e w' => e = .returned (.bool (decide (∀ q (h : q < L.length), L[q].l.length ≤ 1000))) ∧ Below w.heap.size w w' := by
  have HP := Lib.hid hP
  have H3 := Lib.hid h3
  have i1 : ¬ many < 1 := by omega
  have i2 : ¬ 40 < many := by omega
  have i3 : ¬ (20 : Int) < (L.length : Int) := by omega
  have i4 : (L.length : Int) ≤ 20 := by omega
  clear hP h3
  generalize hv : decide (∀ q (h : q < L.length), L[q].l.length ≤ 1000) = v
  have HV := Lib.hid hv
  clear hv
  go_enter Try.func11, Try.ntmps11
  go_wp2
  clear i1 i2 i3 i4 h1 h2
  go_loopw [20] (fun i wr => ∃ k : Nat, k ≤ L.length ∧ i = .int .i64 (k : Nat) ∧ Hid (Below w.heap.size w wr) ∧ Hid (∀ q (h : q < L.length), q < k → L[q].l.length ≤ 1000)) (fun i _ => roundsLeft L.length i)
  case atStart => exact ⟨0, Nat.zero_le _, rfl, Lib.hid (Below.refl _ _), Lib.hid (fun q _ h => absurd h (Nat.not_lt_zero q))⟩
  case round =>
    obtain ⟨k, hk, rfl, HB, HS⟩ := hrel
    by_cases hlt : k < L.length
    · have hlt' : (k : Int) < (L.length : Int) := by omega
      have hwk : wrap64 ((k : Int) + 1) = (k : Int) + 1 := by have := H3.out; unfold wrap64; omega
      obtain ⟨b, off, rfl, hbl, s0, s1, s2, s3, hs⟩ := HP.out k hlt
      obtain ⟨o, ho⟩ : ∃ o, o = L[k] := ⟨_, rfl⟩
      rw [← ho] at s0 s1 s2 s3
      have HO := Lib.hid ho
      have hbw := HB.out
      replace s0 := (hbw.cell hbl).trans s0
      replace s1 := (hbw.cell hbl).trans s1
      replace s2 := (hbw.cell hbl).trans s2
      replace s3 := (hbw.cell hbl).trans s3
      have hbl' : b < wr.heap.size := Nat.lt_of_lt_of_le hbl hbw.size
      have HBa : Hid (∀ x, Below w.heap.size w (wr.alloc x)) := Lib.hid (fun x => hbw.trans ((below_alloc wr x).mono hbw.size))
      clear ho hs hbw hbl
      obtain ⟨nl, hnl⟩ : ∃ nl, nl = o.l.length := ⟨_, rfl⟩
      rw [← hnl] at s2
      have HN := Lib.hid hnl
      clear hnl
      by_cases hbig : (1000 : Int) < (nl : Int)
      · go_wp2
        go_ret
        refine ⟨ret_bool ?_, HBa.out _⟩
        rw [← HV.out]
        exact (decide_eq_false (fun h => by have h1 := h k hlt; rw [← HO.out, ← HN.out] at h1; omega)).symm
      · have hbig' : (nl : Int) ≤ 1000 := by omega
        have HS2 : Hid (∀ q (h : q < L.length), q < k + 1 → L[q].l.length ≤ 1000) := Lib.hid (fun q h hq => by
          by_cases e : q = k
          · subst e
            rw [← HO.out, ← HN.out]
            omega
          · exact HS.out q h (by omega))
        clear hbig
        go_wp2
        go_roundw
        case rel => exact ⟨k + 1, by omega, congrArg (Value.int .i64) (by omega), Lib.hid (HBa.out _), HS2⟩
        case measure => rw [hwk]; exact roundsLeft_next _ _ hlt
    · have hge : (L.length : Int) ≤ (k : Int) := by omega
      go_wp2
      go_ret
      refine ⟨ret_bool ?_, HB.out⟩
      rw [← HV.out]
      exact (decide_eq_true (fun q h => HS.out q h (by omega))).symm
theorem code_light (many : Int) (L : List PartV) (A : Option Addr) (cap : Nat) (w : World) (hP : PartsAt w A L) :
    Calls Try.prog 11 #[.int .i64 many, .slice A L.length cap] w fun e w' => e = .returned (.bool (lightB many L)) ∧ Below w.heap.size w w' := by
  by_cases h : many < 1 ∨ 40 < many ∨ 20 < L.length
  · refine (light_far many L.length A cap w h).mono ?_
    rintro e w' ⟨rfl, rfl⟩
    exact ⟨ret_bool (decide_eq_false (by omega)).symm, Below.refl _ _⟩
  · refine (light_near many L A cap w (by omega) (by omega) (by omega) hP).mono ?_
    rintro e w' ⟨rfl, hb⟩
    refine ⟨ret_bool ?_, hb⟩
    unfold lightB
    exact decide_eq_decide.2 ⟨fun h2 => ⟨by omega, by omega, by omega, h2⟩, fun h2 => h2.2.2.2⟩
end Go.Proofs.Ytfjejiapafdgeaa

namespace Go.Proofs.Ytfjejiapafdgeaa
open Go.RowKit
set_option maxRecDepth 100000
set_option linter.unusedSimpArgs false
set_option linter.unusedVariables false

def zDisk : Obj := .cells #[.slice none 0 0, .int .i64 0, .int .i64 0, .bool false, .int .i64 0] 28
/-- both disks, behind Laid -/
def LaidR (w : World) (d : DiskV) (e : Ending) (W : World) : Prop := ∃ B bm nn g c tr, e = .returned (.tuple #[.pointer (some ⟨B, 0, none⟩), spelt g c tr d, .bool true]) ∧ Dsk W B bm nn d ∧ nn ≤ 40 ∧ RefIs W g c tr d ∧ OkD d ∧ w.heap.size ≤ B ∧ w.heap.size ≤ bm ∧ g ≠ B ∧ g ≠ bm ∧ Below w.heap.size w W
set_option maxHeartbeats 4000000 in
theorem code_laid (m : Nat) (L : List Text) (A : Option Addr) (cap : Nat) (w : World) (h1 : 1 ≤ m) (h2 : m ≤ 40) (hL : L.length ≤ 1000) (h64 : ∀ T ∈ L, T.length = 64) (hA : SecsAt w A cap L) :
    Calls Try.prog 13 #[.int .i64 m, .slice A L.length cap] w (LaidR w (laidD m L (min m L.length))) := by
  obtain ⟨w0, hw0⟩ : ∃ w0, w0 = w.alloc zDisk := ⟨_, rfl⟩
  have HN : Hid (Calls Try.prog 29 #[.int .i64 m] w0 fun e W => ∃ B bm, e = .returned (.pointer (some ⟨B, 0, none⟩)) ∧ Dsk W B bm 0 (newD m) ∧ w0.heap.size ≤ B ∧ w0.heap.size ≤ bm ∧ Below w0.heap.size w0 W) := Lib.hid (by
    have := code_dnew w0 m (by omega) (by omega)
    rw [Int.toNat_natCast] at this
    exact this.mono fun e W ⟨q1, q2, q3⟩ => ⟨_, _, q1, q2, by omega, by omega, q3⟩)
  have HR : Hid (∀ W, Calls Try.prog 43 #[.int .i64 m] W fun e w' => ∃ g c, e = .returned (refV g c 0 (newD m)) ∧ RefIs w' g c 0 (newD m) ∧ Below W.heap.size W w' ∧ W.heap.size ≤ g) := Lib.hid (fun W => ref_new W m h1 h2)
  have HF := Lib.hid (laid_facts m L h64)
  have HA : Hid (SecsAt w0 A cap L) := Lib.hid (by rw [hw0]; exact hA.on (below_alloc _ _))
  have HL := Lib.hid (And.intro h1 (And.intro h2 (And.intro hL h64)))
  have HW0 := Lib.hid hw0
  clear hA h1 h2 hL h64
  go_enter Try.func13, Try.ntmps13
  unfold zDisk at hw0
  go_upto_region 1 with fail
  rw [← hw0]
  clear hw0
  go_wp2_with (first
    | (go_at_call 29; refine HN.out.mono ?_; rintro e w1 ⟨B, bm, rfl, hd, hB, hbm, hb1⟩; have HD := Lib.hid (And.intro hd (And.intro hB (And.intro hbm hb1))); clear hd hB hbm hb1)
    | (go_at_call 43; refine (HR.out w1).mono ?_; rintro e w2 ⟨g, c, rfl, hr, hb2, hgw⟩; have HRR := Lib.hid (And.intro hr hb2); have HG := Lib.hid hgw; clear hr hb2 hgw; unfold refV))
  obtain ⟨b6, hb6⟩ : ∃ b6, b6 = w2.heap.size := ⟨_, rfl⟩
  obtain ⟨W0, hW0⟩ : ∃ W0, W0 = w2.alloc (.cells #[.slice (some ⟨g, 0, none⟩) (newD m).many c, .int .i64 (aftR (newD m)), .int .i64 0, .bool (newD m).dead, .int .i64 (newD m).writes] 28) := ⟨_, rfl⟩
  have HP0 : Hid (Pair w0 b6 B bm 0 g c 0 (newD m) 0 W0) := Lib.hid (by
    obtain ⟨hd, hB, hbm, hb1⟩ := HD.out
    obtain ⟨hr, hb2⟩ := HRR.out
    have hb3 : Below w2.heap.size w2 W0 := by rw [hW0]; exact (Below.refl _ _).alloc (Nat.le_refl _) _
    have h20 : Below w0.heap.size w0 w2 := hb1.trans (hb2.mono hb1.size)
    have hg2 : g < w2.heap.size := hr.1.1
    have hBl := hd.lt
    have hbl := hd.2.1.lt
    have hs12 := hb2.size
    have hgw : w1.heap.size ≤ g := HG.out
    exact ⟨(hd.below hb2).below hb3, hr.below hb3, by rw [hb6, hW0]; exact heap_alloc_new w2 _, ⟨by simp [newD], by simp [newD], by simp [newD], by simp [newD], by simp [newD]⟩, HL.out.2.1, HL.out.1, Nat.le_refl _, by simp [newD], hB, hbm, by rw [hb6]; exact h20.size, by omega, by omega, by omega, by omega, by omega, h20.trans (hb3.mono h20.size)⟩)
  rw [← hW0, ← hb6]
  clear hW0 hb6 HN HR HD HRR
  go_loopw [20] (fun i wr => ∃ k nn g c tr, k ≤ L.length ∧ k ≤ m ∧ i = .int .i64 (k : Nat) ∧ Hid (Pair w0 b6 B bm nn g c tr (laidD m L k) k wr)) (fun i _ => roundsLeft L.length i)
  case atStart => exact ⟨0, 0, g, c, 0, Nat.zero_le _, Nat.zero_le _, rfl, HP0⟩
  case round =>
    clear HP0
    obtain ⟨k, nn, g, c, tr, hk, hkm, rfl, HP⟩ := hrel
    have HE0 := Lib.hid (HF.out k hkm hk)
    by_cases hlt : k < L.length
    · have hlt' : (k : Int) < (L.length : Int) := by omega
      rcases HA.out with ⟨rfl, rfl, rfl⟩ | ⟨G, rfl, hTA, hcp⟩
      · simp at hlt
      obtain ⟨b, cb, q1, q2, q3, q4, q5, q6⟩ := hTA k hlt
      have hG := block_lt_of_cell q1
      have hcell := (HP.out.below.cell (p := ⟨G, k, none⟩) hG).trans q1
      have HT64 : Hid (L[k].length = 64) := Lib.hid (HL.out.2.2.2 _ (List.getElem_mem _))
      have HTx : Hid (Txt wr (some ⟨b, 0, none⟩) L[k]) := Lib.hid ((mid_txt q4).below (HP.out.below.mono (Nat.le_refl _)))
      have HTk : Hid (L.getD k [] = L[k]) := Lib.hid (by rw [List.getD_eq_getElem?_getD, List.getElem?_eq_getElem hlt]; rfl)
      obtain ⟨T, hT⟩ : ∃ T, T = L[k] := ⟨_, rfl⟩
      rw [← hT] at HT64 HTx HTk hcell q2
      rw [HT64.out] at hcell
      have HQ2 : Hid (64 ≤ cb ∧ cb ≤ maxLen) := Lib.hid ⟨by rw [← HT64.out]; exact q2, q3⟩
      have HBl := Lib.hid q5
      clear hT q1 q2 q3 q4 q5 q6 hTA hcp
      by_cases hkm' : k < m
      · have hkm2 : (k : Int) < (m : Int) := by omega
        have hwk : wrap64 ((k : Int) + 1) = (k : Int) + 1 := by have := HL.out.2.2.1; unfold wrap64; omega
        have HWE : Hid (writeE (laidD m L k) k T = 0 ∧ laidD m L (k + 1) = writeD (laidD m L k) k T) := Lib.hid ⟨(writeD_plain (by rw [HE0.out.1]; exact hkm') HE0.out.2.1 HE0.out.2.2.1 HT64.out).2, by show writeD _ _ (L.getD k []) = _; rw [HTk.out]⟩
        have HWr : Hid (Calls Try.prog 27 #[.pointer (some ⟨B, 0, none⟩), .int .i64 k, .slice (some ⟨b, 0, none⟩) 64 cb] wr fun e w' => e = .returned (.int .i64 0) ∧ Dsk w' B bm (nn + 1) (writeD (laidD m L k) k T) ∧ ChgD wr w' B bm) := Lib.hid (by
          have h := code_write wr B bm nn (laidD m L k) k HP.out.dsk (by have := HP.out.nn; have := HL.out.2.1; unfold maxLen; omega) HP.out.ok (some ⟨b, 0, none⟩) cb T (by rw [HT64.out]; exact HQ2.out.1) HTx.out (by have := HE0.out.2.2.2.2.2.1; have := HL.out.2.1; omega)
          rw [HT64.out, HWE.out.1] at h
          exact h)
        have HP1 := Lib.hid HP.out.n1
        have HP2 := Lib.hid HP.out.n2
        obtain ⟨d, hd⟩ : ∃ d, d = laidD m L k := ⟨_, rfl⟩
        rw [← hd] at HP HE0 HWE HWr
        have HTl := HT64
        have HTx3 : Hid (∀ w3, ChgD wr w3 B bm → Txt w3 (some ⟨b, 0, none⟩) T) := Lib.hid (fun w3 hc => HTx.out.same (hc.block b (Nat.lt_of_lt_of_le HBl.out HP.out.below.size) (by have := HP.out.hB; have := HBl.out; omega) (by have := HP.out.hbm; have := HBl.out; omega)) hc.size)
        clear hd HA HTk
        go_wp2_with (first
          | (go_at_call 27; refine HWr.out.mono ?_; rintro e w3 ⟨rfl, hd3, hc3⟩; obtain ⟨⟨x0, x1, x2, x3, x4⟩, ⟨z0, z1, z2, z3, z4⟩⟩ := cells5 (HP.out.boxOn hc3); have ec := text_run_n w3 (some ⟨b, 0, none⟩) cb 64 T HTl.out (HTx3.out w3 hc3) (fun e => by cases e); have HX3 := Lib.hid (And.intro hd3 hc3); clear hd3 hc3)
          | (go_at_call 44; refine (play_write _ g c tr d k T (HP.out.ref.chg HX3.out.2 HP1.out HP2.out) HP.out.ok (by have := HE0.out.2.2.2.2.2.1; have := HL.out.2.1; omega) (by have := HE0.out.1; have := HL.out.2.1; omega) HP.out.len).mono ?_; rintro e w4 ⟨g1, c1, tr1, rfl, hr4, hb4⟩; obtain ⟨⟨x0, x1, x2, x3, x4⟩, ⟨z0, z1, z2, z3, z4⟩⟩ := cells5 (Pair.boxLast (HP.out.boxOn HX3.out.2) hb4)
             have HP4 := Lib.hid (HP.out.renew (N1 := k + 1) HX3.out.1 HX3.out.2 hr4 hb4 (writeD_ok _ _ _ HP.out.ok) (writeD_many _ _ _) (by have := HP.out.nn; omega) (by have := HP.out.wr; have := writeD_writes d k T; omega)); clear hr4 hb4))
        go_roundw
        case rel => exact ⟨k + 1, nn + 1, g1, c1, tr1, by omega, by omega, congrArg (Value.int .i64) (by omega), by rw [HWE.out.2]; exact HP4⟩
        case measure => rw [hwk]; exact roundsLeft_next _ _ hlt
      · have hkm2 : (m : Int) ≤ (k : Int) := by omega
        have HE : Hid (min m L.length = k) := Lib.hid (by omega)
        obtain ⟨⟨x0, x1, x2, x3, x4⟩, ⟨v0, v1, v2, v3, v4⟩⟩ := cells5 HP.out.box
        have hz : wr.heap[w.heap.size]? = some zDisk := by
          have e : w0.heap[w.heap.size]? = some zDisk := by rw [HW0.out]; exact heap_alloc_new w _
          exact (HP.out.below.block _ (heapLt e)).trans e
        unfold zDisk at hz
        have HZd : Hid (wr.drew.heap[w.heap.size]? = _) := Lib.hid (heap_on (Below.refl _ _).drew hz)
        have HNe : Hid (b6 ≠ w.heap.size) := Lib.hid (by have h1 := HP.out.h6; have h2 := HW0.out; rw [h2, World.size_alloc] at h1; omega)
        obtain ⟨dm, hdm⟩ : ∃ dm, dm = (laidD m L k).many := ⟨_, rfl⟩
        obtain ⟨da, hda⟩ : ∃ da, da = aftR (laidD m L k) := ⟨_, rfl⟩
        obtain ⟨dd, hdd⟩ : ∃ dd, dd = (laidD m L k).dead := ⟨_, rfl⟩
        obtain ⟨dw, hdw⟩ : ∃ dw, dw = (laidD m L k).writes := ⟨_, rfl⟩
        rw [← hdm] at x0
        rw [← hda] at x1
        rw [← hdd] at x3
        rw [← hdw] at x4
        have HD := Lib.hid (And.intro hdm (And.intro hda (And.intro hdd hdw)))
        clear hz hdm hda hdd hdw v0 v1 v2 v3 v4
        have HS0 : Hid ((fun V : World => V.cell? ⟨b6, 0, none⟩ = some (.slice (some ⟨g, 0, none⟩) dm c) ∧ V.cell? ⟨b6, 1, none⟩ = some (.int .i64 da) ∧ V.cell? ⟨b6, 2, none⟩ = some (.int .i64 tr) ∧ V.cell? ⟨b6, 3, none⟩ = some (.bool dd) ∧ V.cell? ⟨b6, 4, none⟩ = some (.int .i64 dw)) wr.drew) := Lib.hid ⟨cell_on (Below.refl _ _).drew x0, cell_on (Below.refl _ _).drew x1, cell_on (Below.refl _ _).drew x2, cell_on (Below.refl _ _).drew x3, cell_on (Below.refl _ _).drew x4⟩
        have HPd : Hid (Pair w0 b6 B bm nn g c tr (laidD m L k) k wr.drew) := Lib.hid (HP.out.later (Below.refl _ _).drew (Nat.le_refl _))
        clear x0 x1 x2 x3 x4
        go_wp2
        refine wp_region_held_drew (S := fun V => V.cell? ⟨b6, 0, none⟩ = some (.slice (some ⟨g, 0, none⟩) dm c) ∧ V.cell? ⟨b6, 1, none⟩ = some (.int .i64 da) ∧ V.cell? ⟨b6, 2, none⟩ = some (.int .i64 tr) ∧ V.cell? ⟨b6, 3, none⟩ = some (.bool dd) ∧ V.cell? ⟨b6, 4, none⟩ = some (.int .i64 dw)) (by kernel_rfl) HS0.out ?_
        intro hHeld
        clear HS0
        generalize wr.drew = wd at HZd HPd hHeld ⊢
        (refine takeH (i := 0) (v := ?_) rfl (by kernel_rfl) (by kernel_rfl) (by kernel_rfl) (fun _ _ _ h => h) (Or.inl ⟨by rfl, ?_⟩) (by assumption) ?_; rotate_left; (focus ((intro wS hSw); (try dsimp only at hSw); obtain ⟨s0, s1, s2, s3, s4⟩ := hSw; go_simp; (try with_reducible rfl); done)); (try simp only [Act.put, List.setIfInBounds_toArray, List.set_cons_zero, List.set_cons_succ]))
        (refine takeH (i := 1) (v := ?_) rfl (by kernel_rfl) (by kernel_rfl) (by kernel_rfl) (fun _ _ _ h => h) (Or.inl ⟨by rfl, ?_⟩) (by assumption) ?_; rotate_left; (focus ((intro wS hSw); (try dsimp only at hSw); obtain ⟨s0, s1, s2, s3, s4⟩ := hSw; go_simp; (try with_reducible rfl); done)); (try simp only [Act.put, List.setIfInBounds_toArray, List.set_cons_zero, List.set_cons_succ]))
        (refine takeH (i := 2) (v := ?_) rfl (by kernel_rfl) (by kernel_rfl) (by kernel_rfl) (fun _ _ _ h => h) (Or.inl ⟨by rfl, ?_⟩) (by assumption) ?_; rotate_left; (focus ((intro wS hSw); (try dsimp only at hSw); obtain ⟨s0, s1, s2, s3, s4⟩ := hSw; go_simp; (try with_reducible rfl); done)); (try simp only [Act.put, List.setIfInBounds_toArray, List.set_cons_zero, List.set_cons_succ]))
        refine aloneH (i := 3) rfl (by kernel_rfl) (fun K hK => ?_)
        rw [if_pos (by rfl)]
        refine wp_store_row 28 (.tmp 5) (.tmp 44) (by rfl) w.heap.size (by rfl) [.slice (some ⟨g, 0, none⟩) dm c, .int .i64 da, .int .i64 tr, .bool dd, .int .i64 dw] (by kernel_rfl) (by simp [Value.oneCell']) (by rfl) #[.slice none 0 0, .int .i64 0, .int .i64 0, .bool false, .int .i64 0] (by rfl) _ HZd.out ?_
        refine hK.out _ _ (⟨(World.cell?_of_block (setRow_other _ _ _ _ HNe.out)).trans hHeld.1, (World.cell?_of_block (setRow_other _ _ _ _ HNe.out)).trans hHeld.2.1, (World.cell?_of_block (setRow_other _ _ _ _ HNe.out)).trans hHeld.2.2.1, (World.cell?_of_block (setRow_other _ _ _ _ HNe.out)).trans hHeld.2.2.2.1, (World.cell?_of_block (setRow_other _ _ _ _ HNe.out)).trans hHeld.2.2.2.2⟩) (fun hNew => ?_)
        clear hK K hHeld; (have hHeld := hNew); clear hNew; (try simp only [Act.put])
        (refine takeH (i := 4) (v := ?_) rfl (by kernel_rfl) (by kernel_rfl) (by kernel_rfl) (fun _ _ _ h => h) (Or.inl ⟨by rfl, ?_⟩) (by assumption) ?_; rotate_left; (focus ((intro wS hSw); (try dsimp only at hSw); obtain ⟨s0, s1, s2, s3, s4⟩ := hSw; go_simp; (try with_reducible rfl); done)); (try simp only [Act.put, List.setIfInBounds_toArray, List.set_cons_zero, List.set_cons_succ]))
        refine wpAnyH_done (by kernel_rfl) ?_ _
        clear hHeld
        go_wp2
        have hz2 := HZd.out
        have hne := (ref_apart HPd.out.ref HPd.out.many1 HPd.out.dsk hz2 (by intro s e; cases e)).2.2
        have h0 : w0.heap.size = w.heap.size + 1 := by rw [HW0.out, World.size_alloc]
        have hBn : B ≠ w.heap.size := by have := HPd.out.hB; omega
        have hbn : bm ≠ w.heap.size := by have := HPd.out.hbm; omega
        have hbw : Below w.heap.size w wd := by
          have h2 : Below w.heap.size w w0 := by rw [HW0.out]; exact below_alloc w _
          exact h2.trans (HPd.out.below.mono (by omega))
        refine bodyPost_ret (results_disk ⟨_, Try.underlying28⟩ (by kernel_rfl) rfl _ _ w.heap.size _ _ _ _ _ (.pointer (some ⟨B, 0, none⟩)) (.bool true) rfl rfl rfl _ _ (setRow_heap _ _ _ _ _ _ hz2)) rfl ?_
        rw [HE.out]
        refine ⟨B, bm, nn, g, c, tr, by rw [HD.out.1, HD.out.2.1, HD.out.2.2.1, HD.out.2.2.2], ?_, by have h1 := HPd.out.nn; have h2 := HL.out.2.1; omega, ?_, HPd.out.ok, by have := HPd.out.hB; omega, by have := HPd.out.hbm; omega, HPd.out.n1, HPd.out.n2, below_setRow hbw (Nat.le_refl _) _⟩
        · exact HPd.out.dsk.kp (Bs := B) ⟨fun _ => setRow_other _ _ _ _ hBn, fun _ => setRow_other _ _ _ _ hBn, fun _ => setRow_other _ _ _ _ hbn, by simp [World.setRow]⟩
        · exact HPd.out.ref.chg ((ChgD.refl wd w.heap.size w.heap.size).box _) hne hne
    · have hge : (L.length : Int) ≤ (k : Int) := by omega
      have HE : Hid (min m L.length = k) := Lib.hid (by omega)
      obtain ⟨⟨x0, x1, x2, x3, x4⟩, ⟨v0, v1, v2, v3, v4⟩⟩ := cells5 HP.out.box
      have hz : wr.heap[w.heap.size]? = some zDisk := by
        have e : w0.heap[w.heap.size]? = some zDisk := by rw [HW0.out]; exact heap_alloc_new w _
        exact (HP.out.below.block _ (heapLt e)).trans e
      unfold zDisk at hz
      have HZd : Hid (wr.drew.heap[w.heap.size]? = _) := Lib.hid (heap_on (Below.refl _ _).drew hz)
      have HNe : Hid (b6 ≠ w.heap.size) := Lib.hid (by have h1 := HP.out.h6; have h2 := HW0.out; rw [h2, World.size_alloc] at h1; omega)
      obtain ⟨dm, hdm⟩ : ∃ dm, dm = (laidD m L k).many := ⟨_, rfl⟩
      obtain ⟨da, hda⟩ : ∃ da, da = aftR (laidD m L k) := ⟨_, rfl⟩
      obtain ⟨dd, hdd⟩ : ∃ dd, dd = (laidD m L k).dead := ⟨_, rfl⟩
      obtain ⟨dw, hdw⟩ : ∃ dw, dw = (laidD m L k).writes := ⟨_, rfl⟩
      rw [← hdm] at x0
      rw [← hda] at x1
      rw [← hdd] at x3
      rw [← hdw] at x4
      have HD := Lib.hid (And.intro hdm (And.intro hda (And.intro hdd hdw)))
      clear hz hdm hda hdd hdw v0 v1 v2 v3 v4
      have HS0 : Hid ((fun V : World => V.cell? ⟨b6, 0, none⟩ = some (.slice (some ⟨g, 0, none⟩) dm c) ∧ V.cell? ⟨b6, 1, none⟩ = some (.int .i64 da) ∧ V.cell? ⟨b6, 2, none⟩ = some (.int .i64 tr) ∧ V.cell? ⟨b6, 3, none⟩ = some (.bool dd) ∧ V.cell? ⟨b6, 4, none⟩ = some (.int .i64 dw)) wr.drew) := Lib.hid ⟨cell_on (Below.refl _ _).drew x0, cell_on (Below.refl _ _).drew x1, cell_on (Below.refl _ _).drew x2, cell_on (Below.refl _ _).drew x3, cell_on (Below.refl _ _).drew x4⟩
      have HPd : Hid (Pair w0 b6 B bm nn g c tr (laidD m L k) k wr.drew) := Lib.hid (HP.out.later (Below.refl _ _).drew (Nat.le_refl _))
      clear x0 x1 x2 x3 x4
      go_wp2
      refine wp_region_held_drew (S := fun V => V.cell? ⟨b6, 0, none⟩ = some (.slice (some ⟨g, 0, none⟩) dm c) ∧ V.cell? ⟨b6, 1, none⟩ = some (.int .i64 da) ∧ V.cell? ⟨b6, 2, none⟩ = some (.int .i64 tr) ∧ V.cell? ⟨b6, 3, none⟩ = some (.bool dd) ∧ V.cell? ⟨b6, 4, none⟩ = some (.int .i64 dw)) (by kernel_rfl) HS0.out ?_
      intro hHeld
      clear HS0
      generalize wr.drew = wd at HZd HPd hHeld ⊢
      (refine takeH (i := 0) (v := ?_) rfl (by kernel_rfl) (by kernel_rfl) (by kernel_rfl) (fun _ _ _ h => h) (Or.inl ⟨by rfl, ?_⟩) (by assumption) ?_; rotate_left; (focus ((intro wS hSw); (try dsimp only at hSw); obtain ⟨s0, s1, s2, s3, s4⟩ := hSw; go_simp; (try with_reducible rfl); done)); (try simp only [Act.put, List.setIfInBounds_toArray, List.set_cons_zero, List.set_cons_succ]))
      (refine takeH (i := 1) (v := ?_) rfl (by kernel_rfl) (by kernel_rfl) (by kernel_rfl) (fun _ _ _ h => h) (Or.inl ⟨by rfl, ?_⟩) (by assumption) ?_; rotate_left; (focus ((intro wS hSw); (try dsimp only at hSw); obtain ⟨s0, s1, s2, s3, s4⟩ := hSw; go_simp; (try with_reducible rfl); done)); (try simp only [Act.put, List.setIfInBounds_toArray, List.set_cons_zero, List.set_cons_succ]))
      (refine takeH (i := 2) (v := ?_) rfl (by kernel_rfl) (by kernel_rfl) (by kernel_rfl) (fun _ _ _ h => h) (Or.inl ⟨by rfl, ?_⟩) (by assumption) ?_; rotate_left; (focus ((intro wS hSw); (try dsimp only at hSw); obtain ⟨s0, s1, s2, s3, s4⟩ := hSw; go_simp; (try with_reducible rfl); done)); (try simp only [Act.put, List.setIfInBounds_toArray, List.set_cons_zero, List.set_cons_succ]))
      refine aloneH (i := 3) rfl (by kernel_rfl) (fun K hK => ?_)
      rw [if_pos (by rfl)]
      refine wp_store_row 28 (.tmp 5) (.tmp 44) (by rfl) w.heap.size (by rfl) [.slice (some ⟨g, 0, none⟩) dm c, .int .i64 da, .int .i64 tr, .bool dd, .int .i64 dw] (by kernel_rfl) (by simp [Value.oneCell']) (by rfl) #[.slice none 0 0, .int .i64 0, .int .i64 0, .bool false, .int .i64 0] (by rfl) _ HZd.out ?_
      refine hK.out _ _ (⟨(World.cell?_of_block (setRow_other _ _ _ _ HNe.out)).trans hHeld.1, (World.cell?_of_block (setRow_other _ _ _ _ HNe.out)).trans hHeld.2.1, (World.cell?_of_block (setRow_other _ _ _ _ HNe.out)).trans hHeld.2.2.1, (World.cell?_of_block (setRow_other _ _ _ _ HNe.out)).trans hHeld.2.2.2.1, (World.cell?_of_block (setRow_other _ _ _ _ HNe.out)).trans hHeld.2.2.2.2⟩) (fun hNew => ?_)
      clear hK K hHeld; (have hHeld := hNew); clear hNew; (try simp only [Act.put])
      (refine takeH (i := 4) (v := ?_) rfl (by kernel_rfl) (by kernel_rfl) (by kernel_rfl) (fun _ _ _ h => h) (Or.inl ⟨by rfl, ?_⟩) (by assumption) ?_; rotate_left; (focus ((intro wS hSw); (try dsimp only at hSw); obtain ⟨s0, s1, s2, s3, s4⟩ := hSw; go_simp; (try with_reducible rfl); done)); (try simp only [Act.put, List.setIfInBounds_toArray, List.set_cons_zero, List.set_cons_succ]))
      refine wpAnyH_done (by kernel_rfl) ?_ _
      clear hHeld
      go_wp2
      have hz2 := HZd.out
      have hne := (ref_apart HPd.out.ref HPd.out.many1 HPd.out.dsk hz2 (by intro s e; cases e)).2.2
      have h0 : w0.heap.size = w.heap.size + 1 := by rw [HW0.out, World.size_alloc]
      have hBn : B ≠ w.heap.size := by have := HPd.out.hB; omega
      have hbn : bm ≠ w.heap.size := by have := HPd.out.hbm; omega
      have hbw : Below w.heap.size w wd := by
        have h2 : Below w.heap.size w w0 := by rw [HW0.out]; exact below_alloc w _
        exact h2.trans (HPd.out.below.mono (by omega))
      refine bodyPost_ret (results_disk ⟨_, Try.underlying28⟩ (by kernel_rfl) rfl _ _ w.heap.size _ _ _ _ _ (.pointer (some ⟨B, 0, none⟩)) (.bool true) rfl rfl rfl _ _ (setRow_heap _ _ _ _ _ _ hz2)) rfl ?_
      rw [HE.out]
      refine ⟨B, bm, nn, g, c, tr, by rw [HD.out.1, HD.out.2.1, HD.out.2.2.1, HD.out.2.2.2], ?_, by have h1 := HPd.out.nn; have h2 := HL.out.2.1; omega, ?_, HPd.out.ok, by have := HPd.out.hB; omega, by have := HPd.out.hbm; omega, HPd.out.n1, HPd.out.n2, below_setRow hbw (Nat.le_refl _) _⟩
      · exact HPd.out.dsk.kp (Bs := B) ⟨fun _ => setRow_other _ _ _ _ hBn, fun _ => setRow_other _ _ _ _ hBn, fun _ => setRow_other _ _ _ _ hbn, by simp [World.setRow]⟩
      · exact HPd.out.ref.chg ((ChgD.refl wd w.heap.size w.heap.size).box _) hne hne
end Go.Proofs.Ytfjejiapafdgeaa
