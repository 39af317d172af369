/- Batches as they come in; not more than are looked at. A batch is kept just if it is one, and its sectors are left: walked. -/
import Derived.Test.YtmgonokhgijgoaaJ51
import Derived.Test.YtmgonokhgijgoaaJ3
namespace Go.Proofs.Ytmgonokhgijgoaa
open Go.RowKit Go.ChangeShapes Go.WideShapes
set_option maxRecDepth 100000
set_option linter.unusedSimpArgs false
set_option linter.unusedVariables false

def BatsAt (w : World) (A : Option Addr) (L : List Text) : Prop :=
  ∀ i (h : i < L.length), ∃ b off Ai ci, A = some ⟨b, off, none⟩ ∧ b < w.heap.size ∧ w.cell? ⟨b, off + i, none⟩ = some (.slice Ai L[i].length ci) ∧ L[i].length ≤ ci ∧ ci ≤ maxLen ∧ Txt w Ai L[i] ∧ (Ai = none → L[i] = [])
theorem BatsAt.below {w w' : World} {A : Option Addr} {L : List Text} (h : BatsAt w A L) (hb : Below w.heap.size w w') : BatsAt w' A L := fun i hi => by
  obtain ⟨b, off, Ai, ci, e, hbl, hc, h1, h2, hT, hn⟩ := h i hi
  exact ⟨b, off, Ai, ci, e, Nat.lt_of_lt_of_le hbl hb.size, (hb.cell (p := ⟨b, off + i, none⟩) hbl).trans hc, h1, h2, hT.below hb, hn⟩
section
variable {H : Type} {enc : TypeId × Value → H} {W : World} {base : Nat} {sp : Nat → Bool} {held : Bool}
theorem open_bats {r : Reach} {b0 : Nat} {v : Value} {d : DataW H} {p : List MemPlace} (hv : Value.okWide Try.prog W r b0 31 v) (h : DataW.Trod enc Try.prog W base sp held 31 v d p) :
    ∃ (A : Option Addr) (L : List Text) (c : Nat), v = .slice A L.length c ∧ BatsAt W A L ∧ L.length ≤ 9223372036854775807 := by
  obtain ⟨a, n, c, rfl⟩ := okWide_slice Try.underlying31 hv
  obtain ⟨fuel, hf⟩ := h
  rcases Go.Deep.open_slice1 Try.underlying31 (by kernel_rfl) (by simpa [Value.cells] using hf) with ⟨hcs, _⟩ | ⟨y, len, cap, m, k, V, D, Pl, hcs, _, hl, hm, hm', _, hi⟩
  · simp at hcs
    obtain ⟨rfl, rfl, rfl⟩ := hcs
    exact ⟨none, [], 0, rfl, fun i hi => by simp at hi, by simp⟩
  · simp at hcs
    obtain ⟨rfl, rfl, rfl⟩ := hcs
    have hnm : n ≤ m := by
      rw [hm']
      cases sp y.block
      · simp
      · simpa using hl
    by_cases hz : n = 0
    · subst hz
      exact ⟨some y, [], c, rfl, fun i hi => by simp at hi, by simp⟩
    have each : ∀ i : Fin n, ∃ l : Text, ∃ Ai ci, V i.val = .slice Ai l.length ci ∧ l.length ≤ ci ∧ ci ≤ maxLen ∧ Txt W Ai l ∧ (Ai = none → l = []) := fun i => by
      obtain ⟨A, l, c', h1, h2, h3, h4, h5⟩ := bytes_of (hi i.val (by omega)).2
      exact ⟨l, A, c', h1, h2, h3, h4, h5⟩
    obtain ⟨b, off, spot⟩ := y
    have hspot : spot = none := by
      have g0 := (hi 0 (by omega)).1
      simpa [Addr.add] using World.cell?_spot g0
    subst hspot
    have hL : (List.ofFn fun i => Classical.choose (each i)).length = n := List.length_ofFn
    refine ⟨some ⟨b, off, none⟩, List.ofFn fun i => Classical.choose (each i), c, by rw [hL], fun i hin => ?_, by rw [hL]; exact Nat.le_trans hl hm⟩
    have hin' : i < n := by rw [hL] at hin; exact hin
    obtain ⟨Ai, ci, h1, h2, h3, h4, h5⟩ := Classical.choose_spec (each ⟨i, hin'⟩)
    have hcell := (hi i (by omega)).1
    have hblk := block_lt_of_cell hcell
    rw [add_block] at hblk
    rw [Addr.add_mid] at hcell
    rw [List.getElem_ofFn]
    exact ⟨b, off, Ai, ci, rfl, hblk, hcell.trans (congrArg some h1), h2, h3, h4, h5⟩
end
def jlight (L : List Text) : Bool := decide ((∀ q (h : q < L.length), L[q].length ≤ 600) ∧ L.length ≤ 30)
set_option maxHeartbeats 1000000 in
theorem code_jlight (L : List Text) (A : Option Addr) (cap : Nat) (w : World) (hL : L.length ≤ 9223372036854775807) (hR : BatsAt w A L) :
    Calls Try.prog 31 #[.slice A L.length cap] w fun e w' => e = .returned (.bool (jlight L)) ∧ w = w' := by
  have HR := Lib.hid hR
  have HL := Lib.hid hL
  clear hR hL
  generalize hv : jlight L = v
  have HV := Lib.hid hv
  clear hv
  obtain ⟨ll, hll⟩ : ∃ ll, ll = L.length := ⟨_, rfl⟩
  rw [← hll]
  have HLl := Lib.hid hll
  clear hll
  go_enter Try.func31, Try.ntmps31
  go_wp2
  go_loopw [4, 7] (fun v4 i wr => ∃ k : Nat, k ≤ ll ∧ i = .int .i64 (k : Nat) ∧ wr = w ∧ Hid (∀ q (h : q < L.length), q < k → L[q].length ≤ 600)) (fun _ i _ => roundsLeft ll i)
  case atStart => exact ⟨0, Nat.zero_le _, rfl, rfl, Lib.hid (fun q _ h => absurd h (Nat.not_lt_zero q))⟩
  case round =>
    obtain ⟨k, hk, rfl, rfl, HS⟩ := hrel
    by_cases hlt : k < ll
    · have hlt' : (k : Int) < (ll : Int) := by omega
      have hge : ¬ ll ≤ k := by omega
      have HWk : Hid (wrap64 ((k : Int) + 1) = (k : Int) + 1) := Lib.hid (by have := HL.out; have := HLl.out; unfold wrap64; omega)
      have HMs : Hid (roundsLeft ll (.int .i64 ((k : Int) + 1)) < roundsLeft ll (.int .i64 (k : Int))) := Lib.hid (roundsLeft_next _ _ hlt)
      have hkL : k < L.length := by rw [← HLl.out]; exact hlt
      obtain ⟨b, off, Ai, ci, rfl, hbl, hc, _, _, _, _⟩ := HR.out k hkL
      obtain ⟨nl, hnl⟩ : ∃ nl, nl = L[k].length := ⟨_, rfl⟩
      rw [← hnl] at hc
      have HN := Lib.hid hnl
      clear hnl
      have hwk := HWk.out
      by_cases hbig : (600 : Int) < (nl : Int)
      · go_wp2
        go_ret
        refine ⟨ret_bool ?_, rfl⟩
        rw [← HV.out]
        exact (decide_eq_false (fun h => by have h1 := h.1 k hkL; rw [← HN.out] at h1; omega)).symm
      · have hbig' : ¬ (600 : Int) < (nl : Int) := hbig
        have HS2 : Hid (∀ q (h : q < L.length), q < k + 1 → L[q].length ≤ 600) := Lib.hid (fun q h hq => by
          by_cases e : q = k
          · subst e
            rw [← HN.out]
            omega
          · exact HS.out q h (by omega))
        clear hbig
        go_wp2
        go_roundw
        case rel => exact ⟨k + 1, by omega, congrArg (Value.int .i64) (by omega), trivial, HS2⟩
        case measure => first | exact HMs.out | (rw [hwk]; exact HMs.out)
    · obtain rfl : k = ll := by omega
      have HA : Hid (∀ q (h : q < L.length), L[q].length ≤ 600) := Lib.hid (fun q h => HS.out q h (by rw [HLl.out]; exact h))
      by_cases h30 : (k : Int) ≤ 30
      · go_wp2
        go_ret
        refine ⟨ret_bool ?_, rfl⟩
        rw [← HV.out]
        exact (decide_eq_true ⟨HA.out, by rw [← HLl.out]; omega⟩).symm
      · go_wp2
        go_ret
        refine ⟨ret_bool ?_, rfl⟩
        rw [← HV.out]
        exact (decide_eq_false (fun h => by have := h.2; rw [← HLl.out] at this; omega)).symm
end Go.Proofs.Ytmgonokhgijgoaa

namespace Go.Proofs.Ytmgonokhgijgoaa
open Go.RowKit
set_option maxRecDepth 100000
set_option linter.unusedSimpArgs false
set_option linter.unusedVariables false

/-- behind k batches -/
structure RoomS (w : World) (P bm B m k : Nat) (n : Nat) (j : JnV) (d : DiskV) (wr : World) : Prop where
  on : JOn wr P bm n j d
  hB : j.B = B
  many : d.many = m
  le : j.many ≤ k
  nn : n ≤ 60 + 1000 * k
  wrs : d.writes ≤ 1000 * k
  low : Below w.heap.size w wr
def StepR (w : World) (P bm B m k : Nat) (f : Int) (rm : Nat) (e : Ending) (w' : World) : Prop := ∃ x n j d, e = .returned (.tuple #[.int .i64 x, .int .i64 f]) ∧ RoomS w P bm B m k n j d w' ∧ m - j.tail = rm
def CaseR (nd : Int) (rm : Nat) (f : Int) (r2 : Nat) : Prop := (nd = 0 ∧ f = 2 ∧ r2 = rm) ∨ (nd ≠ 0 ∧ (rm : Int) < nd ∧ f = 31 ∧ r2 = rm) ∨ (nd ≠ 0 ∧ ¬ (rm : Int) < nd ∧ f = 0 ∧ (r2 : Int) = rm - nd)
theorem room_step (w wr : World) (P bm B m k n : Nat) (j : JnV) (d : DiskV) (b : Text) (A : Option Addr) (c : Nat) (h : RoomS w P bm B m k n j d wr) (hk : k ≤ 30) (hm : m ≤ 60) (h6 : b.length ≤ 600) (hcc : b.length ≤ c) (hT : Txt wr A b) (p1 : w.heap.size ≤ P) (p2 : w.heap.size ≤ B) (p3 : w.heap.size ≤ bm) :
    ∃ (f : Int) (r2 : Nat), CaseR (needV b.length) (m - j.tail) f r2 ∧ Calls Try.prog 36 #[.pointer (some ⟨P, 0, none⟩), .slice A b.length c] wr (StepR w P bm B m (k + 1) f r2) := by
  have hbel : ∀ V, ChgJ wr V P j.B bm → Below w.heap.size w V := fun V hc => h.low.trans (hc.below h.low.size p1 (by rw [h.hB]; exact p2) p3)
  have hle := h.le
  have hnn := h.nn
  have hwr := h.wrs
  by_cases h0 : b.length = 0
  · refine ⟨2, m - j.tail, .inl ⟨by unfold needV; rw [if_pos (by omega)], rfl, rfl⟩, ?_⟩
    refine (japp_arg wr P bm n j d b A c h.on.at_ h.on.dsk h.on.cut (by omega) ?_).mono ?_
    · unfold headOk needV
      rw [if_pos (by omega)]
      simp
    · rintro e w' ⟨q1, ⟨n', q2, q3⟩, q4, q5⟩
      exact ⟨0, n', j, d, q1, ⟨{ h.on with at_ := q4, dsk := q2 }, h.hB, h.many, by omega, by omega, by omega, hbel _ q5⟩, rfl⟩
  · have hnd : needV (b.length : Nat) = ((manyC b + 2 : Nat) : Int) := by unfold needV manyC; rw [if_neg (by omega)]; omega
    by_cases hf : m - j.tail < manyC b + 2
    · refine ⟨31, m - j.tail, .inr (.inl ⟨by rw [hnd]; omega, by rw [hnd]; omega, rfl, rfl⟩), ?_⟩
      refine (japp_full wr P bm n j d b A c h.on.at_ h.on.dsk h.on.cut (by omega) h.on.tail (by omega) (by omega) hcc hT (by rw [h.many]; exact hf)).mono ?_
      rintro e w' ⟨q1, ⟨n', q2, q3⟩, q4, q5⟩
      exact ⟨0, n', j, d, q1, ⟨{ h.on with at_ := q4, dsk := q2 }, h.hB, h.many, by omega, by omega, by omega, hbel _ q5⟩, rfl⟩
    · refine ⟨0, m - j.tail - (manyC b + 2), .inr (.inr ⟨by rw [hnd]; omega, by rw [hnd]; omega, rfl, by rw [hnd]; omega⟩), ?_⟩
      refine (japp_on wr P bm n j d b A c h.on (by omega) (by omega) (by omega) (by omega) (by omega) hcc hT (by rw [h.many]; omega)).mono ?_
      rintro e w' ⟨n', d', q1, q2, q3, q4, q5, q6⟩
      refine ⟨_, n', _, d', q1, ⟨q2, h.hB, by rw [q3, h.many], ?_, by omega, by omega, hbel _ q6⟩, ?_⟩
      · show j.many + 1 ≤ k + 1
        omega
      · show m - (j.tail + (manyC b + 2)) = _
        omega
set_option maxHeartbeats 2000000 in
theorem journalRoom_any (many : Int) (L : List Text) (A : Option Addr) (cap : Nat) (w : World) (hL : L.length ≤ 9223372036854775807) (hR : BatsAt w A L) :
    Calls Try.prog 9 #[.int .i64 many, .slice A L.length cap] w fun e w' => e = .returned (.bool true) ∧ Below w.heap.size w w' := by
  have HLv := Lib.hid jn_lives
  have HLi := Lib.hid (code_jlight L A cap w hL hR)
  by_cases h1 : many < 1
  · clear hR hL
    go_enter Try.func9, Try.ntmps9
    go_wp2_with (go_at_call 32; refine (HLv.out _).mono ?_; rintro e w1 ⟨rfl, hb1⟩; have HB1 := Lib.hid hb1; clear hb1)
    go_ret
    exact ⟨rfl, HB1.out⟩
  by_cases h2 : 60 < many
  · have h1' : ¬ many < 1 := h1
    clear hR hL
    go_enter Try.func9, Try.ntmps9
    go_wp2_with (go_at_call 32; refine (HLv.out _).mono ?_; rintro e w1 ⟨rfl, hb1⟩; have HB1 := Lib.hid hb1; clear hb1)
    go_ret
    exact ⟨rfl, HB1.out⟩
  have h1' : ¬ many < 1 := h1
  have h2' : ¬ 60 < many := h2
  cases hq : jlight L with
  | false =>
    rw [hq] at HLi
    clear hR hL hq
    go_enter Try.func9, Try.ntmps9
    go_wp2_with (first
      | (go_at_call 31; refine HLi.out.mono ?_; rintro e w1 ⟨rfl, rfl⟩)
      | (go_at_call 32; refine (HLv.out _).mono ?_; rintro e w1 ⟨rfl, hb1⟩; have HB1 := Lib.hid hb1; clear hb1))
    go_ret
    exact ⟨rfl, HB1.out⟩
  | true =>
    rw [hq] at HLi
    obtain ⟨m, rfl⟩ : ∃ m : Nat, many = m := ⟨many.toNat, by omega⟩
    have HM : Hid (1 ≤ m ∧ m ≤ 60) := Lib.hid (by omega)
    unfold jlight at hq
    have hq2 := of_decide_eq_true hq
    have HQ := Lib.hid hq2
    have HR := Lib.hid hR
    obtain ⟨ll, hll⟩ : ∃ ll, ll = L.length := ⟨_, rfl⟩
    rw [← hll] at HLi ⊢
    have HLl : Hid (ll = L.length ∧ ll ≤ 30) := Lib.hid ⟨hll, by rw [hll]; exact hq2.2⟩
    clear hR hL hq hq2 hll
    have HN : Hid (∀ V, V = w → Calls Try.prog 29 #[.int .i64 m] V fun e W => ∃ B bm, e = .returned (.pointer (some ⟨B, 0, none⟩)) ∧ Dsk W B bm 0 (newD m) ∧ w.heap.size ≤ B ∧ w.heap.size ≤ bm ∧ Below w.heap.size w W) := Lib.hid (fun V hV => by
      subst hV
      have := code_dnew V m (by have := HM.out; omega) (by have := HM.out; omega)
      rw [Int.toNat_natCast] at this
      exact this.mono fun e W ⟨q1, q2, q3⟩ => ⟨_, _, q1, q2, by omega, by omega, q3⟩)
    go_enter Try.func9, Try.ntmps9
    go_wp2_with (first
      | (go_at_call 31; refine HLi.out.mono ?_; rintro e w1 ⟨rfl, rfl⟩)
      | (go_at_call 29; refine (HN.out _ rfl).mono ?_; rintro e w1 ⟨B, bm, rfl, hd, hB, hbm, hb⟩; have HD1 := Lib.hid hd; have HBB := Lib.hid (And.intro hB hbm); have HB1 := Lib.hid hb; clear hd hB hbm hb; refine Stop.out ?_))
    unfold Stop
    go_wp2_with (first
      | (go_at_call 33; refine (jopen_new w1 B bm m HM.out.1 HM.out.2 HD1.out).mono ?_; rintro e w2 ⟨P, A2, c2, n, rfl, hj, hn, hP, hc⟩; have HPl : Hid (w.heap.size ≤ P) := Lib.hid (Nat.le_trans HB1.out.size hP); have HB2 : Hid (Below w.heap.size w w2) := Lib.hid (HB1.out.trans (hc.below HB1.out.size HBB.out.1 HBB.out.2)); have HI2 : Hid (RoomS w P bm B m 0 n ⟨B, 0, false, 0⟩ (newD m) w2) := Lib.hid ⟨hj, rfl, rfl, Nat.le_refl _, by omega, by show (0 : Int) ≤ 0; omega, HB2.out⟩; clear hj hn hP hc; refine Stop.out ?_))
    unfold Stop
    clear HN HLi HD1 HB1 h1 h2
    go_wp2
    go_loopw [9, 10, 11, 12, 13, 41] (fun v9 v10 v11 v12 v13 i wr => ∃ k : Nat, k ≤ ll ∧ i = .int .i64 (k : Nat) ∧ Hid (∃ n j d, RoomS w P bm B m k n j d wr)) (fun _ _ _ _ _ i _ => roundsLeft ll i)
    case atStart => exact ⟨0, Nat.zero_le _, rfl, Lib.hid ⟨_, _, _, HI2.out⟩⟩
    case round =>
      obtain ⟨k, hk, rfl, HIx⟩ := hrel
      clear HI2
      obtain ⟨n1, j, d, hI⟩ := HIx.out
      have HI := Lib.hid hI
      clear hI HIx
      have HRm : Hid (∀ V n j d, RoomS w P bm B m k n j d V ∨ RoomS w P bm B m (k + 1) n j d V → Calls Try.prog 40 #[.pointer (some ⟨P, 0, none⟩)] V fun e w' => e = .returned (.int .i64 ((m - j.tail : Nat) : Int)) ∧ Below V.heap.size V w') := Lib.hid (fun V n j d h => by
        rcases h with h | h
        · have := code_jroom V P bm n j d h.on.at_ h.on.dsk h.on.tail
          rwa [h.many] at this
        · have := code_jroom V P bm n j d h.on.at_ h.on.dsk h.on.tail
          rwa [h.many] at this)
      by_cases hlt : k < ll
      · have hlt' : (k : Int) < (ll : Int) := by omega
        have hge : ¬ ll ≤ k := by omega
        have HMs : Hid (roundsLeft ll (.int .i64 ((k : Int) + 1)) < roundsLeft ll (.int .i64 (k : Int))) := Lib.hid (roundsLeft_next _ _ hlt)
        have HWk : Hid (wrap64 ((k : Int) + 1) = (k : Int) + 1) := Lib.hid (by have := HLl.out.2; unfold wrap64; omega)
        have hkL : k < L.length := by rw [← HLl.out.1]; exact hlt
        obtain ⟨b0, off, Ai, ci, rfl, hbl, hc, hl1, hl2, hT, hnn⟩ := HR.out.below HI.out.low k hkL
        have HL6 : Hid (L[k].length ≤ 600) := Lib.hid (HQ.out.1 k hkL)
        obtain ⟨rm, hrm⟩ : ∃ rm, rm = m - j.tail := ⟨_, rfl⟩
        obtain ⟨nd, hnd⟩ : ∃ nd, nd = needV L[k].length := ⟨_, rfl⟩
        have HRB : Hid (rm ≤ 60 ∧ 0 ≤ nd) := Lib.hid ⟨by have := HM.out; omega, by rw [hnd]; unfold needV; split <;> omega⟩
        have HNd : Hid (∀ V, Calls Try.prog 42 #[.int .i64 L[k].length] V fun e w' => e = .returned (.int .i64 nd) ∧ V = w') := Lib.hid (fun V => by rw [hnd]; exact ref_need _ V)
        have HRm1 : Hid (Calls Try.prog 40 #[.pointer (some ⟨P, 0, none⟩)] wr fun e w' => e = .returned (.int .i64 (rm : Nat)) ∧ Below wr.heap.size wr w') := Lib.hid (by rw [hrm]; exact HRm.out wr n1 j d (.inl HI.out))
        have HAp : Hid (∀ V, Below wr.heap.size wr V → ∃ (f : Int) (r2 : Nat), CaseR nd rm f r2 ∧ Calls Try.prog 36 #[.pointer (some ⟨P, 0, none⟩), .slice Ai L[k].length ci] V (StepR w P bm B m (k + 1) f r2)) := Lib.hid (fun V hV => by
          rw [hnd, hrm]
          exact room_step w V P bm B m k n1 j d L[k] Ai ci { HI.out with on := HI.out.on.below hV, low := HI.out.low.trans (hV.mono HI.out.low.size) } (by have := HLl.out.2; omega) HM.out.2 HL6.out hl1 (hT.below hV) HPl.out HBB.out.1 HBB.out.2)
        generalize L[k].length = nl at hc HNd HAp
        clear hl1 hl2 hT hnn hrm hnd HL6 hkL
        go_wp2_with (first
          | (go_at_call 40; refine HRm1.out.mono ?_; rintro e w3 ⟨rfl, hb3⟩; have HB3 := Lib.hid hb3; clear hb3; refine Stop.out ?_))
        unfold Stop
        obtain ⟨f, r2, hcs, hap⟩ := HAp.out w3 HB3.out
        have HAp3 := Lib.hid hap
        have HCs := Lib.hid hcs
        clear hap HAp HRm1 HI hcs
        rcases HCs.out with ⟨rfl, rfl, rfl⟩ | ⟨hn0, hlt2, rfl, rfl⟩ | ⟨hn0, hlt2, rfl, hr2⟩
        · go_wp2_with (first
            | (go_at_call 42; refine (HNd.out _).mono ?_; rintro e w4 ⟨rfl, rfl⟩)
            | (go_at_call 36; refine HAp3.out.mono ?_; rintro e w5 ⟨x5, n5, j5, d5, rfl, hI5, ht5⟩; have HI5 := Lib.hid hI5; have HT5 := Lib.hid ht5; clear hI5 ht5; refine Stop.out ?_))
          unfold Stop
          have hr5 := HRm.out w5 n5 j5 d5 (.inr HI5.out)
          rw [HT5.out] at hr5
          have HR5 := Lib.hid hr5
          clear hr5
          have hwk := HWk.out
          go_wp2_with (first
            | (go_at_call 40; refine HR5.out.mono ?_; rintro e w6 ⟨rfl, hb6⟩; have HI6 : Hid (RoomS w P bm B m (k + 1) n5 j5 d5 w6) := Lib.hid { HI5.out with on := HI5.out.on.below hb6, low := below_then HI5.out.low hb6 }; clear hb6))
          go_roundw
          case rel => exact ⟨k + 1, by omega, congrArg (Value.int .i64) (by omega), Lib.hid ⟨_, _, _, HI6.out⟩⟩
          case measure => first | exact HMs.out | (rw [hwk]; exact HMs.out)
        · have hn0' : ¬ nd = 0 := hn0
          go_wp2_with (first
            | (go_at_call 42; refine (HNd.out _).mono ?_; rintro e w4 ⟨rfl, rfl⟩)
            | (go_at_call 36; refine HAp3.out.mono ?_; rintro e w5 ⟨x5, n5, j5, d5, rfl, hI5, ht5⟩; have HI5 := Lib.hid hI5; have HT5 := Lib.hid ht5; clear hI5 ht5; refine Stop.out ?_))
          unfold Stop
          have hr5 := HRm.out w5 n5 j5 d5 (.inr HI5.out)
          rw [HT5.out] at hr5
          have HR5 := Lib.hid hr5
          clear hr5
          have hwk := HWk.out
          go_wp2_with (first
            | (go_at_call 40; refine HR5.out.mono ?_; rintro e w6 ⟨rfl, hb6⟩; have HI6 : Hid (RoomS w P bm B m (k + 1) n5 j5 d5 w6) := Lib.hid { HI5.out with on := HI5.out.on.below hb6, low := below_then HI5.out.low hb6 }; clear hb6))
          go_roundw
          case rel => exact ⟨k + 1, by omega, congrArg (Value.int .i64) (by omega), Lib.hid ⟨_, _, _, HI6.out⟩⟩
          case measure => first | exact HMs.out | (rw [hwk]; exact HMs.out)
        · have hn0' : ¬ nd = 0 := hn0
          have hws : wrap64 ((rm : Int) - nd) = (r2 : Int) := by rw [hr2]; have := HRB.out; unfold wrap64; omega
          clear hr2
          go_wp2_with (first
            | (go_at_call 42; refine (HNd.out _).mono ?_; rintro e w4 ⟨rfl, rfl⟩)
            | (go_at_call 36; refine HAp3.out.mono ?_; rintro e w5 ⟨x5, n5, j5, d5, rfl, hI5, ht5⟩; have HI5 := Lib.hid hI5; have HT5 := Lib.hid ht5; clear hI5 ht5; refine Stop.out ?_))
          unfold Stop
          have hr5 := HRm.out w5 n5 j5 d5 (.inr HI5.out)
          rw [HT5.out] at hr5
          have HR5 := Lib.hid hr5
          clear hr5
          have hwk := HWk.out
          go_wp2_with (first
            | (go_at_call 40; refine HR5.out.mono ?_; rintro e w6 ⟨rfl, hb6⟩; have HI6 : Hid (RoomS w P bm B m (k + 1) n5 j5 d5 w6) := Lib.hid { HI5.out with on := HI5.out.on.below hb6, low := below_then HI5.out.low hb6 }; clear hb6))
          go_roundw
          case rel => exact ⟨k + 1, by omega, congrArg (Value.int .i64) (by omega), Lib.hid ⟨_, _, _, HI6.out⟩⟩
          case measure => first | exact HMs.out | (rw [hwk]; exact HMs.out)
      · have hge : (ll : Int) ≤ (k : Int) := by omega
        have hge' : ¬ (k : Int) < (ll : Int) := by omega
        obtain ⟨rm, hrm⟩ : ∃ rm, rm = m - j.tail := ⟨_, rfl⟩
        obtain ⟨tl, htl⟩ : ∃ tl, tl = j.tail := ⟨_, rfl⟩
        have hws : wrap64 ((rm : Int) + (tl : Int)) = (m : Int) := by rw [hrm, htl]; have h1 := HI.out.on.tail; have h2 := HI.out.many; have h3 := HM.out; unfold wrap64; omega
        have HRm1 : Hid (Calls Try.prog 40 #[.pointer (some ⟨P, 0, none⟩)] wr fun e w' => e = .returned (.int .i64 (rm : Nat)) ∧ Below wr.heap.size wr w') := Lib.hid (by rw [hrm]; exact HRm.out wr n1 j d (.inl HI.out))
        have HTl : Hid (∀ V, Below wr.heap.size wr V → Calls Try.prog 39 #[.pointer (some ⟨P, 0, none⟩)] V fun e w' => e = .returned (.int .i64 (tl : Nat)) ∧ V = w') := Lib.hid (fun V hV => by rw [htl]; exact code_jtail V P j (HI.out.on.at_.below hV))
        have HBw := Lib.hid HI.out.low
        clear hrm htl
        go_wp2_with (first
          | (go_at_call 40; refine HRm1.out.mono ?_; rintro e w3 ⟨rfl, hb3⟩; have HB3 := Lib.hid hb3; clear hb3)
          | (go_at_call 39; refine (HTl.out _ HB3.out).mono ?_; rintro e w4 ⟨rfl, rfl⟩)
          | (go_at_call 32; refine (HLv.out _).mono ?_; rintro e w5 ⟨rfl, hb5⟩; have HB5 := Lib.hid (below_then (below_then HBw.out HB3.out) hb5); clear hb5))
        go_ret
        exact ⟨rfl, HB5.out⟩
end Go.Proofs.Ytmgonokhgijgoaa
