/- A batch appended to a journal. A journal while power stays; the chapter's example. What stands behind a torn batch: plain facts. -/
import Derived.Test.YtfjejiapafdgeaaJ42
import Derived.Test.YtfjejiapafdgeaaJ35
import Derived.Test.YtfjejiapafdgeaaJ19
namespace Go.Proofs.Ytfjejiapafdgeaa
open Go.RowKit
set_option maxRecDepth 100000
set_option linter.unusedSimpArgs false
set_option linter.unusedVariables false

/-- what put and its count leave -/
def AppY (j : JnV) (m : Nat) (x : DiskV × Int) : DiskV × JnV × Int × Int := if x.2 = 0 then (x.1, { j with tail := j.tail + m, many := j.many + 1 }, (j.many + 1 : Nat), 0) else (x.1, { j with cut := true }, 0, x.2)
/-- what appending leaves: the disk, the journal, the batch's number, the error -/
def AppX (d : DiskV) (j : JnV) (b : Text) : DiskV × JnV × Int × Int :=
  if j.cut = true then (d, j, 0, 32) else if headOk (j.many + 1 : Nat) b.length = false then (d, j, 0, 2) else if d.many - j.tail < manyC b + 2 then (d, j, 0, 31) else AppY j (manyC b + 2) (putF d j.tail (pagesT (j.many + 1) b))
def AppP (w : World) (P bm n : Nat) (j : JnV) (x : DiskV × JnV × Int × Int) (e : Ending) (w' : World) : Prop :=
  e = .returned (.tuple #[.int .i64 x.2.2.1, .int .i64 x.2.2.2]) ∧ (∃ n', Dsk w' j.B bm n' x.1 ∧ n' ≤ n + 1000) ∧ JnAt w' P x.2.1 ∧ ChgJ w w' P j.B bm
theorem japp_cut (w : World) (P bm n : Nat) (j : JnV) (d : DiskV) (A : Option Addr) (l c : Nat) (hJ : JnAt w P j) (hD : Dsk w j.B bm n d) (hc : j.cut = true) :
    Calls Try.prog 36 #[.pointer (some ⟨P, 0, none⟩), .slice A l c] w (AppP w P bm n j (d, j, 0, 32)) := by
  have HMd := Lib.hid (code_jmade w P j hJ)
  have HJ := Lib.hid hJ
  have HD := Lib.hid hD
  obtain ⟨z0, z1, z2, z3⟩ := hJ.cells
  rw [hc] at z2
  clear hJ hD
  go_enter Try.func36, Try.ntmps36
  go_wp2_with (go_at_call 64; refine HMd.out.mono ?_; rintro e w1 ⟨rfl, rfl⟩)
  go_ret2
  exact ⟨rfl, ⟨n, HD.out, by omega⟩, HJ.out, ChgJ.refl _ _ _ _⟩
theorem japp_arg (w : World) (P bm n : Nat) (j : JnV) (d : DiskV) (b : Text) (A : Option Addr) (c : Nat) (hJ : JnAt w P j) (hD : Dsk w j.B bm n d) (hc : j.cut = false) (hm : j.many ≤ 100000) (hh : headOk (j.many + 1 : Nat) b.length = false) :
    Calls Try.prog 36 #[.pointer (some ⟨P, 0, none⟩), .slice A b.length c] w (AppP w P bm n j (d, j, 0, 2)) := by
  have HMd := Lib.hid (code_jmade w P j hJ)
  have HPg : Hid (Calls Try.prog 65 #[.int .i64 (j.many + 1 : Nat), .slice A b.length c] w fun e w' => e = .returned (.tuple #[.slice none 0 0, .int .i64 2]) ∧ Below w.heap.size w w') := Lib.hid (code_pages_no _ b A c w hh)
  have HJ := Lib.hid hJ
  have HD := Lib.hid hD
  obtain ⟨z0, z1, z2, z3⟩ := hJ.cells
  rw [hc] at z2
  obtain ⟨q, hq⟩ : ∃ q, q = j.many + 1 := ⟨_, rfl⟩
  have hw : wrap64 ((j.many : Int) + 1) = (q : Int) := by unfold wrap64; omega
  rw [← hq] at HPg
  generalize b.length = l at HPg ⊢
  clear hJ hD hm hq hh
  go_enter Try.func36, Try.ntmps36
  go_wp2_with (first
    | (go_at_call 64; refine HMd.out.mono ?_; rintro e w1 ⟨rfl, rfl⟩)
    | (go_at_call 65; refine HPg.out.mono ?_; rintro e w2 ⟨rfl, hb⟩; have HB2 := Lib.hid hb; clear hb))
  go_ret2
  exact ⟨rfl, ⟨n, HD.out.below HB2.out, by omega⟩, HJ.out.below HB2.out, ChgJ.of_below HB2.out⟩
set_option maxHeartbeats 1000000 in
theorem japp_full (w : World) (P bm n : Nat) (j : JnV) (d : DiskV) (b : Text) (A : Option Addr) (c : Nat) (hJ : JnAt w P j) (hD : Dsk w j.B bm n d) (hc : j.cut = false) (hm : j.many ≤ 100000) (ht : j.tail ≤ d.many) (h1 : 1 ≤ b.length) (h2 : b.length ≤ 131072) (hcc : b.length ≤ c) (hT : Txt w A b)
    (hf : d.many - j.tail < manyC b + 2) :
    Calls Try.prog 36 #[.pointer (some ⟨P, 0, none⟩), .slice A b.length c] w (AppP w P bm n j (d, j, 0, 31)) := by
  have HMd := Lib.hid (code_jmade w P j hJ)
  obtain ⟨q, hq⟩ : ∃ q, q = j.many + 1 := ⟨_, rfl⟩
  obtain ⟨m, hmm⟩ : ∃ m, m = manyC b + 2 := ⟨_, rfl⟩
  obtain ⟨rm, hrm⟩ : ∃ rm, rm = d.many - j.tail := ⟨_, rfl⟩
  have HPg : Hid (Calls Try.prog 65 #[.int .i64 (q : Nat), .slice A b.length c] w fun e w' => ∃ g c, e = .returned (.tuple #[.slice (some ⟨g, 0, none⟩) m c, .int .i64 0]) ∧ Below w.heap.size w w') := Lib.hid (by
    rw [hq, hmm]
    refine (code_pagesR (j.many + 1) b A c w (by omega) (by omega) h1 h2 hcc hT).mono ?_
    rintro e w' ⟨g, c, e1, _, _, hb⟩
    exact ⟨g, c, e1, hb⟩)
  have HRm : Hid (∀ V, Below w.heap.size w V → Calls Try.prog 40 #[.pointer (some ⟨P, 0, none⟩)] V fun e w' => e = .returned (.int .i64 (rm : Nat)) ∧ Below V.heap.size V w') := Lib.hid (fun V hV => by rw [hrm]; exact code_jroom V P bm n j d (hJ.below hV) (hD.below hV) ht)
  have HJ := Lib.hid hJ
  have HD := Lib.hid hD
  obtain ⟨z0, z1, z2, z3⟩ := hJ.cells
  rw [hc] at z2
  have hw : wrap64 ((j.many : Int) + 1) = (q : Int) := by unfold wrap64; omega
  have hlt : (rm : Int) < (m : Int) := by omega
  generalize b.length = l at HPg ⊢
  clear hJ hD hm hq h1 h2 hT hcc hmm hrm hf ht
  go_enter Try.func36, Try.ntmps36
  go_wp2_with (first
    | (go_at_call 64; refine HMd.out.mono ?_; rintro e w1 ⟨rfl, rfl⟩)
    | (go_at_call 65; refine HPg.out.mono ?_; rintro e w2 ⟨g2, c2, rfl, hb⟩; have HB2 := Lib.hid hb; clear hb)
    | (go_at_call 40; refine (HRm.out _ HB2.out).mono ?_; rintro e w3 ⟨rfl, hb⟩; have HB3 := Lib.hid (below_then HB2.out hb); clear hb))
  go_ret2
  exact ⟨rfl, ⟨n, HD.out.below HB3.out, by omega⟩, HJ.out.below HB3.out, ChgJ.of_below HB3.out⟩
set_option maxHeartbeats 1000000 in
theorem japp_put (w : World) (P bm n : Nat) (j : JnV) (d : DiskV) (b : Text) (A : Option Addr) (c : Nat) (hJ : JnAt w P j) (hD : Dsk w j.B bm n d) (hok : OkD d) (hn : n ≤ 1000000) (hwr : d.writes ≤ 1000000) (p1 : P ≠ j.B) (p2 : P ≠ bm) (hc : j.cut = false) (hm : j.many ≤ 100000) (ht : j.tail ≤ d.many) (h1 : 1 ≤ b.length) (h2 : b.length ≤ 1000) (hcc : b.length ≤ c) (hT : Txt w A b)
    (hf : manyC b + 2 ≤ d.many - j.tail) :
    Calls Try.prog 36 #[.pointer (some ⟨P, 0, none⟩), .slice A b.length c] w (AppP w P bm n j (AppY j (manyC b + 2) (putF d j.tail (pagesT (j.many + 1) b)))) := by
  have HMd := Lib.hid (code_jmade w P j hJ)
  obtain ⟨q, hq⟩ : ∃ q, q = j.many + 1 := ⟨_, rfl⟩
  obtain ⟨m, hmm⟩ : ∃ m, m = manyC b + 2 := ⟨_, rfl⟩
  have hmL : m ≤ 1000 := by rw [hmm]; unfold manyC; omega
  obtain ⟨rm, hrm⟩ : ∃ rm, rm = d.many - j.tail := ⟨_, rfl⟩
  obtain ⟨L, hLL⟩ : ∃ L, L = pagesT (j.many + 1) b := ⟨_, rfl⟩
  have hLl : L.length = m := by rw [hLL, pagesT_len, hmm]
  have HPg : Hid (Calls Try.prog 65 #[.int .i64 (q : Nat), .slice A b.length c] w fun e w' => ∃ g c, e = .returned (.tuple #[.slice (some ⟨g, 0, none⟩) m c, .int .i64 0]) ∧ SecsAt w' (some ⟨g, 0, none⟩) c L ∧ Below w.heap.size w w') := Lib.hid (by
    rw [hq]
    refine (code_pagesR (j.many + 1) b A c w (by omega) (by omega) h1 (by omega) hcc hT).mono ?_
    rw [← hmm]
    rintro e w' ⟨g, c, e1, ho, hcl, hb⟩
    refine ⟨g, c, e1, ?_, hb⟩
    obtain ⟨A4, c4, e4, hs⟩ := ho.secs
    injection e4 with e5 e6 e7
    subst e5 e7
    rw [hLL]
    exact hs)
  have HRm : Hid (∀ V, Below w.heap.size w V → Calls Try.prog 40 #[.pointer (some ⟨P, 0, none⟩)] V fun e w' => e = .returned (.int .i64 (rm : Nat)) ∧ Below V.heap.size V w') := Lib.hid (fun V hV => by rw [hrm]; exact code_jroom V P bm n j d (hJ.below hV) (hD.below hV) ht)
  rw [← hmm, ← hLL]
  have HPu : Hid (∀ V A c, Below w.heap.size w V → SecsAt V A c L → Calls Try.prog 66 #[.pointer (some ⟨P, 0, none⟩), .slice A m c] V (PutP V P bm n j L (putF d j.tail L))) := Lib.hid (fun V A c hV hs => by
    rw [← hLl]
    exact code_jput V P bm n j d L A c (hJ.below hV) (hD.below hV) hok hn hwr (by rw [hLl]; exact hmL) (by have := hD.2.2.1; omega) hs p1 p2)
  obtain ⟨z0, z1, z2, z3⟩ := hJ.cells
  rw [hc] at z2
  have hw : wrap64 ((j.many : Int) + 1) = (q : Int) := by unfold wrap64; omega
  have hlt : ¬ (rm : Int) < (m : Int) := by omega
  have HQ := Lib.hid (And.intro hq (And.intro hLl hmL))
  have HPn := Lib.hid (And.intro p1 p2)
  generalize b.length = l at HPg ⊢
  generalize putF d j.tail L = x at HPu ⊢
  clear hJ hD hm hq h1 h2 hT hcc hmm hrm hf ht hok hn hwr p1 p2 hLL hLl hmL
  go_enter Try.func36, Try.ntmps36
  go_wp2_with (first
    | (go_at_call 64; refine HMd.out.mono ?_; rintro e w1 ⟨rfl, rfl⟩)
    | (go_at_call 65; refine HPg.out.mono ?_; rintro e w2 ⟨g2, c2, rfl, hs, hb⟩; have HS2 := Lib.hid hs; have HB2 := Lib.hid hb; clear hb hs)
    | (go_at_call 40; refine (HRm.out _ HB2.out).mono ?_; rintro e w3 ⟨rfl, hb⟩; have HS3 := Lib.hid (HS2.out.on hb); have HB3 := Lib.hid (below_then HB2.out hb); clear hb)
    | (go_at_call 66; refine (HPu.out _ _ _ HB3.out HS3.out).mono ?_; rintro e w4 ⟨rfl, hd4, hj4, hc4⟩; have HD4 := Lib.hid hd4; have HJ4 := Lib.hid hj4; have HC4 : Hid (ChgJ w w4 P j.B bm) := Lib.hid ((ChgJ.of_below HB3.out).trans hc4); clear hd4 hj4 hc4; refine Stop.out ?_))
  unfold Stop
  clear z0 z1 z2 z3
  obtain ⟨x1, ev⟩ := x
  dsimp only at HD4 HJ4 ⊢
  by_cases he : ev = 0
  · subst he
    have HJ5 : Hid (JnAt w4 P { j with tail := j.tail + m }) := Lib.hid (by have := HJ4.out; rw [if_pos rfl, HQ.out.2.1] at this; exact this)
    obtain ⟨z0, z1, z2, z3⟩ := HJ5.out.cells
    have y3 := frozen_of_row w4 P 3 _ _ HJ5.out
    go_wp2
    go_ret2
    have e1 : AppY j m (x1, 0) = (x1, { j with tail := j.tail + m, many := q }, (q : Int), 0) := by unfold AppY; rw [if_pos rfl, HQ.out.1]
    rw [e1]
    obtain ⟨n', q1, q2⟩ := HD4.out
    exact ⟨rfl, ⟨n', q1.setP _ _ HPn.out.1 HPn.out.2, by have := HQ.out; omega⟩, heap_setCell_same w4 P 3 _ _ (.int .i64 (q : Int)) HJ5.out, HC4.out.setP _ _⟩
  · have hne : ¬ ev = 0 := he
    have HJ5 : Hid (JnAt w4 P { j with cut := true }) := Lib.hid (by have := HJ4.out; rw [if_neg he] at this; exact this)
    clear he
    go_wp2
    go_ret2
    have e1 : AppY j m (x1, ev) = (x1, { j with cut := true }, 0, ev) := by unfold AppY; rw [if_neg hne]
    rw [e1]
    obtain ⟨n', q1, q2⟩ := HD4.out
    exact ⟨rfl, ⟨n', q1, by have := HQ.out; omega⟩, HJ5.out, HC4.out⟩
theorem code_japp (w : World) (P bm n : Nat) (j : JnV) (d : DiskV) (b : Text) (A : Option Addr) (c : Nat) (hJ : JnAt w P j) (hD : Dsk w j.B bm n d) (hok : OkD d) (hn : n ≤ 1000000) (hwr : d.writes ≤ 1000000) (p1 : P ≠ j.B) (p2 : P ≠ bm) (hm : j.many ≤ 100000) (ht : j.tail ≤ d.many) (h2 : b.length ≤ 1000) (hcc : b.length ≤ c) (hT : Txt w A b) :
    Calls Try.prog 36 #[.pointer (some ⟨P, 0, none⟩), .slice A b.length c] w (AppP w P bm n j (AppX d j b)) := by
  unfold AppX
  by_cases hc0 : j.cut = true
  · rw [if_pos hc0]; exact japp_cut w P bm n j d A b.length c hJ hD hc0
  · rw [if_neg hc0]
    have hc : j.cut = false := by simpa using hc0
    cases hh : headOk (j.many + 1 : Nat) b.length with
    | false => rw [if_pos rfl]; exact japp_arg w P bm n j d b A c hJ hD hc hm hh
    | true =>
      rw [if_neg (by decide)]
      have h1 : 1 ≤ b.length := by have := headOk_len hh; omega
      by_cases hf : d.many - j.tail < manyC b + 2
      · rw [if_pos hf]; exact japp_full w P bm n j d b A c hJ hD hc hm ht h1 (by omega) hcc hT hf
      · rw [if_neg hf]
        exact japp_put w P bm n j d b A c hJ hD hok hn hwr p1 p2 hc hm ht h1 h2 hcc hT (by omega)
end Go.Proofs.Ytfjejiapafdgeaa

namespace Go.Proofs.Ytfjejiapafdgeaa
open Go.RowKit
set_option maxRecDepth 100000
set_option linter.unusedSimpArgs false
set_option linter.unusedVariables false

theorem putF_plain : ∀ (L : List Text) (d : DiskV) (t : Nat), (∀ T ∈ L, T.length = 64) → d.dead = false → d.set = false → OkD d → t + L.length ≤ d.many →
    (putF d t L).2 = 0 ∧ (putF d t L).1.many = d.many ∧ (putF d t L).1.dead = false ∧ (putF d t L).1.set = false ∧ OkD (putF d t L).1 ∧ (putF d t L).1.writes = d.writes + L.length := by
  intro L
  induction L with
  | nil => intro d t _ h1 h2 h3 _; exact ⟨rfl, rfl, h1, h2, h3, by simp [putF]⟩
  | cons T L ih =>
    intro d t h64 h1 h2 h3 h4
    have h4' : t + (L.length + 1) ≤ d.many := h4
    obtain ⟨e1, e2⟩ := writeD_plain (d := d) (k := t) (T := T) (by omega) h1 h2 (h64 T (List.mem_cons_self ..))
    have e3 : putF d t (T :: L) = putF (writeD d (t : Nat) T) (t + 1) L := by
      show (if writeE d (t : Nat) T = 0 then _ else _) = _
      rw [if_pos e2]
    rw [e3]
    obtain ⟨a1, a2, a3, a4, a5, a6⟩ := ih (writeD d (t : Nat) T) (t + 1) (fun T' hT => h64 T' (List.mem_cons_of_mem _ hT)) (by rw [e1]; exact h1) (by rw [e1]; exact h2) (writeD_ok _ _ _ h3) (by rw [writeD_many]; omega)
    refine ⟨a1, by rw [a2, writeD_many], a3, a4, a5, ?_⟩
    rw [a6, e1, List.length_cons]
    show d.writes + 1 + (L.length : Int) = d.writes + ((L.length + 1 : Nat) : Int)
    omega
theorem newD_ok (m : Nat) : OkD (newD m) := ⟨Int.le_refl 0, by show (0 : Int) ≤ 64; decide, Int.le_refl 0, by show (0 : Int) ≤ 9223372036854775807; decide, Int.le_refl 0⟩
theorem find_zero (S : Nat → Text) (m : Nat) (h : ∀ j, S j = zeros) : findT S m = ([], 0) := by
  unfold findT
  refine find_end ?_
  unfold batchQ
  rw [h 0, zeros_noB]
  simp
theorem head_yes {s n : Nat} (h1 : 1 ≤ s) (h2 : s ≤ 100001) (h3 : 1 ≤ n) (h4 : n ≤ 1000) : headOk (s : Nat) (n : Nat) = true := by
  unfold headOk seqOk needV
  rw [if_neg (by omega)]
  simp only [Bool.and_eq_true, decide_eq_true_eq]
  refine ⟨⟨by omega, by omega⟩, by omega⟩
theorem pages_64 (s : Nat) (b : Text) (h : headOk (s : Nat) b.length = true) : ∀ T ∈ pagesT s b, T.length = 64 := by
  have h2 := partP_64 (s : Nat) b
  unfold partP at h2
  rw [if_pos h, Int.toNat_natCast] at h2
  exact h2
/-- a journal on its disk, while power stays -/
structure JOn (w : World) (P bm n : Nat) (j : JnV) (d : DiskV) : Prop where
  at_ : JnAt w P j
  dsk : Dsk w j.B bm n d
  ok : OkD d
  dead : d.dead = false
  set : d.set = false
  cut : j.cut = false
  p1 : P ≠ j.B
  p2 : P ≠ bm
  tail : j.tail ≤ d.many
theorem JOn.below {w w' : World} {P bm n : Nat} {j : JnV} {d : DiskV} (h : JOn w P bm n j d) (hb : Below w.heap.size w w') : JOn w' P bm n j d :=
  { h with at_ := h.at_.below hb, dsk := h.dsk.below hb }
/-- a batch kept -/
def KeptP (w : World) (P bm n : Nat) (j : JnV) (d : DiskV) (m : Nat) (e : Ending) (w' : World) : Prop :=
  ∃ n' d', e = .returned (.tuple #[.int .i64 (j.many + 1 : Nat), .int .i64 0]) ∧ JOn w' P bm n' { j with tail := j.tail + m, many := j.many + 1 } d' ∧ d'.many = d.many ∧ n' ≤ n + 1000 ∧ d'.writes ≤ d.writes + 1000 ∧ ChgJ w w' P j.B bm
theorem japp_on (w : World) (P bm n : Nat) (j : JnV) (d : DiskV) (b : Text) (A : Option Addr) (c : Nat) (h : JOn w P bm n j d) (hn : n ≤ 1000000) (hw : d.writes ≤ 1000000) (hm : j.many ≤ 100000) (h1 : 1 ≤ b.length) (h2 : b.length ≤ 1000) (hcc : b.length ≤ c) (hT : Txt w A b) (hf : manyC b + 2 ≤ d.many - j.tail) :
    Calls Try.prog 36 #[.pointer (some ⟨P, 0, none⟩), .slice A b.length c] w (KeptP w P bm n j d (manyC b + 2)) := by
  have hj := code_japp w P bm n j d b A c h.at_ h.dsk h.ok hn hw h.p1 h.p2 hm h.tail h2 hcc hT
  have hL : (pagesT (j.many + 1) b).length = manyC b + 2 := pagesT_len _ _
  have hM : manyC b ≤ 20 := by unfold manyC; omega
  obtain ⟨a1, a2, a3, a4, a5, a6⟩ := putF_plain (pagesT (j.many + 1) b) d j.tail (pages_64 _ _ (head_yes (by omega) (by omega) h1 h2)) h.dead h.set h.ok (by rw [hL]; have := h.tail; omega)
  have e : AppX d j b = ((putF d j.tail (pagesT (j.many + 1) b)).1, { j with tail := j.tail + (manyC b + 2), many := j.many + 1 }, ((j.many + 1 : Nat) : Int), (0 : Int)) := by
    unfold AppX
    rw [if_neg (by rw [h.cut]; decide), if_neg (by rw [head_yes (by omega) (by omega) h1 h2]; decide), if_neg (by omega)]
    unfold AppY
    rw [if_pos a1]
  rw [e] at hj
  refine hj.mono ?_
  rintro e w' ⟨q1, ⟨n', q2, q3⟩, q4, q5⟩
  refine ⟨n', _, q1, ⟨q4, q2, a5, a3, a4, h.cut, h.p1, h.p2, ?_⟩, a2, q3, ?_, q5⟩
  · rw [a2]
    show j.tail + (manyC b + 2) ≤ d.many
    have := h.tail
    omega
  · rw [a6, hL]
    omega
theorem jopen_new (w : World) (B bm m : Nat) (h1 : 1 ≤ m) (h2 : m ≤ 60) (h : Dsk w B bm 0 (newD m)) :
    Calls Try.prog 33 #[.pointer (some ⟨B, 0, none⟩)] w fun e w' => ∃ P A c n, e = .returned (.tuple #[.pointer (some ⟨P, 0, none⟩), .slice A 0 c, .int .i64 0]) ∧ JOn w' P bm n ⟨B, 0, false, 0⟩ (newD m) ∧ n ≤ 60 ∧ w.heap.size ≤ P ∧ ChgD w w' B bm := by
  have hf : findT (newD m).S (newD m).many = ([], 0) := find_zero _ _ (fun _ => rfl)
  have hd : dirtyL (newD m).S (findT (newD m).S (newD m).many).2 (newD m).many = [] := dirty_none (fun j _ _ => rfl)
  have ho := code_jopen w B bm 0 (newD m) (newD m) 0 h (newD_ok m) rfl (by omega) (by show (0 : Int) ≤ 1000000; decide) (by rw [hd]; rfl) (by rw [hf]; decide)
  refine ho.mono ?_
  rw [hf]
  rintro e w' ⟨P, A, c, n, q1, q2, q3, q4, q5, q6, q7⟩
  have hB : B < w.heap.size := h.lt
  have hb : bm < w.heap.size := h.2.1.lt
  refine ⟨P, A, c, n, q1, ⟨q2, q4, (newD_ok m), rfl, rfl, rfl, ?_, by omega, Nat.zero_le _⟩, by have : (newD m).many = m := rfl; omega, q6, q7⟩
  show P ≠ B
  omega
set_option maxHeartbeats 1000000 in
theorem jn_lives (w : World) : Calls Try.prog 32 #[] w fun e w' => e = .returned (.bool true) ∧ Below w.heap.size w w' := by
  have HN : Hid (Calls Try.prog 29 #[.int .i64 6] w fun e W => ∃ B bm, e = .returned (.pointer (some ⟨B, 0, none⟩)) ∧ Dsk W B bm 0 (newD 6) ∧ w.heap.size ≤ B ∧ w.heap.size ≤ bm ∧ Below w.heap.size w W) := Lib.hid (by
    have := code_dnew w 6 (by omega) (by omega)
    exact this.mono fun e W ⟨q1, q2, q3⟩ => ⟨_, _, q1, q2, by omega, by omega, q3⟩)
  have HT : Hid (∀ (V : World) (x : Nat) (u : UInt8), x = V.heap.size → u.toNat < 256 → Txt (V.alloc (.cells #[.int .u8 (u.toNat : Int)] 5)) (some ⟨x, 0, none⟩) [u]) := Lib.hid (by
    rintro V x u rfl _
    exact txt_page (t := 5) (fr := (0, 0)) (heap_alloc_new V _))
  go_enter Try.func32, Try.ntmps32
  go_wp2_with (first
    | (go_at_call 29; refine HN.out.mono ?_; rintro e w1 ⟨B, bm, rfl, hd, hB, hbm, hb⟩; have HD1 := Lib.hid hd; have HBB := Lib.hid (And.intro hB hbm); have HB1 := Lib.hid hb; clear hd hB hbm hb; refine Stop.out ?_))
  unfold Stop
  go_wp2_with (first
    | (go_at_call 33; refine (jopen_new w1 B bm 6 (by decide) (by decide) HD1.out).mono ?_; rintro e w2 ⟨P, A, c, n, rfl, hj, hn, hP, hc⟩; have HJ2 := Lib.hid hj; have HN2 := Lib.hid hn; have HPl : Hid (w.heap.size ≤ P) := Lib.hid (Nat.le_trans HB1.out.size hP); have HB2 : Hid (Below w.heap.size w w2) := Lib.hid (HB1.out.trans (hc.below HB1.out.size HBB.out.1 HBB.out.2)); clear hj hn hP hc; refine Stop.out ?_))
  unfold Stop
  have H1 : Hid (Txt (w2.alloc (.cells #[.int .u8 1] 5)) (some ⟨w2.heap.size, 0, none⟩) [1]) := Lib.hid (HT.out w2 _ 1 rfl (by decide))
  have HA1 : Hid (Calls Try.prog 36 #[.pointer (some ⟨P, 0, none⟩), .slice (some ⟨w2.heap.size, 0, none⟩) 1 1] (w2.alloc (.cells #[.int .u8 1] 5)) fun e w3 => ∃ n3 d3, e = .returned (.tuple #[.int .i64 1, .int .i64 0]) ∧ JOn w3 P bm n3 ⟨B, 3, false, 1⟩ d3 ∧ d3.many = 6 ∧ n3 ≤ 1060 ∧ d3.writes ≤ 1000 ∧ Below w.heap.size w w3) := Lib.hid (by
    have h := japp_on _ P bm n ⟨B, 0, false, 0⟩ (newD 6) [1] (some ⟨w2.heap.size, 0, none⟩) 1 (HJ2.out.below (below_alloc w2 (.cells #[.int .u8 1] 5))) (by have := HN2.out; omega) (by show (0 : Int) ≤ 1000000; decide) (by show (0 : Nat) ≤ 100000; decide) (by decide) (by decide) (by decide) H1.out (by show manyC [1] + 2 ≤ 6 - 0; decide)
    refine h.mono ?_
    rintro e w3 ⟨n3, d3, q1, q2, q3, q4, q5, q6⟩
    exact ⟨n3, d3, q1, q2, q3, by have := HN2.out; omega, by have h2 : (newD 6).writes = 0 := rfl; omega, (below_then HB2.out (below_alloc w2 _)).trans (q6.below (below_then HB2.out (below_alloc w2 _)).size HPl.out HBB.out.1 HBB.out.2)⟩)
  go_wp2_with (first
    | (go_at_call 36; refine HA1.out.mono ?_; rintro e w3 ⟨n3, d3, rfl, hj, hm, hn, hw, hb⟩; have HJ3 := Lib.hid hj; have HN3 := Lib.hid (And.intro hm (And.intro hn hw)); have HB3 := Lib.hid hb; clear hj hm hn hw hb; refine Stop.out ?_))
  unfold Stop
  have H2 : Hid (Txt (w3.alloc (.cells #[.int .u8 2] 5)) (some ⟨w3.heap.size, 0, none⟩) [2]) := Lib.hid (HT.out w3 _ 2 rfl (by decide))
  have HA2 : Hid (Calls Try.prog 36 #[.pointer (some ⟨P, 0, none⟩), .slice (some ⟨w3.heap.size, 0, none⟩) 1 1] (w3.alloc (.cells #[.int .u8 2] 5)) fun e w4 => ∃ n4 d4, e = .returned (.tuple #[.int .i64 2, .int .i64 0]) ∧ JOn w4 P bm n4 ⟨B, 6, false, 2⟩ d4 ∧ d4.many = 6 ∧ Below w.heap.size w w4) := Lib.hid (by
    have h := japp_on _ P bm n3 ⟨B, 3, false, 1⟩ d3 [2] (some ⟨w3.heap.size, 0, none⟩) 1 (HJ3.out.below (below_alloc w3 (.cells #[.int .u8 2] 5))) (by have := HN3.out; omega) (by have := HN3.out; omega) (by show (1 : Nat) ≤ 100000; decide) (by decide) (by decide) (by decide) H2.out (by rw [HN3.out.1]; show manyC [2] + 2 ≤ 6 - 3; decide)
    refine h.mono ?_
    rintro e w4 ⟨n4, d4, q1, q2, q3, q4, q5, q6⟩
    exact ⟨n4, d4, q1, q2, by rw [q3]; exact HN3.out.1, (below_then HB3.out (below_alloc w3 _)).trans (q6.below (below_then HB3.out (below_alloc w3 _)).size HPl.out HBB.out.1 HBB.out.2)⟩)
  go_wp2_with (first
    | (go_at_call 36; refine HA2.out.mono ?_; rintro e w4 ⟨n4, d4, rfl, hj, hm, hb⟩; have HJ4 := Lib.hid hj; have HM4 := Lib.hid hm; have HB4 := Lib.hid hb; clear hj hm hb; refine Stop.out ?_))
  unfold Stop
  have H3 : Hid (Txt (w4.alloc (.cells #[.int .u8 3] 5)) (some ⟨w4.heap.size, 0, none⟩) [3]) := Lib.hid (HT.out w4 _ 3 rfl (by decide))
  have HA3 : Hid (Calls Try.prog 36 #[.pointer (some ⟨P, 0, none⟩), .slice (some ⟨w4.heap.size, 0, none⟩) 1 1] (w4.alloc (.cells #[.int .u8 3] 5)) fun e w5 => ∃ n5, e = .returned (.tuple #[.int .i64 0, .int .i64 31]) ∧ JnAt w5 P ⟨B, 6, false, 2⟩ ∧ Dsk w5 B bm n5 d4 ∧ Below w.heap.size w w5) := Lib.hid (by
    have h := japp_full _ P bm n4 ⟨B, 6, false, 2⟩ d4 [3] (some ⟨w4.heap.size, 0, none⟩) 1 (HJ4.out.at_.below (below_alloc w4 (.cells #[.int .u8 3] 5))) (HJ4.out.dsk.below (below_alloc w4 _)) rfl (by show (2 : Nat) ≤ 100000; decide) (by rw [HM4.out]; exact Nat.le_refl 6) (by decide) (by decide) (by decide) H3.out (by rw [HM4.out]; show 6 - 6 < manyC [3] + 2; decide)
    refine h.mono ?_
    rintro e w5 ⟨q1, ⟨n5, q2, _⟩, q3, q4⟩
    exact ⟨n5, q1, q3, q2, (below_then HB4.out (below_alloc w4 _)).trans (q4.below (below_then HB4.out (below_alloc w4 _)).size HPl.out HBB.out.1 HBB.out.2)⟩)
  go_wp2_with (first
    | (go_at_call 36; refine HA3.out.mono ?_; rintro e w5 ⟨n5, rfl, hj, hd, hb⟩; have HJ5 := Lib.hid hj; have HD5 := Lib.hid hd; have HB5 := Lib.hid hb; clear hj hd hb; refine Stop.out ?_))
  unfold Stop
  have HRm : Hid (Calls Try.prog 40 #[.pointer (some ⟨P, 0, none⟩)] w5 fun e w' => e = .returned (.int .i64 0) ∧ Below w5.heap.size w5 w') := Lib.hid (by
    have := code_jroom w5 P bm n5 ⟨B, 6, false, 2⟩ d4 HJ5.out HD5.out (by rw [HM4.out]; exact Nat.le_refl 6)
    rw [HM4.out] at this
    exact this)
  have HLn : Hid (Calls Try.prog 38 #[.pointer (some ⟨P, 0, none⟩)] w5 fun e w' => e = .returned (.int .i64 2) ∧ w5 = w') := Lib.hid (code_jlen w5 P ⟨B, 6, false, 2⟩ HJ5.out)
  go_wp2_with (first
    | (go_at_call 38; refine HLn.out.mono ?_; rintro e w6 ⟨rfl, rfl⟩)
    | (go_at_call 40; refine HRm.out.mono ?_; rintro e w7 ⟨rfl, hb⟩; have HB7 := Lib.hid (below_then HB5.out hb); clear hb))
  go_ret
  exact ⟨rfl, HB7.out⟩
end Go.Proofs.Ytfjejiapafdgeaa

namespace Go.Proofs.Ytfjejiapafdgeaa
open Go.RowKit
set_option maxRecDepth 100000
set_option linter.unusedSimpArgs false
set_option linter.unusedVariables false

theorem find_from {S S3 : Nat → Text} {m : Nat} : ∀ f at_ L, m < f + at_ → at_ ≤ m → (∀ j, at_ ≤ j → j < (findV S m f at_ L).2 → S3 j = S j) → ∃ f', m < f' + (findV S m f at_ L).2 ∧ findV S3 m f at_ L = findV S3 m f' (findV S m f at_ L).2 (findV S m f at_ L).1 := by
  intro f
  induction f with
  | zero => intro at_ L h1 h2; omega
  | succ f ih =>
    intro at_ L h1 h2 h3
    cases hq : batchQ S m at_ (L.length + 1 : Nat) with
    | true =>
      rw [find_next hq] at h3 ⊢
      have hge := find_ge S m f (at_ + needT (S at_)) (L ++ [batchT S at_])
      obtain ⟨q1, q2, q3, q4, q5⟩ := batch_in hq
      obtain ⟨e1, e2, e3⟩ := batch_same hq (fun j q1 q2 => h3 j q1 (by omega))
      rw [find_next e1, e2, e3]
      exact ih _ _ (by omega) q4 (fun j q1 q2 => h3 j (by omega) q2)
    | false =>
      rw [find_end hq]
      exact ⟨f + 1, h1, rfl⟩
theorem endP_blank (s u : Nat) : endP s u ≠ zeros := by
  intro e
  have h : (endP s u)[4]? = some 69 := by
    rw [endP_eq]
    unfold wrapT endB Crc.four
    rfl
  rw [e] at h
  exact absurd h (by decide)
/-- what a head tells -/
theorem headP_is (s n u : Nat) (h1 : 1 ≤ s) (h2 : s ≤ 4611686018427387904) (h3 : 1 ≤ n) (h4 : n ≤ 131072) (h5 : u < 4294967296) : isB (headP s n u) = true ∧ seqB (headP s n u) = s ∧ lenB (headP s n u) = n ∧ sumB (headP s n u) = u := by
  have h := begin_headP s n u h1 h2 h3 h4 h5
  obtain ⟨s', n', u', q, e1, e2, e3⟩ := begin_is (headP s n u)
  rw [h] at e1
  unfold headV at e1
  simp only [Value.tuple.injEq, Array.mk.injEq, List.cons.injEq, Value.agg.injEq, Value.int.injEq, Value.bool.injEq, and_true, true_and] at e1
  obtain ⟨⟨a1, a2, a3⟩, a4⟩ := e1
  obtain ⟨b1, b2, b3⟩ := e3 a4.symm
  refine ⟨by rw [← e2, ← a4], by omega, by omega, by omega⟩
theorem torn_find {S S3 : Nat → Text} {m t pg : Nat} {X : List Text} {b : Text} (hS : findT S m = (X, t)) (ht : t ≤ m) (hX : X.length ≤ 1000) (h1 : ∀ j, j < t → S3 j = S j) (hb1 : 1 ≤ b.length) (hb2 : b.length ≤ 500) (hpg : pg < manyC b + 2) (hn : t + (manyC b + 2) ≤ m)
    (h2 : ∀ i (hi : i < (pagesT (X.length + 1) b).length), i < pg → S3 (t + i) = (pagesT (X.length + 1) b)[i]) (h3 : ∀ j, t + pg < j → j < m → S3 j = zeros) :
    findT S3 m = (X, t) ∨ (pg + 1 = manyC b + 2 ∧ findT S3 m = (X ++ [b], t + (manyC b + 2))) := by
  have hS' : findV S m (m + 1) 0 [] = (X, t) := hS
  obtain ⟨f', hf, e⟩ := find_from (S := S) (S3 := S3) (m := m) (m + 1) 0 [] (by omega) (Nat.zero_le _) (fun j _ hj => by rw [hS'] at hj; exact h1 j hj)
  rw [hS'] at hf e
  have e' : findT S3 m = findV S3 m f' t X := e
  rw [e']
  cases hq : batchQ S3 m t (X.length + 1 : Nat) with
  | false => exact .inl (find_end hq)
  | true =>
    right
    have hq0 := hq
    unfold batchQ at hq0
    simp only [Bool.and_eq_true, decide_eq_true_eq] at hq0
    obtain ⟨p1, p2, p3, p4, p5, p6⟩ := hq0
    have p7 := need_big p2
    have hend : S3 (t + needT (S3 t) - 1) ≠ zeros := by
      intro hz
      rw [hz] at p5
      unfold endOk at p5
      simp only [Bool.and_eq_true, decide_eq_true_eq] at p5
      exact endP_blank _ _ p5.2.symm
    have hk : needT (S3 t) ≤ pg + 1 := by
      apply Classical.byContradiction
      intro h
      exact hend (h3 _ (by omega) (by omega))
    have hlen : (pagesT (X.length + 1) b).length = manyC b + 2 := pagesT_len _ _
    have hh : S3 t = headP (X.length + 1) b.length (sumN b) := h2 0 (by omega) (by omega)
    have hu : sumN b < 4294967296 := (Crc.sumT b).isLt
    obtain ⟨a1, a2, a3, a4⟩ := headP_is (X.length + 1) b.length (sumN b) (by omega) (by omega) hb1 (by omega) hu
    have hneed : needT (S3 t) = manyC b + 2 := by
      rw [hh]
      unfold needT needV manyC
      rw [a3, if_neg (by omega)]
      omega
    rw [hneed] at hk p4
    have hpg' : pg + 1 = manyC b + 2 := by omega
    refine ⟨hpg', ?_⟩
    have hbt : batchT S3 t = b := by
      have hs : someT S3 (t + 1) (manyC b) = cutP b (manyC b) := by
        refine List.ext_getElem (by rw [someT_len, cutP_len]) fun i i1 i2 => ?_
        rw [someT_get, show t + 1 + i = t + (i + 1) by omega, h2 (i + 1) (by rw [hlen]; rw [someT_len] at i1; omega) (by rw [someT_len] at i1; omega)]
        simp only [pagesT, List.getElem_cons_succ]
        exact List.getElem_append_left i2
      unfold batchT
      rw [hneed, show manyC b + 2 - 2 = manyC b by omega, hs, hh, a3]
      exact back_text b
    cases f' with
    | zero => omega
    | succ f' =>
      rw [find_next hq, hbt, hneed]
      refine find_end ?_
      cases hb : batchQ S3 m (t + (manyC b + 2)) ((X ++ [b]).length + 1 : Nat) with
      | false => rfl
      | true =>
        obtain ⟨q1, q2, _⟩ := batch_in hb
        rw [h3 _ (by omega) q1, zeros_noB] at q2
        cases q2
end Go.Proofs.Ytfjejiapafdgeaa
