/- A clock of the program's: closed, filed. -/
import Derived.Test.YtdacpiegfobhbaaPdD
namespace Go.Proofs.Ytdacpiegfobhbaa
open Go.RowKit
set_option maxRecDepth 100000
set_option linter.unusedSimpArgs false
set_option linter.unusedVariables false

/-- what a step leaves: its error, the clock -/
def StepP (w : World) (P : Nat) (c : Ck) (er : Int) (e : Ending) (w' : World) : Prop := e = .returned (.int .i64 er) ∧ CkAt w' P c ∧ ChgP w w' P
def Ck.clE (c : Ck) (k y i : Int) : Int := if c.Has k y i then (if Civ.place k y i < c.A then 70 else if Civ.place k y i = c.A then 0 else 71) else 2
def Ck.fiE (c : Ck) (k y i : Int) : Int := if c.Has k y i then (if Civ.place k y i = c.B ∧ Civ.place k y i < c.A then 0 else 71) else 2
def Ck.cl (c : Ck) (k y i : Int) : Ck := if c.clE k y i = 0 then c.step 0 else c
def Ck.fi (c : Ck) (k y i : Int) : Ck := if c.fiE k y i = 0 then c.step 1 else c
theorem per_ne {k y i n : Int} (hk : Civ.isKind k) (hg : Civ.good k y i = true) (h0 : 0 ≤ n) (hne : ¬ Civ.place k y i = n) : k = Civ.perK k n → y = Civ.perY k n → ¬ i = Civ.perI k n := by
  intro e1 e2 e3
  by_cases h : n < 8030 * Civ.many k
  · obtain ⟨g1, g2, g3⟩ := Civ.per_good hk h0 h
    rw [← e2, ← e3] at g2
    exact hne g2
  · rw [(Civ.per_none h).1] at e1
    rcases hk with e | e <;> omega
theorem code_take (w : World) (P : Nat) (c : Ck) (y i : Int) (s : Nat) (hs : s = 0 ∨ s = 1) (h : CkAt w P c) (ok : c.Ok) (hg : Civ.good c.k y i = true) :
    Calls Try.prog 46 #[.pointer (some ⟨P, 0, none⟩), .agg #[.int .i64 c.k, .int .i64 y, .int .i64 i], .int .i64 s] w (StepP w P (if Civ.place c.k y i = c.X s then c.step s else c) (if Civ.place c.k y i = c.X s then 0 else 71)) := by
  have hx : 0 ≤ c.X s := by have := ok.f0; have := ok.fb; have := ok.ba; unfold Ck.X; split <;> omega
  by_cases hX : Civ.place c.k y i = c.X s
  · rw [if_pos hX, if_pos hX]
    rcases hs with rfl | rfl
    · exact take_yes_0 w P c c.k y i h rfl hg hX
    · exact take_yes_1 w P c c.k y i h rfl hg hX
  · rw [if_neg hX, if_neg hX]
    have hne := per_ne ok.kind hg hx hX
    rcases hs with rfl | rfl
    · exact (take_no_0 w P c.k y i _ _ _ h.n0 hne).mono fun e w' q => ⟨q.1, h.on q.2, ChgP.of_below q.2⟩
    · exact (take_no_1 w P c.k y i _ _ _ h.n1 hne).mono fun e w' q => ⟨q.1, h.on q.2, ChgP.of_below q.2⟩
set_option maxHeartbeats 1000000 in
theorem close_no (w : World) (P : Nat) (c : Ck) (y i : Int) (h : CkAt w P c) (ok : c.Ok) (hs : ¬ c.st c.k y i = 1) :
    Calls Try.prog 34 #[.pointer (some ⟨P, 0, none⟩), .agg #[.int .i64 c.k, .int .i64 y, .int .i64 i]] w (StepP w P c 70) := by
  obtain ⟨st, hst⟩ : ∃ st, st = c.st c.k y i := ⟨_, rfl⟩
  have HS : Hid (∀ W, Below w.heap.size w W → Calls Try.prog 19 #[.pointer (some ⟨P, 0, none⟩), .agg #[.int .i64 c.k, .int .i64 y, .int .i64 i]] W fun e w' => e = .returned (.int .i64 st) ∧ Below W.heap.size W w') := Lib.hid (fun W hb => by rw [hst]; exact code_state W P c c.k y i (h.on hb) ok)
  have HC := Lib.hid h
  rw [← hst] at hs
  clear h ok hst
  go_enter Try.func34, Try.ntmps34
  go_wp2_with (go_at_call 19; refine (HS.out _ (below_alloc _ _)).mono ?_; rintro e w1 ⟨rfl, hb⟩; have HB1 := Lib.hid (below_then (below_alloc _ _) hb); clear hb)
  go_ret
  exact ⟨rfl, HC.out.on HB1.out, ChgP.of_below HB1.out⟩
set_option maxHeartbeats 1000000 in
theorem close_yes (w : World) (P : Nat) (c : Ck) (y i : Int) (h : CkAt w P c) (ok : c.Ok) (hs : c.st c.k y i = 1) (hg : Civ.good c.k y i = true) :
    Calls Try.prog 34 #[.pointer (some ⟨P, 0, none⟩), .agg #[.int .i64 c.k, .int .i64 y, .int .i64 i]] w (StepP w P (if Civ.place c.k y i = c.X 0 then c.step 0 else c) (if Civ.place c.k y i = c.X 0 then 0 else 71)) := by
  have HS : Hid (∀ W, Below w.heap.size w W → Calls Try.prog 19 #[.pointer (some ⟨P, 0, none⟩), .agg #[.int .i64 c.k, .int .i64 y, .int .i64 i]] W fun e w' => e = .returned (.int .i64 1) ∧ Below W.heap.size W w') := Lib.hid (fun W hb => by rw [← hs]; exact code_state W P c c.k y i (h.on hb) ok)
  have HT : Hid (∀ W, Below w.heap.size w W → Calls Try.prog 46 #[.pointer (some ⟨P, 0, none⟩), .agg #[.int .i64 c.k, .int .i64 y, .int .i64 i], .int .i64 0] W (StepP W P (if Civ.place c.k y i = c.X 0 then c.step 0 else c) (if Civ.place c.k y i = c.X 0 then 0 else 71))) :=
    Lib.hid (fun W hb => code_take W P c y i 0 (by decide) (h.on hb) ok hg)
  clear h ok hs hg
  generalize (if Civ.place c.k y i = c.X 0 then c.step 0 else c) = c' at *
  generalize (if Civ.place c.k y i = c.X 0 then (0 : Int) else 71) = er at *
  go_enter Try.func34, Try.ntmps34
  go_wp2_with (go_at_call 19; refine (HS.out _ (below_alloc _ _)).mono ?_; rintro e w1 ⟨rfl, hb⟩; have HB1 := Lib.hid (below_then (below_alloc _ _) hb); have HX1 := Lib.hid (cells3_on hb (cells3_alloc w _ _ _ _)); clear hb; refine Stop.out ?_)
  unfold Stop
  obtain ⟨p0, p1, p2⟩ := HX1.out
  go_wp2_with (go_at_call 46; refine (HT.out _ HB1.out).mono ?_; rintro e w2 ⟨rfl, hc, hd⟩; have HC2 := Lib.hid hc; have HD2 := Lib.hid ((ChgP.of_below HB1.out).trans hd); clear hc hd)
  go_ret
  exact ⟨rfl, HC2.out, HD2.out⟩
set_option maxHeartbeats 1000000 in
theorem known_close (w : World) (P : Nat) (c : Ck) (k y i : Int) (h : CkAt w P c) (ok : c.Ok) (c' : Ck) (er : Int)
    (hno : ¬ c.Has k y i → c' = c ∧ er = 2) (hyes : c.Has k y i → ∀ W, Below w.heap.size w W → Calls Try.prog 34 #[.pointer (some ⟨P, 0, none⟩), .agg #[.int .i64 k, .int .i64 y, .int .i64 i]] W (StepP W P c' er)) :
    Calls Try.prog 33 #[.pointer (some ⟨P, 0, none⟩), .agg #[.int .i64 k, .int .i64 y, .int .i64 i], .func (.func 34) #[.pointer (some ⟨P, 0, none⟩)] #[]] w (StepP w P c' er) := by
  have HM : Hid (∀ W, Below w.heap.size w W → Calls Try.prog 37 #[.pointer (some ⟨P, 0, none⟩)] W fun e w' => e = .returned (.bool true) ∧ W = w') := Lib.hid (fun W hb => ok.made (h.on hb))
  have HH : Hid (∀ W, Below w.heap.size w W → Calls Try.prog 38 #[.pointer (some ⟨P, 0, none⟩), .agg #[.int .i64 k, .int .i64 y, .int .i64 i]] W fun e w' => e = .returned (.bool (decide (c.Has k y i))) ∧ Below W.heap.size W w') := Lib.hid (fun W hb => code_has W P c k y i (h.on hb) ok)
  have HC := Lib.hid h
  by_cases hn : c.Has k y i
  · rw [decide_eq_true hn] at HH
    have HY := Lib.hid (hyes hn)
    clear h ok hno hyes hn
    go_enter Try.func33, Try.ntmps33
    go_wp2_with (first
      | (go_at_call 37; refine (HM.out _ (below_alloc _ _)).mono ?_; rintro e w1 ⟨rfl, rfl⟩)
      | (go_at_call 38; refine (HH.out _ (below_alloc _ _)).mono ?_; rintro e w1 ⟨rfl, hb⟩; have HB1 := Lib.hid (below_then (below_alloc _ _) hb); have HX1 := Lib.hid (cells3_on hb (cells3_alloc w _ _ _ _)); clear hb; refine Stop.out ?_))
    unfold Stop
    obtain ⟨p0, p1, p2⟩ := HX1.out
    go_wp2_with (go_at_call 34; refine (HY.out _ HB1.out).mono ?_; rintro e w2 ⟨rfl, hc, hd⟩; have HC2 := Lib.hid hc; have HD2 := Lib.hid ((ChgP.of_below HB1.out).trans hd); clear hc hd)
    go_ret
    exact ⟨rfl, HC2.out, HD2.out⟩
  · rw [decide_eq_false hn] at HH
    obtain ⟨rfl, rfl⟩ := hno hn
    clear h ok hno hyes hn
    go_enter Try.func33, Try.ntmps33
    go_wp2_with (first
      | (go_at_call 37; refine (HM.out _ (below_alloc _ _)).mono ?_; rintro e w1 ⟨rfl, rfl⟩)
      | (go_at_call 38; refine (HH.out _ (below_alloc _ _)).mono ?_; rintro e w1 ⟨rfl, hb⟩; have HB1 := Lib.hid (below_then (below_alloc _ _) hb); clear hb))
    go_ret
    exact ⟨rfl, HC.out.on HB1.out, ChgP.of_below HB1.out⟩
theorem code_close (w : World) (P : Nat) (c : Ck) (k y i : Int) (h : CkAt w P c) (ok : c.Ok) :
    Calls Try.prog 12 #[.pointer (some ⟨P, 0, none⟩), .agg #[.int .i64 k, .int .i64 y, .int .i64 i]] w (StepP w P (c.cl k y i) (c.clE k y i)) := by
  have HK : Hid (∀ W, Below w.heap.size w W → Calls Try.prog 33 #[.pointer (some ⟨P, 0, none⟩), .agg #[.int .i64 k, .int .i64 y, .int .i64 i], .func (.func 34) #[.pointer (some ⟨P, 0, none⟩)] #[]] W (StepP W P (c.cl k y i) (c.clE k y i))) := Lib.hid (fun W hb => known_close W P c k y i (h.on hb) ok _ _
    (fun hn => by
      have e : c.clE k y i = 2 := if_neg hn
      exact ⟨by unfold Ck.cl; rw [e]; rfl, e⟩)
    (fun hn V hV => by
      obtain ⟨hg, rfl, hF⟩ := hn
      have hV2 := (h.on hb).on hV
      have := ok.ba
      by_cases h1 : Civ.place c.k y i < c.A
      · have e : c.clE c.k y i = 70 := by unfold Ck.clE; rw [if_pos ⟨hg, rfl, hF⟩, if_pos h1]
        have e2 : c.cl c.k y i = c := by unfold Ck.cl; rw [e]; rfl
        rw [e, e2]
        exact close_no V P c y i hV2 ok (by unfold Ck.st; rw [if_pos ⟨hg, rfl, hF⟩, if_pos h1]; split <;> decide)
      · have hs : c.st c.k y i = 1 := by unfold Ck.st; rw [if_pos ⟨hg, rfl, hF⟩, if_neg (by omega), if_neg h1]
        have e : c.clE c.k y i = if Civ.place c.k y i = c.X 0 then 0 else 71 := by unfold Ck.clE; rw [if_pos ⟨hg, rfl, hF⟩, if_neg h1]; rfl
        have e2 : c.cl c.k y i = if Civ.place c.k y i = c.X 0 then c.step 0 else c := by unfold Ck.cl; rw [e]; by_cases q : Civ.place c.k y i = c.X 0 <;> simp [q]
        rw [e, e2]
        exact close_yes V P c y i hV2 ok hs hg))
  clear h ok
  generalize c.cl k y i = c' at *
  generalize c.clE k y i = er at *
  go_enter Try.func12, Try.ntmps12
  go_wp2_with (go_at_call 33; refine (HK.out _ (below_alloc _ _)).mono ?_; rintro e w1 ⟨rfl, hc, hd⟩; have HC1 := Lib.hid hc; have HD1 := Lib.hid ((ChgP.of_below (below_alloc _ _)).trans hd); clear hc hd)
  go_ret
  exact ⟨rfl, HC1.out, HD1.out⟩
set_option maxHeartbeats 1000000 in
theorem file_no (w : World) (P : Nat) (c : Ck) (y i : Int) (h : CkAt w P c) (ok : c.Ok) (hs : ¬ c.st c.k y i = 2) :
    Calls Try.prog 36 #[.pointer (some ⟨P, 0, none⟩), .agg #[.int .i64 c.k, .int .i64 y, .int .i64 i]] w (StepP w P c 71) := by
  obtain ⟨st, hst⟩ : ∃ st, st = c.st c.k y i := ⟨_, rfl⟩
  have HS : Hid (∀ W, Below w.heap.size w W → Calls Try.prog 19 #[.pointer (some ⟨P, 0, none⟩), .agg #[.int .i64 c.k, .int .i64 y, .int .i64 i]] W fun e w' => e = .returned (.int .i64 st) ∧ Below W.heap.size W w') := Lib.hid (fun W hb => by rw [hst]; exact code_state W P c c.k y i (h.on hb) ok)
  have HC := Lib.hid h
  rw [← hst] at hs
  clear h ok hst
  go_enter Try.func36, Try.ntmps36
  go_wp2_with (go_at_call 19; refine (HS.out _ (below_alloc _ _)).mono ?_; rintro e w1 ⟨rfl, hb⟩; have HB1 := Lib.hid (below_then (below_alloc _ _) hb); clear hb)
  go_ret
  exact ⟨rfl, HC.out.on HB1.out, ChgP.of_below HB1.out⟩
set_option maxHeartbeats 1000000 in
theorem file_yes (w : World) (P : Nat) (c : Ck) (y i : Int) (h : CkAt w P c) (ok : c.Ok) (hs : c.st c.k y i = 2) (hg : Civ.good c.k y i = true) :
    Calls Try.prog 36 #[.pointer (some ⟨P, 0, none⟩), .agg #[.int .i64 c.k, .int .i64 y, .int .i64 i]] w (StepP w P (if Civ.place c.k y i = c.X 1 then c.step 1 else c) (if Civ.place c.k y i = c.X 1 then 0 else 71)) := by
  have HS : Hid (∀ W, Below w.heap.size w W → Calls Try.prog 19 #[.pointer (some ⟨P, 0, none⟩), .agg #[.int .i64 c.k, .int .i64 y, .int .i64 i]] W fun e w' => e = .returned (.int .i64 2) ∧ Below W.heap.size W w') := Lib.hid (fun W hb => by rw [← hs]; exact code_state W P c c.k y i (h.on hb) ok)
  have HT : Hid (∀ W, Below w.heap.size w W → Calls Try.prog 46 #[.pointer (some ⟨P, 0, none⟩), .agg #[.int .i64 c.k, .int .i64 y, .int .i64 i], .int .i64 1] W (StepP W P (if Civ.place c.k y i = c.X 1 then c.step 1 else c) (if Civ.place c.k y i = c.X 1 then 0 else 71))) :=
    Lib.hid (fun W hb => code_take W P c y i 1 (by decide) (h.on hb) ok hg)
  clear h ok hs hg
  generalize (if Civ.place c.k y i = c.X 1 then c.step 1 else c) = c' at *
  generalize (if Civ.place c.k y i = c.X 1 then (0 : Int) else 71) = er at *
  go_enter Try.func36, Try.ntmps36
  go_wp2_with (go_at_call 19; refine (HS.out _ (below_alloc _ _)).mono ?_; rintro e w1 ⟨rfl, hb⟩; have HB1 := Lib.hid (below_then (below_alloc _ _) hb); have HX1 := Lib.hid (cells3_on hb (cells3_alloc w _ _ _ _)); clear hb; refine Stop.out ?_)
  unfold Stop
  obtain ⟨p0, p1, p2⟩ := HX1.out
  go_wp2_with (go_at_call 46; refine (HT.out _ HB1.out).mono ?_; rintro e w2 ⟨rfl, hc, hd⟩; have HC2 := Lib.hid hc; have HD2 := Lib.hid ((ChgP.of_below HB1.out).trans hd); clear hc hd)
  go_ret
  exact ⟨rfl, HC2.out, HD2.out⟩
set_option maxHeartbeats 1000000 in
theorem known_file (w : World) (P : Nat) (c : Ck) (k y i : Int) (h : CkAt w P c) (ok : c.Ok) (c' : Ck) (er : Int)
    (hno : ¬ c.Has k y i → c' = c ∧ er = 2) (hyes : c.Has k y i → ∀ W, Below w.heap.size w W → Calls Try.prog 36 #[.pointer (some ⟨P, 0, none⟩), .agg #[.int .i64 k, .int .i64 y, .int .i64 i]] W (StepP W P c' er)) :
    Calls Try.prog 33 #[.pointer (some ⟨P, 0, none⟩), .agg #[.int .i64 k, .int .i64 y, .int .i64 i], .func (.func 36) #[.pointer (some ⟨P, 0, none⟩)] #[]] w (StepP w P c' er) := by
  have HM : Hid (∀ W, Below w.heap.size w W → Calls Try.prog 37 #[.pointer (some ⟨P, 0, none⟩)] W fun e w' => e = .returned (.bool true) ∧ W = w') := Lib.hid (fun W hb => ok.made (h.on hb))
  have HH : Hid (∀ W, Below w.heap.size w W → Calls Try.prog 38 #[.pointer (some ⟨P, 0, none⟩), .agg #[.int .i64 k, .int .i64 y, .int .i64 i]] W fun e w' => e = .returned (.bool (decide (c.Has k y i))) ∧ Below W.heap.size W w') := Lib.hid (fun W hb => code_has W P c k y i (h.on hb) ok)
  have HC := Lib.hid h
  by_cases hn : c.Has k y i
  · rw [decide_eq_true hn] at HH
    have HY := Lib.hid (hyes hn)
    clear h ok hno hyes hn
    go_enter Try.func33, Try.ntmps33
    go_wp2_with (first
      | (go_at_call 37; refine (HM.out _ (below_alloc _ _)).mono ?_; rintro e w1 ⟨rfl, rfl⟩)
      | (go_at_call 38; refine (HH.out _ (below_alloc _ _)).mono ?_; rintro e w1 ⟨rfl, hb⟩; have HB1 := Lib.hid (below_then (below_alloc _ _) hb); have HX1 := Lib.hid (cells3_on hb (cells3_alloc w _ _ _ _)); clear hb; refine Stop.out ?_))
    unfold Stop
    obtain ⟨p0, p1, p2⟩ := HX1.out
    go_wp2_with (go_at_call 36; refine (HY.out _ HB1.out).mono ?_; rintro e w2 ⟨rfl, hc, hd⟩; have HC2 := Lib.hid hc; have HD2 := Lib.hid ((ChgP.of_below HB1.out).trans hd); clear hc hd)
    go_ret
    exact ⟨rfl, HC2.out, HD2.out⟩
  · rw [decide_eq_false hn] at HH
    obtain ⟨rfl, rfl⟩ := hno hn
    clear h ok hno hyes hn
    go_enter Try.func33, Try.ntmps33
    go_wp2_with (first
      | (go_at_call 37; refine (HM.out _ (below_alloc _ _)).mono ?_; rintro e w1 ⟨rfl, rfl⟩)
      | (go_at_call 38; refine (HH.out _ (below_alloc _ _)).mono ?_; rintro e w1 ⟨rfl, hb⟩; have HB1 := Lib.hid (below_then (below_alloc _ _) hb); clear hb))
    go_ret
    exact ⟨rfl, HC.out.on HB1.out, ChgP.of_below HB1.out⟩
theorem code_file (w : World) (P : Nat) (c : Ck) (k y i : Int) (h : CkAt w P c) (ok : c.Ok) :
    Calls Try.prog 14 #[.pointer (some ⟨P, 0, none⟩), .agg #[.int .i64 k, .int .i64 y, .int .i64 i]] w (StepP w P (c.fi k y i) (c.fiE k y i)) := by
  have HK : Hid (∀ W, Below w.heap.size w W → Calls Try.prog 33 #[.pointer (some ⟨P, 0, none⟩), .agg #[.int .i64 k, .int .i64 y, .int .i64 i], .func (.func 36) #[.pointer (some ⟨P, 0, none⟩)] #[]] W (StepP W P (c.fi k y i) (c.fiE k y i))) := Lib.hid (fun W hb => known_file W P c k y i (h.on hb) ok _ _
    (fun hn => by
      have e : c.fiE k y i = 2 := if_neg hn
      exact ⟨by unfold Ck.fi; rw [e]; rfl, e⟩)
    (fun hn V hV => by
      obtain ⟨hg, rfl, hF⟩ := hn
      have hV2 := (h.on hb).on hV
      have := ok.ba
      by_cases h1 : c.B ≤ Civ.place c.k y i ∧ Civ.place c.k y i < c.A
      · have hs : c.st c.k y i = 2 := by unfold Ck.st; rw [if_pos ⟨hg, rfl, hF⟩, if_neg (by omega), if_pos h1.2]
        have e : c.fiE c.k y i = if Civ.place c.k y i = c.X 1 then 0 else 71 := by
          unfold Ck.fiE
          rw [if_pos ⟨hg, rfl, hF⟩]
          by_cases q : Civ.place c.k y i = c.B
          · rw [if_pos ⟨q, h1.2⟩, if_pos (show Civ.place c.k y i = c.X 1 from q)]
          · rw [if_neg (fun x => q x.1), if_neg (show ¬ Civ.place c.k y i = c.X 1 from q)]
        have e2 : c.fi c.k y i = if Civ.place c.k y i = c.X 1 then c.step 1 else c := by unfold Ck.fi; rw [e]; by_cases q : Civ.place c.k y i = c.X 1 <;> simp [q]
        rw [e, e2]
        exact file_yes V P c y i hV2 ok hs hg
      · have e : c.fiE c.k y i = 71 := by unfold Ck.fiE; rw [if_pos ⟨hg, rfl, hF⟩, if_neg (fun x => h1 ⟨by omega, x.2⟩)]
        have e2 : c.fi c.k y i = c := by unfold Ck.fi; rw [e]; rfl
        rw [e, e2]
        exact file_no V P c y i hV2 ok (by
          unfold Ck.st
          rw [if_pos ⟨hg, rfl, hF⟩]
          by_cases q : Civ.place c.k y i < c.B
          · rw [if_pos q]; decide
          · rw [if_neg q, if_neg (fun x => h1 ⟨by omega, x⟩)]; decide)))
  clear h ok
  generalize c.fi k y i = c' at *
  generalize c.fiE k y i = er at *
  go_enter Try.func14, Try.ntmps14
  go_wp2_with (go_at_call 33; refine (HK.out _ (below_alloc _ _)).mono ?_; rintro e w1 ⟨rfl, hc, hd⟩; have HC1 := Lib.hid hc; have HD1 := Lib.hid ((ChgP.of_below (below_alloc _ _)).trans hd); clear hc hd)
  go_ret
  exact ⟨rfl, HC1.out, HD1.out⟩
end Go.Proofs.Ytdacpiegfobhbaa
