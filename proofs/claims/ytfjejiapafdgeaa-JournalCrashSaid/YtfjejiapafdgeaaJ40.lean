/- The document's Dirty; its disk while it is wiped. -/
import Derived.Test.YtfjejiapafdgeaaJ39
import Derived.Test.YtfjejiapafdgeaaJ33
import Derived.Test.YtfjejiapafdgeaaJ32
import Derived.Test.YtfjejiapafdgeaaJ22
namespace Go.Proofs.Ytfjejiapafdgeaa
open Go.RowKit
set_option maxRecDepth 100000
set_option linter.unusedSimpArgs false
set_option linter.unusedVariables false

theorem results_cell_of3 {fn : Func} {p u v : Tmp} {ty : TypeId} (h : fn.results = #[.cell p ty, .tmp u, .tmp v]) (tmps : Array Value) (W : World) (g : Nat) (x y z : Value) (hp : tmps.getD p undef = .pointer (some ⟨g, 0, none⟩)) (hy : tmps.getD u undef = y) (hz : tmps.getD v undef = z) (hr : (loadVar ty ⟨g, 0, none⟩).run Try.prog W = .ok x W) :
    (results fn tmps).run Try.prog W = .ok (.tuple #[x, y, z]) W := by
  have hp' : tmps[p]?.getD undef = .pointer (some ⟨g, 0, none⟩) := by simpa [Array.getD_eq_getD_getElem?] using hp
  have hy' : tmps[u]?.getD undef = y := by simpa [Array.getD_eq_getD_getElem?] using hy
  have hz' : tmps[v]?.getD undef = z := by simpa [Array.getD_eq_getD_getElem?] using hz
  have ha : (asAddr (tmps[p]?.getD undef)).run Try.prog W = .ok ⟨g, 0, none⟩ W := by rw [hp']; rfl
  simp [results, h, Sem.run_bind, ha, hr, hy', hz']
theorem one5 (g n k : Nat) (x y : Int) (q : Bool) (z : Int) : ∀ v ∈ [Value.slice (some ⟨g, 0, none⟩) n k, Value.int .i64 x, Value.int .i64 y, Value.bool q, Value.int .i64 z], v.oneCell' = true := by
  intro v hv
  simp only [List.mem_cons, List.not_mem_nil, or_false] at hv
  rcases hv with rfl | rfl | rfl | rfl | rfl <;> rfl
abbrev zBox : Obj := .cells #[.slice none 0 0, .int .i64 0, .int .i64 0, .bool false, .int .i64 0] 28 (0, 0)
theorem ref_box {W : World} {b6 g c : Nat} {tr : Int} {d : DiskV} (hr : RefIs W g c tr d) (h1 : 1 ≤ d.many) {v0 v1 v2 v3 v4 : Value} {t : TypeId} (h6 : W.heap[b6]? = some (.cells #[v0, v1, v2, v3, v4] t (0, 0))) (hv : ∀ s, v0 ≠ .string s) : g ≠ b6 := by
  intro e
  subst e
  have hc := hr.1.2 0 (by rw [pagesL_len]; omega)
  have h0 := (cells5 h6).1.1
  rw [h0] at hc
  injection hc with hc
  exact hv _ hc
theorem RefIs.setRow {w : World} {g c b : Nat} {tr : Int} {d : DiskV} (h : RefIs w g c tr d) (u : Array Value) (hne : g ≠ b) : RefIs (w.setRow b u) g c tr d :=
  ⟨⟨by simpa [World.setRow] using h.1.1, fun i hi => cell_setRow hne (h.1.2 i hi)⟩, h.2⟩
theorem dirtyL_low (S : Nat → Text) (tail i : Nat) (h : i ≤ tail) : dirtyL S tail i = [] := by
  unfold dirtyL
  rw [List.filter_eq_nil_iff]
  intro a ha
  have := List.mem_range.1 ha
  simp [dirtyQ]
  omega
/-- the document's Dirty, where it tells why not -/
theorem ref_dirty_bad (w : World) (g c : Nat) (tr : Int) (d : DiskV) (tail : Int) (hz : sreachV d tail ≠ 0) :
    Calls Try.prog 18 #[spelt g c tr d, .int .i64 tail] w fun e w' => e = .returned (.tuple #[.int .i64 0, .int .i64 (sreachV d tail)]) ∧ Below w.heap.size w w' := by
  obtain ⟨z, hzz⟩ : ∃ z, z = sreachV d tail := ⟨_, rfl⟩
  rw [← hzz] at hz ⊢
  unfold sreachV at hzz
  by_cases h1 : tail < 0
  · rw [if_pos (.inl h1)] at hzz
    subst hzz
    go_enter Try.func18, Try.ntmps18
    go_wp2
    go_ret2
    exact ⟨rfl, below_alloc _ _⟩
  · by_cases h2 : (d.many : Int) < tail
    · rw [if_pos (.inr h2)] at hzz
      subst hzz
      have h1' : 0 ≤ tail := by omega
      go_enter Try.func18, Try.ntmps18
      go_wp2
      go_ret2
      exact ⟨rfl, below_alloc _ _⟩
    · rw [if_neg (by omega)] at hzz
      cases hd : d.dead with
      | false => rw [hd, if_neg (by decide)] at hzz; exact absurd hzz hz
      | true =>
        rw [hd, if_pos rfl] at hzz
        subst hzz
        have h1' : 0 ≤ tail := by omega
        have h2' : tail ≤ (d.many : Int) := by omega
        rw [show (spelt g c tr d) = .agg #[.slice (some ⟨g, 0, none⟩) d.many c, .int .i64 (aftR d), .int .i64 tr, .bool true, .int .i64 d.writes] by unfold spelt; rw [hd]]
        go_enter Try.func18, Try.ntmps18
        go_wp2
        go_ret2
        exact ⟨rfl, below_alloc _ _⟩
set_option maxHeartbeats 2000000 in
/-- the document's Dirty -/
theorem ref_dirty (w : World) (g c : Nat) (tr : Int) (d : DiskV) (tail : Nat) (h : RefIs w g c tr d) (hd : d.dead = false) (ht : tail ≤ d.many) (hm : d.many ≤ 1000) (h64 : ∀ k, k < d.many → (d.S k).length = 64) :
    Calls Try.prog 18 #[spelt g c tr d, .int .i64 tail] w fun e w' => e = .returned (.tuple #[.int .i64 ((dirtyL d.S tail d.many).length : Nat), .int .i64 0]) ∧ Below w.heap.size w w' := by
  have HR := Lib.hid h
  have H64 := Lib.hid h64
  have HM := Lib.hid hm
  have h1' : (0 : Int) ≤ (tail : Int) := by omega
  have h2' : (tail : Int) ≤ (d.many : Int) := by omega
  obtain ⟨bx, hbx⟩ : ∃ bx : Obj, bx = .cells #[.slice (some ⟨g, 0, none⟩) d.many c, .int .i64 (aftR d), .int .i64 tr, .bool false, .int .i64 d.writes] 28 := ⟨_, rfl⟩
  have HX0 : Hid ((w.alloc bx).heap[w.heap.size]? = some (.cells #[.slice (some ⟨g, 0, none⟩) d.many c, .int .i64 (aftR d), .int .i64 tr, .bool false, .int .i64 d.writes] 28 (0, 0))) := Lib.hid (by have := heap_alloc_new w bx; rw [this, hbx])
  have HB0 : Hid (Below w.heap.size w (w.alloc bx)) := Lib.hid (below_alloc _ _)
  clear h h64 hm
  obtain ⟨m, hmm⟩ : ∃ m, m = d.many := ⟨_, rfl⟩
  rw [show (spelt g c tr d) = .agg #[.slice (some ⟨g, 0, none⟩) m c, .int .i64 (aftR d), .int .i64 tr, .bool false, .int .i64 d.writes] by unfold spelt; rw [hd, hmm]]
  rw [← hmm] at hbx HX0 ht h2' H64 HM ⊢
  have HMm := Lib.hid hmm
  clear hmm
  have hn0 : ¬ (tail : Int) < 0 := by omega
  have hn1 : ¬ (m : Int) < (tail : Int) := by omega
  have hn2 : ¬ m < tail := by omega
  go_enter Try.func18, Try.ntmps18
  go_wp2
  rw [← hbx]
  clear hbx
  generalize w.alloc bx = wa at HX0 HB0 ⊢
  go_loopw [6, 7] (fun v i wr => ∃ k n : Nat, tail ≤ k ∧ k ≤ m ∧ i = .int .i64 (k : Nat) ∧ v = .int .i64 (n : Nat) ∧ n ≤ k ∧ Hid (n = (dirtyL d.S tail k).length) ∧ Hid (wr.heap[w.heap.size]? = some (.cells #[.slice (some ⟨g, 0, none⟩) m c, .int .i64 (aftR d), .int .i64 tr, .bool false, .int .i64 d.writes] 28 (0, 0))) ∧ Hid (Below w.heap.size w wr)) (fun _ i _ => leftOf i)
  case atStart => exact ⟨tail, 0, Nat.le_refl _, ht, rfl, rfl, Nat.zero_le _, Lib.hid (by rw [dirtyL_low _ _ _ (Nat.le_refl _)]; rfl), HX0, HB0⟩
  case round =>
    obtain ⟨k, n, hk1, hk2, rfl, rfl, hnk, HN, HX, HB⟩ := hrel
    clear HX0 HB0
    obtain ⟨⟨z0, z1, z2, z3, z4⟩, _⟩ := cells5 HX.out
    by_cases hlt : k < m
    · have hge : ¬ m ≤ k := by omega
      have hlt' : (k : Int) < (m : Int) := by omega
      obtain ⟨S2, hS2⟩ : ∃ S : ByteArray, S = ⟨(d.S k).toArray⟩ := ⟨_, rfl⟩
      have hck : wr.cell? ⟨g, k, none⟩ = some (.string S2) := by
        have h1 := HR.out.1.2 k (by rw [pagesL_len, ← HMm.out]; exact hlt)
        rw [pagesL_at, ← hS2] at h1
        exact (HB.out.cell (p := ⟨g, k, none⟩) HR.out.1.1).trans h1
      have HS2 := Lib.hid hS2
      have HTl : Hid ((d.S k).length ≤ 100000) := Lib.hid (by rw [H64.out k hlt]; decide)
      obtain ⟨qb, hqb⟩ : ∃ qb, qb = decide (d.S k = zeros) := ⟨_, rfl⟩
      have HBk : Hid (∀ A cc W, Txt W A (d.S k) → (A = none → d.S k = []) → Calls Try.prog 53 #[.slice A (d.S k).length cc] W fun e w' => e = .returned (.bool qb) ∧ Below W.heap.size W w') := Lib.hid (fun A cc W q1 q2 => by rw [hqb]; exact ref_blank (d.S k) A cc W q1 q2)
      have HNx : Hid ((dirtyL d.S tail (k + 1)).length = if qb = true then n else n + 1) := Lib.hid (by
        rw [dirtyL_next, List.length_append, ← HN.out, hqb]
        unfold dirtyQ
        rw [decide_eq_true hk1]
        by_cases hz : d.S k = zeros
        · simp [hz]
        · simp [hz])
      have hwk : wrap64 ((k : Int) + 1) = (k : Int) + 1 := by have := HM.out; unfold wrap64; omega
      have hwn : wrap64 ((n : Int) + 1) = (n : Int) + 1 := by have := HM.out; unfold wrap64; omega
      have HMs : Hid (leftOf (.int .i64 (wrap64 ((k : Int) + 1))) < leftOf (.int .i64 (k : Int))) := Lib.hid (leftOf_next k (by have := HM.out; omega))
      clear hS2 hqb
      go_wp2_with (refine wpList_conv (o := ⟨some 32, _, _, _, _, _⟩) rfl (.tmp 31) rfl S2 (d.S k) HS2.out HTl.out rfl ?_; (try simp only [Act.put, List.setIfInBounds_toArray, List.set_cons_zero, List.set_cons_succ]); refine Stop.out ?_)
      unfold Stop
      rintro v w5 ⟨c5, rfl, hc5, hm5, hr5, hs5, hb5⟩
      have HT5 := Lib.hid (mid_txt hr5)
      have HB5 := Lib.hid (below_then HB.out hb5)
      have HX5 := Lib.hid (heap_on hb5 HX.out)
      clear hc5 hm5 hr5 hs5 hb5 hck HB HX z0 z1 z2 z3 z4
      go_wp2_with (go_at_call 53; refine (HBk.out _ _ _ HT5.out (fun e => by cases e)).mono ?_; rintro e w6 ⟨rfl, hb6⟩; have HB6 := Lib.hid (below_then HB5.out hb6); have HX6 := Lib.hid (heap_on hb6 HX5.out); clear hb6; refine Stop.out ?_)
      unfold Stop
      clear HBk HT5 HB5 HX5
      cases qb
      · go_wp2
        go_roundw
        case rel => exact ⟨k + 1, n + 1, by omega, by omega, congrArg (Value.int .i64) (by omega), congrArg (Value.int .i64) (by omega), by omega, Lib.hid (by rw [HNx.out]; rfl), HX6, HB6⟩
        case measure => exact HMs.out
      · go_wp2
        go_roundw
        case rel => exact ⟨k + 1, n, by omega, by omega, congrArg (Value.int .i64) (by omega), rfl, by omega, Lib.hid (by rw [HNx.out]; rfl), HX6, HB6⟩
        case measure => exact HMs.out
    · obtain rfl : k = m := by omega
      go_wp2
      go_ret2
      exact ⟨by rw [HN.out]; rfl, HB.out⟩
/-- the document's disk on its way -/
structure OnR (d : DiskV) (tail k n : Nat) (d1 : DiskV) : Prop where
  many : d1.many = d.many
  ok : OkD d1
  dead : d1.dead = false
  wr : d1.writes ≤ d.writes + k
  S : ∀ j, k ≤ j → j < d.many → d1.S j = d.S j
  len : ∀ j, j < d.many → (d1.S j).length = 64
  rest : ∃ rest, dirtyL d.S tail d.many = dirtyL d.S tail k ++ rest ∧ wipeL d 0 (dirtyL d.S tail d.many) = wipeL d1 n rest
theorem OnR.start {d : DiskV} {tail : Nat} (hok : OkD d) (hd : d.dead = false) (h64 : ∀ j, j < d.many → (d.S j).length = 64) : OnR d tail tail 0 d :=
  ⟨rfl, hok, hd, by omega, fun _ _ _ => rfl, h64, _, by rw [dirtyL_low _ _ _ (Nat.le_refl _)]; rfl, rfl⟩
theorem OnR.blank {d d1 : DiskV} {tail k n : Nat} (h : OnR d tail k n d1) (hq : dirtyQ d.S tail k = false) : OnR d tail (k + 1) n d1 := by
  obtain ⟨a, b, c, e, f, g, i⟩ := h
  refine ⟨a, b, c, by omega, fun j h1 h2 => f j (by omega) h2, g, ?_⟩
  rw [dirtyL_next, hq, if_neg (by decide), List.append_nil]
  exact i
theorem OnR.split {d d1 : DiskV} {tail k n : Nat} (h : OnR d tail k n d1) (hk : k < d.many) (hq : dirtyQ d.S tail k = true) : ∃ more, dirtyL d.S tail d.many = (dirtyL d.S tail k ++ [k]) ++ more ∧ wipeL d 0 (dirtyL d.S tail d.many) = wipeL d1 n (k :: more) := by
  obtain ⟨rest, e1, e2⟩ := h.rest
  obtain ⟨more, e3⟩ := dirtyL_split d.S tail d.many k hk hq
  have e4 : rest = k :: more := by
    rw [e3] at e1
    exact (List.append_cancel_left e1).symm
  exact ⟨more, by rw [e3]; simp, by rw [e2, e4]⟩
theorem OnR.wrote {d d1 : DiskV} {tail k n : Nat} (h : OnR d tail k n d1) (hk : k < d.many) (hq : dirtyQ d.S tail k = true) (he : writeE d1 k zeros = 0) : OnR d tail (k + 1) (n + 1) (writeD d1 k zeros) := by
  obtain ⟨more, e1, e2⟩ := h.split hk hq
  have hw := write_going (d := d1) (k := k) (T := zeros) (by rw [h.many]; exact hk) h.dead zeros_len he
  have hlay : ∀ j, (writeD d1 k zeros).S j = if j = k then overP (d1.S k) zeros else d1.S j := by rw [hw]; intro j; rfl
  refine ⟨by rw [writeD_many]; exact h.many, writeD_ok _ _ _ h.ok, by rw [hw]; exact h.dead, ?_, fun j h1 h2 => ?_, fun j h2 => ?_, more, ?_, ?_⟩
  · have := writeD_writes d1 k zeros
    have := h.wr
    omega
  · rw [hlay, if_neg (by omega)]
    exact h.S j (by omega) h2
  · rw [hlay]
    split
    · rw [over_all (h.len k hk) zeros_len]
      exact zeros_len
    · exact h.len j h2
  · rw [dirtyL_next, hq, if_pos rfl]
    exact e1
  · rw [e2]
    show (if writeE d1 k zeros = 0 then _ else _) = _
    rw [if_pos he]
theorem OnR.cut {d d1 : DiskV} {tail k n : Nat} (h : OnR d tail k n d1) (hk : k < d.many) (hq : dirtyQ d.S tail k = true) (he : writeE d1 k zeros ≠ 0) : wipeL d 0 (dirtyL d.S tail d.many) = (writeD d1 k zeros, 0, writeE d1 k zeros) := by
  obtain ⟨more, e1, e2⟩ := h.split hk hq
  rw [e2]
  show (if writeE d1 k zeros = 0 then _ else _) = _
  rw [if_neg he]
theorem OnR.done {d d1 : DiskV} {tail n : Nat} (h : OnR d tail d.many n d1) : wipeL d 0 (dirtyL d.S tail d.many) = (d1, n, 0) := by
  obtain ⟨rest, e1, e2⟩ := h.rest
  have e3 : rest = [] := by
    have := congrArg List.length e1
    rw [List.length_append] at this
    exact List.eq_nil_of_length_eq_zero (by omega)
  rw [e2, e3]
  rfl
def WipeRR (w : World) (x : DiskV × Nat × Int) (e : Ending) (w' : World) : Prop := ∃ g c tr, e = .returned (.tuple #[spelt g c tr x.1, .int .i64 (x.2.1 : Nat), .int .i64 x.2.2]) ∧ RefIs w' g c tr x.1 ∧ Below w.heap.size w w'
def WipeI (w : World) (d : DiskV) (tail k n : Nat) (wr : World) : Prop := ∃ d1 g1 c1 tr1, wr.heap[w.heap.size]? = some (.cells (refC g1 c1 d1.many (aftR d1) tr1 d1.dead d1.writes).toArray 28 (0, 0)) ∧ wr.heap[w.heap.size + 1]? = some zBox ∧ RefIs wr g1 c1 tr1 d1 ∧ Below w.heap.size w wr ∧ OnR d tail k n d1
end Go.Proofs.Ytfjejiapafdgeaa
