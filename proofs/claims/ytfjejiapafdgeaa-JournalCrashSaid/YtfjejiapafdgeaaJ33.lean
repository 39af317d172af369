/- Sectors written blank, wherever power goes. Are batches the same; are parts not more than are looked at. -/
import Derived.Test.YtfjejiapafdgeaaJ12
import Derived.Test.YtfjejiapafdgeaaJ25
import Derived.Test.YtfjejiapafdgeaaJ32
import Derived.Test.YtfjejiapafdgeaaJ31
import Derived.Test.YtfjejiapafdgeaaJ26
import Derived.Test.YtfjejiapafdgeaaJ27
namespace Go.Proofs.Ytfjejiapafdgeaa
open Go.RowKit
attribute [local go_sem] Oper.semAt_some
set_option maxRecDepth 100000
set_option linter.unusedSimpArgs false
set_option linter.unusedVariables false

/-- the disk behind them, how many, the error -/
def wipeL (d : DiskV) (n : Nat) : List Nat → DiskV × Nat × Int
  | [] => (d, n, 0)
  | i :: L => if writeE d i zeros = 0 then wipeL (writeD d i zeros) (n + 1) L else (writeD d i zeros, 0, writeE d i zeros)
theorem write_going {d : DiskV} {k : Nat} {T : Text} (hk : k < d.many) (hd : d.dead = false) (hT : T.length = 64) (he : writeE d k T = 0) :
    writeD d k T = { d.lay k T with writes := d.writes + 1, after := if d.set = true then d.after - 1 else d.after } := by
  have hz : reachV d k = 0 := by unfold reachV; rw [hd, if_neg (by decide), if_neg (by omega)]
  unfold writeE at he
  rw [if_neg (by omega), if_neg (by omega)] at he
  unfold writeD
  rw [if_neg (by omega), if_neg (by omega)]
  by_cases hs : d.set = true ∧ d.after = 0
  · rw [if_pos hs] at he; cases he
  · rw [if_neg hs, Int.toNat_natCast]
theorem dirtyL_split (S : Nat → Text) (tail m i : Nat) (hi : i < m) (hq : dirtyQ S tail i = true) : ∃ more, dirtyL S tail m = dirtyL S tail i ++ i :: more := by
  refine ⟨(List.range' (i + 1) (m - (i + 1))).filter (dirtyQ S tail), ?_⟩
  have e1 : List.range m = List.range (i + 1) ++ List.range' (i + 1) (m - (i + 1)) := by
    have h := @List.range'_append_1 0 (i + 1) (m - (i + 1))
    rw [Nat.zero_add, show i + 1 + (m - (i + 1)) = m by omega] at h
    rw [List.range_eq_range', List.range_eq_range', h]
  have e2 : dirtyL S tail (i + 1) = dirtyL S tail i ++ [i] := by rw [dirtyL_next, if_pos hq]
  unfold dirtyL at e2 ⊢
  rw [e1, List.filter_append, e2, List.append_assoc]
  rfl
theorem ChgD.low {w V V' : World} {B bm b : Nat} (h : ChgD w V B bm) (hb : Below b V V') (hw : w.heap.size ≤ b) : ChgD w V' B bm :=
  ⟨hb.os.trans h.os, hb.tape.trans h.tape, hb.output.trans h.output, Nat.le_trans h.size hb.size, fun k hk h1 h2 => (hb.block k (Nat.lt_of_lt_of_le hk hw)).trans (h.block k hk h1 h2)⟩
theorem Dsk.low {V V' : World} {B bm n b : Nat} {d : DiskV} (h : Dsk V B bm n d) (hb : Below b V V') (h1 : B < b) (h2 : bm < b) : Dsk V' B bm n d :=
  ⟨(hb.block B h1).trans h.1, h.2.1.kept (hb.block bm h2), h.2.2⟩
/-- a disk on its way -/
structure OnWay (w : World) (B bm nn : Nat) (d : DiskV) (tail : Nat) (pre : List Nat) (n : Nat) (d' : DiskV) (V : World) : Prop where
  dsk : Dsk V B bm n d'
  nn : n ≤ nn + pre.length
  many : d'.many = d.many
  ok : OkD d'
  dead : d'.dead = false
  wr : d'.writes ≤ d.writes + pre.length
  S : ∀ j, j < d.many → (∀ x ∈ pre, x < j) → d'.S j = d.S j
  rest : ∃ rest, dirtyL d.S tail d.many = pre ++ rest ∧ wipeL d 0 (dirtyL d.S tail d.many) = wipeL d' pre.length rest
/-- the call's own variables -/
structure OwnW (w : World) (B tail : Nat) (k : Nat) (x y : Int) (V : World) : Prop where
  d : V.heap[w.heap.size]? = some (.cells #[.pointer (some ⟨B, 0, none⟩)] 25 (0, 0))
  n : V.heap[w.heap.size + 1]? = some (.cells #[.int .i64 x] 3 (0, 0))
  e : V.heap[w.heap.size + 1 + 1]? = some (.cells #[.int .i64 y] 33 (0, 0))
  m : V.heap[w.heap.size + 1 + 1 + 1]? = some (.cells #[.int .i64 k] 3 (0, 0))
  cd : V.heap[w.heap.size + 1 + 1 + 1 + 1]? = some (.cells #[.pointer (some ⟨B, 0, none⟩)] 25 (0, 0))
  ct : V.heap[w.heap.size + 1 + 1 + 1 + 1 + 1]? = some (.cells #[.int .i64 tail] 3 (0, 0))
theorem OwnW.low {w V V' : World} {B tail k b : Nat} {x y : Int} (h : OwnW w B tail k x y V) (hb : Below b V V') (hw : w.heap.size + 6 ≤ b) : OwnW w B tail k x y V' :=
  ⟨(hb.block _ (by omega)).trans h.d, (hb.block _ (by omega)).trans h.n, (hb.block _ (by omega)).trans h.e, (hb.block _ (by omega)).trans h.m, (hb.block _ (by omega)).trans h.cd, (hb.block _ (by omega)).trans h.ct⟩
theorem OwnW.chg {w V V' : World} {B bm tail k : Nat} {x y : Int} (h : OwnW w B tail k x y V) (hc : ChgD V V' B bm) (h1 : B < w.heap.size) (h2 : bm < w.heap.size) : OwnW w B tail k x y V' :=
  ⟨(hc.block _ (heapLt h.d) (by omega) (by omega)).trans h.d, (hc.block _ (heapLt h.n) (by omega) (by omega)).trans h.n, (hc.block _ (heapLt h.e) (by omega) (by omega)).trans h.e, (hc.block _ (heapLt h.m) (by omega) (by omega)).trans h.m, (hc.block _ (heapLt h.cd) (by omega) (by omega)).trans h.cd, (hc.block _ (heapLt h.ct) (by omega) (by omega)).trans h.ct⟩
def InW (w : World) (B bm nn : Nat) (d : DiskV) (tail : Nat) (pre : List Nat) (V : World) : Prop :=
  OwnW w B tail pre.length 0 0 V ∧ (∃ n d', OnWay w B bm nn d tail pre n d' V) ∧ ChgD w V B bm
/-- power is gone -/
def OutW (w : World) (B bm nn : Nat) (d : DiskV) (tail : Nat) (c : Code) (V : World) : Prop :=
  c = .ret ∧ (∃ k n d' x, OwnW w B tail k 0 x V ∧ wipeL d 0 (dirtyL d.S tail d.many) = (d', 0, x) ∧ Dsk V B bm n d' ∧ n ≤ nn + d.many) ∧ ChgD w V B bm
def WipeP (w : World) (B bm nn : Nat) (d : DiskV) (L : List Nat) (e : Ending) (w' : World) : Prop :=
  e = .returned (.tuple #[.int .i64 (wipeL d 0 L).2.1, .int .i64 (wipeL d 0 L).2.2]) ∧ (∃ n, Dsk w' B bm n (wipeL d 0 L).1 ∧ n ≤ nn + d.many) ∧ ChgD w w' B bm
set_option maxHeartbeats 4000000 in
theorem code_wipe (w : World) (B bm nn : Nat) (d : DiskV) (tail : Nat) (h : Dsk w B bm nn d) (hok : OkD d) (hd : d.dead = false) (ht : tail ≤ d.many) (hn : nn ≤ 1000000) (hw : d.writes ≤ 1000000) :
    Calls Try.prog 22 #[.pointer (some ⟨B, 0, none⟩), .int .i64 tail] w (WipeP w B bm nn d (dirtyL d.S tail d.many)) := by
  have HR : Hid (∀ V, Below w.heap.size w V → Calls Try.prog 45 #[.pointer (some ⟨B, 0, none⟩), .int .i64 tail] V fun e w' => e = .returned (.int .i64 0) ∧ V = w') := Lib.hid (fun V hb => by
    have h1 := code_sreach V B bm nn d tail (h.below hb)
    have h2 : sreachV d tail = 0 := by unfold sreachV; rw [hd, if_neg (by omega), if_neg (by decide)]
    rwa [h2] at h1)
  have HF := Lib.hid (fun W => code_dirtyF W B tail)
  have HD := Lib.hid h
  have HM := Lib.hid (And.intro h.2.2.1 (And.intro hn hw))
  have HOk := Lib.hid (And.intro hok hd)
  have hBl := h.lt
  have hbl := h.2.1.lt
  have HB3 : Hid (Below w.heap.size w (((w.alloc (.cells #[.pointer (some ⟨B, 0, none⟩)] 25)).alloc (.cells #[.int .i64 0] 3)).alloc (.cells #[.int .i64 0] 33))) := Lib.hid (below_then (below_then (below_alloc _ _) (below_alloc _ _)) (below_alloc _ _))
  clear h hd hn hw hok
  refine callsIn_wide.1 (callsIn_of_wp_marks (n := 0) (F := Fence.wide) Try.func22 rfl trivial (wpIn_wide.2 ?_) rfl)
  simp only [Try.ntmps22, List.size_toArray, List.length_cons, List.length_nil, Nat.reduceAdd, Nat.reduceSub, Array.replicate_succ, Array.replicate_zero, List.push_toArray, List.append_toArray, List.nil_append, List.cons_append]
  go_wp2_with (first
    | (go_at_call 45; refine (HR.out _ HB3.out).mono ?_; rintro e w1 ⟨rfl, rfl⟩)
    | (go_at_call 52; refine (HF.out _).mono ?_; rintro e w2 ⟨rfl, rfl⟩))
  obtain ⟨W9, hW9⟩ : ∃ W9, W9 = (((((w.alloc (.cells #[.pointer (some ⟨B, 0, none⟩)] 25)).alloc (.cells #[.int .i64 0] 3)).alloc (.cells #[.int .i64 0] 33)).alloc (.cells #[.int .i64 0] 3)).alloc (.cells #[.pointer (some ⟨B, 0, none⟩)] 25)).alloc (.cells #[.int .i64 tail] 3) := ⟨_, rfl⟩
  rw [← hW9]
  have hz9 : W9.heap.size = w.heap.size + 6 := by rw [hW9]; simp
  have hb9 : Below w.heap.size w W9 := by rw [hW9]; exact below_then (below_then (below_then (below_then (below_then (below_alloc _ _) (below_alloc _ _)) (below_alloc _ _)) (below_alloc _ _)) (below_alloc _ _)) (below_alloc _ _)
  have hO9 : OwnW w B tail 0 0 0 W9 := by
    rw [hW9]
    have f1 := heap_alloc_new w (.cells #[.pointer (some ⟨B, 0, none⟩)] 25)
    have f2 := heap_alloc_new (w.alloc (.cells #[.pointer (some ⟨B, 0, none⟩)] 25)) (.cells #[.int .i64 0] 3)
    have f3 := heap_alloc_new ((w.alloc (.cells #[.pointer (some ⟨B, 0, none⟩)] 25)).alloc (.cells #[.int .i64 0] 3)) (.cells #[.int .i64 0] 33)
    have f4 := heap_alloc_new (((w.alloc (.cells #[.pointer (some ⟨B, 0, none⟩)] 25)).alloc (.cells #[.int .i64 0] 3)).alloc (.cells #[.int .i64 0] 33)) (.cells #[.int .i64 0] 3)
    have f5 := heap_alloc_new ((((w.alloc (.cells #[.pointer (some ⟨B, 0, none⟩)] 25)).alloc (.cells #[.int .i64 0] 3)).alloc (.cells #[.int .i64 0] 33)).alloc (.cells #[.int .i64 0] 3)) (.cells #[.pointer (some ⟨B, 0, none⟩)] 25)
    have f6 := heap_alloc_new (((((w.alloc (.cells #[.pointer (some ⟨B, 0, none⟩)] 25)).alloc (.cells #[.int .i64 0] 3)).alloc (.cells #[.int .i64 0] 33)).alloc (.cells #[.int .i64 0] 3)).alloc (.cells #[.pointer (some ⟨B, 0, none⟩)] 25)) (.cells #[.int .i64 tail] 3)
    simp only [World.size_alloc] at f2 f3 f4 f5 f6
    have b : ∀ (V : World) (o : Obj), Below V.heap.size V (V.alloc o) := below_alloc
    exact ⟨heap_on (b _ _) (heap_on (b _ _) (heap_on (b _ _) (heap_on (b _ _) (heap_on (b _ _) f1)))), heap_on (b _ _) (heap_on (b _ _) (heap_on (b _ _) (heap_on (b _ _) f2))), heap_on (b _ _) (heap_on (b _ _) (heap_on (b _ _) f3)), heap_on (b _ _) (heap_on (b _ _) f4), heap_on (b _ _) f5, f6⟩
  have hI9 : InW w B bm nn d tail [] W9 := ⟨hO9, ⟨nn, d, ⟨HD.out.below hb9, Nat.le_refl _, rfl, HOk.out.1, HOk.out.2, by simp, fun _ _ _ => rfl, _, rfl, rfl⟩⟩, ChgD.of_below hb9⟩
  clear hW9 hb9 hO9
  refine wp_rangeToldW (gf := 78) (lb := #[.pointer (some ⟨w.heap.size + 1 + 1 + 1 + 1, 0, none⟩), .pointer (some ⟨w.heap.size + 1 + 1 + 1 + 1 + 1, 0, none⟩)]) rfl (enters_of Try.func78 (by kernel_rfl) rfl) (dirty_toldW (w.heap.size + 1 + 1 + 1 + 1) (w.heap.size + 1 + 1 + 1 + 1 + 1) B bm d.many tail d.S) (fun _ => rfl)
    (InW w B bm nn d tail) (fun c _ => OutW w B bm nn d tail c) (fun pre A C h hb => ⟨h.1.low hb (by omega), (by obtain ⟨n, d', q⟩ := h.2.1; exact ⟨n, d', { q with dsk := q.dsk.low hb (by omega) (by omega) }⟩), h.2.2.low hb (by omega)⟩)
    (fun c pre A C h hb => ⟨h.1, (by obtain ⟨k, n, d', x, q1, q2, q3, q4⟩ := h.2.1; exact ⟨k, n, d', x, q1.low hb (by omega), q2, q3.low hb (by omega) (by omega), q4⟩), h.2.2.low hb (by omega)⟩) ?dk hI9 ?round ?done ?stop
  case dk =>
    intro pre A h
    obtain ⟨n, d', q⟩ := h.2.1
    exact ⟨n, d', q.dsk, q.many, q.S, h.1.cd, h.1.ct⟩
  case stop =>
    rintro D c pre V hD _ ⟨rfl, ⟨k, n, d', x, q1, q2, q3, q4⟩, hc⟩ hK
    have HQ := Lib.hid (And.intro q1 (And.intro q2 (And.intro q3 q4)))
    have HK := Lib.hid hK
    have HC := Lib.hid hc
    clear q1 q2 q3 q4 hc hK
    go_wp2
    refine ⟨by simp, .inl ⟨_, _, rfl, run_takeDeferred HK.out, ?_⟩⟩
    have hp : Below (w.heap.size + 6) V (V.putObj D (.deferred none)) := put_below _ _ (by omega)
    have q := HQ.out.1.low hp (Nat.le_refl _)
    refine ⟨_, results_ints rfl _ _ (w.heap.size + 1) (w.heap.size + 1 + 1) (.int .i64 0) (.int .i64 x) rfl rfl (cell_of_row _ _ 0 _ _ _ q.n) (cell_of_row _ _ 0 _ _ _ q.e), ?_⟩
    unfold WipeP
    rw [HQ.out.2.1]
    exact ⟨rfl, ⟨n, HQ.out.2.2.1.low hp (by omega) (by omega), HQ.out.2.2.2⟩, HC.out.low hp (by omega)⟩
  case done =>
    intro D xs V hD hxl hI hK
    have hx : xs = dirtyL d.S tail d.many := hxl
    obtain ⟨ho, ⟨n, d', hw⟩, hc⟩ := hI
    have hr : wipeL d 0 (dirtyL d.S tail d.many) = (d', xs.length, 0) := by
      obtain ⟨rest, e1, e2⟩ := hw.rest
      rw [← hx] at e1
      have e3 : rest = [] := by
        have := congrArg List.length e1
        rw [List.length_append] at this
        exact List.eq_nil_of_length_eq_zero (by omega)
      rw [e2, e3]
      rfl
    have hl : xs.length ≤ d.many := by rw [hx]; exact dirtyL_len _ _ _
    have q := cell_of_row V _ 0 _ _ _ ho.m
    simp only [List.getElem?_toArray, List.getElem?_cons_zero] at q
    have qn := frozen_of_row V _ 0 _ _ ho.n
    have qe := frozen_of_row V _ 0 _ _ ho.e
    have qn0 := cell_of_row V _ 0 _ _ _ ho.n
    have qe0 := cell_of_row V _ 0 _ _ _ ho.e
    simp only [List.getElem?_toArray, List.getElem?_cons_zero] at qn0 qe0
    have HO := Lib.hid ho
    have HW := Lib.hid hw
    have HC := Lib.hid hc
    have HRr := Lib.hid (And.intro hr hl)
    have HK := Lib.hid hK
    clear ho hw hc hr hl hK hx hxl
    have HNn : Hid (n ≤ nn + d.many) := Lib.hid (by have h1 := HW.out.nn; have h2 := HRr.out.2; omega)
    have HDk := Lib.hid HW.out.dsk
    clear HW
    generalize xs.length = k at *
    go_wp2
    have hs : Below w.heap.size V ((V.setCell ⟨w.heap.size + 1, 0, none⟩ (.int .i64 k)).setCell ⟨w.heap.size + 1 + 1, 0, none⟩ (.int .i64 0)) := ((Below.refl _ V).setCell (p := ⟨w.heap.size + 1, 0, none⟩) (by simp) _).setCell (p := ⟨w.heap.size + 1 + 1, 0, none⟩) (by simp; omega) _
    have f1 : ((V.setCell ⟨w.heap.size + 1, 0, none⟩ (.int .i64 k)).setCell ⟨w.heap.size + 1 + 1, 0, none⟩ (.int .i64 0)).heap[w.heap.size + 1]? = some (.cells #[.int .i64 k] 3) := (heap_setCell_other _ _ _ _ (by simp)).trans (heap_setCell_same V _ 0 _ _ _ HO.out.n)
    have f2 : ((V.setCell ⟨w.heap.size + 1, 0, none⟩ (.int .i64 k)).setCell ⟨w.heap.size + 1 + 1, 0, none⟩ (.int .i64 0)).heap[w.heap.size + 1 + 1]? = some (.cells #[.int .i64 0] 33) := heap_setCell_same _ _ 0 _ _ _ ((heap_setCell_other _ _ _ _ (by simp)).trans HO.out.e)
    have hkk : ((V.setCell ⟨w.heap.size + 1, 0, none⟩ (.int .i64 k)).setCell ⟨w.heap.size + 1 + 1, 0, none⟩ (.int .i64 0)).heap[D]? = some (.deferred (some [])) := ((heap_setCell_other _ _ _ _ (by simp; omega)).trans (heap_setCell_other _ _ _ _ (by simp; omega))).trans HK.out
    generalize ((V.setCell ⟨w.heap.size + 1, 0, none⟩ (.int .i64 k)).setCell ⟨w.heap.size + 1 + 1, 0, none⟩ (.int .i64 0)) = V2 at *
    refine ⟨by simp, .inl ⟨_, _, rfl, run_takeDeferred hkk, ?_⟩⟩
    have hp : Below w.heap.size V2 (V2.putObj D (.deferred none)) := put_below _ _ (by omega)
    refine ⟨_, results_ints rfl _ _ (w.heap.size + 1) (w.heap.size + 1 + 1) (.int .i64 k) (.int .i64 0) rfl rfl (cell_of_row _ _ 0 _ _ _ ((World.putObj_heap_other (by omega)).trans f1)) (cell_of_row _ _ 0 _ _ _ ((World.putObj_heap_other (by omega)).trans f2)), ?_⟩
    unfold WipeP
    rw [HRr.out.1]
    exact ⟨rfl, ⟨n, HDk.out.low (hs.trans hp) hBl hbl, HNn.out⟩, HC.out.low (hs.trans hp) (Nat.le_refl _)⟩
  case round =>
    rintro L r pre i V hL hr hI ⟨hj, hq, hpre⟩
    have HP := Lib.hid (And.intro hj (And.intro hq hpre))
    have HLn : Hid (pre.length ≤ 4096) := Lib.hid (by rw [hpre]; have := dirtyL_len d.S tail i; have := HM.out.1; omega)
    clear hI hr hj hq hpre
    dsimp only [encN]
    gi_wp2
    refine ⟨Below.refl _ _, fun Wb hB hIb => ?_⟩
    obtain ⟨ho, ⟨n, d', hway⟩, hc⟩ := hIb
    clear hB
    have HO := Lib.hid ho
    have HW := Lib.hid hway
    have HC := Lib.hid hc
    clear ho hway hc
    obtain ⟨k, hk⟩ : ∃ k, k = pre.length := ⟨_, rfl⟩
    have HK := Lib.hid hk
    clear hk
    gi_wp2
    have HE : Hid (writeE d' i zeros = 0 ∨ writeE d' i zeros ≠ 0) := Lib.hid (Classical.em _)
    have HZd : Hid (OwnW w B tail pre.length 0 0 Wb.drew) := Lib.hid (HO.out.low (Below.refl Wb.heap.size Wb).drew (by have := heapLt HO.out.ct; omega))
    have HDd : Hid (Dsk Wb.drew B bm n d') := Lib.hid (HW.out.dsk.below (Below.refl _ _).drew)
    have HCd : Hid (ChgD w Wb.drew B bm) := Lib.hid (HC.out.low (Below.refl Wb.heap.size Wb).drew HC.out.size)
    have HSz : Hid (Wb.heap.size ≤ Wb.drew.heap.size) := Lib.hid (Below.refl Wb.heap.size Wb).drew.size
    have HKw : Hid (KpW W9.heap.size Wb Wb.drew) := Lib.hid (KpW.of_below (Below.refl _ _).drew)
    refine region_in_round (S := fun V => V.cell? ⟨w.heap.size, 0, none⟩ = some (.pointer (some ⟨B, 0, none⟩))) (by kernel_rfl) (by kernel_rfl) (by have := cell_of_row _ _ 0 _ _ _ HZd.out.d; simpa using this) ?_
    intro hHeld
    generalize Wb.drew = wd at HZd HDd HCd HSz HKw hHeld ⊢
    (refine takeH (i := 0) (v := ?_) rfl (by kernel_rfl) (by kernel_rfl) (by kernel_rfl) (fun _ _ _ h => h) (Or.inl ⟨by rfl, ?_⟩) (by assumption) ?_; rotate_left; (focus ((intro wS hSw); (try dsimp only at hSw); have s0 := hSw; go_simp; (try with_reducible rfl); done)); (try simp only [Act.put, List.setIfInBounds_toArray, List.set_cons_zero, List.set_cons_succ]))
    (refine takeH (i := 1) (v := ?_) rfl (by kernel_rfl) (by kernel_rfl) (by kernel_rfl) (fun _ _ _ h => h) (Or.inl ⟨by rfl, ?_⟩) (by assumption) ?_; rotate_left; (focus ((intro wS hSw); (try dsimp only at hSw); have s0 := hSw; go_simp; (try with_reducible rfl); done)); (try simp only [Act.put, List.setIfInBounds_toArray, List.set_cons_zero, List.set_cons_succ]))
    refine aloneH (i := 2) rfl (by kernel_rfl) (fun K hK => ?_)
    rw [if_pos (by rfl)]
    have hmk := make64
    go_simp
    clear hmk
    have HB1 : Hid (Below wd.heap.size wd (wd.alloc (.cells (zeros.map cellOf).toArray 5))) := Lib.hid (below_alloc _ _)
    have HT1 : Hid (Txt (wd.alloc (.cells (zeros.map cellOf).toArray 5)) (some ⟨wd.heap.size, 0, none⟩) zeros) := Lib.hid (mid_txt (range_cells (heap_alloc_new wd _)))
    refine hK.out _ _ (cell_on HB1.out hHeld) (fun hNew => ?_)
    clear hK K hHeld; (have hHeld := hNew); clear hNew; (try simp only [Act.put, List.setIfInBounds_toArray, List.set_cons_zero, List.set_cons_succ])
    generalize wd.alloc (.cells (zeros.map cellOf).toArray 5) = w1 at HB1 HT1 hHeld ⊢
    have HWr : Hid (Calls Try.prog 27 #[.pointer (some ⟨B, 0, none⟩), .int .i64 i, .slice (some ⟨wd.heap.size, 0, none⟩) 64 64] w1 fun e w' => e = .returned (.int .i64 (writeE d' i zeros)) ∧ Dsk w' B bm (n + 1) (writeD d' i zeros) ∧ ChgD w1 w' B bm) := Lib.hid (by
      have h := code_write w1 B bm n d' i (HDd.out.below HB1.out) (by have h1 := HW.out.nn; have h2 := HM.out.2.1; have h3 := HLn.out; unfold maxLen; omega) HW.out.ok (some ⟨wd.heap.size, 0, none⟩) 64 zeros (by rw [zeros_len]; exact Nat.le_refl _) HT1.out (by have h1 := HW.out.wr; have h2 := HM.out.2.2; have h3 := HLn.out; omega)
      rw [zeros_len] at h
      exact h)
    refine aloneH (i := 3) rfl (by kernel_rfl) (fun K hK => ?_)
    rw [if_pos (by rfl)]
    go_simp; ((refine HWr.out.mono ?_); (rintro e w2 ⟨rfl, hd2, hc2⟩); have HD2 := Lib.hid hd2; have HC2 := Lib.hid hc2; clear hd2 hc2; (try go_simp))
    have HO2 : Hid (OwnW w B tail pre.length 0 0 w2) := Lib.hid ((HZd.out.low (b := w.heap.size + 6) (HB1.out.mono (by have := heapLt HZd.out.ct; omega)) (Nat.le_refl _)).chg HC2.out hBl hbl)
    refine hK.out _ _ (by have := cell_of_row _ _ 0 _ _ _ HO2.out.d; simpa using this) (fun hNew => ?_)
    clear hK K hHeld; (have hHeld := hNew); clear hNew; (try simp only [Act.put, List.setIfInBounds_toArray, List.set_cons_zero, List.set_cons_succ])
    (refine takeH (i := 4) (v := ?_) rfl (by kernel_rfl) (by kernel_rfl) (by kernel_rfl) (fun _ _ _ h => h) (Or.inl ⟨by rfl, ?_⟩) (by assumption) ?_; rotate_left; (focus ((intro wS hSw); (try dsimp only at hSw); have s0 := hSw; go_simp; (try with_reducible rfl); done)); (try simp only [Act.put, List.setIfInBounds_toArray, List.set_cons_zero, List.set_cons_succ]))
    refine wpAnyH_done (by kernel_rfl) (only_normal ?_) _
    clear hHeld
    have HC3 : Hid (ChgD w w2 B bm) := Lib.hid ((HCd.out.low HB1.out HCd.out.size).trans ⟨HC2.out.os, HC2.out.tape, HC2.out.output, HC2.out.size, fun j hj h1 h2 => HC2.out.block j hj h1 h2⟩)
    have HKp : Hid (KpW W9.heap.size Wb w2) := Lib.hid ((HKw.out.trans (KpW.of_below HB1.out)).trans ⟨HC2.out.size, fun j h1 h2 => HC2.out.block j h2 (by omega) (by omega)⟩)
    obtain ⟨ev, hev⟩ : ∃ ev, ev = writeE d' i zeros := ⟨_, rfl⟩
    rw [← hev] at HE ⊢
    have HEv := Lib.hid hev
    clear hev
    rw [← HK.out] at HO2
    have qm := cell_of_row _ _ 0 _ _ _ HO2.out.m
    have fm := frozen_of_row _ _ 0 _ _ HO2.out.m
    have qn := cell_of_row _ _ 0 _ _ _ HO2.out.n
    have fn := frozen_of_row _ _ 0 _ _ HO2.out.n
    have qe := cell_of_row _ _ 0 _ _ _ HO2.out.e
    have fe := frozen_of_row _ _ 0 _ _ HO2.out.e
    simp only [List.getElem?_toArray, List.getElem?_cons_zero] at qm qn qe
    have hwk : wrap64 ((k : Int) + 1) = (k : Int) + 1 := by have h1 := HK.out; have h2 := HLn.out; unfold wrap64; omega
    have HSp : Hid (∃ more, dirtyL d.S tail d.many = (pre ++ [i]) ++ more ∧ wipeL d 0 (dirtyL d.S tail d.many) = wipeL d' k (i :: more)) := Lib.hid (by
      obtain ⟨rest, e1, e2⟩ := HW.out.rest
      obtain ⟨more, e3⟩ := dirtyL_split d.S tail d.many i HP.out.1 HP.out.2.1
      rw [← HP.out.2.2] at e3
      have e4 : rest = i :: more := List.append_cancel_left (e1.symm.trans e3)
      exact ⟨more, by rw [e3, List.append_assoc]; rfl, by rw [e2, e4, HK.out]⟩)
    have HLe : Hid ((pre ++ [i]).length = k + 1 ∧ k < d.many) := Lib.hid ⟨by rw [List.length_append, ← HK.out]; rfl, by have h1 := HP.out.2.2; have h2 := dirtyL_len d.S tail i; rw [← h1, ← HK.out] at h2; have := HP.out.1; omega⟩
    have HNn : Hid (n + 1 ≤ nn + (k + 1)) := Lib.hid (by have h1 := HW.out.nn; rw [← HK.out] at h1; omega)
    rcases HE.out with h0 | h0
    · have hb0 : (ev != 0) = false := by simp [h0]
      have H0 := Lib.hid h0
      gi_wp2
      have hs : Below w.heap.size w2 (w2.setCell ⟨w.heap.size + 1 + 1 + 1, 0, none⟩ (.int .i64 ((k : Int) + 1))) := (Below.refl _ w2).setCell (p := ⟨w.heap.size + 1 + 1 + 1, 0, none⟩) (by simp; omega) _
      have g := HO2
      have hgo := write_going (d := d') (k := i) (T := zeros) (by rw [HW.out.many]; exact HP.out.1) HW.out.dead zeros_len (by rw [← HEv.out]; exact H0.out)
      obtain ⟨more, e1, e2⟩ := HSp.out
      refine ⟨HKp.out.trans ⟨by simp, fun j h1 h2 => heap_setCell_other _ _ _ _ (by simp; omega)⟩, ⟨(heap_setCell_other _ _ _ _ (by simp; omega)).trans g.d, (heap_setCell_other _ _ _ _ (by simp)).trans g.n, (heap_setCell_other _ _ _ _ (by simp)).trans g.e, ?_, (heap_setCell_other _ _ _ _ (by simp)).trans g.cd, (heap_setCell_other _ _ _ _ (by simp; omega)).trans g.ct⟩, ⟨n + 1, writeD d' i zeros, ?_⟩, HC3.out.low hs (Nat.le_refl _)⟩
      · rw [HLe.out.1]
        exact heap_setCell_same _ _ 0 _ _ _ g.m
      · refine ⟨HD2.out.low hs hBl hbl, by rw [HLe.out.1]; exact HNn.out, (writeD_many _ _ _).trans HW.out.many, writeD_ok _ _ _ HW.out.ok, by rw [hgo]; exact HW.out.dead, by rw [HLe.out.1]; have h1 := HW.out.wr; have h2 := writeD_writes d' i zeros; rw [← HK.out] at h1; omega, fun j hj hx => ?_, more, e1, ?_⟩
        · have hji : i < j := hx i (by simp)
          rw [hgo]
          show (if j = i then _ else d'.S j) = _
          rw [if_neg (by omega)]
          exact HW.out.S j hj (fun x hx2 => hx x (by simp [hx2]))
        · rw [e2, HLe.out.1]
          show (if writeE d' i zeros = 0 then _ else _) = _
          rw [if_pos (by rw [← HEv.out]; exact H0.out)]
    · have hb0 : (ev != 0) = true := by simpa using h0
      have H0 := Lib.hid h0
      gi_wp2
      have hs : Below w.heap.size w2 ((w2.setCell ⟨w.heap.size + 1, 0, none⟩ (.int .i64 0)).setCell ⟨w.heap.size + 1 + 1, 0, none⟩ (.int .i64 ev)) := ((Below.refl _ w2).setCell (p := ⟨w.heap.size + 1, 0, none⟩) (by simp) _).setCell (p := ⟨w.heap.size + 1 + 1, 0, none⟩) (by simp; omega) _
      have g := HO2
      obtain ⟨more, e1, e2⟩ := HSp.out
      have oth : ∀ j, j ≠ w.heap.size + 1 → j ≠ w.heap.size + 1 + 1 → ((w2.setCell ⟨w.heap.size + 1, 0, none⟩ (.int .i64 0)).setCell ⟨w.heap.size + 1 + 1, 0, none⟩ (.int .i64 ev)).heap[j]? = w2.heap[j]? := fun j h1 h2 => (heap_setCell_other _ _ _ _ h2).trans (heap_setCell_other _ _ _ _ h1)
      refine ⟨HKp.out.trans ⟨by simp, fun j h1 h2 => oth j (by omega) (by omega)⟩, rfl, ⟨k, n + 1, writeD d' i zeros, ev, ⟨(oth _ (by omega) (by omega)).trans g.d, (heap_setCell_other _ _ _ _ (by simp)).trans (heap_setCell_same _ _ 0 _ _ _ g.n), heap_setCell_same _ _ 0 _ _ _ ((heap_setCell_other _ _ _ _ (by simp)).trans g.e), (oth _ (by omega) (by omega)).trans g.m, (oth _ (by omega) (by omega)).trans g.cd, (oth _ (by omega) (by omega)).trans g.ct⟩, ?_, HD2.out.low hs hBl hbl, by have h1 := HNn.out; have h2 := HLe.out.2; omega⟩, HC3.out.low hs (Nat.le_refl _)⟩
      rw [e2]
      show (if writeE d' i zeros = 0 then _ else _) = _
      rw [if_neg (by rw [← HEv.out]; exact H0.out), ← HEv.out]
end Go.Proofs.Ytfjejiapafdgeaa

namespace Go.Proofs.Ytfjejiapafdgeaa
open Go.RowKit
set_option maxRecDepth 100000
set_option linter.unusedSimpArgs false
set_option linter.unusedVariables false

theorem OwnT.secs {B : Nat} {v : Value} {L : List Text} {W : World} (h : OwnT B v L W) : ∃ A c, v = .slice A L.length c ∧ SecsAt W A c L := by
  have hx := h
  obtain ⟨xs, h1, _⟩ := hx
  rcases h1.2 with ⟨rfl, h0⟩ | ⟨g, c, cur, rfl, _, _, hc, _⟩
  · exact ⟨none, 0, by rw [h0], .inl ⟨rfl, List.eq_nil_of_length_eq_zero h0, rfl⟩⟩
  · exact ⟨_, c, rfl, .inr ⟨g, rfl, h.texts rfl, hc⟩⟩
set_option maxHeartbeats 2000000 in
theorem code_lsame (L : List Text) (A A' : Option Addr) (c c' : Nat) (w : World) (hl : L.length ≤ 100000) (h : SecsAt w A c L) (h' : SecsAt w A' c' L) :
    Calls Try.prog 19 #[.slice A L.length c, .slice A' L.length c'] w fun e w' => e = .returned (.bool true) ∧ Below w.heap.size w w' := by
  have HA := Lib.hid h
  have HA' := Lib.hid h'
  have HL := Lib.hid hl
  clear h h' hl
  have hnl : ((L.length : Int) != (L.length : Int)) = false := by simp
  go_enter Try.func19, Try.ntmps19
  go_wp2
  clear hnl
  go_loopw [13] (fun i wr => ∃ k : Nat, k ≤ L.length ∧ i = .int .i64 (k : Nat) ∧ Hid (Below w.heap.size w wr)) (fun i _ => roundsLeft L.length i)
  case atStart => exact ⟨0, Nat.zero_le _, rfl, Lib.hid (Below.refl _ _)⟩
  case round =>
    obtain ⟨k, hk, rfl, HB⟩ := hrel
    by_cases hlt : k < L.length
    · have hlt' : (k : Int) < (L.length : Int) := by omega
      have hwk : wrap64 ((k : Int) + 1) = (k : Int) + 1 := by have := HL.out; unfold wrap64; omega
      rcases HA.out with ⟨rfl, rfl, rfl⟩ | ⟨G, rfl, hT, _⟩
      · simp at hlt
      rcases HA'.out with ⟨rfl, rfl, rfl⟩ | ⟨G', rfl, hT', _⟩
      · simp at hlt
      obtain ⟨b, cb, q1, q2, q3, q4, q5, q6⟩ := hT k hlt
      obtain ⟨b2, cb2, r1, r2, r3, r4, r5, r6⟩ := hT' k hlt
      obtain ⟨T, hT0⟩ : ∃ T, T = L[k] := ⟨_, rfl⟩
      rw [← hT0] at q1 q4 r1 r4
      clear hT0 q2 q3 q5 q6 r2 r3 r5 r6 hT hT'
      have c1 := (HB.out.cell (p := ⟨G, k, none⟩) (block_lt_of_cell q1)).trans q1
      have c2 := (HB.out.cell (p := ⟨G', k, none⟩) (block_lt_of_cell r1)).trans r1
      have t1 : Txt wr (some ⟨b, 0, none⟩) T := (mid_txt q4).below HB.out
      have t2 : Txt wr (some ⟨b2, 0, none⟩) T := (mid_txt r4).below HB.out
      generalize hnT : T.length = nT at c1 c2
      have HnT := Lib.hid hnT
      have hlk : k < L.length := hlt
      have HS0 : Hid ((fun V : World => V.cell? ⟨G, k, none⟩ = some (.slice (some ⟨b, 0, none⟩) nT cb) ∧ V.cell? ⟨G', k, none⟩ = some (.slice (some ⟨b2, 0, none⟩) nT cb2) ∧ Txt V (some ⟨b, 0, none⟩) T ∧ Txt V (some ⟨b2, 0, none⟩) T) wr.drew) := Lib.hid ⟨cell_on (Below.refl _ _).drew c1, cell_on (Below.refl _ _).drew c2, t1.below (Below.refl _ _).drew, t2.below (Below.refl _ _).drew⟩
      have HBd : Hid (Below w.heap.size w wr.drew) := Lib.hid HB.out.drew
      clear hnT c1 c2 t1 t2 q1 q4 r1 r4
      go_wp2
      refine wp_region_held_drew (S := fun V => V.cell? ⟨G, k, none⟩ = some (.slice (some ⟨b, 0, none⟩) nT cb) ∧ V.cell? ⟨G', k, none⟩ = some (.slice (some ⟨b2, 0, none⟩) nT cb2) ∧ Txt V (some ⟨b, 0, none⟩) T ∧ Txt V (some ⟨b2, 0, none⟩) T) (by kernel_rfl) HS0.out ?_
      intro hHeld
      clear HS0
      generalize wr.drew = wd at HBd hHeld ⊢
      (refine takeH (i := 0) (v := ?_) rfl (by kernel_rfl) (by kernel_rfl) (by kernel_rfl) (fun _ _ _ h => h) (Or.inl ⟨by rfl, ?_⟩) (by assumption) ?_; rotate_left; (focus ((intro wS hSw); (try dsimp only at hSw); obtain ⟨s0, s1, t0, t1⟩ := hSw; (have e1 := text_run_n wS (some ⟨b, 0, none⟩) cb nT T HnT.out t0 (fun e => by cases e)); (have e2 := text_run_n wS (some ⟨b2, 0, none⟩) cb2 nT T HnT.out t1 (fun e => by cases e)); clear t0 t1; go_simp; (try with_reducible rfl); done)); (try simp only [Act.put, List.setIfInBounds_toArray, List.set_cons_zero, List.set_cons_succ]))
      (refine takeH (i := 1) (v := ?_) rfl (by kernel_rfl) (by kernel_rfl) (by kernel_rfl) (fun _ _ _ h => h) (Or.inl ⟨by rfl, ?_⟩) (by assumption) ?_; rotate_left; (focus ((intro wS hSw); (try dsimp only at hSw); obtain ⟨s0, s1, t0, t1⟩ := hSw; (have e1 := text_run_n wS (some ⟨b, 0, none⟩) cb nT T HnT.out t0 (fun e => by cases e)); (have e2 := text_run_n wS (some ⟨b2, 0, none⟩) cb2 nT T HnT.out t1 (fun e => by cases e)); clear t0 t1; go_simp; (try with_reducible rfl); done)); (try simp only [Act.put, List.setIfInBounds_toArray, List.set_cons_zero, List.set_cons_succ]))
      (refine takeH (i := 2) (v := ?_) rfl (by kernel_rfl) (by kernel_rfl) (by kernel_rfl) (fun _ _ _ h => h) (Or.inl ⟨by rfl, ?_⟩) (by assumption) ?_; rotate_left; (focus ((intro wS hSw); (try dsimp only at hSw); obtain ⟨s0, s1, t0, t1⟩ := hSw; (have e1 := text_run_n wS (some ⟨b, 0, none⟩) cb nT T HnT.out t0 (fun e => by cases e)); (have e2 := text_run_n wS (some ⟨b2, 0, none⟩) cb2 nT T HnT.out t1 (fun e => by cases e)); clear t0 t1; go_simp; (try with_reducible rfl); done)); (try simp only [Act.put, List.setIfInBounds_toArray, List.set_cons_zero, List.set_cons_succ]))
      (refine takeH (i := 3) (v := ?_) rfl (by kernel_rfl) (by kernel_rfl) (by kernel_rfl) (fun _ _ _ h => h) (Or.inl ⟨by rfl, ?_⟩) (by assumption) ?_; rotate_left; (focus ((intro wS hSw); (try dsimp only at hSw); obtain ⟨s0, s1, t0, t1⟩ := hSw; (have e1 := text_run_n wS (some ⟨b, 0, none⟩) cb nT T HnT.out t0 (fun e => by cases e)); (have e2 := text_run_n wS (some ⟨b2, 0, none⟩) cb2 nT T HnT.out t1 (fun e => by cases e)); clear t0 t1; go_simp; (try with_reducible rfl); done)); (try simp only [Act.put, List.setIfInBounds_toArray, List.set_cons_zero, List.set_cons_succ]))
      (refine takeH (i := 4) (v := ?_) rfl (by kernel_rfl) (by kernel_rfl) (by kernel_rfl) (fun _ _ _ h => h) (Or.inl ⟨by rfl, ?_⟩) (by assumption) ?_; rotate_left; (focus ((intro wS hSw); (try dsimp only at hSw); obtain ⟨s0, s1, t0, t1⟩ := hSw; (have e1 := text_run_n wS (some ⟨b, 0, none⟩) cb nT T HnT.out t0 (fun e => by cases e)); (have e2 := text_run_n wS (some ⟨b2, 0, none⟩) cb2 nT T HnT.out t1 (fun e => by cases e)); clear t0 t1; go_simp; (try with_reducible rfl); done)); (try simp only [Act.put, List.setIfInBounds_toArray, List.set_cons_zero, List.set_cons_succ]))
      (refine takeH (i := 5) (v := ?_) rfl (by kernel_rfl) (by kernel_rfl) (by kernel_rfl) (fun _ _ _ h => h) (Or.inl ⟨by rfl, ?_⟩) (by assumption) ?_; rotate_left; (focus ((intro wS hSw); (try dsimp only at hSw); obtain ⟨s0, s1, t0, t1⟩ := hSw; (have e1 := text_run_n wS (some ⟨b, 0, none⟩) cb nT T HnT.out t0 (fun e => by cases e)); (have e2 := text_run_n wS (some ⟨b2, 0, none⟩) cb2 nT T HnT.out t1 (fun e => by cases e)); clear t0 t1; go_simp; (try with_reducible rfl); done)); (try simp only [Act.put, List.setIfInBounds_toArray, List.set_cons_zero, List.set_cons_succ]))
      (refine takeH (i := 6) (v := ?_) rfl (by kernel_rfl) (by kernel_rfl) (by kernel_rfl) (fun _ _ _ h => h) (Or.inl ⟨by rfl, ?_⟩) (by assumption) ?_; rotate_left; (focus ((intro wS hSw); (try dsimp only at hSw); obtain ⟨s0, s1, t0, t1⟩ := hSw; (have e1 := text_run_n wS (some ⟨b, 0, none⟩) cb nT T HnT.out t0 (fun e => by cases e)); (have e2 := text_run_n wS (some ⟨b2, 0, none⟩) cb2 nT T HnT.out t1 (fun e => by cases e)); clear t0 t1; go_simp; (try with_reducible rfl); done)); (try simp only [Act.put, List.setIfInBounds_toArray, List.set_cons_zero, List.set_cons_succ]))
      (refine takeH (i := 7) (v := ?_) rfl (by kernel_rfl) (by kernel_rfl) (by kernel_rfl) (fun _ _ _ h => h) (Or.inl ⟨by rfl, ?_⟩) (by assumption) ?_; rotate_left; (focus ((intro wS hSw); (try dsimp only at hSw); obtain ⟨s0, s1, t0, t1⟩ := hSw; (have e1 := text_run_n wS (some ⟨b, 0, none⟩) cb nT T HnT.out t0 (fun e => by cases e)); (have e2 := text_run_n wS (some ⟨b2, 0, none⟩) cb2 nT T HnT.out t1 (fun e => by cases e)); clear t0 t1; go_simp; (try with_reducible rfl); done)); (try simp only [Act.put, List.setIfInBounds_toArray, List.set_cons_zero, List.set_cons_succ]))
      (refine takeH (i := 8) (v := ?_) rfl (by kernel_rfl) (by kernel_rfl) (by kernel_rfl) (fun _ _ _ h => h) (Or.inl ⟨by rfl, ?_⟩) (by assumption) ?_; rotate_left; (focus ((intro wS hSw); (try dsimp only at hSw); obtain ⟨s0, s1, t0, t1⟩ := hSw; (have e1 := text_run_n wS (some ⟨b, 0, none⟩) cb nT T HnT.out t0 (fun e => by cases e)); (have e2 := text_run_n wS (some ⟨b2, 0, none⟩) cb2 nT T HnT.out t1 (fun e => by cases e)); clear t0 t1; go_simp; (try with_reducible rfl); done)); (try simp only [Act.put, List.setIfInBounds_toArray, List.set_cons_zero, List.set_cons_succ]))
      (refine takeH (i := 9) (v := ?_) rfl (by kernel_rfl) (by kernel_rfl) (by kernel_rfl) (fun _ _ _ h => h) (Or.inl ⟨by rfl, ?_⟩) (by assumption) ?_; rotate_left; (focus ((intro wS hSw); (try dsimp only at hSw); obtain ⟨s0, s1, t0, t1⟩ := hSw; (have e1 := text_run_n wS (some ⟨b, 0, none⟩) cb nT T HnT.out t0 (fun e => by cases e)); (have e2 := text_run_n wS (some ⟨b2, 0, none⟩) cb2 nT T HnT.out t1 (fun e => by cases e)); clear t0 t1; go_simp; (try with_reducible rfl); done)); (try simp only [Act.put, List.setIfInBounds_toArray, List.set_cons_zero, List.set_cons_succ]))
      (refine takeH (i := 10) (v := ?_) rfl (by kernel_rfl) (by kernel_rfl) (by kernel_rfl) (fun _ _ _ h => h) (Or.inl ⟨by rfl, ?_⟩) (by assumption) ?_; rotate_left; (focus ((intro wS hSw); (try dsimp only at hSw); obtain ⟨s0, s1, t0, t1⟩ := hSw; (have e1 := text_run_n wS (some ⟨b, 0, none⟩) cb nT T HnT.out t0 (fun e => by cases e)); (have e2 := text_run_n wS (some ⟨b2, 0, none⟩) cb2 nT T HnT.out t1 (fun e => by cases e)); clear t0 t1; go_simp; (try with_reducible rfl); done)); (try simp only [Act.put, List.setIfInBounds_toArray, List.set_cons_zero, List.set_cons_succ]))
      refine wpAnyH_done (by kernel_rfl) ?_ _
      clear hHeld
      have hbs : (T.toArray.toList == T.toArray.toList) = true := beq_self_eq_true _
      go_wp2
      go_roundw
      case rel => exact ⟨k + 1, by omega, congrArg (Value.int .i64) (by omega), HBd⟩
      case measure => rw [hwk]; exact roundsLeft_next _ _ hlk
    · have hge : (L.length : Int) ≤ (k : Int) := by omega
      go_wp2
      go_ret
      exact ⟨rfl, HB.out⟩
end Go.Proofs.Ytfjejiapafdgeaa
