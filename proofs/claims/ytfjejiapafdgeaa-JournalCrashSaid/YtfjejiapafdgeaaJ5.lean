/- A number's bytes, the highest first. How a call that made new memory at most ends a statement; bytes that come in, opened; whatever came in reads as it did. A slice of slices of bytes, as it comes in. -/
import Derived.Test.YtfjejiapafdgeaaJ1
import Derived.Deep.OwnRows
import Derived.Laws.BitsAllLaws
import Derived.ProofKit
import Derived.OpenShut
import Derived.ChangeSame
import Derived.Carry
import Derived.WideKeyArgs
import Derived.Deep.Slices
namespace Go.Proofs.Ytfjejiapafdgeaa
open Go.RowKit
set_option maxRecDepth 100000

def highT (X m : Nat) : Text := (List.range m).map fun i => UInt8.ofNat (X / 2 ^ (8 * (m - 1 - i)))
theorem highT_len (X m : Nat) : (highT X m).length = m := by simp [highT]
def zerosN (m : Nat) : Text := List.replicate m 0
theorem makeN (w : World) (m : Nat) (hm : m ≤ 8) : (Instr.makeSlice 51 (.int .i64 m) (.int .i64 m)).run Try.prog w = .ok (.slice (some ⟨w.heap.size, 0, none⟩) m m) (w.alloc (.cells ((zerosN m).map cellOf).toArray 5)) := by
  have hmk := run_make_row' (P := Try.prog) 51 5 (.int .u8 0) 1 Try.underlying51 u8fact rfl .i64 .i64 m (by omega) (by omega) w
  have e : madeCells #[Value.int .u8 0] m = ((zerosN m).map cellOf).toArray := by
    apply Array.ext
    · simp [madeCells, zerosN]
    · intro i h1 h2
      have h3 : i < (zerosN m).length := by simpa using h2
      have h4 : (zerosN m)[i] = 0 := by unfold zerosN; exact List.getElem_replicate ..
      simp only [List.getElem_toArray, List.getElem_map, h4]
      simp [madeCells, cellOf, Nat.mod_one]
  rw [e] at hmk
  exact hmk
/-- so many of a number's bytes are laid -/
def HighI (w : World) (X m k : Nat) (W : World) : Prop := ∃ l : Text, l.length = m ∧ (∀ j, j < k → l[j]? = (highT X m)[j]?) ∧ W.heap[w.heap.size]? = some (.cells (l.map cellOf).toArray 5 (0, 0)) ∧ Below w.heap.size w W
set_option maxHeartbeats 1000000 in
theorem code_high (X m : Nat) (w : World) (hm : m ≤ 8) :
    Calls Try.prog 89 #[.int .u64 X, .int .i64 m] w fun e w' => e = .returned (.slice (some ⟨w.heap.size, 0, none⟩) m m) ∧ Txt w' (some ⟨w.heap.size, 0, none⟩) (highT X m) ∧ Below w.heap.size w w' := by
  have i1 : (m : Int) ≤ 8 := by omega
  have hmk := makeN w m hm
  have HI : Hid (HighI w X m 0 (w.alloc (.cells ((zerosN m).map cellOf).toArray 5))) := Lib.hid ⟨zerosN m, by simp [zerosN], fun j hj => absurd hj (Nat.not_lt_zero j), heap_alloc_new w _, (Below.refl _ _).alloc (Nat.le_refl _) _⟩
  go_enter Try.func89, Try.ntmps89
  go_wp2
  clear hmk
  go_loopw [11] (fun v wr => ∃ k : Nat, k ≤ m ∧ v = .int .i64 k ∧ Hid (HighI w X m k wr)) (fun v _ => m - (intOf v).toNat)
  case atStart => exact ⟨0, by omega, rfl, HI⟩
  case round =>
    obtain ⟨k, hk, rfl, HK⟩ := hrel
    by_cases hlt : k < m
    · have hlt' : (k : Int) < (m : Int) := by omega
      obtain ⟨l, hl, hj, hg, hb⟩ := HK.out
      have x0 := cell_of_row wr _ k _ _ _ hg
      have z0 := frozen_of_row wr _ k _ _ hg
      have hkl : k < l.length := by omega
      simp only [List.getElem?_toArray, List.getElem?_map, List.getElem?_eq_getElem hkl, Option.map_some, cellOf] at x0
      go_wp2
      go_roundw
      case rel =>
        refine ⟨k + 1, by omega, by go_num, Lib.hid ⟨l.set k (UInt8.ofNat (X / 2 ^ (8 * (m - 1 - k)))), by simp [hl], fun j hj' => ?_, ?_, hb.setCell (p := ⟨w.heap.size, k, none⟩) (Nat.le_refl _) _⟩⟩
        · by_cases e : j = k
          · subst e
            rw [List.getElem?_set_self hkl]
            simp [highT, hlt]
          · rw [List.getElem?_set_ne (Ne.symm e)]
            exact hj j (by omega)
        · rw [heap_setCell_same _ _ _ _ _ _ hg]
          congr 2
          rw [List.setIfInBounds_toArray, List.map_set]
          congr 2
      case measure => simp [intOf]; omega
    · obtain rfl : k = m := by omega
      go_wp2
      go_ret
      obtain ⟨l, hl, hj, hg, hb⟩ := HK.out
      have : l = highT X k := by
        apply List.ext_getElem?
        intro i
        by_cases hi : i < k
        · exact hj i hi
        · rw [List.getElem?_eq_none (by omega), List.getElem?_eq_none (by rw [highT_len]; omega)]
      subst this
      exact ⟨rfl, txt_page hg, hb⟩
/-- the number that bytes are, the highest first -/
def numT (l : Text) : Nat := l.foldl (fun n x => n * 256 + x.toNat) 0
theorem numT_snoc (l : Text) (x : UInt8) : numT (l ++ [x]) = numT l * 256 + x.toNat := by simp [numT]
theorem foldl_lt (l : Text) : ∀ n, l.foldl (fun n x => n * 256 + x.toNat) n < (n + 1) * 256 ^ l.length := by
  induction l with
  | nil => intro n; simp
  | cons x l ih =>
    intro n
    have h := ih (n * 256 + x.toNat)
    have hx : x.toNat < 256 := x.toNat_lt
    simp only [List.foldl_cons, List.length_cons]
    refine Nat.lt_of_lt_of_le h ?_
    rw [Nat.pow_succ, Nat.mul_comm (256 ^ l.length) 256, ← Nat.mul_assoc]
    exact Nat.mul_le_mul_right _ (by omega)
theorem numT_lt (l : Text) : numT l < 256 ^ l.length := by have := foldl_lt l 0; simpa [numT] using this
theorem or_low (v : Nat) (x : UInt8) (h : v * 256 < 18446744073709551616) : bits .or .u64 (IntKind.u64.wrap ((v : Int) * (256 : Int))) ((x.toNat : Nat) : Int) = ((v * 256 + x.toNat : Nat) : Int) := by
  have hx := x.toNat_lt
  have e1 : IntKind.u64.wrap ((v : Int) * (256 : Int)) = ((v * 256 : Nat) : Int) := by rw [IntKind.wrap_u64]; omega
  rw [e1, u64_or_nat _ _ h (by omega)]
  have : 2 ^ 8 * v + x.toNat = 2 ^ 8 * v ||| x.toNat := Nat.two_pow_add_eq_or_of_lt (i := 8) hx v
  rw [Nat.mul_comm v 256]
  congr 1
  exact this.symm
theorem numT_small (l : Text) (k : Nat) (hk : k ≤ 7) : numT (l.take k) * 256 < 18446744073709551616 := by
  have h := numT_lt (l.take k)
  have h2 : 256 ^ (l.take k).length ≤ 256 ^ 7 := Nat.pow_le_pow_right (by decide) (by rw [List.length_take]; omega)
  have h3 : 256 ^ 7 = 72057594037927936 := by decide
  omega
set_option maxHeartbeats 1000000 in
theorem code_number (l : Text) (A : Option Addr) (c : Nat) (w : World) (hl : l.length ≤ 8) (hT : Txt w A l) :
    Calls Try.prog 69 #[.slice A l.length c] w fun e w' => e = .returned (.int .u64 (numT l)) ∧ w = w' := by
  have i1 : (l.length : Int) ≤ 8 := by omega
  have HT := Lib.hid hT
  clear hT
  go_enter Try.func69, Try.ntmps69
  go_wp2
  go_loopw [3, 8] (fun s v wr => ∃ k : Nat, k ≤ l.length ∧ v = .int .i64 k ∧ s = .int .u64 (numT (l.take k)) ∧ Hid (w = wr)) (fun _ v _ => l.length - (intOf v).toNat)
  case atStart => exact ⟨0, by omega, rfl, by simp [numT], Lib.hid rfl⟩
  case round =>
    obtain ⟨k, hk, rfl, rfl, HK⟩ := hrel
    by_cases hlt : k < l.length
    · have hlt' : (k : Int) < (l.length : Int) := by omega
      obtain ⟨a, rfl, hbl, hc⟩ := HT.out (by intro e; rw [e] at hlt; simp at hlt)
      have hx := hc k hlt
      rw [HK.out] at hx
      clear hc
      obtain ⟨x, hxk⟩ : ∃ x, x = l[k] := ⟨_, rfl⟩
      rw [← hxk] at hx
      obtain ⟨z, hz⟩ : ∃ z : Int, z = (x.toNat : Int) := ⟨_, rfl⟩
      have hz0 : 0 ≤ z ∧ z < 256 := by have := x.toNat_lt; omega
      rw [← hz] at hx
      have HZ := Lib.hid (And.intro hz hxk)
      clear hz hxk
      go_wp2
      go_roundw
      case rel =>
        obtain ⟨rfl, rfl⟩ := HZ.out
        exact ⟨k + 1, by omega, by go_num, by rw [or_low _ _ (numT_small l k (by omega)), List.take_succ_eq_append_getElem hlt, numT_snoc], HK⟩
      case measure => simp [intOf]; omega
    · obtain rfl : k = l.length := by omega
      have HK' := HK.out
      go_wp2
      go_ret
      rw [List.take_length]
      exact ⟨rfl, HK.out⟩
end Go.Proofs.Ytfjejiapafdgeaa

namespace Go.Proofs.Ytfjejiapafdgeaa
open Go.ChangeShapes Go.WideShapes Go.ChangeAt Go.RowKit
set_option maxRecDepth 100000

section
variable {H : Type} {enc : TypeId × Value → H} {P : Program}

theorem post_below {f : Func} {s : ChangeSpec} {apart fresh handsOn again : Bool} {W W' : World} {args : Array Value} {v : Value} {ds gs : List (DataW H)} {before pa pv : List MemPlace}
    (hW : DataW.Whole enc P f.params.toList s.vars apart W args.toList ds gs before)
    (hres : ∀ (b : Nat) (sp : Nat → Bool) (hd : Bool), DataW.TrodAll enc P W' b sp hd f.resultTypes.toList (v.resultList f.resultTypes.size) (s.fn H (ds ++ gs)).results [])
    (hargs : ∀ sp : Nat → Bool, (∀ p ∈ before, sp p.block = true) → DataW.TrodAll enc P W' 0 sp true f.params.toList args.toList (s.fn H (ds ++ gs)).args pa)
    (hvars : ∀ sp : Nat → Bool, (∀ p ∈ before, sp p.block = true) → DataW.TrodVars enc P W' sp s.vars (s.fn H (ds ++ gs)).vars pv)
    (hp : before = pa ++ pv) (hb : Below W.heap.size W W')
    (hok : ∀ (j : Nat) (t : TypeId) (r : Value), f.resultTypes[j]? = some t → (v.resultList f.resultTypes.size)[j]? = some r → Value.okWide P W' .any 0 t r) :
    s.post enc P f apart fresh handsOn again W args v W' := by
  subst hp
  have hlow : ∀ p ∈ pa ++ pv, p.block < W.heap.size := fun p hp => hW.lt p hp
  have hold : ∀ p ∈ pa ++ pv, (fun b => decide (b < W.heap.size)) p.block = true := fun p hp => decide_eq_true (hlow p hp)
  refine ⟨ds, gs, pa ++ pv, [], pa, pv, hW, hres _ _ _, hargs _ hold, hvars _ hold, World.keptBut_mono (fun p h => ⟨h, Or.inr (List.mem_append.1 h)⟩) (hb.frame (· ∈ pa ++ pv)), fun _ => ?_⟩
  obtain ⟨_, _, _, _, _, hz, hn⟩ := hW
  refine ⟨hok, _, _, ([] ++ pa) ++ pv, ⟨[] ++ pa, pv, trodAll_append (hargs _ fun _ _ => rfl) (hres _ _ _), hvars _ fun _ _ => rfl, rfl, fun b off h => ?_, fun h => by simpa using hn h⟩, fun p h _ => by simpa using h⟩
  have hin : MemPlace.cell b off ∈ pa ++ pv := by simpa using h
  rw [hb.frozen (hlow _ hin)]
  exact hz b off hin

end

theorem laidOut : laidOutB Try.prog = true := by kernel_rfl

section
variable {H : Type} {enc : TypeId × Value → H} {W W' : World}

theorem args_stay (hb : Below W.heap.size W W') {sp : Nat → Bool} (ts : List TypeId) : ∀ (vs : List Value) (ds : List (DataW H)) (ps : List MemPlace),
    (ts.all fun t => Try.prog.readableRec t && decide (t < Try.prog.types.size)) = true → DataW.TrodAll enc Try.prog W 0 (fun _ => true) true ts vs ds ps → (∀ x ∈ ps, x.block < W.heap.size) → (∀ x ∈ ps, sp x.block = true) → DataW.TrodAll enc Try.prog W' 0 sp true ts vs ds ps := by
  have hlo := laidOut
  generalize Try.prog = P at *
  induction ts with
  | nil =>
    intro vs ds ps _ h _ _
    obtain ⟨rfl, rfl, rfl⟩ := trodAll_nil h
    exact trodAll_mk0
  | cons t ts ih =>
    intro vs ds ps hk h hlt hs
    obtain ⟨v, vs', d, ds', p, q, rfl, rfl, rfl, h1, h2⟩ := trodAll_cons h
    rw [List.all_cons, Bool.and_eq_true, Bool.and_eq_true] at hk
    exact trodAll_cons_mk (WideElems.Trod_stays hlo hk.1.1 (of_decide_eq_true hk.1.2) h1 (fun x hx => hb.same (hlt x (List.mem_append_left _ hx))) (fun x hx => hs x (List.mem_append_left _ hx)))
      (ih vs' ds' q hk.2 h2 (fun x hx => hlt x (List.mem_append_right _ hx)) (fun x hx => hs x (List.mem_append_right _ hx)))

/-- bytes that came in -/
theorem bytes_of {fuel : Nat} {v : Value} {base : Nat} {sp : Nat → Bool} {held : Bool} {x : DataW H × List MemPlace} (h : DataW.trod enc Try.prog W base sp held fuel 51 [v] = some x) :
    ∃ (a : Option Addr) (l : Text) (c : Nat), v = .slice a l.length c ∧ l.length ≤ c ∧ c ≤ maxLen ∧ Txt W a l ∧ (a = none → l = []) := by
  rcases open_ints Try.underlying51 Try.underlying5 (by kernel_rfl) h with ⟨hcs, _⟩ | ⟨y, n, cap, zs, hcs, _, hl, hm, hz, _, hcell, hwz⟩
  · simp at hcs
    subst hcs
    exact ⟨none, [], 0, rfl, Nat.le_refl _, Nat.zero_le _, Txt.none_, fun _ => rfl⟩
  · simp at hcs
    subst hcs
    have hlen : n ≤ zs.length := by
      rw [hz]
      cases sp y.block
      · simp
      · simpa using hl
    have hln : ((zs.take n).map fun z => UInt8.ofNat z.toNat).length = n := by simp; omega
    refine ⟨some y, (zs.take n).map fun z => UInt8.ofNat z.toNat, cap, by rw [hln], by rw [hln]; exact hl, hm, fun hn => ⟨y, rfl, ?_, fun i hi => ?_⟩, by simp⟩
    · have hp : 0 < n := by
        rcases Nat.eq_zero_or_pos n with h0 | h0
        · subst h0; simp at hn
        · exact h0
      have := hcell 0 (by omega)
      have h2 := block_lt_of_cell this
      rwa [add_block] at h2
    · have hi' : i < n := by simp at hi; omega
      rw [hcell i (by omega)]
      have hw : (Lit.int .u8 (zs.getD i 0)).wf = true := hwz _ (by
        have hi2 : i < zs.length := by omega
        rw [List.getD_eq_getElem?_getD, List.getElem?_eq_getElem hi2]
        exact List.getElem_mem hi2)
      have hz0 : zs[i]'(by omega) = zs.getD i 0 := by
        rw [List.getD_eq_getElem?_getD, List.getElem?_eq_getElem (by omega)]; rfl
      simp only [List.getElem_map, List.getElem_take, hz0]
      generalize zs.getD i 0 = z at *
      have hz1 : 0 ≤ z ∧ z < 256 := by
        simp [Lit.wf, IntKind.min, IntKind.max, IntKind.signed, IntKind.bits] at hw
        omega
      congr 2
      rw [UInt8.toNat_ofNat']
      omega
theorem open_bytes {r : Reach} {b0 base : Nat} {sp : Nat → Bool} {held : Bool} {v : Value} {d : DataW H} {p : List MemPlace} (hv : Value.okWide Try.prog W r b0 51 v) (h : DataW.Trod enc Try.prog W base sp held 51 v d p) :
    ∃ (A : Option Addr) (l : Text) (c : Nat), v = .slice A l.length c ∧ l.length ≤ c ∧ c ≤ maxLen ∧ Txt W A l ∧ (A = none → l = []) := by
  obtain ⟨a, n, c, rfl⟩ := okWide_slice Try.underlying51 hv
  obtain ⟨fuel, hf⟩ := h
  exact bytes_of (by simpa [Value.cells] using hf)
/-- a word of 32 bits that came in -/
theorem word_of {n : Int} (h : (Lit.int .u32 n).wf = true) : ∃ x : BitVec 32, n = (x.toNat : Int) := by
  have h1 : 0 ≤ n ∧ n < 4294967296 := by
    simp [Lit.wf, IntKind.min, IntKind.max, IntKind.signed, IntKind.bits] at h
    omega
  refine ⟨BitVec.ofNat 32 n.toNat, ?_⟩
  rw [BitVec.toNat_ofNat]
  omega
end
end Go.Proofs.Ytfjejiapafdgeaa

namespace Go.Proofs.Ytfjejiapafdgeaa
open Go.ChangeShapes Go.WideShapes Go.ChangeAt Go.RowKit
set_option maxRecDepth 100000
section
variable {H : Type} {enc : TypeId × Value → H} {W W' : World}

/-- a slice of slices of bytes, as it lies -/
def TextRows (w : World) (A : Option Addr) (L : List Text) : Prop :=
  ∀ i (h : i < L.length), ∃ a Ai ci, A = some a ∧ a.block < w.heap.size ∧ w.cell? (a.add i) = some (.slice Ai L[i].length ci) ∧ Txt w Ai L[i] ∧ (Ai = none → L[i] = []) ∧ L[i].length ≤ 9223372036854775807
theorem TextRows.below {w w' : World} {A : Option Addr} {L : List Text} (h : TextRows w A L) (hb : Below w.heap.size w w') : TextRows w' A L := fun i hi => by
  obtain ⟨a, Ai, ci, e, hbl, hc, hT, hn, hl⟩ := h i hi
  exact ⟨a, Ai, ci, e, Nat.lt_of_lt_of_le hbl hb.size, (hb.cell (by rw [add_block]; exact hbl)).trans hc, hT.below hb, hn, hl⟩
theorem open_rows {r : Reach} {b0 base : Nat} {sp : Nat → Bool} {held : Bool} {v : Value} {d : DataW H} {p : List MemPlace} (hv : Value.okWide Try.prog W r b0 31 v) (h : DataW.Trod enc Try.prog W base sp held 31 v d p) :
    ∃ (A : Option Addr) (L : List Text) (c : Nat), v = .slice A L.length c ∧ TextRows W A L ∧ L.length ≤ 9223372036854775807 := by
  obtain ⟨a, n, c, rfl⟩ := okWide_slice Try.underlying31 hv
  obtain ⟨fuel, hf⟩ := h
  rcases Go.Deep.open_slice1 Try.underlying31 (by kernel_rfl) (by simpa [Value.cells] using hf) with ⟨hcs, _⟩ | ⟨y, len, cap, m, k, V, D, Pl, hcs, _, hl, hm, hm', _, hi⟩
  · simp at hcs
    obtain ⟨rfl, rfl, rfl⟩ := hcs
    exact ⟨none, [], 0, rfl, fun i hi => by simp at hi, by simp⟩
  · simp at hcs
    obtain ⟨rfl, rfl, rfl⟩ := hcs
    have hnm : n ≤ m := by
      rw [hm']
      cases sp y.block
      · simp
      · simpa using hl
    have each : ∀ i : Fin n, ∃ l : Text, ∃ Ai ci, V i.val = .slice Ai l.length ci ∧ l.length ≤ ci ∧ ci ≤ maxLen ∧ Txt W Ai l ∧ (Ai = none → l = []) := fun i => by
      obtain ⟨A, l, c', h1, h2, h3, h4, h5⟩ := bytes_of (hi i.val (by omega)).2
      exact ⟨l, A, c', h1, h2, h3, h4, h5⟩
    have hL : (List.ofFn fun i => Classical.choose (each i)).length = n := List.length_ofFn
    refine ⟨some y, List.ofFn fun i => Classical.choose (each i), c, by rw [hL], fun i hin => ?_, by rw [hL]; exact Nat.le_trans hl hm⟩
    have hin' : i < n := by rw [hL] at hin; exact hin
    obtain ⟨Ai, ci, h1, h2, h3, h4, h5⟩ := Classical.choose_spec (each ⟨i, hin'⟩)
    have hcell := (hi i (by omega)).1
    have hblk := block_lt_of_cell hcell
    rw [add_block] at hblk
    rw [List.getElem_ofFn]
    exact ⟨y, Ai, ci, rfl, hblk, hcell.trans (congrArg some h1), h4, h5, Nat.le_trans h2 h3⟩
end
end Go.Proofs.Ytfjejiapafdgeaa
