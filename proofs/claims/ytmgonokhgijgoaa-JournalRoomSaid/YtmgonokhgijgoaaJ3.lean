/- A slice of slices of bytes, as it comes in. Parts, one behind the other. -/
import Derived.Test.YtmgonokhgijgoaaJ2
import Derived.Lib.AppendZerosOnto
import Derived.Lib.AppendZeros
namespace Go.Proofs.Ytmgonokhgijgoaa
open Go.ChangeShapes Go.WideShapes Go.ChangeAt Go.RowKit
set_option maxRecDepth 100000
section
variable {H : Type} {enc : TypeId × Value → H} {W W' : World}

/-- a slice of slices of bytes, as it lies -/
def TextRows (w : World) (A : Option Addr) (L : List Text) : Prop :=
  ∀ i (h : i < L.length), ∃ a Ai ci, A = some a ∧ a.block < w.heap.size ∧ w.cell? (a.add i) = some (.slice Ai L[i].length ci) ∧ Txt w Ai L[i] ∧ (Ai = none → L[i] = []) ∧ L[i].length ≤ 9223372036854775807
theorem TextRows.below {w w' : World} {A : Option Addr} {L : List Text} (h : TextRows w A L) (hb : Below w.heap.size w w') : TextRows w' A L := fun i hi => by
  obtain ⟨a, Ai, ci, e, hbl, hc, hT, hn, hl⟩ := h i hi
  exact ⟨a, Ai, ci, e, Nat.lt_of_lt_of_le hbl hb.size, (hb.cell (by rw [add_block]; exact hbl)).trans hc, hT.below hb, hn, hl⟩
theorem open_rows {r : Reach} {b0 base : Nat} {sp : Nat → Bool} {held : Bool} {v : Value} {d : DataW H} {p : List MemPlace} (hv : Value.okWide Try.prog W r b0 31 v) (h : DataW.Trod enc Try.prog W base sp held 31 v d p) :
    ∃ (A : Option Addr) (L : List Text) (c : Nat), v = .slice A L.length c ∧ TextRows W A L ∧ L.length ≤ 9223372036854775807 := by
  obtain ⟨a, n, c, rfl⟩ := okWide_slice Try.underlying31 hv
  obtain ⟨fuel, hf⟩ := h
  rcases Go.Deep.open_slice1 Try.underlying31 (by kernel_rfl) (by simpa [Value.cells] using hf) with ⟨hcs, _⟩ | ⟨y, len, cap, m, k, V, D, Pl, hcs, _, hl, hm, hm', _, hi⟩
  · simp at hcs
    obtain ⟨rfl, rfl, rfl⟩ := hcs
    exact ⟨none, [], 0, rfl, fun i hi => by simp at hi, by simp⟩
  · simp at hcs
    obtain ⟨rfl, rfl, rfl⟩ := hcs
    have hnm : n ≤ m := by
      rw [hm']
      cases sp y.block
      · simp
      · simpa using hl
    have each : ∀ i : Fin n, ∃ l : Text, ∃ Ai ci, V i.val = .slice Ai l.length ci ∧ l.length ≤ ci ∧ ci ≤ maxLen ∧ Txt W Ai l ∧ (Ai = none → l = []) := fun i => by
      obtain ⟨A, l, c', h1, h2, h3, h4, h5⟩ := bytes_of (hi i.val (by omega)).2
      exact ⟨l, A, c', h1, h2, h3, h4, h5⟩
    have hL : (List.ofFn fun i => Classical.choose (each i)).length = n := List.length_ofFn
    refine ⟨some y, List.ofFn fun i => Classical.choose (each i), c, by rw [hL], fun i hin => ?_, by rw [hL]; exact Nat.le_trans hl hm⟩
    have hin' : i < n := by rw [hL] at hin; exact hin
    obtain ⟨Ai, ci, h1, h2, h3, h4, h5⟩ := Classical.choose_spec (each ⟨i, hin'⟩)
    have hcell := (hi i (by omega)).1
    have hblk := block_lt_of_cell hcell
    rw [add_block] at hblk
    rw [List.getElem_ofFn]
    exact ⟨y, Ai, ci, rfl, hblk, hcell.trans (congrArg some h1), h4, h5, Nat.le_trans h2 h3⟩
end
end Go.Proofs.Ytmgonokhgijgoaa

namespace Go.Proofs.Ytmgonokhgijgoaa
open Go.RowKit
set_option maxRecDepth 100000

/-- an empty row of the call's own -/
def Room (w : World) (e : Ending) (w' : World) : Prop := ∃ c, e = .returned (.slice (some ⟨w.heap.size, 0, none⟩) 0 c) ∧ w'.ownsRow w.heap.size 5 1 (.slice (some ⟨w.heap.size, 0, none⟩) 0 c) 0 [] ∧ Below w.heap.size w w'
set_option maxHeartbeats 1000000 in
theorem code_grow (n : Nat) (w : World) (h1 : 1 ≤ n) (h2 : n ≤ 4096) : Calls Try.prog 99 #[.slice none 0 0, .int .i64 n] w (Room w) := by
  obtain ⟨i, hi, hz, hs, hby⟩ : ∃ i, Try.prog.info? 5 = some i ∧ i.zero = some (.int .u8 0) ∧ i.size = 1 ∧ i.bytes = 1 := by
    have := u8fact
    cases he : Try.prog.info? 5 with
    | none => rw [he] at this; simp at this
    | some i => rw [he] at this; simp at this; exact ⟨i, rfl, this.1, this.2.1, this.2.2⟩
  obtain ⟨G, hG⟩ : ∃ G, G = grownCap w n 0 5 := ⟨_, rfl⟩
  have hGn : n ≤ G := by rw [hG]; exact grownCap_ge w _ _ _
  have hGm : G ≤ maxLen := by rw [hG]; exact grownCap_le_maxLen w _ _ _ (by unfold maxLen; omega)
  have hrz : Hid ((Builtin.append_ #[51, 3] 51 #[.slice none 0 0, .int .i64 n]).run Try.prog w = .ok (.slice (some ⟨w.heap.size, 0, none⟩) n G) (w.drew.alloc (.cells (Array.replicate G (.int .u8 0)) 5))) := Lib.hid (by
    have h := Lib.run_append_grow_zeros (P := Try.prog) w 51 3 51 5 i (.int .u8 0) .i64 .i64 Try.underlying51 Try.underlying3 hi hz none 0 0 [] (run_firstCells_none w.drew i.size 0 0 0) n (by omega) (by omega) (by omega) (by omega) (by rw [hby]; omega)
      (by rw [Nat.zero_add]; exact growslice_fits (by omega) (by rw [hby]; omega))
    rw [Nat.zero_add, ← hG] at h
    rw [h]
    have e : ∀ k, Builtin.zeroCells (Value.int .u8 0).cells k = Array.replicate k (.int .u8 0) := fun k => by
      apply Array.ext
      · simp [Builtin.zeroCells, Value.cells]
      · intro i h1 h2
        simp [Builtin.zeroCells, Value.cells, Nat.mod_one]
    have e2 : ([] : List Value).toArray ++ Array.replicate n (.int .u8 0) ++ Array.replicate (G - n) (.int .u8 0) = Array.replicate G (.int .u8 0) := by
      rw [show ([] : List Value).toArray = #[] from rfl, Array.empty_append, Array.replicate_append_replicate, Nat.add_sub_cancel' hGn]
    rw [e, e, e2])
  have hGi : (n : Int) ≤ (G : Int) := by omega
  have i1 : (1 : Int) ≤ (n : Int) := by omega
  have i2 : (n : Int) ≤ 4096 := by omega
  have i3 : (G : Int) ≤ 9223372036854775807 := by unfold maxLen at hGm; omega
  clear hG hi hz hs hby
  go_enter Try.func99, Try.ntmps99
  go_wp2_with (at_builtin; refine Lib.wpList_append_run _ rfl _ _ _ _ rfl _ _ rfl rfl _ _ hrz.out ?_)
  all_goals (go_ret; exact ⟨G, rfl, ⟨by simp, .inr ⟨w.heap.size, G, Array.replicate G (.int .u8 0), rfl, Nat.le_refl _, heap_alloc_new w _, Nat.zero_le _, hGm, by simp, by simp⟩⟩, ((Below.refl _ w).alloc (Nat.le_refl _) _).drew⟩)
/-- the bytes of the first so many parts, kept in a row of the call's own -/
def CatI (w : World) (v : Value) (T : Text) (W : World) : Prop := W.ownsRow w.heap.size 5 1 v T.length (T.map cellOf) ∧ Below w.heap.size w W
theorem CatI.more {w W W' : World} {v v' : Value} {T T' : Text} (h : CatI w v T W) (hown : W'.ownsRow w.heap.size 5 1 v' T'.length (T'.map cellOf)) (hg : W.grownBy W' v.ownBlock) : CatI w v' T' W' := by
  refine ⟨hown, h.2.grown hg h.2.size fun k hk => ?_⟩
  rcases h.1.2 with ⟨rfl, _⟩ | ⟨g, c, cur, rfl, hb, _⟩
  · simp [Value.ownBlock] at hk
  · simp [Value.ownBlock] at hk
    omega
def flatK (L : List Text) (k : Nat) : Text := (L.take k).flatten
theorem flatK_next (L : List Text) (k : Nat) (h : k < L.length) : flatK L (k + 1) = flatK L k ++ L[k] := by
  unfold flatK
  rw [List.take_succ_eq_append_getElem h, List.flatten_append]
  simp
theorem flatK_le (L : List Text) (k : Nat) : (flatK L k).length ≤ L.flatten.length := by
  have : L.flatten = flatK L k ++ (L.drop k).flatten := by
    unfold flatK
    rw [← List.flatten_append, List.take_append_drop]
  rw [this, List.length_append]
  omega
set_option maxHeartbeats 2000000 in
theorem code_concat (L : List Text) (A : Option Addr) (c : Nat) (w : World) (h1 : 1 ≤ L.flatten.length) (h2 : L.flatten.length ≤ 4096) (hL : L.length ≤ 4096) (hT : TextRows w A L) :
    Calls Try.prog 96 #[.slice A L.length c] w fun e w' => ∃ v, e = .returned v ∧ CatI w v L.flatten w' := by
  have HT := Lib.hid hT
  have HG := Lib.hid (code_grow L.flatten.length w h1 h2)
  have i1 : (L.length : Int) ≤ 4096 := by omega
  clear hT
  go_enter Try.func96, Try.ntmps96
  go_wp2
  go_loopw [3, 11] (fun s i wr => ∃ k, k ≤ L.length ∧ i = .int .i64 (k : Nat) ∧ s = .int .i64 ((flatK L k).length : Nat) ∧ Hid (w = wr)) (fun _ i _ => L.length - (intOf i).toNat)
  case atStart => exact ⟨0, Nat.zero_le _, rfl, by simp [flatK], Lib.hid rfl⟩
  case round =>
    obtain ⟨k, hk, rfl, rfl, HK⟩ := hrel
    by_cases hlt : k < L.length
    · have hlt' : (k : Int) < (L.length : Int) := by omega
      obtain ⟨a, Ai, ci, rfl, hbl, hc, hti, hni, hli⟩ := HT.out k hlt
      have hkn := flatK_next L k hlt
      have hle := flatK_le L (k + 1)
      rw [hkn, List.length_append] at hle
      have j1 : ((flatK L k).length : Int) + (L[k].length : Int) ≤ 4096 := by omega
      rw [HK.out] at hc
      clear hti hni hbl hle
      have HN := Lib.hid hkn
      clear hkn
      obtain ⟨n0, hn0⟩ : ∃ n0, n0 = (flatK L k).length := ⟨_, rfl⟩
      obtain ⟨n1, hn1⟩ : ∃ n1, n1 = L[k].length := ⟨_, rfl⟩
      rw [← hn1] at hc j1 hli
      rw [← hn0] at j1 ⊢
      have HH := Lib.hid (And.intro hn0 hn1)
      clear hn0 hn1
      go_wp2
      go_roundw
      case rel => exact ⟨k + 1, by omega, by go_num, by rw [HN.out, List.length_append, ← HH.out.1, ← HH.out.2]; go_num, HK⟩
      case measure => simp [intOf]; omega
    · obtain rfl : k = L.length := by omega
      have e9 : flatK L L.length = L.flatten := by simp [flatK]
      rw [e9]
      have hw : w = wr := HK.out
      subst hw
      obtain ⟨S, hS⟩ : ∃ S, S = L.flatten.length := ⟨_, rfl⟩
      rw [← hS] at HG ⊢
      have s1 : 1 ≤ S ∧ S ≤ 4096 := by omega
      have HS4 : Hid (L.flatten.length ≤ 4096) := Lib.hid h2
      clear h1 h2 hS e9
      go_wp2_with (go_at_call 99; refine HG.out.mono ?_; rintro e w1 ⟨c1, rfl, ho1, hb1⟩; have HC0 : Hid (CatI w (.slice (some ⟨w.heap.size, 0, none⟩) 0 c1) [] w1) := Lib.hid ⟨ho1, hb1⟩; clear ho1 hb1)
      go_loopw [6, 27] (fun v i wr => ∃ k, k ≤ L.length ∧ i = .int .i64 (k : Nat) ∧ Hid (CatI w v (flatK L k) wr)) (fun _ i _ => L.length - (intOf i).toNat)
      case atStart => exact ⟨0, Nat.zero_le _, rfl, HC0⟩
      case round =>
        obtain ⟨k, hk, rfl, HK2⟩ := hrel
        by_cases hlt : k < L.length
        · have hlt' : (k : Int) < (L.length : Int) := by omega
          obtain ⟨a, Ai, ci, rfl, hbl, hc, hti, hni, hli⟩ := (HT.out.below HK2.out.2) k hlt
          have HN := Lib.hid (And.intro hti hni)
          have HL4 : Hid (L[k].length ≤ 4096 ∧ (flatK L k).length ≤ 4096) := Lib.hid (by
            have := flatK_le L (k + 1)
            rw [flatK_next L k hlt, List.length_append] at this
            have := HS4.out
            omega)
          clear hti hni hbl
          go_wp2_with (at_builtin; refine wpList_append_text rfl _ _ rfl rfl w.heap.size _ (flatK L k).length ((flatK L k).map cellOf) rfl HK2.out.1 Ai ci L[k] rfl HN.out.1 HN.out.2 (by have := HL4.out.1; have := HL4.out.2; omega) HK2.out.2.size ?_; intro v' w' hown hg hat; have HK3 : Hid (CatI w v' (flatK L (k + 1)) w') := Lib.hid (HK2.out.more (by rw [flatK_next L k hlt]; simpa using hown) hg); clear hown hg hat)
          go_roundw
          case rel => exact ⟨k + 1, by omega, by go_num, HK3⟩
          case measure => simp [intOf]; omega
        · obtain rfl : k = L.length := by omega
          go_wp2
          go_ret
          have e9 : flatK L L.length = L.flatten := by simp [flatK]
          exact ⟨_, rfl, by rw [← e9]; exact HK2.out⟩
end Go.Proofs.Ytmgonokhgijgoaa
