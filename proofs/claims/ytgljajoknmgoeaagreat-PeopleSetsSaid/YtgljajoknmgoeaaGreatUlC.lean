/- A part of a line that holds nothing but that it holds: its own last field takes no room. A line in memory: its two cells, its row; the small calls on it. -/
import Derived.Test.YtgljajoknmgoeaaGreatTlB
namespace Go.Proofs.YtgljajoknmgoeaaGreat
open Go.RowKit
set_option maxRecDepth 100000

theorem part_end {W : World} {g : Nat} (h : W.shape? g = some (92, 2)) : (partAt ⟨g, 0, none⟩ 2 16).run Tryz.prog W = .ok ⟨g, 2, some 16⟩ W := by
  have hc : Tryz.prog.cellsOf 92 = 2 := by kernel_rfl
  have hb : Tryz.prog.bytesOf 92 = 24 := by kernel_rfl
  have h0 : byteOfCell Tryz.prog Tryz.prog.depth 92 0 = some 0 := by kernel_rfl
  have hv : (viewAt g).run Tryz.prog W = .ok none W := by simp [viewAt, go_sem, h]
  simp [partAt, byteOf, noView, go_sem, h, hc, hb, h0, hv]
theorem part_new (w : World) (a b : Value) : (partAt ⟨w.heap.size, 0, none⟩ 2 16).run Tryz.prog (w.alloc (.cells #[a, b] 92)) = .ok ⟨w.heap.size, 2, some 16⟩ (w.alloc (.cells #[a, b] 92)) := part_end (by
  unfold World.shape?
  rw [heap_alloc_new]
  rfl)
end Go.Proofs.YtgljajoknmgoeaaGreat

namespace Go.Proofs.YtgljajoknmgoeaaGreat
open Go.RowKit
set_option maxRecDepth 100000

def flatP2 (p : Sp) : List Value := [.int .i64 p.1, .int .i64 p.2.1]
def flat2 (L : List Sp) : List Value := L.flatMap flatP2
theorem flat2_len (L : List Sp) : (flat2 L).length = 2 * L.length := by
  induction L with
  | nil => rfl
  | cons p L ih =>
    have e : flat2 (p :: L) = flatP2 p ++ flat2 L := rfl
    rw [e, List.length_append, ih]
    simp [flatP2]
    omega
theorem flat2_at (L : List Sp) : ∀ (i : Nat) (h : i < L.length), (flat2 L)[2 * i]? = some (.int .i64 L[i].1) ∧ (flat2 L)[2 * i + 1]? = some (.int .i64 L[i].2.1) := by
  induction L with
  | nil => intro i h; simp at h
  | cons p L ih =>
    intro i h
    have e : flat2 (p :: L) = flatP2 p ++ flat2 L := rfl
    rw [e]
    cases i with
    | zero => exact ⟨rfl, rfl⟩
    | succ i =>
      obtain ⟨h0, h1⟩ := ih i (by simpa using h)
      have hl : (flatP2 p).length = 2 := rfl
      refine ⟨?_, ?_⟩
      · rw [List.getElem?_append_right (by rw [hl]; omega), hl, show 2 * (i + 1) - 2 = 2 * i by omega]; simpa using h0
      · rw [List.getElem?_append_right (by rw [hl]; omega), hl, show 2 * (i + 1) + 1 - 2 = 2 * i + 1 by omega]; simpa using h1
/-- at that address the spans lie, one behind the other; of none nothing is asked -/
def Row2 (w : World) (A : Option Addr) (L : List Sp) : Prop :=
  L ≠ [] → ∃ b o, A = some ⟨b, o, none⟩ ∧ b < w.heap.size ∧ w.rangeAt b o (flat2 L)
theorem Row2.on {w W : World} {A : Option Addr} {L : List Sp} (h : Row2 w A L) (hb : Below w.heap.size w W) : Row2 W A L := fun hn => by
  obtain ⟨b, o, e, hl, hr⟩ := h hn
  exact ⟨b, o, e, Nat.lt_of_lt_of_le hl hb.size, fun j v hv => cell_on hb (hr j v hv)⟩
theorem Row2.nil {w : World} {A : Option Addr} : Row2 w A [] := fun h => absurd rfl h
theorem Row2.at_ {w : World} {A : Option Addr} {L : List Sp} (h : Row2 w A L) (i : Nat) (hi : i < L.length) : ∃ b o, A = some ⟨b, o, none⟩ ∧ b < w.heap.size ∧
    w.cell? ⟨b, o + i * 2, none⟩ = some (.int .i64 L[i].1) ∧ w.cell? ⟨b, o + i * 2 + 1, none⟩ = some (.int .i64 L[i].2.1) := by
  obtain ⟨b, o, e, hl, hr⟩ := h (by intro h0; subst h0; simp at hi)
  obtain ⟨h0, h1⟩ := flat2_at L i hi
  have g0 := hr _ _ h0
  have g1 := hr _ _ h1
  rw [← Nat.add_assoc] at g1
  rw [Nat.mul_comm 2 i] at g0 g1
  exact ⟨b, o, e, hl, g0, g1⟩

/-- a line that was made: at block B, its row at A -/
def LinAt (w : World) (B most : Nat) (A : Option Addr) (c : Nat) (L : List Sp) : Prop :=
  w.heap[B]? = some (.cells #[.int .i64 most, .slice A L.length c] 89 (0, 0)) ∧ Row2 w A L ∧ L.length ≤ c ∧ c ≤ maxLen ∧ 1 ≤ most ∧ most ≤ 256 ∧ L.length ≤ most ∧ (A = none → L = [] ∧ c = 0)
def Lin (w : World) (B most : Nat) (L : List Sp) : Prop := ∃ (A : Option Addr) (c : Nat), LinAt w B most A c L
theorem LinAt.on {w W : World} {B most c : Nat} {A : Option Addr} {L : List Sp} (h : LinAt w B most A c L) (hb : Below w.heap.size w W) : LinAt W B most A c L := by
  obtain ⟨h0, h1, h2⟩ := h
  exact ⟨heap_on hb h0, h1.on hb, h2⟩
theorem Lin.on {w W : World} {B most : Nat} {L : List Sp} (h : Lin w B most L) (hb : Below w.heap.size w W) : Lin W B most L := by
  obtain ⟨A, c, h0⟩ := h
  exact ⟨A, c, h0.on hb⟩
theorem LinAt.lt {w : World} {B most c : Nat} {A : Option Addr} {L : List Sp} (h : LinAt w B most A c L) : B < w.heap.size := heapLt h.1
theorem Lin.lt {w : World} {B most : Nat} {L : List Sp} (h : Lin w B most L) : B < w.heap.size := by
  obtain ⟨A, c, h0⟩ := h
  exact h0.lt
theorem LinAt.short {w : World} {B most c : Nat} {A : Option Addr} {L : List Sp} (h : LinAt w B most A c L) : L.length ≤ 256 := by
  obtain ⟨_, _, _, _, _, h6, h7, _⟩ := h
  omega
/-- the block that the row lies in -/
theorem LinAt.row {w : World} {B most c : Nat} {A : Option Addr} {L : List Sp} (h : LinAt w B most A c L) : ∃ b, b < w.heap.size ∧ (L ≠ [] → ∀ a, A = some a → a.block = b) := by
  by_cases hn : L = []
  · exact ⟨B, h.lt, fun k => absurd hn k⟩
  · obtain ⟨b, o, rfl, hl, _⟩ := h.2.1 hn
    exact ⟨b, hl, fun _ a e => by injection e with e; rw [← e]⟩

set_option maxHeartbeats 400000 in
theorem code_isMade (w : World) (B most : Nat) (L : List Sp) (h : Lin w B most L) : Calls Tryz.prog 57 #[.pointer (some ⟨B, 0, none⟩)] w fun e w' => e = .returned (.bool true) ∧ w = w' := by
  obtain ⟨A, c, h0, _, _, _, hm, _⟩ := h
  have c0 := cell_of_row w B 0 _ _ _ h0
  simp only [List.getElem?_toArray, List.getElem?_cons_zero] at c0
  have hp : (0 : Int) < (most : Int) := by omega
  clear h0 hm
  go_enter Tryz.func57, Tryz.ntmps57
  go_wp2
  go_ret
  exact ⟨ret_bool (by simpa using hp), rfl⟩
set_option maxHeartbeats 400000 in
theorem code_lnew (w : World) (n : Int) (h1 : 1 ≤ n) (h2 : n ≤ 256) : Calls Tryz.prog 38 #[.int .i64 n] w fun e w' => ∃ B, e = .returned (.pointer (some ⟨B, 0, none⟩)) ∧ Lin w' B n.toNat [] ∧ Below w.heap.size w w' ∧ w.heap.size ≤ B := by
  go_enter Tryz.func38, Tryz.ntmps38
  go_wp2
  go_ret
  refine ⟨w.heap.size, rfl, ⟨none, 0, ?_, Row2.nil, Nat.zero_le _, by unfold maxLen; omega, by omega, by omega, by simp, fun _ => ⟨rfl, rfl⟩⟩, below_alloc _ _, Nat.le_refl _⟩
  have := heap_alloc_new w (.cells #[.int .i64 n, .slice none 0 0] 89)
  rw [this, show ((n.toNat : Nat) : Int) = n by omega]
  rfl
set_option maxHeartbeats 400000 in
theorem code_lnew_no (w : World) (n : Int) (h : n < 1 ∨ 256 < n) : Calls Tryz.prog 38 #[.int .i64 n] w fun e w' => e = .returned (.pointer none) ∧ w = w' := by
  rcases h with h | h
  · go_enter Tryz.func38, Tryz.ntmps38
    go_wp2
    go_ret
    exact ⟨rfl, rfl⟩
  · have h1 : ¬ n < 1 := by omega
    go_enter Tryz.func38, Tryz.ntmps38
    go_wp2
    go_ret
    exact ⟨rfl, rfl⟩
/-- the spans of a line, as they are yielded -/
def allF (g : Nat) : Value := .func (.func 89) #[] #[.pointer (some ⟨g, 0, none⟩)]
set_option maxHeartbeats 400000 in
theorem code_lall (w : World) (B most c : Nat) (A : Option Addr) (L : List Sp) (h : LinAt w B most A c L) : Calls Tryz.prog 65 #[.pointer (some ⟨B, 0, none⟩)] w fun e w' =>
    e = .returned (allF w.heap.size) ∧ w'.heap[w.heap.size]? = some (.cells #[.slice A L.length c] 87 (0, 0)) ∧ Below w.heap.size w w' := by
  have hmf : ∀ (fn : Fn) (first cap : Array Value) (w : World), (Instr.makeFunc fn first cap).run Tryz.prog w = .ok (.func fn first cap) w := fun _ _ _ _ => rfl
  have HM := Lib.hid (fun W => code_isMade (w.alloc W) B most L ⟨A, c, h.on (below_alloc _ _)⟩)
  have hB := h.lt
  obtain ⟨h0, _⟩ := h
  have c1 := cell_of_row w B 1 _ _ _ h0
  simp only [List.getElem?_toArray, List.getElem?_cons_succ, List.getElem?_cons_zero] at c1
  clear h0
  go_enter Tryz.func65, Tryz.ntmps65
  go_wp2_with (go_at_call 57; refine (HM.out _).mono ?_; rintro e w1 ⟨rfl, rfl⟩)
  go_ret
  exact ⟨rfl, heap_alloc_new _ _, below_alloc _ _⟩
end Go.Proofs.YtgljajoknmgoeaaGreat
