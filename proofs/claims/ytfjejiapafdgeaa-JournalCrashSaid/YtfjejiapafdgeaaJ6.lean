/- Parts, one behind the other. A batch's numbers: how many sectors it has, which may be its own. Plain facts on the check sum: a register of 32 bits, gone on bit by bit. Nothing of the program is imported. -/
import Derived.Test.YtfjejiapafdgeaaJ5
import Derived.Lib.AppendZerosOnto
import Derived.Lib.AppendZeros
import Derived.Test.YtfjejiapafdgeaaJ1
namespace Go.Proofs.Ytfjejiapafdgeaa
open Go.RowKit
set_option maxRecDepth 100000

/-- an empty row of the call's own -/
def Room (w : World) (e : Ending) (w' : World) : Prop := ∃ c, e = .returned (.slice (some ⟨w.heap.size, 0, none⟩) 0 c) ∧ w'.ownsRow w.heap.size 5 1 (.slice (some ⟨w.heap.size, 0, none⟩) 0 c) 0 [] ∧ Below w.heap.size w w'
set_option maxHeartbeats 1000000 in
theorem code_grow (n : Nat) (w : World) (h1 : 1 ≤ n) (h2 : n ≤ 4096) : Calls Try.prog 99 #[.slice none 0 0, .int .i64 n] w (Room w) := by
  obtain ⟨i, hi, hz, hs, hby⟩ : ∃ i, Try.prog.info? 5 = some i ∧ i.zero = some (.int .u8 0) ∧ i.size = 1 ∧ i.bytes = 1 := by
    have := u8fact
    cases he : Try.prog.info? 5 with
    | none => rw [he] at this; simp at this
    | some i => rw [he] at this; simp at this; exact ⟨i, rfl, this.1, this.2.1, this.2.2⟩
  obtain ⟨G, hG⟩ : ∃ G, G = grownCap w n 0 5 := ⟨_, rfl⟩
  have hGn : n ≤ G := by rw [hG]; exact grownCap_ge w _ _ _
  have hGm : G ≤ maxLen := by rw [hG]; exact grownCap_le_maxLen w _ _ _ (by unfold maxLen; omega)
  have hrz : Hid ((Builtin.append_ #[51, 3] 51 #[.slice none 0 0, .int .i64 n]).run Try.prog w = .ok (.slice (some ⟨w.heap.size, 0, none⟩) n G) (w.drew.alloc (.cells (Array.replicate G (.int .u8 0)) 5))) := Lib.hid (by
    have h := Lib.run_append_grow_zeros (P := Try.prog) w 51 3 51 5 i (.int .u8 0) .i64 .i64 Try.underlying51 Try.underlying3 hi hz none 0 0 [] (run_firstCells_none w.drew i.size 0 0 0) n (by omega) (by omega) (by omega) (by omega) (by rw [hby]; omega)
      (by rw [Nat.zero_add]; exact growslice_fits (by omega) (by rw [hby]; omega))
    rw [Nat.zero_add, ← hG] at h
    rw [h]
    have e : ∀ k, Builtin.zeroCells (Value.int .u8 0).cells k = Array.replicate k (.int .u8 0) := fun k => by
      apply Array.ext
      · simp [Builtin.zeroCells, Value.cells]
      · intro i h1 h2
        simp [Builtin.zeroCells, Value.cells, Nat.mod_one]
    have e2 : ([] : List Value).toArray ++ Array.replicate n (.int .u8 0) ++ Array.replicate (G - n) (.int .u8 0) = Array.replicate G (.int .u8 0) := by
      rw [show ([] : List Value).toArray = #[] from rfl, Array.empty_append, Array.replicate_append_replicate, Nat.add_sub_cancel' hGn]
    rw [e, e, e2])
  have hGi : (n : Int) ≤ (G : Int) := by omega
  have i1 : (1 : Int) ≤ (n : Int) := by omega
  have i2 : (n : Int) ≤ 4096 := by omega
  have i3 : (G : Int) ≤ 9223372036854775807 := by unfold maxLen at hGm; omega
  clear hG hi hz hs hby
  go_enter Try.func99, Try.ntmps99
  go_wp2_with (at_builtin; refine Lib.wpList_append_run _ rfl _ _ _ _ rfl _ _ rfl rfl _ _ hrz.out ?_)
  all_goals (go_ret; exact ⟨G, rfl, ⟨by simp, .inr ⟨w.heap.size, G, Array.replicate G (.int .u8 0), rfl, Nat.le_refl _, heap_alloc_new w _, Nat.zero_le _, hGm, by simp, by simp⟩⟩, ((Below.refl _ w).alloc (Nat.le_refl _) _).drew⟩)
/-- the bytes of the first so many parts, kept in a row of the call's own -/
def CatI (w : World) (v : Value) (T : Text) (W : World) : Prop := W.ownsRow w.heap.size 5 1 v T.length (T.map cellOf) ∧ Below w.heap.size w W
theorem CatI.more {w W W' : World} {v v' : Value} {T T' : Text} (h : CatI w v T W) (hown : W'.ownsRow w.heap.size 5 1 v' T'.length (T'.map cellOf)) (hg : W.grownBy W' v.ownBlock) : CatI w v' T' W' := by
  refine ⟨hown, h.2.grown hg h.2.size fun k hk => ?_⟩
  rcases h.1.2 with ⟨rfl, _⟩ | ⟨g, c, cur, rfl, hb, _⟩
  · simp [Value.ownBlock] at hk
  · simp [Value.ownBlock] at hk
    omega
def flatK (L : List Text) (k : Nat) : Text := (L.take k).flatten
theorem flatK_next (L : List Text) (k : Nat) (h : k < L.length) : flatK L (k + 1) = flatK L k ++ L[k] := by
  unfold flatK
  rw [List.take_succ_eq_append_getElem h, List.flatten_append]
  simp
theorem flatK_le (L : List Text) (k : Nat) : (flatK L k).length ≤ L.flatten.length := by
  have : L.flatten = flatK L k ++ (L.drop k).flatten := by
    unfold flatK
    rw [← List.flatten_append, List.take_append_drop]
  rw [this, List.length_append]
  omega
set_option maxHeartbeats 2000000 in
theorem code_concat (L : List Text) (A : Option Addr) (c : Nat) (w : World) (h1 : 1 ≤ L.flatten.length) (h2 : L.flatten.length ≤ 4096) (hL : L.length ≤ 4096) (hT : TextRows w A L) :
    Calls Try.prog 96 #[.slice A L.length c] w fun e w' => ∃ v, e = .returned v ∧ CatI w v L.flatten w' := by
  have HT := Lib.hid hT
  have HG := Lib.hid (code_grow L.flatten.length w h1 h2)
  have i1 : (L.length : Int) ≤ 4096 := by omega
  clear hT
  go_enter Try.func96, Try.ntmps96
  go_wp2
  go_loopw [3, 11] (fun s i wr => ∃ k, k ≤ L.length ∧ i = .int .i64 (k : Nat) ∧ s = .int .i64 ((flatK L k).length : Nat) ∧ Hid (w = wr)) (fun _ i _ => L.length - (intOf i).toNat)
  case atStart => exact ⟨0, Nat.zero_le _, rfl, by simp [flatK], Lib.hid rfl⟩
  case round =>
    obtain ⟨k, hk, rfl, rfl, HK⟩ := hrel
    by_cases hlt : k < L.length
    · have hlt' : (k : Int) < (L.length : Int) := by omega
      obtain ⟨a, Ai, ci, rfl, hbl, hc, hti, hni, hli⟩ := HT.out k hlt
      have hkn := flatK_next L k hlt
      have hle := flatK_le L (k + 1)
      rw [hkn, List.length_append] at hle
      have j1 : ((flatK L k).length : Int) + (L[k].length : Int) ≤ 4096 := by omega
      rw [HK.out] at hc
      clear hti hni hbl hle
      have HN := Lib.hid hkn
      clear hkn
      obtain ⟨n0, hn0⟩ : ∃ n0, n0 = (flatK L k).length := ⟨_, rfl⟩
      obtain ⟨n1, hn1⟩ : ∃ n1, n1 = L[k].length := ⟨_, rfl⟩
      rw [← hn1] at hc j1 hli
      rw [← hn0] at j1 ⊢
      have HH := Lib.hid (And.intro hn0 hn1)
      clear hn0 hn1
      go_wp2
      go_roundw
      case rel => exact ⟨k + 1, by omega, by go_num, by rw [HN.out, List.length_append, ← HH.out.1, ← HH.out.2]; go_num, HK⟩
      case measure => simp [intOf]; omega
    · obtain rfl : k = L.length := by omega
      have e9 : flatK L L.length = L.flatten := by simp [flatK]
      rw [e9]
      have hw : w = wr := HK.out
      subst hw
      obtain ⟨S, hS⟩ : ∃ S, S = L.flatten.length := ⟨_, rfl⟩
      rw [← hS] at HG ⊢
      have s1 : 1 ≤ S ∧ S ≤ 4096 := by omega
      have HS4 : Hid (L.flatten.length ≤ 4096) := Lib.hid h2
      clear h1 h2 hS e9
      go_wp2_with (go_at_call 99; refine HG.out.mono ?_; rintro e w1 ⟨c1, rfl, ho1, hb1⟩; have HC0 : Hid (CatI w (.slice (some ⟨w.heap.size, 0, none⟩) 0 c1) [] w1) := Lib.hid ⟨ho1, hb1⟩; clear ho1 hb1)
      go_loopw [6, 27] (fun v i wr => ∃ k, k ≤ L.length ∧ i = .int .i64 (k : Nat) ∧ Hid (CatI w v (flatK L k) wr)) (fun _ i _ => L.length - (intOf i).toNat)
      case atStart => exact ⟨0, Nat.zero_le _, rfl, HC0⟩
      case round =>
        obtain ⟨k, hk, rfl, HK2⟩ := hrel
        by_cases hlt : k < L.length
        · have hlt' : (k : Int) < (L.length : Int) := by omega
          obtain ⟨a, Ai, ci, rfl, hbl, hc, hti, hni, hli⟩ := (HT.out.below HK2.out.2) k hlt
          have HN := Lib.hid (And.intro hti hni)
          have HL4 : Hid (L[k].length ≤ 4096 ∧ (flatK L k).length ≤ 4096) := Lib.hid (by
            have := flatK_le L (k + 1)
            rw [flatK_next L k hlt, List.length_append] at this
            have := HS4.out
            omega)
          clear hti hni hbl
          go_wp2_with (at_builtin; refine wpList_append_text rfl _ _ rfl rfl w.heap.size _ (flatK L k).length ((flatK L k).map cellOf) rfl HK2.out.1 Ai ci L[k] rfl HN.out.1 HN.out.2 (by have := HL4.out.1; have := HL4.out.2; omega) HK2.out.2.size ?_; intro v' w' hown hg hat; have HK3 : Hid (CatI w v' (flatK L (k + 1)) w') := Lib.hid (HK2.out.more (by rw [flatK_next L k hlt]; simpa using hown) hg); clear hown hg hat)
          go_roundw
          case rel => exact ⟨k + 1, by omega, by go_num, HK3⟩
          case measure => simp [intOf]; omega
        · obtain rfl : k = L.length := by omega
          go_wp2
          go_ret
          have e9 : flatK L L.length = L.flatten := by simp [flatK]
          exact ⟨_, rfl, by rw [← e9]; exact HK2.out⟩
end Go.Proofs.Ytfjejiapafdgeaa

namespace Go.Proofs.Ytfjejiapafdgeaa
open Go.RowKit
set_option maxRecDepth 100000

def seqOk (s : Int) : Bool := decide (1 ≤ s) && decide (s ≤ 4611686018427387904)
def needV (n : Int) : Int := if n < 1 ∨ 131072 < n then 0 else 2 + (n + 63) / 64
theorem code_isSeq (s : Int) (w : World) : Calls Try.prog 87 #[.int .i64 s] w fun e w' => e = .returned (.bool (seqOk s)) ∧ w = w' := by
  unfold seqOk
  by_cases h1 : 1 ≤ s
  · by_cases h2 : s ≤ 4611686018427387904
    · go_enter Try.func87, Try.ntmps87
      go_wp2
      go_ret
      exact ⟨by simp [h1, h2], rfl⟩
    · have h2' : 4611686018427387904 < s := by omega
      go_enter Try.func87, Try.ntmps87
      go_wp2
      go_ret
      exact ⟨by simp [h2], rfl⟩
  · have h1' : s < 1 := by omega
    go_enter Try.func87, Try.ntmps87
    go_wp2
    go_ret
    exact ⟨by rw [decide_eq_false (show ¬ 1 ≤ s by omega)]; rfl, rfl⟩
theorem code_isPage (A : Option Addr) (n c : Nat) (w : World) : Calls Try.prog 68 #[.slice A n c] w fun e w' => e = .returned (.bool (decide (n = 64))) ∧ w = w' := by
  go_enter Try.func68, Try.ntmps68
  go_wp2
  go_ret
  refine ⟨?_, rfl⟩
  by_cases h : n = 64
  · subst h; rfl
  · have : ¬ (n : Int) = 64 := by omega
    simp [h, this]
theorem code_between (n : Int) (w : World) (h1 : 0 ≤ n) (h2 : n ≤ 9223372036854775743) : Calls Try.prog 72 #[.int .i64 n] w fun e w' => e = .returned (.int .i64 ((n + 63) / 64)) ∧ w = w' := by
  go_enter Try.func72, Try.ntmps72
  go_wp2
  go_ret
  refine ⟨?_, rfl⟩
  rw [show n + 63 = n + 64 - 1 by omega]
  rfl
theorem code_need (n : Int) (w : World) : Calls Try.prog 49 #[.int .i64 n] w fun e w' => e = .returned (.int .i64 (needV n)) ∧ w = w' := by
  unfold needV
  by_cases h1 : n < 1
  · rw [if_pos (.inl h1)]
    go_enter Try.func49, Try.ntmps49
    go_wp2
    go_ret
    exact ⟨rfl, rfl⟩
  · have h1' : 1 ≤ n := by omega
    by_cases h2 : 131072 < n
    · rw [if_pos (.inr h2)]
      go_enter Try.func49, Try.ntmps49
      go_wp2
      go_ret
      exact ⟨rfl, rfl⟩
    · have h2' : n ≤ 131072 := by omega
      rw [if_neg (by omega)]
      clear h1 h2
      have HB := Lib.hid (code_between n w (by omega) (by omega))
      obtain ⟨k, hk⟩ : ∃ k, k = (n + 63) / 64 := ⟨_, rfl⟩
      have hk1 : 0 ≤ k ∧ k ≤ 2048 := by omega
      rw [← hk] at HB ⊢
      clear hk
      go_enter Try.func49, Try.ntmps49
      go_wp2_with (go_at_call 72; refine HB.out.mono ?_; rintro e w1 ⟨rfl, rfl⟩)
      go_ret
      exact ⟨rfl, rfl⟩
theorem ref_need (n : Int) (w : World) : Calls Try.prog 42 #[.int .i64 n] w fun e w' => e = .returned (.int .i64 (needV n)) ∧ w = w' := by
  unfold needV
  by_cases h1 : n < 1
  · rw [if_pos (.inl h1)]
    go_enter Try.func42, Try.ntmps42
    go_wp2
    go_ret
    exact ⟨rfl, rfl⟩
  · have h1' : 1 ≤ n := by omega
    by_cases h2 : 131072 < n
    · rw [if_pos (.inr h2)]
      go_enter Try.func42, Try.ntmps42
      go_wp2
      go_ret
      exact ⟨rfl, rfl⟩
    · have h2' : n ≤ 131072 := by omega
      rw [if_neg (by omega), show n + 63 = n + 64 - 1 by omega]
      clear h1 h2
      go_enter Try.func42, Try.ntmps42
      go_wp2
      go_ret
      exact ⟨rfl, rfl⟩
/-- a head's number and length are right -/
def headOk (s n : Int) : Bool := seqOk s && decide (0 < needV n)
def headV (s n u : Int) : Value := .agg #[.int .i64 s, .int .i64 n, .int .u32 u]
theorem code_isHead (s n u : Int) (w : World) : Calls Try.prog 70 #[headV s n u] w fun e w' => e = .returned (.bool (headOk s n)) ∧ Below w.heap.size w w' := by
  have HS : Hid (∀ o, Calls Try.prog 87 #[.int .i64 s] (w.alloc o) fun e w' => e = .returned (.bool (seqOk s)) ∧ w.alloc o = w') := Lib.hid (fun o => code_isSeq s _)
  have HN : Hid (∀ o, Calls Try.prog 49 #[.int .i64 n] (w.alloc o) fun e w' => e = .returned (.int .i64 (needV n)) ∧ w.alloc o = w') := Lib.hid (fun o => code_need n _)
  have HB : Hid (∀ o, Below w.heap.size w (w.alloc o)) := Lib.hid (fun o => (Below.refl _ _).alloc (Nat.le_refl _) o)
  obtain ⟨b, hb⟩ : ∃ b, b = seqOk s := ⟨_, rfl⟩
  obtain ⟨k, hk⟩ : ∃ k, k = needV n := ⟨_, rfl⟩
  unfold headOk headV
  rw [← hb] at HS ⊢
  rw [← hk] at HN ⊢
  clear hb hk
  cases b
  · go_enter Try.func70, Try.ntmps70
    go_wp2_with (first
      | (go_at_call 87; refine (HS.out _).mono ?_; rintro e w1 ⟨rfl, rfl⟩))
    go_ret
    exact ⟨rfl, HB.out _⟩
  · go_enter Try.func70, Try.ntmps70
    go_wp2_with (first
      | (go_at_call 87; refine (HS.out _).mono ?_; rintro e w1 ⟨rfl, rfl⟩)
      | (go_at_call 49; refine (HN.out _).mono ?_; rintro e w2 ⟨rfl, rfl⟩))
    go_ret
    exact ⟨by simp, HB.out _⟩
end Go.Proofs.Ytfjejiapafdgeaa

namespace Go.Proofs.Ytfjejiapafdgeaa.Crc
set_option maxRecDepth 100000

abbrev Reg := BitVec 32

def poly : Reg := 0xEDB88320

/-- a register, gone on by a bit that is 0 -/
def step (x : Reg) : Reg := (x >>> 1) ^^^ (if x.getLsbD 0 then poly else 0#32)

def steps : Nat → Reg → Reg
  | 0, x => x
  | n + 1, x => steps n (step x)

theorem step_xor (a b : Reg) : step (a ^^^ b) = step a ^^^ step b := by
  unfold step
  rw [BitVec.ushiftRight_xor_distrib, BitVec.getLsbD_xor]
  have h2 : (if (a.getLsbD 0 ^^ b.getLsbD 0) = true then poly else 0#32) = (if a.getLsbD 0 = true then poly else 0#32) ^^^ (if b.getLsbD 0 = true then poly else 0#32) := by
    cases a.getLsbD 0 <;> cases b.getLsbD 0 <;> simp
  rw [h2]
  ac_rfl

theorem steps_xor (n : Nat) : ∀ a b : Reg, steps n (a ^^^ b) = steps n a ^^^ steps n b := by
  induction n with
  | zero => intros; rfl
  | succ n ih => intro a b; simp only [steps, step_xor, ih]

theorem step_zero : step 0#32 = 0#32 := by decide
theorem steps_zero (n : Nat) : steps n 0#32 = 0#32 := by
  induction n with
  | zero => rfl
  | succ n ih => simp only [steps, step_zero, ih]

theorem steps_add (m n : Nat) : ∀ x : Reg, steps (m + n) x = steps n (steps m x) := by
  induction m with
  | zero => intro x; simp [steps]
  | succ m ih => intro x; rw [Nat.succ_add]; simp only [steps, ih]

/-- only nothing becomes nothing -/
theorem step_eq_zero {x : Reg} (h : step x = 0#32) : x = 0#32 := by
  unfold step at h
  by_cases hb : x.getLsbD 0 = true
  · have h31 := congrArg (fun y : Reg => y.getLsbD 31) h
    simp [hb, poly] at h31
  · rw [if_neg hb] at h
    simp only [BitVec.xor_zero] at h
    apply BitVec.eq_of_getLsbD_eq
    intro i hi
    rcases i with _ | i
    · simpa using hb
    · have := congrArg (fun y : Reg => y.getLsbD i) h
      simp at this
      rw [Nat.add_comm] at this
      simpa using this
theorem steps_eq_zero (n : Nat) : ∀ {x : Reg}, steps n x = 0#32 → x = 0#32 := by
  induction n with
  | zero => intro x h; exact h
  | succ n ih => intro x h; exact step_eq_zero (ih h)
theorem steps_inj (n : Nat) {x y : Reg} (h : steps n x = steps n y) : x = y := by
  have : steps n (x ^^^ y) = 0#32 := by rw [steps_xor, h, BitVec.xor_self]
  have := steps_eq_zero n this
  have h2 : x ^^^ y ^^^ y = 0#32 ^^^ y := by rw [this]
  rwa [BitVec.xor_assoc, BitVec.xor_self, BitVec.xor_zero, BitVec.zero_xor] at h2

/-- a register, gone on by a byte -/
def byte (x : Reg) (c : BitVec 8) : Reg := steps 8 (x ^^^ c.setWidth 32)
def bytes (x : Reg) (l : List (BitVec 8)) : Reg := l.foldl byte x

theorem bytes_append (x : Reg) (l m : List (BitVec 8)) : bytes x (l ++ m) = bytes (bytes x l) m := List.foldl_append ..
theorem byte_xor (x y : Reg) (c d : BitVec 8) : byte (x ^^^ y) (c ^^^ d) = byte x c ^^^ byte y d := by
  unfold byte
  rw [← steps_xor]
  congr 1
  rw [BitVec.setWidth_xor]
  ac_rfl
/-- of two texts of one length, the registers' difference is that of the texts' difference -/
theorem bytes_xor : ∀ (l m : List (BitVec 8)) (x y : Reg), l.length = m.length → bytes (x ^^^ y) (List.zipWith (· ^^^ ·) l m) = bytes x l ^^^ bytes y m := by
  intro l
  induction l with
  | nil => intro m x y h; cases m with
    | nil => rfl
    | cons _ _ => simp at h
  | cons c l ih =>
    intro m x y h
    cases m with
    | nil => simp at h
    | cons d m =>
      simp only [List.zipWith_cons_cons, bytes, List.foldl_cons]
      have := ih m (byte x c) (byte y d) (by simpa using h)
      unfold bytes at this
      rw [byte_xor, this]
theorem bytes_zeros (x : Reg) (n : Nat) : bytes x (List.replicate n 0#8) = steps (8 * n) x := by
  induction n generalizing x with
  | zero => rfl
  | succ n ih =>
    rw [List.replicate_succ]
    show bytes (byte x 0#8) _ = _
    rw [ih, show 8 * (n + 1) = 8 + 8 * n by omega, steps_add]
    unfold byte
    simp
/-- a text's register from x: that from 0, and x gone on by as many zeros -/
theorem bytes_from (x : Reg) (l : List (BitVec 8)) : bytes x l = steps (8 * l.length) x ^^^ bytes 0#32 l := by
  have := bytes_xor (List.replicate l.length 0#8) l x 0#32 (by simp)
  rw [bytes_zeros, BitVec.xor_zero] at this
  rw [← this]
  congr 1
  apply List.ext_getElem
  · simp
  · intro i h1 h2; simp

/-- the sum, gone on -/
def on (sum : Reg) (l : List (BitVec 8)) : Reg := bytes (sum ^^^ BitVec.allOnes 32) l ^^^ BitVec.allOnes 32
def sum (l : List (BitVec 8)) : Reg := on 0#32 l

theorem on_append (s : Reg) (l m : List (BitVec 8)) : on s (l ++ m) = on (on s l) m := by
  unfold on
  rw [bytes_append, BitVec.xor_assoc, BitVec.xor_self, BitVec.xor_zero]
/-- two sums, joined -/
theorem sum_append (l m : List (BitVec 8)) : sum (l ++ m) = steps (8 * m.length) (sum l) ^^^ sum m := by
  have h : sum (l ++ m) = on (sum l) m := by unfold sum; rw [on_append]
  rw [h]
  have e1 : on (sum l) m = steps (8 * m.length) (sum l ^^^ BitVec.allOnes 32) ^^^ bytes 0#32 m ^^^ BitVec.allOnes 32 := by unfold on; rw [bytes_from]
  have e2 : sum m = steps (8 * m.length) (0#32 ^^^ BitVec.allOnes 32) ^^^ bytes 0#32 m ^^^ BitVec.allOnes 32 := by unfold sum on; rw [bytes_from]
  rw [e1, e2, steps_xor, BitVec.zero_xor]
  ac_rfl

/-- four steps at once, by a table -/
theorem low4 (x : Reg) (i : Nat) : (x &&& 15#32).getLsbD i = (x.getLsbD i && decide (i < 4)) := by
  rw [BitVec.getLsbD_and]
  congr 1
  by_cases h : i < 4
  · have : i = 0 ∨ i = 1 ∨ i = 2 ∨ i = 3 := by omega
    rcases this with rfl | rfl | rfl | rfl <;> decide
  · simp only [h, decide_false]
    by_cases h32 : i < 32
    · have : ∀ j : Fin 32, ¬ j.val < 4 → (15#32).getLsbD j.val = false := by decide
      exact this ⟨i, h32⟩ h
    · exact BitVec.getLsbD_of_ge _ _ (by omega)
theorem step_shift {x : Reg} (h : x.getLsbD 0 = false) : step x = x >>> 1 := by unfold step; rw [h]; simp
theorem steps4_high {x : Reg} (h : ∀ i, i < 4 → x.getLsbD i = false) : steps 4 x = x >>> 4 := by
  have h1 := step_shift (h 0 (by omega))
  have h2 : step (x >>> 1) = x >>> 2 := by
    rw [step_shift (by simpa using h 1 (by omega)), ← BitVec.shiftRight_add]
  have h3 : step (x >>> 2) = x >>> 3 := by
    rw [step_shift (by simpa using h 2 (by omega)), ← BitVec.shiftRight_add]
  have h4 : step (x >>> 3) = x >>> 4 := by
    rw [step_shift (by simpa using h 3 (by omega)), ← BitVec.shiftRight_add]
  simp only [steps, h1, h2, h3, h4]
theorem steps4 (x : Reg) : steps 4 x = (x >>> 4) ^^^ steps 4 (x &&& 15#32) := by
  have h : x = (x ^^^ (x &&& 15#32)) ^^^ (x &&& 15#32) := by rw [BitVec.xor_assoc, BitVec.xor_self, BitVec.xor_zero]
  have hh : ∀ i, i < 4 → (x ^^^ (x &&& 15#32)).getLsbD i = false := fun i hi => by
    rw [BitVec.getLsbD_xor, low4]; simp [hi]
  have hs : (x ^^^ (x &&& 15#32)) >>> 4 = x >>> 4 := by
    apply BitVec.eq_of_getLsbD_eq
    intro i hi
    rw [BitVec.getLsbD_ushiftRight, BitVec.getLsbD_ushiftRight, BitVec.getLsbD_xor, low4]
    have : decide (4 + i < 4) = false := decide_eq_false (by omega)
    rw [this, Bool.and_false, Bool.xor_false]
  conv => lhs; rw [h]
  rw [steps_xor, steps4_high hh, hs]

/-- thirty-two bits that come one behind the other are as if they all came at once -/
theorem steps_small (k : Nat) : ∀ x : Reg, (∀ i, i < k → x.getLsbD i = false) → steps k x = x >>> k := by
  induction k with
  | zero => intro x _; rfl
  | succ k ih =>
    intro x h
    simp only [steps]
    rw [step_shift (h 0 (by omega)), ih _ (fun i hi => by simpa [Nat.add_comm] using h (i + 1) (by omega)), ← BitVec.shiftRight_add, Nat.add_comm]

/-- a bit, turned at some place of a text of bits -/
def bits (x : Reg) : List Bool → Reg
  | [] => x
  | b :: l => bits (step (x ^^^ (if b then 1#32 else 0#32))) l
theorem bits_append (l m : List Bool) : ∀ x : Reg, bits x (l ++ m) = bits (bits x l) m := by
  induction l with
  | nil => intro x; rfl
  | cons b l ih => intro x; exact ih _
theorem bits_zeros (n : Nat) : ∀ x : Reg, bits x (List.replicate n false) = steps n x := by
  induction n with
  | zero => intro x; rfl
  | succ n ih => intro x; simp only [List.replicate_succ, bits, steps]; rw [ih]; simp
/-- the first k bits of a word -/
def word (t : Reg) : Nat → List Bool
  | 0 => []
  | k + 1 => t.getLsbD 0 :: word (t >>> 1) k
theorem bits_word (k : Nat) : ∀ x t : Reg, (∀ i, k ≤ i → t.getLsbD i = false) → bits x (word t k) = steps k (x ^^^ t) := by
  induction k with
  | zero =>
    intro x t h
    have : t = 0#32 := BitVec.eq_of_getLsbD_eq (fun i _ => by simpa using h i (Nat.zero_le _))
    rw [this, BitVec.xor_zero]; rfl
  | succ k ih =>
    intro x t h
    simp only [word, bits, steps]
    rw [ih _ _ (fun i hi => by simpa [Nat.add_comm] using h (i + 1) (by omega))]
    congr 1
    have e : t = (if t.getLsbD 0 then 1#32 else 0#32) ^^^ (t ^^^ (if t.getLsbD 0 then 1#32 else 0#32)) := by
      rw [BitVec.xor_comm t, ← BitVec.xor_assoc, BitVec.xor_self, BitVec.zero_xor]
    have hz : (t ^^^ (if t.getLsbD 0 then 1#32 else 0#32)).getLsbD 0 = false := by
      rw [BitVec.getLsbD_xor]; cases t.getLsbD 0 <;> decide
    have hs : (t ^^^ (if t.getLsbD 0 then 1#32 else 0#32)) >>> 1 = t >>> 1 := by
      rw [BitVec.ushiftRight_xor_distrib]
      have : (if t.getLsbD 0 = true then 1#32 else 0#32) >>> 1 = 0#32 := by cases t.getLsbD 0 <;> decide
      rw [this, BitVec.xor_zero]
    rw [show x ^^^ t = (x ^^^ (if t.getLsbD 0 then 1#32 else 0#32)) ^^^ (t ^^^ (if t.getLsbD 0 then 1#32 else 0#32)) by
      rw [BitVec.xor_assoc]; congr 1]
    rw [step_xor (x ^^^ _), step_shift hz, hs]
/-- a burst is never lost: bits turned within 32 side by side leave something -/
theorem burst {t : Reg} (ht : t ≠ 0#32) (m n : Nat) : bits 0#32 (List.replicate m false ++ word t 32 ++ List.replicate n false) ≠ 0#32 := by
  rw [bits_append, bits_append, bits_zeros m, steps_zero, bits_word 32 _ _ (fun i hi => BitVec.getLsbD_of_ge _ _ hi), BitVec.zero_xor, bits_zeros]
  intro h
  exact ht (steps_eq_zero 32 (steps_eq_zero n h))
/-- a byte's bits, its lowest first -/
def bitsOf (c : BitVec 8) : List Bool := (List.range 8).map c.getLsbD
theorem byte_bits (x : Reg) (c : BitVec 8) : byte x c = bits x (bitsOf c) := by
  have : bitsOf c = word (c.setWidth 32) 8 := by
    unfold bitsOf
    simp only [word, List.range, List.range.loop, List.map]
    simp
  rw [this, bits_word]
  · rfl
  · intro i hi
    rw [BitVec.getLsbD_setWidth, BitVec.getLsbD_of_ge c i hi]
    simp
theorem bytes_bits (l : List (BitVec 8)) : ∀ x : Reg, bytes x l = bits x (l.flatMap bitsOf) := by
  induction l with
  | nil => intro x; rfl
  | cons c l ih =>
    intro x
    show bytes (byte x c) l = _
    rw [ih, List.flatMap_cons, bits_append, byte_bits]
end Go.Proofs.Ytfjejiapafdgeaa.Crc
