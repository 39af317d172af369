/- What is written, or read, as it comes in; whether it is light; one more put, and its bytes by the document. -/
import Derived.Test.YtjcjnokpbhmmiaaBlobLives
namespace Go.Proofs.Ytjcjnokpbhmmiaa
open Go.RowKit
set_option maxRecDepth 100000

structure OpV where
  k : Int
  n : Int
  s : ByteArray
  b : Bool
def opV (o : OpV) : Value := .agg #[.int .i64 o.k, .int .i64 o.n, .string o.s, .bool o.b]
/-- its numbers and its text have the sizes that a value has -/
def Good (o : OpV) : Prop := -9223372036854775808 ≤ o.n ∧ o.n ≤ 9223372036854775807 ∧ o.s.size ≤ 9223372036854775807
def Ops (w : World) (A : Option Addr) (L : List OpV) : Prop :=
  ∀ i (h : i < L.length), ∃ b off, A = some ⟨b, off, none⟩ ∧ b < w.heap.size ∧ w.cell? ⟨b, off + i * 4, none⟩ = some (.int .i64 L[i].k) ∧ w.cell? ⟨b, off + i * 4 + 1, none⟩ = some (.int .i64 L[i].n) ∧
    w.cell? ⟨b, off + i * 4 + 2, none⟩ = some (.string L[i].s) ∧ w.cell? ⟨b, off + i * 4 + 3, none⟩ = some (.bool L[i].b) ∧ Good L[i]
theorem Ops.below {w w' : World} {A : Option Addr} {L : List OpV} (h : Ops w A L) (hb : Below w.heap.size w w') : Ops w' A L := fun i hi => by
  obtain ⟨b, off, e, hl, h0, h1, h2, h3, hg⟩ := h i hi
  exact ⟨b, off, e, Nat.lt_of_lt_of_le hl hb.size, (hb.cell hl).trans h0, (hb.cell hl).trans h1, (hb.cell hl).trans h2, (hb.cell hl).trans h3, hg⟩

/-- the bytes of what is written -/
def docO (o : OpV) : Option Text := if o.k = 0 then docN o.n else if o.k = 1 then docS o.s else some (flagT o.b)
theorem docO_len (o : OpV) (h : Good o) : ((docO o).getD []).length ≤ 70000 := by
  unfold docO
  by_cases h0 : o.k = 0
  · rw [if_pos h0]; exact docN_len o.n h.1 h.2.1
  · rw [if_neg h0]
    by_cases h1 : o.k = 1
    · rw [if_pos h1]; exact docS_len o.s
    · rw [if_neg h1]; simp only [Option.getD_some, flag_len]; omega

set_option maxHeartbeats 2000000 in
theorem law_put (o : OpV) (w : World) (B g : Nat) (S : Option Text) (v : Value) (hw : Wrt w B g S v) (hB : B ≤ w.heap.size) (ho : Good o) (hS : (S.getD []).length ≤ 140737488000000) :
    Calls Try.prog 23 #[.pointer (some ⟨g, 0, none⟩), opV o] w (Put w B g S v (docO o)) := by
  obtain ⟨k, n, s, b⟩ := o
  obtain ⟨h1, h2, h3⟩ := ho
  have hb : ∀ o, Below w.heap.size w (w.alloc o) := fun o => (Below.refl _ _).alloc (Nat.le_refl _) o
  by_cases h0 : k = 0
  · have HC : Hid (∀ o, Calls Try.prog 39 #[.pointer (some ⟨g, 0, none⟩), .int .i64 n] (w.alloc o) (Put w B g S v (docO ⟨k, n, s, b⟩))) := Lib.hid (fun o => by
      have : docO ⟨k, n, s, b⟩ = docN n := if_pos h0
      rw [this]
      exact (code_wnum n (w.alloc o) B g S v (hw.below (hb o)) (Nat.le_trans hB (hb o).size) h1 h2 hS).mono fun e w' h => h.later (hb o))
    subst h0
    unfold opV
    clear h1 h2 h3 hS hw hb
    go_enter Try.func23, Try.ntmps23
    go_wp2_with (go_at_call 39; refine (HC.out _).mono ?_; rintro e w2 hput; obtain ⟨rfl, hput2⟩ := id hput; have HQ := Lib.hid hput; clear hput hput2)
    go_ret
    exact HQ.out
  · by_cases h01 : k = 1
    · have HC : Hid (∀ o, Calls Try.prog 40 #[.pointer (some ⟨g, 0, none⟩), .string s] (w.alloc o) (Put w B g S v (docO ⟨k, n, s, b⟩))) := Lib.hid (fun o => by
        have : docO ⟨k, n, s, b⟩ = docS s := (if_neg h0).trans (if_pos h01)
        rw [this]
        exact (code_wtext s (w.alloc o) B g S v (hw.below (hb o)) (Nat.le_trans hB (hb o).size) h3 hS).mono fun e w' h => h.later (hb o))
      subst h01
      unfold opV
      clear h1 h2 h3 hS hw hb h0
      go_enter Try.func23, Try.ntmps23
      go_wp2_with (go_at_call 40; refine (HC.out _).mono ?_; rintro e w2 hput; obtain ⟨rfl, hput2⟩ := id hput; have HQ := Lib.hid hput; clear hput hput2)
      go_ret
      exact HQ.out
    · have HC : Hid (∀ o, Calls Try.prog 48 #[.pointer (some ⟨g, 0, none⟩), .bool b] (w.alloc o) (Put w B g S v (docO ⟨k, n, s, b⟩))) := Lib.hid (fun o => by
        have : docO ⟨k, n, s, b⟩ = some (flagT b) := (if_neg h0).trans (if_neg h01)
        rw [this]
        exact (code_wflag b (w.alloc o) B g S v (hw.below (hb o)) (Nat.le_trans hB (hb o).size) hS).mono fun e w' h => h.later (hb o))
      have e0 : (k == 0) = false := by simpa using h0
      have e1 : (k == 1) = false := by simpa using h01
      unfold opV
      clear h1 h2 h3 hS hw hb h0 h01
      go_enter Try.func23, Try.ntmps23
      go_wp2_with (go_at_call 48; refine (HC.out _).mono ?_; rintro e w2 hput; obtain ⟨rfl, hput2⟩ := id hput; have HQ := Lib.hid hput; clear hput hput2)
      go_ret
      exact HQ.out

/-- is it light: the texts from there on, behind so many bytes -/
def lightF : List OpV → Nat → Bool
  | [], _ => true
  | o :: l, n => if 262144 < n + min o.s.size 131072 then false else lightF l (n + min o.s.size 131072)
def light (L : List OpV) : Bool := lightF L 0 && decide (L.length ≤ 100)
set_option maxRecDepth 100000 in
set_option maxHeartbeats 2000000 in
theorem law_light (L : List OpV) (A : Option Addr) (cap : Nat) (w : World) (hm : L.length ≤ 9223372036854775807) (hO : Ops w A L) :
    Calls Try.prog 21 #[.slice A L.length cap] w fun e w' => e = .returned (.bool (light L)) ∧ Below w.heap.size w w' := by
  have HO := Lib.hid hO
  clear hO
  go_enter Try.func21, Try.ntmps21
  go_wp2
  go_loopw [3, 8] (fun s i wr => ∃ k n : Nat, k ≤ L.length ∧ n ≤ 262144 ∧ i = .int .i64 k ∧ s = .int .i64 n ∧ Hid (lightF (L.drop k) n = lightF L 0) ∧ Hid (Below w.heap.size w wr)) (fun _ i _ => L.length - (intOf i).toNat)
  case atStart => exact ⟨0, 0, Nat.zero_le _, by omega, rfl, rfl, Lib.hid rfl, Lib.hid (Below.refl _ _)⟩
  case round =>
    obtain ⟨k, n, hk, hn, rfl, rfl, HL, HB⟩ := hrel
    by_cases hlt : k < L.length
    · obtain ⟨b, off, rfl, hbl, c0, c1, c2, c3, hg⟩ := HO.out.below HB.out k hlt
      have HD := Lib.hid (List.drop_eq_getElem_cons hlt)
      obtain ⟨o, ho⟩ : ∃ o, o = L[k] := ⟨_, rfl⟩
      rw [← ho] at c0 c1 c2 c3 HD hg
      have hsz := hg.2.2
      obtain ⟨q, hq⟩ : ∃ q, q = min o.s.size 131072 := ⟨_, rfl⟩
      have eq : min ((o.s.size : Nat) : Int) 131072 = (q : Int) := by omega
      have hq2 : (q : Int) ≤ 131072 := by omega
      have HQ := Lib.hid hq
      clear ho hg hq
      by_cases hov : 262144 < n + q
      · have HF : Hid (light L = false) := Lib.hid (by
          unfold light
          rw [← HL.out, HD.out, lightF, ← HQ.out, if_pos hov]; rfl)
        have hov2 : 262144 < (n : Int) + (q : Int) := by omega
        go_wp2
        go_ret
        exact ⟨ret_bool HF.out.symm, HB.out.alloc HB.out.size _⟩
      · have HL2 : Hid (lightF (L.drop (k + 1)) (n + q) = lightF L 0) := Lib.hid (by
          rw [← HL.out, HD.out, lightF, ← HQ.out, if_neg hov])
        have hov2 : (n : Int) + (q : Int) ≤ 262144 := by omega
        go_wp2
        go_roundw
        case rel => exact ⟨k + 1, n + q, by omega, by omega, by go_num, by go_num, HL2, Lib.hid (HB.out.alloc HB.out.size _)⟩
        case measure => simp [intOf]; omega
    · obtain rfl : k = L.length := by omega
      have HF : Hid (light L = decide ((L.length : Int) ≤ 100)) := Lib.hid (by
        unfold light
        rw [← HL.out, List.drop_length, lightF, Bool.true_and]
        rw [Bool.eq_iff_iff]
        simp only [decide_eq_true_eq]
        omega)
      go_wp2
      go_ret
      exact ⟨ret_bool HF.out.symm, HB.out⟩
end Go.Proofs.Ytjcjnokpbhmmiaa
