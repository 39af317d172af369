/- What a writer's calls leave; its bytes told; the statements' example. -/
import Derived.Test.YtjcjnokpbhmmiaaBlobWriter
namespace Go.Proofs.Ytjcjnokpbhmmiaa
open Go.RowKit
set_option maxRecDepth 100000

/-- a number's bytes; the least has none -/
def docN (n : Int) : Option Text := if n = -9223372036854775808 then none else some (if n < 0 then Blob.numT 128 (-n).toNat else Blob.numT 0 n.toNat)
/-- a text's bytes; too long a one has none -/
def docS (s : ByteArray) : Option Text := if 65536 < s.size then none else some (textT s)
/-- what a call for bytes leaves -/
def Doc (w : World) (d : Option Text) (e : Ending) (w' : World) : Prop := match d with
  | some l => MadeB w l e w'
  | none => e = .returned (.tuple #[.slice none 0 0, .bool false]) ∧ w = w'

theorem code_numD (n : Int) (w : World) (h1 : -9223372036854775808 ≤ n) (h2 : n ≤ 9223372036854775807) : Calls Try.prog 66 #[.int .i64 n] w (Doc w (docN n)) := by
  unfold docN
  by_cases h : n = -9223372036854775808
  · rw [if_pos h, h]; exact code_num_min w
  · rw [if_neg h]
    by_cases h0 : n < 0
    · rw [if_pos h0]
      have := code_num_neg (-n).toNat w (by omega) (by omega)
      rw [show -(((-n).toNat : Nat) : Int) = n by omega] at this
      exact this
    · rw [if_neg h0]
      have := code_num_pos n.toNat w (by omega)
      rw [show ((n.toNat : Nat) : Int) = n by omega] at this
      exact this
theorem code_textD (s : ByteArray) (w : World) (h : s.size ≤ 9223372036854775807) : Calls Try.prog 67 #[.string s] w (Doc w (docS s)) := by
  unfold docS
  by_cases h0 : 65536 < s.size
  · rw [if_pos h0]; exact code_text_no s w h0 h
  · rw [if_neg h0]; exact code_text s w (by omega)
theorem docN_len (n : Int) (h1 : -9223372036854775808 ≤ n) (h2 : n ≤ 9223372036854775807) : ((docN n).getD []).length ≤ 70000 := by
  unfold docN
  by_cases h : n = -9223372036854775808
  · rw [if_pos h]; simp
  · rw [if_neg h]
    by_cases h0 : n < 0
    · rw [if_pos h0]; have := num_len 128 (-n).toNat (by omega); simp only [Option.getD_some]; omega
    · rw [if_neg h0]; have := num_len 0 n.toNat (by omega); simp only [Option.getD_some]; omega
theorem docS_len (s : ByteArray) : ((docS s).getD []).length ≤ 70000 := by
  unfold docS
  by_cases h0 : 65536 < s.size
  · rw [if_pos h0]; simp
  · rw [if_neg h0]
    have := num_len 0 s.size (by omega)
    simp only [Option.getD_some, textT, List.length_append, strT_length]; omega

theorem Put.later {w w1 w' : World} {B g : Nat} {S d : Option Text} {v : Value} {e : Ending} (h : Put w1 B g S v d e w') (hb : Below w.heap.size w w1) : Put w B g S v d e w' := by
  obtain ⟨h1, v', h2, h3, h4⟩ := h
  refine ⟨h1, v', h2, (Chg.of_below hb).trans h3, ?_⟩
  rcases h4 with h | h | ⟨k, h, hk⟩
  · exact .inl h
  · exact .inr (.inl h)
  · exact .inr (.inr ⟨k, h, Nat.le_trans hb.size hk⟩)
/-- whatever bytes there are, or none, a writer puts them so -/
theorem put_any (w : World) (B g : Nat) (S : Option Text) (v : Value) (l : Text) (A : Option Addr) (c : Nat) (hw : Wrt w B g S v) (hB : B ≤ w.heap.size) (hT : Txt w A l) (hA : A = none → l = []) (h63 : (S.getD []).length + l.length ≤ 140737488355328) :
    Calls Try.prog 65 #[.pointer (some ⟨g, 0, none⟩), .slice A l.length c, .bool true] w (Put w B g S v (some l)) := by
  cases S with
  | none => exact put_bad w B g none v A l.length c true hw (.inl rfl) (some l) rfl
  | some T => exact put_ok w B g T l v A c hw hB hT hA h63
theorem put_none (w : World) (B g : Nat) (S : Option Text) (v : Value) (hw : Wrt w B g S v) :
    Calls Try.prog 65 #[.pointer (some ⟨g, 0, none⟩), .slice none 0 0, .bool false] w (Put w B g S v none) :=
  put_bad w B g S v none 0 0 false hw (.inr rfl) none (by cases S <;> rfl)

set_option maxHeartbeats 1000000 in
theorem code_wnum (n : Int) (w : World) (B g : Nat) (S : Option Text) (v : Value) (hw : Wrt w B g S v) (hB : B ≤ w.heap.size) (h1 : -9223372036854775808 ≤ n) (h2 : n ≤ 9223372036854775807) (hS : (S.getD []).length ≤ 140737488000000) :
    Calls Try.prog 39 #[.pointer (some ⟨g, 0, none⟩), .int .i64 n] w (Put w B g S v (docN n)) := by
  have HC := code_numD n w h1 h2
  have hl := docN_len n h1 h2
  clear h1 h2
  cases hd : docN n with
  | none =>
    rw [hd] at HC
    have HC := Lib.hid HC
    have HP := Lib.hid (put_none w B g S v hw)
    clear hd hl hS hw
    go_enter Try.func39, Try.ntmps39
    go_wp2_with (first
      | (go_at_call 66; refine HC.out.mono ?_; rintro e w1 ⟨rfl, rfl⟩)
      | (go_at_call 65; refine HP.out.mono ?_; rintro e w2 hput; obtain ⟨rfl, hput2⟩ := id hput; have HQ := Lib.hid hput; clear hput hput2))
    go_ret
    exact HQ.out
  | some l =>
    rw [hd] at HC hl
    have HC := Lib.hid HC
    have HP : Hid (∀ w1 A c, Below w.heap.size w w1 → Txt w1 A l → (A = none → l = []) → Calls Try.prog 65 #[.pointer (some ⟨g, 0, none⟩), .slice A l.length c, .bool true] w1 (Put w B g S v (some l))) := Lib.hid (fun w1 A c hb hT hA =>
      (put_any w1 B g S v l A c (hw.below hb) (Nat.le_trans hB hb.size) hT hA (by simp only [Option.getD_some] at hl; omega)).mono fun e w' h => h.later hb)
    clear hd hl hS hw
    go_enter Try.func39, Try.ntmps39
    go_wp2_with (first
      | (go_at_call 66; refine HC.out.mono ?_; rintro e w1 ⟨g1, c1, rfl, ho1, hb1⟩; have HO1 := Lib.hid ho1; have HB1 := Lib.hid hb1; clear ho1 hb1)
      | (go_at_call 65; refine (HP.out w1 _ _ HB1.out (.of_own HO1.out) (by simp)).mono ?_; rintro e w2 hput; obtain ⟨rfl, hput2⟩ := id hput; have HQ := Lib.hid hput; clear hput hput2))
    go_ret
    exact HQ.out
set_option maxHeartbeats 1000000 in
theorem code_wtext (s : ByteArray) (w : World) (B g : Nat) (S : Option Text) (v : Value) (hw : Wrt w B g S v) (hB : B ≤ w.heap.size) (h1 : s.size ≤ 9223372036854775807) (hS : (S.getD []).length ≤ 140737488000000) :
    Calls Try.prog 40 #[.pointer (some ⟨g, 0, none⟩), .string s] w (Put w B g S v (docS s)) := by
  have HC := code_textD s w h1
  have hl := docS_len s
  clear h1
  cases hd : docS s with
  | none =>
    rw [hd] at HC
    have HC := Lib.hid HC
    have HP := Lib.hid (put_none w B g S v hw)
    clear hd hl hS hw
    go_enter Try.func40, Try.ntmps40
    go_wp2_with (first
      | (go_at_call 67; refine HC.out.mono ?_; rintro e w1 ⟨rfl, rfl⟩)
      | (go_at_call 65; refine HP.out.mono ?_; rintro e w2 hput; obtain ⟨rfl, hput2⟩ := id hput; have HQ := Lib.hid hput; clear hput hput2))
    go_ret
    exact HQ.out
  | some l =>
    rw [hd] at HC hl
    have HC := Lib.hid HC
    have HP : Hid (∀ w1 A c, Below w.heap.size w w1 → Txt w1 A l → (A = none → l = []) → Calls Try.prog 65 #[.pointer (some ⟨g, 0, none⟩), .slice A l.length c, .bool true] w1 (Put w B g S v (some l))) := Lib.hid (fun w1 A c hb hT hA =>
      (put_any w1 B g S v l A c (hw.below hb) (Nat.le_trans hB hb.size) hT hA (by simp only [Option.getD_some] at hl; omega)).mono fun e w' h => h.later hb)
    clear hd hl hS hw
    go_enter Try.func40, Try.ntmps40
    go_wp2_with (first
      | (go_at_call 67; refine HC.out.mono ?_; rintro e w1 ⟨g1, c1, rfl, ho1, hb1⟩; have HO1 := Lib.hid ho1; have HB1 := Lib.hid hb1; clear ho1 hb1)
      | (go_at_call 65; refine (HP.out w1 _ _ HB1.out (.of_own HO1.out) (by simp)).mono ?_; rintro e w2 hput; obtain ⟨rfl, hput2⟩ := id hput; have HQ := Lib.hid hput; clear hput hput2))
    go_ret
    exact HQ.out
theorem flag_len (b : Bool) : (flagT b).length = 1 := by cases b <;> rfl
set_option maxHeartbeats 1000000 in
theorem code_wflag (b : Bool) (w : World) (B g : Nat) (S : Option Text) (v : Value) (hw : Wrt w B g S v) (hB : B ≤ w.heap.size) (hS : (S.getD []).length ≤ 140737488000000) :
    Calls Try.prog 48 #[.pointer (some ⟨g, 0, none⟩), .bool b] w (Put w B g S v (some (flagT b))) := by
  have HC := Lib.hid (code_flag b w)
  obtain ⟨l, hl⟩ : ∃ l, l = flagT b := ⟨_, rfl⟩
  have hll : l.length = 1 := by rw [hl, flag_len]
  rw [← hl] at HC ⊢
  have HP : Hid (∀ w1 A c, Below w.heap.size w w1 → Txt w1 A l → (A = none → l = []) → Calls Try.prog 65 #[.pointer (some ⟨g, 0, none⟩), .slice A l.length c, .bool true] w1 (Put w B g S v (some l))) := Lib.hid (fun w1 A c hb hT hA =>
    (put_any w1 B g S v l A c (hw.below hb) (Nat.le_trans hB hb.size) hT hA (by omega)).mono fun e w' h => h.later hb)
  clear hl hS hw hll
  go_enter Try.func48, Try.ntmps48
  go_wp2_with (first
    | (go_at_call 74; refine HC.out.mono ?_; rintro e w1 ⟨g1, c1, rfl, ho1, hb1⟩; have HO1 := Lib.hid ho1; have HB1 := Lib.hid hb1; clear ho1 hb1)
    | (go_at_call 65; refine (HP.out w1 _ _ HB1.out (.of_own HO1.out) (by simp)).mono ?_; rintro e w2 hput; obtain ⟨rfl, hput2⟩ := id hput; have HQ := Lib.hid hput; clear hput hput2))
  go_ret
  exact HQ.out
end Go.Proofs.Ytjcjnokpbhmmiaa
