/- A text's tokens: the program's Lex. -/
import Derived.Test.YtpapcnogbmjpjaaGreatDoorK5
import Derived.ScopeJumps
namespace Go.Proofs.YtpapcnogbmjpjaaGreatDoor
open Go.RowKit
set_option maxRecDepth 100000
set_option linter.unusedSimpArgs false
set_option linter.unusedVariables false

section
variable {P : Program} {a : Act} {w : World} {Q : Exit → Act → World → Prop} {J : Act → World → Prop}
/-- by a goto to the one label: what is asked there; else Q -/
def jump1 (J : Act → World → Prop) (Q : Exit → Act → World → Prop) : Exit → Act → World → Prop
  | .goto l, a, w => l = 0 ∧ J a w
  | e, a, w => Q e a w
theorem jump1_normal : jump1 J Q .normal a w = Q .normal a w := rfl
theorem jump1_exit (id : Nat) : jump1 J Q (.exit id) a w = Q (.exit id) a w := rfl
theorem jump1_ret : jump1 J Q .ret a w = Q .ret a w := rfl
theorem jump1_panic (ch : List PanicEntry) : jump1 J Q (.panic ch) a w = Q (.panic ch) a w := rfl
theorem wp_scope1f {B C X : Code} (R : Nat → Act → World → Prop) (h0 : findLabel (B.seq (C.seq ((Code.label 0).seq X))) 0 = some (Code.skip.seq X))
    (first : ∀ Z : Code, (∀ m a w, R m a w → Z.wp P (jump1 (fun a w => ∃ m, R m a w) Q) a w) → (B.seq (C.seq Z)).wp P (jump1 (fun a w => ∃ m, R m a w) Q) a w)
    (p : ∀ m a w, R m a w → X.wp P (jump1 (fun a' w' => ∃ m', m' < m ∧ R m' a' w') Q) a w) : (Code.scope (B.seq (C.seq ((Code.label 0).seq X)))).wp P Q a w := by
  have first' := first ((Code.label 0).seq X) fun m a w h => wp_seq (wp_label (wp_mono (p m a w h) fun e a w hq => by
    cases e with
    | goto l =>
      obtain ⟨e, m', _, h⟩ := hq
      exact ⟨e, m', h⟩
    | _ => exact hq))
  intro b k cs
  have hg : ∀ l rest, findLabel (B.seq (C.seq ((Code.label 0).seq X))) l = some rest → gotoIn l (.inScope (B.seq (C.seq ((Code.label 0).seq X))) :: k) = some (.code rest :: .inScope (B.seq (C.seq ((Code.label 0).seq X))) :: k) := fun l rest h => by simp [gotoIn, h]
  generalize B.seq (C.seq ((Code.label 0).seq X)) = c at h0 hg first' ⊢
  have key : ∀ m a w, R m a w → ∃ e a' w', Q e a' w' ∧ Arrives P (lone (b.at a (.code (Code.skip.seq X) :: .inScope c :: k)) cs w) b k cs e a' w' := by
    intro m
    induction m using Nat.strongRecOn with
    | _ m ih =>
      intro a w hR
      obtain ⟨e, a₁, w₁, hq, harr⟩ := (wp_seq (wp_skip (p m a w hR)) : (Code.skip.seq X).wp P _ a w) b (.inScope c :: k) cs
      cases e with
      | normal => exact ⟨.normal, a₁, w₁, hq, Steps.trans harr (.one step_inScope)⟩
      | exit id => exact ⟨.exit id, a₁, w₁, hq, fun k' hk => harr k' (by simp [exitTo, hk])⟩
      | goto l' =>
        obtain ⟨rfl, m', hlt, hR'⟩ := hq
        obtain ⟨e₂, a₂, w₂, hq₂, harr₂⟩ := ih m' hlt a₁ w₁ hR'
        exact ⟨e₂, a₂, w₂, hq₂, .of_steps (harr _ (hg 0 _ h0)) harr₂⟩
      | ret => exact ⟨_, a₁, w₁, hq, harr⟩
      | panic ch => exact ⟨_, a₁, w₁, hq, harr⟩
      | outgrown => exact ⟨_, a₁, w₁, hq, harr⟩
  obtain ⟨e, a₁, w₁, hq, harr⟩ := first' b (.inScope c :: k) cs
  cases e with
  | normal => exact ⟨.normal, a₁, w₁, hq, .head step_scope (Steps.trans harr (.one step_inScope))⟩
  | exit id => exact ⟨.exit id, a₁, w₁, hq, fun k' hk => .head step_scope (harr k' (by simp [exitTo, hk]))⟩
  | goto l' =>
    obtain ⟨rfl, m', hR'⟩ := hq
    obtain ⟨e₂, a₂, w₂, hq₂, harr₂⟩ := key m' a₁ w₁ hR'
    exact ⟨e₂, a₂, w₂, hq₂, .of_steps (.head step_scope (harr _ (hg 0 _ h0))) harr₂⟩
  | ret => exact ⟨_, a₁, w₁, hq, .of_steps (.one step_scope) harr⟩
  | panic ch => exact ⟨_, a₁, w₁, hq, .of_steps (.one step_scope) harr⟩
  | outgrown => exact ⟨_, a₁, w₁, hq, .of_steps (.one step_scope) harr⟩
end
/-- a text, token by token: the tokens, where the error is, its number -/
def lexM (s : ByteArray) : Nat → Nat → List TokV → List TokV × Nat × Int
  | 0, i, acc => (acc, 0, 0)
  | f + 1, i, acc =>
    if i < s.size then
      if isBb (bt s i) = true then lexM s f (i + 1) acc
      else if (bt s i).toNat = 35 then lexM s f (runE isRb s i) acc
      else match tokAt s i with
        | none => ([], i, 80)
        | some t => lexM s f (i + t.2.2.1.size) (acc ++ [t])
    else (acc, 0, 0)
def lexI (s : ByteArray) (i : Nat) (acc : List TokV) : List TokV × Nat × Int := lexM s (s.size - i) i acc
theorem rem_more {s : ByteArray} {i : Nat} (h : i < s.size) (hb : (bt s i).toNat = 35) : i + 1 ≤ runE isRb s i ∧ runE isRb s i ≤ s.size :=
  ⟨runE_more h (by unfold isRb; rw [hb]; decide), runE_le (by omega)⟩
theorem lexM_succ (s : ByteArray) (f i : Nat) (acc : List TokV) : lexM s (f + 1) i acc = if i < s.size then if isBb (bt s i) = true then lexM s f (i + 1) acc else if (bt s i).toNat = 35 then lexM s f (runE isRb s i) acc else match tokAt s i with | none => ([], i, 80) | some t => lexM s f (i + t.2.2.1.size) (acc ++ [t]) else (acc, 0, 0) := rfl
theorem lexM_zero (s : ByteArray) (i : Nat) (acc : List TokV) : lexM s 0 i acc = (acc, 0, 0) := rfl
theorem lexM_fuel {s : ByteArray} : ∀ f f' i acc, s.size - i ≤ f → s.size - i ≤ f' → lexM s f i acc = lexM s f' i acc
  | 0, 0, _, _, _, _ => rfl
  | 0, f' + 1, i, acc, h1, h2 => by
    rw [lexM_zero, lexM_succ, if_neg (by omega)]
  | f + 1, 0, i, acc, h1, h2 => by
    rw [lexM_zero, lexM_succ, if_neg (by omega)]
  | f + 1, f' + 1, i, acc, h1, h2 => by
    rw [lexM_succ, lexM_succ]
    by_cases hi : i < s.size
    · rw [if_pos hi, if_pos hi]
      by_cases hb : isBb (bt s i) = true
      · rw [if_pos hb, if_pos hb]
        exact lexM_fuel f f' _ _ (by omega) (by omega)
      · rw [if_neg hb, if_neg hb]
        by_cases hr : (bt s i).toNat = 35
        · rw [if_pos hr, if_pos hr]
          have := rem_more hi hr
          exact lexM_fuel f f' _ _ (by omega) (by omega)
        · rw [if_neg hr, if_neg hr]
          cases ht : tokAt s i with
          | none => rfl
          | some t =>
            have := tok_len ht hi
            exact lexM_fuel f f' _ _ (by omega) (by omega)
    · rw [if_neg hi, if_neg hi]
section
variable {s : ByteArray} {i : Nat} {acc : List TokV}
theorem lexI_end (h : s.size ≤ i) : lexI s i acc = (acc, 0, 0) := by
  unfold lexI
  rw [show s.size - i = 0 by omega]
  rfl
theorem lexI_step (h : i < s.size) : lexI s i acc = if isBb (bt s i) = true then lexI s (i + 1) acc else if (bt s i).toNat = 35 then lexI s (runE isRb s i) acc else match tokAt s i with | none => ([], i, 80) | some t => lexI s (i + t.2.2.1.size) (acc ++ [t]) := by
  unfold lexI
  rw [lexM_fuel (s.size - i) ((s.size - (i + 1)) + 1) i acc (Nat.le_refl _) (by omega)]
  rw [lexM_succ, if_pos h]
  by_cases hb : isBb (bt s i) = true
  · rw [if_pos hb, if_pos hb]
  · rw [if_neg hb, if_neg hb]
    by_cases hr : (bt s i).toNat = 35
    · rw [if_pos hr, if_pos hr]
      have := rem_more h hr
      exact lexM_fuel _ _ _ _ (by omega) (by omega)
    · rw [if_neg hr, if_neg hr]
      cases ht : tokAt s i with
      | none => rfl
      | some t =>
        have := tok_len ht h
        exact lexM_fuel _ _ _ _ (by omega) (by omega)
theorem lexI_blank (h : i < s.size) (hb : isBb (bt s i) = true) : lexI s i acc = lexI s (i + 1) acc := by rw [lexI_step h, if_pos hb]
theorem lexI_rem (h : i < s.size) (hr : (bt s i).toNat = 35) : lexI s i acc = lexI s (runE isRb s i) acc := by
  rw [lexI_step h, if_neg (by unfold isBb; rw [hr]; decide), if_pos hr]
theorem lexI_bad (h : i < s.size) (hb : isBb (bt s i) = false) (hr : (bt s i).toNat ≠ 35) (ht : tokAt s i = none) : lexI s i acc = ([], i, 80) := by
  rw [lexI_step h, if_neg (by rw [hb]; decide), if_neg hr, ht]
theorem lexI_tok {t : TokV} (h : i < s.size) (hb : isBb (bt s i) = false) (hr : (bt s i).toNat ≠ 35) (ht : tokAt s i = some t) : lexI s i acc = lexI s (i + t.2.2.1.size) (acc ++ [t]) := by
  rw [lexI_step h, if_neg (by rw [hb]; decide), if_neg hr, ht]
end
def lexV (s : ByteArray) : List TokV × Nat × Int := if 65536 < s.size then ([], 0, 11) else lexI s 0 []
/-- a frame of Lex at its label -/
def FrL (s : ByteArray) (v : Value) (G : Nat) (a : Act) : Prop := ∃ T : Nat → Value, a = ⟨#[.string s, undef, v, .int .i64 0, .int .i64 0, .int .i64 (G : Nat), T 6, T 7, T 8, T 9, T 10, T 11, T 12, T 13, T 14, T 15, T 16, T 17, T 18, T 19, T 20, T 21, T 22, T 23, T 24, T 25, T 26, T 27, T 28, T 29, T 30, T 31, T 32, T 33, T 34, T 35, T 36, T 37, T 38, T 39, T 40, T 41, T 42, T 43, T 44, T 45, T 46, T 47, T 48, T 49, T 50, T 51, T 52, T 53, T 54, T 55, T 56, T 57, T 58, T 59], []⟩
theorem FrL.of {s : ByteArray} {v : Value} {G : Nat} {tm : Array Value} (h : tm = #[.string s, undef, v, .int .i64 0, .int .i64 0, .int .i64 (G : Nat), tm.getD 6 undef, tm.getD 7 undef, tm.getD 8 undef, tm.getD 9 undef, tm.getD 10 undef, tm.getD 11 undef, tm.getD 12 undef, tm.getD 13 undef, tm.getD 14 undef, tm.getD 15 undef, tm.getD 16 undef, tm.getD 17 undef, tm.getD 18 undef, tm.getD 19 undef, tm.getD 20 undef, tm.getD 21 undef, tm.getD 22 undef, tm.getD 23 undef, tm.getD 24 undef, tm.getD 25 undef, tm.getD 26 undef, tm.getD 27 undef, tm.getD 28 undef, tm.getD 29 undef, tm.getD 30 undef, tm.getD 31 undef, tm.getD 32 undef, tm.getD 33 undef, tm.getD 34 undef, tm.getD 35 undef, tm.getD 36 undef, tm.getD 37 undef, tm.getD 38 undef, tm.getD 39 undef, tm.getD 40 undef, tm.getD 41 undef, tm.getD 42 undef, tm.getD 43 undef, tm.getD 44 undef, tm.getD 45 undef, tm.getD 46 undef, tm.getD 47 undef, tm.getD 48 undef, tm.getD 49 undef, tm.getD 50 undef, tm.getD 51 undef, tm.getD 52 undef, tm.getD 53 undef, tm.getD 54 undef, tm.getD 55 undef, tm.getD 56 undef, tm.getD 57 undef, tm.getD 58 undef, tm.getD 59 undef]) : FrL s v G ⟨tm, []⟩ := ⟨fun i => tm.getD i undef, by rw [← h]⟩
/-- what is told so far -/
structure LexW (w : World) (s : ByteArray) (Rf : List TokV × Nat × Int) (G : Nat) (acc : List TokV) (v : Value) (W : World) : Prop where
  le : G ≤ s.size
  few : acc.length ≤ G
  lex : lexI s G acc = Rf
  own : OwnTokV W w.heap.size v acc
  low : Below w.heap.size w W
def R0L (w : World) (s : ByteArray) (Rf : List TokV × Nat × Int) (x : Nat) (a : Act) (W : World) : Prop := ∃ G acc v, x = s.size - G ∧ FrL s v G a ∧ Hid (LexW w s Rf G acc v W)
theorem wrapL {a b : Nat} (h : a + b ≤ 1000000) : wrap64 ((a : Int) + (b : Int)) = ((a + b : Nat) : Int) := by unfold wrap64; omega
theorem own_lt {w : World} {B : Nat} {v : Value} {L : List TokV} (h : OwnTokV w B v L) : ∀ k, v.ownBlock = some k → B ≤ k ∧ k < w.heap.size := by
  intro k hk
  rcases h.2 with ⟨rfl, _⟩ | ⟨g, c, cur, rfl, hB, hh, _⟩
  · cases hk
  · injection hk with hk
    subst hk
    exact ⟨hB, heapLt hh⟩
attribute [local go_sem] jump1_normal jump1_exit jump1_ret jump1_panic
set_option maxHeartbeats 400000 in
theorem code_lex_long (s : ByteArray) (w : World) (h : 65536 < s.size) : Calls Tryz.prog 27 #[.string s] w fun e w' => e = .returned (.tuple #[.slice none 0 0, .int .i64 0, .int .i64 11]) ∧ w = w' := by
  have h' : (65536 : Int) < (s.size : Int) := by omega
  go_enter Tryz.func27, Tryz.ntmps27
  go_wp2
  refine wp_scope_straight ?_
  go_wp2
  unfold Exit.noGoto
  dsimp only
  go_ret3
  exact ⟨rfl, rfl⟩
set_option maxHeartbeats 8000000 in
theorem code_lex (s : ByteArray) (w : World) (h : s.size ≤ 65536) :
    Calls Tryz.prog 27 #[.string s] w fun e w' => ∃ v, e = .returned (.tuple #[v, .int .i64 ((lexI s 0 []).2.1 : Nat), .int .i64 (lexI s 0 []).2.2]) ∧ OwnTokV w' w.heap.size v (lexI s 0 []).1 ∧ Below w.heap.size w w' := by
  have h' : (s.size : Int) ≤ 65536 := by omega
  obtain ⟨Rf, hRf⟩ : ∃ Rf, Rf = lexI s 0 [] := ⟨_, rfl⟩
  rw [← hRf]
  have HRf := Lib.hid hRf.symm
  have HSz := Lib.hid h
  clear hRf h
  go_enter Tryz.func27, Tryz.ntmps27
  go_wp2
  refine wp_scope1f (R0L w s Rf) rfl ?first ?pass
  case first =>
    intro Z hZ
    have HZ := Lib.hid hZ
    clear hZ
    go_wp2
    refine HZ.out _ _ _ ⟨0, [], .slice none 0 0, rfl, FrL.of (by kernel_rfl), Lib.hid ⟨Nat.zero_le _, Nat.le_refl _, HRf.out, OwnTokV.nil _ _, Below.refl _ _⟩⟩
  case pass =>
    rintro x a W ⟨G, acc, v, rfl, hfr, HE⟩
    obtain ⟨T, rfl⟩ := hfr
    clear h' HRf
    have hG : (G : Int) ≤ (s.size : Int) := by have := HE.out.le; omega
    obtain ⟨t, ht⟩ : ∃ t, t = s.extract G s.size := ⟨_, rfl⟩
    have HT : Hid (t = s.extract G s.size ∧ t.size = s.size - G) := Lib.hid ⟨ht, by rw [ht]; exact ext_size HE.out.le (Nat.le_refl _)⟩
    go_wp2
    rw [← ht]
    clear ht hG
    go_loopw [2, 3, 4, 5, 6, 7] (fun v2 v3 v4 v5 v6 v7 wr => ∃ i : Nat, v = v2 ∧ v3 = .int .i64 0 ∧ v4 = .int .i64 0 ∧ v5 = .int .i64 (G : Nat) ∧ Hid (i ≤ t.size ∧ lexI s (G + i) acc = Rf) ∧ wr = W.iter t i) (fun _ _ _ _ _ _ wr => t.size - wr.iterPos W.heap.size)
    case atStart => exact ⟨0, rfl, rfl, rfl, rfl, Lib.hid ⟨Nat.zero_le _, HE.out.lex⟩, rfl⟩
    case round =>
      obtain ⟨i, rfl, rfl, rfl, rfl, HI, rfl⟩ := hrel
      have HBi : Hid (Below W.heap.size W (W.iter t i)) := Lib.hid (below_alloc _ _)
      by_cases hp : i < t.size
      · have hz := HT.out.2
        have HP : Hid (G + i < s.size ∧ i < t.size ∧ bt t i = bt s (G + i)) := Lib.hid ⟨by omega, hp, by rw [HT.out.1]; exact bt_ext (by omega) (Nat.le_refl _)⟩
        have hrune : ∃ r wd : Nat, Utf8.decode t i = (r, wd) ∧ RuneOf r (bt s (G + i)) ∧ 1 ≤ wd ∧ i + wd ≤ t.size ∧ ((bt s (G + i)).toNat < 128 → wd = 1) := by
          rw [← HP.out.2.2]
          by_cases hb : (bt t i).toNat < 128
          · exact ⟨_, 1, dec_low hp hb, ⟨fun _ => rfl, fun h => absurd hb (by omega)⟩, Nat.le_refl _, hp, fun _ => rfl⟩
          · obtain ⟨q1, q2, q3, q4⟩ := dec_high hp (by omega)
            exact ⟨_, _, rfl, ⟨fun h => absurd h hb, fun _ => q1⟩, q2, q3, fun h => absurd h hb⟩
        obtain ⟨r, wd, hd, hru, hw1, hw2, hw3⟩ := hrune
        have hnx : ∀ ty, (Instr.next (.pointer (some ⟨W.heap.size, 0, none⟩)) true ty).run Tryz.prog (W.iter t i) = .ok (.tuple #[.bool true, .int .i64 i, .int .i32 (r : Nat)]) (W.iter t (i + wd)) := fun ty => by
          rw [run_next_any W t i ty hp, hd]
        have HRu := Lib.hid hru
        have HWd := Lib.hid (And.intro hw1 (And.intro hw2 hw3))
        have HSum : Hid (wrap64 ((G : Int) + (i : Int)) = ((G + i : Nat) : Int)) := Lib.hid (wrapL (by have := HP.out.1; have := HSz.out; omega))
        have HBl : Hid (∀ V, Calls Tryz.prog 50 #[.int .i32 (r : Nat)] V fun e w' => e = .returned (.bool (isBb (bt s (G + i)))) ∧ V = w') := Lib.hid fun V => by rw [← HRu.out.kind low_b high_b]; exact code_isBlank _ V
        obtain ⟨g, hg⟩ : ∃ g, g = G + i := ⟨_, rfl⟩
        have HGi := Lib.hid hg
        rw [← hg] at HSum HBl
        have hsum := HSum.out
        clear hp hz hd hru hw1 hw2 hw3 hg
        cases hbl : isBb (bt s g) with
        | true =>
          rw [hbl] at HBl
          have HQ := Lib.hid hbl
          clear hbl
          go_wp2_with (first
            | (go_at_call 50; refine (HBl.out _).mono ?_; rintro e w1 ⟨rfl, rfl⟩))
          go_roundw
          case rel =>
            have h1 := HGi.out
            have h2 := HQ.out
            have h3 := HP.out
            have h4 := HWd.out
            rw [h1] at h2
            have hw : wd = 1 := h4.2.2 (by unfold isBb at h2; simp only [decide_eq_true_eq] at h2; omega)
            refine ⟨i + wd, rfl, rfl, rfl, rfl, Lib.hid ⟨h4.2.1, ?_⟩, rfl⟩
            rw [hw, ← Nat.add_assoc, ← lexI_blank h3.1 h2]
            exact HI.out.2
          case measure =>
            have h3 := HP.out
            have h4 := HWd.out
            simp
            omega
        | false =>
          rw [hbl] at HBl
          have HQ := Lib.hid hbl
          clear hbl
          have HBi2 : Hid (Below W.heap.size W (W.iter t (i + wd))) := Lib.hid (below_alloc _ _)
          have hgs : (g : Int) ≤ (s.size : Int) := by have h1 := HGi.out; have h3 := HP.out; omega
          by_cases h35 : (bt s g).toNat = 35
          · have hr35 : r = 35 := by have h1 := HGi.out; have := HRu.out.1 (by rw [← h1]; omega); rw [this, ← h1]; exact h35
            subst hr35
            have HM := Lib.hid (rem_more (s := s) (i := g) (by have h1 := HGi.out; have h3 := HP.out; omega) h35)
            obtain ⟨e, he⟩ : ∃ e, e = runE isRb s g := ⟨_, rfl⟩
            rw [← he] at HM
            obtain ⟨kk, hkk⟩ : ∃ kk, kk = e - g := ⟨_, rfl⟩
            have HKk := Lib.hid hkk
            have HLd : Hid (∀ V, Calls Tryz.prog 51 #[.string (s.extract g s.size), .func (.func 52) #[] #[]] V fun ev w' => ev = .returned (.int .i64 (kk : Nat)) ∧ Below V.heap.size V w') := Lib.hid fun V => by
              have h1 := HGi.out
              have h3 := HP.out
              have := code_lead_r (s.extract g s.size) V (by rw [ext_size (by omega) (Nat.le_refl _)]; have := HSz.out; omega)
              rw [runE_ext (by omega), Nat.add_zero, ← he, ← HKk.out] at this
              exact this
            have HX : Hid (wrap64 ((g : Int) + (kk : Int)) = (e : Int)) := Lib.hid (by have h4 := HM.out; have h5 := HSz.out; have h6 := HKk.out; rw [wrapL (by omega)]; omega)
            have HLx : Hid (lexI s e acc = Rf) := Lib.hid (by
              have h1 := HGi.out
              have h3 := HP.out
              rw [he, ← lexI_rem (by omega) h35, h1]
              exact HI.out.2)
            have hx := HX.out
            clear h35 he hkk
            go_wp2_with (first
              | (go_at_call 50; refine (HBl.out _).mono ?_; rintro e w1 ⟨rfl, rfl⟩)
              | (go_at_call 51; refine (HLd.out _).mono ?_; rintro e w2 ⟨rfl, hb⟩; have HB := Lib.hid hb; clear hb; refine Stop.out ?_))
            unfold Stop
            go_wp2
            have HBz : Hid (Below W.heap.size W w2) := Lib.hid (below_then HBi2.out HB.out)
            rw [hx]
            refine wp_goto ?_
            exact ⟨rfl, s.size - e, by have h1 := HGi.out; have h3 := HP.out; have h4 := HM.out; omega, e, acc, v, rfl, FrL.of (by kernel_rfl), Lib.hid ⟨HM.out.2, by have h0 := HE.out.few; have h1 := HGi.out; have h4 := HM.out; omega, HLx.out, HE.out.own.on HBz.out, HE.out.low.trans (HBz.out.mono HE.out.low.size)⟩⟩
          · have hr35 : ¬ (r : Int) = 35 := by
              have h1 := HGi.out
              intro h
              by_cases hb : (bt s g).toNat < 128
              · have := HRu.out.1 (by rw [← h1]; exact hb)
                rw [← h1] at this
                omega
              · have := HRu.out.2 (by rw [← h1]; omega)
                omega
            have hr35b : ((r : Int) == 35) = false := beq_false_of_ne hr35
            have hru0 : RuneOf r (bt (s.extract g s.size) 0) := by
              have h1 := HGi.out
              have h3 := HP.out
              rw [bt_ext (by omega) (Nat.le_refl _), Nat.add_zero, h1]
              exact HRu.out
            have HF : Hid (∀ V, Calls Tryz.prog 53 #[.string (s.extract g s.size), .int .i32 (r : Nat)] V fun e w' => e = .returned (firstV (s.extract g s.size)) ∧ Below V.heap.size V w') := Lib.hid fun V => by
              have h1 := HGi.out
              have h3 := HP.out
              have hz := ext_size (s := s) (b := g) (e := s.size) (by omega) (Nat.le_refl _)
              exact code_first _ r V (by have := HSz.out; omega) (by omega) hru0
            have hf : firstV (s.extract g s.size) = match tokAt s g with | some t => .tuple #[tokA (t.1, 0, t.2.2), .bool true] | none => .tuple #[tokA noTok, .bool false] := by
              have h1 := HGi.out
              have h3 := HP.out
              unfold firstV
              rw [tok_ext (by omega)]
              cases tokAt s g <;> rfl
            rw [hf] at HF
            clear hf hru0
            cases htk : tokAt s g with
            | none =>
              rw [htk] at HF
              have hRf : Rf = ([], g, 80) := by
                have h1 := HGi.out
                have h3 := HP.out
                rw [← HI.out.2, ← h1]
                exact lexI_bad (by omega) HQ.out h35 htk
              have HRf := Lib.hid hRf
              clear hRf htk h35
              go_wp2_with (first
                | (go_at_call 50; refine (HBl.out _).mono ?_; rintro e w1 ⟨rfl, rfl⟩)
                | (go_at_call 53; refine (HF.out _).mono ?_; rintro e w2 ⟨rfl, hb⟩; have HB := Lib.hid hb; clear hb; refine Stop.out ?_))
              unfold Stop
              go_wp2
              rw [jump1_ret]
              go_ret3
              have HBz : Hid (Below W.heap.size W w2) := Lib.hid (below_then HBi2.out HB.out)
              rw [HRf.out]
              refine ⟨.slice none 0 0, rfl, OwnTokV.nil _ _, ?_⟩
              have hz := HE.out.low.trans (HBz.out.mono HE.out.low.size)
              exact hz.alloc hz.size _
            | some tk =>
              rw [htk] at HF
              obtain ⟨kd, at0, tx, nn⟩ := tk
              have htl := tok_len htk (by have h1 := HGi.out; have h3 := HP.out; omega)
              obtain ⟨n, hn⟩ : ∃ n, n = tx.size := ⟨_, rfl⟩
              have HN : Hid (n = tx.size ∧ 1 ≤ n ∧ g + n ≤ s.size ∧ at0 = (g : Int)) := Lib.hid ⟨hn, by rw [hn]; exact htl.1, by rw [hn]; exact htl.2.1, htl.2.2.1⟩
              have hat : at0 = (g : Int) := htl.2.2.1
              subst hat
              have HLx : Hid (lexI s (g + n) (acc ++ [(kd, (g : Int), tx, nn)]) = Rf) := Lib.hid (by
                have h1 := HGi.out
                have h3 := HP.out
                rw [hn, ← HI.out.2, ← h1]
                exact (lexI_tok (by omega) HQ.out h35 htk).symm)
              have HX : Hid (wrap64 ((g : Int) + (n : Int)) = ((g + n : Nat) : Int)) := Lib.hid (by have h4 := HN.out; have h5 := HSz.out; exact wrapL (by omega))
              clear htl htk h35
              have hx := HX.out
              go_wp2_with (first
                | (go_at_call 50; refine (HBl.out _).mono ?_; rintro e w1 ⟨rfl, rfl⟩)
                | (go_at_call 53; refine (HF.out _).mono ?_; rintro e w2 ⟨rfl, hb⟩; have HB := Lib.hid hb; clear hb; refine Stop.out ?_))
              unfold Stop
              have HBz : Hid (Below W.heap.size W w2) := Lib.hid (below_then HBi2.out HB.out)
              obtain ⟨A6, hA6⟩ : ∃ A6 : Obj, A6 = .cells #[.int .i64 kd, .int .i64 (g : Nat), .string tx, .int .i64 nn] 96 (0, 0) := ⟨_, rfl⟩
              have HB6 : Hid (Below w2.heap.size w2 ((w2.alloc (.cells #[.int .i64 kd, .int .i64 (g : Nat), .string tx, .int .i64 nn] 96)).alloc (.cells #[.int .i64 kd, .int .i64 (g : Nat), .string tx, .int .i64 nn] 96))) := Lib.hid (below_then (below_alloc w2 _) (below_alloc _ _))
              clear hA6
              have HR6 : Hid (RowTokV ((w2.alloc (.cells #[.int .i64 kd, .int .i64 (g : Nat), .string tx, .int .i64 nn] 96)).alloc (.cells #[.int .i64 kd, .int .i64 (g : Nat), .string tx, .int .i64 nn] 96)) (some ⟨w2.heap.size + 1, 0, none⟩) [(kd, (g : Int), tx, nn)]) := Lib.hid (boxTokV (t := 96) (by have := heap_alloc_new (w2.alloc (.cells #[.int .i64 kd, .int .i64 (g : Nat), .string tx, .int .i64 nn] 96)) (.cells #[.int .i64 kd, .int .i64 (g : Nat), .string tx, .int .i64 nn] 96); rw [World.size_alloc] at this; exact this))
              have HO6 : Hid (OwnTokV ((w2.alloc (.cells #[.int .i64 kd, .int .i64 (g : Nat), .string tx, .int .i64 nn] 96)).alloc (.cells #[.int .i64 kd, .int .i64 (g : Nat), .string tx, .int .i64 nn] 96)) w.heap.size v acc) := Lib.hid (HE.out.own.on (below_then HBz.out HB6.out))
              have HL6 : Hid (acc.length ≤ 100000 ∧ w.heap.size ≤ ((w2.alloc (.cells #[.int .i64 kd, .int .i64 (g : Nat), .string tx, .int .i64 nn] 96)).alloc (.cells #[.int .i64 kd, .int .i64 (g : Nat), .string tx, .int .i64 nn] 96)).heap.size) := Lib.hid ⟨by have h1 := HE.out.few; have h2 := HE.out.le; have h3 := HSz.out; omega, Nat.le_trans HE.out.low.size (Nat.le_trans HBz.out.size HB6.out.size)⟩
              have HX6 : Hid (((w2.alloc (.cells #[.int .i64 kd, .int .i64 (g : Nat), .string tx, .int .i64 nn] 96)).alloc (.cells #[.int .i64 kd, .int .i64 (g : Nat), .string tx, .int .i64 nn] 96)).heap[w2.heap.size]? = some (.cells #[.int .i64 kd, .int .i64 (g : Nat), .string tx, .int .i64 nn] 96 (0, 0))) := Lib.hid (heap_on (below_alloc _ _) (heap_alloc_new w2 _))
              go_wp2_with (first
                | ((with_reducible refine wpList_append_tok rfl _ _ rfl rfl w.heap.size v acc rfl HO6.out ⟨w2.heap.size + 1, 0, none⟩ 1 (kd, (g : Int), tx, nn) rfl HR6.out HL6.out.1 HL6.out.2 ?_); intro v5 w5 ho5 hg5; have HO5 := Lib.hid ho5; have HG5 := Lib.hid hg5; clear ho5 hg5; refine Stop.out ?_))
              unfold Stop
              have HB5 : Hid (Below w.heap.size w2 w5) := Lib.hid ((HB6.out.mono (Nat.le_trans HE.out.low.size HBz.out.size)).trans (HO6.out.low HG5.out HL6.out.2))
              have HX5 : Hid (w5.heap[w2.heap.size]? = some (.cells #[.int .i64 kd, .int .i64 (g : Nat), .string tx, .int .i64 nn] 96 (0, 0))) := Lib.hid ((HG5.out.block w2.heap.size (by simp; omega) (fun e => by have h1 := own_lt HE.out.own _ e.symm; have h2 := HBz.out.size; omega)).trans HX6.out)
              have HLow : Hid (Below w.heap.size w w5) := Lib.hid ((HE.out.low.trans (HBz.out.mono HE.out.low.size)).trans HB5.out)
              have HFw : Hid ((acc ++ [(kd, (g : Int), tx, nn)]).length ≤ g + n ∧ G < g + n) := Lib.hid (by have h1 := HE.out.few; have h2 := HGi.out; have h3 := HN.out; rw [List.length_append]; simp only [List.length_cons, List.length_nil]; omega)
              have HNn : Hid (tx.size = n) := Lib.hid hn.symm
              clear HB6 HR6 HO6 HL6 HX6 HG5
              obtain ⟨G2, hG2⟩ : ∃ G2, G2 = w2.heap.size := ⟨_, rfl⟩
              rw [← hG2] at HX5 ⊢
              clear hG2 hn
              obtain ⟨y0, y1, y2, y3⟩ := cellsTokV HX5.out
              go_wp2
              rw [HNn.out, hx]
              refine wp_goto ?_
              exact ⟨rfl, s.size - (g + n), by have h1 := HFw.out; have h3 := HN.out; omega, g + n, acc ++ [(kd, (g : Int), tx, nn)], v5, rfl, FrL.of (by kernel_rfl), Lib.hid ⟨HN.out.2.2.1, HFw.out.1, HLx.out, HO5.out, HLow.out⟩⟩
      · have hnx : ∀ ty, (Instr.next (.pointer (some ⟨W.heap.size, 0, none⟩)) true ty).run Tryz.prog (W.iter t i) = _ := fun ty => run_next_end W t i ty hp
        have hRf : Rf = (acc, 0, 0) := by
          rw [← HI.out.2]
          exact lexI_end (by have := HT.out.2; have := HI.out.1; omega)
        have HRf := Lib.hid hRf
        clear hRf hp
        go_wp2
        rw [jump1_ret]
        go_ret3
        rw [HRf.out]
        exact ⟨v, rfl, HE.out.own.on HBi.out, HE.out.low.trans (HBi.out.mono HE.out.low.size)⟩
end Go.Proofs.YtpapcnogbmjpjaaGreatDoor
