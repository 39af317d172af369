/- The document's lexer: a text's tokens. -/
import Derived.Test.YtfjecohokmelfaaDoorLxI
namespace Go.Proofs.YtfjecohokmelfaaDoor
open Go.RowKit
set_option maxRecDepth 100000
set_option linter.unusedSimpArgs false
set_option linter.unusedVariables false

/-- what the document's lexer told so far -/
structure LexR (w : World) (s : ByteArray) (Rf : List TokV × Nat × Int) (G : Nat) (acc : List TokR) (v : Value) (W : World) : Prop where
  le : G ≤ s.size
  few : acc.length ≤ G
  at_ : G < s.size → isBb (bt s G) = false ∧ (bt s G).toNat ≠ 35
  lex : lexI s G acc = Rf
  own : OwnTokR W w.heap.size v acc
  low : Below w.heap.size w W
theorem ownR_lt {w : World} {B : Nat} {v : Value} {L : List TokR} (h : OwnTokR w B v L) : ∀ k, v.ownBlock = some k → B ≤ k ∧ k < w.heap.size := by
  intro k hk
  rcases h.2 with ⟨rfl, _⟩ | ⟨g, c, cur, rfl, hB, hh, _⟩
  · cases hk
  · injection hk with hk
    subst hk
    exact ⟨hB, heapLt hh⟩
set_option maxHeartbeats 400000 in
theorem ref_lex_long (s : ByteArray) (w : World) (h : 65536 < s.size) : Calls Tryd.prog 8 #[.string s] w fun e w' => e = .returned (.tuple #[.slice none 0 0, .int .i64 0, .int .i64 11]) ∧ w = w' := by
  have h' : (65536 : Int) < (s.size : Int) := by omega
  go_enter Tryd.func8, Tryd.ntmps8
  go_wp2
  go_ret3
  exact ⟨rfl, rfl⟩
set_option maxHeartbeats 8000000 in
theorem ref_lex (s : ByteArray) (w : World) (h : s.size ≤ 65536) :
    Calls Tryd.prog 8 #[.string s] w fun e w' => ∃ v, e = .returned (.tuple #[v, .int .i64 ((lexI s 0 []).2.1 : Nat), .int .i64 (lexI s 0 []).2.2]) ∧ OwnTokR w' w.heap.size v (lexI s 0 []).1 ∧ Below w.heap.size w w' := by
  have h' : (s.size : Int) ≤ 65536 := by omega
  obtain ⟨Rf, hRf⟩ : ∃ Rf, Rf = lexI s 0 [] := ⟨_, rfl⟩
  rw [← hRf]
  have HRf := Lib.hid hRf.symm
  have HSz := Lib.hid h
  have HSk : Hid (∀ (i : Nat) W, i ≤ s.size → Calls Tryd.prog 18 #[.string s, .int .i64 (i : Nat)] W fun e w' => (∃ k : Nat, e = .returned (.int .i64 (k : Nat)) ∧ SkipR s i k ∧ (k < s.size → isBb (bt s k) = false ∧ (bt s k).toNat ≠ 35)) ∧ W = w') := Lib.hid fun i W hi => ref_skip s i W (by omega) hi
  have HS0 := Lib.hid (fun W => HSk.out 0 W (Nat.zero_le _))
  clear hRf h
  go_enter Tryd.func8, Tryd.ntmps8
  go_wp2_with (first
    | (go_at_call 18; refine (HS0.out _).mono ?_; rintro e w1 ⟨⟨k0, rfl, hk1, hk2⟩, rfl⟩; have HK0 := Lib.hid (And.intro hk1 hk2); clear hk1 hk2; refine Stop.out ?_))
  unfold Stop
  clear h' HS0
  go_wp2
  go_loopw [5, 6, 7, 8] (fun v5 v6 v7 v8 wr => ∃ (v : Value) (G : Nat) (acc : List TokR), v = v5 ∧ v6 = .int .i64 (G : Nat) ∧ Hid (LexR w s Rf G acc v wr)) (fun _ v6 _ _ _ => leftI s.size v6)
  case atStart => exact ⟨_, k0, [], rfl, rfl, Lib.hid ⟨HK0.out.1.le, Nat.zero_le _, HK0.out.2, by rw [← HK0.out.1.lex]; exact HRf.out, OwnTokR.nil _ _, Below.refl _ _⟩⟩
  case round =>
    obtain ⟨v5, G, acc, rfl, rfl, HE⟩ := hrel
    by_cases hlt : G < s.size
    · have hlt' : (G : Int) < (s.size : Int) := by omega
      have HG := Lib.hid hlt
      have HO : Hid (∀ W, Calls Tryd.prog 19 #[.string s, .int .i64 (G : Nat)] W fun e w' => e = .returned (oneV s G) ∧ Below W.heap.size W w') := Lib.hid fun W => ref_one s G W (by have := HSz.out; omega) hlt
      unfold oneV at HO
      cases htk : tokAt s G with
      | none =>
        rw [htk] at HO
        have hRf : Rf = ([], G, 80) := by
          rw [← HE.out.lex]
          exact lexI_bad hlt (HE.out.at_ hlt).1 (HE.out.at_ hlt).2 htk
        have HRf := Lib.hid hRf
        clear hRf htk hlt
        go_wp2_with (first
          | (go_at_call 19; refine (HO.out _).mono ?_; rintro e w2 ⟨rfl, hb⟩; have HB := Lib.hid hb; clear hb; refine Stop.out ?_))
        unfold Stop
        go_wp2
        go_ret3
        rw [HRf.out]
        have hz : Below w.heap.size w w2 := below_then HE.out.low HB.out
        exact ⟨.slice none 0 0, rfl, OwnTokR.nil _ _, hz.alloc hz.size _⟩
      | some tk =>
        rw [htk] at HO
        obtain ⟨kd, at0, tx, nn⟩ := tk
        have htl := tok_len htk hlt
        obtain ⟨n, hn⟩ : ∃ n, n = tx.size := ⟨_, rfl⟩
        have HN : Hid (n = tx.size ∧ 1 ≤ n ∧ G + n ≤ s.size) := Lib.hid ⟨hn, by rw [hn]; exact htl.1, by rw [hn]; exact htl.2.1⟩
        have HLx : Hid (lexI s (G + n) (acc ++ [(kd, at0, tx, nn)]) = Rf) := Lib.hid (by
          rw [hn, ← HE.out.lex]
          exact (lexI_tok hlt (HE.out.at_ hlt).1 (HE.out.at_ hlt).2 htk).symm)
        obtain ⟨g2, hg2⟩ : ∃ g2, g2 = G + n := ⟨_, rfl⟩
        have HG2 := Lib.hid hg2
        have HX : Hid (wrap64 ((G : Int) + (n : Int)) = (g2 : Int)) := Lib.hid (by have h4 := HN.out; have h5 := HSz.out; rw [hg2]; exact wrapL (by omega))
        have HNn : Hid (tx.size = n) := Lib.hid hn.symm
        have HS1 := Lib.hid (fun W => HSk.out g2 W (by rw [hg2]; exact HN.out.2.2))
        clear htl htk hlt hn hg2
        go_wp2_with (first
          | (go_at_call 19; refine (HO.out _).mono ?_; rintro e w2 ⟨rfl, hb⟩; have HB := Lib.hid hb; clear hb; refine Stop.out ?_))
        unfold Stop
        have HBz : Hid (Below w.heap.size w w2) := Lib.hid (below_then HE.out.low HB.out)
        have HB6 : Hid (Below w2.heap.size w2 ((w2.alloc (.cells #[.int .i64 kd, .int .i64 at0, .string tx, .int .i64 nn] 42)).alloc (.cells #[.int .i64 kd, .int .i64 at0, .string tx, .int .i64 nn] 42))) := Lib.hid (below_then (below_alloc w2 _) (below_alloc _ _))
        have HR6 : Hid (RowTokR ((w2.alloc (.cells #[.int .i64 kd, .int .i64 at0, .string tx, .int .i64 nn] 42)).alloc (.cells #[.int .i64 kd, .int .i64 at0, .string tx, .int .i64 nn] 42)) (some ⟨w2.heap.size + 1, 0, none⟩) [(kd, at0, tx, nn)]) := Lib.hid (boxTokR (t := 42) (by have := heap_alloc_new (w2.alloc (.cells #[.int .i64 kd, .int .i64 at0, .string tx, .int .i64 nn] 42)) (.cells #[.int .i64 kd, .int .i64 at0, .string tx, .int .i64 nn] 42); rw [World.size_alloc] at this; exact this))
        have HO6 : Hid (OwnTokR ((w2.alloc (.cells #[.int .i64 kd, .int .i64 at0, .string tx, .int .i64 nn] 42)).alloc (.cells #[.int .i64 kd, .int .i64 at0, .string tx, .int .i64 nn] 42)) w.heap.size v5 acc) := Lib.hid ((HE.out.own.on HB.out).on HB6.out)
        have HL6 : Hid (acc.length ≤ 100000 ∧ w.heap.size ≤ ((w2.alloc (.cells #[.int .i64 kd, .int .i64 at0, .string tx, .int .i64 nn] 42)).alloc (.cells #[.int .i64 kd, .int .i64 at0, .string tx, .int .i64 nn] 42)).heap.size) := Lib.hid ⟨by have h1 := HE.out.few; have h2 := HE.out.le; have h3 := HSz.out; omega, Nat.le_trans HBz.out.size HB6.out.size⟩
        have HX6 : Hid (((w2.alloc (.cells #[.int .i64 kd, .int .i64 at0, .string tx, .int .i64 nn] 42)).alloc (.cells #[.int .i64 kd, .int .i64 at0, .string tx, .int .i64 nn] 42)).heap[w2.heap.size]? = some (.cells #[.int .i64 kd, .int .i64 at0, .string tx, .int .i64 nn] 42 (0, 0))) := Lib.hid (heap_on (below_alloc _ _) (heap_alloc_new w2 _))
        go_wp2_with (first
          | ((with_reducible refine wpList_append_rtok rfl _ _ rfl rfl w.heap.size v5 acc rfl HO6.out ⟨w2.heap.size + 1, 0, none⟩ 1 (kd, at0, tx, nn) rfl HR6.out HL6.out.1 HL6.out.2 ?_); intro v6 w5 ho5 hg5; have HO5 := Lib.hid ho5; have HG5 := Lib.hid hg5; clear ho5 hg5; refine Stop.out ?_))
        unfold Stop
        have HB5 : Hid (Below w.heap.size w2 w5) := Lib.hid ((HB6.out.mono HBz.out.size).trans (HO6.out.low HG5.out HL6.out.2))
        have HX5 : Hid (w5.heap[w2.heap.size]? = some (.cells #[.int .i64 kd, .int .i64 at0, .string tx, .int .i64 nn] 42 (0, 0))) := Lib.hid ((HG5.out.block w2.heap.size (by simp; omega) (fun e => by have h1 := ownR_lt HE.out.own _ e.symm; have h2 := HB.out.size; omega)).trans HX6.out)
        have HLow : Hid (Below w.heap.size w w5) := Lib.hid (HBz.out.trans HB5.out)
        have HFw : Hid ((acc ++ [(kd, at0, tx, nn)]).length ≤ G + n) := Lib.hid (by have h1 := HE.out.few; have h3 := HN.out; rw [List.length_append]; simp only [List.length_cons, List.length_nil]; omega)
        clear HB6 HR6 HO6 HL6 HX6 HG5
        obtain ⟨G2, hG2⟩ : ∃ G2, G2 = w2.heap.size := ⟨_, rfl⟩
        rw [← hG2] at HX5 ⊢
        clear hG2
        obtain ⟨y0, y1, y2, y3⟩ := cellsTokR HX5.out
        have hx := HX.out
        have htx := HNn.out
        go_wp2_with (first
          | (go_at_call 18; refine (HS1.out _).mono ?_; rintro e w6 ⟨⟨k1, rfl, hk1, hk2⟩, rfl⟩; have HK1 := Lib.hid (And.intro hk1 hk2); clear hk1 hk2; refine Stop.out ?_))
        unfold Stop
        clear hx htx y0 y1 y2 y3
        go_wp2
        go_roundw
        case rel => exact ⟨_, k1, acc ++ [(kd, at0, tx, nn)], rfl, rfl, Lib.hid ⟨HK1.out.1.le, by have h1 := HK1.out.1.ge; have h2 := HG2.out; have h3 := HFw.out; omega, HK1.out.2, by rw [← HK1.out.1.lex, HG2.out]; exact HLx.out, HO5.out, HLow.out⟩⟩
        case measure => exact leftI_lt (by have h1 := HK1.out.1.ge; have h2 := HN.out; have h3 := HG2.out; omega) HG.out
    · have hge : (s.size : Int) ≤ (G : Int) := by omega
      have hRf : Rf = (acc, 0, 0) := by
        rw [← HE.out.lex]
        exact lexI_end (by omega)
      have HRf := Lib.hid hRf
      clear hRf hlt
      go_wp2
      go_ret3
      rw [HRf.out]
      exact ⟨_, rfl, HE.out.own, HE.out.low⟩
end Go.Proofs.YtfjecohokmelfaaDoor
