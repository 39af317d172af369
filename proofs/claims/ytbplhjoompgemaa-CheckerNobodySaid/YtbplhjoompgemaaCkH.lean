/- Each. -/
import Derived.Test.YtbplhjoompgemaaCkG
namespace Go.Proofs.Ytbplhjoompgemaa
open Go.RowKit
set_option maxRecDepth 100000
set_option linter.unusedSimpArgs false
set_option linter.unusedVariables false
attribute [local go_sem] Oper.semAt_some

theorem six (w : World) (a b c d e f : Obj) : Below w.heap.size w ((((((w.alloc a).alloc b).alloc c).alloc d).alloc e).alloc f) ∧ ((((((w.alloc a).alloc b).alloc c).alloc d).alloc e).alloc f).heap[w.heap.size + 1]? = some b ∧
    ((((((w.alloc a).alloc b).alloc c).alloc d).alloc e).alloc f).heap[w.heap.size + 1 + 1]? = some c ∧ ((((((w.alloc a).alloc b).alloc c).alloc d).alloc e).alloc f).heap[w.heap.size + 1 + 1 + 1]? = some d ∧
    ((((((w.alloc a).alloc b).alloc c).alloc d).alloc e).alloc f).heap[w.heap.size + 1 + 1 + 1 + 1]? = some e ∧ ((((((w.alloc a).alloc b).alloc c).alloc d).alloc e).alloc f).heap[w.heap.size + 1 + 1 + 1 + 1 + 1]? = some f := by
  obtain ⟨h0, h1, h2, h3, h4⟩ := five w a b c d e
  have B6 := below_alloc (((((w.alloc a).alloc b).alloc c).alloc d).alloc e) f
  have s5 : (((((w.alloc a).alloc b).alloc c).alloc d).alloc e).heap.size = w.heap.size + 1 + 1 + 1 + 1 + 1 := by
    rw [World.size_alloc, World.size_alloc, World.size_alloc, World.size_alloc, World.size_alloc]
  refine ⟨below_then h0 B6, heap_on B6 h1, heap_on B6 h2, heap_on B6 h3, heap_on B6 h4, ?_⟩
  rw [← s5]
  exact heap_alloc_new _ f
set_option maxHeartbeats 2000000 in
theorem each_stands (R : Nat) (t0 t1 : Int) (t2 : ByteArray) (fA : Option Addr) (fn fc : Nat) (w : World) (Q : World → Prop)
    (hIs : ∀ W, Below w.heap.size w W → Calls Try.prog 56 #[.agg #[.int .i64 t0, .int .i64 t1, .string t2, .slice fA fn fc, .slice none 0 0]] W fun e w' => e = .returned (.bool true) ∧ Chg R W w' ∧ Q w') (hQ : ∀ m a b, w.heap.size ≤ m → Q a → a.heap[m]? = some (.map #[] 0) → Chg m a b → Q b) (hR : R < w.heap.size ∨ w.heap.size + 7 ≤ R) :
    Calls Try.prog 43 #[.agg #[.int .i64 t0, .int .i64 t1, .string t2, .slice fA fn fc, .slice none 0 0], .func (.func 56) #[] #[]] w fun e w' => e = .returned (.bool true) ∧ Chg R w w' ∧ Q w' := by
  have hmf : ∀ (fn : Fn) (first cap : Array Value) (w : World), (Instr.makeFunc fn first cap).run Try.prog w = .ok (.func fn first cap) w := fun _ _ _ _ => rfl
  have hmm := @run_makeMap Try.prog
  have HIs := Lib.hid (fun W hW => hIs W hW)
  have HQ := Lib.hid hQ
  have HR := Lib.hid hR
  clear hIs hQ hR
  go_enter Try.func43, Try.ntmps43
  go_wp2_with (go_at_call 62; refine Stop.out ?_)
  unfold Stop
  have H6 := Lib.hid (six w (.cells #[.int .i64 t0, .int .i64 t1, .string t2, .slice fA fn fc, .slice none 0 0] 41) (.cells #[.func (.func 56) #[] #[]] 50) (.map #[] 0) (.cells #[.map (some (w.heap.size + 1 + 1))] 83) (.cells #[.func (.func 62) #[] #[.pointer (some ⟨w.heap.size + 1, 0, none⟩), .pointer (some ⟨w.heap.size + 1 + 1 + 1, 0, none⟩), .pointer (some ⟨w.heap.size + 1 + 1 + 1 + 1 + 1, 0, none⟩)]] 50) (.cells #[.func (.func 61) #[] #[.pointer (some ⟨w.heap.size + 1 + 1 + 1 + 1, 0, none⟩)]] 50))
  have hsz : (World.alloc (((((w.alloc (.cells #[.int .i64 t0, .int .i64 t1, .string t2, .slice fA fn fc, .slice none 0 0] 41)).alloc (.cells #[.func (.func 56) #[] #[]] 50)).alloc (.map #[] 0)).alloc (.cells #[.map (some (w.heap.size + 1 + 1))] 83)).alloc (.cells #[.func (.func 62) #[] #[.pointer (some ⟨w.heap.size + 1, 0, none⟩), .pointer (some ⟨w.heap.size + 1 + 1 + 1, 0, none⟩), .pointer (some ⟨w.heap.size + 1 + 1 + 1 + 1 + 1, 0, none⟩)]] 50)) (.cells #[.func (.func 61) #[] #[.pointer (some ⟨w.heap.size + 1 + 1 + 1 + 1, 0, none⟩)]] 50)).heap.size = w.heap.size + 6 := by
    rw [World.size_alloc, World.size_alloc, World.size_alloc, World.size_alloc, World.size_alloc, World.size_alloc]
  generalize World.alloc _ _ = wE at H6 hsz ⊢
  obtain ⟨hB, hI, hM, hK, hO, hF⟩ := H6.out
  have HBE := Lib.hid hB
  have HSz := Lib.hid hsz
  have HC := Lib.hid (each2_stands (w.heap.size + 1) (w.heap.size + 1 + 1 + 1) (w.heap.size + 1 + 1 + 1 + 1 + 1) (w.heap.size + 1 + 1) R (w.heap.size + 1 + 1 + 1 + 1) _ _ _ t0 t1 t2 fA fn fc wE Q (fun W hW => HIs.out W (below_then hB hW)) (fun a b => HQ.out _ a b (by omega))
    (by have := HR.out; have := HSz.out; omega) (by have := HR.out; omega) (by have := HR.out; omega) (by have := HR.out; omega) hI hK hF ⟨hM, by simp⟩)
  clear hB hI hM hK hO hF H6 HIs hsz
  refine HC.out.mono ?_
  rintro e w3 ⟨rfl, hc3, hq3⟩
  have HCw := Lib.hid (And.intro (hc3.one HBE.out (by omega)) hq3)
  clear hc3 hq3
  go_wp2
  go_ret
  exact ⟨rfl, HCw.out⟩
/-- a leaf that may be -/
def LeafOk (k n : Int) : Prop := (k = 1 ∧ 0 ≤ n ∧ n ≤ 999999999999999999) ∨ (k = 2 ∧ 1 ≤ n ∧ n ≤ 9999)
abbrev lfV (k n : Int) : Value := .agg #[.int .i64 k, .int .i64 n, .string ⟨#[]⟩, .slice none 0 0, .slice none 0 0]
theorem code_stands (k n : Int) (h : LeafOk k n) (w : World) : Calls Try.prog 56 #[lfV k n] w fun e w' => e = .returned (.bool true) ∧ Below w.heap.size w w' := by
  rcases h with ⟨rfl, h1, h2⟩ | ⟨rfl, h1, h2⟩
  · exact code_stands1 n h1 h2 w
  · exact code_stands2 n h1 h2 w
theorem code_each_stands (k n : Int) (h : LeafOk k n) (w : World) : Calls Try.prog 43 #[lfV k n, .func (.func 56) #[] #[]] w fun e w' => e = .returned (.bool true) ∧ Below w.heap.size w w' := by
  have hs := each_stands (w.heap.size + 100) k n ⟨#[]⟩ none 0 0 w (fun _ => True) (fun W _ => (code_stands k n h W).mono fun _ _ h => ⟨h.1, Chg.of h.2, trivial⟩) (fun _ _ _ _ _ _ _ => trivial) (Or.inr (by omega))
  exact hs.mono fun _ _ h => ⟨h.1, h.2.1.low (by omega) (Nat.le_refl _)⟩
set_option maxHeartbeats 2000000 in
theorem code_GoodExpr (k n : Int) (h : LeafOk k n) (w : World) : Calls Try.prog 38 #[lfV k n] w fun e w' => e = .returned (.bool true) ∧ Below w.heap.size w w' := by
  have HE := Lib.hid (fun W => code_each_stands k n h W)
  have HD : Hid (∀ W, Calls Try.prog 55 #[.agg #[.int .i64 k, .int .i64 n, .string ⟨#[]⟩, .slice none 0 0, .slice none 0 0]] W fun e w' => e = .returned (.int .i64 1) ∧ Below W.heap.size W w') := Lib.hid (fun W => code_deep W (.mk k n ⟨#[]⟩ none 0 0 0 0 []) (by unfold AtT AtL; exact ⟨trivial, fun h => absurd rfl h⟩) (by simp [bT, bK, bL]))
  clear h
  have H0 := Lib.hid (heap_alloc_new w (.cells #[.int .i64 k, .int .i64 n, .string ⟨#[]⟩, .slice none 0 0, .slice none 0 0] 41))
  have HB0 := Lib.hid (below_alloc w (.cells #[.int .i64 k, .int .i64 n, .string ⟨#[]⟩, .slice none 0 0, .slice none 0 0] 41))
  go_enter Try.func38, Try.ntmps38
  go_wp2_with (go_at_call 55; refine (HD.out _).mono ?_; rintro e w2 ⟨rfl, hb⟩; refine Stop.out ?_)
  unfold Stop
  have HB2 := Lib.hid (below_then HB0.out hb)
  obtain ⟨e0, e1, e2, e3, e4⟩ := row5c (heap_on hb H0.out)
  clear hb H0 HB0
  go_wp2_with (go_at_call 43; refine (HE.out _).mono ?_; rintro e w3 ⟨rfl, hb⟩; refine Stop.out ?_)
  unfold Stop
  have HB3 := Lib.hid (below_then HB2.out hb)
  clear hb e0 e1 e2 e3 e4
  go_wp2
  go_ret
  exact ⟨rfl, HB3.out⟩
end Go.Proofs.Ytbplhjoompgemaa
