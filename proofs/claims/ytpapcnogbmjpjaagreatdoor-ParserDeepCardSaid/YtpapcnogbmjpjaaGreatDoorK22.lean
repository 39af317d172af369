/- Each. What is no box. -/
import Derived.Test.YtpapcnogbmjpjaaGreatDoorK21
namespace Go.Proofs.YtpapcnogbmjpjaaGreatDoor
open Go.RowKit
set_option maxRecDepth 100000
set_option linter.unusedSimpArgs false
set_option linter.unusedVariables false
attribute [local go_sem] Oper.semAt_some

theorem six (w : World) (a b c d e f : Obj) : Below w.heap.size w ((((((w.alloc a).alloc b).alloc c).alloc d).alloc e).alloc f) ∧ ((((((w.alloc a).alloc b).alloc c).alloc d).alloc e).alloc f).heap[w.heap.size + 1]? = some b ∧
    ((((((w.alloc a).alloc b).alloc c).alloc d).alloc e).alloc f).heap[w.heap.size + 1 + 1]? = some c ∧ ((((((w.alloc a).alloc b).alloc c).alloc d).alloc e).alloc f).heap[w.heap.size + 1 + 1 + 1]? = some d ∧
    ((((((w.alloc a).alloc b).alloc c).alloc d).alloc e).alloc f).heap[w.heap.size + 1 + 1 + 1 + 1]? = some e ∧ ((((((w.alloc a).alloc b).alloc c).alloc d).alloc e).alloc f).heap[w.heap.size + 1 + 1 + 1 + 1 + 1]? = some f := by
  obtain ⟨h0, h1, h2, h3, h4⟩ := five w a b c d e
  have B6 := below_alloc (((((w.alloc a).alloc b).alloc c).alloc d).alloc e) f
  have s5 : (((((w.alloc a).alloc b).alloc c).alloc d).alloc e).heap.size = w.heap.size + 1 + 1 + 1 + 1 + 1 := by
    rw [World.size_alloc, World.size_alloc, World.size_alloc, World.size_alloc, World.size_alloc]
  refine ⟨below_then h0 B6, heap_on B6 h1, heap_on B6 h2, heap_on B6 h3, heap_on B6 h4, ?_⟩
  rw [← s5]
  exact heap_alloc_new _ f
set_option maxHeartbeats 2000000 in
theorem each_stands (R : Nat) (t0 t1 : Int) (t2 : ByteArray) (fA : Option Addr) (fn fc : Nat) (w : World) (Q : World → Prop)
    (hIs : ∀ W, Below w.heap.size w W → Calls Tryz.prog 67 #[.agg #[.int .i64 t0, .int .i64 t1, .string t2, .slice fA fn fc, .slice none 0 0]] W fun e w' => e = .returned (.bool true) ∧ Chg R W w' ∧ Q w') (hQ : ∀ m a b, w.heap.size ≤ m → Q a → a.heap[m]? = some (.map #[] 0) → Chg m a b → Q b) (hR : R < w.heap.size ∨ w.heap.size + 7 ≤ R) :
    Calls Tryz.prog 66 #[.agg #[.int .i64 t0, .int .i64 t1, .string t2, .slice fA fn fc, .slice none 0 0], .func (.func 67) #[] #[]] w fun e w' => e = .returned (.bool true) ∧ Chg R w w' ∧ Q w' := by
  have hmf : ∀ (fn : Fn) (first cap : Array Value) (w : World), (Instr.makeFunc fn first cap).run Tryz.prog w = .ok (.func fn first cap) w := fun _ _ _ _ => rfl
  have hmm := @run_makeMap Tryz.prog
  have HIs := Lib.hid (fun W hW => hIs W hW)
  have HQ := Lib.hid hQ
  have HR := Lib.hid hR
  clear hIs hQ hR
  go_enter Tryz.func66, Tryz.ntmps66
  go_wp2_with (go_at_call 90; refine Stop.out ?_)
  unfold Stop
  have H6 := Lib.hid (six w (.cells #[.int .i64 t0, .int .i64 t1, .string t2, .slice fA fn fc, .slice none 0 0] 32) (.cells #[.func (.func 67) #[] #[]] 88) (.map #[] 0) (.cells #[.map (some (w.heap.size + 1 + 1))] 117) (.cells #[.func (.func 90) #[] #[.pointer (some ⟨w.heap.size + 1, 0, none⟩), .pointer (some ⟨w.heap.size + 1 + 1 + 1, 0, none⟩), .pointer (some ⟨w.heap.size + 1 + 1 + 1 + 1 + 1, 0, none⟩)]] 88) (.cells #[.func (.func 89) #[] #[.pointer (some ⟨w.heap.size + 1 + 1 + 1 + 1, 0, none⟩)]] 88))
  have hsz : (World.alloc (((((w.alloc (.cells #[.int .i64 t0, .int .i64 t1, .string t2, .slice fA fn fc, .slice none 0 0] 32)).alloc (.cells #[.func (.func 67) #[] #[]] 88)).alloc (.map #[] 0)).alloc (.cells #[.map (some (w.heap.size + 1 + 1))] 117)).alloc (.cells #[.func (.func 90) #[] #[.pointer (some ⟨w.heap.size + 1, 0, none⟩), .pointer (some ⟨w.heap.size + 1 + 1 + 1, 0, none⟩), .pointer (some ⟨w.heap.size + 1 + 1 + 1 + 1 + 1, 0, none⟩)]] 88)) (.cells #[.func (.func 89) #[] #[.pointer (some ⟨w.heap.size + 1 + 1 + 1 + 1, 0, none⟩)]] 88)).heap.size = w.heap.size + 6 := by
    rw [World.size_alloc, World.size_alloc, World.size_alloc, World.size_alloc, World.size_alloc, World.size_alloc]
  generalize World.alloc _ _ = wE at H6 hsz ⊢
  obtain ⟨hB, hI, hM, hK, hO, hF⟩ := H6.out
  have HBE := Lib.hid hB
  have HSz := Lib.hid hsz
  have HC := Lib.hid (each2_stands (w.heap.size + 1) (w.heap.size + 1 + 1 + 1) (w.heap.size + 1 + 1 + 1 + 1 + 1) (w.heap.size + 1 + 1) R (w.heap.size + 1 + 1 + 1 + 1) _ _ _ t0 t1 t2 fA fn fc wE Q (fun W hW => HIs.out W (below_then hB hW)) (fun a b => HQ.out _ a b (by omega))
    (by have := HR.out; have := HSz.out; omega) (by have := HR.out; omega) (by have := HR.out; omega) (by have := HR.out; omega) hI hK hF ⟨hM, by simp⟩)
  clear hB hI hM hK hO hF H6 HIs hsz
  refine HC.out.mono ?_
  rintro e w3 ⟨rfl, hc3, hq3⟩
  have HCw := Lib.hid (And.intro (hc3.one HBE.out (by omega)) hq3)
  clear hc3 hq3
  go_wp2
  go_ret
  exact ⟨rfl, HCw.out⟩
/-- a leaf that may be -/
def LeafOk (k n : Int) : Prop := (k = 1 ∧ 0 ≤ n ∧ n ≤ 999999999999999999) ∨ (k = 2 ∧ 1 ≤ n ∧ n ≤ 9999)
abbrev lfV (k n : Int) : Value := .agg #[.int .i64 k, .int .i64 n, .string ⟨#[]⟩, .slice none 0 0, .slice none 0 0]
theorem code_stands (k n : Int) (h : LeafOk k n) (w : World) : Calls Tryz.prog 67 #[lfV k n] w fun e w' => e = .returned (.bool true) ∧ Below w.heap.size w w' := by
  rcases h with ⟨rfl, h1, h2⟩ | ⟨rfl, h1, h2⟩
  · exact code_stands1 n h1 h2 w
  · exact code_stands2 n h1 h2 w
theorem code_each_stands (k n : Int) (h : LeafOk k n) (w : World) : Calls Tryz.prog 66 #[lfV k n, .func (.func 67) #[] #[]] w fun e w' => e = .returned (.bool true) ∧ Below w.heap.size w w' := by
  have hs := each_stands (w.heap.size + 100) k n ⟨#[]⟩ none 0 0 w (fun _ => True) (fun W _ => (code_stands k n h W).mono fun _ _ h => ⟨h.1, Chg.of h.2, trivial⟩) (fun _ _ _ _ _ _ _ => trivial) (Or.inr (by omega))
  exact hs.mono fun _ _ h => ⟨h.1, h.2.1.low (by omega) (Nat.le_refl _)⟩
set_option maxHeartbeats 2000000 in
theorem code_GoodExpr (k n : Int) (h : LeafOk k n) (w : World) : Calls Tryz.prog 42 #[lfV k n] w fun e w' => e = .returned (.bool true) ∧ Below w.heap.size w w' := by
  have HE := Lib.hid (fun W => code_each_stands k n h W)
  have HD : Hid (∀ W, Calls Tryz.prog 65 #[.agg #[.int .i64 k, .int .i64 n, .string ⟨#[]⟩, .slice none 0 0, .slice none 0 0]] W fun e w' => e = .returned (.int .i64 1) ∧ Below W.heap.size W w') := Lib.hid (fun W => code_deep W (.mk k n ⟨#[]⟩ none 0 0 0 0 []) (by unfold AtT AtL; exact ⟨trivial, fun h => absurd rfl h⟩) (by simp [bT, bK, bL]))
  clear h
  have H0 := Lib.hid (heap_alloc_new w (.cells #[.int .i64 k, .int .i64 n, .string ⟨#[]⟩, .slice none 0 0, .slice none 0 0] 32))
  have HB0 := Lib.hid (below_alloc w (.cells #[.int .i64 k, .int .i64 n, .string ⟨#[]⟩, .slice none 0 0, .slice none 0 0] 32))
  go_enter Tryz.func42, Tryz.ntmps42
  go_wp2_with (go_at_call 65; refine (HD.out _).mono ?_; rintro e w2 ⟨rfl, hb⟩; refine Stop.out ?_)
  unfold Stop
  have HB2 := Lib.hid (below_then HB0.out hb)
  obtain ⟨e0, e1, e2, e3, e4⟩ := row5c (heap_on hb H0.out)
  clear hb H0 HB0
  go_wp2_with (go_at_call 66; refine (HE.out _).mono ?_; rintro e w3 ⟨rfl, hb⟩; refine Stop.out ?_)
  unfold Stop
  have HB3 := Lib.hid (below_then HB2.out hb)
  clear hb e0 e1 e2 e3 e4
  go_wp2
  go_ret
  exact ⟨rfl, HB3.out⟩
end Go.Proofs.YtpapcnogbmjpjaaGreatDoor

namespace Go.Proofs.YtpapcnogbmjpjaaGreatDoor
open Go.RowKit
set_option maxRecDepth 100000
set_option linter.unusedSimpArgs false
set_option linter.unusedVariables false
attribute [local go_sem] Oper.semAt_some

theorem code_isBox_no (n : Int) (h : ¬ (1 ≤ n ∧ n ≤ 9999)) (w : World) : Calls Tryz.prog 41 #[.int .i64 n] w fun e w' => e = .returned (.bool false) ∧ w' = w := by
  by_cases h1 : 1 ≤ n
  · have h2 : ¬ n ≤ 9999 := fun h2 => h ⟨h1, h2⟩
    go_enter Tryz.func41, Tryz.ntmps41
    go_wp2
    go_ret
    simp [h1, h2]
  · go_enter Tryz.func41, Tryz.ntmps41
    go_wp2
    go_ret
    simp [h1]
theorem code_goodN2_no (n : Int) (h : ¬ (1 ≤ n ∧ n ≤ 9999)) (w : World) : Calls Tryz.prog 96 #[.int .i64 2, .int .i64 n] w fun e w' => e = .returned (.bool false) ∧ w' = w := by
  have HB := Lib.hid (code_isBox_no n h)
  clear h
  go_enter Tryz.func96, Tryz.ntmps96
  go_wp2_with (go_at_call 41; refine (HB.out _).mono ?_; rintro e w2 ⟨rfl, rfl⟩)
  go_ret
  exact ⟨rfl, rfl⟩
set_option maxHeartbeats 2000000 in
theorem code_stands2_no (n : Int) (h : ¬ (1 ≤ n ∧ n ≤ 9999)) (w : World) : Calls Tryz.prog 67 #[.agg #[.int .i64 2, .int .i64 n, .string ⟨#[]⟩, .slice none 0 0, .slice none 0 0]] w fun e w' => e = .returned (.bool false) ∧ Below w.heap.size w w' := by
  have HG := Lib.hid (code_goodN2_no n h)
  clear h
  have H0 := Lib.hid (heap_alloc_new w (.cells #[.int .i64 2, .int .i64 n, .string ⟨#[]⟩, .slice none 0 0, .slice none 0 0] 32))
  have HW0 := Lib.hid (below_alloc w (.cells #[.int .i64 2, .int .i64 n, .string ⟨#[]⟩, .slice none 0 0, .slice none 0 0] 32))
  go_enter Tryz.func67, Tryz.ntmps67
  go_wp2
  generalize w.alloc (.cells #[.int .i64 2, .int .i64 n, .string ⟨#[]⟩, .slice none 0 0, .slice none 0 0] 32) = w1 at H0 HW0 ⊢
  obtain ⟨g, hg⟩ : ∃ g, g = w.heap.size := ⟨_, rfl⟩
  have HGs := Lib.hid hg
  rw [← hg] at H0 ⊢
  clear hg
  refine wp_region_held_drew (S := fun V : World => V.heap[g]? = some (.cells #[.int .i64 2, .int .i64 n, .string ⟨#[]⟩, .slice none 0 0, .slice none 0 0] 32 (0, 0))) (by kernel_rfl) (heap_on (below_drew w1) H0.out) ?_
  intro hHeld
  have HW := Lib.hid (below_then HW0.out (below_drew w1))
  clear H0 HW0
  generalize w1.drew = wd at hHeld HW ⊢
  (refine takeH (i := 0) (v := ?_) rfl (by kernel_rfl) (by kernel_rfl) (by kernel_rfl) (fun _ _ _ h => h) (Or.inl ⟨by rfl, ?_⟩) (by assumption) ?_; rotate_left; (focus ((intro wS hSw); (try dsimp only at hSw); obtain ⟨s0, s1, s2, s3, s4⟩ := row5c hSw; go_simp; (try with_reducible rfl); done)); (try simp only [Act.put, List.setIfInBounds_toArray, List.set_cons_zero, List.set_cons_succ]))
  (refine takeH (i := 1) (v := ?_) rfl (by kernel_rfl) (by kernel_rfl) (by kernel_rfl) (fun _ _ _ h => h) (Or.inl ⟨by rfl, ?_⟩) (by assumption) ?_; rotate_left; (focus ((intro wS hSw); (try dsimp only at hSw); obtain ⟨s0, s1, s2, s3, s4⟩ := row5c hSw; go_simp; (try with_reducible rfl); done)); (try simp only [Act.put, List.setIfInBounds_toArray, List.set_cons_zero, List.set_cons_succ]))
  (refine takeH (i := 2) (v := ?_) rfl (by kernel_rfl) (by kernel_rfl) (by kernel_rfl) (fun _ _ _ h => h) (Or.inl ⟨by rfl, ?_⟩) (by assumption) ?_; rotate_left; (focus ((intro wS hSw); (try dsimp only at hSw); obtain ⟨s0, s1, s2, s3, s4⟩ := row5c hSw; go_simp; (try with_reducible rfl); done)); (try simp only [Act.put, List.setIfInBounds_toArray, List.set_cons_zero, List.set_cons_succ]))
  (refine takeH (i := 3) (v := ?_) rfl (by kernel_rfl) (by kernel_rfl) (by kernel_rfl) (fun _ _ _ h => h) (Or.inl ⟨by rfl, ?_⟩) (by assumption) ?_; rotate_left; (focus ((intro wS hSw); (try dsimp only at hSw); obtain ⟨s0, s1, s2, s3, s4⟩ := row5c hSw; go_simp; (try with_reducible rfl); done)); (try simp only [Act.put, List.setIfInBounds_toArray, List.set_cons_zero, List.set_cons_succ]))
  (refine takeH (i := 4) (v := ?_) rfl (by kernel_rfl) (by kernel_rfl) (by kernel_rfl) (fun _ _ _ h => h) (Or.inl ⟨by rfl, ?_⟩) (by assumption) ?_; rotate_left; (focus ((intro wS hSw); (try dsimp only at hSw); obtain ⟨s0, s1, s2, s3, s4⟩ := row5c hSw; go_simp; (try with_reducible rfl); done)); (try simp only [Act.put, List.setIfInBounds_toArray, List.set_cons_zero, List.set_cons_succ]))
  refine aloneH (i := 5) rfl (by kernel_rfl) (fun K hK => ?_)
  rw [if_pos (by rfl)]
  go_simp; ((refine (code_kidsOf2q wd).mono ?_); (rintro e w1 ⟨rfl, rfl⟩); (try go_simp))
  have HB1 : Hid (Below wd.heap.size wd wd) := Lib.hid (Below.refl _ _)
  refine hK.out _ _ (hHeld) (fun hNew => ?_)
  clear hK K hHeld; (have hHeld := hNew); clear hNew; (try simp only [Act.put, List.setIfInBounds_toArray, List.set_cons_zero, List.set_cons_succ])
  (refine takeH (i := 6) (v := ?_) rfl (by kernel_rfl) (by kernel_rfl) (by kernel_rfl) (fun _ _ _ h => h) (Or.inl ⟨by rfl, ?_⟩) (by assumption) ?_; rotate_left; (focus ((intro wS hSw); (try dsimp only at hSw); obtain ⟨s0, s1, s2, s3, s4⟩ := row5c hSw; go_simp; (try with_reducible rfl); done)); (try simp only [Act.put, List.setIfInBounds_toArray, List.set_cons_zero, List.set_cons_succ]))
  (refine takeH (i := 7) (v := ?_) rfl (by kernel_rfl) (by kernel_rfl) (by kernel_rfl) (fun _ _ _ h => h) (Or.inl ⟨by rfl, ?_⟩) (by assumption) ?_; rotate_left; (focus ((intro wS hSw); (try dsimp only at hSw); obtain ⟨s0, s1, s2, s3, s4⟩ := row5c hSw; go_simp; (try with_reducible rfl); done)); (try simp only [Act.put, List.setIfInBounds_toArray, List.set_cons_zero, List.set_cons_succ]))
  refine wpAnyH_done (by kernel_rfl) ?_ _
  clear HB1
  obtain ⟨s0, s1, s2, s3, s4⟩ := row5c hHeld
  clear hHeld
  have hem : ((⟨#[]⟩ : ByteArray).toList == (⟨#[]⟩ : ByteArray).toList) = true := by simp
  go_wp2_with (go_at_call 96; refine (HG.out _).mono ?_; rintro e w2 ⟨rfl, rfl⟩; refine Stop.out ?_)
  unfold Stop
  clear HG
  go_wp2
  go_ret
  exact ⟨rfl, HW.out⟩
set_option maxHeartbeats 2000000 in
theorem each2_no (Is Ka Fa : Nat) (tI : TypeId) (t0 t1 : Int) (t2 : ByteArray) (fA : Option Addr) (fn fc : Nat) (w : World)
    (hIs : ∀ W, Below w.heap.size w W → Calls Tryz.prog 67 #[.agg #[.int .i64 t0, .int .i64 t1, .string t2, .slice fA fn fc, .slice none 0 0]] W fun e w' => e = .returned (.bool false) ∧ Below W.heap.size W w')
    (hI : w.heap[Is]? = some (.cells #[.func (.func 67) #[] #[]] tI (0, 0))) :
    Calls Tryz.prog 90 #[.agg #[.int .i64 t0, .int .i64 t1, .string t2, .slice fA fn fc, .slice none 0 0], .pointer (some ⟨Is, 0, none⟩), .pointer (some ⟨Ka, 0, none⟩), .pointer (some ⟨Fa, 0, none⟩)] w fun e w' => e = .returned (.bool false) ∧ Below w.heap.size w w' := by
  have HIs := Lib.hid (fun W hW => hIs W hW)
  have HB0 := Lib.hid (below_alloc w (.cells #[.int .i64 t0, .int .i64 t1, .string t2, .slice fA fn fc, .slice none 0 0] 32))
  have HI := Lib.hid hI
  have hnot : ∀ (x : Bool) (w : World), (Op.unary .not (.bool x)).run Tryz.prog w = .ok (.bool (!x)) w := fun _ _ => rfl
  obtain ⟨i0, _⟩ := one_cell (heap_on HB0.out HI.out)
  clear hIs hI
  go_enter Tryz.func90, Tryz.ntmps90
  go_wp2_with (go_at_call 67; refine (HIs.out _ HB0.out).mono ?_; rintro e w2 ⟨rfl, hb⟩; refine Stop.out ?_)
  unfold Stop
  have HBn := Lib.hid (below_then HB0.out hb)
  clear hb i0
  go_wp2
  go_ret
  exact ⟨rfl, HBn.out⟩
set_option maxHeartbeats 2000000 in
theorem each_no (t0 t1 : Int) (t2 : ByteArray) (fA : Option Addr) (fn fc : Nat) (w : World)
    (hIs : ∀ W, Below w.heap.size w W → Calls Tryz.prog 67 #[.agg #[.int .i64 t0, .int .i64 t1, .string t2, .slice fA fn fc, .slice none 0 0]] W fun e w' => e = .returned (.bool false) ∧ Below W.heap.size W w') :
    Calls Tryz.prog 66 #[.agg #[.int .i64 t0, .int .i64 t1, .string t2, .slice fA fn fc, .slice none 0 0], .func (.func 67) #[] #[]] w fun e w' => e = .returned (.bool false) ∧ Below w.heap.size w w' := by
  have hmf : ∀ (fn : Fn) (first cap : Array Value) (w : World), (Instr.makeFunc fn first cap).run Tryz.prog w = .ok (.func fn first cap) w := fun _ _ _ _ => rfl
  have hmm := @run_makeMap Tryz.prog
  have HIs := Lib.hid (fun W hW => hIs W hW)
  clear hIs
  go_enter Tryz.func66, Tryz.ntmps66
  go_wp2_with (go_at_call 90; refine Stop.out ?_)
  unfold Stop
  have H6 := Lib.hid (six w (.cells #[.int .i64 t0, .int .i64 t1, .string t2, .slice fA fn fc, .slice none 0 0] 32) (.cells #[.func (.func 67) #[] #[]] 88) (.map #[] 0) (.cells #[.map (some (w.heap.size + 1 + 1))] 117) (.cells #[.func (.func 90) #[] #[.pointer (some ⟨w.heap.size + 1, 0, none⟩), .pointer (some ⟨w.heap.size + 1 + 1 + 1, 0, none⟩), .pointer (some ⟨w.heap.size + 1 + 1 + 1 + 1 + 1, 0, none⟩)]] 88) (.cells #[.func (.func 89) #[] #[.pointer (some ⟨w.heap.size + 1 + 1 + 1 + 1, 0, none⟩)]] 88))
  have hsz : (World.alloc (((((w.alloc (.cells #[.int .i64 t0, .int .i64 t1, .string t2, .slice fA fn fc, .slice none 0 0] 32)).alloc (.cells #[.func (.func 67) #[] #[]] 88)).alloc (.map #[] 0)).alloc (.cells #[.map (some (w.heap.size + 1 + 1))] 117)).alloc (.cells #[.func (.func 90) #[] #[.pointer (some ⟨w.heap.size + 1, 0, none⟩), .pointer (some ⟨w.heap.size + 1 + 1 + 1, 0, none⟩), .pointer (some ⟨w.heap.size + 1 + 1 + 1 + 1 + 1, 0, none⟩)]] 88)) (.cells #[.func (.func 89) #[] #[.pointer (some ⟨w.heap.size + 1 + 1 + 1 + 1, 0, none⟩)]] 88)).heap.size = w.heap.size + 6 := by
    rw [World.size_alloc, World.size_alloc, World.size_alloc, World.size_alloc, World.size_alloc, World.size_alloc]
  generalize World.alloc _ _ = wE at H6 hsz ⊢
  obtain ⟨hB, hI, hM, hK, hO, hF⟩ := H6.out
  have HBE := Lib.hid hB
  have HSz := Lib.hid hsz
  have HC := Lib.hid (each2_no (w.heap.size + 1) (w.heap.size + 1 + 1 + 1) (w.heap.size + 1 + 1 + 1 + 1 + 1) _ t0 t1 t2 fA fn fc wE (fun W hW => HIs.out W (below_then hB hW)) hI)
  clear hB hI hM hK hO hF H6 HIs hsz
  refine HC.out.mono ?_
  rintro e w3 ⟨rfl, hc3⟩
  have HCw := Lib.hid (below_then HBE.out hc3)
  clear hc3
  go_wp2
  go_ret
  exact ⟨rfl, HCw.out⟩
set_option maxHeartbeats 2000000 in
theorem code_good_no (n : Int) (h : ¬ (1 ≤ n ∧ n ≤ 9999)) (w : World) : Calls Tryz.prog 42 #[lfV 2 n] w fun e w' => e = .returned (.bool false) ∧ Below w.heap.size w w' := by
  have HE := Lib.hid (fun W => each_no 2 n ⟨#[]⟩ none 0 0 W (fun V _ => code_stands2_no n h V))
  have HD : Hid (∀ W, Calls Tryz.prog 65 #[.agg #[.int .i64 2, .int .i64 n, .string ⟨#[]⟩, .slice none 0 0, .slice none 0 0]] W fun e w' => e = .returned (.int .i64 1) ∧ Below W.heap.size W w') := Lib.hid (fun W => code_deep W (.mk 2 n ⟨#[]⟩ none 0 0 0 0 []) (by unfold AtT AtL; exact ⟨trivial, fun h => absurd rfl h⟩) (by simp [bT, bK, bL]))
  clear h
  have H0 := Lib.hid (heap_alloc_new w (.cells #[.int .i64 2, .int .i64 n, .string ⟨#[]⟩, .slice none 0 0, .slice none 0 0] 32))
  have HB0 := Lib.hid (below_alloc w (.cells #[.int .i64 2, .int .i64 n, .string ⟨#[]⟩, .slice none 0 0, .slice none 0 0] 32))
  go_enter Tryz.func42, Tryz.ntmps42
  go_wp2_with (go_at_call 65; refine (HD.out _).mono ?_; rintro e w2 ⟨rfl, hb⟩; refine Stop.out ?_)
  unfold Stop
  have HB2 := Lib.hid (below_then HB0.out hb)
  obtain ⟨e0, e1, e2, e3, e4⟩ := row5c (heap_on hb H0.out)
  clear hb H0 HB0
  go_wp2_with (go_at_call 66; refine (HE.out _).mono ?_; rintro e w3 ⟨rfl, hb⟩; refine Stop.out ?_)
  unfold Stop
  have HB3 := Lib.hid (below_then HB2.out hb)
  clear hb e0 e1 e2 e3 e4
  go_wp2
  go_ret
  exact ⟨rfl, HB3.out⟩
theorem code_good_ref (n : Int) (w : World) : Calls Tryz.prog 42 #[lfV 2 n] w fun e w' => e = .returned (.bool (decide (1 ≤ n ∧ n ≤ 9999))) ∧ Below w.heap.size w w' := by
  by_cases h : 1 ≤ n ∧ n ≤ 9999
  · rw [decide_eq_true h]
    exact code_GoodExpr 2 n (.inr ⟨rfl, h⟩) w
  · rw [decide_eq_false h]
    exact code_good_no n h w
end Go.Proofs.YtpapcnogbmjpjaaGreatDoor
