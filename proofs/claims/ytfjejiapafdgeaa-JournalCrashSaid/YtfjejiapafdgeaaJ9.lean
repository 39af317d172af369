/- What is appended to a slice of the call's own, with what lay there before the call. Bytes in a block of the call's own. A sector of parts. -/
import Derived.Test.YtfjejiapafdgeaaJ1
import Derived.Test.YtfjejiapafdgeaaJ6
import Derived.Test.YtfjejiapafdgeaaJ8
namespace Go.Proofs.Ytfjejiapafdgeaa
open Go.RowKit
set_option maxRecDepth 100000

theorem wpList_append_own_text {w : World} {ops : Array Oper} {rest : List Oper} {o : Oper} {a : Act} {Q : Exit → Act → World → Prop} (hgd : o.guard = none) (s x : Operand)
    (ho : o.op = .call { callee := .builtin .append, args := #[s, x], argTypes := #[51, 51] }) (hty : o.type = 51)
    (base : Nat) (w0 : World) (v : Value) (m n k : Text) (hs : a.eval s = v) (hown : w.ownsRow base 5 1 v m.length (m.map cellOf)) (A : Option Addr) (c : Nat) (hx : a.eval x = .slice A n.length c)
    (hT : Txt w A n) (hA : A = none → n = []) (h63 : m.length + n.length ≤ 140737488355328) (hb : Below base w0 w) (hbase : base ≤ w.heap.size) (hk : k = m ++ n)
    (h : ∀ v' w', w'.ownsRow base 5 1 v' k.length (k.map cellOf) → Below base w0 w' → (v.ownBlock ≠ none → v'.ownBlock ≠ none) → wpList Try.prog ops Q rest (a.put o.dst v') w') :
    wpList Try.prog ops Q (o :: rest) a w := by
  refine wpList_append_text hgd s x ho hty base v m.length (m.map cellOf) hs hown A c n hx hT hA h63 hbase fun v' w' h1 h2 h3 => ?_
  subst hk
  refine h v' w' (by simpa using h1) (hb.grown h2 hbase fun k hk => (hown.lt k hk).1) fun hv => ?_
  rcases h3 with h3 | h3
  · rw [h3]; exact hv
  · rw [h3]; simp
/-- what the call owns it owns still, behind a call that turned nothing -/
theorem own_below {w w' : World} {base : Nat} {v : Value} {n : Nat} {xs : List Value} (h : w.ownsRow base 5 1 v n xs) (hb : Below w.heap.size w w') : w'.ownsRow base 5 1 v n xs :=
  h.kept (row := none) ⟨hb.os, hb.tape, hb.output, hb.size, fun k hk _ => hb.block k hk⟩ (by
    rcases h.2 with ⟨rfl, _⟩ | ⟨g, c, cur, rfl, _⟩
    · exact .inl rfl
    · exact .inr (by simp [Value.ownBlock]))
/-- an empty slice of the call's own -/
theorem empty_own (w : World) : (w.alloc (.cells #[] 5)).ownsRow w.heap.size 5 1 (.slice (some ⟨w.heap.size, 0, none⟩) 0 0) ([] : Text).length (([] : Text).map cellOf) :=
  World.ownsRow_lit w #[] 0 (Nat.le_refl _) (by unfold maxLen; omega) rfl
/-- the form of a slice that has a block -/
theorem own_form {w : World} {B : Nat} {v : Value} {l : Text} (h : w.ownsRow B 5 1 v l.length (l.map cellOf)) (hv : v.ownBlock ≠ none) :
    ∃ g c, v = .slice (some ⟨g, 0, none⟩) l.length c ∧ B ≤ g := by
  rcases h.2 with ⟨rfl, _⟩ | ⟨g, c, cur, rfl, hB, _⟩
  · exact absurd rfl hv
  · exact ⟨g, c, rfl, hB⟩
theorem own_txt {w : World} {B : Nat} {v : Value} {l : Text} (h : w.ownsRow B 5 1 v l.length (l.map cellOf)) :
    ∃ A c, v = .slice A l.length c ∧ Txt w A l ∧ (A = none → l = []) := by
  rcases h.2 with ⟨rfl, h0⟩ | ⟨g, c, cur, rfl, _⟩
  · have : l = [] := List.eq_nil_of_length_eq_zero h0
    subst this
    exact ⟨none, 0, rfl, Txt.none_, fun _ => rfl⟩
  · exact ⟨_, c, rfl, .of_own h, by simp⟩
end Go.Proofs.Ytfjejiapafdgeaa

namespace Go.Proofs.Ytfjejiapafdgeaa
open Go.RowKit
set_option maxRecDepth 100000

theorem own_more {w : World} {B : Nat} {v : Value} {l : Text} (h : w.ownsRow B 5 1 v l.length (l.map cellOf)) (hl : 0 < l.length) :
    ∃ g c, v = .slice (some ⟨g, 0, none⟩) l.length c ∧ l.length ≤ c ∧ c ≤ maxLen ∧ Txt w (some ⟨g, 0, none⟩) l ∧ B ≤ g ∧ g < w.heap.size := by
  rcases h.2 with ⟨rfl, h0⟩ | ⟨g, c, cur, rfl, hB, hh, hc, hm, _⟩
  · omega
  · exact ⟨g, c, rfl, hc, hm, .of_own h, hB, heapLt hh⟩
theorem slice_of_own {w : World} {B n : Nat} {v : Value} {xs : List Value} (h : w.ownsRow B 5 1 v n xs) : ∃ A k c, v = .slice A k c := by
  rcases h.2 with ⟨rfl, _⟩ | ⟨g, c, cur, rfl, _⟩
  · exact ⟨_, _, _, rfl⟩
  · exact ⟨_, _, _, rfl⟩
/-- a slice of a text's bytes in a block of its own -/
def ToldF (w : World) (T : Text) (e : Ending) (w' : World) : Prop := ∃ g c, e = .returned (.slice (some ⟨g, 0, none⟩) T.length c) ∧ T.length ≤ c ∧ c ≤ maxLen ∧ Txt w' (some ⟨g, 0, none⟩) T ∧ Below w.heap.size w w'
theorem text_run_n (w : World) (A : Option Addr) (c n : Nat) (l : Text) (hn : l.length = n) (hT : Txt w A l) (hA : A = none → l = []) : (convert 51 9 (.slice A n c)).run Try.prog w = .ok (.string ⟨l.toArray⟩) w := by
  subst hn
  exact text_run w A c l hT hA
end Go.Proofs.Ytfjejiapafdgeaa

namespace Go.Proofs.Ytfjejiapafdgeaa
open Go.RowKit
set_option maxRecDepth 100000

theorem pageT : IsPage 128 := ⟨by kernel_rfl, by kernel_rfl, by kernel_rfl, by kernel_rfl⟩
/-- a page lies where a call's answer is kept -/
theorem results_page {fn : Func} {p : Tmp} (h : fn.results = #[.cell p 128]) (tmps : Array Value) (W : World) (g : Nat) (l : Text) (hl : l.length = 64) (hp : tmps.getD p undef = .pointer (some ⟨g, 0, none⟩)) (t : TypeId)
    (hc : W.heap[g]? = some (.cells (l.map cellOf).toArray t (0, 0))) : (results fn tmps).run Try.prog W = .ok (pageV l) W := by
  have hr := run_loadVar_mid (P := Try.prog) W g 0 128 (l.map cellOf) _ (by
    have := World.rangeAt_of_block hc 0 64
    have e : ((l.map cellOf).toArray.extract 0 (0 + 64)).toList = l.map cellOf := by
      simp only [Nat.zero_add, List.extract_toArray, List.extract_eq_take_drop, List.drop_zero, Nat.sub_zero]
      exact List.take_of_length_le (by simp [hl])
    rwa [e] at this) pageT.und rfl (page_info pageT l hl)
  have hp' : tmps[p]?.getD undef = .pointer (some ⟨g, 0, none⟩) := by simpa [Array.getD_eq_getD_getElem?] using hp
  have ha : (asAddr (tmps[p]?.getD undef)).run Try.prog W = .ok ⟨g, 0, none⟩ W := by rw [hp']; rfl
  simp [results, h, Sem.run_bind, ha, hr, pageV]
theorem code_concatT (L : List Text) (A : Option Addr) (c : Nat) (w : World) (h1 : 1 ≤ L.flatten.length) (h2 : L.flatten.length ≤ 4096) (hL : L.length ≤ 4096) (hT : TextRows w A L) :
    Calls Try.prog 96 #[.slice A L.length c] w (ToldF w L.flatten) := by
  refine (code_concat L A c w h1 h2 hL hT).mono ?_
  rintro e w' ⟨v, rfl, h⟩
  obtain ⟨g, c', rfl, x1, x2, x3, _⟩ := own_more h.1 h1
  exact ⟨g, c', rfl, x1, x2, x3, h.2⟩
theorem code_wrapT (l : Text) (A : Option Addr) (cap : Nat) (w : World) (hm : l.length ≤ 140737488351232) (hT : Txt w A l) (hA : A = none → l = []) :
    Calls Try.prog 95 #[.slice A l.length cap] w (ToldF w (wrapT l)) := by
  refine (code_wrap l A cap w hm hT hA).mono ?_
  rintro e w' ⟨g, c, rfl, ho, hb⟩
  obtain ⟨g', c', hv, x1, x2, x3, _⟩ := own_more ho (by rw [wrapT_length]; omega)
  injection hv with e1 e2 e3
  injection e1 with e1
  injection e1 with e1
  subst e1
  subst e3
  exact ⟨g, c, rfl, x1, x2, x3, hb⟩
set_option maxHeartbeats 1000000 in
theorem code_sealed (L : List Text) (A : Option Addr) (c : Nat) (w : World) (h1 : 1 ≤ L.flatten.length) (h2 : L.flatten.length ≤ 60) (hL : L.length ≤ 4096) (hT : TextRows w A L) :
    Calls Try.prog 88 #[.slice A L.length c] w fun e w' => e = .returned (pageV (overP zeros (wrapT L.flatten))) ∧ Below w.heap.size w w' := by
  have HT := Lib.hid hT
  have HZ0 : Hid (((w.alloc (.cells (zeros.map cellOf).toArray 128)).alloc (.cells (zeros.map cellOf).toArray 128)).heap[w.heap.size]? = some (.cells (zeros.map cellOf).toArray 128)) := Lib.hid (heap_on (below_alloc _ _) (heap_alloc_new w _))
  have HZ1 : Hid (((w.alloc (.cells (zeros.map cellOf).toArray 128)).alloc (.cells (zeros.map cellOf).toArray 128)).heap[w.heap.size + 1]? = some (.cells (zeros.map cellOf).toArray 128)) := Lib.hid (by have := heap_alloc_new (w.alloc (.cells (zeros.map cellOf).toArray 128)) (.cells (zeros.map cellOf).toArray 128); rwa [World.size_alloc] at this)
  have HBZ : Hid (Below w.heap.size w ((w.alloc (.cells (zeros.map cellOf).toArray 128)).alloc (.cells (zeros.map cellOf).toArray 128))) := Lib.hid (below_then (below_alloc w _) (below_alloc _ _))
  have HC : Hid (∀ W, TextRows W A L → Calls Try.prog 96 #[.slice A L.length c] W (ToldF W L.flatten)) := Lib.hid (fun W h => code_concatT L A c W h1 (by omega) hL h)
  obtain ⟨F, hF⟩ : ∃ F, F = L.flatten := ⟨_, rfl⟩
  rw [← hF] at HC h1 h2 ⊢
  have HLe : Hid (F.length ≤ 60 ∧ 1 ≤ F.length) := Lib.hid ⟨h2, h1⟩
  clear hT h1 h2 hF
  go_enter Try.func88, Try.ntmps88
  go_wp2_with (first
    | ((with_reducible refine wpList_alloc_page pageT (o := ⟨some 2, _, _, _, _, _⟩) ?a1 ?a2 ?_); (case a1 => rfl); (case a2 => rfl); (try simp only [Act.put, List.setIfInBounds_toArray, List.set_cons_zero, List.set_cons_succ]))
    | ((with_reducible refine wpList_alloc_page pageT (o := ⟨some 3, _, _, _, _, _⟩) ?a1 ?a2 ?_); (case a1 => rfl); (case a2 => rfl); (try simp only [Act.put, List.setIfInBounds_toArray, List.set_cons_zero, List.set_cons_succ])))
  rw [World.size_alloc]
  generalize (w.alloc (.cells (zeros.map cellOf).toArray 128)).alloc (.cells (zeros.map cellOf).toArray 128) = w2 at HZ0 HZ1 HBZ ⊢
  refine wp_region_held_drew (S := fun _ => True) (by kernel_rfl) trivial ?_
  intro hHeld
  (refine takeH (i := 0) (v := ?_) rfl (by kernel_rfl) (by kernel_rfl) (by kernel_rfl) (fun _ _ _ h => h) (Or.inl ⟨by rfl, ?_⟩) (by assumption) ?_; rotate_left; (focus ((intro wS hSw); (try dsimp only at hSw); skip; go_simp; (try with_reducible rfl); done)); (try simp only [Act.put, List.setIfInBounds_toArray, List.set_cons_zero, List.set_cons_succ]))
  (refine takeH (i := 1) (v := ?_) rfl (by kernel_rfl) (by kernel_rfl) (by kernel_rfl) (fun _ _ _ h => h) (Or.inl ⟨by rfl, ?_⟩) (by assumption) ?_; rotate_left; (focus ((intro wS hSw); (try dsimp only at hSw); skip; go_simp; (try with_reducible rfl); done)); (try simp only [Act.put, List.setIfInBounds_toArray, List.set_cons_zero, List.set_cons_succ]))
  refine aloneH (i := 2) rfl (by kernel_rfl) (fun K hK => ?_)
  rw [if_pos (by rfl)]
  go_simp; ((refine (HC.out _ ((HT.out.below HBZ.out).below (below_drew w2))).mono ?_); (rintro e w1 ⟨g6, c6, rfl, hc6, _, ht6, hb1⟩); have HT6 := Lib.hid ht6; have HB1 := Lib.hid hb1; clear ht6 hb1; (try go_simp))
  refine hK.out _ _ (trivial) (fun hNew => ?_)
  clear hK K hHeld; (have hHeld := hNew); clear hNew; (try simp only [Act.put, List.setIfInBounds_toArray, List.set_cons_zero, List.set_cons_succ])
  refine aloneH (i := 3) rfl (by kernel_rfl) (fun K hK => ?_)
  rw [if_pos (by rfl)]
  go_simp; ((refine (code_wrapT F (some ⟨g6, 0, none⟩) c6 w1 (by have := HLe.out.1; omega) HT6.out (by simp)).mono ?_); (rintro e w3 ⟨g7, c7, rfl, hc7, _, ht7, hb2⟩); have HT7 := Lib.hid ht7; have HB2 := Lib.hid hb2; clear ht7 hb2; (try go_simp))
  refine hK.out _ _ (trivial) (fun hNew => ?_)
  clear hK K hHeld; (have hHeld := hNew); clear hNew; (try simp only [Act.put, List.setIfInBounds_toArray, List.set_cons_zero, List.set_cons_succ])
  refine aloneH (i := 4) rfl (by kernel_rfl) (fun K hK => ?_)
  refine step_copy_page rfl (.tmp 4) (.tmp 7) rfl (w.heap.size + 1) 64 rfl (some ⟨g7, 0, none⟩) c7 _ (wrapT F) rfl rfl HT7.out zeros zeros_len _ (heap_on (below_then HB1.out HB2.out) HZ1.out) ?_
  intro w4 hg4 hb4
  have HB3 := Lib.hid hb4; have HG4 := Lib.hid hg4; clear hb4 hg4
  refine hK.out _ _ (trivial) (fun hNew => ?_)
  clear hK K hHeld; (have hHeld := hNew); clear hNew; (try simp only [Act.put, List.setIfInBounds_toArray, List.set_cons_zero, List.set_cons_succ])
  refine wpAnyH_done (by kernel_rfl) ?_ _
  skip
  have HG0 : Hid (w4.heap[w.heap.size]? = some (.cells (zeros.map cellOf).toArray 128)) := Lib.hid ((HB3.out.block w.heap.size (Nat.lt_succ_self _)).trans (heap_on (below_then HB1.out HB2.out) HZ0.out))
  have HF : Hid (Below w.heap.size w w4) := Lib.hid ((HBZ.out.drew.trans ((below_then HB1.out HB2.out).mono HBZ.out.size)).trans (HB3.out.mono (Nat.le_succ _)))
  have HLW : Hid ((overP zeros (wrapT F)).length = 64) := Lib.hid (overP_len zeros_len)
  go_wp2_with (first
    | ((with_reducible refine wpList_load_page pageT (o := ⟨some 9, _, _, _, _, _⟩) ?a1 (.tmp 3) ?a2 (w.heap.size + 1) ?a3 _ HLW.out _ _ HG4.out ?_); (case a1 => rfl); (case a2 => rfl); (case a3 => rfl); (try simp only [Act.put, List.setIfInBounds_toArray, List.set_cons_zero, List.set_cons_succ]))
    | ((with_reducible refine wpList_store_page pageT (o := ⟨none, _, _, _, _, _⟩) ?a1 (.tmp 2) (.tmp 9) ?a2 w.heap.size ?a3 _ HLW.out ?a4 _ ?a5 _ HG0.out ?_); (case a1 => rfl); (case a2 => rfl); (case a3 => rfl); (case a4 => rfl); (case a5 => simp [zeros]); (try simp only [Act.put])))
  refine bodyPost_ret (results_page rfl _ _ w.heap.size _ HLW.out rfl _ (setRow_heap _ _ _ _ _ _ HG0.out)) rfl ⟨rfl, ?_⟩
  exact below_setRow HF.out (Nat.le_refl _) _
end Go.Proofs.Ytfjejiapafdgeaa
