/- Reading only takes tokens away. Sums and differences. -/
import Derived.Test.YtpapcnogbmjpjaaGreatDoorK16
namespace Go.Proofs.YtpapcnogbmjpjaaGreatDoor
open Go.RowKit
set_option maxRecDepth 100000
set_option linter.unusedSimpArgs false
set_option linter.unusedVariables false
attribute [local go_sem] Oper.semAt_some

theorem skip_len {x : ByteArray} {s s1 : Rd} (h : skipP x s = some s1) : s1.T.length < s.T.length := by
  obtain ⟨t, L, h1, _, rfl⟩ := skip_some h
  rw [h1]
  exact Nat.lt_succ_self _
theorem take_len {en : Int} {s s1 : Rd} {t : TokV} (h : takeP' 2 en s = .ok t s1) : s1.T.length < s.T.length := by
  obtain ⟨L, h1, _, rfl⟩ := tak_yes h
  rw [h1]
  exact Nat.lt_succ_self _
theorem boxN_len {en n : Int} {s s1 : Rd} (h : boxNP en s = .ok n s1) : s1.T.length < s.T.length := by
  unfold boxNP at h
  cases ht : takeP' 2 en s with
  | ok t s2 =>
    simp only [ht] at h
    injection h with _ h
    subst h
    have h2 : s2.T.length < s.T.length := take_len ht
    exact h2
  | flt a k => simp only [ht] at h; cases h
  | out => simp only [ht] at h; cases h
theorem less_all (G : Gr) (hG : ∀ s x s1, G.total s = .ok x s1 → s1.T.length ≤ s.T.length) : ∀ f : Nat,
    (∀ d s x s1, termP G f d s = .ok x s1 → s1.T.length ≤ s.T.length) ∧ (∀ d s x s1, primP G f d s = .ok x s1 → s1.T.length ≤ s.T.length) ∧
    (∀ m d b s l s1, brackP G f m d b s = .ok l s1 → s1.T.length ≤ s.T.length) ∧ (∀ d s x s1, exprP G f d s = .ok x s1 → s1.T.length ≤ s.T.length) ∧
    (∀ d y s x s1, loopP G f d y s = .ok x s1 → s1.T.length ≤ s.T.length) := by
  intro f
  induction f with
  | zero =>
    refine ⟨?_, ?_, ?_, ?_, ?_⟩
    · intro d s x s1 h; unfold termP at h; cases h
    · intro d s x s1 h; unfold primP at h; cases h
    · intro m d b s l s1 h; unfold brackP at h; cases h
    · intro d s x s1 h; unfold exprP at h; cases h
    · intro d y s x s1 h; unfold loopP at h; cases h
  | succ f ih =>
    obtain ⟨iT, iP, iB, iE, iL⟩ := ih
    refine ⟨?_, ?_, ?_, ?_, ?_⟩
    · intro d s x s1 h
      unfold termP at h
      split at h
      · cases h
      · split at h
        · rename_i s2 hs
          have h1 := skip_len hs
          split at h
          · rename_i y s3 ht
            have h2 := iT _ _ _ _ ht
            injection h with _ h
            subst h
            omega
          · cases h
          · cases h
        · exact iP _ _ _ _ h
    · intro d s x s1 h
      unfold primP at h
      split at h
      · rename_i s2 hs
        have h1 := skip_len hs
        split at h
        · rename_i y s3 ht
          have h2 := boxN_len ht
          injection h with _ h
          subst h
          omega
        · cases h
        · cases h
      split at h
      · rename_i s2 hs
        have h1 := skip_len hs
        have h2 := hG _ _ _ h
        omega
      split at h
      · rename_i s2 hs
        have h1 := skip_len hs
        split at h
        · rename_i y s3 ht
          have h2 := iB _ _ _ _ _ _ ht
          injection h with _ h
          subst h
          omega
        · cases h
        · cases h
      split at h
      · rename_i s2 hs
        have h1 := skip_len hs
        split at h
        · rename_i y s3 ht
          have h2 := iB _ _ _ _ _ _ ht
          injection h with _ h
          subst h
          omega
        · cases h
        · cases h
      split at h
      · rename_i s2 hs
        have h1 := skip_len hs
        split at h
        · rename_i y s3 ht
          have h2 := iB _ _ _ _ _ _ ht
          injection h with _ h
          subst h
          omega
        · cases h
        · cases h
      split at h
      · split at h
        · rename_i y s3 ht
          have h2 := iB _ _ _ _ _ _ ht
          injection h with _ h
          subst h
          omega
        · cases h
        · cases h
      · split at h
        · rename_i y s3 ht
          have h2 := take_len ht
          injection h with _ h
          subst h
          omega
        · cases h
        · cases h
    · intro m d b s l s1 h
      cases m with
      | zero =>
        unfold brackP at h
        split at h
        · rename_i s2 hs
          have h1 := skip_len hs
          injection h with _ h
          subst h
          omega
        · cases h
      | succ m =>
        unfold brackP at h
        split at h
        · rename_i s2 hs
          have h1 := skip_len hs
          split at h
          · rename_i y s3 ht
            have h2 := iE _ _ _ _ ht
            split at h
            · rename_i y s4 hb
              have h3 := iB _ _ _ _ _ _ hb
              injection h with _ h
              subst h
              omega
            · cases h
            · cases h
          · cases h
          · cases h
        · cases h
    · intro d s x s1 h
      unfold exprP at h
      split at h
      · rename_i y s3 ht
        have h2 := iT _ _ _ _ ht
        have h3 := iL _ _ _ _ _ h
        omega
      · cases h
      · cases h
    · intro d y s x s1 h
      unfold loopP at h
      split at h
      · rename_i s2 hs
        have h1 := skip_len hs
        split at h
        · rename_i y s3 ht
          have h2 := iT _ _ _ _ ht
          have h3 := iL _ _ _ _ _ h
          omega
        · cases h
        · cases h
      split at h
      · rename_i s2 hs
        have h1 := skip_len hs
        split at h
        · rename_i y s3 ht
          have h2 := iT _ _ _ _ ht
          have h3 := iL _ _ _ _ _ h
          omega
        · cases h
        · cases h
      · injection h with _ h
        subst h
        omega
/-- how many tokens are left, in memory -/
def lenOf : Option Value → Nat
  | some (Value.slice _ n _) => n
  | _ => 0
def leftR (R : Nat) (w : World) : Nat := match w.heap[R]? with
  | some (Obj.cells cs _ _) => lenOf cs[0]?
  | _ => 0
theorem RdAt.left {w : World} {R : Nat} {en : Int} {s : Rd} (h : RdAt w R en s) : leftR R w = s.T.length := by
  obtain ⟨A, c, h1, _⟩ := h
  unfold leftR
  rw [h1]
  rfl
end Go.Proofs.YtpapcnogbmjpjaaGreatDoor

namespace Go.Proofs.YtpapcnogbmjpjaaGreatDoor
open Go.RowKit
set_option maxRecDepth 100000
set_option linter.unusedSimpArgs false
set_option linter.unusedVariables false
attribute [local go_sem] Oper.semAt_some

theorem TreeQ.chgN {B g : Nat} {w w' : World} {t : Tr} {s : Sh} (h : TreeQ B w t s) (hB : g ∉ bT t) {cs : Array Value} (hg : w.heap[g]? = some (.cells cs 32 (0, 0))) (hc : Chg g w w') : TreeQ B w' t s :=
  ⟨h.at_.on t (fun k hk => hc.heap (AtT.lt t h.at_ k hk) (fun e => hB (e ▸ hk))) hc.size, h.nd, h.ge, h.sh.keep (fun g' cs' hg' => (hc.heap (heapLt hg') (fun e => by
    rw [e, hg] at hg'
    injection hg' with hg'
    injection hg' with _ h2 _
    exact absurd h2 (by decide))).trans hg') t s⟩
theorem ten_one {k n : Int} {fd : ByteArray} {fA : Option Addr} {fn fc : Nat} {kv : Value} {k2 n2 : Int} {fd2 : ByteArray} {fA2 : Option Addr} {fn2 fc2 : Nat} {kv2 : Value} (h : kv.oneCell' = true) (h2 : kv2.oneCell' = true) : ∀ v ∈ [.int .i64 k, .int .i64 n, .string fd, .slice fA fn fc, kv, .int .i64 k2, .int .i64 n2, .string fd2, .slice fA2 fn2 fc2, kv2], v.oneCell' = true := by
  intro v hv
  simp only [List.mem_cons, List.not_mem_nil, or_false] at hv
  rcases hv with rfl | rfl | rfl | rfl | rfl | rfl | rfl | rfl | rfl | rfl
  · rfl
  · rfl
  · rfl
  · rfl
  · exact h
  · rfl
  · rfl
  · rfl
  · rfl
  · exact h2
/-- what the loop keeps -/
structure LoopQ (R : Nat) (en : Int) (B g5 : Nat) (w0 w : World) (t : Tr) (X : Sh) (s : Rd) : Prop where
  tree : TreeQ B w t X
  off : g5 ∉ bT t
  rd : RdAt w R en s
  chg : Chg R w0 w
theorem loopQ_next {R B g5 gS : Nat} {en : Int} {w0 wr wd w2 q w4 x5 : World} {k n k2 n2 : Int} {fd fd2 : ByteArray} {fA fA2 : Option Addr} {fn fc fn2 fc2 kb kc kb2 kc2 : Nat} {ks ks2 : List Tr} {kv kv2 : Value} {X y : Sh} {s s3 : Rd} (h : LoopQ R en B g5 w0 wr (.mk k n fd fA fn fc kb kc ks) X s)
    (hkv : Hid (kv = kidsV kb kc ks)) (hkv2 : Hid (kv2 = kidsV kb2 kc2 ks2)) (hRB : R < B) (hB : B ≤ wr.heap.size) (hw0 : w0.heap.size ≤ g5) (hR : R < w0.heap.size) {s2 : Rd} (hrw : RdAt wd R en s2) (hc1 : Chg R wr wd) (hg5 : g5 < wr.heap.size)
    (ht2 : TreeQ wd.heap.size w2 (.mk k2 n2 fd2 fA2 fn2 fc2 kb2 kc2 ks2) y) (hr2 : RdAt w2 R en s3) (hcy : Chg R wd w2) (hS : gS = w2.heap.size) (hb1 : Below w2.heap.size w2 q) (ha : q.heap[gS]? = some (.cells #[.int .i64 k, .int .i64 n, .string fd, .slice fA fn fc, kv, .int .i64 k2, .int .i64 n2, .string fd2, .slice fA2 fn2 fc2, kv2] 32 (0, 0))) (hb2 : Below q.heap.size q w4)
    (hx : w4.heap[g5]? = some (.cells #[.int .i64 k, .int .i64 n, .string fd, .slice fA fn fc, kv] 32 (0, 0))) (hcg : Chg g5 w4 x5) (kind : Int) : LoopQ R en B g5 w0 x5 (.mk kind 0 ⟨#[]⟩ none 0 0 gS 2 [.mk k n fd fA fn fc kb kc ks, .mk k2 n2 fd2 fA2 fn2 fc2 kb2 kc2 ks2]) (nodeS kind [X, y]) s3 := by
  have hb := below_then hb1 hb2
  obtain ⟨cs, hrd⟩ := rd_block h.rd
  obtain ⟨cs1, hrd1⟩ := rd_block hrw
  have t1 := h.tree.chg hRB hrd hc1
  have t2 := t1.chg hRB hrd1 hcy
  have hlt : ∀ b ∈ bT (.mk k n fd fA fn fc kb kc ks), b < wd.heap.size := fun b hb => AtT.lt _ t1.at_ b hb
  have l2 := TreesQ.two t2 ht2 (Nat.le_trans hB hc1.size) hlt
  have l4 := l2.on hb
  have hn : gS ∉ bL [.mk k n fd fA fn fc kb kc ks, .mk k2 n2 fd2 fA2 fn2 fc2 kb2 kc2 ks2] := fun hm => by
    have := AtL.lt _ l2.at_ gS hm
    omega
  have hg5S : g5 ≠ gS := by have := hc1.size; have := hcy.size; omega
  have hrow : RowTr w4 gS [.mk k n fd fA fn fc kb kc ks, .mk k2 n2 fd2 fA2 fn2 fc2 kb2 kc2 ks2] := row_tree (heap_on hb2 ha) (by rw [hkv.out, hkv2.out]; rfl)
  have t4 := node_tree (kc := 2) kind l4 hrow (by have := hc1.size; have := hcy.size; omega) hn (Nat.le_refl _) (by decide)
  have hoff : g5 ∉ bT (.mk kind 0 ⟨#[]⟩ none 0 0 gS 2 [.mk k n fd fA fn fc kb kc ks, .mk k2 n2 fd2 fA2 fn2 fc2 kb2 kc2 ks2]) := fun hm => by
    unfold bT bK at hm
    rcases List.mem_cons.1 hm with e | hm
    · exact hg5S e
    simp only [bL, List.append_nil, List.mem_append] at hm
    rcases hm with hm | hm
    · exact h.off hm
    · have := ht2.ge g5 hm
      have := hc1.size
      omega
  refine ⟨t4.chgN hoff hx hcg, hoff, ?_, ?_⟩
  · have hk : ∃ A n c, kv = .slice A n c := by rw [hkv.out]; cases ks <;> exact ⟨_, _, _, rfl⟩
    exact (hr2.on hb).row5 ⟨_, _, _, rfl⟩ hk hx (by omega) hcg
  · exact (((h.chg.trans hc1).trans hcy).trans (Chg.of hb)).over hcg hw0
end Go.Proofs.YtpapcnogbmjpjaaGreatDoor
