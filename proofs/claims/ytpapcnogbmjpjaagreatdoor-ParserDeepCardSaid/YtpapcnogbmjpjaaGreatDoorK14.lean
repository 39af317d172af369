/- Nodes, and terms. -/
import Derived.Test.YtpapcnogbmjpjaaGreatDoorK13
namespace Go.Proofs.YtpapcnogbmjpjaaGreatDoor
open Go.RowKit
set_option maxRecDepth 100000
set_option linter.unusedSimpArgs false
set_option linter.unusedVariables false
attribute [local go_sem] Oper.semAt_some

/-- trees that were read, side by side -/
structure TreesQ (B : Nat) (w : World) (l : List Tr) (s : List Sh) : Prop where
  at_ : AtL w l
  nd : (bL l).Nodup
  ge : ∀ b ∈ bL l, B ≤ b
  sh : ShowsL w l s
theorem TreesQ.one {B : Nat} {w : World} {t : Tr} {s : Sh} (h : TreeQ B w t s) : TreesQ B w [t] [s] :=
  ⟨by unfold AtL AtL; exact ⟨h.at_, trivial⟩, by simpa [bL] using h.nd, by simpa [bL] using h.ge, by unfold ShowsL ShowsL; exact ⟨h.sh, trivial⟩⟩
theorem TreesQ.two {B B' : Nat} {w : World} {t u : Tr} {s r : Sh} (h : TreeQ B w t s) (k : TreeQ B' w u r) (hB : B ≤ B') (hlt : ∀ b ∈ bT t, b < B') : TreesQ B w [t, u] [s, r] := by
  refine ⟨?_, ?_, ?_, ?_⟩
  · unfold AtL AtL AtL; exact ⟨h.at_, k.at_, trivial⟩
  · simp only [bL, List.append_nil]
    refine List.nodup_append.2 ⟨h.nd, k.nd, fun a ha b hb e => ?_⟩
    have h1 := hlt a ha
    have h2 := k.ge b hb
    omega
  · intro b hb
    simp only [bL, List.append_nil, List.mem_append] at hb
    rcases hb with hb | hb
    · exact h.ge b hb
    · exact Nat.le_trans hB (k.ge b hb)
  · unfold ShowsL ShowsL ShowsL; exact ⟨h.sh, k.sh, trivial⟩
theorem TreesQ.on {B : Nat} {w w' : World} {l : List Tr} {s : List Sh} (h : TreesQ B w l s) (hb : Below w.heap.size w w') : TreesQ B w' l s :=
  ⟨h.at_.on l (fun k hk => hb.block k (AtL.lt l h.at_ k hk)) hb.size, h.nd, h.ge, h.sh.keep (fun g cs' hg => heap_on hb hg) l s⟩
/-- a node over trees that lie in a row of their own -/
theorem node_tree {B kb kc : Nat} {w : World} {l : List Tr} {s : List Sh} (k : Int) (h : TreesQ B w l s) (hr : RowTr w kb l) (hB : B ≤ kb) (hn : kb ∉ bL l) (hl : l.length ≤ kc) (hm : kc ≤ maxLen) : TreeQ B w (.mk k 0 ⟨#[]⟩ none 0 0 kb kc l) (nodeS k s) := by
  refine ⟨?_, ?_, ?_, ?_⟩
  · unfold AtT; exact ⟨h.at_, fun _ => ⟨hr, hl, hm⟩⟩
  · unfold bT
    cases l with
    | nil => simp [bK]
    | cons a b => exact List.nodup_cons.2 ⟨hn, h.nd⟩
  · intro b hb
    unfold bT at hb
    cases l with
    | nil => simp [bK] at hb
    | cons a c =>
      rcases List.mem_cons.1 hb with rfl | hb
      · exact hB
      · exact h.ge b hb
  · unfold nodeS Shows; exact ⟨rfl, rfl, rfl, .inl ⟨rfl, rfl, rfl, rfl⟩, h.sh⟩
theorem row_tree {w : World} {kb : Nat} {l : List Tr} {cs : Array Value} (h : w.heap[kb]? = some (.cells cs 32 (0, 0))) (hc : cs.toList = exCs l) : RowTr w kb l := ⟨cs, h, fun j v hv => by rw [← hc] at hv; simpa using hv⟩
/-- what reading a tree comes to, in memory -/
def OutQ (R : Nat) (en : Int) (w : World) (r : PR Sh) (e : Ending) (w' : World) : Prop := match r with
  | .ok sh s => ∃ k n f fA fn fc kv kb kc ks, e = .returned (.agg #[.int .i64 k, .int .i64 n, .string f, .slice fA fn fc, kv]) ∧ Hid (kv = kidsV kb kc ks) ∧ TreeQ w.heap.size w' (.mk k n f fA fn fc kb kc ks) sh ∧ RdAt w' R en s ∧ Chg R w w'
  | .flt a k => Flt e a k ∧ Chg R w w'
  | .out => True
theorem OutQ.fault {R : Nat} {en a k : Int} {w w' : World} {e : Ending} (h1 : Flt e a k) (h2 : Chg R w w') : OutQ R en w (.flt a k) e w' := ⟨h1, h2⟩
/-- the tree that came, spelt out -/
def OkQ (R : Nat) (en : Int) (w : World) (sh : Sh) (s : Rd) (e : Ending) (w' : World) : Prop := ∃ k n f fA fn fc kv kb kc ks, e = .returned (.agg #[.int .i64 k, .int .i64 n, .string f, .slice fA fn fc, kv]) ∧ Hid (kv = kidsV kb kc ks) ∧ TreeQ w.heap.size w' (.mk k n f fA fn fc kb kc ks) sh ∧ RdAt w' R en s ∧ Chg R w w'
theorem Chg.over {m g : Nat} {a b c : World} (h : Chg m a b) (k : Chg g b c) (hg : a.heap.size ≤ g) : Chg m a c :=
  ⟨k.os.trans h.os, k.tape.trans h.tape, k.output.trans h.output, Nat.le_trans h.size k.size, fun i hi hr => (k.heap (Nat.lt_of_lt_of_le hi h.size) (by omega)).trans (h.block i hi hr)⟩
theorem OutQ.low {R : Nat} {en : Int} {w0 w : World} {r : PR Sh} {e : Ending} {w' : World} (h : OutQ R en w r e w') (hc : Chg R w0 w) : OutQ R en w0 r e w' := by
  cases r with
  | ok sh s =>
    obtain ⟨k, n, f, fA, fn, fc, kv, kb, kc, ks, h1, h2, h3, h4, h5⟩ := h
    exact ⟨k, n, f, fA, fn, fc, kv, kb, kc, ks, h1, h2, h3.less hc.size, h4, hc.trans h5⟩
  | flt a k => exact ⟨h.1, hc.trans h.2⟩
  | out => trivial
def TermC (G : Gr) (R f : Nat) : Prop := ∀ (d : Nat) (s : Rd) (w : World), d ≤ 64 → RdAt w R G.en s → termP G f d s ≠ .out → Calls Tryz.prog 62 #[.pointer (some ⟨R, 0, none⟩), .int .i64 (d : Nat)] w (OutQ R G.en w (termP G f d s))
def PrimC (G : Gr) (R f : Nat) : Prop := ∀ (d : Nat) (s : Rd) (w : World), d ≤ 64 → RdAt w R G.en s → primP G f d s ≠ .out → Calls Tryz.prog 86 #[.pointer (some ⟨R, 0, none⟩), .int .i64 (d : Nat)] w (OutQ R G.en w (primP G f d s))
theorem skip_some {x : ByteArray} {s s1 : Rd} (h : skipP x s = some s1) : ∃ t L, s.T = t :: L ∧ t.2.2.1 = x ∧ s1 = { s with T := L } := by
  unfold skipP at h
  cases hT : s.T with
  | nil => rw [hT] at h; cases h
  | cons t L =>
    rw [hT] at h
    dsimp only at h
    by_cases e : t.2.2.1 = x
    · rw [if_pos e] at h
      exact ⟨t, L, rfl, e, (Option.some.inj h).symm⟩
    · rw [if_neg e] at h; cases h
theorem skip_none {x : ByteArray} {s : Rd} (hx : x ≠ ⟨#[]⟩) (h : skipP x s = none) (en : Int) : (nextT en s).2.2.1 ≠ x := by
  unfold skipP at h
  unfold nextT
  cases hT : s.T with
  | nil => exact fun e => hx e.symm
  | cons t L =>
    rw [hT] at h
    dsimp only at h
    by_cases e : t.2.2.1 = x
    · rw [if_pos e] at h; cases h
    · exact e
/-- a skip, as the grammar tells it -/
theorem code_skip {w : World} {R : Nat} {en : Int} {s : Rd} (h : RdAt w R en s) (x : ByteArray) (hx : x ≠ ⟨#[]⟩) : Calls Tryz.prog 56 #[.pointer (some ⟨R, 0, none⟩), .string x] w fun e w' => e = .returned (.bool (skipP x s).isSome) ∧ RdAt w' R en ((skipP x s).getD s) ∧ Chg R w w' := by
  cases hs : skipP x s with
  | none =>
    refine (code_skip_no h _ rfl x (skip_none hx hs en)).mono ?_
    rintro e w' ⟨h1, h2⟩
    exact ⟨h1, h.on h2, Chg.of h2⟩
  | some s1 =>
    obtain ⟨t, L, hT, ht, rfl⟩ := skip_some hs
    refine (code_skip_yes h hT x ht).mono ?_
    rintro e w' ⟨h1, h2, h3⟩
    exact ⟨h1, h2, h3⟩
theorem kids_one (kb kc : Nat) (ks : List Tr) : (kidsV kb kc ks).oneCell' = true := by cases ks <;> simp [kidsV, Value.oneCell']
theorem RdAt.row {w w' : World} {R g : Nat} {en : Int} {s : Rd} (h : RdAt w R en s) {cs : Array Value} (hg : w.heap[g]? = some (Obj.cells cs 32 (0, 0))) (hR : R ≠ g) (hs : w.heap.size ≤ w'.heap.size) (hc : ∀ k, k < w.heap.size → k ≠ g → w'.heap[k]? = w.heap[k]?) : RdAt w' R en s := by
  obtain ⟨A, k, h1, h2, h3, h4, h5, h6, h7⟩ := h
  refine ⟨A, k, (hc R (heapLt h1) hR).trans h1, ?_, ?_, h4, h5, h6, h7⟩
  · intro hn
    obtain ⟨b', o', e, hlt, hcs⟩ := h2 hn
    have hne : b' ≠ g := (h3 b' o' e).off hg (by decide)
    refine ⟨b', o', e, Nat.lt_of_lt_of_le hlt hs, fun j v hv => ?_⟩
    rw [World.cell?_of_block (hc b' (by simpa using hlt) hne)]
    exact hcs j v hv
  · intro b o e
    have ht := h3 b o e
    have hne : b ≠ g := ht.off hg (by decide)
    obtain ⟨cs', hcs⟩ := ht
    exact ⟨cs', (hc b (heapLt hcs) hne).trans hcs⟩
theorem RdAt.row5 {w w' : World} {R g : Nat} {en : Int} {s : Rd} (h : RdAt w R en s) {a b : Int} {c : ByteArray} {s1 s2 : Value} (hs1 : ∃ A n k, s1 = .slice A n k) (hs2 : ∃ A n k, s2 = .slice A n k) (hg : w.heap[g]? = some (.cells #[.int .i64 a, .int .i64 b, .string c, s1, s2] 32 (0, 0))) (hR : R ≠ g) (hc : Chg g w w') : RdAt w' R en s :=
  h.row hg hR hc.size (fun k hk hne => hc.heap hk hne)
theorem TreeQ.chgE {B g : Nat} {w w' : World} {t : Tr} {s : Sh} (h : TreeQ B w t s) (hB : g < B) {cs : Array Value} (hg : w.heap[g]? = some (.cells cs 32 (0, 0))) (hc : Chg g w w') : TreeQ B w' t s :=
  ⟨h.at_.on t (fun k hk => hc.heap (AtT.lt t h.at_ k hk) (by have := h.ge k hk; omega)) hc.size, h.nd, h.ge, h.sh.keep (fun g' cs' hg' => (hc.heap (heapLt hg') (fun e => by
    rw [e, hg] at hg'
    injection hg' with hg'
    injection hg' with _ h2 _
    exact absurd h2 (by decide))).trans hg') t s⟩
theorem setRow_chg (w : World) (g : Nat) (vs : Array Value) : Chg g w (w.setRow g vs) := ⟨rfl, rfl, rfl, by rw [setRow_size]; exact Nat.le_refl _, fun k _ hr => setRow_other w g k vs (fun e => hr (by rw [e]))⟩
set_option maxHeartbeats 4000000 in
theorem term_step (G : Gr) (R f : Nat) (hT : TermC G R f) (hP : PrimC G R f) : TermC G R (f + 1) := by
  intro d s w hd hr hne
  have HTc := Lib.hid hT
  have HPc := Lib.hid hP
  have HR := Lib.hid hr
  have hB0 := below_alloc w (.cells #[.int .i64 0, .int .i64 0, .string ⟨#[]⟩, .slice none 0 0, .slice none 0 0] 32)
  have H0 := Lib.hid (heap_alloc_new w (.cells #[.int .i64 0, .int .i64 0, .string ⟨#[]⟩, .slice none 0 0, .slice none 0 0] 32))
  have HR0 := Lib.hid (hr.on hB0)
  have HB0 := Lib.hid hB0
  have HRl := Lib.hid hr.lt
  clear hT hP hr hB0
  unfold termP at hne ⊢
  by_cases h64 : d = 64
  · subst h64
    rw [if_pos rfl]
    have HRa := Lib.hid (code_raise HR0.out _ rfl 82)
    clear hne
    go_enter Tryz.func62, Tryz.ntmps62
    go_wp2_with (go_at_call 64; refine HRa.out.mono ?_; rintro e w' ⟨rfl, hB⟩; refine Stop.out ?_)
    unfold Stop
    first | exact ⟨rfl, OutQ.fault rfl (Chg.of (below_then HB0.out hB))⟩ | (go_wp2; exact ⟨rfl, OutQ.fault rfl (Chg.of (below_then HB0.out hB))⟩)
  · rw [if_neg h64] at hne ⊢
    have hdz : (d : Int) < 64 := by omega
    have hdn : ((d : Int) == 64) = false := by simp; omega
    have HD : Hid (d + 1 ≤ 64) := Lib.hid (by omega)
    have HSk := Lib.hid (code_skip HR0.out miB (by decide))
    clear h64
    cases hs : skipP miB s with
    | some s1 =>
      rw [hs] at HSk
      rw [hs] at hne
      simp only [Option.isSome_some, Option.getD_some] at HSk hne
      dsimp only
      clear hs
      obtain ⟨r, hr⟩ : ∃ r, r = termP G f (d + 1) s1 := ⟨_, rfl⟩
      have HRe := Lib.hid hr
      rw [← hr] at hne ⊢
      clear hr
      cases r with
      | out => exact absurd rfl hne
      | flt a k =>
        go_enter Tryz.func62, Tryz.ntmps62
        go_wp2_with (go_at_call 56; refine HSk.out.mono ?_; rintro e w2 ⟨rfl, hr, hc⟩; refine Stop.out ?_)
        unfold Stop
        have HC2 : Hid (Chg R w w2) := Lib.hid (Chg.trans (Chg.of HB0.out) hc)
        have HG2 := Lib.hid ((hc.heap (heapLt H0.out) (by have := HRl.out; omega)).trans H0.out)
        have hcall := HTc.out (d + 1) s1 w2 HD.out hr
        have hcast : (((d + 1 : Nat) : Int)) = (d : Int) + 1 := by omega
        rw [hcast, ← HRe.out] at hcall
        clear hr hc HSk H0 HR0 HB0
        obtain ⟨g, hg⟩ : ∃ g, g = w.heap.size := ⟨_, rfl⟩
        have HGs := Lib.hid hg
        rw [← hg] at HG2 ⊢
        clear hg hcast
        have HCl := Lib.hid (hcall (fun e => by cases e))
        clear hcall hne
        go_wp2_with (go_at_call 62; refine HCl.out.mono ?_; rintro e w3 ⟨rfl, hB⟩; refine Stop.out ?_)
        unfold Stop
        first | exact ⟨rfl, OutQ.fault rfl (HC2.out.trans hB)⟩ | (go_wp2; exact ⟨rfl, OutQ.fault rfl (HC2.out.trans hB)⟩)
      | ok x s2 =>
        go_enter Tryz.func62, Tryz.ntmps62
        go_wp2_with (go_at_call 56; refine HSk.out.mono ?_; rintro e w2 ⟨rfl, hr, hc⟩; refine Stop.out ?_)
        unfold Stop
        have HC2 : Hid (Chg R w w2) := Lib.hid (Chg.trans (Chg.of HB0.out) hc)
        have HG2 := Lib.hid ((hc.heap (heapLt H0.out) (by have := HRl.out; omega)).trans H0.out)
        have hcall := HTc.out (d + 1) s1 w2 HD.out hr
        have hcast : (((d + 1 : Nat) : Int)) = (d : Int) + 1 := by omega
        rw [hcast, ← HRe.out] at hcall
        clear hr hc HSk H0 HR0 HB0
        obtain ⟨g, hg⟩ : ∃ g, g = w.heap.size := ⟨_, rfl⟩
        have HGs := Lib.hid hg
        rw [← hg] at HG2 ⊢
        clear hg hcast
        have HCl := Lib.hid (hcall (fun e => by cases e))
        clear hcall hne
        go_wp2_with (go_at_call 62; refine HCl.out.mono ?_; rintro e w3 ⟨k, n, fd, fA, fn, fc, kv, kb, kc, ks, rfl, hkv, ht, hr, hc⟩; refine Stop.out ?_)
        unfold Stop
        have HTq := Lib.hid ht
        have HRd := Lib.hid hr
        have HC3 := Lib.hid (HC2.out.trans hc)
        have HS23 : Hid (w2.heap.size ≤ w3.heap.size) := Lib.hid hc.size
        have hone := kids_one kb kc ks
        rw [← hkv.out] at hone
        have HKv := hkv
        have HG3 := Lib.hid ((hc.heap (heapLt HG2.out) (by have := HRl.out; have := HGs.out; omega)).trans HG2.out)
        have hka := heap_alloc_new w3 (.cells #[.int .i64 k, .int .i64 n, .string fd, .slice fA fn fc, kv] 32)
        have hkb := below_alloc w3 (.cells #[.int .i64 k, .int .i64 n, .string fd, .slice fA fn fc, kv] 32)
        have HKa := Lib.hid hka
        have HKb := Lib.hid hkb
        have HNd := Lib.hid (code_node (w3.alloc (.cells #[.int .i64 k, .int .i64 n, .string fd, .slice fA fn fc, kv] 32)) 6 (some ⟨w3.heap.size, 0, none⟩) 1 1)
        clear ht hr hc hkv hka hkb HCl
        go_wp2_with (go_at_call 63; refine HNd.out.mono ?_; rintro e w4 ⟨rfl, hb⟩; refine Stop.out ?_)
        unfold Stop
        have HB4 := Lib.hid (below_then HKb.out hb)
        have HG4 := Lib.hid (heap_on HB4.out HG3.out)
        have HK4 := Lib.hid (heap_on hb HKa.out)
        clear hb HNd HKa HKb
        go_wp2_with ((with_reducible refine wpList_store_row (o := ⟨none, _, _, _, _, _⟩) 32 ?b0 (.tmp 4) (.tmp 16) ?b1 g ?b2 [.int .i64 6, .int .i64 0, .string ⟨#[]⟩, .slice none 0 0, .slice (some ⟨w3.heap.size, 0, none⟩) 1 1] ?b3 ?b4 ?b5 #[.int .i64 0, .int .i64 0, .string ⟨#[]⟩, .slice none 0 0, .slice none 0 0] ?b6 32 ?b7 ?_); (case b0 => rfl); (case b1 => rfl); (case b2 => rfl); (case b3 => exact expr_info); (case b4 => simp [Value.oneCell']); (case b5 => rfl); (case b6 => rfl); (case b7 => exact HG4.out); (try simp only [Act.put]); refine Stop.out ?_)
        unfold Stop
        have HRw := Lib.hid (row_then (g := g) (new := #[.int .i64 6, .int .i64 0, .string ⟨#[]⟩, .slice none 0 0, .slice (some ⟨w3.heap.size, 0, none⟩) 1 1]) HG4.out rfl rfl)
        have HCg := Lib.hid (setRow_chg w4 g #[.int .i64 6, .int .i64 0, .string ⟨#[]⟩, .slice none 0 0, .slice (some ⟨w3.heap.size, 0, none⟩) 1 1])
        clear HG3
        generalize World.setRow _ _ _ = w5 at HRw HCg ⊢
        have HFin : Hid (OutQ R G.en w (.ok (nodeS 6 [x]) s2) (.returned (.agg #[.int .i64 6, .int .i64 0, .string ⟨#[]⟩, .slice none 0 0, .slice (some ⟨w3.heap.size, 0, none⟩) 1 1])) w5) := Lib.hid (by
          have hgw : g < w2.heap.size := by have := heapLt HG2.out; exact this
          have ht4 := (HTq.out.on HB4.out).chgE hgw HG4.out HCg.out
          have hkn : g ≠ w3.heap.size := by have := heapLt HG2.out; have := HTq.out; have := HC3.out.size; intro e; have h1 := heapLt HG2.out; have h2 : w2.heap.size ≤ w3.heap.size := HS23.out; omega
          have hrow : RowTr w5 w3.heap.size [.mk k n fd fA fn fc kb kc ks] := row_tree ((HCg.out.heap (heapLt HK4.out) (Ne.symm hkn)).trans HK4.out) (by rw [HKv.out]; rfl)
          refine ⟨6, 0, _, _, _, _, _, w3.heap.size, 1, [.mk k n fd fA fn fc kb kc ks], rfl, Lib.hid rfl, ?_, ?_, ?_⟩
          · refine (node_tree (kc := 1) 6 (TreesQ.one ht4) hrow (by have := HS23.out; omega) ?_ (Nat.le_refl _) (by decide)).less (by have := HC2.out.size; omega)
            simp only [bL, List.append_nil]
            intro hx
            have := AtT.lt _ HTq.out.at_ _ hx
            omega
          · exact (HRd.out.on HB4.out).row5 ⟨_, _, _, rfl⟩ ⟨_, _, _, rfl⟩ HG4.out (by have := HRl.out; have := HGs.out; omega) HCg.out
          · exact (HC3.out.trans (Chg.of HB4.out)).over HCg.out (by rw [HGs.out]; exact Nat.le_refl _))
        clear HK4 HG4 HCg HB4 HTq HRd
        go_wp2
        exact bodyPost_ret (results_cell_row Tryz.results62 _ _ g 32 #[.int .i64 6, .int .i64 0, .string ⟨#[]⟩, .slice none 0 0, .slice (some ⟨w3.heap.size, 0, none⟩) 1 1] (0, 0) _ rfl HRw.out Tryz.underlying32 rfl expr_info) rfl HFin.out
    | none =>
      rw [hs] at HSk
      rw [hs] at hne
      simp only [Option.isSome_none, Option.getD_none] at HSk hne
      dsimp only
      clear hs
      obtain ⟨r, hr⟩ : ∃ r, r = primP G f (d + 1) s := ⟨_, rfl⟩
      have HRe := Lib.hid hr
      rw [← hr] at hne ⊢
      clear hr
      cases r with
      | out => exact absurd rfl hne
      | flt a k =>
        go_enter Tryz.func62, Tryz.ntmps62
        go_wp2_with (go_at_call 56; refine HSk.out.mono ?_; rintro e w2 ⟨rfl, hr, hc⟩; refine Stop.out ?_)
        unfold Stop
        have HC2 : Hid (Chg R w w2) := Lib.hid (Chg.trans (Chg.of HB0.out) hc)
        have HG2 := Lib.hid ((hc.heap (heapLt H0.out) (by have := HRl.out; omega)).trans H0.out)
        have hcall := HPc.out (d + 1) s w2 HD.out hr
        have hcast : (((d + 1 : Nat) : Int)) = (d : Int) + 1 := by omega
        rw [hcast, ← HRe.out] at hcall
        clear hr hc HSk H0 HR0 HB0
        obtain ⟨g, hg⟩ : ∃ g, g = w.heap.size := ⟨_, rfl⟩
        have HGs := Lib.hid hg
        rw [← hg] at HG2 ⊢
        clear hg hcast
        have HCl := Lib.hid (hcall (fun e => by cases e))
        clear hcall hne
        go_wp2_with (go_at_call 86; refine HCl.out.mono ?_; rintro e w3 ⟨rfl, hB⟩; refine Stop.out ?_)
        unfold Stop
        first | exact ⟨rfl, OutQ.fault rfl (HC2.out.trans hB)⟩ | (go_wp2; exact ⟨rfl, OutQ.fault rfl (HC2.out.trans hB)⟩)
      | ok x s2 =>
        go_enter Tryz.func62, Tryz.ntmps62
        go_wp2_with (go_at_call 56; refine HSk.out.mono ?_; rintro e w2 ⟨rfl, hr, hc⟩; refine Stop.out ?_)
        unfold Stop
        have HC2 : Hid (Chg R w w2) := Lib.hid (Chg.trans (Chg.of HB0.out) hc)
        have HG2 := Lib.hid ((hc.heap (heapLt H0.out) (by have := HRl.out; omega)).trans H0.out)
        have hcall := HPc.out (d + 1) s w2 HD.out hr
        have hcast : (((d + 1 : Nat) : Int)) = (d : Int) + 1 := by omega
        rw [hcast, ← HRe.out] at hcall
        clear hr hc HSk H0 HR0 HB0
        obtain ⟨g, hg⟩ : ∃ g, g = w.heap.size := ⟨_, rfl⟩
        have HGs := Lib.hid hg
        rw [← hg] at HG2 ⊢
        clear hg hcast
        have HCl := Lib.hid (hcall (fun e => by cases e))
        clear hcall hne
        go_wp2_with (go_at_call 86; refine HCl.out.mono ?_; rintro e w3 ⟨k, n, fd, fA, fn, fc, kv, kb, kc, ks, rfl, hkv, ht, hr, hc⟩; refine Stop.out ?_)
        unfold Stop
        have HTq := Lib.hid ht
        have HRd := Lib.hid hr
        have HC3 := Lib.hid (HC2.out.trans hc)
        have hone := kids_one kb kc ks
        rw [← hkv.out] at hone
        have HKv := hkv
        have HG3 := Lib.hid ((hc.heap (heapLt HG2.out) (by have := HRl.out; have := HGs.out; omega)).trans HG2.out)
        have hall : ∀ v ∈ [Value.int .i64 k, .int .i64 n, .string fd, .slice fA fn fc, kv], v.oneCell' = true := by
          intro v hv
          simp only [List.mem_cons, List.not_mem_nil, or_false] at hv
          rcases hv with rfl | rfl | rfl | rfl | rfl
          · rfl
          · rfl
          · rfl
          · rfl
          · exact hone
        clear ht hr hc hkv HCl
        go_wp2_with ((with_reducible refine wpList_store_row (o := ⟨none, _, _, _, _, _⟩) 32 ?b0 (.tmp 4) (.tmp 20) ?b1 g ?b2 [.int .i64 k, .int .i64 n, .string fd, .slice fA fn fc, kv] ?b3 ?b4 ?b5 #[.int .i64 0, .int .i64 0, .string ⟨#[]⟩, .slice none 0 0, .slice none 0 0] ?b6 32 ?b7 ?_); (case b0 => rfl); (case b1 => rfl); (case b2 => rfl); (case b3 => exact expr_info); (case b4 => exact hall); (case b5 => rfl); (case b6 => rfl); (case b7 => exact HG3.out); (try simp only [Act.put]); refine Stop.out ?_)
        unfold Stop
        have HRw := Lib.hid (row_then (g := g) (new := #[.int .i64 k, .int .i64 n, .string fd, .slice fA fn fc, kv]) HG3.out rfl rfl)
        have HCg := Lib.hid (setRow_chg w3 g #[.int .i64 k, .int .i64 n, .string fd, .slice fA fn fc, kv])
        generalize World.setRow _ _ _ = w5 at HRw HCg ⊢
        have HFin : Hid (OutQ R G.en w (.ok x s2) (.returned (.agg #[.int .i64 k, .int .i64 n, .string fd, .slice fA fn fc, kv])) w5) := Lib.hid (by
          have hgw : g < w2.heap.size := heapLt HG2.out
          refine ⟨k, n, fd, fA, fn, fc, kv, kb, kc, ks, rfl, HKv, (HTq.out.chgE hgw HG3.out HCg.out).less (by have := HC2.out.size; omega), ?_, ?_⟩
          · exact HRd.out.row5 ⟨_, _, _, rfl⟩ ⟨_, _, _, rfl⟩ HG3.out (by have := HRl.out; have := HGs.out; omega) HCg.out
          · exact HC3.out.over HCg.out (by rw [HGs.out]; exact Nat.le_refl _))
        clear HG3 HCg HTq HRd hone hall
        go_wp2
        exact bodyPost_ret (results_cell_row Tryz.results62 _ _ g 32 #[.int .i64 k, .int .i64 n, .string fd, .slice fA fn fc, kv] (0, 0) _ rfl HRw.out Tryz.underlying32 rfl expr_info) rfl HFin.out
end Go.Proofs.YtpapcnogbmjpjaaGreatDoor
