/- All sectors told, one by one. A range over a function whose rounds may turn what the iterator reads: what stands is told by the round's own facts. All sectors told, one by one, while the rounds may turn those that were told. -/
import Derived.Test.YtfjejiapafdgeaaJ3
import Derived.Maps.OwnIn
namespace Go.Proofs.Ytfjejiapafdgeaa
open Go.RowKit
set_option maxRecDepth 100000

section
variable {F : Fence} {nF : Nat} {w : World} {ops : Array Oper} {rest : List Oper} {o : Oper} {a : Act} {Q : Exit → Act → World → Prop}
theorem wpListIn_look_page (hgd : o.guard = none) (m x : Operand) (ho : o.op = .lookup 56 m x false)
    {bm n : Nat} {d : DiskV} (h : PagesD w bm n d) (i : Nat) (hi : i < d.many) (hm : d.many ≤ 4096) (hmv : a.eval m = .map (some bm)) (hx : a.eval x = .int .i64 i)
    (hK : wpListIn F nF Try.prog ops Q rest (a.put o.dst (pageV (d.S i))) w) : wpListIn F nF Try.prog ops Q (o :: rest) a w := by
  refine wpListIn_plain hgd fun K hK' => ?_
  have hr := look_page h i hi hm
  unfold Oper.wpIn
  refine ⟨by simp [Oper.about, ho], ?_⟩
  rw [Oper.semAt_plain F _ _ (by rw [ho]; intro c hc'; cases hc')]
  unfold execOp
  simp only [ho, hmv, hx, Sem.run_bind, hr, Result.andThen_ok, Sem.run_pure]
  exact hK' _ _ hK
end

/-- what comes: a number, and where its bytes lie -/
def encA (x : Nat × Nat) : Array Value := #[.int .i64 x.1, .slice (some ⟨x.2, 0, none⟩) 64 64]
def FxA (d : DiskV) (pre : List (Nat × Nat)) (x : Nat × Nat) (W : World) : Prop := x.1 = pre.length ∧ x.1 < d.many ∧ Txt W (some ⟨x.2, 0, none⟩) (d.S x.1)
/-- the disk's blocks, and the closure's own, are as they were -/
def KpA (Bs B bm : Nat) (A C : World) : Prop := (Bs < A.heap.size → C.heap[Bs]? = A.heap[Bs]?) ∧ (B < A.heap.size → C.heap[B]? = A.heap[B]?) ∧ (bm < A.heap.size → C.heap[bm]? = A.heap[bm]?) ∧ A.heap.size ≤ C.heap.size
theorem KpA.trans {Bs B bm : Nat} {A C E : World} (h : KpA Bs B bm A C) (k : KpA Bs B bm C E) : KpA Bs B bm A E :=
  ⟨fun x => (k.1 (by have := h.2.2.2; omega)).trans (h.1 x), fun x => (k.2.1 (by have := h.2.2.2; omega)).trans (h.2.1 x), fun x => (k.2.2.1 (by have := h.2.2.2; omega)).trans (h.2.2.1 x), Nat.le_trans h.2.2.2 k.2.2.2⟩
theorem Dsk.kp {w w' : World} {Bs B bm n : Nat} {d : DiskV} (h : Dsk w B bm n d) (k : KpA Bs B bm w w') : Dsk w' B bm n d :=
  ⟨(k.2.1 h.lt).trans h.1, h.2.1.kept (k.2.2.1 h.2.1.lt), h.2.2⟩

theorem kp_below {Bs B bm : Nat} {A C : World} (h : Below A.heap.size A C) : KpA Bs B bm A C := ⟨fun x => h.block _ x, fun x => h.block _ x, fun x => h.block _ x, h.size⟩
theorem code_all (w : World) (B : Nat) : Calls Try.prog 55 #[.pointer (some ⟨B, 0, none⟩)] w fun e w' => e = .returned (.func (.func 80) #[] #[.pointer (some ⟨w.heap.size, 0, none⟩)]) ∧
    w' = w.alloc (.cells #[.pointer (some ⟨B, 0, none⟩)] 25) := by
  have hmf : ∀ (fn : Fn) (first cap : Array Value) (w : World), (Instr.makeFunc fn first cap).run Try.prog w = .ok (.func fn first cap) w := fun _ _ _ _ => rfl
  go_enter Try.func55, Try.ntmps55
  go_wp2
  go_ret
  exact ⟨rfl, rfl⟩

set_option maxHeartbeats 2000000 in
theorem all_told (w : World) (Bs B bm n : Nat) (d : DiskV) (h : Dsk w B bm n d) (hs : w.heap[Bs]? = some (.cells #[.pointer (some ⟨B, 0, none⟩)] 25 (0, 0))) :
    SeqTold Try.prog 80 #[.pointer (some ⟨Bs, 0, none⟩)] encA (FxA d) (KpA Bs B bm) (fun xs => xs.length = d.many) (fun _ => True) w := by
  intro l J Jx W hbW hJ hJx hY h0
  have hD : Dsk W B bm n d := h.below hbW
  have hsW : W.heap[Bs]? = some (.cells #[.pointer (some ⟨B, 0, none⟩)] 25 (0, 0)) := (hbW.block Bs (heapLt hs)).trans hs
  have hm := h.2.2.1
  have HL := Lib.hid (code_dlen W B bm n d hD)
  have HD := Lib.hid hD
  have cs0 := cell_of_row W Bs 0 _ _ _ hsW
  simp only [List.getElem?_toArray, List.getElem?_cons_zero] at cs0
  have HS := Lib.hid hsW
  have HJ := Lib.hid hJ
  have HY := Lib.hid hY
  have H0 := Lib.hid h0
  clear hJ hJx hY h0 hD hsW h hs hbW
  refine callsIn_wide.1 (callsIn_of_wp (n := 2) (F := Fence.wide) Try.func80 rfl trivial ?_ rfl)
  simp only [Try.ntmps80, List.size_toArray, List.length_cons, List.length_nil, Nat.reduceAdd, Nat.reduceSub, Array.replicate_succ, Array.replicate_zero, List.push_toArray, List.append_toArray, List.nil_append, List.cons_append]
  gi_wp2_with (refine ⟨trivial, ?_⟩; gi_at_call 46; refine (callsIn_wide.2 HL.out).mono ?_; rintro e w1 ⟨rfl, rfl⟩)
  gi_loopw [7] (fun i wr => ∃ pre : List (Nat × Nat), pre.length ≤ d.many ∧ i = .int .i64 pre.length ∧ Hid (J pre wr) ∧ Hid (KpA Bs B bm W wr)) (fun i _ => d.many - (intOf i).toNat)
  case atStart => exact ⟨[], Nat.zero_le _, rfl, H0, Lib.hid ⟨fun _ => rfl, fun _ => rfl, fun _ => rfl, Nat.le_refl _⟩⟩
  case round =>
    obtain ⟨pre, hk, rfl, HJp, HK⟩ := hrel
    obtain ⟨k, hkk⟩ : ∃ k, k = pre.length := ⟨_, rfl⟩
    rw [← hkk] at hk ⊢
    have HKK := Lib.hid hkk
    clear hkk
    by_cases hlt : k < d.many
    · have hDr : Dsk wr B bm n d := HD.out.kp HK.out
      have hsr : wr.heap[Bs]? = some (.cells #[.pointer (some ⟨B, 0, none⟩)] 25 (0, 0)) := (HK.out.1 (heapLt HS.out)).trans HS.out
      have c0 := cell_of_row wr Bs 0 _ _ _ hsr
      simp only [List.getElem?_toArray, List.getElem?_cons_zero] at c0
      obtain ⟨_, c1, _⟩ := hDr.cells
      obtain ⟨T, hT⟩ : ∃ T, T = d.S k := ⟨_, rfl⟩
      have hlen : T.length = 64 := by obtain ⟨_, ⟨D, _, h2⟩, _⟩ := hDr; rw [hT]; exact (h2 k hlt).2
      have HT := Lib.hid hT
      have HP : Hid (PagesD wr bm n d) := Lib.hid hDr.2.1
      have hb2 : Below wr.heap.size wr ((wr.alloc (.cells (zeros.map cellOf).toArray 124)).setRow wr.heap.size (T.map cellOf).toArray) := below_setRow ((Below.refl _ wr).alloc (Nat.le_refl _) _) (Nat.le_refl _) _
      obtain ⟨fn, tmps, assign, body, hy, hR⟩ := HY.out pre (k, wr.heap.size) _ (HJ.out _ _ _ HJp.out hb2) ⟨HKK.out, hlt, by rw [← hT]; exact txt_page (setRow_heap _ _ _ _ _ _ (heap_alloc_new wr _))⟩
      dsimp only [encA] at hy
      have HB2 := Lib.hid hb2
      have HR := Lib.hid hR
      have hlt' : (k : Int) < (d.many : Int) := by omega
      clear hDr hsr hT hb2 hR
      gi_wp2_with (first
        | (gi_at_lookup; refine wpListIn_look_page rfl _ _ rfl HP.out k hlt hm rfl rfl ?_; rw [← HT.out]; (try simp only [Act.put, List.setIfInBounds_toArray, List.set_cons_zero, List.set_cons_succ]))
        | ((with_reducible refine wpListIn_alloc_page pageS (o := ⟨some 4, _, _, _, _, _⟩) ?a1 ?a2 ?_); (case a1 => rfl); (case a2 => rfl); (try simp only [Act.put, List.setIfInBounds_toArray, List.set_cons_zero, List.set_cons_succ]))
        | ((with_reducible refine wpListIn_store_page pageS (o := ⟨none, _, _, _, _, _⟩) ?a1 (.tmp 4) (.tmp 15) ?a2 wr.heap.size ?a3 T hlen ?a4 _ ?a5 _ (heap_alloc_new wr _) ?_); (case a1 => rfl); (case a2 => rfl); (case a3 => rfl); (case a4 => rfl); (case a5 => simp [zeros]); (try simp only [Act.put])))
      refine HR.out.mono ?_
      rintro e W3 (⟨rfl, hJ3, hk3⟩ | ⟨rfl, hJx3⟩)
      · have HJ3 := Lib.hid hJ3
        have HK3 := Lib.hid ((HK.out.trans (kp_below HB2.out)).trans hk3)
        clear hJ3 hk3 hy
        gi_wp2
        go_roundw
        case rel => exact ⟨pre ++ [(k, wr.heap.size)], by rw [List.length_append, ← HKK.out]; simp; omega, by rw [List.length_append, ← HKK.out]; simp, HJ3, HK3⟩
        case measure => simp [intOf]; omega
      · have HJ3 := Lib.hid hJx3
        clear hJx3 hy
        gi_wp2
        refine bodyPost_ret (results_none rfl _ _ _) rfl ?_
        exact ⟨⟨_, rfl⟩, .inr ⟨_, trivial, HJ3.out⟩⟩
    · obtain rfl : k = d.many := by omega
      gi_wp2
      go_end0
      exact ⟨⟨_, rfl⟩, .inl ⟨pre, HKK.out.symm, HJp.out⟩⟩
end Go.Proofs.Ytfjejiapafdgeaa

namespace Go.Proofs.Ytfjejiapafdgeaa
open Go.RowKit
set_option maxRecDepth 100000

section
variable {α : Type} {P : Program}
/-- from a block on nothing was turned -/
def KpW (b : Nat) (A B : World) : Prop := A.heap.size ≤ B.heap.size ∧ ∀ k, b ≤ k → k < A.heap.size → B.heap[k]? = A.heap[k]?
theorem KpW.refl (b : Nat) (A : World) : KpW b A A := ⟨Nat.le_refl _, fun _ _ _ => rfl⟩
theorem KpW.trans {b : Nat} {A B C : World} (h : KpW b A B) (k : KpW b B C) : KpW b A C := ⟨Nat.le_trans h.1 k.1, fun i h1 h2 => (k.2 i h1 (Nat.lt_of_lt_of_le h2 h.1)).trans (h.2 i h1 h2)⟩
theorem KpW.of_below {b : Nat} {A B : World} (h : Below A.heap.size A B) : KpW b A B := ⟨h.size, fun k _ hk => h.block k hk⟩
theorem KpW.more {b b' : Nat} {A B : World} (h : KpW b A B) (hb : b ≤ b') : KpW b' A B := ⟨h.1, fun k h1 h2 => h.2 k (Nat.le_trans hb h1) h2⟩
/-- the contract: of each value that comes, 'Fx' holds where it comes; where the rounds' facts hold, 'Dk' does -/
def SeqToldW (P : Program) (gf : Nat) (lb : Array Value) (encs : α → Array Value) (Fx : List α → α → World → Prop) (S Sp : List α → Prop) (Dk : List α → World → Prop) : Prop :=
  ∀ (l : Nat) (J Jx : List α → World → Prop) (W : World), (∀ pre A B, J pre A → Below W.heap.size A B → J pre B) → (∀ pre A B, Jx pre A → Below W.heap.size A B → Jx pre B) → (∀ pre A, J pre A → Dk pre A) →
    (∀ pre x A, W.heap.size ≤ A.heap.size → J pre A → Fx pre x A → YieldAt Fence.wide 1 P l (encs x) A fun e B =>
      (e = .returned (.bool true) ∧ J (pre ++ [x]) B ∧ KpW W.heap.size A B) ∨ (e = .returned (.bool false) ∧ Jx (pre ++ [x]) B ∧ KpW W.heap.size A B)) →
    J [] W → Calls P gf (#[.func (.yield l) #[] #[]] ++ lb) W fun e B => (∃ v, e = .returned v) ∧ ((∃ xs, S xs ∧ J xs B) ∨ (∃ pre, Sp pre ∧ Jx pre B))
def roundW (b : Nat) (I : List α → World → Prop) (Ix : Code → List α → World → Prop) (xs : List α) (W : World) (ex : Exit) (_ : Act) (W' : World) : Prop :=
  match jumpOf ex with
  | some none => KpW b W W' ∧ I xs W'
  | some (some c) => KpW b W W' ∧ Ix c xs W'
  | none => False
theorem wp_rangeToldW {g : Operand} {ps : Array Tmp} {assign body : Code} {Q : Exit → Act → World → Prop} {a : Act} {w : World} {gf : Nat} {lb : Array Value}
    (hg : a.eval g = .func (.func gf) #[] lb) (eg : ∀ args w, (callFunc gf args).run P w = .ok (.enter gf args) w) {encs : α → Array Value} {Fx : List α → α → World → Prop} {S Sp : List α → Prop} {Dk : List α → World → Prop}
    (hseq : SeqToldW P gf lb encs Fx S Sp Dk) (hps : ∀ x, (encs x).size = ps.size)
    (I : List α → World → Prop) (Ix : Code → List α → World → Prop) (hI : ∀ pre A B, I pre A → Below w.heap.size A B → I pre B) (hIx : ∀ c pre A B, Ix c pre A → Below w.heap.size A B → Ix c pre B) (hDk : ∀ pre A, I pre A → Dk pre A) (h0 : I [] w)
    (hround : ∀ (l : Nat) (r : Loop) (pre : List α) (x : α) (W : World), w.heap.size < l → W.heap[l]? = some (.loop r) → I pre W → Fx pre x W →
      assign.wpIn (Fence.wide.inRound l) 1 P (Exit.then (fun a₁ w₁ => Below W.heap.size W w₁ ∧ ∀ Wb, Beg l w₁ Wb → I pre Wb → body.wpIn (Fence.wide.inRound l) 1 P (roundW w.heap.size I Ix (pre ++ [x]) Wb) a₁ Wb) (fun _ _ _ => False))
        { tmps := (ps.zip (encs x)).foldl (fun t (p, v) => t.setIfInBounds p v) a.tmps, defers := [] } W)
    (hdone : ∀ (D : Nat) (xs : List α) (W : World), w.heap.size ≤ D → S xs → I xs W → W.heap[D]? = some (.deferred (some [])) → Q .normal { a with defers := { target := .collected D, args := #[] } :: a.defers } W)
    (hstop : ∀ (D : Nat) (c : Code) (pre : List α) (W : World), w.heap.size ≤ D → Sp pre → Ix c pre W → W.heap[D]? = some (.deferred (some [])) → c.wp P Q { a with defers := { target := .collected D, args := #[] } :: a.defers } W) :
    (Code.rangeFunc g ps assign body).wp P Q a w := by
  refine (wpIn_wide (n := 1)).1 (wpIn_rangeFunc fun fn hfn => ?_)
  let rc : LoopState → Option Code → Loop := fun st pe => { state := st, pending := pe, fn := fn, tmps := a.tmps, params := ps, assign := assign, body := body, defers := w.heap.size }
  let L := w.heap.size + 1
  let W1 := (w.alloc (.deferred (some []))).alloc (.loop (rc .ready none))
  let At : LoopState → Option Code → World → Prop := fun st pe W => W.heap[L]? = some (.loop (rc st pe)) ∧ W.heap[w.heap.size]? = some (.deferred (some []))
  have hLlt : ∀ {st pe W}, At st pe W → L < W.heap.size := fun h => (Array.getElem?_eq_some_iff.1 h.1).1
  have atBelow : ∀ {st pe A B}, At st pe A → Below (w.heap.size + 2) A B → At st pe B := fun h hb => ⟨(hb.block _ (by omega)).trans h.1, (hb.block _ (by omega)).trans h.2⟩
  have atPut : ∀ {st pe W} (st' pe'), At st pe W → At st' pe' (W.putObj L (.loop (rc st' pe'))) := fun st' pe' h => ⟨World.putObj_heap_same (hLlt h), (World.putObj_heap_other (by omega)).trans h.2⟩
  have hb1 : Below w.heap.size w W1 := ((Below.refl _ w).alloc (Nat.le_refl _) _).alloc (by simp) _
  have hs1' : W1.heap.size = w.heap.size + 2 := by simp [W1]
  have hA1 : At .ready none W1 := by
    refine ⟨?_, (Below.heap_alloc _ _ _ (by simp)).trans (World.alloc_heap_new w _)⟩
    have := World.alloc_heap_new (w.alloc (.deferred (some []))) (.loop (rc .ready none))
    rwa [World.size_alloc] at this
  have hI1 : I [] W1 := hI _ _ _ h0 hb1
  refine ⟨L, [{ target := .collected w.heap.size, args := #[] }], W1, { target := .fn (.func gf) lb, args := #[.func (.yield L) #[] #[]] }, W1, gf, #[.func (.yield L) #[] #[]] ++ lb, W1, run_enterLoop_outer _ _ _ _ _, ?_, fun _ _ => trivial, ?_, fun h => (by simp [Fence.wide] at h), callsIn_wide.2 ?_⟩
  · simp only [resolve, hg]
    simp [go_sem]
  · simp [invoke, go_sem, eg]
  have hsz : w.heap.size ≤ W1.heap.size := hb1.size
  refine (hseq L (fun pre W => I pre W ∧ At .ready none W) (fun pre W => ∃ c, Ix c pre W ∧ At .done (some c) W) W1
    (fun pre A B h hb => ⟨hI _ _ _ h.1 (hb.mono hsz), atBelow h.2 (by rw [← hs1']; exact hb)⟩)
    (fun pre A B ⟨c, h1, h2⟩ hb => ⟨c, hIx _ _ _ _ h1 (hb.mono hsz), atBelow h2 (by rw [← hs1']; exact hb)⟩) (fun pre A h => hDk _ _ h.1) ?round ⟨hI1, hA1⟩).mono ?behind
  case behind =>
    rintro e B ⟨⟨v, rfl⟩, ⟨xs, hS, hi, hA⟩ | ⟨pre, hSp, c, hi, hA⟩⟩
    · exact ⟨none, _, run_endLoop hA.1 (by simp [rc]), hdone _ xs _ (Nat.le_refl _) hS (hI _ _ _ hi (put_below _ _ (by omega))) ((World.putObj_heap_other (by omega)).trans hA.2)⟩
    · exact ⟨some c, _, run_endLoop hA.1 (by simp [rc]), wpIn_wide.2 (hstop _ c pre _ (Nat.le_refl _) hSp (hIx _ _ _ _ hi (put_below _ _ (by omega))) ((World.putObj_heap_other (by omega)).trans hA.2))⟩
  case round =>
    rintro pre x A hs ⟨hi, hA⟩ hx
    refine ⟨fn, _, assign, body, run_yield hA.1 (hps x), roundIn_of_wpIn hfn (wpIn_mono (hround L _ pre x A (by omega) hA.1 hi hx) ?_)⟩
    intro ex0 a1 w1 hq
    cases ex0 with
    | exit id => exact hq
    | goto t => exact hq
    | ret => exact hq
    | panic ch => exact hq
    | outgrown => exact hq
    | normal =>
    obtain ⟨hw1, hbod⟩ := hq
    have hA1 : At .ready none w1 := atBelow hA (hw1.mono (by omega))
    refine ⟨_, run_beginRound hA1.1 rfl, ?_⟩
    have hA2 : At .busy none (w1.putObj L (.loop (rc .busy none))) := atPut _ _ hA1
    have hk0 : KpW W1.heap.size A (w1.putObj L (.loop (rc .busy none))) := ⟨by simpa using hw1.size, fun k h1 h2 => (World.putObj_heap_other (by omega)).trans (hw1.block k h2)⟩
    refine wpIn_mono (hbod _ (beg_put _ _ _) (hI _ _ _ (hI _ _ _ hi (hw1.mono (by omega))) (put_below _ _ (by omega)))) ?_
    intro ex a3 B hp
    have hend : ∀ (j : Option Code), KpW w.heap.size (w1.putObj L (.loop (rc .busy none))) B → (Instr.endRound L j).run P B = .ok (.bool j.isNone) (B.putObj L (.loop (rc (if j.isNone then .ready else .done) j))) ∧
        At (if j.isNone then .ready else .done) j (B.putObj L (.loop (rc (if j.isNone then .ready else .done) j))) ∧ B.heap[L]? = some (.loop (rc .busy none)) := fun j hk => by
      have hl2 := hLlt hA2
      have hB : At .busy none B := ⟨(hk.2 _ (by omega) hl2).trans hA2.1, (hk.2 _ (Nat.le_refl _) (by omega)).trans hA2.2⟩
      exact ⟨run_endRound j hB.1, atPut _ _ hB, hB.1⟩
    have goOn : ∀ (c : Code), KpW w.heap.size (w1.putObj L (.loop (rc .busy none))) B → Ix c (pre ++ [x]) B → ∃ v B', (Instr.endRound L (some c)).run P B = .ok v B' ∧
        ((Ending.returned v = .returned (.bool true) ∧ (I (pre ++ [x]) B' ∧ At .ready none B') ∧ KpW W1.heap.size A B') ∨ (Ending.returned v = .returned (.bool false) ∧ (∃ c, Ix c (pre ++ [x]) B' ∧ At .done (some c) B') ∧ KpW W1.heap.size A B')) := fun c hk hc => by
      obtain ⟨h1, h2, hr⟩ := hend (some c) hk
      exact ⟨_, _, h1, .inr ⟨rfl, ⟨c, hIx _ _ _ _ hc (put_below _ _ (by omega)), h2⟩, (hk0.trans (hk.more hsz)).trans ⟨by simp, fun k q1 _ => World.putObj_heap_other (by omega)⟩⟩⟩
    cases ex with
    | normal =>
      obtain ⟨hk, hi2⟩ := hp
      obtain ⟨h1, h2, hr⟩ := hend none hk
      exact ⟨_, _, h1, .inl ⟨rfl, ⟨hI _ _ _ hi2 (put_below _ _ (by omega)), h2⟩, (hk0.trans (hk.more hsz)).trans ⟨by simp, fun k q1 _ => World.putObj_heap_other (by omega)⟩⟩⟩
    | ret => exact goOn _ hp.1 hp.2
    | exit id => exact goOn _ hp.1 hp.2
    | goto t => exact goOn _ hp.1 hp.2
    | panic ch => exact hp.elim
    | outgrown => exact hp.elim
/-- a round's contract, in whatever round -/
theorem round_into {n m : Nat} {l l2 : Nat} {f : FuncId} {tmps : Array Value} {assign body : Code} {w : World} {R : Ending → World → Prop} (h : RoundIn Fence.wide n P l f tmps assign body w R) : RoundIn (Fence.wide.inRound l2) m P l f tmps assign body w R :=
  ⟨h.1, fun c cs _ => h.2 c cs (fun d hd => by cases hd)⟩
end
end Go.Proofs.Ytfjejiapafdgeaa

namespace Go.Proofs.Ytfjejiapafdgeaa
open Go.RowKit
set_option maxRecDepth 100000
set_option linter.unusedVariables false

def FxW (S : Nat → Text) (m : Nat) (pre : List (Nat × Nat)) (x : Nat × Nat) (W : World) : Prop := x.1 = pre.length ∧ x.1 < m ∧ Txt W (some ⟨x.2, 0, none⟩) (S x.1)
/-- the disk, as it was from the sectors on that are still to come; the closure's own box -/
def DkA (Bs B bm m : Nat) (S : Nat → Text) (pre : List (Nat × Nat)) (W : World) : Prop :=
  ∃ n d, Dsk W B bm n d ∧ d.many = m ∧ (∀ j, pre.length ≤ j → j < m → d.S j = S j) ∧ W.heap[Bs]? = some (.cells #[.pointer (some ⟨B, 0, none⟩)] 25 (0, 0))
set_option maxHeartbeats 2000000 in
theorem all_toldW (Bs B bm m : Nat) (S : Nat → Text) :
    SeqToldW Try.prog 80 #[.pointer (some ⟨Bs, 0, none⟩)] encA (FxW S m) (fun xs => xs.length = m) (fun _ => True) (DkA Bs B bm m S) := by
  intro l J Jx W hJ hJx hJD hY h0
  obtain ⟨n0, d0, hD, hmd, _, hsW⟩ := hJD _ _ h0
  have hm := hD.2.2.1
  rw [hmd] at hm
  have HL := Lib.hid (code_dlen W B bm n0 d0 hD)
  rw [hmd] at HL
  have cs0 := cell_of_row W Bs 0 _ _ _ hsW
  simp only [List.getElem?_toArray, List.getElem?_cons_zero] at cs0
  have HJ := Lib.hid hJ
  have HY := Lib.hid hY
  have H0 := Lib.hid h0
  have HJD := Lib.hid hJD
  clear hJ hJx hY h0 hD hsW hJD hmd
  refine callsIn_wide.1 (callsIn_of_wp (n := 2) (F := Fence.wide) Try.func80 rfl trivial ?_ rfl)
  simp only [Try.ntmps80, List.size_toArray, List.length_cons, List.length_nil, Nat.reduceAdd, Nat.reduceSub, Array.replicate_succ, Array.replicate_zero, List.push_toArray, List.append_toArray, List.nil_append, List.cons_append]
  gi_wp2_with (refine ⟨trivial, ?_⟩; gi_at_call 46; refine (callsIn_wide.2 HL.out).mono ?_; rintro e w1 ⟨rfl, rfl⟩)
  gi_loopw [7] (fun i wr => ∃ pre : List (Nat × Nat), pre.length ≤ m ∧ i = .int .i64 pre.length ∧ Hid (J pre wr) ∧ Hid (W.heap.size ≤ wr.heap.size)) (fun i _ => m - (intOf i).toNat)
  case atStart => exact ⟨[], Nat.zero_le _, rfl, H0, Lib.hid (Nat.le_refl _)⟩
  case round =>
    obtain ⟨pre, hk, rfl, HJp, HK⟩ := hrel
    obtain ⟨k, hkk⟩ : ∃ k, k = pre.length := ⟨_, rfl⟩
    rw [← hkk] at hk ⊢
    have HKK := Lib.hid hkk
    clear hkk
    by_cases hlt : k < m
    · obtain ⟨n, d, hDr, hmd, hSd, hsr⟩ := HJD.out _ _ HJp.out
      rw [← HKK.out] at hSd
      have hSk := hSd k (Nat.le_refl _) hlt
      have hltd : k < d.many := by omega
      have hmd2 : d.many ≤ 4096 := by omega
      have c0 := cell_of_row wr Bs 0 _ _ _ hsr
      simp only [List.getElem?_toArray, List.getElem?_cons_zero] at c0
      obtain ⟨_, c1, _⟩ := hDr.cells
      obtain ⟨T, hT⟩ : ∃ T, T = d.S k := ⟨_, rfl⟩
      have hTS : T = S k := hT.trans hSk
      have hlen : T.length = 64 := by obtain ⟨_, ⟨D, _, h2⟩, _⟩ := hDr; rw [hT]; exact (h2 k hltd).2
      have HT := Lib.hid hT
      have HP : Hid (PagesD wr bm n d) := Lib.hid hDr.2.1
      have hb2 : Below wr.heap.size wr ((wr.alloc (.cells (zeros.map cellOf).toArray 124)).setRow wr.heap.size (T.map cellOf).toArray) := below_setRow ((Below.refl _ wr).alloc (Nat.le_refl _) _) (Nat.le_refl _) _
      obtain ⟨fn, tmps, assign, body, hy, hR⟩ := HY.out pre (k, wr.heap.size) _ (Nat.le_trans HK.out hb2.size) (HJ.out _ _ _ HJp.out (hb2.mono HK.out)) ⟨HKK.out, hlt, by rw [← hTS]; exact txt_page (setRow_heap _ _ _ _ _ _ (heap_alloc_new wr _))⟩
      dsimp only [encA] at hy
      have HB2 := Lib.hid hb2
      have HR := Lib.hid hR
      have hlt' : (k : Int) < (m : Int) := by omega
      clear hDr hsr hT hb2 hR hSd hSk hmd hTS
      gi_wp2_with (first
        | (gi_at_lookup; refine wpListIn_look_page rfl _ _ rfl HP.out k hltd hmd2 rfl rfl ?_; rw [← HT.out]; (try simp only [Act.put, List.setIfInBounds_toArray, List.set_cons_zero, List.set_cons_succ]))
        | ((with_reducible refine wpListIn_alloc_page pageS (o := ⟨some 4, _, _, _, _, _⟩) ?a1 ?a2 ?_); (case a1 => rfl); (case a2 => rfl); (try simp only [Act.put, List.setIfInBounds_toArray, List.set_cons_zero, List.set_cons_succ]))
        | ((with_reducible refine wpListIn_store_page pageS (o := ⟨none, _, _, _, _, _⟩) ?a1 (.tmp 4) (.tmp 15) ?a2 wr.heap.size ?a3 T hlen ?a4 _ ?a5 _ (heap_alloc_new wr _) ?_); (case a1 => rfl); (case a2 => rfl); (case a3 => rfl); (case a4 => rfl); (case a5 => simp [zeros]); (try simp only [Act.put])))
      refine HR.out.mono ?_
      rintro e W3 (⟨rfl, hJ3, hk3⟩ | ⟨rfl, hJx3, _⟩)
      · have HJ3 := Lib.hid hJ3
        have HK3 := Lib.hid (Nat.le_trans HK.out (Nat.le_trans HB2.out.size hk3.1))
        clear hJ3 hk3 hy
        gi_wp2
        go_roundw
        case rel => exact ⟨pre ++ [(k, wr.heap.size)], by rw [List.length_append, ← HKK.out]; simp; omega, by rw [List.length_append, ← HKK.out]; simp, HJ3, HK3⟩
        case measure => simp [intOf]; omega
      · have HJ3 := Lib.hid hJx3
        clear hJx3 hy
        gi_wp2
        refine bodyPost_ret (results_none rfl _ _ _) rfl ?_
        exact ⟨⟨_, rfl⟩, .inr ⟨_, trivial, HJ3.out⟩⟩
    · obtain rfl : k = m := by omega
      gi_wp2
      go_end0
      exact ⟨⟨_, rfl⟩, .inl ⟨pre, HKK.out.symm, HJp.out⟩⟩
end Go.Proofs.Ytfjejiapafdgeaa
