/- Rows of a call's own; what is in brackets. What is in brackets: the walk. -/
import Derived.Test.YtpapcnogbmjpjaaGreatDoorK18
namespace Go.Proofs.YtpapcnogbmjpjaaGreatDoor
open Go.RowKit
set_option maxRecDepth 100000
set_option linter.unusedSimpArgs false
set_option linter.unusedVariables false
attribute [local go_sem] Oper.semAt_some

theorem own_on {T : TypeId} {sz : Nat} {w w' : World} {B n : Nat} {v : Value} {xs : List Value} (h : w.ownsRow B T sz v n xs) (hb : Below w.heap.size w w') : w'.ownsRow B T sz v n xs :=
  World.ownsRow.kept (row := none) h ⟨hb.os, hb.tape, hb.output, hb.size, fun k hk _ => hb.block k hk⟩ (by
    rcases h.2 with ⟨rfl, _⟩ | ⟨g, c, cur, rfl, _⟩
    · exact .inl rfl
    · exact .inr (by simp [Value.ownBlock]))
theorem own_chg {T : TypeId} {sz : Nat} {w w' : World} {B m n : Nat} {v : Value} {xs : List Value} (h : w.ownsRow B T sz v n xs) (hc : Chg m w w') (hm : v.ownBlock ≠ some m) : w'.ownsRow B T sz v n xs :=
  World.ownsRow.kept (row := some m) h hc (.inr hm)
theorem own_kept {T : TypeId} {sz : Nat} {w w' : World} {B n : Nat} {v : Value} {xs : List Value} (h : w.ownsRow B T sz v n xs) (hg : ∀ g cs, v.ownBlock = some g → w.heap[g]? = some (.cells cs T (0, 0)) → w'.heap[g]? = some (.cells cs T (0, 0))) : w'.ownsRow B T sz v n xs := by
  refine ⟨h.1, ?_⟩
  rcases h.2 with hn | ⟨g, cap, cur, rfl, hb, hgg, rest⟩
  · exact .inl hn
  · exact .inr ⟨g, cap, cur, rfl, hb, hg g cur rfl hgg, rest⟩
theorem own_block {T : TypeId} {sz : Nat} {w : World} {B n : Nat} {v : Value} {xs : List Value} (h : w.ownsRow B T sz v n xs) : ∀ k, v.ownBlock = some k → B ≤ k ∧ ∃ cs, w.heap[k]? = some (.cells cs T (0, 0)) := by
  rcases h.2 with ⟨rfl, _⟩ | ⟨g, c, cur, rfl, hB, hh, _⟩
  · intro k hk; simp [Value.ownBlock] at hk
  · intro k hk
    simp [Value.ownBlock] at hk
    subst hk
    exact ⟨hB, cur, hh⟩
theorem own_off {T T' : TypeId} {sz : Nat} {w : World} {B n : Nat} {v : Value} {xs : List Value} (h : w.ownsRow B T sz v n xs) {m : Nat} {cs : Array Value} {fr : Nat × Nat} (hm : w.heap[m]? = some (.cells cs T' fr)) (hT : T' ≠ T) : v.ownBlock ≠ some m := fun e => by
  obtain ⟨_, cur, hc⟩ := own_block h m e
  rw [hm] at hc
  injection hc with hc
  injection hc with _ h2 _
  exact hT h2
theorem own_offMap {T : TypeId} {sz : Nat} {w : World} {B n : Nat} {v : Value} {xs : List Value} (h : w.ownsRow B T sz v n xs) {m c : Nat} {es : Array MapEntry} (hm : w.heap[m]? = some (.map es c)) : v.ownBlock ≠ some m := fun e => by
  obtain ⟨_, cur, hc⟩ := own_block h m e
  rw [hm] at hc
  injection hc with hc
  cases hc
theorem own_form {T : TypeId} {sz : Nat} {w : World} {B n : Nat} {v : Value} {xs : List Value} (h : w.ownsRow B T sz v n xs) : ∃ A c, v = .slice A n c ∧ (A = none → n = 0 ∧ c = 0) ∧ (∀ a, A = some a → ∃ g, a = ⟨g, 0, none⟩) := by
  rcases h.2 with ⟨rfl, rfl⟩ | ⟨g, c, cur, rfl, hB, hh, _⟩
  · exact ⟨none, 0, rfl, fun _ => ⟨rfl, rfl⟩, fun a e => by cases e⟩
  · exact ⟨_, c, rfl, (fun e => by cases e), fun a e => by cases e; exact ⟨g, rfl⟩⟩
/-- one element more -/
theorem wp_app {S T : TypeId} {sz bytes : Nat} {z : Value} (ht : Tryz.prog.underlying S = some (.slice T)) (hf : (Tryz.prog.info? T).map (fun i => (i.zero, i.size, i.bytes)) = some (some z, sz, bytes)) (hzs : z.cells.size = sz) (hsz : 0 < sz) (hby : bytes ≤ 1000)
    {w : World} {o : Oper} {a : Act} {K : Act → World → Prop} {Q : Exit → Act → World → Prop} (s x : Operand) (ho : o.op = .call { callee := .builtin .append, args := #[s, x], argTypes := #[S, S] }) (B : Nat) (v : Value) (n : Nat) (xs news : List Value)
    (hs : a.eval s = v) (hown : w.ownsRow B T sz v n xs) (g : Nat) (hx : a.eval x = .slice (some ⟨g, 0, none⟩) 1 1) {T' : TypeId} {fr : Nat × Nat} (hg : w.heap[g]? = some (.cells news.toArray T' fr)) (hnl : news.length = sz) (h1 : ∀ u ∈ news, u.oneCell' = true) (hn : n ≤ 100000) (hB : B ≤ w.heap.size)
    (h : ∀ v' w', w'.ownsRow B T sz v' (n + 1) (xs ++ news) → w.grownBy w' v.ownBlock → (v'.ownBlock = v.ownBlock ∨ v'.ownBlock = some w.heap.size) → K (a.put o.dst v') w') : o.wp Tryz.prog a w K Q := by
  obtain ⟨i0, hi, hz0, hz1, hz2⟩ := info_parts hf
  obtain ⟨v', w', hr, h2, h3, h4, h5⟩ := run_append_own_at (P := Tryz.prog) w B S o.type T i0 z sz bytes ht hi hz0 hz1 hz2 hzs hsz v n xs hown ⟨g, 0, none⟩ 1 1 news (by omega) (fun j u hu => by
    have : (⟨g, 0, none⟩ : Addr).add j = ⟨g, j, none⟩ := by unfold Addr.add; by_cases e : j = 0 <;> simp [e]
    rw [this, cell_of_row _ g j _ _ _ hg]
    simpa using hu) h1 (by unfold maxLen; omega) (by
      have : (n + 1) * bytes ≤ 100001 * 1000 := Nat.mul_le_mul (by omega) hby
      omega) hB
  unfold Oper.wp execOp
  simp only [ho, resolve, invoke, builtin, Sem.run_bind, Sem.run_pure, Result.andThen_ok, List.map_toArray, List.map_cons, List.map_nil, hs, hx, hr]
  exact h v' w' h2 h3 h5
theorem wpList_app {S T : TypeId} {sz bytes : Nat} {z : Value} (ht : Tryz.prog.underlying S = some (.slice T)) (hf : (Tryz.prog.info? T).map (fun i => (i.zero, i.size, i.bytes)) = some (some z, sz, bytes)) (hzs : z.cells.size = sz) (hsz : 0 < sz) (hby : bytes ≤ 1000)
    {w : World} {ops : Array Oper} {rest : List Oper} {o : Oper} {a : Act} {Q : Exit → Act → World → Prop} (hgd : o.guard = none) (s x : Operand) (ho : o.op = .call { callee := .builtin .append, args := #[s, x], argTypes := #[S, S] }) (B : Nat) (v : Value) (n : Nat) (xs news : List Value)
    (hs : a.eval s = v) (hown : w.ownsRow B T sz v n xs) (g : Nat) (hx : a.eval x = .slice (some ⟨g, 0, none⟩) 1 1) {T' : TypeId} {fr : Nat × Nat} (hg : w.heap[g]? = some (.cells news.toArray T' fr)) (hnl : news.length = sz) (h1 : ∀ u ∈ news, u.oneCell' = true) (hn : n ≤ 100000) (hB : B ≤ w.heap.size)
    (h : ∀ v' w', w'.ownsRow B T sz v' (n + 1) (xs ++ news) → w.grownBy w' v.ownBlock → (v'.ownBlock = v.ownBlock ∨ v'.ownBlock = some w.heap.size) → wpList Tryz.prog ops Q rest (a.put o.dst v') w') : wpList Tryz.prog ops Q (o :: rest) a w :=
  wpList_plain hgd fun K hK => wp_app ht hf hzs hsz hby s x ho B v n xs news hs hown g hx hg hnl h1 hn hB fun v' w' k1 k2 k3 => hK _ _ (h v' w' k1 k2 k3)
theorem factE : (Tryz.prog.info? 32).map (fun i => (i.zero, i.size, i.bytes)) = some (some (.agg #[.int .i64 0, .int .i64 0, .string ⟨#[]⟩, .slice none 0 0, .slice none 0 0]), 5, 80) := by kernel_rfl
theorem exCs_app (l : List Tr) (u : Tr) : exCs (l ++ [u]) = exCs l ++ exC u := by simp [exCs]
theorem bL_app : ∀ (l : List Tr) (u : Tr), bL (l ++ [u]) = bL l ++ bT u
  | [], u => by simp [bL]
  | t :: l, u => by simp [bL, bL_app l u]
theorem AtL_app {w : World} : ∀ (l : List Tr) (u : Tr), AtL w l → AtT w u → AtL w (l ++ [u])
  | [], u, _, h => by show AtL w [u]; unfold AtL AtL; exact ⟨h, trivial⟩
  | t :: l, u, hl, h => by
    show AtL w (t :: (l ++ [u]))
    unfold AtL at hl ⊢
    exact ⟨hl.1, AtL_app l u hl.2 h⟩
theorem ShowsL_app {w : World} : ∀ (l : List Tr) (s : List Sh) (u : Tr) (r : Sh), ShowsL w l s → Shows w u r → ShowsL w (l ++ [u]) (s ++ [r])
  | [], [], u, r, _, h => by show ShowsL w [u] [r]; unfold ShowsL ShowsL; exact ⟨h, trivial⟩
  | t :: l, x :: s, u, r, hl, h => by
    show ShowsL w (t :: (l ++ [u])) (x :: (s ++ [r]))
    unfold ShowsL at hl ⊢
    exact ⟨hl.1, ShowsL_app l s u r hl.2 h⟩
  | [], _ :: _, _, _, hl, _ => by unfold ShowsL at hl; exact absurd hl id
  | _ :: _, [], _, _, hl, _ => by unfold ShowsL at hl; exact absurd hl id
theorem TreesQ.snoc {B B' : Nat} {w : World} {l : List Tr} {s : List Sh} {u : Tr} {r : Sh} (h : TreesQ B w l s) (k : TreeQ B' w u r) (hB : B ≤ B') (hlt : ∀ b ∈ bL l, b < B') : TreesQ B w (l ++ [u]) (s ++ [r]) := by
  refine ⟨AtL_app l u h.at_ k.at_, ?_, ?_, ShowsL_app l s u r h.sh k.sh⟩
  · rw [bL_app]
    refine List.nodup_append.2 ⟨h.nd, k.nd, fun a ha b hb e => ?_⟩
    have h1 := hlt a ha
    have h2 := k.ge b hb
    omega
  · intro b hb
    rw [bL_app, List.mem_append] at hb
    rcases hb with hb | hb
    · exact h.ge b hb
    · exact Nat.le_trans hB (k.ge b hb)
theorem TreesQ.none (B : Nat) (w : World) : TreesQ B w [] [] := ⟨by unfold AtL; exact trivial, by simp [bL], by simp [bL], by unfold ShowsL; exact trivial⟩
theorem TreesQ.chg {B R : Nat} {w w' : World} {l : List Tr} {s : List Sh} (h : TreesQ B w l s) (hR : R < B) {cs : Array Value} (hr : w.heap[R]? = some (Obj.cells cs 79 (0, 0))) (hc : Chg R w w') : TreesQ B w' l s :=
  ⟨h.at_.on l (fun k hk => hc.heap (AtL.lt l h.at_ k hk) (by have := h.ge k hk; omega)) hc.size, h.nd, h.ge, h.sh.keep (fun g cs' hg => (hc.heap (heapLt hg) (fun e => by
    rw [e, hr] at hg
    injection hg with hg
    injection hg with _ h2 _
    exact absurd h2 (by decide))).trans hg) l s⟩
/-- a row of one's own grows: trees stand -/
theorem TreesQ.grown {B : Nat} {w w' : World} {l : List Tr} {s : List Sh} (h : TreesQ B w l s) {v : Value} {n B2 : Nat} {xs : List Value} (ho : w.ownsRow B2 32 5 v n xs) (hg : w.grownBy w' v.ownBlock) (hoff : ∀ g, v.ownBlock = some g → g ∉ bL l) : TreesQ B w' l s :=
  ⟨h.at_.on l (fun k hk => hg.block k (AtL.lt l h.at_ k hk) (fun e => hoff k e.symm hk)) hg.size, h.nd, h.ge, h.sh.keep (fun g cs' hg' => (hg.block g (heapLt hg') (fun e => own_off ho hg' (by decide) e.symm)).trans hg') l s⟩
theorem RdAt.grown {w w' : World} {R : Nat} {en : Int} {s : Rd} (h : RdAt w R en s) {v : Value} {n B2 : Nat} {xs : List Value} (ho : w.ownsRow B2 32 5 v n xs) (hg : w.grownBy w' v.ownBlock) : RdAt w' R en s := by
  cases hv : v.ownBlock with
  | none =>
    rw [hv] at hg
    exact h.on ⟨hg.os, hg.tape, hg.output, hg.size, fun k hk => hg.block k hk (fun e => by cases e)⟩
  | some g =>
    obtain ⟨_, cur, hc⟩ := own_block ho g hv
    rw [hv] at hg
    obtain ⟨cs, hr⟩ := rd_block h
    exact h.row hc (fun e => by
      rw [e, hc] at hr
      injection hr with hr
      injection hr with _ h2 _
      exact absurd h2 (by decide)) hg.size (fun k hk hne => hg.block k hk (fun e => hne (Option.some.inj e)))
theorem Chg.grown {R : Nat} {w0 w w' : World} (h : Chg R w0 w) {v : Value} {n B2 : Nat} {xs : List Value} (ho : w.ownsRow B2 32 5 v n xs) (hg : w.grownBy w' v.ownBlock) (hB : w0.heap.size ≤ B2) : Chg R w0 w' :=
  ⟨hg.os.trans h.os, hg.tape.trans h.tape, hg.output.trans h.output, Nat.le_trans h.size hg.size, fun i hi hr => (hg.block i (Nat.lt_of_lt_of_le hi h.size) (fun e => by
    have := (own_block ho i e.symm).1
    omega)).trans (h.heap hi (fun e => hr (by rw [e])))⟩
/-- what the loop of a bracket keeps -/
structure BrackQ (R : Nat) (en : Int) (w0 w : World) (v : Value) (ts : List Tr) (acc : List Sh) (s : Rd) : Prop where
  own : w.ownsRow w0.heap.size 32 5 v ts.length (exCs ts)
  trees : TreesQ w0.heap.size w ts acc
  off : ∀ g, v.ownBlock = some g → g ∉ bL ts
  rd : RdAt w R en s
  chg : Chg R w0 w
theorem brackQ_next {R : Nat} {en : Int} {w0 wr wd w2 q w4 : World} {v v' : Value} {ts : List Tr} {acc : List Sh} {u : Tr} {y : Sh} {s s2 s3 : Rd} (h : BrackQ R en w0 wr v ts acc s) (hR : R < w0.heap.size) (hrw : RdAt wd R en s2) (hc1 : Chg R wr wd)
    (ht2 : TreeQ wd.heap.size w2 u y) (hr2 : RdAt w2 R en s3) (hcy : Chg R wd w2) (hb1 : Below w2.heap.size w2 q) (ho : q.ownsRow w0.heap.size 32 5 v ts.length (exCs ts)) (hn : w4.ownsRow w0.heap.size 32 5 v' (ts.length + 1) (exCs ts ++ exC u)) (hg : q.grownBy w4 v.ownBlock) (hat : v'.ownBlock = v.ownBlock ∨ v'.ownBlock = some q.heap.size) :
    BrackQ R en w0 w4 v' (ts ++ [u]) (acc ++ [y]) s3 := by
  obtain ⟨cs, hrd⟩ := rd_block h.rd
  obtain ⟨cs1, hrd1⟩ := rd_block hrw
  have t1 := h.trees.chg hR hrd hc1
  have t2 := t1.chg hR hrd1 hcy
  have l2 := t2.snoc ht2 (Nat.le_trans h.chg.size hc1.size) (fun b hb => AtL.lt _ t1.at_ b hb)
  have lq := l2.on hb1
  have hoff : ∀ g, v.ownBlock = some g → g ∉ bL (ts ++ [u]) := fun g hv hm => by
    rw [bL_app, List.mem_append] at hm
    rcases hm with hm | hm
    · exact h.off g hv hm
    · have h1 := ht2.ge g hm
      obtain ⟨_, cur, hc⟩ := own_block h.own g hv
      have := heapLt hc
      have := hc1.size
      omega
  refine ⟨by rw [exCs_app, List.length_append]; exact hn, lq.grown ho hg hoff, ?_, (hr2.on hb1).grown ho hg, (((h.chg.trans hc1).trans hcy).trans (Chg.of hb1)).grown ho hg (Nat.le_refl _)⟩
  intro g hv hm
  rcases hat with e | e
  · exact hoff g (e ▸ hv) hm
  · rw [hv] at e
    have := AtL.lt _ lq.at_ g hm
    have := Option.some.inj e
    omega
theorem brackQ_own {R : Nat} {en : Int} {w0 wr wd w2 q : World} {v : Value} {ts : List Tr} {acc : List Sh} {s : Rd} (h : BrackQ R en w0 wr v ts acc s) (hc1 : Chg R wr wd) (hcy : Chg R wd w2) (hb1 : Below w2.heap.size w2 q) : q.ownsRow w0.heap.size 32 5 v ts.length (exCs ts) := by
  obtain ⟨cs, hrd⟩ := rd_block h.rd
  have ho : v.ownBlock ≠ some R := own_off h.own hrd (by decide)
  exact own_on (own_chg (own_chg h.own hc1 ho) hcy ho) hb1
/-- what is told at the end -/
theorem brackQ_end {R : Nat} {en : Int} {w0 wr wd : World} {v : Value} {ts : List Tr} {acc : List Sh} {s s2 : Rd} (h : BrackQ R en w0 wr v ts acc s) (hR : R < w0.heap.size) (hn : ts ≠ []) (hrw : RdAt wd R en s2) (hc1 : Chg R wr wd) : OutL R en w0 (.ok acc s2) (.returned v) wd := by
  obtain ⟨cs, hrd⟩ := rd_block h.rd
  have ho : v.ownBlock ≠ some R := own_off h.own hrd (by decide)
  have ow := own_chg h.own hc1 ho
  have t1 := h.trees.chg hR hrd hc1
  rcases ow.2 with ⟨_, e⟩ | ⟨g, cap, cur, rfl, hB, hh, hl, hm, hs, htk⟩
  · exact absurd (List.length_eq_zero_iff.1 e) hn
  · refine ⟨g, cap, ts, rfl, t1, ⟨cur, hh, fun j x hx => ?_⟩, hn, h.off g rfl, hB, hl, hm, hrw, h.chg.trans hc1⟩
    rw [← htk] at hx
    rw [List.getElem?_take] at hx
    split at hx
    · simpa using hx
    · cases hx
end Go.Proofs.YtpapcnogbmjpjaaGreatDoor

namespace Go.Proofs.YtpapcnogbmjpjaaGreatDoor
open Go.RowKit
set_option maxRecDepth 100000
set_option linter.unusedSimpArgs false
set_option linter.unusedVariables false
attribute [local go_sem] Oper.semAt_some

def accP (acc : List Sh) : PR (List Sh) → PR (List Sh)
  | .ok l s => .ok (acc ++ l) s
  | .flt a k => .flt a k
  | .out => .out
theorem accP_nil (r : PR (List Sh)) : accP [] r = r := by cases r <;> rfl
theorem accP_next (acc : List Sh) (y : Sh) (r : PR (List Sh)) : accP acc (match r with | .ok l s3 => .ok (y :: l) s3 | .flt a k => .flt a k | .out => .out) = accP (acc ++ [y]) r := by
  cases r with
  | ok l s => simp [accP]
  | flt a k => rfl
  | out => rfl
set_option maxHeartbeats 8000000 in
theorem brack_step (G : Gr) (R f : Nat) (hE : ∀ j, j ≤ f → ExprC G R j) : BrackC G R (f + 1) := by
  intro m d s w hm1 hm3 hd hr hne
  have HE := Lib.hid hE
  have HD := Lib.hid hd
  have HM := Lib.hid (And.intro hm1 hm3)
  have HRl := Lib.hid hr.lt
  have HQ0 : Hid (BrackQ R G.en w w (.slice none 0 0) [] [] s) := Lib.hid ⟨World.ownsRow_nil _ _ _ _, TreesQ.none _ _, fun g h => by simp [Value.ownBlock] at h, hr, Chg.refl _ _⟩
  obtain ⟨r, hrr⟩ : ∃ r, brackP G (f + 1) m d opB s = r := ⟨_, rfl⟩
  rw [hrr] at hne ⊢
  have HRr : Hid (accP [] (brackP G (f + 1) m d opB s) = r) := Lib.hid (by rw [accP_nil]; exact hrr)
  have HNo := Lib.hid hne
  clear hE hd hr hne hrr hm1
  go_enter Tryz.func105, Tryz.ntmps105
  go_wp2
  go_loopw [7, 8, 10] (fun v7 v8 v10 wr => ∃ (i j : Nat) (bt : ByteArray) (ts : List Tr) (acc : List Sh) (sx : Rd), v10 = .int .i64 (i : Nat) ∧ v8 = .string bt ∧ Hid (i ≤ m ∧ ts.length = i ∧ j ≤ f + 1 ∧ bt ≠ ⟨#[]⟩ ∧ accP acc (brackP G j (m - i) d bt sx) = r) ∧ Hid (BrackQ R G.en w wr v7 ts acc sx)) (fun _ _ v10 _ => m - (intOf v10).toNat)
  case atStart => exact ⟨0, f + 1, opB, [], [], s, rfl, rfl, Lib.hid ⟨Nat.zero_le _, rfl, Nat.le_refl _, (by decide), HRr.out⟩, HQ0⟩
  case round =>
    clear HQ0 HRr
    obtain ⟨i, j, bt, ts, acc, sx, rfl, rfl, HJ, HBq⟩ := hrel
    obtain ⟨hi, hln, hj, hbt, hje⟩ := HJ.out
    have HBt := Lib.hid hbt
    have HLn := Lib.hid hln
    cases j with
    | zero => unfold brackP at hje; exact absurd hje.symm HNo.out
    | succ j' =>
    have HEc := Lib.hid (HE.out j' (by omega))
    have HJf : Hid (j' + 1 ≤ f + 1) := Lib.hid hj
    clear HJ hbt hj HE
    by_cases hlt : i < m
    · obtain ⟨q, hq⟩ : ∃ q, m - i = q + 1 := ⟨m - i - 1, by omega⟩
      have HQq : Hid (m - (i + 1) = q) := Lib.hid (by omega)
      rw [hq] at hje
      clear hq
      unfold brackP at hje
      cases hp : skipP bt sx with
      | none =>
        simp only [hp] at hje
        subst hje
        have HSk := Lib.hid (skip_f HBq.out.rd bt HBt.out hp)
        clear hp
        go_wp2_with (go_at_call 56; refine HSk.out.mono ?_; rintro e wd ⟨rfl, hr, hc⟩; refine Stop.out ?_)
        unfold Stop
        have HMu := Lib.hid (code_must_no hr _ rfl)
        have HCf := Lib.hid (HBq.out.chg.trans hc)
        clear hr hc HSk HBq
        go_wp2_with (go_at_call 39; refine HMu.out.mono ?_; rintro e we ⟨rfl, hb⟩; refine Stop.out ?_)
        unfold Stop
        first | exact ⟨rfl, rfl, HCf.out.trans (Chg.of hb)⟩ | (go_wp2; exact ⟨rfl, rfl, HCf.out.trans (Chg.of hb)⟩)
      | some s2 =>
        simp only [hp] at hje
        have HSk := Lib.hid (skip_t HBq.out.rd bt HBt.out hp)
        clear hp
        cases he : exprP G j' d s2 with
        | out => simp only [he] at hje; exact absurd hje.symm HNo.out
        | flt a k =>
          simp only [he] at hje
          subst hje
          go_wp2_with (go_at_call 56; refine HSk.out.mono ?_; rintro e wd ⟨rfl, hr, hc⟩; refine Stop.out ?_)
          unfold Stop
          have HRw := Lib.hid hr
          have HCw := Lib.hid hc
          clear hr hc HSk
          go_wp2_with (go_at_call 39; refine (code_must_yes R wd).mono ?_; rintro e we ⟨rfl, heq⟩; obtain rfl := heq.symm; refine Stop.out ?_)
          unfold Stop
          have hcall := HEc.out d s2 wd HD.out HRw.out (by rw [he]; exact fun e => by cases e)
          rw [he] at hcall
          have HCl := Lib.hid hcall
          have HCf := Lib.hid (HBq.out.chg.trans HCw.out)
          clear hcall he HBq
          go_wp2_with (go_at_call 38; refine HCl.out.mono ?_; rintro e we ⟨rfl, hc⟩; refine Stop.out ?_)
          unfold Stop
          first | exact ⟨rfl, rfl, HCf.out.trans hc⟩ | (go_wp2; exact ⟨rfl, rfl, HCf.out.trans hc⟩)
        | ok y s3 =>
          simp only [he] at hje
          have HJe := Lib.hid ((accP_next acc y (brackP G j' q d cmB s3)).symm.trans hje)
          clear hje
          go_wp2_with (go_at_call 56; refine HSk.out.mono ?_; rintro e wd ⟨rfl, hr, hc⟩; refine Stop.out ?_)
          unfold Stop
          have HRw := Lib.hid hr
          have HCw := Lib.hid hc
          clear hr hc HSk
          go_wp2_with (go_at_call 39; refine (code_must_yes R wd).mono ?_; rintro e we ⟨rfl, heq⟩; obtain rfl := heq.symm; refine Stop.out ?_)
          unfold Stop
          have hcall := HEc.out d s2 wd HD.out HRw.out (by rw [he]; exact fun e => by cases e)
          rw [he] at hcall
          have HCl := Lib.hid hcall
          clear hcall he
          go_wp2_with (go_at_call 38; refine HCl.out.mono ?_; rintro e w2 ⟨k, n, fd, fA, fn, fc, kv, kb, kc, ks, rfl, hkv, ht, hr, hc⟩; refine Stop.out ?_)
          unfold Stop
          have HTq := Lib.hid ht
          have HR2 := Lib.hid hr
          have HC2 := Lib.hid hc
          have hone := kids_one kb kc ks
          rw [← hkv.out] at hone
          have hall := all5 (k := k) (n := n) (fd := fd) (fA := fA) (fn := fn) (fc := fc) hone
          have HAl := Lib.hid hall
          have HSl := Lib.hid (heap_alloc_new w2 (.cells #[.int .i64 k, .int .i64 n, .string fd, .slice fA fn fc, kv] 32))
          have HBs := Lib.hid (below_alloc w2 (.cells #[.int .i64 k, .int .i64 n, .string fd, .slice fA fn fc, kv] 32))
          have HOw := Lib.hid (brackQ_own HBq.out HCw.out HC2.out HBs.out)
          clear ht hr hc HCl hall
          go_wp2_with (at_builtin; refine wpList_app (S := 30) (T := 32) Tryz.underlying30 factE rfl (by decide) (by decide) rfl _ _ rfl w.heap.size _ ts.length (exCs ts) [.int .i64 k, .int .i64 n, .string fd, .slice fA fn fc, kv] rfl HOw.out w2.heap.size rfl HSl.out rfl HAl.out (by have := HLn.out; omega) (Nat.le_trans HBq.out.chg.size (Nat.le_trans HCw.out.size (Nat.le_trans HC2.out.size HBs.out.size))) ?_; intro v' w4 k1 k2 k3; have HO4 := Lib.hid k1; have HG4 := Lib.hid k2; have HA4 := Lib.hid k3; clear k1 k2 k3; refine Stop.out ?_)
          unfold Stop
          have HNx : Hid (BrackQ R G.en w w4 v' (ts ++ [.mk k n fd fA fn fc kb kc ks]) (acc ++ [y]) s3) := Lib.hid (brackQ_next HBq.out HRl.out HRw.out HCw.out HTq.out HR2.out HC2.out HBs.out HOw.out (by have := HO4.out; rw [hkv.out] at this; exact this) HG4.out HA4.out)
          clear HBq HRw HCw HTq HR2 HC2 HBs HOw HO4 HG4 HA4 HAl HSl hone
          go_wp2
          refine ⟨⟨i + 1, j', cmB, _, _, s3, by first | rfl | simp, rfl, Lib.hid ⟨by omega, by rw [List.length_append]; simp [HLn.out], by have := HJf.out; omega, (by decide), by rw [HQq.out]; exact HJe.out⟩, HNx⟩, by simp [intOf]; omega⟩
    · obtain rfl : i = m := by omega
      rw [Nat.sub_self] at hje
      unfold brackP at hje
      cases hp : skipP shB sx with
      | none =>
        simp only [hp] at hje
        subst hje
        have HSk := Lib.hid (skip_f HBq.out.rd shB (by decide) hp)
        clear hp
        go_wp2_with (go_at_call 56; refine HSk.out.mono ?_; rintro e wd ⟨rfl, hr, hc⟩; refine Stop.out ?_)
        unfold Stop
        have HMu := Lib.hid (code_must_no hr _ rfl)
        have HCf := Lib.hid (HBq.out.chg.trans hc)
        clear hr hc HSk HBq
        go_wp2_with (go_at_call 39; refine HMu.out.mono ?_; rintro e we ⟨rfl, hb⟩; refine Stop.out ?_)
        unfold Stop
        first | exact ⟨rfl, rfl, HCf.out.trans (Chg.of hb)⟩ | (go_wp2; exact ⟨rfl, rfl, HCf.out.trans (Chg.of hb)⟩)
      | some s2 =>
        simp only [hp] at hje
        have HSk := Lib.hid (skip_t HBq.out.rd shB (by decide) hp)
        have hje2 : PR.ok acc s2 = r := by rw [← hje]; simp [accP]
        subst hje2
        clear hp hje
        go_wp2_with (go_at_call 56; refine HSk.out.mono ?_; rintro e wd ⟨rfl, hr, hc⟩; refine Stop.out ?_)
        unfold Stop
        have HRw := Lib.hid hr
        have HCw := Lib.hid hc
        clear hr hc HSk
        go_wp2_with (go_at_call 39; refine (code_must_yes R wd).mono ?_; rintro e we ⟨rfl, heq⟩; obtain rfl := heq.symm; refine Stop.out ?_)
        unfold Stop
        have HFin := Lib.hid (brackQ_end HBq.out HRl.out (fun e => by have := HLn.out; have := HM.out; rw [e] at *; simp at *; omega) HRw.out HCw.out)
        clear HBq HRw HCw
        go_wp2
        go_ret
        exact HFin.out
end Go.Proofs.YtpapcnogbmjpjaaGreatDoor
