/- A program is read. -/
import Derived.Test.YtpapcnogbmjpjaaGreatDoorK32
namespace Go.Proofs.YtpapcnogbmjpjaaGreatDoor
open Go.RowKit
set_option maxRecDepth 100000
set_option linter.unusedSimpArgs false
set_option linter.unusedVariables false
attribute [local go_sem] Oper.semAt_some

theorem wpList_appF {S T : TypeId} {sz bytes : Nat} {z : Value} (ht : Tryz.prog.underlying S = some (.slice T)) (hf : (Tryz.prog.info? T).map (fun i => (i.zero, i.size, i.bytes)) = some (some z, sz, bytes)) (hzs : z.cells.size = sz) (hsz : 0 < sz) (hby : bytes ≤ 1000)
    {w : World} {ops : Array Oper} {rest : List Oper} {o : Oper} {a : Act} {Q : Exit → Act → World → Prop} (hgd : o.guard = none) (s x : Operand) (ho : o.op = .call { callee := .builtin .append, args := #[s, x], argTypes := #[S, S] }) (B : Nat) (v : Value) (n : Nat) (xs news : List Value)
    (hs : a.eval s = v) (hown : w.ownsRow B T sz v n xs) (g : Nat) (hx : a.eval x = .slice (some ⟨g, 0, none⟩) 1 1) {T' : TypeId} {fr : Nat × Nat} (hg : w.heap[g]? = some (.cells news.toArray T' fr)) (hnl : news.length = sz) (h1 : ∀ u ∈ news, u.oneCell' = true) (hn : n ≤ 1048576) (hB : B ≤ w.heap.size)
    (h : ∀ v' w', w'.ownsRow B T sz v' (n + 1) (xs ++ news) → w.grownBy w' v.ownBlock → (v'.ownBlock = v.ownBlock ∨ v'.ownBlock = some w.heap.size) → wpList Tryz.prog ops Q rest (a.put o.dst v') w') : wpList Tryz.prog ops Q (o :: rest) a w :=
  wpList_plain hgd fun K hK => wp_appF ht hf hzs hsz hby s x ho B v n xs news hs hown g hx hg hnl h1 hn hB fun v' w' k1 k2 k3 => hK _ _ (h v' w' k1 k2 k3)
theorem TreesQ.grownB {B : Nat} {w w' : World} {l : List Tr} {s : List Sh} (h : TreesQ B w l s) {v : Value} {n B2 : Nat} {xs : List Value} (ho : w.ownsRow B2 42 6 v n xs) (hg : w.grownBy w' v.ownBlock) (hoff : ∀ g, v.ownBlock = some g → g ∉ bL l) : TreesQ B w' l s :=
  ⟨h.at_.on l (fun k hk => hg.block k (AtL.lt l h.at_ k hk) (fun e => hoff k e.symm hk)) hg.size, h.nd, h.ge, h.sh.keep (fun g cs' hg' => (hg.block g (heapLt hg') (fun e => own_off ho hg' (by decide) e.symm)).trans hg') l s⟩
theorem RdAt.grownB {w w' : World} {R : Nat} {en : Int} {s : Rd} (h : RdAt w R en s) {v : Value} {n B2 : Nat} {xs : List Value} (ho : w.ownsRow B2 42 6 v n xs) (hg : w.grownBy w' v.ownBlock) : RdAt w' R en s := by
  cases hv : v.ownBlock with
  | none =>
    rw [hv] at hg
    exact h.on ⟨hg.os, hg.tape, hg.output, hg.size, fun k hk => hg.block k hk (fun e => by cases e)⟩
  | some g =>
    obtain ⟨_, cur, hc⟩ := own_block ho g hv
    rw [hv] at hg
    obtain ⟨cs, hr⟩ := rd_block h
    exact h.rowB hc (fun e => by
      rw [e, hc] at hr
      injection hr with hr
      injection hr with _ h2 _
      exact absurd h2 (by decide)) hg.size (fun k hk hne => hg.block k hk (fun e => hne (Option.some.inj e)))
theorem Chg.grownB {R : Nat} {w0 w w' : World} (h : Chg R w0 w) {v : Value} {n B2 : Nat} {xs : List Value} (ho : w.ownsRow B2 42 6 v n xs) (hg : w.grownBy w' v.ownBlock) (hB : w0.heap.size ≤ B2) : Chg R w0 w' :=
  ⟨hg.os.trans h.os, hg.tape.trans h.tape, hg.output.trans h.output, Nat.le_trans h.size hg.size, fun i hi hr => (hg.block i (Nat.lt_of_lt_of_le hi h.size) (fun e => by
    have := (own_block ho i e.symm).1
    omega)).trans (h.heap hi (fun e => hr (by rw [e])))⟩
theorem factBx : (Tryz.prog.info? 42).map (fun i => (i.zero, i.size, i.bytes)) = some (some (.agg #[.int .i64 0, .int .i64 0, .int .i64 0, .string ⟨#[]⟩, .slice none 0 0, .slice none 0 0]), 6, 88) := by kernel_rfl
/-- boxes, one behind the other, till nothing is left -/
def progP (en : Int) : Nat → Rd → PR (List (Int × Sh))
  | 0, _ => .out
  | f + 1, s => if s.T = [] then .ok [] s else match boxP en s with
    | .out => .out
    | .flt a k => .flt a k
    | .ok p s1 => (match progP en f s1 with
      | .ok l s2 => .ok (p :: l) s2
      | .flt a k => .flt a k
      | .out => .out)
def programP (en : Int) (s : Rd) : PR (List (Int × Sh)) := progP en (s.T.length + 1) s
theorem progP_out (en : Int) : ∀ (f : Nat) (s : Rd), s.T.length < f → progP en f s ≠ .out
  | 0, s, h => by omega
  | f + 1, s, hs => fun h => by
    unfold progP at h
    split at h
    · cases h
    · split at h
      · rename_i heq; exact boxP_out heq
      · cases h
      · rename_i heq
        have := boxP_len heq
        split at h
        · cases h
        · cases h
        · rename_i heq2; exact progP_out en f _ (by omega) heq2
theorem programP_out (en : Int) (s : Rd) : programP en s ≠ .out := progP_out en _ s (Nat.lt_succ_self _)
theorem progP_ne (en : Int) : ∀ (f : Nat) (s : Rd) (a k : Int), progP en f s = .flt a k → k ≠ 0
  | 0, s, a, k, h => by unfold progP at h; cases h
  | f + 1, s, a, k, h => by
    unfold progP at h
    split at h
    · cases h
    · split at h
      · cases h
      · rename_i heq; injection h with _ h; subst h; exact boxP_ne heq
      · split at h
        · cases h
        · rename_i heq; injection h with _ h; subst h; exact progP_ne en f _ _ _ heq
        · cases h
def accB (acc : List (Int × Sh)) : PR (List (Int × Sh)) → PR (List (Int × Sh))
  | .ok l s => .ok (acc ++ l) s
  | .flt a k => .flt a k
  | .out => .out
theorem accB_nil (r : PR (List (Int × Sh))) : accB [] r = r := by cases r <;> rfl
theorem accB_next (acc : List (Int × Sh)) (y : Int × Sh) (r : PR (List (Int × Sh))) : accB acc (match r with | .ok l s2 => .ok (y :: l) s2 | .flt a k => .flt a k | .out => .out) = accB (acc ++ [y]) r := by
  cases r with
  | ok l s => simp [accB]
  | flt a k => rfl
  | out => rfl
/-- what the loop keeps -/
structure ProgQ (R : Nat) (en : Int) (w0 w : World) (A : Option Addr) (c : Nat) (ts : List (Int × Tr)) (acc : List (Int × Sh)) (s : Rd) : Prop where
  own : w.ownsRow w0.heap.size 42 6 (.slice A ts.length c) ts.length (bxCs ts)
  boxes : BoxesQ w0.heap.size w ts acc
  off : ∀ g, (Value.slice A ts.length c).ownBlock = some g → g ∉ bL (ts.map (·.2))
  rd : RdAt w R en s
  chg : Chg R w0 w
theorem progQ_next {R : Nat} {en : Int} {w0 wr w2 q w4 : World} {A A' : Option Addr} {c c' : Nat} {ts : List (Int × Tr)} {acc : List (Int × Sh)} {m : Int} {u : Tr} {y : Sh} {s s3 : Rd} (h : ProgQ R en w0 wr A c ts acc s) (hR : R < w0.heap.size)
    (ht2 : TreeQ wr.heap.size w2 u y) (hr2 : RdAt w2 R en s3) (hcy : Chg R wr w2) (hb1 : Below w2.heap.size w2 q) (ho : q.ownsRow w0.heap.size 42 6 (.slice A ts.length c) ts.length (bxCs ts)) (hn : w4.ownsRow w0.heap.size 42 6 (.slice A' (ts.length + 1) c') (ts.length + 1) (bxCs ts ++ bxC (m, u))) (hg : q.grownBy w4 (Value.slice A ts.length c).ownBlock) (hat : (Value.slice A' (ts.length + 1) c').ownBlock = (Value.slice A ts.length c).ownBlock ∨ (Value.slice A' (ts.length + 1) c').ownBlock = some q.heap.size) :
    ProgQ R en w0 w4 A' c' (ts ++ [(m, u)]) (acc ++ [(m, y)]) s3 := by
  obtain ⟨cs, hrd⟩ := rd_block h.rd
  have t2 := h.boxes.trees.chg hR hrd hcy
  have l2 := t2.snoc ht2 h.chg.size (fun b hb => AtL.lt _ h.boxes.trees.at_ b hb)
  have lq := l2.on hb1
  have hoff : ∀ g, (Value.slice A ts.length c).ownBlock = some g → g ∉ bL (ts.map (·.2) ++ [u]) := fun g hv hm => by
    rw [bL_app, List.mem_append] at hm
    rcases hm with hm | hm
    · exact h.off g hv hm
    · have h1 := ht2.ge g hm
      obtain ⟨_, cur, hc⟩ := own_block h.own g hv
      have := heapLt hc
      omega
  have hl : (ts ++ [(m, u)]).length = ts.length + 1 := by simp
  have hm1 : (ts ++ [(m, u)]).map (·.2) = ts.map (·.2) ++ [u] := by simp
  have hm2 : (acc ++ [(m, y)]).map (·.2) = acc.map (·.2) ++ [y] := by simp
  refine ⟨by rw [hl, bxCs_app]; exact hn, ⟨by rw [hm1, hm2]; exact lq.grownB ho hg hoff, by simp [h.boxes.nums]⟩, ?_, (hr2.on hb1).grownB ho hg, ((h.chg.trans hcy).trans (Chg.of hb1)).grownB ho hg (Nat.le_refl _)⟩
  intro g hv hm
  rw [hl] at hv
  rw [hm1] at hm
  rcases hat with e | e
  · exact hoff g (e ▸ hv) hm
  · rw [hv] at e
    have := AtL.lt _ lq.at_ g hm
    have := Option.some.inj e
    omega
theorem all6 {m k n : Int} {fd : ByteArray} {fA : Option Addr} {fn fc : Nat} {kv : Value} (h : kv.oneCell' = true) : ∀ v ∈ [Value.int .i64 m, .int .i64 k, .int .i64 n, .string fd, .slice fA fn fc, kv], v.oneCell' = true := by
  intro v hv
  rcases List.mem_cons.1 hv with rfl | hv
  · rfl
  · exact all5 h v hv
set_option maxHeartbeats 8000000 in
theorem code_program {R : Nat} {en : Int} {s : Rd} {w : World} (hr : RdAt w R en s) : Calls Tryz.prog 14 #[.pointer (some ⟨R, 0, none⟩)] w (OutB R en w (programP en s)) := by
  have HRl := Lib.hid hr.lt
  have HQ0 : Hid (ProgQ R en w w none 0 [] [] s) := Lib.hid ⟨World.ownsRow_nil _ _ _ _, ⟨TreesQ.none _ _, rfl⟩, fun g h => by simp [Value.ownBlock] at h, hr, Chg.refl _ _⟩
  have HLq : Hid (s.T.length ≤ 1048576) := Lib.hid (by obtain ⟨A, k, _, _, _, _, h5, _⟩ := hr; exact h5.2)
  obtain ⟨r, hrr⟩ : ∃ r, programP en s = r := ⟨_, rfl⟩
  have HNo : Hid (r ≠ .out) := Lib.hid (by rw [← hrr]; exact programP_out en s)
  rw [hrr]
  have HRr : Hid (accB [] (progP en (s.T.length + 1) s) = r) := Lib.hid (by rw [accB_nil]; exact hrr)
  clear hr hrr
  go_enter Tryz.func14, Tryz.ntmps14
  go_wp2
  go_loopw [3] (fun v3 wr => ∃ (j : Nat) (A : Option Addr) (c : Nat) (ts : List (Int × Tr)) (acc : List (Int × Sh)) (sx : Rd), v3 = .slice A ts.length c ∧ Hid (accB acc (progP en j sx) = r ∧ ts.length + sx.T.length ≤ s.T.length) ∧ Hid (ProgQ R en w wr A c ts acc sx)) (fun _ wr => leftR R wr)
  case atStart => exact ⟨s.T.length + 1, none, 0, [], [], s, rfl, Lib.hid ⟨HRr.out, by simp⟩, HQ0⟩
  case round =>
    clear HQ0 HRr
    obtain ⟨j, A, c, ts, acc, sx, rfl, HJ, HPq⟩ := hrel
    obtain ⟨hje, hjl⟩ := HJ.out
    cases j with
    | zero => unfold progP at hje; exact absurd hje.symm HNo.out
    | succ j' =>
    have HLn : Hid (ts.length + sx.T.length ≤ s.T.length ∧ ts.length ≤ 1048576) := Lib.hid ⟨hjl, by have := HLq.out; omega⟩
    have HLf : Hid (leftR R wr = sx.T.length) := Lib.hid HPq.out.rd.left
    obtain ⟨RA, Rc, hf, hcm⟩ := rd_front HPq.out.rd
    have hsl : (sx.T.length : Int) ≤ 1048576 := by have := HLq.out; omega
    obtain ⟨c0, c1, c2, c3⟩ := row4c hf
    clear hjl HJ hf hcm
    unfold progP at hje
    by_cases hn : sx.T = []
    · rw [if_pos hn] at hje
      have hl0 : sx.T.length = 0 := by rw [hn]; rfl
      rw [hl0] at c0
      have hje2 : PR.ok acc sx = r := by rw [← hje]; simp [accB]
      subst hje2
      clear hn hl0 hje hsl
      go_wp2
      go_ret
      exact ⟨_, ts, rfl, HPq.out.own, HPq.out.boxes, HPq.out.rd, HPq.out.chg⟩
    · rw [if_neg hn] at hje
      have hpos : (0 : Int) < (sx.T.length : Int) := by
        have : sx.T.length ≠ 0 := fun e => hn (List.length_eq_zero_iff.1 e)
        omega
      have HBx := Lib.hid (code_box HPq.out.rd)
      clear hn
      cases hb : boxP en sx with
      | out => exact (boxP_out hb).elim
      | flt a k =>
        simp only [hb] at hje
        have hje2 : PR.flt a k = r := hje
        subst hje2
        rw [hb] at HBx
        have HC1 := Lib.hid HPq.out.chg
        clear hb hje
        go_wp2_with (go_at_call 30; refine HBx.out.mono ?_; rintro e w2 ⟨rfl, hc⟩; refine Stop.out ?_)
        unfold Stop
        first | exact ⟨rfl, OutB.fault rfl (HC1.out.trans hc)⟩ | (go_wp2; exact ⟨rfl, OutB.fault rfl (HC1.out.trans hc)⟩)
      | ok p s3 =>
        simp only [hb] at hje
        rw [hb] at HBx
        have HJe := Lib.hid ((accB_next acc p (progP en j' s3)).symm.trans hje)
        have HLs := Lib.hid (boxP_len hb)
        clear hb hje
        go_wp2_with (go_at_call 30; refine HBx.out.mono ?_; rintro e w2 ⟨k, n, fd, fA, fn, fc, kv, kb, kc, ks, rfl, hkv, ht, hr, hc⟩; refine Stop.out ?_)
        unfold Stop
        obtain ⟨csR, hrR⟩ := rd_block HPq.out.rd
        have HTq := Lib.hid ht
        have HR2 := Lib.hid hr
        have HC2 := Lib.hid hc
        have hone := kids_one kb kc ks
        rw [← hkv.out] at hone
        have hall := all6 (m := p.1) (k := k) (n := n) (fd := fd) (fA := fA) (fn := fn) (fc := fc) hone
        have HAl := Lib.hid hall
        have HSl := Lib.hid (heap_alloc_new w2 (.cells #[.int .i64 p.1, .int .i64 k, .int .i64 n, .string fd, .slice fA fn fc, kv] 42))
        have HBs := Lib.hid (below_alloc w2 (.cells #[.int .i64 p.1, .int .i64 k, .int .i64 n, .string fd, .slice fA fn fc, kv] 42))
        have HOw := Lib.hid (own_on (own_chg HPq.out.own hc (own_off HPq.out.own hrR (by decide))) HBs.out)
        clear ht hr hc HBx hall c0 c1 c2 c3 hpos hsl hrR
        go_wp2_with (at_builtin; refine wpList_appF (S := 23) (T := 42) Tryz.underlying23 factBx rfl (by decide) (by decide) rfl _ _ rfl w.heap.size _ ts.length (bxCs ts) [.int .i64 p.1, .int .i64 k, .int .i64 n, .string fd, .slice fA fn fc, kv] rfl HOw.out w2.heap.size rfl HSl.out rfl HAl.out HLn.out.2 (Nat.le_trans HPq.out.chg.size (Nat.le_trans HC2.out.size HBs.out.size)) ?_; intro v' w4 k1 k2 k3; have HO4 := Lib.hid k1; have HG4 := Lib.hid k2; have HA4 := Lib.hid k3; clear k1 k2 k3; refine Stop.out ?_)
        unfold Stop
        obtain ⟨A', c', rfl, _, _⟩ := own_form HO4.out
        have HNx : Hid (ProgQ R en w w4 A' c' (ts ++ [(p.1, .mk k n fd fA fn fc kb kc ks)]) (acc ++ [(p.1, p.2)]) s3) := Lib.hid (progQ_next HPq.out HRl.out HTq.out HR2.out HC2.out HBs.out HOw.out (by have := HO4.out; rw [hkv.out] at this; exact this) HG4.out HA4.out)
        clear HPq HTq HR2 HC2 HBs HOw HO4 HG4 HA4 HAl HSl hone
        go_wp2
        refine ⟨⟨j', A', c', _, _, s3, by simp, Lib.hid ⟨HJe.out, by rw [List.length_append]; have := HLn.out; have := HLs.out; simp; omega⟩, HNx⟩, ?_⟩
        rw [HNx.out.rd.left, HLf.out]
        exact HLs.out
end Go.Proofs.YtpapcnogbmjpjaaGreatDoor
