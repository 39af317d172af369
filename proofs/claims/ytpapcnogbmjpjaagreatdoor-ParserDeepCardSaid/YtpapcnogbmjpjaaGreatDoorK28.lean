/- Totals: the walk. -/
import Derived.Test.YtpapcnogbmjpjaaGreatDoorK27
namespace Go.Proofs.YtpapcnogbmjpjaaGreatDoor
open Go.RowKit
set_option maxRecDepth 100000
set_option linter.unusedSimpArgs false
set_option linter.unusedVariables false
attribute [local go_sem] Oper.semAt_some

/-- one element more, in a long row -/
theorem wp_appF {S T : TypeId} {sz bytes : Nat} {z : Value} (ht : Tryz.prog.underlying S = some (.slice T)) (hf : (Tryz.prog.info? T).map (fun i => (i.zero, i.size, i.bytes)) = some (some z, sz, bytes)) (hzs : z.cells.size = sz) (hsz : 0 < sz) (hby : bytes ≤ 1000)
    {w : World} {o : Oper} {a : Act} {K : Act → World → Prop} {Q : Exit → Act → World → Prop} (s x : Operand) (ho : o.op = .call { callee := .builtin .append, args := #[s, x], argTypes := #[S, S] }) (B : Nat) (v : Value) (n : Nat) (xs news : List Value)
    (hs : a.eval s = v) (hown : w.ownsRow B T sz v n xs) (g : Nat) (hx : a.eval x = .slice (some ⟨g, 0, none⟩) 1 1) {T' : TypeId} {fr : Nat × Nat} (hg : w.heap[g]? = some (.cells news.toArray T' fr)) (hnl : news.length = sz) (h1 : ∀ u ∈ news, u.oneCell' = true) (hn : n ≤ 1048576) (hB : B ≤ w.heap.size)
    (h : ∀ v' w', w'.ownsRow B T sz v' (n + 1) (xs ++ news) → w.grownBy w' v.ownBlock → (v'.ownBlock = v.ownBlock ∨ v'.ownBlock = some w.heap.size) → K (a.put o.dst v') w') : o.wp Tryz.prog a w K Q := by
  obtain ⟨i0, hi, hz0, hz1, hz2⟩ := info_parts hf
  obtain ⟨v', w', hr, h2, h3, h4, h5⟩ := run_append_own_at (P := Tryz.prog) w B S o.type T i0 z sz bytes ht hi hz0 hz1 hz2 hzs hsz v n xs hown ⟨g, 0, none⟩ 1 1 news (by omega) (fun j u hu => by
    have : (⟨g, 0, none⟩ : Addr).add j = ⟨g, j, none⟩ := by unfold Addr.add; by_cases e : j = 0 <;> simp [e]
    rw [this, cell_of_row _ g j _ _ _ hg]
    simpa using hu) h1 (by unfold maxLen; omega) (by
      have : (n + 1) * bytes ≤ 1048577 * 1000 := Nat.mul_le_mul (by omega) hby
      omega) hB
  unfold Oper.wp execOp
  simp only [ho, resolve, invoke, builtin, Sem.run_bind, Sem.run_pure, Result.andThen_ok, List.map_toArray, List.map_cons, List.map_nil, hs, hx, hr]
  exact h v' w' h2 h3 h5
theorem factF : (Tryz.prog.info? 60).map (fun i => (i.zero, i.size, i.bytes)) = some (some (.agg #[.string ⟨#[]⟩, .int .u8 0, .int .i64 0]), 3, 32) := by kernel_rfl
theorem filCs_app (l : List FilV) (f : FilV) : filCs (l ++ [f]) = filCs l ++ filC f := by simp [filCs]
theorem fil_own {w : World} {B : Nat} {v : Value} {fs : List FilV} (h : w.ownsRow B 60 3 v fs.length (filCs fs)) : ∃ A c, v = .slice A fs.length c ∧ FilAt w A fs.length c fs := by
  rcases h.2 with ⟨rfl, e⟩ | ⟨g, cap, cur, rfl, hB, hh, hl, hm, hs, htk⟩
  · have e' : fs = [] := List.length_eq_zero_iff.1 e
    subst e'
    exact ⟨none, 0, rfl, .inl ⟨rfl, rfl, rfl, rfl⟩⟩
  · refine ⟨_, cap, rfl, .inr ⟨g, cur, rfl, rfl, hl, hm, hh, fun j x hx => ?_⟩⟩
    rw [← htk] at hx
    rw [List.getElem?_take] at hx
    split at hx
    · simpa using hx
    · cases hx
theorem RdAt.grownF {w w' : World} {R : Nat} {en : Int} {s : Rd} (h : RdAt w R en s) {v : Value} {n B2 : Nat} {xs : List Value} (ho : w.ownsRow B2 60 3 v n xs) (hg : w.grownBy w' v.ownBlock) : RdAt w' R en s := by
  cases hv : v.ownBlock with
  | none =>
    rw [hv] at hg
    exact h.on ⟨hg.os, hg.tape, hg.output, hg.size, fun k hk => hg.block k hk (fun e => by cases e)⟩
  | some g =>
    obtain ⟨_, cur, hc⟩ := own_block ho g hv
    rw [hv] at hg
    obtain ⟨cs, hr⟩ := rd_block h
    exact h.rowF hc (fun e => by
      rw [e, hc] at hr
      injection hr with hr
      injection hr with _ h2 _
      exact absurd h2 (by decide)) hg.size (fun k hk hne => hg.block k hk (fun e => hne (Option.some.inj e)))
theorem Chg.grownF {R : Nat} {w0 w w' : World} (h : Chg R w0 w) {v : Value} {n B2 : Nat} {xs : List Value} (ho : w.ownsRow B2 60 3 v n xs) (hg : w.grownBy w' v.ownBlock) (hB : w0.heap.size ≤ B2) : Chg R w0 w' :=
  ⟨hg.os.trans h.os, hg.tape.trans h.tape, hg.output.trans h.output, Nat.le_trans h.size hg.size, fun i hi hr => (hg.block i (Nat.lt_of_lt_of_le hi h.size) (fun e => by
    have := (own_block ho i e.symm).1
    omega)).trans (h.heap hi (fun e => hr (by rw [e])))⟩
theorem cell_putE {w : World} {R g : Nat} {en : Int} {s : Rd} (h : RdAt w R en s) {cs : Array Value} (hg : w.heap[g]? = some (Obj.cells cs 32 (0, 0))) (hR : R ≠ g) (i : Nat) (v : Value) : RdAt (w.setCell ⟨g, i, none⟩ v) R en s :=
  h.row hg hR (by rw [World.size_setCell]; exact Nat.le_refl _) (fun k _ hne => heap_setCell_other w ⟨g, i, none⟩ k v hne)
theorem FilAt.chg {w w' : World} {R : Nat} {en : Int} {sx : Rd} {fA : Option Addr} {fn fc : Nat} {fs : List FilV} (h : FilAt w fA fn fc fs) (hr : RdAt w R en sx) (hc : Chg R w w') : FilAt w' fA fn fc fs := by
  obtain ⟨cs, hr⟩ := rd_block hr
  exact h.keep (fun g cs' hg => (hc.heap (heapLt hg) (fun e => by
    rw [e, hr] at hg
    injection hg with hg
    injection hg with _ h2 _
    exact absurd h2 (by decide))).trans hg)
/-- what the loop of a Total keeps -/
structure TotL (R : Nat) (en : Int) (w0 w : World) (gx : Nat) (x : ByteArray) (A : Option Addr) (c : Nat) (acc : List FilV) (s : Rd) : Prop where
  own : w.ownsRow w0.heap.size 60 3 (.slice A acc.length c) acc.length (filCs acc)
  rd : RdAt w R en s
  chg : Chg R w0 w
  box : w.heap[gx]? = some (.cells #[.int .i64 3, .int .i64 0, .string x, .slice A acc.length c, .slice none 0 0] 32 (0, 0))
  res : w.heap[w0.heap.size]? = some (.cells #[.int .i64 0, .int .i64 0, .string ⟨#[]⟩, .slice none 0 0, .slice none 0 0] 32 (0, 0))
theorem totL_own {R gx : Nat} {en : Int} {w0 wr wd w2 q : World} {x : ByteArray} {A : Option Addr} {c : Nat} {acc : List FilV} {s : Rd} (h : TotL R en w0 wr gx x A c acc s) (hc1 : Chg R wr wd) (hcy : Chg R wd w2) (hb1 : Below w2.heap.size w2 q) : q.ownsRow w0.heap.size 60 3 (.slice A acc.length c) acc.length (filCs acc) := by
  obtain ⟨cs, hrd⟩ := rd_block h.rd
  have ho : (Value.slice A acc.length c).ownBlock ≠ some R := own_off h.own hrd (by decide)
  exact own_on (own_chg (own_chg h.own hc1 ho) hcy ho) hb1
theorem totL_next {R gx : Nat} {en : Int} {w0 wr wd w2 q w4 : World} {x : ByteArray} {A A' : Option Addr} {c c' : Nat} {acc : List FilV} {f : FilV} {s s3 : Rd} (h : TotL R en w0 wr gx x A c acc s) (hR : R < w0.heap.size) (hgx : w0.heap.size < gx) (hc1 : Chg R wr wd)
    (hr2 : RdAt w2 R en s3) (hcy : Chg R wd w2) (hb1 : Below w2.heap.size w2 q) (ho : q.ownsRow w0.heap.size 60 3 (.slice A acc.length c) acc.length (filCs acc)) (hn : w4.ownsRow w0.heap.size 60 3 (.slice A' (acc.length + 1) c') (acc.length + 1) (filCs acc ++ [.string f.tag, .int .u8 f.sg, .int .i64 f.n])) (hg : q.grownBy w4 (Value.slice A acc.length c).ownBlock) :
    w4.heap[gx]? = some (.cells #[.int .i64 3, .int .i64 0, .string x, .slice A acc.length c, .slice none 0 0] 32 (0, 0)) ∧ TotL R en w0 (w4.setCell ⟨gx, 3, none⟩ (.slice A' (acc.length + 1) c')) gx x A' c' (acc ++ [f]) s3 := by
  have hne : gx ≠ R := by omega
  have hbq : q.heap[gx]? = some (.cells #[.int .i64 3, .int .i64 0, .string x, .slice A acc.length c, .slice none 0 0] 32 (0, 0)) := heap_on hb1 (cell_far hcy (cell_far hc1 h.box hne) hne)
  have hoff : (Value.slice A acc.length c).ownBlock ≠ some gx := own_off ho hbq (by decide)
  have hb4 := (hg.block gx (heapLt hbq) (fun e => hoff e.symm)).trans hbq
  have hbq' : q.heap[w0.heap.size]? = some (.cells #[.int .i64 0, .int .i64 0, .string ⟨#[]⟩, .slice none 0 0, .slice none 0 0] 32 (0, 0)) := heap_on hb1 (cell_far hcy (cell_far hc1 h.res (by omega)) (by omega))
  have hoff' : (Value.slice A acc.length c).ownBlock ≠ some w0.heap.size := own_off ho hbq' (by decide)
  have hb4' := (hg.block w0.heap.size (heapLt hbq') (fun e => hoff' e.symm)).trans hbq'
  refine ⟨hb4, ?_, ?_, ?_, ?_, ?_⟩
  · have hl : (acc ++ [f]).length = acc.length + 1 := by simp
    rw [hl, filCs_app]
    exact own_chg hn (Chg.one w4 3 _) (own_off hn hb4 (by decide))
  · exact cell_putE ((hr2.on hb1).grownF ho hg) hb4 hne.symm 3 _
  · exact ((((h.chg.trans hc1).trans hcy).trans (Chg.of hb1)).grownF ho hg (Nat.le_refl _)).over (Chg.one w4 3 _) (Nat.le_of_lt hgx)
  · have := put_row hb4 3 (.slice A' (acc.length + 1) c')
    simpa using this
  · exact (heap_setCell_other w4 ⟨gx, 3, none⟩ w0.heap.size _ (by show w0.heap.size ≠ gx; omega)).trans hb4'
theorem tot_tree (B : Nat) (w : World) (x : ByteArray) (A : Option Addr) (c : Nat) (fs : List FilV) (h : FilAt w A fs.length c fs) : TreeQ B w (.mk 3 0 x A fs.length c 0 0 []) (.mk 3 0 x fs []) :=
  ⟨by unfold AtT AtL; exact ⟨trivial, fun h => absurd rfl h⟩, by simp [bT, bK, bL], by simp [bT, bK, bL], by unfold Shows ShowsL; exact ⟨rfl, rfl, rfl, h, trivial⟩⟩
theorem build_t3 (w : World) : (Instr.build 32 #[(0, .int .i64 3)]).run Tryz.prog w = .ok (.agg #[.int .i64 3, .int .i64 0, .string ⟨#[]⟩, .slice none 0 0, .slice none 0 0]) w := run_build w 32 _ _ (by kernel_rfl)
/-- what comes behind the filters -/
def finP (en : Int) (x : ByteArray) (acc : List FilV) : PR (List FilV) → PR Sh
  | .out => .out
  | .flt a k => .flt a k
  | .ok l s3 => match skipP shB s3 with
    | none => .flt (posP en s3) 81
    | some s4 => .ok (.mk 3 0 x (acc ++ l) []) { s4 with lg := s4.lg || !totB x (acc ++ l) }
theorem finP_next (en : Int) (x : ByteArray) (acc : List FilV) (f : FilV) (r : PR (List FilV)) : finP en x acc (match r with | .ok l s3 => .ok (f :: l) s3 | .flt a k => .flt a k | .out => .out) = finP en x (acc ++ [f]) r := by
  cases r with
  | ok l s => simp [finP]
  | flt a k => rfl
  | out => rfl
theorem totalP_fin {en : Int} {s s1 s2 : Rd} {x : ByteArray} (h0 : skipP opB s = some s1) (h1 : nameP en s1 = .ok x s2) : totalP en s = finP en x [] (filsP en (s2.T.length + 1) s2) := by
  unfold totalP
  simp only [h0, h1]
  cases filsP en (s2.T.length + 1) s2 with
  | out => rfl
  | flt a k => rfl
  | ok l s3 =>
    simp only [finP, List.nil_append]
    cases skipP shB s3 <;> rfl
set_option maxHeartbeats 8000000 in
theorem code_total (en : Int) (R : Nat) : TotalC (gramG en) R := by
  intro s w hr hne
  show Calls Tryz.prog 104 #[.pointer (some ⟨R, 0, none⟩)] w (OutQ R en w (totalP en s))
  have hne : totalP en s ≠ .out := hne
  obtain ⟨hB0, h2, h3⟩ := two_alloc w (.cells #[.int .i64 0, .int .i64 0, .string ⟨#[]⟩, .slice none 0 0, .slice none 0 0] 32) (.cells #[.int .i64 0, .int .i64 0, .string ⟨#[]⟩, .slice none 0 0, .slice none 0 0] 32)
  have HRl := Lib.hid hr.lt
  have HR0 := Lib.hid (RdAt.on (en := en) hr hB0)
  have HC0 : Hid (Chg R w _) := Lib.hid (Chg.of (R := R) hB0)
  have HB0 := Lib.hid hB0
  have H2 := Lib.hid h2
  have H3 := Lib.hid h3
  have hbt := build_t3
  clear hr hB0 h2 h3
  cases h0 : skipP opB s with
  | none =>
    have hr0 : totalP en s = .flt (posP en s) 81 := by unfold totalP; simp only [h0]
    rw [hr0]
    clear hr0 hne
    go_enter Tryz.func104, Tryz.ntmps104
    go_wp2_with ((with_reducible refine wpList_store_row (o := ⟨none, _, _, _, _, _⟩) 32 ?b0 (.tmp 3) (.tmp 4) ?b1 (w.heap.size + 1) ?b2 [.int .i64 3, .int .i64 0, .string ⟨#[]⟩, .slice none 0 0, .slice none 0 0] ?b3 ?b4 ?b5 #[.int .i64 0, .int .i64 0, .string ⟨#[]⟩, .slice none 0 0, .slice none 0 0] ?b6 32 ?b7 ?_); (case b0 => rfl); (case b1 => rfl); (case b2 => rfl); (case b3 => exact expr_info); (case b4 => simp [Value.oneCell']); (case b5 => rfl); (case b6 => rfl); (case b7 => exact H3.out); (try simp only [Act.put]); refine Stop.out ?_)
    unfold Stop
    have HRw := Lib.hid (row_then (g := w.heap.size + 1) (new := #[.int .i64 3, .int .i64 0, .string ⟨#[]⟩, .slice none 0 0, .slice none 0 0]) H3.out rfl rfl)
    have HCg := Lib.hid (setRow_chg ((w.alloc (.cells #[.int .i64 0, .int .i64 0, .string ⟨#[]⟩, .slice none 0 0, .slice none 0 0] 32)).alloc (.cells #[.int .i64 0, .int .i64 0, .string ⟨#[]⟩, .slice none 0 0, .slice none 0 0] 32)) (w.heap.size + 1) #[.int .i64 3, .int .i64 0, .string ⟨#[]⟩, .slice none 0 0, .slice none 0 0])
    have HR1 := Lib.hid (HR0.out.row5 ⟨_, _, _, rfl⟩ ⟨_, _, _, rfl⟩ H3.out (by have := HRl.out; omega) HCg.out)
    have HC1 := Lib.hid (HC0.out.over HCg.out (by omega))
    have H21 := Lib.hid ((HCg.out.heap (heapLt H2.out) (by omega)).trans H2.out)
    clear HCg H2 H3 HR0 HC0 HB0
    generalize World.setRow _ _ _ = w1 at HRw HR1 HC1 H21 ⊢
    have HX1 : Hid (w1.heap[w.heap.size + 1]? = some (.cells #[.int .i64 3, .int .i64 0, .string ⟨#[]⟩, .slice none 0 0, .slice none 0 0] 32 (0, 0))) := HRw
    clear HRw
    have HSk := Lib.hid (skip_f HR1.out opB (by decide) h0)
    clear h0
    go_wp2_with (go_at_call 56; refine HSk.out.mono ?_; rintro e wd ⟨rfl, hr, hc⟩; refine Stop.out ?_)
    unfold Stop
    have HMu := Lib.hid (code_must_no hr _ rfl)
    have HCf := Lib.hid (HC1.out.trans hc)
    clear hr hc HSk
    go_wp2_with (go_at_call 39; refine HMu.out.mono ?_; rintro e we ⟨rfl, hb⟩; refine Stop.out ?_)
    unfold Stop
    first | exact ⟨rfl, OutQ.fault rfl (HCf.out.trans (Chg.of hb))⟩ | (go_wp2; exact ⟨rfl, OutQ.fault rfl (HCf.out.trans (Chg.of hb))⟩)
  | some s1 =>
  cases hn : nameP en s1 with
  | out => exact (nameP_out hn).elim
  | flt a k =>
    have hr0 : totalP en s = .flt a k := by unfold totalP; simp only [h0, hn]
    rw [hr0]
    clear hr0 hne
    go_enter Tryz.func104, Tryz.ntmps104
    go_wp2_with ((with_reducible refine wpList_store_row (o := ⟨none, _, _, _, _, _⟩) 32 ?b0 (.tmp 3) (.tmp 4) ?b1 (w.heap.size + 1) ?b2 [.int .i64 3, .int .i64 0, .string ⟨#[]⟩, .slice none 0 0, .slice none 0 0] ?b3 ?b4 ?b5 #[.int .i64 0, .int .i64 0, .string ⟨#[]⟩, .slice none 0 0, .slice none 0 0] ?b6 32 ?b7 ?_); (case b0 => rfl); (case b1 => rfl); (case b2 => rfl); (case b3 => exact expr_info); (case b4 => simp [Value.oneCell']); (case b5 => rfl); (case b6 => rfl); (case b7 => exact H3.out); (try simp only [Act.put]); refine Stop.out ?_)
    unfold Stop
    have HRw := Lib.hid (row_then (g := w.heap.size + 1) (new := #[.int .i64 3, .int .i64 0, .string ⟨#[]⟩, .slice none 0 0, .slice none 0 0]) H3.out rfl rfl)
    have HCg := Lib.hid (setRow_chg ((w.alloc (.cells #[.int .i64 0, .int .i64 0, .string ⟨#[]⟩, .slice none 0 0, .slice none 0 0] 32)).alloc (.cells #[.int .i64 0, .int .i64 0, .string ⟨#[]⟩, .slice none 0 0, .slice none 0 0] 32)) (w.heap.size + 1) #[.int .i64 3, .int .i64 0, .string ⟨#[]⟩, .slice none 0 0, .slice none 0 0])
    have HR1 := Lib.hid (HR0.out.row5 ⟨_, _, _, rfl⟩ ⟨_, _, _, rfl⟩ H3.out (by have := HRl.out; omega) HCg.out)
    have HC1 := Lib.hid (HC0.out.over HCg.out (by omega))
    have H21 := Lib.hid ((HCg.out.heap (heapLt H2.out) (by omega)).trans H2.out)
    clear HCg H2 H3 HR0 HC0 HB0
    generalize World.setRow _ _ _ = w1 at HRw HR1 HC1 H21 ⊢
    have HX1 : Hid (w1.heap[w.heap.size + 1]? = some (.cells #[.int .i64 3, .int .i64 0, .string ⟨#[]⟩, .slice none 0 0, .slice none 0 0] 32 (0, 0))) := HRw
    clear HRw
    have HSk := Lib.hid (skip_t HR1.out opB (by decide) h0)
    clear h0
    go_wp2_with (go_at_call 56; refine HSk.out.mono ?_; rintro e wa ⟨rfl, hr, hc⟩; refine Stop.out ?_)
    unfold Stop
    have HRa := Lib.hid hr
    have HCa := Lib.hid hc
    clear hr hc HSk
    go_wp2_with (go_at_call 39; refine (code_must_yes R wa).mono ?_; rintro e we ⟨rfl, heq⟩; obtain rfl := heq.symm; refine Stop.out ?_)
    unfold Stop
    have HNm := Lib.hid (code_name HRa.out)
    rw [hn] at HNm
    clear hn
    go_wp2_with (go_at_call 117; refine HNm.out.mono ?_; rintro e w3 ⟨rfl, hc⟩; refine Stop.out ?_)
    unfold Stop
    first | exact ⟨rfl, OutQ.fault rfl ((HC1.out.trans HCa.out).trans hc)⟩ | (go_wp2; exact ⟨rfl, OutQ.fault rfl ((HC1.out.trans HCa.out).trans hc)⟩)
  | ok x s2 =>
    have hr0 := totalP_fin h0 hn
    obtain ⟨r, hrr⟩ : ∃ r, totalP en s = r := ⟨_, rfl⟩
    have HRr : Hid (finP en x [] (filsP en (s2.T.length + 1) s2) = r) := Lib.hid (hr0.symm.trans hrr)
    rw [hrr] at hne ⊢
    have HNo := Lib.hid hne
    clear hr0 hrr hne
    go_enter Tryz.func104, Tryz.ntmps104
    go_wp2_with ((with_reducible refine wpList_store_row (o := ⟨none, _, _, _, _, _⟩) 32 ?b0 (.tmp 3) (.tmp 4) ?b1 (w.heap.size + 1) ?b2 [.int .i64 3, .int .i64 0, .string ⟨#[]⟩, .slice none 0 0, .slice none 0 0] ?b3 ?b4 ?b5 #[.int .i64 0, .int .i64 0, .string ⟨#[]⟩, .slice none 0 0, .slice none 0 0] ?b6 32 ?b7 ?_); (case b0 => rfl); (case b1 => rfl); (case b2 => rfl); (case b3 => exact expr_info); (case b4 => simp [Value.oneCell']); (case b5 => rfl); (case b6 => rfl); (case b7 => exact H3.out); (try simp only [Act.put]); refine Stop.out ?_)
    unfold Stop
    have HRw := Lib.hid (row_then (g := w.heap.size + 1) (new := #[.int .i64 3, .int .i64 0, .string ⟨#[]⟩, .slice none 0 0, .slice none 0 0]) H3.out rfl rfl)
    have HCg := Lib.hid (setRow_chg ((w.alloc (.cells #[.int .i64 0, .int .i64 0, .string ⟨#[]⟩, .slice none 0 0, .slice none 0 0] 32)).alloc (.cells #[.int .i64 0, .int .i64 0, .string ⟨#[]⟩, .slice none 0 0, .slice none 0 0] 32)) (w.heap.size + 1) #[.int .i64 3, .int .i64 0, .string ⟨#[]⟩, .slice none 0 0, .slice none 0 0])
    have HR1 := Lib.hid (HR0.out.row5 ⟨_, _, _, rfl⟩ ⟨_, _, _, rfl⟩ H3.out (by have := HRl.out; omega) HCg.out)
    have HC1 := Lib.hid (HC0.out.over HCg.out (by omega))
    have H21 := Lib.hid ((HCg.out.heap (heapLt H2.out) (by omega)).trans H2.out)
    clear HCg H2 H3 HR0 HC0 HB0
    generalize World.setRow _ _ _ = w1 at HRw HR1 HC1 H21 ⊢
    have HX1 : Hid (w1.heap[w.heap.size + 1]? = some (.cells #[.int .i64 3, .int .i64 0, .string ⟨#[]⟩, .slice none 0 0, .slice none 0 0] 32 (0, 0))) := HRw
    clear HRw
    have HSk := Lib.hid (skip_t HR1.out opB (by decide) h0)
    clear h0
    go_wp2_with (go_at_call 56; refine HSk.out.mono ?_; rintro e wa ⟨rfl, hr, hc⟩; refine Stop.out ?_)
    unfold Stop
    have HRa := Lib.hid hr
    have HCa := Lib.hid hc
    clear hr hc HSk
    go_wp2_with (go_at_call 39; refine (code_must_yes R wa).mono ?_; rintro e we ⟨rfl, heq⟩; obtain rfl := heq.symm; refine Stop.out ?_)
    unfold Stop
    have HNm := Lib.hid (code_name HRa.out)
    rw [hn] at HNm
    have HX2 := Lib.hid (cell_far HCa.out HX1.out (by have := HRl.out; omega))
    have H22 := Lib.hid (cell_far HCa.out H21.out (by have := HRl.out; omega))
    clear hn HX1 H21
    go_wp2_with (go_at_call 117; refine HNm.out.mono ?_; rintro e w3 ⟨rfl, hr, hc⟩; refine Stop.out ?_)
    unfold Stop
    have HX3 := Lib.hid (cell_far hc HX2.out (by have := HRl.out; omega))
    have H23 := Lib.hid (cell_far hc H22.out (by have := HRl.out; omega))
    have hne3 : R ≠ w.heap.size + 1 := by have := HRl.out; omega
    have HR4 := Lib.hid (cell_putE hr HX3.out hne3 2 (.string x))
    have HX4 := Lib.hid (put_row HX3.out 2 (.string x))
    have H24 := Lib.hid ((heap_setCell_other w3 ⟨w.heap.size + 1, 2, none⟩ w.heap.size (.string x) (by show w.heap.size ≠ w.heap.size + 1; omega)).trans H23.out)
    have HC4 := Lib.hid (((HC1.out.trans HCa.out).trans hc).over (Chg.one (R := w.heap.size + 1) w3 2 (.string x)) (by omega))
    obtain ⟨e0, e1, e2, e3, e4⟩ := row5c HX3.out
    have hz := frozen_of_row w3 (w.heap.size + 1) 2 _ _ HX3.out
    clear hr hc HNm HX2 H22 HX3 H23 HC1 HCa HRa HR1
    go_wp2_with (with_reducible show wp _ _ _ _ _; refine Stop.out ?_)
    go_wp2
    clear e0 e1 e2 e3 e4 hz
    generalize World.setCell _ _ _ = w4 at HR4 HX4 H24 HC4 ⊢
    have HT0 : Hid (TotL R en w w4 (w.heap.size + 1) x none 0 [] s2) := Lib.hid ⟨World.ownsRow_nil _ _ _ _, HR4.out, HC4.out, by simpa using HX4.out, H24.out⟩
    have HLq : Hid (s2.T.length ≤ 1048576) := Lib.hid (by obtain ⟨A, k, _, _, _, _, h5, _⟩ := HR4.out; exact h5.2)
    clear HX4 HR4 H24
    go_loopw [] (fun wr => ∃ (j : Nat) (A : Option Addr) (c : Nat) (acc : List FilV) (sx : Rd), Hid (finP en x acc (filsP en j sx) = r ∧ acc.length + sx.T.length ≤ s2.T.length) ∧ Hid (TotL R en w wr (w.heap.size + 1) x A c acc sx)) (fun wr => leftR R wr)
    case atStart => exact ⟨s2.T.length + 1, none, 0, [], s2, Lib.hid ⟨HRr.out, by simp⟩, HT0⟩
    case round =>
      clear HT0 HRr
      obtain ⟨j, A, c, acc, sx, HJ, HTl⟩ := hrel
      obtain ⟨hje, hjl⟩ := HJ.out
      cases j with
      | zero => exact absurd hje.symm HNo.out
      | succ j' =>
      have HLn : Hid (acc.length + sx.T.length ≤ s2.T.length ∧ acc.length ≤ 1048576) := Lib.hid ⟨hjl, by have := HLq.out; omega⟩
      have HLf : Hid (leftR R wr = sx.T.length) := Lib.hid HTl.out.rd.left
      have HNe : Hid (w.heap.size + 1 ≠ R) := Lib.hid (by have := HRl.out; omega)
      clear hjl HJ
      unfold filsP at hje
      cases hp : skipP cmB sx with
      | some s1' =>
        simp only [hp] at hje
        have HSk := Lib.hid (skip_t HTl.out.rd cmB (by decide) hp)
        have HSl : Hid (s1'.T.length < sx.T.length) := Lib.hid (skip_len hp)
        clear hp
        cases hf : filtP en s1' with
        | out => exact (filtP_out hf).elim
        | flt a k =>
          simp only [hf] at hje
          have hje2 : PR.flt a k = r := hje
          subst hje2
          clear hje
          go_wp2_with (go_at_call 56; refine HSk.out.mono ?_; rintro e wy ⟨rfl, hr, hc⟩; refine Stop.out ?_)
          unfold Stop
          have HRw := Lib.hid (hr.on (below_drew wy))
          have HCw1 := Lib.hid (hc.trans (Chg.of (below_drew wy)))
          have HX := Lib.hid (cell_far HCw1.out HTl.out.box HNe.out)
          clear hr hc HSk
          go_wp2
          refine wp_region_held_drew (S := fun _ : World => True) (by kernel_rfl) trivial ?_
          intro hHeld
          generalize wy.drew = wd at HRw HCw1 HX ⊢
          have HCl := Lib.hid (code_filter HRw.out)
          rw [hf] at HCl
          clear hf HRw
          have HCw := Lib.hid (HTl.out.chg.trans HCw1.out)
          (refine takeH (i := 0) (v := ?_) rfl (by kernel_rfl) (by kernel_rfl) (by kernel_rfl) (fun _ _ _ h => h) (Or.inl ⟨by rfl, ?_⟩) (by assumption) ?_; rotate_left; (focus ((intro wS hSw); (try dsimp only at hSw); skip; go_simp; (try with_reducible rfl); done)); (try simp only [Act.put, List.setIfInBounds_toArray, List.set_cons_zero, List.set_cons_succ]))
          (refine takeH (i := 2) (v := ?_) rfl (by kernel_rfl) (by kernel_rfl) (by kernel_rfl) (fun _ _ _ h => h) (Or.inl ⟨by rfl, ?_⟩) (by assumption) ?_; rotate_left; (focus ((intro wS hSw); (try dsimp only at hSw); skip; go_simp; (try with_reducible rfl); done)); (try simp only [Act.put, List.setIfInBounds_toArray, List.set_cons_zero, List.set_cons_succ]))
          refine twoH (i := 1) (i2 := 3) rfl rfl (by kernel_rfl) (fun K hK => ?_) (fun K hK => ?_)
          · rw [if_pos (by rfl)]
            obtain ⟨e0, e1, e2, e3, e4⟩ := row5c HX.out
            go_simp
            clear e0 e1 e2 e3 e4
            refine hK.out _ _ (trivial) (fun hNew => ?_)
            clear hK K hHeld; (have hHeld := hNew); clear hNew; (try simp only [Act.put, List.setIfInBounds_toArray, List.set_cons_zero, List.set_cons_succ])
            refine aloneH (i := 3) rfl (by kernel_rfl) (fun K hK => ?_)
            rw [if_pos (by rfl)]
            go_simp
            refine HCl.out.mono ?_
            rintro e w2 ⟨rfl, hc⟩
            exact ⟨rfl, OutQ.fault rfl (HCw.out.trans hc)⟩
          · rw [if_pos (by rfl)]
            go_simp
            refine HCl.out.mono ?_
            rintro e w1 ⟨rfl, hc⟩
            exact ⟨rfl, OutQ.fault rfl (HCw.out.trans hc)⟩
        | ok f s3 =>
          simp only [hf] at hje
          have HJe := Lib.hid ((finP_next en x acc f (filsP en j' s3)).symm.trans hje)
          have HLs := Lib.hid (filt_len hf)
          clear hje
          go_wp2_with (go_at_call 56; refine HSk.out.mono ?_; rintro e wy ⟨rfl, hr, hc⟩; refine Stop.out ?_)
          unfold Stop
          have HRw := Lib.hid (hr.on (below_drew wy))
          have HCw1 := Lib.hid (hc.trans (Chg.of (below_drew wy)))
          have HX := Lib.hid (cell_far HCw1.out HTl.out.box HNe.out)
          clear hr hc HSk
          go_wp2
          refine wp_region_held_drew (S := fun _ : World => True) (by kernel_rfl) trivial ?_
          intro hHeld
          generalize wy.drew = wd at HRw HCw1 HX ⊢
          have HCl := Lib.hid (code_filter HRw.out)
          rw [hf] at HCl
          clear hf HRw
          (refine takeH (i := 0) (v := ?_) rfl (by kernel_rfl) (by kernel_rfl) (by kernel_rfl) (fun _ _ _ h => h) (Or.inl ⟨by rfl, ?_⟩) (by assumption) ?_; rotate_left; (focus ((intro wS hSw); (try dsimp only at hSw); skip; go_simp; (try with_reducible rfl); done)); (try simp only [Act.put, List.setIfInBounds_toArray, List.set_cons_zero, List.set_cons_succ]))
          (refine takeH (i := 2) (v := ?_) rfl (by kernel_rfl) (by kernel_rfl) (by kernel_rfl) (fun _ _ _ h => h) (Or.inl ⟨by rfl, ?_⟩) (by assumption) ?_; rotate_left; (focus ((intro wS hSw); (try dsimp only at hSw); skip; go_simp; (try with_reducible rfl); done)); (try simp only [Act.put, List.setIfInBounds_toArray, List.set_cons_zero, List.set_cons_succ]))
          refine twoH (i := 1) (i2 := 3) rfl rfl (by kernel_rfl) (fun K hK => ?_) (fun K hK => ?_)
          · rw [if_pos (by rfl)]
            obtain ⟨e0, e1, e2, e3, e4⟩ := row5c HX.out
            go_simp
            clear e0 e1 e2 e3 e4
            refine hK.out _ _ (trivial) (fun hNew => ?_)
            clear hK K hHeld; (have hHeld := hNew); clear hNew; (try simp only [Act.put, List.setIfInBounds_toArray, List.set_cons_zero, List.set_cons_succ])
            refine aloneH (i := 3) rfl (by kernel_rfl) (fun K hK => ?_)
            rw [if_pos (by rfl)]
            go_simp
            refine HCl.out.mono ?_
            rintro e w2 ⟨rfl, hr2, hc2⟩
            have HR2 := Lib.hid hr2
            have HCy := Lib.hid hc2
            have HX2 := Lib.hid (cell_far hc2 HX.out HNe.out)
            clear hr2 hc2
            go_simp
            refine hK.out _ _ (trivial) (fun hNew => ?_)
            clear hK K hHeld; (have hHeld := hNew); clear hNew; (try simp only [Act.put, List.setIfInBounds_toArray, List.set_cons_zero, List.set_cons_succ])
            refine aloneH (i := 4) rfl (by kernel_rfl) (fun K hK => ?_)
            rw [if_pos (by rfl)]
            go_simp
            obtain ⟨gS, hgS⟩ : ∃ gS, gS = w2.heap.size := ⟨_, rfl⟩
            obtain ⟨q3, hq⟩ : ∃ q, q = w2.alloc (.cells #[.string f.tag, .int .u8 f.sg, .int .i64 f.n] 60) := ⟨_, rfl⟩
            have HBs : Hid (Below w2.heap.size w2 q3) := Lib.hid (by rw [hq]; exact below_alloc _ _)
            have HAs : Hid (q3.heap[gS]? = some (.cells #[.string f.tag, .int .u8 f.sg, .int .i64 f.n] 60 (0, 0))) := Lib.hid (by rw [hq, hgS]; exact heap_alloc_new _ _)
            have HXq3 := Lib.hid (heap_on HBs.out HX2.out)
            rw [← hq, ← hgS]
            clear hq hgS
            refine hK.out _ _ (trivial) (fun hNew => ?_)
            clear hK K hHeld; (have hHeld := hNew); clear hNew; (try simp only [Act.put, List.setIfInBounds_toArray, List.set_cons_zero, List.set_cons_succ])
            refine aloneH (i := 5) rfl (by kernel_rfl) (fun K hK => ?_)
            rw [if_pos (by rfl)]
            have HOx := Lib.hid (totL_own HTl.out HCw1.out HCy.out HBs.out)
            refine wp_appF (S := 29) (T := 60) Tryz.underlying29 factF rfl (by decide) (by decide) (.tmp 15) (.tmp 18) rfl w.heap.size (.slice A acc.length c) acc.length (filCs acc) [.string f.tag, .int .u8 f.sg, .int .i64 f.n] rfl HOx.out gS rfl HAs.out rfl (by simp [Value.oneCell']) (by have := HLn.out; omega) (Nat.le_trans HTl.out.chg.size (Nat.le_trans HCw1.out.size (Nat.le_trans HCy.out.size HBs.out.size))) ?_
            intro v' q4 ho hg hat
            obtain ⟨A', c', rfl, _, _⟩ := own_form ho
            have HO4 := Lib.hid ho
            have HG4 := Lib.hid hg
            clear ho hg hat
            (try go_simp)
            refine hK.out _ _ (trivial) (fun hNew => ?_)
            clear hK K hHeld; (have hHeld := hNew); clear hNew; (try simp only [Act.put, List.setIfInBounds_toArray, List.set_cons_zero, List.set_cons_succ])
            (refine takeH (i := 6) (v := ?_) rfl (by kernel_rfl) (by kernel_rfl) (by kernel_rfl) (fun _ _ _ h => h) (Or.inl ⟨by rfl, ?_⟩) (by assumption) ?_; rotate_left; (focus ((intro wS hSw); (try dsimp only at hSw); skip; go_simp; (try with_reducible rfl); done)); (try simp only [Act.put, List.setIfInBounds_toArray, List.set_cons_zero, List.set_cons_succ]))
            refine aloneH (i := 7) rfl (by kernel_rfl) (fun K hK => ?_)
            rw [if_pos (by rfl)]
            have HNp := Lib.hid (totL_next (f := f) HTl.out HRl.out (Nat.lt_succ_self _) HCw1.out HR2.out HCy.out HBs.out HOx.out HO4.out HG4.out)
            obtain ⟨e0, e1, e2, e3, e4⟩ := row5c HNp.out.1
            have hz := frozen_of_row q4 (w.heap.size + 1) 3 _ _ HNp.out.1
            go_simp
            clear e0 e1 e2 e3 e4 hz
            have HNx := Lib.hid HNp.out.2
            clear HNp
            generalize World.setCell q4 _ _ = q5 at HNx ⊢
            refine hK.out _ _ (trivial) (fun hNew => ?_)
            clear hK K hHeld; (have hHeld := hNew); clear hNew; (try simp only [Act.put])
            refine wpAnyH_done (by kernel_rfl) ?_ _
            clear hHeld HBs HAs HOx HO4 HG4 HCy HR2 HTl HCw1 HCl HX
            go_wp2
            refine ⟨⟨j', A', c', acc ++ [f], s3, Lib.hid ⟨HJe.out, by rw [List.length_append]; have := HLn.out; have := HLs.out; have := HSl.out; simp; omega⟩, Lib.hid (by simpa using HNx.out)⟩, ?_⟩
            rw [HNx.out.rd.left, HLf.out]
            have := HLs.out
            have := HSl.out
            omega
          · rw [if_pos (by rfl)]
            go_simp
            refine HCl.out.mono ?_
            rintro e w1 ⟨rfl, hr2, hc2⟩
            have HR2 := Lib.hid hr2
            have HCy := Lib.hid hc2
            have HX1 := Lib.hid (cell_far hc2 HX.out HNe.out)
            clear hr2 hc2
            go_simp
            refine hK.out _ _ (trivial) (fun hNew => ?_)
            clear hK K hHeld; (have hHeld := hNew); clear hNew; (try simp only [Act.put, List.setIfInBounds_toArray, List.set_cons_zero, List.set_cons_succ])
            refine twoH (i := 1) (i2 := 4) rfl rfl (by kernel_rfl) (fun K hK => ?_) (fun K hK => ?_)
            · rw [if_pos (by rfl)]
              obtain ⟨e0, e1, e2, e3, e4⟩ := row5c HX1.out
              go_simp
              clear e0 e1 e2 e3 e4
              refine hK.out _ _ (trivial) (fun hNew => ?_)
              clear hK K hHeld; (have hHeld := hNew); clear hNew; (try simp only [Act.put, List.setIfInBounds_toArray, List.set_cons_zero, List.set_cons_succ])
              refine aloneH (i := 4) rfl (by kernel_rfl) (fun K hK => ?_)
              rw [if_pos (by rfl)]
              go_simp
              obtain ⟨gS, hgS⟩ : ∃ gS, gS = w1.heap.size := ⟨_, rfl⟩
              obtain ⟨q3, hq⟩ : ∃ q, q = w1.alloc (.cells #[.string f.tag, .int .u8 f.sg, .int .i64 f.n] 60) := ⟨_, rfl⟩
              have HBs : Hid (Below w1.heap.size w1 q3) := Lib.hid (by rw [hq]; exact below_alloc _ _)
              have HAs : Hid (q3.heap[gS]? = some (.cells #[.string f.tag, .int .u8 f.sg, .int .i64 f.n] 60 (0, 0))) := Lib.hid (by rw [hq, hgS]; exact heap_alloc_new _ _)
              have HXq3 := Lib.hid (heap_on HBs.out HX1.out)
              rw [← hq, ← hgS]
              clear hq hgS
              refine hK.out _ _ (trivial) (fun hNew => ?_)
              clear hK K hHeld; (have hHeld := hNew); clear hNew; (try simp only [Act.put, List.setIfInBounds_toArray, List.set_cons_zero, List.set_cons_succ])
              refine aloneH (i := 5) rfl (by kernel_rfl) (fun K hK => ?_)
              rw [if_pos (by rfl)]
              have HOx := Lib.hid (totL_own HTl.out HCw1.out HCy.out HBs.out)
              refine wp_appF (S := 29) (T := 60) Tryz.underlying29 factF rfl (by decide) (by decide) (.tmp 15) (.tmp 18) rfl w.heap.size (.slice A acc.length c) acc.length (filCs acc) [.string f.tag, .int .u8 f.sg, .int .i64 f.n] rfl HOx.out gS rfl HAs.out rfl (by simp [Value.oneCell']) (by have := HLn.out; omega) (Nat.le_trans HTl.out.chg.size (Nat.le_trans HCw1.out.size (Nat.le_trans HCy.out.size HBs.out.size))) ?_
              intro v' q4 ho hg hat
              obtain ⟨A', c', rfl, _, _⟩ := own_form ho
              have HO4 := Lib.hid ho
              have HG4 := Lib.hid hg
              clear ho hg hat
              (try go_simp)
              refine hK.out _ _ (trivial) (fun hNew => ?_)
              clear hK K hHeld; (have hHeld := hNew); clear hNew; (try simp only [Act.put, List.setIfInBounds_toArray, List.set_cons_zero, List.set_cons_succ])
              (refine takeH (i := 6) (v := ?_) rfl (by kernel_rfl) (by kernel_rfl) (by kernel_rfl) (fun _ _ _ h => h) (Or.inl ⟨by rfl, ?_⟩) (by assumption) ?_; rotate_left; (focus ((intro wS hSw); (try dsimp only at hSw); skip; go_simp; (try with_reducible rfl); done)); (try simp only [Act.put, List.setIfInBounds_toArray, List.set_cons_zero, List.set_cons_succ]))
              refine aloneH (i := 7) rfl (by kernel_rfl) (fun K hK => ?_)
              rw [if_pos (by rfl)]
              have HNp := Lib.hid (totL_next (f := f) HTl.out HRl.out (Nat.lt_succ_self _) HCw1.out HR2.out HCy.out HBs.out HOx.out HO4.out HG4.out)
              obtain ⟨e0, e1, e2, e3, e4⟩ := row5c HNp.out.1
              have hz := frozen_of_row q4 (w.heap.size + 1) 3 _ _ HNp.out.1
              go_simp
              clear e0 e1 e2 e3 e4 hz
              have HNx := Lib.hid HNp.out.2
              clear HNp
              generalize World.setCell q4 _ _ = q5 at HNx ⊢
              refine hK.out _ _ (trivial) (fun hNew => ?_)
              clear hK K hHeld; (have hHeld := hNew); clear hNew; (try simp only [Act.put])
              refine wpAnyH_done (by kernel_rfl) ?_ _
              clear hHeld HBs HAs HOx HO4 HG4 HCy HR2 HTl HCw1 HCl HX
              go_wp2
              refine ⟨⟨j', A', c', acc ++ [f], s3, Lib.hid ⟨HJe.out, by rw [List.length_append]; have := HLn.out; have := HLs.out; have := HSl.out; simp; omega⟩, Lib.hid (by simpa using HNx.out)⟩, ?_⟩
              rw [HNx.out.rd.left, HLf.out]
              have := HLs.out
              have := HSl.out
              omega
            · rw [if_pos (by rfl)]
              go_simp
              obtain ⟨gS, hgS⟩ : ∃ gS, gS = w1.heap.size := ⟨_, rfl⟩
              obtain ⟨q2, hq⟩ : ∃ q, q = w1.alloc (.cells #[.string f.tag, .int .u8 f.sg, .int .i64 f.n] 60) := ⟨_, rfl⟩
              have HBs : Hid (Below w1.heap.size w1 q2) := Lib.hid (by rw [hq]; exact below_alloc _ _)
              have HAs : Hid (q2.heap[gS]? = some (.cells #[.string f.tag, .int .u8 f.sg, .int .i64 f.n] 60 (0, 0))) := Lib.hid (by rw [hq, hgS]; exact heap_alloc_new _ _)
              have HXq2 := Lib.hid (heap_on HBs.out HX1.out)
              rw [← hq, ← hgS]
              clear hq hgS
              refine hK.out _ _ (trivial) (fun hNew => ?_)
              clear hK K hHeld; (have hHeld := hNew); clear hNew; (try simp only [Act.put, List.setIfInBounds_toArray, List.set_cons_zero, List.set_cons_succ])
              refine aloneH (i := 1) rfl (by kernel_rfl) (fun K hK => ?_)
              rw [if_pos (by rfl)]
              obtain ⟨e0, e1, e2, e3, e4⟩ := row5c HXq2.out
              go_simp
              clear e0 e1 e2 e3 e4
              refine hK.out _ _ (trivial) (fun hNew => ?_)
              clear hK K hHeld; (have hHeld := hNew); clear hNew; (try simp only [Act.put, List.setIfInBounds_toArray, List.set_cons_zero, List.set_cons_succ])
              refine aloneH (i := 5) rfl (by kernel_rfl) (fun K hK => ?_)
              rw [if_pos (by rfl)]
              have HOx := Lib.hid (totL_own HTl.out HCw1.out HCy.out HBs.out)
              refine wp_appF (S := 29) (T := 60) Tryz.underlying29 factF rfl (by decide) (by decide) (.tmp 15) (.tmp 18) rfl w.heap.size (.slice A acc.length c) acc.length (filCs acc) [.string f.tag, .int .u8 f.sg, .int .i64 f.n] rfl HOx.out gS rfl HAs.out rfl (by simp [Value.oneCell']) (by have := HLn.out; omega) (Nat.le_trans HTl.out.chg.size (Nat.le_trans HCw1.out.size (Nat.le_trans HCy.out.size HBs.out.size))) ?_
              intro v' q4 ho hg hat
              obtain ⟨A', c', rfl, _, _⟩ := own_form ho
              have HO4 := Lib.hid ho
              have HG4 := Lib.hid hg
              clear ho hg hat
              (try go_simp)
              refine hK.out _ _ (trivial) (fun hNew => ?_)
              clear hK K hHeld; (have hHeld := hNew); clear hNew; (try simp only [Act.put, List.setIfInBounds_toArray, List.set_cons_zero, List.set_cons_succ])
              (refine takeH (i := 6) (v := ?_) rfl (by kernel_rfl) (by kernel_rfl) (by kernel_rfl) (fun _ _ _ h => h) (Or.inl ⟨by rfl, ?_⟩) (by assumption) ?_; rotate_left; (focus ((intro wS hSw); (try dsimp only at hSw); skip; go_simp; (try with_reducible rfl); done)); (try simp only [Act.put, List.setIfInBounds_toArray, List.set_cons_zero, List.set_cons_succ]))
              refine aloneH (i := 7) rfl (by kernel_rfl) (fun K hK => ?_)
              rw [if_pos (by rfl)]
              have HNp := Lib.hid (totL_next (f := f) HTl.out HRl.out (Nat.lt_succ_self _) HCw1.out HR2.out HCy.out HBs.out HOx.out HO4.out HG4.out)
              obtain ⟨e0, e1, e2, e3, e4⟩ := row5c HNp.out.1
              have hz := frozen_of_row q4 (w.heap.size + 1) 3 _ _ HNp.out.1
              go_simp
              clear e0 e1 e2 e3 e4 hz
              have HNx := Lib.hid HNp.out.2
              clear HNp
              generalize World.setCell q4 _ _ = q5 at HNx ⊢
              refine hK.out _ _ (trivial) (fun hNew => ?_)
              clear hK K hHeld; (have hHeld := hNew); clear hNew; (try simp only [Act.put])
              refine wpAnyH_done (by kernel_rfl) ?_ _
              clear hHeld HBs HAs HOx HO4 HG4 HCy HR2 HTl HCw1 HCl HX
              go_wp2
              refine ⟨⟨j', A', c', acc ++ [f], s3, Lib.hid ⟨HJe.out, by rw [List.length_append]; have := HLn.out; have := HLs.out; have := HSl.out; simp; omega⟩, Lib.hid (by simpa using HNx.out)⟩, ?_⟩
              rw [HNx.out.rd.left, HLf.out]
              have := HLs.out
              have := HSl.out
              omega
      | none =>
        simp only [hp] at hje
        simp only [finP, List.append_nil] at hje
        have HSk := Lib.hid (skip_f HTl.out.rd cmB (by decide) hp)
        obtain ⟨csR, hrR⟩ := rd_block HTl.out.rd
        have HoR := Lib.hid (own_off HTl.out.own hrR (by decide))
        clear hp hrR
        go_wp2_with (go_at_call 56; refine HSk.out.mono ?_; rintro e wv ⟨rfl, hr, hc⟩; refine Stop.out ?_)
        unfold Stop
        have HRv := Lib.hid hr
        have HCv := Lib.hid (HTl.out.chg.trans hc)
        have HXv := Lib.hid (cell_far hc HTl.out.box HNe.out)
        have HOv := Lib.hid (own_chg HTl.out.own hc HoR.out)
        have HGv := Lib.hid (cell_far hc HTl.out.res (by have := HRl.out; omega))
        clear hr hc HSk HTl
        cases h3 : skipP shB sx with
        | none =>
          simp only [h3] at hje
          subst hje
          have HSk := Lib.hid (skip_f HRv.out shB (by decide) h3)
          clear h3
          go_wp2_with (go_at_call 56; refine HSk.out.mono ?_; rintro e wd ⟨rfl, hr, hc⟩; refine Stop.out ?_)
          unfold Stop
          have HMu := Lib.hid (code_must_no hr _ rfl)
          have HCf := Lib.hid (HCv.out.trans hc)
          clear hr hc HSk
          go_wp2_with (go_at_call 39; refine HMu.out.mono ?_; rintro e we ⟨rfl, hb⟩; refine Stop.out ?_)
          unfold Stop
          first | exact ⟨rfl, OutQ.fault rfl (HCf.out.trans (Chg.of hb))⟩ | (go_wp2; exact ⟨rfl, OutQ.fault rfl (HCf.out.trans (Chg.of hb))⟩)
        | some s4 =>
          simp only [h3] at hje
          subst hje
          have HSk := Lib.hid (skip_t HRv.out shB (by decide) h3)
          clear h3
          go_wp2_with (go_at_call 56; refine HSk.out.mono ?_; rintro e wu ⟨rfl, hr, hc⟩; refine Stop.out ?_)
          unfold Stop
          have HRu := Lib.hid hr
          have HCu0 := Lib.hid hc
          clear hr hc HSk
          go_wp2_with (go_at_call 39; refine (code_must_yes R wu).mono ?_; rintro e we ⟨rfl, heq⟩; obtain rfl := heq.symm; refine Stop.out ?_)
          unfold Stop
          have HXu := Lib.hid (cell_far HCu0.out HXv.out HNe.out)
          have HGu := Lib.hid (cell_far HCu0.out HGv.out (by have := HRl.out; omega))
          have HCu := Lib.hid (HCv.out.trans HCu0.out)
          have HFu : Hid (FilAt wu A acc.length c acc) := Lib.hid (by
            obtain ⟨A2, c2, e, hf⟩ := fil_own (own_chg HOv.out HCu0.out HoR.out)
            injection e with e1 _ e3
            subst e1
            subst e3
            exact hf)
          obtain ⟨T4, nb4, lg4⟩ := s4
          clear HRv HXv HGv HCv HCu0 HOv HoR HLn HLf HNo
          obtain ⟨c2, c3, z2, z3⟩ := rd_cells HRu.out
          dsimp only at c2 c3
          cases lg4 with
          | true =>
            go_wp2_with (with_reducible show wpList _ _ _ (({ dst := some 37, op := Op.load _ _, .. } : Oper) :: _) _ _; refine Stop.out ?_)
            unfold Stop
            have HR9 := Lib.hid (rd_lg HRu.out true)
            have HX9 := Lib.hid ((heap_setCell_other wu ⟨R, 3, none⟩ (w.heap.size + 1) (.bool true) (by exact HNe.out)).trans HXu.out)
            have HG9 := Lib.hid ((heap_setCell_other wu ⟨R, 3, none⟩ w.heap.size (.bool true) (by have := HRl.out; show w.heap.size ≠ R; omega)).trans HGu.out)
            have HC9 := Lib.hid (HCu.out.trans (Chg.one wu 3 (.bool true)))
            have HF9 := Lib.hid (HFu.out.chg HRu.out (Chg.one wu 3 (.bool true)))
            clear c2 c3 z2 z3 HRu HXu HGu HCu HFu
            generalize World.setCell _ _ _ = w9 at HR9 HX9 HG9 HC9 HF9 ⊢
            obtain ⟨e0, e1, e2, e3, e4⟩ := row5c HX9.out
            go_wp2_with ((with_reducible refine wpList_store_row (o := ⟨none, _, _, _, _, _⟩) 32 ?b0 (.tmp 2) (.tmp 37) ?b1 w.heap.size ?b2 [.int .i64 3, .int .i64 0, .string x, .slice A acc.length c, .slice none 0 0] ?b3 ?b4 ?b5 #[.int .i64 0, .int .i64 0, .string ⟨#[]⟩, .slice none 0 0, .slice none 0 0] ?b6 32 ?b7 ?_); (case b0 => rfl); (case b1 => rfl); (case b2 => rfl); (case b3 => exact expr_info); (case b4 => simp [Value.oneCell']); (case b5 => rfl); (case b6 => rfl); (case b7 => exact HG9.out); (try simp only [Act.put]); refine Stop.out ?_)
            unfold Stop
            clear e0 e1 e2 e3 e4
            have HRw := Lib.hid (row_then (g := w.heap.size) (new := #[.int .i64 3, .int .i64 0, .string x, .slice A acc.length c, .slice none 0 0]) HG9.out rfl rfl)
            have HCg := Lib.hid (setRow_chg w9 w.heap.size #[.int .i64 3, .int .i64 0, .string x, .slice A acc.length c, .slice none 0 0])
            generalize World.setRow _ _ _ = wz at HRw HCg ⊢
            have HFin := Lib.hid (out_tree (w := w) (g := w.heap.size) (B := w.heap.size + 1) (kb := 0) (kc := 0) (ks := []) ⟨_, _, _, rfl⟩ ⟨_, _, _, rfl⟩ (Lib.hid rfl) (tot_tree (w.heap.size + 1) w9 x A c acc HF9.out) (by omega) rfl (by omega) HR9.out HRl.out HG9.out HC9.out HCg.out)
            clear HG9 HCg HX9 HC9 HF9 HR9
            go_wp2
            exact bodyPost_ret (results_cell_row Tryz.results104 _ _ w.heap.size 32 #[.int .i64 3, .int .i64 0, .string x, .slice A acc.length c, .slice none 0 0] (0, 0) _ rfl HRw.out Tryz.underlying32 rfl expr_info) rfl HFin.out
          | false =>
            have hnot : ∀ (x : Bool) (w : World), (Op.unary .not (.bool x)).run Tryz.prog w = .ok (.bool (!x)) w := fun _ _ => rfl
            have HGd := Lib.hid (code_good_tot x A acc.length c acc wu HFu.out)
            obtain ⟨e0, e1, e2, e3, e4⟩ := row5c HXu.out
            obtain ⟨q, hq⟩ : ∃ q, totB x acc = q := ⟨_, rfl⟩
            rw [hq] at HGd
            have HQ := Lib.hid hq
            clear hq
            go_wp2_with (go_at_call 42; refine HGd.out.mono ?_; rintro e w7 ⟨rfl, hb⟩; refine Stop.out ?_)
            unfold Stop
            clear c2 c3 z2 z3 e0 e1 e2 e3 e4
            have HRu := Lib.hid (HRu.out.on hb)
            have HXu := Lib.hid (heap_on hb HXu.out)
            have HGu := Lib.hid (heap_on hb HGu.out)
            have HFu := Lib.hid (HFu.out.on hb)
            have HCu := Lib.hid (HCu.out.trans (Chg.of hb))
            obtain ⟨c2, c3, z2, z3⟩ := rd_cells HRu.out
            dsimp only at c2 c3
            clear hb
            go_wp2_with (with_reducible show wpList _ _ _ (({ dst := some 37, op := Op.load _ _, .. } : Oper) :: _) _ _; refine Stop.out ?_)
            unfold Stop
            have HR9 := Lib.hid (rd_lg HRu.out (!q))
            have HX9 := Lib.hid ((heap_setCell_other w7 ⟨R, 3, none⟩ (w.heap.size + 1) (.bool (!q)) (by exact HNe.out)).trans HXu.out)
            have HG9 := Lib.hid ((heap_setCell_other w7 ⟨R, 3, none⟩ w.heap.size (.bool (!q)) (by have := HRl.out; show w.heap.size ≠ R; omega)).trans HGu.out)
            have HC9 := Lib.hid (HCu.out.trans (Chg.one w7 3 (.bool (!q))))
            have HF9 := Lib.hid (HFu.out.chg HRu.out (Chg.one w7 3 (.bool (!q))))
            clear c2 c3 z2 z3 HRu HXu HGu HCu HFu
            generalize World.setCell _ _ _ = w9 at HR9 HX9 HG9 HC9 HF9 ⊢
            obtain ⟨e0, e1, e2, e3, e4⟩ := row5c HX9.out
            go_wp2_with ((with_reducible refine wpList_store_row (o := ⟨none, _, _, _, _, _⟩) 32 ?b0 (.tmp 2) (.tmp 37) ?b1 w.heap.size ?b2 [.int .i64 3, .int .i64 0, .string x, .slice A acc.length c, .slice none 0 0] ?b3 ?b4 ?b5 #[.int .i64 0, .int .i64 0, .string ⟨#[]⟩, .slice none 0 0, .slice none 0 0] ?b6 32 ?b7 ?_); (case b0 => rfl); (case b1 => rfl); (case b2 => rfl); (case b3 => exact expr_info); (case b4 => simp [Value.oneCell']); (case b5 => rfl); (case b6 => rfl); (case b7 => exact HG9.out); (try simp only [Act.put]); refine Stop.out ?_)
            unfold Stop
            clear e0 e1 e2 e3 e4
            have HRw := Lib.hid (row_then (g := w.heap.size) (new := #[.int .i64 3, .int .i64 0, .string x, .slice A acc.length c, .slice none 0 0]) HG9.out rfl rfl)
            have HCg := Lib.hid (setRow_chg w9 w.heap.size #[.int .i64 3, .int .i64 0, .string x, .slice A acc.length c, .slice none 0 0])
            generalize World.setRow _ _ _ = wz at HRw HCg ⊢
            have HFin := Lib.hid (out_tree (w := w) (g := w.heap.size) (B := w.heap.size + 1) (kb := 0) (kc := 0) (ks := []) ⟨_, _, _, rfl⟩ ⟨_, _, _, rfl⟩ (Lib.hid rfl) (tot_tree (w.heap.size + 1) w9 x A c acc HF9.out) (by omega) rfl (by omega) HR9.out HRl.out HG9.out HC9.out HCg.out)
            rw [← HQ.out] at HFin
            clear HG9 HCg HX9 HC9 HF9 HR9
            go_wp2
            exact bodyPost_ret (results_cell_row Tryz.results104 _ _ w.heap.size 32 #[.int .i64 3, .int .i64 0, .string x, .slice A acc.length c, .slice none 0 0] (0, 0) _ rfl HRw.out Tryz.underlying32 rfl expr_info) rfl HFin.out
end Go.Proofs.YtpapcnogbmjpjaaGreatDoor
