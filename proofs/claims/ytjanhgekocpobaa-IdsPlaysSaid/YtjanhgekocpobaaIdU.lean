/- Whatever documents come, which ones are there is the document's: walked. -/
import Derived.Test.YtjanhgekocpobaaIdR
import Derived.Test.YtjanhgekocpobaaIdT
namespace Go.Proofs.Ytjanhgekocpobaa
open Go.RowKit
set_option maxRecDepth 100000
set_option linter.unusedSimpArgs false
set_option linter.unusedVariables false
attribute [local go_sem] Oper.semAt_some

theorem range_on {w w' : World} {b o : Nat} {cs : List Value} (hb : Below w.heap.size w w') (h : w.rangeAt b o cs) : w'.rangeAt b o cs := fun j v hv => cell_on hb (h j v hv)
/-- both sides of what is there -/
structure RelW (W : List DocV) (F : Docs) (C : Crs) : Prop where
  find : ∀ s, (findI W s = -1 ∧ F s = none) ∨ ∃ i, ∃ hi : i < W.length, findI W s = (i : Nat) ∧ ∃ A c, F s = some (reL W[i] A c)
  crs : ∀ s, C s = crsOf W s
theorem RelW.none_yet : RelW [] noF noC := ⟨fun s => .inl ⟨rfl, rfl⟩, fun s => rfl⟩
theorem RelW.check {W : List DocV} {F : Docs} {C : Crs} (h : RelW W F C) (d : DocV) : refV W d = checkV F d := by
  unfold refV checkV
  by_cases hg : goodB d = false
  · rw [if_pos hg, if_pos hg]
  rw [if_neg hg, if_neg hg]
  rcases h.find d.id with ⟨e1, e2⟩ | ⟨i, hi, e1, A, c, e2⟩
  · rw [e1, e2]
    cases hc : d.credit with
    | false => simp
    | true =>
      unfold backB
      rcases h.find d.refers with ⟨e3, e4⟩ | ⟨j, hj, e3, A2, c2, e4⟩
      · rw [e3, e4]
        simp
      · have e5 : W.getD ((j : Nat) : Int).toNat docZ = W[j] := by simp [List.getD_eq_getElem?_getD, hj]
        have e6 : forB (reL W[j] A2 c2) d = forB W[j] d := rfl
        have e7 : ¬ ((j : Nat) : Int) < 0 := by omega
        rw [e3, e4, e5]
        simp [e6, e7]
  · rw [e1, e2]
    simp
theorem find_neg {W : List DocV} {s : ByteArray} (h : findI W s = -1) : W.findIdx (isD s) = W.length := by
  unfold findI at h
  split at h
  · omega
  · have := List.findIdx_le_length (xs := W) (p := isD s)
    omega
theorem find_append {W : List DocV} {d : DocV} {s : ByteArray} : findI (W ++ [d]) s = if findI W s = -1 then (if d.id = s then (W.length : Int) else -1) else findI W s := by
  by_cases h : findI W s = -1
  · rw [if_pos h]
    have e := find_neg h
    unfold findI
    rw [List.findIdx_append, e, if_neg (Nat.lt_irrefl _)]
    by_cases hs : d.id = s
    · rw [if_pos hs]
      have : [d].findIdx (isD s) = 0 := by
        have e0 : isD s d = true := by simp [isD, hs]
        rw [List.findIdx_cons, e0]
        rfl
      rw [this, if_pos (by simp)]
      simp
    · rw [if_neg hs]
      have : [d].findIdx (isD s) = 1 := by
        have e0 : isD s d = false := by simp [isD, hs]
        rw [List.findIdx_cons, e0]
        rfl
      rw [this, if_neg (by simp only [List.length_append, List.length_singleton]; omega)]
  · rw [if_neg h]
    unfold findI at h ⊢
    split at h
    · rename_i h1
      rw [List.findIdx_append, if_pos h1, if_pos h1, if_pos (by simp; omega)]
    · exact absurd rfl h
theorem RelW.put {W : List DocV} {F : Docs} {C : Crs} (h : RelW W F C) {d : DocV} (hE : checkV F d = 0) (A : Option Addr) (c : Nat) : RelW (W ++ [d]) (upd F d.id (some (reL d A c))) (if d.credit = true then updC C d.refers (C d.refers ++ [d.id]) else C) := by
  have h0 := (check_zero hE).2
  refine ⟨fun s => ?_, fun s => ?_⟩
  · rw [find_append]
    by_cases hs : s = d.id
    · subst hs
      rw [upd_same]
      rcases h.find d.id with ⟨e1, e2⟩ | ⟨i, hi, e1, A2, c2, e2⟩
      · rw [if_pos e1, if_pos rfl]
        exact .inr ⟨W.length, by simp, rfl, A, c, by simp⟩
      · rw [h0] at e2
        cases e2
    · rw [upd_other hs]
      rcases h.find s with ⟨e1, e2⟩ | ⟨i, hi, e1, A2, c2, e2⟩
      · rw [if_pos e1, if_neg (fun e => hs e.symm)]
        exact .inl ⟨rfl, e2⟩
      · rw [if_neg (by omega)]
        exact .inr ⟨i, by simp; omega, e1, A2, c2, by rw [List.getElem_append_left hi]; exact e2⟩
  · have e : crsOf (W ++ [d]) s = crsOf W s ++ (if isCr s d = true then [d.id] else []) := by
      unfold crsOf
      rw [List.filter_append, List.map_append]
      congr 1
      by_cases hc : isCr s d = true
      · rw [if_pos hc]; simp [List.filter_cons, hc]
      · rw [if_neg hc]; simp [List.filter_cons, hc]
    rw [e]
    by_cases hc : d.credit = true
    · rw [if_pos hc]
      by_cases hs : s = d.refers
      · subst hs
        rw [updC_same, h.crs, if_pos (by unfold isCr; rw [hc]; simp)]
      · rw [updC_other hs, h.crs, if_neg (by unfold isCr; rw [hc]; simpa using fun e => hs e.symm), List.append_nil]
    · rw [if_neg hc, h.crs, if_neg (by unfold isCr; simp [hc]), List.append_nil]
theorem OwnD.still {w w' : World} {B : Nat} {v : Value} {L : List DocV} (h : OwnD w B v L) (hs : Still w w') : OwnD w' B v L := by
  refine ⟨h.1, ?_⟩
  rcases h.2 with h | ⟨g, c, cur, rfl, hB, hh, h4⟩
  · exact .inl h
  · exact .inr ⟨g, c, cur, rfl, hB, hs _ _ _ hh (by decide), h4⟩
theorem OwnD.block {w : World} {B : Nat} {v : Value} {L : List DocV} (h : OwnD w B v L) {k : Nat} (hk : v.ownBlock = some k) : B ≤ k ∧ ∃ cur, w.heap[k]? = some (.cells cur 29 (0, 0)) := by
  rcases h.2 with ⟨rfl, _⟩ | ⟨g, c, cur, rfl, hB, hh, _⟩
  · cases hk
  · injection hk with hk
    subst hk
    exact ⟨hB, cur, hh⟩
/-- a row of documents was grown -/
theorem SetAt.grownD {w w' : World} {base P bm cm n m B : Nat} {V : CrsV} {F : Docs} {C : Crs} {v : Value} {L : List DocV} (h : SetAt w base P bm cm n m V F C) (ho : OwnD w B v L) (hg : w.grownBy w' v.ownBlock) : SetAt w' base P bm cm n m V F C := by
  have hne : ∀ k cs t, w.heap[k]? = some (Obj.cells cs t (0, 0)) → t ≠ 29 → some k ≠ v.ownBlock := fun k cs t hk ht e => by
    obtain ⟨_, cur, hc⟩ := ho.block e.symm
    rw [hk] at hc
    injection hc with hc
    injection hc with _ h2 _
    exact ht h2
  have hmap : ∀ k es cl, w.heap[k]? = some (Obj.map es cl) → some k ≠ v.ownBlock := fun k es cl hk e => by
    obtain ⟨_, cur, hc⟩ := ho.block e.symm
    rw [hk] at hc
    injection hc with hc
    cases hc
  refine ⟨(hg.block P h.lt (hne P _ _ h.box (by decide))).trans h.box, h.docs.grown hg ?_ (fun g cur hc => hne g _ _ hc (by decide)), h.crs.grown hg ?_ (fun s k hk => ?_), h.apart, h.ge⟩
  · obtain ⟨⟨D, ⟨es, clock, hb, _⟩, _⟩, _⟩ := h.docs
    exact hmap _ _ _ hb
  · obtain ⟨⟨D, ⟨es, clock, hb, _⟩, _⟩, _⟩ := h.crs
    exact hmap _ _ _ hb
  · obtain ⟨_, cur, hc⟩ := (h.crs.2.1 s).block hk
    exact hne k _ _ hc (by decide)
theorem wpList_append_doc {w : World} {ops : Array Oper} {rest : List Oper} {o : Oper} {a : Act} {Q : Exit → Act → World → Prop} (hgd : o.guard = none) (s x : Operand)
    (ho : o.op = .call { callee := .builtin .append, args := #[s, x], argTypes := #[22, 22] }) (hty : o.type = 22) (base : Nat) (v : Value) (L : List DocV) (d : DocV) (hs : a.eval s = v) (hown : OwnD w base v L) (gS : Nat)
    (hx : a.eval x = .slice (some ⟨gS, 0, none⟩) 1 1) (hg : w.heap[gS]? = some (.cells #[.string d.id, .bool d.sale, .bool d.credit, .string d.refers, .int .i64 d.day, .string d.country, .string d.number, .string d.currency, .slice d.linesA d.lines.length d.linesC] 29 (0, 0))) (hL : L.length ≤ 1000) (hb : base ≤ w.heap.size)
    (h : ∀ v' w', OwnD w' base v' (L ++ [d]) → w.grownBy w' v.ownBlock → wpList Try.prog ops Q rest (a.put o.dst v') w') : wpList Try.prog ops Q (o :: rest) a w := by
  refine wpList_plain hgd fun K hK => ?_
  obtain ⟨i0, hi, hz0, hz1, hz2⟩ := info_parts docFact
  obtain ⟨v', w', hr, h2, h3, _⟩ := run_append_own (P := Try.prog) w base 22 22 29 i0 _ 9 120 Try.underlying22 hi hz0 hz1 hz2 rfl (by decide) v L.length (flatsD L) hown ⟨gS, 0, none⟩ 1 1 (flatsD [d]) (by rw [flatsD_len]; rfl) (boxD hg).range (flatsD_one [d]) (by unfold maxLen; omega) (by omega) hb
  unfold Oper.wp execOp
  simp only [ho, hty, resolve, invoke, builtin, Sem.run_bind, Sem.run_pure, Result.andThen_ok, List.map_toArray, List.map_cons, List.map_nil, hs, hx, hr]
  exact hK _ _ (h v' w' (by unfold OwnD; rw [flatsD_append, List.length_append]; exact h2) h3)
/-- what the rounds keep -/
structure PlayI (wa : World) (P bm cm k m : Nat) (V : CrsV) (F : Docs) (C : Crs) (W : List DocV) (v : Value) (w : World) : Prop where
  set : SetAt w wa.heap.size P bm cm W.length m V F C
  low : Below wa.heap.size wa w
  rel : RelW W F C
  own : OwnD w wa.heap.size v W
  n : W.length ≤ k
  m : m ≤ k
  ok : ∀ x ∈ W, DocVOk wa x ∧ x.lines.length ≤ 70 ∧ x.id.size ≤ 500
section
variable {wa w w' : World} {P bm cm k m : Nat} {V : CrsV} {F : Docs} {C : Crs} {W : List DocV} {v : Value}
theorem PlayI.on (h : PlayI wa P bm cm k m V F C W v w) (hb : Below w.heap.size w w') : PlayI wa P bm cm k m V F C W v w' :=
  ⟨h.set.on hb, below_then h.low hb, h.rel, h.own.on hb, h.n, h.m, h.ok⟩
theorem PlayI.no {x : DocV} {n2 m2 : Nat} {V2 : CrsV} {F2 : Docs} {C2 : Crs} (h : PlayI wa P bm cm k m V F C W v w)
    (hp : SetAt w' wa.heap.size P bm cm n2 m2 V2 F2 C2 ∧ Below wa.heap.size w w' ∧ Still w w' ∧ m2 ≤ m + 1 ∧ (checkV F x ≠ 0 ∧ n2 = W.length ∧ F2 = F ∧ C2 = C ∨ checkV F x = 0 ∧ n2 = W.length + 1 ∧ (∃ A c, F2 = upd F x.id (some (reL x A c))) ∧ C2 = (if x.credit = true then updC C x.refers (C x.refers ++ [x.id]) else C))) (hE : ¬ checkV F x = 0) :
    PlayI wa P bm cm (k + 1) m2 V2 F2 C2 W v w' := by
  obtain ⟨h1, h2, h3, h4, ⟨_, rfl, rfl, rfl⟩ | h5⟩ := hp
  · exact ⟨h1, h.low.trans h2, h.rel, h.own.still h3, by have := h.n; omega, by have := h.m; omega, h.ok⟩
  · exact absurd h5.1 hE
theorem PlayI.yes {x : DocV} {n2 m2 : Nat} {V2 : CrsV} {F2 : Docs} {C2 : Crs} (h : PlayI wa P bm cm k m V F C W v w)
    (hp : SetAt w' wa.heap.size P bm cm n2 m2 V2 F2 C2 ∧ Below wa.heap.size w w' ∧ Still w w' ∧ m2 ≤ m + 1 ∧ (checkV F x ≠ 0 ∧ n2 = W.length ∧ F2 = F ∧ C2 = C ∨ checkV F x = 0 ∧ n2 = W.length + 1 ∧ (∃ A c, F2 = upd F x.id (some (reL x A c))) ∧ C2 = (if x.credit = true then updC C x.refers (C x.refers ++ [x.id]) else C))) (hE : checkV F x = 0) :
    SetAt w' wa.heap.size P bm cm (W.length + 1) m2 V2 F2 C2 ∧ Below wa.heap.size wa w' ∧ RelW (W ++ [x]) F2 C2 ∧ OwnD w' wa.heap.size v W ∧ m2 ≤ k + 1 := by
  obtain ⟨h1, h2, h3, h4, h5 | ⟨_, rfl, ⟨A, c, rfl⟩, rfl⟩⟩ := hp
  · exact absurd hE h5.1
  · exact ⟨h1, h.low.trans h2, h.rel.put hE A c, h.own.still h3, by have := h.m; omega⟩
theorem PlayI.next {x : DocV} {w0 w'' : World} {v2 : Value} {m2 : Nat} {V2 : CrsV} {F2 : Docs} {C2 : Crs} (h : PlayI wa P bm cm k m V F C W v w0)
    (hp : SetAt w wa.heap.size P bm cm (W.length + 1) m2 V2 F2 C2 ∧ Below wa.heap.size wa w ∧ RelW (W ++ [x]) F2 C2 ∧ OwnD w wa.heap.size v W ∧ m2 ≤ k + 1) (hb : Below w.heap.size w w')
    (ho : OwnD w'' wa.heap.size v2 (W ++ [x])) (hg : w'.grownBy w'' v.ownBlock) (hx : DocVOk wa x ∧ x.lines.length ≤ 70 ∧ x.id.size ≤ 500) : PlayI wa P bm cm (k + 1) m2 V2 F2 C2 (W ++ [x]) v2 w'' := by
  obtain ⟨h1, h2, h3, h4, h5⟩ := hp
  have h6 := below_then h2 hb
  refine ⟨by rw [List.length_append]; exact (h1.on hb).grownD (h4.on hb) hg, h6.grown hg h6.size (fun k hk => ((h4.on hb).block hk).1), h3, ho, by rw [List.length_append]; have := h.n; simp; omega, h5, fun y hy => ?_⟩
  rcases List.mem_append.1 hy with hy | hy
  · exact h.ok y hy
  · obtain rfl : y = x := by simpa using hy
    exact hx
def InnI (wa wm : World) (P bm cm k m : Nat) (V : CrsV) (F : Docs) (C : Crs) (W : List DocV) (v : Value) (gn : Nat) (a b c : ByteArray) (w : World) : Prop := PlayI wa P bm cm k m V F C W v w ∧ w.heap[gn]? = some (.cells #[.string a, .string b, .string c] 9 (0, 0)) ∧ Below wm.heap.size wm w
theorem InnI.on {wm : World} {gn : Nat} {a b c : ByteArray} (h : InnI wa wm P bm cm k m V F C W v gn a b c w) (hb : Below w.heap.size w w') : InnI wa wm P bm cm k m V F C W v gn a b c w' :=
  ⟨h.1.on hb, heap_on hb h.2.1, below_then h.2.2 hb⟩
/-- a box that was laid ahead stays while the row grows -/
theorem box_stays {w0 w1 w2 : World} {B g : Nat} {L : List DocV} {cs : Array Value} {t : TypeId} (ho : OwnD w0 B v L) (hn : w0.heap.size ≤ g) (hg : w1.heap[g]? = some (.cells cs t (0, 0))) (hgr : w1.grownBy w2 v.ownBlock) : w2.heap[g]? = some (.cells cs t (0, 0)) :=
  (hgr.block g (heapLt hg) (fun e => by
    obtain ⟨_, cur, hc⟩ := ho.block e.symm
    have := heapLt hc
    omega)).trans hg
end
theorem OwnD.form2 {w : World} {B : Nat} {v : Value} {L : List DocV} (h : OwnD w B v L) : ∃ A c, v = .slice A L.length c ∧ RowD w A L := by
  obtain ⟨A, c, h1, h2, _⟩ := h.form
  exact ⟨A, c, h1, h2⟩
theorem RowD.range_at {w : World} {A : Option Addr} {L : List DocV} (h : RowD w A L) (i : Nat) (hi : i < L.length) : ∃ b o, A = some ⟨b, o, none⟩ ∧ w.rangeAt b (o + i * 9) (docC L[i]) := by
  obtain ⟨b, o, e, _, y0, y1, y2, y3, y4, y5, y6, y7, y8⟩ := h.at_ i hi
  refine ⟨b, o, e, fun j v hv => ?_⟩
  match j with
  | 0 => simp [docC] at hv; subst hv; exact y0
  | 1 => simp [docC] at hv; subst hv; exact y1
  | 2 => simp [docC] at hv; subst hv; exact y2
  | 3 => simp [docC] at hv; subst hv; exact y3
  | 4 => simp [docC] at hv; subst hv; exact y4
  | 5 => simp [docC] at hv; subst hv; exact y5
  | 6 => simp [docC] at hv; subst hv; exact y6
  | 7 => simp [docC] at hv; subst hv; exact y7
  | 8 => simp [docC] at hv; subst hv; exact y8
  | j + 9 => simp [docC] at hv
theorem ref_same_n (L M : List ByteArray) (A B : Option Addr) (p q n m : Nat) (hn : L.length = n) (hm : M.length = m) (w : World) (hL : L.length ≤ 1000) (hA : Strs w A L) (hB : Strs w B M) :
    Calls Try.prog 15 #[.slice A n p, .slice B m q] w fun e w' => e = .returned (.bool (decide (L = M))) ∧ Below w.heap.size w w' := by
  subst hn hm
  exact ref_same L M A B p q w hL hA hB
theorem crs_small {W : List DocV} {s : ByteArray} (h : ∀ x ∈ W, x.id.size ≤ 500) : ∀ x ∈ crsOf W s, x.size ≤ 1000 := fun x hx => by
  unfold crsOf at hx
  obtain ⟨d, hd, rfl⟩ := List.mem_map.1 hx
  have := h d (List.mem_filter.1 hd).1
  omega
theorem light_all {L : List DocV} (h : lightsB L = true) : L.length ≤ 40 ∧ ∀ x ∈ L, lightD x = true := by
  unfold lightsB at h
  rw [Bool.and_eq_true, decide_eq_true_iff] at h
  exact ⟨h.2, fun x hx => List.all_eq_true.1 h.1 x hx⟩
/-- three names in a row -/
theorem names_at {w : World} {g : Nat} {a b c : ByteArray} (h : w.heap[g]? = some (.cells #[.string a, .string b, .string c] 9 (0, 0))) (ha : okKey a) (hb : okKey b) (hc : okKey c) (k : Nat) (hk : k < 3) : ∃ s, w.cell? ⟨g, k, none⟩ = some (.string s) ∧ okKey s := by
  match k, hk with
  | 0, _ => exact ⟨a, cell_of_row w g 0 _ _ _ h, ha⟩
  | 1, _ => exact ⟨b, cell_of_row w g 1 _ _ _ h, hb⟩
  | 2, _ => exact ⟨c, cell_of_row w g 2 _ _ _ h, hc⟩
set_option maxHeartbeats 40000000 in
theorem idsPlays_any (A : Option Addr) (L : List DocV) (c : Nat) (id : ByteArray) (w : World) (hr : RowD w A L) (hok : ∀ x ∈ L, DocVOk w x) (h120 : L.length * 120 ≤ 140737488351232) (hid : id.size ≤ 140737488351232) (hM : MaxL w) : Calls Try.prog 3 #[.slice A L.length c, .string id] w fun e w' => e = .returned (.bool true) ∧ Below w.heap.size w w' := by
  have HLv : Hid (∀ W, Below w.heap.size w W → Calls Try.prog 7 #[] W fun e w' => e = .returned (.bool true) ∧ Below W.heap.size W w') := Lib.hid (fun W hW => ids_lives W (hM.below hW))
  obtain ⟨q, hq⟩ : ∃ q, lightsB L = q := ⟨_, rfl⟩
  have HLo := Lib.hid (light_row L A c w hr hok (by omega) q hq)
  have HV := Lib.hid hq
  have HR := Lib.hid hr
  have HOk := Lib.hid hok
  have HM := Lib.hid hM
  have hid' : (id.size : Int) ≤ 140737488351232 := by omega
  clear hr h120 hM hok hq
  go_enter Try.func3, Try.ntmps3
  cases q with
  | false =>
    go_wp2_with (go_at_call 6; refine HLo.out.mono ?_; rintro e wa ⟨rfl, hb⟩; have HBa := Lib.hid hb; clear hb; refine Stop.out ?_)
    unfold Stop
    go_wp2_with (go_at_call 7; refine (HLv.out _ HBa.out).mono ?_; rintro e wz ⟨rfl, hb⟩; have HBz := Lib.hid (below_then HBa.out hb); clear hb)
    go_ret
    exact ⟨rfl, HBz.out⟩
  | true =>
  by_cases h200 : id.size ≤ 200
  case neg =>
    have h2 : (200 : Int) < (id.size : Int) := by omega
    clear h200
    go_wp2_with (go_at_call 6; refine HLo.out.mono ?_; rintro e wa ⟨rfl, hb⟩; have HBa := Lib.hid hb; clear hb; refine Stop.out ?_)
    unfold Stop
    go_wp2_with (go_at_call 7; refine (HLv.out _ HBa.out).mono ?_; rintro e wz ⟨rfl, hb⟩; have HBz := Lib.hid (below_then HBa.out hb); clear hb)
    go_ret
    exact ⟨rfl, HBz.out⟩
  have h2 : (id.size : Int) ≤ 200 := by omega
  have HId : Hid (okKey id) := Lib.hid (by unfold okKey; omega)
  clear h200 hid hid'
  obtain ⟨hl40, hall⟩ := light_all HV.out
  have HL40 := Lib.hid hl40
  have HAll := Lib.hid hall
  clear hl40 hall HV
  go_wp2_with (go_at_call 6; refine HLo.out.mono ?_; rintro e wa ⟨rfl, hb⟩; have HBa := Lib.hid hb; clear hb; refine Stop.out ?_)
  unfold Stop
  have HMa := Lib.hid (HM.out.below HBa.out)
  have HRa := Lib.hid (HR.out.on HBa.out)
  have HOka : Hid (∀ x ∈ L, DocVOk wa x) := Lib.hid (fun x hx => (HOk.out x hx).on HBa.out)
  clear HM HR HOk HLo
  go_wp2_with (go_at_call 8; refine (code_new _).mono ?_; rintro e wb ⟨P, bm, cm, rfl, hset, hb⟩; clear h2; have HSb : Hid (PlayI wa P bm cm 0 0 noV noF noC [] (.slice none 0 0) wb) := Lib.hid ⟨hset, hb, RelW.none_yet, ⟨rfl, .inl ⟨rfl, rfl⟩⟩, Nat.le_refl _, Nat.le_refl _, fun x hx => by cases hx⟩; clear hset hb; refine Stop.out ?_)
  unfold Stop
  go_wp2
  go_loopw [6, 8, 9, 10, 12, 13, 14, 15, 30] (fun v6 v8 v9 v10 v12 v13 v14 v15 i wr => ∃ (k m : Nat) (V : CrsV) (F : Docs) (C : Crs) (W : List DocV), k ≤ L.length ∧ i = .int .i64 (k : Nat) ∧ Hid (PlayI wa P bm cm k m V F C W v6 wr)) (fun _ _ _ _ _ _ _ _ i _ => L.length - (intOf i).toNat)
  case atStart => exact ⟨0, 0, noV, noF, noC, [], Nat.zero_le _, rfl, HSb⟩
  case round =>
    clear HSb
    obtain ⟨k, m, V, F, C, W, hk, rfl, HI⟩ := hrel
    by_cases hlt : k < L.length
    case neg =>
      obtain rfl : k = L.length := by omega
      have HBp := Lib.hid (below_then HBa.out HI.out.low)
      clear hlt hk
      go_wp2_with (go_at_call 7; refine (HLv.out _ HBp.out).mono ?_; rintro e wz ⟨rfl, hb⟩; have HBz := Lib.hid (below_then HBp.out hb); clear hb)
      go_ret
      exact ⟨rfl, HBz.out⟩
    have hlt' : (k : Int) < (L.length : Int) := by omega
    have hkb : (k : Int) ≤ 39 := by have := HL40.out; omega
    have HKb : Hid (k ≤ 39) := Lib.hid (by have := HL40.out; omega)
    obtain ⟨Aw, cw, rfl, hrw⟩ := HI.out.own.form2
    have HRw0 := Lib.hid hrw
    clear hrw
    obtain ⟨b, o, rfl, hbl, y0, y1, y2, y3, y4, y5, y6, y7, y8⟩ := (HRa.out.on HI.out.low).at_ k hlt
    have HXk : Hid (DocVOk wa L[k] ∧ L[k].lines.length ≤ 70 ∧ L[k].id.size + L[k].refers.size ≤ 500) := Lib.hid ⟨HOka.out _ (List.getElem_mem hlt), (lightD_sizes (HAll.out _ (List.getElem_mem hlt))).2, (lightD_sizes (HAll.out _ (List.getElem_mem hlt))).1⟩
    generalize L[k] = x at y0 y1 y2 y3 y4 y5 y6 y7 y8 HXk
    have HNx := Lib.hid (heap_alloc_new wr (.cells #[.string x.id, .bool x.sale, .bool x.credit, .string x.refers, .int .i64 x.day, .string x.country, .string x.number, .string x.currency, .slice x.linesA x.lines.length x.linesC] 29))
    have HBn := Lib.hid (below_alloc wr (.cells #[.string x.id, .bool x.sale, .bool x.credit, .string x.refers, .int .i64 x.day, .string x.country, .string x.number, .string x.currency, .slice x.linesA x.lines.length x.linesC] 29))
    have HIn := Lib.hid (HI.out.on HBn.out)
    have HRw1 := Lib.hid (HRw0.out.on HBn.out)
    have HOld := Lib.hid HI.out.own
    clear hbl HI HRw0
    go_wp2_with ((with_reducible show wpList _ _ _ (({ dst := some 35, op := Op.load _ _, .. } : Oper) :: _) _ _); refine Stop.out ?_)
    unfold Stop
    clear y0 y1 y2 y3 y4 y5 y6 y7 y8
    generalize wr.alloc (.cells #[.string x.id, .bool x.sale, .bool x.credit, .string x.refers, .int .i64 x.day, .string x.country, .string x.number, .string x.currency, .slice x.linesA x.lines.length x.linesC] 29) = wn at HNx HBn HIn HRw1 ⊢
    obtain ⟨gx, hgx⟩ : ∃ gx, gx = wr.heap.size := ⟨_, rfl⟩
    rw [← hgx] at HNx ⊢
    have HGx := Lib.hid hgx
    clear hgx HBn
    obtain ⟨u0, u1, u2, u3, u4, u5, u6, u7, u8⟩ := cellsLineV HNx.out
    have HWl : Hid (W.length ≤ 39) := Lib.hid (by have := HIn.out.n; have := HKb.out; omega)
    have HCk := Lib.hid (code_check (cells2 HIn.out.set.box).1 HIn.out.set.lt HIn.out.set.docs x (HXk.out.1.on HIn.out.low) (by have := HXk.out.2.1; omega) (HMa.out.below HIn.out.low))
    go_wp2_with (go_at_call 9; refine HCk.out.mono ?_; rintro e w2 ⟨rfl, hb⟩; have HI2 := Lib.hid (HIn.out.on hb); have HX2 := Lib.hid (heap_on hb HNx.out); have HR2 := Lib.hid (HRw1.out.on hb); clear hb; refine Stop.out ?_)
    unfold Stop
    clear u0 u1 u2 u3 u4 u5 u6 u7 u8 HCk HNx HIn HRw1
    obtain ⟨u0, u1, u2, u3, u4, u5, u6, u7, u8⟩ := cellsLineV HX2.out
    have HRk := Lib.hid (ref_check W Aw cw x w2 HR2.out (by have := HWl.out; omega) (HXk.out.1.on HI2.out.low) (by have := HXk.out.2.1; omega) _ (HI2.out.rel.check x))
    go_wp2_with (go_at_call 10; refine HRk.out.mono ?_; rintro e w3 ⟨rfl, hb⟩; have HI3 := Lib.hid (HI2.out.on hb); have HX3 := Lib.hid (heap_on hb HX2.out); clear hb; refine Stop.out ?_)
    unfold Stop
    clear u0 u1 u2 u3 u4 u5 u6 u7 u8 HRk HX2 HI2 HR2
    obtain ⟨u0, u1, u2, u3, u4, u5, u6, u7, u8⟩ := cellsLineV HX3.out
    have HPu := Lib.hid (put_any HI3.out.set x (HXk.out.1.on HI3.out.low) (by have := HXk.out.2.1; omega) (HMa.out.below HI3.out.low) (by have := HWl.out; omega) (by have := HI3.out.m; have := HKb.out; omega) (fun s => by rw [HI3.out.rel.crs]; have := crs_len W s; have := HWl.out; omega))
    obtain ⟨E, hE⟩ : ∃ E, checkV F x = E := ⟨_, rfl⟩
    have HE := Lib.hid hE
    rw [hE]
    have he1 : (E != E) = false := by simp
    clear hE
    go_wp2_with (go_at_call 11; refine HPu.out.mono ?_; rintro e w4 ⟨he, hb, hs, n2, m2, V2, F2, C2, hset, hm2, hor⟩; rw [HE.out] at he; subst he; have HPr := Lib.hid (And.intro hset (And.intro hb (And.intro hs (And.intro hm2 hor)))); have HX4 := Lib.hid (hs _ _ _ HX3.out (by decide)); clear hb hs hset hm2 hor; refine Stop.out ?_)
    unfold Stop
    clear u0 u1 u2 u3 u4 u5 u6 u7 u8 HPu HX3
    by_cases h0 : E = 0
    · subst h0
      have HY := Lib.hid (HI3.out.yes HPr.out HE.out)
      clear HPr HE he1
      obtain ⟨u0, u1, u2, u3, u4, u5, u6, u7, u8⟩ := cellsLineV HX4.out
      have HN5 := Lib.hid (heap_alloc_new w4 (.cells #[.string x.id, .bool x.sale, .bool x.credit, .string x.refers, .int .i64 x.day, .string x.country, .string x.number, .string x.currency, .slice x.linesA x.lines.length x.linesC] 29))
      have HB5 := Lib.hid (below_alloc w4 (.cells #[.string x.id, .bool x.sale, .bool x.credit, .string x.refers, .int .i64 x.day, .string x.country, .string x.number, .string x.currency, .slice x.linesA x.lines.length x.linesC] 29))
      go_wp2_with (at_builtin; refine Stop.out ?_)
      unfold Stop
      refine wpList_append_doc rfl (.tmp 52) (.tmp 54) rfl rfl wa.heap.size _ W x rfl (HY.out.2.2.2.1.on HB5.out) w4.heap.size rfl HN5.out (by have := HWl.out; omega) (below_then HY.out.2.1 HB5.out).size ?_
      intro v2 w5 ho hg
      have HI5 := Lib.hid (HI3.out.next HY.out HB5.out ho hg ⟨HXk.out.1, HXk.out.2.1, by have := HXk.out.2.2; omega⟩)
      have HX5 := Lib.hid (box_stays HOld.out (by have := HGx.out; omega) (heap_on HB5.out HX4.out) hg)
      clear ho hg u0 u1 u2 u3 u4 u5 u6 u7 u8 HN5 HB5 HY HX4 HI3
      have HWl2 : Hid ((W ++ [x]).length ≤ 40) := Lib.hid (by have := HWl.out; simp; omega)
      generalize W ++ [x] = W2 at HI5 HWl2
      clear HOld HWl HGx
      have HWl := HWl2
      clear HWl2
      obtain ⟨u0, u1, u2, u3, u4, u5, u6, u7, u8⟩ := cellsLineV HX5.out
      have HNn := Lib.hid (heap_alloc_new w5 (.cells #[.string id, .string x.id, .string x.refers] 9))
      have HBn := Lib.hid (below_alloc w5 (.cells #[.string id, .string x.id, .string x.refers] 9))
      have HI7 := Lib.hid (HI5.out.on HBn.out)
      go_wp2
      clear u0 u1 u2 u3 u4 u5 u6 u7 u8 HX5 HI5
      generalize (w5).alloc (.cells #[.string id, .string x.id, .string x.refers] 9) = wm at HNn HBn HI7 ⊢
      obtain ⟨gn, hgn⟩ : ∃ gn, gn = (w5).heap.size := ⟨_, rfl⟩
      rw [← hgn] at HNn ⊢
      clear hgn HBn
      obtain ⟨Aw2, cw2, rfl, hrm⟩ := HI7.out.own.form2
      have HRm := Lib.hid hrm
      clear hrm
      have HKy : Hid (okKey x.id ∧ okKey x.refers) := Lib.hid (by have := HXk.out.2.2; unfold okKey; omega)
      go_loopw [12, 13, 14, 15, 63] (fun v12 v13 v14 v15 i wi => ∃ (k2 : Nat), k2 ≤ 3 ∧ i = .int .i64 (k2 : Nat) ∧ Hid (InnI wa wm P bm cm (k + 1) m2 V2 F2 C2 W2 (.slice Aw2 (W2).length cw2) gn id x.id x.refers wi)) (fun _ _ _ _ i _ => 3 - (intOf i).toNat)
      case atStart => exact ⟨0, by decide, rfl, Lib.hid ⟨HI7.out, HNn.out, Below.refl _ _⟩⟩
      case round =>
        rename World => wi
        obtain ⟨k2, hk2, rfl, HJ⟩ := hrel
        by_cases h3 : k2 < 3
        · have h3' : (k2 : Int) < 3 := by omega
          obtain ⟨s, hs, hks⟩ := names_at HJ.out.2.1 HId.out HKy.out.1 HKy.out.2 k2 h3
          have HOk := Lib.hid hks
          obtain ⟨Lc, hLc⟩ : ∃ Lc, crsOf W2 s = Lc := ⟨_, rfl⟩
          have HLc := Lib.hid hLc
          have HCv : Hid (C2 s = Lc) := Lib.hid ((HJ.out.1.rel.crs s).trans hLc)
          have HCl : Hid (Lc.length ≤ 1000) := Lib.hid (by rw [← hLc]; have := crs_len W2 s; have := HWl.out; omega)
          have HCs : Hid (∀ x ∈ Lc, x.size ≤ 1000) := Lib.hid (by rw [← hLc]; exact crs_small (fun x hx => (HJ.out.1.ok x hx).2.2))
          clear hLc
          rcases HJ.out.1.rel.find s with ⟨hfn, hF⟩ | ⟨i, hi, hfi, A0, c0, hF⟩
          · have HFv : Hid (findI W2 s = -1) := Lib.hid hfn
            have HGet := Lib.hid (code_get HJ.out.1.set s hks docZ (by rw [hF]; rfl) false (by rw [hF]; rfl) (by decide))
            clear hfn hF hks
            go_wp2_with (go_at_call 12; refine HGet.out.mono ?_; rintro e w6 ⟨A2, c2, rfl, hd, hb⟩; have HD6 := Lib.hid hd; have HJ6 := Lib.hid (InnI.on HJ.out hb); clear hd hb; refine Stop.out ?_)
            unfold Stop
            clear hs HGet HJ
            have HBb := Lib.hid (heap_alloc_new w6 (.cells #[.string ⟨#[]⟩, .bool false, .bool false, .string ⟨#[]⟩, .int .i64 0, .string ⟨#[]⟩, .string ⟨#[]⟩, .string ⟨#[]⟩, .slice none 0 0] 29))
            go_wp2_with ((with_reducible refine wpList_store_row (o := ⟨none, _, _, _, _, _⟩) ?b1 29 (.tmp 13) (.tmp 71) ?b2 w6.heap.size #[.string docZ.id, .bool docZ.sale, .bool docZ.credit, .string docZ.refers, .int .i64 docZ.day, .string docZ.country, .string docZ.number, .string docZ.currency, .slice A2 docZ.lines.length c2] ?b3 ?b4 29 #[.string ⟨#[]⟩, .bool false, .bool false, .string ⟨#[]⟩, .int .i64 0, .string ⟨#[]⟩, .string ⟨#[]⟩, .string ⟨#[]⟩, .slice none 0 0] ?b7 ?b6 ?b5 ?b8 ?_); (case b1 => rfl); (case b2 => rfl); (case b3 => rfl); (case b4 => rfl); (case b7 => exact HBb.out); (case b6 => exact doc_info); (case b5 => rfl); (case b8 => simp [Value.oneCell']); (try simp only [Act.put]); refine Stop.out ?_)
            unfold Stop
            have HBF := Lib.hid (box_filled w6 #[.string ⟨#[]⟩, .bool false, .bool false, .string ⟨#[]⟩, .int .i64 0, .string ⟨#[]⟩, .string ⟨#[]⟩, .string ⟨#[]⟩, .slice none 0 0] #[.string docZ.id, .bool docZ.sale, .bool docZ.credit, .string docZ.refers, .int .i64 docZ.day, .string docZ.country, .string docZ.number, .string docZ.currency, .slice A2 docZ.lines.length c2] rfl)
            clear HBb
            generalize (w6.alloc (.cells #[.string ⟨#[]⟩, .bool false, .bool false, .string ⟨#[]⟩, .int .i64 0, .string ⟨#[]⟩, .string ⟨#[]⟩, .string ⟨#[]⟩, .slice none 0 0] 29)).setRow w6.heap.size #[.string docZ.id, .bool docZ.sale, .bool docZ.credit, .string docZ.refers, .int .i64 docZ.day, .string docZ.country, .string docZ.number, .string docZ.currency, .slice A2 docZ.lines.length c2] = w7 at HBF ⊢
            have HJ7 := Lib.hid (InnI.on HJ6.out HBF.out.1)
            have HD7 : Hid (DocVOk w7 (reL docZ A2 c2)) := Lib.hid (DocVOk.on HD6.out HBF.out.1)
            have HX7 : Hid (w7.heap[w6.heap.size]? = some (.cells #[.string docZ.id, .bool docZ.sale, .bool docZ.credit, .string docZ.refers, .int .i64 docZ.day, .string docZ.country, .string docZ.number, .string docZ.currency, .slice A2 docZ.lines.length c2] 29 (0, 0))) := Lib.hid HBF.out.2
            obtain ⟨gx, hgx⟩ : ∃ gx, gx = w6.heap.size := ⟨_, rfl⟩
            rw [← hgx] at HX7 ⊢
            clear hgx HBF HJ6 HD6
            have HFi := Lib.hid (ref_find W2 Aw2 cw2 s w7 (HRm.out.on HJ7.out.2.2) (by have := HWl.out; omega) _ HFv.out)
            go_wp2_with (go_at_call 13; refine HFi.out.mono ?_; rintro e w8 ⟨rfl, rfl⟩; refine Stop.out ?_)
            unfold Stop
            clear HFi
            go_wp2
            have HS1 : Hid (w7.drew.heap[gx]? = some (.cells #[.string docZ.id, .bool docZ.sale, .bool docZ.credit, .string docZ.refers, .int .i64 docZ.day, .string docZ.country, .string docZ.number, .string docZ.currency, .slice A2 docZ.lines.length c2] 29 (0, 0))) := Lib.hid (heap_on (below_drew w7) HX7.out)
            have HBd : Hid (Below w7.heap.size w7 w7.drew) := Lib.hid (below_drew w7)
            have HJd := Lib.hid (InnI.on HJ7.out HBd.out)
            have HSd : Hid (∀ X, Below w7.drew.heap.size w7.drew X → Calls Try.prog 14 #[.agg #[.string docZ.id, .bool docZ.sale, .bool docZ.credit, .string docZ.refers, .int .i64 docZ.day, .string docZ.country, .string docZ.number, .string docZ.currency, .slice A2 docZ.lines.length c2], .agg #[.string ⟨#[]⟩, .bool false, .bool false, .string ⟨#[]⟩, .int .i64 0, .string ⟨#[]⟩, .string ⟨#[]⟩, .string ⟨#[]⟩, .slice none 0 0]] X fun e w' => e = .returned (.bool true) ∧ Below X.heap.size X w') := Lib.hid (fun X hW => ref_sameDoc (reL docZ A2 c2) docZ X ((HD7.out.on HBd.out).on hW) docZ_is (by show ([] : List LineV).length ≤ 140737488351232; decide) true (sameD_re docZ A2 c2))
            have HCr : Hid (∀ X, Below w7.drew.heap.size w7.drew X → Calls Try.prog 16 #[.pointer (some ⟨P, 0, none⟩), .string s] X (CrP X Lc)) := Lib.hid (fun X hW => code_credits (HJd.out.1.set.on hW) s HOk.out Lc HCv.out HCl.out)
            have HCq : Hid (∀ X, Below w7.drew.heap.size w7.drew X → Calls Try.prog 17 #[.slice Aw2 (W2).length cw2, .string s] X (CrP X Lc)) := Lib.hid (fun X hW => by
              have := ref_credits W2 Aw2 cw2 s X ((HRm.out.on HJd.out.2.2).on hW) (by have := HWl.out; omega)
              rwa [HLc.out] at this)
            refine wp_region_held_drew (S := fun V : World => V.heap[gx]? = some (.cells #[.string docZ.id, .bool docZ.sale, .bool docZ.credit, .string docZ.refers, .int .i64 docZ.day, .string docZ.country, .string docZ.number, .string docZ.currency, .slice A2 docZ.lines.length c2] 29 (0, 0))) (by kernel_rfl) HS1.out ?_
            intro hHeld
            clear HS1 HX7 HD7 HJ7
            generalize w7.drew = wd at HBd HJd HSd HCr HCq hHeld ⊢
            clear HBd
            (refine takeH (i := 0) (v := ?_) rfl (by kernel_rfl) (by kernel_rfl) (by kernel_rfl) (fun _ _ _ h => h) (Or.inl ⟨by rfl, ?_⟩) (by assumption) ?_; rotate_left; (focus ((intro wS hSw); (try dsimp only at hSw); skip; go_simp; (try with_reducible rfl); done)); (try simp only [Act.put, List.setIfInBounds_toArray, List.set_cons_zero, List.set_cons_succ]))
            (refine takeH (i := 1) (v := ?_) rfl (by kernel_rfl) (by kernel_rfl) (by kernel_rfl) (fun _ _ _ h => h) (Or.inl ⟨by rfl, ?_⟩) (by assumption) ?_; rotate_left; (focus ((intro wS hSw); (try dsimp only at hSw); skip; go_simp; (try with_reducible rfl); done)); (try simp only [Act.put, List.setIfInBounds_toArray, List.set_cons_zero, List.set_cons_succ]))
            (refine takeH (i := 2) (v := ?_) rfl (by kernel_rfl) (by kernel_rfl) (by kernel_rfl) (fun _ _ _ h => h) (Or.inl ⟨by rfl, ?_⟩) (by assumption) ?_; rotate_left; (focus ((intro wS hSw); (try dsimp only at hSw); skip; go_simp; (try with_reducible rfl); done)); (try simp only [Act.put, List.setIfInBounds_toArray, List.set_cons_zero, List.set_cons_succ]))
            (refine takeH (i := 3) (v := ?_) rfl (by kernel_rfl) (by kernel_rfl) (by kernel_rfl) (fun _ _ _ h => h) (Or.inl ⟨by rfl, ?_⟩) (by assumption) ?_; rotate_left; (focus ((intro wS hSw); (try dsimp only at hSw); skip; go_simp; (try with_reducible rfl); done)); (try simp only [Act.put, List.setIfInBounds_toArray, List.set_cons_zero, List.set_cons_succ]))
            (refine takeH (i := 4) (v := ?_) rfl (by kernel_rfl) (by kernel_rfl) (by kernel_rfl) (fun _ _ _ h => h) (Or.inl ⟨by rfl, ?_⟩) (by assumption) ?_; rotate_left; (focus ((intro wS hSw); (try dsimp only at hSw); skip; go_simp; (try with_reducible rfl); done)); (try simp only [Act.put, List.setIfInBounds_toArray, List.set_cons_zero, List.set_cons_succ]))
            (refine takeH (i := 5) (v := ?_) rfl (by kernel_rfl) (by kernel_rfl) (by kernel_rfl) (fun _ _ _ h => h) (Or.inl ⟨by rfl, ?_⟩) (by assumption) ?_; rotate_left; (focus ((intro wS hSw); (try dsimp only at hSw); skip; go_simp; (try with_reducible rfl); done)); (try simp only [Act.put, List.setIfInBounds_toArray, List.set_cons_zero, List.set_cons_succ]))
            (refine takeH (i := 6) (v := ?_) rfl (by kernel_rfl) (by kernel_rfl) (by kernel_rfl) (fun _ _ _ h => h) (Or.inl ⟨by rfl, ?_⟩) (by assumption) ?_; rotate_left; (focus ((intro wS hSw); (try dsimp only at hSw); skip; go_simp; (try with_reducible rfl); done)); (try simp only [Act.put, List.setIfInBounds_toArray, List.set_cons_zero, List.set_cons_succ]))
            (refine takeH (i := 7) (v := ?_) rfl (by kernel_rfl) (by kernel_rfl) (by kernel_rfl) (fun _ _ _ h => h) (Or.inl ⟨by rfl, ?_⟩) (by assumption) ?_; rotate_left; (focus ((intro wS hSw); (try dsimp only at hSw); skip; go_simp; (try with_reducible rfl); done)); (try simp only [Act.put, List.setIfInBounds_toArray, List.set_cons_zero, List.set_cons_succ]))
            (refine takeH (i := 8) (v := undef) rfl (by kernel_rfl) (by kernel_rfl) (by kernel_rfl) (fun _ _ _ h => h) (Or.inr ⟨by rfl, rfl⟩) (by assumption) ?_; (try simp only [Act.put, List.setIfInBounds_toArray, List.set_cons_zero, List.set_cons_succ]))
            (refine takeH (i := 9) (v := undef) rfl (by kernel_rfl) (by kernel_rfl) (by kernel_rfl) (fun _ _ _ h => h) (Or.inr ⟨by rfl, rfl⟩) (by assumption) ?_; (try simp only [Act.put, List.setIfInBounds_toArray, List.set_cons_zero, List.set_cons_succ]))
            (refine takeH (i := 10) (v := undef) rfl (by kernel_rfl) (by kernel_rfl) (by kernel_rfl) (fun _ _ _ h => h) (Or.inr ⟨by rfl, rfl⟩) (by assumption) ?_; (try simp only [Act.put, List.setIfInBounds_toArray, List.set_cons_zero, List.set_cons_succ]))
            (refine takeH (i := 11) (v := undef) rfl (by kernel_rfl) (by kernel_rfl) (by kernel_rfl) (fun _ _ _ h => h) (Or.inr ⟨by rfl, rfl⟩) (by assumption) ?_; (try simp only [Act.put, List.setIfInBounds_toArray, List.set_cons_zero, List.set_cons_succ]))
            (refine takeH (i := 12) (v := undef) rfl (by kernel_rfl) (by kernel_rfl) (by kernel_rfl) (fun _ _ _ h => h) (Or.inr ⟨by rfl, rfl⟩) (by assumption) ?_; (try simp only [Act.put, List.setIfInBounds_toArray, List.set_cons_zero, List.set_cons_succ]))
            (refine takeH (i := 13) (v := undef) rfl (by kernel_rfl) (by kernel_rfl) (by kernel_rfl) (fun _ _ _ h => h) (Or.inr ⟨by rfl, rfl⟩) (by assumption) ?_; (try simp only [Act.put, List.setIfInBounds_toArray, List.set_cons_zero, List.set_cons_succ]))
            (refine takeH (i := 14) (v := undef) rfl (by kernel_rfl) (by kernel_rfl) (by kernel_rfl) (fun _ _ _ h => h) (Or.inr ⟨by rfl, rfl⟩) (by assumption) ?_; (try simp only [Act.put, List.setIfInBounds_toArray, List.set_cons_zero, List.set_cons_succ]))
            (refine takeH (i := 15) (v := ?_) rfl (by kernel_rfl) (by kernel_rfl) (by kernel_rfl) (fun _ _ _ h => h) (Or.inl ⟨by rfl, ?_⟩) (by assumption) ?_; rotate_left; (focus ((intro wS hSw); (try dsimp only at hSw); skip; go_simp; (try with_reducible rfl); done)); (try simp only [Act.put, List.setIfInBounds_toArray, List.set_cons_zero, List.set_cons_succ]))
            (refine takeH (i := 16) (v := ?_) rfl (by kernel_rfl) (by kernel_rfl) (by kernel_rfl) (fun _ _ _ h => h) (Or.inl ⟨by rfl, ?_⟩) (by assumption) ?_; rotate_left; (focus ((intro wS hSw); (try dsimp only at hSw); skip; go_simp; (try with_reducible rfl); done)); (try simp only [Act.put, List.setIfInBounds_toArray, List.set_cons_zero, List.set_cons_succ]))
            (refine takeH (i := 17) (v := ?_) rfl (by kernel_rfl) (by kernel_rfl) (by kernel_rfl) (fun _ _ _ h => h) (Or.inl ⟨by rfl, ?_⟩) (by assumption) ?_; rotate_left; (focus ((intro wS hSw); (try dsimp only at hSw); skip; go_simp; (try with_reducible rfl); done)); (try simp only [Act.put, List.setIfInBounds_toArray, List.set_cons_zero, List.set_cons_succ]))
            (refine takeH (i := 18) (v := ?_) rfl (by kernel_rfl) (by kernel_rfl) (by kernel_rfl) (fun _ _ _ h => h) (Or.inl ⟨by rfl, ?_⟩) (by assumption) ?_; rotate_left; (focus ((intro wS hSw); (try dsimp only at hSw); skip; go_simp; (try with_reducible rfl); done)); (try simp only [Act.put, List.setIfInBounds_toArray, List.set_cons_zero, List.set_cons_succ]))
            (refine takeH (i := 19) (v := ?_) rfl (by kernel_rfl) (by kernel_rfl) (by kernel_rfl) (fun _ _ _ h => h) (Or.inl ⟨by rfl, ?_⟩) (by assumption) ?_; rotate_left; (focus ((intro wS hSw); (try dsimp only at hSw); skip; go_simp; (try with_reducible rfl); done)); (try simp only [Act.put, List.setIfInBounds_toArray, List.set_cons_zero, List.set_cons_succ]))
            (refine takeH (i := 20) (v := ?_) rfl (by kernel_rfl) (by kernel_rfl) (by kernel_rfl) (fun _ _ _ h => h) (Or.inl ⟨by rfl, ?_⟩) (by assumption) ?_; rotate_left; (focus ((intro wS hSw); (try dsimp only at hSw); skip; go_simp; (try with_reducible rfl); done)); (try simp only [Act.put, List.setIfInBounds_toArray, List.set_cons_zero, List.set_cons_succ]))
            (refine takeH (i := 21) (v := (.agg #[.string docZ.id, .bool docZ.sale, .bool docZ.credit, .string docZ.refers, .int .i64 docZ.day, .string docZ.country, .string docZ.number, .string docZ.currency, .slice A2 docZ.lines.length c2])) rfl (by kernel_rfl) (by kernel_rfl) (by kernel_rfl) (fun _ _ _ h => h) (yieldsIf_load_rowE (by rfl) 29 (.tmp 13) rfl gx rfl 29 #[.string docZ.id, .bool docZ.sale, .bool docZ.credit, .string docZ.refers, .int .i64 docZ.day, .string docZ.country, .string docZ.number, .string docZ.currency, .slice A2 docZ.lines.length c2] (0, 0) _ (fun W h => h) Try.underlying29 rfl doc_info) (by assumption) ?_; (try simp only [Act.put, List.setIfInBounds_toArray, List.set_cons_zero, List.set_cons_succ]))
            (refine takeH (i := 22) (v := ?_) rfl (by kernel_rfl) (by kernel_rfl) (by kernel_rfl) (fun _ _ _ h => h) (Or.inl ⟨by rfl, ?_⟩) (by assumption) ?_; rotate_left; (focus ((intro wS hSw); (try dsimp only at hSw); skip; go_simp; (try with_reducible rfl); done)); (try simp only [Act.put, List.setIfInBounds_toArray, List.set_cons_zero, List.set_cons_succ]))
            refine aloneH (i := 23) rfl (by kernel_rfl) (fun K hK => ?_)
            rw [if_pos (by rfl)]
            go_simp; ((refine (HSd.out _ (below_same wd)).mono ?_); (rintro e w1 ⟨rfl, hb⟩); have HB1 := Lib.hid hb; clear hb; (try go_simp))
            refine hK.out _ _ (heap_on HB1.out hHeld) (fun hNew => ?_)
            clear hK K hHeld; (have hHeld := hNew); clear hNew; (try simp only [Act.put, List.setIfInBounds_toArray, List.set_cons_zero, List.set_cons_succ])
            (refine takeH (i := 24) (v := ?_) rfl (by kernel_rfl) (by kernel_rfl) (by kernel_rfl) (fun _ _ _ h => h) (Or.inl ⟨by rfl, ?_⟩) (by assumption) ?_; rotate_left; (focus ((intro wS hSw); (try dsimp only at hSw); skip; go_simp; (try with_reducible rfl); done)); (try simp only [Act.put, List.setIfInBounds_toArray, List.set_cons_zero, List.set_cons_succ]))
            (refine takeH (i := 25) (v := ?_) rfl (by kernel_rfl) (by kernel_rfl) (by kernel_rfl) (fun _ _ _ h => h) (Or.inl ⟨by rfl, ?_⟩) (by assumption) ?_; rotate_left; (focus ((intro wS hSw); (try dsimp only at hSw); skip; go_simp; (try with_reducible rfl); done)); (try simp only [Act.put, List.setIfInBounds_toArray, List.set_cons_zero, List.set_cons_succ]))
            (refine takeH (i := 26) (v := ?_) rfl (by kernel_rfl) (by kernel_rfl) (by kernel_rfl) (fun _ _ _ h => h) (Or.inl ⟨by rfl, ?_⟩) (by assumption) ?_; rotate_left; (focus ((intro wS hSw); (try dsimp only at hSw); skip; go_simp; (try with_reducible rfl); done)); (try simp only [Act.put, List.setIfInBounds_toArray, List.set_cons_zero, List.set_cons_succ]))
            (refine takeH (i := 27) (v := ?_) rfl (by kernel_rfl) (by kernel_rfl) (by kernel_rfl) (fun _ _ _ h => h) (Or.inl ⟨by rfl, ?_⟩) (by assumption) ?_; rotate_left; (focus ((intro wS hSw); (try dsimp only at hSw); skip; go_simp; (try with_reducible rfl); done)); (try simp only [Act.put, List.setIfInBounds_toArray, List.set_cons_zero, List.set_cons_succ]))
            (refine takeH (i := 28) (v := ?_) rfl (by kernel_rfl) (by kernel_rfl) (by kernel_rfl) (fun _ _ _ h => h) (Or.inl ⟨by rfl, ?_⟩) (by assumption) ?_; rotate_left; (focus ((intro wS hSw); (try dsimp only at hSw); skip; go_simp; (try with_reducible rfl); done)); (try simp only [Act.put, List.setIfInBounds_toArray, List.set_cons_zero, List.set_cons_succ]))
            (refine takeH (i := 29) (v := ?_) rfl (by kernel_rfl) (by kernel_rfl) (by kernel_rfl) (fun _ _ _ h => h) (Or.inl ⟨by rfl, ?_⟩) (by assumption) ?_; rotate_left; (focus ((intro wS hSw); (try dsimp only at hSw); skip; go_simp; (try with_reducible rfl); done)); (try simp only [Act.put, List.setIfInBounds_toArray, List.set_cons_zero, List.set_cons_succ]))
            (refine takeH (i := 31) (v := ?_) rfl (by kernel_rfl) (by kernel_rfl) (by kernel_rfl) (fun _ _ _ h => h) (Or.inl ⟨by rfl, ?_⟩) (by assumption) ?_; rotate_left; (focus ((intro wS hSw); (try dsimp only at hSw); skip; go_simp; (try with_reducible rfl); done)); (try simp only [Act.put, List.setIfInBounds_toArray, List.set_cons_zero, List.set_cons_succ]))
            (refine takeH (i := 32) (v := ?_) rfl (by kernel_rfl) (by kernel_rfl) (by kernel_rfl) (fun _ _ _ h => h) (Or.inl ⟨by rfl, ?_⟩) (by assumption) ?_; rotate_left; (focus ((intro wS hSw); (try dsimp only at hSw); skip; go_simp; (try with_reducible rfl); done)); (try simp only [Act.put, List.setIfInBounds_toArray, List.set_cons_zero, List.set_cons_succ]))
            refine aloneH (i := 30) rfl (by kernel_rfl) (fun K hK => ?_)
            rw [if_pos (by rfl)]
            go_simp; ((refine (HCr.out _ HB1.out).mono ?_); (rintro e w2 ⟨vS1, rfl, ho, hb⟩); obtain ⟨AS1, pS1, rfl, hs⟩ := ho.strs HCs.out; have S1 := Lib.hid hs; have HB2 := Lib.hid hb; clear hb ho hs; (try go_simp))
            refine hK.out _ _ (heap_on HB2.out hHeld) (fun hNew => ?_)
            clear hK K hHeld; (have hHeld := hNew); clear hNew; (try simp only [Act.put, List.setIfInBounds_toArray, List.set_cons_zero, List.set_cons_succ])
            refine aloneH (i := 33) rfl (by kernel_rfl) (fun K hK => ?_)
            rw [if_pos (by rfl)]
            go_simp; ((refine (HCq.out _ (below_then HB1.out HB2.out)).mono ?_); (rintro e w3 ⟨vS2, rfl, ho, hb⟩); obtain ⟨AS2, pS2, rfl, hs⟩ := ho.strs HCs.out; have S2 := Lib.hid hs; have HB3 := Lib.hid hb; clear hb ho hs; (try go_simp))
            refine hK.out _ _ (heap_on HB3.out hHeld) (fun hNew => ?_)
            clear hK K hHeld; (have hHeld := hNew); clear hNew; (try simp only [Act.put, List.setIfInBounds_toArray, List.set_cons_zero, List.set_cons_succ])
            refine aloneH (i := 34) rfl (by kernel_rfl) (fun K hK => ?_)
            rw [if_pos (by rfl)]
            go_simp; ((refine (ref_same_n Lc Lc AS1 AS2 pS1 pS2 _ _ rfl rfl w3 HCl.out (S1.out.below HB3.out) (S2.out.below (below_same w3))).mono ?_); (rintro e w4 ⟨he, hb⟩); (rw [decide_eq_true rfl] at he); subst he; have HB4 := Lib.hid hb; clear hb; (try go_simp))
            refine hK.out _ _ (heap_on HB4.out hHeld) (fun hNew => ?_)
            clear hK K hHeld; (have hHeld := hNew); clear hNew; (try simp only [Act.put, List.setIfInBounds_toArray, List.set_cons_zero, List.set_cons_succ])
            (refine takeH (i := 35) (v := ?_) rfl (by kernel_rfl) (by kernel_rfl) (by kernel_rfl) (fun _ _ _ h => h) (Or.inl ⟨by rfl, ?_⟩) (by assumption) ?_; rotate_left; (focus ((intro wS hSw); (try dsimp only at hSw); skip; go_simp; (try with_reducible rfl); done)); (try simp only [Act.put, List.setIfInBounds_toArray, List.set_cons_zero, List.set_cons_succ]))
            (refine takeH (i := 36) (v := ?_) rfl (by kernel_rfl) (by kernel_rfl) (by kernel_rfl) (fun _ _ _ h => h) (Or.inl ⟨by rfl, ?_⟩) (by assumption) ?_; rotate_left; (focus ((intro wS hSw); (try dsimp only at hSw); skip; go_simp; (try with_reducible rfl); done)); (try simp only [Act.put, List.setIfInBounds_toArray, List.set_cons_zero, List.set_cons_succ]))
            refine wpAnyH_done (by kernel_rfl) ?_ _
            have HBR := Lib.hid (below_then (below_then (below_then HB1.out HB2.out) HB3.out) HB4.out)
            clear hHeld S1 S2 HB1 HB2 HB3 HB4 HCr HCq HSd
            generalize w4 = wq at HBR ⊢
            go_wp2
            go_roundw
            case rel => exact ⟨k2 + 1, by omega, by go_num, Lib.hid (InnI.on HJd.out HBR.out)⟩
            case measure => simp [intOf]; omega
          · have HFv : Hid (findI W2 s = (i : Nat)) := Lib.hid hfi
            obtain ⟨bw, ow, rfl, hrg⟩ := HRm.out.range_at i hi
            have HRg := Lib.hid hrg
            have HY : Hid (DocVOk wa (W2)[i] ∧ (W2)[i].lines.length ≤ 70) := Lib.hid ⟨(HJ.out.1.ok _ (List.getElem_mem hi)).1, (HJ.out.1.ok _ (List.getElem_mem hi)).2.1⟩
            have hii : (i : Int) < ((W2).length : Int) := by omega
            generalize (W2)[i] = y at HRg HY hF
            have HGet : Hid (Calls Try.prog 12 #[.pointer (some ⟨P, 0, none⟩), .string s] wi fun e w' => ∃ A c, e = .returned (.tuple #[.agg #[.string y.id, .bool y.sale, .bool y.credit, .string y.refers, .int .i64 y.day, .string y.country, .string y.number, .string y.currency, .slice A y.lines.length c], .bool true]) ∧ DocVOk w' (reL y A c) ∧ Below wi.heap.size wi w') := Lib.hid ((code_get HJ.out.1.set s hks (reL y A0 c0) (by rw [hF]; rfl) true (by rw [hF]; rfl) (by have := HY.out.2; show y.lines.length ≤ 1000; omega)).mono fun e w' h => h)
            clear hfi hF hks hrg
            go_wp2_with (go_at_call 12; refine HGet.out.mono ?_; rintro e w6 ⟨A2, c2, rfl, hd, hb⟩; have HD6 := Lib.hid hd; have HJ6 := Lib.hid (InnI.on HJ.out hb); clear hd hb; refine Stop.out ?_)
            unfold Stop
            clear hs HGet HJ
            have HBb := Lib.hid (heap_alloc_new w6 (.cells #[.string ⟨#[]⟩, .bool false, .bool false, .string ⟨#[]⟩, .int .i64 0, .string ⟨#[]⟩, .string ⟨#[]⟩, .string ⟨#[]⟩, .slice none 0 0] 29))
            go_wp2_with ((with_reducible refine wpList_store_row (o := ⟨none, _, _, _, _, _⟩) ?b1 29 (.tmp 13) (.tmp 71) ?b2 w6.heap.size #[.string y.id, .bool y.sale, .bool y.credit, .string y.refers, .int .i64 y.day, .string y.country, .string y.number, .string y.currency, .slice A2 y.lines.length c2] ?b3 ?b4 29 #[.string ⟨#[]⟩, .bool false, .bool false, .string ⟨#[]⟩, .int .i64 0, .string ⟨#[]⟩, .string ⟨#[]⟩, .string ⟨#[]⟩, .slice none 0 0] ?b7 ?b6 ?b5 ?b8 ?_); (case b1 => rfl); (case b2 => rfl); (case b3 => rfl); (case b4 => rfl); (case b7 => exact HBb.out); (case b6 => exact doc_info); (case b5 => rfl); (case b8 => simp [Value.oneCell']); (try simp only [Act.put]); refine Stop.out ?_)
            unfold Stop
            have HBF := Lib.hid (box_filled w6 #[.string ⟨#[]⟩, .bool false, .bool false, .string ⟨#[]⟩, .int .i64 0, .string ⟨#[]⟩, .string ⟨#[]⟩, .string ⟨#[]⟩, .slice none 0 0] #[.string y.id, .bool y.sale, .bool y.credit, .string y.refers, .int .i64 y.day, .string y.country, .string y.number, .string y.currency, .slice A2 y.lines.length c2] rfl)
            clear HBb
            generalize (w6.alloc (.cells #[.string ⟨#[]⟩, .bool false, .bool false, .string ⟨#[]⟩, .int .i64 0, .string ⟨#[]⟩, .string ⟨#[]⟩, .string ⟨#[]⟩, .slice none 0 0] 29)).setRow w6.heap.size #[.string y.id, .bool y.sale, .bool y.credit, .string y.refers, .int .i64 y.day, .string y.country, .string y.number, .string y.currency, .slice A2 y.lines.length c2] = w7 at HBF ⊢
            have HJ7 := Lib.hid (InnI.on HJ6.out HBF.out.1)
            have HD7 : Hid (DocVOk w7 (reL y A2 c2)) := Lib.hid (DocVOk.on HD6.out HBF.out.1)
            have HX7 : Hid (w7.heap[w6.heap.size]? = some (.cells #[.string y.id, .bool y.sale, .bool y.credit, .string y.refers, .int .i64 y.day, .string y.country, .string y.number, .string y.currency, .slice A2 y.lines.length c2] 29 (0, 0))) := Lib.hid HBF.out.2
            obtain ⟨gx, hgx⟩ : ∃ gx, gx = w6.heap.size := ⟨_, rfl⟩
            rw [← hgx] at HX7 ⊢
            clear hgx HBF HJ6 HD6
            have HFi := Lib.hid (ref_find W2 (some ⟨bw, ow, none⟩) cw2 s w7 (HRm.out.on HJ7.out.2.2) (by have := HWl.out; omega) _ HFv.out)
            go_wp2_with (go_at_call 13; refine HFi.out.mono ?_; rintro e w8 ⟨rfl, rfl⟩; refine Stop.out ?_)
            unfold Stop
            clear HFi
            go_wp2
            have HS1 : Hid (w7.drew.heap[gx]? = some (.cells #[.string y.id, .bool y.sale, .bool y.credit, .string y.refers, .int .i64 y.day, .string y.country, .string y.number, .string y.currency, .slice A2 y.lines.length c2] 29 (0, 0)) ∧ w7.drew.rangeAt bw (ow + i * 9) (docC y)) := Lib.hid (⟨heap_on (below_drew w7) HX7.out, range_on (below_then HJ7.out.2.2 (below_drew w7)) HRg.out⟩)
            have HBd : Hid (Below w7.heap.size w7 w7.drew) := Lib.hid (below_drew w7)
            have HJd := Lib.hid (InnI.on HJ7.out HBd.out)
            have HSd : Hid (∀ X, Below w7.drew.heap.size w7.drew X → Calls Try.prog 14 #[.agg #[.string y.id, .bool y.sale, .bool y.credit, .string y.refers, .int .i64 y.day, .string y.country, .string y.number, .string y.currency, .slice A2 y.lines.length c2], .agg #[.string y.id, .bool y.sale, .bool y.credit, .string y.refers, .int .i64 y.day, .string y.country, .string y.number, .string y.currency, .slice y.linesA y.lines.length y.linesC]] X fun e w' => e = .returned (.bool true) ∧ Below X.heap.size X w') := Lib.hid (fun X hW => ref_sameDoc (reL y A2 c2) y X ((HD7.out.on HBd.out).on hW) ((HY.out.1.on HJd.out.1.low).on hW) (by have := HY.out.2; show y.lines.length ≤ 140737488351232; omega) true (sameD_re y A2 c2))
            have HCr : Hid (∀ X, Below w7.drew.heap.size w7.drew X → Calls Try.prog 16 #[.pointer (some ⟨P, 0, none⟩), .string s] X (CrP X Lc)) := Lib.hid (fun X hW => code_credits (HJd.out.1.set.on hW) s HOk.out Lc HCv.out HCl.out)
            have HCq : Hid (∀ X, Below w7.drew.heap.size w7.drew X → Calls Try.prog 17 #[.slice (some ⟨bw, ow, none⟩) (W2).length cw2, .string s] X (CrP X Lc)) := Lib.hid (fun X hW => by
              have := ref_credits W2 (some ⟨bw, ow, none⟩) cw2 s X ((HRm.out.on HJd.out.2.2).on hW) (by have := HWl.out; omega)
              rwa [HLc.out] at this)
            refine wp_region_held_drew (S := fun V : World => V.heap[gx]? = some (.cells #[.string y.id, .bool y.sale, .bool y.credit, .string y.refers, .int .i64 y.day, .string y.country, .string y.number, .string y.currency, .slice A2 y.lines.length c2] 29 (0, 0)) ∧ V.rangeAt bw (ow + i * 9) (docC y)) (by kernel_rfl) HS1.out ?_
            intro hHeld
            clear HS1 HX7 HD7 HJ7
            generalize w7.drew = wd at HBd HJd HSd HCr HCq hHeld ⊢
            clear HBd
            (refine takeH (i := 0) (v := ?_) rfl (by kernel_rfl) (by kernel_rfl) (by kernel_rfl) (fun _ _ _ h => h) (Or.inl ⟨by rfl, ?_⟩) (by assumption) ?_; rotate_left; (focus ((intro wS hSw); (try dsimp only at hSw); skip; go_simp; (try with_reducible rfl); done)); (try simp only [Act.put, List.setIfInBounds_toArray, List.set_cons_zero, List.set_cons_succ]))
            (refine takeH (i := 1) (v := ?_) rfl (by kernel_rfl) (by kernel_rfl) (by kernel_rfl) (fun _ _ _ h => h) (Or.inl ⟨by rfl, ?_⟩) (by assumption) ?_; rotate_left; (focus ((intro wS hSw); (try dsimp only at hSw); skip; go_simp; (try with_reducible rfl); done)); (try simp only [Act.put, List.setIfInBounds_toArray, List.set_cons_zero, List.set_cons_succ]))
            (refine takeH (i := 2) (v := ?_) rfl (by kernel_rfl) (by kernel_rfl) (by kernel_rfl) (fun _ _ _ h => h) (Or.inl ⟨by rfl, ?_⟩) (by assumption) ?_; rotate_left; (focus ((intro wS hSw); (try dsimp only at hSw); skip; go_simp; (try with_reducible rfl); done)); (try simp only [Act.put, List.setIfInBounds_toArray, List.set_cons_zero, List.set_cons_succ]))
            (refine takeH (i := 3) (v := ?_) rfl (by kernel_rfl) (by kernel_rfl) (by kernel_rfl) (fun _ _ _ h => h) (Or.inl ⟨by rfl, ?_⟩) (by assumption) ?_; rotate_left; (focus ((intro wS hSw); (try dsimp only at hSw); skip; go_simp; (try with_reducible rfl); done)); (try simp only [Act.put, List.setIfInBounds_toArray, List.set_cons_zero, List.set_cons_succ]))
            (refine takeH (i := 4) (v := ?_) rfl (by kernel_rfl) (by kernel_rfl) (by kernel_rfl) (fun _ _ _ h => h) (Or.inl ⟨by rfl, ?_⟩) (by assumption) ?_; rotate_left; (focus ((intro wS hSw); (try dsimp only at hSw); skip; go_simp; (try with_reducible rfl); done)); (try simp only [Act.put, List.setIfInBounds_toArray, List.set_cons_zero, List.set_cons_succ]))
            (refine takeH (i := 5) (v := ?_) rfl (by kernel_rfl) (by kernel_rfl) (by kernel_rfl) (fun _ _ _ h => h) (Or.inl ⟨by rfl, ?_⟩) (by assumption) ?_; rotate_left; (focus ((intro wS hSw); (try dsimp only at hSw); skip; go_simp; (try with_reducible rfl); done)); (try simp only [Act.put, List.setIfInBounds_toArray, List.set_cons_zero, List.set_cons_succ]))
            (refine takeH (i := 6) (v := ?_) rfl (by kernel_rfl) (by kernel_rfl) (by kernel_rfl) (fun _ _ _ h => h) (Or.inl ⟨by rfl, ?_⟩) (by assumption) ?_; rotate_left; (focus ((intro wS hSw); (try dsimp only at hSw); skip; go_simp; (try with_reducible rfl); done)); (try simp only [Act.put, List.setIfInBounds_toArray, List.set_cons_zero, List.set_cons_succ]))
            (refine takeH (i := 7) (v := ?_) rfl (by kernel_rfl) (by kernel_rfl) (by kernel_rfl) (fun _ _ _ h => h) (Or.inl ⟨by rfl, ?_⟩) (by assumption) ?_; rotate_left; (focus ((intro wS hSw); (try dsimp only at hSw); skip; go_simp; (try with_reducible rfl); done)); (try simp only [Act.put, List.setIfInBounds_toArray, List.set_cons_zero, List.set_cons_succ]))
            (refine takeH (i := 8) (v := (.agg #[.string y.id, .bool y.sale, .bool y.credit, .string y.refers, .int .i64 y.day, .string y.country, .string y.number, .string y.currency, .slice A2 y.lines.length c2])) rfl (by kernel_rfl) (by kernel_rfl) (by kernel_rfl) (fun _ _ _ h => h) (yieldsIf_load_rowE (by rfl) 29 (.tmp 13) rfl gx rfl 29 #[.string y.id, .bool y.sale, .bool y.credit, .string y.refers, .int .i64 y.day, .string y.country, .string y.number, .string y.currency, .slice A2 y.lines.length c2] (0, 0) _ (fun W h => h.1) Try.underlying29 rfl doc_info) (by assumption) ?_; (try simp only [Act.put, List.setIfInBounds_toArray, List.set_cons_zero, List.set_cons_succ]))
            (refine takeH (i := 9) (v := ?_) rfl (by kernel_rfl) (by kernel_rfl) (by kernel_rfl) (fun _ _ _ h => h) (Or.inl ⟨by rfl, ?_⟩) (by assumption) ?_; rotate_left; (focus ((intro wS hSw); (try dsimp only at hSw); skip; go_simp; (try with_reducible rfl); done)); (try simp only [Act.put, List.setIfInBounds_toArray, List.set_cons_zero, List.set_cons_succ]))
            (refine takeH (i := 10) (v := ?_) rfl (by kernel_rfl) (by kernel_rfl) (by kernel_rfl) (fun _ _ _ h => h) (Or.inl ⟨by rfl, ?_⟩) (by assumption) ?_; rotate_left; (focus ((intro wS hSw); (try dsimp only at hSw); skip; go_simp; (try with_reducible rfl); done)); (try simp only [Act.put, List.setIfInBounds_toArray, List.set_cons_zero, List.set_cons_succ]))
            (refine takeH (i := 11) (v := (.pointer (some ⟨bw, ow + i * 9, none⟩))) rfl (by kernel_rfl) (by kernel_rfl) (by kernel_rfl) (fun _ _ _ h => h) (Or.inl ⟨by rfl, by (intro wS hSw); clear hSw; clear hHeld; go_simp; (first | done | rfl | (simp; omega))⟩) (by assumption) ?_; (try simp only [Act.put, List.setIfInBounds_toArray, List.set_cons_zero, List.set_cons_succ]))
            (refine takeH (i := 12) (v := (.agg #[.string y.id, .bool y.sale, .bool y.credit, .string y.refers, .int .i64 y.day, .string y.country, .string y.number, .string y.currency, .slice y.linesA y.lines.length y.linesC])) rfl (by kernel_rfl) (by kernel_rfl) (by kernel_rfl) (fun _ _ _ h => h) (yieldsIf_load_mid (by rfl) 29 (.tmp 87) rfl bw (ow + i * 9) rfl (docC y) _ (fun W h => h.2) Try.underlying29 rfl doc_info) (by assumption) ?_; (try simp only [Act.put, List.setIfInBounds_toArray, List.set_cons_zero, List.set_cons_succ]))
            refine aloneH (i := 13) rfl (by kernel_rfl) (fun K hK => ?_)
            rw [if_pos (by rfl)]
            go_simp; ((refine (HSd.out _ (below_same wd)).mono ?_); (rintro e w1 ⟨rfl, hb⟩); have HB1 := Lib.hid hb; clear hb; (try go_simp))
            refine hK.out _ _ (⟨heap_on HB1.out hHeld.1, range_on HB1.out hHeld.2⟩) (fun hNew => ?_)
            clear hK K hHeld; (have hHeld := hNew); clear hNew; (try simp only [Act.put, List.setIfInBounds_toArray, List.set_cons_zero, List.set_cons_succ])
            (refine takeH (i := 14) (v := ?_) rfl (by kernel_rfl) (by kernel_rfl) (by kernel_rfl) (fun _ _ _ h => h) (Or.inl ⟨by rfl, ?_⟩) (by assumption) ?_; rotate_left; (focus ((intro wS hSw); (try dsimp only at hSw); skip; go_simp; (try with_reducible rfl); done)); (try simp only [Act.put, List.setIfInBounds_toArray, List.set_cons_zero, List.set_cons_succ]))
            (refine takeH (i := 15) (v := ?_) rfl (by kernel_rfl) (by kernel_rfl) (by kernel_rfl) (fun _ _ _ h => h) (Or.inl ⟨by rfl, ?_⟩) (by assumption) ?_; rotate_left; (focus ((intro wS hSw); (try dsimp only at hSw); skip; go_simp; (try with_reducible rfl); done)); (try simp only [Act.put, List.setIfInBounds_toArray, List.set_cons_zero, List.set_cons_succ]))
            (refine takeH (i := 16) (v := ?_) rfl (by kernel_rfl) (by kernel_rfl) (by kernel_rfl) (fun _ _ _ h => h) (Or.inl ⟨by rfl, ?_⟩) (by assumption) ?_; rotate_left; (focus ((intro wS hSw); (try dsimp only at hSw); skip; go_simp; (try with_reducible rfl); done)); (try simp only [Act.put, List.setIfInBounds_toArray, List.set_cons_zero, List.set_cons_succ]))
            (refine takeH (i := 17) (v := ?_) rfl (by kernel_rfl) (by kernel_rfl) (by kernel_rfl) (fun _ _ _ h => h) (Or.inl ⟨by rfl, ?_⟩) (by assumption) ?_; rotate_left; (focus ((intro wS hSw); (try dsimp only at hSw); skip; go_simp; (try with_reducible rfl); done)); (try simp only [Act.put, List.setIfInBounds_toArray, List.set_cons_zero, List.set_cons_succ]))
            (refine takeH (i := 18) (v := ?_) rfl (by kernel_rfl) (by kernel_rfl) (by kernel_rfl) (fun _ _ _ h => h) (Or.inl ⟨by rfl, ?_⟩) (by assumption) ?_; rotate_left; (focus ((intro wS hSw); (try dsimp only at hSw); skip; go_simp; (try with_reducible rfl); done)); (try simp only [Act.put, List.setIfInBounds_toArray, List.set_cons_zero, List.set_cons_succ]))
            (refine takeH (i := 19) (v := (.bool false)) rfl (by kernel_rfl) (by kernel_rfl) (by kernel_rfl) (fun _ _ _ h => h) (Or.inl ⟨by rfl, by (intro wS hSw); clear hSw; clear hHeld; have hn1 : ¬ ((i : Nat) : Int) < 0 := Int.not_lt.2 (Int.natCast_nonneg _); go_simp; (first | done | rfl | simp)⟩) (by assumption) ?_; (try simp only [Act.put, List.setIfInBounds_toArray, List.set_cons_zero, List.set_cons_succ]))
            (refine takeH (i := 20) (v := ?_) rfl (by kernel_rfl) (by kernel_rfl) (by kernel_rfl) (fun _ _ _ h => h) (Or.inl ⟨by rfl, ?_⟩) (by assumption) ?_; rotate_left; (focus ((intro wS hSw); (try dsimp only at hSw); skip; go_simp; (try with_reducible rfl); done)); (try simp only [Act.put, List.setIfInBounds_toArray, List.set_cons_zero, List.set_cons_succ]))
            (refine takeH (i := 21) (v := undef) rfl (by kernel_rfl) (by kernel_rfl) (by kernel_rfl) (fun _ _ _ h => h) (Or.inr ⟨by rfl, rfl⟩) (by assumption) ?_; (try simp only [Act.put, List.setIfInBounds_toArray, List.set_cons_zero, List.set_cons_succ]))
            (refine takeH (i := 22) (v := undef) rfl (by kernel_rfl) (by kernel_rfl) (by kernel_rfl) (fun _ _ _ h => h) (Or.inr ⟨by rfl, rfl⟩) (by assumption) ?_; (try simp only [Act.put, List.setIfInBounds_toArray, List.set_cons_zero, List.set_cons_succ]))
            (refine takeH (i := 23) (v := undef) rfl (by kernel_rfl) (by kernel_rfl) (by kernel_rfl) (fun _ _ _ h => h) (Or.inr ⟨by rfl, rfl⟩) (by assumption) ?_; (try simp only [Act.put, List.setIfInBounds_toArray, List.set_cons_zero, List.set_cons_succ]))
            (refine takeH (i := 24) (v := undef) rfl (by kernel_rfl) (by kernel_rfl) (by kernel_rfl) (fun _ _ _ h => h) (Or.inr ⟨by rfl, rfl⟩) (by assumption) ?_; (try simp only [Act.put, List.setIfInBounds_toArray, List.set_cons_zero, List.set_cons_succ]))
            (refine takeH (i := 25) (v := ?_) rfl (by kernel_rfl) (by kernel_rfl) (by kernel_rfl) (fun _ _ _ h => h) (Or.inl ⟨by rfl, ?_⟩) (by assumption) ?_; rotate_left; (focus ((intro wS hSw); (try dsimp only at hSw); skip; go_simp; (try with_reducible rfl); done)); (try simp only [Act.put, List.setIfInBounds_toArray, List.set_cons_zero, List.set_cons_succ]))
            (refine takeH (i := 26) (v := ?_) rfl (by kernel_rfl) (by kernel_rfl) (by kernel_rfl) (fun _ _ _ h => h) (Or.inl ⟨by rfl, ?_⟩) (by assumption) ?_; rotate_left; (focus ((intro wS hSw); (try dsimp only at hSw); skip; go_simp; (try with_reducible rfl); done)); (try simp only [Act.put, List.setIfInBounds_toArray, List.set_cons_zero, List.set_cons_succ]))
            (refine takeH (i := 27) (v := ?_) rfl (by kernel_rfl) (by kernel_rfl) (by kernel_rfl) (fun _ _ _ h => h) (Or.inl ⟨by rfl, ?_⟩) (by assumption) ?_; rotate_left; (focus ((intro wS hSw); (try dsimp only at hSw); skip; go_simp; (try with_reducible rfl); done)); (try simp only [Act.put, List.setIfInBounds_toArray, List.set_cons_zero, List.set_cons_succ]))
            (refine takeH (i := 28) (v := ?_) rfl (by kernel_rfl) (by kernel_rfl) (by kernel_rfl) (fun _ _ _ h => h) (Or.inl ⟨by rfl, ?_⟩) (by assumption) ?_; rotate_left; (focus ((intro wS hSw); (try dsimp only at hSw); skip; go_simp; (try with_reducible rfl); done)); (try simp only [Act.put, List.setIfInBounds_toArray, List.set_cons_zero, List.set_cons_succ]))
            (refine takeH (i := 29) (v := ?_) rfl (by kernel_rfl) (by kernel_rfl) (by kernel_rfl) (fun _ _ _ h => h) (Or.inl ⟨by rfl, ?_⟩) (by assumption) ?_; rotate_left; (focus ((intro wS hSw); (try dsimp only at hSw); skip; go_simp; (try with_reducible rfl); done)); (try simp only [Act.put, List.setIfInBounds_toArray, List.set_cons_zero, List.set_cons_succ]))
            (refine takeH (i := 31) (v := ?_) rfl (by kernel_rfl) (by kernel_rfl) (by kernel_rfl) (fun _ _ _ h => h) (Or.inl ⟨by rfl, ?_⟩) (by assumption) ?_; rotate_left; (focus ((intro wS hSw); (try dsimp only at hSw); skip; go_simp; (try with_reducible rfl); done)); (try simp only [Act.put, List.setIfInBounds_toArray, List.set_cons_zero, List.set_cons_succ]))
            (refine takeH (i := 32) (v := ?_) rfl (by kernel_rfl) (by kernel_rfl) (by kernel_rfl) (fun _ _ _ h => h) (Or.inl ⟨by rfl, ?_⟩) (by assumption) ?_; rotate_left; (focus ((intro wS hSw); (try dsimp only at hSw); skip; go_simp; (try with_reducible rfl); done)); (try simp only [Act.put, List.setIfInBounds_toArray, List.set_cons_zero, List.set_cons_succ]))
            refine aloneH (i := 30) rfl (by kernel_rfl) (fun K hK => ?_)
            rw [if_pos (by rfl)]
            go_simp; ((refine (HCr.out _ HB1.out).mono ?_); (rintro e w2 ⟨vS1, rfl, ho, hb⟩); obtain ⟨AS1, pS1, rfl, hs⟩ := ho.strs HCs.out; have S1 := Lib.hid hs; have HB2 := Lib.hid hb; clear hb ho hs; (try go_simp))
            refine hK.out _ _ (⟨heap_on HB2.out hHeld.1, range_on HB2.out hHeld.2⟩) (fun hNew => ?_)
            clear hK K hHeld; (have hHeld := hNew); clear hNew; (try simp only [Act.put, List.setIfInBounds_toArray, List.set_cons_zero, List.set_cons_succ])
            refine aloneH (i := 33) rfl (by kernel_rfl) (fun K hK => ?_)
            rw [if_pos (by rfl)]
            go_simp; ((refine (HCq.out _ (below_then HB1.out HB2.out)).mono ?_); (rintro e w3 ⟨vS2, rfl, ho, hb⟩); obtain ⟨AS2, pS2, rfl, hs⟩ := ho.strs HCs.out; have S2 := Lib.hid hs; have HB3 := Lib.hid hb; clear hb ho hs; (try go_simp))
            refine hK.out _ _ (⟨heap_on HB3.out hHeld.1, range_on HB3.out hHeld.2⟩) (fun hNew => ?_)
            clear hK K hHeld; (have hHeld := hNew); clear hNew; (try simp only [Act.put, List.setIfInBounds_toArray, List.set_cons_zero, List.set_cons_succ])
            refine aloneH (i := 34) rfl (by kernel_rfl) (fun K hK => ?_)
            rw [if_pos (by rfl)]
            go_simp; ((refine (ref_same_n Lc Lc AS1 AS2 pS1 pS2 _ _ rfl rfl w3 HCl.out (S1.out.below HB3.out) (S2.out.below (below_same w3))).mono ?_); (rintro e w4 ⟨he, hb⟩); (rw [decide_eq_true rfl] at he); subst he; have HB4 := Lib.hid hb; clear hb; (try go_simp))
            refine hK.out _ _ (⟨heap_on HB4.out hHeld.1, range_on HB4.out hHeld.2⟩) (fun hNew => ?_)
            clear hK K hHeld; (have hHeld := hNew); clear hNew; (try simp only [Act.put, List.setIfInBounds_toArray, List.set_cons_zero, List.set_cons_succ])
            (refine takeH (i := 35) (v := ?_) rfl (by kernel_rfl) (by kernel_rfl) (by kernel_rfl) (fun _ _ _ h => h) (Or.inl ⟨by rfl, ?_⟩) (by assumption) ?_; rotate_left; (focus ((intro wS hSw); (try dsimp only at hSw); skip; go_simp; (try with_reducible rfl); done)); (try simp only [Act.put, List.setIfInBounds_toArray, List.set_cons_zero, List.set_cons_succ]))
            (refine takeH (i := 36) (v := ?_) rfl (by kernel_rfl) (by kernel_rfl) (by kernel_rfl) (fun _ _ _ h => h) (Or.inl ⟨by rfl, ?_⟩) (by assumption) ?_; rotate_left; (focus ((intro wS hSw); (try dsimp only at hSw); skip; go_simp; (try with_reducible rfl); done)); (try simp only [Act.put, List.setIfInBounds_toArray, List.set_cons_zero, List.set_cons_succ]))
            refine wpAnyH_done (by kernel_rfl) ?_ _
            have HBR := Lib.hid (below_then (below_then (below_then HB1.out HB2.out) HB3.out) HB4.out)
            clear hHeld S1 S2 HB1 HB2 HB3 HB4 HCr HCq HSd
            generalize w4 = wq at HBR ⊢
            go_wp2
            go_roundw
            case rel => exact ⟨k2 + 1, by omega, by go_num, Lib.hid (InnI.on HJd.out HBR.out)⟩
            case measure => simp [intOf]; omega
        · obtain rfl : k2 = 3 := by omega
          clear h3 hk2
          have HLn := Lib.hid (code_slen HJ.out.1.set)
          go_wp2_with (go_at_call 18; refine HLn.out.mono ?_; rintro e w6 ⟨rfl, rfl⟩)
          go_roundw
          case rel => exact ⟨k + 1, m2, V2, F2, C2, W2, by omega, by go_num, Lib.hid HJ.out.1⟩
          case measure => simp [intOf]; omega
    · have hE0 : (E == 0) = false := by simpa using h0
      have HI5 := Lib.hid (HI3.out.no HPr.out (by rw [HE.out]; exact h0))
      have HX5 := HX4
      have HWl2 : Hid (W.length ≤ 40) := Lib.hid (by have := HWl.out; omega)
      clear HPr HE he1 h0 HX4 HI3
      clear HOld HWl HGx
      have HWl := HWl2
      clear HWl2
      obtain ⟨u0, u1, u2, u3, u4, u5, u6, u7, u8⟩ := cellsLineV HX5.out
      have HNn := Lib.hid (heap_alloc_new w4 (.cells #[.string id, .string x.id, .string x.refers] 9))
      have HBn := Lib.hid (below_alloc w4 (.cells #[.string id, .string x.id, .string x.refers] 9))
      have HI7 := Lib.hid (HI5.out.on HBn.out)
      go_wp2
      clear u0 u1 u2 u3 u4 u5 u6 u7 u8 HX5 HI5
      generalize (w4).alloc (.cells #[.string id, .string x.id, .string x.refers] 9) = wm at HNn HBn HI7 ⊢
      obtain ⟨gn, hgn⟩ : ∃ gn, gn = (w4).heap.size := ⟨_, rfl⟩
      rw [← hgn] at HNn ⊢
      clear hgn HBn
      obtain ⟨A9, c9, he9, hrm⟩ := HI7.out.own.form2
      injection he9 with he1 he2 he3
      subst he1 he3
      have HRm := Lib.hid hrm
      clear hrm
      have HKy : Hid (okKey x.id ∧ okKey x.refers) := Lib.hid (by have := HXk.out.2.2; unfold okKey; omega)
      go_loopw [12, 13, 14, 15, 63] (fun v12 v13 v14 v15 i wi => ∃ (k2 : Nat), k2 ≤ 3 ∧ i = .int .i64 (k2 : Nat) ∧ Hid (InnI wa wm P bm cm (k + 1) m2 V2 F2 C2 W (.slice Aw (W).length cw) gn id x.id x.refers wi)) (fun _ _ _ _ i _ => 3 - (intOf i).toNat)
      case atStart => exact ⟨0, by decide, rfl, Lib.hid ⟨HI7.out, HNn.out, Below.refl _ _⟩⟩
      case round =>
        rename World => wi
        obtain ⟨k2, hk2, rfl, HJ⟩ := hrel
        by_cases h3 : k2 < 3
        · have h3' : (k2 : Int) < 3 := by omega
          obtain ⟨s, hs, hks⟩ := names_at HJ.out.2.1 HId.out HKy.out.1 HKy.out.2 k2 h3
          have HOk := Lib.hid hks
          obtain ⟨Lc, hLc⟩ : ∃ Lc, crsOf W s = Lc := ⟨_, rfl⟩
          have HLc := Lib.hid hLc
          have HCv : Hid (C2 s = Lc) := Lib.hid ((HJ.out.1.rel.crs s).trans hLc)
          have HCl : Hid (Lc.length ≤ 1000) := Lib.hid (by rw [← hLc]; have := crs_len W s; have := HWl.out; omega)
          have HCs : Hid (∀ x ∈ Lc, x.size ≤ 1000) := Lib.hid (by rw [← hLc]; exact crs_small (fun x hx => (HJ.out.1.ok x hx).2.2))
          clear hLc
          rcases HJ.out.1.rel.find s with ⟨hfn, hF⟩ | ⟨i, hi, hfi, A0, c0, hF⟩
          · have HFv : Hid (findI W s = -1) := Lib.hid hfn
            have HGet := Lib.hid (code_get HJ.out.1.set s hks docZ (by rw [hF]; rfl) false (by rw [hF]; rfl) (by decide))
            clear hfn hF hks
            go_wp2_with (go_at_call 12; refine HGet.out.mono ?_; rintro e w6 ⟨A2, c2, rfl, hd, hb⟩; have HD6 := Lib.hid hd; have HJ6 := Lib.hid (InnI.on HJ.out hb); clear hd hb; refine Stop.out ?_)
            unfold Stop
            clear hs HGet HJ
            have HBb := Lib.hid (heap_alloc_new w6 (.cells #[.string ⟨#[]⟩, .bool false, .bool false, .string ⟨#[]⟩, .int .i64 0, .string ⟨#[]⟩, .string ⟨#[]⟩, .string ⟨#[]⟩, .slice none 0 0] 29))
            go_wp2_with ((with_reducible refine wpList_store_row (o := ⟨none, _, _, _, _, _⟩) ?b1 29 (.tmp 13) (.tmp 71) ?b2 w6.heap.size #[.string docZ.id, .bool docZ.sale, .bool docZ.credit, .string docZ.refers, .int .i64 docZ.day, .string docZ.country, .string docZ.number, .string docZ.currency, .slice A2 docZ.lines.length c2] ?b3 ?b4 29 #[.string ⟨#[]⟩, .bool false, .bool false, .string ⟨#[]⟩, .int .i64 0, .string ⟨#[]⟩, .string ⟨#[]⟩, .string ⟨#[]⟩, .slice none 0 0] ?b7 ?b6 ?b5 ?b8 ?_); (case b1 => rfl); (case b2 => rfl); (case b3 => rfl); (case b4 => rfl); (case b7 => exact HBb.out); (case b6 => exact doc_info); (case b5 => rfl); (case b8 => simp [Value.oneCell']); (try simp only [Act.put]); refine Stop.out ?_)
            unfold Stop
            have HBF := Lib.hid (box_filled w6 #[.string ⟨#[]⟩, .bool false, .bool false, .string ⟨#[]⟩, .int .i64 0, .string ⟨#[]⟩, .string ⟨#[]⟩, .string ⟨#[]⟩, .slice none 0 0] #[.string docZ.id, .bool docZ.sale, .bool docZ.credit, .string docZ.refers, .int .i64 docZ.day, .string docZ.country, .string docZ.number, .string docZ.currency, .slice A2 docZ.lines.length c2] rfl)
            clear HBb
            generalize (w6.alloc (.cells #[.string ⟨#[]⟩, .bool false, .bool false, .string ⟨#[]⟩, .int .i64 0, .string ⟨#[]⟩, .string ⟨#[]⟩, .string ⟨#[]⟩, .slice none 0 0] 29)).setRow w6.heap.size #[.string docZ.id, .bool docZ.sale, .bool docZ.credit, .string docZ.refers, .int .i64 docZ.day, .string docZ.country, .string docZ.number, .string docZ.currency, .slice A2 docZ.lines.length c2] = w7 at HBF ⊢
            have HJ7 := Lib.hid (InnI.on HJ6.out HBF.out.1)
            have HD7 : Hid (DocVOk w7 (reL docZ A2 c2)) := Lib.hid (DocVOk.on HD6.out HBF.out.1)
            have HX7 : Hid (w7.heap[w6.heap.size]? = some (.cells #[.string docZ.id, .bool docZ.sale, .bool docZ.credit, .string docZ.refers, .int .i64 docZ.day, .string docZ.country, .string docZ.number, .string docZ.currency, .slice A2 docZ.lines.length c2] 29 (0, 0))) := Lib.hid HBF.out.2
            obtain ⟨gx, hgx⟩ : ∃ gx, gx = w6.heap.size := ⟨_, rfl⟩
            rw [← hgx] at HX7 ⊢
            clear hgx HBF HJ6 HD6
            have HFi := Lib.hid (ref_find W Aw cw s w7 (HRm.out.on HJ7.out.2.2) (by have := HWl.out; omega) _ HFv.out)
            go_wp2_with (go_at_call 13; refine HFi.out.mono ?_; rintro e w8 ⟨rfl, rfl⟩; refine Stop.out ?_)
            unfold Stop
            clear HFi
            go_wp2
            have HS1 : Hid (w7.drew.heap[gx]? = some (.cells #[.string docZ.id, .bool docZ.sale, .bool docZ.credit, .string docZ.refers, .int .i64 docZ.day, .string docZ.country, .string docZ.number, .string docZ.currency, .slice A2 docZ.lines.length c2] 29 (0, 0))) := Lib.hid (heap_on (below_drew w7) HX7.out)
            have HBd : Hid (Below w7.heap.size w7 w7.drew) := Lib.hid (below_drew w7)
            have HJd := Lib.hid (InnI.on HJ7.out HBd.out)
            have HSd : Hid (∀ X, Below w7.drew.heap.size w7.drew X → Calls Try.prog 14 #[.agg #[.string docZ.id, .bool docZ.sale, .bool docZ.credit, .string docZ.refers, .int .i64 docZ.day, .string docZ.country, .string docZ.number, .string docZ.currency, .slice A2 docZ.lines.length c2], .agg #[.string ⟨#[]⟩, .bool false, .bool false, .string ⟨#[]⟩, .int .i64 0, .string ⟨#[]⟩, .string ⟨#[]⟩, .string ⟨#[]⟩, .slice none 0 0]] X fun e w' => e = .returned (.bool true) ∧ Below X.heap.size X w') := Lib.hid (fun X hW => ref_sameDoc (reL docZ A2 c2) docZ X ((HD7.out.on HBd.out).on hW) docZ_is (by show ([] : List LineV).length ≤ 140737488351232; decide) true (sameD_re docZ A2 c2))
            have HCr : Hid (∀ X, Below w7.drew.heap.size w7.drew X → Calls Try.prog 16 #[.pointer (some ⟨P, 0, none⟩), .string s] X (CrP X Lc)) := Lib.hid (fun X hW => code_credits (HJd.out.1.set.on hW) s HOk.out Lc HCv.out HCl.out)
            have HCq : Hid (∀ X, Below w7.drew.heap.size w7.drew X → Calls Try.prog 17 #[.slice Aw (W).length cw, .string s] X (CrP X Lc)) := Lib.hid (fun X hW => by
              have := ref_credits W Aw cw s X ((HRm.out.on HJd.out.2.2).on hW) (by have := HWl.out; omega)
              rwa [HLc.out] at this)
            refine wp_region_held_drew (S := fun V : World => V.heap[gx]? = some (.cells #[.string docZ.id, .bool docZ.sale, .bool docZ.credit, .string docZ.refers, .int .i64 docZ.day, .string docZ.country, .string docZ.number, .string docZ.currency, .slice A2 docZ.lines.length c2] 29 (0, 0))) (by kernel_rfl) HS1.out ?_
            intro hHeld
            clear HS1 HX7 HD7 HJ7
            generalize w7.drew = wd at HBd HJd HSd HCr HCq hHeld ⊢
            clear HBd
            (refine takeH (i := 0) (v := ?_) rfl (by kernel_rfl) (by kernel_rfl) (by kernel_rfl) (fun _ _ _ h => h) (Or.inl ⟨by rfl, ?_⟩) (by assumption) ?_; rotate_left; (focus ((intro wS hSw); (try dsimp only at hSw); skip; go_simp; (try with_reducible rfl); done)); (try simp only [Act.put, List.setIfInBounds_toArray, List.set_cons_zero, List.set_cons_succ]))
            (refine takeH (i := 1) (v := ?_) rfl (by kernel_rfl) (by kernel_rfl) (by kernel_rfl) (fun _ _ _ h => h) (Or.inl ⟨by rfl, ?_⟩) (by assumption) ?_; rotate_left; (focus ((intro wS hSw); (try dsimp only at hSw); skip; go_simp; (try with_reducible rfl); done)); (try simp only [Act.put, List.setIfInBounds_toArray, List.set_cons_zero, List.set_cons_succ]))
            (refine takeH (i := 2) (v := ?_) rfl (by kernel_rfl) (by kernel_rfl) (by kernel_rfl) (fun _ _ _ h => h) (Or.inl ⟨by rfl, ?_⟩) (by assumption) ?_; rotate_left; (focus ((intro wS hSw); (try dsimp only at hSw); skip; go_simp; (try with_reducible rfl); done)); (try simp only [Act.put, List.setIfInBounds_toArray, List.set_cons_zero, List.set_cons_succ]))
            (refine takeH (i := 3) (v := ?_) rfl (by kernel_rfl) (by kernel_rfl) (by kernel_rfl) (fun _ _ _ h => h) (Or.inl ⟨by rfl, ?_⟩) (by assumption) ?_; rotate_left; (focus ((intro wS hSw); (try dsimp only at hSw); skip; go_simp; (try with_reducible rfl); done)); (try simp only [Act.put, List.setIfInBounds_toArray, List.set_cons_zero, List.set_cons_succ]))
            (refine takeH (i := 4) (v := ?_) rfl (by kernel_rfl) (by kernel_rfl) (by kernel_rfl) (fun _ _ _ h => h) (Or.inl ⟨by rfl, ?_⟩) (by assumption) ?_; rotate_left; (focus ((intro wS hSw); (try dsimp only at hSw); skip; go_simp; (try with_reducible rfl); done)); (try simp only [Act.put, List.setIfInBounds_toArray, List.set_cons_zero, List.set_cons_succ]))
            (refine takeH (i := 5) (v := ?_) rfl (by kernel_rfl) (by kernel_rfl) (by kernel_rfl) (fun _ _ _ h => h) (Or.inl ⟨by rfl, ?_⟩) (by assumption) ?_; rotate_left; (focus ((intro wS hSw); (try dsimp only at hSw); skip; go_simp; (try with_reducible rfl); done)); (try simp only [Act.put, List.setIfInBounds_toArray, List.set_cons_zero, List.set_cons_succ]))
            (refine takeH (i := 6) (v := ?_) rfl (by kernel_rfl) (by kernel_rfl) (by kernel_rfl) (fun _ _ _ h => h) (Or.inl ⟨by rfl, ?_⟩) (by assumption) ?_; rotate_left; (focus ((intro wS hSw); (try dsimp only at hSw); skip; go_simp; (try with_reducible rfl); done)); (try simp only [Act.put, List.setIfInBounds_toArray, List.set_cons_zero, List.set_cons_succ]))
            (refine takeH (i := 7) (v := ?_) rfl (by kernel_rfl) (by kernel_rfl) (by kernel_rfl) (fun _ _ _ h => h) (Or.inl ⟨by rfl, ?_⟩) (by assumption) ?_; rotate_left; (focus ((intro wS hSw); (try dsimp only at hSw); skip; go_simp; (try with_reducible rfl); done)); (try simp only [Act.put, List.setIfInBounds_toArray, List.set_cons_zero, List.set_cons_succ]))
            (refine takeH (i := 8) (v := undef) rfl (by kernel_rfl) (by kernel_rfl) (by kernel_rfl) (fun _ _ _ h => h) (Or.inr ⟨by rfl, rfl⟩) (by assumption) ?_; (try simp only [Act.put, List.setIfInBounds_toArray, List.set_cons_zero, List.set_cons_succ]))
            (refine takeH (i := 9) (v := undef) rfl (by kernel_rfl) (by kernel_rfl) (by kernel_rfl) (fun _ _ _ h => h) (Or.inr ⟨by rfl, rfl⟩) (by assumption) ?_; (try simp only [Act.put, List.setIfInBounds_toArray, List.set_cons_zero, List.set_cons_succ]))
            (refine takeH (i := 10) (v := undef) rfl (by kernel_rfl) (by kernel_rfl) (by kernel_rfl) (fun _ _ _ h => h) (Or.inr ⟨by rfl, rfl⟩) (by assumption) ?_; (try simp only [Act.put, List.setIfInBounds_toArray, List.set_cons_zero, List.set_cons_succ]))
            (refine takeH (i := 11) (v := undef) rfl (by kernel_rfl) (by kernel_rfl) (by kernel_rfl) (fun _ _ _ h => h) (Or.inr ⟨by rfl, rfl⟩) (by assumption) ?_; (try simp only [Act.put, List.setIfInBounds_toArray, List.set_cons_zero, List.set_cons_succ]))
            (refine takeH (i := 12) (v := undef) rfl (by kernel_rfl) (by kernel_rfl) (by kernel_rfl) (fun _ _ _ h => h) (Or.inr ⟨by rfl, rfl⟩) (by assumption) ?_; (try simp only [Act.put, List.setIfInBounds_toArray, List.set_cons_zero, List.set_cons_succ]))
            (refine takeH (i := 13) (v := undef) rfl (by kernel_rfl) (by kernel_rfl) (by kernel_rfl) (fun _ _ _ h => h) (Or.inr ⟨by rfl, rfl⟩) (by assumption) ?_; (try simp only [Act.put, List.setIfInBounds_toArray, List.set_cons_zero, List.set_cons_succ]))
            (refine takeH (i := 14) (v := undef) rfl (by kernel_rfl) (by kernel_rfl) (by kernel_rfl) (fun _ _ _ h => h) (Or.inr ⟨by rfl, rfl⟩) (by assumption) ?_; (try simp only [Act.put, List.setIfInBounds_toArray, List.set_cons_zero, List.set_cons_succ]))
            (refine takeH (i := 15) (v := ?_) rfl (by kernel_rfl) (by kernel_rfl) (by kernel_rfl) (fun _ _ _ h => h) (Or.inl ⟨by rfl, ?_⟩) (by assumption) ?_; rotate_left; (focus ((intro wS hSw); (try dsimp only at hSw); skip; go_simp; (try with_reducible rfl); done)); (try simp only [Act.put, List.setIfInBounds_toArray, List.set_cons_zero, List.set_cons_succ]))
            (refine takeH (i := 16) (v := ?_) rfl (by kernel_rfl) (by kernel_rfl) (by kernel_rfl) (fun _ _ _ h => h) (Or.inl ⟨by rfl, ?_⟩) (by assumption) ?_; rotate_left; (focus ((intro wS hSw); (try dsimp only at hSw); skip; go_simp; (try with_reducible rfl); done)); (try simp only [Act.put, List.setIfInBounds_toArray, List.set_cons_zero, List.set_cons_succ]))
            (refine takeH (i := 17) (v := ?_) rfl (by kernel_rfl) (by kernel_rfl) (by kernel_rfl) (fun _ _ _ h => h) (Or.inl ⟨by rfl, ?_⟩) (by assumption) ?_; rotate_left; (focus ((intro wS hSw); (try dsimp only at hSw); skip; go_simp; (try with_reducible rfl); done)); (try simp only [Act.put, List.setIfInBounds_toArray, List.set_cons_zero, List.set_cons_succ]))
            (refine takeH (i := 18) (v := ?_) rfl (by kernel_rfl) (by kernel_rfl) (by kernel_rfl) (fun _ _ _ h => h) (Or.inl ⟨by rfl, ?_⟩) (by assumption) ?_; rotate_left; (focus ((intro wS hSw); (try dsimp only at hSw); skip; go_simp; (try with_reducible rfl); done)); (try simp only [Act.put, List.setIfInBounds_toArray, List.set_cons_zero, List.set_cons_succ]))
            (refine takeH (i := 19) (v := ?_) rfl (by kernel_rfl) (by kernel_rfl) (by kernel_rfl) (fun _ _ _ h => h) (Or.inl ⟨by rfl, ?_⟩) (by assumption) ?_; rotate_left; (focus ((intro wS hSw); (try dsimp only at hSw); skip; go_simp; (try with_reducible rfl); done)); (try simp only [Act.put, List.setIfInBounds_toArray, List.set_cons_zero, List.set_cons_succ]))
            (refine takeH (i := 20) (v := ?_) rfl (by kernel_rfl) (by kernel_rfl) (by kernel_rfl) (fun _ _ _ h => h) (Or.inl ⟨by rfl, ?_⟩) (by assumption) ?_; rotate_left; (focus ((intro wS hSw); (try dsimp only at hSw); skip; go_simp; (try with_reducible rfl); done)); (try simp only [Act.put, List.setIfInBounds_toArray, List.set_cons_zero, List.set_cons_succ]))
            (refine takeH (i := 21) (v := (.agg #[.string docZ.id, .bool docZ.sale, .bool docZ.credit, .string docZ.refers, .int .i64 docZ.day, .string docZ.country, .string docZ.number, .string docZ.currency, .slice A2 docZ.lines.length c2])) rfl (by kernel_rfl) (by kernel_rfl) (by kernel_rfl) (fun _ _ _ h => h) (yieldsIf_load_rowE (by rfl) 29 (.tmp 13) rfl gx rfl 29 #[.string docZ.id, .bool docZ.sale, .bool docZ.credit, .string docZ.refers, .int .i64 docZ.day, .string docZ.country, .string docZ.number, .string docZ.currency, .slice A2 docZ.lines.length c2] (0, 0) _ (fun W h => h) Try.underlying29 rfl doc_info) (by assumption) ?_; (try simp only [Act.put, List.setIfInBounds_toArray, List.set_cons_zero, List.set_cons_succ]))
            (refine takeH (i := 22) (v := ?_) rfl (by kernel_rfl) (by kernel_rfl) (by kernel_rfl) (fun _ _ _ h => h) (Or.inl ⟨by rfl, ?_⟩) (by assumption) ?_; rotate_left; (focus ((intro wS hSw); (try dsimp only at hSw); skip; go_simp; (try with_reducible rfl); done)); (try simp only [Act.put, List.setIfInBounds_toArray, List.set_cons_zero, List.set_cons_succ]))
            refine aloneH (i := 23) rfl (by kernel_rfl) (fun K hK => ?_)
            rw [if_pos (by rfl)]
            go_simp; ((refine (HSd.out _ (below_same wd)).mono ?_); (rintro e w1 ⟨rfl, hb⟩); have HB1 := Lib.hid hb; clear hb; (try go_simp))
            refine hK.out _ _ (heap_on HB1.out hHeld) (fun hNew => ?_)
            clear hK K hHeld; (have hHeld := hNew); clear hNew; (try simp only [Act.put, List.setIfInBounds_toArray, List.set_cons_zero, List.set_cons_succ])
            (refine takeH (i := 24) (v := ?_) rfl (by kernel_rfl) (by kernel_rfl) (by kernel_rfl) (fun _ _ _ h => h) (Or.inl ⟨by rfl, ?_⟩) (by assumption) ?_; rotate_left; (focus ((intro wS hSw); (try dsimp only at hSw); skip; go_simp; (try with_reducible rfl); done)); (try simp only [Act.put, List.setIfInBounds_toArray, List.set_cons_zero, List.set_cons_succ]))
            (refine takeH (i := 25) (v := ?_) rfl (by kernel_rfl) (by kernel_rfl) (by kernel_rfl) (fun _ _ _ h => h) (Or.inl ⟨by rfl, ?_⟩) (by assumption) ?_; rotate_left; (focus ((intro wS hSw); (try dsimp only at hSw); skip; go_simp; (try with_reducible rfl); done)); (try simp only [Act.put, List.setIfInBounds_toArray, List.set_cons_zero, List.set_cons_succ]))
            (refine takeH (i := 26) (v := ?_) rfl (by kernel_rfl) (by kernel_rfl) (by kernel_rfl) (fun _ _ _ h => h) (Or.inl ⟨by rfl, ?_⟩) (by assumption) ?_; rotate_left; (focus ((intro wS hSw); (try dsimp only at hSw); skip; go_simp; (try with_reducible rfl); done)); (try simp only [Act.put, List.setIfInBounds_toArray, List.set_cons_zero, List.set_cons_succ]))
            (refine takeH (i := 27) (v := ?_) rfl (by kernel_rfl) (by kernel_rfl) (by kernel_rfl) (fun _ _ _ h => h) (Or.inl ⟨by rfl, ?_⟩) (by assumption) ?_; rotate_left; (focus ((intro wS hSw); (try dsimp only at hSw); skip; go_simp; (try with_reducible rfl); done)); (try simp only [Act.put, List.setIfInBounds_toArray, List.set_cons_zero, List.set_cons_succ]))
            (refine takeH (i := 28) (v := ?_) rfl (by kernel_rfl) (by kernel_rfl) (by kernel_rfl) (fun _ _ _ h => h) (Or.inl ⟨by rfl, ?_⟩) (by assumption) ?_; rotate_left; (focus ((intro wS hSw); (try dsimp only at hSw); skip; go_simp; (try with_reducible rfl); done)); (try simp only [Act.put, List.setIfInBounds_toArray, List.set_cons_zero, List.set_cons_succ]))
            (refine takeH (i := 29) (v := ?_) rfl (by kernel_rfl) (by kernel_rfl) (by kernel_rfl) (fun _ _ _ h => h) (Or.inl ⟨by rfl, ?_⟩) (by assumption) ?_; rotate_left; (focus ((intro wS hSw); (try dsimp only at hSw); skip; go_simp; (try with_reducible rfl); done)); (try simp only [Act.put, List.setIfInBounds_toArray, List.set_cons_zero, List.set_cons_succ]))
            (refine takeH (i := 31) (v := ?_) rfl (by kernel_rfl) (by kernel_rfl) (by kernel_rfl) (fun _ _ _ h => h) (Or.inl ⟨by rfl, ?_⟩) (by assumption) ?_; rotate_left; (focus ((intro wS hSw); (try dsimp only at hSw); skip; go_simp; (try with_reducible rfl); done)); (try simp only [Act.put, List.setIfInBounds_toArray, List.set_cons_zero, List.set_cons_succ]))
            (refine takeH (i := 32) (v := ?_) rfl (by kernel_rfl) (by kernel_rfl) (by kernel_rfl) (fun _ _ _ h => h) (Or.inl ⟨by rfl, ?_⟩) (by assumption) ?_; rotate_left; (focus ((intro wS hSw); (try dsimp only at hSw); skip; go_simp; (try with_reducible rfl); done)); (try simp only [Act.put, List.setIfInBounds_toArray, List.set_cons_zero, List.set_cons_succ]))
            refine aloneH (i := 30) rfl (by kernel_rfl) (fun K hK => ?_)
            rw [if_pos (by rfl)]
            go_simp; ((refine (HCr.out _ HB1.out).mono ?_); (rintro e w2 ⟨vS1, rfl, ho, hb⟩); obtain ⟨AS1, pS1, rfl, hs⟩ := ho.strs HCs.out; have S1 := Lib.hid hs; have HB2 := Lib.hid hb; clear hb ho hs; (try go_simp))
            refine hK.out _ _ (heap_on HB2.out hHeld) (fun hNew => ?_)
            clear hK K hHeld; (have hHeld := hNew); clear hNew; (try simp only [Act.put, List.setIfInBounds_toArray, List.set_cons_zero, List.set_cons_succ])
            refine aloneH (i := 33) rfl (by kernel_rfl) (fun K hK => ?_)
            rw [if_pos (by rfl)]
            go_simp; ((refine (HCq.out _ (below_then HB1.out HB2.out)).mono ?_); (rintro e w3 ⟨vS2, rfl, ho, hb⟩); obtain ⟨AS2, pS2, rfl, hs⟩ := ho.strs HCs.out; have S2 := Lib.hid hs; have HB3 := Lib.hid hb; clear hb ho hs; (try go_simp))
            refine hK.out _ _ (heap_on HB3.out hHeld) (fun hNew => ?_)
            clear hK K hHeld; (have hHeld := hNew); clear hNew; (try simp only [Act.put, List.setIfInBounds_toArray, List.set_cons_zero, List.set_cons_succ])
            refine aloneH (i := 34) rfl (by kernel_rfl) (fun K hK => ?_)
            rw [if_pos (by rfl)]
            go_simp; ((refine (ref_same_n Lc Lc AS1 AS2 pS1 pS2 _ _ rfl rfl w3 HCl.out (S1.out.below HB3.out) (S2.out.below (below_same w3))).mono ?_); (rintro e w4 ⟨he, hb⟩); (rw [decide_eq_true rfl] at he); subst he; have HB4 := Lib.hid hb; clear hb; (try go_simp))
            refine hK.out _ _ (heap_on HB4.out hHeld) (fun hNew => ?_)
            clear hK K hHeld; (have hHeld := hNew); clear hNew; (try simp only [Act.put, List.setIfInBounds_toArray, List.set_cons_zero, List.set_cons_succ])
            (refine takeH (i := 35) (v := ?_) rfl (by kernel_rfl) (by kernel_rfl) (by kernel_rfl) (fun _ _ _ h => h) (Or.inl ⟨by rfl, ?_⟩) (by assumption) ?_; rotate_left; (focus ((intro wS hSw); (try dsimp only at hSw); skip; go_simp; (try with_reducible rfl); done)); (try simp only [Act.put, List.setIfInBounds_toArray, List.set_cons_zero, List.set_cons_succ]))
            (refine takeH (i := 36) (v := ?_) rfl (by kernel_rfl) (by kernel_rfl) (by kernel_rfl) (fun _ _ _ h => h) (Or.inl ⟨by rfl, ?_⟩) (by assumption) ?_; rotate_left; (focus ((intro wS hSw); (try dsimp only at hSw); skip; go_simp; (try with_reducible rfl); done)); (try simp only [Act.put, List.setIfInBounds_toArray, List.set_cons_zero, List.set_cons_succ]))
            refine wpAnyH_done (by kernel_rfl) ?_ _
            have HBR := Lib.hid (below_then (below_then (below_then HB1.out HB2.out) HB3.out) HB4.out)
            clear hHeld S1 S2 HB1 HB2 HB3 HB4 HCr HCq HSd
            generalize w4 = wq at HBR ⊢
            go_wp2
            go_roundw
            case rel => exact ⟨k2 + 1, by omega, by go_num, Lib.hid (InnI.on HJd.out HBR.out)⟩
            case measure => simp [intOf]; omega
          · have HFv : Hid (findI W s = (i : Nat)) := Lib.hid hfi
            obtain ⟨bw, ow, rfl, hrg⟩ := HRm.out.range_at i hi
            have HRg := Lib.hid hrg
            have HY : Hid (DocVOk wa (W)[i] ∧ (W)[i].lines.length ≤ 70) := Lib.hid ⟨(HJ.out.1.ok _ (List.getElem_mem hi)).1, (HJ.out.1.ok _ (List.getElem_mem hi)).2.1⟩
            have hii : (i : Int) < ((W).length : Int) := by omega
            generalize (W)[i] = y at HRg HY hF
            have HGet : Hid (Calls Try.prog 12 #[.pointer (some ⟨P, 0, none⟩), .string s] wi fun e w' => ∃ A c, e = .returned (.tuple #[.agg #[.string y.id, .bool y.sale, .bool y.credit, .string y.refers, .int .i64 y.day, .string y.country, .string y.number, .string y.currency, .slice A y.lines.length c], .bool true]) ∧ DocVOk w' (reL y A c) ∧ Below wi.heap.size wi w') := Lib.hid ((code_get HJ.out.1.set s hks (reL y A0 c0) (by rw [hF]; rfl) true (by rw [hF]; rfl) (by have := HY.out.2; show y.lines.length ≤ 1000; omega)).mono fun e w' h => h)
            clear hfi hF hks hrg
            go_wp2_with (go_at_call 12; refine HGet.out.mono ?_; rintro e w6 ⟨A2, c2, rfl, hd, hb⟩; have HD6 := Lib.hid hd; have HJ6 := Lib.hid (InnI.on HJ.out hb); clear hd hb; refine Stop.out ?_)
            unfold Stop
            clear hs HGet HJ
            have HBb := Lib.hid (heap_alloc_new w6 (.cells #[.string ⟨#[]⟩, .bool false, .bool false, .string ⟨#[]⟩, .int .i64 0, .string ⟨#[]⟩, .string ⟨#[]⟩, .string ⟨#[]⟩, .slice none 0 0] 29))
            go_wp2_with ((with_reducible refine wpList_store_row (o := ⟨none, _, _, _, _, _⟩) ?b1 29 (.tmp 13) (.tmp 71) ?b2 w6.heap.size #[.string y.id, .bool y.sale, .bool y.credit, .string y.refers, .int .i64 y.day, .string y.country, .string y.number, .string y.currency, .slice A2 y.lines.length c2] ?b3 ?b4 29 #[.string ⟨#[]⟩, .bool false, .bool false, .string ⟨#[]⟩, .int .i64 0, .string ⟨#[]⟩, .string ⟨#[]⟩, .string ⟨#[]⟩, .slice none 0 0] ?b7 ?b6 ?b5 ?b8 ?_); (case b1 => rfl); (case b2 => rfl); (case b3 => rfl); (case b4 => rfl); (case b7 => exact HBb.out); (case b6 => exact doc_info); (case b5 => rfl); (case b8 => simp [Value.oneCell']); (try simp only [Act.put]); refine Stop.out ?_)
            unfold Stop
            have HBF := Lib.hid (box_filled w6 #[.string ⟨#[]⟩, .bool false, .bool false, .string ⟨#[]⟩, .int .i64 0, .string ⟨#[]⟩, .string ⟨#[]⟩, .string ⟨#[]⟩, .slice none 0 0] #[.string y.id, .bool y.sale, .bool y.credit, .string y.refers, .int .i64 y.day, .string y.country, .string y.number, .string y.currency, .slice A2 y.lines.length c2] rfl)
            clear HBb
            generalize (w6.alloc (.cells #[.string ⟨#[]⟩, .bool false, .bool false, .string ⟨#[]⟩, .int .i64 0, .string ⟨#[]⟩, .string ⟨#[]⟩, .string ⟨#[]⟩, .slice none 0 0] 29)).setRow w6.heap.size #[.string y.id, .bool y.sale, .bool y.credit, .string y.refers, .int .i64 y.day, .string y.country, .string y.number, .string y.currency, .slice A2 y.lines.length c2] = w7 at HBF ⊢
            have HJ7 := Lib.hid (InnI.on HJ6.out HBF.out.1)
            have HD7 : Hid (DocVOk w7 (reL y A2 c2)) := Lib.hid (DocVOk.on HD6.out HBF.out.1)
            have HX7 : Hid (w7.heap[w6.heap.size]? = some (.cells #[.string y.id, .bool y.sale, .bool y.credit, .string y.refers, .int .i64 y.day, .string y.country, .string y.number, .string y.currency, .slice A2 y.lines.length c2] 29 (0, 0))) := Lib.hid HBF.out.2
            obtain ⟨gx, hgx⟩ : ∃ gx, gx = w6.heap.size := ⟨_, rfl⟩
            rw [← hgx] at HX7 ⊢
            clear hgx HBF HJ6 HD6
            have HFi := Lib.hid (ref_find W (some ⟨bw, ow, none⟩) cw s w7 (HRm.out.on HJ7.out.2.2) (by have := HWl.out; omega) _ HFv.out)
            go_wp2_with (go_at_call 13; refine HFi.out.mono ?_; rintro e w8 ⟨rfl, rfl⟩; refine Stop.out ?_)
            unfold Stop
            clear HFi
            go_wp2
            have HS1 : Hid (w7.drew.heap[gx]? = some (.cells #[.string y.id, .bool y.sale, .bool y.credit, .string y.refers, .int .i64 y.day, .string y.country, .string y.number, .string y.currency, .slice A2 y.lines.length c2] 29 (0, 0)) ∧ w7.drew.rangeAt bw (ow + i * 9) (docC y)) := Lib.hid (⟨heap_on (below_drew w7) HX7.out, range_on (below_then HJ7.out.2.2 (below_drew w7)) HRg.out⟩)
            have HBd : Hid (Below w7.heap.size w7 w7.drew) := Lib.hid (below_drew w7)
            have HJd := Lib.hid (InnI.on HJ7.out HBd.out)
            have HSd : Hid (∀ X, Below w7.drew.heap.size w7.drew X → Calls Try.prog 14 #[.agg #[.string y.id, .bool y.sale, .bool y.credit, .string y.refers, .int .i64 y.day, .string y.country, .string y.number, .string y.currency, .slice A2 y.lines.length c2], .agg #[.string y.id, .bool y.sale, .bool y.credit, .string y.refers, .int .i64 y.day, .string y.country, .string y.number, .string y.currency, .slice y.linesA y.lines.length y.linesC]] X fun e w' => e = .returned (.bool true) ∧ Below X.heap.size X w') := Lib.hid (fun X hW => ref_sameDoc (reL y A2 c2) y X ((HD7.out.on HBd.out).on hW) ((HY.out.1.on HJd.out.1.low).on hW) (by have := HY.out.2; show y.lines.length ≤ 140737488351232; omega) true (sameD_re y A2 c2))
            have HCr : Hid (∀ X, Below w7.drew.heap.size w7.drew X → Calls Try.prog 16 #[.pointer (some ⟨P, 0, none⟩), .string s] X (CrP X Lc)) := Lib.hid (fun X hW => code_credits (HJd.out.1.set.on hW) s HOk.out Lc HCv.out HCl.out)
            have HCq : Hid (∀ X, Below w7.drew.heap.size w7.drew X → Calls Try.prog 17 #[.slice (some ⟨bw, ow, none⟩) (W).length cw, .string s] X (CrP X Lc)) := Lib.hid (fun X hW => by
              have := ref_credits W (some ⟨bw, ow, none⟩) cw s X ((HRm.out.on HJd.out.2.2).on hW) (by have := HWl.out; omega)
              rwa [HLc.out] at this)
            refine wp_region_held_drew (S := fun V : World => V.heap[gx]? = some (.cells #[.string y.id, .bool y.sale, .bool y.credit, .string y.refers, .int .i64 y.day, .string y.country, .string y.number, .string y.currency, .slice A2 y.lines.length c2] 29 (0, 0)) ∧ V.rangeAt bw (ow + i * 9) (docC y)) (by kernel_rfl) HS1.out ?_
            intro hHeld
            clear HS1 HX7 HD7 HJ7
            generalize w7.drew = wd at HBd HJd HSd HCr HCq hHeld ⊢
            clear HBd
            (refine takeH (i := 0) (v := ?_) rfl (by kernel_rfl) (by kernel_rfl) (by kernel_rfl) (fun _ _ _ h => h) (Or.inl ⟨by rfl, ?_⟩) (by assumption) ?_; rotate_left; (focus ((intro wS hSw); (try dsimp only at hSw); skip; go_simp; (try with_reducible rfl); done)); (try simp only [Act.put, List.setIfInBounds_toArray, List.set_cons_zero, List.set_cons_succ]))
            (refine takeH (i := 1) (v := ?_) rfl (by kernel_rfl) (by kernel_rfl) (by kernel_rfl) (fun _ _ _ h => h) (Or.inl ⟨by rfl, ?_⟩) (by assumption) ?_; rotate_left; (focus ((intro wS hSw); (try dsimp only at hSw); skip; go_simp; (try with_reducible rfl); done)); (try simp only [Act.put, List.setIfInBounds_toArray, List.set_cons_zero, List.set_cons_succ]))
            (refine takeH (i := 2) (v := ?_) rfl (by kernel_rfl) (by kernel_rfl) (by kernel_rfl) (fun _ _ _ h => h) (Or.inl ⟨by rfl, ?_⟩) (by assumption) ?_; rotate_left; (focus ((intro wS hSw); (try dsimp only at hSw); skip; go_simp; (try with_reducible rfl); done)); (try simp only [Act.put, List.setIfInBounds_toArray, List.set_cons_zero, List.set_cons_succ]))
            (refine takeH (i := 3) (v := ?_) rfl (by kernel_rfl) (by kernel_rfl) (by kernel_rfl) (fun _ _ _ h => h) (Or.inl ⟨by rfl, ?_⟩) (by assumption) ?_; rotate_left; (focus ((intro wS hSw); (try dsimp only at hSw); skip; go_simp; (try with_reducible rfl); done)); (try simp only [Act.put, List.setIfInBounds_toArray, List.set_cons_zero, List.set_cons_succ]))
            (refine takeH (i := 4) (v := ?_) rfl (by kernel_rfl) (by kernel_rfl) (by kernel_rfl) (fun _ _ _ h => h) (Or.inl ⟨by rfl, ?_⟩) (by assumption) ?_; rotate_left; (focus ((intro wS hSw); (try dsimp only at hSw); skip; go_simp; (try with_reducible rfl); done)); (try simp only [Act.put, List.setIfInBounds_toArray, List.set_cons_zero, List.set_cons_succ]))
            (refine takeH (i := 5) (v := ?_) rfl (by kernel_rfl) (by kernel_rfl) (by kernel_rfl) (fun _ _ _ h => h) (Or.inl ⟨by rfl, ?_⟩) (by assumption) ?_; rotate_left; (focus ((intro wS hSw); (try dsimp only at hSw); skip; go_simp; (try with_reducible rfl); done)); (try simp only [Act.put, List.setIfInBounds_toArray, List.set_cons_zero, List.set_cons_succ]))
            (refine takeH (i := 6) (v := ?_) rfl (by kernel_rfl) (by kernel_rfl) (by kernel_rfl) (fun _ _ _ h => h) (Or.inl ⟨by rfl, ?_⟩) (by assumption) ?_; rotate_left; (focus ((intro wS hSw); (try dsimp only at hSw); skip; go_simp; (try with_reducible rfl); done)); (try simp only [Act.put, List.setIfInBounds_toArray, List.set_cons_zero, List.set_cons_succ]))
            (refine takeH (i := 7) (v := ?_) rfl (by kernel_rfl) (by kernel_rfl) (by kernel_rfl) (fun _ _ _ h => h) (Or.inl ⟨by rfl, ?_⟩) (by assumption) ?_; rotate_left; (focus ((intro wS hSw); (try dsimp only at hSw); skip; go_simp; (try with_reducible rfl); done)); (try simp only [Act.put, List.setIfInBounds_toArray, List.set_cons_zero, List.set_cons_succ]))
            (refine takeH (i := 8) (v := (.agg #[.string y.id, .bool y.sale, .bool y.credit, .string y.refers, .int .i64 y.day, .string y.country, .string y.number, .string y.currency, .slice A2 y.lines.length c2])) rfl (by kernel_rfl) (by kernel_rfl) (by kernel_rfl) (fun _ _ _ h => h) (yieldsIf_load_rowE (by rfl) 29 (.tmp 13) rfl gx rfl 29 #[.string y.id, .bool y.sale, .bool y.credit, .string y.refers, .int .i64 y.day, .string y.country, .string y.number, .string y.currency, .slice A2 y.lines.length c2] (0, 0) _ (fun W h => h.1) Try.underlying29 rfl doc_info) (by assumption) ?_; (try simp only [Act.put, List.setIfInBounds_toArray, List.set_cons_zero, List.set_cons_succ]))
            (refine takeH (i := 9) (v := ?_) rfl (by kernel_rfl) (by kernel_rfl) (by kernel_rfl) (fun _ _ _ h => h) (Or.inl ⟨by rfl, ?_⟩) (by assumption) ?_; rotate_left; (focus ((intro wS hSw); (try dsimp only at hSw); skip; go_simp; (try with_reducible rfl); done)); (try simp only [Act.put, List.setIfInBounds_toArray, List.set_cons_zero, List.set_cons_succ]))
            (refine takeH (i := 10) (v := ?_) rfl (by kernel_rfl) (by kernel_rfl) (by kernel_rfl) (fun _ _ _ h => h) (Or.inl ⟨by rfl, ?_⟩) (by assumption) ?_; rotate_left; (focus ((intro wS hSw); (try dsimp only at hSw); skip; go_simp; (try with_reducible rfl); done)); (try simp only [Act.put, List.setIfInBounds_toArray, List.set_cons_zero, List.set_cons_succ]))
            (refine takeH (i := 11) (v := (.pointer (some ⟨bw, ow + i * 9, none⟩))) rfl (by kernel_rfl) (by kernel_rfl) (by kernel_rfl) (fun _ _ _ h => h) (Or.inl ⟨by rfl, by (intro wS hSw); clear hSw; clear hHeld; go_simp; (first | done | rfl | (simp; omega))⟩) (by assumption) ?_; (try simp only [Act.put, List.setIfInBounds_toArray, List.set_cons_zero, List.set_cons_succ]))
            (refine takeH (i := 12) (v := (.agg #[.string y.id, .bool y.sale, .bool y.credit, .string y.refers, .int .i64 y.day, .string y.country, .string y.number, .string y.currency, .slice y.linesA y.lines.length y.linesC])) rfl (by kernel_rfl) (by kernel_rfl) (by kernel_rfl) (fun _ _ _ h => h) (yieldsIf_load_mid (by rfl) 29 (.tmp 87) rfl bw (ow + i * 9) rfl (docC y) _ (fun W h => h.2) Try.underlying29 rfl doc_info) (by assumption) ?_; (try simp only [Act.put, List.setIfInBounds_toArray, List.set_cons_zero, List.set_cons_succ]))
            refine aloneH (i := 13) rfl (by kernel_rfl) (fun K hK => ?_)
            rw [if_pos (by rfl)]
            go_simp; ((refine (HSd.out _ (below_same wd)).mono ?_); (rintro e w1 ⟨rfl, hb⟩); have HB1 := Lib.hid hb; clear hb; (try go_simp))
            refine hK.out _ _ (⟨heap_on HB1.out hHeld.1, range_on HB1.out hHeld.2⟩) (fun hNew => ?_)
            clear hK K hHeld; (have hHeld := hNew); clear hNew; (try simp only [Act.put, List.setIfInBounds_toArray, List.set_cons_zero, List.set_cons_succ])
            (refine takeH (i := 14) (v := ?_) rfl (by kernel_rfl) (by kernel_rfl) (by kernel_rfl) (fun _ _ _ h => h) (Or.inl ⟨by rfl, ?_⟩) (by assumption) ?_; rotate_left; (focus ((intro wS hSw); (try dsimp only at hSw); skip; go_simp; (try with_reducible rfl); done)); (try simp only [Act.put, List.setIfInBounds_toArray, List.set_cons_zero, List.set_cons_succ]))
            (refine takeH (i := 15) (v := ?_) rfl (by kernel_rfl) (by kernel_rfl) (by kernel_rfl) (fun _ _ _ h => h) (Or.inl ⟨by rfl, ?_⟩) (by assumption) ?_; rotate_left; (focus ((intro wS hSw); (try dsimp only at hSw); skip; go_simp; (try with_reducible rfl); done)); (try simp only [Act.put, List.setIfInBounds_toArray, List.set_cons_zero, List.set_cons_succ]))
            (refine takeH (i := 16) (v := ?_) rfl (by kernel_rfl) (by kernel_rfl) (by kernel_rfl) (fun _ _ _ h => h) (Or.inl ⟨by rfl, ?_⟩) (by assumption) ?_; rotate_left; (focus ((intro wS hSw); (try dsimp only at hSw); skip; go_simp; (try with_reducible rfl); done)); (try simp only [Act.put, List.setIfInBounds_toArray, List.set_cons_zero, List.set_cons_succ]))
            (refine takeH (i := 17) (v := ?_) rfl (by kernel_rfl) (by kernel_rfl) (by kernel_rfl) (fun _ _ _ h => h) (Or.inl ⟨by rfl, ?_⟩) (by assumption) ?_; rotate_left; (focus ((intro wS hSw); (try dsimp only at hSw); skip; go_simp; (try with_reducible rfl); done)); (try simp only [Act.put, List.setIfInBounds_toArray, List.set_cons_zero, List.set_cons_succ]))
            (refine takeH (i := 18) (v := ?_) rfl (by kernel_rfl) (by kernel_rfl) (by kernel_rfl) (fun _ _ _ h => h) (Or.inl ⟨by rfl, ?_⟩) (by assumption) ?_; rotate_left; (focus ((intro wS hSw); (try dsimp only at hSw); skip; go_simp; (try with_reducible rfl); done)); (try simp only [Act.put, List.setIfInBounds_toArray, List.set_cons_zero, List.set_cons_succ]))
            (refine takeH (i := 19) (v := (.bool false)) rfl (by kernel_rfl) (by kernel_rfl) (by kernel_rfl) (fun _ _ _ h => h) (Or.inl ⟨by rfl, by (intro wS hSw); clear hSw; clear hHeld; have hn1 : ¬ ((i : Nat) : Int) < 0 := Int.not_lt.2 (Int.natCast_nonneg _); go_simp; (first | done | rfl | simp)⟩) (by assumption) ?_; (try simp only [Act.put, List.setIfInBounds_toArray, List.set_cons_zero, List.set_cons_succ]))
            (refine takeH (i := 20) (v := ?_) rfl (by kernel_rfl) (by kernel_rfl) (by kernel_rfl) (fun _ _ _ h => h) (Or.inl ⟨by rfl, ?_⟩) (by assumption) ?_; rotate_left; (focus ((intro wS hSw); (try dsimp only at hSw); skip; go_simp; (try with_reducible rfl); done)); (try simp only [Act.put, List.setIfInBounds_toArray, List.set_cons_zero, List.set_cons_succ]))
            (refine takeH (i := 21) (v := undef) rfl (by kernel_rfl) (by kernel_rfl) (by kernel_rfl) (fun _ _ _ h => h) (Or.inr ⟨by rfl, rfl⟩) (by assumption) ?_; (try simp only [Act.put, List.setIfInBounds_toArray, List.set_cons_zero, List.set_cons_succ]))
            (refine takeH (i := 22) (v := undef) rfl (by kernel_rfl) (by kernel_rfl) (by kernel_rfl) (fun _ _ _ h => h) (Or.inr ⟨by rfl, rfl⟩) (by assumption) ?_; (try simp only [Act.put, List.setIfInBounds_toArray, List.set_cons_zero, List.set_cons_succ]))
            (refine takeH (i := 23) (v := undef) rfl (by kernel_rfl) (by kernel_rfl) (by kernel_rfl) (fun _ _ _ h => h) (Or.inr ⟨by rfl, rfl⟩) (by assumption) ?_; (try simp only [Act.put, List.setIfInBounds_toArray, List.set_cons_zero, List.set_cons_succ]))
            (refine takeH (i := 24) (v := undef) rfl (by kernel_rfl) (by kernel_rfl) (by kernel_rfl) (fun _ _ _ h => h) (Or.inr ⟨by rfl, rfl⟩) (by assumption) ?_; (try simp only [Act.put, List.setIfInBounds_toArray, List.set_cons_zero, List.set_cons_succ]))
            (refine takeH (i := 25) (v := ?_) rfl (by kernel_rfl) (by kernel_rfl) (by kernel_rfl) (fun _ _ _ h => h) (Or.inl ⟨by rfl, ?_⟩) (by assumption) ?_; rotate_left; (focus ((intro wS hSw); (try dsimp only at hSw); skip; go_simp; (try with_reducible rfl); done)); (try simp only [Act.put, List.setIfInBounds_toArray, List.set_cons_zero, List.set_cons_succ]))
            (refine takeH (i := 26) (v := ?_) rfl (by kernel_rfl) (by kernel_rfl) (by kernel_rfl) (fun _ _ _ h => h) (Or.inl ⟨by rfl, ?_⟩) (by assumption) ?_; rotate_left; (focus ((intro wS hSw); (try dsimp only at hSw); skip; go_simp; (try with_reducible rfl); done)); (try simp only [Act.put, List.setIfInBounds_toArray, List.set_cons_zero, List.set_cons_succ]))
            (refine takeH (i := 27) (v := ?_) rfl (by kernel_rfl) (by kernel_rfl) (by kernel_rfl) (fun _ _ _ h => h) (Or.inl ⟨by rfl, ?_⟩) (by assumption) ?_; rotate_left; (focus ((intro wS hSw); (try dsimp only at hSw); skip; go_simp; (try with_reducible rfl); done)); (try simp only [Act.put, List.setIfInBounds_toArray, List.set_cons_zero, List.set_cons_succ]))
            (refine takeH (i := 28) (v := ?_) rfl (by kernel_rfl) (by kernel_rfl) (by kernel_rfl) (fun _ _ _ h => h) (Or.inl ⟨by rfl, ?_⟩) (by assumption) ?_; rotate_left; (focus ((intro wS hSw); (try dsimp only at hSw); skip; go_simp; (try with_reducible rfl); done)); (try simp only [Act.put, List.setIfInBounds_toArray, List.set_cons_zero, List.set_cons_succ]))
            (refine takeH (i := 29) (v := ?_) rfl (by kernel_rfl) (by kernel_rfl) (by kernel_rfl) (fun _ _ _ h => h) (Or.inl ⟨by rfl, ?_⟩) (by assumption) ?_; rotate_left; (focus ((intro wS hSw); (try dsimp only at hSw); skip; go_simp; (try with_reducible rfl); done)); (try simp only [Act.put, List.setIfInBounds_toArray, List.set_cons_zero, List.set_cons_succ]))
            (refine takeH (i := 31) (v := ?_) rfl (by kernel_rfl) (by kernel_rfl) (by kernel_rfl) (fun _ _ _ h => h) (Or.inl ⟨by rfl, ?_⟩) (by assumption) ?_; rotate_left; (focus ((intro wS hSw); (try dsimp only at hSw); skip; go_simp; (try with_reducible rfl); done)); (try simp only [Act.put, List.setIfInBounds_toArray, List.set_cons_zero, List.set_cons_succ]))
            (refine takeH (i := 32) (v := ?_) rfl (by kernel_rfl) (by kernel_rfl) (by kernel_rfl) (fun _ _ _ h => h) (Or.inl ⟨by rfl, ?_⟩) (by assumption) ?_; rotate_left; (focus ((intro wS hSw); (try dsimp only at hSw); skip; go_simp; (try with_reducible rfl); done)); (try simp only [Act.put, List.setIfInBounds_toArray, List.set_cons_zero, List.set_cons_succ]))
            refine aloneH (i := 30) rfl (by kernel_rfl) (fun K hK => ?_)
            rw [if_pos (by rfl)]
            go_simp; ((refine (HCr.out _ HB1.out).mono ?_); (rintro e w2 ⟨vS1, rfl, ho, hb⟩); obtain ⟨AS1, pS1, rfl, hs⟩ := ho.strs HCs.out; have S1 := Lib.hid hs; have HB2 := Lib.hid hb; clear hb ho hs; (try go_simp))
            refine hK.out _ _ (⟨heap_on HB2.out hHeld.1, range_on HB2.out hHeld.2⟩) (fun hNew => ?_)
            clear hK K hHeld; (have hHeld := hNew); clear hNew; (try simp only [Act.put, List.setIfInBounds_toArray, List.set_cons_zero, List.set_cons_succ])
            refine aloneH (i := 33) rfl (by kernel_rfl) (fun K hK => ?_)
            rw [if_pos (by rfl)]
            go_simp; ((refine (HCq.out _ (below_then HB1.out HB2.out)).mono ?_); (rintro e w3 ⟨vS2, rfl, ho, hb⟩); obtain ⟨AS2, pS2, rfl, hs⟩ := ho.strs HCs.out; have S2 := Lib.hid hs; have HB3 := Lib.hid hb; clear hb ho hs; (try go_simp))
            refine hK.out _ _ (⟨heap_on HB3.out hHeld.1, range_on HB3.out hHeld.2⟩) (fun hNew => ?_)
            clear hK K hHeld; (have hHeld := hNew); clear hNew; (try simp only [Act.put, List.setIfInBounds_toArray, List.set_cons_zero, List.set_cons_succ])
            refine aloneH (i := 34) rfl (by kernel_rfl) (fun K hK => ?_)
            rw [if_pos (by rfl)]
            go_simp; ((refine (ref_same_n Lc Lc AS1 AS2 pS1 pS2 _ _ rfl rfl w3 HCl.out (S1.out.below HB3.out) (S2.out.below (below_same w3))).mono ?_); (rintro e w4 ⟨he, hb⟩); (rw [decide_eq_true rfl] at he); subst he; have HB4 := Lib.hid hb; clear hb; (try go_simp))
            refine hK.out _ _ (⟨heap_on HB4.out hHeld.1, range_on HB4.out hHeld.2⟩) (fun hNew => ?_)
            clear hK K hHeld; (have hHeld := hNew); clear hNew; (try simp only [Act.put, List.setIfInBounds_toArray, List.set_cons_zero, List.set_cons_succ])
            (refine takeH (i := 35) (v := ?_) rfl (by kernel_rfl) (by kernel_rfl) (by kernel_rfl) (fun _ _ _ h => h) (Or.inl ⟨by rfl, ?_⟩) (by assumption) ?_; rotate_left; (focus ((intro wS hSw); (try dsimp only at hSw); skip; go_simp; (try with_reducible rfl); done)); (try simp only [Act.put, List.setIfInBounds_toArray, List.set_cons_zero, List.set_cons_succ]))
            (refine takeH (i := 36) (v := ?_) rfl (by kernel_rfl) (by kernel_rfl) (by kernel_rfl) (fun _ _ _ h => h) (Or.inl ⟨by rfl, ?_⟩) (by assumption) ?_; rotate_left; (focus ((intro wS hSw); (try dsimp only at hSw); skip; go_simp; (try with_reducible rfl); done)); (try simp only [Act.put, List.setIfInBounds_toArray, List.set_cons_zero, List.set_cons_succ]))
            refine wpAnyH_done (by kernel_rfl) ?_ _
            have HBR := Lib.hid (below_then (below_then (below_then HB1.out HB2.out) HB3.out) HB4.out)
            clear hHeld S1 S2 HB1 HB2 HB3 HB4 HCr HCq HSd
            generalize w4 = wq at HBR ⊢
            go_wp2
            go_roundw
            case rel => exact ⟨k2 + 1, by omega, by go_num, Lib.hid (InnI.on HJd.out HBR.out)⟩
            case measure => simp [intOf]; omega
        · obtain rfl : k2 = 3 := by omega
          clear h3 hk2
          have HLn := Lib.hid (code_slen HJ.out.1.set)
          go_wp2_with (go_at_call 18; refine HLn.out.mono ?_; rintro e w6 ⟨rfl, rfl⟩)
          go_roundw
          case rel => exact ⟨k + 1, m2, V2, F2, C2, W, by omega, by go_num, Lib.hid HJ.out.1⟩
          case measure => simp [intOf]; omega
end Go.Proofs.Ytjanhgekocpobaa
