/- A head read, whatever the bytes; a batch's own head. Slices of bytes in a slice of the call's own. -/
import Derived.Test.YthgakgjhcadajaaJ15
import Derived.Test.YthgakgjhcadajaaJ8
import Derived.Test.YthgakgjhcadajaaJ9
import Derived.Test.YthgakgjhcadajaaJ3
namespace Go.Proofs.Ythgakgjhcadajaa
open Go.RowKit
set_option maxRecDepth 100000

set_option maxHeartbeats 1000000 in
theorem code_begin_short (l : Text) (A : Option Addr) (c : Nat) (w : World) (hl : l.length ≠ 64) :
    Calls Try.prog 48 #[.slice A l.length c] w fun e w' => e = .returned (beginV l) ∧ Below w.heap.size w w' := by
  have HV : Hid (beginV l = .tuple #[headV 0 0 0, .bool false]) := Lib.hid (by unfold beginV isB; rw [decide_eq_false hl]; simp)
  have HP : Hid (∀ W, Calls Try.prog 68 #[.slice A l.length c] W fun e w' => e = .returned (.bool false) ∧ W = w') := Lib.hid (fun W => by have := code_isPage A l.length c W; rwa [decide_eq_false hl] at this)
  have HBW : Hid (Below w.heap.size w (w.alloc (headO 0 0 0))) := Lib.hid (below_alloc w _)
  have HZH : Hid ((w.alloc (headO 0 0 0)).heap[w.heap.size]? = some (headO 0 0 0)) := Lib.hid (heap_alloc_new w _)
  unfold headO at HBW HZH
  clear hl
  go_enter Try.func48, Try.ntmps48
  go_wp2_with (first
    | (go_at_call 68; refine (HP.out _).mono ?_; rintro e w1 ⟨rfl, rfl⟩)
    | ((with_reducible refine wpList_store_row 96 (o := ⟨none, _, _, _, _, _⟩) ?a1 (.tmp 2) (.tmp 8) ?a2 w.heap.size ?a3 [.int .i64 0, .int .i64 0, .int .u32 0] ?a4 ?a5 ?a6 #[.int .i64 0, .int .i64 0, .int .u32 0] ?a7 96 ?a8 ?_); (case a1 => rfl); (case a2 => rfl); (case a3 => rfl); (case a4 => kernel_rfl); (case a5 => exact one3 _ _ _ _ _ _); (case a6 => rfl); (case a7 => rfl); (case a8 => exact HZH.out); (try simp only [Act.put])))
  refine bodyPost_ret (results_head headT_und (by kernel_rfl) rfl _ _ w.heap.size _ _ _ (.bool false) rfl rfl _ _ (setRow_heap _ _ _ _ _ _ HZH.out)) rfl ⟨by rw [HV.out]; rfl, ?_⟩
  exact below_setRow HBW.out (Nat.le_refl _) _
theorem code_begin (l : Text) (A : Option Addr) (c : Nat) (w : World) (hT : Txt w A l) (hc : l.length ≤ c) :
    Calls Try.prog 48 #[.slice A l.length c] w fun e w' => e = .returned (beginV l) ∧ Below w.heap.size w w' := by
  by_cases hl : l.length = 64
  · rcases Bool.eq_false_or_eq_true (headOk (seqB l) (lenB l)) with hh | hh
    · exact code_begin_yes l A c w hT hl (by omega) hh
    · exact code_begin_no l A c w hT hl (by omega) hh
  · exact code_begin_short l A c w hl

theorem high_snoc (X m : Nat) : highT X (m + 1) = highT (X / 256) m ++ [UInt8.ofNat X] := by
  unfold highT
  rw [List.range_succ, List.map_append]
  congr 1
  · apply List.map_congr_left
    intro i hi
    have hi' : i < m := List.mem_range.1 hi
    congr 1
    rw [Nat.div_div_eq_div_mul]
    congr 1
    rw [show (256 : Nat) = 2 ^ 8 by decide, ← Nat.pow_add]
    congr 1
    omega
  · simp
theorem numT_high (m : Nat) : ∀ X : Nat, numT (highT X m) = X % 256 ^ m := by
  induction m with
  | zero => intro X; simp [highT, numT, Nat.mod_one]
  | succ m ih =>
    intro X
    rw [high_snoc, numT_snoc, ih, UInt8.toNat_ofNat']
    have h1 : X % 256 ^ (m + 1) = X % 256 + 256 * (X / 256 % 256 ^ m) := by rw [Nat.pow_add_one', Nat.mod_mul]
    rw [h1]
    omega
theorem headP_eq (s n u : Nat) : headP s n u = wrapT (headB s n u) ++ List.replicate 43 0 := by
  unfold headP
  rw [overP_zeros _ (by rw [wrapT_length, headB_len]; decide), wrapT_length, headB_len]
theorem endP_eq (s u : Nat) : endP s u = wrapT (endB s u) ++ List.replicate 47 0 := by
  unfold endP
  rw [overP_zeros _ (by rw [wrapT_length, endB_len]; decide), wrapT_length, endB_len]
theorem headP_parts (s n u : Nat) : ((headP s n u).drop 5).take 8 = highT s 8 ∧ ((headP s n u).drop 13).take 4 = highT n 4 ∧ ((headP s n u).drop 17).take 4 = highT u 4 := by
  have e : headP s n u = (Crc.four (Crc.sumT (headB s n u)) ++ [72]) ++ (highT s 8 ++ (highT n 4 ++ (highT u 4 ++ List.replicate 43 0))) := by
    rw [headP_eq]
    unfold wrapT headB
    simp
  have l0 : (Crc.four (Crc.sumT (headB s n u)) ++ [72]).length = 5 := rfl
  have l1 := highT_len s 8
  have l2 := highT_len n 4
  have l3 := highT_len u 4
  generalize Crc.four (Crc.sumT (headB s n u)) ++ [72] = F at *
  rw [e]
  refine ⟨?_, ?_, ?_⟩
  · rw [List.drop_append_of_le_length (by omega), List.drop_of_length_le (by omega), List.nil_append, List.take_append_of_le_length (by omega), List.take_of_length_le (by omega)]
  · rw [← List.append_assoc F, List.drop_append_of_le_length (by rw [List.length_append]; omega), List.drop_of_length_le (by rw [List.length_append]; omega), List.nil_append, List.take_append_of_le_length (by omega), List.take_of_length_le (by omega)]
  · rw [← List.append_assoc F, ← List.append_assoc (F ++ _), List.drop_append_of_le_length (by simp only [List.length_append]; omega), List.drop_of_length_le (by simp only [List.length_append]; omega), List.nil_append, List.take_append_of_le_length (by omega), List.take_of_length_le (by omega)]
/-- a batch's own head is read as it is -/
theorem begin_headP (s n u : Nat) (h1 : 1 ≤ s) (h2 : s ≤ 4611686018427387904) (h3 : 1 ≤ n) (h4 : n ≤ 131072) (h5 : u < 4294967296) : beginV (headP s n u) = .tuple #[headV s n u, .bool true] := by
  obtain ⟨p1, p2, p3⟩ := headP_parts s n u
  have e1 : seqB (headP s n u) = s := by
    unfold seqB
    rw [p1, numT_high, Nat.mod_eq_of_lt (by omega), IntKind.wrap_i64]
    omega
  have e2 : lenB (headP s n u) = n := by unfold lenB; rw [p2, numT_high, Nat.mod_eq_of_lt (by omega)]
  have e3 : sumB (headP s n u) = u := by unfold sumB; rw [p3, numT_high, Nat.mod_eq_of_lt (by omega)]
  have hh : headOk s n = true := by
    unfold headOk seqOk needV
    rw [if_neg (by omega)]
    simp
    omega
  have hb : isB (headP s n u) = true := by
    unfold isB
    rw [e1, e2, e3, hh, headP_len]
    simp
  unfold beginV
  rw [if_pos hb, e1, e2, e3]
end Go.Proofs.Ythgakgjhcadajaa

namespace Go.Proofs.Ythgakgjhcadajaa
open Go.RowKit
set_option maxRecDepth 100000

theorem rowFact : (Try.prog.info? 51).map (fun i => (i.zero, i.size, i.bytes)) = some (some (.slice none 0 0), 1, 24) := by kernel_rfl
theorem own_on {w w' : World} {B : Nat} {e : TypeId} {v : Value} {n : Nat} {xs : List Value} (h : w.ownsRow B e 1 v n xs) (hb : Below w.heap.size w w') : w'.ownsRow B e 1 v n xs :=
  h.kept (row := none) ⟨hb.os, hb.tape, hb.output, hb.size, fun k hk _ => hb.block k hk⟩ (by
    rcases h.2 with ⟨rfl, _⟩ | ⟨g, c, cur, rfl, _⟩
    · exact .inl rfl
    · exact .inr (by simp [Value.ownBlock]))
/-- texts in a row of the call's own, each in a block that is not the row's -/
def OwnT (B : Nat) (v : Value) (L : List Text) (W : World) : Prop :=
  ∃ xs : List Value, W.ownsRow B 51 1 v L.length xs ∧ ∀ j (h : j < L.length), ∃ b c, xs[j]? = some (.slice (some ⟨b, 0, none⟩) L[j].length c) ∧ L[j].length ≤ c ∧ c ≤ maxLen ∧ W.rangeAt b 0 (L[j].map cellOf) ∧ b < W.heap.size ∧ v.ownBlock ≠ some b ∧ 0 < L[j].length
theorem OwnT.on {B : Nat} {v : Value} {L : List Text} {W W' : World} (h : OwnT B v L W) (hb : Below W.heap.size W W') : OwnT B v L W' := by
  obtain ⟨xs, h1, h2⟩ := h
  refine ⟨xs, own_on h1 hb, fun j hj => ?_⟩
  obtain ⟨b, c, e, hc, hm, hr, hl, hn⟩ := h2 j hj
  exact ⟨b, c, e, hc, hm, range_on hb hr, Nat.lt_of_lt_of_le hl hb.size, hn⟩
/-- a block turned that is neither the row's nor a text's -/
theorem OwnT.turn {B : Nat} {v : Value} {L : List Text} {W W' : World} (h : OwnT B v L W) (g : Nat) (hs : W.heap.size ≤ W'.heap.size) (hk : ∀ k, k < W.heap.size → k ≠ g → W'.heap[k]? = W.heap[k]?)
    (hv : v.ownBlock ≠ some g) (hg : ∀ j (hj : j < L.length) b c xs, W.ownsRow B 51 1 v L.length xs → xs[j]? = some (.slice (some ⟨b, 0, none⟩) L[j].length c) → W.rangeAt b 0 (L[j].map cellOf) → 0 < L[j].length → b ≠ g) : OwnT B v L W' := by
  obtain ⟨xs, h1, h2⟩ := h
  refine ⟨xs, ⟨h1.1, ?_⟩, fun j hj => ?_⟩
  · rcases h1.2 with hn | ⟨g', cap, cur, rfl, hb, hgg, rest⟩
    · exact .inl hn
    · refine .inr ⟨g', cap, cur, rfl, hb, ?_, rest⟩
      rw [hk g' (heapLt hgg) (fun e => hv (by simp [Value.ownBlock, e]))]
      exact hgg
  · obtain ⟨b, c, e, hc, hm, hr, hl, hn⟩ := h2 j hj
    exact ⟨b, c, e, hc, hm, fun i u hu => (World.cell?_of_block (hk b hl (hg j hj b c xs h1 e hr hn.2))).trans (hr i u hu), Nat.lt_of_lt_of_le hl hs, hn⟩
theorem OwnT.form {B : Nat} {v : Value} {L : List Text} {W : World} (h : OwnT B v L W) (hn : 0 < L.length) : ∃ g c, v = .slice (some ⟨g, 0, none⟩) L.length c ∧ B ≤ g ∧ g < W.heap.size ∧ L.length ≤ c := by
  obtain ⟨xs, h1, _⟩ := h
  rcases h1.2 with ⟨_, h0⟩ | ⟨g, c, cur, rfl, hB, hh, hc, _⟩
  · omega
  · exact ⟨g, c, rfl, hB, heapLt hh, hc⟩
theorem OwnT.isSlice {B : Nat} {v : Value} {L : List Text} {W : World} (h : OwnT B v L W) : ∃ A n c, v = .slice A n c := by
  obtain ⟨xs, h1, _⟩ := h
  rcases h1.2 with ⟨rfl, _⟩ | ⟨g, c, cur, rfl, _⟩
  · exact ⟨_, _, _, rfl⟩
  · exact ⟨_, _, _, rfl⟩
theorem OwnT.nil (B : Nat) (W : World) : OwnT B (.slice none 0 0) [] W := ⟨[], World.ownsRow_nil _ _ _ _, fun j hj => absurd hj (Nat.not_lt_zero j)⟩
/-- what stands there: each text's slice, and its bytes -/
theorem OwnT.at_ {B : Nat} {v : Value} {L : List Text} {W : World} {g : Nat} {n c : Nat} (h : OwnT B v L W) (hv : v = .slice (some ⟨g, 0, none⟩) n c) (j : Nat) (hj : j < L.length) :
    ∃ b c, W.cell? ⟨g, j, none⟩ = some (.slice (some ⟨b, 0, none⟩) L[j].length c) ∧ L[j].length ≤ c ∧ c ≤ maxLen ∧ W.rangeAt b 0 (L[j].map cellOf) ∧ b < W.heap.size ∧ 0 < L[j].length := by
  obtain ⟨xs, h1, h2⟩ := h
  obtain ⟨b, c', e, hc, hm, hr, hl, _, hz⟩ := h2 j hj
  refine ⟨b, c', ?_, hc, hm, hr, hl, hz⟩
  have := h1.cells (g := g) (by rw [hv]; rfl) j _ e
  rwa [Addr.add_mid, Nat.zero_add] at this
theorem OwnT.rows {B : Nat} {v : Value} {L : List Text} {W : World} {g : Nat} {n c : Nat} (h : OwnT B v L W) (hv : v = .slice (some ⟨g, 0, none⟩) n c) : TextRows W (some ⟨g, 0, none⟩) L := fun i hi => by
  obtain ⟨b, c', h1, h2, h3, h4, h5⟩ := h.at_ hv i hi
  exact ⟨_, _, c', rfl, by have := block_lt_of_cell h1; exact this, by rw [Addr.add_mid, Nat.zero_add]; exact h1, mid_txt h4, fun e => (by cases e), Nat.le_trans h2 (Nat.le_trans h3 (by unfold maxLen; omega))⟩
theorem OwnT.one {W : World} {B b c m : Nat} {T : Text} (hm : T.length = m) (hm0 : 0 < m) (hB : B ≤ W.heap.size) (hc : m ≤ c) (hcm : c ≤ maxLen) (hr : W.rangeAt b 0 (T.map cellOf)) (hb : b < W.heap.size) :
    OwnT B (.slice (some ⟨W.heap.size, 0, none⟩) 1 1) [T] (W.alloc (.cells #[.slice (some ⟨b, 0, none⟩) m c] 51)) := by
  subst hm
  refine ⟨[.slice (some ⟨b, 0, none⟩) T.length c], World.ownsRow_lit W #[.slice (some ⟨b, 0, none⟩) T.length c] 1 hB (by unfold maxLen; omega) rfl, fun j hj => ?_⟩
  obtain rfl : j = 0 := by simp at hj; exact hj
  exact ⟨b, c, rfl, hc, hcm, range_on (below_alloc _ _) hr, by simp; omega, by simp [Value.ownBlock]; omega, hm0⟩

theorem append_rows_run (w : World) (B : Nat) (v : Value) (L : List Text) (hown : OwnT B v L w) (g b c m : Nat) (T : Text) (t : TypeId) (fr : Nat × Nat) (hg : w.heap[g]? = some (.cells #[.slice (some ⟨b, 0, none⟩) m c] t fr)) (hT : T.length = m) (hm0 : 0 < m) (hc : m ≤ c) (hcm : c ≤ maxLen)
    (hr : w.rangeAt b 0 (T.map cellOf)) (hb : b < w.heap.size) (hne : v.ownBlock ≠ some b) (hL : L.length ≤ 100000) (hB : B ≤ w.heap.size) :
    ∃ v' w', (Builtin.append_ #[31, 31] 31 #[v, .slice (some ⟨g, 0, none⟩) 1 1]).run Try.prog w = .ok v' w' ∧ OwnT B v' (L ++ [T]) w' ∧ w.grownBy w' v.ownBlock ∧ (v'.ownBlock = v.ownBlock ∨ v'.ownBlock = some w.heap.size) := by
  subst hT
  obtain ⟨xs, h1, h2⟩ := hown
  obtain ⟨i0, hi, hz0, hz1, hz2⟩ := info_parts rowFact
  obtain ⟨v', w', q1, q2, q3, _, q5⟩ := run_append_own_at (P := Try.prog) w B 31 31 51 i0 (.slice none 0 0) 1 24 Try.underlying31 hi hz0 hz1 hz2 rfl (by decide) v L.length xs h1 ⟨g, 0, none⟩ 1 1 [.slice (some ⟨b, 0, none⟩) T.length c] (by simp)
    (fun j u hu => by
      have hj : j = 0 := by
        have := (List.getElem?_eq_some_iff.1 hu).1
        simp at this
        exact this
      subst hj
      rw [Addr.add_mid, Nat.zero_add, cell_of_row w g _ _ _ _ hg]
      simpa using hu) (fun u hu => by simp at hu; subst hu; rfl) (by unfold maxLen; omega) (by omega) hB
  refine ⟨v', w', q1, ⟨xs ++ [.slice (some ⟨b, 0, none⟩) T.length c], by rw [List.length_append]; exact q2, fun j hj => ?_⟩, q3, q5⟩
  have hxs : xs.length = L.length := by have := h1.1; omega
  have far : ∀ k, k < w.heap.size → v.ownBlock ≠ some k → v'.ownBlock ≠ some k := fun k hk hv e => by
    rcases q5 with q5 | q5
    · exact hv (q5.symm.trans e)
    · rw [q5] at e
      injection e with e
      omega
  by_cases hj2 : j < L.length
  · obtain ⟨b', c', e, e1, e2, e3, e4, e5, e6⟩ := h2 j hj2
    rw [List.getElem_append_left hj2]
    refine ⟨b', c', by rw [List.getElem?_append_left (by omega)]; exact e, e1, e2, fun i u hu => q3.cell (e3 i u hu) (Ne.symm e5), Nat.lt_of_lt_of_le e4 q3.size, far b' e4 e5, e6⟩
  · have hj3 : j = L.length := by rw [List.length_append] at hj; simp at hj; omega
    subst hj3
    rw [List.getElem_append_right (Nat.le_refl _)]
    simp only [Nat.sub_self, List.getElem_singleton]
    refine ⟨b, c, by rw [List.getElem?_append_right (by omega), hxs]; simp, hc, hcm, fun i u hu => q3.cell (hr i u hu) (Ne.symm hne), Nat.lt_of_lt_of_le hb q3.size, far b hb hne, hm0⟩
theorem wp_append_rows {w : World} {o : Oper} {a : Act} {K : Act → World → Prop} {Q : Exit → Act → World → Prop} (s x : Operand)
    (ho : o.op = .call { callee := .builtin .append, args := #[s, x], argTypes := #[31, 31] }) (hty : o.type = 31)
    (B : Nat) (v : Value) (L : List Text) (hs : a.eval s = v) (hown : OwnT B v L w) (g : Nat) (hx : a.eval x = .slice (some ⟨g, 0, none⟩) 1 1) (b c m : Nat) (T : Text) (t : TypeId) (fr : Nat × Nat) (hg : w.heap[g]? = some (.cells #[.slice (some ⟨b, 0, none⟩) m c] t fr)) (hT : T.length = m) (hm0 : 0 < m) (hc : m ≤ c) (hcm : c ≤ maxLen)
    (hr : w.rangeAt b 0 (T.map cellOf)) (hb : b < w.heap.size) (hne : v.ownBlock ≠ some b) (hL : L.length ≤ 100000) (hB : B ≤ w.heap.size)
    (h : ∀ v' w', OwnT B v' (L ++ [T]) w' → w.grownBy w' v.ownBlock → (v'.ownBlock = v.ownBlock ∨ v'.ownBlock = some w.heap.size) → K (a.put o.dst v') w') : o.wp Try.prog a w K Q := by
  obtain ⟨v', w', q1, q2, q3, q4⟩ := append_rows_run w B v L hown g b c m T t fr hg hT hm0 hc hcm hr hb hne hL hB
  unfold Oper.wp execOp
  simp only [ho, hty, resolve, invoke, builtin, Sem.run_bind, Sem.run_pure, Result.andThen_ok, List.map_toArray, List.map_cons, List.map_nil, hs, hx, q1]
  exact h v' w' q2 q3 q4
theorem wpList_append_rows {w : World} {ops : Array Oper} {rest : List Oper} {o : Oper} {a : Act} {Q : Exit → Act → World → Prop} (hgd : o.guard = none) (s x : Operand)
    (ho : o.op = .call { callee := .builtin .append, args := #[s, x], argTypes := #[31, 31] }) (hty : o.type = 31)
    (B : Nat) (v : Value) (L : List Text) (hs : a.eval s = v) (hown : OwnT B v L w) (g : Nat) (hx : a.eval x = .slice (some ⟨g, 0, none⟩) 1 1) (b c m : Nat) (T : Text) (t : TypeId) (fr : Nat × Nat) (hg : w.heap[g]? = some (.cells #[.slice (some ⟨b, 0, none⟩) m c] t fr)) (hT : T.length = m) (hm0 : 0 < m) (hc : m ≤ c) (hcm : c ≤ maxLen)
    (hr : w.rangeAt b 0 (T.map cellOf)) (hb : b < w.heap.size) (hne : v.ownBlock ≠ some b) (hL : L.length ≤ 100000) (hB : B ≤ w.heap.size)
    (h : ∀ v' w', OwnT B v' (L ++ [T]) w' → w.grownBy w' v.ownBlock → (v'.ownBlock = v.ownBlock ∨ v'.ownBlock = some w.heap.size) → wpList Try.prog ops Q rest (a.put o.dst v') w') : wpList Try.prog ops Q (o :: rest) a w :=
  wpList_plain hgd fun _ hK => wp_append_rows s x ho hty B v L hs hown g hx b c m T t fr hg hT hm0 hc hcm hr hb hne hL hB fun v' w' q1 q2 q3 => hK _ _ (h v' w' q1 q2 q3)
end Go.Proofs.Ythgakgjhcadajaa
