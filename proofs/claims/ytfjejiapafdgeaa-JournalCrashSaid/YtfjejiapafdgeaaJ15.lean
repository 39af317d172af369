/- A head read, whatever the bytes; a batch's own head. Slices of bytes in a slice of the call's own. A range over a function whose rounds make memory of their own: what is known may speak of what the rounds made. -/
import Derived.Test.YtfjejiapafdgeaaJ14
import Derived.Test.YtfjejiapafdgeaaJ8
import Derived.Test.YtfjejiapafdgeaaJ9
import Derived.Test.YtfjejiapafdgeaaJ5
import Derived.Test.YtfjejiapafdgeaaJ3
namespace Go.Proofs.Ytfjejiapafdgeaa
open Go.RowKit
set_option maxRecDepth 100000

set_option maxHeartbeats 1000000 in
theorem code_begin_short (l : Text) (A : Option Addr) (c : Nat) (w : World) (hl : l.length ≠ 64) :
    Calls Try.prog 48 #[.slice A l.length c] w fun e w' => e = .returned (beginV l) ∧ Below w.heap.size w w' := by
  have HV : Hid (beginV l = .tuple #[headV 0 0 0, .bool false]) := Lib.hid (by unfold beginV isB; rw [decide_eq_false hl]; simp)
  have HP : Hid (∀ W, Calls Try.prog 68 #[.slice A l.length c] W fun e w' => e = .returned (.bool false) ∧ W = w') := Lib.hid (fun W => by have := code_isPage A l.length c W; rwa [decide_eq_false hl] at this)
  have HBW : Hid (Below w.heap.size w (w.alloc (headO 0 0 0))) := Lib.hid (below_alloc w _)
  have HZH : Hid ((w.alloc (headO 0 0 0)).heap[w.heap.size]? = some (headO 0 0 0)) := Lib.hid (heap_alloc_new w _)
  unfold headO at HBW HZH
  clear hl
  go_enter Try.func48, Try.ntmps48
  go_wp2_with (first
    | (go_at_call 68; refine (HP.out _).mono ?_; rintro e w1 ⟨rfl, rfl⟩)
    | ((with_reducible refine wpList_store_row 96 (o := ⟨none, _, _, _, _, _⟩) ?a1 (.tmp 2) (.tmp 8) ?a2 w.heap.size ?a3 [.int .i64 0, .int .i64 0, .int .u32 0] ?a4 ?a5 ?a6 #[.int .i64 0, .int .i64 0, .int .u32 0] ?a7 96 ?a8 ?_); (case a1 => rfl); (case a2 => rfl); (case a3 => rfl); (case a4 => kernel_rfl); (case a5 => exact one3 _ _ _ _ _ _); (case a6 => rfl); (case a7 => rfl); (case a8 => exact HZH.out); (try simp only [Act.put])))
  refine bodyPost_ret (results_head headT_und (by kernel_rfl) rfl _ _ w.heap.size _ _ _ (.bool false) rfl rfl _ _ (setRow_heap _ _ _ _ _ _ HZH.out)) rfl ⟨by rw [HV.out]; rfl, ?_⟩
  exact below_setRow HBW.out (Nat.le_refl _) _
theorem code_begin (l : Text) (A : Option Addr) (c : Nat) (w : World) (hT : Txt w A l) (hc : l.length ≤ c) :
    Calls Try.prog 48 #[.slice A l.length c] w fun e w' => e = .returned (beginV l) ∧ Below w.heap.size w w' := by
  by_cases hl : l.length = 64
  · rcases Bool.eq_false_or_eq_true (headOk (seqB l) (lenB l)) with hh | hh
    · exact code_begin_yes l A c w hT hl (by omega) hh
    · exact code_begin_no l A c w hT hl (by omega) hh
  · exact code_begin_short l A c w hl

theorem high_snoc (X m : Nat) : highT X (m + 1) = highT (X / 256) m ++ [UInt8.ofNat X] := by
  unfold highT
  rw [List.range_succ, List.map_append]
  congr 1
  · apply List.map_congr_left
    intro i hi
    have hi' : i < m := List.mem_range.1 hi
    congr 1
    rw [Nat.div_div_eq_div_mul]
    congr 1
    rw [show (256 : Nat) = 2 ^ 8 by decide, ← Nat.pow_add]
    congr 1
    omega
  · simp
theorem numT_high (m : Nat) : ∀ X : Nat, numT (highT X m) = X % 256 ^ m := by
  induction m with
  | zero => intro X; simp [highT, numT, Nat.mod_one]
  | succ m ih =>
    intro X
    rw [high_snoc, numT_snoc, ih, UInt8.toNat_ofNat']
    have h1 : X % 256 ^ (m + 1) = X % 256 + 256 * (X / 256 % 256 ^ m) := by rw [Nat.pow_add_one', Nat.mod_mul]
    rw [h1]
    omega
theorem headP_eq (s n u : Nat) : headP s n u = wrapT (headB s n u) ++ List.replicate 43 0 := by
  unfold headP
  rw [overP_zeros _ (by rw [wrapT_length, headB_len]; decide), wrapT_length, headB_len]
theorem endP_eq (s u : Nat) : endP s u = wrapT (endB s u) ++ List.replicate 47 0 := by
  unfold endP
  rw [overP_zeros _ (by rw [wrapT_length, endB_len]; decide), wrapT_length, endB_len]
theorem headP_parts (s n u : Nat) : ((headP s n u).drop 5).take 8 = highT s 8 ∧ ((headP s n u).drop 13).take 4 = highT n 4 ∧ ((headP s n u).drop 17).take 4 = highT u 4 := by
  have e : headP s n u = (Crc.four (Crc.sumT (headB s n u)) ++ [72]) ++ (highT s 8 ++ (highT n 4 ++ (highT u 4 ++ List.replicate 43 0))) := by
    rw [headP_eq]
    unfold wrapT headB
    simp
  have l0 : (Crc.four (Crc.sumT (headB s n u)) ++ [72]).length = 5 := rfl
  have l1 := highT_len s 8
  have l2 := highT_len n 4
  have l3 := highT_len u 4
  generalize Crc.four (Crc.sumT (headB s n u)) ++ [72] = F at *
  rw [e]
  refine ⟨?_, ?_, ?_⟩
  · rw [List.drop_append_of_le_length (by omega), List.drop_of_length_le (by omega), List.nil_append, List.take_append_of_le_length (by omega), List.take_of_length_le (by omega)]
  · rw [← List.append_assoc F, List.drop_append_of_le_length (by rw [List.length_append]; omega), List.drop_of_length_le (by rw [List.length_append]; omega), List.nil_append, List.take_append_of_le_length (by omega), List.take_of_length_le (by omega)]
  · rw [← List.append_assoc F, ← List.append_assoc (F ++ _), List.drop_append_of_le_length (by simp only [List.length_append]; omega), List.drop_of_length_le (by simp only [List.length_append]; omega), List.nil_append, List.take_append_of_le_length (by omega), List.take_of_length_le (by omega)]
/-- a batch's own head is read as it is -/
theorem begin_headP (s n u : Nat) (h1 : 1 ≤ s) (h2 : s ≤ 4611686018427387904) (h3 : 1 ≤ n) (h4 : n ≤ 131072) (h5 : u < 4294967296) : beginV (headP s n u) = .tuple #[headV s n u, .bool true] := by
  obtain ⟨p1, p2, p3⟩ := headP_parts s n u
  have e1 : seqB (headP s n u) = s := by
    unfold seqB
    rw [p1, numT_high, Nat.mod_eq_of_lt (by omega), IntKind.wrap_i64]
    omega
  have e2 : lenB (headP s n u) = n := by unfold lenB; rw [p2, numT_high, Nat.mod_eq_of_lt (by omega)]
  have e3 : sumB (headP s n u) = u := by unfold sumB; rw [p3, numT_high, Nat.mod_eq_of_lt (by omega)]
  have hh : headOk s n = true := by
    unfold headOk seqOk needV
    rw [if_neg (by omega)]
    simp
    omega
  have hb : isB (headP s n u) = true := by
    unfold isB
    rw [e1, e2, e3, hh, headP_len]
    simp
  unfold beginV
  rw [if_pos hb, e1, e2, e3]
end Go.Proofs.Ytfjejiapafdgeaa

namespace Go.Proofs.Ytfjejiapafdgeaa
open Go.RowKit
set_option maxRecDepth 100000

theorem rowFact : (Try.prog.info? 51).map (fun i => (i.zero, i.size, i.bytes)) = some (some (.slice none 0 0), 1, 24) := by kernel_rfl
theorem own_on {w w' : World} {B : Nat} {e : TypeId} {v : Value} {n : Nat} {xs : List Value} (h : w.ownsRow B e 1 v n xs) (hb : Below w.heap.size w w') : w'.ownsRow B e 1 v n xs :=
  h.kept (row := none) ⟨hb.os, hb.tape, hb.output, hb.size, fun k hk _ => hb.block k hk⟩ (by
    rcases h.2 with ⟨rfl, _⟩ | ⟨g, c, cur, rfl, _⟩
    · exact .inl rfl
    · exact .inr (by simp [Value.ownBlock]))
/-- texts in a row of the call's own, each in a block that is not the row's -/
def OwnT (B : Nat) (v : Value) (L : List Text) (W : World) : Prop :=
  ∃ xs : List Value, W.ownsRow B 51 1 v L.length xs ∧ ∀ j (h : j < L.length), ∃ b c, xs[j]? = some (.slice (some ⟨b, 0, none⟩) L[j].length c) ∧ L[j].length ≤ c ∧ c ≤ maxLen ∧ W.rangeAt b 0 (L[j].map cellOf) ∧ b < W.heap.size ∧ v.ownBlock ≠ some b ∧ 0 < L[j].length
theorem OwnT.on {B : Nat} {v : Value} {L : List Text} {W W' : World} (h : OwnT B v L W) (hb : Below W.heap.size W W') : OwnT B v L W' := by
  obtain ⟨xs, h1, h2⟩ := h
  refine ⟨xs, own_on h1 hb, fun j hj => ?_⟩
  obtain ⟨b, c, e, hc, hm, hr, hl, hn⟩ := h2 j hj
  exact ⟨b, c, e, hc, hm, range_on hb hr, Nat.lt_of_lt_of_le hl hb.size, hn⟩
/-- a block turned that is neither the row's nor a text's -/
theorem OwnT.turn {B : Nat} {v : Value} {L : List Text} {W W' : World} (h : OwnT B v L W) (g : Nat) (hs : W.heap.size ≤ W'.heap.size) (hk : ∀ k, k < W.heap.size → k ≠ g → W'.heap[k]? = W.heap[k]?)
    (hv : v.ownBlock ≠ some g) (hg : ∀ j (hj : j < L.length) b c xs, W.ownsRow B 51 1 v L.length xs → xs[j]? = some (.slice (some ⟨b, 0, none⟩) L[j].length c) → W.rangeAt b 0 (L[j].map cellOf) → 0 < L[j].length → b ≠ g) : OwnT B v L W' := by
  obtain ⟨xs, h1, h2⟩ := h
  refine ⟨xs, ⟨h1.1, ?_⟩, fun j hj => ?_⟩
  · rcases h1.2 with hn | ⟨g', cap, cur, rfl, hb, hgg, rest⟩
    · exact .inl hn
    · refine .inr ⟨g', cap, cur, rfl, hb, ?_, rest⟩
      rw [hk g' (heapLt hgg) (fun e => hv (by simp [Value.ownBlock, e]))]
      exact hgg
  · obtain ⟨b, c, e, hc, hm, hr, hl, hn⟩ := h2 j hj
    exact ⟨b, c, e, hc, hm, fun i u hu => (World.cell?_of_block (hk b hl (hg j hj b c xs h1 e hr hn.2))).trans (hr i u hu), Nat.lt_of_lt_of_le hl hs, hn⟩
theorem OwnT.form {B : Nat} {v : Value} {L : List Text} {W : World} (h : OwnT B v L W) (hn : 0 < L.length) : ∃ g c, v = .slice (some ⟨g, 0, none⟩) L.length c ∧ B ≤ g ∧ g < W.heap.size ∧ L.length ≤ c := by
  obtain ⟨xs, h1, _⟩ := h
  rcases h1.2 with ⟨_, h0⟩ | ⟨g, c, cur, rfl, hB, hh, hc, _⟩
  · omega
  · exact ⟨g, c, rfl, hB, heapLt hh, hc⟩
theorem OwnT.isSlice {B : Nat} {v : Value} {L : List Text} {W : World} (h : OwnT B v L W) : ∃ A n c, v = .slice A n c := by
  obtain ⟨xs, h1, _⟩ := h
  rcases h1.2 with ⟨rfl, _⟩ | ⟨g, c, cur, rfl, _⟩
  · exact ⟨_, _, _, rfl⟩
  · exact ⟨_, _, _, rfl⟩
theorem OwnT.nil (B : Nat) (W : World) : OwnT B (.slice none 0 0) [] W := ⟨[], World.ownsRow_nil _ _ _ _, fun j hj => absurd hj (Nat.not_lt_zero j)⟩
/-- what stands there: each text's slice, and its bytes -/
theorem OwnT.at_ {B : Nat} {v : Value} {L : List Text} {W : World} {g : Nat} {n c : Nat} (h : OwnT B v L W) (hv : v = .slice (some ⟨g, 0, none⟩) n c) (j : Nat) (hj : j < L.length) :
    ∃ b c, W.cell? ⟨g, j, none⟩ = some (.slice (some ⟨b, 0, none⟩) L[j].length c) ∧ L[j].length ≤ c ∧ c ≤ maxLen ∧ W.rangeAt b 0 (L[j].map cellOf) ∧ b < W.heap.size ∧ 0 < L[j].length := by
  obtain ⟨xs, h1, h2⟩ := h
  obtain ⟨b, c', e, hc, hm, hr, hl, _, hz⟩ := h2 j hj
  refine ⟨b, c', ?_, hc, hm, hr, hl, hz⟩
  have := h1.cells (g := g) (by rw [hv]; rfl) j _ e
  rwa [Addr.add_mid, Nat.zero_add] at this
theorem OwnT.rows {B : Nat} {v : Value} {L : List Text} {W : World} {g : Nat} {n c : Nat} (h : OwnT B v L W) (hv : v = .slice (some ⟨g, 0, none⟩) n c) : TextRows W (some ⟨g, 0, none⟩) L := fun i hi => by
  obtain ⟨b, c', h1, h2, h3, h4, h5⟩ := h.at_ hv i hi
  exact ⟨_, _, c', rfl, by have := block_lt_of_cell h1; exact this, by rw [Addr.add_mid, Nat.zero_add]; exact h1, mid_txt h4, fun e => (by cases e), Nat.le_trans h2 (Nat.le_trans h3 (by unfold maxLen; omega))⟩
theorem OwnT.one {W : World} {B b c m : Nat} {T : Text} (hm : T.length = m) (hm0 : 0 < m) (hB : B ≤ W.heap.size) (hc : m ≤ c) (hcm : c ≤ maxLen) (hr : W.rangeAt b 0 (T.map cellOf)) (hb : b < W.heap.size) :
    OwnT B (.slice (some ⟨W.heap.size, 0, none⟩) 1 1) [T] (W.alloc (.cells #[.slice (some ⟨b, 0, none⟩) m c] 51)) := by
  subst hm
  refine ⟨[.slice (some ⟨b, 0, none⟩) T.length c], World.ownsRow_lit W #[.slice (some ⟨b, 0, none⟩) T.length c] 1 hB (by unfold maxLen; omega) rfl, fun j hj => ?_⟩
  obtain rfl : j = 0 := by simp at hj; exact hj
  exact ⟨b, c, rfl, hc, hcm, range_on (below_alloc _ _) hr, by simp; omega, by simp [Value.ownBlock]; omega, hm0⟩

theorem append_rows_run (w : World) (B : Nat) (v : Value) (L : List Text) (hown : OwnT B v L w) (g b c m : Nat) (T : Text) (t : TypeId) (fr : Nat × Nat) (hg : w.heap[g]? = some (.cells #[.slice (some ⟨b, 0, none⟩) m c] t fr)) (hT : T.length = m) (hm0 : 0 < m) (hc : m ≤ c) (hcm : c ≤ maxLen)
    (hr : w.rangeAt b 0 (T.map cellOf)) (hb : b < w.heap.size) (hne : v.ownBlock ≠ some b) (hL : L.length ≤ 100000) (hB : B ≤ w.heap.size) :
    ∃ v' w', (Builtin.append_ #[31, 31] 31 #[v, .slice (some ⟨g, 0, none⟩) 1 1]).run Try.prog w = .ok v' w' ∧ OwnT B v' (L ++ [T]) w' ∧ w.grownBy w' v.ownBlock ∧ (v'.ownBlock = v.ownBlock ∨ v'.ownBlock = some w.heap.size) := by
  subst hT
  obtain ⟨xs, h1, h2⟩ := hown
  obtain ⟨i0, hi, hz0, hz1, hz2⟩ := info_parts rowFact
  obtain ⟨v', w', q1, q2, q3, _, q5⟩ := run_append_own_at (P := Try.prog) w B 31 31 51 i0 (.slice none 0 0) 1 24 Try.underlying31 hi hz0 hz1 hz2 rfl (by decide) v L.length xs h1 ⟨g, 0, none⟩ 1 1 [.slice (some ⟨b, 0, none⟩) T.length c] (by simp)
    (fun j u hu => by
      have hj : j = 0 := by
        have := (List.getElem?_eq_some_iff.1 hu).1
        simp at this
        exact this
      subst hj
      rw [Addr.add_mid, Nat.zero_add, cell_of_row w g _ _ _ _ hg]
      simpa using hu) (fun u hu => by simp at hu; subst hu; rfl) (by unfold maxLen; omega) (by omega) hB
  refine ⟨v', w', q1, ⟨xs ++ [.slice (some ⟨b, 0, none⟩) T.length c], by rw [List.length_append]; exact q2, fun j hj => ?_⟩, q3, q5⟩
  have hxs : xs.length = L.length := by have := h1.1; omega
  have far : ∀ k, k < w.heap.size → v.ownBlock ≠ some k → v'.ownBlock ≠ some k := fun k hk hv e => by
    rcases q5 with q5 | q5
    · exact hv (q5.symm.trans e)
    · rw [q5] at e
      injection e with e
      omega
  by_cases hj2 : j < L.length
  · obtain ⟨b', c', e, e1, e2, e3, e4, e5, e6⟩ := h2 j hj2
    rw [List.getElem_append_left hj2]
    refine ⟨b', c', by rw [List.getElem?_append_left (by omega)]; exact e, e1, e2, fun i u hu => q3.cell (e3 i u hu) (Ne.symm e5), Nat.lt_of_lt_of_le e4 q3.size, far b' e4 e5, e6⟩
  · have hj3 : j = L.length := by rw [List.length_append] at hj; simp at hj; omega
    subst hj3
    rw [List.getElem_append_right (Nat.le_refl _)]
    simp only [Nat.sub_self, List.getElem_singleton]
    refine ⟨b, c, by rw [List.getElem?_append_right (by omega), hxs]; simp, hc, hcm, fun i u hu => q3.cell (hr i u hu) (Ne.symm hne), Nat.lt_of_lt_of_le hb q3.size, far b hb hne, hm0⟩
theorem wp_append_rows {w : World} {o : Oper} {a : Act} {K : Act → World → Prop} {Q : Exit → Act → World → Prop} (s x : Operand)
    (ho : o.op = .call { callee := .builtin .append, args := #[s, x], argTypes := #[31, 31] }) (hty : o.type = 31)
    (B : Nat) (v : Value) (L : List Text) (hs : a.eval s = v) (hown : OwnT B v L w) (g : Nat) (hx : a.eval x = .slice (some ⟨g, 0, none⟩) 1 1) (b c m : Nat) (T : Text) (t : TypeId) (fr : Nat × Nat) (hg : w.heap[g]? = some (.cells #[.slice (some ⟨b, 0, none⟩) m c] t fr)) (hT : T.length = m) (hm0 : 0 < m) (hc : m ≤ c) (hcm : c ≤ maxLen)
    (hr : w.rangeAt b 0 (T.map cellOf)) (hb : b < w.heap.size) (hne : v.ownBlock ≠ some b) (hL : L.length ≤ 100000) (hB : B ≤ w.heap.size)
    (h : ∀ v' w', OwnT B v' (L ++ [T]) w' → w.grownBy w' v.ownBlock → (v'.ownBlock = v.ownBlock ∨ v'.ownBlock = some w.heap.size) → K (a.put o.dst v') w') : o.wp Try.prog a w K Q := by
  obtain ⟨v', w', q1, q2, q3, q4⟩ := append_rows_run w B v L hown g b c m T t fr hg hT hm0 hc hcm hr hb hne hL hB
  unfold Oper.wp execOp
  simp only [ho, hty, resolve, invoke, builtin, Sem.run_bind, Sem.run_pure, Result.andThen_ok, List.map_toArray, List.map_cons, List.map_nil, hs, hx, q1]
  exact h v' w' q2 q3 q4
theorem wpList_append_rows {w : World} {ops : Array Oper} {rest : List Oper} {o : Oper} {a : Act} {Q : Exit → Act → World → Prop} (hgd : o.guard = none) (s x : Operand)
    (ho : o.op = .call { callee := .builtin .append, args := #[s, x], argTypes := #[31, 31] }) (hty : o.type = 31)
    (B : Nat) (v : Value) (L : List Text) (hs : a.eval s = v) (hown : OwnT B v L w) (g : Nat) (hx : a.eval x = .slice (some ⟨g, 0, none⟩) 1 1) (b c m : Nat) (T : Text) (t : TypeId) (fr : Nat × Nat) (hg : w.heap[g]? = some (.cells #[.slice (some ⟨b, 0, none⟩) m c] t fr)) (hT : T.length = m) (hm0 : 0 < m) (hc : m ≤ c) (hcm : c ≤ maxLen)
    (hr : w.rangeAt b 0 (T.map cellOf)) (hb : b < w.heap.size) (hne : v.ownBlock ≠ some b) (hL : L.length ≤ 100000) (hB : B ≤ w.heap.size)
    (h : ∀ v' w', OwnT B v' (L ++ [T]) w' → w.grownBy w' v.ownBlock → (v'.ownBlock = v.ownBlock ∨ v'.ownBlock = some w.heap.size) → wpList Try.prog ops Q rest (a.put o.dst v') w') : wpList Try.prog ops Q (o :: rest) a w :=
  wpList_plain hgd fun _ hK => wp_append_rows s x ho hty B v L hs hown g hx b c m T t fr hg hT hm0 hc hcm hr hb hne hL hB fun v' w' q1 q2 q3 => hK _ _ (h v' w' q1 q2 q3)
end Go.Proofs.Ytfjejiapafdgeaa

namespace Go.Proofs.Ytfjejiapafdgeaa
open Go.RowKit
set_option maxRecDepth 100000

section
variable {α : Type} {P : Program}
theorem wp_rangeTold2 {g : Operand} {ps : Array Tmp} {assign body : Code} {Q : Exit → Act → World → Prop} {a : Act} {w : World} {gf : Nat} {lb : Array Value}
    (hg : a.eval g = .func (.func gf) #[] lb) (eg : ∀ args w, (callFunc gf args).run P w = .ok (.enter gf args) w) {encs : α → Array Value} {Fx : List α → α → World → Prop} {Kp : World → World → Prop} {S Sp : List α → Prop}
    (hseq : SeqTold P gf lb encs Fx Kp S Sp w) (hKt : ∀ {A B C : World}, Kp A B → Kp B C → Kp A C) (hKb : ∀ A B, Below w.heap.size A B → Kp A B)
    (hps : ∀ x, (encs x).size = ps.size)
    (I : List α → World → Prop) (Ix : Code → List α → World → Prop) (hI : ∀ pre A B, I pre A → Below A.heap.size A B → I pre B) (hIx : ∀ c pre A B, Ix c pre A → Below A.heap.size A B → Ix c pre B)
    (hP : ∀ pre A l r o, w.heap.size < l → I pre A → A.heap[l]? = some (.loop r) → I pre (A.putObj l o)) (hPx : ∀ c pre A l r o, w.heap.size < l → Ix c pre A → A.heap[l]? = some (.loop r) → Ix c pre (A.putObj l o)) (h0 : I [] w)
    (hround : ∀ (l : Nat) (r : Loop) (pre : List α) (x : α) (W : World), w.heap.size < l → W.heap[l]? = some (.loop r) → I pre W → Fx pre x W →
      assign.wpIn (Fence.wide.inRound l) 1 P (Exit.then (fun a₁ w₁ => Below W.heap.size W w₁ ∧ ∀ Wb, Beg l w₁ Wb → body.wpIn (Fence.wide.inRound l) 1 P (roundP Kp I Ix (pre ++ [x]) Wb) a₁ Wb) (fun _ _ _ => False))
        { tmps := (ps.zip (encs x)).foldl (fun t (p, v) => t.setIfInBounds p v) a.tmps, defers := [] } W)
    (hdone : ∀ (D : Nat) (xs : List α) (W : World), w.heap.size ≤ D → S xs → I xs W → W.heap[D]? = some (.deferred (some [])) → Q .normal { a with defers := { target := .collected D, args := #[] } :: a.defers } W)
    (hstop : ∀ (D : Nat) (c : Code) (pre : List α) (W : World), w.heap.size ≤ D → Sp pre → Ix c pre W → W.heap[D]? = some (.deferred (some [])) → c.wp P Q { a with defers := { target := .collected D, args := #[] } :: a.defers } W) :
    (Code.rangeFunc g ps assign body).wp P Q a w := by
  refine (wpIn_wide (n := 1)).1 (wpIn_rangeFunc fun fn hfn => ?_)
  -- the loop's record, in whatever state; the two blocks that are laid
  let rc : LoopState → Option Code → Loop := fun st pe => { state := st, pending := pe, fn := fn, tmps := a.tmps, params := ps, assign := assign, body := body, defers := w.heap.size }
  let L := w.heap.size + 1
  let W1 := (w.alloc (.deferred (some []))).alloc (.loop (rc .ready none))
  let At : LoopState → Option Code → World → Prop := fun st pe W => W.heap[L]? = some (.loop (rc st pe)) ∧ W.heap[w.heap.size]? = some (.deferred (some []))
  have hLlt : ∀ {st pe W}, At st pe W → L < W.heap.size := fun h => (Array.getElem?_eq_some_iff.1 h.1).1
  have atBelow : ∀ {st pe A B}, At st pe A → Below A.heap.size A B → At st pe B := fun h hb => ⟨(hb.block _ (hLlt h)).trans h.1, (hb.block _ (by have := hLlt h; omega)).trans h.2⟩
  have atPut : ∀ {st pe W} (st' pe'), At st pe W → At st' pe' (W.putObj L (.loop (rc st' pe'))) := fun st' pe' h => ⟨World.putObj_heap_same (hLlt h), (World.putObj_heap_other (by omega)).trans h.2⟩
  have hb1 : Below w.heap.size w W1 := ((Below.refl _ w).alloc (Nat.le_refl _) _).alloc (by simp) _
  have hA1 : At .ready none W1 := by
    refine ⟨?_, (Below.heap_alloc _ _ _ (by simp)).trans (World.alloc_heap_new w _)⟩
    have := World.alloc_heap_new (w.alloc (.deferred (some []))) (.loop (rc .ready none))
    rwa [World.size_alloc] at this
  refine ⟨L, [{ target := .collected w.heap.size, args := #[] }], W1, { target := .fn (.func gf) lb, args := #[.func (.yield L) #[] #[]] }, W1, gf, #[.func (.yield L) #[] #[]] ++ lb, W1, run_enterLoop_outer _ _ _ _ _, ?_, fun _ _ => trivial, ?_, fun h => (by simp [Fence.wide] at h), callsIn_wide.2 ?_⟩
  · simp only [resolve, hg]
    simp [go_sem]
  · simp [invoke, go_sem, eg]
  have hsz : w.heap.size ≤ W1.heap.size := hb1.size
  refine (hseq L (fun pre W => I pre W ∧ At .ready none W ∧ w.heap.size ≤ W.heap.size) (fun pre W => ∃ c, Ix c pre W ∧ At .done (some c) W ∧ w.heap.size ≤ W.heap.size) W1 hb1
    (fun pre A B h hb => ⟨hI _ _ _ h.1 hb, atBelow h.2.1 hb, Nat.le_trans h.2.2 hb.size⟩)
    (fun pre A B ⟨c, h1, h2, h3⟩ hb => ⟨c, hIx _ _ _ _ h1 hb, atBelow h2 hb, Nat.le_trans h3 hb.size⟩) ?round ⟨hI _ _ _ h0 hb1, hA1, hsz⟩).mono ?behind
  case behind =>
    rintro e B ⟨⟨v, rfl⟩, ⟨xs, hS, hi, hA, _⟩ | ⟨pre, hSp, c, hi, hA, _⟩⟩
    · exact ⟨none, _, run_endLoop hA.1 (by simp [rc]), hdone _ xs _ (Nat.le_refl _) hS (hP _ _ _ _ _ (Nat.lt_succ_self _) hi hA.1) ((World.putObj_heap_other (by omega)).trans hA.2)⟩
    · exact ⟨some c, _, run_endLoop hA.1 (by simp [rc]), wpIn_wide.2 (hstop _ c pre _ (Nat.le_refl _) hSp (hPx _ _ _ _ _ _ (Nat.lt_succ_self _) hi hA.1) ((World.putObj_heap_other (by omega)).trans hA.2))⟩
  case round =>
    rintro pre x A ⟨hi, hA, hs⟩ hx
    refine ⟨fn, _, assign, body, run_yield hA.1 (hps x), roundIn_of_wpIn hfn (wpIn_mono (hround L _ pre x A (by omega) hA.1 hi hx) ?_)⟩
    intro ex0 a1 w1 hq
    cases ex0 with
    | exit id => exact hq
    | goto t => exact hq
    | ret => exact hq
    | panic ch => exact hq
    | outgrown => exact hq
    | normal =>
    obtain ⟨hw1, hbod⟩ := hq
    have hA1 : At .ready none w1 := atBelow hA hw1
    have hs1 : w.heap.size ≤ w1.heap.size := Nat.le_trans hs hw1.size
    refine ⟨_, run_beginRound hA1.1 rfl, ?_⟩
    have hA2 : At .busy none (w1.putObj L (.loop (rc .busy none))) := atPut _ _ hA1
    have hbl : Below w.heap.size A (w1.putObj L (.loop (rc .busy none))) := (hw1.mono hs).trans (put_below _ _ (by omega))
    refine wpIn_mono (hbod _ (beg_put _ _ _)) ?_
    intro ex a3 B hp
    have hend : ∀ (j : Option Code), KeepsOthers (w1.putObj L (.loop (rc .busy none))) B → (Instr.endRound L j).run P B = .ok (.bool j.isNone) (B.putObj L (.loop (rc (if j.isNone then .ready else .done) j))) ∧
        At (if j.isNone then .ready else .done) j (B.putObj L (.loop (rc (if j.isNone then .ready else .done) j))) ∧ B.heap[L]? = some (.loop (rc .busy none)) ∧ Below w.heap.size B (B.putObj L (.loop (rc (if j.isNone then .ready else .done) j))) ∧ w.heap.size ≤ (B.putObj L (.loop (rc (if j.isNone then .ready else .done) j))).heap.size := fun j hk => by
      have hB : At .busy none B := ⟨hk.same _ _ hA2.1 rfl, hk.same _ _ hA2.2 rfl⟩
      have := hLlt hB
      exact ⟨run_endRound j hB.1, atPut _ _ hB, hB.1, put_below _ _ (by omega), by simp; omega⟩
    have goOn : ∀ (c : Code), KeepsOthers (w1.putObj L (.loop (rc .busy none))) B → Ix c (pre ++ [x]) B → ∃ v B', (Instr.endRound L (some c)).run P B = .ok v B' ∧
        ((Ending.returned v = .returned (.bool true) ∧ (I (pre ++ [x]) B' ∧ At .ready none B' ∧ w.heap.size ≤ B'.heap.size) ∧ Kp A B') ∨ (Ending.returned v = .returned (.bool false) ∧ ∃ c, Ix c (pre ++ [x]) B' ∧ At .done (some c) B' ∧ w.heap.size ≤ B'.heap.size)) := fun c hk hc => by
      obtain ⟨h1, h2, hr, h3, h4⟩ := hend (some c) hk
      exact ⟨_, _, h1, .inr ⟨rfl, c, hPx _ _ _ _ _ _ (Nat.lt_succ_self _) hc hr, h2, h4⟩⟩
    cases ex with
    | normal =>
      obtain ⟨hk, hkp, hi2⟩ := hp
      obtain ⟨h1, h2, hr, h3, h4⟩ := hend none hk
      exact ⟨_, _, h1, .inl ⟨rfl, ⟨hP _ _ _ _ _ (Nat.lt_succ_self _) hi2 hr, h2, h4⟩, hKt (hKb _ _ hbl) (hKt hkp (hKb _ _ h3))⟩⟩
    | ret => exact goOn _ hp.1 hp.2
    | exit id => exact goOn _ hp.1 hp.2
    | goto t => exact goOn _ hp.1 hp.2
    | panic ch => exact hp.elim
    | outgrown => exact hp.elim
end
end Go.Proofs.Ytfjejiapafdgeaa
