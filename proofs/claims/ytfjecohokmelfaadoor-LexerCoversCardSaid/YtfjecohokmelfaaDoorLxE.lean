/- Digits read as a number; a token in a box. -/
import Derived.Test.YtfjecohokmelfaaDoorLxD
import Derived.Test.YtfjecohokmelfaaDoorLxShelf
import Derived.Laws.CopyOwn
import Derived.Lib.AtoiErrMem
namespace Go.Proofs.YtfjecohokmelfaaDoor
open Go.RowKit
set_option maxRecDepth 100000
set_option linter.unusedSimpArgs false
set_option linter.unusedVariables false

theorem wp_store_row {w : World} {o : Oper} {a : Act} {K : Act → World → Prop} {Q : Exit → Act → World → Prop} (T : TypeId) (x y : Operand) (ho : o.op = .store T x y) (g : Nat) (hx : a.eval x = .pointer (some ⟨g, 0, none⟩)) (vs : List Value)
    (hsz : (Tryd.prog.info? T).map (·.size) = some vs.length) (h1 : ∀ v ∈ vs, v.oneCell' = true) (hy : a.eval y = .agg vs.toArray) (cur : Array Value) (hc : cur.size = vs.length) (t : TypeId) (hg : w.heap[g]? = some (.cells cur t (0, 0)))
    (h : K (a.put o.dst undef) (w.setRow g vs.toArray)) : o.wp Tryd.prog a w K Q := by
  have hst := run_storeCells_at Tryd.prog g 0 t vs 0 cur w hg (by omega) h1
  have e : (cur.toList.take (0 + 0) ++ vs ++ cur.toList.drop (0 + 0 + vs.length)) = vs := by
    rw [List.drop_eq_nil_of_le (by simp [hc])]; simp
  rw [e] at hst
  have hs : (sizeOf T).run Tryd.prog w = .ok vs.length w := by
    cases hq : Tryd.prog.info? T with
    | none => simp [hq] at hsz
    | some i =>
      have hz : i.size = vs.length := by simpa [hq] using hsz
      simp [sizeOf, typeInfo, hq, hz]
  unfold Oper.wp execOp
  simp only [ho, hx, hy, Instr.storeAt, Instr.sureAddr, Sem.run_bind, Sem.run_pure, Result.andThen_ok, storeVar, Value.cells, hs, List.size_toArray, ne_eq, not_true_eq_false, if_false, hst]
  exact h
theorem wpList_store_row {w : World} {ops : Array Oper} {rest : List Oper} {o : Oper} {a : Act} {Q : Exit → Act → World → Prop} (T : TypeId) (hgd : o.guard = none) (x y : Operand) (ho : o.op = .store T x y) (g : Nat) (hx : a.eval x = .pointer (some ⟨g, 0, none⟩)) (vs : List Value)
    (hsz : (Tryd.prog.info? T).map (·.size) = some vs.length) (h1 : ∀ v ∈ vs, v.oneCell' = true) (hy : a.eval y = .agg vs.toArray) (cur : Array Value) (hc : cur.size = vs.length) (t : TypeId) (hg : w.heap[g]? = some (.cells cur t (0, 0)))
    (h : wpList Tryd.prog ops Q rest (a.put o.dst undef) (w.setRow g vs.toArray)) : wpList Tryd.prog ops Q (o :: rest) a w :=
  wpList_plain hgd fun _ hK => wp_store_row T x y ho g hx vs hsz h1 hy cur hc t hg (hK _ _ h)
theorem oneTok (x y z : Int) (s : ByteArray) : ∀ v ∈ [Value.int .i64 x, .int .i64 y, .string s, .int .i64 z], v.oneCell' = true := by
  intro v hv
  simp only [List.mem_cons, List.not_mem_nil, or_false] at hv
  rcases hv with rfl | rfl | rfl | rfl <;> rfl
/-- a token lies where a call's first answer is kept -/
theorem results_tok {T : TypeId} (hu : ∃ fs, Tryd.prog.underlying T = some (.struct fs)) (hi : (Tryd.prog.info? T).map (·.size) = some 4) {fn : Func} {p q : Tmp} (h : fn.results = #[.cell p T, .tmp q]) (tmps : Array Value) (W : World) (g : Nat) (x y z k : Value) (b : Value) (hp : tmps.getD p undef = .pointer (some ⟨g, 0, none⟩)) (hq : tmps.getD q undef = b) (t : TypeId) (fr : Nat × Nat)
    (hc : W.heap[g]? = some (.cells #[x, y, z, k] t fr)) : (results fn tmps).run Tryd.prog W = .ok (.tuple #[.agg #[x, y, z, k], b]) W := by
  obtain ⟨fs, hu⟩ := hu
  have hr := run_loadVar_mid (P := Tryd.prog) W g 0 T [x, y, z, k] _ (by
    have := World.rangeAt_of_block hc 0 4
    simpa using this) hu rfl hi
  have hp' : tmps[p]?.getD undef = .pointer (some ⟨g, 0, none⟩) := by simpa [Array.getD_eq_getD_getElem?] using hp
  have hq' : tmps[q]?.getD undef = b := by simpa [Array.getD_eq_getD_getElem?] using hq
  have ha : (asAddr (tmps[p]?.getD undef)).run Tryd.prog W = .ok ⟨g, 0, none⟩ W := by rw [hp']; rfl
  simp [results, h, Sem.run_bind, ha, hr, hq']
theorem tokT_und : ∃ fs, Tryd.prog.underlying 36 = some (.struct fs) := ⟨_, Tryd.underlying36⟩
theorem tokR_und : ∃ fs, Tryd.prog.underlying 42 = some (.struct fs) := ⟨_, Tryd.underlying42⟩
/-- a token as a value -/
abbrev tokA (p : TokV) : Value := .agg #[.int .i64 p.1, .int .i64 p.2.1, .string p.2.2.1, .int .i64 p.2.2.2]
abbrev tokO (p : TokV) : Array Value := #[.int .i64 p.1, .int .i64 p.2.1, .string p.2.2.1, .int .i64 p.2.2.2]
abbrev noTok : TokV := (0, 0, ⟨#[]⟩, 0)
/-- digits, one by one -/
theorem bt_list {d : ByteArray} {k : Nat} (h : k < d.size) : d.data.toList[k]? = some (bt d k) := by
  rw [← bt_at h]
  have h2 : k < d.data.size := h
  rw [Array.getElem?_toList, Array.getElem?_eq_getElem h2]
  rfl
theorem dec_digits (d : ByteArray) (hd : ∀ j, j < d.size → isDb (bt d j) = true) : ∀ k, k ≤ d.size → Lib.decFrom 0 (d.data.toList.take k) = some (numD d 0 k)
  | 0, _ => by simp [Lib.decFrom, numD]
  | k + 1, h => by
    have h2 := hd k (by omega)
    unfold isDb at h2
    simp only [Bool.and_eq_true, decide_eq_true_eq] at h2
    have h3 : Lib.digitVal (bt d k) = some ((bt d k).toNat - 48) := by unfold Lib.digitVal; rw [if_pos h2]
    have := Lib.decFrom_take d.data.toList k 0 (numD d 0 k) (bt d k) _ (dec_digits d hd k (by omega)) (bt_list (by omega)) h3
    rw [this]
    show some _ = some (10 * numD d 0 k + ((bt d (0 + k)).toNat - 48))
    rw [Nat.zero_add, Nat.mul_comm]
theorem atoi_digits (d : ByteArray) (h0 : 0 < d.size) (hd : ∀ j, j < d.size → isDb (bt d j) = true) : Lib.atoi d.data.toList = some ((numD d 0 d.size : Nat) : Int) := by
  have h1 := dec_digits d hd d.size (Nat.le_refl _)
  have hl : d.data.toList.length = d.size := by rw [Array.length_toList]; rfl
  rw [List.take_of_length_le (by omega)] at h1
  have hb := bt_list h0
  cases hL : d.data.toList with
  | nil => rw [hL] at hl; simp at hl; omega
  | cons b r =>
    rw [hL] at hb h1
    have hb' : b = bt d 0 := by simpa using hb
    have h2 := hd 0 h0
    rw [← hb'] at h2
    unfold isDb at h2
    simp only [Bool.and_eq_true, decide_eq_true_eq] at h2
    have n1 : (b == 45) = false := by
      rw [beq_eq_false_iff_ne]
      rintro rfl
      exact absurd h2.1 (by decide)
    have n2 : (b == 43) = false := by
      rw [beq_eq_false_iff_ne]
      rintro rfl
      exact absurd h2.1 (by decide)
    unfold Lib.atoi
    simp only [n1, n2, Bool.false_eq_true, if_false]
    unfold Lib.decNat
    rw [if_neg (by simp), h1]
    rfl
set_option maxHeartbeats 1000000 in
theorem code_number_no (d : ByteArray) (w : World) (h : 18 < d.size) : Calls Tryd.prog 23 #[.string d] w fun e w' => e = .returned (.tuple #[tokA noTok, .bool false]) ∧ Below w.heap.size w w' := by
  have h' : (18 : Int) < (d.size : Int) := by omega
  go_enter Tryd.func23, Tryd.ntmps23
  go_wp2
  refine bodyPost_ret (results_tok tokT_und (by kernel_rfl) rfl _ _ w.heap.size _ _ _ _ (.bool false) rfl rfl _ _ (heap_alloc_new w _)) rfl ⟨rfl, below_alloc _ _⟩
set_option maxHeartbeats 1000000 in
theorem code_number_yes (d : ByteArray) (w : World) (h : d.size ≤ 18) (h0 : 0 < d.size) (hd : ∀ j, j < d.size → isDb (bt d j) = true) : Calls Tryd.prog 23 #[.string d] w fun e w' => e = .returned (.tuple #[tokA (2, 0, d, (numD d 0 d.size : Nat)), .bool true]) ∧ Below w.heap.size w w' := by
  have h' : (d.size : Int) ≤ (18 : Int) := by omega
  have HA : Hid (∀ W, Calls Tryd.prog 32 #[.string d] W fun e w' => e = .returned (.tuple #[.int .i64 (numD d 0 d.size : Nat), .nilIface]) ∧ Below W.heap.size W w') := Lib.hid fun W => (Tryd.strconv_Atoi d _ h (atoi_digits d h0 hd) W).mono fun e w' ⟨h1, t, h2⟩ => ⟨h1, by rw [h2]; exact Lib.bytesWorld_below _ _ _⟩
  generalize numD d 0 d.size = n at HA ⊢
  go_enter Tryd.func23, Tryd.ntmps23
  go_wp2_with (first
    | (go_at_call 32; refine (HA.out _).mono ?_; rintro e w2 ⟨rfl, hb⟩; have HB := Lib.hid hb; clear hb; refine Stop.out ?_))
  unfold Stop
  have HR : Hid (w2.heap[w.heap.size]? = some (.cells #[.int .i64 0, .int .i64 0, .string ⟨#[]⟩, .int .i64 0] 36 (0, 0))) := Lib.hid (heap_on HB.out (heap_alloc_new w _))
  have HB2 : Hid (Below w.heap.size w w2) := Lib.hid (below_then (below_alloc w _) HB.out)
  go_wp2_with (first
    | ((with_reducible refine wpList_store_row 36 (o := ⟨none, _, _, _, _, _⟩) ?a1 (.tmp 2) (.tmp 17) ?a2 w.heap.size ?a3 [.int .i64 2, .int .i64 0, .string d, .int .i64 (n : Nat)] ?a4 ?a5 ?a6 #[.int .i64 0, .int .i64 0, .string ⟨#[]⟩, .int .i64 0] ?a7 36 ?a8 ?_); (case a1 => rfl); (case a2 => rfl); (case a3 => rfl); (case a4 => kernel_rfl); (case a5 => exact oneTok _ _ _ _); (case a6 => rfl); (case a7 => rfl); (case a8 => exact HR.out); (try simp only [Act.put]); refine Stop.out ?_))
  unfold Stop
  go_wp2
  refine bodyPost_ret (results_tok tokT_und (by kernel_rfl) rfl _ _ w.heap.size _ _ _ _ (.bool true) rfl rfl _ _ (setRow_heap _ _ _ _ _ _ HR.out)) rfl ⟨rfl, below_setRow HB2.out (Nat.le_refl _) _⟩
end Go.Proofs.YtfjecohokmelfaaDoor
