/- Digits read as a number; a token in a box. The token that a text begins with. -/
import Derived.Test.YtpapcnogbmjpjaaGreatDoorK3
import Derived.Test.YtpapcnogbmjpjaaGreatDoorK4
import Derived.Laws.CopyOwn
import Derived.Lib.AtoiErrMem
namespace Go.Proofs.YtpapcnogbmjpjaaGreatDoor
open Go.RowKit
set_option maxRecDepth 100000
set_option linter.unusedSimpArgs false
set_option linter.unusedVariables false

theorem wp_store_row {w : World} {o : Oper} {a : Act} {K : Act → World → Prop} {Q : Exit → Act → World → Prop} (T : TypeId) (x y : Operand) (ho : o.op = .store T x y) (g : Nat) (hx : a.eval x = .pointer (some ⟨g, 0, none⟩)) (vs : List Value)
    (hsz : (Tryz.prog.info? T).map (·.size) = some vs.length) (h1 : ∀ v ∈ vs, v.oneCell' = true) (hy : a.eval y = .agg vs.toArray) (cur : Array Value) (hc : cur.size = vs.length) (t : TypeId) (hg : w.heap[g]? = some (.cells cur t (0, 0)))
    (h : K (a.put o.dst undef) (w.setRow g vs.toArray)) : o.wp Tryz.prog a w K Q := by
  have hst := run_storeCells_at Tryz.prog g 0 t vs 0 cur w hg (by omega) h1
  have e : (cur.toList.take (0 + 0) ++ vs ++ cur.toList.drop (0 + 0 + vs.length)) = vs := by
    rw [List.drop_eq_nil_of_le (by simp [hc])]; simp
  rw [e] at hst
  have hs : (sizeOf T).run Tryz.prog w = .ok vs.length w := by
    cases hq : Tryz.prog.info? T with
    | none => simp [hq] at hsz
    | some i =>
      have hz : i.size = vs.length := by simpa [hq] using hsz
      simp [sizeOf, typeInfo, hq, hz]
  unfold Oper.wp execOp
  simp only [ho, hx, hy, Instr.storeAt, Instr.sureAddr, Sem.run_bind, Sem.run_pure, Result.andThen_ok, storeVar, Value.cells, hs, List.size_toArray, ne_eq, not_true_eq_false, if_false, hst]
  exact h
theorem wpList_store_row {w : World} {ops : Array Oper} {rest : List Oper} {o : Oper} {a : Act} {Q : Exit → Act → World → Prop} (T : TypeId) (hgd : o.guard = none) (x y : Operand) (ho : o.op = .store T x y) (g : Nat) (hx : a.eval x = .pointer (some ⟨g, 0, none⟩)) (vs : List Value)
    (hsz : (Tryz.prog.info? T).map (·.size) = some vs.length) (h1 : ∀ v ∈ vs, v.oneCell' = true) (hy : a.eval y = .agg vs.toArray) (cur : Array Value) (hc : cur.size = vs.length) (t : TypeId) (hg : w.heap[g]? = some (.cells cur t (0, 0)))
    (h : wpList Tryz.prog ops Q rest (a.put o.dst undef) (w.setRow g vs.toArray)) : wpList Tryz.prog ops Q (o :: rest) a w :=
  wpList_plain hgd fun _ hK => wp_store_row T x y ho g hx vs hsz h1 hy cur hc t hg (hK _ _ h)
theorem oneTok (x y z : Int) (s : ByteArray) : ∀ v ∈ [Value.int .i64 x, .int .i64 y, .string s, .int .i64 z], v.oneCell' = true := by
  intro v hv
  simp only [List.mem_cons, List.not_mem_nil, or_false] at hv
  rcases hv with rfl | rfl | rfl | rfl <;> rfl
/-- a token lies where a call's first answer is kept -/
theorem results_tok {T : TypeId} (hu : ∃ fs, Tryz.prog.underlying T = some (.struct fs)) (hi : (Tryz.prog.info? T).map (·.size) = some 4) {fn : Func} {p q : Tmp} (h : fn.results = #[.cell p T, .tmp q]) (tmps : Array Value) (W : World) (g : Nat) (x y z k : Value) (b : Value) (hp : tmps.getD p undef = .pointer (some ⟨g, 0, none⟩)) (hq : tmps.getD q undef = b) (t : TypeId) (fr : Nat × Nat)
    (hc : W.heap[g]? = some (.cells #[x, y, z, k] t fr)) : (results fn tmps).run Tryz.prog W = .ok (.tuple #[.agg #[x, y, z, k], b]) W := by
  obtain ⟨fs, hu⟩ := hu
  have hr := run_loadVar_mid (P := Tryz.prog) W g 0 T [x, y, z, k] _ (by
    have := World.rangeAt_of_block hc 0 4
    simpa using this) hu rfl hi
  have hp' : tmps[p]?.getD undef = .pointer (some ⟨g, 0, none⟩) := by simpa [Array.getD_eq_getD_getElem?] using hp
  have hq' : tmps[q]?.getD undef = b := by simpa [Array.getD_eq_getD_getElem?] using hq
  have ha : (asAddr (tmps[p]?.getD undef)).run Tryz.prog W = .ok ⟨g, 0, none⟩ W := by rw [hp']; rfl
  simp [results, h, Sem.run_bind, ha, hr, hq']
theorem tokT_und : ∃ fs, Tryz.prog.underlying 96 = some (.struct fs) := ⟨_, Tryz.underlying96⟩
/-- a token as a value -/
abbrev tokA (p : TokV) : Value := .agg #[.int .i64 p.1, .int .i64 p.2.1, .string p.2.2.1, .int .i64 p.2.2.2]
abbrev tokO (p : TokV) : Array Value := #[.int .i64 p.1, .int .i64 p.2.1, .string p.2.2.1, .int .i64 p.2.2.2]
abbrev noTok : TokV := (0, 0, ⟨#[]⟩, 0)
/-- digits, one by one -/
theorem bt_list {d : ByteArray} {k : Nat} (h : k < d.size) : d.data.toList[k]? = some (bt d k) := by
  rw [← bt_at h]
  have h2 : k < d.data.size := h
  rw [Array.getElem?_toList, Array.getElem?_eq_getElem h2]
  rfl
theorem dec_digits (d : ByteArray) (hd : ∀ j, j < d.size → isDb (bt d j) = true) : ∀ k, k ≤ d.size → Lib.decFrom 0 (d.data.toList.take k) = some (numD d 0 k)
  | 0, _ => by simp [Lib.decFrom, numD]
  | k + 1, h => by
    have h2 := hd k (by omega)
    unfold isDb at h2
    simp only [Bool.and_eq_true, decide_eq_true_eq] at h2
    have h3 : Lib.digitVal (bt d k) = some ((bt d k).toNat - 48) := by unfold Lib.digitVal; rw [if_pos h2]
    have := Lib.decFrom_take d.data.toList k 0 (numD d 0 k) (bt d k) _ (dec_digits d hd k (by omega)) (bt_list (by omega)) h3
    rw [this]
    show some _ = some (10 * numD d 0 k + ((bt d (0 + k)).toNat - 48))
    rw [Nat.zero_add, Nat.mul_comm]
theorem atoi_digits (d : ByteArray) (h0 : 0 < d.size) (hd : ∀ j, j < d.size → isDb (bt d j) = true) : Lib.atoi d.data.toList = some ((numD d 0 d.size : Nat) : Int) := by
  have h1 := dec_digits d hd d.size (Nat.le_refl _)
  have hl : d.data.toList.length = d.size := by rw [Array.length_toList]; rfl
  rw [List.take_of_length_le (by omega)] at h1
  have hb := bt_list h0
  cases hL : d.data.toList with
  | nil => rw [hL] at hl; simp at hl; omega
  | cons b r =>
    rw [hL] at hb h1
    have hb' : b = bt d 0 := by simpa using hb
    have h2 := hd 0 h0
    rw [← hb'] at h2
    unfold isDb at h2
    simp only [Bool.and_eq_true, decide_eq_true_eq] at h2
    have n1 : (b == 45) = false := by
      rw [beq_eq_false_iff_ne]
      rintro rfl
      exact absurd h2.1 (by decide)
    have n2 : (b == 43) = false := by
      rw [beq_eq_false_iff_ne]
      rintro rfl
      exact absurd h2.1 (by decide)
    unfold Lib.atoi
    simp only [n1, n2, Bool.false_eq_true, if_false]
    unfold Lib.decNat
    rw [if_neg (by simp), h1]
    rfl
set_option maxHeartbeats 1000000 in
theorem code_number_no (d : ByteArray) (w : World) (h : 18 < d.size) : Calls Tryz.prog 72 #[.string d] w fun e w' => e = .returned (.tuple #[tokA noTok, .bool false]) ∧ Below w.heap.size w w' := by
  have h' : (18 : Int) < (d.size : Int) := by omega
  go_enter Tryz.func72, Tryz.ntmps72
  go_wp2
  refine bodyPost_ret (results_tok tokT_und (by kernel_rfl) rfl _ _ w.heap.size _ _ _ _ (.bool false) rfl rfl _ _ (heap_alloc_new w _)) rfl ⟨rfl, below_alloc _ _⟩
set_option maxHeartbeats 1000000 in
theorem code_number_yes (d : ByteArray) (w : World) (h : d.size ≤ 18) (h0 : 0 < d.size) (hd : ∀ j, j < d.size → isDb (bt d j) = true) : Calls Tryz.prog 72 #[.string d] w fun e w' => e = .returned (.tuple #[tokA (2, 0, d, (numD d 0 d.size : Nat)), .bool true]) ∧ Below w.heap.size w w' := by
  have h' : (d.size : Int) ≤ (18 : Int) := by omega
  have HA : Hid (∀ W, Calls Tryz.prog 98 #[.string d] W fun e w' => e = .returned (.tuple #[.int .i64 (numD d 0 d.size : Nat), .nilIface]) ∧ Below W.heap.size W w') := Lib.hid fun W => (Tryz.strconv_Atoi d _ h (atoi_digits d h0 hd) W).mono fun e w' ⟨h1, t, h2⟩ => ⟨h1, by rw [h2]; exact Lib.bytesWorld_below _ _ _⟩
  generalize numD d 0 d.size = n at HA ⊢
  go_enter Tryz.func72, Tryz.ntmps72
  go_wp2_with (first
    | (go_at_call 98; refine (HA.out _).mono ?_; rintro e w2 ⟨rfl, hb⟩; have HB := Lib.hid hb; clear hb; refine Stop.out ?_))
  unfold Stop
  have HR : Hid (w2.heap[w.heap.size]? = some (.cells #[.int .i64 0, .int .i64 0, .string ⟨#[]⟩, .int .i64 0] 96 (0, 0))) := Lib.hid (heap_on HB.out (heap_alloc_new w _))
  have HB2 : Hid (Below w.heap.size w w2) := Lib.hid (below_then (below_alloc w _) HB.out)
  go_wp2_with (first
    | ((with_reducible refine wpList_store_row 96 (o := ⟨none, _, _, _, _, _⟩) ?a1 (.tmp 2) (.tmp 17) ?a2 w.heap.size ?a3 [.int .i64 2, .int .i64 0, .string d, .int .i64 (n : Nat)] ?a4 ?a5 ?a6 #[.int .i64 0, .int .i64 0, .string ⟨#[]⟩, .int .i64 0] ?a7 96 ?a8 ?_); (case a1 => rfl); (case a2 => rfl); (case a3 => rfl); (case a4 => kernel_rfl); (case a5 => exact oneTok _ _ _ _); (case a6 => rfl); (case a7 => rfl); (case a8 => exact HR.out); (try simp only [Act.put]); refine Stop.out ?_))
  unfold Stop
  go_wp2
  refine bodyPost_ret (results_tok tokT_und (by kernel_rfl) rfl _ _ w.heap.size _ _ _ _ (.bool true) rfl rfl _ _ (setRow_heap _ _ _ _ _ _ HR.out)) rfl ⟨rfl, below_setRow HB2.out (Nat.le_refl _) _⟩
end Go.Proofs.YtpapcnogbmjpjaaGreatDoor

namespace Go.Proofs.YtpapcnogbmjpjaaGreatDoor
open Go.RowKit
set_option maxRecDepth 100000
set_option linter.unusedSimpArgs false
set_option linter.unusedVariables false

theorem low_s (b : UInt8) (h : b.toNat < 128) : isSr b.toNat = isSb b := by
  unfold isSr isSb
  rw [Bool.eq_iff_iff]
  simp
  omega
theorem high_s (r : Int) (b : UInt8) (h1 : 128 ≤ r) (h2 : 128 ≤ b.toNat) : isSr r = isSb b := by
  unfold isSr isSb
  rw [Bool.eq_iff_iff]
  simp
  omega
theorem low_b (b : UInt8) (h : b.toNat < 128) : isBr b.toNat = isBb b := by
  unfold isBr isBb
  rw [Bool.eq_iff_iff]
  simp
  omega
theorem high_b (r : Int) (b : UInt8) (h1 : 128 ≤ r) (h2 : 128 ≤ b.toNat) : isBr r = isBb b := by
  unfold isBr isBb
  rw [Bool.eq_iff_iff]
  simp
  omega
/-- a rune that begins with such a byte -/
def RuneOf (r : Nat) (b : UInt8) : Prop := (b.toNat < 128 → r = b.toNat) ∧ (128 ≤ b.toNat → 128 ≤ r)
theorem RuneOf.kind {r : Nat} {b : UInt8} (h : RuneOf r b) {P : Int → Bool} {p : UInt8 → Bool} (hlow : ∀ b : UInt8, b.toNat < 128 → P b.toNat = p b) (hhigh : ∀ (r : Int) (b : UInt8), 128 ≤ r → 128 ≤ b.toNat → P r = p b) : P r = p b := by
  by_cases hb : b.toNat < 128
  · rw [h.1 hb]; exact hlow _ hb
  · exact hhigh _ _ (by have := h.2 (by omega); omega) (by omega)
/-- the token that begins at a byte; none: there is none that may be -/
def tokAt (s : ByteArray) (i : Nat) : Option TokV :=
  if isLb (bt s i) = true then some (1, i, s.extract i (runE isLb s i), 0)
  else if isDb (bt s i) = true then (if runE isDb s i - i ≤ 18 then some (2, i, s.extract i (runE isDb s i), (numD s i (runE isDb s i - i) : Nat)) else none)
  else if isSb (bt s i) = true then some (3, i, s.extract i (i + 1), 0) else none
theorem tok_len {s : ByteArray} {i : Nat} {t : TokV} (h : tokAt s i = some t) (hi : i < s.size) : 1 ≤ t.2.2.1.size ∧ i + t.2.2.1.size ≤ s.size ∧ t.2.1 = i ∧ t.2.2.1 = s.extract i (i + t.2.2.1.size) := by
  unfold tokAt at h
  split at h
  · rename_i hb
    injection h with h
    subst h
    have h1 := runE_more hi hb
    have h2 := runE_le (p := isLb) (s := s) (i := i) (by omega)
    have h3 : (s.extract i (runE isLb s i)).size = runE isLb s i - i := ext_size (by omega) h2
    refine ⟨by show 1 ≤ (s.extract i (runE isLb s i)).size; omega, by show i + (s.extract i (runE isLb s i)).size ≤ _; omega, rfl, ?_⟩
    show s.extract i (runE isLb s i) = s.extract i (i + (s.extract i (runE isLb s i)).size)
    rw [h3]
    congr 1
    omega
  · split at h
    · rename_i _ hb
      split at h
      · injection h with h
        subst h
        have h1 := runE_more hi hb
        have h2 := runE_le (p := isDb) (s := s) (i := i) (by omega)
        have h3 : (s.extract i (runE isDb s i)).size = runE isDb s i - i := ext_size (by omega) h2
        refine ⟨by show 1 ≤ (s.extract i (runE isDb s i)).size; omega, by show i + (s.extract i (runE isDb s i)).size ≤ _; omega, rfl, ?_⟩
        show s.extract i (runE isDb s i) = s.extract i (i + (s.extract i (runE isDb s i)).size)
        rw [h3]
        congr 1
        omega
      · cases h
    · split at h
      · injection h with h
        subst h
        have h3 : (s.extract i (i + 1)).size = 1 := by rw [ext_size (by omega) (by omega)]; omega
        refine ⟨by show 1 ≤ (s.extract i (i + 1)).size; omega, by show i + (s.extract i (i + 1)).size ≤ _; omega, rfl, ?_⟩
        show s.extract i (i + 1) = s.extract i (i + (s.extract i (i + 1)).size)
        rw [h3]
      · cases h
/-- the token of what is left of a text -/
theorem tok_ext {s : ByteArray} {b : Nat} (hb : b < s.size) : tokAt (s.extract b s.size) 0 = (tokAt s b).map fun t => (t.1, 0, t.2.2) := by
  have e0 : bt (s.extract b s.size) 0 = bt s b := by rw [bt_ext (by omega) (Nat.le_refl _), Nat.add_zero]
  have eL : runE isLb (s.extract b s.size) 0 = runE isLb s b - b := by rw [runE_ext (by omega), Nat.add_zero]
  have eD : runE isDb (s.extract b s.size) 0 = runE isDb s b - b := by rw [runE_ext (by omega), Nat.add_zero]
  have gL := runE_ge (p := isLb) (s := s) b
  have gD := runE_ge (p := isDb) (s := s) b
  have lL := runE_le (p := isLb) (s := s) (i := b) (by omega)
  have lD := runE_le (p := isDb) (s := s) (i := b) (by omega)
  unfold tokAt
  rw [e0, eL, eD]
  split
  · rw [ext_ext (by omega)]
    show some _ = some _
    rw [show b + (runE isLb s b - b) = runE isLb s b by omega]
    rfl
  · split
    · rw [Nat.sub_zero]
      split
      · rw [ext_ext (by omega), numD_ext _ (by omega)]
        show some _ = some _
        rw [show b + (runE isDb s b - b) = runE isDb s b by omega, Nat.add_zero]
        rfl
      · rfl
    · split
      · rw [ext_ext (by omega)]
        rfl
      · rfl
theorem enc_low {b : UInt8} (h : b.toNat < 128) : Utf8.encode ((b.toNat : Nat) : Int) = ⟨#[b]⟩ := by
  have hv : Utf8.valid ((b.toNat : Nat) : Int) = true := by
    unfold Utf8.valid
    simp only [Bool.or_eq_true, Bool.and_eq_true, decide_eq_true_eq]
    left
    omega
  unfold Utf8.encode
  simp only [hv, if_true, Int.toNat_natCast]
  rw [if_pos h, UInt8.ofNat_toNat]
def firstV (u : ByteArray) : Value := match tokAt u 0 with
  | some t => .tuple #[tokA t, .bool true]
  | none => .tuple #[tokA noTok, .bool false]
/-- a rune of one byte as a text -/
theorem sign_text {u : ByteArray} (h0 : 0 < u.size) : (⟨#[bt u 0]⟩ : ByteArray) = u.extract 0 1 := by
  apply ByteArray.ext
  apply Array.ext
  · have := ext_size (s := u) (b := 0) (e := 1) (by omega) h0
    have h2 : (u.extract 0 1).data.size = 1 := this
    rw [h2]
    rfl
  · intro i h1 h2
    have hi : i = 0 := by
      have h1' : i < 1 := h1
      omega
    subst hi
    have h3 : 0 < (u.extract 0 1).size := h2
    have e : (u.extract 0 1).data[0] = (u.extract 0 1)[0]'h3 := rfl
    rw [e, ByteArray.getElem_extract]
    show bt u 0 = _
    rw [← bt_at h0]
set_option maxHeartbeats 2000000 in
theorem code_first (u : ByteArray) (r : Nat) (w : World) (hu : u.size ≤ 9223372036854775807) (h0 : 0 < u.size) (hd : RuneOf r (bt u 0)) : Calls Tryz.prog 53 #[.string u, .int .i32 (r : Nat)] w fun e w' => e = .returned (firstV u) ∧ Below w.heap.size w w' := by
  have hasc := hd.1
  have HL : Hid (∀ W, Calls Tryz.prog 70 #[.int .i32 (r : Nat)] W fun e w' => e = .returned (.bool (isLb (bt u 0))) ∧ W = w') := Lib.hid fun W => by rw [← hd.kind low_l high_l]; exact code_isLetter _ W
  have HD : Hid (∀ W, Calls Tryz.prog 71 #[.int .i32 (r : Nat)] W fun e w' => e = .returned (.bool (isDb (bt u 0))) ∧ W = w') := Lib.hid fun W => by rw [← hd.kind low_d high_d]; exact code_isDigit _ W
  have HS : Hid (∀ W, Calls Tryz.prog 73 #[.int .i32 (r : Nat)] W fun e w' => e = .returned (.bool (isSb (bt u 0))) ∧ W = w') := Lib.hid fun W => by rw [← hd.kind low_s high_s]; exact code_isSign _ W
  have HN0 : Hid ((w.alloc (.cells #[.int .i64 0, .int .i64 0, .string ⟨#[]⟩, .int .i64 0] 96)).heap[w.heap.size]? = some (.cells #[.int .i64 0, .int .i64 0, .string ⟨#[]⟩, .int .i64 0] 96 (0, 0))) := Lib.hid (heap_alloc_new w _)
  have HH := Lib.hid (And.intro h0 hasc)
  clear hasc hd
  cases hl : isLb (bt u 0) with
  | true =>
    have hv : firstV u = .tuple #[tokA (1, 0, u.extract 0 (runE isLb u 0), 0), .bool true] := by unfold firstV tokAt; rw [if_pos hl]; rfl
    rw [hv]
    rw [hl] at HL
    have hk := runE_le (p := isLb) (s := u) (Nat.zero_le _)
    have HLd := Lib.hid (fun W => code_lead_l u W hu)
    generalize runE isLb u 0 = k at HLd hk ⊢
    have hk' : (k : Int) ≤ (u.size : Int) := by omega
    clear hv hl hu h0 HD HS
    go_enter Tryz.func53, Tryz.ntmps53
    go_wp2_with (first
      | (go_at_call 70; refine (HL.out _).mono ?_; rintro e w1 ⟨rfl, rfl⟩)
      | (go_at_call 51; refine (HLd.out _).mono ?_; rintro e w2 ⟨rfl, hb⟩; have HB := Lib.hid hb; clear hb; refine Stop.out ?_))
    unfold Stop
    have HR := Lib.hid (heap_on HB.out HN0.out)
    have HB2 : Hid (Below w.heap.size w w2) := Lib.hid (below_then (below_alloc w _) HB.out)
    go_wp2_with (first
      | ((with_reducible refine wpList_store_row 96 (o := ⟨none, _, _, _, _, _⟩) ?a1 (.tmp 4) (.tmp 13) ?a2 w.heap.size ?a3 [.int .i64 1, .int .i64 0, .string (u.extract 0 k), .int .i64 0] ?a4 ?a5 ?a6 #[.int .i64 0, .int .i64 0, .string ⟨#[]⟩, .int .i64 0] ?a7 96 ?a8 ?_); (case a1 => rfl); (case a2 => rfl); (case a3 => rfl); (case a4 => kernel_rfl); (case a5 => exact oneTok _ _ _ _); (case a6 => rfl); (case a7 => rfl); (case a8 => exact HR.out); (try simp only [Act.put]); refine Stop.out ?_))
    unfold Stop
    go_wp2
    refine bodyPost_ret (results_tok tokT_und (by kernel_rfl) rfl _ _ w.heap.size _ _ _ _ (.bool true) rfl rfl _ _ (setRow_heap _ _ _ _ _ _ HR.out)) rfl ⟨rfl, below_setRow HB2.out (Nat.le_refl _) _⟩
  | false =>
    rw [hl] at HL
    cases hdg : isDb (bt u 0) with
    | true =>
      rw [hdg] at HD
      have hk := runE_le (p := isDb) (s := u) (Nat.zero_le _)
      have hk0 := runE_more h0 hdg
      have hz : (u.extract 0 (runE isDb u 0)).size = runE isDb u 0 := by rw [ext_size (by omega) hk]; omega
      have hin : ∀ j, j < (u.extract 0 (runE isDb u 0)).size → isDb (bt (u.extract 0 (runE isDb u 0)) j) = true := fun j hj => by
        rw [hz] at hj
        rw [bt_ext (by omega) hk, Nat.zero_add]
        exact runE_in (Nat.zero_le _) hj
      have hnum : numD (u.extract 0 (runE isDb u 0)) 0 (runE isDb u 0) = numD u 0 (runE isDb u 0) := by
        have : ∀ k, k ≤ runE isDb u 0 → numD (u.extract 0 (runE isDb u 0)) 0 k = numD u 0 k := fun k => by
          induction k with
          | zero => intro _; rfl
          | succ k ih =>
            intro h
            show 10 * numD (u.extract 0 (runE isDb u 0)) 0 k + _ = 10 * numD u 0 k + _
            rw [ih (by omega), bt_ext (by omega) hk, Nat.zero_add]
        exact this _ (Nat.le_refl _)
      have HLd := Lib.hid (fun W => code_lead_d u W hu)
      by_cases h18 : runE isDb u 0 ≤ 18
      · have hv : firstV u = .tuple #[tokA (2, 0, u.extract 0 (runE isDb u 0), (numD u 0 (runE isDb u 0) : Nat)), .bool true] := by unfold firstV tokAt; rw [if_neg (by rw [hl]; decide), if_pos hdg, Nat.sub_zero, if_pos h18]; rfl
        have HNm : Hid (∀ W, Calls Tryz.prog 72 #[.string (u.extract 0 (runE isDb u 0))] W fun e w' => e = .returned (.tuple #[tokA (2, 0, u.extract 0 (runE isDb u 0), (numD u 0 (runE isDb u 0) : Nat)), .bool true]) ∧ Below W.heap.size W w') := Lib.hid fun W => by
          have := code_number_yes (u.extract 0 (runE isDb u 0)) W (by omega) (by omega) hin
          rw [hz, hnum] at this
          exact this
        rw [hv]
        clear hnum hin hz
        generalize numD u 0 (runE isDb u 0) = n at HNm ⊢
        generalize runE isDb u 0 = k at HLd HNm hk ⊢
        have hk' : (k : Int) ≤ (u.size : Int) := by omega
        clear hv hl hu h0 HS h18 hdg hk0
        go_enter Tryz.func53, Tryz.ntmps53
        go_wp2_with (first
          | (go_at_call 70; refine (HL.out _).mono ?_; rintro e w1 ⟨rfl, rfl⟩)
          | (go_at_call 71; refine (HD.out _).mono ?_; rintro e w1 ⟨rfl, rfl⟩)
          | (go_at_call 51; refine (HLd.out _).mono ?_; rintro e w2 ⟨rfl, hb⟩; have HB := Lib.hid hb; clear hb; refine Stop.out ?_))
        unfold Stop
        go_wp2_with (first
          | (go_at_call 72; refine (HNm.out _).mono ?_; rintro e w3 ⟨rfl, hb⟩; have HB3 := Lib.hid hb; clear hb; refine Stop.out ?_))
        unfold Stop
        have HR := Lib.hid (heap_on HB3.out (heap_on HB.out HN0.out))
        have HB2 : Hid (Below w.heap.size w w3) := Lib.hid (below_then (below_then (below_alloc w _) HB.out) HB3.out)
        go_wp2_with (first
          | ((with_reducible refine wpList_store_row 96 (o := ⟨none, _, _, _, _, _⟩) ?a1 (.tmp 4) (.tmp 22) ?a2 w.heap.size ?a3 [.int .i64 2, .int .i64 0, .string (u.extract 0 k), .int .i64 (n : Nat)] ?a4 ?a5 ?a6 #[.int .i64 0, .int .i64 0, .string ⟨#[]⟩, .int .i64 0] ?a7 96 ?a8 ?_); (case a1 => rfl); (case a2 => rfl); (case a3 => rfl); (case a4 => kernel_rfl); (case a5 => exact oneTok _ _ _ _); (case a6 => rfl); (case a7 => rfl); (case a8 => exact HR.out); (try simp only [Act.put]); refine Stop.out ?_))
        unfold Stop
        go_wp2
        refine bodyPost_ret (results_tok tokT_und (by kernel_rfl) rfl _ _ w.heap.size _ _ _ _ (.bool true) rfl rfl _ _ (setRow_heap _ _ _ _ _ _ HR.out)) rfl ⟨rfl, below_setRow HB2.out (Nat.le_refl _) _⟩
      · have hv : firstV u = .tuple #[tokA noTok, .bool false] := by unfold firstV tokAt; rw [if_neg (by rw [hl]; decide), if_pos hdg, Nat.sub_zero, if_neg h18]
        have HNm : Hid (∀ W, Calls Tryz.prog 72 #[.string (u.extract 0 (runE isDb u 0))] W fun e w' => e = .returned (.tuple #[tokA noTok, .bool false]) ∧ Below W.heap.size W w') := Lib.hid fun W => code_number_no _ W (by omega)
        rw [hv]
        clear hnum hin hz
        generalize runE isDb u 0 = k at HLd HNm hk ⊢
        have hk' : (k : Int) ≤ (u.size : Int) := by omega
        clear hv hl hu h0 HS h18 hdg hk0
        go_enter Tryz.func53, Tryz.ntmps53
        go_wp2_with (first
          | (go_at_call 70; refine (HL.out _).mono ?_; rintro e w1 ⟨rfl, rfl⟩)
          | (go_at_call 71; refine (HD.out _).mono ?_; rintro e w1 ⟨rfl, rfl⟩)
          | (go_at_call 51; refine (HLd.out _).mono ?_; rintro e w2 ⟨rfl, hb⟩; have HB := Lib.hid hb; clear hb; refine Stop.out ?_))
        unfold Stop
        go_wp2_with (first
          | (go_at_call 72; refine (HNm.out _).mono ?_; rintro e w3 ⟨rfl, hb⟩; have HB3 := Lib.hid hb; clear hb; refine Stop.out ?_))
        unfold Stop
        have HR := Lib.hid (heap_on HB3.out (heap_on HB.out HN0.out))
        have HB2 : Hid (Below w.heap.size w w3) := Lib.hid (below_then (below_then (below_alloc w _) HB.out) HB3.out)
        go_wp2_with (first
          | ((with_reducible refine wpList_store_row 96 (o := ⟨none, _, _, _, _, _⟩) ?a1 (.tmp 4) (.tmp 22) ?a2 w.heap.size ?a3 [.int .i64 0, .int .i64 0, .string ⟨#[]⟩, .int .i64 0] ?a4 ?a5 ?a6 #[.int .i64 0, .int .i64 0, .string ⟨#[]⟩, .int .i64 0] ?a7 96 ?a8 ?_); (case a1 => rfl); (case a2 => rfl); (case a3 => rfl); (case a4 => kernel_rfl); (case a5 => exact oneTok _ _ _ _); (case a6 => rfl); (case a7 => rfl); (case a8 => exact HR.out); (try simp only [Act.put]); refine Stop.out ?_))
        unfold Stop
        go_wp2
        refine bodyPost_ret (results_tok tokT_und (by kernel_rfl) rfl _ _ w.heap.size _ _ _ _ (.bool false) rfl rfl _ _ (setRow_heap _ _ _ _ _ _ HR.out)) rfl ⟨rfl, below_setRow HB2.out (Nat.le_refl _) _⟩
    | false =>
      rw [hdg] at HD
      cases hsg : isSb (bt u 0) with
      | true =>
        have hv : firstV u = .tuple #[tokA (3, 0, u.extract 0 1, 0), .bool true] := by unfold firstV tokAt; rw [if_neg (by rw [hl]; decide), if_neg (by rw [hdg]; decide), if_pos hsg]; rfl
        rw [hv]
        rw [hsg] at HS
        have hr : r = (bt u 0).toNat := HH.out.2 (by unfold isSb at hsg; simp only [decide_eq_true_eq] at hsg; omega)
        rw [← sign_text h0, ← enc_low (b := bt u 0) (by unfold isSb at hsg; simp only [decide_eq_true_eq] at hsg; omega), ← hr]
        clear hr
        clear hv hl hu h0 hdg hsg
        go_enter Tryz.func53, Tryz.ntmps53
        go_wp2_with (first
          | (go_at_call 70; refine (HL.out _).mono ?_; rintro e w1 ⟨rfl, rfl⟩)
          | (go_at_call 71; refine (HD.out _).mono ?_; rintro e w1 ⟨rfl, rfl⟩)
          | (go_at_call 73; refine (HS.out _).mono ?_; rintro e w1 ⟨rfl, rfl⟩))
        generalize Utf8.encode (r : Int) = X
        refine bodyPost_ret (results_tok tokT_und (by kernel_rfl) rfl _ _ w.heap.size _ _ _ _ (.bool true) rfl rfl _ _ (heap_alloc_new w _)) rfl ⟨rfl, below_alloc _ _⟩
      | false =>
        have hv : firstV u = .tuple #[tokA noTok, .bool false] := by unfold firstV tokAt; rw [if_neg (by rw [hl]; decide), if_neg (by rw [hdg]; decide), if_neg (by rw [hsg]; decide)]
        rw [hv]
        rw [hsg] at HS
        clear hv hl hu h0 hdg hsg
        go_enter Tryz.func53, Tryz.ntmps53
        go_wp2_with (first
          | (go_at_call 70; refine (HL.out _).mono ?_; rintro e w1 ⟨rfl, rfl⟩)
          | (go_at_call 71; refine (HD.out _).mono ?_; rintro e w1 ⟨rfl, rfl⟩)
          | (go_at_call 73; refine (HS.out _).mono ?_; rintro e w1 ⟨rfl, rfl⟩))
        refine bodyPost_ret (results_tok tokT_und (by kernel_rfl) rfl _ _ w.heap.size _ _ _ _ (.bool false) rfl rfl _ _ HN0.out) rfl ⟨rfl, below_alloc _ _⟩
end Go.Proofs.YtpapcnogbmjpjaaGreatDoor
