/- The document's lexer: one token. -/
import Derived.Test.YtfjecohokmelfaaDoorLxH
import Derived.Test.YtfjecohokmelfaaDoorDrawB
namespace Go.Proofs.YtfjecohokmelfaaDoor
open Go.RowKit
set_option maxRecDepth 100000
set_option linter.unusedSimpArgs false
set_option linter.unusedVariables false

def oneV (s : ByteArray) (i : Nat) : Value := match tokAt s i with
  | some t => .tuple #[tokA t, .int .i64 0]
  | none => .tuple #[tokA noTok, .int .i64 80]
/-- the two boxes of a call -/
structure OneW (w : World) (g : Nat) (x : TokV) (W : World) : Prop where
  box : W.heap[g]? = some (.cells (tokO x) 42 (0, 0))
  res : W.heap[w.heap.size]? = some (.cells #[.int .i64 0, .int .i64 0, .string ⟨#[]⟩, .int .i64 0] 42 (0, 0))
  low : Below w.heap.size w W
  ne : g ≠ w.heap.size
  ge : w.heap.size ≤ g
theorem OneW.on {w : World} {g : Nat} {x : TokV} {W W' : World} (h : OneW w g x W) (hb : Below W.heap.size W W') : OneW w g x W' :=
  ⟨heap_on hb h.box, heap_on hb h.res, below_then h.low hb, h.ne, h.ge⟩
theorem OneW.put3 {w : World} {g : Nat} {k a n n' : Int} {t : ByteArray} {W : World} (h : OneW w g (k, a, t, n) W) : OneW w g (k, a, t, n') (W.setCell ⟨g, 3, none⟩ (.int .i64 n')) :=
  ⟨heap_setCell_same W g 3 _ _ _ h.box, (heap_setCell_other _ _ _ _ h.ne.symm).trans h.res, h.low.setCell (p := ⟨g, 3, none⟩) h.ge _, h.ne, h.ge⟩
theorem OneW.put2 {w : World} {g : Nat} {k a n : Int} {t : ByteArray} {W : World} (h : OneW w g (k, a, t, n) W) (k' : Int) (t' : ByteArray) : ((W.setCell ⟨g, 0, none⟩ (.int .i64 k')).setCell ⟨g, 2, none⟩ (.string t')).heap[w.heap.size]? = some (.cells #[.int .i64 0, .int .i64 0, .string ⟨#[]⟩, .int .i64 0] 42 (0, 0)) ∧ Below w.heap.size w ((W.setCell ⟨g, 0, none⟩ (.int .i64 k')).setCell ⟨g, 2, none⟩ (.string t')) :=
  ⟨(heap_setCell_other _ _ _ _ h.ne.symm).trans ((heap_setCell_other _ _ _ _ h.ne.symm).trans h.res), (h.low.setCell (p := ⟨g, 0, none⟩) h.ge _).setCell (p := ⟨g, 2, none⟩) h.ge _⟩
theorem frozenTok {W : World} {g : Nat} {cs : Array Value} {t : TypeId} (h : W.heap[g]? = some (.cells cs t (0, 0))) : W.frozen? ⟨g, 0, none⟩ = false ∧ W.frozen? ⟨g, 2, none⟩ = false ∧ W.frozen? ⟨g, 3, none⟩ = false :=
  ⟨frozen_of_row W g 0 _ _ h, frozen_of_row W g 2 _ _ h, frozen_of_row W g 3 _ _ h⟩
theorem results_tokR {fn : Func} {p q : Tmp} (h : fn.results = #[.cell p 42, .tmp q]) (tmps : Array Value) (W : World) (g : Nat) (x y z k : Value) (b : Value) (hp : tmps.getD p undef = .pointer (some ⟨g, 0, none⟩)) (hq : tmps.getD q undef = b) (t : TypeId) (fr : Nat × Nat)
    (hc : W.heap[g]? = some (.cells #[x, y, z, k] t fr)) : (results fn tmps).run Tryd.prog W = .ok (.tuple #[.agg #[x, y, z, k], b]) W := results_tok tokR_und (by kernel_rfl) h tmps W g x y z k b hp hq t fr hc
set_option maxHeartbeats 8000000 in
theorem ref_one (s : ByteArray) (i : Nat) (w : World) (hs : s.size ≤ 200000) (hi : i < s.size) : Calls Tryd.prog 19 #[.string s, .int .i64 (i : Nat)] w fun e w' => e = .returned (oneV s i) ∧ Below w.heap.size w w' := by
  have HS := Lib.hid hs
  have HI := Lib.hid hi
  have hii : (i : Int) < (s.size : Int) := by omega
  have hii2 : (i : Int) ≤ (s.size : Int) := by omega
  obtain ⟨nb, hnb⟩ : ∃ nb, nb = (bt s i).toNat := ⟨_, rfl⟩
  have hbt : (s[i]'hi).toNat = nb := by rw [bt_at hi, hnb]
  have HL : Hid (∀ V, Calls Tryd.prog 26 #[.int .u8 (nb : Nat)] V fun e w' => e = .returned (.bool (isLb (bt s i))) ∧ V = w') := Lib.hid fun V => by rw [hnb]; exact ref_letter _ V
  have HD : Hid (∀ V, Calls Tryd.prog 27 #[.int .u8 (nb : Nat)] V fun e w' => e = .returned (.bool (isDb (bt s i))) ∧ V = w') := Lib.hid fun V => by rw [hnb]; exact ref_digit _ V
  have HG : Hid (∀ V, Calls Tryd.prog 28 #[.int .u8 (nb : Nat)] V fun e w' => e = .returned (.bool (isSb (bt s i))) ∧ V = w') := Lib.hid fun V => by rw [hnb]; exact ref_sign _ V
  have HLa : Hid (∀ (b : UInt8) V, Calls Tryd.prog 26 #[.int .u8 b.toNat] V fun e w' => e = .returned (.bool (isLb b)) ∧ V = w') := Lib.hid ref_letter
  have HDa : Hid (∀ (b : UInt8) V, Calls Tryd.prog 27 #[.int .u8 b.toNat] V fun e w' => e = .returned (.bool (isDb b)) ∧ V = w') := Lib.hid ref_digit
  have HNb := Lib.hid hnb
  have hi0 := hi
  clear hs hnb
  obtain ⟨lb, hlb⟩ : ∃ lb, lb = isLb (bt s i) := ⟨_, rfl⟩
  obtain ⟨db, hdb⟩ : ∃ db, db = isDb (bt s i) := ⟨_, rfl⟩
  obtain ⟨sb, hsb⟩ : ∃ sb, sb = isSb (bt s i) := ⟨_, rfl⟩
  rw [← hlb] at HL
  rw [← hdb] at HD
  rw [← hsb] at HG
  have HK := Lib.hid (And.intro hlb (And.intro hdb hsb))
  clear hlb hdb hsb
  go_enter Tryd.func19, Tryd.ntmps19
  go_wp2_with (first
    | (go_at_call 26; refine (HL.out _).mono ?_; rintro e w1 ⟨rfl, rfl⟩; refine Stop.out ?_))
  unfold Stop
  obtain ⟨W, hW⟩ : ∃ W, W = (w.alloc (.cells #[.int .i64 0, .int .i64 0, .string ⟨#[]⟩, .int .i64 0] 42)).alloc (.cells #[.int .i64 0, .int .i64 (i : Nat), .string ⟨#[]⟩, .int .i64 0] 42) := ⟨_, rfl⟩
  obtain ⟨g, hg⟩ : ∃ g, g = w.heap.size + 1 := ⟨_, rfl⟩
  have HO : Hid (OneW w g (0, (i : Nat), ⟨#[]⟩, 0) W) := Lib.hid ⟨by
      have := heap_alloc_new (w.alloc (.cells #[.int .i64 0, .int .i64 0, .string ⟨#[]⟩, .int .i64 0] 42)) (.cells #[.int .i64 0, .int .i64 (i : Nat), .string ⟨#[]⟩, .int .i64 0] 42)
      rw [World.size_alloc, ← hg, ← hW] at this
      exact this, by rw [hW]; exact heap_on (below_alloc _ _) (heap_alloc_new w _), by rw [hW]; exact below_then (below_alloc w _) (below_alloc _ _), by omega, by omega⟩
  rw [← hW, ← hg]
  obtain ⟨r0, hr0⟩ : ∃ r0, r0 = w.heap.size := ⟨_, rfl⟩
  rw [← hr0]
  have HR0 := Lib.hid hr0
  clear hW hg hr0 HL
  cases lb with
  | true =>
    have HV : Hid (∀ k, runE isLb s i = k → oneV s i = .tuple #[tokA (1, (i : Nat), s.extract i k, 0), .int .i64 0]) := Lib.hid fun k hk => by
      unfold oneV tokAt
      rw [if_pos HK.out.1.symm, hk]
    clear HD HG HDa hbt hi0 hi hii
    go_wp2
    go_loopw [6] (fun v6 wr => ∃ k : Nat, v6 = .int .i64 (k : Nat) ∧ Hid (i ≤ k ∧ k ≤ s.size ∧ ∀ x, i ≤ x → x < k → isLb (bt s x) = true) ∧ W = wr) (fun v6 _ => leftI s.size v6)
    case atStart => exact ⟨i, rfl, Lib.hid ⟨Nat.le_refl _, Nat.le_of_lt HI.out, fun x h1 h2 => absurd h1 (by omega)⟩, by first | rfl | trivial⟩
    case round =>
      obtain ⟨k, rfl, HQ, rfl⟩ := hrel
      by_cases hk : k < s.size
      · have hk' : (k : Int) < (s.size : Int) := by omega
        have HB := Lib.hid (HLa.out (bt s k))
        obtain ⟨nk, hnk⟩ : ∃ nk, nk = (bt s k).toNat := ⟨_, rfl⟩
        have hbk : (s[k]'hk).toNat = nk := by rw [bt_at hk, hnk]
        rw [← hnk] at HB
        have HKt := Lib.hid hk
        have hwk := wrap1 (show k ≤ 1000000 by have := HS.out; omega)
        have HWk := Lib.hid hwk
        clear hnk
        cases hq : isLb (bt s k) with
        | true =>
          rw [hq] at HB
          have HB1 := Lib.hid hq
          clear hq
          go_wp2_with (first
            | (go_at_call 26; refine (HB.out _).mono ?_; rintro e w1 ⟨rfl, rfl⟩))
          go_roundw
          case rel => exact ⟨k + 1, by first | rfl | rw [hwk], Lib.hid ⟨Nat.le_succ_of_le HQ.out.1, HKt.out, fun x h1 h2 => by
            by_cases hx : x = k
            · rw [hx]; exact HB1.out
            · exact HQ.out.2.2 x h1 (by omega)⟩, by first | rfl | trivial⟩
          case measure => first | exact leftI_lt (Nat.lt_succ_self k) HKt.out | (rw [HWk.out]; exact leftI_lt (Nat.lt_succ_self k) HKt.out)
        | false =>
          rw [hq] at HB
          have HE : Hid (runE isLb s i = k) := Lib.hid (runE_is HQ.out.1 HQ.out.2.1 HQ.out.2.2 fun _ => hq)
          clear hq hwk HWk
          have HVx := Lib.hid (HV.out k HE.out)
          have hk2 : (k : Int) ≤ (s.size : Int) := by have := HQ.out; omega
          have hk3 : (i : Int) ≤ (k : Int) := by have := HQ.out; omega
          have HP := Lib.hid (HO.out.put2 1 (s.extract i k))
          obtain ⟨y0, y1, y2, y3⟩ := cellsTokR HO.out.box
          obtain ⟨z0, z2, z3⟩ := frozenTok HO.out.box
          have hne := HO.out.ne
          rw [HR0.out.symm] at hne
          go_wp2_with (first
            | (go_at_call 26; refine (HB.out _).mono ?_; rintro e w1 ⟨rfl, rfl⟩)
            | ((with_reducible refine wpList_store_row 42 (o := ⟨none, _, _, _, _, _⟩) ?a1 (.tmp 4) (.tmp 83) ?a2 w.heap.size ?a3 [.int .i64 1, .int .i64 (i : Nat), .string (s.extract i k), .int .i64 0] ?a4 ?a5 ?a6 #[.int .i64 0, .int .i64 0, .string ⟨#[]⟩, .int .i64 0] ?a7 42 ?a8 ?_); (case a1 => rfl); (case a2 => rfl); (case a3 => rw [← HR0.out]; rfl); (case a4 => kernel_rfl); (case a5 => exact oneTok _ _ _ _); (case a6 => rfl); (case a7 => rfl); (case a8 => exact HP.out.1); (try simp only [Act.put]); refine Stop.out ?_))
          unfold Stop
          go_wp2
          refine bodyPost_ret (results_tokR rfl _ _ w.heap.size _ _ _ _ (.int .i64 0) (by rw [← HR0.out]; rfl) rfl _ _ (setRow_heap _ _ _ _ _ _ HP.out.1)) rfl ⟨by rw [HVx.out], ?_⟩
          exact below_setRow HP.out.2 (Nat.le_refl _) _
      · have hk' : (s.size : Int) ≤ (k : Int) := by omega
        have HE : Hid (runE isLb s i = k) := Lib.hid (runE_is HQ.out.1 HQ.out.2.1 HQ.out.2.2 fun h => absurd h hk)
        clear hk
        have HVx := Lib.hid (HV.out k HE.out)
        have hk2 : (k : Int) ≤ (s.size : Int) := by have := HQ.out; omega
        have hk3 : (i : Int) ≤ (k : Int) := by have := HQ.out; omega
        have HP := Lib.hid (HO.out.put2 1 (s.extract i k))
        obtain ⟨y0, y1, y2, y3⟩ := cellsTokR HO.out.box
        obtain ⟨z0, z2, z3⟩ := frozenTok HO.out.box
        have hne := HO.out.ne
        rw [HR0.out.symm] at hne
        go_wp2_with (first
          | ((with_reducible refine wpList_store_row 42 (o := ⟨none, _, _, _, _, _⟩) ?a1 (.tmp 4) (.tmp 83) ?a2 w.heap.size ?a3 [.int .i64 1, .int .i64 (i : Nat), .string (s.extract i k), .int .i64 0] ?a4 ?a5 ?a6 #[.int .i64 0, .int .i64 0, .string ⟨#[]⟩, .int .i64 0] ?a7 42 ?a8 ?_); (case a1 => rfl); (case a2 => rfl); (case a3 => rw [← HR0.out]; rfl); (case a4 => kernel_rfl); (case a5 => exact oneTok _ _ _ _); (case a6 => rfl); (case a7 => rfl); (case a8 => exact HP.out.1); (try simp only [Act.put]); refine Stop.out ?_))
        unfold Stop
        go_wp2
        refine bodyPost_ret (results_tokR rfl _ _ w.heap.size _ _ _ _ (.int .i64 0) (by rw [← HR0.out]; rfl) rfl _ _ (setRow_heap _ _ _ _ _ _ HP.out.1)) rfl ⟨by rw [HVx.out], ?_⟩
        exact below_setRow HP.out.2 (Nat.le_refl _) _
  | false =>
    cases db with
    | true =>
      clear HG HLa
      have HV0 : Hid (isLb (bt s i) = false ∧ isDb (bt s i) = true) := Lib.hid ⟨HK.out.1.symm, HK.out.2.1.symm⟩
      go_wp2_with (first
        | (go_at_call 27; refine (HD.out _).mono ?_; rintro e w1 ⟨rfl, rfl⟩))
      clear hbt hi0 hi hii
      go_loopw [6] (fun v6 wr => ∃ k : Nat, v6 = .int .i64 (k : Nat) ∧ Hid (i ≤ k ∧ k ≤ s.size ∧ ∀ x, i ≤ x → x < k → isDb (bt s x) = true) ∧ W = wr) (fun v6 _ => leftI s.size v6)
      case atStart => exact ⟨i, rfl, Lib.hid ⟨Nat.le_refl _, Nat.le_of_lt HI.out, fun x h1 h2 => absurd h1 (by omega)⟩, by first | rfl | trivial⟩
      case round =>
        obtain ⟨k, rfl, HQ, rfl⟩ := hrel
        by_cases hk : k < s.size
        · have hk' : (k : Int) < (s.size : Int) := by omega
          have HB := Lib.hid (HDa.out (bt s k))
          obtain ⟨nk, hnk⟩ : ∃ nk, nk = (bt s k).toNat := ⟨_, rfl⟩
          have hbk : (s[k]'hk).toNat = nk := by rw [bt_at hk, hnk]
          rw [← hnk] at HB
          have HKt := Lib.hid hk
          have hwk := wrap1 (show k ≤ 1000000 by have := HS.out; omega)
          have HWk := Lib.hid hwk
          clear hnk
          cases hq : isDb (bt s k) with
          | true =>
            rw [hq] at HB
            have HB1 := Lib.hid hq
            clear hq
            go_wp2_with (first
              | (go_at_call 27; refine (HB.out _).mono ?_; rintro e w1 ⟨rfl, rfl⟩))
            go_roundw
            case rel => exact ⟨k + 1, by first | rfl | rw [hwk], Lib.hid ⟨Nat.le_succ_of_le HQ.out.1, HKt.out, fun x h1 h2 => by
              by_cases hx : x = k
              · rw [hx]; exact HB1.out
              · exact HQ.out.2.2 x h1 (by omega)⟩, by first | rfl | trivial⟩
            case measure => first | exact leftI_lt (Nat.lt_succ_self k) HKt.out | (rw [HWk.out]; exact leftI_lt (Nat.lt_succ_self k) HKt.out)
          | false =>
            rw [hq] at HB
            have HE : Hid (runE isDb s i = k) := Lib.hid (runE_is HQ.out.1 HQ.out.2.1 HQ.out.2.2 fun _ => hq)
            clear hq hwk HWk
            have hk2 : (k : Int) ≤ (s.size : Int) := by have := HQ.out; omega
            have hk3 : (i : Int) ≤ (k : Int) := by have := HQ.out; omega
            obtain ⟨m, hm⟩ : ∃ m, m = k - i := ⟨_, rfl⟩
            have hws : wrap64 ((k : Int) - (i : Int)) = (m : Int) := by have h1 := HQ.out; have h2 := HS.out; unfold wrap64; omega
            have HMm : Hid (m = k - i ∧ k = i + m) := Lib.hid ⟨hm, by have := HQ.out; omega⟩
            clear hm
            by_cases h18 : m ≤ 18
            · have h18' : (m : Int) ≤ (18 : Int) := by omega
              have H18 := Lib.hid h18
              have HV : Hid (oneV s i = .tuple #[tokA (2, (i : Nat), s.extract i k, (numD s i m : Nat)), .int .i64 0]) := Lib.hid (by
                unfold oneV tokAt
                rw [if_neg (by rw [HV0.out.1]; decide), if_pos HV0.out.2, HE.out, if_pos (by have := HMm.out; omega), HMm.out.1])
              have HVx := Lib.hid HV.out
              clear h18
              go_wp2_with (first
              | (go_at_call 27; refine (HB.out _).mono ?_; rintro e w1 ⟨rfl, rfl⟩)
                | (refine Stop.out ?_; fail))
              clear hws h18'
              go_loopw [8] (fun v8 wr => ∃ x : Nat, v8 = .int .i64 (i + x : Nat) ∧ Hid (x ≤ m ∧ OneW w g (0, (i : Nat), ⟨#[]⟩, (numD s i x : Nat)) wr)) (fun v8 _ => leftI k v8)
              case atStart => exact ⟨0, rfl, Lib.hid ⟨Nat.zero_le _, HO.out⟩⟩
              case round =>
                obtain ⟨x, rfl, HX⟩ := hrel
                by_cases hxm : x < m
                · obtain ⟨p, hp⟩ : ∃ p, p = i + x := ⟨_, rfl⟩
                  have hps : p < s.size := by have h1 := HMm.out; have h2 := HQ.out; omega
                  have hps' : (p : Int) < (s.size : Int) := by omega
                  have hpk : (p : Int) < (k : Int) := by have h1 := HMm.out; omega
                  obtain ⟨np, hnp⟩ : ∃ np, np = (bt s p).toNat := ⟨_, rfl⟩
                  have hbp : (s[p]'hps).toNat = np := by rw [bt_at hps, hnp]
                  have hdig : 48 ≤ np ∧ np ≤ 57 := by
                    have := HQ.out.2.2 p (by omega) (by have h1 := HMm.out; omega)
                    unfold isDb at this
                    simp only [Bool.and_eq_true, decide_eq_true_eq] at this
                    rw [← hnp] at this
                    exact this
                  obtain ⟨X, hX⟩ : ∃ X, X = numD s i x := ⟨_, rfl⟩
                  obtain ⟨d, hd⟩ : ∃ d, d = np - 48 := ⟨_, rfl⟩
                  obtain ⟨X10, hX10⟩ : ∃ X10, X10 = 10 * X := ⟨_, rfl⟩
                  obtain ⟨Y, hY⟩ : ∃ Y, Y = X10 + d := ⟨_, rfl⟩
                  have hYn : numD s i (x + 1) = Y := by
                    show 10 * numD s i x + ((bt s (i + x)).toNat - 48) = Y
                    rw [← hX, ← hp, ← hnp, ← hd, ← hX10, ← hY]
                  have hYl : Y < 1000000000000000000 := by
                    have h1 := numD_lt (s := s) (i := i) (x + 1) (fun j a b => HQ.out.2.2 j a (by have h1 := HMm.out; omega))
                    rw [hYn] at h1
                    have h2 : 10 ^ (x + 1) ≤ 10 ^ 18 := Nat.pow_le_pow_right (by decide) (by have := H18.out; omega)
                    have h3 : (10 : Nat) ^ 18 = 1000000000000000000 := by decide
                    omega
                  have HU : Hid (IntKind.u8.wrap ((np : Int) - 48) = (d : Int)) := Lib.hid (by unfold IntKind.wrap; simp [IntKind.bits, IntKind.signed]; omega)
                  have HT : Hid (IntKind.i64.wrap (10 * (X : Int)) = (X10 : Int)) := Lib.hid ((IntWalk.i64_left _).trans (by unfold wrap64; omega))
                  have HA : Hid (IntKind.i64.wrap ((X10 : Int) + (d : Int)) = (Y : Int)) := Lib.hid ((IntWalk.i64_left _).trans (by unfold wrap64; omega))
                  have HDl : Hid (IntKind.i64.wrap (d : Int) = (d : Int)) := Lib.hid ((IntWalk.i64_left _).trans (by unfold wrap64; omega))
                  have HPq : Hid (p = i + x ∧ x < m ∧ k = i + m) := Lib.hid ⟨hp, hxm, HMm.out.2⟩
                  have HYn := Lib.hid hYn
                  have HWp : Hid (wrap64 ((p : Int) + 1) = ((i + (x + 1) : Nat) : Int)) := Lib.hid (by have h2 := HS.out; rw [wrap1 (by omega), hp]; rfl)
                  rw [← hX] at HX
                  rw [← hp]
                  clear hp hnp hdig hX hd hX10 hY hYn hYl hxm
                  have HXd : Hid (OneW w g (0, (i : Nat), ⟨#[]⟩, (X : Nat)) wr.drew) := Lib.hid (HX.out.2.on (Below.refl _ _).drew)
                  have HXl := Lib.hid HX.out.1
                  go_wp2
                  refine wp_region_held_drew (S := fun _ => True) (by kernel_rfl) trivial ?_
                  intro hHeld
                  generalize wr.drew = wd at HXd hHeld ⊢
                  obtain ⟨y0, y1, y2, y3⟩ := cellsTokR HXd.out.box
                  obtain ⟨z0, z2, z3⟩ := frozenTok HXd.out.box
                  clear HX
                  (refine takeH (i := 0) (v := ?_) rfl (by kernel_rfl) (by kernel_rfl) (by kernel_rfl) (fun _ _ _ h => h) (Or.inl ⟨by rfl, ?_⟩) (by assumption) ?_; rotate_left; (focus ((intro wS hSw); (try dsimp only at hSw); skip; go_simp; (try with_reducible rfl); done)); (try simp only [Act.put, List.setIfInBounds_toArray, List.set_cons_zero, List.set_cons_succ]))
                  (refine takeH (i := 3) (v := ?_) rfl (by kernel_rfl) (by kernel_rfl) (by kernel_rfl) (fun _ _ _ h => h) (Or.inl ⟨by rfl, ?_⟩) (by assumption) ?_; rotate_left; (focus ((intro wS hSw); (try dsimp only at hSw); skip; go_simp; (try with_reducible rfl); done)); (try simp only [Act.put, List.setIfInBounds_toArray, List.set_cons_zero, List.set_cons_succ]))
                  (refine takeH (i := 4) (v := ?_) rfl (by kernel_rfl) (by kernel_rfl) (by kernel_rfl) (fun _ _ _ h => h) (Or.inl ⟨by rfl, ?_⟩) (by assumption) ?_; rotate_left; (focus ((intro wS hSw); (try dsimp only at hSw); skip; go_simp; (try with_reducible rfl); done)); (try simp only [Act.put, List.setIfInBounds_toArray, List.set_cons_zero, List.set_cons_succ]))
                  (refine takeH (i := 5) (v := ?_) rfl (by kernel_rfl) (by kernel_rfl) (by kernel_rfl) (fun _ _ _ h => h) (Or.inl ⟨by rfl, ?_⟩) (by assumption) ?_; rotate_left; (focus ((intro wS hSw); (try dsimp only at hSw); skip; go_simp; (try with_reducible rfl); done)); (try simp only [Act.put, List.setIfInBounds_toArray, List.set_cons_zero, List.set_cons_succ]))
                  (refine takeH (i := 6) (v := (.int .u8 (d : Nat))) rfl (by kernel_rfl) (by kernel_rfl) (by kernel_rfl) (fun _ _ _ h => h) (Or.inl ⟨by rfl, by (intro wS hSw); go_simp; (first | done | rw [HU.out])⟩) (by assumption) ?_; (try simp only [Act.put, List.setIfInBounds_toArray, List.set_cons_zero, List.set_cons_succ]))
                  (refine takeH (i := 7) (v := (.int .i64 (d : Nat))) rfl (by kernel_rfl) (by kernel_rfl) (by kernel_rfl) (fun _ _ _ h => h) (Or.inl ⟨by rfl, by (intro wS hSw); go_simp; (first | done | rw [HDl.out])⟩) (by assumption) ?_; (try simp only [Act.put, List.setIfInBounds_toArray, List.set_cons_zero, List.set_cons_succ]))
                  refine aloneH (i := 1) rfl (by kernel_rfl) (fun K hK => ?_)
                  rw [if_pos (by rfl)]
                  go_simp
                  refine hK.out _ _ (trivial) (fun hNew => ?_)
                  clear hK K hHeld; (have hHeld := hNew); clear hNew; (try simp only [Act.put, List.setIfInBounds_toArray, List.set_cons_zero, List.set_cons_succ])
                  (refine takeH (i := 2) (v := (.int .i64 (X10 : Nat))) rfl (by kernel_rfl) (by kernel_rfl) (by kernel_rfl) (fun _ _ _ h => h) (Or.inl ⟨by rfl, by (intro wS hSw); go_simp; (first | done | rw [HT.out])⟩) (by assumption) ?_; (try simp only [Act.put, List.setIfInBounds_toArray, List.set_cons_zero, List.set_cons_succ]))
                  (refine takeH (i := 8) (v := (.int .i64 (Y : Nat))) rfl (by kernel_rfl) (by kernel_rfl) (by kernel_rfl) (fun _ _ _ h => h) (Or.inl ⟨by rfl, by (intro wS hSw); go_simp; (first | done | rw [HA.out])⟩) (by assumption) ?_; (try simp only [Act.put, List.setIfInBounds_toArray, List.set_cons_zero, List.set_cons_succ]))
                  (refine takeH (i := 9) (v := ?_) rfl (by kernel_rfl) (by kernel_rfl) (by kernel_rfl) (fun _ _ _ h => h) (Or.inl ⟨by rfl, ?_⟩) (by assumption) ?_; rotate_left; (focus ((intro wS hSw); (try dsimp only at hSw); skip; go_simp; (try with_reducible rfl); done)); (try simp only [Act.put, List.setIfInBounds_toArray, List.set_cons_zero, List.set_cons_succ]))
                  refine aloneH (i := 10) rfl (by kernel_rfl) (fun K hK => ?_)
                  rw [if_pos (by rfl)]
                  go_simp
                  refine hK.out _ _ (trivial) (fun hNew => ?_)
                  clear hK K hHeld; (have hHeld := hNew); clear hNew; (try simp only [Act.put])
                  refine wpAnyH_done (by kernel_rfl) ?_ _
                  clear hHeld
                  have HZ := Lib.hid (HXd.out.put3 (n' := (Y : Nat)))
                  clear y0 y1 y2 y3 z0 z2 z3
                  generalize wd.setCell ⟨g, 3, none⟩ (.int .i64 (Y : Nat)) = we at HZ ⊢
                  clear HXd
                  go_wp2
                  go_roundw
                  case rel => exact ⟨x + 1, by first | rfl | rw [HWp.out], Lib.hid ⟨HPq.out.2.1, by rw [HYn.out]; exact HZ.out⟩⟩
                  case measure => rw [HWp.out, HPq.out.1]; exact leftI_lt (Nat.lt_succ_self _) (by have := HPq.out; omega)
                · have hxe : x = m := by have := HX.out.1; omega
                  subst hxe
                  have hpk : (k : Int) ≤ ((i + x : Nat) : Int) := by have := HMm.out; omega
                  have hpk' : ¬ ((i + x : Nat) : Int) < (k : Int) := by have := HMm.out; omega
                  have HO2 := Lib.hid HX.out.2
                  clear HX hxm
                  obtain ⟨X, hX⟩ : ∃ X, X = numD s i x := ⟨_, rfl⟩
                  rw [← hX] at HO2 HVx
                  have HP := Lib.hid (HO2.out.put2 2 (s.extract i k))
                  obtain ⟨y0, y1, y2, y3⟩ := cellsTokR HO2.out.box
                  obtain ⟨z0, z2, z3⟩ := frozenTok HO2.out.box
                  have hne := HO2.out.ne
                  rw [HR0.out.symm] at hne
                  clear hX
                  go_wp2_with (first
                    | ((with_reducible refine wpList_store_row 42 (o := ⟨none, _, _, _, _, _⟩) ?a1 (.tmp 4) (.tmp 83) ?a2 w.heap.size ?a3 [.int .i64 2, .int .i64 (i : Nat), .string (s.extract i k), .int .i64 (X : Nat)] ?a4 ?a5 ?a6 #[.int .i64 0, .int .i64 0, .string ⟨#[]⟩, .int .i64 0] ?a7 42 ?a8 ?_); (case a1 => rfl); (case a2 => rfl); (case a3 => rw [← HR0.out]; rfl); (case a4 => kernel_rfl); (case a5 => exact oneTok _ _ _ _); (case a6 => rfl); (case a7 => rfl); (case a8 => exact HP.out.1); (try simp only [Act.put]); refine Stop.out ?_))
                  unfold Stop
                  go_wp2
                  refine bodyPost_ret (results_tokR rfl _ _ w.heap.size _ _ _ _ (.int .i64 0) (by rw [← HR0.out]; rfl) rfl _ _ (setRow_heap _ _ _ _ _ _ HP.out.1)) rfl ⟨by rw [HVx.out], ?_⟩
                  exact below_setRow HP.out.2 (Nat.le_refl _) _
            · have h18' : ¬ (m : Int) ≤ (18 : Int) := by omega
              have h18'' : (18 : Int) < (m : Int) := by omega
              have HV : Hid (oneV s i = .tuple #[tokA noTok, .int .i64 80]) := Lib.hid (by
                unfold oneV tokAt
                rw [if_neg (by rw [HV0.out.1]; decide), if_pos HV0.out.2, HE.out, if_neg (by have := HMm.out; omega)])
              have HVx := Lib.hid HV.out
              clear h18
              go_wp2_with (first
              | (go_at_call 27; refine (HB.out _).mono ?_; rintro e w1 ⟨rfl, rfl⟩)
                | ((with_reducible refine wpList_store_row 42 (o := ⟨none, _, _, _, _, _⟩) ?a1 (.tmp 4) (.tmp 52) ?a2 w.heap.size ?a3 [.int .i64 0, .int .i64 0, .string ⟨#[]⟩, .int .i64 0] ?a4 ?a5 ?a6 #[.int .i64 0, .int .i64 0, .string ⟨#[]⟩, .int .i64 0] ?a7 42 ?a8 ?_); (case a1 => rfl); (case a2 => rfl); (case a3 => rw [← HR0.out]; rfl); (case a4 => kernel_rfl); (case a5 => exact oneTok _ _ _ _); (case a6 => rfl); (case a7 => rfl); (case a8 => exact HO.out.res); (try simp only [Act.put]); refine Stop.out ?_))
              unfold Stop
              go_wp2
              refine bodyPost_ret (results_tokR rfl _ _ w.heap.size _ _ _ _ (.int .i64 80) (by rw [← HR0.out]; rfl) rfl _ _ (setRow_heap _ _ _ _ _ _ HO.out.res)) rfl ⟨by rw [HVx.out], ?_⟩
              exact below_setRow HO.out.low (Nat.le_refl _) _
        · have hk' : (s.size : Int) ≤ (k : Int) := by omega
          have HE : Hid (runE isDb s i = k) := Lib.hid (runE_is HQ.out.1 HQ.out.2.1 HQ.out.2.2 fun h => absurd h hk)
          clear hk
          have hk2 : (k : Int) ≤ (s.size : Int) := by have := HQ.out; omega
          have hk3 : (i : Int) ≤ (k : Int) := by have := HQ.out; omega
          obtain ⟨m, hm⟩ : ∃ m, m = k - i := ⟨_, rfl⟩
          have hws : wrap64 ((k : Int) - (i : Int)) = (m : Int) := by have h1 := HQ.out; have h2 := HS.out; unfold wrap64; omega
          have HMm : Hid (m = k - i ∧ k = i + m) := Lib.hid ⟨hm, by have := HQ.out; omega⟩
          clear hm
          by_cases h18 : m ≤ 18
          · have h18' : (m : Int) ≤ (18 : Int) := by omega
            have H18 := Lib.hid h18
            have HV : Hid (oneV s i = .tuple #[tokA (2, (i : Nat), s.extract i k, (numD s i m : Nat)), .int .i64 0]) := Lib.hid (by
              unfold oneV tokAt
              rw [if_neg (by rw [HV0.out.1]; decide), if_pos HV0.out.2, HE.out, if_pos (by have := HMm.out; omega), HMm.out.1])
            have HVx := Lib.hid HV.out
            clear h18
            go_wp2_with (first
              | (refine Stop.out ?_; fail))
            clear hws h18'
            go_loopw [8] (fun v8 wr => ∃ x : Nat, v8 = .int .i64 (i + x : Nat) ∧ Hid (x ≤ m ∧ OneW w g (0, (i : Nat), ⟨#[]⟩, (numD s i x : Nat)) wr)) (fun v8 _ => leftI k v8)
            case atStart => exact ⟨0, rfl, Lib.hid ⟨Nat.zero_le _, HO.out⟩⟩
            case round =>
              obtain ⟨x, rfl, HX⟩ := hrel
              by_cases hxm : x < m
              · obtain ⟨p, hp⟩ : ∃ p, p = i + x := ⟨_, rfl⟩
                have hps : p < s.size := by have h1 := HMm.out; have h2 := HQ.out; omega
                have hps' : (p : Int) < (s.size : Int) := by omega
                have hpk : (p : Int) < (k : Int) := by have h1 := HMm.out; omega
                obtain ⟨np, hnp⟩ : ∃ np, np = (bt s p).toNat := ⟨_, rfl⟩
                have hbp : (s[p]'hps).toNat = np := by rw [bt_at hps, hnp]
                have hdig : 48 ≤ np ∧ np ≤ 57 := by
                  have := HQ.out.2.2 p (by omega) (by have h1 := HMm.out; omega)
                  unfold isDb at this
                  simp only [Bool.and_eq_true, decide_eq_true_eq] at this
                  rw [← hnp] at this
                  exact this
                obtain ⟨X, hX⟩ : ∃ X, X = numD s i x := ⟨_, rfl⟩
                obtain ⟨d, hd⟩ : ∃ d, d = np - 48 := ⟨_, rfl⟩
                obtain ⟨X10, hX10⟩ : ∃ X10, X10 = 10 * X := ⟨_, rfl⟩
                obtain ⟨Y, hY⟩ : ∃ Y, Y = X10 + d := ⟨_, rfl⟩
                have hYn : numD s i (x + 1) = Y := by
                  show 10 * numD s i x + ((bt s (i + x)).toNat - 48) = Y
                  rw [← hX, ← hp, ← hnp, ← hd, ← hX10, ← hY]
                have hYl : Y < 1000000000000000000 := by
                  have h1 := numD_lt (s := s) (i := i) (x + 1) (fun j a b => HQ.out.2.2 j a (by have h1 := HMm.out; omega))
                  rw [hYn] at h1
                  have h2 : 10 ^ (x + 1) ≤ 10 ^ 18 := Nat.pow_le_pow_right (by decide) (by have := H18.out; omega)
                  have h3 : (10 : Nat) ^ 18 = 1000000000000000000 := by decide
                  omega
                have HU : Hid (IntKind.u8.wrap ((np : Int) - 48) = (d : Int)) := Lib.hid (by unfold IntKind.wrap; simp [IntKind.bits, IntKind.signed]; omega)
                have HT : Hid (IntKind.i64.wrap (10 * (X : Int)) = (X10 : Int)) := Lib.hid ((IntWalk.i64_left _).trans (by unfold wrap64; omega))
                have HA : Hid (IntKind.i64.wrap ((X10 : Int) + (d : Int)) = (Y : Int)) := Lib.hid ((IntWalk.i64_left _).trans (by unfold wrap64; omega))
                have HDl : Hid (IntKind.i64.wrap (d : Int) = (d : Int)) := Lib.hid ((IntWalk.i64_left _).trans (by unfold wrap64; omega))
                have HPq : Hid (p = i + x ∧ x < m ∧ k = i + m) := Lib.hid ⟨hp, hxm, HMm.out.2⟩
                have HYn := Lib.hid hYn
                have HWp : Hid (wrap64 ((p : Int) + 1) = ((i + (x + 1) : Nat) : Int)) := Lib.hid (by have h2 := HS.out; rw [wrap1 (by omega), hp]; rfl)
                rw [← hX] at HX
                rw [← hp]
                clear hp hnp hdig hX hd hX10 hY hYn hYl hxm
                have HXd : Hid (OneW w g (0, (i : Nat), ⟨#[]⟩, (X : Nat)) wr.drew) := Lib.hid (HX.out.2.on (Below.refl _ _).drew)
                have HXl := Lib.hid HX.out.1
                go_wp2
                refine wp_region_held_drew (S := fun _ => True) (by kernel_rfl) trivial ?_
                intro hHeld
                generalize wr.drew = wd at HXd hHeld ⊢
                obtain ⟨y0, y1, y2, y3⟩ := cellsTokR HXd.out.box
                obtain ⟨z0, z2, z3⟩ := frozenTok HXd.out.box
                clear HX
                (refine takeH (i := 0) (v := ?_) rfl (by kernel_rfl) (by kernel_rfl) (by kernel_rfl) (fun _ _ _ h => h) (Or.inl ⟨by rfl, ?_⟩) (by assumption) ?_; rotate_left; (focus ((intro wS hSw); (try dsimp only at hSw); skip; go_simp; (try with_reducible rfl); done)); (try simp only [Act.put, List.setIfInBounds_toArray, List.set_cons_zero, List.set_cons_succ]))
                (refine takeH (i := 3) (v := ?_) rfl (by kernel_rfl) (by kernel_rfl) (by kernel_rfl) (fun _ _ _ h => h) (Or.inl ⟨by rfl, ?_⟩) (by assumption) ?_; rotate_left; (focus ((intro wS hSw); (try dsimp only at hSw); skip; go_simp; (try with_reducible rfl); done)); (try simp only [Act.put, List.setIfInBounds_toArray, List.set_cons_zero, List.set_cons_succ]))
                (refine takeH (i := 4) (v := ?_) rfl (by kernel_rfl) (by kernel_rfl) (by kernel_rfl) (fun _ _ _ h => h) (Or.inl ⟨by rfl, ?_⟩) (by assumption) ?_; rotate_left; (focus ((intro wS hSw); (try dsimp only at hSw); skip; go_simp; (try with_reducible rfl); done)); (try simp only [Act.put, List.setIfInBounds_toArray, List.set_cons_zero, List.set_cons_succ]))
                (refine takeH (i := 5) (v := ?_) rfl (by kernel_rfl) (by kernel_rfl) (by kernel_rfl) (fun _ _ _ h => h) (Or.inl ⟨by rfl, ?_⟩) (by assumption) ?_; rotate_left; (focus ((intro wS hSw); (try dsimp only at hSw); skip; go_simp; (try with_reducible rfl); done)); (try simp only [Act.put, List.setIfInBounds_toArray, List.set_cons_zero, List.set_cons_succ]))
                (refine takeH (i := 6) (v := (.int .u8 (d : Nat))) rfl (by kernel_rfl) (by kernel_rfl) (by kernel_rfl) (fun _ _ _ h => h) (Or.inl ⟨by rfl, by (intro wS hSw); go_simp; (first | done | rw [HU.out])⟩) (by assumption) ?_; (try simp only [Act.put, List.setIfInBounds_toArray, List.set_cons_zero, List.set_cons_succ]))
                (refine takeH (i := 7) (v := (.int .i64 (d : Nat))) rfl (by kernel_rfl) (by kernel_rfl) (by kernel_rfl) (fun _ _ _ h => h) (Or.inl ⟨by rfl, by (intro wS hSw); go_simp; (first | done | rw [HDl.out])⟩) (by assumption) ?_; (try simp only [Act.put, List.setIfInBounds_toArray, List.set_cons_zero, List.set_cons_succ]))
                refine aloneH (i := 1) rfl (by kernel_rfl) (fun K hK => ?_)
                rw [if_pos (by rfl)]
                go_simp
                refine hK.out _ _ (trivial) (fun hNew => ?_)
                clear hK K hHeld; (have hHeld := hNew); clear hNew; (try simp only [Act.put, List.setIfInBounds_toArray, List.set_cons_zero, List.set_cons_succ])
                (refine takeH (i := 2) (v := (.int .i64 (X10 : Nat))) rfl (by kernel_rfl) (by kernel_rfl) (by kernel_rfl) (fun _ _ _ h => h) (Or.inl ⟨by rfl, by (intro wS hSw); go_simp; (first | done | rw [HT.out])⟩) (by assumption) ?_; (try simp only [Act.put, List.setIfInBounds_toArray, List.set_cons_zero, List.set_cons_succ]))
                (refine takeH (i := 8) (v := (.int .i64 (Y : Nat))) rfl (by kernel_rfl) (by kernel_rfl) (by kernel_rfl) (fun _ _ _ h => h) (Or.inl ⟨by rfl, by (intro wS hSw); go_simp; (first | done | rw [HA.out])⟩) (by assumption) ?_; (try simp only [Act.put, List.setIfInBounds_toArray, List.set_cons_zero, List.set_cons_succ]))
                (refine takeH (i := 9) (v := ?_) rfl (by kernel_rfl) (by kernel_rfl) (by kernel_rfl) (fun _ _ _ h => h) (Or.inl ⟨by rfl, ?_⟩) (by assumption) ?_; rotate_left; (focus ((intro wS hSw); (try dsimp only at hSw); skip; go_simp; (try with_reducible rfl); done)); (try simp only [Act.put, List.setIfInBounds_toArray, List.set_cons_zero, List.set_cons_succ]))
                refine aloneH (i := 10) rfl (by kernel_rfl) (fun K hK => ?_)
                rw [if_pos (by rfl)]
                go_simp
                refine hK.out _ _ (trivial) (fun hNew => ?_)
                clear hK K hHeld; (have hHeld := hNew); clear hNew; (try simp only [Act.put])
                refine wpAnyH_done (by kernel_rfl) ?_ _
                clear hHeld
                have HZ := Lib.hid (HXd.out.put3 (n' := (Y : Nat)))
                clear y0 y1 y2 y3 z0 z2 z3
                generalize wd.setCell ⟨g, 3, none⟩ (.int .i64 (Y : Nat)) = we at HZ ⊢
                clear HXd
                go_wp2
                go_roundw
                case rel => exact ⟨x + 1, by first | rfl | rw [HWp.out], Lib.hid ⟨HPq.out.2.1, by rw [HYn.out]; exact HZ.out⟩⟩
                case measure => rw [HWp.out, HPq.out.1]; exact leftI_lt (Nat.lt_succ_self _) (by have := HPq.out; omega)
              · have hxe : x = m := by have := HX.out.1; omega
                subst hxe
                have hpk : (k : Int) ≤ ((i + x : Nat) : Int) := by have := HMm.out; omega
                have hpk' : ¬ ((i + x : Nat) : Int) < (k : Int) := by have := HMm.out; omega
                have HO2 := Lib.hid HX.out.2
                clear HX hxm
                obtain ⟨X, hX⟩ : ∃ X, X = numD s i x := ⟨_, rfl⟩
                rw [← hX] at HO2 HVx
                have HP := Lib.hid (HO2.out.put2 2 (s.extract i k))
                obtain ⟨y0, y1, y2, y3⟩ := cellsTokR HO2.out.box
                obtain ⟨z0, z2, z3⟩ := frozenTok HO2.out.box
                have hne := HO2.out.ne
                rw [HR0.out.symm] at hne
                clear hX
                go_wp2_with (first
                  | ((with_reducible refine wpList_store_row 42 (o := ⟨none, _, _, _, _, _⟩) ?a1 (.tmp 4) (.tmp 83) ?a2 w.heap.size ?a3 [.int .i64 2, .int .i64 (i : Nat), .string (s.extract i k), .int .i64 (X : Nat)] ?a4 ?a5 ?a6 #[.int .i64 0, .int .i64 0, .string ⟨#[]⟩, .int .i64 0] ?a7 42 ?a8 ?_); (case a1 => rfl); (case a2 => rfl); (case a3 => rw [← HR0.out]; rfl); (case a4 => kernel_rfl); (case a5 => exact oneTok _ _ _ _); (case a6 => rfl); (case a7 => rfl); (case a8 => exact HP.out.1); (try simp only [Act.put]); refine Stop.out ?_))
                unfold Stop
                go_wp2
                refine bodyPost_ret (results_tokR rfl _ _ w.heap.size _ _ _ _ (.int .i64 0) (by rw [← HR0.out]; rfl) rfl _ _ (setRow_heap _ _ _ _ _ _ HP.out.1)) rfl ⟨by rw [HVx.out], ?_⟩
                exact below_setRow HP.out.2 (Nat.le_refl _) _
          · have h18' : ¬ (m : Int) ≤ (18 : Int) := by omega
            have h18'' : (18 : Int) < (m : Int) := by omega
            have HV : Hid (oneV s i = .tuple #[tokA noTok, .int .i64 80]) := Lib.hid (by
              unfold oneV tokAt
              rw [if_neg (by rw [HV0.out.1]; decide), if_pos HV0.out.2, HE.out, if_neg (by have := HMm.out; omega)])
            have HVx := Lib.hid HV.out
            clear h18
            go_wp2_with (first
              | ((with_reducible refine wpList_store_row 42 (o := ⟨none, _, _, _, _, _⟩) ?a1 (.tmp 4) (.tmp 52) ?a2 w.heap.size ?a3 [.int .i64 0, .int .i64 0, .string ⟨#[]⟩, .int .i64 0] ?a4 ?a5 ?a6 #[.int .i64 0, .int .i64 0, .string ⟨#[]⟩, .int .i64 0] ?a7 42 ?a8 ?_); (case a1 => rfl); (case a2 => rfl); (case a3 => rw [← HR0.out]; rfl); (case a4 => kernel_rfl); (case a5 => exact oneTok _ _ _ _); (case a6 => rfl); (case a7 => rfl); (case a8 => exact HO.out.res); (try simp only [Act.put]); refine Stop.out ?_))
            unfold Stop
            go_wp2
            refine bodyPost_ret (results_tokR rfl _ _ w.heap.size _ _ _ _ (.int .i64 80) (by rw [← HR0.out]; rfl) rfl _ _ (setRow_heap _ _ _ _ _ _ HO.out.res)) rfl ⟨by rw [HVx.out], ?_⟩
            exact below_setRow HO.out.low (Nat.le_refl _) _
    | false =>
      cases sb with
      | true =>
        have hv : oneV s i = .tuple #[tokA (3, (i : Nat), s.extract i (i + 1), 0), .int .i64 0] := by
          unfold oneV tokAt
          rw [if_neg (by rw [← HK.out.1]; decide), if_neg (by rw [← HK.out.2.1]; decide), if_pos HK.out.2.2.symm]
        have HVx := Lib.hid hv
        have hk2 : ((i + 1 : Nat) : Int) ≤ (s.size : Int) := by omega
        have hk3 : (i : Int) ≤ ((i + 1 : Nat) : Int) := by omega
        have hwk := wrap1 (show i ≤ 1000000 by have := HS.out; have := HI.out; omega)
        obtain ⟨k, hkk⟩ : ∃ k, k = i + 1 := ⟨_, rfl⟩
        rw [← hkk] at hk2 hk3 hwk HVx
        clear hv HLa HDa hkk
        have HP := Lib.hid (HO.out.put2 3 (s.extract i k))
        obtain ⟨y0, y1, y2, y3⟩ := cellsTokR HO.out.box
        obtain ⟨z0, z2, z3⟩ := frozenTok HO.out.box
        have hne := HO.out.ne
        rw [HR0.out.symm] at hne
        go_wp2_with (first
          | (go_at_call 27; refine (HD.out _).mono ?_; rintro e w1 ⟨rfl, rfl⟩)
          | (go_at_call 28; refine (HG.out _).mono ?_; rintro e w1 ⟨rfl, rfl⟩)
          | ((with_reducible refine wpList_store_row 42 (o := ⟨none, _, _, _, _, _⟩) ?a1 (.tmp 4) (.tmp 83) ?a2 w.heap.size ?a3 [.int .i64 3, .int .i64 (i : Nat), .string (s.extract i k), .int .i64 0] ?a4 ?a5 ?a6 #[.int .i64 0, .int .i64 0, .string ⟨#[]⟩, .int .i64 0] ?a7 42 ?a8 ?_); (case a1 => rfl); (case a2 => rfl); (case a3 => rw [← HR0.out]; rfl); (case a4 => kernel_rfl); (case a5 => exact oneTok _ _ _ _); (case a6 => rfl); (case a7 => rfl); (case a8 => exact HP.out.1); (try simp only [Act.put]); refine Stop.out ?_))
        unfold Stop
        go_wp2
        refine bodyPost_ret (results_tokR rfl _ _ w.heap.size _ _ _ _ (.int .i64 0) (by rw [← HR0.out]; rfl) rfl _ _ (setRow_heap _ _ _ _ _ _ HP.out.1)) rfl ⟨by rw [HVx.out], ?_⟩
        exact below_setRow HP.out.2 (Nat.le_refl _) _
      | false =>
        have hv : oneV s i = .tuple #[tokA noTok, .int .i64 80] := by
          unfold oneV tokAt
          rw [if_neg (by rw [← HK.out.1]; decide), if_neg (by rw [← HK.out.2.1]; decide), if_neg (by rw [← HK.out.2.2]; decide)]
        have HVx := Lib.hid hv
        clear hv HLa HDa
        go_wp2_with (first
          | (go_at_call 27; refine (HD.out _).mono ?_; rintro e w1 ⟨rfl, rfl⟩)
          | (go_at_call 28; refine (HG.out _).mono ?_; rintro e w1 ⟨rfl, rfl⟩)
          | ((with_reducible refine wpList_store_row 42 (o := ⟨none, _, _, _, _, _⟩) ?a1 (.tmp 4) (.tmp 12) ?a2 w.heap.size ?a3 [.int .i64 0, .int .i64 0, .string ⟨#[]⟩, .int .i64 0] ?a4 ?a5 ?a6 #[.int .i64 0, .int .i64 0, .string ⟨#[]⟩, .int .i64 0] ?a7 42 ?a8 ?_); (case a1 => rfl); (case a2 => rfl); (case a3 => rw [← HR0.out]; rfl); (case a4 => kernel_rfl); (case a5 => exact oneTok _ _ _ _); (case a6 => rfl); (case a7 => rfl); (case a8 => exact HO.out.res); (try simp only [Act.put]); refine Stop.out ?_))
        unfold Stop
        go_wp2
        refine bodyPost_ret (results_tokR rfl _ _ w.heap.size _ _ _ _ (.int .i64 80) (by rw [← HR0.out]; rfl) rfl _ _ (setRow_heap _ _ _ _ _ _ HO.out.res)) rfl ⟨by rw [HVx.out], ?_⟩
        exact below_setRow HO.out.low (Nat.le_refl _) _
end Go.Proofs.YtfjecohokmelfaaDoor
