/- However deep: the walk. What the rows list: a start that meets it; the wrap that hands on the listed variables and the sizes of what came in. -/
import Derived.Test.YtpapcnogbmjpjaaGreatDoorK41
import Derived.Test.YtpapcnogbmjpjaaGreatDoorK1
import Derived.Test.YtpapcnogbmjpjaaGreatDoorRows
import Derived.Test.YtpapcnogbmjpjaaGreatDoorK3
import Derived.HandedShaped
import Derived.LaidMore
import Derived.MakeChecks
namespace Go.Proofs.YtpapcnogbmjpjaaGreatDoor
open Go.RowKit
set_option maxRecDepth 100000
set_option linter.unusedSimpArgs false
set_option linter.unusedVariables false
attribute [local go_sem] Oper.semAt_some

def repT (o : UInt8) (n : Nat) : ByteArray := ⟨(List.replicate n o).toArray⟩
theorem repT_size (o : UInt8) (n : Nat) : (repT o n).size = n := by
  show (List.replicate n o).toArray.size = n
  rw [List.size_toArray, List.length_replicate]
theorem mk_app (a b : List UInt8) : (⟨a.toArray⟩ : ByteArray) ++ (⟨b.toArray⟩ : ByteArray) = ⟨(a ++ b).toArray⟩ := by
  rw [ByteArray.mk_append_mk]
  try rw [List.append_toArray]
theorem repT_next (o : UInt8) (n : Nat) : repT o n ++ ⟨#[o]⟩ = repT o (n + 1) := by
  show (⟨(List.replicate n o).toArray⟩ : ByteArray) ++ (⟨[o].toArray⟩ : ByteArray) = ⟨(List.replicate (n + 1) o).toArray⟩
  rw [mk_app, List.replicate_succ']
theorem repT_one (o c : UInt8) (n : Nat) : repT o n ++ ⟨#[49]⟩ = deepT o c n 0 := by
  show (⟨(List.replicate n o).toArray⟩ : ByteArray) ++ (⟨[49].toArray⟩ : ByteArray) = ⟨(List.replicate n o ++ [49] ++ List.replicate 0 c).toArray⟩
  rw [mk_app, List.replicate_zero, List.append_nil]
theorem deepT_next (o c : UInt8) (n m : Nat) : deepT o c n m ++ ⟨#[c]⟩ = deepT o c n (m + 1) := by
  show (⟨(deepL o c n m).toArray⟩ : ByteArray) ++ (⟨[c].toArray⟩ : ByteArray) = ⟨(deepL o c n (m + 1)).toArray⟩
  rw [mk_app, deepL, deepL, List.replicate_succ' (n := m), ← List.append_assoc]
theorem deepT_none (o c : UInt8) (n m : Nat) : deepT o c n m ++ ⟨#[]⟩ = deepT o c n m := by
  show (⟨(deepL o c n m).toArray⟩ : ByteArray) ++ (⟨[].toArray⟩ : ByteArray) = ⟨(deepL o c n m).toArray⟩
  rw [mk_app, List.append_nil]
set_option maxHeartbeats 8000000 in
theorem deep_open (k : Int) (m : Nat) (w : World) (hm : m ≤ 200) (hk : k.tmod 2 = 0) : Calls Tryz.prog 4 #[.int .i64 k, .int .i64 (m : Nat)] w fun e w' => e = .returned (.bool true) ∧ Below w.heap.size w w' := by
  have hmi : (m : Int) ≤ 200 := by omega
  have HA1 : Hid (∀ (j : Nat) W, j ≤ 200 → (Op.stringOp .add (repT 40 j) ⟨#[40]⟩).run Tryz.prog W = .ok (.string (repT 40 (j + 1))) W) := Lib.hid (fun j W hj => by
    rw [run_string_add_sum W _ _ (by rw [repT_size]; show j + 1 ≤ _; omega), repT_next])
  have HA2 : Hid (∀ W, (Op.stringOp .add (repT 40 m) ⟨#[49]⟩).run Tryz.prog W = .ok (.string (deepT 40 41 m 0)) W) := Lib.hid (fun W => by
    rw [run_string_add_sum W _ _ (by rw [repT_size]; show m + 1 ≤ _; omega), repT_one])
  have HA3 : Hid (∀ (j : Nat) W, j ≤ 200 → (Op.stringOp .add (deepT 40 41 m j) ⟨#[41]⟩).run Tryz.prog W = .ok (.string (deepT 40 41 m (j + 1))) W) := Lib.hid (fun j W hj => by
    rw [run_string_add_sum W _ _ (by rw [deepT_size]; show _ + 1 ≤ _; omega), deepT_next])
  have HRd := Lib.hid (deep_read (o := 40) (c := 41) (by decide) (by decide) m m (by have := List.all_eq_true.1 deep_opens m (List.mem_range.2 (by omega)); rw [show 2 * m + 1 = m + 1 + m by omega] at this; exact this))
  have HEx := Lib.hid (fun W => code_Expr (deepT 40 41 m m) W (by rw [deepT_size]; omega))
  go_enter Tryz.func4, Tryz.ntmps4
  go_wp2
  go_loopw [7, 22] (fun v7 v22 wr => ∃ j : Nat, j ≤ m ∧ v22 = .int .i64 (j : Nat) ∧ v7 = .string (repT 40 j) ∧ w = wr) (fun _ v22 _ => m - (intOf v22).toNat)
  case atStart => exact ⟨0, Nat.zero_le _, rfl, rfl, rfl⟩
  case round =>
    obtain ⟨j, hj, rfl, rfl, hw⟩ := hrel
    subst hw
    by_cases hlt : j < m
    · have h1 := HA1.out j w (by omega)
      go_wp2
      exact ⟨⟨j + 1, by omega, by first | rfl | simp, rfl, trivial⟩, by simp [intOf]; omega⟩
    · obtain rfl : j = m := by omega
      have h2 := HA2.out w
      go_wp2
      clear h2 hlt hj
      go_loopw [7, 31] (fun v7 v31 wr => ∃ i : Nat, i ≤ j ∧ v31 = .int .i64 (i : Nat) ∧ v7 = .string (deepT 40 41 j i) ∧ w = wr) (fun _ v31 _ => j - (intOf v31).toNat)
      case atStart => exact ⟨0, Nat.zero_le _, rfl, rfl, rfl⟩
      case round =>
        obtain ⟨i, hi, rfl, rfl, hw⟩ := hrel
        subst hw
        by_cases hlt : i < j
        · have h3 := HA3.out i w (by omega)
          go_wp2
          exact ⟨⟨i + 1, by omega, by first | rfl | simp, rfl, trivial⟩, by simp [intOf]; omega⟩
        · obtain rfl : i = j := by omega
          clear HA1 HA2 HA3 hlt hi
          have hx := HEx.out w
          rcases HRd.out with ⟨h64, hrd⟩ | ⟨h64, l, hrd⟩
          · rw [hrd] at hx
            have HX := Lib.hid hx
            have hz : (64 : Int) ≤ (i : Int) := by omega
            clear hx hrd h64 HRd HEx
            go_wp2_with (go_at_call 8; refine HX.out.mono ?_; rintro e w2 ⟨rfl, hb⟩; refine Stop.out ?_)
            unfold Stop
            have HB := Lib.hid hb
            have HN := Lib.hid (heap_alloc_new w2 (.cells #[.int .i64 0, .int .i64 0, .string ⟨#[]⟩, .slice none 0 0, .slice none 0 0] 32))
            have HBF := Lib.hid (box_row w2 #[.int .i64 0, .int .i64 0, .string ⟨#[]⟩, .slice none 0 0, .slice none 0 0] #[.int .i64 0, .int .i64 0, .string ⟨#[]⟩, .slice none 0 0, .slice none 0 0] 32 rfl)
            clear hb HX
            go_wp2_with ((with_reducible refine wpList_store_row (o := ⟨none, _, _, _, _, _⟩) 32 ?b0 (.tmp 8) (.tmp 40) ?b1 w2.heap.size ?b2 [.int .i64 0, .int .i64 0, .string ⟨#[]⟩, .slice none 0 0, .slice none 0 0] ?b3 ?b4 ?b5 #[.int .i64 0, .int .i64 0, .string ⟨#[]⟩, .slice none 0 0, .slice none 0 0] ?b6 32 ?b7 ?_); (case b0 => rfl); (case b1 => rfl); (case b2 => rfl); (case b3 => exact expr_info); (case b4 => simp [Value.oneCell']); (case b5 => rfl); (case b6 => rfl); (case b7 => exact HN.out); (try simp only [Act.put]); refine Stop.out ?_)
            unfold Stop
            generalize World.setRow _ _ _ = w3 at HBF ⊢
            have HB3 := Lib.hid (HB.out.trans (HBF.out.1.mono HB.out.size))
            clear HBF HB HN
            go_wp2_with (go_at_call 5; refine (code_lives _).mono ?_; rintro e w4 ⟨rfl, hb⟩; refine Stop.out ?_)
            unfold Stop
            have HFin := Lib.hid (HB3.out.trans (hb.mono HB3.out.size))
            clear hb
            go_wp2
            go_ret
            exact ⟨rfl, HFin.out⟩
          · rw [hrd] at hx
            have HX := Lib.hid hx
            have hz : (i : Int) < (64 : Int) := by omega
            clear hx hrd h64 HRd HEx
            go_wp2_with (go_at_call 8; refine HX.out.mono ?_; rintro e w2 ⟨k, n, fd, fA, fn, fc, kv, kb, kc, ks, x, hsx, rfl, hkv, ht, hb⟩; refine Stop.out ?_)
            unfold Stop
            obtain ⟨KA, KN, KC, rfl⟩ := kids_slice hkv.out
            have HB := Lib.hid hb
            have HN := Lib.hid (heap_alloc_new w2 (.cells #[.int .i64 0, .int .i64 0, .string ⟨#[]⟩, .slice none 0 0, .slice none 0 0] 32))
            have HBF := Lib.hid (box_row w2 #[.int .i64 0, .int .i64 0, .string ⟨#[]⟩, .slice none 0 0, .slice none 0 0] #[.int .i64 k, .int .i64 n, .string fd, .slice fA fn fc, .slice KA KN KC] 32 rfl)
            clear hb HX hsx hkv ht
            go_wp2_with ((with_reducible refine wpList_store_row (o := ⟨none, _, _, _, _, _⟩) 32 ?b0 (.tmp 8) (.tmp 40) ?b1 w2.heap.size ?b2 [.int .i64 k, .int .i64 n, .string fd, .slice fA fn fc, .slice KA KN KC] ?b3 ?b4 ?b5 #[.int .i64 0, .int .i64 0, .string ⟨#[]⟩, .slice none 0 0, .slice none 0 0] ?b6 32 ?b7 ?_); (case b0 => rfl); (case b1 => rfl); (case b2 => rfl); (case b3 => exact expr_info); (case b4 => simp [Value.oneCell']); (case b5 => rfl); (case b6 => rfl); (case b7 => exact HN.out); (try simp only [Act.put]); refine Stop.out ?_)
            unfold Stop
            generalize World.setRow _ _ _ = w3 at HBF ⊢
            have HB3 := Lib.hid (HB.out.trans (HBF.out.1.mono HB.out.size))
            clear HBF HB HN
            go_wp2_with (go_at_call 5; refine (code_lives _).mono ?_; rintro e w4 ⟨rfl, hb⟩; refine Stop.out ?_)
            unfold Stop
            have HFin := Lib.hid (HB3.out.trans (hb.mono HB3.out.size))
            clear hb
            go_wp2
            go_ret
            exact ⟨rfl, HFin.out⟩
set_option maxHeartbeats 8000000 in
theorem deep_sign (k : Int) (m : Nat) (w : World) (hm : m ≤ 200) (hk : (k.tmod 2 != 0) = true) : Calls Tryz.prog 4 #[.int .i64 k, .int .i64 (m : Nat)] w fun e w' => e = .returned (.bool true) ∧ Below w.heap.size w w' := by
  have hmi : (m : Int) ≤ 200 := by omega
  have HA1 : Hid (∀ (j : Nat) W, j ≤ 200 → (Op.stringOp .add (repT 45 j) ⟨#[45]⟩).run Tryz.prog W = .ok (.string (repT 45 (j + 1))) W) := Lib.hid (fun j W hj => by
    rw [run_string_add_sum W _ _ (by rw [repT_size]; show j + 1 ≤ _; omega), repT_next])
  have HA2 : Hid (∀ W, (Op.stringOp .add (repT 45 m) ⟨#[49]⟩).run Tryz.prog W = .ok (.string (deepT 45 41 m 0)) W) := Lib.hid (fun W => by
    rw [run_string_add_sum W _ _ (by rw [repT_size]; show m + 1 ≤ _; omega), repT_one])
  have HA3 : Hid (∀ (j : Nat) W, j ≤ 200 → (Op.stringOp .add (deepT 45 41 m 0) ⟨#[]⟩).run Tryz.prog W = .ok (.string (deepT 45 41 m 0)) W) := Lib.hid (fun j W hj => by
    rw [run_string_add_sum W _ _ (by rw [deepT_size]; show _ + 0 ≤ _; omega), deepT_none])
  have HRd := Lib.hid (deep_read (o := 45) (c := 41) (by decide) (by decide) m 0 (List.all_eq_true.1 deep_signs m (List.mem_range.2 (by omega))))
  have HEx := Lib.hid (fun W => code_Expr (deepT 45 41 m 0) W (by rw [deepT_size]; omega))
  go_enter Tryz.func4, Tryz.ntmps4
  go_wp2
  go_loopw [7, 22] (fun v7 v22 wr => ∃ j : Nat, j ≤ m ∧ v22 = .int .i64 (j : Nat) ∧ v7 = .string (repT 45 j) ∧ w = wr) (fun _ v22 _ => m - (intOf v22).toNat)
  case atStart => exact ⟨0, Nat.zero_le _, rfl, rfl, rfl⟩
  case round =>
    obtain ⟨j, hj, rfl, rfl, hw⟩ := hrel
    subst hw
    by_cases hlt : j < m
    · have h1 := HA1.out j w (by omega)
      go_wp2
      exact ⟨⟨j + 1, by omega, by first | rfl | simp, rfl, trivial⟩, by simp [intOf]; omega⟩
    · obtain rfl : j = m := by omega
      have h2 := HA2.out w
      go_wp2
      clear h2 hlt hj
      go_loopw [7, 31] (fun v7 v31 wr => ∃ i : Nat, i ≤ j ∧ v31 = .int .i64 (i : Nat) ∧ v7 = .string (deepT 45 41 j 0) ∧ w = wr) (fun _ v31 _ => j - (intOf v31).toNat)
      case atStart => exact ⟨0, Nat.zero_le _, rfl, rfl, rfl⟩
      case round =>
        obtain ⟨i, hi, rfl, rfl, hw⟩ := hrel
        subst hw
        by_cases hlt : i < j
        · have h3 := HA3.out i w (by omega)
          go_wp2
          exact ⟨⟨i + 1, by omega, by first | rfl | simp, rfl, trivial⟩, by simp [intOf]; omega⟩
        · obtain rfl : i = j := by omega
          clear HA1 HA2 HA3 hlt hi
          have hx := HEx.out w
          rcases HRd.out with ⟨h64, hrd⟩ | ⟨h64, l, hrd⟩
          · rw [hrd] at hx
            have HX := Lib.hid hx
            have hz : (64 : Int) ≤ (i : Int) := by omega
            clear hx hrd h64 HRd HEx
            go_wp2_with (go_at_call 8; refine HX.out.mono ?_; rintro e w2 ⟨rfl, hb⟩; refine Stop.out ?_)
            unfold Stop
            have HB := Lib.hid hb
            have HN := Lib.hid (heap_alloc_new w2 (.cells #[.int .i64 0, .int .i64 0, .string ⟨#[]⟩, .slice none 0 0, .slice none 0 0] 32))
            have HBF := Lib.hid (box_row w2 #[.int .i64 0, .int .i64 0, .string ⟨#[]⟩, .slice none 0 0, .slice none 0 0] #[.int .i64 0, .int .i64 0, .string ⟨#[]⟩, .slice none 0 0, .slice none 0 0] 32 rfl)
            clear hb HX
            go_wp2_with ((with_reducible refine wpList_store_row (o := ⟨none, _, _, _, _, _⟩) 32 ?b0 (.tmp 8) (.tmp 40) ?b1 w2.heap.size ?b2 [.int .i64 0, .int .i64 0, .string ⟨#[]⟩, .slice none 0 0, .slice none 0 0] ?b3 ?b4 ?b5 #[.int .i64 0, .int .i64 0, .string ⟨#[]⟩, .slice none 0 0, .slice none 0 0] ?b6 32 ?b7 ?_); (case b0 => rfl); (case b1 => rfl); (case b2 => rfl); (case b3 => exact expr_info); (case b4 => simp [Value.oneCell']); (case b5 => rfl); (case b6 => rfl); (case b7 => exact HN.out); (try simp only [Act.put]); refine Stop.out ?_)
            unfold Stop
            generalize World.setRow _ _ _ = w3 at HBF ⊢
            have HB3 := Lib.hid (HB.out.trans (HBF.out.1.mono HB.out.size))
            clear HBF HB HN
            go_wp2_with (go_at_call 5; refine (code_lives _).mono ?_; rintro e w4 ⟨rfl, hb⟩; refine Stop.out ?_)
            unfold Stop
            have HFin := Lib.hid (HB3.out.trans (hb.mono HB3.out.size))
            clear hb
            go_wp2
            go_ret
            exact ⟨rfl, HFin.out⟩
          · rw [hrd] at hx
            have HX := Lib.hid hx
            have hz : (i : Int) < (64 : Int) := by omega
            clear hx hrd h64 HRd HEx
            go_wp2_with (go_at_call 8; refine HX.out.mono ?_; rintro e w2 ⟨k, n, fd, fA, fn, fc, kv, kb, kc, ks, x, hsx, rfl, hkv, ht, hb⟩; refine Stop.out ?_)
            unfold Stop
            obtain ⟨KA, KN, KC, rfl⟩ := kids_slice hkv.out
            have HB := Lib.hid hb
            have HN := Lib.hid (heap_alloc_new w2 (.cells #[.int .i64 0, .int .i64 0, .string ⟨#[]⟩, .slice none 0 0, .slice none 0 0] 32))
            have HBF := Lib.hid (box_row w2 #[.int .i64 0, .int .i64 0, .string ⟨#[]⟩, .slice none 0 0, .slice none 0 0] #[.int .i64 k, .int .i64 n, .string fd, .slice fA fn fc, .slice KA KN KC] 32 rfl)
            clear hb HX hsx hkv ht
            go_wp2_with ((with_reducible refine wpList_store_row (o := ⟨none, _, _, _, _, _⟩) 32 ?b0 (.tmp 8) (.tmp 40) ?b1 w2.heap.size ?b2 [.int .i64 k, .int .i64 n, .string fd, .slice fA fn fc, .slice KA KN KC] ?b3 ?b4 ?b5 #[.int .i64 0, .int .i64 0, .string ⟨#[]⟩, .slice none 0 0, .slice none 0 0] ?b6 32 ?b7 ?_); (case b0 => rfl); (case b1 => rfl); (case b2 => rfl); (case b3 => exact expr_info); (case b4 => simp [Value.oneCell']); (case b5 => rfl); (case b6 => rfl); (case b7 => exact HN.out); (try simp only [Act.put]); refine Stop.out ?_)
            unfold Stop
            generalize World.setRow _ _ _ = w3 at HBF ⊢
            have HB3 := Lib.hid (HB.out.trans (HBF.out.1.mono HB.out.size))
            clear HBF HB HN
            go_wp2_with (go_at_call 5; refine (code_lives _).mono ?_; rintro e w4 ⟨rfl, hb⟩; refine Stop.out ?_)
            unfold Stop
            have HFin := Lib.hid (HB3.out.trans (hb.mono HB3.out.size))
            clear hb
            go_wp2
            go_ret
            exact ⟨rfl, HFin.out⟩
set_option maxHeartbeats 4000000 in
theorem parserDeep_any (k n : Int) (w : World) : Calls Tryz.prog 4 #[.int .i64 k, .int .i64 n] w fun e w' => e = .returned (.bool true) ∧ Below w.heap.size w w' := by
  by_cases h0 : n < 0
  · go_enter Tryz.func4, Tryz.ntmps4
    go_wp2_with (go_at_call 5; refine (code_lives _).mono ?_; rintro e w4 ⟨rfl, hb⟩; refine Stop.out ?_)
    unfold Stop
    have HFin := Lib.hid hb
    clear hb
    go_wp2
    go_ret
    exact ⟨rfl, HFin.out⟩
  · by_cases h1 : 200 < n
    · go_enter Tryz.func4, Tryz.ntmps4
      go_wp2_with (go_at_call 5; refine (code_lives _).mono ?_; rintro e w4 ⟨rfl, hb⟩; refine Stop.out ?_)
      unfold Stop
      have HFin := Lib.hid hb
      clear hb
      go_wp2
      go_ret
      exact ⟨rfl, HFin.out⟩
    · obtain ⟨m, rfl⟩ : ∃ m : Nat, n = (m : Int) := ⟨n.toNat, by omega⟩
      by_cases hk : k.tmod 2 = 0
      · exact deep_open k m w (by omega) hk
      · exact deep_sign k m w (by omega) (by simpa using hk)
end Go.Proofs.YtpapcnogbmjpjaaGreatDoor

namespace Go.Proofs.YtpapcnogbmjpjaaGreatDoor
open Go.ChangeShapes Go.WideShapes Go.ChangeAt Go.RowKit
set_option maxRecDepth 100000

def laidL : List (String × DataW Unit) := [("math/bits.deBruijn32tab", Rows.laid_math_bits_deBruijn32tab), ("math/bits.deBruijn64tab", Rows.laid_math_bits_deBruijn64tab), ("internal/strconv.uint64pow10", Rows.laid_internal_strconv_uint64pow10), ("strconv.ErrRange", Rows.laid_strconv_ErrRange), ("strconv.ErrSyntax", Rows.laid_strconv_ErrSyntax)]
theorem door_met (os : Os) (args : Array Value) : laidMetH Tryz.prog laidL ((World.doorLaid Tryz.prog 400 os).forCall (fun _ _ => 0) ⟨#[], args, []⟩).memory :=
  laidMetH_of_parts3 (fuel := 8) (laidMet_of_run' 8 (by kernel_rfl) (by kernel_rfl)) (by kernel_rfl) (by kernel_rfl)
/-- a change, a condition on the world besides, and the sizes of what came in handed on -/
theorem handed_and_sized {H : Type} {enc : TypeId × Value → H} {C : Checked} {os : Os} {f : FuncId} {fn : Func} {s : ChangeSpec} {conds : List PathCond} {apart fresh handsOn again : Bool} {X : World → Array Value → Prop}
    (hX : ∀ (w w' : World) (args : Array Value), w.heap = w'.heap → X w args → X w' args)
    (own : ownKnob C.prog.godebug = none) (started : os.Started) (noInit : C.prog.inits.idxOf? f = none) (hfn : C.prog.funcs[f]? = some fn)
    (witness : ∃ (w : World) (tape : Tape) (i : Input), w.os = os ∧ (w.forCall tape i).Shaped C.prog ∧ i.vars = [] ∧ Input.okWide C.prog (w.forCall tape i) .any w.heap.size f i ∧
      ((s.pre enc C.prog fn conds apart (w.forCall tape i).memory i.args ∧ X (w.forCall tape i).memory i.args) ∧ sizedMet enc C.prog fn (OpenSpec.ofChange s) apart (w.forCall tape i).memory i.args) ∧ ({} : Assume).holds C.prog (lone (Frame.enter C.prog f i.args .normal) [] (w.forCall tape i)))
    (contract : ∀ (W : World) (base : Nat) (args : Array Value) (ds gs : List (DataW H)) (before : List MemPlace),
      (∀ (j : Nat) t v, fn.params[j]? = some t → args[j]? = some v → Value.okWide C.prog W .any base t v) →
      DataW.Whole enc C.prog fn.params.toList s.vars apart W args.toList ds gs before →
      X W args → (DataW.weightsEach C.prog (fn.params.toList ++ s.plain.varTypes C.prog) (ds ++ gs)).all (· ≤ reachBytes) = true →
      Calls C.prog f args W fun e W' => ∃ v, e = .returned v ∧ s.post enc C.prog fn apart fresh handsOn again W args v W') :
    ReturnsInHanded {} C os f .any (fun w args => (s.pre enc C.prog fn conds apart w args ∧ X w args) ∧ sizedMet enc C.prog fn (OpenSpec.ofChange s) apart w args) (s.post enc C.prog fn apart fresh handsOn again) := by
  refine returnsInHanded_of_calls own started noInit witness ?_
  intro w tape i _ _ _ hok hpre _
  obtain ⟨_, _, _, fn', hfn', _, _, _, _, hval⟩ := hok
  obtain rfl : fn' = fn := Option.some.inj (hfn'.symm.trans hfn)
  obtain ⟨⟨⟨ds, gs, before, hw, _⟩, hx⟩, hz⟩ := hpre
  refine (contract (w.forCall tape i) w.heap.size i.args ds gs before hval (DataW.Whole.of_heap (w' := w.forCall tape i) (by rfl) hw) (hX _ _ _ (by rfl) hx) (hz.weights hw)).mono fun e W' ⟨v, he, hp⟩ => ?_
  subst he
  exact ChangeSpec.post_blind hp
end Go.Proofs.YtpapcnogbmjpjaaGreatDoor
