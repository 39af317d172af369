/- Each name that is told has an amount, or a mark, of each row, and no name has both: walked. -/
import Derived.Test.YtaccjfoifkfpfaaDoorEnH
namespace Go.Proofs.YtaccjfoifkfpfaaDoor
open Go.RowKit
set_option maxRecDepth 100000
set_option linter.unusedSimpArgs false
set_option linter.unusedVariables false

theorem field_hit (x : RowV) (i : Nat) (h : i < fieldsL.length) : (fieldX x fieldsL[i]).2 = true ∧ (tagX x fieldsL[i]).2 = false := by
  rcases (show i = 0 ∨ i = 1 ∨ i = 2 ∨ i = 3 by have : i < 4 := h; omega) with rfl | rfl | rfl | rfl
  · exact ⟨by show (fieldX x ⟨#[98, 97, 115, 101]⟩).2 = true; unfold fieldX; rw [if_pos rfl], by show (tagX x ⟨#[98, 97, 115, 101]⟩).2 = false; unfold tagX; rw [if_neg (by decide), if_neg (by decide), if_neg (by decide), if_neg (by decide), if_neg (by decide), if_neg (by decide)]⟩
  · exact ⟨by show (fieldX x ⟨#[116, 97, 120]⟩).2 = true; unfold fieldX; rw [if_neg (by decide), if_pos rfl], by show (tagX x ⟨#[116, 97, 120]⟩).2 = false; unfold tagX; rw [if_neg (by decide), if_neg (by decide), if_neg (by decide), if_neg (by decide), if_neg (by decide), if_neg (by decide)]⟩
  · exact ⟨by show (fieldX x ⟨#[111, 117, 116]⟩).2 = true; unfold fieldX; rw [if_neg (by decide), if_neg (by decide), if_pos rfl], by show (tagX x ⟨#[111, 117, 116]⟩).2 = false; unfold tagX; rw [if_neg (by decide), if_neg (by decide), if_neg (by decide), if_neg (by decide), if_neg (by decide), if_neg (by decide)]⟩
  · exact ⟨by show (fieldX x ⟨#[105, 110]⟩).2 = true; unfold fieldX; rw [if_neg (by decide), if_neg (by decide), if_neg (by decide), if_pos rfl], by show (tagX x ⟨#[105, 110]⟩).2 = false; unfold tagX; rw [if_neg (by decide), if_neg (by decide), if_neg (by decide), if_neg (by decide), if_neg (by decide), if_neg (by decide)]⟩
theorem tag_hit (x : RowV) (i : Nat) (h : i < tagsL.length) : (tagX x tagsL[i]).2 = true ∧ (fieldX x tagsL[i]).2 = false := by
  rcases (show i = 0 ∨ i = 1 ∨ i = 2 ∨ i = 3 ∨ i = 4 ∨ i = 5 by have : i < 6 := h; omega) with rfl | rfl | rfl | rfl | rfl | rfl
  · exact ⟨by show (tagX x ⟨#[116, 114, 101, 97, 116]⟩).2 = true; unfold tagX; rw [if_pos rfl], by show (fieldX x ⟨#[116, 114, 101, 97, 116]⟩).2 = false; unfold fieldX; rw [if_neg (by decide), if_neg (by decide), if_neg (by decide), if_neg (by decide)]⟩
  · exact ⟨by show (tagX x ⟨#[114, 97, 116, 101]⟩).2 = true; unfold tagX; rw [if_neg (by decide), if_pos rfl], by show (fieldX x ⟨#[114, 97, 116, 101]⟩).2 = false; unfold fieldX; rw [if_neg (by decide), if_neg (by decide), if_neg (by decide), if_neg (by decide)]⟩
  · exact ⟨by show (tagX x ⟨#[115, 117, 112, 112, 108, 121]⟩).2 = true; unfold tagX; rw [if_neg (by decide), if_neg (by decide), if_pos rfl], by show (fieldX x ⟨#[115, 117, 112, 112, 108, 121]⟩).2 = false; unfold fieldX; rw [if_neg (by decide), if_neg (by decide), if_neg (by decide), if_neg (by decide)]⟩
  · exact ⟨by show (tagX x ⟨#[115, 97, 108, 101]⟩).2 = true; unfold tagX; rw [if_neg (by decide), if_neg (by decide), if_neg (by decide), if_pos rfl], by show (fieldX x ⟨#[115, 97, 108, 101]⟩).2 = false; unfold fieldX; rw [if_neg (by decide), if_neg (by decide), if_neg (by decide), if_neg (by decide)]⟩
  · exact ⟨by show (tagX x ⟨#[108, 97, 116, 101]⟩).2 = true; unfold tagX; rw [if_neg (by decide), if_neg (by decide), if_neg (by decide), if_neg (by decide), if_pos rfl], by show (fieldX x ⟨#[108, 97, 116, 101]⟩).2 = false; unfold fieldX; rw [if_neg (by decide), if_neg (by decide), if_neg (by decide), if_neg (by decide)]⟩
  · exact ⟨by show (tagX x ⟨#[109, 105, 120, 101, 100]⟩).2 = true; unfold tagX; rw [if_neg (by decide), if_neg (by decide), if_neg (by decide), if_neg (by decide), if_neg (by decide), if_pos rfl], by show (fieldX x ⟨#[109, 105, 120, 101, 100]⟩).2 = false; unfold fieldX; rw [if_neg (by decide), if_neg (by decide), if_neg (by decide), if_neg (by decide)]⟩
/-- what a loop over names keeps -/
structure KnI (w : World) (R : Array Value) (g : Nat) (L : List ByteArray) (V : World) : Prop where
  row : V.heap[w.heap.size]? = some (.cells R 25 (0, 0))
  names : Strs V (some ⟨g, 0, none⟩) L
  low : Below w.heap.size w V
theorem KnI.below {w : World} {R : Array Value} {g : Nat} {L : List ByteArray} {V V' : World} (h : KnI w R g L V) (hb : Below V.heap.size V V') : KnI w R g L V' := ⟨heap_on hb h.row, h.names.below hb, below_then h.low hb⟩
theorem KnI.at_ {w : World} {R : Array Value} {g : Nat} {L : List ByteArray} {V : World} (h : KnI w R g L V) (i : Nat) (hi : i < L.length) : V.cell? ⟨g, i, none⟩ = some (.string L[i]) := by
  obtain ⟨a, e, _, hc, _⟩ := h.names i hi
  injection e with e
  subst e
  rw [Addr.add_mid, Nat.zero_add] at hc
  exact hc
set_option maxHeartbeats 4000000 in
theorem entryKnown_R (x : RowV) (R : Array Value) (hR : R = rowA x) (w : World) (hx : ∀ W, Calls Tryd.prog 6 #[.agg (rowA x)] W fun e w1 => e = .returned (.bool (lightR x)) ∧ Below W.heap.size W w1) (hT : TabW w) :
    Calls Tryd.prog 5 #[.agg R] w fun e w' => e = .returned (.bool true) ∧ Below w.heap.size w w' := by
  have HLv : Hid (∀ W, Below w.heap.size w W → Calls Tryd.prog 7 #[] W fun e w1 => e = .returned (.bool true) ∧ Below W.heap.size W w1) := Lib.hid (fun W hb => en_lives W (hT.below hb))
  have HLi : Hid (∀ W, Calls Tryd.prog 6 #[.agg R] W fun e w1 => e = .returned (.bool (lightR x)) ∧ Below W.heap.size W w1) := Lib.hid (by rw [hR]; exact hx)
  have HF1 : Hid (∀ (q : Bool) (s : ByteArray), (fieldX x s).2 = q → ∀ W, Calls Tryd.prog 8 #[.agg R, .string s] W fun e w1 => (∃ a, e = .returned (.tuple #[.int .i64 a, .bool q])) ∧ Below W.heap.size W w1) := Lib.hid (fun q s hq W => by
    rw [hR, ← hq]
    refine (code_field x s W).mono ?_
    rintro e w1 ⟨h1, h2⟩
    exact ⟨⟨_, h1⟩, h2⟩)
  have HG1 : Hid (∀ (q : Bool) (s : ByteArray), (tagX x s).2 = q → ∀ W, Calls Tryd.prog 10 #[.agg R, .string s] W fun e w1 => (∃ a, e = .returned (.tuple #[.int .i64 a, .bool q])) ∧ Below W.heap.size W w1) := Lib.hid (fun q s hq W => by
    rw [hR, ← hq]
    refine (code_tag x s W).mono ?_
    rintro e w1 ⟨h1, h2⟩
    exact ⟨⟨_, h1⟩, h2⟩)
  have HIn : Hid ((Tryd.prog.info? 25).map (·.size) = some R.size) := Lib.hid (by rw [hR]; kernel_rfl)
  have HX0 : Hid ((w.alloc (.cells R 25)).heap[w.heap.size]? = some (.cells R 25 (0, 0))) := Lib.hid (heap_alloc_new w _)
  have HB0 : Hid (Below w.heap.size w (w.alloc (.cells R 25))) := Lib.hid (below_alloc _ _)
  generalize lightR x = ql at HLi
  clear hR hx hT
  cases ql
  · go_enter Tryd.func5, Tryd.ntmps5
    go_wp2_with ((with_reducible refine wpList_load_row (o := ⟨some 15, _, _, _, _, _⟩) ?a1 25 (.tmp 1) ?a2 w.heap.size ?a3 25 R (0, 0) _ HX0.out Tryd.underlying25 ?a4 HIn.out ?_); (case a1 => rfl); (case a2 => rfl); (case a3 => rfl); (case a4 => rfl); refine Stop.out ?_)
    unfold Stop
    go_wp2_with (go_at_call 6; refine (HLi.out _).mono ?_; rintro e w1 ⟨rfl, hb⟩; have HB1 := Lib.hid (below_then HB0.out hb); have HX1 := Lib.hid (heap_on hb HX0.out); clear hb; refine Stop.out ?_)
    unfold Stop
    go_wp2_with (go_at_call 7; refine (HLv.out _ HB1.out).mono ?_; rintro e wz ⟨rfl, hb⟩; have HBz := Lib.hid (below_then HB1.out hb); clear hb)
    go_ret
    exact ⟨rfl, HBz.out⟩
  · go_enter Tryd.func5, Tryd.ntmps5
    go_wp2_with ((with_reducible refine wpList_load_row (o := ⟨some 15, _, _, _, _, _⟩) ?a1 25 (.tmp 1) ?a2 w.heap.size ?a3 25 R (0, 0) _ HX0.out Tryd.underlying25 ?a4 HIn.out ?_); (case a1 => rfl); (case a2 => rfl); (case a3 => rfl); (case a4 => rfl); refine Stop.out ?_)
    unfold Stop
    go_wp2_with (go_at_call 6; refine (HLi.out _).mono ?_; rintro e w1 ⟨rfl, hb⟩; have HB1 := Lib.hid (below_then HB0.out hb); have HX1 := Lib.hid (heap_on hb HX0.out); clear hb; refine Stop.out ?_)
    unfold Stop
    go_wp2_with (go_at_call 17; refine (code_fields _).mono ?_; rintro e w2 ⟨rfl, hs, hb⟩; have HB2 := Lib.hid (below_then HB1.out hb); have HX2 := Lib.hid (heap_on hb HX1.out); clear hs hb; refine Stop.out ?_)
    unfold Stop
    go_wp2_with (go_at_call 18; refine (code_tags _).mono ?_; rintro e w3 ⟨rfl, hs, hb⟩; have HB3 := Lib.hid (below_then HB2.out hb); have HX3 := Lib.hid (heap_on hb HX2.out); clear hs hb; refine Stop.out ?_)
    unfold Stop
    go_wp2_with (go_at_call 17; refine (code_fields _).mono ?_; rintro e w4 ⟨rfl, hs, hb⟩; have HS4 := Lib.hid hs; have HB4 := Lib.hid (below_then HB3.out hb); have HX4 := Lib.hid (heap_on hb HX3.out); clear hs hb; refine Stop.out ?_)
    unfold Stop
    have HK4 : Hid (KnI w R w3.heap.size fieldsL w4) := Lib.hid ⟨HX4.out, HS4.out, HB4.out⟩
    clear HX0 HX1 HX2 HX3 HX4 HB0 HB1 HB2 HB3 HB4 HS4
    generalize w3.heap.size = g at HK4 ⊢
    go_wp2
    go_loopw [4, 5, 6, 7, 8, 29] (fun v4 v5 v6 v7 v8 i wr => ∃ k : Nat, k ≤ 4 ∧ i = .int .i64 (k : Nat) ∧ Hid (KnI w R g fieldsL wr)) (fun _ _ _ _ _ i _ => 4 - (intOf i).toNat)
    case atStart => exact ⟨0, by decide, rfl, HK4⟩
    case round =>
      obtain ⟨k, hk, rfl, HK⟩ := hrel
      clear HK4
      by_cases hlt : k < 4
      · have hlt' : (k : Int) < 4 := by omega
        have hge : ¬ 4 ≤ k := by omega
        have hc := HK.out.at_ k hlt
        obtain ⟨hh1, hh2⟩ := field_hit x k hlt
        have HQ := Lib.hid (And.intro hh1 hh2)
        have HWk : Hid (wrap64 ((k : Int) + 1) = (k : Int) + 1) := Lib.hid (by unfold wrap64; omega)
        have HMs : Hid (4 - (intOf (.int .i64 ((k : Int) + 1))).toNat < 4 - (intOf (.int .i64 (k : Int))).toNat) := Lib.hid (by show 4 - ((k : Int) + 1).toNat < 4 - ((k : Int)).toNat; omega)
        obtain ⟨s, hs⟩ : ∃ s, s = fieldsL[k]'hlt := ⟨_, rfl⟩
        rw [← hs] at hc HQ
        have HR0 := Lib.hid HK.out.row
        clear hh1 hh2 hs
        go_wp2_with ((with_reducible refine wpList_load_row (o := ⟨some 34, _, _, _, _, _⟩) ?a1 25 (.tmp 1) ?a2 w.heap.size ?a3 25 R (0, 0) _ HR0.out Tryd.underlying25 ?a4 HIn.out ?_); (case a1 => rfl); (case a2 => rfl); (case a3 => rfl); (case a4 => rfl); refine Stop.out ?_)
        unfold Stop
        go_wp2_with (go_at_call 8; refine (HF1.out true s HQ.out.1 _).mono ?_; rintro e w5 ⟨⟨a5, rfl⟩, hb⟩; have HK5 := Lib.hid (HK.out.below hb); clear hb; refine Stop.out ?_)
        unfold Stop
        have HR5 := Lib.hid HK5.out.row
        go_wp2_with ((with_reducible refine wpList_load_row (o := ⟨some 40, _, _, _, _, _⟩) ?a1 25 (.tmp 1) ?a2 w.heap.size ?a3 25 R (0, 0) _ HR5.out Tryd.underlying25 ?a4 HIn.out ?_); (case a1 => rfl); (case a2 => rfl); (case a3 => rfl); (case a4 => rfl); refine Stop.out ?_)
        unfold Stop
        go_wp2_with (go_at_call 10; refine (HG1.out false s HQ.out.2 _).mono ?_; rintro e w6 ⟨⟨a6, rfl⟩, hb⟩; have HK6 := Lib.hid (HK5.out.below hb); clear hb; refine Stop.out ?_)
        unfold Stop
        have hwk := HWk.out
        go_wp2
        go_roundw
        case rel => exact ⟨k + 1, by omega, congrArg (Value.int .i64) (by omega), HK6⟩
        case measure => first | exact HMs.out | (rw [hwk]; exact HMs.out)
      · obtain rfl : k = 4 := by omega
        have HB4 := Lib.hid HK.out.low
        have HX4 := Lib.hid HK.out.row
        clear HK
        go_wp2_with (go_at_call 18; refine (code_tags _).mono ?_; rintro e w7 ⟨rfl, hs, hb⟩; have HS7 := Lib.hid hs; have HB7 := Lib.hid (below_then HB4.out hb); have HX7 := Lib.hid (heap_on hb HX4.out); clear hs hb; refine Stop.out ?_)
        unfold Stop
        have HK7 : Hid (KnI w R wr.heap.size tagsL w7) := Lib.hid ⟨HX7.out, HS7.out, HB7.out⟩
        clear HX4 HX7 HB4 HB7 HS7
        generalize wr.heap.size = g2 at HK7 ⊢
        go_wp2
        go_loopw [10, 11, 12, 13, 14, 53] (fun v10 v11 v12 v13 v14 i wq => ∃ k : Nat, k ≤ 6 ∧ i = .int .i64 (k : Nat) ∧ Hid (KnI w R g2 tagsL wq)) (fun _ _ _ _ _ i _ => 6 - (intOf i).toNat)
        case atStart => exact ⟨0, by decide, rfl, HK7⟩
        case round =>
          obtain ⟨k, hk, rfl, HK⟩ := hrel
          clear HK7
          by_cases hlt : k < 6
          · have hlt' : (k : Int) < 6 := by omega
            have hge : ¬ 6 ≤ k := by omega
            have hc := HK.out.at_ k hlt
            obtain ⟨hh1, hh2⟩ := tag_hit x k hlt
            have HQ := Lib.hid (And.intro hh1 hh2)
            have HWk : Hid (wrap64 ((k : Int) + 1) = (k : Int) + 1) := Lib.hid (by unfold wrap64; omega)
            have HMs : Hid (6 - (intOf (.int .i64 ((k : Int) + 1))).toNat < 6 - (intOf (.int .i64 (k : Int))).toNat) := Lib.hid (by show 6 - ((k : Int) + 1).toNat < 6 - ((k : Int)).toNat; omega)
            obtain ⟨s, hs⟩ : ∃ s, s = tagsL[k]'hlt := ⟨_, rfl⟩
            rw [← hs] at hc HQ
            have HR0 := Lib.hid HK.out.row
            clear hh1 hh2 hs
            go_wp2_with ((with_reducible refine wpList_load_row (o := ⟨some 58, _, _, _, _, _⟩) ?a1 25 (.tmp 1) ?a2 w.heap.size ?a3 25 R (0, 0) _ HR0.out Tryd.underlying25 ?a4 HIn.out ?_); (case a1 => rfl); (case a2 => rfl); (case a3 => rfl); (case a4 => rfl); refine Stop.out ?_)
            unfold Stop
            go_wp2_with (go_at_call 10; refine (HG1.out true s HQ.out.1 _).mono ?_; rintro e w8 ⟨⟨a8, rfl⟩, hb⟩; have HK8 := Lib.hid (HK.out.below hb); clear hb; refine Stop.out ?_)
            unfold Stop
            have HR8 := Lib.hid HK8.out.row
            go_wp2_with ((with_reducible refine wpList_load_row (o := ⟨some 64, _, _, _, _, _⟩) ?a1 25 (.tmp 1) ?a2 w.heap.size ?a3 25 R (0, 0) _ HR8.out Tryd.underlying25 ?a4 HIn.out ?_); (case a1 => rfl); (case a2 => rfl); (case a3 => rfl); (case a4 => rfl); refine Stop.out ?_)
            unfold Stop
            go_wp2_with (go_at_call 8; refine (HF1.out false s HQ.out.2 _).mono ?_; rintro e w9 ⟨⟨a9, rfl⟩, hb⟩; have HK9 := Lib.hid (HK8.out.below hb); clear hb; refine Stop.out ?_)
            unfold Stop
            have hwk := HWk.out
            go_wp2
            go_roundw
            case rel => exact ⟨k + 1, by omega, congrArg (Value.int .i64) (by omega), HK9⟩
            case measure => first | exact HMs.out | (rw [hwk]; exact HMs.out)
          · obtain rfl : k = 6 := by omega
            have HBq := Lib.hid HK.out.low
            clear HK
            go_wp2_with (go_at_call 7; refine (HLv.out _ HBq.out).mono ?_; rintro e wz ⟨rfl, hb⟩; have HBz := Lib.hid (below_then HBq.out hb); clear hb)
            go_ret
            exact ⟨rfl, HBz.out⟩
theorem entryKnown_any (x : RowV) (w : World) (hx : RowVOk w x) (hT : TabW w) :
    Calls Tryd.prog 5 #[.agg (rowA x)] w fun e w' => e = .returned (.bool true) ∧ Below w.heap.size w w' :=
  entryKnown_R x _ rfl w (fun W => light_row x W hx) hT
end Go.Proofs.YtaccjfoifkfpfaaDoor
