/- Filters. Filters, all of them. -/
import Derived.Test.YtpapcnogbmjpjaaGreatDoorK23
namespace Go.Proofs.YtpapcnogbmjpjaaGreatDoor
open Go.RowKit
set_option maxRecDepth 100000
set_option linter.unusedSimpArgs false
set_option linter.unusedVariables false
attribute [local go_sem] Oper.semAt_some

theorem row3c {W : World} {g : Nat} {a b c : Value} {t : TypeId} (h : W.heap[g]? = some (.cells #[a, b, c] t (0, 0))) : W.cell? ⟨g, 0, none⟩ = some a ∧ W.cell? ⟨g, 1, none⟩ = some b ∧ W.cell? ⟨g, 2, none⟩ = some c :=
  ⟨cell_of_row W g 0 _ _ _ h, cell_of_row W g 1 _ _ _ h, cell_of_row W g 2 _ _ _ h⟩
def numB (n : Int) : Bool := decide (0 ≤ n) && decide (n ≤ 999999999999999999)
theorem code_isNumber_b (n : Int) (w : World) : Calls Tryz.prog 110 #[.int .i64 n] w fun e w' => e = .returned (.bool (numB n)) ∧ w' = w := by
  unfold numB
  by_cases h1 : 0 ≤ n
  · by_cases h2 : n ≤ 999999999999999999
    · go_enter Tryz.func110, Tryz.ntmps110
      go_wp2
      go_ret
      simp [h1, h2]
    · go_enter Tryz.func110, Tryz.ntmps110
      go_wp2
      go_ret
      simp [h1, h2]
  · go_enter Tryz.func110, Tryz.ntmps110
    go_wp2
    go_ret
    simp [h1]
    first | done | omega
def signB (sg : Int) : Bool := decide (sg = 61 ∨ sg = 60 ∨ sg = 62)
def goodF (f : FilV) : Bool := signB f.sg && nameB f.tag && numB f.n
set_option maxHeartbeats 4000000 in
theorem code_goodFilter_s (tag : ByteArray) (sg n : Int) (hs : sg = 61 ∨ sg = 60 ∨ sg = 62) (w : World) : Calls Tryz.prog 95 #[.agg #[.string tag, .int .u8 sg, .int .i64 n]] w fun e w' => e = .returned (.bool (nameB tag && numB n)) ∧ Below w.heap.size w w' := by
  rcases hs with rfl | rfl | rfl
  · have H0 := Lib.hid (heap_alloc_new w (.cells #[.string tag, .int .u8 61, .int .i64 n] 60))
    have HB0 := Lib.hid (below_alloc w (.cells #[.string tag, .int .u8 61, .int .i64 n] 60))
    have HN := Lib.hid (code_isName tag)
    have HM := Lib.hid (code_isNumber_b n)
    obtain ⟨e0, e1, e2⟩ := row3c H0.out
    cases hn : nameB tag with
    | true =>
      rw [hn] at HN
      have HX : Hid (numB n = (true && numB n)) := Lib.hid (by simp)
      clear hn
      go_enter Tryz.func95, Tryz.ntmps95
      go_wp2_with (go_at_call 93; refine (HN.out _).mono ?_; rintro e w2 ⟨rfl, hb⟩; refine Stop.out ?_)
      unfold Stop
      have HB2 := Lib.hid (below_then HB0.out hb)
      obtain ⟨d0, d1, d2⟩ := row3c (heap_on hb H0.out)
      clear hb HN e0 e1 e2
      go_wp2_with (go_at_call 110; refine (HM.out _).mono ?_; rintro e w3 ⟨rfl, rfl⟩; refine Stop.out ?_)
      unfold Stop
      go_wp2
      go_ret
      exact ⟨ret_bool (by first | rfl | simp), HB2.out⟩
    | false =>
      rw [hn] at HN
      clear hn
      go_enter Tryz.func95, Tryz.ntmps95
      go_wp2_with (go_at_call 93; refine (HN.out _).mono ?_; rintro e w2 ⟨rfl, hb⟩; refine Stop.out ?_)
      unfold Stop
      have HB2 := Lib.hid (below_then HB0.out hb)
      obtain ⟨d0, d1, d2⟩ := row3c (heap_on hb H0.out)
      clear hb HN e0 e1 e2
      go_wp2
      go_ret
      exact ⟨ret_bool (by first | rfl | simp), HB2.out⟩
  · have H0 := Lib.hid (heap_alloc_new w (.cells #[.string tag, .int .u8 60, .int .i64 n] 60))
    have HB0 := Lib.hid (below_alloc w (.cells #[.string tag, .int .u8 60, .int .i64 n] 60))
    have HN := Lib.hid (code_isName tag)
    have HM := Lib.hid (code_isNumber_b n)
    obtain ⟨e0, e1, e2⟩ := row3c H0.out
    cases hn : nameB tag with
    | true =>
      rw [hn] at HN
      have HX : Hid (numB n = (true && numB n)) := Lib.hid (by simp)
      clear hn
      go_enter Tryz.func95, Tryz.ntmps95
      go_wp2_with (go_at_call 93; refine (HN.out _).mono ?_; rintro e w2 ⟨rfl, hb⟩; refine Stop.out ?_)
      unfold Stop
      have HB2 := Lib.hid (below_then HB0.out hb)
      obtain ⟨d0, d1, d2⟩ := row3c (heap_on hb H0.out)
      clear hb HN e0 e1 e2
      go_wp2_with (go_at_call 110; refine (HM.out _).mono ?_; rintro e w3 ⟨rfl, rfl⟩; refine Stop.out ?_)
      unfold Stop
      go_wp2
      go_ret
      exact ⟨ret_bool (by first | rfl | simp), HB2.out⟩
    | false =>
      rw [hn] at HN
      clear hn
      go_enter Tryz.func95, Tryz.ntmps95
      go_wp2_with (go_at_call 93; refine (HN.out _).mono ?_; rintro e w2 ⟨rfl, hb⟩; refine Stop.out ?_)
      unfold Stop
      have HB2 := Lib.hid (below_then HB0.out hb)
      obtain ⟨d0, d1, d2⟩ := row3c (heap_on hb H0.out)
      clear hb HN e0 e1 e2
      go_wp2
      go_ret
      exact ⟨ret_bool (by first | rfl | simp), HB2.out⟩
  · have H0 := Lib.hid (heap_alloc_new w (.cells #[.string tag, .int .u8 62, .int .i64 n] 60))
    have HB0 := Lib.hid (below_alloc w (.cells #[.string tag, .int .u8 62, .int .i64 n] 60))
    have HN := Lib.hid (code_isName tag)
    have HM := Lib.hid (code_isNumber_b n)
    obtain ⟨e0, e1, e2⟩ := row3c H0.out
    cases hn : nameB tag with
    | true =>
      rw [hn] at HN
      have HX : Hid (numB n = (true && numB n)) := Lib.hid (by simp)
      clear hn
      go_enter Tryz.func95, Tryz.ntmps95
      go_wp2_with (go_at_call 93; refine (HN.out _).mono ?_; rintro e w2 ⟨rfl, hb⟩; refine Stop.out ?_)
      unfold Stop
      have HB2 := Lib.hid (below_then HB0.out hb)
      obtain ⟨d0, d1, d2⟩ := row3c (heap_on hb H0.out)
      clear hb HN e0 e1 e2
      go_wp2_with (go_at_call 110; refine (HM.out _).mono ?_; rintro e w3 ⟨rfl, rfl⟩; refine Stop.out ?_)
      unfold Stop
      go_wp2
      go_ret
      exact ⟨ret_bool (by first | rfl | simp), HB2.out⟩
    | false =>
      rw [hn] at HN
      clear hn
      go_enter Tryz.func95, Tryz.ntmps95
      go_wp2_with (go_at_call 93; refine (HN.out _).mono ?_; rintro e w2 ⟨rfl, hb⟩; refine Stop.out ?_)
      unfold Stop
      have HB2 := Lib.hid (below_then HB0.out hb)
      obtain ⟨d0, d1, d2⟩ := row3c (heap_on hb H0.out)
      clear hb HN e0 e1 e2
      go_wp2
      go_ret
      exact ⟨ret_bool (by first | rfl | simp), HB2.out⟩
set_option maxHeartbeats 4000000 in
theorem code_goodFilter_no (tag : ByteArray) (sg n : Int) (h1 : sg ≠ 61) (h2 : sg ≠ 60) (h3 : sg ≠ 62) (w : World) : Calls Tryz.prog 95 #[.agg #[.string tag, .int .u8 sg, .int .i64 n]] w fun e w' => e = .returned (.bool false) ∧ Below w.heap.size w w' := by
  have H0 := Lib.hid (heap_alloc_new w (.cells #[.string tag, .int .u8 sg, .int .i64 n] 60))
  have HB0 := Lib.hid (below_alloc w (.cells #[.string tag, .int .u8 sg, .int .i64 n] 60))
  obtain ⟨e0, e1, e2⟩ := row3c H0.out
  have q1 : (sg == 61) = false := by simp [h1]
  have q2 : (sg == 60) = false := by simp [h2]
  have q3 : (sg == 62) = false := by simp [h3]
  clear H0 h1 h2 h3
  go_enter Tryz.func95, Tryz.ntmps95
  go_wp2
  go_ret
  exact ⟨ret_bool rfl, HB0.out⟩
theorem code_goodFilter (f : FilV) (w : World) : Calls Tryz.prog 95 #[.agg #[.string f.tag, .int .u8 f.sg, .int .i64 f.n]] w fun e w' => e = .returned (.bool (goodF f)) ∧ Below w.heap.size w w' := by
  unfold goodF signB
  by_cases hs : f.sg = 61 ∨ f.sg = 60 ∨ f.sg = 62
  · rw [decide_eq_true hs, Bool.true_and]
    exact code_goodFilter_s f.tag f.sg f.n hs w
  · rw [decide_eq_false hs, Bool.false_and, Bool.false_and]
    exact code_goodFilter_no f.tag f.sg f.n (fun e => hs (.inl e)) (fun e => hs (.inr (.inl e))) (fun e => hs (.inr (.inr e))) w
end Go.Proofs.YtpapcnogbmjpjaaGreatDoor

namespace Go.Proofs.YtpapcnogbmjpjaaGreatDoor
open Go.RowKit
set_option maxRecDepth 100000
set_option linter.unusedSimpArgs false
set_option linter.unusedVariables false
attribute [local go_sem] Oper.semAt_some

theorem fil_info : (Tryz.prog.info? 60).map (·.size) = some 3 := by kernel_rfl
theorem filCs_len : ∀ l : List FilV, (filCs l).length = 3 * l.length := by
  intro l
  induction l with
  | nil => rfl
  | cons t l ih =>
    have : filCs (t :: l) = filC t ++ filCs l := rfl
    rw [this, List.length_append, ih]
    simp [filC]
    omega
theorem filCs_at : ∀ (l : List FilV) (i : Nat) (hi : i < l.length) (j : Nat), j < 3 → (filCs l)[3 * i + j]? = (filC l[i])[j]?
  | [], i, hi, _, _ => absurd hi (Nat.not_lt_zero _)
  | t :: l, 0, _, j, hj => by
    have : filCs (t :: l) = filC t ++ filCs l := rfl
    rw [this, Nat.mul_zero, Nat.zero_add, List.getElem?_append_left (by simpa [filC] using hj)]
    rfl
  | t :: l, i + 1, hi, j, hj => by
    have h : filCs (t :: l) = filC t ++ filCs l := rfl
    have hl : (filC t).length = 3 := rfl
    rw [h, List.getElem?_append_right (by omega), hl, show 3 * (i + 1) + j - 3 = 3 * i + j by omega]
    exact filCs_at l i (by simpa using hi) j hj
theorem code_allF_nil (w : World) : Calls Tryz.prog 94 #[.slice none 0 0, .func (.func 95) #[] #[]] w fun e w' => e = .returned (.bool true) ∧ Below w.heap.size w w' := by
  go_enter Tryz.func94, Tryz.ntmps94
  go_wp2
  go_loopw [9] (fun v9 wr => v9 = .int .i64 0 ∧ Hid (Below w.heap.size w wr)) (fun _ _ => 0)
  case atStart => exact ⟨rfl, Lib.hid (Below.refl _ _)⟩
  case round =>
    obtain ⟨rfl, HB⟩ := hrel
    go_wp2
    go_ret
    exact ⟨ret_bool rfl, HB.out⟩
set_option maxHeartbeats 4000000 in
theorem code_allF (fs : List FilV) (g c : Nat) (cs : Array Value) (w : World) (hg : w.heap[g]? = some (.cells cs 60 (0, 0))) (hcs : ∀ (j : Nat) (v : Value), (filCs fs)[j]? = some v → cs[j]? = some v) (hm : fs.length ≤ 1000) :
    Calls Tryz.prog 94 #[.slice (some ⟨g, 0, none⟩) fs.length c, .func (.func 95) #[] #[]] w fun e w' => e = .returned (.bool (fs.all goodF)) ∧ Below w.heap.size w w' := by
  have HG := Lib.hid hg
  have HC := Lib.hid hcs
  have hnot : ∀ (x : Bool) (w : World), (Op.unary .not (.bool x)).run Tryz.prog w = .ok (.bool (!x)) w := fun _ _ => rfl
  obtain ⟨n0, hn0⟩ : ∃ m, m = fs.length := ⟨_, rfl⟩
  have HN := Lib.hid hn0
  rw [← hn0] at hm ⊢
  clear hg hcs hn0
  go_enter Tryz.func94, Tryz.ntmps94
  go_wp2
  go_loopw [9] (fun v9 wr => ∃ k : Nat, v9 = .int .i64 (k : Nat) ∧ Hid (k ≤ n0 ∧ (fs.take k).all goodF = true) ∧ Hid (Below w.heap.size w wr)) (fun v9 _ => n0 - (intOf v9).toNat)
  case atStart => exact ⟨0, rfl, Lib.hid ⟨Nat.zero_le _, by simp⟩, Lib.hid (Below.refl _ _)⟩
  case round =>
    obtain ⟨k, rfl, HK, HBw⟩ := hrel
    by_cases hlt : k < n0
    · have hlk : k < fs.length := by rw [← HN.out]; exact hlt
      obtain ⟨b, hb⟩ : ∃ b, b = fs[k] := ⟨_, rfl⟩
      have HCk : Hid (∀ (j : Nat) (v : Value), j < 3 → (filC b)[j]? = some v → wr.cell? ⟨g, k * 3 + j, none⟩ = some v) := Lib.hid (fun j v hj hv => by
        rw [cell_of_row wr g _ _ _ _ (heap_on HBw.out HG.out)]
        refine HC.out _ _ ?_
        rw [Nat.mul_comm k 3, filCs_at fs k hlk j hj, ← hb]
        exact hv)
      have HNx : Hid ((fs.take (k + 1)).all goodF = goodF b) := Lib.hid (by
        rw [List.take_succ_eq_append_getElem hlk, List.all_append, HK.out.2, ← hb]
        simp)
      have HAl : Hid (fs.all goodF = true → goodF b = true) := Lib.hid (fun h => by
        rw [hb]
        exact List.all_eq_true.1 h _ (List.getElem_mem hlk))
      have hle : k + 1 ≤ n0 := hlt
      have HGo := Lib.hid (code_goodFilter b)
      clear hb hlk
      obtain ⟨tag, sg, n⟩ := b
      have u0 := HCk.out 0 _ (by decide) rfl
      rw [Nat.add_zero] at u0
      have u1 := HCk.out 1 _ (by decide) rfl
      have u2 := HCk.out 2 _ (by decide) rfl
      have HN0 := Lib.hid (heap_alloc_new wr (.cells #[.string ⟨#[]⟩, .int .u8 0, .int .i64 0] 60))
      have HBF := Lib.hid (box_row wr #[.string ⟨#[]⟩, .int .u8 0, .int .i64 0] #[.string tag, .int .u8 sg, .int .i64 n] 60 rfl)
      obtain ⟨q, hq⟩ : ∃ q, q = goodF ⟨tag, sg, n⟩ := ⟨_, rfl⟩
      rw [← hq] at HNx HAl HGo
      clear hq HCk
      cases q with
      | true =>
        go_wp2_with ((with_reducible refine wpList_store_row (o := ⟨none, _, _, _, _, _⟩) 60 ?b0 (.tmp 6) (.tmp 12) ?b1 wr.heap.size ?b2 [.string tag, .int .u8 sg, .int .i64 n] ?b3 ?b4 ?b5 #[.string ⟨#[]⟩, .int .u8 0, .int .i64 0] ?b6 60 ?b7 ?_); (case b0 => rfl); (case b1 => rfl); (case b2 => rfl); (case b3 => exact fil_info); (case b4 => simp [Value.oneCell']); (case b5 => rfl); (case b6 => rfl); (case b7 => exact HN0.out); (try simp only [Act.put]); refine Stop.out ?_)
        unfold Stop
        clear u0 u1 u2 HN0
        generalize World.setRow _ _ _ = ws at HBF ⊢
        have HB5 : Hid (Below wr.heap.size wr ws) := Lib.hid HBF.out.1
        obtain ⟨gf, hgf⟩ : ∃ g, g = wr.heap.size := ⟨_, rfl⟩
        rw [← hgf] at HBF ⊢
        clear hgf
        obtain ⟨e0, e1, e2⟩ := row3c HBF.out.2
        go_wp2_with (go_at_call 95; refine (HGo.out _).mono ?_; rintro e w2 ⟨rfl, hb⟩; refine Stop.out ?_)
        unfold Stop
        have HB6 := Lib.hid (below_then HBw.out (below_then HB5.out hb))
        clear hb e0 e1 e2 HBF HB5
        go_wp2
        exact ⟨⟨k + 1, by first | rfl | simp, Lib.hid ⟨hle, HNx.out⟩, HB6⟩, by simp [intOf]; omega⟩
      | false =>
        have HFa : Hid (fs.all goodF = false) := Lib.hid (by
          cases h : fs.all goodF with
          | false => rfl
          | true => exact absurd (HAl.out h) (by simp))
        go_wp2_with ((with_reducible refine wpList_store_row (o := ⟨none, _, _, _, _, _⟩) 60 ?b0 (.tmp 6) (.tmp 12) ?b1 wr.heap.size ?b2 [.string tag, .int .u8 sg, .int .i64 n] ?b3 ?b4 ?b5 #[.string ⟨#[]⟩, .int .u8 0, .int .i64 0] ?b6 60 ?b7 ?_); (case b0 => rfl); (case b1 => rfl); (case b2 => rfl); (case b3 => exact fil_info); (case b4 => simp [Value.oneCell']); (case b5 => rfl); (case b6 => rfl); (case b7 => exact HN0.out); (try simp only [Act.put]); refine Stop.out ?_)
        unfold Stop
        clear u0 u1 u2 HN0
        generalize World.setRow _ _ _ = ws at HBF ⊢
        have HB5 : Hid (Below wr.heap.size wr ws) := Lib.hid HBF.out.1
        obtain ⟨gf, hgf⟩ : ∃ g, g = wr.heap.size := ⟨_, rfl⟩
        rw [← hgf] at HBF ⊢
        clear hgf
        obtain ⟨e0, e1, e2⟩ := row3c HBF.out.2
        go_wp2_with (go_at_call 95; refine (HGo.out _).mono ?_; rintro e w2 ⟨rfl, hb⟩; refine Stop.out ?_)
        unfold Stop
        have HB6 := Lib.hid (below_then HBw.out (below_then HB5.out hb))
        clear hb e0 e1 e2 HBF HB5
        go_wp2
        go_ret
        exact ⟨ret_bool HFa.out.symm, HB6.out⟩
    · obtain rfl : k = n0 := by have := HK.out.1; omega
      have HTr : Hid (fs.all goodF = true) := Lib.hid (by have := HK.out.2; rwa [List.take_of_length_le (by rw [HN.out]; exact Nat.le_refl _)] at this)
      go_wp2
      go_ret
      exact ⟨ret_bool HTr.out.symm, HBw.out⟩
end Go.Proofs.YtpapcnogbmjpjaaGreatDoor
