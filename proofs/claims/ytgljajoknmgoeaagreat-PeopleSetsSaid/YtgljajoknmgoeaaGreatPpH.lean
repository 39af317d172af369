/- People: who is a taxable person. -/
import Derived.Test.YtgljajoknmgoeaaGreatPpG
namespace Go.Proofs.YtgljajoknmgoeaaGreat
open Go.RowKit
set_option maxRecDepth 100000
attribute [local go_sem] Oper.semAt_some

/-- is somebody a taxable person -/
def bizB (h : ByteArray) (F : Lns) (c m : ByteArray) (day : Int) : Bool := rightP c m && (decide (c = h) || !isMem c || atB (Ln F (c ++ m)) day)
def taxV (h : ByteArray) (F : Lns) (c m : ByteArray) : Value := if c = h ∨ isMem c = false then .func (.func 54) #[] #[] else .func (.func 33) #[lnV (F (c ++ m))] #[]
section
variable {w w' : World} {base P B0 bm n : Nat} {h : ByteArray} {O : List Sp} {F : Lns}
theorem code_tax1 (w : World) (day : Int) : Calls Tryz.prog 54 #[.int .i64 day] w fun e w' => e = .returned (.bool true) ∧ w = w' := by
  go_enter Tryz.func54, Tryz.ntmps54
  go_wp2
  go_ret
  exact ⟨rfl, rfl⟩
set_option maxHeartbeats 400000 in
theorem code_taxable (H : PpAt w base P B0 bm n h O F) (hM : MaxL w) (c m : ByteArray) (hk : okKey (c ++ m)) (hc : c.size ≤ 1000) : Calls Tryz.prog 35 #[.pointer (some ⟨P, 0, none⟩), .string c, .string m] w fun e w' => e = .returned (taxV h F c m) ∧ w = w' := by
  have hmf : ∀ (fn : Fn) (first cap : Array Value) (w : World), (Instr.makeFunc fn first cap).run Tryz.prog w = .ok (.func fn first cap) w := fun _ _ _ _ => rfl
  have HMb := Lib.hid (code_member c w (by omega) hM)
  obtain ⟨c0, c1, c2⟩ := row3a H.1
  have hLk := H.2.1.look hk false
  rw [if_neg (by decide)] at hLk
  have heq := str_beq c h
  have hle : ¬ 9223372036854775807 < c.size + m.size := by unfold okKey at hk; rw [ByteArray.size_append] at hk; omega
  clear H hM hk
  by_cases h1 : c = h
  · rw [decide_eq_true h1] at heq
    have HT : Hid (taxV h F c m = .func (.func 54) #[] #[]) := Lib.hid (by unfold taxV; rw [if_pos (.inl h1)])
    rw [HT.out]
    clear h1
    go_enter Tryz.func35, Tryz.ntmps35
    go_wp2
    go_ret
    exact ⟨rfl, rfl⟩
  · rw [decide_eq_false h1] at heq
    cases h2 : isMem c with
    | false =>
      rw [h2] at HMb
      have HT : Hid (taxV h F c m = .func (.func 54) #[] #[]) := Lib.hid (by unfold taxV; rw [if_pos (.inr h2)])
      rw [HT.out]
      clear h1 h2
      go_enter Tryz.func35, Tryz.ntmps35
      go_wp2_with (go_at_call 21; refine HMb.out.mono ?_; rintro e w1 ⟨rfl, rfl⟩)
      go_ret
      exact ⟨rfl, rfl⟩
    | true =>
      rw [h2] at HMb
      have HT : Hid (taxV h F c m = .func (.func 33) #[lnV (F (c ++ m))] #[]) := Lib.hid (by unfold taxV; rw [if_neg (by rw [h2]; simp [h1])])
      rw [HT.out]
      clear h1 h2
      generalize lnV (F (c ++ m)) = lv at hLk ⊢
      clear HT
      go_enter Tryz.func35, Tryz.ntmps35
      go_wp2_with (go_at_call 21; refine HMb.out.mono ?_; rintro e w1 ⟨rfl, rfl⟩)
      go_ret
      exact ⟨rfl, rfl⟩
set_option maxHeartbeats 400000 in
theorem code_business (H : PpAt w base P B0 bm n h O F) (hM : MaxL w) (c m : ByteArray) (day : Int) (hc : c.size ≤ 500) (hm : m.size ≤ 500) : Calls Tryz.prog 17 #[.pointer (some ⟨P, 0, none⟩), .string c, .string m, .int .i64 day] w fun e w' => e = .returned (.bool (bizB h F c m day)) ∧ Below w.heap.size w w' := by
  have hk : okKey (c ++ m) := by unfold okKey; rw [ByteArray.size_append]; omega
  have HMd := Lib.hid (code_pmade H)
  have HR := Lib.hid (code_right c m w (by omega) (by omega) hM)
  have HT : Hid (∀ W, Below w.heap.size w W → Calls Tryz.prog 35 #[.pointer (some ⟨P, 0, none⟩), .string c, .string m] W fun e w' => e = .returned (taxV h F c m) ∧ W = w') := Lib.hid (fun W hW => code_taxable (H.on hW) (hM.below hW) c m hk (by omega))
  have hB : bizB h F c m day = (rightP c m && (decide (c = h) || !isMem c || atB (Ln F (c ++ m)) day)) := rfl
  cases h1 : rightP c m with
  | false =>
    rw [h1] at HR hB
    rw [hB]
    clear H hM hB HT
    go_enter Tryz.func17, Tryz.ntmps17
    go_wp2_with (first | (go_at_call 24; refine HMd.out.mono ?_; rintro e w1 ⟨rfl, rfl⟩) | (go_at_call 30; refine HR.out.mono ?_; rintro e w1 ⟨rfl, hb⟩; have HB := Lib.hid hb; clear hb))
    go_ret
    exact ⟨rfl, HB.out⟩
  | true =>
    rw [h1, Bool.true_and] at hB
    rw [h1] at HR
    by_cases h2 : c = h ∨ isMem c = false
    · have e1 : bizB h F c m day = true := by
        rw [hB]
        rcases h2 with h2 | h2
        · rw [decide_eq_true h2]; rfl
        · rw [h2]; simp
      rw [e1]
      rw [show taxV h F c m = .func (.func 54) #[] #[] by unfold taxV; rw [if_pos h2]] at HT
      have H1 := Lib.hid (fun W => code_tax1 W day)
      clear H hM hB e1 h2
      go_enter Tryz.func17, Tryz.ntmps17
      go_wp2_with (first | (go_at_call 24; refine HMd.out.mono ?_; rintro e w1 ⟨rfl, rfl⟩) | (go_at_call 30; refine HR.out.mono ?_; rintro e w1 ⟨rfl, hb⟩; have HB := Lib.hid hb; clear hb) | (go_at_call 35; refine (HT.out _ HB.out).mono ?_; rintro e w2 ⟨rfl, rfl⟩) | (go_at_call 54; refine (H1.out _).mono ?_; rintro e w3 ⟨rfl, rfl⟩))
      go_ret
      exact ⟨rfl, HB.out⟩
    · have e1 : bizB h F c m day = atB (Ln F (c ++ m)) day := by
        rw [hB, decide_eq_false (fun e => h2 (.inl e))]
        cases h3 : isMem c with
        | false => exact absurd (.inr h3) h2
        | true => simp
      rw [e1]
      rw [show taxV h F c m = .func (.func 33) #[lnV (F (c ++ m))] #[] by unfold taxV; rw [if_neg h2]] at HT
      have H1 : Hid (∀ W, Below w.heap.size w W → Calls Tryz.prog 33 #[lnV (F (c ++ m)), .int .i64 day] W fun e w' => e = .returned (.bool (atB (Ln F (c ++ m)) day)) ∧ Below W.heap.size W w') := Lib.hid (fun W hW => by
        unfold Ln lnV
        cases hF : F (c ++ m) with
        | none => exact code_holds_nil W day (Nat.lt_of_le_of_lt (Nat.zero_le _) (H.on hW).2.1.bmlt)
        | some y => exact code_holds W y.1 y.2 day ((H.on hW).2.1.2.1 _ y.1 y.2 hF).1)
      generalize lnV (F (c ++ m)) = lv at HT H1
      generalize atB (Ln F (c ++ m)) day = q at H1 ⊢
      clear H hM hB e1 h2
      go_enter Tryz.func17, Tryz.ntmps17
      go_wp2_with (first | (go_at_call 24; refine HMd.out.mono ?_; rintro e w1 ⟨rfl, rfl⟩) | (go_at_call 30; refine HR.out.mono ?_; rintro e w1 ⟨rfl, hb⟩; have HB := Lib.hid hb; clear hb) | (go_at_call 35; refine (HT.out _ HB.out).mono ?_; rintro e w2 ⟨rfl, rfl⟩) | (go_at_call 33; refine (H1.out _ HB.out).mono ?_; rintro e w3 ⟨rfl, hb3⟩; have HB3 := Lib.hid hb3; clear hb3))
      go_ret
      exact ⟨rfl, below_then HB.out HB3.out⟩
end
end Go.Proofs.YtgljajoknmgoeaaGreat
