/- A reader as it is called: opened, read from, asked. -/
import Derived.Test.YtjcjnokpbhmmiaaBlobRecB
namespace Go.Proofs.Ytjcjnokpbhmmiaa
open Go.RowKit
set_option maxRecDepth 100000

theorem got_ret {w : World} {g : Nat} {b : Bool} {z : Value} {d : Option (Value × Text)} {e : Ending} {w' : World} (h : Got w g b z d e w') : ∃ v, e = .returned v := by
  cases d with
  | none => exact ⟨_, h.1⟩
  | some p => exact ⟨_, h.1⟩

theorem code_rnum (w : World) (g : Nat) (b : Bool) (rest : Text) (hr : Rdr w g b rest) :
    Calls Try.prog 11 #[.pointer (some ⟨g, 0, none⟩)] w (Got w g b (.int .i64 0) ((numP rest).map fun p => (.int .i64 p.1, p.2))) := by
  have hmf : ∀ (fn : Fn) (first cap : Array Value) (w : World), (Instr.makeFunc fn first cap).run Try.prog w = .ok (.func fn first cap) w := fun _ _ _ _ => rfl
  have HR := Lib.hid (read_int_any w g b rest hr)
  clear hr
  go_enter Try.func11, Try.ntmps11
  go_wp2_with (go_at_call 42; refine HR.out.mono ?_; intro e w1 hg; obtain ⟨v, rfl⟩ := got_ret hg; have HG := Lib.hid hg; clear hg)
  go_ret
  exact HG.out

theorem code_rtext (w : World) (g : Nat) (b : Bool) (rest : Text) (hr : Rdr w g b rest) :
    Calls Try.prog 13 #[.pointer (some ⟨g, 0, none⟩)] w (Got w g b (.string {data:=#[]}) ((textP rest).map fun p => (.string p.1, p.2))) := by
  have hmf : ∀ (fn : Fn) (first cap : Array Value) (w : World), (Instr.makeFunc fn first cap).run Try.prog w = .ok (.func fn first cap) w := fun _ _ _ _ => rfl
  have HR := Lib.hid (read_string_any w g b rest hr)
  clear hr
  go_enter Try.func13, Try.ntmps13
  go_wp2_with (go_at_call 44; refine HR.out.mono ?_; intro e w1 hg; obtain ⟨v, rfl⟩ := got_ret hg; have HG := Lib.hid hg; clear hg)
  go_ret
  exact HG.out

theorem code_rflag (w : World) (g : Nat) (b : Bool) (rest : Text) (hr : Rdr w g b rest) :
    Calls Try.prog 15 #[.pointer (some ⟨g, 0, none⟩)] w (Got w g b (.bool false) ((flagP rest).map fun p => (.bool p.1, p.2))) := by
  have hmf : ∀ (fn : Fn) (first cap : Array Value) (w : World), (Instr.makeFunc fn first cap).run Try.prog w = .ok (.func fn first cap) w := fun _ _ _ _ => rfl
  have HR := Lib.hid (read_bool_any w g b rest hr)
  clear hr
  go_enter Try.func15, Try.ntmps15
  go_wp2_with (go_at_call 46; refine HR.out.mono ?_; intro e w1 hg; obtain ⟨v, rfl⟩ := got_ret hg; have HG := Lib.hid hg; clear hg)
  go_ret
  exact HG.out

theorem code_left (w : World) (g : Nat) (b : Bool) (rest : Text) (hr : Rdr w g b rest) :
    Calls Try.prog 17 #[.pointer (some ⟨g, 0, none⟩)] w fun e w' => e = .returned (.int .i64 rest.length) ∧ w = w' := by
  obtain ⟨A, c, hh, hc, _, _, _, _⟩ := hr
  have h2 := cell_of_row w g 2 _ _ _ hh
  simp only [List.getElem?_toArray, List.getElem?_cons_zero, List.getElem?_cons_succ] at h2
  clear hh
  go_enter Try.func17, Try.ntmps17
  go_wp2
  go_ret
  exact ⟨rfl, rfl⟩

theorem code_done (w : World) (g : Nat) (b : Bool) (rest : Text) (hr : Rdr w g b rest) :
    Calls Try.prog 19 #[.pointer (some ⟨g, 0, none⟩)] w fun e w' => e = .returned (.int .i64 (if b = true ∨ rest ≠ [] then 10 else 0)) ∧ w = w' := by
  obtain ⟨A, c, hh, hc, _, _, _, _⟩ := hr
  have h0 := cell_of_row w g 0 _ _ _ hh
  have h1 := cell_of_row w g 1 _ _ _ hh
  have h2 := cell_of_row w g 2 _ _ _ hh
  simp only [List.getElem?_toArray, List.getElem?_cons_zero, List.getElem?_cons_succ] at h0 h1 h2
  clear hh
  go_enter Try.func19, Try.ntmps19
  cases b with
  | true =>
    go_wp2
    go_ret
    exact ⟨by simp, rfl⟩
  | false =>
    cases rest with
    | nil =>
      go_wp2
      go_ret
      exact ⟨by simp, rfl⟩
    | cons x l =>
      go_wp2
      all_goals first | (exfalso; simp at *; done) | skip
      go_ret
      exact ⟨by simp, rfl⟩

theorem own_full {w : World} {B : Nat} {v : Value} {l : Text} (h : w.ownsRow B 5 1 v l.length (l.map cellOf)) :
    ∃ A c, v = .slice A l.length c ∧ Txt w A l ∧ (A = none → l = []) ∧ l.length ≤ c ∧ c ≤ maxLen ∧ ∀ a, A = some a → a.block < w.heap.size := by
  rcases h.2 with ⟨rfl, h0⟩ | ⟨g, c, cur, rfl, _, hh, hc, hm, _⟩
  · have : l = [] := List.eq_nil_of_length_eq_zero h0
    subst this
    exact ⟨none, 0, rfl, Txt.none_, fun _ => rfl, Nat.le_refl _, Nat.zero_le _, by simp⟩
  · exact ⟨_, c, rfl, .of_own h, by simp, hc, hm, fun a ha => by injection ha with ha; rw [← ha]; exact heap_lt hh⟩

/-- a text told in a block of its own -/
def ToldO (w : World) (T : Text) (e : Ending) (w' : World) : Prop := ∃ A c, e = .returned (.slice A T.length c) ∧ Txt w' A T ∧ (A = none → T = []) ∧ T.length ≤ c ∧ c ≤ maxLen ∧ (∀ a, A = some a → a.block < w'.heap.size) ∧ Below w.heap.size w w'
set_option maxHeartbeats 1000000 in
theorem code_cloneO (T : Text) (A : Option Addr) (cap : Nat) (w : World) (hm : T.length ≤ 140737488351232) (hT : Txt w A T) (hA : A = none → T = []) :
    Calls Try.prog 41 #[.slice A T.length cap] w (ToldO w T) := by
  have hnil := fun (W : World) (A : Option Addr) => Lib.run_eql_slice_nil (P := Try.prog) W 22 5 A T.length cap 0 0 Try.underlying22
  cases A with
  | none =>
    have HA : Hid (T = []) := Lib.hid (hA rfl)
    clear hT hA
    go_enter Try.func41, Try.ntmps41
    go_wp2
    go_ret
    exact ⟨none, 0, by rw [HA.out]; rfl, by rw [HA.out]; exact Txt.none_, fun _ => HA.out, by rw [HA.out]; exact Nat.le_refl _, Nat.zero_le _, by simp, Below.refl _ _⟩
  | some a =>
    have HT := Lib.hid (hT.alloc (.cells #[] 5))
    have HO := Lib.hid (empty_own w)
    have HB0 := Lib.hid ((Below.refl w.heap.size w).alloc (Nat.le_refl _) (.cells #[] 5))
    clear hT hA
    go_enter Try.func41, Try.ntmps41
    go_wp2_with (refine wpList_append_own_text (o := ⟨some 7, _, _, _, _, _⟩) rfl _ _ rfl rfl w.heap.size w _ [] T T rfl HO.out (some a) cap rfl HT.out ?c0 ?c1 HB0.out ?c2 rfl ?_; (case c0 => simp); (case c1 => simp; omega); (case c2 => simp); intro v1 w1 hown1 hb1 hv1; obtain ⟨A1, c1, rfl, ht1, hn1, hc1, hm1, hl1⟩ := own_full hown1; have HT1 := Lib.hid ht1; have HN1 := Lib.hid hn1; have HB1 := Lib.hid hb1; have HX1 := Lib.hid (And.intro hc1 (And.intro hm1 hl1)); clear hown1 hb1 hv1 ht1 hn1 hc1 hm1 hl1)
    go_ret
    exact ⟨A1, c1, rfl, HT1.out, HN1.out, HX1.out.1, HX1.out.2.1, HX1.out.2.2, HB1.out⟩

theorem code_open (T : Text) (A : Option Addr) (cap : Nat) (w : World) (hm : T.length ≤ 140737488351232) (hT : Txt w A T) (hA : A = none → T = []) :
    Calls Try.prog 10 #[.slice A T.length cap] w fun e w' => ∃ g, w.heap.size ≤ g ∧ g < w'.heap.size ∧ e = .returned (.pointer (some ⟨g, 0, none⟩)) ∧ Rdr w' g false T ∧ Below w.heap.size w w' := by
  have HC := Lib.hid (code_cloneO T A cap w hm hT hA)
  clear hT hA
  go_enter Try.func10, Try.ntmps10
  go_wp2_with (go_at_call 41; refine HC.out.mono ?_; rintro e w1 ⟨A2, c2, rfl, ht2, hn2, hc2, hm2, hl2, hb2⟩; have HT2 := Lib.hid ht2; have HN2 := Lib.hid hn2; have HB2 := Lib.hid hb2; have HX2 := Lib.hid (And.intro hc2 (And.intro hm2 hl2)); clear ht2 hn2 hb2 hc2 hm2 hl2)
  go_ret
  refine ⟨w1.heap.size, HB2.out.size, by simp, rfl, ⟨A2, c2, heap_alloc_new w1 _, HX2.out.1, HX2.out.2.1, HT2.out.alloc _, HN2.out, fun a ha => ?_⟩, HB2.out.alloc HB2.out.size _⟩
  have := HX2.out.2.2 a ha
  omega
end Go.Proofs.Ytjcjnokpbhmmiaa
