/- What reads, and catches what is raised: text. -/
import Derived.Test.YtjcjnokpbhmmiaaBlobRec
namespace Go.Proofs.Ytjcjnokpbhmmiaa
open Go.RowKit
set_option maxRecDepth 100000

theorem catch_string (p : Nat) (g : Nat) (b x : Value) (w : World) (u : TypeId) (pv : Value) (older : List PanicEntry) (hp : w.cell? ⟨p, 0, none⟩ = some (.pointer (some ⟨g, 0, none⟩)))
    (h1 : w.cell? ⟨g, 1, none⟩ = some b) (h2 : (w.setCell ⟨g, 1, none⟩ (.bool true)).cell? ⟨g, 2, none⟩ = some x) (f1 : w.frozen? ⟨g, 1, none⟩ = false) (f2 : w.frozen? ⟨g, 2, none⟩ = false) :
    CallsD Try.prog 72 #[.pointer (some ⟨p, 0, none⟩)] (.panicking ({ v := .iface u pv, recovered := false } :: older)) w fun e u' w' =>
      e = .returned (.tuple #[]) ∧ u' = .panicking ({ v := .iface u pv, recovered := true } :: older) ∧ w' = (w.setCell ⟨g, 1, none⟩ (.bool true)).setCell ⟨g, 2, none⟩ (.slice none 0 0) := by
  refine callsD_of_wpS Try.func72 rfl fun c₀ cs hu => ?_
  apply wpS_seq
  apply wpS_region
  simp [wpOpsS, go_sem, recoverD, hu, Try.ntmps72, Exit.thenS]
  refine wpS_cond (t := true) (by simp [Act.eval, Array.replicate]) ?_
  simp only [if_true]
  refine wpS_of_wp ?_
  cases c₀
  go_wp2
  simp [bodyPostS, results, Try.results72]

theorem idle_string (p : Nat) (w : World) :
    CallsD Try.prog 72 #[.pointer (some ⟨p, 0, none⟩)] .returning w fun e u' w' => e = .returned (.tuple #[]) ∧ u' = .returning ∧ w' = w := by
  refine callsD_of_wpS Try.func72 rfl fun c₀ cs hu => ?_
  apply wpS_seq
  apply wpS_region
  simp [wpOpsS, go_sem, recoverD, hu, Try.ntmps72, Exit.thenS]
  refine wpS_cond (t := false) (by simp [Act.eval, Array.replicate]) ?_
  simp only [Bool.false_eq_true, if_false]
  refine wpS_of_wp (wp_skip ?_)
  cases c₀
  simp_all [bodyPostS, results, Try.results72]

set_option maxHeartbeats 2000000 in
theorem read_string_any (w : World) (g : Nat) (b : Bool) (rest : Text) (hr : Rdr w g b rest) :
    Calls Try.prog 44 #[.pointer (some ⟨g, 0, none⟩), .func (Fn.func 45) #[.pointer (some ⟨g, 0, none⟩)] #[]] w (Got w g b (.string {data:=#[]}) ((textP rest).map fun p => (.string p.1, p.2))) := by
  have hmf : ∀ (fn : Fn) (first cap : Array Value) (w : World), (Instr.makeFunc fn first cap).run Try.prog w = .ok (.func fn first cap) w := fun _ _ _ _ => rfl
  obtain ⟨D, hD⟩ : ∃ D, D = (textP rest).map fun p => (Value.string p.1, p.2) := ⟨_, rfl⟩
  rw [← hD]
  have hb : Below w.heap.size w (w.alloc (.cells #[.pointer (some ⟨g, 0, none⟩)] 25)) := (Below.refl _ _).alloc (Nat.le_refl _) _
  have hr1 : Rdr (w.alloc (.cells #[.pointer (some ⟨g, 0, none⟩)] 25)) g b rest := by
    obtain ⟨A, c, h1, h2, h3, h4, h5, h6⟩ := hr
    exact ⟨A, c, (hb.block g (heap_lt h1)).trans h1, h2, h3, h4.below hb, h5, h6⟩
  have hlt : g < w.heap.size := by obtain ⟨A, c, h1, _⟩ := hr; exact heap_lt h1
  have h0 : w.cell? ⟨g, 0, none⟩ = some (.bool true) := by
    obtain ⟨A, c, h1, _⟩ := hr
    rw [cell_of_row w g 0 _ _ _ h1]; rfl
  have HN := Lib.hid (code_textR _ g b rest hr1)
  rw [← hD] at HN
  have HB := Lib.hid hb
  clear hr hr1 hD hb
  cases D with
  | some p =>
    obtain ⟨v, r⟩ := p
    go_enter_defers Try.func44, Try.ntmps44
    go_wp2_with (go_at_call 45; refine HN.out.mono ?_; rintro e w2 ⟨rfl, hrr, hoo⟩; have HR := Lib.hid hrr; have HO := Lib.hid hoo; clear hrr hoo)
    refine leaves_cons (f := 72) (args := #[.pointer (some ⟨w.heap.size, 0, none⟩)]) (by simp) (by simp [go_sem]) ?_
    refine (idle_string _ _).mono ?_
    rintro e u' w'' ⟨rfl, rfl, rfl⟩
    exact ⟨_, results_tmp rfl _ _ _, rfl, HR.out, (Only.of_below HB.out).trans HO.out⟩
  | none =>
    go_enter_defers Try.func44, Try.ntmps44
    go_wp2_with (go_at_call 45; refine HN.out.mono ?_; rintro e w2 ⟨rfl, hoo, hrr⟩; have HR := Lib.hid hrr; have HO := Lib.hid hoo; clear hrr hoo)
    obtain ⟨b2, rest2, A2, c2, hh, _⟩ := HR.out
    have hpp : w2.cell? ⟨w.heap.size, 0, none⟩ = some (.pointer (some ⟨g, 0, none⟩)) := by
      have := (HO.out.block w.heap.size (by simp) (by omega)).trans (heap_alloc_new w (.cells #[.pointer (some ⟨g, 0, none⟩)] 25))
      rw [cell_of_row w2 _ 0 _ _ _ this]; rfl
    have g1 : w2.cell? ⟨g, 1, none⟩ = some (.bool b2) := by rw [cell_of_row w2 g 1 _ _ _ hh]; rfl
    have hh1 := heap_setCell_same w2 g 1 _ _ (.bool true) hh
    have g2 : (w2.setCell ⟨g, 1, none⟩ (.bool true)).cell? ⟨g, 2, none⟩ = some (.slice A2 rest2.length c2) := by rw [cell_of_row _ g 2 _ _ _ hh1]; rfl
    refine leaves_cons (f := 72) (args := #[.pointer (some ⟨w.heap.size, 0, none⟩)]) (by simp) (by simp [go_sem]) ?_
    refine (catch_string w.heap.size g _ _ w2 _ _ [] hpp g1 g2 (frozen_of_row w2 g 1 _ _ hh) (frozen_of_row w2 g 2 _ _ hh)).mono ?_
    rintro e u' w'' ⟨rfl, rfl, rfl⟩
    have HS := Lib.hid (spoilt ((Only.of_below HB.out).trans HO.out) HR.out)
    show Leaves _ _ _ _ [] .returning _
    exact ⟨_, results_tmp rfl _ _ _, rfl, HS.out⟩
end Go.Proofs.Ytjcjnokpbhmmiaa
