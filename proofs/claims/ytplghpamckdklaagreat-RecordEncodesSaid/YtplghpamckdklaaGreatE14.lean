/- What reads, and catches what is raised. What reads, and catches what is raised: text. What reads, and catches what is raised: flag. -/
import Derived.Test.YtplghpamckdklaaGreatE13
namespace Go.Proofs.YtplghpamckdklaaGreat
open Go.RowKit
set_option maxRecDepth 100000

theorem catch_int (p : Nat) (g : Nat) (b x : Value) (w : World) (u : TypeId) (pv : Value) (older : List PanicEntry) (hp : w.cell? ⟨p, 0, none⟩ = some (.pointer (some ⟨g, 0, none⟩)))
 (h1 : w.cell? ⟨g, 1, none⟩ = some b) (h2 : (w.setCell ⟨g, 1, none⟩ (.bool true)).cell? ⟨g, 2, none⟩ = some x) (f1 : w.frozen? ⟨g, 1, none⟩ = false) (f2 : w.frozen? ⟨g, 2, none⟩ = false) :
 CallsD Tryz.prog 115 #[.pointer (some ⟨p, 0, none⟩)] (.panicking ({ v := .iface u pv, recovered := false } :: older)) w fun e u' w' =>
  e = .returned (.tuple #[]) ∧ u' = .panicking ({ v := .iface u pv, recovered := true } :: older) ∧ w' = (w.setCell ⟨g, 1, none⟩ (.bool true)).setCell ⟨g, 2, none⟩ (.slice none 0 0) := by
 refine callsD_of_wpS Tryz.func115 rfl fun c₀ cs hu => ?_
 apply wpS_seq
 apply wpS_region
 simp [wpOpsS, go_sem, recoverD, hu, Tryz.ntmps115, Exit.thenS]
 refine wpS_cond (t := true) (by simp [Act.eval, Array.replicate]) ?_
 simp only [if_true]
 refine wpS_of_wp ?_
 cases c₀
 go_wp2
 simp [bodyPostS, results, Tryz.results115]

theorem idle_int (p : Nat) (w : World) :
 CallsD Tryz.prog 115 #[.pointer (some ⟨p, 0, none⟩)] .returning w fun e u' w' => e = .returned (.tuple #[]) ∧ u' = .returning ∧ w' = w := by
 refine callsD_of_wpS Tryz.func115 rfl fun c₀ cs hu => ?_
 apply wpS_seq
 apply wpS_region
 simp [wpOpsS, go_sem, recoverD, hu, Tryz.ntmps115, Exit.thenS]
 refine wpS_cond (t := false) (by simp [Act.eval, Array.replicate]) ?_
 simp only [Bool.false_eq_true, if_false]
 refine wpS_of_wp (wp_skip ?_)
 cases c₀
 simp_all [bodyPostS, results, Tryz.results115]

/-- what a reading call leaves, once what was raised is caught -/
def Got (w : World) (g : Nat) (b : Bool) (z : Value) (d : Option (Value × Text)) (e : Ending) (w' : World) : Prop := match d with
 | some (v, r) => e = .returned v ∧ Rdr w' g b r ∧ Only w w' g
 | none => e = .returned z ∧ Rdr w' g true [] ∧ Only w w' g
/-- a reader in whose block what was raised left something, spoilt -/
theorem spoilt {w w2 : World} {g : Nat} (ho : Only w w2 g) (hr : ∃ b rest, Rdr w2 g b rest) :
 Rdr ((w2.setCell ⟨g, 1, none⟩ (.bool true)).setCell ⟨g, 2, none⟩ (.slice none 0 0)) g true [] ∧ Only w ((w2.setCell ⟨g, 1, none⟩ (.bool true)).setCell ⟨g, 2, none⟩ (.slice none 0 0)) g := by
 obtain ⟨b, rest, A, c, hh, _⟩ := hr
 have h1 := heap_setCell_same w2 g 1 _ _ (.bool true) hh
 have h2 := heap_setCell_same _ g 2 _ _ (.slice none 0 0) h1
 exact ⟨⟨none, 0, by rw [h2]; rfl, Nat.le_refl _, Nat.zero_le _, Txt.none_, fun _ => rfl, by simp⟩, ho.trans ((Only.set _ _ _ _).trans (Only.set _ _ _ _))⟩

set_option maxHeartbeats 2000000 in
theorem read_int_any (w : World) (g : Nat) (b : Bool) (rest : Text) (hr : Rdr w g b rest) :
 Calls Tryz.prog 97 #[.pointer (some ⟨g, 0, none⟩), .func (Fn.func 98) #[.pointer (some ⟨g, 0, none⟩)] #[]] w (Got w g b (.int .i64 0) ((numP rest).map fun p => (.int .i64 p.1, p.2))) := by
 have hmf : ∀ (fn : Fn) (first cap : Array Value) (w : World), (Instr.makeFunc fn first cap).run Tryz.prog w = .ok (.func fn first cap) w := fun _ _ _ _ => rfl
 obtain ⟨D, hD⟩ : ∃ D, D = (numP rest).map fun p => (Value.int .i64 p.1, p.2) := ⟨_, rfl⟩
 rw [← hD]
 have hb : Below w.heap.size w (w.alloc (.cells #[.pointer (some ⟨g, 0, none⟩)] 64)) := (Below.refl _ _).alloc (Nat.le_refl _) _
 have hr1 : Rdr (w.alloc (.cells #[.pointer (some ⟨g, 0, none⟩)] 64)) g b rest := by
  obtain ⟨A, c, h1, h2, h3, h4, h5, h6⟩ := hr
  exact ⟨A, c, (hb.block g (heap_lt h1)).trans h1, h2, h3, h4.below hb, h5, h6⟩
 have hlt : g < w.heap.size := by obtain ⟨A, c, h1, _⟩ := hr; exact heap_lt h1
 have h0 : w.cell? ⟨g, 0, none⟩ = some (.bool true) := by
  obtain ⟨A, c, h1, _⟩ := hr
  rw [cell_of_row w g 0 _ _ _ h1]; rfl
 have HN := Lib.hid (code_num _ g b rest hr1)
 rw [← hD] at HN
 have HB := Lib.hid hb
 clear hr hr1 hD hb
 cases D with
 | some p =>
   obtain ⟨v, r⟩ := p
   go_enter_defers Tryz.func97, Tryz.ntmps97
   go_wp2_with (go_at_call 98; refine HN.out.mono ?_; rintro e w2 ⟨rfl, hrr, hoo⟩; have HR := Lib.hid hrr; have HO := Lib.hid hoo; clear hrr hoo)
   refine leaves_cons (f := 115) (args := #[.pointer (some ⟨w.heap.size, 0, none⟩)]) (by simp) (by simp [go_sem]) ?_
   refine (idle_int _ _).mono ?_
   rintro e u' w'' ⟨rfl, rfl, rfl⟩
   exact ⟨_, results_tmp rfl _ _ _, rfl, HR.out, (Only.of_below HB.out).trans HO.out⟩
 | none =>
   go_enter_defers Tryz.func97, Tryz.ntmps97
   go_wp2_with (go_at_call 98; refine HN.out.mono ?_; rintro e w2 ⟨rfl, hoo, hrr⟩; have HR := Lib.hid hrr; have HO := Lib.hid hoo; clear hrr hoo)
   obtain ⟨b2, rest2, A2, c2, hh, _⟩ := HR.out
   have hpp : w2.cell? ⟨w.heap.size, 0, none⟩ = some (.pointer (some ⟨g, 0, none⟩)) := by
    have := (HO.out.block w.heap.size (by simp) (by omega)).trans (heap_alloc_new w (.cells #[.pointer (some ⟨g, 0, none⟩)] 64))
    rw [cell_of_row w2 _ 0 _ _ _ this]; rfl
   have g1 : w2.cell? ⟨g, 1, none⟩ = some (.bool b2) := by rw [cell_of_row w2 g 1 _ _ _ hh]; rfl
   have hh1 := heap_setCell_same w2 g 1 _ _ (.bool true) hh
   have g2 : (w2.setCell ⟨g, 1, none⟩ (.bool true)).cell? ⟨g, 2, none⟩ = some (.slice A2 rest2.length c2) := by rw [cell_of_row _ g 2 _ _ _ hh1]; rfl
   refine leaves_cons (f := 115) (args := #[.pointer (some ⟨w.heap.size, 0, none⟩)]) (by simp) (by simp [go_sem]) ?_
   refine (catch_int w.heap.size g _ _ w2 _ _ [] hpp g1 g2 (frozen_of_row w2 g 1 _ _ hh) (frozen_of_row w2 g 2 _ _ hh)).mono ?_
   rintro e u' w'' ⟨rfl, rfl, rfl⟩
   have HS := Lib.hid (spoilt ((Only.of_below HB.out).trans HO.out) HR.out)
   show Leaves _ _ _ _ [] .returning _
   exact ⟨_, results_tmp rfl _ _ _, rfl, HS.out⟩
end Go.Proofs.YtplghpamckdklaaGreat

namespace Go.Proofs.YtplghpamckdklaaGreat
open Go.RowKit
set_option maxRecDepth 100000

theorem catch_string (p : Nat) (g : Nat) (b x : Value) (w : World) (u : TypeId) (pv : Value) (older : List PanicEntry) (hp : w.cell? ⟨p, 0, none⟩ = some (.pointer (some ⟨g, 0, none⟩)))
 (h1 : w.cell? ⟨g, 1, none⟩ = some b) (h2 : (w.setCell ⟨g, 1, none⟩ (.bool true)).cell? ⟨g, 2, none⟩ = some x) (f1 : w.frozen? ⟨g, 1, none⟩ = false) (f2 : w.frozen? ⟨g, 2, none⟩ = false) :
 CallsD Tryz.prog 119 #[.pointer (some ⟨p, 0, none⟩)] (.panicking ({ v := .iface u pv, recovered := false } :: older)) w fun e u' w' =>
  e = .returned (.tuple #[]) ∧ u' = .panicking ({ v := .iface u pv, recovered := true } :: older) ∧ w' = (w.setCell ⟨g, 1, none⟩ (.bool true)).setCell ⟨g, 2, none⟩ (.slice none 0 0) := by
 refine callsD_of_wpS Tryz.func119 rfl fun c₀ cs hu => ?_
 apply wpS_seq
 apply wpS_region
 simp [wpOpsS, go_sem, recoverD, hu, Tryz.ntmps119, Exit.thenS]
 refine wpS_cond (t := true) (by simp [Act.eval, Array.replicate]) ?_
 simp only [if_true]
 refine wpS_of_wp ?_
 cases c₀
 go_wp2
 simp [bodyPostS, results, Tryz.results119]

theorem idle_string (p : Nat) (w : World) :
 CallsD Tryz.prog 119 #[.pointer (some ⟨p, 0, none⟩)] .returning w fun e u' w' => e = .returned (.tuple #[]) ∧ u' = .returning ∧ w' = w := by
 refine callsD_of_wpS Tryz.func119 rfl fun c₀ cs hu => ?_
 apply wpS_seq
 apply wpS_region
 simp [wpOpsS, go_sem, recoverD, hu, Tryz.ntmps119, Exit.thenS]
 refine wpS_cond (t := false) (by simp [Act.eval, Array.replicate]) ?_
 simp only [Bool.false_eq_true, if_false]
 refine wpS_of_wp (wp_skip ?_)
 cases c₀
 simp_all [bodyPostS, results, Tryz.results119]

set_option maxHeartbeats 2000000 in
theorem read_string_any (w : World) (g : Nat) (b : Bool) (rest : Text) (hr : Rdr w g b rest) :
 Calls Tryz.prog 99 #[.pointer (some ⟨g, 0, none⟩), .func (Fn.func 100) #[.pointer (some ⟨g, 0, none⟩)] #[]] w (Got w g b (.string {data:=#[]}) ((textP rest).map fun p => (.string p.1, p.2))) := by
 have hmf : ∀ (fn : Fn) (first cap : Array Value) (w : World), (Instr.makeFunc fn first cap).run Tryz.prog w = .ok (.func fn first cap) w := fun _ _ _ _ => rfl
 obtain ⟨D, hD⟩ : ∃ D, D = (textP rest).map fun p => (Value.string p.1, p.2) := ⟨_, rfl⟩
 rw [← hD]
 have hb : Below w.heap.size w (w.alloc (.cells #[.pointer (some ⟨g, 0, none⟩)] 64)) := (Below.refl _ _).alloc (Nat.le_refl _) _
 have hr1 : Rdr (w.alloc (.cells #[.pointer (some ⟨g, 0, none⟩)] 64)) g b rest := by
  obtain ⟨A, c, h1, h2, h3, h4, h5, h6⟩ := hr
  exact ⟨A, c, (hb.block g (heap_lt h1)).trans h1, h2, h3, h4.below hb, h5, h6⟩
 have hlt : g < w.heap.size := by obtain ⟨A, c, h1, _⟩ := hr; exact heap_lt h1
 have h0 : w.cell? ⟨g, 0, none⟩ = some (.bool true) := by
  obtain ⟨A, c, h1, _⟩ := hr
  rw [cell_of_row w g 0 _ _ _ h1]; rfl
 have HN := Lib.hid (code_textR _ g b rest hr1)
 rw [← hD] at HN
 have HB := Lib.hid hb
 clear hr hr1 hD hb
 cases D with
 | some p =>
   obtain ⟨v, r⟩ := p
   go_enter_defers Tryz.func99, Tryz.ntmps99
   go_wp2_with (go_at_call 100; refine HN.out.mono ?_; rintro e w2 ⟨rfl, hrr, hoo⟩; have HR := Lib.hid hrr; have HO := Lib.hid hoo; clear hrr hoo)
   refine leaves_cons (f := 119) (args := #[.pointer (some ⟨w.heap.size, 0, none⟩)]) (by simp) (by simp [go_sem]) ?_
   refine (idle_string _ _).mono ?_
   rintro e u' w'' ⟨rfl, rfl, rfl⟩
   exact ⟨_, results_tmp rfl _ _ _, rfl, HR.out, (Only.of_below HB.out).trans HO.out⟩
 | none =>
   go_enter_defers Tryz.func99, Tryz.ntmps99
   go_wp2_with (go_at_call 100; refine HN.out.mono ?_; rintro e w2 ⟨rfl, hoo, hrr⟩; have HR := Lib.hid hrr; have HO := Lib.hid hoo; clear hrr hoo)
   obtain ⟨b2, rest2, A2, c2, hh, _⟩ := HR.out
   have hpp : w2.cell? ⟨w.heap.size, 0, none⟩ = some (.pointer (some ⟨g, 0, none⟩)) := by
    have := (HO.out.block w.heap.size (by simp) (by omega)).trans (heap_alloc_new w (.cells #[.pointer (some ⟨g, 0, none⟩)] 64))
    rw [cell_of_row w2 _ 0 _ _ _ this]; rfl
   have g1 : w2.cell? ⟨g, 1, none⟩ = some (.bool b2) := by rw [cell_of_row w2 g 1 _ _ _ hh]; rfl
   have hh1 := heap_setCell_same w2 g 1 _ _ (.bool true) hh
   have g2 : (w2.setCell ⟨g, 1, none⟩ (.bool true)).cell? ⟨g, 2, none⟩ = some (.slice A2 rest2.length c2) := by rw [cell_of_row _ g 2 _ _ _ hh1]; rfl
   refine leaves_cons (f := 119) (args := #[.pointer (some ⟨w.heap.size, 0, none⟩)]) (by simp) (by simp [go_sem]) ?_
   refine (catch_string w.heap.size g _ _ w2 _ _ [] hpp g1 g2 (frozen_of_row w2 g 1 _ _ hh) (frozen_of_row w2 g 2 _ _ hh)).mono ?_
   rintro e u' w'' ⟨rfl, rfl, rfl⟩
   have HS := Lib.hid (spoilt ((Only.of_below HB.out).trans HO.out) HR.out)
   show Leaves _ _ _ _ [] .returning _
   exact ⟨_, results_tmp rfl _ _ _, rfl, HS.out⟩
end Go.Proofs.YtplghpamckdklaaGreat

namespace Go.Proofs.YtplghpamckdklaaGreat
open Go.RowKit
set_option maxRecDepth 100000

theorem catch_bool (p : Nat) (g : Nat) (b x : Value) (w : World) (u : TypeId) (pv : Value) (older : List PanicEntry) (hp : w.cell? ⟨p, 0, none⟩ = some (.pointer (some ⟨g, 0, none⟩)))
 (h1 : w.cell? ⟨g, 1, none⟩ = some b) (h2 : (w.setCell ⟨g, 1, none⟩ (.bool true)).cell? ⟨g, 2, none⟩ = some x) (f1 : w.frozen? ⟨g, 1, none⟩ = false) (f2 : w.frozen? ⟨g, 2, none⟩ = false) :
 CallsD Tryz.prog 127 #[.pointer (some ⟨p, 0, none⟩)] (.panicking ({ v := .iface u pv, recovered := false } :: older)) w fun e u' w' =>
  e = .returned (.tuple #[]) ∧ u' = .panicking ({ v := .iface u pv, recovered := true } :: older) ∧ w' = (w.setCell ⟨g, 1, none⟩ (.bool true)).setCell ⟨g, 2, none⟩ (.slice none 0 0) := by
 refine callsD_of_wpS Tryz.func127 rfl fun c₀ cs hu => ?_
 apply wpS_seq
 apply wpS_region
 simp [wpOpsS, go_sem, recoverD, hu, Tryz.ntmps127, Exit.thenS]
 refine wpS_cond (t := true) (by simp [Act.eval, Array.replicate]) ?_
 simp only [if_true]
 refine wpS_of_wp ?_
 cases c₀
 go_wp2
 simp [bodyPostS, results, Tryz.results127]

theorem idle_bool (p : Nat) (w : World) :
 CallsD Tryz.prog 127 #[.pointer (some ⟨p, 0, none⟩)] .returning w fun e u' w' => e = .returned (.tuple #[]) ∧ u' = .returning ∧ w' = w := by
 refine callsD_of_wpS Tryz.func127 rfl fun c₀ cs hu => ?_
 apply wpS_seq
 apply wpS_region
 simp [wpOpsS, go_sem, recoverD, hu, Tryz.ntmps127, Exit.thenS]
 refine wpS_cond (t := false) (by simp [Act.eval, Array.replicate]) ?_
 simp only [Bool.false_eq_true, if_false]
 refine wpS_of_wp (wp_skip ?_)
 cases c₀
 simp_all [bodyPostS, results, Tryz.results127]

set_option maxHeartbeats 2000000 in
theorem read_bool_any (w : World) (g : Nat) (b : Bool) (rest : Text) (hr : Rdr w g b rest) :
 Calls Tryz.prog 120 #[.pointer (some ⟨g, 0, none⟩), .func (Fn.func 121) #[.pointer (some ⟨g, 0, none⟩)] #[]] w (Got w g b (.bool false) ((flagP rest).map fun p => (.bool p.1, p.2))) := by
 have hmf : ∀ (fn : Fn) (first cap : Array Value) (w : World), (Instr.makeFunc fn first cap).run Tryz.prog w = .ok (.func fn first cap) w := fun _ _ _ _ => rfl
 obtain ⟨D, hD⟩ : ∃ D, D = (flagP rest).map fun p => (Value.bool p.1, p.2) := ⟨_, rfl⟩
 rw [← hD]
 have hb : Below w.heap.size w (w.alloc (.cells #[.pointer (some ⟨g, 0, none⟩)] 64)) := (Below.refl _ _).alloc (Nat.le_refl _) _
 have hr1 : Rdr (w.alloc (.cells #[.pointer (some ⟨g, 0, none⟩)] 64)) g b rest := by
  obtain ⟨A, c, h1, h2, h3, h4, h5, h6⟩ := hr
  exact ⟨A, c, (hb.block g (heap_lt h1)).trans h1, h2, h3, h4.below hb, h5, h6⟩
 have hlt : g < w.heap.size := by obtain ⟨A, c, h1, _⟩ := hr; exact heap_lt h1
 have h0 : w.cell? ⟨g, 0, none⟩ = some (.bool true) := by
  obtain ⟨A, c, h1, _⟩ := hr
  rw [cell_of_row w g 0 _ _ _ h1]; rfl
 have HN := Lib.hid (code_flagR _ g b rest hr1)
 rw [← hD] at HN
 have HB := Lib.hid hb
 clear hr hr1 hD hb
 cases D with
 | some p =>
   obtain ⟨v, r⟩ := p
   go_enter_defers Tryz.func120, Tryz.ntmps120
   go_wp2_with (go_at_call 121; refine HN.out.mono ?_; rintro e w2 ⟨rfl, hrr, hoo⟩; have HR := Lib.hid hrr; have HO := Lib.hid hoo; clear hrr hoo)
   refine leaves_cons (f := 127) (args := #[.pointer (some ⟨w.heap.size, 0, none⟩)]) (by simp) (by simp [go_sem]) ?_
   refine (idle_bool _ _).mono ?_
   rintro e u' w'' ⟨rfl, rfl, rfl⟩
   exact ⟨_, results_tmp rfl _ _ _, rfl, HR.out, (Only.of_below HB.out).trans HO.out⟩
 | none =>
   go_enter_defers Tryz.func120, Tryz.ntmps120
   go_wp2_with (go_at_call 121; refine HN.out.mono ?_; rintro e w2 ⟨rfl, hoo, hrr⟩; have HR := Lib.hid hrr; have HO := Lib.hid hoo; clear hrr hoo)
   obtain ⟨b2, rest2, A2, c2, hh, _⟩ := HR.out
   have hpp : w2.cell? ⟨w.heap.size, 0, none⟩ = some (.pointer (some ⟨g, 0, none⟩)) := by
    have := (HO.out.block w.heap.size (by simp) (by omega)).trans (heap_alloc_new w (.cells #[.pointer (some ⟨g, 0, none⟩)] 64))
    rw [cell_of_row w2 _ 0 _ _ _ this]; rfl
   have g1 : w2.cell? ⟨g, 1, none⟩ = some (.bool b2) := by rw [cell_of_row w2 g 1 _ _ _ hh]; rfl
   have hh1 := heap_setCell_same w2 g 1 _ _ (.bool true) hh
   have g2 : (w2.setCell ⟨g, 1, none⟩ (.bool true)).cell? ⟨g, 2, none⟩ = some (.slice A2 rest2.length c2) := by rw [cell_of_row _ g 2 _ _ _ hh1]; rfl
   refine leaves_cons (f := 127) (args := #[.pointer (some ⟨w.heap.size, 0, none⟩)]) (by simp) (by simp [go_sem]) ?_
   refine (catch_bool w.heap.size g _ _ w2 _ _ [] hpp g1 g2 (frozen_of_row w2 g 1 _ _ hh) (frozen_of_row w2 g 2 _ _ hh)).mono ?_
   rintro e u' w'' ⟨rfl, rfl, rfl⟩
   have HS := Lib.hid (spoilt ((Only.of_below HB.out).trans HO.out) HR.out)
   show Leaves _ _ _ _ [] .returning _
   exact ⟨_, results_tmp rfl _ _ _, rfl, HS.out⟩
end Go.Proofs.YtplghpamckdklaaGreat
