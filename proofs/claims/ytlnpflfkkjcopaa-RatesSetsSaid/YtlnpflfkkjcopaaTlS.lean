/- The document's own answers on a list of spans. -/
import Derived.Test.YtlnpflfkkjcopaaTlR
namespace Go.Proofs.Ytlnpflfkkjcopaa
open Go.RowKit
set_option maxRecDepth 100000

theorem noOn_next {L : List Sp} {day : Int} {k : Nat} (hk : k < L.length) (h : NoOn day (L.take k)) (hx : onP day L[k] = false) : NoOn day (L.take (k + 1)) := by
  rw [List.take_succ_eq_append_getElem hk]
  exact find_none h hx
theorem take_split {L : List Sp} {k : Nat} (hk : k < L.length) : L = L.take k ++ L[k] :: L.drop (k + 1) := by
  conv => lhs; rw [← List.take_append_drop k L]
  rw [List.drop_eq_getElem_cons hk]
set_option maxHeartbeats 1000000 in
theorem ref_at (w : World) (A : Option Addr) (c : Nat) (L : List Sp) (day : Int) (hr : Row w A L) (hl : L.length ≤ 100) : Calls Try.prog 41 #[.slice A L.length c, .int .i64 day] w fun e w' => e = .returned (.tuple #[.int .i64 (atX L day), .bool (atB L day)]) ∧ w = w' := by
  have HR := Lib.hid hr
  have il : (L.length : Int) ≤ 100 := by omega
  clear hr
  go_enter Try.func41, Try.ntmps41
  go_wp2
  go_loop [6] (fun i => ∃ k : Nat, k ≤ L.length ∧ i = .int .i64 k ∧ Hid (NoOn day (L.take k))) (fun i => L.length - (intOf i).toNat)
  case atStart => exact ⟨0, Nat.zero_le _, rfl, Lib.hid rfl⟩
  case round =>
    obtain ⟨k, hk, rfl, HN⟩ := hrel
    by_cases hlt : k < L.length
    · have hlt' : (k : Int) < (L.length : Int) := by omega
      obtain ⟨b, o, rfl, hbl, x0, x1, x2⟩ := HR.out.at_ k hlt
      obtain ⟨x, hx⟩ : ∃ x, x = L[k] := ⟨_, rfl⟩
      rw [← hx] at x0 x1 x2
      have HX := Lib.hid hx
      clear hbl hx
      by_cases h1 : x.1 ≤ day
      · by_cases h2 : day ≤ x.2.1
        · have HF := Lib.hid (find_next (take_split hlt) HN.out (show onP day L[k] = true from by rw [← HX.out]; exact decide_eq_true ⟨h1, h2⟩))
          have HE : Hid (atX L day = x.2.2 ∧ atB L day = true) := Lib.hid ⟨by unfold atX; rw [HF.out, ← HX.out], by unfold atB; rw [HF.out]; rfl⟩
          go_wp2
          go_ret2
          exact ⟨by rw [HE.out.1, HE.out.2]; rfl, rfl⟩
        · have HF := Lib.hid (noOn_next hlt HN.out (show onP day L[k] = false from by rw [← HX.out]; exact decide_eq_false (fun h => h2 h.2)))
          go_wp2
          go_round
          case rel => exact ⟨k + 1, by omega, by simp, HF⟩
          case measure => simp [intOf]; omega
      · have HF := Lib.hid (noOn_next hlt HN.out (show onP day L[k] = false from by rw [← HX.out]; exact decide_eq_false (fun h => h1 h.1)))
        go_wp2
        go_round
        case rel => exact ⟨k + 1, by omega, by simp, HF⟩
        case measure => simp [intOf]; omega
    · obtain rfl : k = L.length := by omega
      have HE : Hid (atX L day = 0 ∧ atB L day = false) := Lib.hid (by
        have := HN.out
        rw [List.take_length] at this
        unfold NoOn at this
        exact ⟨by unfold atX; rw [this], by unfold atB; rw [this]; rfl⟩)
      go_wp2
      go_ret2
      exact ⟨by rw [HE.out.1, HE.out.2]; rfl, rfl⟩
set_option maxHeartbeats 1000000 in
theorem ref_gap_no (w : World) (v : Value) (f u : Int) (hs : ¬ isSp f u) : Calls Try.prog 16 #[v, .int .i64 f, .int .i64 u] w fun e w' => e = .returned (.int .i64 0) ∧ Below w.heap.size w w' := by
  have HI := Lib.hid (fun W => right_at (decide_eq_false hs) W)
  clear hs
  go_enter Try.func16, Try.ntmps16
  go_wp2_with (go_at_call 42; refine (HI.out _).mono ?_; rintro e w1 ⟨rfl, rfl⟩)
  go_ret
  exact ⟨rfl, Below.refl _ _⟩
set_option maxHeartbeats 1000000 in
theorem ref_gap_yes (w : World) (A : Option Addr) (c : Nat) (L : List Sp) (f u : Int) (hr : Row w A L) (hl : L.length ≤ 100) (hs : isSp f u) : Calls Try.prog 16 #[.slice A L.length c, .int .i64 f, .int .i64 u] w fun e w' => e = .returned (.int .i64 (gapL f u L)) ∧ Below w.heap.size w w' := by
  have HI := Lib.hid (fun W => right_at (decide_eq_true hs) W)
  have HR := Lib.hid hr
  have il : (L.length : Int) ≤ 100 := by omega
  have HS := Lib.hid hs
  obtain ⟨f0, hf0⟩ : ∃ f0, f0 = u - f + 1 := ⟨_, rfl⟩
  have HF0 : Hid (f0 = gapL f u (L.take 0)) := Lib.hid (by rw [hf0]; simp [gapL])
  have hw0 : IntKind.i64.wrap (u - f) = u - f := by obtain ⟨h1, h2, h3⟩ := hs; rw [IntKind.wrap_i64]; omega
  have hw1 : IntKind.i64.wrap (u - f + 1) = f0 := by obtain ⟨h1, h2, h3⟩ := hs; rw [IntKind.wrap_i64]; omega
  clear hr hs hf0 hl
  go_enter Try.func16, Try.ntmps16
  go_wp2_with (go_at_call 42; refine (HI.out _).mono ?_; rintro e w1 ⟨rfl, rfl⟩; refine Stop.out ?_)
  unfold Stop
  go_wp2
  clear hw0 hw1 HI
  go_loopw [7, 8] (fun n i wr => ∃ (k : Nat) (z : Int), k ≤ L.length ∧ i = .int .i64 k ∧ n = .int .i64 z ∧ Hid (z = gapL f u (L.take k)) ∧ Hid (Below w.heap.size w wr)) (fun _ i _ => L.length - (intOf i).toNat)
  case atStart => exact ⟨0, f0, Nat.zero_le _, rfl, rfl, HF0, Lib.hid (Below.refl _ _)⟩
  case round =>
    obtain ⟨k, z, hk, rfl, rfl, HZ, HB⟩ := hrel
    by_cases hlt : k < L.length
    · have hlt' : (k : Int) < (L.length : Int) := by omega
      obtain ⟨b, o, rfl, hbl, x0, x1, x2⟩ := (HR.out.on HB.out).at_ k hlt
      obtain ⟨x, hx⟩ : ∃ x, x = L[k] := ⟨_, rfl⟩
      rw [← hx] at x0 x1 x2
      have HMt := Lib.hid (fun V => ref_meet x.1 x.2.1 x.2.2 f u 0 V)
      have HNx : Hid (gapL f u (L.take (k + 1)) = z - cutN f u x) := Lib.hid (by rw [HZ.out, hx, List.take_succ_eq_append_getElem hlt]; exact gapL_next f u _ _)
      have HBd : Hid (0 ≤ cutN f u x ∧ cutN f u x ≤ 2932897 ∧ -2000000000 ≤ z ∧ z ≤ 2000000000) := Lib.hid (by
        have h1 := cut_bd f u x
        have h2 := cuts_bd f u (L.take k)
        have h3 : (L.take k).length ≤ 100 := by rw [List.length_take]; omega
        obtain ⟨h4, h5, h6⟩ := HS.out
        rw [HZ.out]
        refine ⟨h1.1, h1.2, ?_, ?_⟩ <;> unfold gapL <;> omega)
      have hcm := meetB_comm f u x.1 x.2.1
      have hcf := meetF_comm f u x.1 x.2.1
      have hcu := meetU_comm f u x.1 x.2.1
      clear hbl hx
      by_cases hq : meetB x.1 x.2.1 f u = true
      · have HC : Hid (cutN f u x = meetU x.1 x.2.1 f u - meetF x.1 x.2.1 f u + 1) := Lib.hid (by unfold cutN; rw [hcm, if_pos hq, hcf, hcu])
        have hsp := meet_sp hq
        rw [hq] at HMt
        generalize meetF x.1 x.2.1 f u = M1 at HMt HC hsp
        generalize meetU x.1 x.2.1 f u = M2 at HMt HC hsp
        obtain ⟨z2, hz2⟩ : ∃ z2, z2 = z - (M2 - M1 + 1) := ⟨_, rfl⟩
        have HN2 : Hid (z2 = gapL f u (L.take (k + 1))) := Lib.hid (by rw [HNx.out, HC.out, hz2])
        have hw0 : IntKind.i64.wrap (M2 - M1) = M2 - M1 := by obtain ⟨h1, h2, h3⟩ := hsp; rw [IntKind.wrap_i64]; omega
        have hw1 : IntKind.i64.wrap (M2 - M1 + 1) = M2 - M1 + 1 := by obtain ⟨h1, h2, h3⟩ := hsp; rw [IntKind.wrap_i64]; omega
        have hw2 : IntKind.i64.wrap (z - (M2 - M1 + 1)) = z2 := by have := HBd.out; have := HC.out; rw [IntKind.wrap_i64]; omega
        clear hcm hcf hcu hq hsp hz2 HNx HC
        go_wp2_with (go_at_call 18; refine (HMt.out _).mono ?_; rintro e w2 ⟨rfl, hb⟩; have HB2 := Lib.hid (HB.out.trans (hb.mono HB.out.size)); have HB3 := Lib.hid (below_alloc w2 (.cells #[.int .i64 M1, .int .i64 M2, .int .i64 0] 29)); clear hb; refine Stop.out ?_)
        unfold Stop
        go_wp2
        go_roundw
        case rel => exact ⟨k + 1, z2, by omega, by go_num, rfl, HN2, Lib.hid (HB2.out.trans (HB3.out.mono HB2.out.size))⟩
        case measure => simp [intOf]; omega
      · obtain hq : meetB x.1 x.2.1 f u = false := by simpa using hq
        have HN2 : Hid (z = gapL f u (L.take (k + 1))) := Lib.hid (by rw [HNx.out]; unfold cutN; rw [hcm, hq]; simp)
        rw [hq] at HMt
        generalize meetF x.1 x.2.1 f u = M1 at HMt
        generalize meetU x.1 x.2.1 f u = M2 at HMt
        clear hcm hcf hcu hq HNx
        go_wp2_with (go_at_call 18; refine (HMt.out _).mono ?_; rintro e w2 ⟨rfl, hb⟩; have HB2 := Lib.hid (HB.out.trans (hb.mono HB.out.size)); have HB3 := Lib.hid (below_alloc w2 (.cells #[.int .i64 M1, .int .i64 M2, .int .i64 0] 29)); clear hb; refine Stop.out ?_)
        unfold Stop
        go_wp2
        go_roundw
        case rel => exact ⟨k + 1, z, by omega, by go_num, rfl, HN2, Lib.hid (HB2.out.trans (HB3.out.mono HB2.out.size))⟩
        case measure => simp [intOf]; omega
    · obtain rfl : k = L.length := by omega
      have HE : Hid (z = gapL f u L) := Lib.hid (by rw [HZ.out, List.take_length])
      go_wp2
      go_ret
      exact ⟨by rw [← HE.out]; rfl, HB.out⟩
theorem ref_gap (w : World) (A : Option Addr) (c : Nat) (L : List Sp) (f u : Int) (hr : Row w A L) (hl : L.length ≤ 100) : Calls Try.prog 16 #[.slice A L.length c, .int .i64 f, .int .i64 u] w fun e w' => e = .returned (.int .i64 (gapV f u L)) ∧ Below w.heap.size w w' := by
  by_cases h1 : isSp f u
  · rw [show gapV f u L = gapL f u L by unfold gapV; rw [if_pos h1]]
    exact ref_gap_yes w A c L f u hr hl h1
  · rw [show gapV f u L = 0 by unfold gapV; rw [if_neg h1]]
    exact ref_gap_no w _ f u h1
end Go.Proofs.Ytlnpflfkkjcopaa
