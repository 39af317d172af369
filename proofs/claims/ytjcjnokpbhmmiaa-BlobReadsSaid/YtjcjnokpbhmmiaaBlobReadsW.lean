/- The statement on whatever is read: its walk. -/
import Derived.Test.YtjcjnokpbhmmiaaBlobReadsL
namespace Go.Proofs.Ytjcjnokpbhmmiaa
open Go.RowKit
set_option maxRecDepth 100000

noncomputable def nv (rest : Text) : Int := match numP rest with | some p => p.1 | none => 0
noncomputable def tv (rest : Text) : ByteArray := match textP rest with | some p => p.1 | none => {data:=#[]}
noncomputable def fv (rest : Text) : Bool := match flagP rest with | some p => p.1 | none => false
theorem told_n (rest : Text) : told (.int .i64 0) ((numP rest).map fun p => (.int .i64 p.1, p.2)) = .int .i64 (nv rest) := by
  unfold nv; cases numP rest <;> rfl
theorem told_t (rest : Text) : told (.string {data:=#[]}) ((textP rest).map fun p => (.string p.1, p.2)) = .string (tv rest) := by
  unfold tv; cases textP rest <;> rfl
theorem told_f (rest : Text) : told (.bool false) ((flagP rest).map fun p => (.bool p.1, p.2)) = .bool (fv rest) := by
  unfold fv; cases flagP rest <;> rfl

set_option maxHeartbeats 2000000 in
theorem blobReads_light (T : Text) (A : Option Addr) (c : Nat) (L : List OpV) (K : Option Addr) (kcap : Nat) (w : World) (hm : T.length ≤ 5000) (hk : L.length ≤ 100) (hT : Txt w A T) (hA : A = none → T = []) (hc : T.length ≤ c) (hcm : c ≤ maxLen) (hO : Ops w K L) :
    Calls Try.prog 3 #[.slice A T.length c, .slice K L.length kcap] w fun e w' => e = .returned (.bool true) ∧ Below w.heap.size w w' := by
  have HO := Lib.hid hO
  have HOp := Lib.hid (code_open T A c w (by omega) hT hA)
  have h1 : (T.length : Int) ≤ 5000 := by omega
  have h2 : (L.length : Int) ≤ 100 := by omega
  have HIn : Hid (∀ w1 g, w.heap.size ≤ g → g < w1.heap.size → Rdr w1 g false T → Below w.heap.size w w1 → RdI w g w1.heap.size A T c false T (w1.alloc (.cells #[.slice A T.length c, .int .i64 0, .bool false] 29))) := Lib.hid (fun w1 g k1 k2 k3 k4 => by
    have hb : Below w1.heap.size w1 (w1.alloc (.cells #[.slice A T.length c, .int .i64 0, .bool false] 29)) := (Below.refl _ _).alloc (Nat.le_refl _) _
    have hl : T ≠ [] → ∀ a, A = some a → a.block < w.heap.size := fun hn a ha => by
      obtain ⟨a2, e2, hl2, _⟩ := hT hn
      rw [ha] at e2
      injection e2 with e2
      rw [e2]; exact hl2
    refine ⟨rdr_below k3 hb k2, ⟨0, ⟨heap_alloc_new w1 _, Nat.zero_le _, hm, hc, hcm, (hT.below k4).below hb, hA, fun hn a ha => ?_⟩, by simp [dv]⟩, k1, k2, hl, below_tr k4 hb (Nat.le_refl _)⟩
    have h5 := hl hn a ha
    omega)
  clear hT hA hO hc hcm
  go_enter Try.func3, Try.ntmps3
  go_wp2_with (first
    | (go_at_call 10; refine HOp.out.mono ?_; rintro e w1 ⟨g, hg1, hg2, rfl, hr1, hb1⟩; have HI := Lib.hid (HIn.out w1 g hg1 hg2 hr1 hb1); clear hg1 hg2 hr1 hb1))
  generalize w1.heap.size = d at *
  go_loopw [29] (fun i wr => ∃ (k : Nat) (bad : Bool) (rest : Text), k ≤ L.length ∧ i = .int .i64 k ∧ Hid (RdI w g d A T c bad rest wr)) (fun i _ => L.length - (intOf i).toNat)
  case atStart => exact ⟨0, false, T, Nat.zero_le _, rfl, HI⟩
  case round =>
    obtain ⟨k, bad, rest, hkl, rfl, HW⟩ := hrel
    by_cases hlt : k < L.length
    · obtain ⟨b, off, rfl, hbl, c0, c1, c2, c3, hg⟩ := (HO.out.below HW.out.2.2.2.2.2) k hlt
      obtain ⟨o, ho⟩ : ∃ o, o = L[k] := ⟨_, rfl⟩
      rw [← ho] at c0 c1 c2 c3 hg
      clear ho hg
      have HWa : Hid (∀ o1, RdI w g d A T c bad rest (wr.alloc o1)) := Lib.hid (fun o1 => rdI_below HW.out ((Below.refl wr.heap.size wr).alloc (Nat.le_refl _) o1))
      by_cases h0 : o.k = 0
      · have HC1 : Hid (∀ o1, Calls Try.prog 11 #[.pointer (some ⟨g, 0, none⟩)] (wr.alloc o1) fun e w' => e = .returned (.int .i64 (nv rest)) ∧ Hid (RdM w g d A T c bad rest ((numP rest).map fun p => (.int .i64 p.1, p.2)) w')) := Lib.hid (fun o1 =>
          (code_rnum (wr.alloc o1) g bad rest (HWa.out o1).1).mono fun e w' h => by have := rdI_code (HWa.out o1) h; rw [told_n] at this; exact this)
        have HC2 : Hid (∀ W, RdM w g d A T c bad rest ((numP rest).map fun p => (.int .i64 p.1, p.2)) W → Calls Try.prog 12 #[.pointer (some ⟨d, 0, none⟩)] W fun e w' => e = .returned (.int .i64 (nv rest)) ∧ Hid (∃ bad' rest', RdI w g d A T c bad' rest' w')) := Lib.hid (fun W hW => by
          have := rdM_num hW
          rw [told_n] at this
          exact this)
        generalize nv rest = n at *
        go_wp2_with (first
          | (go_at_call 11; refine (HC1.out _).mono ?_; rintro e w2 ⟨rfl, HM2⟩)
          | (go_at_call 12; refine (HC2.out w2 HM2.out).mono ?_; rintro e w3 ⟨rfl, h3⟩; obtain ⟨b3, r3, hi3⟩ := h3.out; have HI3 := Lib.hid hi3; clear hi3)
          | (go_at_call 17; refine (rdI_left HI3.out).mono ?_; rintro e w4 ⟨rfl, rfl⟩)
          | (go_at_call 18; refine (rdI_dleft HI3.out).mono ?_; rintro e w4 ⟨rfl, HI4⟩))
        go_roundw
        case rel => exact ⟨k + 1, b3, r3, by omega, by go_num, HI4⟩
        case measure => simp [intOf]; omega
      · by_cases h01 : o.k = 1
        · have HC1 : Hid (∀ o1, Calls Try.prog 13 #[.pointer (some ⟨g, 0, none⟩)] (wr.alloc o1) fun e w' => e = .returned (.string (tv rest)) ∧ Hid (RdM w g d A T c bad rest ((textP rest).map fun p => (.string p.1, p.2)) w')) := Lib.hid (fun o1 =>
            (code_rtext (wr.alloc o1) g bad rest (HWa.out o1).1).mono fun e w' h => by have := rdI_code (HWa.out o1) h; rw [told_t] at this; exact this)
          have HC2 : Hid (∀ W, RdM w g d A T c bad rest ((textP rest).map fun p => (.string p.1, p.2)) W → Calls Try.prog 14 #[.pointer (some ⟨d, 0, none⟩)] W fun e w' => e = .returned (.string (tv rest)) ∧ Hid (∃ bad' rest', RdI w g d A T c bad' rest' w')) := Lib.hid (fun W hW => by
            have := rdM_text hW
            rw [told_t] at this
            exact this)
          clear h0
          generalize tv rest = n at *
          go_wp2_with (first
            | (go_at_call 13; refine (HC1.out _).mono ?_; rintro e w2 ⟨rfl, HM2⟩)
            | (go_at_call 14; refine (HC2.out w2 HM2.out).mono ?_; rintro e w3 ⟨rfl, h3⟩; obtain ⟨b3, r3, hi3⟩ := h3.out; have HI3 := Lib.hid hi3; clear hi3)
            | (go_at_call 17; refine (rdI_left HI3.out).mono ?_; rintro e w4 ⟨rfl, rfl⟩)
            | (go_at_call 18; refine (rdI_dleft HI3.out).mono ?_; rintro e w4 ⟨rfl, HI4⟩))
          go_roundw
          case rel => exact ⟨k + 1, b3, r3, by omega, by go_num, HI4⟩
          case measure => simp [intOf]; omega
        · by_cases h02 : o.k = 2
          · have HC1 : Hid (∀ o1, Calls Try.prog 15 #[.pointer (some ⟨g, 0, none⟩)] (wr.alloc o1) fun e w' => e = .returned (.bool (fv rest)) ∧ Hid (RdM w g d A T c bad rest ((flagP rest).map fun p => (.bool p.1, p.2)) w')) := Lib.hid (fun o1 =>
              (code_rflag (wr.alloc o1) g bad rest (HWa.out o1).1).mono fun e w' h => by have := rdI_code (HWa.out o1) h; rw [told_f] at this; exact this)
            have HC2 : Hid (∀ W, RdM w g d A T c bad rest ((flagP rest).map fun p => (.bool p.1, p.2)) W → Calls Try.prog 16 #[.pointer (some ⟨d, 0, none⟩)] W fun e w' => e = .returned (.bool (fv rest)) ∧ Hid (∃ bad' rest', RdI w g d A T c bad' rest' w')) := Lib.hid (fun W hW => by
              have := rdM_flag hW
              rw [told_f] at this
              exact this)
            clear h0 h01
            generalize fv rest = n at *
            go_wp2_with (first
              | (go_at_call 15; refine (HC1.out _).mono ?_; rintro e w2 ⟨rfl, HM2⟩)
              | (go_at_call 16; refine (HC2.out w2 HM2.out).mono ?_; rintro e w3 ⟨rfl, h3⟩; obtain ⟨b3, r3, hi3⟩ := h3.out; have HI3 := Lib.hid hi3; clear hi3)
              | (go_at_call 17; refine (rdI_left HI3.out).mono ?_; rintro e w4 ⟨rfl, rfl⟩)
              | (go_at_call 18; refine (rdI_dleft HI3.out).mono ?_; rintro e w4 ⟨rfl, HI4⟩))
            go_roundw
            case rel => exact ⟨k + 1, b3, r3, by omega, by go_num, HI4⟩
            case measure => simp [intOf]; omega
          · have e0 : (o.k == 0) = false := by simpa using h0
            have e1 : (o.k == 1) = false := by simpa using h01
            have e2 : (o.k == 2) = false := by simpa using h02
            clear h0 h01 h02
            go_wp2_with (first
              | (go_at_call 17; refine (rdI_left (HWa.out _)).mono ?_; rintro e w4 ⟨rfl, rfl⟩)
              | (go_at_call 18; refine (rdI_dleft (HWa.out _)).mono ?_; rintro e w4 ⟨rfl, HI4⟩))
            go_roundw
            case rel => exact ⟨k + 1, bad, rest, by omega, by go_num, HI4⟩
            case measure => simp [intOf]; omega
    · obtain rfl : k = L.length := by omega
      have HD := Lib.hid (code_done wr g bad rest HW.out.1)
      have HDd := Lib.hid (rdI_ddone HW.out)
      by_cases hd : bad = false ∧ rest = []
      · rw [if_neg (by simp [hd])] at HD
        rw [decide_eq_true hd] at HDd
        clear hd
        go_wp2_with (first
          | (go_at_call 19; refine HD.out.mono ?_; rintro e w5 ⟨rfl, rfl⟩)
          | (go_at_call 20; refine HDd.out.mono ?_; rintro e w5 ⟨rfl, HB5⟩)
          | (go_at_call 9; refine (lives_any _).mono ?_; rintro e w6 ⟨rfl, hb6⟩))
        go_ret
        exact ⟨rfl, below_tr HB5.out hb6 (Nat.le_refl _)⟩
      · rw [if_pos (by cases bad <;> cases rest <;> simp_all)] at HD
        rw [decide_eq_false hd] at HDd
        clear hd
        go_wp2_with (first
          | (go_at_call 19; refine HD.out.mono ?_; rintro e w5 ⟨rfl, rfl⟩)
          | (go_at_call 20; refine HDd.out.mono ?_; rintro e w5 ⟨rfl, HB5⟩)
          | (go_at_call 9; refine (lives_any _).mono ?_; rintro e w6 ⟨rfl, hb6⟩))
        go_ret
        exact ⟨rfl, below_tr HB5.out hb6 (Nat.le_refl _)⟩

set_option maxHeartbeats 1000000 in
theorem blobReads_any (T : Text) (A : Option Addr) (c : Nat) (L : List OpV) (K : Option Addr) (kcap : Nat) (w : World) (hm : T.length ≤ 9223372036854775807) (hk : L.length ≤ 9223372036854775807) (hT : Txt w A T) (hA : A = none → T = []) (hc : T.length ≤ c) (hcm : c ≤ maxLen) (hO : Ops w K L) :
    Calls Try.prog 3 #[.slice A T.length c, .slice K L.length kcap] w fun e w' => e = .returned (.bool true) ∧ Below w.heap.size w w' := by
  by_cases h1 : T.length ≤ 5000
  · by_cases h2 : L.length ≤ 100
    · exact blobReads_light T A c L K kcap w h1 h2 hT hA hc hcm hO
    · have h3 : (T.length : Int) ≤ 5000 := by omega
      have h4 : (100 : Int) < (L.length : Int) := by omega
      clear hT hA hO h1 h2 hm hk hc hcm
      go_enter Try.func3, Try.ntmps3
      go_wp2_with (go_at_call 9; refine (lives_any _).mono ?_; rintro e w6 ⟨rfl, hb6⟩)
      go_ret
      exact ⟨rfl, hb6⟩
  · have h3 : (5000 : Int) < (T.length : Int) := by omega
    clear hT hA hO h1 hm hk hc hcm
    go_enter Try.func3, Try.ntmps3
    go_wp2_with (go_at_call 9; refine (lives_any _).mono ?_; rintro e w6 ⟨rfl, hb6⟩)
    go_ret
    exact ⟨rfl, hb6⟩
end Go.Proofs.Ytjcjnokpbhmmiaa
