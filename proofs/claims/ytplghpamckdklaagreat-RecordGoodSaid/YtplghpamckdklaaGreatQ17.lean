/- A number, a text, a flag read, or refused. A text and a flag read, or refused. What reads, and catches what is raised. -/
import Derived.Test.YtplghpamckdklaaGreatQ16
namespace Go.Proofs.YtplghpamckdklaaGreat
open Go.RowKit
set_option maxRecDepth 100000

open Classical in
/-- a size, and what is left; nothing, if it is refused -/
noncomputable def sizeP (rest : Text) (many : Nat) : Option (Nat × Text) := if okS rest many then some (Blob.val (rest.take many), rest.drop many) else none
/-- what a reading call leaves -/
def Res (w : World) (g : Nat) (b : Bool) (d : Option (Value × Text)) (e : Ending) (w' : World) : Prop := match d with
  | some (v, r) => e = .returned v ∧ Rdr w' g b r ∧ Only w w' g
  | none => Pan w g e w'
theorem size_any (w : World) (g : Nat) (b : Bool) (rest : Text) (many : Nat) (hr : Rdr w g b rest) :
    Calls Tryz.prog 117 #[.pointer (some ⟨g, 0, none⟩), .int .i64 many] w (Res w g b ((sizeP rest many).map fun p => (.int .i64 (p.1 : Nat), p.2))) := by
  unfold sizeP
  by_cases h : okS rest many
  · rw [if_pos h]
    obtain ⟨h1, h2, h3, h4⟩ := h
    rcases h3 with rfl | h3
    · exact size_zero w g b rest hr
    · rcases Nat.eq_zero_or_pos many with rfl | hp
      · exact size_zero w g b rest hr
      · exact size_pos w g b rest many _ hr h1 h2 hp h3 rfl h4
  · rw [if_neg h]
    show Calls _ _ _ _ (Pan w g)
    by_cases h1 : many ≤ 8
    · by_cases h2 : many ≤ rest.length
      · rcases Nat.eq_zero_or_pos many with rfl | hp
        · exact absurd ⟨h1, h2, .inl rfl, by simp [Blob.val]⟩ h
        · by_cases h3 : rest[0]? = some 0
          · exact size_nought w g b rest many hr h1 h2 hp h3
          · exact size_big w g b rest many _ hr h1 h2 hp h3 rfl (by
              rcases Nat.lt_or_ge 9223372036854775807 (Blob.val (rest.take many)) with hv | hv
              · exact hv
              · exact absurd ⟨h1, h2, .inr h3, hv⟩ h)
      · exact size_short w g b rest many hr h1 (by omega)
    · exact size_long w g b rest many hr (by omega)

/-- a number, and what is left -/
noncomputable def numP (rest : Text) : Option (Int × Text) := match rest with
  | [] => none
  | h :: r => match sizeP r (h.toNat % 128) with
    | none => none
    | some (n, r') => if h.toNat < 128 then some ((n : Int), r') else if 0 < n then some (-(n : Int), r') else none
theorem sizeP_le {rest r : Text} {many n : Nat} (h : sizeP rest many = some (n, r)) : n ≤ 9223372036854775807 := by
  unfold sizeP at h
  by_cases hk : okS rest many
  · rw [if_pos hk] at h
    injection h with h
    injection h with h1 h2
    rw [← h1]; exact hk.2.2.2
  · rw [if_neg hk] at h; cases h

/-- one byte taken -/
theorem take_one (w : World) (g : Nat) (b : Bool) (h : UInt8) (r : Text) (hr : Rdr w g b (h :: r)) :
    Calls Tryz.prog 116 #[.pointer (some ⟨g, 0, none⟩), .int .i64 1] w fun e w' => ∃ a c, e = .returned (.slice (some a) 1 c) ∧ w'.cell? a = some (.int .u8 ((h.toNat : Nat) : Int)) ∧ Hid (Rdr w' g b r ∧ Only w w' g) := by
  refine (take_yes w g b (h :: r) 1 hr (by simp)).mono fun e w' ⟨A, c, h3, h4, h5, h6, h7⟩ => ?_
  obtain ⟨a, rfl, _, hc⟩ := h4.at_ (k := 0) (by simp)
  exact ⟨a, c, h3, by simpa [Addr.add] using hc, Lib.hid ⟨h6, h7⟩⟩
theorem Pan.later {w w1 w' : World} {g : Nat} {e : Ending} (h : Pan w1 g e w') (ho : Only w w1 g) : Pan w g e w' := ⟨h.1, ho.trans h.2.1, h.2.2⟩

set_option maxRecDepth 100000 in
set_option maxHeartbeats 2000000 in
theorem code_num (w : World) (g : Nat) (b : Bool) (rest : Text) (hr : Rdr w g b rest) :
    Calls Tryz.prog 98 #[.pointer (some ⟨g, 0, none⟩)] w (Res w g b ((numP rest).map fun p => (.int .i64 p.1, p.2))) := by
  cases rest with
  | nil =>
    have HT := Lib.hid (take_no w g b [] 1 hr (by simp))
    have HR := Lib.hid hr
    clear hr
    go_enter Tryz.func98, Tryz.ntmps98
    go_wp2_with (go_at_call 116; refine HT.out.mono ?_; rintro e w' ⟨rfl, rfl⟩)
    exact ⟨rfl, rfl, Only.refl _ _, _, _, HR.out⟩
  | cons h r =>
    have HT := Lib.hid (take_one w g b h r hr)
    have HS : Hid (∀ W, Rdr W g b r → Calls Tryz.prog 117 #[.pointer (some ⟨g, 0, none⟩), .int .i64 (((h.toNat : Nat) : Int) % 128)] W (Res W g b ((sizeP r (h.toNat % 128)).map fun p => (.int .i64 (p.1 : Nat), p.2)))) := Lib.hid (fun W hW => by
      have := size_any W g b r (h.toNat % 128) hW
      rw [Int.natCast_emod] at this
      exact this)
    obtain ⟨D, hD⟩ : ∃ D, D = (numP (h :: r)).map fun p => (Value.int .i64 p.1, p.2) := ⟨_, rfl⟩
    rw [← hD]
    have h0 : (0 : Int) ≤ ((h.toNat : Nat) : Int) := by omega
    clear hr
    cases hs : sizeP r (h.toNat % 128) with
    | none =>
      have HD : Hid (D = none) := Lib.hid (by rw [hD]; unfold numP; simp only [hs]; rfl)
      rw [hs] at HS
      clear hs hD
      go_enter Tryz.func98, Tryz.ntmps98
      go_wp2_with (first
        | (go_at_call 116; refine HT.out.mono ?_; rintro e w1 ⟨a, c, rfl, hc, HR1⟩)
        | (go_at_call 117; refine (HS.out w1 HR1.out.1).mono ?_; rintro e w2 hp; obtain ⟨rfl, hp2⟩ := hp; have HP := Lib.hid hp2; clear hp2))
      exact ⟨rfl, by rw [HD.out]; exact Pan.later ⟨rfl, HP.out⟩ HR1.out.2⟩
    | some p =>
      obtain ⟨n, r'⟩ := p
      have hn := sizeP_le hs
      have HS2 : Hid (∀ W, Rdr W g b r → Calls Tryz.prog 117 #[.pointer (some ⟨g, 0, none⟩), .int .i64 (((h.toNat : Nat) : Int) % 128)] W fun e w' => e = .returned (.int .i64 n) ∧ Hid (Rdr w' g b r' ∧ Only W w' g)) := Lib.hid (fun W hW => by
        have := HS.out W hW
        rw [hs] at this
        exact this.mono fun e w' h => ⟨h.1, Lib.hid h.2⟩)
      have hni : (n : Int) ≤ 9223372036854775807 := by omega
      by_cases hb : h.toNat < 128
      · have HD : Hid (D = some (.int .i64 n, r')) := Lib.hid (by rw [hD]; unfold numP; simp only [hs, if_pos hb]; rfl)
        have hbi : ((h.toNat : Nat) : Int) < 128 := by omega
        clear hs hD HS hb
        go_enter Tryz.func98, Tryz.ntmps98
        go_wp2_with (first
        | (go_at_call 116; refine HT.out.mono ?_; rintro e w1 ⟨a, c, rfl, hc, HR1⟩)
          | (go_at_call 117; refine (HS2.out w1 HR1.out.1).mono ?_; rintro e w2 ⟨rfl, HR2⟩))
        go_ret
        rw [HD.out]
        exact ⟨rfl, HR2.out.1, HR1.out.2.trans HR2.out.2⟩
      · have hbi : (128 : Int) ≤ ((h.toNat : Nat) : Int) := by omega
        by_cases hp : 0 < n
        · have HD : Hid (D = some (.int .i64 (-(n : Int)), r')) := Lib.hid (by rw [hD]; unfold numP; simp only [hs, if_neg hb, if_pos hp]; rfl)
          have hpi : (0 : Int) < (n : Int) := by omega
          clear hs hD HS hb
          go_enter Tryz.func98, Tryz.ntmps98
          go_wp2_with (first
        | (go_at_call 116; refine HT.out.mono ?_; rintro e w1 ⟨a, c, rfl, hc, HR1⟩)
            | (go_at_call 117; refine (HS2.out w1 HR1.out.1).mono ?_; rintro e w2 ⟨rfl, HR2⟩)
            | (go_at_call 118; (with_reducible refine (must_yes _).mono ?_); rintro e w' ⟨rfl, rfl⟩))
          go_ret
          rw [HD.out]
          exact ⟨rfl, HR2.out.1, HR1.out.2.trans HR2.out.2⟩
        · have HD : Hid (D = none) := Lib.hid (by rw [hD]; unfold numP; simp only [hs, if_neg hb, if_neg hp]; rfl)
          obtain rfl : n = 0 := by omega
          clear hs hD HS hb hp
          go_enter Tryz.func98, Tryz.ntmps98
          go_wp2_with (first
        | (go_at_call 116; refine HT.out.mono ?_; rintro e w1 ⟨a, c, rfl, hc, HR1⟩)
            | (go_at_call 117; refine (HS2.out w1 HR1.out.1).mono ?_; rintro e w2 ⟨rfl, HR2⟩)
            | (go_at_call 118; (with_reducible refine (must_no _).mono ?_); rintro e w' ⟨rfl, rfl⟩))
          exact ⟨rfl, by rw [HD.out]; exact ⟨rfl, HR1.out.2.trans HR2.out.2, _, _, HR2.out.1⟩⟩
end Go.Proofs.YtplghpamckdklaaGreat

namespace Go.Proofs.YtplghpamckdklaaGreat
open Go.RowKit
set_option maxRecDepth 100000

/-- a text, and what is left -/
noncomputable def textP (rest : Text) : Option (ByteArray × Text) := match numP rest with
  | none => none
  | some (n, r) => if 0 ≤ n ∧ n ≤ 65536 ∧ n.toNat ≤ r.length then some (⟨(r.take n.toNat).toArray⟩, r.drop n.toNat) else none
def flagP (rest : Text) : Option (Bool × Text) := match rest with
  | [] => none
  | h :: r => if h.toNat ≤ 1 then some (decide (h.toNat = 1), r) else none

set_option maxRecDepth 100000 in
set_option maxHeartbeats 2000000 in
theorem code_textR (w : World) (g : Nat) (b : Bool) (rest : Text) (hr : Rdr w g b rest) :
    Calls Tryz.prog 100 #[.pointer (some ⟨g, 0, none⟩)] w (Res w g b ((textP rest).map fun p => (.string p.1, p.2))) := by
  have HN := Lib.hid (code_num w g b rest hr)
  obtain ⟨D, hD⟩ : ∃ D, D = (textP rest).map fun p => (Value.string p.1, p.2) := ⟨_, rfl⟩
  rw [← hD]
  clear hr
  cases hs : numP rest with
  | none =>
    have HD : Hid (D = none) := Lib.hid (by rw [hD]; unfold textP; rw [hs]; rfl)
    rw [hs] at HN
    clear hs hD
    go_enter Tryz.func100, Tryz.ntmps100
    go_wp2_with (go_at_call 98; refine HN.out.mono ?_; rintro e w2 hp; obtain ⟨rfl, hp2⟩ := hp; have HP := Lib.hid hp2; clear hp2)
    exact ⟨rfl, by rw [HD.out]; exact ⟨rfl, HP.out⟩⟩
  | some p =>
    obtain ⟨n, r⟩ := p
    have HN2 : Hid (Calls Tryz.prog 98 #[.pointer (some ⟨g, 0, none⟩)] w fun e w' => e = .returned (.int .i64 n) ∧ Hid (Rdr w' g b r ∧ Only w w' g)) := Lib.hid (by
      have := HN.out
      rw [hs] at this
      exact this.mono fun e w' h => ⟨h.1, Lib.hid h.2⟩)
    clear HN
    by_cases h1 : 0 ≤ n ∧ n ≤ 65536
    · obtain ⟨h1, h2⟩ := h1
      obtain ⟨m, rfl⟩ : ∃ m : Nat, n = (m : Int) := ⟨n.toNat, by omega⟩
      by_cases h3 : m ≤ r.length
      · have HD : Hid (D = some (.string ⟨(r.take m).toArray⟩, r.drop m)) := Lib.hid (by rw [hD]; unfold textP; rw [hs]; simp only; rw [if_pos ⟨h1, h2, by simpa using h3⟩]; simp)
        have HT : Hid (∀ W, Rdr W g b r → Calls Tryz.prog 116 #[.pointer (some ⟨g, 0, none⟩), .int .i64 m] W fun e w' => ∃ A c, e = .returned (.slice A m c) ∧ (convert 36 9 (.slice A m c)).run Tryz.prog w' = .ok (.string ⟨(r.take m).toArray⟩) w' ∧ Hid (Rdr w' g b (r.drop m) ∧ Only W w' g)) := Lib.hid (fun W hW => by
          refine (take_yes W g b r m hW h3).mono fun e w' ⟨A, c, k3, k4, k5, k6, k7⟩ => ?_
          have hl : (r.take m).length = m := by rw [List.length_take]; omega
          have hx := text_run w' A c (r.take m) k4 k5
          rw [hl] at k3 hx
          exact ⟨A, c, k3, hx, Lib.hid ⟨k6, k7⟩⟩)
        clear hs hD h3
        go_enter Tryz.func100, Tryz.ntmps100
        go_wp2_with (first
          | (go_at_call 98; refine HN2.out.mono ?_; rintro e w2 ⟨rfl, HR2⟩)
          | (go_at_call 118; (with_reducible refine (must_yes _).mono ?_); rintro e w' ⟨rfl, rfl⟩)
          | (go_at_call 116; refine (HT.out w2 HR2.out.1).mono ?_; rintro e w3 ⟨A, c, rfl, hx, HR3⟩))
        go_ret
        rw [HD.out]
        exact ⟨rfl, HR3.out.1, HR2.out.2.trans HR3.out.2⟩
      · have HD : Hid (D = none) := Lib.hid (by rw [hD]; unfold textP; rw [hs]; simp only; rw [if_neg (fun h => h3 (by simpa using h.2.2))]; rfl)
        have HT : Hid (∀ W, Rdr W g b r → Calls Tryz.prog 116 #[.pointer (some ⟨g, 0, none⟩), .int .i64 m] W fun e w' => e = .panicked raise ∧ W = w') := Lib.hid (fun W hW => take_no W g b r m hW (by omega))
        clear hs hD h3
        go_enter Tryz.func100, Tryz.ntmps100
        go_wp2_with (first
          | (go_at_call 98; refine HN2.out.mono ?_; rintro e w2 ⟨rfl, HR2⟩)
          | (go_at_call 118; (with_reducible refine (must_yes _).mono ?_); rintro e w' ⟨rfl, rfl⟩)
          | (go_at_call 116; refine (HT.out w2 HR2.out.1).mono ?_; rintro e w' ⟨rfl, rfl⟩))
        exact ⟨rfl, by rw [HD.out]; exact ⟨rfl, HR2.out.2, _, _, HR2.out.1⟩⟩
    · have HD : Hid (D = none) := Lib.hid (by rw [hD]; unfold textP; rw [hs]; simp only; rw [if_neg (fun h => h1 ⟨h.1, h.2.1⟩)]; rfl)
      clear hs hD
      by_cases h2 : n < 0
      · clear h1
        go_enter Tryz.func100, Tryz.ntmps100
        go_wp2_with (first
          | (go_at_call 98; refine HN2.out.mono ?_; rintro e w2 ⟨rfl, HR2⟩)
          | (go_at_call 118; (with_reducible refine (must_no _).mono ?_); rintro e w' ⟨rfl, rfl⟩))
        exact ⟨rfl, by rw [HD.out]; exact ⟨rfl, HR2.out.2, _, _, HR2.out.1⟩⟩
      · have h3 : 65536 < n := by omega
        have h4 : 0 ≤ n := by omega
        clear h1 h2
        go_enter Tryz.func100, Tryz.ntmps100
        go_wp2_with (first
          | (go_at_call 98; refine HN2.out.mono ?_; rintro e w2 ⟨rfl, HR2⟩)
          | (go_at_call 118; refine (must_n (decide_eq_false (by omega)) _).mono ?_; rintro e w' ⟨rfl, rfl⟩))
        exact ⟨rfl, by rw [HD.out]; exact ⟨rfl, HR2.out.2, _, _, HR2.out.1⟩⟩

set_option maxRecDepth 100000 in
set_option maxHeartbeats 2000000 in
theorem code_flagR (w : World) (g : Nat) (b : Bool) (rest : Text) (hr : Rdr w g b rest) :
    Calls Tryz.prog 121 #[.pointer (some ⟨g, 0, none⟩)] w (Res w g b ((flagP rest).map fun p => (.bool p.1, p.2))) := by
  cases rest with
  | nil =>
    have HT := Lib.hid (take_no w g b [] 1 hr (by simp))
    have HR := Lib.hid hr
    clear hr
    go_enter Tryz.func121, Tryz.ntmps121
    go_wp2_with (go_at_call 116; refine HT.out.mono ?_; rintro e w' ⟨rfl, rfl⟩)
    exact ⟨rfl, rfl, Only.refl _ _, _, _, HR.out⟩
  | cons h r =>
    have HT := Lib.hid (take_one w g b h r hr)
    obtain ⟨D, hD⟩ : ∃ D, D = (flagP (h :: r)).map fun p => (Value.bool p.1, p.2) := ⟨_, rfl⟩
    rw [← hD]
    clear hr
    by_cases h1 : h.toNat ≤ 1
    · have HD : Hid (D = some (.bool (decide (h.toNat = 1)), r)) := Lib.hid (by rw [hD]; unfold flagP; simp only; rw [if_pos h1]; rfl)
      have hi : ((h.toNat : Nat) : Int) ≤ 1 := by omega
      have HB : Hid ((((h.toNat : Nat) : Int) == 1) = decide (h.toNat = 1)) := Lib.hid (by rw [Bool.eq_iff_iff]; simp; omega)
      clear hD h1
      go_enter Tryz.func121, Tryz.ntmps121
      go_wp2_with (first
        | (go_at_call 116; refine HT.out.mono ?_; rintro e w1 ⟨a, c, rfl, hc, HR1⟩)
        | (go_at_call 118; (with_reducible refine (must_yes _).mono ?_); rintro e w' ⟨rfl, rfl⟩))
      go_ret
      rw [HD.out]
      exact ⟨ret_bool HB.out, HR1.out.1, HR1.out.2⟩
    · have HD : Hid (D = none) := Lib.hid (by rw [hD]; unfold flagP; simp only; rw [if_neg h1]; rfl)
      have hi : 1 < ((h.toNat : Nat) : Int) := by omega
      clear hD h1
      go_enter Tryz.func121, Tryz.ntmps121
      go_wp2_with (first
        | (go_at_call 116; refine HT.out.mono ?_; rintro e w1 ⟨a, c, rfl, hc, HR1⟩)
        | (go_at_call 118; refine (must_n (decide_eq_false (by omega)) _).mono ?_; rintro e w' ⟨rfl, rfl⟩))
      exact ⟨rfl, by rw [HD.out]; exact ⟨rfl, HR1.out.2, _, _, HR1.out.1⟩⟩
end Go.Proofs.YtplghpamckdklaaGreat

namespace Go.Proofs.YtplghpamckdklaaGreat
open Go.RowKit
set_option maxRecDepth 100000

theorem catch_int (p : Nat) (g : Nat) (b x : Value) (w : World) (u : TypeId) (pv : Value) (older : List PanicEntry) (hp : w.cell? ⟨p, 0, none⟩ = some (.pointer (some ⟨g, 0, none⟩)))
    (h1 : w.cell? ⟨g, 1, none⟩ = some b) (h2 : (w.setCell ⟨g, 1, none⟩ (.bool true)).cell? ⟨g, 2, none⟩ = some x) (f1 : w.frozen? ⟨g, 1, none⟩ = false) (f2 : w.frozen? ⟨g, 2, none⟩ = false) :
    CallsD Tryz.prog 115 #[.pointer (some ⟨p, 0, none⟩)] (.panicking ({ v := .iface u pv, recovered := false } :: older)) w fun e u' w' =>
      e = .returned (.tuple #[]) ∧ u' = .panicking ({ v := .iface u pv, recovered := true } :: older) ∧ w' = (w.setCell ⟨g, 1, none⟩ (.bool true)).setCell ⟨g, 2, none⟩ (.slice none 0 0) := by
  refine callsD_of_wpS Tryz.func115 rfl fun c₀ cs hu => ?_
  apply wpS_seq
  apply wpS_region
  simp [wpOpsS, go_sem, recoverD, hu, Tryz.ntmps115, Exit.thenS]
  refine wpS_cond (t := true) (by simp [Act.eval, Array.replicate]) ?_
  simp only [if_true]
  refine wpS_of_wp ?_
  cases c₀
  go_wp2
  simp [bodyPostS, results, Tryz.results115]

theorem idle_int (p : Nat) (w : World) :
    CallsD Tryz.prog 115 #[.pointer (some ⟨p, 0, none⟩)] .returning w fun e u' w' => e = .returned (.tuple #[]) ∧ u' = .returning ∧ w' = w := by
  refine callsD_of_wpS Tryz.func115 rfl fun c₀ cs hu => ?_
  apply wpS_seq
  apply wpS_region
  simp [wpOpsS, go_sem, recoverD, hu, Tryz.ntmps115, Exit.thenS]
  refine wpS_cond (t := false) (by simp [Act.eval, Array.replicate]) ?_
  simp only [Bool.false_eq_true, if_false]
  refine wpS_of_wp (wp_skip ?_)
  cases c₀
  simp_all [bodyPostS, results, Tryz.results115]

/-- what a reading call leaves, once what was raised is caught -/
def Got (w : World) (g : Nat) (b : Bool) (z : Value) (d : Option (Value × Text)) (e : Ending) (w' : World) : Prop := match d with
  | some (v, r) => e = .returned v ∧ Rdr w' g b r ∧ Only w w' g
  | none => e = .returned z ∧ Rdr w' g true [] ∧ Only w w' g
/-- a reader in whose block what was raised left something, spoilt -/
theorem spoilt {w w2 : World} {g : Nat} (ho : Only w w2 g) (hr : ∃ b rest, Rdr w2 g b rest) :
    Rdr ((w2.setCell ⟨g, 1, none⟩ (.bool true)).setCell ⟨g, 2, none⟩ (.slice none 0 0)) g true [] ∧ Only w ((w2.setCell ⟨g, 1, none⟩ (.bool true)).setCell ⟨g, 2, none⟩ (.slice none 0 0)) g := by
  obtain ⟨b, rest, A, c, hh, _⟩ := hr
  have h1 := heap_setCell_same w2 g 1 _ _ (.bool true) hh
  have h2 := heap_setCell_same _ g 2 _ _ (.slice none 0 0) h1
  exact ⟨⟨none, 0, by rw [h2]; rfl, Nat.le_refl _, Nat.zero_le _, Txt.none_, fun _ => rfl, by simp⟩, ho.trans ((Only.set _ _ _ _).trans (Only.set _ _ _ _))⟩

set_option maxHeartbeats 2000000 in
theorem read_int_any (w : World) (g : Nat) (b : Bool) (rest : Text) (hr : Rdr w g b rest) :
    Calls Tryz.prog 97 #[.pointer (some ⟨g, 0, none⟩), .func (Fn.func 98) #[.pointer (some ⟨g, 0, none⟩)] #[]] w (Got w g b (.int .i64 0) ((numP rest).map fun p => (.int .i64 p.1, p.2))) := by
  have hmf : ∀ (fn : Fn) (first cap : Array Value) (w : World), (Instr.makeFunc fn first cap).run Tryz.prog w = .ok (.func fn first cap) w := fun _ _ _ _ => rfl
  obtain ⟨D, hD⟩ : ∃ D, D = (numP rest).map fun p => (Value.int .i64 p.1, p.2) := ⟨_, rfl⟩
  rw [← hD]
  have hb : Below w.heap.size w (w.alloc (.cells #[.pointer (some ⟨g, 0, none⟩)] 64)) := (Below.refl _ _).alloc (Nat.le_refl _) _
  have hr1 : Rdr (w.alloc (.cells #[.pointer (some ⟨g, 0, none⟩)] 64)) g b rest := by
    obtain ⟨A, c, h1, h2, h3, h4, h5, h6⟩ := hr
    exact ⟨A, c, (hb.block g (heap_lt h1)).trans h1, h2, h3, h4.below hb, h5, h6⟩
  have hlt : g < w.heap.size := by obtain ⟨A, c, h1, _⟩ := hr; exact heap_lt h1
  have h0 : w.cell? ⟨g, 0, none⟩ = some (.bool true) := by
    obtain ⟨A, c, h1, _⟩ := hr
    rw [cell_of_row w g 0 _ _ _ h1]; rfl
  have HN := Lib.hid (code_num _ g b rest hr1)
  rw [← hD] at HN
  have HB := Lib.hid hb
  clear hr hr1 hD hb
  cases D with
  | some p =>
    obtain ⟨v, r⟩ := p
    go_enter_defers Tryz.func97, Tryz.ntmps97
    go_wp2_with (go_at_call 98; refine HN.out.mono ?_; rintro e w2 ⟨rfl, hrr, hoo⟩; have HR := Lib.hid hrr; have HO := Lib.hid hoo; clear hrr hoo)
    refine leaves_cons (f := 115) (args := #[.pointer (some ⟨w.heap.size, 0, none⟩)]) (by simp) (by simp [go_sem]) ?_
    refine (idle_int _ _).mono ?_
    rintro e u' w'' ⟨rfl, rfl, rfl⟩
    exact ⟨_, results_tmp rfl _ _ _, rfl, HR.out, (Only.of_below HB.out).trans HO.out⟩
  | none =>
    go_enter_defers Tryz.func97, Tryz.ntmps97
    go_wp2_with (go_at_call 98; refine HN.out.mono ?_; rintro e w2 ⟨rfl, hoo, hrr⟩; have HR := Lib.hid hrr; have HO := Lib.hid hoo; clear hrr hoo)
    obtain ⟨b2, rest2, A2, c2, hh, _⟩ := HR.out
    have hpp : w2.cell? ⟨w.heap.size, 0, none⟩ = some (.pointer (some ⟨g, 0, none⟩)) := by
      have := (HO.out.block w.heap.size (by simp) (by omega)).trans (heap_alloc_new w (.cells #[.pointer (some ⟨g, 0, none⟩)] 64))
      rw [cell_of_row w2 _ 0 _ _ _ this]; rfl
    have g1 : w2.cell? ⟨g, 1, none⟩ = some (.bool b2) := by rw [cell_of_row w2 g 1 _ _ _ hh]; rfl
    have hh1 := heap_setCell_same w2 g 1 _ _ (.bool true) hh
    have g2 : (w2.setCell ⟨g, 1, none⟩ (.bool true)).cell? ⟨g, 2, none⟩ = some (.slice A2 rest2.length c2) := by rw [cell_of_row _ g 2 _ _ _ hh1]; rfl
    refine leaves_cons (f := 115) (args := #[.pointer (some ⟨w.heap.size, 0, none⟩)]) (by simp) (by simp [go_sem]) ?_
    refine (catch_int w.heap.size g _ _ w2 _ _ [] hpp g1 g2 (frozen_of_row w2 g 1 _ _ hh) (frozen_of_row w2 g 2 _ _ hh)).mono ?_
    rintro e u' w'' ⟨rfl, rfl, rfl⟩
    have HS := Lib.hid (spoilt ((Only.of_below HB.out).trans HO.out) HR.out)
    show Leaves _ _ _ _ [] .returning _
    exact ⟨_, results_tmp rfl _ _ _, rfl, HS.out⟩
end Go.Proofs.YtplghpamckdklaaGreat
