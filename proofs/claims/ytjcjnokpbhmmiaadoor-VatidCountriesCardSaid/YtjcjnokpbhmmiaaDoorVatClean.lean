/- A number as people write it, made clean: the program's. -/
import Derived.Test.YtjcjnokpbhmmiaaDoorVatSame
namespace Go.Proofs.YtjcjnokpbhmmiaaDoor
open Go.RowKit Go.Maps
set_option maxRecDepth 1000000

theorem one_own (w : World) {X : Int} {b : UInt8} (h : X = ((b.toNat : Nat) : Int)) : (w.alloc (.cells #[.int .u8 X] 5)).ownsRow w.heap.size 5 1 (.slice (some ⟨w.heap.size, 0, none⟩) 1 1) ([b] : Text).length (([b] : Text).map cellOf) := by
  subst h
  exact World.ownsRow_lit w #[cellOf b] 1 (Nat.le_refl _) (by unfold maxLen; omega) rfl
theorem one_txt (w : World) {X : Int} {b : UInt8} (h : X = ((b.toNat : Nat) : Int)) : Txt (w.alloc (.cells #[.int .u8 X] 5)) (some ⟨w.heap.size, 0, none⟩) [b] := .of_own (one_own w h)
def isDrop (x : UInt8) : Bool := decide (x = 32) || decide (x = 46) || decide (x = 45) || decide (x = 47)
def greatB (x : UInt8) : UInt8 := if 97 ≤ x.toNat ∧ x.toNat ≤ 122 then UInt8.ofNat (x.toNat - 32) else x
def cl (l : List UInt8) : List UInt8 := (l.filter fun x => !isDrop x).map greatB
theorem cl_drop {l : List UInt8} {k : Nat} (h : k < l.length) (hd : isDrop l[k] = true) : cl (l.take (k + 1)) = cl (l.take k) := by
  unfold cl
  rw [List.take_succ_eq_append_getElem h, List.filter_append]
  simp [hd]
theorem cl_keep {l : List UInt8} {k : Nat} (h : k < l.length) (hd : isDrop l[k] = false) : cl (l.take (k + 1)) = cl (l.take k) ++ [greatB l[k]] := by
  unfold cl
  rw [List.take_succ_eq_append_getElem h, List.filter_append, List.map_append]
  simp [hd]
theorem cl_len (l : List UInt8) : (cl l).length ≤ l.length := by
  unfold cl
  rw [List.length_map]
  exact List.length_filter_le ..
theorem drop_index : ∀ x : UInt8, decide (Lib.indexByte [32, 46, 45, 47] x < 0) = !isDrop x := by
  intro x
  unfold isDrop
  simp only [Lib.indexByte]
  by_cases h1 : x = 32
  · subst h1; rfl
  · by_cases h2 : x = 46
    · subst h2; rfl
    · by_cases h3 : x = 45
      · subst h3; rfl
      · by_cases h4 : x = 47
        · subst h4; rfl
        · have e1 : ((32 : UInt8) == x) = false := beq_false_of_ne (fun h => h1 h.symm)
          have e2 : ((46 : UInt8) == x) = false := beq_false_of_ne (fun h => h2 h.symm)
          have e3 : ((45 : UInt8) == x) = false := beq_false_of_ne (fun h => h3 h.symm)
          have e4 : ((47 : UInt8) == x) = false := beq_false_of_ne (fun h => h4 h.symm)
          simp [e1, e2, e3, e4, h1, h2, h3, h4]
theorem code_great (x : UInt8) (w : World) : Calls Tryd.prog 21 #[.int .u8 (x.toNat : Int)] w fun e w' => e = .returned (.int .u8 ((greatB x).toNat : Int)) ∧ w = w' := by
  have hb := byte_le x
  obtain ⟨y, hy⟩ : ∃ y : Nat, y = x.toNat := ⟨_, rfl⟩
  obtain ⟨z, hz⟩ : ∃ z : Nat, z = (greatB x).toNat := ⟨_, rfl⟩
  rw [← hz, ← hy]
  have hyi : (y : Int) ≤ 255 := by omega
  by_cases h1 : 97 ≤ y
  · by_cases h2 : y ≤ 122
    · have hz2 : (z : Int) = (y : Int) - 97 + 65 := by
        rw [hz]; unfold greatB; rw [if_pos (by omega), UInt8.toNat_ofNat']; omega
      have h1i : (97 : Int) ≤ (y : Int) := by omega
      have h2i : (y : Int) ≤ 122 := by omega
      have HZ := Lib.hid hz2
      clear hz hy hz2 h1 h2
      go_enter Tryd.func21, Tryd.ntmps21
      go_wp2
      go_ret
      exact ⟨by rw [HZ.out]; rfl, rfl⟩
    · have hz2 : z = y := by rw [hz, hy]; unfold greatB; rw [if_neg (by omega)]
      subst hz2
      have h1i : (97 : Int) ≤ (z : Int) := by omega
      have h2i : (122 : Int) < (z : Int) := by omega
      clear hz hy h1 h2
      go_enter Tryd.func21, Tryd.ntmps21
      go_wp2
      go_ret
      exact ⟨rfl, rfl⟩
  · have hz2 : z = y := by rw [hz, hy]; unfold greatB; rw [if_neg (by omega)]
    subst hz2
    have h1i : (z : Int) < 97 := by omega
    clear hz hy h1
    go_enter Tryd.func21, Tryd.ntmps21
    go_wp2
    go_ret
    exact ⟨rfl, rfl⟩
def cleanC (s : ByteArray) : ByteArray := ⟨((cl (strT s)).take 2).toArray⟩
def cleanN (s : ByteArray) : ByteArray := ⟨((cl (strT s)).drop 2).toArray⟩
/-- what is told of a text -/
def Cleaned (s : ByteArray) : Value := if rightP (cleanC s) (cleanN s) then .tuple #[.string (cleanC s), .string (cleanN s), .int .i64 0] else .tuple #[.string {data:=#[]}, .string {data:=#[]}, .int .i64 40]
theorem own_fullV {w : World} {B : Nat} {v : Value} {l : Text} (h : w.ownsRow B 5 1 v l.length (l.map cellOf)) :
    ∃ A c, v = .slice A l.length c ∧ Txt w A l ∧ (A = none → l = []) ∧ l.length ≤ c ∧ c ≤ 9223372036854775807 := by
  rcases h.2 with ⟨rfl, h0⟩ | ⟨g, c, cur, rfl, _, hh, hc, hm, _⟩
  · have : l = [] := List.eq_nil_of_length_eq_zero h0
    subst this
    exact ⟨none, 0, rfl, Txt.none_, fun _ => rfl, Nat.le_refl _, Nat.zero_le _⟩
  · exact ⟨_, c, rfl, .of_own h, by simp, hc, by unfold maxLen at hm; omega⟩
theorem head_run {w : World} {a : Addr} {T : Text} {m : Nat} (c : Nat) (h : Txt w (some a) T) (hm : m ≤ T.length) :
    (convert 37 9 (.slice (some a) m c)).run Tryd.prog w = .ok (.string ⟨(T.take m).toArray⟩) w := by
  have hl : (T.take m).length = m := by rw [List.length_take]; omega
  have := text_run w (some a) c (T.take m) (h.take m) (by simp)
  rw [hl] at this
  exact this
theorem tail_run {w : World} {a : Addr} {T : Text} {m c : Nat} (h : Txt w (some a) T) (hm : m ≤ T.length) (hc : T.length ≤ c) :
    (convert 37 9 (.slice (if c = m then some a else some (a.add m)) (T.length - m) (c - m))).run Tryd.prog w = .ok (.string ⟨(T.drop m).toArray⟩) w := by
  have hl : (T.drop m).length = T.length - m := List.length_drop
  by_cases hk : c = m
  · have h0 : T.drop m = [] := List.drop_eq_nil_of_le (by omega)
    have h1 : T.length - m = 0 := by omega
    rw [if_pos hk, h0, h1]
    exact text_run w (some a) (c - m) [] (fun h => absurd rfl h) (by simp)
  · rw [if_neg hk]
    have := text_run w (some (a.add m)) (c - m) (T.drop m) (h.drop m) (by simp)
    rw [hl] at this
    exact this
set_option maxHeartbeats 4000000 in
theorem code_clean (s : ByteArray) (w : World) (hs : s.size ≤ 140737488351232) (hM : MaxL w) :
    Calls Tryd.prog 14 #[.string s] w fun e w' => e = .returned (Cleaned s) ∧ Below w.heap.size w w' := by
  have HML := Lib.hid hM
  have hsi : (s.size : Int) ≤ 140737488351232 := by omega
  clear hM
  go_enter Tryd.func14, Tryd.ntmps14
  go_wp2
  go_loopw [5, 10] (fun v i wr => ∃ (k : Nat) (K : Text), k ≤ s.size ∧ i = .int .i64 k ∧ Hid (K = cl ((strT s).take k)) ∧ Hid (wr.ownsRow w.heap.size 5 1 v K.length (K.map cellOf)) ∧ Hid (Below w.heap.size w wr)) (fun _ i _ => s.size - (intOf i).toNat)
  case atStart => exact ⟨0, [], Nat.zero_le _, rfl, Lib.hid rfl, Lib.hid (World.ownsRow_nil _ _ _ _), Lib.hid (Below.refl _ _)⟩
  case round =>
    obtain ⟨k, K, hk, rfl, HK, HO, HB⟩ := hrel
    have hKl : K.length ≤ k := by rw [HK.out]; refine Nat.le_trans (cl_len _) ?_; rw [List.length_take]; omega
    by_cases hlt : k < s.size
    · have hki : (k : Int) < (s.size : Int) := by omega
      have HY := Lib.hid (fun h : isDrop (s[k]) = true => cl_drop (l := strT s) (k := k) hlt h)
      have HN := Lib.hid (fun h : isDrop (s[k]) = false => cl_keep (l := strT s) (k := k) hlt h)
      have HIx : Hid (∀ W, Calls Tryd.prog 20 #[.string { data := #[32, 46, 45, 47] }, .int .u8 ((s[k]).toNat : Int)] W fun e w' => e = .returned (.int .i64 (Lib.indexByte [32, 46, 45, 47] (s[k]))) ∧ W = w') := Lib.hid (fun W => by
        have h := Tryd.strings_IndexByte { data := #[32, 46, 45, 47] } ((s[k]).toNat : Int) W
        have e : (((s[k]).toNat : Nat) : Int).toNat.toUInt8 = s[k] := by
          rw [Int.toNat_natCast]; exact UInt8.ofNat_toNat
        rw [e] at h
        exact h.mono fun _ _ hh => ⟨hh.1, hh.2.symm⟩)
      cases hd : isDrop (s[k]) with
      | true =>
        have hix : ¬ Lib.indexByte [32, 46, 45, 47] (s[k]) < 0 := by
          have := drop_index (s[k]); rw [hd] at this; simpa using this
        have HK2 : Hid (K = cl ((strT s).take (k + 1))) := Lib.hid (by rw [HK.out, HY.out hd])
        obtain ⟨z, hz⟩ : ∃ z, z = Lib.indexByte [32, 46, 45, 47] (s[k]) := ⟨_, rfl⟩
        rw [← hz] at hix
        rw [← hz] at HIx
        clear hz hd
        go_wp2_with (go_at_call 20; refine (HIx.out _).mono ?_; rintro e w4 ⟨rfl, rfl⟩)
        go_roundw
        case rel => exact ⟨k + 1, K, by omega, by go_num, HK2, HO, HB⟩
        case measure => simp [intOf]; omega
      | false =>
        have hix : Lib.indexByte [32, 46, 45, 47] (s[k]) < 0 := by
          have := drop_index (s[k]); rw [hd] at this; simpa using this
        obtain ⟨b, hb⟩ : ∃ b, b = greatB (s[k]) := ⟨_, rfl⟩
        have HK2 : Hid (K ++ [b] = cl ((strT s).take (k + 1))) := Lib.hid (by rw [HK.out, HN.out hd, hb]; rfl)
        have HG : Hid (∀ W, Calls Tryd.prog 21 #[.int .u8 ((s[k]).toNat : Int)] W fun e w' => e = .returned (.int .u8 (b.toNat : Int)) ∧ W = w') := Lib.hid (fun W => by rw [hb]; exact code_great _ W)
        obtain ⟨z, hz⟩ : ∃ z, z = Lib.indexByte [32, 46, 45, 47] (s[k]) := ⟨_, rfl⟩
        rw [← hz] at hix
        rw [← hz] at HIx
        clear hz hd hb
        go_wp2_with (first
          | (go_at_call 20; refine (HIx.out _).mono ?_; rintro e w4 ⟨rfl, rfl⟩)
          | (go_at_call 21; refine (HG.out _).mono ?_; rintro e w5 ⟨rfl, rfl⟩)
          | (refine wpList_append_own_text (o := ⟨some 24, _, _, _, _, _⟩) rfl _ _ rfl rfl w.heap.size w _ K [b] (K ++ [b]) rfl ?o1 (some ⟨wr.heap.size, 0, none⟩) 1 rfl ?o2 ?o3 ?o4 ?o5 ?o6 rfl ?_; (case o1 => exact own_below HO.out ((Below.refl _ _).alloc (Nat.le_refl _) _)); (case o2 => exact one_txt wr rfl); (case o3 => simp); (case o4 => simp; omega); (case o5 => exact HB.out.alloc HB.out.size _); (case o6 => exact Nat.le_trans HB.out.size (by simp)); intro v2 w2 hown2 hb2 hv2; have HO2 := Lib.hid hown2; have HB2 := Lib.hid hb2; clear hown2 hb2 hv2))
        go_roundw
        case rel => exact ⟨k + 1, K ++ [b], by omega, by go_num, HK2, HO2, HB2⟩
        case measure => simp [intOf]; omega
    · obtain rfl : k = s.size := by omega
      have hK : K = cl (strT s) := by have := HK.out; rwa [List.take_of_length_le (Nat.le_of_eq (strT_length s))] at this
      obtain ⟨A, c, rfl, ht, hn, hc1, hc2⟩ := own_fullV HO.out
      have HM2 := Lib.hid (HML.out.below HB.out)
      have hm2 : min (2 : Int) (K.length : Int) = ((min 2 K.length : Nat) : Int) := by omega
      obtain ⟨m, hm⟩ : ∃ m, m = min 2 K.length := ⟨_, rfl⟩
      rw [← hm] at hm2
      have HC : Hid ((⟨(K.take m).toArray⟩ : ByteArray) = cleanC s) := Lib.hid (by
        unfold cleanC
        rw [← hK, hm]
        rcases Nat.le_total 2 K.length with h | h
        · rw [Nat.min_eq_left h]
        · rw [Nat.min_eq_right h, List.take_of_length_le (Nat.le_refl _), List.take_of_length_le h])
      have HN : Hid ((⟨(K.drop m).toArray⟩ : ByteArray) = cleanN s) := Lib.hid (by
        unfold cleanN
        rw [← hK, hm]
        rcases Nat.le_total 2 K.length with h | h
        · rw [Nat.min_eq_left h]
        · rw [Nat.min_eq_right h, List.drop_eq_nil_of_le (Nat.le_refl _), List.drop_eq_nil_of_le h])
      have hml : (m : Int) ≤ (K.length : Int) := by omega
      have hKi : (K.length : Int) ≤ 140737488351232 := by omega
      have hcs : (cleanC s).size ≤ 140737488351232 := by
        have : (cleanC s).size = ((cl (strT s)).take 2).length := rfl
        rw [this, List.length_take]; omega
      have hns : (cleanN s).size ≤ 9223372036854775807 := by
        have : (cleanN s).size = ((cl (strT s)).drop 2).length := rfl
        rw [this, List.length_drop, ← hK]; omega
      have HR : Hid (∀ W, MaxL W → Calls Tryd.prog 15 #[.string (cleanC s), .string (cleanN s)] W fun e w' => e = .returned (.bool (rightP (cleanC s) (cleanN s))) ∧ Below W.heap.size W w') := Lib.hid (fun W hW => code_right (cleanC s) (cleanN s) W hcs hns hW)
      have HCl : Hid (Cleaned s = if rightP (cleanC s) (cleanN s) then .tuple #[.string (cleanC s), .string (cleanN s), .int .i64 0] else .tuple #[.string {data:=#[]}, .string {data:=#[]}, .int .i64 40]) := Lib.hid rfl
      generalize cleanC s = C at *
      generalize cleanN s = N at *
      cases A with
      | none =>
        obtain rfl := hn rfl
        have hm0 : m = 0 := by rw [hm]; simp
        have hC0 : C = {data:=#[]} := by rw [← HC.out, hm0]; rfl
        have hN0 : N = {data:=#[]} := by rw [← HN.out, hm0]; rfl
        have hrr : rightP C N = false := by rw [hC0, hN0]; decide +kernel
        rw [hrr] at HR HCl
        subst hC0 hN0 hm0
        have HCV1 : Hid (∀ n2 q, (convert 37 9 (.slice none 0 q)).run Tryd.prog (wr.drewN n2) = .ok (.string {data:=#[]}) (wr.drewN n2)) := Lib.hid (fun n2 q => text_run _ none q [] Txt.none_ (fun _ => rfl))
        have hcv1 := HCV1.out
        have hci : (c : Int) ≤ 9223372036854775807 := by omega
        have hmin : min (2 : Int) 0 = 0 := by decide
        clear hm ht hn hK HC HN hrr hm2
        go_wp2
        go_quiet (fail)
        go_wp2_with (go_at_call 15; refine (HR.out _ (HM2.out.below (below_drewN (Below.refl _ _) _))).mono ?_; rintro e w7 ⟨rfl, hb7⟩)
        all_goals
          go_ret3
          exact ⟨by rw [HCl.out]; rfl, (below_drewN HB.out _).trans (hb7.mono (below_drewN HB.out _).size)⟩
      | some a =>
        have HCV1 : Hid (∀ n2, (convert 37 9 (.slice (some a) m c)).run Tryd.prog (wr.drewN n2) = .ok (.string C) (wr.drewN n2)) := Lib.hid (fun n2 => by
          rw [← HC.out]; exact head_run c (ht.below (below_drewN (Below.refl _ _) n2)) (by omega))
        have HCV2 : Hid (∀ n2, (convert 37 9 (.slice (if c = m then some a else some (a.add m)) (K.length - m) (c - m))).run Tryd.prog (wr.drewN n2) = .ok (.string N) (wr.drewN n2)) := Lib.hid (fun n2 => by
          rw [← HN.out]; exact tail_run (ht.below (below_drewN (Below.refl _ _) n2)) (by omega) hc1)
        have hmc : (m : Int) ≤ (c : Int) := by omega
        have hkc : (K.length : Int) ≤ (c : Int) := by omega
        have hci : (c : Int) ≤ 9223372036854775807 := by omega
        clear hm ht hn hK HC HN
        have hcv1 := HCV1.out
        have hcv2 := HCV2.out
        cases hrr : rightP C N with
        | true =>
          rw [hrr] at HR HCl
          clear hrr
          go_wp2
          go_quiet (fail)
          go_wp2_with (go_at_call 15; refine (HR.out _ (HM2.out.below (below_drewN (Below.refl _ _) _))).mono ?_; rintro e w7 ⟨rfl, hb7⟩)
          all_goals
            go_ret3
            exact ⟨by rw [HCl.out]; rfl, (below_drewN HB.out _).trans (hb7.mono (below_drewN HB.out _).size)⟩
        | false =>
          rw [hrr] at HR HCl
          clear hrr
          go_wp2
          go_quiet (fail)
          go_wp2_with (go_at_call 15; refine (HR.out _ (HM2.out.below (below_drewN (Below.refl _ _) _))).mono ?_; rintro e w7 ⟨rfl, hb7⟩)
          all_goals
            go_ret3
            exact ⟨by rw [HCl.out]; rfl, (below_drewN HB.out _).trans (hb7.mono (below_drewN HB.out _).size)⟩
end Go.Proofs.YtjcjnokpbhmmiaaDoor
