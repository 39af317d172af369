/- The statement on what was written and is read: its walk. -/
import Derived.Test.YtjcjnokpbhmmiaaBlobBackL
import Derived.Test.YtjcjnokpbhmmiaaRegion
namespace Go.Proofs.Ytjcjnokpbhmmiaa
open Go.RowKit
set_option maxRecDepth 100000

set_option maxHeartbeats 2000000 in
theorem blobBack_light (L : List OpV) (A : Option Addr) (cap : Nat) (w : World) (hm : L.length ≤ 100) (hO : Ops w A L) (hL : light L = true) :
    Calls Try.prog 4 #[.slice A L.length cap] w fun e w' => e = .returned (.bool true) ∧ Below w.heap.size w w' := by
  have HO := Lib.hid hO
  have HL : Hid (Calls Try.prog 21 #[.slice A L.length cap] w fun e w' => e = .returned (.bool true) ∧ Below w.heap.size w w') := Lib.hid (by
    have := law_light L A cap w (by omega) hO
    rw [hL] at this
    exact this)
  clear hO hL
  go_enter Try.func4, Try.ntmps4
  go_wp2_with (first
    | (go_at_call 21; refine HL.out.mono ?_; rintro e w1 ⟨rfl, hb1⟩; have HB1 := Lib.hid hb1; clear hb1)
    | (go_at_call 22; refine (new_any w1).mono ?_; rintro e w2 ⟨rfl, rfl⟩))
  have HS : Hid (BackI w w1.heap.size (some []) (.slice none 0 0) (w1.alloc (.cells #[.bool true, .bool false, .slice none 0 0] 74))) := Lib.hid
    ⟨new_wrt w1 _ HB1.out.size, HB1.out.alloc HB1.out.size _⟩
  generalize w1.heap.size = gw at *
  go_loopw [3, 19] (fun p i wr => ∃ (k : Nat) (S : Option Text) (v : Value), k ≤ L.length ∧ p = .pointer (some ⟨gw, 0, none⟩) ∧ i = .int .i64 k ∧ Hid (S = docs (L.take k)) ∧ Hid ((S.getD []).length ≤ 70000 * k) ∧ Hid (BackI w gw S v wr)) (fun _ i _ => L.length - (intOf i).toNat)
  case atStart => exact ⟨0, some [], .slice none 0 0, Nat.zero_le _, rfl, rfl, Lib.hid rfl, Lib.hid (by simp), HS⟩
  case round =>
    obtain ⟨k, S, v, hk, rfl, rfl, HD, HJ, HW⟩ := hrel
    by_cases hlt : k < L.length
    · obtain ⟨b, off, rfl, hbl, c0, c1, c2, c3, hg⟩ := (HO.out.below HW.out.2) k hlt
      have HD2 := Lib.hid (docs_take hlt)
      obtain ⟨o, ho⟩ : ∃ o, o = L[k] := ⟨_, rfl⟩
      rw [← ho] at c0 c1 c2 c3 hg HD2
      have HG := Lib.hid hg
      clear ho hg
      have HDl := Lib.hid (docO_len o HG.out)
      have HD3 : Hid (nextS S (docO o) = docs (L.take (k + 1))) := Lib.hid (by rw [HD.out, HD2.out])
      have HPut : Hid (∀ o1, Calls Try.prog 23 #[.pointer (some ⟨gw, 0, none⟩), .agg #[.int .i64 o.k, .int .i64 o.n, .string o.s, .bool o.b]] (wr.alloc o1) (fun e w' => e = .returned (.pointer (some ⟨gw, 0, none⟩)) ∧ ∃ v', BackI w gw (nextS S (docO o)) v' w')) := Lib.hid (fun o1 => by
        have h := back_below HW.out ((Below.refl wr.heap.size wr).alloc (Nat.le_refl _) o1)
        exact (law_put o (wr.alloc o1) w.heap.size gw S v h.1 h.2.size HG.out (by have := HJ.out; omega)).mono fun e w' hp => back_put h hp)
      generalize docO o = d at *
      clear HG HD HD2
      go_wp2_with (go_at_call 23; refine (HPut.out _).mono ?_; rintro e w2 ⟨rfl, v2, hi2⟩; have HI2 := Lib.hid hi2; clear hi2)
      go_roundw
      case rel => exact ⟨k + 1, nextS S d, v2, by omega, rfl, by go_num, HD3, Lib.hid (next_len HJ.out HDl.out), HI2⟩
      case measure => simp [intOf]; omega
    · obtain rfl : k = L.length := by omega
      rw [List.take_length] at HD
      have HBy : Hid (Calls Try.prog 24 #[.pointer (some ⟨gw, 0, none⟩)] wr (Bytes wr S)) := Lib.hid (code_bytes wr w.heap.size gw S v HW.out.1 (by have := HJ.out; omega))
      have HB := Lib.hid HW.out.2
      clear HW
      cases S with
      | none =>
        go_wp2_with (first
          | (go_at_call 24; refine HBy.out.mono ?_; rintro e w5 ⟨hb5, A5, c5, rfl, ht5, hn5⟩; have HB5 := Lib.hid (below_tr HB.out hb5 (Nat.le_refl _)); clear hb5 ht5 hn5)
          | (go_at_call 9; refine (lives_any _).mono ?_; rintro e w6 ⟨rfl, hb6⟩))
        go_ret
        exact ⟨rfl, below_tr HB5.out hb6 (Nat.le_refl _)⟩
      | some T =>
        have hT := docs_some HD.out.symm
        have HTR := Lib.hid hT.2
        have HTL := Lib.hid hT.1
        have HTm : Hid (T.length ≤ 140737488351232) := Lib.hid (by have := HJ.out; simp only [Option.getD_some] at this; omega)
        have HOp : Hid (∀ W A5 c5, Txt W A5 T → (A5 = none → T = []) → Below w.heap.size w W → Calls Try.prog 10 #[.slice A5 T.length c5] W fun e w' => ∃ g, e = .returned (.pointer (some ⟨g, 0, none⟩)) ∧ BackR w g T w') := Lib.hid (fun W A5 c5 h1 h2 h3 =>
          (code_open T A5 c5 W HTm.out h1 h2).mono fun e w' ⟨g, k1, k2, k3, k4, k5⟩ => ⟨g, k3, k4, Nat.le_trans h3.size k1, below_tr h3 k5 (Nat.le_refl _)⟩)
        clear hT
        go_wp2_with (first
          | (go_at_call 24; refine HBy.out.mono ?_; rintro e w5 ⟨hb5, A5, c5, rfl, ht5, hn5⟩; have HB5 := Lib.hid (below_tr HB.out hb5 (Nat.le_refl _)); have HT5 := Lib.hid ht5; have HN5 := Lib.hid hn5; clear hb5 ht5 hn5)
          | (go_at_call 10; refine (HOp.out w5 A5 c5 HT5.out HN5.out HB5.out).mono ?_; rintro e w6 ⟨g, rfl, hr6⟩; have HR6 := Lib.hid hr6; clear hr6))
        rw [HTL.out] at HR6
        go_loopw [48] (fun i ws => ∃ (k : Nat), k ≤ L.length ∧ i = .int .i64 k ∧ Hid (BackR w g (restO (L.drop k)) ws)) (fun i _ => L.length - (intOf i).toNat)
        case atStart => exact ⟨0, Nat.zero_le _, rfl, HR6⟩
        case round =>
          obtain ⟨k, hk, rfl, HW⟩ := hrel
          by_cases hlt : k < L.length
          · obtain ⟨b, off, rfl, hbl, c0, c1, c2, c3, hg⟩ := (HO.out.below HW.out.2.2) k hlt
            have HDo := HTR.out L[k] (List.getElem_mem hlt)
            obtain ⟨D, hD⟩ := Option.isSome_iff_exists.1 HDo
            have HRest := Lib.hid (rest_drop hlt hD)
            obtain ⟨o, ho⟩ : ∃ o, o = L[k] := ⟨_, rfl⟩
            rw [← ho] at c0 c1 c2 c3 hg hD
            have HG := Lib.hid hg
            clear ho hg HDo
            by_cases h0 : o.k = 0
            · have HD : Hid (docN o.n = some D) := Lib.hid (by rw [← hD]; exact (if_pos h0).symm)
              clear hD
              have HRd : Hid (∀ o1, Calls Try.prog 11 #[.pointer (some ⟨g, 0, none⟩)] (wr.alloc o1).drew fun e w' => e = .returned (.int .i64 o.n) ∧ Hid (BackR w g (restO (L.drop (k + 1))) w' ∧ ∀ cs t, o1 = .cells cs t → w'.heap[wr.heap.size]? = some (.cells cs t (0, 0)))) := Lib.hid (fun o1 => by
                have hb : Below wr.heap.size wr (wr.alloc o1).drew := ((Below.refl wr.heap.size wr).alloc (Nat.le_refl _) o1).drew
                have h1 := backR_below HW.out hb
                rw [HRest.out] at h1
                refine (back_num (wr.alloc o1).drew g h1.1 HD.out HG.out.1 HG.out.2.1).mono fun e w' h => ⟨h.1, Lib.hid ⟨backR_read h1 h.2.out.1 h.2.out.2, fun cs t e => ?_⟩⟩
                subst e
                exact (h.2.out.2.block wr.heap.size (by simp) (by have := rdr_lt HW.out.1; omega)).trans (heap_alloc_new wr _))
              clear HD
              go_wp2
              have hS0 : (wr.alloc (Obj.cells #[.int .i64 0, .int .i64 o.n, .string o.s, .bool o.b] 31)).cell? ⟨wr.heap.size, 1, none⟩ = some (.int .i64 o.n) := by
                rw [cell_of_row _ wr.heap.size 1 _ _ _ (heap_alloc_new wr _)]; rfl
              go_region_held3 (fun w' => w'.cell? ⟨wr.heap.size, 1, none⟩ = some (.int .i64 o.n))
                (first | exact hc2 | exact hS0)
                (first | (go_at_call 11; refine (HRd.out _).mono ?_; rintro e w2 ⟨rfl, hr2⟩; have hc2 : w2.cell? ⟨wr.heap.size, 1, none⟩ = some (.int .i64 o.n) := (by rw [cell_of_row _ wr.heap.size 1 _ _ _ (hr2.out.2 _ _ rfl)]; rfl)))
              go_wp2
              go_roundw
              case rel => exact ⟨k + 1, by omega, by go_num, Lib.hid hr2.out.1⟩
              case measure => simp [intOf]; omega
            · by_cases h01 : o.k = 1
              · have HD : Hid (docS o.s = some D) := Lib.hid (by rw [← hD]; exact ((if_neg h0).trans (if_pos h01)).symm)
                clear hD h0
                have HRd : Hid (∀ o1, Calls Try.prog 13 #[.pointer (some ⟨g, 0, none⟩)] (wr.alloc o1).drew fun e w' => e = .returned (.string o.s) ∧ Hid (BackR w g (restO (L.drop (k + 1))) w' ∧ ∀ cs t, o1 = .cells cs t → w'.heap[wr.heap.size]? = some (.cells cs t (0, 0)))) := Lib.hid (fun o1 => by
                  have hb : Below wr.heap.size wr (wr.alloc o1).drew := ((Below.refl wr.heap.size wr).alloc (Nat.le_refl _) o1).drew
                  have h1 := backR_below HW.out hb
                  rw [HRest.out] at h1
                  refine (back_text (wr.alloc o1).drew g h1.1 HD.out).mono fun e w' h => ⟨h.1, Lib.hid ⟨backR_read h1 h.2.out.1 h.2.out.2, fun cs t e => ?_⟩⟩
                  subst e
                  exact (h.2.out.2.block wr.heap.size (by simp) (by have := rdr_lt HW.out.1; omega)).trans (heap_alloc_new wr _))
                clear HD
                go_wp2
                have hS0 : (wr.alloc (Obj.cells #[.int .i64 1, .int .i64 o.n, .string o.s, .bool o.b] 31)).cell? ⟨wr.heap.size, 2, none⟩ = some (.string o.s) := by
                  rw [cell_of_row _ wr.heap.size 2 _ _ _ (heap_alloc_new wr _)]; rfl
                go_region_held3 (fun w' => w'.cell? ⟨wr.heap.size, 2, none⟩ = some (.string o.s))
                  (first | exact hc2 | exact hS0)
                  (first | (go_at_call 13; refine (HRd.out _).mono ?_; rintro e w2 ⟨rfl, hr2⟩; have hc2 : w2.cell? ⟨wr.heap.size, 2, none⟩ = some (.string o.s) := (by rw [cell_of_row _ wr.heap.size 2 _ _ _ (hr2.out.2 _ _ rfl)]; rfl)))
                go_wp2
                go_roundw
                case rel => exact ⟨k + 1, by omega, by go_num, Lib.hid hr2.out.1⟩
                case measure => simp [intOf]; omega
              · have HD : Hid (some (flagT o.b) = some D) := Lib.hid (by rw [← hD]; exact ((if_neg h0).trans (if_neg h01)).symm)
                have e0 : (o.k == 0) = false := by simpa using h0
                have e1 : (o.k == 1) = false := by simpa using h01
                clear hD h0 h01
                have HRd : Hid (∀ o1, Calls Try.prog 15 #[.pointer (some ⟨g, 0, none⟩)] (wr.alloc o1).drew fun e w' => e = .returned (.bool o.b) ∧ Hid (BackR w g (restO (L.drop (k + 1))) w' ∧ ∀ cs t, o1 = .cells cs t → w'.heap[wr.heap.size]? = some (.cells cs t (0, 0)))) := Lib.hid (fun o1 => by
                  have hb : Below wr.heap.size wr (wr.alloc o1).drew := ((Below.refl wr.heap.size wr).alloc (Nat.le_refl _) o1).drew
                  have h1 := backR_below HW.out hb
                  rw [HRest.out] at h1
                  refine (back_flag (wr.alloc o1).drew g h1.1 HD.out).mono fun e w' h => ⟨h.1, Lib.hid ⟨backR_read h1 h.2.out.1 h.2.out.2, fun cs t e => ?_⟩⟩
                  subst e
                  exact (h.2.out.2.block wr.heap.size (by simp) (by have := rdr_lt HW.out.1; omega)).trans (heap_alloc_new wr _))
                clear HD
                go_wp2
                have hS0 : (wr.alloc (Obj.cells #[.int .i64 o.k, .int .i64 o.n, .string o.s, .bool o.b] 31)).cell? ⟨wr.heap.size, 3, none⟩ = some (.bool o.b) := by
                  rw [cell_of_row _ wr.heap.size 3 _ _ _ (heap_alloc_new wr _)]; rfl
                go_region_held3 (fun w' => w'.cell? ⟨wr.heap.size, 3, none⟩ = some (.bool o.b))
                  (first | exact hc2 | exact hS0)
                  (first | (go_at_call 15; refine (HRd.out _).mono ?_; rintro e w2 ⟨rfl, hr2⟩; have hc2 : w2.cell? ⟨wr.heap.size, 3, none⟩ = some (.bool o.b) := (by rw [cell_of_row _ wr.heap.size 3 _ _ _ (hr2.out.2 _ _ rfl)]; rfl)))
                go_wp2
                go_roundw
                case rel => exact ⟨k + 1, by omega, by go_num, Lib.hid hr2.out.1⟩
                case measure => simp [intOf]; omega
          · obtain rfl : k = L.length := by omega
            have HDn : Hid (Calls Try.prog 19 #[.pointer (some ⟨g, 0, none⟩)] wr fun e w' => e = .returned (.int .i64 0) ∧ wr = w') := Lib.hid (by
              have := code_done wr g false _ HW.out.1
              rw [if_neg (by simp [restO])] at this
              exact this)
            have HLf : Hid (Calls Try.prog 17 #[.pointer (some ⟨g, 0, none⟩)] wr fun e w' => e = .returned (.int .i64 0) ∧ wr = w') := Lib.hid (by
              have := code_left wr g false _ HW.out.1
              rw [List.drop_length] at this
              exact this)
            have HBf := Lib.hid HW.out.2.2
            go_wp2_with (first
              | (go_at_call 19; refine HDn.out.mono ?_; rintro e w5 ⟨rfl, rfl⟩)
              | (go_at_call 17; refine HLf.out.mono ?_; rintro e w5 ⟨rfl, rfl⟩)
              | (go_at_call 9; refine (lives_any _).mono ?_; rintro e w6 ⟨rfl, hb6⟩))
            go_ret
            exact ⟨rfl, below_tr HBf.out hb6 (Nat.le_refl _)⟩

set_option maxHeartbeats 1000000 in
theorem blobBack_any (L : List OpV) (A : Option Addr) (cap : Nat) (w : World) (hm : L.length ≤ 9223372036854775807) (hO : Ops w A L) :
    Calls Try.prog 4 #[.slice A L.length cap] w fun e w' => e = .returned (.bool true) ∧ Below w.heap.size w w' := by
  cases hL : light L with
  | true => exact blobBack_light L A cap w (light_len hL) hO hL
  | false =>
    have HL : Hid (Calls Try.prog 21 #[.slice A L.length cap] w fun e w' => e = .returned (.bool false) ∧ Below w.heap.size w w') := Lib.hid (by
      have := law_light L A cap w hm hO
      rw [hL] at this
      exact this)
    clear hL hO
    go_enter Try.func4, Try.ntmps4
    go_wp2_with (first
      | (go_at_call 21; refine HL.out.mono ?_; rintro e w1 ⟨rfl, hb1⟩)
      | (go_at_call 9; refine (lives_any _).mono ?_; rintro e w6 ⟨rfl, hb6⟩))
    go_ret
    exact ⟨rfl, below_tr hb1 hb6 (Nat.le_refl _)⟩
end Go.Proofs.Ytjcjnokpbhmmiaa
