/- The statement on bytes that are read whole and written again: its walk. -/
import Derived.Test.YtjcjnokpbhmmiaaBlobOneL
namespace Go.Proofs.Ytjcjnokpbhmmiaa
open Go.RowKit
set_option maxRecDepth 100000

set_option maxHeartbeats 1000000 in
theorem blobOne_light (T : Text) (A : Option Addr) (cap : Nat) (L : List Int) (K : Option Addr) (kcap : Nat) (w : World) (hm : T.length ≤ 5000) (hk : L.length ≤ 200) (hT : Txt w A T) (hA : A = none → T = []) (hK : Ints w K L) :
    Calls Try.prog 5 #[.slice A T.length cap, .slice K L.length kcap] w fun e w' => e = .returned (.bool true) ∧ Below w.heap.size w w' := by
  have HT := Lib.hid hT
  have HA := Lib.hid hA
  have HK := Lib.hid hK
  have HO := Lib.hid (code_open T A cap w (by omega) hT hA)
  have h1 : (T.length : Int) ≤ 5000 := by omega
  have h2 : (L.length : Int) ≤ 200 := by omega
  clear hT hA hK
  go_enter Try.func5, Try.ntmps5
  go_wp2_with (first
    | (go_at_call 10; refine HO.out.mono ?_; rintro e w1 ⟨g, hg1, hg2, rfl, hr1, hb1⟩; have HR1 := Lib.hid (And.intro hg1 (And.intro hg2 (And.intro hr1 hb1))); clear hg1 hg2 hr1 hb1)
    | (go_at_call 22; refine (new_any w1).mono ?_; rintro e w2 ⟨rfl, rfl⟩))
  have HI : Hid (OneI w w1.heap.size g w1.heap.size T false T (some []) (.slice none 0 0) (w1.alloc (.cells #[.bool true, .bool false, .slice none 0 0] 74))) := Lib.hid (by
    obtain ⟨a, b, c, d⟩ := HR1.out
    have e : Below w1.heap.size w1 (w1.alloc (.cells #[.bool true, .bool false, .slice none 0 0] 74)) := (Below.refl _ _).alloc (Nat.le_refl _) _
    exact ⟨rdr_below c e b, b, new_wrt w1 _ (Nat.le_refl _), fun _ => ⟨[], rfl, rfl⟩, below_tr d e (Nat.le_refl _), a, e.size⟩)
  generalize w1.heap.size = gw at *
  go_loopw [6, 28] (fun p i wr => ∃ (k : Nat) (b : Bool) (rest : Text) (S : Option Text) (v : Value), k ≤ L.length ∧ p = .pointer (some ⟨gw, 0, none⟩) ∧ i = .int .i64 k ∧ Hid ((S.getD []).length ≤ 70000 * k) ∧ Hid (OneI w gw g gw T b rest S v wr)) (fun _ i _ => L.length - (intOf i).toNat)
  case atStart => exact ⟨0, false, T, some [], _, Nat.zero_le _, rfl, rfl, Lib.hid (by simp), HI⟩
  case round =>
    obtain ⟨k, b, rest, S, v, hkl, rfl, rfl, HS, HW⟩ := hrel
    by_cases hlt : k < L.length
    · obtain ⟨a, rfl, hbl, hc, hlo, hhi⟩ := (HK.out.below HW.out.2.2.2.2.1) k hlt
      obtain ⟨x, hx⟩ : ∃ x, x = L[k] := ⟨_, rfl⟩
      rw [← hx] at hc hlo hhi
      clear hx
      have HG : Hid (g < wr.heap.size) := Lib.hid (rdr_lt HW.out.1)
      have hx3 := kind3 x
      rcases hx3 with hx3 | hx3 | hx3
      · have HC : Hid (∀ o, Calls Try.prog 11 #[.pointer (some ⟨g, 0, none⟩)] (wr.alloc o) fun e w' => ∃ (n : Int) (b' : Bool) (rest' : Text), e = .returned (.int .i64 n) ∧ (-9223372036854775808 ≤ n ∧ n ≤ 9223372036854775807) ∧ Hid (∀ u, OneM w gw g gw T b' rest' S (docN n) v (w'.setCell ⟨wr.heap.size, 1, none⟩ u)) ∧ Hid (∀ cs t, o = .cells cs t → w'.heap[wr.heap.size]? = some (.cells cs t (0, 0)))) := Lib.hid (fun o => by
          refine (rnum_one (wr.alloc o) g b rest (rdr_below HW.out.1 ((Below.refl wr.heap.size wr).alloc (Nat.le_refl _) o) HG.out)).mono fun e w' h => ?_
          obtain ⟨n, b', rest', h1, hb1, h3⟩ := h
          obtain ⟨h4, h5, h6⟩ := h3.out
          refine ⟨n, b', rest', h1, hb1, Lib.hid fun u => one_read HW.out (only_set rfl h5) ?_ h6, Lib.hid fun cs t e => by subst e; exact one_cells HG.out rfl h5⟩
          exact rdr_only h4 (Only.set w' wr.heap.size 1 u) HG.out)
        have HPut : Hid (∀ (W : World) (n : Int), (-9223372036854775808 ≤ n ∧ n ≤ 9223372036854775807) → Wrt W gw gw S v → gw ≤ W.heap.size → Calls Try.prog 23 #[.pointer (some ⟨gw, 0, none⟩), .agg #[.int .i64 0, .int .i64 n, .string {data:=#[]}, .bool false]] W (Put W gw gw S v (docN n))) := Lib.hid (fun W n hb hW hB => by
          have := law_put ⟨0, n, {data:=#[]}, false⟩ W gw gw S v hW hB ⟨hb.1, hb.2, (by decide : ({data:=#[]} : ByteArray).size ≤ 9223372036854775807)⟩ (by have := HS.out; omega)
          exact this)
        go_wp2_with (first
          | (go_at_call 11; refine (HC.out _).mono ?_; rintro e w2 ⟨n, b2, rest2, rfl, hb1, hm2, hc2⟩; have hblk := hc2.out _ _ rfl; have f0 := frozen_of_row w2 wr.heap.size 1 _ _ hblk; have e0 := cell_of_row w2 wr.heap.size 0 _ _ _ hblk; have e1 := cell_of_row w2 wr.heap.size 1 _ _ _ hblk; have e2 := cell_of_row w2 wr.heap.size 2 _ _ _ hblk; have e3 := cell_of_row w2 wr.heap.size 3 _ _ _ hblk; simp only [List.getElem?_toArray, List.getElem?_cons_zero, List.getElem?_cons_succ] at e0 e1 e2 e3; clear hblk hc2)
          | (go_at_call 23; refine (HPut.out _ n hb1 (hm2.out _).2.2.1 (hm2.out _).2.2.2.2.2.2).mono ?_; intro e w4 hp; obtain ⟨rfl, v4, hi4⟩ := one_put (hm2.out _) hp; have HI4 := Lib.hid hi4; clear hp hi4))
        go_roundw
        case rel => exact ⟨k + 1, b2, rest2, nextS S (docN n), v4, by omega, rfl, by go_num, Lib.hid (next_len HS.out (docN_len n hb1.1 hb1.2)), HI4⟩
        case measure => simp [intOf]; omega
      · have HC : Hid (∀ o, Calls Try.prog 13 #[.pointer (some ⟨g, 0, none⟩)] (wr.alloc o) fun e w' => ∃ (n : ByteArray) (b' : Bool) (rest' : Text), e = .returned (.string n) ∧ n.size ≤ 9223372036854775807 ∧ Hid (∀ u, OneM w gw g gw T b' rest' S (docS n) v (w'.setCell ⟨wr.heap.size, 2, none⟩ u)) ∧ Hid (∀ cs t, o = .cells cs t → w'.heap[wr.heap.size]? = some (.cells cs t (0, 0)))) := Lib.hid (fun o => by
          refine (rtext_one (wr.alloc o) g b rest (rdr_below HW.out.1 ((Below.refl wr.heap.size wr).alloc (Nat.le_refl _) o) HG.out)).mono fun e w' h => ?_
          obtain ⟨n, b', rest', h1, hb1, h3⟩ := h
          obtain ⟨h4, h5, h6⟩ := h3.out
          refine ⟨n, b', rest', h1, hb1, Lib.hid fun u => one_read HW.out (only_set rfl h5) ?_ h6, Lib.hid fun cs t e => by subst e; exact one_cells HG.out rfl h5⟩
          exact rdr_only h4 (Only.set w' wr.heap.size 2 u) HG.out)
        have HPut : Hid (∀ (W : World) (n : ByteArray), n.size ≤ 9223372036854775807 → Wrt W gw gw S v → gw ≤ W.heap.size → Calls Try.prog 23 #[.pointer (some ⟨gw, 0, none⟩), .agg #[.int .i64 1, .int .i64 0, .string n, .bool false]] W (Put W gw gw S v (docS n))) := Lib.hid (fun W n hb hW hB => by
          have := law_put ⟨1, 0, n, false⟩ W gw gw S v hW hB ⟨(by decide : (-9223372036854775808 : Int) ≤ 0), (by decide : (0 : Int) ≤ 9223372036854775807), hb⟩ (by have := HS.out; omega)
          exact this)
        go_wp2_with (first
          | (go_at_call 13; refine (HC.out _).mono ?_; rintro e w2 ⟨n, b2, rest2, rfl, hb1, hm2, hc2⟩; have hblk := hc2.out _ _ rfl; have f0 := frozen_of_row w2 wr.heap.size 2 _ _ hblk; have e0 := cell_of_row w2 wr.heap.size 0 _ _ _ hblk; have e1 := cell_of_row w2 wr.heap.size 1 _ _ _ hblk; have e2 := cell_of_row w2 wr.heap.size 2 _ _ _ hblk; have e3 := cell_of_row w2 wr.heap.size 3 _ _ _ hblk; simp only [List.getElem?_toArray, List.getElem?_cons_zero, List.getElem?_cons_succ] at e0 e1 e2 e3; clear hblk hc2)
          | (go_at_call 23; refine (HPut.out _ n hb1 (hm2.out _).2.2.1 (hm2.out _).2.2.2.2.2.2).mono ?_; intro e w4 hp; obtain ⟨rfl, v4, hi4⟩ := one_put (hm2.out _) hp; have HI4 := Lib.hid hi4; clear hp hi4))
        go_roundw
        case rel => exact ⟨k + 1, b2, rest2, nextS S (docS n), v4, by omega, rfl, by go_num, Lib.hid (next_len HS.out (docS_len n)), HI4⟩
        case measure => simp [intOf]; omega
      · have HC : Hid (∀ o, Calls Try.prog 15 #[.pointer (some ⟨g, 0, none⟩)] (wr.alloc o) fun e w' => ∃ (n : Bool) (b' : Bool) (rest' : Text), e = .returned (.bool n) ∧ Hid (∀ u, OneM w gw g gw T b' rest' S (some (flagT n)) v (w'.setCell ⟨wr.heap.size, 3, none⟩ u)) ∧ Hid (∀ cs t, o = .cells cs t → w'.heap[wr.heap.size]? = some (.cells cs t (0, 0)))) := Lib.hid (fun o => by
          refine (rflag_one (wr.alloc o) g b rest (rdr_below HW.out.1 ((Below.refl wr.heap.size wr).alloc (Nat.le_refl _) o) HG.out)).mono fun e w' h => ?_
          obtain ⟨n, b', rest', h1, h3⟩ := h
          obtain ⟨h4, h5, h6⟩ := h3.out
          refine ⟨n, b', rest', h1, Lib.hid fun u => one_read HW.out (only_set rfl h5) ?_ h6, Lib.hid fun cs t e => by subst e; exact one_cells HG.out rfl h5⟩
          exact rdr_only h4 (Only.set w' wr.heap.size 3 u) HG.out)
        have HPut : Hid (∀ (W : World) (n : Bool), Wrt W gw gw S v → gw ≤ W.heap.size → Calls Try.prog 23 #[.pointer (some ⟨gw, 0, none⟩), .agg #[.int .i64 2, .int .i64 0, .string {data:=#[]}, .bool n]] W (Put W gw gw S v (some (flagT n)))) := Lib.hid (fun W n hW hB => by
          have := law_put ⟨2, 0, {data:=#[]}, n⟩ W gw gw S v hW hB ⟨(by decide : (-9223372036854775808 : Int) ≤ 0), (by decide : (0 : Int) ≤ 9223372036854775807), (by decide : ({data:=#[]} : ByteArray).size ≤ 9223372036854775807)⟩ (by have := HS.out; omega)
          exact this)
        go_wp2_with (first
          | (go_at_call 15; refine (HC.out _).mono ?_; rintro e w2 ⟨n, b2, rest2, rfl, hm2, hc2⟩; have hblk := hc2.out _ _ rfl; have f0 := frozen_of_row w2 wr.heap.size 3 _ _ hblk; have e0 := cell_of_row w2 wr.heap.size 0 _ _ _ hblk; have e1 := cell_of_row w2 wr.heap.size 1 _ _ _ hblk; have e2 := cell_of_row w2 wr.heap.size 2 _ _ _ hblk; have e3 := cell_of_row w2 wr.heap.size 3 _ _ _ hblk; simp only [List.getElem?_toArray, List.getElem?_cons_zero, List.getElem?_cons_succ] at e0 e1 e2 e3; clear hblk hc2)
          | (go_at_call 23; refine (HPut.out _ n (hm2.out _).2.2.1 (hm2.out _).2.2.2.2.2.2).mono ?_; intro e w4 hp; obtain ⟨rfl, v4, hi4⟩ := one_put (hm2.out _) hp; have HI4 := Lib.hid hi4; clear hp hi4))
        go_roundw
        case rel => exact ⟨k + 1, b2, rest2, nextS S (some (flagT n)), v4, by omega, rfl, by go_num, Lib.hid (next_len HS.out (by simp only [Option.getD_some, flag_len]; omega)), HI4⟩
        case measure => simp [intOf]; omega
    · obtain rfl : k = L.length := by omega
      have HD : Hid (Calls Try.prog 19 #[.pointer (some ⟨g, 0, none⟩)] wr fun e w' => e = .returned (.int .i64 (if b = true ∨ rest ≠ [] then 10 else 0)) ∧ wr = w') := Lib.hid (code_done wr g b rest HW.out.1)
      have HBy : Hid (Calls Try.prog 24 #[.pointer (some ⟨gw, 0, none⟩)] wr (Bytes wr S)) := Lib.hid (code_bytes wr gw gw S v HW.out.2.2.1 (by have := HS.out; omega))
      have HB := Lib.hid HW.out.2.2.2.2.1
      by_cases hd : b = true ∨ rest ≠ []
      · rw [if_pos hd] at HD
        clear hd
        go_wp2_with (first
          | (go_at_call 19; refine HD.out.mono ?_; rintro e w5 ⟨rfl, rfl⟩)
          | (go_at_call 9; refine (lives_any _).mono ?_; rintro e w6 ⟨rfl, hb6⟩))
        go_ret
        exact ⟨rfl, below_tr HB.out hb6 (Nat.le_refl _)⟩
      · rw [if_neg hd] at HD
        obtain ⟨J, hJ1, hJ2⟩ := HW.out.2.2.2.1 (by cases b <;> simp_all)
        have hr0 : rest = [] := by
          cases rest with
          | nil => rfl
          | cons y l => exact absurd (.inr (by simp)) hd
        rw [hr0, List.append_nil] at hJ2
        subst hJ1 hJ2
        clear hd hr0
        go_wp2_with (first
          | (go_at_call 19; refine HD.out.mono ?_; rintro e w5 ⟨rfl, rfl⟩)
          | (go_at_call 24; refine HBy.out.mono ?_; rintro e w5 ⟨hb5, A5, c5, rfl, ht5, hn5⟩; have hs5 := text_run w5 A5 c5 J ht5 hn5; have hs1 := text_run w5 A cap J (HT.out.below (below_tr HB.out hb5 (Nat.le_refl _))) HA.out; have HB5 := Lib.hid (below_tr HB.out hb5 (Nat.le_refl _)); clear hb5 ht5 hn5)
          | (go_at_call 9; refine (lives_any _).mono ?_; rintro e w6 ⟨rfl, hb6⟩))
        go_ret
        exact ⟨rfl, below_tr HB5.out hb6 (Nat.le_refl _)⟩

set_option maxHeartbeats 1000000 in
theorem blobOne_any (T : Text) (A : Option Addr) (cap : Nat) (L : List Int) (K : Option Addr) (kcap : Nat) (w : World) (hm : T.length ≤ 9223372036854775807) (hk : L.length ≤ 9223372036854775807) (hT : Txt w A T) (hA : A = none → T = []) (hK : Ints w K L) :
    Calls Try.prog 5 #[.slice A T.length cap, .slice K L.length kcap] w fun e w' => e = .returned (.bool true) ∧ Below w.heap.size w w' := by
  by_cases h1 : T.length ≤ 5000
  · by_cases h2 : L.length ≤ 200
    · exact blobOne_light T A cap L K kcap w h1 h2 hT hA hK
    · have h3 : (T.length : Int) ≤ 5000 := by omega
      have h4 : (200 : Int) < (L.length : Int) := by omega
      clear hT hA hK h1 h2 hm hk
      go_enter Try.func5, Try.ntmps5
      go_wp2_with (go_at_call 9; refine (lives_any _).mono ?_; rintro e w6 ⟨rfl, hb6⟩)
      go_ret
      exact ⟨rfl, hb6⟩
  · have h3 : (5000 : Int) < (T.length : Int) := by omega
    clear hT hA hK h1 hm hk
    go_enter Try.func5, Try.ntmps5
    go_wp2_with (go_at_call 9; refine (lives_any _).mono ?_; rintro e w6 ⟨rfl, hb6⟩)
    go_ret
    exact ⟨rfl, hb6⟩
end Go.Proofs.Ytjcjnokpbhmmiaa
