/- The statement on countries that are no other member state, walked. -/
import Derived.Test.YtgljajoknmgoeaaPpM
import Derived.Test.YtgljajoknmgoeaaVatRightR
namespace Go.Proofs.Ytgljajoknmgoeaa
open Go.RowKit
set_option maxRecDepth 100000

section
variable {w w' : World} {base P B0 bm n : Nat} {h : ByteArray} {O : List Sp} {F : Lns}
theorem status_any (H : PpAt w base P B0 bm n h O F) (hM : MaxL w) (c m : ByteArray) (f u : Int) (hc : c.size ≤ 500) (hm : m.size ≤ 500) (hn : n < maxLen) :
    Calls Try.prog 9 #[.pointer (some ⟨P, 0, none⟩), .string c, .string m, .agg #[.int .i64 f, .int .i64 u]] w fun e w' => ∃ (E : Int) (F' : Lns), e = .returned (.int .i64 E) ∧ Below base w w' ∧ PpAt w' base P B0 bm (n + 1) h O F' := by
  cases hr : rightP c m with
  | true => exact (code_status H hM c m f u 0 hc hm hr hn).mono fun e w' ⟨a, b, F', c, _⟩ => ⟨_, F', a, b, c⟩
  | false => exact (status_name H hM c m f u hc hm hr).mono fun e w' ⟨a, b⟩ => ⟨_, F, a, b.mono H.baseLe, (H.on b).mono (by omega)⟩
end
theorem light_all {L : List OpP} {x : OpP} (h : lightB L x = true) : (∀ y ∈ L, y.2.1.size ≤ 100 ∧ y.2.2.1.size ≤ 100) ∧ (x.2.1.size ≤ 100 ∧ x.2.2.1.size ≤ 100) ∧ L.length ≤ 40 := by
  unfold lightB shortsB at h
  rw [Bool.and_eq_true, List.all_eq_true, decide_eq_true_iff] at h
  have e : ∀ y ∈ L ++ [x], y.2.1.size ≤ 100 ∧ y.2.2.1.size ≤ 100 := fun y hy => by
    have := h.1 y hy
    unfold shortB at this
    rw [Bool.and_eq_true, decide_eq_true_iff, decide_eq_true_iff] at this
    exact this
  exact ⟨fun y hy => e y (List.mem_append_left _ hy), e x (by simp), h.2⟩
set_option maxHeartbeats 1000000 in
theorem third_out (home : ByteArray) (A : Option Addr) (c : Nat) (L : List OpP) (x : OpP) (w : World) (hr : RowOpP w A L) (hA : A = none → L = []) (hlc : L.length ≤ c) (hln : L.length * 64 ≤ 140737488351232) (hM : MaxL w) (hV : lightB L x = false ∨ (lightB L x = true ∧ isMem home = false)) :
    Calls Try.prog 3 #[.string home, .slice A L.length c, .agg #[.int .i64 x.1, .string x.2.1, .string x.2.2.1, .int .i64 x.2.2.2.1, .int .i64 x.2.2.2.2.1, .int .i64 x.2.2.2.2.2]] w fun e w' => e = .returned (.bool true) ∧ Below w.heap.size w w' := by
  have HI : Hid (∀ o, Below w.heap.size w (w.alloc o)) := Lib.hid (fun o => below_alloc w o)
  have HM := Lib.hid hM
  have HLt := Lib.hid (fun o V hV => code_light A c L x (w.alloc o) (hr.on (below_alloc _ _)) hA hlc hln V hV)
  have HMb := Lib.hid (fun W => ref_member home W)
  rcases hV with hV | ⟨hV, hm⟩
  · have HL := Lib.hid (fun o => HLt.out o _ hV)
    clear hM hV hr hA hlc hln HLt HMb
    go_enter Try.func3, Try.ntmps3
    go_wp2_with (first
      | (go_at_call 5; refine (HL.out _).mono ?_; rintro e w1 ⟨rfl, hb⟩; have HB := Lib.hid (below_then (HI.out _) hb); clear hb)
      | (go_at_call 7; refine (pp_lives _ (HM.out.below HB.out)).mono ?_; rintro e w2 ⟨rfl, hb⟩; have HZ := Lib.hid (below_then HB.out hb); clear hb))
    go_ret
    exact ⟨rfl, HZ.out⟩
  · have HL := Lib.hid (fun o => HLt.out o _ hV)
    rw [hm] at HMb
    clear hM hV hr hA hlc hln HLt hm
    go_enter Try.func3, Try.ntmps3
    go_wp2_with (first
      | (go_at_call 5; refine (HL.out _).mono ?_; rintro e w1 ⟨rfl, hb⟩; have HB := Lib.hid (below_then (HI.out _) hb); clear hb)
      | (go_at_call 6; refine (HMb.out _).mono ?_; rintro e w2 ⟨rfl, hb⟩; have HC := Lib.hid (below_then HB.out hb); clear hb)
      | (go_at_call 7; refine (pp_lives _ (HM.out.below HC.out)).mono ?_; rintro e w3 ⟨rfl, hb⟩; have HZ := Lib.hid (below_then HC.out hb); clear hb))
    go_ret
    exact ⟨rfl, HZ.out⟩
set_option maxHeartbeats 2000000 in
theorem third_in (home : ByteArray) (A : Option Addr) (c : Nat) (L : List OpP) (x : OpP) (w : World) (hr : RowOpP w A L) (hA : A = none → L = []) (hlc : L.length ≤ c) (hln : L.length * 64 ≤ 140737488351232) (hM : MaxL w) (hV : lightB L x = true) (hm : isMem home = true) :
    Calls Try.prog 3 #[.string home, .slice A L.length c, .agg #[.int .i64 x.1, .string x.2.1, .string x.2.2.1, .int .i64 x.2.2.2.1, .int .i64 x.2.2.2.2.1, .int .i64 x.2.2.2.2.2]] w fun e w' => e = .returned (.bool true) ∧ Below w.heap.size w w' := by
  obtain ⟨hLs, hx, hl40⟩ := light_all hV
  have hl40' : (L.length : Int) ≤ 40 := by omega
  have HI : Hid (NbI w x (w.alloc (.cells #[.int .i64 x.1, .string x.2.1, .string x.2.2.1, .int .i64 x.2.2.2.1, .int .i64 x.2.2.2.2.1, .int .i64 x.2.2.2.2.2] 26))) := Lib.hid ⟨heap_alloc_new _ _, below_alloc _ _⟩
  have HM := Lib.hid hM
  have HLt := Lib.hid (fun o => code_light A c L x (w.alloc o) (hr.on (below_alloc _ _)) hA hlc hln true hV)
  have HMb := Lib.hid (fun W => ref_member home W)
  rw [hm] at HMb
  have HR := Lib.hid (And.intro hr (And.intro hLs hx))
  have HMe := Lib.hid hm
  have heq := str_beq x.2.1 home
  have HEq := Lib.hid heq
  clear hM hV hr hA hlc hln hm hLs hx hl40 heq
  go_enter Try.func3, Try.ntmps3
  go_wp2_with (go_at_call 5; refine (HLt.out _).mono ?_; rintro e w1 ⟨rfl, hb⟩; have HI1 := Lib.hid (HI.out.on hb); clear hb; refine Stop.out ?_)
  unfold Stop
  go_wp2_with (go_at_call 6; refine (HMb.out _).mono ?_; rintro e w2 ⟨rfl, hb⟩; have HI2 := Lib.hid (HI1.out.on hb); clear hb; refine Stop.out ?_)
  unfold Stop
  go_wp2_with (go_at_call 8; refine (code_pnew home (HM.out.below HI2.out.2) HMe.out).mono ?_; rintro e w3 ⟨P, B0, bm, rfl, h3, hb⟩; have H3 := Lib.hid (And.intro h3 (HI2.out.on hb)); have HS := Lib.hid (And.intro hb.size (heapLt HI2.out.1)); clear h3 hb; refine Stop.out ?_)
  unfold Stop
  clear HLt HMb HI HI1
  obtain ⟨base, hbase⟩ : ∃ base, base = w2.heap.size := ⟨_, rfl⟩
  rw [← hbase] at H3 HS
  go_wp2
  clear hbase
  go_loopw [27] (fun i wr => ∃ (k : Nat) (F : Lns), k ≤ L.length ∧ i = .int .i64 k ∧ Hid (PpAt wr base P B0 bm k home [] F ∧ NbI w x wr)) (fun i _ => L.length - (intOf i).toNat)
  case atStart => exact ⟨0, _, Nat.zero_le _, rfl, H3⟩
  case round =>
    clear H3 HI2
    obtain ⟨k, F, hk, rfl, HP⟩ := hrel
    by_cases hlt : k < L.length
    · have hlt' : (k : Int) < (L.length : Int) := by omega
      obtain ⟨b, o, rfl, hbl, y0, y1, y2, y3, y4, y5⟩ := (HR.out.1.on HP.out.2.2).at_ k hlt
      have hsz := HR.out.2.1 L[k] (List.getElem_mem hlt)
      have HSz := Lib.hid hsz
      obtain ⟨e0, e1, e2, e3, e4, e5⟩ := cellsOpP (heap_alloc_new wr (.cells #[.int .i64 L[k].1, .string L[k].2.1, .string L[k].2.2.1, .int .i64 L[k].2.2.2.1, .int .i64 L[k].2.2.2.2.1, .int .i64 L[k].2.2.2.2.2] 26))
      have HB1 := Lib.hid (below_alloc wr (.cells #[.int .i64 L[k].1, .string L[k].2.1, .string L[k].2.2.1, .int .i64 L[k].2.2.2.1, .int .i64 L[k].2.2.2.2.1, .int .i64 L[k].2.2.2.2.2] 26))
      clear hsz hbl
      go_wp2_with (go_at_call 9; refine (status_any (HP.out.1.on HB1.out) (HM.out.below (below_then HP.out.2.2 HB1.out)) _ _ _ _ (by have := HSz.out.1; omega) (by have := HSz.out.2; omega) (by unfold maxLen; omega)).mono ?_; rintro e w5 ⟨E, F', rfl, hb5, h5⟩; have H5 := Lib.hid (And.intro h5 hb5); clear h5 hb5; refine Stop.out ?_)
      unfold Stop
      go_wp2
      go_roundw
      case rel =>
        have hbe : Below base wr w5 := (HB1.out.mono HP.out.1.baseLe).trans H5.out.2
        exact ⟨k + 1, F', by omega, by go_num, Lib.hid ⟨H5.out.1, (hbe.block _ HS.out.2).trans HP.out.2.1, HP.out.2.2.trans (hbe.mono (Nat.le_of_lt HS.out.2))⟩⟩
      case measure => simp [intOf]; omega
    · obtain rfl : k = L.length := by omega
      obtain ⟨a0, a1, a2, a3, a4, a5⟩ := cellsOpP HP.out.2.1
      have HBs := Lib.hid (code_business HP.out.1 (HM.out.below HP.out.2.2) x.2.1 x.2.2.1 x.2.2.2.1 (by have := HR.out.2.2.1; omega) (by have := HR.out.2.2.2; omega))
      have HRr := Lib.hid (fun W => ref_right x.2.1 x.2.2.1 W (by have := HR.out.2.2.1; omega) (by have := HR.out.2.2.2; omega))
      have HMc := Lib.hid (fun W => ref_member x.2.1 W)
      cases h1 : rightP x.2.1 x.2.2.1 with
      | false =>
        have hb : bizB home F x.2.1 x.2.2.1 x.2.2.2.1 = false := by unfold bizB; rw [h1]; rfl
        rw [hb] at HBs
        rw [h1] at HRr
        clear hb h1
        go_wp2_with (go_at_call 10; refine HBs.out.mono ?_; rintro e w5 ⟨rfl, hb⟩; have H5 := Lib.hid (HP.out.2.on hb); obtain ⟨d0, d1, d2, d3, d4, d5⟩ := cellsOpP H5.out.1; clear hb; refine Stop.out ?_)
        unfold Stop
        go_wp2_with (go_at_call 11; refine (HRr.out _).mono ?_; rintro e w6 ⟨rfl, hb⟩; have H6 := Lib.hid (H5.out.on hb); clear hb; refine Stop.out ?_)
        unfold Stop
        go_wp2_with (go_at_call 7; refine (pp_lives _ (HM.out.below H6.out.2)).mono ?_; rintro e w7 ⟨rfl, hb⟩; have HZ := Lib.hid (below_then H6.out.2 hb); clear hb; refine Stop.out ?_)
        unfold Stop
        go_wp2
        go_ret
        exact ⟨rfl, HZ.out⟩
      | true =>
        rw [h1] at HRr
        cases hb : bizB home F x.2.1 x.2.2.1 x.2.2.2.1 with
        | true =>
          rw [hb] at HBs
          clear hb h1
          go_wp2_with (go_at_call 10; refine HBs.out.mono ?_; rintro e w5 ⟨rfl, hb⟩; have H5 := Lib.hid (HP.out.2.on hb); obtain ⟨d0, d1, d2, d3, d4, d5⟩ := cellsOpP H5.out.1; clear hb; refine Stop.out ?_)
          unfold Stop
          go_wp2_with (go_at_call 11; refine (HRr.out _).mono ?_; rintro e w6 ⟨rfl, hb⟩; have H6 := Lib.hid (H5.out.on hb); clear hb; refine Stop.out ?_)
          unfold Stop
          go_wp2_with (go_at_call 7; refine (pp_lives _ (HM.out.below H6.out.2)).mono ?_; rintro e w7 ⟨rfl, hb⟩; have HZ := Lib.hid (below_then H6.out.2 hb); clear hb; refine Stop.out ?_)
          unfold Stop
          go_wp2
          go_ret
          exact ⟨rfl, HZ.out⟩
        | false =>
          have hh : isMem x.2.1 = true ∧ ¬ x.2.1 = home := by
            unfold bizB at hb
            rw [h1, Bool.true_and] at hb
            cases h2 : isMem x.2.1 with
            | false => rw [h2] at hb; simp at hb
            | true => exact ⟨rfl, fun e => by rw [decide_eq_true e] at hb; simp at hb⟩
          have heq := HEq.out
          rw [decide_eq_false hh.2] at heq
          rw [hh.1] at HMc
          rw [hb] at HBs
          clear hb h1 hh
          go_wp2_with (go_at_call 10; refine HBs.out.mono ?_; rintro e w5 ⟨rfl, hb⟩; have H5 := Lib.hid (HP.out.2.on hb); obtain ⟨d0, d1, d2, d3, d4, d5⟩ := cellsOpP H5.out.1; clear hb; refine Stop.out ?_)
          unfold Stop
          go_wp2_with (go_at_call 11; refine (HRr.out _).mono ?_; rintro e w6 ⟨rfl, hb⟩; have H6 := Lib.hid (H5.out.on hb); obtain ⟨f0, f1, f2, f3, f4, f5⟩ := cellsOpP H6.out.1; clear hb; refine Stop.out ?_)
          unfold Stop
          go_wp2_with (go_at_call 6; refine (HMc.out _).mono ?_; rintro e w7 ⟨rfl, hb⟩; have H7 := Lib.hid (H6.out.on hb); obtain ⟨g0, g1, g2, g3, g4, g5⟩ := cellsOpP H7.out.1; clear hb; refine Stop.out ?_)
          unfold Stop
          go_wp2_with (go_at_call 7; refine (pp_lives _ (HM.out.below H7.out.2)).mono ?_; rintro e w8 ⟨rfl, hb⟩; have HZ := Lib.hid (below_then H7.out.2 hb); clear hb; refine Stop.out ?_)
          unfold Stop
          go_wp2
          go_ret
          exact ⟨rfl, HZ.out⟩
theorem peopleThird_any (home : ByteArray) (A : Option Addr) (c : Nat) (L : List OpP) (x : OpP) (w : World) (hr : RowOpP w A L) (hA : A = none → L = [] ∧ c = 0) (hlc : L.length ≤ c) (hln : L.length * 64 ≤ 140737488351232) (hM : MaxL w) :
    Calls Try.prog 3 #[.string home, .slice A L.length c, .agg #[.int .i64 x.1, .string x.2.1, .string x.2.2.1, .int .i64 x.2.2.2.1, .int .i64 x.2.2.2.2.1, .int .i64 x.2.2.2.2.2]] w fun e w' => e = .returned (.bool true) ∧ Below w.heap.size w w' := by
  have hA1 : A = none → L = [] := fun h => (hA h).1
  cases h1 : lightB L x with
  | false => exact third_out home A c L x w hr hA1 hlc hln hM (.inl h1)
  | true =>
    cases h2 : isMem home with
    | false => exact third_out home A c L x w hr hA1 hlc hln hM (.inr ⟨h1, h2⟩)
    | true => exact third_in home A c L x w hr hA1 hlc hln hM h1 h2
end Go.Proofs.Ytgljajoknmgoeaa
