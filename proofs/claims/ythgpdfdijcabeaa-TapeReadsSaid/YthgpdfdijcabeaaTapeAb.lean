/- The statement on what is read, walked. -/
import Derived.Test.YthgpdfdijcabeaaTapeAa
import Derived.Test.YthgpdfdijcabeaaTapeW
import Derived.Test.YthgpdfdijcabeaaTapeZ
namespace Go.Proofs.Ythgpdfdijcabeaa
open Go.RowKit
set_option maxRecDepth 100000

theorem wpList_text {w : World} {ops : Array Oper} {rest : List Oper} {o : Oper} {a : Act} {Q : Exit → Act → World → Prop} (hgd : o.guard = none) (x : Operand) (ho : o.op = .convert 22 9 x) (A : Option Addr) (c n : Nat) (l : Text) (hn : l.length = n) (hx : a.eval x = .slice A n c)
    (hT : Txt w A l) (hA : A = none → l = []) (h : wpList Try.prog ops Q rest (a.put o.dst (.string ⟨l.toArray⟩)) w) : wpList Try.prog ops Q (o :: rest) a w :=
  wpList_plain hgd fun _ hK => wp_text x ho A c n l hn hx hT hA (hK _ _ h)
set_option maxHeartbeats 1000000 in
theorem reads_lives (l : Text) (A : Option Addr) (c : Nat) (s n u : Int) (L : List Text) (B : Option Addr) (cL : Nat) (w : World) (h : 1000 < l.length ∨ (l.length ≤ 1000 ∧ 40 < L.length)) :
    Calls Try.prog 4 #[.slice A l.length c, headV s n u, .slice B L.length cL] w fun e w' => e = .returned (.bool true) ∧ Below w.heap.size w w' := by
  have HBx : Hid (Below w.heap.size w (w.alloc (headO s n u))) := Lib.hid (below_alloc w _)
  unfold headO at HBx
  unfold headV
  rcases h with h | ⟨h, h2⟩
  · have i1 : (1000 : Int) < (l.length : Int) := by omega
    go_enter Try.func4, Try.ntmps4
    go_wp2_with (go_at_call 15; refine (tape_lives _).mono ?_; rintro e w1 ⟨rfl, hb1⟩)
    go_ret
    exact ⟨rfl, below_then HBx.out hb1⟩
  · have i1 : ¬ (1000 : Int) < (l.length : Int) := by omega
    have i2 : (40 : Int) < (L.length : Int) := by omega
    go_enter Try.func4, Try.ntmps4
    go_wp2_with (go_at_call 15; refine (tape_lives _).mono ?_; rintro e w1 ⟨rfl, hb1⟩)
    go_ret
    exact ⟨rfl, below_then HBx.out hb1⟩
set_option maxHeartbeats 2000000 in
theorem reads_main (l : Text) (A : Option Addr) (c : Nat) (s n u : Int) (L : List Text) (B : Option Addr) (cL : Nat) (w : World) (h1 : l.length ≤ 1000) (h2 : L.length ≤ 40) (hc : l.length ≤ c) (hT : Txt w A l) (hA : A = none → l = []) (hu : 0 ≤ u ∧ u < 4294967296) (hR : TextRows w B L) :
    Calls Try.prog 4 #[.slice A l.length c, headV s n u, .slice B L.length cL] w fun e w' => e = .returned (.bool true) ∧ Below w.heap.size w w' := by
  obtain ⟨a1, b1, d1, q1, hV⟩ := beginV_is l
  obtain ⟨q2, hq2⟩ : ∃ q, q = endOk l s u := ⟨_, rfl⟩
  obtain ⟨q3, hq3⟩ : ∃ q, q = decide (l = zeros) := ⟨_, rfl⟩
  obtain ⟨q4, hq4⟩ : ∃ q, q = joinQ L s n u := ⟨_, rfl⟩
  obtain ⟨X, hX⟩ : ∃ X, X = joinX L s n u := ⟨_, rfl⟩
  have HC : Hid (∀ W, Txt W A l → Calls Try.prog 21 #[.slice A l.length c] W fun e w' => e = .returned (.tuple #[headV a1 b1 d1, .bool q1]) ∧ Below W.heap.size W w') := Lib.hid (fun W h => by have := code_begin l A c W h hc; rwa [hV] at this)
  have HD : Hid (∀ W, Txt W A l → Calls Try.prog 22 #[.slice A l.length c] W fun e w' => e = .returned (.tuple #[headV a1 b1 d1, .bool q1]) ∧ Below W.heap.size W w') := Lib.hid (fun W h => by have := ref_begin l A c W h hc; rwa [hV] at this)
  have HE : Hid (∀ W, Txt W A l → Calls Try.prog 23 #[.slice A l.length c, headV s n u] W fun e w' => e = .returned (.bool q2) ∧ Below W.heap.size W w') := Lib.hid (fun W h => by rw [hq2]; exact code_end l A c s n u W h hu)
  have HF : Hid (∀ W, Txt W A l → Calls Try.prog 24 #[.slice A l.length c, headV s n u] W fun e w' => e = .returned (.bool q2) ∧ Below W.heap.size W w') := Lib.hid (fun W h => by rw [hq2]; exact ref_end l A c s n u W h hA hu)
  have HK : Hid (∀ W, Txt W A l → Calls Try.prog 25 #[.slice A l.length c] W fun e w' => e = .returned (.bool q3) ∧ W = w') := Lib.hid (fun W h => by rw [hq3]; exact code_blank l A c W h)
  have HL : Hid (∀ W, Txt W A l → Calls Try.prog 26 #[.slice A l.length c] W fun e w' => e = .returned (.bool q3) ∧ Below W.heap.size W w') := Lib.hid (fun W h => by rw [hq3]; exact ref_blank l A c W h hA)
  have HM : Hid (∀ W, TextRows W B L → Calls Try.prog 27 #[.slice B L.length cL, headV s n u] W (JoinG W q4 X)) := Lib.hid (fun W h => by rw [hq4, hX]; exact code_join L B cL s n u W hu h)
  have HN : Hid (∀ W, TextRows W B L → Calls Try.prog 28 #[.slice B L.length cL, headV s n u] W (JoinG W q4 X)) := Lib.hid (fun W h => by rw [hq4, hX]; exact ref_join L B cL s n u W hu h)
  have HT := Lib.hid hT
  have HR := Lib.hid hR
  have i1 : ¬ (1000 : Int) < (l.length : Int) := by omega
  have i2 : ¬ (40 : Int) < (L.length : Int) := by omega
  have i3 : (L.length : Int) ≤ 40 := by omega
  clear hV hq2 hq3 hq4 hX hT hR h1 h2 hc hA hu
  have HX0 : Hid ((w.alloc (headO s n u)).heap[w.heap.size]? = some (headO s n u)) := Lib.hid (heap_alloc_new w _)
  have HB0 : Hid (Below w.heap.size w (w.alloc (headO s n u))) := Lib.hid (below_alloc w _)
  unfold headV at HC HD HE HF HM HN
  unfold headO at HX0 HB0
  unfold headV
  go_enter Try.func4, Try.ntmps4
  go_wp2
  generalize w.alloc (.cells #[.int .i64 s, .int .i64 n, .int .u32 u] 35) = wa at HX0 HB0 ⊢
  go_loopw [28] (fun i wr => ∃ k : Nat, k ≤ L.length ∧ i = .int .i64 k ∧ wr = wa) (fun i _ => L.length - (intOf i).toNat)
  case atStart => exact ⟨0, Nat.zero_le _, rfl, rfl⟩
  case round =>
    obtain ⟨k, hk, rfl, rfl⟩ := hrel
    by_cases hlt : k < L.length
    · have hlt' : (k : Int) < (L.length : Int) := by omega
      obtain ⟨bA, oA, rfl, _⟩ := rows_mid HR.out (by omega)
      obtain ⟨a, Ai, ci, ea, hbl, hcl, hti, hni, hli⟩ := (HR.out.below HB0.out) k hlt
      injection ea with ea
      subst ea
      rw [Addr.add_mid] at hcl
      obtain ⟨m, hm⟩ : ∃ m, m = L[k].length := ⟨_, rfl⟩
      rw [← hm] at hcl
      clear hti hni hbl hli hm
      by_cases hx : 1000 < m
      · have hx' : (1000 : Int) < (m : Int) := by omega
        go_wp2_with (go_at_call 15; refine (tape_lives _).mono ?_; rintro e w1 ⟨rfl, hb1⟩)
        go_ret
        exact ⟨rfl, below_then HB0.out hb1⟩
      · have hx' : ¬ (1000 : Int) < (m : Int) := by omega
        go_wp2
        go_roundw
        case rel => exact ⟨k + 1, by omega, by go_num, trivial⟩
        case measure => simp [intOf]; omega
    · obtain rfl : k = L.length := by omega
      have HTa := Lib.hid (HT.out.below HB0.out)
      go_wp2_with (go_at_call 21; refine (HC.out _ HTa.out).mono ?_; rintro e w2 ⟨rfl, hb2⟩; have HB2 := Lib.hid hb2; clear hb2; refine Stop.out ?_)
      unfold Stop
      have HX2 : Hid ((w2.alloc (headO a1 b1 d1)).heap[w2.heap.size]? = some (headO a1 b1 d1)) := Lib.hid (heap_alloc_new w2 _)
      have HBx : Hid (Below wr.heap.size wr (w2.alloc (headO a1 b1 d1))) := Lib.hid (below_then HB2.out (below_alloc w2 _))
      have HT2 := Lib.hid (HTa.out.below HBx.out)
      unfold headO at HX2 HBx HT2
      go_wp2_with (go_at_call 22; refine (HD.out _ HT2.out).mono ?_; rintro e w3 ⟨rfl, hb3⟩; have HB3 := Lib.hid hb3; clear hb3; refine Stop.out ?_)
      unfold Stop
      have HX3 : Hid ((w3.alloc (headO' a1 b1 d1)).heap[w3.heap.size]? = some (headO' a1 b1 d1)) := Lib.hid (heap_alloc_new w3 _)
      have HBt : Hid (Below wr.heap.size wr (w3.alloc (headO' a1 b1 d1))) := Lib.hid (below_then HBx.out (below_then HB3.out (below_alloc w3 _)))
      have HTb := Lib.hid (HTa.out.below HBt.out)
      have HX9 := Lib.hid (heap_on (below_then HB3.out (below_alloc w3 (headO' a1 b1 d1))) HX2.out)
      have HX4 := Lib.hid (heap_on HBt.out HX0.out)
      unfold headO' at HX3 HBt HTb HX9 HX4
      clear HTa HT2 HX2 HBx HB2 HC HD
      go_wp2
      generalize w3.alloc (.cells #[.int .i64 a1, .int .i64 b1, .int .u32 d1] 38) = wb at HX3 HBt HTb HX9 HX4 ⊢
      have y := head_cells' HX4.out
      have z := head_cells' HX9.out
      have x := head_cells' HX3.out
      refine wp_region_held_drew (S := fun W => W.cell? ⟨w.heap.size, 0, none⟩ = some (.int .i64 s) ∧ W.cell? ⟨w.heap.size, 1, none⟩ = some (.int .i64 n) ∧ W.cell? ⟨w.heap.size, 2, none⟩ = some (.int .u32 u) ∧ W.cell? ⟨w2.heap.size, 0, none⟩ = some (.int .i64 a1) ∧ W.cell? ⟨w2.heap.size, 1, none⟩ = some (.int .i64 b1) ∧ W.cell? ⟨w2.heap.size, 2, none⟩ = some (.int .u32 d1) ∧ W.cell? ⟨w3.heap.size, 0, none⟩ = some (.int .i64 a1) ∧ W.cell? ⟨w3.heap.size, 1, none⟩ = some (.int .i64 b1) ∧ W.cell? ⟨w3.heap.size, 2, none⟩ = some (.int .u32 d1) ∧ Txt W A l) (by kernel_rfl) ⟨y.1, y.2.1, y.2.2, z.1, z.2.1, z.2.2, x.1, x.2.1, x.2.2, HTb.out⟩ ?_
      intro hHeld
      have HBD := Lib.hid (below_drew wb)
      clear x y z HX3 HX9 HTb
      generalize wb.drew = w0 at HBD hHeld ⊢
      (refine takeH (i := 0) (v := ?_) rfl (by kernel_rfl) (by kernel_rfl) (by kernel_rfl) (fun _ _ _ h => h) (Or.inl ⟨by rfl, ?_⟩) (by assumption) ?_; rotate_left; (focus ((intro wS hSw); (try dsimp only at hSw); obtain ⟨s0, s1, s2, s3, s4, s5, s6, s7, s8, s9⟩ := hSw; go_simp; (try with_reducible rfl); done)); (try simp only [Act.put, List.setIfInBounds_toArray, List.set_cons_zero, List.set_cons_succ]))
      (refine takeH (i := 1) (v := ?_) rfl (by kernel_rfl) (by kernel_rfl) (by kernel_rfl) (fun _ _ _ h => h) (Or.inl ⟨by rfl, ?_⟩) (by assumption) ?_; rotate_left; (focus ((intro wS hSw); (try dsimp only at hSw); obtain ⟨s0, s1, s2, s3, s4, s5, s6, s7, s8, s9⟩ := hSw; go_simp; (try with_reducible rfl); done)); (try simp only [Act.put, List.setIfInBounds_toArray, List.set_cons_zero, List.set_cons_succ]))
      (refine takeH (i := 2) (v := ?_) rfl (by kernel_rfl) (by kernel_rfl) (by kernel_rfl) (fun _ _ _ h => h) (Or.inl ⟨by rfl, ?_⟩) (by assumption) ?_; rotate_left; (focus ((intro wS hSw); (try dsimp only at hSw); obtain ⟨s0, s1, s2, s3, s4, s5, s6, s7, s8, s9⟩ := hSw; go_simp; (try with_reducible rfl); done)); (try simp only [Act.put, List.setIfInBounds_toArray, List.set_cons_zero, List.set_cons_succ]))
      (refine takeH (i := 3) (v := ?_) rfl (by kernel_rfl) (by kernel_rfl) (by kernel_rfl) (fun _ _ _ h => h) (Or.inl ⟨by rfl, ?_⟩) (by assumption) ?_; rotate_left; (focus ((intro wS hSw); (try dsimp only at hSw); obtain ⟨s0, s1, s2, s3, s4, s5, s6, s7, s8, s9⟩ := hSw; go_simp; (try with_reducible rfl); done)); (try simp only [Act.put, List.setIfInBounds_toArray, List.set_cons_zero, List.set_cons_succ]))
      (refine takeH (i := 4) (v := ?_) rfl (by kernel_rfl) (by kernel_rfl) (by kernel_rfl) (fun _ _ _ h => h) (Or.inl ⟨by rfl, ?_⟩) (by assumption) ?_; rotate_left; (focus ((intro wS hSw); (try dsimp only at hSw); obtain ⟨s0, s1, s2, s3, s4, s5, s6, s7, s8, s9⟩ := hSw; go_simp; (try with_reducible rfl); done)); (try simp only [Act.put, List.setIfInBounds_toArray, List.set_cons_zero, List.set_cons_succ]))
      (refine takeH (i := 5) (v := ?_) rfl (by kernel_rfl) (by kernel_rfl) (by kernel_rfl) (fun _ _ _ h => h) (Or.inl ⟨by rfl, ?_⟩) (by assumption) ?_; rotate_left; (focus ((intro wS hSw); (try dsimp only at hSw); obtain ⟨s0, s1, s2, s3, s4, s5, s6, s7, s8, s9⟩ := hSw; go_simp; (try with_reducible rfl); done)); (try simp only [Act.put, List.setIfInBounds_toArray, List.set_cons_zero, List.set_cons_succ]))
      (refine takeH (i := 6) (v := ?_) rfl (by kernel_rfl) (by kernel_rfl) (by kernel_rfl) (fun _ _ _ h => h) (Or.inl ⟨by rfl, ?_⟩) (by assumption) ?_; rotate_left; (focus ((intro wS hSw); (try dsimp only at hSw); obtain ⟨s0, s1, s2, s3, s4, s5, s6, s7, s8, s9⟩ := hSw; go_simp; (try with_reducible rfl); done)); (try simp only [Act.put, List.setIfInBounds_toArray, List.set_cons_zero, List.set_cons_succ]))
      (refine takeH (i := 7) (v := ?_) rfl (by kernel_rfl) (by kernel_rfl) (by kernel_rfl) (fun _ _ _ h => h) (Or.inl ⟨by rfl, ?_⟩) (by assumption) ?_; rotate_left; (focus ((intro wS hSw); (try dsimp only at hSw); obtain ⟨s0, s1, s2, s3, s4, s5, s6, s7, s8, s9⟩ := hSw; go_simp; (try with_reducible rfl); done)); (try simp only [Act.put, List.setIfInBounds_toArray, List.set_cons_zero, List.set_cons_succ]))
      (refine takeH (i := 8) (v := ?_) rfl (by kernel_rfl) (by kernel_rfl) (by kernel_rfl) (fun _ _ _ h => h) (Or.inl ⟨by rfl, ?_⟩) (by assumption) ?_; rotate_left; (focus ((intro wS hSw); (try dsimp only at hSw); obtain ⟨s0, s1, s2, s3, s4, s5, s6, s7, s8, s9⟩ := hSw; go_simp; (try with_reducible rfl); done)); (try simp only [Act.put, List.setIfInBounds_toArray, List.set_cons_zero, List.set_cons_succ]))
      (refine takeH (i := 9) (v := ?_) rfl (by kernel_rfl) (by kernel_rfl) (by kernel_rfl) (fun _ _ _ h => h) (Or.inl ⟨by rfl, ?_⟩) (by assumption) ?_; rotate_left; (focus ((intro wS hSw); (try dsimp only at hSw); obtain ⟨s0, s1, s2, s3, s4, s5, s6, s7, s8, s9⟩ := hSw; go_simp; (try with_reducible rfl); done)); (try simp only [Act.put, List.setIfInBounds_toArray, List.set_cons_zero, List.set_cons_succ]))
      (refine takeH (i := 10) (v := ?_) rfl (by kernel_rfl) (by kernel_rfl) (by kernel_rfl) (fun _ _ _ h => h) (Or.inl ⟨by rfl, ?_⟩) (by assumption) ?_; rotate_left; (focus ((intro wS hSw); (try dsimp only at hSw); obtain ⟨s0, s1, s2, s3, s4, s5, s6, s7, s8, s9⟩ := hSw; go_simp; (try with_reducible rfl); done)); (try simp only [Act.put, List.setIfInBounds_toArray, List.set_cons_zero, List.set_cons_succ]))
      (refine takeH (i := 12) (v := ?_) rfl (by kernel_rfl) (by kernel_rfl) (by kernel_rfl) (fun _ _ _ h => h) (Or.inl ⟨by rfl, ?_⟩) (by assumption) ?_; rotate_left; (focus ((intro wS hSw); (try dsimp only at hSw); obtain ⟨s0, s1, s2, s3, s4, s5, s6, s7, s8, s9⟩ := hSw; go_simp; (try with_reducible rfl); done)); (try simp only [Act.put, List.setIfInBounds_toArray, List.set_cons_zero, List.set_cons_succ]))
      (refine takeH (i := 13) (v := ?_) rfl (by kernel_rfl) (by kernel_rfl) (by kernel_rfl) (fun _ _ _ h => h) (Or.inl ⟨by rfl, ?_⟩) (by assumption) ?_; rotate_left; (focus ((intro wS hSw); (try dsimp only at hSw); obtain ⟨s0, s1, s2, s3, s4, s5, s6, s7, s8, s9⟩ := hSw; go_simp; (try with_reducible rfl); done)); (try simp only [Act.put, List.setIfInBounds_toArray, List.set_cons_zero, List.set_cons_succ]))
      refine aloneH (i := 11) rfl (by kernel_rfl) (fun K hK => ?_)
      rw [if_pos (by rfl)]
      go_simp; ((refine (HE.out w0 (hHeld.2.2.2.2.2.2.2.2.2)).mono ?_); (rintro e w1 ⟨rfl, hb⟩); have HB1 := Lib.hid hb; clear hb; (try go_simp))
      refine hK.out _ _ (⟨cell_on HB1.out hHeld.1, cell_on HB1.out hHeld.2.1, cell_on HB1.out hHeld.2.2.1, cell_on HB1.out hHeld.2.2.2.1, cell_on HB1.out hHeld.2.2.2.2.1, cell_on HB1.out hHeld.2.2.2.2.2.1, cell_on HB1.out hHeld.2.2.2.2.2.2.1, cell_on HB1.out hHeld.2.2.2.2.2.2.2.1, cell_on HB1.out hHeld.2.2.2.2.2.2.2.2.1, (hHeld.2.2.2.2.2.2.2.2.2).below HB1.out⟩) (fun hNew => ?_)
      clear hK K hHeld; (have hHeld := hNew); clear hNew; (try simp only [Act.put, List.setIfInBounds_toArray, List.set_cons_zero, List.set_cons_succ])
      refine aloneH (i := 14) rfl (by kernel_rfl) (fun K hK => ?_)
      rw [if_pos (by rfl)]
      go_simp; ((refine (HF.out w1 (hHeld.2.2.2.2.2.2.2.2.2)).mono ?_); (rintro e w2 ⟨rfl, hb⟩); have HB2 := Lib.hid hb; clear hb; (try go_simp))
      refine hK.out _ _ (⟨cell_on HB2.out hHeld.1, cell_on HB2.out hHeld.2.1, cell_on HB2.out hHeld.2.2.1, cell_on HB2.out hHeld.2.2.2.1, cell_on HB2.out hHeld.2.2.2.2.1, cell_on HB2.out hHeld.2.2.2.2.2.1, cell_on HB2.out hHeld.2.2.2.2.2.2.1, cell_on HB2.out hHeld.2.2.2.2.2.2.2.1, cell_on HB2.out hHeld.2.2.2.2.2.2.2.2.1, (hHeld.2.2.2.2.2.2.2.2.2).below HB2.out⟩) (fun hNew => ?_)
      clear hK K hHeld; (have hHeld := hNew); clear hNew; (try simp only [Act.put, List.setIfInBounds_toArray, List.set_cons_zero, List.set_cons_succ])
      (refine takeH (i := 15) (v := ?_) rfl (by kernel_rfl) (by kernel_rfl) (by kernel_rfl) (fun _ _ _ h => h) (Or.inl ⟨by rfl, ?_⟩) (by assumption) ?_; rotate_left; (focus ((intro wS hSw); (try dsimp only at hSw); obtain ⟨s0, s1, s2, s3, s4, s5, s6, s7, s8, s9⟩ := hSw; go_simp; (try with_reducible rfl); done)); (try simp only [Act.put, List.setIfInBounds_toArray, List.set_cons_zero, List.set_cons_succ]))
      (refine takeH (i := 16) (v := ?_) rfl (by kernel_rfl) (by kernel_rfl) (by kernel_rfl) (fun _ _ _ h => h) (Or.inl ⟨by rfl, ?_⟩) (by assumption) ?_; rotate_left; (focus ((intro wS hSw); (try dsimp only at hSw); obtain ⟨s0, s1, s2, s3, s4, s5, s6, s7, s8, s9⟩ := hSw; go_simp; (try with_reducible rfl); done)); (try simp only [Act.put, List.setIfInBounds_toArray, List.set_cons_zero, List.set_cons_succ]))
      (refine takeH (i := 17) (v := ?_) rfl (by kernel_rfl) (by kernel_rfl) (by kernel_rfl) (fun _ _ _ h => h) (Or.inl ⟨by rfl, ?_⟩) (by assumption) ?_; rotate_left; (focus ((intro wS hSw); (try dsimp only at hSw); obtain ⟨s0, s1, s2, s3, s4, s5, s6, s7, s8, s9⟩ := hSw; go_simp; (try with_reducible rfl); done)); (try simp only [Act.put, List.setIfInBounds_toArray, List.set_cons_zero, List.set_cons_succ]))
      (refine takeH (i := 18) (v := ?_) rfl (by kernel_rfl) (by kernel_rfl) (by kernel_rfl) (fun _ _ _ h => h) (Or.inl ⟨by rfl, ?_⟩) (by assumption) ?_; rotate_left; (focus ((intro wS hSw); (try dsimp only at hSw); obtain ⟨s0, s1, s2, s3, s4, s5, s6, s7, s8, s9⟩ := hSw; go_simp; (try with_reducible rfl); done)); (try simp only [Act.put, List.setIfInBounds_toArray, List.set_cons_zero, List.set_cons_succ]))
      (refine takeH (i := 20) (v := ?_) rfl (by kernel_rfl) (by kernel_rfl) (by kernel_rfl) (fun _ _ _ h => h) (Or.inl ⟨by rfl, ?_⟩) (by assumption) ?_; rotate_left; (focus ((intro wS hSw); (try dsimp only at hSw); obtain ⟨s0, s1, s2, s3, s4, s5, s6, s7, s8, s9⟩ := hSw; go_simp; (try with_reducible rfl); done)); (try simp only [Act.put, List.setIfInBounds_toArray, List.set_cons_zero, List.set_cons_succ]))
      refine aloneH (i := 19) rfl (by kernel_rfl) (fun K hK => ?_)
      rw [if_pos (by rfl)]
      go_simp; ((refine (HK.out w2 (hHeld.2.2.2.2.2.2.2.2.2)).mono ?_); (rintro e w3 ⟨rfl, rfl⟩); (try go_simp))
      have HB3 : Hid (Below w2.heap.size w2 w2) := Lib.hid (Below.refl _ _)
      refine hK.out _ _ (hHeld) (fun hNew => ?_)
      clear hK K hHeld; (have hHeld := hNew); clear hNew; (try simp only [Act.put, List.setIfInBounds_toArray, List.set_cons_zero, List.set_cons_succ])
      refine aloneH (i := 21) rfl (by kernel_rfl) (fun K hK => ?_)
      rw [if_pos (by rfl)]
      go_simp; ((refine (HL.out w2 (hHeld.2.2.2.2.2.2.2.2.2)).mono ?_); (rintro e w4 ⟨rfl, hb⟩); have HB4 := Lib.hid hb; clear hb; (try go_simp))
      refine hK.out _ _ (⟨cell_on HB4.out hHeld.1, cell_on HB4.out hHeld.2.1, cell_on HB4.out hHeld.2.2.1, cell_on HB4.out hHeld.2.2.2.1, cell_on HB4.out hHeld.2.2.2.2.1, cell_on HB4.out hHeld.2.2.2.2.2.1, cell_on HB4.out hHeld.2.2.2.2.2.2.1, cell_on HB4.out hHeld.2.2.2.2.2.2.2.1, cell_on HB4.out hHeld.2.2.2.2.2.2.2.2.1, (hHeld.2.2.2.2.2.2.2.2.2).below HB4.out⟩) (fun hNew => ?_)
      clear hK K hHeld; (have hHeld := hNew); clear hNew; (try simp only [Act.put, List.setIfInBounds_toArray, List.set_cons_zero, List.set_cons_succ])
      (refine takeH (i := 22) (v := ?_) rfl (by kernel_rfl) (by kernel_rfl) (by kernel_rfl) (fun _ _ _ h => h) (Or.inl ⟨by rfl, ?_⟩) (by assumption) ?_; rotate_left; (focus ((intro wS hSw); (try dsimp only at hSw); obtain ⟨s0, s1, s2, s3, s4, s5, s6, s7, s8, s9⟩ := hSw; go_simp; (try with_reducible rfl); done)); (try simp only [Act.put, List.setIfInBounds_toArray, List.set_cons_zero, List.set_cons_succ]))
      (refine takeH (i := 23) (v := ?_) rfl (by kernel_rfl) (by kernel_rfl) (by kernel_rfl) (fun _ _ _ h => h) (Or.inl ⟨by rfl, ?_⟩) (by assumption) ?_; rotate_left; (focus ((intro wS hSw); (try dsimp only at hSw); obtain ⟨s0, s1, s2, s3, s4, s5, s6, s7, s8, s9⟩ := hSw; go_simp; (try with_reducible rfl); done)); (try simp only [Act.put, List.setIfInBounds_toArray, List.set_cons_zero, List.set_cons_succ]))
      refine wpAnyH_done (by kernel_rfl) ?_ _
      have HW : Hid (Below wb.heap.size wb w4) := Lib.hid (below_then HBD.out (below_then (below_then (below_then HB1.out HB2.out) HB3.out) HB4.out))
      clear HBD hHeld
      have HBW := Lib.hid (below_then (below_then HB0.out HBt.out) HW.out)
      have HXW := Lib.hid (heap_on HW.out HX4.out)
      obtain ⟨y0, y1, y2⟩ := head_cells' HXW.out
      have HRw := Lib.hid (HR.out.below HBW.out)
      clear HX4 HW HBt HE HF HK HL
      go_wp2_with (go_at_call 27; refine (HM.out _ HRw.out).mono ?_; rintro e w7 ⟨B1, c1, rfl, ht1, hn1, hb7⟩; have HJ1 := Lib.hid (And.intro ht1 hn1); have HB7 := Lib.hid (below_then HBW.out hb7); have HX7 := Lib.hid (heap_on hb7 HXW.out); clear ht1 hn1 hb7 y0 y1 y2; obtain ⟨y0, y1, y2⟩ := head_cells' HX7.out; refine Stop.out ?_)
      unfold Stop
      have HRv := Lib.hid (HR.out.below HB7.out)
      go_wp2_with (go_at_call 28; refine (HN.out _ HRv.out).mono ?_; rintro e w8 ⟨B2, c2, rfl, ht2, hn2, hb8⟩; have HJ2 := Lib.hid (And.intro ht2 hn2); have HJ3 := Lib.hid (HJ1.out.1.below hb8); have HB8 := Lib.hid (below_then HB7.out hb8); clear ht2 hn2 hb8 y0 y1 y2; refine Stop.out ?_)
      unfold Stop
      go_wp2_with (refine wpList_text (o := ⟨some 84, _, _, _, _, _⟩) rfl (.tmp 83) rfl B1 c1 X.length X rfl rfl HJ3.out HJ1.out.2 ?_; (try simp only [Act.put, List.setIfInBounds_toArray, List.set_cons_zero, List.set_cons_succ]); refine Stop.out ?_)
      unfold Stop
      go_wp2_with (refine wpList_text (o := ⟨some 86, _, _, _, _, _⟩) rfl (.tmp 85) rfl B2 c2 X.length X rfl rfl HJ2.out.1 HJ2.out.2 ?_; (try simp only [Act.put, List.setIfInBounds_toArray, List.set_cons_zero, List.set_cons_succ]); refine Stop.out ?_)
      unfold Stop
      go_wp2_with (go_at_call 15; refine (tape_lives _).mono ?_; rintro e w9 ⟨rfl, hb9⟩; have HB9 := Lib.hid (below_then HB8.out hb9); clear hb9; refine Stop.out ?_)
      unfold Stop
      go_wp2
      go_ret
      exact ⟨rfl, HB9.out⟩
theorem tapeReads_any (l : Text) (A : Option Addr) (c : Nat) (s n u : Int) (L : List Text) (B : Option Addr) (cL : Nat) (w : World) (hc : l.length ≤ c) (hT : Txt w A l) (hA : A = none → l = []) (hu : 0 ≤ u ∧ u < 4294967296) (hR : TextRows w B L) :
    Calls Try.prog 4 #[.slice A l.length c, headV s n u, .slice B L.length cL] w fun e w' => e = .returned (.bool true) ∧ Below w.heap.size w w' := by
  by_cases h1 : 1000 < l.length
  · exact reads_lives l A c s n u L B cL w (.inl h1)
  · by_cases h2 : 40 < L.length
    · exact reads_lives l A c s n u L B cL w (.inr ⟨by omega, h2⟩)
    · exact reads_main l A c s n u L B cL w (by omega) (by omega) hc hT hA hu hR
end Go.Proofs.Ythgpdfdijcabeaa
