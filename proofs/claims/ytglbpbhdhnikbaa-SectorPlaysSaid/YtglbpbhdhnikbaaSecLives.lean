/- The chapter's example of a disk. -/
import Derived.Test.YtglbpbhdhnikbaaSecFill
namespace Go.Proofs.Ytglbpbhdhnikbaa
open Go.RowKit
set_option maxRecDepth 100000

def v0 : DiskV := newD 1
def v1 : DiskV := writeD v0 0 (fillT 97)
def v2 : DiskV := { v1 with set := true, after := 0, torn := 2 }
def v3 : DiskV := writeD v2 0 (fillT 98)
def v4 : DiskV := { v3 with dead := false, set := false, after := 0, torn := 0 }
theorem e1 : writeE v0 0 (fillT 97) = 0 := by decide
theorem e3 : writeE v2 0 (fillT 98) = 32 := by decide
theorem r4 : reachV v4 0 = 0 := by decide
theorem s4 : v4.S 0 = 98 :: 98 :: (fillT 97).drop 2 := by decide
theorem ok0 : OkD v0 := by unfold OkD; decide
theorem ok2 : OkD v2 := by unfold OkD; decide

set_option maxHeartbeats 2000000 in
theorem sec_lives (w : World) : Calls Try.prog 16 #[] w fun e w' => e = .returned (.bool true) ∧ Below w.heap.size w w' := by
  have HFa : Hid (∀ W, Calls Try.prog 28 #[.int .u8 97] W (Told64 W (fillT 97))) := Lib.hid (fun W => code_fill64 97 97 rfl W)
  have HFb : Hid (∀ W, Calls Try.prog 28 #[.int .u8 98] W (Told64 W (fillT 98))) := Lib.hid (fun W => code_fill64 98 98 rfl W)
  have HN : Hid (Calls Try.prog 17 #[.int .i64 1] w fun e w' => e = .returned (.pointer (some ⟨w.heap.size + 1, 0, none⟩)) ∧ Dsk w' (w.heap.size + 1) w.heap.size 0 v0 ∧ Below w.heap.size w w') := Lib.hid (code_dnew w 1 (by omega) (by omega))
  obtain ⟨B, hB⟩ : ∃ B, B = w.heap.size + 1 := ⟨_, rfl⟩
  obtain ⟨bm, hbm⟩ : ∃ bm, bm = w.heap.size := ⟨_, rfl⟩
  have HBs : Hid (w.heap.size ≤ B ∧ w.heap.size ≤ bm) := Lib.hid (by omega)
  have HN' : Hid (Calls Try.prog 17 #[.int .i64 1] w fun e w' => e = .returned (.pointer (some ⟨B, 0, none⟩)) ∧ Dsk w' B bm 0 v0 ∧ Below w.heap.size w w') := by rw [hB, hbm]; exact HN
  clear HN hB hbm
  have HW : Hid (∀ (W : World) (g c n : Nat) (d : DiskV) (T : Text) (v : Int), Dsk W B bm n d → OkD d → T.length = 64 → 64 ≤ c → Txt W (some ⟨g, 0, none⟩) T → n < 10 → d.writes < 100 → writeE d 0 T = v → Calls Try.prog 19 #[.pointer (some ⟨B, 0, none⟩), .int .i64 0, .slice (some ⟨g, 0, none⟩) 64 c] W fun e w' => e = .returned (.int .i64 v) ∧ Dsk w' B bm (n + 1) (writeD d 0 T) ∧ ChgD W w' B bm) :=
    Lib.hid (fun W g c n d T v h1 h2 h3 h4 h5 h6 h7 h8 => by
      have := code_write W B bm n d 0 h1 (by unfold maxLen; omega) h2 (some ⟨g, 0, none⟩) c T (by omega) h5 (by omega)
      rw [h3, h8] at this
      exact this)
  have HRd : Hid (∀ W, Dsk W B bm 2 v4 → Calls Try.prog 21 #[.pointer (some ⟨B, 0, none⟩), .int .i64 0] W fun e w' => ∃ g, e = .returned (.tuple #[.slice (some ⟨g, 0, none⟩) 64 64, .int .i64 0]) ∧ Txt w' (some ⟨g, 0, none⟩) (98 :: 98 :: (fillT 97).drop 2) ∧ Below W.heap.size W w') :=
    Lib.hid (fun W hW => (code_read W B bm 2 v4 0 hW).mono fun e w' h => by
      rcases h with ⟨h0, _⟩ | ⟨_, h1, h2, h3⟩
      · exact absurd r4 h0
      · exact ⟨_, h1, by rw [← s4]; exact h2, h3⟩)
  go_enter Try.func16, Try.ntmps16
  go_wp2_with (first
    | (go_at_call 17; refine HN'.out.mono ?_; rintro e w1 ⟨rfl, hd1, hb1⟩; have HD := Lib.hid hd1; have HB := Lib.hid hb1; clear hd1 hb1 HN')
    | (go_at_call 28; (with_reducible refine (HFa.out _).mono ?_); rintro e w2 ⟨g2, c2, rfl, hc2, ht2, hb2⟩; have HD2 := Lib.hid (HD.out.below hb2); have HB2 := Lib.hid (HB.out.trans (hb2.mono HB.out.size)); have HT2 := Lib.hid ht2; clear ht2 hb2 HFa)
    | (go_at_call 19; (with_reducible refine (HW.out w2 g2 c2 0 v0 (fillT 97) 0 HD2.out ok0 (fillT_len _) hc2 HT2.out (by omega) (by decide) e1).mono ?_); rintro e w3 ⟨rfl, hd3, hch3⟩; have HD3 : Hid (Dsk w3 B bm 1 v1) := Lib.hid hd3; have HB3 := Lib.hid (HB2.out.trans (hch3.below HB2.out.size HBs.out.1 HBs.out.2)); clear hd3 hch3)
    | (go_at_call 23; refine (code_fuse w3 B bm 1 v1 0 2 HD3.out (by omega)).mono ?_; rintro e w4 ⟨rfl, hd4, hch4⟩; have HD4 : Hid (Dsk w4 B bm 1 v2) := Lib.hid hd4; have HB4 := Lib.hid (HB3.out.trans (hch4.below HB3.out.size HBs.out.1 HBs.out.2)); clear hd4 hch4)
    | (go_at_call 28; (with_reducible refine (HFb.out w4).mono ?_); rintro e w5 ⟨g5, c5, rfl, hc5, ht5, hb5⟩; have HD5 := Lib.hid (HD4.out.below hb5); have HB5 := Lib.hid (HB4.out.trans (hb5.mono HB4.out.size)); have HT5 := Lib.hid ht5; clear ht5 hb5 HFb)
    | (go_at_call 19; (with_reducible refine (HW.out w5 g5 c5 1 v2 (fillT 98) 32 HD5.out ok2 (fillT_len _) hc5 HT5.out (by omega) (by decide) e3).mono ?_); rintro e w6 ⟨rfl, hd6, hch6⟩; have HD6 : Hid (Dsk w6 B bm 2 v3) := Lib.hid hd6; have HB6 := Lib.hid (HB5.out.trans (hch6.below HB5.out.size HBs.out.1 HBs.out.2)); clear hd6 hch6)
    | (go_at_call 50; refine (code_dead w6 B bm 2 v3 HD6.out).mono ?_; rintro e w7 ⟨rfl, rfl⟩; have hdd : v3.dead = true := by decide)
    | (go_at_call 25; refine (code_power w6 B bm 2 v3 HD6.out).mono ?_; rintro e w8 ⟨rfl, hd8, hch8⟩; have HD8 : Hid (Dsk w8 B bm 2 v4) := Lib.hid hd8; have HB8 := Lib.hid (HB6.out.trans (hch8.below HB6.out.size HBs.out.1 HBs.out.2)); clear hd8 hch8)
    | (go_at_call 21; refine (HRd.out w8 HD8.out).mono ?_; rintro e w9 ⟨g9, rfl, ht9, hb9⟩; have HT9 := Lib.hid ht9; have HB9 := Lib.hid (HB8.out.trans (hb9.mono HB8.out.size)); clear ht9 hb9))
  obtain ⟨T9, hT9⟩ : ∃ T9, T9 = 98 :: 98 :: (fillT 97).drop 2 := ⟨_, rfl⟩
  rw [← hT9] at HT9
  have HE9 := Lib.hid hT9
  have hl9 : T9.length = 64 := by rw [hT9]; decide
  have hd9 : ((fillT 97).drop 2).length = 62 := by decide
  clear hT9
  refine wp_region_held_drew (S := fun w' => Txt w' (some ⟨g9, 0, none⟩) T9 ∧ Below w.heap.size w w') (by kernel_rfl) ⟨HT9.out, HB9.out.drew⟩ ?_
  intro hHeld
  (refine takeH (i := 0) (v := ?_) rfl (by kernel_rfl) (by kernel_rfl) (by kernel_rfl) (fun _ _ _ h => h) (Or.inl ⟨by rfl, ?_⟩) (by assumption) ?_; rotate_left; (focus ((intro wS hSw); clear hSw; go_simp; (try with_reducible rfl); done)); (try simp only [Act.put, List.setIfInBounds_toArray, List.set_cons_zero, List.set_cons_succ]))
  (refine takeH (i := 1) (v := ?_) rfl (by kernel_rfl) (by kernel_rfl) (by kernel_rfl) (fun _ _ _ h => h) (Or.inl ⟨by rfl, ?_⟩) (by assumption) ?_; rotate_left; (focus ((intro wS hSw); clear hSw; go_simp; (try with_reducible rfl); done)); (try simp only [Act.put, List.setIfInBounds_toArray, List.set_cons_zero, List.set_cons_succ]))
  (refine takeH (i := 2) (v := ?_) rfl (by kernel_rfl) (by kernel_rfl) (by kernel_rfl) (fun _ _ _ h => h) (Or.inl ⟨by rfl, ?_⟩) (by assumption) ?_; rotate_left; (focus ((intro wS hSw); clear hSw; go_simp; (try with_reducible rfl); done)); (try simp only [Act.put, List.setIfInBounds_toArray, List.set_cons_zero, List.set_cons_succ]))
  (refine takeH (i := 3) (v := ?_) rfl (by kernel_rfl) (by kernel_rfl) (by kernel_rfl) (fun _ _ _ h => h) (Or.inl ⟨by rfl, ?_⟩) (by assumption) ?_; rotate_left; (focus ((intro wS hSw); clear hSw; go_simp; (try with_reducible rfl); done)); (try simp only [Act.put, List.setIfInBounds_toArray, List.set_cons_zero, List.set_cons_succ]))
  (refine takeH (i := 4) (v := ?_) rfl (by kernel_rfl) (by kernel_rfl) (by kernel_rfl) (fun _ _ _ h => h) (Or.inl ⟨by rfl, ?_⟩) (by assumption) ?_; rotate_left; (focus ((intro wS hSw); (have ec := text_run_n wS _ 64 64 T9 hl9 hSw.1 (by simp); clear hSw); go_simp; (try with_reducible rfl); done)); (try simp only [Act.put, List.setIfInBounds_toArray, List.set_cons_zero, List.set_cons_succ]))
  (refine aloneH (i := 5) rfl (by kernel_rfl) (fun K hK => ?_); rw [if_pos (by rfl)]; go_simp; ((refine (code_fill64 97 97 rfl _).mono ?_); (rintro e w10 ⟨g10, c10, rfl, hc10, ht10, hb10⟩); (try go_simp)); have hB10 := hHeld.2.trans (hb10.mono hHeld.2.size); refine hK.out _ _ ⟨hHeld.1.below hb10, hB10⟩ (fun hNew => ?_); clear hK K hHeld; (have hHeld := hNew); clear hNew; (try simp only [Act.put, List.setIfInBounds_toArray, List.set_cons_zero, List.set_cons_succ]))
  refine wpAnyH_imp (S' := fun w' => (Txt w' (some ⟨g9, 0, none⟩) T9 ∧ Below w.heap.size w w') ∧ Txt w' (some ⟨g10, 2, none⟩) ((fillT 97).drop 2)) (fun _ h => h.1) _ _ _ _ ?_
  have hHeld := And.intro hHeld (show Txt w10 (some ⟨g10, 2, none⟩) ((fillT 97).drop 2) from ht10.drop 2)
  have hcI : (64 : Int) ≤ (c10 : Int) := by omega
  have hcN : ¬ c10 = 2 := by omega
  (refine takeH (i := 6) (v := ?_) rfl (by kernel_rfl) (by kernel_rfl) (by kernel_rfl) (fun _ _ _ h => h) (Or.inl ⟨by rfl, ?_⟩) (by assumption) ?_; rotate_left; (focus ((intro wS hSw); clear hSw; go_simp; (try with_reducible rfl); done)); (try simp only [Act.put, List.setIfInBounds_toArray, List.set_cons_zero, List.set_cons_succ]))
  (refine takeH (i := 7) (v := ?_) rfl (by kernel_rfl) (by kernel_rfl) (by kernel_rfl) (fun _ _ _ h => h) (Or.inl ⟨by rfl, ?_⟩) (by assumption) ?_; rotate_left; (focus ((intro wS hSw); (have ec := text_run_n wS _ (c10 - 2) 62 _ hd9 hSw.2 (by simp); clear hSw); go_simp; (try with_reducible rfl); done)); (try simp only [Act.put, List.setIfInBounds_toArray, List.set_cons_zero, List.set_cons_succ]))
  (refine takeH (i := 8) (v := ?_) rfl (by kernel_rfl) (by kernel_rfl) (by kernel_rfl) (fun _ _ _ h => h) (Or.inl ⟨by rfl, ?_⟩) (by assumption) ?_; rotate_left; (focus ((intro wS hSw); clear hSw; go_simp; (try with_reducible rfl); done)); (try simp only [Act.put, List.setIfInBounds_toArray, List.set_cons_zero, List.set_cons_succ]))
  have hs : (({ data := #[98, 98] } : ByteArray) ++ { data := ((fillT 97).drop 2).toArray }) = { data := T9.toArray } := by
    rw [HE9.out]
    exact ByteArray.mk_append_mk [98, 98] _
  rw [hs]
  clear hs
  (refine takeH (i := 9) (v := ?_) rfl (by kernel_rfl) (by kernel_rfl) (by kernel_rfl) (fun _ _ _ h => h) (Or.inl ⟨by rfl, ?_⟩) (by assumption) ?_; rotate_left; (focus ((intro wS hSw); clear hSw; go_simp; (try with_reducible rfl); done)); (try simp only [Act.put, List.setIfInBounds_toArray, List.set_cons_zero, List.set_cons_succ]))
  (refine takeH (i := 10) (v := ?_) rfl (by kernel_rfl) (by kernel_rfl) (by kernel_rfl) (fun _ _ _ h => h) (Or.inl ⟨by rfl, ?_⟩) (by assumption) ?_; rotate_left; (focus ((intro wS hSw); clear hSw; go_simp; (try with_reducible rfl); done)); (try simp only [Act.put, List.setIfInBounds_toArray, List.set_cons_zero, List.set_cons_succ]))
  (refine takeH (i := 11) (v := ?_) rfl (by kernel_rfl) (by kernel_rfl) (by kernel_rfl) (fun _ _ _ h => h) (Or.inl ⟨by rfl, ?_⟩) (by assumption) ?_; rotate_left; (focus ((intro wS hSw); clear hSw; go_simp; (try with_reducible rfl); done)); (try simp only [Act.put, List.setIfInBounds_toArray, List.set_cons_zero]))
  refine wpAnyH_done (by kernel_rfl) ?_ _
  go_wp2
  go_ret
  exact ⟨rfl, hHeld.1.2⟩
end Go.Proofs.Ytglbpbhdhnikbaa
