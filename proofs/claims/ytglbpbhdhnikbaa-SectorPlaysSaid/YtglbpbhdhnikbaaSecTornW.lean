/- The statement on a torn write, walked. -/
import Derived.Test.YtglbpbhdhnikbaaSecTornD
namespace Go.Proofs.Ytglbpbhdhnikbaa
open Go.RowKit
attribute [local go_sem] Oper.semAt_some
set_option maxRecDepth 100000

/-- behind the boxes, and the disk's own blocks -/
def Stand (w : World) (i torn X Y : Int) (W : World) (n : Nat) (d : DiskV) : Prop :=
  Dsk W (w.heap.size + 6) (w.heap.size + 5) n d ∧ Below (w.heap.size + 5) (boxes5 w i torn X Y) W
theorem Stand.below {w W W' : World} {i torn X Y : Int} {n : Nat} {d : DiskV} (h : Stand w i torn X Y W n d) (hb : Below W.heap.size W W') : Stand w i torn X Y W' n d :=
  ⟨h.1.below hb, h.2.trans (hb.mono (by have := h.2.size; rw [boxes5_size] at this; exact this))⟩
theorem Stand.chg {w W W' : World} {i torn X Y : Int} {n n' : Nat} {d d' : DiskV} (h : Stand w i torn X Y W n d) (hd : Dsk W' (w.heap.size + 6) (w.heap.size + 5) n' d') (hc : ChgD W W' (w.heap.size + 6) (w.heap.size + 5)) : Stand w i torn X Y W' n' d' :=
  ⟨hd, h.2.trans (hc.below (by have := h.2.size; rw [boxes5_size] at this; exact this) (by omega) (by omega))⟩
theorem Stand.box {w W : World} {i torn X Y : Int} {n : Nat} {d : DiskV} (h : Stand w i torn X Y W n d) :
    W.cell? ⟨w.heap.size, 0, none⟩ = some (.int .i64 i) ∧ W.cell? ⟨w.heap.size + 1, 0, none⟩ = some (.int .i64 torn) ∧ W.cell? ⟨w.heap.size + 1 + 1, 0, none⟩ = some (.int .u8 X) ∧ W.cell? ⟨w.heap.size + 1 + 1 + 1, 0, none⟩ = some (.int .u8 Y) ∧
    W.cell? ⟨w.heap.size + 1 + 1 + 1 + 1, 0, none⟩ = some (.bool false) ∧ W.frozen? ⟨w.heap.size + 1 + 1 + 1 + 1, 0, none⟩ = false := by
  obtain ⟨x0, x1, x2, x3, x4⟩ := box5 h.2
  exact ⟨(one_cell x0).1, (one_cell x1).1, (one_cell x2).1, (one_cell x3).1, (one_cell x4).1, (one_cell x4).2⟩
/-- what the statement's variables hold -/
def Boxed4 (w : World) (i torn X Y : Int) (W : World) : Prop := W.cell? ⟨w.heap.size, 0, none⟩ = some (.int .i64 i) ∧ W.cell? ⟨w.heap.size + 1, 0, none⟩ = some (.int .i64 torn) ∧ W.cell? ⟨w.heap.size + 1 + 1, 0, none⟩ = some (.int .u8 X) ∧ W.cell? ⟨w.heap.size + 1 + 1 + 1, 0, none⟩ = some (.int .u8 Y)
theorem others_below {A C : World} (h : Below A.heap.size A C) : KeepsOthers A C := ⟨h.size, fun k _ hk _ => (h.block k (heapLt hk)).trans hk⟩
theorem boxes_boxed {w W : World} {i torn X Y : Int} (h : Below (w.heap.size + 5) (boxes5 w i torn X Y) W) : Boxed4 w i torn X Y W := by
  obtain ⟨x0, x1, x2, x3, _⟩ := box5 h
  exact ⟨(one_cell x0).1, (one_cell x1).1, (one_cell x2).1, (one_cell x3).1⟩
theorem Stand.boxed {w W : World} {i torn X Y : Int} {n : Nat} {d : DiskV} (h : Stand w i torn X Y W n d) : Boxed4 w i torn X Y W := ⟨h.box.1, h.box.2.1, h.box.2.2.1, h.box.2.2.2.1⟩
/-- a write, stood by -/
theorem stand_write {w W : World} {i torn X Y : Int} {n : Nat} {d : DiskV} (h : Stand w i torn X Y W n d) (k : Nat) (g c : Nat) (T : Text) (v : Int) (d' : DiskV) (hn : n < 1000) (ho : OkD d) (hT : T.length = 64) (hc : 64 ≤ c) (ht : Txt W (some ⟨g, 0, none⟩) T) (hw : d.writes < 1000)
    (hE : writeE d k T = v) (hD : writeD d k T = d') :
    Calls Try.prog 19 #[.pointer (some ⟨w.heap.size + 6, 0, none⟩), .int .i64 k, .slice (some ⟨g, 0, none⟩) 64 c] W fun e W' => e = .returned (.int .i64 v) ∧ Stand w i torn X Y W' (n + 1) d' := by
  have := code_write W (w.heap.size + 6) (w.heap.size + 5) n d k h.1 (by unfold maxLen; omega) ho (some ⟨g, 0, none⟩) c T (by omega) ht (by omega)
  rw [hT] at this
  refine this.mono fun e W' ⟨h1, h2, h3⟩ => ⟨by rw [h1, hE], ?_⟩
  rw [← hD]
  exact h.chg h2 h3

theorem sum_byte (a : UInt8) (k : Nat) : ((a.toNat : Int) + (k : Int)) % 256 = ((a + UInt8.ofNat k).toNat : Int) := by
  rw [UInt8.toNat_add, UInt8.toNat_ofNat']
  omega
theorem eql_func_step (t : TypeId) (f : Fn) (x c : Array Value) (W : World) : (binOp .eql t (.func f x c) .nilFunc).run Try.prog W = ((Op.equalIn 10000 t (.func f x c) .nilFunc).run Try.prog W).andThen fun b w' => .ok (.bool b) w' := by
  simp only [binOp]
  simp [Op.equal, Op.maxDepth]
theorem eql_func_in (f : Fn) (x c : Array Value) (W : World) (n : Nat) : (Op.equalIn (n + 1) 61 (.func f x c) .nilFunc).run Try.prog W = .ok false W := by
  have hu : Try.prog.underlying 61 = some (.func #[87] #[] false) := by kernel_rfl
  rw [Op.equalIn]
  simp only [Sem.run_bind, run_underlying hu, Result.andThen_ok]
  rfl
theorem eql_func_nil (f : Fn) (x c : Array Value) (W : World) : (binOp .eql 61 (.func f x c) .nilFunc).run Try.prog W = .ok (.bool false) W := by
  rw [eql_func_step, eql_func_in f x c W 9999]
  rfl
theorem wrap8 (z : Int) : IntKind.u8.wrap z = z % 256 := by
  simp [IntKind.wrap, IntKind.signed, IntKind.bits]
set_option maxHeartbeats 1500000 in
theorem torn_in (m i af t : Nat) (a b : UInt8) (w : World) (h1 : 1 ≤ m) (h2 : m ≤ 40) (h3 : i < m) (h4 : af ≤ 40) (h5 : t ≤ 64) :
    Calls Try.prog 5 #[.int .i64 m, .int .i64 i, .int .i64 af, .int .i64 t, .int .u8 a.toNat, .int .u8 b.toNat] w fun e w' => e = .returned (.bool true) ∧ Below w.heap.size w w' := by
  obtain ⟨X, hX⟩ : ∃ X : Int, X = (a.toNat : Int) := ⟨_, rfl⟩
  obtain ⟨Y, hY⟩ : ∃ Y : Int, Y = (b.toNat : Int) := ⟨_, rfl⟩
  rw [← hX, ← hY]
  have HX := Lib.hid hX
  have HY := Lib.hid hY
  have HN : Hid (Calls Try.prog 17 #[.int .i64 m] (boxes5 w i t X Y) fun e W => e = .returned (.pointer (some ⟨w.heap.size + 6, 0, none⟩)) ∧ Stand w i t X Y W 0 (dA a m 0)) := Lib.hid (by
    have := code_dnew (boxes5 w i t X Y) m (by omega) (by omega)
    rw [boxes5_size, Int.toNat_natCast, ← dA_zero a] at this
    exact this)
  have HFk : Hid (∀ (k : Nat) W, Calls Try.prog 28 #[.int .u8 ((X + (k : Int)) % 256)] W (Told64 W (fillT (a + UInt8.ofNat k)))) := Lib.hid (fun k W => code_fill64 _ _ (by rw [hX]; exact sum_byte a k) W)
  have HFw : Hid (∀ W, Calls Try.prog 28 #[.int .u8 (IntKind.u8.wrap (X + IntKind.u8.wrap (i : Int)))] W (Told64 W (fillT (a + UInt8.ofNat i)))) := Lib.hid (fun W => code_fill64 _ _ (by rw [hX, wrap8, wrap8, ← sum_byte a i]; omega) W)
  have HFb : Hid (∀ W, Calls Try.prog 28 #[.int .u8 Y] W (Told64 W (fillT b))) := Lib.hid (fun W => code_fill64 _ _ hY W)
  clear hX hY
  have i1 : (1 : Int) ≤ (m : Int) := by omega
  have i2 : (m : Int) ≤ 40 := by omega
  have i3 : (i : Int) < (m : Int) := by omega
  have i4 : (af : Int) ≤ 40 := by omega
  have i5 : (t : Int) ≤ 64 := by omega
  refine callsIn_wide.1 (callsIn_of_wp_marks (n := 0) (F := Fence.wide) Try.func5 rfl trivial (wpIn_wide.2 ?_) rfl)
  simp only [Try.ntmps5, List.size_toArray, List.length_cons, List.length_nil, Nat.reduceAdd, Nat.reduceSub, Array.replicate_succ, Array.replicate_zero, List.push_toArray, List.append_toArray, List.nil_append, List.cons_append]
  go_wp2_with (go_at_call 17; refine HN.out.mono ?_; rintro e w1 ⟨rfl, hs1⟩; have HS1 := Lib.hid hs1; clear hs1)
  go_loopw [14, 58] (fun x v wr => ∃ k : Nat, k ≤ m ∧ v = .int .i64 k ∧ Hid (Stand w i t X Y wr k (dA a m k))) (fun _ v _ => m - (intOf v).toNat)
  case atStart => exact ⟨0, by omega, rfl, HS1⟩
  case round =>
    obtain ⟨k, hk, rfl, HS⟩ := hrel
    by_cases hlt : k < m
    · have hlt' : (k : Int) < (m : Int) := by omega
      obtain ⟨b0, b1, b2, b3, b4, b5⟩ := HS.out.box
      go_wp2_with (first
        | (go_at_call 28; refine (HFk.out k wr).mono ?_; rintro e w2 ⟨g2, c2, rfl, hc2, ht2, hb2⟩; have HS2 := Lib.hid (HS.out.below hb2); have HT2 := Lib.hid ht2; clear ht2 hb2)
        | (go_at_call 19; refine (stand_write HS2.out k g2 c2 _ 0 (dA a m (k + 1)) (by omega) (dA_ok _ _ _) (fillT_len _) hc2 HT2.out (by simp [dA]; omega) (dA_step a m k hlt).1 (dA_step a m k hlt).2).mono ?_; rintro e w3 ⟨rfl, hs3⟩; have HS3 := Lib.hid hs3; clear hs3))
      go_roundw
      case rel => exact ⟨k + 1, by omega, by go_num, HS3⟩
      case measure => simp [intOf]; omega
    · obtain rfl : k = m := by omega
      have HF : Hid (∀ W n d, Stand w i t X Y W n d → Calls Try.prog 23 #[.pointer (some ⟨w.heap.size + 6, 0, none⟩), .int .i64 af, .int .i64 t] W fun e W' => e = .returned (.int .i64 0) ∧ Stand w i t X Y W' n { d with set := true, after := (af : Int), torn := (t : Int) }) :=
        Lib.hid (fun W n d h => (code_fuse W _ _ n d af t h.1 (by omega)).mono fun e W' ⟨x1, x2, x3⟩ => ⟨x1, h.chg x2 x3⟩)
      obtain ⟨b0, b1, b2, b3, b4, b5⟩ := HS.out.box
      go_wp2_with (first
        | (go_at_call 23; refine (HF.out wr _ _ HS.out).mono ?_; rintro e w4 ⟨rfl, hs4⟩; rw [← dB_zero] at hs4; have HS4 := Lib.hid hs4; clear hs4))
      clear b0 b1 b2 b3 b4 b5
      go_loopw [77] (fun v wr => ∃ c : Nat, c ≤ af ∧ v = .int .i64 c ∧ Hid (Stand w i t X Y wr (k + c) (dB a k af t c))) (fun v _ => af - (intOf v).toNat)
      case atStart => exact ⟨0, by omega, rfl, HS4⟩
      case round =>
        obtain ⟨c, hc, rfl, HSc⟩ := hrel
        by_cases hlc : c < af
        · have hlc' : (c : Int) < (af : Int) := by omega
          obtain ⟨b0, b1, b2, b3, b4, b5⟩ := HSc.out.box
          go_wp2
          clear b0 b1 b2 b3 b4 b5
          refine wp_region_noPanic (wp_region_held_drew (S := Boxed4 w i t X Y) (by kernel_rfl) (HSc.out.below (Below.refl _ _).drew).boxed ?_)
          intro hHeld
          (refine takeH (i := 0) (v := ?_) rfl (by kernel_rfl) (by kernel_rfl) (by kernel_rfl) (fun _ _ _ h => h) (Or.inl ⟨by rfl, ?_⟩) (by assumption) ?_; rotate_left; (focus ((intro wS hSw); (try dsimp only at hSw); obtain ⟨s0, s1, s2, s3⟩ := hSw; go_simp; (try with_reducible rfl); done)); (try simp only [Act.put, List.setIfInBounds_toArray, List.set_cons_zero, List.set_cons_succ]))
          (refine takeH (i := 1) (v := ?_) rfl (by kernel_rfl) (by kernel_rfl) (by kernel_rfl) (fun _ _ _ h => h) (Or.inl ⟨by rfl, ?_⟩) (by assumption) ?_; rotate_left; (focus ((intro wS hSw); (try dsimp only at hSw); obtain ⟨s0, s1, s2, s3⟩ := hSw; go_simp; (try with_reducible rfl); done)); (try simp only [Act.put, List.setIfInBounds_toArray, List.set_cons_zero, List.set_cons_succ]))
          (refine takeH (i := 2) (v := ?_) rfl (by kernel_rfl) (by kernel_rfl) (by kernel_rfl) (fun _ _ _ h => h) (Or.inl ⟨by rfl, ?_⟩) (by assumption) ?_; rotate_left; (focus ((intro wS hSw); (try dsimp only at hSw); obtain ⟨s0, s1, s2, s3⟩ := hSw; go_simp; (try with_reducible rfl); done)); (try simp only [Act.put, List.setIfInBounds_toArray, List.set_cons_zero, List.set_cons_succ]))
          (refine takeH (i := 3) (v := ?_) rfl (by kernel_rfl) (by kernel_rfl) (by kernel_rfl) (fun _ _ _ h => h) (Or.inl ⟨by rfl, ?_⟩) (by assumption) ?_; rotate_left; (focus ((intro wS hSw); (try dsimp only at hSw); obtain ⟨s0, s1, s2, s3⟩ := hSw; go_simp; (try with_reducible rfl); done)); (try simp only [Act.put, List.setIfInBounds_toArray, List.set_cons_zero, List.set_cons_succ]))
          (refine takeH (i := 4) (v := ?_) rfl (by kernel_rfl) (by kernel_rfl) (by kernel_rfl) (fun _ _ _ h => h) (Or.inl ⟨by rfl, ?_⟩) (by assumption) ?_; rotate_left; (focus ((intro wS hSw); (try dsimp only at hSw); obtain ⟨s0, s1, s2, s3⟩ := hSw; go_simp; (try with_reducible rfl); done)); (try simp only [Act.put, List.setIfInBounds_toArray, List.set_cons_zero, List.set_cons_succ]))
          (refine takeH (i := 5) (v := ?_) rfl (by kernel_rfl) (by kernel_rfl) (by kernel_rfl) (fun _ _ _ h => h) (Or.inl ⟨by rfl, ?_⟩) (by assumption) ?_; rotate_left; (focus ((intro wS hSw); (try dsimp only at hSw); obtain ⟨s0, s1, s2, s3⟩ := hSw; go_simp; (try with_reducible rfl); done)); (try simp only [Act.put, List.setIfInBounds_toArray, List.set_cons_zero, List.set_cons_succ]))
          (refine aloneH (i := 6) rfl (by kernel_rfl) (fun K hK => ?_); rw [if_pos (by rfl)]; go_simp; ((refine (HFw.out _).mono ?_); (rintro e w5 ⟨g5, c5, rfl, hc5, ht5, hb5⟩); have HS5 := Lib.hid ((HSc.out.below (Below.refl _ _).drew).below hb5); (try go_simp)); refine hK.out _ _ (HS5.out).boxed (fun hNew => ?_); clear hK K hHeld; (have hHeld := hNew); clear hNew; (try simp only [Act.put, List.setIfInBounds_toArray, List.set_cons_zero, List.set_cons_succ]))
          (refine aloneH (i := 7) rfl (by kernel_rfl) (fun K hK => ?_); rw [if_pos (by rfl)]; go_simp; ((refine (stand_write HS5.out i g5 c5 _ 0 (dB a k af t (c + 1)) (by omega) (dB_ok _ _ _ _ _ (by omega) h4 h5) (fillT_len _) hc5 ht5 (by simp [dB]; omega) (dB_step a k af t c i h3 hlc).1 (dB_step a k af t c i h3 hlc).2).mono ?_); (rintro e w6 ⟨rfl, hs6⟩); have HS6 := Lib.hid hs6; clear hs6; (try go_simp)); refine hK.out _ _ (HS6.out).boxed (fun hNew => ?_); clear hK K hHeld; (have hHeld := hNew); clear hNew; (try simp only [Act.put, List.setIfInBounds_toArray, List.set_cons_zero, List.set_cons_succ]))
          (refine takeH (i := 8) (v := ?_) rfl (by kernel_rfl) (by kernel_rfl) (by kernel_rfl) (fun _ _ _ h => h) (Or.inl ⟨by rfl, ?_⟩) (by assumption) ?_; rotate_left; (focus ((intro wS hSw); (try dsimp only at hSw); obtain ⟨s0, s1, s2, s3⟩ := hSw; go_simp; (try with_reducible rfl); done)); (try simp only [Act.put, List.setIfInBounds_toArray, List.set_cons_zero, List.set_cons_succ]))
          refine wpAnyH_done (by kernel_rfl) (NoPanic.normal ?_) _
          clear hHeld
          go_wp2
          go_roundw
          case rel => exact ⟨c + 1, by omega, by go_num, HS6⟩
          case measure => simp [intOf]; omega
        · obtain rfl : c = af := by omega
          obtain ⟨b0, b1, b2, b3, b4, b5⟩ := HSc.out.box
          have HWr : Hid (∀ W n, Stand w i t X Y W n (dC a b k c t i) → Calls Try.prog 30 #[.pointer (some ⟨w.heap.size + 6, 0, none⟩)] W fun e W' => e = .returned (.int .i64 ((k : Int) + c)) ∧ W = W') := Lib.hid (fun W n h => by
            have := code_writes W _ _ n _ h.1
            rw [(dC_is a b k c t i h3 h5).2] at this
            exact this)
          have HRd : Hid (∀ W n, Stand w i t X Y W n (dC a b k c t i) → Calls Try.prog 21 #[.pointer (some ⟨w.heap.size + 6, 0, none⟩), .int .i64 i] W fun e W' => e = .returned (.tuple #[.slice none 0 0, .int .i64 32]) ∧ W = W') := Lib.hid (fun W n h => by
            refine (code_read W _ _ n _ i h.1).mono fun e W' h => ?_
            have hr := (dC_dead a b k c t i h3 h5 []).1
            rcases h with ⟨_, h1, h2⟩ | ⟨h0, _⟩
            · exact ⟨by rw [h1, hr], h2⟩
            · omega)
          have hfn := eql_func_nil
          have hkc : (k : Int) + (c : Int) ≤ 80 := by omega
          have hwk : IntKind.i64.wrap ((k : Int) + (c : Int)) = (k : Int) + c := by
            simp [IntKind.wrap, IntKind.signed, IntKind.bits]
            omega
          have hwk2 : wrap64 ((k : Int) + (c : Int)) = (k : Int) + c := (by unfold wrap64; omega)
          go_wp2
          clear b0 b1 b2 b3 b4 b5
          refine wp_region_noPanic (wp_region_held_drew (S := Boxed4 w i t X Y) (by kernel_rfl) (HSc.out.below (Below.refl _ _).drew).boxed ?_)
          intro hHeld
          (refine takeH (i := 0) (v := ?_) rfl (by kernel_rfl) (by kernel_rfl) (by kernel_rfl) (fun _ _ _ h => h) (Or.inl ⟨by rfl, ?_⟩) (by assumption) ?_; rotate_left; (focus ((intro wS hSw); (try dsimp only at hSw); obtain ⟨s0, s1, s2, s3⟩ := hSw; go_simp; (try with_reducible rfl); done)); (try simp only [Act.put, List.setIfInBounds_toArray, List.set_cons_zero, List.set_cons_succ]))
          (refine takeH (i := 1) (v := ?_) rfl (by kernel_rfl) (by kernel_rfl) (by kernel_rfl) (fun _ _ _ h => h) (Or.inl ⟨by rfl, ?_⟩) (by assumption) ?_; rotate_left; (focus ((intro wS hSw); (try dsimp only at hSw); obtain ⟨s0, s1, s2, s3⟩ := hSw; go_simp; (try with_reducible rfl); done)); (try simp only [Act.put, List.setIfInBounds_toArray, List.set_cons_zero, List.set_cons_succ]))
          (refine takeH (i := 2) (v := ?_) rfl (by kernel_rfl) (by kernel_rfl) (by kernel_rfl) (fun _ _ _ h => h) (Or.inl ⟨by rfl, ?_⟩) (by assumption) ?_; rotate_left; (focus ((intro wS hSw); (try dsimp only at hSw); obtain ⟨s0, s1, s2, s3⟩ := hSw; go_simp; (try with_reducible rfl); done)); (try simp only [Act.put, List.setIfInBounds_toArray, List.set_cons_zero, List.set_cons_succ]))
          (refine aloneH (i := 3) rfl (by kernel_rfl) (fun K hK => ?_); rw [if_pos (by rfl)]; go_simp; ((refine (HFb.out _).mono ?_); (rintro e w5 ⟨g5, c5, rfl, hc5, ht5, hb5⟩); have HS5 := Lib.hid ((HSc.out.below (Below.refl _ _).drew).below hb5); (try go_simp)); refine hK.out _ _ (HS5.out).boxed (fun hNew => ?_); clear hK K hHeld; (have hHeld := hNew); clear hNew; (try simp only [Act.put, List.setIfInBounds_toArray, List.set_cons_zero, List.set_cons_succ]))
          (refine aloneH (i := 4) rfl (by kernel_rfl) (fun K hK => ?_); rw [if_pos (by rfl)]; go_simp; ((refine (stand_write HS5.out i g5 c5 _ 32 (dC a b k c t i) (by omega) (dB_ok _ _ _ _ _ (Nat.le_refl _) h4 h5) (fillT_len _) hc5 ht5 (by simp [dB]; omega) (dC_is a b k c t i h3 h5).1 rfl).mono ?_); (rintro e w6 ⟨rfl, hs6⟩); have HS6 := Lib.hid hs6; clear hs6; (try go_simp)); refine hK.out _ _ (HS6.out).boxed (fun hNew => ?_); clear hK K hHeld; (have hHeld := hNew); clear hNew; (try simp only [Act.put, List.setIfInBounds_toArray, List.set_cons_zero, List.set_cons_succ]))
          (refine takeH (i := 5) (v := ?_) rfl (by kernel_rfl) (by kernel_rfl) (by kernel_rfl) (fun _ _ _ h => h) (Or.inl ⟨by rfl, ?_⟩) (by assumption) ?_; rotate_left; (focus ((intro wS hSw); (try dsimp only at hSw); obtain ⟨s0, s1, s2, s3⟩ := hSw; go_simp; (try with_reducible rfl); done)); (try simp only [Act.put, List.setIfInBounds_toArray, List.set_cons_zero, List.set_cons_succ]))
          (refine takeH (i := 6) (v := ?_) rfl (by kernel_rfl) (by kernel_rfl) (by kernel_rfl) (fun _ _ _ h => h) (Or.inl ⟨by rfl, ?_⟩) (by assumption) ?_; rotate_left; (focus ((intro wS hSw); (try dsimp only at hSw); obtain ⟨s0, s1, s2, s3⟩ := hSw; go_simp; (try with_reducible rfl); done)); (try simp only [Act.put, List.setIfInBounds_toArray, List.set_cons_zero, List.set_cons_succ]))
          (refine takeH (i := 7) (v := ?_) rfl (by kernel_rfl) (by kernel_rfl) (by kernel_rfl) (fun _ _ _ h => h) (Or.inl ⟨by rfl, ?_⟩) (by assumption) ?_; rotate_left; (focus ((intro wS hSw); (try dsimp only at hSw); obtain ⟨s0, s1, s2, s3⟩ := hSw; go_simp; (try with_reducible rfl); done)); (try simp only [Act.put, List.setIfInBounds_toArray, List.set_cons_zero, List.set_cons_succ]))
          (refine takeH (i := 8) (v := ?_) rfl (by kernel_rfl) (by kernel_rfl) (by kernel_rfl) (fun _ _ _ h => h) (Or.inl ⟨by rfl, ?_⟩) (by assumption) ?_; rotate_left; (focus ((intro wS hSw); (try dsimp only at hSw); obtain ⟨s0, s1, s2, s3⟩ := hSw; go_simp; (try with_reducible rfl); done)); (try simp only [Act.put, List.setIfInBounds_toArray, List.set_cons_zero, List.set_cons_succ]))
          (refine takeH (i := 9) (v := ?_) rfl (by kernel_rfl) (by kernel_rfl) (by kernel_rfl) (fun _ _ _ h => h) (Or.inl ⟨by rfl, ?_⟩) (by assumption) ?_; rotate_left; (focus ((intro wS hSw); (try dsimp only at hSw); obtain ⟨s0, s1, s2, s3⟩ := hSw; go_simp; (try with_reducible rfl); done)); (try simp only [Act.put, List.setIfInBounds_toArray, List.set_cons_zero, List.set_cons_succ]))
          (refine aloneH (i := 10) rfl (by kernel_rfl) (fun K hK => ?_); rw [if_pos (by rfl)]; go_simp; ((refine (HFb.out _).mono ?_); (rintro e w7 ⟨g7, c7, rfl, hc7, ht7, hb7⟩); have HS7 := Lib.hid (HS6.out.below hb7); (try go_simp)); refine hK.out _ _ (HS7.out).boxed (fun hNew => ?_); clear hK K hHeld; (have hHeld := hNew); clear hNew; (try simp only [Act.put, List.setIfInBounds_toArray, List.set_cons_zero, List.set_cons_succ]))
          (refine aloneH (i := 11) rfl (by kernel_rfl) (fun K hK => ?_); rw [if_pos (by rfl)]; go_simp; ((refine (stand_write HS7.out i g7 c7 _ 32 (dC a b k c t i) (by omega) (dC_ok a b k c t i h3 h5) (fillT_len _) hc7 ht7 (by rw [(dC_is a b k c t i h3 h5).2]; simp; omega) (dC_dead a b k c t i h3 h5 _).2.1 (dC_dead a b k c t i h3 h5 _).2.2).mono ?_); (rintro e w8 ⟨rfl, hs8⟩); have HS8 := Lib.hid hs8; clear hs8; (try go_simp)); refine hK.out _ _ (HS8.out).boxed (fun hNew => ?_); clear hK K hHeld; (have hHeld := hNew); clear hNew; (try simp only [Act.put, List.setIfInBounds_toArray, List.set_cons_zero, List.set_cons_succ]))
          (refine takeH (i := 12) (v := ?_) rfl (by kernel_rfl) (by kernel_rfl) (by kernel_rfl) (fun _ _ _ h => h) (Or.inl ⟨by rfl, ?_⟩) (by assumption) ?_; rotate_left; (focus ((intro wS hSw); (try dsimp only at hSw); obtain ⟨s0, s1, s2, s3⟩ := hSw; go_simp; (try with_reducible rfl); done)); (try simp only [Act.put, List.setIfInBounds_toArray, List.set_cons_zero, List.set_cons_succ]))
          (refine takeH (i := 13) (v := ?_) rfl (by kernel_rfl) (by kernel_rfl) (by kernel_rfl) (fun _ _ _ h => h) (Or.inl ⟨by rfl, ?_⟩) (by assumption) ?_; rotate_left; (focus ((intro wS hSw); (try dsimp only at hSw); obtain ⟨s0, s1, s2, s3⟩ := hSw; go_simp; (try with_reducible rfl); done)); (try simp only [Act.put, List.setIfInBounds_toArray, List.set_cons_zero, List.set_cons_succ]))
          (refine takeH (i := 14) (v := ?_) rfl (by kernel_rfl) (by kernel_rfl) (by kernel_rfl) (fun _ _ _ h => h) (Or.inl ⟨by rfl, ?_⟩) (by assumption) ?_; rotate_left; (focus ((intro wS hSw); (try dsimp only at hSw); obtain ⟨s0, s1, s2, s3⟩ := hSw; go_simp; (try with_reducible rfl); done)); (try simp only [Act.put, List.setIfInBounds_toArray, List.set_cons_zero, List.set_cons_succ]))
          (refine takeH (i := 15) (v := ?_) rfl (by kernel_rfl) (by kernel_rfl) (by kernel_rfl) (fun _ _ _ h => h) (Or.inl ⟨by rfl, ?_⟩) (by assumption) ?_; rotate_left; (focus ((intro wS hSw); (try dsimp only at hSw); obtain ⟨s0, s1, s2, s3⟩ := hSw; go_simp; (try with_reducible rfl); done)); (try simp only [Act.put, List.setIfInBounds_toArray, List.set_cons_zero, List.set_cons_succ]))
          (refine takeH (i := 17) (v := ?_) rfl (by kernel_rfl) (by kernel_rfl) (by kernel_rfl) (fun _ _ _ h => h) (Or.inl ⟨by rfl, ?_⟩) (by assumption) ?_; rotate_left; (focus ((intro wS hSw); (try dsimp only at hSw); obtain ⟨s0, s1, s2, s3⟩ := hSw; go_simp; (try with_reducible rfl); done)); (try simp only [Act.put, List.setIfInBounds_toArray, List.set_cons_zero, List.set_cons_succ]))
          (refine takeH (i := 18) (v := ?_) rfl (by kernel_rfl) (by kernel_rfl) (by kernel_rfl) (fun _ _ _ h => h) (Or.inl ⟨by rfl, ?_⟩) (by assumption) ?_; rotate_left; (focus ((intro wS hSw); (try dsimp only at hSw); obtain ⟨s0, s1, s2, s3⟩ := hSw; go_simp; (try with_reducible rfl); done)); (try simp only [Act.put, List.setIfInBounds_toArray, List.set_cons_zero, List.set_cons_succ]))
          (refine takeH (i := 19) (v := ?_) rfl (by kernel_rfl) (by kernel_rfl) (by kernel_rfl) (fun _ _ _ h => h) (Or.inl ⟨by rfl, ?_⟩) (by assumption) ?_; rotate_left; (focus ((intro wS hSw); (try dsimp only at hSw); obtain ⟨s0, s1, s2, s3⟩ := hSw; go_simp; (try with_reducible rfl); done)); (try simp only [Act.put, List.setIfInBounds_toArray, List.set_cons_zero, List.set_cons_succ]))
          (refine aloneH (i := 16) rfl (by kernel_rfl) (fun K hK => ?_); rw [if_pos (by rfl)]; go_simp; ((refine (HWr.out _ _ HS8.out).mono ?_); (rintro e w9 ⟨rfl, rfl⟩); (try go_simp)); refine hK.out _ _ (HS8.out).boxed (fun hNew => ?_); clear hK K hHeld; (have hHeld := hNew); clear hNew; (try simp only [Act.put, List.setIfInBounds_toArray, List.set_cons_zero, List.set_cons_succ]))
          (refine takeH (i := 20) (v := ?_) rfl (by kernel_rfl) (by kernel_rfl) (by kernel_rfl) (fun _ _ _ h => h) (Or.inl ⟨by rfl, ?_⟩) (by assumption) ?_; rotate_left; (focus ((intro wS hSw); (try dsimp only at hSw); obtain ⟨s0, s1, s2, s3⟩ := hSw; go_simp; (try with_reducible rfl); done)); (try simp only [Act.put, List.setIfInBounds_toArray, List.set_cons_zero, List.set_cons_succ]))
          (refine takeH (i := 21) (v := ?_) rfl (by kernel_rfl) (by kernel_rfl) (by kernel_rfl) (fun _ _ _ h => h) (Or.inl ⟨by rfl, ?_⟩) (by assumption) ?_; rotate_left; (focus ((intro wS hSw); (try dsimp only at hSw); obtain ⟨s0, s1, s2, s3⟩ := hSw; go_simp; (try with_reducible rfl); done)); (try simp only [Act.put, List.setIfInBounds_toArray, List.set_cons_zero, List.set_cons_succ]))
          refine wpAnyH_done (by kernel_rfl) (NoPanic.normal ?_) _
          clear hHeld
          obtain ⟨b0, b1, b2, b3, b4, b5⟩ := HS8.out.box
          go_wp2_with (first
            | (go_at_call 21; refine (HRd.out _ _ HS8.out).mono ?_; rintro e w10 ⟨rfl, rfl⟩)
            | (go_at_call 31; refine (code_all _ _).mono ?_; rintro e w11 ⟨rfl, rfl⟩))
          have hsz8 : w.heap.size + 7 ≤ w8.heap.size := HS8.out.1.lt
          have hd8 : Below w8.heap.size w8 (w8.alloc (.cells #[.pointer (some ⟨w.heap.size + 6, 0, none⟩)] 34)) := (Below.refl _ w8).alloc (Nat.le_refl _) _
          have HS9 := Lib.hid (HS8.out.below hd8)
          have hbx := heap_alloc_new w8 (.cells #[.pointer (some ⟨w.heap.size + 6, 0, none⟩)] 34)
          have HA := Lib.hid (all_told _ w8.heap.size _ _ _ _ HS9.out.1 hbx)
          have hsz9 : (w8.alloc (.cells #[.pointer (some ⟨w.heap.size + 6, 0, none⟩)] 34)).heap.size = w8.heap.size + 1 := by simp
          clear hbx hd8
          generalize w8.alloc (.cells #[.pointer (some ⟨w.heap.size + 6, 0, none⟩)] 34) = W9 at *
          refine wp_rangeTold (gf := 56) (lb := #[.pointer (some ⟨w8.heap.size, 0, none⟩)]) rfl (enters_of Try.func56 (by kernel_rfl) rfl) HA.out (fun h k => h.trans k) (fun A B h => ⟨fun _ => h.block _ (by omega), fun _ => h.block _ (by omega), fun _ => h.block _ (by omega), h.size⟩) (fun _ => rfl)
            (fun _ W => Below (w.heap.size + 5) (boxes5 w i t X Y) W) (fun _ _ _ => False) (fun _ A B h hb => h.trans (hb.mono (by omega))) (fun _ _ _ _ h _ => h) HS9.out.2 ?round ?done ?stop
          case stop =>
            rintro D cc pre W _ _ h _
            exact h.elim
          case done =>
            intro D xs W hD _ hI hK
            have hDlt := heapLt hK
            have HL : Hid (Calls Try.prog 16 #[] W fun e W' => e = .returned (.bool true) ∧ (W'.heap[D]? = some (.deferred (some [])) ∧ Below (w.heap.size + 5) (boxes5 w i t X Y) W')) := Lib.hid ((sec_lives W).mono fun e W' ⟨q1, q2⟩ => ⟨q1, (q2.block D hDlt).trans hK, hI.trans (q2.mono (by have := hI.size; rw [boxes5_size] at this; exact this))⟩)
            have hD5 : w.heap.size + 5 ≤ D := by omega
            clear hI hK
            go_wp2_with (go_at_call 16; refine HL.out.mono ?_; rintro e w13 ⟨rfl, hk13, hb13⟩; obtain ⟨_, _, _, _, x4⟩ := box5 hb13; obtain ⟨y4, z4⟩ := one_cell x4; have HB13 := Lib.hid hb13; have HX13 := Lib.hid x4; have HK13 := Lib.hid hk13; clear hb13 x4 hk13)
            have hkk : (w13.setCell ⟨w.heap.size + 1 + 1 + 1 + 1, 0, none⟩ (.bool true)).heap[D]? = some (.deferred (some [])) := by rw [heap_setCell_other _ _ _ _ (by simp; omega)]; exact HK13.out
            refine ⟨by simp, .inl ⟨_, _, rfl, run_takeDeferred hkk, ?_⟩⟩
            refine ⟨.bool true, results_one_cell rfl _ _ _ true rfl (by kernel_rfl) ?_, rfl, ?_⟩
            · rw [World.cell?_of_block (World.putObj_heap_other (by simp; omega))]
              exact World.cell?_setCell_same' _ _ _ (by rw [y4]; rfl)
            · exact (((boxes5_below w i t X Y).trans (HB13.out.mono (by omega))).setCell (p := ⟨w.heap.size + 1 + 1 + 1 + 1, 0, none⟩) (by simp <;> omega) _).trans (put_below _ _ (by omega))
          case round =>
            intro l r pre x W hl hr hI hx
            obtain ⟨j, g⟩ := x
            obtain ⟨hjx, hj, hxt⟩ := hx
            clear hjx
            have hj' : j < k := by rw [(dC_is a b k c t i h3 h5).2] at hj; exact hj
            dsimp only at hxt hj
            have HI := Lib.hid hI
            have HR := Lib.hid hr
            have HXT := Lib.hid hxt
            clear hI hr hxt
            dsimp only [encA]
            gi_wp2
            refine ⟨Below.refl _ _, fun Wb hB => ?_⟩
            have hIb := HI.out.trans (hB.below (b := w.heap.size + 5) (by omega))
            obtain ⟨x0, x1, x2, x3, x4⟩ := box5 hIb
            obtain ⟨b0, _⟩ := one_cell x0
            obtain ⟨b1, _⟩ := one_cell x1
            obtain ⟨b2, _⟩ := one_cell x2
            obtain ⟨b3, _⟩ := one_cell x3
            have HIb := Lib.hid hIb
            have HTb := Lib.hid (HXT.out.beg HR.out hB)
            clear x0 x1 x2 x3 x4 hIb hB HI HR HXT
            obtain ⟨T, hT⟩ : ∃ T, T = fillT (a + UInt8.ofNat j) := ⟨_, rfl⟩
            have hTl : T.length = 64 := by rw [hT, fillT_len]
            have HFj : Hid (Calls Try.prog 28 #[.int .u8 ((X + (j : Int)) % 256)] Wb (Told64 Wb T)) := Lib.hid (by rw [hT]; exact HFk.out j Wb)
            by_cases hji : j = i
            · subst hji
              have hS : (dC a b k c t j).S j = (fillT b).take t ++ T.drop t := by rw [(dC_is a b k c t j h3 h5).2, hT]; simp [tornT]
              rw [hS] at HTb
              clear hT hS
              gi_wp2_with (refine ⟨trivial, ?_⟩; gi_at_call 28; refine (CallsIn.inRound l (callsIn_wide.2 HFj.out)).mono ?_; rintro e w20 ⟨g20, c20, rfl, hc20, ht20, hb20⟩; have ec := text_run_n w20 _ c20 64 T hTl ht20 (by simp); have hi20 := HIb.out.trans (hb20.mono (by have := HIb.out.size; rw [boxes5_size] at this; exact this)); obtain ⟨y0, y1, y2, y3⟩ := boxes_boxed hi20; have HB20 := Lib.hid hb20; have HI20 := Lib.hid hi20; have ed := text_run_n w20 _ 64 64 ((fillT b).take t ++ T.drop t) (by rw [List.length_append, List.length_take, List.length_drop, fillT_len, hTl]; omega) (HTb.out.below hb20) (by simp); clear ht20 hb20 hi20)
              have hszT : (ByteArray.mk T.toArray).size = 64 := hTl
              have htl : ((fillT b).take t).length = t := by rw [List.length_take, fillT_len]; omega
              refine region_in_round (S := fun W => Below (w.heap.size + 5) (boxes5 w j t X Y) W ∧ Below Wb.heap.size Wb W) (by kernel_rfl) (by kernel_rfl) ⟨HI20.out.drew, HB20.out.drew⟩ ?_
              intro hHeld
              clear ec ed y0 y1 y2 y3 b0 b1 b2 b3
              (refine takeH (i := 0) (v := ?_) rfl (by kernel_rfl) (by kernel_rfl) (by kernel_rfl) (fun _ _ _ h => h) (Or.inl ⟨by rfl, ?_⟩) (by assumption) ?_; rotate_left; (focus ((intro wS hSw); obtain ⟨s0, s1, s2, s3⟩ := boxes_boxed hSw.1; clear hSw; go_simp; (try with_reducible rfl); done)); (try simp only [Act.put, List.setIfInBounds_toArray, List.set_cons_zero, List.set_cons_succ]))
              (refine takeH (i := 2) (v := ?_) rfl (by kernel_rfl) (by kernel_rfl) (by kernel_rfl) (fun _ _ _ h => h) (Or.inl ⟨by rfl, ?_⟩) (by assumption) ?_; rotate_left; (focus ((intro wS hSw); obtain ⟨s0, s1, s2, s3⟩ := boxes_boxed hSw.1; clear hSw; go_simp; (try with_reducible rfl); done)); (try simp only [Act.put, List.setIfInBounds_toArray, List.set_cons_zero, List.set_cons_succ]))
              (refine takeH (i := 5) (v := ?_) rfl (by kernel_rfl) (by kernel_rfl) (by kernel_rfl) (fun _ _ _ h => h) (Or.inl ⟨by rfl, ?_⟩) (by assumption) ?_; rotate_left; (focus ((intro wS hSw); obtain ⟨s0, s1, s2, s3⟩ := boxes_boxed hSw.1; clear hSw; go_simp; (try with_reducible rfl); done)); (try simp only [Act.put, List.setIfInBounds_toArray, List.set_cons_zero, List.set_cons_succ]))
              (refine takeH (i := 6) (v := ?_) rfl (by kernel_rfl) (by kernel_rfl) (by kernel_rfl) (fun _ _ _ h => h) (Or.inl ⟨by rfl, ?_⟩) (by assumption) ?_; rotate_left; (focus ((intro wS hSw); obtain ⟨s0, s1, s2, s3⟩ := boxes_boxed hSw.1; clear hSw; go_simp; (try with_reducible rfl); done)); (try simp only [Act.put, List.setIfInBounds_toArray, List.set_cons_zero, List.set_cons_succ]))
              (refine takeH (i := 7) (v := ?_) rfl (by kernel_rfl) (by kernel_rfl) (by kernel_rfl) (fun _ _ _ h => h) (Or.inl ⟨by rfl, ?_⟩) (by assumption) ?_; rotate_left; (focus ((intro wS hSw); obtain ⟨s0, s1, s2, s3⟩ := boxes_boxed hSw.1; clear hSw; go_simp; (try with_reducible rfl); done)); (try simp only [Act.put, List.setIfInBounds_toArray, List.set_cons_zero, List.set_cons_succ]))
              (refine aloneH (i := 1) rfl (by kernel_rfl) (fun K hK => ?_); rw [if_pos (by rfl)]; go_simp; ((refine (HFb.out _).mono ?_); (rintro e w21 ⟨g21, c21, rfl, hc21, ht21, hb21⟩); (try go_simp)); have hS21 : Below (w.heap.size + 5) (boxes5 w j t X Y) w21 ∧ Below Wb.heap.size Wb w21 := ⟨hHeld.1.trans (hb21.mono (by have := hHeld.1.size; rw [boxes5_size] at this; exact this)), hHeld.2.trans (hb21.mono hHeld.2.size)⟩; refine hK.out _ _ hS21 (fun hNew => ?_); clear hK K hHeld; (have hHeld := hNew); clear hNew; (try simp only [Act.put, List.setIfInBounds_toArray, List.set_cons_zero, List.set_cons_succ]))
              refine wpAnyH_imp (S' := fun W => (Below (w.heap.size + 5) (boxes5 w j t X Y) W ∧ Below Wb.heap.size Wb W) ∧ Txt W (some ⟨g21, 0, none⟩) ((fillT b).take t)) (fun _ h => h.1) _ _ _ _ ?_
              have hHeld := And.intro hHeld (ht21.take t)
              have hct : (t : Int) ≤ (c21 : Int) := by omega
              (refine takeH (i := 3) (v := ?_) rfl (by kernel_rfl) (by kernel_rfl) (by kernel_rfl) (fun _ _ _ h => h) (Or.inl ⟨by rfl, ?_⟩) (by assumption) ?_; rotate_left; (focus ((intro wS hSw); clear hSw; go_simp; (try with_reducible rfl); done)); (try simp only [Act.put, List.setIfInBounds_toArray, List.set_cons_zero, List.set_cons_succ]))
              (refine takeH (i := 4) (v := ?_) rfl (by kernel_rfl) (by kernel_rfl) (by kernel_rfl) (fun _ _ _ h => h) (Or.inl ⟨by rfl, ?_⟩) (by assumption) ?_; rotate_left; (focus ((intro wS hSw); (have ef := text_run_n wS _ c21 t _ htl hSw.2 (by simp); clear hSw); go_simp; (try with_reducible rfl); done)); (try simp only [Act.put, List.setIfInBounds_toArray, List.set_cons_zero, List.set_cons_succ]))
              have hx1 : (ByteArray.mk T.toArray).extract t 64 = ByteArray.mk (T.drop t).toArray := by
                rw [ByteArray.extract_mk]
                congr 1
                congr 1
                exact List.take_of_length_le (by rw [List.length_drop]; omega)
              rw [hx1]
              clear hx1
              (refine takeH (i := 8) (v := ?_) rfl (by kernel_rfl) (by kernel_rfl) (by kernel_rfl) (fun _ _ _ h => h) (Or.inl ⟨by rfl, ?_⟩) (by assumption) ?_; rotate_left; (focus ((intro wS hSw); clear hSw; go_simp; (try with_reducible rfl); done)); (try simp only [Act.put, List.setIfInBounds_toArray, List.set_cons_zero, List.set_cons_succ]))
              rw [ByteArray.mk_append_mk]
              (refine takeH (i := 9) (v := ?_) rfl (by kernel_rfl) (by kernel_rfl) (by kernel_rfl) (fun _ _ _ h => h) (Or.inl ⟨by rfl, ?_⟩) (by assumption) ?_; rotate_left; (focus ((intro wS hSw); clear hSw; go_simp; (try with_reducible rfl); done)); (try simp only [Act.put, List.setIfInBounds_toArray, List.set_cons_zero, List.set_cons_succ]))
              refine wpAnyH_done (by kernel_rfl) (only_normal ?_) _
              have ed2 := text_run_n w21 _ 64 64 ((fillT b).take t ++ T.drop t) (by rw [List.length_append, List.length_take, List.length_drop, fillT_len, hTl]; omega) (HTb.out.below hHeld.1.2) (by simp)
              have HH := Lib.hid hHeld
              clear hHeld ht21 hb21 hS21
              gi_wp2
              exact ⟨others_below HH.out.1.2, kp_below HH.out.1.2, HH.out.1.1⟩
            · have hji' : ((j : Int) == (i : Int)) = false := by simp; omega
              have hS : (dC a b k c t i).S j = T := by rw [(dC_is a b k c t i h3 h5).2, hT]; simp [hji, hj']
              rw [hS] at HTb
              clear hT hS
              gi_wp2_with (refine ⟨trivial, ?_⟩; gi_at_call 28; refine (CallsIn.inRound l (callsIn_wide.2 HFj.out)).mono ?_; rintro e w20 ⟨g20, c20, rfl, hc20, ht20, hb20⟩; have ec := text_run_n w20 _ c20 64 T hTl ht20 (by simp); have hi20 := HIb.out.trans (hb20.mono (by have := HIb.out.size; rw [boxes5_size] at this; exact this)); obtain ⟨y0, y1, y2, y3⟩ := boxes_boxed hi20; have HB20 := Lib.hid hb20; have HI20 := Lib.hid hi20; have ed := text_run_n w20 _ 64 64 T hTl (HTb.out.below hb20) (by simp); clear ht20 hb20 hi20)
              exact ⟨others_below HB20.out, kp_below HB20.out, HI20.out⟩
end Go.Proofs.Ytglbpbhdhnikbaa
