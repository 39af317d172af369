/- The text of a program of one box. The example. -/
import Derived.Test.YtpapcnogbmjpjaaGreatDoorK39
namespace Go.Proofs.YtpapcnogbmjpjaaGreatDoor
open Go.RowKit
set_option maxRecDepth 100000
set_option linter.unusedSimpArgs false
set_option linter.unusedVariables false
attribute [local go_sem] Oper.semAt_some

def exX : List UInt8 := [49, 32, 45, 32, 50, 32, 45, 32, 51]
/-- the tree of the example, wherever it lies -/
def exT (f1 f2 f3 f4 f5 : Option Addr) (c1 c2 c3 c4 c5 kb kc kb2 kc2 a3 b3 a4 b4 a5 b5 : Nat) : Tr := .mk 5 0 ⟨#[]⟩ f1 0 c1 kb kc [.mk 5 0 ⟨#[]⟩ f2 0 c2 kb2 kc2 [.mk 1 1 ⟨#[]⟩ f3 0 c3 a3 b3 [], .mk 1 2 ⟨#[]⟩ f4 0 c4 a4 b4 []], .mk 1 3 ⟨#[]⟩ f5 0 c5 a5 b5 []]
theorem digits1 : Lib.decDigits 1 = [49] := by unfold Lib.decDigits; rfl
theorem digits2 : Lib.decDigits 2 = [50] := by unfold Lib.decDigits; rfl
theorem digits3 : Lib.decDigits 3 = [51] := by unfold Lib.decDigits; rfl
theorem exT_write (f1 f2 f3 f4 f5 : Option Addr) (c1 c2 c3 c4 c5 kb kc kb2 kc2 a3 b3 a4 b4 a5 b5 : Nat) : WriteC (exT f1 f2 f3 f4 f5 c1 c2 c3 c4 c5 kb kc kb2 kc2 a3 b3 a4 b4 a5 b5) exX := by
  have h1 := write_num 1 (by decide) f3 c3 a3 b3
  have h2 := sign_any (by decide) (by decide) (write_num 2 (by decide) f4 c4 a4 b4)
  have h3 := sign_any (by decide) (by decide) (write_num 3 (by decide) f5 c5 a5 b5)
  rw [digits1] at h1
  rw [digits2] at h2
  rw [digits3] at h3
  exact write_minus (write_minus h1 h2) h3
theorem exT_stand (f1 f2 f3 f4 f5 : Option Addr) (c1 c2 c3 c4 c5 kb kc kb2 kc2 a3 b3 a4 b4 a5 b5 : Nat) : StandT (exT f1 f2 f3 f4 f5 c1 c2 c3 c4 c5 kb kc kb2 kc2 a3 b3 a4 b4 a5 b5) := by
  unfold exT
  unfold StandT
  refine ⟨by simp, fun W => code_stands5 f1 c1 kb kc W, ?_⟩
  unfold StandL
  refine ⟨?_, ?_⟩
  · unfold StandT
    refine ⟨by simp, fun W => code_stands5 f2 c2 kb2 kc2 W, ?_⟩
    unfold StandL StandL StandL
    refine ⟨?_, ?_, trivial⟩
    · unfold StandT StandL
      exact ⟨by simp, fun W => code_stands1f f3 c3 1 (by decide) (by decide) W, trivial⟩
    · unfold StandT StandL
      exact ⟨by simp, fun W => code_stands1f f4 c4 2 (by decide) (by decide) W, trivial⟩
  · unfold StandL StandL
    refine ⟨?_, trivial⟩
    unfold StandT StandL
    exact ⟨by simp, fun W => code_stands1f f5 c5 3 (by decide) (by decide) W, trivial⟩
theorem exT_sz (f1 f2 f3 f4 f5 : Option Addr) (c1 c2 c3 c4 c5 kb kc kb2 kc2 a3 b3 a4 b4 a5 b5 : Nat) : sz (exT f1 f2 f3 f4 f5 c1 c2 c3 c4 c5 kb kc kb2 kc2 a3 b3 a4 b4 a5 b5) = 5 := rfl
theorem exT_dep (f1 f2 f3 f4 f5 : Option Addr) (c1 c2 c3 c4 c5 kb kc kb2 kc2 a3 b3 a4 b4 a5 b5 : Nat) : dep (exT f1 f2 f3 f4 f5 c1 c2 c3 c4 c5 kb kc kb2 kc2 a3 b3 a4 b4 a5 b5) = 3 := rfl
theorem exT_val (f1 f2 f3 f4 f5 : Option Addr) (c1 c2 c3 c4 c5 kb kc kb2 kc2 a3 b3 a4 b4 a5 b5 : Nat) : (exC (exT f1 f2 f3 f4 f5 c1 c2 c3 c4 c5 kb kc kb2 kc2 a3 b3 a4 b4 a5 b5)).toArray = #[.int .i64 5, .int .i64 0, .string ⟨#[]⟩, .slice f1 0 c1, .slice (some ⟨kb, 0, none⟩) 2 kc] := rfl
theorem exT_good (f1 f2 f3 f4 f5 : Option Addr) (c1 c2 c3 c4 c5 kb kc kb2 kc2 a3 b3 a4 b4 a5 b5 : Nat) (w : World) (hA : AtT w (exT f1 f2 f3 f4 f5 c1 c2 c3 c4 c5 kb kc kb2 kc2 a3 b3 a4 b4 a5 b5)) (hN : (bT (exT f1 f2 f3 f4 f5 c1 c2 c3 c4 c5 kb kc kb2 kc2 a3 b3 a4 b4 a5 b5)).Nodup) : Calls Tryz.prog 42 #[.agg #[.int .i64 5, .int .i64 0, .string ⟨#[]⟩, .slice f1 0 c1, .slice (some ⟨kb, 0, none⟩) 2 kc]] w fun e w' => e = .returned (.bool true) ∧ Below w.heap.size w w' := by
  have h1 := exT_stand f1 f2 f3 f4 f5 c1 c2 c3 c4 c5 kb kc kb2 kc2 a3 b3 a4 b4 a5 b5
  have h2 := exT_sz f1 f2 f3 f4 f5 c1 c2 c3 c4 c5 kb kc kb2 kc2 a3 b3 a4 b4 a5 b5
  have h3 := exT_dep f1 f2 f3 f4 f5 c1 c2 c3 c4 c5 kb kc kb2 kc2 a3 b3 a4 b4 a5 b5
  have h4 := exT_val f1 f2 f3 f4 f5 c1 c2 c3 c4 c5 kb kc kb2 kc2 a3 b3 a4 b4 a5 b5
  rw [← h4]
  clear h4
  unfold exT at h1 h2 h3 hA hN ⊢
  exact good_tree w h1 hA hN (by omega) (by omega)
theorem exT_text (f1 f2 f3 f4 f5 : Option Addr) (c1 c2 c3 c4 c5 kb kc kb2 kc2 a3 b3 a4 b4 a5 b5 : Nat) (w : World) (hA : AtT w (exT f1 f2 f3 f4 f5 c1 c2 c3 c4 c5 kb kc kb2 kc2 a3 b3 a4 b4 a5 b5)) (hN : (bT (exT f1 f2 f3 f4 f5 c1 c2 c3 c4 c5 kb kc kb2 kc2 a3 b3 a4 b4 a5 b5)).Nodup) : Calls Tryz.prog 25 #[.agg #[.int .i64 5, .int .i64 0, .string ⟨#[]⟩, .slice f1 0 c1, .slice (some ⟨kb, 0, none⟩) 2 kc]] w fun e w' => e = .returned (.string ⟨exX.toArray⟩) ∧ Below w.heap.size w w' := by
  have h1 := exT_stand f1 f2 f3 f4 f5 c1 c2 c3 c4 c5 kb kc kb2 kc2 a3 b3 a4 b4 a5 b5
  have h0 := exT_write f1 f2 f3 f4 f5 c1 c2 c3 c4 c5 kb kc kb2 kc2 a3 b3 a4 b4 a5 b5
  have h2 := exT_sz f1 f2 f3 f4 f5 c1 c2 c3 c4 c5 kb kc kb2 kc2 a3 b3 a4 b4 a5 b5
  have h3 := exT_dep f1 f2 f3 f4 f5 c1 c2 c3 c4 c5 kb kc kb2 kc2 a3 b3 a4 b4 a5 b5
  have h4 := exT_val f1 f2 f3 f4 f5 c1 c2 c3 c4 c5 kb kc kb2 kc2 a3 b3 a4 b4 a5 b5
  rw [← h4]
  clear h4
  unfold exT at h0 h1 h2 h3 hA hN ⊢
  exact code_Text w h0 h1 hA hN (by omega) (by omega) (by decide)
theorem code_name2 (w : World) : Calls Tryz.prog 44 #[.int .i64 2] w fun e w' => e = .returned (.string ⟨#[98, 111, 120]⟩) ∧ w' = w := by
  go_enter Tryz.func44, Tryz.ntmps44
  go_wp2
  go_ret
  exact ⟨rfl, rfl⟩
set_option maxHeartbeats 2000000 in
theorem code_refText1 (w : World) : Calls Tryz.prog 24 #[.int .i64 1] w fun e w' => e = .returned (.string ⟨#[98, 111, 120, 32, 49]⟩) ∧ Below w.heap.size w w' := by
  have HI := Lib.hid (fun W => Tryz.strconv_Itoa_small 1 (by decide) W)
  rw [digits1] at HI
  have hA1 : ∀ W, (Op.stringOp .add ⟨#[98, 111, 120]⟩ ⟨#[32]⟩).run Tryz.prog W = .ok (.string ⟨#[98, 111, 120, 32]⟩) W := fun W => by rw [run_string_add_sum W _ _ (by decide)]; rfl
  have hA2 : ∀ W, (Op.stringOp .add ⟨#[98, 111, 120, 32]⟩ ⟨#[49]⟩).run Tryz.prog W = .ok (.string ⟨#[98, 111, 120, 32, 49]⟩) W := fun W => by rw [run_string_add_sum W _ _ (by decide)]; rfl
  go_enter Tryz.func24, Tryz.ntmps24
  go_wp2_with (go_at_call 44; refine (code_name2 _).mono ?_; rintro e w2 ⟨rfl, rfl⟩; refine Stop.out ?_)
  unfold Stop
  go_wp2_with (go_at_call 45; refine (HI.out _).mono ?_; rintro e w2 ⟨rfl, rfl⟩; refine Stop.out ?_)
  unfold Stop
  go_wp2
  go_ret
  exact ⟨rfl, Below.refl _ _⟩
set_option maxHeartbeats 4000000 in
theorem code_goodBox1 (f1 f2 f3 f4 f5 : Option Addr) (c1 c2 c3 c4 c5 kb kc kb2 kc2 a3 b3 a4 b4 a5 b5 : Nat) (w : World) (hA : AtT w (exT f1 f2 f3 f4 f5 c1 c2 c3 c4 c5 kb kc kb2 kc2 a3 b3 a4 b4 a5 b5)) (hN : (bT (exT f1 f2 f3 f4 f5 c1 c2 c3 c4 c5 kb kc kb2 kc2 a3 b3 a4 b4 a5 b5)).Nodup) : Calls Tryz.prog 22 #[.agg #[.int .i64 1, .int .i64 5, .int .i64 0, .string ⟨#[]⟩, .slice f1 0 c1, .slice (some ⟨kb, 0, none⟩) 2 kc]] w fun e w' => e = .returned (.bool true) ∧ Below w.heap.size w w' := by
  have hb0 := below_alloc w (.cells #[.int .i64 1, .int .i64 5, .int .i64 0, .string ⟨#[]⟩, .slice f1 0 c1, .slice (some ⟨kb, 0, none⟩) 2 kc] 42)
  have HG : Hid (Calls Tryz.prog 42 #[.agg #[.int .i64 5, .int .i64 0, .string ⟨#[]⟩, .slice f1 0 c1, .slice (some ⟨kb, 0, none⟩) 2 kc]] (w.alloc (.cells #[.int .i64 1, .int .i64 5, .int .i64 0, .string ⟨#[]⟩, .slice f1 0 c1, .slice (some ⟨kb, 0, none⟩) 2 kc] 42)) fun e w' => e = .returned (.bool true) ∧ Below (w.alloc (.cells #[.int .i64 1, .int .i64 5, .int .i64 0, .string ⟨#[]⟩, .slice f1 0 c1, .slice (some ⟨kb, 0, none⟩) 2 kc] 42)).heap.size (w.alloc (.cells #[.int .i64 1, .int .i64 5, .int .i64 0, .string ⟨#[]⟩, .slice f1 0 c1, .slice (some ⟨kb, 0, none⟩) 2 kc] 42)) w') := Lib.hid (exT_good f1 f2 f3 f4 f5 c1 c2 c3 c4 c5 kb kc kb2 kc2 a3 b3 a4 b4 a5 b5 _ (AtT.on _ hA (fun k hk => hb0.block k (AtT.lt _ hA k hk)) hb0.size) hN)
  have H0 := Lib.hid (heap_alloc_new w (.cells #[.int .i64 1, .int .i64 5, .int .i64 0, .string ⟨#[]⟩, .slice f1 0 c1, .slice (some ⟨kb, 0, none⟩) 2 kc] 42))
  have HB0 := Lib.hid hb0
  clear hA hN hb0
  obtain ⟨e0, e1, e2, e3, e4, e5⟩ := row6c H0.out
  go_enter Tryz.func22, Tryz.ntmps22
  go_wp2_with (go_at_call 41; refine (code_isBox_yes 1 (by decide) (by decide) _).mono ?_; rintro e w2 ⟨rfl, rfl⟩; refine Stop.out ?_)
  unfold Stop
  go_wp2_with (go_at_call 42; refine HG.out.mono ?_; rintro e w3 ⟨rfl, hb⟩; refine Stop.out ?_)
  unfold Stop
  have HFin := Lib.hid (below_then HB0.out hb)
  clear hb e0 e1 e2 e3 e4 e5
  go_wp2
  go_ret
  exact ⟨rfl, HFin.out⟩
set_option maxHeartbeats 8000000 in
theorem code_Print1 (f1 f2 f3 f4 f5 : Option Addr) (c1 c2 c3 c4 c5 kb kc kb2 kc2 a3 b3 a4 b4 a5 b5 : Nat) (w : World) (A : Nat) (c : Nat) (hr : RowX w A [(1, (exT f1 f2 f3 f4 f5 c1 c2 c3 c4 c5 kb kc kb2 kc2 a3 b3 a4 b4 a5 b5))]) (hA : AtT w (exT f1 f2 f3 f4 f5 c1 c2 c3 c4 c5 kb kc kb2 kc2 a3 b3 a4 b4 a5 b5)) (hN : (bT (exT f1 f2 f3 f4 f5 c1 c2 c3 c4 c5 kb kc kb2 kc2 a3 b3 a4 b4 a5 b5)).Nodup) : Calls Tryz.prog 12 #[.slice (some ⟨A, 0, none⟩) 1 c] w fun e w' => e = .returned (.string ⟨#[98, 111, 120, 32, 49, 32, 61, 32, 49, 32, 45, 32, 50, 32, 45, 32, 51, 59, 10]⟩) ∧ Below w.heap.size w w' := by
  have hA1 : ∀ W, (Op.stringOp .add ⟨#[98, 111, 120, 32, 49]⟩ ⟨#[32, 61, 32]⟩).run Tryz.prog W = .ok (.string ⟨#[98, 111, 120, 32, 49, 32, 61, 32]⟩) W := fun W => by rw [run_string_add_sum W _ _ (by decide)]; rfl
  have hA2 : ∀ W, (Op.stringOp .add ⟨#[98, 111, 120, 32, 49, 32, 61, 32]⟩ ⟨#[49, 32, 45, 32, 50, 32, 45, 32, 51]⟩).run Tryz.prog W = .ok (.string ⟨#[98, 111, 120, 32, 49, 32, 61, 32, 49, 32, 45, 32, 50, 32, 45, 32, 51]⟩) W := fun W => by rw [run_string_add_sum W _ _ (by decide)]; rfl
  have hA3 : ∀ W, (Op.stringOp .add ⟨#[98, 111, 120, 32, 49, 32, 61, 32, 49, 32, 45, 32, 50, 32, 45, 32, 51]⟩ ⟨#[59, 10]⟩).run Tryz.prog W = .ok (.string ⟨#[98, 111, 120, 32, 49, 32, 61, 32, 49, 32, 45, 32, 50, 32, 45, 32, 51, 59, 10]⟩) W := fun W => by rw [run_string_add_sum W _ _ (by decide)]; rfl
  have HN0 := Lib.hid hN
  have hb0 := below_alloc w (.cells #[.pointer none, .slice none 0 0] 64)
  have HB0 := Lib.hid hb0
  have HD0 : Hid (Bd w.heap.size (w.alloc (.cells #[.pointer none, .slice none 0 0] 64)) w.heap.size []) := Lib.hid (.inl ⟨Nat.le_refl _, .slice none 0 0, heap_alloc_new w _, World.ownsRow_nil _ _ _ _, by simp [Value.ownBlock]⟩)
  have HAt := Lib.hid hA
  have HRx := Lib.hid hr
  clear hr hA hN hb0
  go_enter Tryz.func12, Tryz.ntmps12
  go_wp2
  go_loopw [8] (fun v8 wr => (v8 = .int .i64 0 ∧ Hid (Bd w.heap.size wr w.heap.size [] ∧ Below w.heap.size w wr)) ∨ (v8 = .int .i64 1 ∧ Hid (Bd w.heap.size wr w.heap.size [98, 111, 120, 32, 49, 32, 61, 32, 49, 32, 45, 32, 50, 32, 45, 32, 51, 59, 10] ∧ Below w.heap.size w wr))) (fun v8 _ => 1 - (intOf v8).toNat)
  case atStart => exact .inl ⟨rfl, Lib.hid ⟨HD0.out, HB0.out⟩⟩
  case round =>
    clear HD0 HB0
    rcases hrel with ⟨rfl, HI⟩ | ⟨rfl, HI⟩
    · have HB := Lib.hid HI.out.2
      have HD := Lib.hid HI.out.1
      have HAr : Hid (AtT wr (exT f1 f2 f3 f4 f5 c1 c2 c3 c4 c5 kb kc kb2 kc2 a3 b3 a4 b4 a5 b5)) := Lib.hid (AtT.on _ HAt.out (fun k hk => HB.out.block k (AtT.lt _ HAt.out k hk)) HB.out.size)
      have HC := Lib.hid ((HRx.out.on HB.out).cells 0 (by simp))
      have hxc : bxC (1, (exT f1 f2 f3 f4 f5 c1 c2 c3 c4 c5 kb kc kb2 kc2 a3 b3 a4 b4 a5 b5)) = [.int .i64 1, .int .i64 5, .int .i64 0, .string ⟨#[]⟩, .slice f1 0 c1, .slice (some ⟨kb, 0, none⟩) 2 kc] := rfl
      simp only [List.getElem_cons_zero, Nat.zero_mul, Nat.zero_add] at HC
      rw [hxc] at HC
      have u0 := HC.out 0 _ rfl
      have u1 := HC.out 1 _ rfl
      have u2 := HC.out 2 _ rfl
      have u3 := HC.out 3 _ rfl
      have u4 := HC.out 4 _ rfl
      have u5 := HC.out 5 _ rfl
      have HN := Lib.hid (heap_alloc_new wr (.cells #[.int .i64 0, .int .i64 0, .int .i64 0, .string ⟨#[]⟩, .slice none 0 0, .slice none 0 0] 42))
      have HBF := Lib.hid (box_row wr #[.int .i64 0, .int .i64 0, .int .i64 0, .string ⟨#[]⟩, .slice none 0 0, .slice none 0 0] #[.int .i64 1, .int .i64 5, .int .i64 0, .string ⟨#[]⟩, .slice f1 0 c1, .slice (some ⟨kb, 0, none⟩) 2 kc] 42 rfl)
      clear HI HC hxc HAt HRx
      go_wp2_with ((with_reducible refine wpList_store_row (o := ⟨none, _, _, _, _, _⟩) 42 ?b0 (.tmp 5) (.tmp 11) ?b1 wr.heap.size ?b2 [.int .i64 1, .int .i64 5, .int .i64 0, .string ⟨#[]⟩, .slice f1 0 c1, .slice (some ⟨kb, 0, none⟩) 2 kc] ?b3 ?b4 ?b5 #[.int .i64 0, .int .i64 0, .int .i64 0, .string ⟨#[]⟩, .slice none 0 0, .slice none 0 0] ?b6 42 ?b7 ?_); (case b0 => rfl); (case b1 => rfl); (case b2 => rfl); (case b3 => exact box_info); (case b4 => simp [Value.oneCell']); (case b5 => rfl); (case b6 => rfl); (case b7 => exact HN.out); (try simp only [Act.put]); refine Stop.out ?_)
      unfold Stop
      clear u0 u1 u2 u3 u4 u5 HN
      generalize World.setRow _ _ _ = ws at HBF ⊢
      obtain ⟨g, hg⟩ : ∃ g, g = wr.heap.size := ⟨_, rfl⟩
      have HBs : Hid (Below wr.heap.size wr ws) := Lib.hid HBF.out.1
      have HGr : Hid (ws.heap[g]? = some (.cells #[.int .i64 1, .int .i64 5, .int .i64 0, .string ⟨#[]⟩, .slice f1 0 c1, .slice (some ⟨kb, 0, none⟩) 2 kc] 42 (0, 0))) := Lib.hid (by rw [hg]; exact HBF.out.2)
      rw [← hg]
      clear hg HBF
      have HAs : Hid (AtT ws (exT f1 f2 f3 f4 f5 c1 c2 c3 c4 c5 kb kc kb2 kc2 a3 b3 a4 b4 a5 b5)) := Lib.hid (AtT.on _ HAr.out (fun k hk => HBs.out.block k (AtT.lt _ HAr.out k hk)) HBs.out.size)
      obtain ⟨y0, y1, y2, y3, y4, y5⟩ := row6c HGr.out
      go_wp2_with (go_at_call 22; refine (code_goodBox1 f1 f2 f3 f4 f5 c1 c2 c3 c4 c5 kb kc kb2 kc2 a3 b3 a4 b4 a5 b5 ws HAs.out HN0.out).mono ?_; rintro e w3 ⟨rfl, hb⟩; refine Stop.out ?_)
      unfold Stop
      have HGt := Lib.hid (heap_on hb HGr.out)
      have HDt := Lib.hid ((HD.out.on HBs.out).on hb)
      have HBt := Lib.hid (HB.out.trans ((below_then HBs.out hb).mono HB.out.size))
      have HAt3 : Hid (AtT w3 (exT f1 f2 f3 f4 f5 c1 c2 c3 c4 c5 kb kc kb2 kc2 a3 b3 a4 b4 a5 b5)) := Lib.hid (AtT.on _ HAs.out (fun k hk => hb.block k (AtT.lt _ HAs.out k hk)) hb.size)
      clear hb y0 y1 y2 y3 y4 y5 HGr HAs HBs HD HB HAr
      go_wp2
      refine wp_region_held_drew (S := fun V : World => V.heap[g]? = some (.cells #[.int .i64 1, .int .i64 5, .int .i64 0, .string ⟨#[]⟩, .slice f1 0 c1, .slice (some ⟨kb, 0, none⟩) 2 kc] 42 (0, 0))) (by kernel_rfl) (heap_on (below_drew w3) HGt.out) ?_
      intro hHeld
      have HDd := Lib.hid (HDt.out.on (below_drew w3))
      have HBd := Lib.hid (HBt.out.trans ((below_drew w3).mono HBt.out.size))
      have HAd : Hid (AtT w3.drew (exT f1 f2 f3 f4 f5 c1 c2 c3 c4 c5 kb kc kb2 kc2 a3 b3 a4 b4 a5 b5)) := Lib.hid (AtT.on _ HAt3.out (fun k hk => (below_drew w3).block k (AtT.lt _ HAt3.out k hk)) (below_drew w3).size)
      clear HGt HDt HBt HAt3
      generalize w3.drew = wd at hHeld HDd HBd HAd ⊢
      have HRt := Lib.hid (fun W => code_refText1 W)
      have HTx : Hid (∀ W, Below wd.heap.size wd W → Calls Tryz.prog 25 #[.agg #[.int .i64 5, .int .i64 0, .string ⟨#[]⟩, .slice f1 0 c1, .slice (some ⟨kb, 0, none⟩) 2 kc]] W fun e w' => e = .returned (.string ⟨#[49, 32, 45, 32, 50, 32, 45, 32, 51]⟩) ∧ Below W.heap.size W w') := Lib.hid (fun W hW => exT_text f1 f2 f3 f4 f5 c1 c2 c3 c4 c5 kb kc kb2 kc2 a3 b3 a4 b4 a5 b5 W (AtT.on _ HAd.out (fun k hk => hW.block k (AtT.lt _ HAd.out k hk)) hW.size) HN0.out)
      have HWs := Lib.hid (fun (W : World) (hW : Below wd.heap.size wd W) => code_ws w.heap.size w.heap.size [] ⟨#[98, 111, 120, 32, 49, 32, 61, 32, 49, 32, 45, 32, 50, 32, 45, 32, 51, 59, 10]⟩ W (HDd.out.on hW) (by decide) (Nat.le_trans HBd.out.size hW.size))
      (refine takeH (i := 0) (v := ?_) rfl (by kernel_rfl) (by kernel_rfl) (by kernel_rfl) (fun _ _ _ h => h) (Or.inl ⟨by rfl, ?_⟩) (by assumption) ?_; rotate_left; (focus ((intro wS hSw); (try dsimp only at hSw); obtain ⟨s0, s1, s2, s3, s4, s5⟩ := row6c hSw; go_simp; (try with_reducible rfl); done)); (try simp only [Act.put, List.setIfInBounds_toArray, List.set_cons_zero, List.set_cons_succ]))
      (refine takeH (i := 1) (v := ?_) rfl (by kernel_rfl) (by kernel_rfl) (by kernel_rfl) (fun _ _ _ h => h) (Or.inl ⟨by rfl, ?_⟩) (by assumption) ?_; rotate_left; (focus ((intro wS hSw); (try dsimp only at hSw); obtain ⟨s0, s1, s2, s3, s4, s5⟩ := row6c hSw; go_simp; (try with_reducible rfl); done)); (try simp only [Act.put, List.setIfInBounds_toArray, List.set_cons_zero, List.set_cons_succ]))
      (refine takeH (i := 4) (v := ?_) rfl (by kernel_rfl) (by kernel_rfl) (by kernel_rfl) (fun _ _ _ h => h) (Or.inl ⟨by rfl, ?_⟩) (by assumption) ?_; rotate_left; (focus ((intro wS hSw); (try dsimp only at hSw); obtain ⟨s0, s1, s2, s3, s4, s5⟩ := row6c hSw; go_simp; (try with_reducible rfl); done)); (try simp only [Act.put, List.setIfInBounds_toArray, List.set_cons_zero, List.set_cons_succ]))
      (refine takeH (i := 5) (v := ?_) rfl (by kernel_rfl) (by kernel_rfl) (by kernel_rfl) (fun _ _ _ h => h) (Or.inl ⟨by rfl, ?_⟩) (by assumption) ?_; rotate_left; (focus ((intro wS hSw); (try dsimp only at hSw); obtain ⟨s0, s1, s2, s3, s4, s5⟩ := row6c hSw; go_simp; (try with_reducible rfl); done)); (try simp only [Act.put, List.setIfInBounds_toArray, List.set_cons_zero, List.set_cons_succ]))
      refine aloneH (i := 2) rfl (by kernel_rfl) (fun K hK => ?_)
      rw [if_pos (by rfl)]
      go_simp
      refine (HRt.out wd).mono ?_
      rintro e w1 ⟨rfl, hb⟩
      have HBa := Lib.hid hb
      have HS1 := Lib.hid (heap_on hb hHeld)
      clear hb
      go_simp
      refine hK.out _ _ (HS1.out) (fun hNew => ?_)
      clear hK K hHeld; (have hHeld := hNew); clear hNew; (try simp only [Act.put, List.setIfInBounds_toArray, List.set_cons_zero, List.set_cons_succ])
      (refine takeH (i := 3) (v := ?_) rfl (by kernel_rfl) (by kernel_rfl) (by kernel_rfl) (fun _ _ _ h => h) (Or.inl ⟨by rfl, ?_⟩) (by assumption) ?_; rotate_left; (focus ((intro wS hSw); (try dsimp only at hSw); obtain ⟨s0, s1, s2, s3, s4, s5⟩ := row6c hSw; go_simp; (try with_reducible rfl); done)); (try simp only [Act.put, List.setIfInBounds_toArray, List.set_cons_zero, List.set_cons_succ]))
      refine aloneH (i := 6) rfl (by kernel_rfl) (fun K hK => ?_)
      rw [if_pos (by rfl)]
      go_simp
      refine (HTx.out w1 HBa.out).mono ?_
      rintro e w2 ⟨rfl, hb⟩
      have HBb := Lib.hid (below_then HBa.out hb)
      have HS2 := Lib.hid (heap_on hb hHeld)
      clear hb
      go_simp
      refine hK.out _ _ (HS2.out) (fun hNew => ?_)
      clear hK K hHeld; (have hHeld := hNew); clear hNew; (try simp only [Act.put, List.setIfInBounds_toArray, List.set_cons_zero, List.set_cons_succ])
      (refine takeH (i := 7) (v := ?_) rfl (by kernel_rfl) (by kernel_rfl) (by kernel_rfl) (fun _ _ _ h => h) (Or.inl ⟨by rfl, ?_⟩) (by assumption) ?_; rotate_left; (focus ((intro wS hSw); (try dsimp only at hSw); obtain ⟨s0, s1, s2, s3, s4, s5⟩ := row6c hSw; go_simp; (try with_reducible rfl); done)); (try simp only [Act.put, List.setIfInBounds_toArray, List.set_cons_zero, List.set_cons_succ]))
      (refine takeH (i := 8) (v := ?_) rfl (by kernel_rfl) (by kernel_rfl) (by kernel_rfl) (fun _ _ _ h => h) (Or.inl ⟨by rfl, ?_⟩) (by assumption) ?_; rotate_left; (focus ((intro wS hSw); (try dsimp only at hSw); obtain ⟨s0, s1, s2, s3, s4, s5⟩ := row6c hSw; go_simp; (try with_reducible rfl); done)); (try simp only [Act.put, List.setIfInBounds_toArray, List.set_cons_zero, List.set_cons_succ]))
      refine aloneH (i := 9) rfl (by kernel_rfl) (fun K hK => ?_)
      rw [if_pos (by rfl)]
      go_simp
      refine (HWs.out w2 HBb.out).mono ?_
      rintro e w3 ⟨rfl, h1, h2, h3⟩
      have HDw := Lib.hid (And.intro h1 h2)
      have HS3 := Lib.hid ((HDd.out.on HBb.out).keep h3 hHeld (by decide) (by decide))
      clear h1 h2 h3
      go_simp
      refine hK.out _ _ (HS3.out) (fun hNew => ?_)
      clear hK K hHeld; (have hHeld := hNew); clear hNew; (try simp only [Act.put, List.setIfInBounds_toArray, List.set_cons_zero, List.set_cons_succ])
      refine wpAnyH_done (by kernel_rfl) ?_ _
      clear hHeld
      refine Stop.out ?_
      unfold Stop
      have HFin : Hid (Bd w.heap.size w3 w.heap.size [98, 111, 120, 32, 49, 32, 61, 32, 49, 32, 45, 32, 50, 32, 45, 32, 51, 59, 10] ∧ Below w.heap.size w w3) := Lib.hid ⟨HDw.out.1, (HBd.out.trans (HBb.out.mono HBd.out.size)).trans HDw.out.2⟩
      clear HDw HBb HBa HBd HDd HAd HRt HTx HWs
      go_wp2
      exact ⟨.inr ⟨rfl, HFin⟩, by simp [intOf]⟩
    · have HSt := Lib.hid (Tryz.Builder_String_any w.heap.size w.heap.size _ wr HI.out.1 HI.out.2.size)
      have HB := Lib.hid HI.out.2
      clear HI HAt HRx HN0
      go_wp2_with (go_at_call 26; refine HSt.out.mono ?_; rintro e w6 ⟨rfl, hb⟩; refine Stop.out ?_)
      unfold Stop
      have HFin := Lib.hid (HB.out.trans (hb.mono (Nat.le_refl _)))
      clear hb
      go_wp2
      go_ret
      exact ⟨rfl, HFin.out⟩
end Go.Proofs.YtpapcnogbmjpjaaGreatDoor

namespace Go.Proofs.YtpapcnogbmjpjaaGreatDoor
open Go.RowKit
set_option maxRecDepth 100000
set_option linter.unusedSimpArgs false
set_option linter.unusedVariables false
attribute [local go_sem] Oper.semAt_some

def exS : ByteArray := ⟨#[98, 111, 120, 32, 49, 32, 61, 32, 49, 32, 45, 32, 50, 32, 45, 32, 51, 59]⟩
def exSh : Sh := nodeS 5 [nodeS 5 [leafS 1 1, leafS 1 2], leafS 1 3]
theorem ex_parse : readP programP exS = .ok [(1, exSh)] := by kernel_rfl
theorem FilAt.none {w : World} {fA : Option Addr} {fn fc : Nat} (h : FilAt w fA fn fc []) : fn = 0 := by
  rcases h with ⟨_, _, h, _⟩ | ⟨_, _, _, h, _⟩
  · exact h
  · simpa using h
theorem shows_num {w : World} {t : Tr} {n : Int} (h : Shows w t (leafS 1 n)) : ∃ fA fc kb kc, t = .mk 1 n ⟨#[]⟩ fA 0 fc kb kc [] := by
  obtain ⟨k, m, f, fA, fn, fc, kb, kc, ks⟩ := t
  unfold leafS Shows at h
  obtain ⟨rfl, rfl, rfl, hf, hk⟩ := h
  obtain rfl := hf.none
  cases ks with
  | nil => exact ⟨fA, fc, kb, kc, rfl⟩
  | cons a l => unfold ShowsL at hk; exact hk.elim
theorem shows_two {w : World} {t : Tr} {s1 s2 : Sh} (h : Shows w t (nodeS 5 [s1, s2])) : ∃ fA fc kb kc t1 t2, t = .mk 5 0 ⟨#[]⟩ fA 0 fc kb kc [t1, t2] ∧ Shows w t1 s1 ∧ Shows w t2 s2 := by
  obtain ⟨k, m, f, fA, fn, fc, kb, kc, ks⟩ := t
  unfold nodeS Shows at h
  obtain ⟨rfl, rfl, rfl, hf, hk⟩ := h
  obtain rfl := hf.none
  cases ks with
  | nil => unfold ShowsL at hk; exact hk.elim
  | cons a l =>
    unfold ShowsL at hk
    cases l with
    | nil => have := hk.2; unfold ShowsL at this; exact this.elim
    | cons b l =>
      have h2 := hk.2
      unfold ShowsL at h2
      cases l with
      | cons c l => have := h2.2; unfold ShowsL at this; exact this.elim
      | nil => exact ⟨fA, fc, kb, kc, a, b, rfl, hk.1, h2.1⟩
theorem shows_ex {w : World} {t : Tr} (h : Shows w t exSh) : ∃ (f1 f2 f3 f4 f5 : Option Addr) (c1 c2 c3 c4 c5 kb kc kb2 kc2 a3 b3 a4 b4 a5 b5 : Nat), t = (exT f1 f2 f3 f4 f5 c1 c2 c3 c4 c5 kb kc kb2 kc2 a3 b3 a4 b4 a5 b5) := by
  obtain ⟨f1, c1, kb, kc, t1, t2, rfl, h1, h2⟩ := shows_two h
  obtain ⟨f2, c2, kb2, kc2, t3, t4, rfl, h3, h4⟩ := shows_two h1
  obtain ⟨f3, c3, a3, b3, rfl⟩ := shows_num h3
  obtain ⟨f4, c4, a4, b4, rfl⟩ := shows_num h4
  obtain ⟨f5, c5, a5, b5, rfl⟩ := shows_num h2
  exact ⟨f1, f2, f3, f4, f5, c1, c2, c3, c4, c5, kb, kc, kb2, kc2, a3, b3, a4, b4, a5, b5, rfl⟩
set_option maxHeartbeats 8000000 in
theorem code_lives (w : World) : Calls Tryz.prog 5 #[] w fun e w' => e = .returned (.bool true) ∧ Below w.heap.size w w' := by
  have HP := Lib.hid (code_Parse exS w (by decide))
  rw [ex_parse] at HP
  have he : exS = ⟨#[98, 111, 120, 32, 49, 32, 61, 32, 49, 32, 45, 32, 50, 32, 45, 32, 51, 59]⟩ := rfl
  rw [he] at HP
  clear he
  go_enter Tryz.func5, Tryz.ntmps5
  go_wp2_with (go_at_call 6; refine HP.out.mono ?_; rintro e w2 ⟨v, lt, rfl, ho, hq, hb⟩; refine Stop.out ?_)
  unfold Stop
  obtain ⟨A, c, rfl, hrow⟩ := own_rowx ho
  obtain ⟨tt, rfl⟩ : ∃ tt, lt = [(1, tt)] := by
    have hn := hq.nums
    cases lt with
    | nil => simp at hn
    | cons p q =>
      cases q with
      | nil => simp at hn; exact ⟨p.2, by rw [← hn]⟩
      | cons _ _ => simp at hn
  obtain ⟨bx, rfl, hrx⟩ := hrow (by simp)
  have h1 := hq.trees.at_
  have h2 := hq.trees.nd
  have h4 := hq.trees.sh
  simp only [List.map_cons, List.map_nil] at h1 h2 h4
  unfold AtL at h1
  unfold ShowsL at h4
  simp only [bL, List.append_nil] at h2
  obtain ⟨f1, f2, f3, f4, f5, c1, c2, c3, c4, c5, kb, kc, kb2, kc2, a3, b3, a4, b4, a5, b5, rfl⟩ := shows_ex h4.1
  have HPr := Lib.hid (code_Print1 f1 f2 f3 f4 f5 c1 c2 c3 c4 c5 kb kc kb2 kc2 a3 b3 a4 b4 a5 b5 w2 bx c hrx h1.1 h2)
  have HB := Lib.hid hb
  have hA := h1.1
  unfold exT AtT at hA
  have hr2 := (hA.2 (by simp)).1
  have HC := Lib.hid (hrx.cells 0 (by simp))
  have HC2 := Lib.hid (hr2.cells5 1 (by simp))
  have hxc : bxC (1, (exT f1 f2 f3 f4 f5 c1 c2 c3 c4 c5 kb kc kb2 kc2 a3 b3 a4 b4 a5 b5)) = [.int .i64 1, .int .i64 5, .int .i64 0, .string ⟨#[]⟩, .slice f1 0 c1, .slice (some ⟨kb, 0, none⟩) 2 kc] := rfl
  simp only [List.getElem_cons_zero, Nat.zero_mul, Nat.zero_add] at HC
  rw [hxc] at HC
  have u1 := HC.out 1 _ rfl
  have u5 := HC.out 5 _ rfl
  have y1 := HC2.out 1 _ rfl
  have hstr : ((⟨#[98, 111, 120, 32, 49, 32, 61, 32, 49, 32, 45, 32, 50, 32, 45, 32, 51, 59, 10]⟩ : ByteArray).toList == (⟨#[98, 111, 120, 32, 49, 32, 61, 32, 49, 32, 45, 32, 50, 32, 45, 32, 51, 59, 10]⟩ : ByteArray).toList) = true := by simp
  clear ho hq hb hrow hrx h1 h2 h4 hA hr2 HC HC2 HP hxc
  simp only [List.length_cons, List.length_nil, Nat.zero_add]
  go_wp2_with (go_at_call 12; refine HPr.out.mono ?_; rintro e w3 ⟨rfl, hb⟩; refine Stop.out ?_)
  unfold Stop
  have HFin := Lib.hid (HB.out.trans (hb.mono HB.out.size))
  clear hb u1 u5 y1
  go_wp2
  go_ret
  exact ⟨rfl, HFin.out⟩
end Go.Proofs.YtpapcnogbmjpjaaGreatDoor
