/- Trees that may be. The text of a tree. -/
import Derived.Test.YtpapcnogbmjpjaaGreatDoorK38
namespace Go.Proofs.YtpapcnogbmjpjaaGreatDoor
open Go.RowKit
set_option maxRecDepth 100000
set_option linter.unusedSimpArgs false
set_option linter.unusedVariables false
attribute [local go_sem] Oper.semAt_some

theorem code_kidsOf5q (w : World) : Calls Tryz.prog 92 #[.int .i64 5] w fun e w' => e = .returned (.int .i64 2) ∧ w = w' := by
  go_enter Tryz.func92, Tryz.ntmps92
  go_wp2
  go_ret
  exact ⟨rfl, rfl⟩
theorem code_goodN5 (w : World) : Calls Tryz.prog 96 #[.int .i64 5, .int .i64 0] w fun e w' => e = .returned (.bool true) ∧ w' = w := by
  go_enter Tryz.func96, Tryz.ntmps96
  go_wp2
  go_ret
  exact ⟨rfl, rfl⟩
set_option maxHeartbeats 2000000 in
theorem code_stands5 (fA : Option Addr) (fc kb kc : Nat) (w : World) : Calls Tryz.prog 67 #[.agg #[.int .i64 5, .int .i64 0, .string ⟨#[]⟩, .slice fA 0 fc, .slice (some ⟨kb, 0, none⟩) 2 kc]] w fun e w' => e = .returned (.bool true) ∧ Below w.heap.size w w' := by
  have HG := Lib.hid code_goodN5
  have H0 := Lib.hid (heap_alloc_new w (.cells #[.int .i64 5, .int .i64 0, .string ⟨#[]⟩, .slice fA 0 fc, .slice (some ⟨kb, 0, none⟩) 2 kc] 32))
  have HW0 := Lib.hid (below_alloc w (.cells #[.int .i64 5, .int .i64 0, .string ⟨#[]⟩, .slice fA 0 fc, .slice (some ⟨kb, 0, none⟩) 2 kc] 32))
  go_enter Tryz.func67, Tryz.ntmps67
  go_wp2
  generalize w.alloc (.cells #[.int .i64 5, .int .i64 0, .string ⟨#[]⟩, .slice fA 0 fc, .slice (some ⟨kb, 0, none⟩) 2 kc] 32) = w1 at H0 HW0 ⊢
  obtain ⟨g, hg⟩ : ∃ g, g = w.heap.size := ⟨_, rfl⟩
  have HGs := Lib.hid hg
  rw [← hg] at H0 ⊢
  clear hg
  refine wp_region_held_drew (S := fun V : World => V.heap[g]? = some (.cells #[.int .i64 5, .int .i64 0, .string ⟨#[]⟩, .slice fA 0 fc, .slice (some ⟨kb, 0, none⟩) 2 kc] 32 (0, 0))) (by kernel_rfl) (heap_on (below_drew w1) H0.out) ?_
  intro hHeld
  have HW := Lib.hid (below_then HW0.out (below_drew w1))
  clear H0 HW0
  generalize w1.drew = wd at hHeld HW ⊢
  (refine takeH (i := 0) (v := ?_) rfl (by kernel_rfl) (by kernel_rfl) (by kernel_rfl) (fun _ _ _ h => h) (Or.inl ⟨by rfl, ?_⟩) (by assumption) ?_; rotate_left; (focus ((intro wS hSw); (try dsimp only at hSw); obtain ⟨s0, s1, s2, s3, s4⟩ := row5c hSw; go_simp; (try with_reducible rfl); done)); (try simp only [Act.put, List.setIfInBounds_toArray, List.set_cons_zero, List.set_cons_succ]))
  (refine takeH (i := 1) (v := ?_) rfl (by kernel_rfl) (by kernel_rfl) (by kernel_rfl) (fun _ _ _ h => h) (Or.inl ⟨by rfl, ?_⟩) (by assumption) ?_; rotate_left; (focus ((intro wS hSw); (try dsimp only at hSw); obtain ⟨s0, s1, s2, s3, s4⟩ := row5c hSw; go_simp; (try with_reducible rfl); done)); (try simp only [Act.put, List.setIfInBounds_toArray, List.set_cons_zero, List.set_cons_succ]))
  (refine takeH (i := 2) (v := ?_) rfl (by kernel_rfl) (by kernel_rfl) (by kernel_rfl) (fun _ _ _ h => h) (Or.inl ⟨by rfl, ?_⟩) (by assumption) ?_; rotate_left; (focus ((intro wS hSw); (try dsimp only at hSw); obtain ⟨s0, s1, s2, s3, s4⟩ := row5c hSw; go_simp; (try with_reducible rfl); done)); (try simp only [Act.put, List.setIfInBounds_toArray, List.set_cons_zero, List.set_cons_succ]))
  (refine takeH (i := 3) (v := ?_) rfl (by kernel_rfl) (by kernel_rfl) (by kernel_rfl) (fun _ _ _ h => h) (Or.inl ⟨by rfl, ?_⟩) (by assumption) ?_; rotate_left; (focus ((intro wS hSw); (try dsimp only at hSw); obtain ⟨s0, s1, s2, s3, s4⟩ := row5c hSw; go_simp; (try with_reducible rfl); done)); (try simp only [Act.put, List.setIfInBounds_toArray, List.set_cons_zero, List.set_cons_succ]))
  (refine takeH (i := 4) (v := ?_) rfl (by kernel_rfl) (by kernel_rfl) (by kernel_rfl) (fun _ _ _ h => h) (Or.inl ⟨by rfl, ?_⟩) (by assumption) ?_; rotate_left; (focus ((intro wS hSw); (try dsimp only at hSw); obtain ⟨s0, s1, s2, s3, s4⟩ := row5c hSw; go_simp; (try with_reducible rfl); done)); (try simp only [Act.put, List.setIfInBounds_toArray, List.set_cons_zero, List.set_cons_succ]))
  refine aloneH (i := 5) rfl (by kernel_rfl) (fun K hK => ?_)
  rw [if_pos (by rfl)]
  go_simp; ((refine (code_kidsOf5q wd).mono ?_); (rintro e w1 ⟨rfl, rfl⟩); (try go_simp))
  have HB1 : Hid (Below wd.heap.size wd wd) := Lib.hid (Below.refl _ _)
  refine hK.out _ _ (hHeld) (fun hNew => ?_)
  clear hK K hHeld; (have hHeld := hNew); clear hNew; (try simp only [Act.put, List.setIfInBounds_toArray, List.set_cons_zero, List.set_cons_succ])
  (refine takeH (i := 6) (v := ?_) rfl (by kernel_rfl) (by kernel_rfl) (by kernel_rfl) (fun _ _ _ h => h) (Or.inl ⟨by rfl, ?_⟩) (by assumption) ?_; rotate_left; (focus ((intro wS hSw); (try dsimp only at hSw); obtain ⟨s0, s1, s2, s3, s4⟩ := row5c hSw; go_simp; (try with_reducible rfl); done)); (try simp only [Act.put, List.setIfInBounds_toArray, List.set_cons_zero, List.set_cons_succ]))
  (refine takeH (i := 7) (v := ?_) rfl (by kernel_rfl) (by kernel_rfl) (by kernel_rfl) (fun _ _ _ h => h) (Or.inl ⟨by rfl, ?_⟩) (by assumption) ?_; rotate_left; (focus ((intro wS hSw); (try dsimp only at hSw); obtain ⟨s0, s1, s2, s3, s4⟩ := row5c hSw; go_simp; (try with_reducible rfl); done)); (try simp only [Act.put, List.setIfInBounds_toArray, List.set_cons_zero, List.set_cons_succ]))
  refine wpAnyH_done (by kernel_rfl) ?_ _
  clear HB1
  obtain ⟨s0, s1, s2, s3, s4⟩ := row5c hHeld
  clear hHeld
  have hem : ((⟨#[]⟩ : ByteArray).toList == (⟨#[]⟩ : ByteArray).toList) = true := by simp
  go_wp2_with (go_at_call 96; refine (HG.out _).mono ?_; rintro e w2 ⟨rfl, rfl⟩; refine Stop.out ?_)
  unfold Stop
  clear HG
  go_wp2
  go_ret
  exact ⟨rfl, HW.out⟩
set_option maxHeartbeats 2000000 in
theorem code_stands1f (fA : Option Addr) (fc : Nat) (n : Int) (h1 : 0 ≤ n) (h2 : n ≤ 999999999999999999) (w : World) : Calls Tryz.prog 67 #[.agg #[.int .i64 1, .int .i64 n, .string ⟨#[]⟩, .slice fA 0 fc, .slice none 0 0]] w fun e w' => e = .returned (.bool true) ∧ Below w.heap.size w w' := by
  have HG := Lib.hid (code_goodN1 n h1 h2)
  clear h1 h2
  have H0 := Lib.hid (heap_alloc_new w (.cells #[.int .i64 1, .int .i64 n, .string ⟨#[]⟩, .slice fA 0 fc, .slice none 0 0] 32))
  have HW0 := Lib.hid (below_alloc w (.cells #[.int .i64 1, .int .i64 n, .string ⟨#[]⟩, .slice fA 0 fc, .slice none 0 0] 32))
  go_enter Tryz.func67, Tryz.ntmps67
  go_wp2
  generalize w.alloc (.cells #[.int .i64 1, .int .i64 n, .string ⟨#[]⟩, .slice fA 0 fc, .slice none 0 0] 32) = w1 at H0 HW0 ⊢
  obtain ⟨g, hg⟩ : ∃ g, g = w.heap.size := ⟨_, rfl⟩
  have HGs := Lib.hid hg
  rw [← hg] at H0 ⊢
  clear hg
  refine wp_region_held_drew (S := fun V : World => V.heap[g]? = some (.cells #[.int .i64 1, .int .i64 n, .string ⟨#[]⟩, .slice fA 0 fc, .slice none 0 0] 32 (0, 0))) (by kernel_rfl) (heap_on (below_drew w1) H0.out) ?_
  intro hHeld
  have HW := Lib.hid (below_then HW0.out (below_drew w1))
  clear H0 HW0
  generalize w1.drew = wd at hHeld HW ⊢
  (refine takeH (i := 0) (v := ?_) rfl (by kernel_rfl) (by kernel_rfl) (by kernel_rfl) (fun _ _ _ h => h) (Or.inl ⟨by rfl, ?_⟩) (by assumption) ?_; rotate_left; (focus ((intro wS hSw); (try dsimp only at hSw); obtain ⟨s0, s1, s2, s3, s4⟩ := row5c hSw; go_simp; (try with_reducible rfl); done)); (try simp only [Act.put, List.setIfInBounds_toArray, List.set_cons_zero, List.set_cons_succ]))
  (refine takeH (i := 1) (v := ?_) rfl (by kernel_rfl) (by kernel_rfl) (by kernel_rfl) (fun _ _ _ h => h) (Or.inl ⟨by rfl, ?_⟩) (by assumption) ?_; rotate_left; (focus ((intro wS hSw); (try dsimp only at hSw); obtain ⟨s0, s1, s2, s3, s4⟩ := row5c hSw; go_simp; (try with_reducible rfl); done)); (try simp only [Act.put, List.setIfInBounds_toArray, List.set_cons_zero, List.set_cons_succ]))
  (refine takeH (i := 2) (v := ?_) rfl (by kernel_rfl) (by kernel_rfl) (by kernel_rfl) (fun _ _ _ h => h) (Or.inl ⟨by rfl, ?_⟩) (by assumption) ?_; rotate_left; (focus ((intro wS hSw); (try dsimp only at hSw); obtain ⟨s0, s1, s2, s3, s4⟩ := row5c hSw; go_simp; (try with_reducible rfl); done)); (try simp only [Act.put, List.setIfInBounds_toArray, List.set_cons_zero, List.set_cons_succ]))
  (refine takeH (i := 3) (v := ?_) rfl (by kernel_rfl) (by kernel_rfl) (by kernel_rfl) (fun _ _ _ h => h) (Or.inl ⟨by rfl, ?_⟩) (by assumption) ?_; rotate_left; (focus ((intro wS hSw); (try dsimp only at hSw); obtain ⟨s0, s1, s2, s3, s4⟩ := row5c hSw; go_simp; (try with_reducible rfl); done)); (try simp only [Act.put, List.setIfInBounds_toArray, List.set_cons_zero, List.set_cons_succ]))
  (refine takeH (i := 4) (v := ?_) rfl (by kernel_rfl) (by kernel_rfl) (by kernel_rfl) (fun _ _ _ h => h) (Or.inl ⟨by rfl, ?_⟩) (by assumption) ?_; rotate_left; (focus ((intro wS hSw); (try dsimp only at hSw); obtain ⟨s0, s1, s2, s3, s4⟩ := row5c hSw; go_simp; (try with_reducible rfl); done)); (try simp only [Act.put, List.setIfInBounds_toArray, List.set_cons_zero, List.set_cons_succ]))
  refine aloneH (i := 5) rfl (by kernel_rfl) (fun K hK => ?_)
  rw [if_pos (by rfl)]
  go_simp; ((refine (code_kidsOf1q wd).mono ?_); (rintro e w1 ⟨rfl, rfl⟩); (try go_simp))
  have HB1 : Hid (Below wd.heap.size wd wd) := Lib.hid (Below.refl _ _)
  refine hK.out _ _ (hHeld) (fun hNew => ?_)
  clear hK K hHeld; (have hHeld := hNew); clear hNew; (try simp only [Act.put, List.setIfInBounds_toArray, List.set_cons_zero, List.set_cons_succ])
  (refine takeH (i := 6) (v := ?_) rfl (by kernel_rfl) (by kernel_rfl) (by kernel_rfl) (fun _ _ _ h => h) (Or.inl ⟨by rfl, ?_⟩) (by assumption) ?_; rotate_left; (focus ((intro wS hSw); (try dsimp only at hSw); obtain ⟨s0, s1, s2, s3, s4⟩ := row5c hSw; go_simp; (try with_reducible rfl); done)); (try simp only [Act.put, List.setIfInBounds_toArray, List.set_cons_zero, List.set_cons_succ]))
  (refine takeH (i := 7) (v := ?_) rfl (by kernel_rfl) (by kernel_rfl) (by kernel_rfl) (fun _ _ _ h => h) (Or.inl ⟨by rfl, ?_⟩) (by assumption) ?_; rotate_left; (focus ((intro wS hSw); (try dsimp only at hSw); obtain ⟨s0, s1, s2, s3, s4⟩ := row5c hSw; go_simp; (try with_reducible rfl); done)); (try simp only [Act.put, List.setIfInBounds_toArray, List.set_cons_zero, List.set_cons_succ]))
  refine wpAnyH_done (by kernel_rfl) ?_ _
  clear HB1
  obtain ⟨s0, s1, s2, s3, s4⟩ := row5c hHeld
  clear hHeld
  have hem : ((⟨#[]⟩ : ByteArray).toList == (⟨#[]⟩ : ByteArray).toList) = true := by simp
  go_wp2_with (go_at_call 96; refine (HG.out _).mono ?_; rintro e w2 ⟨rfl, rfl⟩; refine Stop.out ?_)
  unfold Stop
  clear HG
  go_wp2
  go_ret
  exact ⟨rfl, HW.out⟩
set_option maxHeartbeats 4000000 in
theorem each_tree {t0 t1 : Int} {t2 : ByteArray} {fA : Option Addr} {fn fc kb kc : Nat} {ks : List Tr} (w : World) (hS : StandT (.mk t0 t1 t2 fA fn fc kb kc ks)) (hA : AtT w (.mk t0 t1 t2 fA fn fc kb kc ks)) (hN : (bT (.mk t0 t1 t2 fA fn fc kb kc ks)).Nodup) (hz : sz (.mk t0 t1 t2 fA fn fc kb kc ks) ≤ 1000) :
    Calls Tryz.prog 66 #[.agg (exC (.mk t0 t1 t2 fA fn fc kb kc ks)).toArray, .func (.func 67) #[] #[]] w fun e w' => e = .returned (.bool true) ∧ Below w.heap.size w w' := by
  have hmf : ∀ (fn : Fn) (first cap : Array Value) (w : World), (Instr.makeFunc fn first cap).run Tryz.prog w = .ok (.func fn first cap) w := fun _ _ _ _ => rfl
  have hmm := @run_makeMap Tryz.prog
  have HOv := Lib.hid (over_all _ hS)
  have HA := Lib.hid hA
  have HN := Lib.hid hN
  have HSz := Lib.hid hz
  obtain ⟨KA, KN, KC, hkv⟩ := kids_slice (kv := kidsV kb kc ks) rfl
  have hx : (exC (.mk t0 t1 t2 fA fn fc kb kc ks)).toArray = #[.int .i64 t0, .int .i64 t1, .string t2, .slice fA fn fc, .slice KA KN KC] := by simp only [exC]; rw [hkv]
  have HX := Lib.hid hx
  rw [hx]
  clear hS hA hN hz hx hkv
  go_enter Tryz.func66, Tryz.ntmps66
  go_wp2_with (go_at_call 90; refine Stop.out ?_)
  unfold Stop
  have H6 := Lib.hid (six w (.cells #[.int .i64 t0, .int .i64 t1, .string t2, .slice fA fn fc, .slice KA KN KC] 32) (.cells #[.func (.func 67) #[] #[]] 88) (.map #[] 0) (.cells #[.map (some (w.heap.size + 1 + 1))] 117) (.cells #[.func (.func 90) #[] #[.pointer (some ⟨w.heap.size + 1, 0, none⟩), .pointer (some ⟨w.heap.size + 1 + 1 + 1, 0, none⟩), .pointer (some ⟨w.heap.size + 1 + 1 + 1 + 1 + 1, 0, none⟩)]] 88) (.cells #[.func (.func 89) #[] #[.pointer (some ⟨w.heap.size + 1 + 1 + 1 + 1, 0, none⟩)]] 88))
  have hsz : (World.alloc (((((w.alloc (.cells #[.int .i64 t0, .int .i64 t1, .string t2, .slice fA fn fc, .slice KA KN KC] 32)).alloc (.cells #[.func (.func 67) #[] #[]] 88)).alloc (.map #[] 0)).alloc (.cells #[.map (some (w.heap.size + 1 + 1))] 117)).alloc (.cells #[.func (.func 90) #[] #[.pointer (some ⟨w.heap.size + 1, 0, none⟩), .pointer (some ⟨w.heap.size + 1 + 1 + 1, 0, none⟩), .pointer (some ⟨w.heap.size + 1 + 1 + 1 + 1 + 1, 0, none⟩)]] 88)) (.cells #[.func (.func 89) #[] #[.pointer (some ⟨w.heap.size + 1 + 1 + 1 + 1, 0, none⟩)]] 88)).heap.size = w.heap.size + 6 := by
    rw [World.size_alloc, World.size_alloc, World.size_alloc, World.size_alloc, World.size_alloc, World.size_alloc]
  generalize World.alloc _ _ = wE at H6 hsz ⊢
  obtain ⟨hB, hI, hM, hK, hO, hF⟩ := H6.out
  have HBE := Lib.hid hB
  have HSzE := Lib.hid hsz
  have HC := Lib.hid (HOv.out (w.heap.size + 1) (w.heap.size + 1 + 1 + 1) (w.heap.size + 1 + 1 + 1 + 1 + 1) (w.heap.size + 1 + 1 + 1 + 1) (w.heap.size + 1 + 1) _ _ _ _ wE [] (fun _ => False) 0 ⟨hI, hK, hF, hO⟩ ⟨⟨hM, by simp⟩, ⟨by decide, by decide⟩, by simp⟩ (by have := HSz.out; omega)
    (AtT.on _ HA.out (fun k hk => hB.block k (AtT.lt _ HA.out k hk)) hB.size) (fun b _ h => h) HN.out)
  rw [HX.out] at HC
  clear hB hI hM hK hO hF H6 hsz
  refine HC.out.mono ?_
  rintro e w3 ⟨rfl, hc3, _⟩
  have HCw : Hid (Below w.heap.size w w3) := Lib.hid (HBE.out.trans (hc3.low (by omega) (by have := HSzE.out; omega)))
  clear hc3
  go_wp2
  go_ret
  exact ⟨rfl, HCw.out⟩
set_option maxHeartbeats 4000000 in
theorem good_tree {t0 t1 : Int} {t2 : ByteArray} {fA : Option Addr} {fn fc kb kc : Nat} {ks : List Tr} (w : World) (hS : StandT (.mk t0 t1 t2 fA fn fc kb kc ks)) (hA : AtT w (.mk t0 t1 t2 fA fn fc kb kc ks)) (hN : (bT (.mk t0 t1 t2 fA fn fc kb kc ks)).Nodup) (hz : sz (.mk t0 t1 t2 fA fn fc kb kc ks) ≤ 1000) (hd : dep (.mk t0 t1 t2 fA fn fc kb kc ks) ≤ 64) :
    Calls Tryz.prog 42 #[.agg (exC (.mk t0 t1 t2 fA fn fc kb kc ks)).toArray] w fun e w' => e = .returned (.bool true) ∧ Below w.heap.size w w' := by
  obtain ⟨KA, KN, KC, hkv⟩ := kids_slice (kv := kidsV kb kc ks) rfl
  have hx : (exC (.mk t0 t1 t2 fA fn fc kb kc ks)).toArray = #[.int .i64 t0, .int .i64 t1, .string t2, .slice fA fn fc, .slice KA KN KC] := by simp only [exC]; rw [hkv]
  have HE : Hid (∀ W, Below w.heap.size w W → Calls Tryz.prog 66 #[.agg #[.int .i64 t0, .int .i64 t1, .string t2, .slice fA fn fc, .slice KA KN KC], .func (.func 67) #[] #[]] W fun e w' => e = .returned (.bool true) ∧ Below W.heap.size W w') := Lib.hid (fun W hW => by
    have := each_tree W hS (AtT.on _ hA (fun k hk => hW.block k (AtT.lt _ hA k hk)) hW.size) hN hz
    rw [hx] at this
    exact this)
  obtain ⟨dd, hdd⟩ : ∃ dd, min (dep (.mk t0 t1 t2 fA fn fc kb kc ks)) 65 = dd := ⟨_, rfl⟩
  have hd2 : (dd : Int) ≤ 64 := by omega
  have HD : Hid (∀ W, Below w.heap.size w W → Calls Tryz.prog 65 #[.agg #[.int .i64 t0, .int .i64 t1, .string t2, .slice fA fn fc, .slice KA KN KC]] W fun e w' => e = .returned (.int .i64 (dd : Nat)) ∧ Below W.heap.size W w') := Lib.hid (fun W hW => by
    have := code_deep W _ (AtT.on _ hA (fun k hk => hW.block k (AtT.lt _ hA k hk)) hW.size) hN
    rw [hx, hdd] at this
    exact this)
  rw [hx]
  clear hS hA hN hz hd hx hkv hdd
  have H0 := Lib.hid (heap_alloc_new w (.cells #[.int .i64 t0, .int .i64 t1, .string t2, .slice fA fn fc, .slice KA KN KC] 32))
  have HB0 := Lib.hid (below_alloc w (.cells #[.int .i64 t0, .int .i64 t1, .string t2, .slice fA fn fc, .slice KA KN KC] 32))
  go_enter Tryz.func42, Tryz.ntmps42
  go_wp2_with (go_at_call 65; refine (HD.out _ HB0.out).mono ?_; rintro e w2 ⟨rfl, hb⟩; refine Stop.out ?_)
  unfold Stop
  have HB2 := Lib.hid (below_then HB0.out hb)
  obtain ⟨e0, e1, e2, e3, e4⟩ := row5c (heap_on hb H0.out)
  clear hb H0 HB0
  go_wp2_with (go_at_call 66; refine (HE.out _ HB2.out).mono ?_; rintro e w3 ⟨rfl, hb⟩; refine Stop.out ?_)
  unfold Stop
  have HB3 := Lib.hid (below_then HB2.out hb)
  clear hb e0 e1 e2 e3 e4
  go_wp2
  go_ret
  exact ⟨rfl, HB3.out⟩
end Go.Proofs.YtpapcnogbmjpjaaGreatDoor

namespace Go.Proofs.YtpapcnogbmjpjaaGreatDoor
open Go.RowKit
set_option maxRecDepth 100000
set_option linter.unusedSimpArgs false
set_option linter.unusedVariables false
attribute [local go_sem] Oper.semAt_some

theorem four (w : World) (a b c d : Obj) : Below w.heap.size w ((((w.alloc a).alloc b).alloc c).alloc d) ∧ ((((w.alloc a).alloc b).alloc c).alloc d).heap[w.heap.size]? = some a ∧ ((((w.alloc a).alloc b).alloc c).alloc d).heap[w.heap.size + 1]? = some b ∧ ((((w.alloc a).alloc b).alloc c).alloc d).heap[w.heap.size + 1 + 1 + 1]? = some d := by
  obtain ⟨h0, h1, h2⟩ := two_alloc w a b
  have s2 : ((w.alloc a).alloc b).heap.size = w.heap.size + 1 + 1 := by rw [World.size_alloc, World.size_alloc]
  obtain ⟨k0, k1, k2⟩ := two_alloc ((w.alloc a).alloc b) c d
  rw [s2] at k2
  exact ⟨below_then h0 k0, heap_on k0 h1, heap_on k0 h2, k2⟩
set_option maxHeartbeats 8000000 in
theorem code_Text {t0 t1 : Int} {t2 : ByteArray} {fA : Option Addr} {fn fc kb kc : Nat} {ks : List Tr} {x : List UInt8} (w : World) (hW : WriteC (.mk t0 t1 t2 fA fn fc kb kc ks) x) (hS : StandT (.mk t0 t1 t2 fA fn fc kb kc ks)) (hA : AtT w (.mk t0 t1 t2 fA fn fc kb kc ks)) (hN : (bT (.mk t0 t1 t2 fA fn fc kb kc ks)).Nodup) (hz : sz (.mk t0 t1 t2 fA fn fc kb kc ks) ≤ 1000) (hd : dep (.mk t0 t1 t2 fA fn fc kb kc ks) ≤ 64) (hx : x.length ≤ 1000) :
    Calls Tryz.prog 25 #[.agg (exC (.mk t0 t1 t2 fA fn fc kb kc ks)).toArray] w fun e w' => e = .returned (.string ⟨x.toArray⟩) ∧ Below w.heap.size w w' := by
  obtain ⟨KA, KN, KC, hkv⟩ := kids_slice (kv := kidsV kb kc ks) rfl
  have hx5 : (exC (.mk t0 t1 t2 fA fn fc kb kc ks)).toArray = #[.int .i64 t0, .int .i64 t1, .string t2, .slice fA fn fc, .slice KA KN KC] := by simp only [exC]; rw [hkv]
  have hb0 := below_alloc w (.cells #[.int .i64 t0, .int .i64 t1, .string t2, .slice fA fn fc, .slice KA KN KC] 32)
  have hA0 := AtT.on _ hA (fun k hk => hb0.block k (AtT.lt _ hA k hk)) hb0.size
  have HG := Lib.hid (good_tree _ hS hA0 hN hz hd)
  have HA0 := Lib.hid hA0
  have HW := Lib.hid hW
  have HX5 := Lib.hid hx5
  have HXl := Lib.hid hx
  rw [hx5] at HG ⊢
  have H0 := Lib.hid (heap_alloc_new w (.cells #[.int .i64 t0, .int .i64 t1, .string t2, .slice fA fn fc, .slice KA KN KC] 32))
  have HB0 := Lib.hid hb0
  have hmf : ∀ (fn : Fn) (first cap : Array Value) (w : World), (Instr.makeFunc fn first cap).run Tryz.prog w = .ok (.func fn first cap) w := fun _ _ _ _ => rfl
  have hnot : ∀ (x : Bool) (w : World), (Op.unary .not (.bool x)).run Tryz.prog w = .ok (.bool (!x)) w := fun _ _ => rfl
  clear hW hS hA hN hz hd hx hkv hx5 hb0 hA0
  obtain ⟨e0, e1, e2, e3, e4⟩ := row5c H0.out
  go_enter Tryz.func25, Tryz.ntmps25
  go_wp2_with (go_at_call 42; refine HG.out.mono ?_; rintro e w2 ⟨rfl, hb⟩; refine Stop.out ?_)
  unfold Stop
  have H2 := Lib.hid (heap_on hb H0.out)
  have HB2 := Lib.hid (below_then HB0.out hb)
  have HA2 : Hid (AtT w2 _) := Lib.hid (AtT.on _ HA0.out (fun k hk => hb.block k (AtT.lt _ HA0.out k hk)) hb.size)
  obtain ⟨g, hg⟩ : ∃ g, g = w.heap.size := ⟨_, rfl⟩
  rw [← hg] at H2 ⊢
  clear hg e0 e1 e2 e3 e4 hb H0 HB0 HA0
  go_wp2_with (with_reducible show wpList _ _ _ (({ dst := some 14, op := Op.load _ _, .. } : Oper) :: _) _ _; refine Stop.out ?_)
  unfold Stop
  have h4 := four w2 (.cells #[.pointer none, .slice none 0 0] 64) (.cells #[.func (.func 48) #[] #[.pointer (some ⟨w2.heap.size, 0, none⟩), .pointer (some ⟨w2.heap.size + 1, 0, none⟩), .pointer (some ⟨w2.heap.size + 1 + 1 + 1, 0, none⟩), .pointer (some ⟨w2.heap.size + 1 + 1, 0, none⟩)]] 91) (.cells #[.func (.func 46) #[] #[.pointer (some ⟨w2.heap.size, 0, none⟩), .pointer (some ⟨w2.heap.size + 1, 0, none⟩)]] 92) (.cells #[.func (.func 47) #[] #[.pointer (some ⟨w2.heap.size + 1 + 1, 0, none⟩), .pointer (some ⟨w2.heap.size + 1, 0, none⟩)]] 91)
  generalize World.alloc (World.alloc (World.alloc (World.alloc w2 _) _) _) _ = wE at h4 ⊢
  obtain ⟨hB4, hb, hw, hs⟩ := h4
  have HB4 := Lib.hid hB4
  have HA4 : Hid (AtT wE _) := Lib.hid (AtT.on _ HA2.out (fun k hk => hB4.block k (AtT.lt _ HA2.out k hk)) hB4.size)
  have HBd : Hid (Bd w2.heap.size wE w2.heap.size []) := Lib.hid (.inl ⟨Nat.le_refl _, .slice none 0 0, hb, World.ownsRow_nil _ _ _ _, by simp [Value.ownBlock]⟩)
  have HE : Hid (EnvX wE w2.heap.size (w2.heap.size + 1) (w2.heap.size + 1 + 1 + 1) (w2.heap.size + 1 + 1)) := Lib.hid ⟨hw, hs⟩
  have HC := Lib.hid (HW.out w2.heap.size w2.heap.size _ _ _ [] wE HBd.out (by have := HXl.out; simpa using this) hB4.size HE.out HA4.out)
  rw [HX5.out] at HC
  have H4 := Lib.hid (heap_on hB4 H2.out)
  clear hB4 hb hw hs H2 HA2 HG
  obtain ⟨e0, e1, e2, e3, e4⟩ := row5c H4.out
  go_wp2_with (go_at_call 48; refine HC.out.mono ?_; rintro e w5 ⟨rfl, h1, h2, h3⟩; refine Stop.out ?_)
  unfold Stop
  have h1' : Bd w2.heap.size w5 w2.heap.size x := by simpa using h1
  have HSt := Lib.hid (Tryz.Builder_String_any w2.heap.size w2.heap.size x w5 h1' (by have := HB4.out.size; have := h2.size; omega))
  have HL5 := Lib.hid ((HB2.out.trans (HB4.out.mono HB2.out.size)).trans (h2.mono HB2.out.size))
  have HB2s : Hid (w.heap.size ≤ w2.heap.size) := Lib.hid HB2.out.size
  clear e0 e1 e2 e3 e4 h1 h1' h2 h3 HC HE HBd HA4 HB4 H4
  go_wp2_with (go_at_call 26; refine HSt.out.mono ?_; rintro e w6 ⟨rfl, hb⟩; refine Stop.out ?_)
  unfold Stop
  have HFin := Lib.hid (HL5.out.trans (hb.mono HB2s.out))
  clear hb
  go_wp2
  go_ret
  exact ⟨rfl, HFin.out⟩
end Go.Proofs.YtpapcnogbmjpjaaGreatDoor
