/- How deep a tree is, told by the program. Whether a box is too deep. -/
import Derived.Test.YtpapcnogbmjpjaaGreatDoorK11
import Derived.Carry
import Derived.Laws.EntriesVeiled
namespace Go.Proofs.YtpapcnogbmjpjaaGreatDoor
open Go.RowKit
set_option maxRecDepth 100000
set_option linter.unusedSimpArgs false
set_option linter.unusedVariables false
attribute [local go_sem] Oper.semAt_some

theorem code_deep1 (m Ka Fa : Nat) (tK tF : TypeId) : ∀ (r : Nat), r ≤ 64 → ∀ (kb kc : Nat) (ks : List Tr) (w : World) (E : List (Key × Int)) (D : Nat → Prop), w.heap[Ka]? = some (.cells #[.map (some m)] tK (0, 0)) → w.heap[Fa]? = some (.cells #[.func (.func 87) #[] #[.pointer (some ⟨Ka, 0, none⟩), .pointer (some ⟨Fa, 0, none⟩)]] tF (0, 0)) → AtK w kb kc ks → (bKs kb ks).Nodup → (∀ b ∈ bKs kb ks, ¬ D b) → m ∉ bKs kb ks → Kn w m E D →
      Calls Tryz.prog 87 #[kidsV kb kc ks, .int .i64 r, .pointer (some ⟨Ka, 0, none⟩), .pointer (some ⟨Fa, 0, none⟩)] w fun e w' => e = .returned (.int .i64 ((min (depL ks) (r + 1) : Nat) : Int)) ∧ Chg m w w' ∧ ∃ E', Kn w' m E' (fun b => D b ∨ b ∈ bKs kb ks) := by
  intro r
  induction r with
  | zero =>
    intro _ kb kc ks w E D hK hF hA hN hD hm hE
    refine (code_deep1_0 m Ka Fa kb kc ks hA.len w).mono ?_
    rintro e w' ⟨rfl, rfl⟩
    exact ⟨rfl, Chg.refl _ _, E, hE.wide (fun b h => .inl h)⟩
  | succ r ih =>
    intro hr kb kc ks w E D hK hF hA hN hD hm hE
    exact code_deep1_s m Ka Fa tK tF r (by omega) (ih (by omega)) kb kc ks w E D hK hF hA hN hD hm hE
theorem five (w : World) (a b c d e : Obj) : Below w.heap.size w (((((w.alloc a).alloc b).alloc c).alloc d).alloc e) ∧ (((((w.alloc a).alloc b).alloc c).alloc d).alloc e).heap[w.heap.size + 1]? = some b ∧
    (((((w.alloc a).alloc b).alloc c).alloc d).alloc e).heap[w.heap.size + 1 + 1]? = some c ∧ (((((w.alloc a).alloc b).alloc c).alloc d).alloc e).heap[w.heap.size + 1 + 1 + 1]? = some d ∧
    (((((w.alloc a).alloc b).alloc c).alloc d).alloc e).heap[w.heap.size + 1 + 1 + 1 + 1]? = some e := by
  have s1 := World.size_alloc w a
  have s2 := World.size_alloc (w.alloc a) b
  have s3 := World.size_alloc ((w.alloc a).alloc b) c
  have s4 := World.size_alloc (((w.alloc a).alloc b).alloc c) d
  have B1 := below_alloc w a
  have B2 := below_alloc (w.alloc a) b
  have B3 := below_alloc ((w.alloc a).alloc b) c
  have B4 := below_alloc (((w.alloc a).alloc b).alloc c) d
  have B5 := below_alloc ((((w.alloc a).alloc b).alloc c).alloc d) e
  refine ⟨below_then B1 (below_then B2 (below_then B3 (below_then B4 B5))), ?_, ?_, ?_, ?_⟩
  · rw [← s1]; exact heap_on (below_then B3 (below_then B4 B5)) (heap_alloc_new _ b)
  · rw [← s1, ← s2]; exact heap_on (below_then B4 B5) (heap_alloc_new _ c)
  · rw [← s1, ← s2, ← s3]; exact heap_on B5 (heap_alloc_new _ d)
  · rw [← s1, ← s2, ← s3, ← s4]; exact heap_alloc_new _ e
set_option maxHeartbeats 2000000 in
/-- how deep a tree is that a program made -/
theorem code_deep (w : World) (t : Tr) (h : AtT w t) (hN : (bT t).Nodup) : Calls Tryz.prog 65 #[.agg (exC t).toArray] w fun e w' => e = .returned (.int .i64 ((min (dep t) 65 : Nat) : Int)) ∧ Below w.heap.size w w' := by
  have hmf : ∀ (fn : Fn) (first cap : Array Value) (w : World), (Instr.makeFunc fn first cap).run Tryz.prog w = .ok (.func fn first cap) w := fun _ _ _ _ => rfl
  have hmm := @run_makeMap Tryz.prog
  have HA := Lib.hid h
  have HN := Lib.hid hN
  clear h hN
  obtain ⟨T, hT⟩ : ∃ T, T = t := ⟨_, rfl⟩
  obtain ⟨t0, t1, t2, fA, fn, fc, kb, kc, ks⟩ := t
  obtain ⟨kv, hkv⟩ : ∃ v, v = kidsV kb kc ks := ⟨_, rfl⟩
  have hx : (exC (.mk t0 t1 t2 fA fn fc kb kc ks)).toArray = #[.int .i64 t0, .int .i64 t1, .string t2, .slice fA fn fc, kv] := by rw [hkv]; rfl
  rw [hx]
  have HKv := Lib.hid hkv
  have HT := Lib.hid hT
  clear hx hkv hT
  go_enter Tryz.func65, Tryz.ntmps65
  go_wp2_with (go_at_call 87; refine Stop.out ?_)
  unfold Stop
  have H5 := Lib.hid (five w (.cells #[.int .i64 t0, .int .i64 t1, .string t2, .slice fA fn fc, kv] 32) (.map #[] 0) (.cells #[.map (some (w.heap.size + 1))] 117) (.cells #[.func (.func 87) #[] #[.pointer (some ⟨w.heap.size + 1 + 1, 0, none⟩), .pointer (some ⟨w.heap.size + 1 + 1 + 1, 0, none⟩)]] 118) (.cells #[.int .i64 t0, .int .i64 t1, .string t2, .slice fA fn fc, kv] 32))
  generalize World.alloc _ _ = wE at H5 ⊢
  obtain ⟨hB, hM, hK, hF, hG⟩ := H5.out
  have hlt : ∀ b ∈ bT T, b < w.heap.size := by rw [HT.out]; exact AtT.lt _ HA.out
  have hAt : AtT wE T := by
    rw [HT.out]
    exact AtT.on _ HA.out (fun k hk => hB.block k (AtT.lt _ HA.out k hk)) hB.size
  have hRow : RowTr wE (w.heap.size + 1 + 1 + 1 + 1) [T] := ⟨_, hG, fun j v hv => by
    rw [HT.out] at hv
    have e : exCs [Tr.mk t0 t1 t2 fA fn fc kb kc ks] = [.int .i64 t0, .int .i64 t1, .string t2, .slice fA fn fc, kv] := by rw [HKv.out]; rfl
    rw [e] at hv
    simpa using hv⟩
  have hbk : bKs (w.heap.size + 1 + 1 + 1 + 1) [T] = (w.heap.size + 1 + 1 + 1 + 1) :: bT T := by simp [bK, bL]
  have hdp : (min (depL [T]) (64 + 1) : Nat) = min (dep (.mk t0 t1 t2 fA fn fc kb kc ks)) 65 := by rw [HT.out]; simp [depL]
  have HC := Lib.hid (code_deep1 (w.heap.size + 1) (w.heap.size + 1 + 1) (w.heap.size + 1 + 1 + 1) _ _ 64 (Nat.le_refl _) (w.heap.size + 1 + 1 + 1 + 1) 1 [T] wE [] (fun _ => False) hK hF
    ⟨by unfold AtL AtL; exact ⟨hAt, trivial⟩, fun _ => ⟨hRow, Nat.le_refl _, by decide⟩⟩
    (by
      rw [hbk]
      refine List.nodup_cons.2 ⟨fun hx => ?_, by rw [HT.out]; exact HN.out⟩
      have := hlt _ hx
      omega)
    (fun b _ hf => hf)
    (by
      rw [hbk]
      intro hx
      rcases List.mem_cons.1 hx with hx | hx
      · omega
      · have := hlt _ hx
        omega)
    ⟨⟨hM, by simp⟩, by simp, by simp⟩)
  rw [hdp] at HC
  have HBE := Lib.hid hB
  obtain ⟨x, hx⟩ : ∃ x, x = min (dep (Tr.mk t0 t1 t2 fA fn fc kb kc ks)) 65 := ⟨_, rfl⟩
  rw [← hx] at HC
  have HX := Lib.hid hx
  have hx65 : (x : Int) ≤ 65 := by omega
  have hmin : min (x : Int) 65 = (x : Int) := by omega
  clear hB hM hK hF hG hlt hAt hRow hbk hdp HN HA HT HKv H5 hx
  refine HC.out.mono ?_
  rintro e w3 ⟨rfl, hc3, _⟩
  have HCw := Lib.hid (HBE.out.trans (hc3.low (B := w.heap.size) (by omega) HBE.out.size))
  go_wp2
  go_ret
  refine ⟨?_, HCw.out⟩
  rw [← HX.out]
  first | rfl | (simp [hmin])
end Go.Proofs.YtpapcnogbmjpjaaGreatDoor

namespace Go.Proofs.YtpapcnogbmjpjaaGreatDoor
open Go.RowKit
set_option maxRecDepth 100000
set_option linter.unusedSimpArgs false
set_option linter.unusedVariables false
attribute [local go_sem] Oper.semAt_some

theorem row6c {W : World} {g : Nat} {a b c d e f : Value} {t : TypeId} (h : W.heap[g]? = some (.cells #[a, b, c, d, e, f] t (0, 0))) : W.cell? ⟨g, 0, none⟩ = some a ∧ W.cell? ⟨g, 1, none⟩ = some b ∧ W.cell? ⟨g, 2, none⟩ = some c ∧ W.cell? ⟨g, 3, none⟩ = some d ∧ W.cell? ⟨g, 4, none⟩ = some e ∧ W.cell? ⟨g, 5, none⟩ = some f :=
  ⟨cell_of_row W g 0 _ _ _ h, cell_of_row W g 1 _ _ _ h, cell_of_row W g 2 _ _ _ h, cell_of_row W g 3 _ _ _ h, cell_of_row W g 4 _ _ _ h, cell_of_row W g 5 _ _ _ h⟩
set_option maxHeartbeats 2000000 in
theorem code_isTooDeep (w : World) (n : Int) (t : Tr) (h : AtT w t) (hN : (bT t).Nodup) : Calls Tryz.prog 55 #[.agg (.int .i64 n :: exC t).toArray] w fun e w' => e = .returned (.bool (decide (64 < dep t))) ∧ Below w.heap.size w w' := by
  obtain ⟨T, hT⟩ : ∃ T, T = t := ⟨_, rfl⟩
  obtain ⟨t0, t1, t2, fA, fn, fc, kb, kc, ks⟩ := t
  obtain ⟨kv, hkv⟩ : ∃ v, v = kidsV kb kc ks := ⟨_, rfl⟩
  have hx : (.int .i64 n :: exC (.mk t0 t1 t2 fA fn fc kb kc ks)).toArray = #[.int .i64 n, .int .i64 t0, .int .i64 t1, .string t2, .slice fA fn fc, kv] := by rw [hkv]; rfl
  have hx5 : (exC (.mk t0 t1 t2 fA fn fc kb kc ks)).toArray = #[.int .i64 t0, .int .i64 t1, .string t2, .slice fA fn fc, kv] := by rw [hkv]; rfl
  have hB := below_alloc w (.cells #[.int .i64 n, .int .i64 t0, .int .i64 t1, .string t2, .slice fA fn fc, kv] 42)
  have HDp := Lib.hid (code_deep (w.alloc (.cells #[.int .i64 n, .int .i64 t0, .int .i64 t1, .string t2, .slice fA fn fc, kv] 42)) _ (AtT.on _ h (fun k hk => hB.block k (AtT.lt _ h k hk)) hB.size) hN)
  rw [hx5] at HDp
  rw [hx]
  have HB := Lib.hid hB
  have H0 := Lib.hid (heap_alloc_new w (.cells #[.int .i64 n, .int .i64 t0, .int .i64 t1, .string t2, .slice fA fn fc, kv] 42))
  obtain ⟨x, hxx⟩ : ∃ x, x = min (dep (Tr.mk t0 t1 t2 fA fn fc kb kc ks)) 65 := ⟨_, rfl⟩
  rw [← hxx] at HDp
  have HX : Hid (decide (64 < (x : Int)) = decide (64 < dep (Tr.mk t0 t1 t2 fA fn fc kb kc ks))) := Lib.hid (by
    rw [hxx, decide_eq_decide]
    omega)
  clear hx hx5 hkv hT hB h hN hxx
  go_enter Tryz.func55, Tryz.ntmps55
  go_wp2_with (go_at_call 65; refine HDp.out.mono ?_; rintro e w3 ⟨rfl, hb⟩; refine Stop.out ?_)
  unfold Stop
  have HC := Lib.hid (below_then HB.out hb)
  clear hb
  go_wp2
  go_ret
  refine ⟨?_, HC.out⟩
  rw [← HX.out]
  rfl
end Go.Proofs.YtpapcnogbmjpjaaGreatDoor
