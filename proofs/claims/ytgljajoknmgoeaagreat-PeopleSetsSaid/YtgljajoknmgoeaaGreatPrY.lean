/- The map's keys, told one by one. -/
import Derived.Test.YtgljajoknmgoeaaGreatPrX
import Derived.Laws.EntriesVeiled
namespace Go.Proofs.YtgljajoknmgoeaaGreat
open Go.RowKit
set_option maxRecDepth 100000

/-- the map alone, being gone through: T was met -/
def Rn (w : World) (bm n : Nat) (F : Lns) (r : Nat) (T : Ks) (cnt : Nat) : Prop :=
  (∃ (D : DataW Unit) (left : Lit → Bool), w.ranges Tryz.prog 9 lnR bm r n D left cnt ∧ PpD D F ∧ (∀ s, okKey s → (left (keyL s) = true ↔ ((F s).isSome = true ∧ s ∉ T))) ∧ (∀ kl, left kl = true → Maps.has D kl = true)) ∧ KsOk F T
theorem Rn.km {w w' : World} {bm n r cnt : Nat} {F : Lns} {T : Ks} (h : Rn w bm n F r T cnt) (k : Km w w') : Rn w' bm n F r T cnt := by
  obtain ⟨⟨D, left, ⟨es, clock, since, seen, c0, hb, q1, q2, q3, hr, q4⟩, h3⟩, h4⟩ := h
  exact ⟨⟨D, left, ⟨es, clock, since, seen, c0, k.2 _ _ hb (.inl ⟨_, _, rfl⟩), q1, q2, q3, k.2 _ _ hr (.inr ⟨_, _, _, _, rfl⟩), q4⟩, h3⟩, h4⟩
theorem Rn.left {w : World} {bm n r cnt : Nat} {F : Lns} {T : Ks} (h : Rn w bm n F r T cnt) : w.rangeLeft bm r = cnt := by
  obtain ⟨⟨D, left, h2, _⟩, _⟩ := h
  exact h2.left_eq
theorem Rn.iter {w : World} {bm n r cnt : Nat} {F : Lns} {T : Ks} (h : Rn w bm n F r T cnt) : ∃ a b c d, w.heap[r]? = some (.mapIter a b c d) := by
  obtain ⟨⟨D, left, h2, _⟩, _⟩ := h
  exact iter_of h2
theorem run_range_pp {w : World} {base bm n : Nat} {F : Lns} (h : PmAt w base bm n F) :
    ∃ w' cnt, (Instr.range 56 (.map (some bm))).run Tryz.prog w = .ok (.pointer (some ⟨w.heap.size, 0, none⟩)) w' ∧ Rn w' bm n F w.heap.size [] cnt ∧ Below w.heap.size w w' := by
  obtain ⟨⟨D, h2, h3⟩, _⟩ := h
  obtain ⟨w', hrun, r1, r2, r3⟩ := h2.range strKey Tryz.underlying56
  have hb : Below w.heap.size w w' := ⟨r2.os, r2.tape, r2.output, r2.size, fun k hk => r2.block k hk (by simp)⟩
  refine ⟨w', _, hrun, ⟨⟨D, _, r1, h3, fun s hk => ?_, fun kl h => h⟩, List.nodup_nil, fun t ht => absurd ht (by simp)⟩, hb⟩
  rw [(h3.1 s hk).2]
  simp
theorem run_next_pp {w : World} {bm n r cnt : Nat} {F : Lns} {T : Ks} (h : Rn w bm n F r T cnt) (ty : TypeId) :
    ((∀ s, okKey s → (F s).isSome = true → s ∈ T) ∧ (Instr.next (.pointer (some ⟨r, 0, none⟩)) false ty).run Tryz.prog w = .ok (.tuple #[.bool false]) w) ∨
    (∃ s v w' cnt', s ∉ T ∧ okKey s ∧ (F s).isSome = true ∧ Rn w' bm n F r (T ++ [s]) cnt' ∧ cnt' < cnt ∧ w.grownBy w' (some r) ∧ (Instr.next (.pointer (some ⟨r, 0, none⟩)) false ty).run Tryz.prog w = .ok (.tuple #[.bool true, .string s, v]) w' ∧
      (Instr.entry (.pointer (some ⟨r, 0, none⟩))).run Tryz.prog w' = .ok (.tuple #[.string s, v]) w') := by
  obtain ⟨⟨D, left, h2, h3, h4, h5⟩, h6, h7⟩ := h
  rcases h2.next strKey ty with ⟨h0, hl, hrun⟩ | ⟨key, v, kl, y, w', cnt', hkey, hlk, hv, hat, hrun, hrg, hlt, hgr, hsz, hen⟩
  · refine .inl ⟨fun s hk hs => ?_, hrun⟩
    by_cases hT : s ∈ T
    · exact hT
    · have := (h4 s hk).2 ⟨hs, hT⟩
      rw [hl] at this
      cases this
  · obtain ⟨s, hk, rfl⟩ := h3.2 kl (h5 kl hlk)
    obtain rfl : key = .string s := strKey.inj hkey (keyOk hk)
    obtain ⟨hs, hT⟩ := (h4 s hk).1 hlk
    refine .inr ⟨s, v, w', cnt', hT, hk, hs, ⟨⟨D, _, hrg, h3, fun s' hk' => ?_, fun kl' h' => ?_⟩, ?_, fun t ht => ?_⟩, hlt, hgr, hrun, hen⟩
    · by_cases hsc : s' = s
      · obtain rfl := hsc
        have := WideAt.sameKey_self (strKey.key (keyOk hk'))
        simp [this]
      · have hne : keyL s' ≠ keyL s := fun e => hsc (keyL_inj e)
        have hsk : (keyL s').sameKey (keyL s) = false := by
          cases h9 : (keyL s').sameKey (keyL s)
          · rfl
          · exact absurd (WideAt.sameKey_eq h9) hne
        have h10 := h4 s' hk'
        simp only [hsk, Bool.not_false, Bool.and_true, h10, List.mem_append, List.mem_singleton, not_or]
        constructor
        · rintro ⟨k1, k2⟩
          exact ⟨k1, k2, hsc⟩
        · rintro ⟨k1, k2, _⟩
          exact ⟨k1, k2⟩
    · rw [Bool.and_eq_true] at h'
      exact h5 kl' h'.1
    · rw [List.nodup_append]
      exact ⟨h6, by simp, fun x hx y hy e => hT (by simp at hy; rw [← hy, ← e]; exact hx)⟩
    · rcases List.mem_append.1 ht with ht | ht
      · exact h7 t ht
      · simp at ht
        subst ht
        exact ⟨hk, hs⟩
def encK (s : ByteArray) : Array Value := #[.string s]
def FxK (F : Lns) (pre : Ks) (s : ByteArray) (_ : World) : Prop := s ∉ pre ∧ okKey s ∧ (F s).isSome = true
def AllK (F : Lns) (T : Ks) : Prop := KsOk F T ∧ ∀ s, okKey s → (F s).isSome = true → s ∈ T
set_option maxHeartbeats 2000000 in
theorem told_keys (w : World) (g base bm n : Nat) (F : Lns) (hg : w.heap[g]? = some (.cells #[.map (some bm)] 56 (0, 0))) (h : PmAt w base bm n F) :
    SeqTold3 Tryz.prog 42 #[.pointer (some ⟨g, 0, none⟩)] encK (FxK F) Km (AllK F) (fun _ => True) w := by
  intro l J Jx W hbW hJ hJx hY h0
  have c0 := (one_cell (heap_on hbW hg)).1
  have HBw := Lib.hid hbW.size
  have HP := Lib.hid (h.on hbW)
  have HJ := Lib.hid hJ
  have HY := Lib.hid hY
  have H0 := Lib.hid h0
  clear hJ hJx hY h0 hbW hg h
  refine callsIn_wide.1 (callsIn_of_wp (n := 2) (F := Fence.wide) Tryz.func42 rfl trivial ?_ rfl)
  simp only [Tryz.ntmps42, List.size_toArray, List.length_cons, List.length_nil, Nat.reduceAdd, Nat.reduceSub, Array.replicate_succ, Array.replicate_zero, List.push_toArray, List.append_toArray, List.nil_append, List.cons_append]
  obtain ⟨w1, cnt1, hru, hrg, hb1⟩ := run_range_pp HP.out
  have HRg := Lib.hid hrg
  have HB1 := Lib.hid hb1
  clear hrg hb1
  gi_wp2
  clear hru
  have HJ1 : Hid (J [] w1) := Lib.hid (HJ.out _ _ _ H0.out (Tn.of_below HB1.out))
  clear H0 HP c0
  have HRl : Hid (w.heap.size ≤ W.heap.size) := Lib.hid HBw.out
  generalize hr0 : W.heap.size = r at HRg HRl ⊢
  clear hr0
  gi_loopw [] (fun wr => ∃ (pre : Ks) (cnt : Nat), Hid (Rn wr bm n F r pre cnt) ∧ Hid (J pre wr)) (fun wr => wr.rangeLeft bm r)
  case atStart => exact ⟨[], cnt1, HRg, HJ1⟩
  case round =>
    clear HRg HJ1
    obtain ⟨pre, cnt, HR, HJp⟩ := hrel
    rcases run_next_pp HR.out 0 with ⟨hall, hnx⟩ | ⟨s, v, w3, cnt', hT, hk, hs, hrn, hlt, hg, hnx, hen⟩
    · have HAll := Lib.hid hall
      clear hall
      gi_wp2
      go_end0
      exact ⟨⟨_, rfl⟩, .inl ⟨pre, ⟨HR.out.2, HAll.out⟩, HJp.out⟩⟩
    · obtain ⟨i0, i1, i2, i3, hir⟩ := HR.out.iter
      obtain ⟨fn, tmps, assign, body, hy, hRR⟩ := HY.out pre s w3 (HJ.out _ _ _ HJp.out (Tn.of_turn HRl.out hg hir)) ⟨hT, hk, hs⟩
      dsimp only [encK] at hy
      have HRR := Lib.hid hRR
      have HRn := Lib.hid hrn
      have HM : Hid (cnt' < cnt) := Lib.hid hlt
      clear hRR hT hk hs hrn hlt hg hir
      gi_wp2
      refine HRR.out.mono ?_
      rintro e W3 (⟨rfl, hJ3, hk3⟩ | ⟨rfl, hJx3⟩)
      · have HJ3 := Lib.hid hJ3
        have HR3 := Lib.hid (HRn.out.km hk3)
        clear hJ3 hk3 hy hen
        gi_wp2
        go_roundw
        case rel => exact ⟨pre ++ [s], cnt', HR3, HJ3⟩
        case measure => rw [HR3.out.left, HR.out.left]; exact HM.out
      · have HJ3 := Lib.hid hJx3
        clear hJx3 hy hen
        gi_wp2
        refine bodyPost_ret (results_none rfl _ _ _) rfl ?_
        exact ⟨⟨_, rfl⟩, .inr ⟨_, trivial, HJ3.out⟩⟩
end Go.Proofs.YtgljajoknmgoeaaGreat
