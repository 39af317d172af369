/- What is filed. -/
import Derived.Test.YtdacpiegfobhbaaPdG
namespace Go.Proofs.Ytdacpiegfobhbaa
open Go.RowKit
set_option maxRecDepth 100000
set_option linter.unusedSimpArgs false
set_option linter.unusedVariables false

/-- the periods of a kind from a place on, so many -/
def persL (k F : Int) (m : Nat) : List PerV := (List.range m).map fun (j : Nat) => ((Civ.perK k (F + (j : Int)), Civ.perY k (F + (j : Int)), Civ.perI k (F + (j : Int))) : PerV)
theorem persL_len (k F : Int) (m : Nat) : (persL k F m).length = m := by unfold persL; simp
theorem persL_succ (k F : Int) (m : Nat) : persL k F (m + 1) = persL k F m ++ [(Civ.perK k (F + m), Civ.perY k (F + m), Civ.perI k (F + m))] := by
  unfold persL
  rw [List.range_succ, List.map_append]
  rfl
def lenV : Value → Nat
  | .slice _ n _ => n
  | _ => 0
theorem OwnPerV.len {w : World} {B : Nat} {v : Value} {L : List PerV} (h : OwnPerV w B v L) : lenV v = L.length := by
  obtain ⟨A, c, rfl, _⟩ := h.form
  rfl
theorem wpList_append_per {w : World} {ops : Array Oper} {rest : List Oper} {o : Oper} {a : Act} {Q : Exit → Act → World → Prop} (hgd : o.guard = none) (s x : Operand)
    (ho : o.op = .call { callee := .builtin .append, args := #[s, x], argTypes := #[49, 49] }) (hty : o.type = 49) (base : Nat) (v : Value) (L : List PerV) (hs : a.eval s = v) (hown : OwnPerV w base v L)
    (A : Option Addr) (n c : Nat) (M : List PerV) (hx : a.eval x = .slice A n c) (hn : M.length = n) (hr : RowPerV w A M) (hA : A = none → M = []) (hl : L.length + M.length ≤ 1000) (hb : base ≤ w.heap.size)
    (h : ∀ v' w', OwnPerV w' base v' (L ++ M) → w.grownBy w' v.ownBlock → wpList Try.prog ops Q rest (a.put o.dst v') w') : wpList Try.prog ops Q (o :: rest) a w :=
  wpList_plain hgd fun _ hK => wp_append_per w s x ho hty base v L hs hown A n c M hx hn hr hA hl hb fun v' w' q1 q2 => hK _ _ (h v' w' q1 q2)
theorem own_lt {w : World} {B : Nat} {v : Value} {L : List PerV} (h : OwnPerV w B v L) : ∀ k, v.ownBlock = some k → B ≤ k ∧ k < w.heap.size := by
  intro k hk
  rcases h.2 with ⟨rfl, _⟩ | ⟨g, c, cur, rfl, hB, hh, _⟩
  · cases hk
  · injection hk with hk
    subst hk
    exact ⟨hB, heapLt hh⟩
theorem wrapI (x : Int) (h : -9000000000000000000 ≤ x) (h2 : x ≤ 9000000000000000000) : wrap64 x = x := by unfold wrap64; omega
theorem OwnPerV.put {w : World} {B : Nat} {v : Value} {L : List PerV} (h : OwnPerV w B v L) (g : Nat) (a b c : Value) (hne : v.ownBlock ≠ some g) : OwnPerV (((w.setCell ⟨g, 0, none⟩ a).setCell ⟨g, 1, none⟩ b).setCell ⟨g, 2, none⟩ c) B v L :=
  World.ownsRow.kept (row := some g) h ⟨rfl, rfl, rfl, by simp, fun k _ hk => far_put3 (fun e => hk (by rw [e]))⟩ (by
    rcases h.2 with ⟨rfl, _⟩ | ⟨g0, c0, cur, rfl, _⟩
    · exact .inl rfl
    · exact .inr hne)
set_option maxHeartbeats 4000000 in
theorem code_filed (w : World) (P : Nat) (c : Ck) (h : CkAt w P c) (ok : c.Ok) (m : Nat) (hm : c.F + m = c.B) (hm9 : m ≤ 900) :
    Calls Try.prog 24 #[.pointer (some ⟨P, 0, none⟩)] w fun e w' => ∃ v, e = .returned v ∧ OwnPerV w' w.heap.size v (persL c.k c.F m) ∧ Below w.heap.size w w' := by
  have HM := Lib.hid (ok.made h)
  have HC := Lib.hid h
  have HOk := Lib.hid ok
  have HMm := Lib.hid (And.intro hm hm9)
  obtain ⟨c0, c1, c2⟩ := h.c3
  have n0 := heapLt h
  have HR0 := Lib.hid (heap_alloc_new w (.cells #[.int .i64 c.k, .int .i64 (Civ.perY c.k c.F), .int .i64 (Civ.perI c.k c.F)] 24))
  clear h ok hm hm9
  go_enter Try.func24, Try.ntmps24
  go_wp2_with (go_at_call 37; refine HM.out.mono ?_; rintro e w1 ⟨rfl, rfl⟩)
  go_loopw [3, 4] (fun l p wr => ∃ (j g : Nat), j ≤ m ∧ p = .pointer (some ⟨g, 0, none⟩) ∧ Hid (OwnPerV wr w.heap.size l (persL c.k c.F j)) ∧ Hid (wr.heap[g]? = some (.cells #[.int .i64 (Civ.perK c.k (c.F + j)), .int .i64 (Civ.perY c.k (c.F + j)), .int .i64 (Civ.perI c.k (c.F + j))] 24 (0, 0))) ∧ Hid (w.heap.size ≤ g) ∧ Hid (l.ownBlock ≠ some g) ∧ Hid (Below w.heap.size w wr)) (fun l _ _ => m - lenV l)
  case atStart =>
    refine ⟨0, w.heap.size, Nat.zero_le _, rfl, Lib.hid (World.ownsRow_nil _ _ _ 3), Lib.hid ?_, Lib.hid (Nat.le_refl _), Lib.hid (by simp [Value.ownBlock]), Lib.hid (below_alloc _ _)⟩
    have := HR0.out
    have e : Civ.perK c.k (c.F + (0 : Nat)) = c.k := by
      rw [show c.F + ((0 : Nat) : Int) = c.F by simp]
      exact (Civ.per_good HOk.out.kind HOk.out.f0 HOk.out.fa).2.2
    rw [e, show c.F + ((0 : Nat) : Int) = c.F by simp]
    exact this
  case round =>
    clear c0 c1 c2 n0 HR0
    obtain ⟨j, g, hj, rfl, HOl, HGr, HGb, HGn, HBr⟩ := hrel
    have hn1 := (HC.out.on HBr.out).n1
    by_cases hlt : j < m
    · have hpl : 0 ≤ c.F + (j : Int) ∧ c.F + (j : Int) < 8030 * Civ.many c.k := by
        have := HOk.out.f0; have := HOk.out.ba; have := HOk.out.aa; have := HMm.out.1; omega
      have hg := Civ.per_good HOk.out.kind hpl.1 hpl.2
      have hne := per_ne HOk.out.kind hg.1 (n := c.B) (by have := HOk.out.f0; have := HOk.out.fb; omega) (by rw [hg.2.1]; have := HMm.out.1; omega)
      have hbh := fun W => code_behind c.k _ _ W hg.1
      rw [hg.2.1, show c.F + (j : Int) + 1 = c.F + ((j + 1 : Nat) : Int) by omega] at hbh
      have hgr := HGr.out
      rw [hg.2.2] at hgr
      have HLn : Hid ((persL c.k c.F j).length + 1 ≤ 1000) := Lib.hid (by rw [persL_len]; have := HMm.out.2; omega)
      obtain ⟨y, hy⟩ : ∃ y, y = Civ.perY c.k (c.F + (j : Int)) := ⟨_, rfl⟩
      obtain ⟨i, hi⟩ : ∃ i, i = Civ.perI c.k (c.F + (j : Int)) := ⟨_, rfl⟩
      obtain ⟨k, hk⟩ : ∃ k, k = c.k := ⟨_, rfl⟩
      obtain ⟨k', hk'⟩ : ∃ k', k' = Civ.perK c.k (c.F + ((j + 1 : Nat) : Int)) := ⟨_, rfl⟩
      obtain ⟨y', hy'⟩ : ∃ y', y' = Civ.perY c.k (c.F + ((j + 1 : Nat) : Int)) := ⟨_, rfl⟩
      obtain ⟨i', hi'⟩ : ∃ i', i' = Civ.perI c.k (c.F + ((j + 1 : Nat) : Int)) := ⟨_, rfl⟩
      obtain ⟨k2, hk2⟩ : ∃ k2, k2 = Civ.perK c.k c.B := ⟨_, rfl⟩
      obtain ⟨y2, hy2⟩ : ∃ y2, y2 = Civ.perY c.k c.B := ⟨_, rfl⟩
      obtain ⟨i2, hi2⟩ : ∃ i2, i2 = Civ.perI c.k c.B := ⟨_, rfl⟩
      rw [← hk2, ← hy2, ← hi2] at hn1 hne
      rw [← hk', ← hy', ← hi', ← hy, ← hi, ← hk] at hbh
      rw [← hy, ← hi, ← hk] at hgr hne
      have HK : Hid (Civ.perK c.k (c.F + (j : Int)) = k ∧ Civ.perY c.k (c.F + (j : Int)) = y ∧ Civ.perI c.k (c.F + (j : Int)) = i) := Lib.hid ⟨hg.2.2.trans hk.symm, hy.symm, hi.symm⟩
      have HN := Lib.hid (And.intro hk' (And.intro hy' hi'))
      have HBh := Lib.hid hbh
      have HS := Lib.hid (And.intro (cell_of_row _ _ 0 _ _ _ hgr) (And.intro (cell_of_row _ _ 1 _ _ _ hgr) (And.intro (cell_of_row _ _ 2 _ _ _ hgr) hn1)))
      have HGd : Hid (wr.drew.heap[g]? = _) := Lib.hid hgr
      have HOd : Hid (OwnPerV wr.drew w.heap.size u3 (persL c.k c.F j)) := Lib.hid (HOl.out.on (Below.refl _ _).drew)
      have HBd := Lib.hid HBr.out.drew
      clear hn1 hpl hg hbh hgr hy hi hk hk' hy' hi' hk2 hy2 hi2 HOl HGr HBr
      go_wp2_with fail
      refine wp_region_held_drew (S := fun W => W.cell? ⟨g, 0, none⟩ = some (.int .i64 k) ∧ W.cell? ⟨g, 1, none⟩ = some (.int .i64 y) ∧ W.cell? ⟨g, 2, none⟩ = some (.int .i64 i) ∧ W.cell? ⟨P, 6, none⟩ = some (.int .i64 k2) ∧ W.cell? ⟨P, 7, none⟩ = some (.int .i64 y2) ∧ W.cell? ⟨P, 8, none⟩ = some (.int .i64 i2)) (by kernel_rfl) HS.out ?_
      intro hHeld
      clear HS
      generalize wr.drew = wd at HGd HOd HBd hHeld ⊢
      (refine takeH (i := 0) (v := ?_) rfl (by kernel_rfl) (by kernel_rfl) (by kernel_rfl) (fun _ _ _ h => h) (Or.inl ⟨by rfl, ?_⟩) (by assumption) ?_; rotate_left; (focus ((intro wS hSw); (try dsimp only at hSw); obtain ⟨s0, s1, s2, s3, s4, s5⟩ := hSw; go_simp; (try with_reducible rfl); done)); (try simp only [Act.put, List.setIfInBounds_toArray, List.set_cons_zero, List.set_cons_succ]))
      (refine takeH (i := 1) (v := ?_) rfl (by kernel_rfl) (by kernel_rfl) (by kernel_rfl) (fun _ _ _ h => h) (Or.inl ⟨by rfl, ?_⟩) (by assumption) ?_; rotate_left; (focus ((intro wS hSw); (try dsimp only at hSw); obtain ⟨s0, s1, s2, s3, s4, s5⟩ := hSw; go_simp; (try with_reducible rfl); done)); (try simp only [Act.put, List.setIfInBounds_toArray, List.set_cons_zero, List.set_cons_succ]))
      (refine takeH (i := 2) (v := ?_) rfl (by kernel_rfl) (by kernel_rfl) (by kernel_rfl) (fun _ _ _ h => h) (Or.inl ⟨by rfl, ?_⟩) (by assumption) ?_; rotate_left; (focus ((intro wS hSw); (try dsimp only at hSw); obtain ⟨s0, s1, s2, s3, s4, s5⟩ := hSw; go_simp; (try with_reducible rfl); done)); (try simp only [Act.put, List.setIfInBounds_toArray, List.set_cons_zero, List.set_cons_succ]))
      (refine takeH (i := 3) (v := ?_) rfl (by kernel_rfl) (by kernel_rfl) (by kernel_rfl) (fun _ _ _ h => h) (Or.inl ⟨by rfl, ?_⟩) (by assumption) ?_; rotate_left; (focus ((intro wS hSw); (try dsimp only at hSw); obtain ⟨s0, s1, s2, s3, s4, s5⟩ := hSw; go_simp; (try with_reducible rfl); done)); (try simp only [Act.put, List.setIfInBounds_toArray, List.set_cons_zero, List.set_cons_succ]))
      (refine takeH (i := 4) (v := ?_) rfl (by kernel_rfl) (by kernel_rfl) (by kernel_rfl) (fun _ _ _ h => h) (Or.inl ⟨by rfl, ?_⟩) (by assumption) ?_; rotate_left; (focus ((intro wS hSw); (try dsimp only at hSw); obtain ⟨s0, s1, s2, s3, s4, s5⟩ := hSw; go_simp; (try with_reducible rfl); done)); (try simp only [Act.put, List.setIfInBounds_toArray, List.set_cons_zero, List.set_cons_succ]))
      (refine takeH (i := 5) (v := ?_) rfl (by kernel_rfl) (by kernel_rfl) (by kernel_rfl) (fun _ _ _ h => h) (Or.inl ⟨by rfl, ?_⟩) (by assumption) ?_; rotate_left; (focus ((intro wS hSw); (try dsimp only at hSw); obtain ⟨s0, s1, s2, s3, s4, s5⟩ := hSw; go_simp; (try with_reducible rfl); done)); (try simp only [Act.put, List.setIfInBounds_toArray, List.set_cons_zero, List.set_cons_succ]))
      (refine takeH (i := 6) (v := (.bool true)) rfl (by kernel_rfl) (by kernel_rfl) (by kernel_rfl) (fun _ _ _ h => h) (Or.inl ⟨by rfl, by (intro wS hSw); (try dsimp only at hSw); (obtain ⟨s0, s1, s2, s3, s4, s5⟩ := hSw); go_simp; (first | done | (simp; done) | (simp; exact hne) | exact hne)⟩) (by assumption) ?_; (try simp only [Act.put, List.setIfInBounds_toArray, List.set_cons_zero, List.set_cons_succ]))
      refine wpAnyH_done (by kernel_rfl) ?_ _
      clear hHeld hne
      obtain ⟨u0, u1, u2⟩ := cells3_row HGd.out
      go_wp2_with (refine wpList_append_per (o := ⟨some 25, _, _, _, _, _⟩) rfl (.tmp 22) (.tmp 24) rfl rfl w.heap.size u3 (persL c.k c.F j) rfl (HOd.out.on (below_alloc _ _)) (some ⟨wd.heap.size, 0, none⟩) 1 1 [(k, y, i)] rfl rfl (boxPerV (heap_alloc_new _ _)) (by simp) HLn.out (by have := HBd.out.size; simp; omega) ?_; intro v' wa hv hg; refine Stop.out ?_)
      unfold Stop
      clear u0 u1 u2
      have HBa := Lib.hid ((below_any HBd.out (Nat.le_refl _) (below_alloc wd _)).grown hg (by have := HBd.out.size; simp; omega) (fun k hk => (own_lt HOd.out k hk).1))
      have HGa := Lib.hid ((hg.block g (by simp; have := heapLt HGd.out; omega) HGn.out.symm).trans (heap_on (below_alloc wd _) HGd.out))
      have HVa := Lib.hid hv
      clear hv hg
      obtain ⟨u0, u1, u2⟩ := cells3_row HGa.out
      have HRn := Lib.hid (heap_alloc_new wa (.cells #[.int .i64 k, .int .i64 y, .int .i64 i] 24))
      have HBn := Lib.hid (below_any HBa.out (Nat.le_refl _) (below_alloc wa (.cells #[.int .i64 k, .int .i64 y, .int .i64 i] 24)))
      go_wp2_with (go_at_call 40; refine (HBh.out _).mono ?_; rintro e wb ⟨rfl, hb⟩; have HRb := Lib.hid (heap_on hb HRn.out); have HVb := Lib.hid ((HVa.out.on (below_alloc _ _)).on hb); have HBb := Lib.hid (below_any HBn.out (Nat.le_refl _) hb); obtain ⟨f0, f1, f2⟩ := frozen3_row HRb.out; obtain ⟨x0, x1, x2⟩ := cells3_row HRb.out; clear hb)
      go_roundw
      case rel =>
        have e := persL_succ c.k c.F j
        rw [HK.out.1, HK.out.2.1, HK.out.2.2] at e
        refine ⟨j + 1, wa.heap.size, by omega, rfl, Lib.hid ?_, Lib.hid ?_, Lib.hid HBa.out.size, Lib.hid ?_, Lib.hid (below_put3 HBb.out HBa.out.size)⟩
        · rw [e]; exact HVb.out.put _ _ _ _ (fun q => Nat.lt_irrefl _ (own_lt HVa.out _ q).2)
        · have h6 := put3_row (.int .i64 k') (.int .i64 y') (.int .i64 i') HRb.out
          rw [← HN.out.1, ← HN.out.2.1, ← HN.out.2.2]
          exact h6
        · exact fun q => Nat.lt_irrefl _ (own_lt HVa.out _ q).2
      case measure =>
        rw [HVa.out.len, HOd.out.len]
        simp [persL_len]
        omega
    · obtain rfl : j = m := by omega
      have hgr := HGr.out
      rw [HMm.out.1] at hgr
      obtain ⟨k2, hk2⟩ : ∃ k2, k2 = Civ.perK c.k c.B := ⟨_, rfl⟩
      obtain ⟨y2, hy2⟩ : ∃ y2, y2 = Civ.perY c.k c.B := ⟨_, rfl⟩
      obtain ⟨i2, hi2⟩ : ∃ i2, i2 = Civ.perI c.k c.B := ⟨_, rfl⟩
      rw [← hk2, ← hy2, ← hi2] at hn1 hgr
      have HS := Lib.hid (And.intro (cell_of_row _ _ 0 _ _ _ hgr) (And.intro (cell_of_row _ _ 1 _ _ _ hgr) (And.intro (cell_of_row _ _ 2 _ _ _ hgr) hn1)))
      have HOd : Hid (OwnPerV wr.drew w.heap.size u3 (persL c.k c.F j)) := Lib.hid (HOl.out.on (Below.refl _ _).drew)
      have HBd := Lib.hid HBr.out.drew
      clear hn1 hgr hk2 hy2 hi2 HOl HGr HBr
      go_wp2_with fail
      refine wp_region_held_drew (S := fun W => W.cell? ⟨g, 0, none⟩ = some (.int .i64 k2) ∧ W.cell? ⟨g, 1, none⟩ = some (.int .i64 y2) ∧ W.cell? ⟨g, 2, none⟩ = some (.int .i64 i2) ∧ W.cell? ⟨P, 6, none⟩ = some (.int .i64 k2) ∧ W.cell? ⟨P, 7, none⟩ = some (.int .i64 y2) ∧ W.cell? ⟨P, 8, none⟩ = some (.int .i64 i2)) (by kernel_rfl) HS.out ?_
      intro hHeld
      clear HS
      generalize wr.drew = wd at HOd HBd hHeld ⊢
      (refine takeH (i := 0) (v := ?_) rfl (by kernel_rfl) (by kernel_rfl) (by kernel_rfl) (fun _ _ _ h => h) (Or.inl ⟨by rfl, ?_⟩) (by assumption) ?_; rotate_left; (focus ((intro wS hSw); (try dsimp only at hSw); obtain ⟨s0, s1, s2, s3, s4, s5⟩ := hSw; go_simp; (try with_reducible rfl); done)); (try simp only [Act.put, List.setIfInBounds_toArray, List.set_cons_zero, List.set_cons_succ]))
      (refine takeH (i := 1) (v := ?_) rfl (by kernel_rfl) (by kernel_rfl) (by kernel_rfl) (fun _ _ _ h => h) (Or.inl ⟨by rfl, ?_⟩) (by assumption) ?_; rotate_left; (focus ((intro wS hSw); (try dsimp only at hSw); obtain ⟨s0, s1, s2, s3, s4, s5⟩ := hSw; go_simp; (try with_reducible rfl); done)); (try simp only [Act.put, List.setIfInBounds_toArray, List.set_cons_zero, List.set_cons_succ]))
      (refine takeH (i := 2) (v := ?_) rfl (by kernel_rfl) (by kernel_rfl) (by kernel_rfl) (fun _ _ _ h => h) (Or.inl ⟨by rfl, ?_⟩) (by assumption) ?_; rotate_left; (focus ((intro wS hSw); (try dsimp only at hSw); obtain ⟨s0, s1, s2, s3, s4, s5⟩ := hSw; go_simp; (try with_reducible rfl); done)); (try simp only [Act.put, List.setIfInBounds_toArray, List.set_cons_zero, List.set_cons_succ]))
      (refine takeH (i := 3) (v := ?_) rfl (by kernel_rfl) (by kernel_rfl) (by kernel_rfl) (fun _ _ _ h => h) (Or.inl ⟨by rfl, ?_⟩) (by assumption) ?_; rotate_left; (focus ((intro wS hSw); (try dsimp only at hSw); obtain ⟨s0, s1, s2, s3, s4, s5⟩ := hSw; go_simp; (try with_reducible rfl); done)); (try simp only [Act.put, List.setIfInBounds_toArray, List.set_cons_zero, List.set_cons_succ]))
      (refine takeH (i := 4) (v := ?_) rfl (by kernel_rfl) (by kernel_rfl) (by kernel_rfl) (fun _ _ _ h => h) (Or.inl ⟨by rfl, ?_⟩) (by assumption) ?_; rotate_left; (focus ((intro wS hSw); (try dsimp only at hSw); obtain ⟨s0, s1, s2, s3, s4, s5⟩ := hSw; go_simp; (try with_reducible rfl); done)); (try simp only [Act.put, List.setIfInBounds_toArray, List.set_cons_zero, List.set_cons_succ]))
      (refine takeH (i := 5) (v := ?_) rfl (by kernel_rfl) (by kernel_rfl) (by kernel_rfl) (fun _ _ _ h => h) (Or.inl ⟨by rfl, ?_⟩) (by assumption) ?_; rotate_left; (focus ((intro wS hSw); (try dsimp only at hSw); obtain ⟨s0, s1, s2, s3, s4, s5⟩ := hSw; go_simp; (try with_reducible rfl); done)); (try simp only [Act.put, List.setIfInBounds_toArray, List.set_cons_zero, List.set_cons_succ]))
      (refine takeH (i := 6) (v := ?_) rfl (by kernel_rfl) (by kernel_rfl) (by kernel_rfl) (fun _ _ _ h => h) (Or.inl ⟨by rfl, ?_⟩) (by assumption) ?_; rotate_left; (focus ((intro wS hSw); (try dsimp only at hSw); obtain ⟨s0, s1, s2, s3, s4, s5⟩ := hSw; go_simp; (try with_reducible rfl); done)); (try simp only [Act.put, List.setIfInBounds_toArray, List.set_cons_zero, List.set_cons_succ]))
      refine wpAnyH_done (by kernel_rfl) ?_ _
      clear hHeld
      go_wp2
      go_ret
      exact ⟨_, rfl, HOd.out, HBd.out⟩
end Go.Proofs.Ytdacpiegfobhbaa
