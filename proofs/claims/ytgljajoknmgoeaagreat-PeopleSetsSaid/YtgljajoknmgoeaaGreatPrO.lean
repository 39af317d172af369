/- The document's people: a status set. -/
import Derived.Test.YtgljajoknmgoeaaGreatPrM
namespace Go.Proofs.YtgljajoknmgoeaaGreat
open Go.RowKit
set_option maxRecDepth 100000
attribute [local go_sem] Oper.semAt_some

theorem RowSt.others {w W : World} {A : Option Addr} {L : List St} {S : Nat → Prop} (h : RowSt w A L) (hA : L ≠ [] → ∀ a, A = some a → ¬ S a.block) (hs : w.heap.size ≤ W.heap.size) (k : ∀ i, ¬ S i → W.heap[i]? = w.heap[i]?) : RowSt W A L := fun hn => by
  obtain ⟨b, o, ea, hb, hr⟩ := h hn
  exact ⟨b, o, ea, Nat.lt_of_lt_of_le hb hs, fun j v hv => (World.cell?_of_block (k b (hA hn _ ea))).trans (hr j v hv)⟩
theorem RowSt.no_box {w : World} {A : Option Addr} {L : List St} {g : Nat} {a b c : Value} {t : TypeId} (h : RowSt w A L) (hg : w.heap[g]? = some (.cells #[a, b, c] t (0, 0))) (hb : ∀ i, b ≠ .int .i64 i) (hc : ∀ i, c ≠ .int .i64 i) : L ≠ [] → ∀ q, A = some q → q.block ≠ g := fun hn q hq e => by
  obtain ⟨b0, o, ea, hb0, hr⟩ := h hn
  rw [hq] at ea
  injection ea with ea
  subst ea
  have e' : b0 = g := e
  subst e'
  have h0 := hr _ _ (flatsSt_at L 0 (List.length_pos_iff.2 hn)).2.1
  rw [cell_of_row _ _ _ _ _ _ hg] at h0
  match o with
  | 0 => simp at h0; exact hb _ h0
  | 1 => simp at h0; exact hc _ h0
  | k + 2 => simp at h0
def stE (M : List St) (c m : ByteArray) (f u : Int) : Int := if rightP c m = true then refE 256 (lineD M (c ++ m)) f u else 40
def stL (M : List St) (c m : ByteArray) (p : Sp) : List St := if stE M c m p.1 p.2.1 = 0 then M ++ [(c ++ m, p)] else M
def StQ (w : World) (home : ByteArray) (AO : Option Addr) (nO cO : Nat) (M : List St) (c m : ByteArray) (f u x : Int) (e : Ending) (w' : World) : Prop :=
  ∃ A' c', e = .returned (.tuple #[.agg #[.string home, .slice AO nO cO, .slice A' (stL M c m (f, u, x)).length c'], .int .i64 (stE M c m f u)]) ∧ RowSt w' A' (stL M c m (f, u, x)) ∧ (A' = none → stL M c m (f, u, x) = []) ∧ Below w.heap.size w w'
/-- what stands behind the setting -/
theorem set_fin {w wd w4 : World} {home : ByteArray} {AO A A3 : Option Addr} {nO cO n c c3 : Nat} {L : List St} {N : Nat} (hN : N = L.length) (hBD : Below w.heap.size w wd) (hG : Below wd.heap.size wd w4) (hLt : w.heap.size + 1 < wd.heap.size ∧ w.heap.size < wd.heap.size)
    (hP : wd.heap[w.heap.size]? = some (.cells #[.string home, .slice AO nO cO, .slice A n c] 35 (0, 0)) ∧ wd.heap[w.heap.size + 1 + 1]? = some (.cells #[.string { data := #[] }, .slice none 0 0, .slice none 0 0] 35 (0, 0))) (hO : OwnSt w4 wd.heap.size (.slice A3 N c3) L) :
    ((w4.setCell ⟨w.heap.size, 2, none⟩ (.slice A3 N c3)).heap[w.heap.size + 1 + 1]? = some (.cells #[.string { data := #[] }, .slice none 0 0, .slice none 0 0] 35 (0, 0)) ∧ (w4.setCell ⟨w.heap.size, 2, none⟩ (.slice A3 N c3)).heap[w.heap.size]? = some (.cells #[.string home, .slice AO nO cO, .slice A3 N c3] 35 (0, 0))) ∧
    (∀ x y z, RowSt ((((w4.setCell ⟨w.heap.size, 2, none⟩ (.slice A3 N c3)).setCell ⟨w.heap.size + 1 + 1, 0, none⟩ x).setCell ⟨w.heap.size + 1 + 1, 1, none⟩ y).setCell ⟨w.heap.size + 1 + 1, 2, none⟩ z) A3 L ∧ (A3 = none → L = []) ∧
      Below w.heap.size w ((((w4.setCell ⟨w.heap.size, 2, none⟩ (.slice A3 N c3)).setCell ⟨w.heap.size + 1 + 1, 0, none⟩ x).setCell ⟨w.heap.size + 1 + 1, 1, none⟩ y).setCell ⟨w.heap.size + 1 + 1, 2, none⟩ z)) := by
  have hz := heapLt hP.2
  have hN1 := hN
  have p4 := (hG.block _ hLt.2).trans hP.1
  have t4 := (hG.block _ hz).trans hP.2
  obtain ⟨A4, c4, e, hr, hn⟩ := hO.form
  injection e with e1 e2 e3
  subst e1 e3
  have nb := hr.no_box p4 (by simp) (by simp)
  have nt := hr.no_box t4 (by simp) (by simp)
  have hT2 : (w4.setCell ⟨w.heap.size, 2, none⟩ (.slice A3 N c3)).heap[w.heap.size + 1 + 1]? = some (.cells #[.string { data := #[] }, .slice none 0 0, .slice none 0 0] 35 (0, 0)) := (heap_setCell_other _ _ _ _ (by simp; omega)).trans t4
  refine ⟨⟨hT2, heap_setCell_same w4 w.heap.size 2 _ _ _ p4⟩, fun x y z => ⟨?_, hn, ?_⟩⟩
  · refine hr.others (S := fun i => i = w.heap.size ∨ i = w.heap.size + 1 + 1) (fun hn q hq hs => hs.elim (nb hn q hq) (nt hn q hq)) (by simp) (fun i hi => ?_)
    rw [set3_other (fun e => hi (.inr e)), heap_setCell_other _ _ _ _ (by simpa using fun e => hi (.inl e))]
  · exact set3_below ((hBD.trans (hG.mono (by omega))).setCell (p := ⟨w.heap.size, 2, none⟩) (by simp) _) (by omega)
set_option maxHeartbeats 1000000 in
theorem ref_pset_name (home : ByteArray) (AO : Option Addr) (nO cO : Nat) (A : Option Addr) (cM : Nat) (M : List St) (c m : ByteArray) (f u x : Int) (w : World) (hr : RowSt w A M) (hn : A = none → M = []) (hc : c.size ≤ 500) (hm : m.size ≤ 500) (hq : rightP c m = false) :
    Calls Tryz.prog 13 #[.agg #[.string home, .slice AO nO cO, .slice A M.length cM], .string c, .string m, .agg #[.int .i64 f, .int .i64 u, .int .i64 x]] w (StQ w home AO nO cO M c m f u x) := by
  have HI := Lib.hid (chI w home AO nO cO A M.length cM f u x)
  have HRr := Lib.hid (fun W => ref_right c m W (by omega) (by omega))
  rw [hq] at HRr
  have e1 : stE M c m f u = 40 := by unfold stE; rw [hq]; rfl
  have e2 : stL M c m (f, u, x) = M := by unfold stL; rw [if_neg (by rw [e1]; decide)]
  unfold StQ
  rw [e1, e2]
  have HR := Lib.hid (And.intro hr hn)
  clear hr hn hq e1 e2
  go_enter Tryz.func13, Tryz.ntmps13
  go_wp2_with (go_at_call 31; refine (HRr.out _).mono ?_; rintro e w1 ⟨rfl, hb⟩; have HI1 := Lib.hid (HI.out.on hb); clear hb; refine Stop.out ?_)
  unfold Stop
  have hP := HI1.out.1
  have hT := HI1.out.2.2.1
  unfold pCells at hP hT
  obtain ⟨p0, p1, p2⟩ := row3a hP
  obtain ⟨z0, z1, z2⟩ := frz hT
  obtain ⟨t0, t1, t2⟩ := row3a hT
  have HP := Lib.hid (And.intro hP hT)
  clear hP hT
  go_wp2
  refine bodyPost_ret (results_pp rfl _ _ (w.heap.size + 1 + 1) _ _ _ _ rfl rfl (set3 HP.out.2)) rfl ?_
  have nt := (HR.out.1.on HI1.out.2.2.2).no_box HP.out.2 (by simp) (by simp)
  exact ⟨A, cM, rfl, (HR.out.1.on HI1.out.2.2.2).others (S := fun i => i = w.heap.size + 1 + 1) (fun hn q hq hs => nt hn q hq hs) (by simp) (fun i hi => set3_other hi), HR.out.2, set3_below HI1.out.2.2.2 (by omega)⟩
set_option maxHeartbeats 2000000 in
theorem ref_pset_right (home : ByteArray) (AO : Option Addr) (nO cO : Nat) (A : Option Addr) (cM : Nat) (M : List St) (c m : ByteArray) (f u x : Int) (w : World) (hr : RowSt w A M) (hn : A = none → M = []) (hl : M.length ≤ 90) (hc : c.size ≤ 500) (hm : m.size ≤ 500) (hq : rightP c m = true) (s : ByteArray) (hs : s = c ++ m) (E0 : Int) (hE0 : E0 = refE 256 (lineD M s) f u) :
    Calls Tryz.prog 13 #[.agg #[.string home, .slice AO nO cO, .slice A M.length cM], .string c, .string m, .agg #[.int .i64 f, .int .i64 u, .int .i64 x]] w (StQ w home AO nO cO M c m f u x) := by
  have hle : ¬ 9223372036854775807 < c.size + m.size := by omega
  have HI := Lib.hid (chI w home AO nO cO A M.length cM f u x)
  have HRr := Lib.hid (fun W => ref_right c m W (by omega) (by omega))
  rw [hq] at HRr
  have HLi0 : Hid (∀ V, Below w.heap.size w V → Calls Tryz.prog 32 #[.agg #[.string home, .slice AO nO cO, .slice A M.length cM], .string s] V fun e w' => ∃ v, e = .returned v ∧ OwnQ w' V.heap.size v (lineD M s) ∧ Below V.heap.size V w') := Lib.hid (fun V hV => ref_line home AO nO cO A cM M s V (hr.on hV) (by omega))
  have HSe : Hid (∀ V A2 c2, Row V A2 (lineD M s) → (A2 = none → lineD M s = []) → Calls Tryz.prog 29 #[.slice A2 (lineD M s).length c2, .int .i64 256, .agg #[.int .i64 f, .int .i64 u, .int .i64 x]] V fun e w' => ∃ A' c', e = .returned (.tuple #[.slice A' (refL 256 (lineD M s) (f, u, x)).length c', .int .i64 E0]) ∧ Row w' A' (refL 256 (lineD M s) (f, u, x)) ∧ (A' = none → refL 256 (lineD M s) (f, u, x) = []) ∧ Below V.heap.size V w') := Lib.hid (fun V A2 c2 h1 h2 => by
    have := ref_set V A2 c2 256 (lineD M s) f u x h1 h2 (by have := lineD_len M s; omega)
    unfold SetQ at this
    rw [← hE0] at this
    exact this)
  have hE : stE M c m f u = E0 := by unfold stE; rw [hq, if_pos rfl, hE0, hs]
  unfold StQ
  have HEt := Lib.hid hE
  have HSs := Lib.hid hs
  have HR := Lib.hid (And.intro hr hn)
  have HSh := Lib.hid hl
  clear hr hn hq hE hE0 hs hl
  go_enter Tryz.func13, Tryz.ntmps13
  go_wp2_with (go_at_call 31; refine (HRr.out _).mono ?_; rintro e w1 ⟨rfl, hb⟩; have HI1 := Lib.hid (HI.out.on hb); clear hb; refine Stop.out ?_)
  unfold Stop
  go_wp2
  have HId := Lib.hid (HI1.out.on (below_drew w1))
  have hP := HId.out.1
  unfold pCells at hP
  obtain ⟨p0, p1, p2⟩ := row3a hP
  obtain ⟨s0, s1, s2⟩ := row3a HId.out.2.1
  refine wp_region_held_drew (S := fun V => V.cell? ⟨w.heap.size, 0, none⟩ = some (.string home) ∧ V.cell? ⟨w.heap.size, 1, none⟩ = some (.slice AO nO cO) ∧ V.cell? ⟨w.heap.size, 2, none⟩ = some (.slice A M.length cM) ∧ V.cell? ⟨w.heap.size + 1, 0, none⟩ = some (.int .i64 f) ∧ V.cell? ⟨w.heap.size + 1, 1, none⟩ = some (.int .i64 u) ∧ V.cell? ⟨w.heap.size + 1, 2, none⟩ = some (.int .i64 x)) (by kernel_rfl) ⟨p0, p1, p2, s0, s1, s2⟩ ?_
  intro hHeld
  clear hP p0 p1 p2 s0 s1 s2 HI HI1 HRr
  generalize w1.drew = wd at HId hHeld ⊢
  have HLi : Hid (∀ V, Below wd.heap.size wd V → Calls Tryz.prog 32 #[.agg #[.string home, .slice AO nO cO, .slice A M.length cM], .string s] V fun e w' => ∃ v, e = .returned v ∧ OwnQ w' V.heap.size v (lineD M s) ∧ Below V.heap.size V w') := Lib.hid (fun V hV => HLi0.out V (HId.out.2.2.2.trans (hV.mono HId.out.2.2.2.size)))
  clear HLi0
  (refine takeH (i := 0) (v := ?_) rfl (by kernel_rfl) (by kernel_rfl) (by kernel_rfl) (fun _ _ _ h => h) (Or.inl ⟨by rfl, ?_⟩) (by assumption) ?_; rotate_left; (focus ((intro wS hSw); (try dsimp only at hSw); obtain ⟨s0, s1, s2, s3, s4, s5⟩ := hSw; go_simp; (try with_reducible rfl); done)); (try simp only [Act.put, List.setIfInBounds_toArray, List.set_cons_zero, List.set_cons_succ]))
  (refine takeH (i := 1) (v := ?_) rfl (by kernel_rfl) (by kernel_rfl) (by kernel_rfl) (fun _ _ _ h => h) (Or.inl ⟨by rfl, ?_⟩) (by assumption) ?_; rotate_left; (focus ((intro wS hSw); (try dsimp only at hSw); obtain ⟨s0, s1, s2, s3, s4, s5⟩ := hSw; go_simp; (try with_reducible rfl); done)); (try simp only [Act.put, List.setIfInBounds_toArray, List.set_cons_zero, List.set_cons_succ]))
  (refine takeH (i := 2) (v := ?_) rfl (by kernel_rfl) (by kernel_rfl) (by kernel_rfl) (fun _ _ _ h => h) (Or.inl ⟨by rfl, ?_⟩) (by assumption) ?_; rotate_left; (focus ((intro wS hSw); (try dsimp only at hSw); obtain ⟨s0, s1, s2, s3, s4, s5⟩ := hSw; go_simp; (try with_reducible rfl); done)); (try simp only [Act.put, List.setIfInBounds_toArray, List.set_cons_zero, List.set_cons_succ]))
  (refine takeH (i := 3) (v := (.string s)) rfl (by kernel_rfl) (by kernel_rfl) (by kernel_rfl) (fun _ _ _ h => h) (Or.inl ⟨by rfl, by (intro wS hSw); (try dsimp only at hSw); clear hSw hHeld; rw [HSs.out]; go_simp⟩) (by assumption) ?_; (try simp only [Act.put, List.setIfInBounds_toArray, List.set_cons_zero, List.set_cons_succ]))
  (refine takeH (i := 5) (v := ?_) rfl (by kernel_rfl) (by kernel_rfl) (by kernel_rfl) (fun _ _ _ h => h) (Or.inl ⟨by rfl, ?_⟩) (by assumption) ?_; rotate_left; (focus ((intro wS hSw); (try dsimp only at hSw); obtain ⟨s0, s1, s2, s3, s4, s5⟩ := hSw; go_simp; (try with_reducible rfl); done)); (try simp only [Act.put, List.setIfInBounds_toArray, List.set_cons_zero, List.set_cons_succ]))
  refine aloneH (i := 4) rfl (by kernel_rfl) (fun K hK => ?_)
  rw [if_pos (by rfl)]
  go_simp; ((refine (HLi.out wd (below_same wd)).mono ?_); (rintro e w1 ⟨v, rfl, ho, hb⟩); obtain ⟨A2, c2, rfl, hr2, hn2⟩ := ho.form; have HR2 := Lib.hid (And.intro hr2 hn2); have HB1 := Lib.hid hb; clear hb ho hr2 hn2; (try go_simp))
  refine hK.out _ _ (⟨cell_on HB1.out hHeld.1, cell_on HB1.out hHeld.2.1, cell_on HB1.out hHeld.2.2.1, cell_on HB1.out hHeld.2.2.2.1, cell_on HB1.out hHeld.2.2.2.2.1, cell_on HB1.out hHeld.2.2.2.2.2⟩) (fun hNew => ?_)
  clear hK K hHeld; (have hHeld := hNew); clear hNew; (try simp only [Act.put, List.setIfInBounds_toArray, List.set_cons_zero, List.set_cons_succ])
  refine aloneH (i := 6) rfl (by kernel_rfl) (fun K hK => ?_)
  rw [if_pos (by rfl)]
  go_simp; ((refine (HSe.out w1 A2 c2 HR2.out.1 HR2.out.2).mono ?_); (rintro e w2 ⟨A3, c3, rfl, _, _, hb⟩); have HB2 := Lib.hid hb; clear hb; (try go_simp))
  refine hK.out _ _ (⟨cell_on HB2.out hHeld.1, cell_on HB2.out hHeld.2.1, cell_on HB2.out hHeld.2.2.1, cell_on HB2.out hHeld.2.2.2.1, cell_on HB2.out hHeld.2.2.2.2.1, cell_on HB2.out hHeld.2.2.2.2.2⟩) (fun hNew => ?_)
  clear hK K hHeld; (have hHeld := hNew); clear hNew; (try simp only [Act.put, List.setIfInBounds_toArray, List.set_cons_zero, List.set_cons_succ])
  (refine takeH (i := 7) (v := ?_) rfl (by kernel_rfl) (by kernel_rfl) (by kernel_rfl) (fun _ _ _ h => h) (Or.inl ⟨by rfl, ?_⟩) (by assumption) ?_; rotate_left; (focus ((intro wS hSw); (try dsimp only at hSw); obtain ⟨s0, s1, s2, s3, s4, s5⟩ := hSw; go_simp; (try with_reducible rfl); done)); (try simp only [Act.put, List.setIfInBounds_toArray, List.set_cons_zero, List.set_cons_succ]))
  (refine takeH (i := 8) (v := ?_) rfl (by kernel_rfl) (by kernel_rfl) (by kernel_rfl) (fun _ _ _ h => h) (Or.inl ⟨by rfl, ?_⟩) (by assumption) ?_; rotate_left; (focus ((intro wS hSw); (try dsimp only at hSw); obtain ⟨s0, s1, s2, s3, s4, s5⟩ := hSw; go_simp; (try with_reducible rfl); done)); (try simp only [Act.put, List.setIfInBounds_toArray, List.set_cons_zero, List.set_cons_succ]))
  (refine takeH (i := 9) (v := ?_) rfl (by kernel_rfl) (by kernel_rfl) (by kernel_rfl) (fun _ _ _ h => h) (Or.inl ⟨by rfl, ?_⟩) (by assumption) ?_; rotate_left; (focus ((intro wS hSw); (try dsimp only at hSw); obtain ⟨s0, s1, s2, s3, s4, s5⟩ := hSw; go_simp; (try with_reducible rfl); done)); (try simp only [Act.put, List.setIfInBounds_toArray, List.set_cons_zero, List.set_cons_succ]))
  (refine takeH (i := 10) (v := ?_) rfl (by kernel_rfl) (by kernel_rfl) (by kernel_rfl) (fun _ _ _ h => h) (Or.inl ⟨by rfl, ?_⟩) (by assumption) ?_; rotate_left; (focus ((intro wS hSw); (try dsimp only at hSw); obtain ⟨s0, s1, s2, s3, s4, s5⟩ := hSw; go_simp; (try with_reducible rfl); done)); (try simp only [Act.put, List.setIfInBounds_toArray, List.set_cons_zero, List.set_cons_succ]))
  (refine takeH (i := 11) (v := ?_) rfl (by kernel_rfl) (by kernel_rfl) (by kernel_rfl) (fun _ _ _ h => h) (Or.inl ⟨by rfl, ?_⟩) (by assumption) ?_; rotate_left; (focus ((intro wS hSw); (try dsimp only at hSw); obtain ⟨s0, s1, s2, s3, s4, s5⟩ := hSw; go_simp; (try with_reducible rfl); done)); (try simp only [Act.put, List.setIfInBounds_toArray, List.set_cons_zero, List.set_cons_succ]))
  refine wpAnyH_done (by kernel_rfl) ?_ _
  clear hHeld
  have HI3 := Lib.hid (HId.out.on (below_then HB1.out HB2.out))
  clear HB1 HB2 HR2 HId
  generalize w2 = w5 at HI3 ⊢
  clear HLi HSe
  by_cases hE0 : E0 = 0
  · subst hE0
    have HEq : Hid (stE M c m f u = 0 ∧ stL M c m (f, u, x) = M ++ [(s, f, u, x)]) := Lib.hid ⟨HEt.out, by unfold stL; rw [if_pos HEt.out, HSs.out]⟩
    clear HEt
    go_wp2
    have HId := Lib.hid (HI3.out.on (below_drew w5))
    obtain ⟨s0, s1, s2⟩ := row3a HId.out.2.1
    refine wp_region_held_drew (S := fun V => V.cell? ⟨w.heap.size + 1, 0, none⟩ = some (.int .i64 f) ∧ V.cell? ⟨w.heap.size + 1, 1, none⟩ = some (.int .i64 u) ∧ V.cell? ⟨w.heap.size + 1, 2, none⟩ = some (.int .i64 x)) (by kernel_rfl) ⟨s0, s1, s2⟩ ?_
    intro hHeld
    clear s0 s1 s2 HI3
    generalize w5.drew = wd at HId hHeld ⊢
    have hP := HId.out.1
    have hT := HId.out.2.2.1
    unfold pCells at hP hT
    have HPb := Lib.hid (And.intro hP hT)
    have HBD := Lib.hid HId.out.2.2.2
    have HLt : Hid (w.heap.size + 1 < wd.heap.size ∧ w.heap.size < wd.heap.size) := Lib.hid (by have := heapLt hT; omega)
    have HG0 : Hid (Below wd.heap.size wd wd) := Lib.hid (Below.refl _ _)
    clear hP hT HId
    (refine takeH (i := 1) (v := ?_) rfl (by kernel_rfl) (by kernel_rfl) (by kernel_rfl) (fun _ _ _ h => h) (Or.inl ⟨by rfl, ?_⟩) (by assumption) ?_; rotate_left; (focus ((intro wS hSw); (try dsimp only at hSw); obtain ⟨s0, s1, s2⟩ := hSw; go_simp; (try with_reducible rfl); done)); (try simp only [Act.put, List.setIfInBounds_toArray, List.set_cons_zero, List.set_cons_succ]))
    (refine takeH (i := 4) (v := ?_) rfl (by kernel_rfl) (by kernel_rfl) (by kernel_rfl) (fun _ _ _ h => h) (Or.inl ⟨by rfl, ?_⟩) (by assumption) ?_; rotate_left; (focus ((intro wS hSw); (try dsimp only at hSw); obtain ⟨s0, s1, s2⟩ := hSw; go_simp; (try with_reducible rfl); done)); (try simp only [Act.put, List.setIfInBounds_toArray, List.set_cons_zero, List.set_cons_succ]))
    (refine takeH (i := 5) (v := ?_) rfl (by kernel_rfl) (by kernel_rfl) (by kernel_rfl) (fun _ _ _ h => h) (Or.inl ⟨by rfl, ?_⟩) (by assumption) ?_; rotate_left; (focus ((intro wS hSw); (try dsimp only at hSw); obtain ⟨s0, s1, s2⟩ := hSw; go_simp; (try with_reducible rfl); done)); (try simp only [Act.put, List.setIfInBounds_toArray, List.set_cons_zero, List.set_cons_succ]))
    (refine takeH (i := 6) (v := (.string s)) rfl (by kernel_rfl) (by kernel_rfl) (by kernel_rfl) (fun _ _ _ h => h) (Or.inl ⟨by rfl, by (intro wS hSw); (try dsimp only at hSw); clear hSw hHeld; rw [HSs.out]; go_simp⟩) (by assumption) ?_; (try simp only [Act.put, List.setIfInBounds_toArray, List.set_cons_zero, List.set_cons_succ]))
    (refine takeH (i := 7) (v := ?_) rfl (by kernel_rfl) (by kernel_rfl) (by kernel_rfl) (fun _ _ _ h => h) (Or.inl ⟨by rfl, ?_⟩) (by assumption) ?_; rotate_left; (focus ((intro wS hSw); (try dsimp only at hSw); obtain ⟨s0, s1, s2⟩ := hSw; go_simp; (try with_reducible rfl); done)); (try simp only [Act.put, List.setIfInBounds_toArray, List.set_cons_zero, List.set_cons_succ]))
    (refine takeH (i := 8) (v := ?_) rfl (by kernel_rfl) (by kernel_rfl) (by kernel_rfl) (fun _ _ _ h => h) (Or.inl ⟨by rfl, ?_⟩) (by assumption) ?_; rotate_left; (focus ((intro wS hSw); (try dsimp only at hSw); obtain ⟨s0, s1, s2⟩ := hSw; go_simp; (try with_reducible rfl); done)); (try simp only [Act.put, List.setIfInBounds_toArray, List.set_cons_zero, List.set_cons_succ]))
    refine threeH (i := 0) (i2 := 2) (i3 := 9) rfl rfl rfl (by kernel_rfl) (fun K hK => ?_) (fun K hK => ?_) (fun K hK => ?_)
    · rw [if_pos (by rfl)]
      go_simp
      have hO := ownSt_nil wd
      have hL := (below_alloc wd (.cells #[] 69)).mono HG0.out.size
      have hn := heap_alloc_new wd (.cells #[] 69)
      obtain ⟨e0, he0⟩ : ∃ e0, e0 = wd.heap.size := ⟨_, rfl⟩
      have he1 : wd.heap.size ≤ e0 := by rw [he0]; exact HG0.out.size
      rw [← he0] at hO ⊢
      generalize World.alloc wd (.cells #[] 69) = w1 at hO hL hn ⊢
      have HO1 := Lib.hid (hO.less he1)
      have HL1 := Lib.hid hL
      have HG1 : Hid (Below wd.heap.size wd w1) := Lib.hid (HG0.out.trans hL)
      have HE0 : Hid (e0 < w1.heap.size) := Lib.hid (by rw [he0]; exact heapLt hn)
      clear hO hL hn he0 he1
      refine hK.out _ _ (⟨(HL1.out.cell HLt.out.1).trans hHeld.1, (HL1.out.cell HLt.out.1).trans hHeld.2.1, (HL1.out.cell HLt.out.1).trans hHeld.2.2⟩) (fun hNew => ?_)
      clear hK K hHeld; (have hHeld := hNew); clear hNew; (try simp only [Act.put, List.setIfInBounds_toArray, List.set_cons_zero, List.set_cons_succ])
      refine twoH (i := 2) (i2 := 9) rfl rfl (by kernel_rfl) (fun K hK => ?_) (fun K hK => ?_)
      · rw [if_pos (by rfl)]
        obtain ⟨_, _, q2⟩ := row3a ((HG1.out.block _ HLt.out.2).trans HPb.out.1)
        go_simp
        refine hK.out _ _ (hHeld) (fun hNew => ?_)
        clear hK K hHeld; (have hHeld := hNew); clear hNew; (try simp only [Act.put, List.setIfInBounds_toArray, List.set_cons_zero, List.set_cons_succ])
        refine twoH (i := 3) (i2 := 9) rfl rfl (by kernel_rfl) (fun K hK => ?_) (fun K hK => ?_)
        · rw [if_pos (by rfl)]
          refine wp_append_st w1 (.tmp 31) (.tmp 33) rfl rfl wd.heap.size (.slice (some ⟨e0, 0, none⟩) 0 0) [] rfl HO1.out A M.length cM M rfl rfl (HR.out.1.on (HBD.out.trans (HG1.out.mono HBD.out.size))) HR.out.2 (by have := HSh.out; simp; omega) HG1.out.size ?_
          intro v2 wv hown hg
          have hL : Below wd.heap.size w1 wv := (Below.refl _ _).grown hg HG1.out.size (fun k hk => (World.ownsRow.lt HO1.out k hk).1)
          have hO : OwnSt wv wd.heap.size v2 M := hown
          clear hown hg
          generalize wv = w3 at hO hL ⊢
          have HO3 := Lib.hid hO
          have HL3 := Lib.hid hL
          have HG3 : Hid (Below wd.heap.size wd w3) := Lib.hid (HG1.out.trans hL)
          clear hO hL
          refine hK.out _ _ (⟨(HL3.out.cell HLt.out.1).trans hHeld.1, (HL3.out.cell HLt.out.1).trans hHeld.2.1, (HL3.out.cell HLt.out.1).trans hHeld.2.2⟩) (fun hNew => ?_)
          clear hK K hHeld; (have hHeld := hNew); clear hNew; (try simp only [Act.put, List.setIfInBounds_toArray, List.set_cons_zero, List.set_cons_succ])
          refine aloneH (i := 9) rfl (by kernel_rfl) (fun K hK => ?_)
          rw [if_pos (by rfl)]
          go_simp
          have hX := heap_alloc_new w3 (.cells #[.string s, .int .i64 f, .int .i64 u, .int .i64 x] 69)
          have hL := (below_alloc w3 (.cells #[.string s, .int .i64 f, .int .i64 u, .int .i64 x] 69)).mono HG3.out.size
          obtain ⟨b0, hb0⟩ : ∃ b0, b0 = w3.heap.size := ⟨_, rfl⟩
          have hO := HO3.out.on (below_alloc w3 (.cells #[.string s, .int .i64 f, .int .i64 u, .int .i64 x] 69))
          rw [← hb0] at hX ⊢
          generalize World.alloc w3 (.cells #[.string s, .int .i64 f, .int .i64 u, .int .i64 x] 69) = w4 at hX hL hO ⊢
          have HX4 := Lib.hid hX
          have HL4 := Lib.hid hL
          have HG4 : Hid (Below wd.heap.size wd w4) := Lib.hid (HG3.out.trans hL)
          have HO4 := Lib.hid hO
          clear hX hL hb0 hO
          refine hK.out _ _ (⟨(HL4.out.cell HLt.out.1).trans hHeld.1, (HL4.out.cell HLt.out.1).trans hHeld.2.1, (HL4.out.cell HLt.out.1).trans hHeld.2.2⟩) (fun hNew => ?_)
          clear hK K hHeld; (have hHeld := hNew); clear hNew; (try simp only [Act.put, List.setIfInBounds_toArray, List.set_cons_zero, List.set_cons_succ])
          refine aloneH (i := 10) rfl (by kernel_rfl) (fun K hK => ?_)
          rw [if_pos (by rfl)]
          refine wp_append_st w4 (.tmp 34) (.tmp 40) rfl rfl wd.heap.size v2 M rfl HO4.out (some ⟨b0, 0, none⟩) 1 1 [(s, f, u, x)] rfl rfl (boxSt HX4.out) (by simp) (by have := HSh.out; simp; omega) HG4.out.size ?_
          intro v3 wv hown hg
          have hL : Below wd.heap.size w4 wv := (Below.refl _ _).grown hg HG4.out.size (fun k hk => (World.ownsRow.lt HO4.out k hk).1)
          have hO : OwnSt wv wd.heap.size v3 (M ++ [(s, f, u, x)]) := hown
          clear hown hg
          obtain ⟨A3, c3, hv3, _, _⟩ := hO.form
          subst hv3
          obtain ⟨N3, hN3⟩ : ∃ N3, N3 = (M ++ [(s, f, u, x)]).length := ⟨_, rfl⟩
          rw [← hN3] at hO ⊢
          have HN3 := Lib.hid hN3
          clear hN3
          generalize wv = w5 at hO hL ⊢
          have HO5 := Lib.hid hO
          have HL5 := Lib.hid hL
          have HG5 : Hid (Below wd.heap.size wd w5) := Lib.hid (HG4.out.trans hL)
          clear hO hL
          refine hK.out _ _ (⟨(HL5.out.cell HLt.out.1).trans hHeld.1, (HL5.out.cell HLt.out.1).trans hHeld.2.1, (HL5.out.cell HLt.out.1).trans hHeld.2.2⟩) (fun hNew => ?_)
          clear hK K hHeld; (have hHeld := hNew); clear hNew; (try simp only [Act.put, List.setIfInBounds_toArray, List.set_cons_zero, List.set_cons_succ])
          (refine takeH (i := 11) (v := ?_) rfl (by kernel_rfl) (by kernel_rfl) (by kernel_rfl) (fun _ _ _ h => h) (Or.inl ⟨by rfl, ?_⟩) (by assumption) ?_; rotate_left; (focus ((intro wS hSw); (try dsimp only at hSw); obtain ⟨s0, s1, s2⟩ := hSw; go_simp; (try with_reducible rfl); done)); (try simp only [Act.put, List.setIfInBounds_toArray, List.set_cons_zero, List.set_cons_succ]))
          refine aloneH (i := 12) rfl (by kernel_rfl) (fun K hK => ?_)
          rw [if_pos (by rfl)]
          have hpb := (HG5.out.block _ HLt.out.2).trans HPb.out.1
          obtain ⟨_, _, q6⟩ := row3a hpb
          obtain ⟨_, _, z6⟩ := frz hpb
          clear hpb
          go_simp
          refine hK.out _ _ (⟨(World.cell?_of_block (heap_setCell_other _ _ _ _ (by simp <;> omega))).trans hHeld.1, (World.cell?_of_block (heap_setCell_other _ _ _ _ (by simp <;> omega))).trans hHeld.2.1, (World.cell?_of_block (heap_setCell_other _ _ _ _ (by simp <;> omega))).trans hHeld.2.2⟩) (fun hNew => ?_)
          clear hK K hHeld; (have hHeld := hNew); clear hNew; (try simp only [Act.put])
          refine wpAnyH_done (by kernel_rfl) ?_ _
          clear hHeld
          have HFi := Lib.hid (set_fin (home := home) HN3.out HBD.out HG5.out HLt.out HPb.out HO5.out)
          clear HR HPb HSh HLt
          obtain ⟨hT2, hP2⟩ := HFi.out.1
          obtain ⟨t0, t1, t2⟩ := row3a hT2
          obtain ⟨z0, z1, z2⟩ := frz hT2
          obtain ⟨p0, p1, p2⟩ := row3a hP2
          clear hT2 hP2
          go_wp2
          refine bodyPost_ret (results_pp rfl _ _ (w.heap.size + 1 + 1) _ _ _ _ rfl rfl (set3 HFi.out.1.1)) rfl ?_
          rw [HEq.out.1, HEq.out.2]
          exact ⟨A3, c3, by rw [HN3.out]; rfl, HFi.out.2 _ _ _⟩
        · rw [if_pos (by rfl)]
          go_simp
          have hX := heap_alloc_new w1 (.cells #[.string s, .int .i64 f, .int .i64 u, .int .i64 x] 69)
          have hL := (below_alloc w1 (.cells #[.string s, .int .i64 f, .int .i64 u, .int .i64 x] 69)).mono HG1.out.size
          obtain ⟨b0, hb0⟩ : ∃ b0, b0 = w1.heap.size := ⟨_, rfl⟩
          have hO := HO1.out.on (below_alloc w1 (.cells #[.string s, .int .i64 f, .int .i64 u, .int .i64 x] 69))
          have hne : b0 ≠ e0 := by have := HE0.out; omega
          rw [← hb0] at hX ⊢
          generalize World.alloc w1 (.cells #[.string s, .int .i64 f, .int .i64 u, .int .i64 x] 69) = w3 at hX hL hO ⊢
          have HX3 := Lib.hid hX
          have HL3 := Lib.hid hL
          have HG3 : Hid (Below wd.heap.size wd w3) := Lib.hid (HG1.out.trans hL)
          have HO3 := Lib.hid hO
          have HNe := Lib.hid hne
          have HE0 : Hid (e0 < w3.heap.size) := Lib.hid (by have := HE0.out; have := heapLt hX; omega)
          clear hX hL hb0 hO hne
          refine hK.out _ _ (⟨(HL3.out.cell HLt.out.1).trans hHeld.1, (HL3.out.cell HLt.out.1).trans hHeld.2.1, (HL3.out.cell HLt.out.1).trans hHeld.2.2⟩) (fun hNew => ?_)
          clear hK K hHeld; (have hHeld := hNew); clear hNew; (try simp only [Act.put, List.setIfInBounds_toArray, List.set_cons_zero, List.set_cons_succ])
          refine aloneH (i := 3) rfl (by kernel_rfl) (fun K hK => ?_)
          rw [if_pos (by rfl)]
          refine wp_append_st w3 (.tmp 31) (.tmp 33) rfl rfl wd.heap.size (.slice (some ⟨e0, 0, none⟩) 0 0) [] rfl HO3.out A M.length cM M rfl rfl (HR.out.1.on (HBD.out.trans (HG3.out.mono HBD.out.size))) HR.out.2 (by have := HSh.out; simp; omega) HG3.out.size ?_
          intro v2 wv hown hg
          have hL : Below wd.heap.size w3 wv := (Below.refl _ _).grown hg HG3.out.size (fun k hk => (World.ownsRow.lt HO3.out k hk).1)
          have hO : OwnSt wv wd.heap.size v2 M := hown
          have hX := (hg.block b0 (heapLt HX3.out) (fun e => HNe.out (by have e2 : b0 = e0 := Option.some.inj e; exact e2))).trans HX3.out
          clear hown hg
          generalize wv = w4 at hO hL hX ⊢
          have HO4 := Lib.hid hO
          have HL4 := Lib.hid hL
          have HG4 : Hid (Below wd.heap.size wd w4) := Lib.hid (HG3.out.trans hL)
          have HX4 := Lib.hid hX
          clear hO hL hX
          refine hK.out _ _ (⟨(HL4.out.cell HLt.out.1).trans hHeld.1, (HL4.out.cell HLt.out.1).trans hHeld.2.1, (HL4.out.cell HLt.out.1).trans hHeld.2.2⟩) (fun hNew => ?_)
          clear hK K hHeld; (have hHeld := hNew); clear hNew; (try simp only [Act.put, List.setIfInBounds_toArray, List.set_cons_zero, List.set_cons_succ])
          refine aloneH (i := 10) rfl (by kernel_rfl) (fun K hK => ?_)
          rw [if_pos (by rfl)]
          refine wp_append_st w4 (.tmp 34) (.tmp 40) rfl rfl wd.heap.size v2 M rfl HO4.out (some ⟨b0, 0, none⟩) 1 1 [(s, f, u, x)] rfl rfl (boxSt HX4.out) (by simp) (by have := HSh.out; simp; omega) HG4.out.size ?_
          intro v3 wv hown hg
          have hL : Below wd.heap.size w4 wv := (Below.refl _ _).grown hg HG4.out.size (fun k hk => (World.ownsRow.lt HO4.out k hk).1)
          have hO : OwnSt wv wd.heap.size v3 (M ++ [(s, f, u, x)]) := hown
          clear hown hg
          obtain ⟨A3, c3, hv3, _, _⟩ := hO.form
          subst hv3
          obtain ⟨N3, hN3⟩ : ∃ N3, N3 = (M ++ [(s, f, u, x)]).length := ⟨_, rfl⟩
          rw [← hN3] at hO ⊢
          have HN3 := Lib.hid hN3
          clear hN3
          generalize wv = w5 at hO hL ⊢
          have HO5 := Lib.hid hO
          have HL5 := Lib.hid hL
          have HG5 : Hid (Below wd.heap.size wd w5) := Lib.hid (HG4.out.trans hL)
          clear hO hL
          refine hK.out _ _ (⟨(HL5.out.cell HLt.out.1).trans hHeld.1, (HL5.out.cell HLt.out.1).trans hHeld.2.1, (HL5.out.cell HLt.out.1).trans hHeld.2.2⟩) (fun hNew => ?_)
          clear hK K hHeld; (have hHeld := hNew); clear hNew; (try simp only [Act.put, List.setIfInBounds_toArray, List.set_cons_zero, List.set_cons_succ])
          (refine takeH (i := 11) (v := ?_) rfl (by kernel_rfl) (by kernel_rfl) (by kernel_rfl) (fun _ _ _ h => h) (Or.inl ⟨by rfl, ?_⟩) (by assumption) ?_; rotate_left; (focus ((intro wS hSw); (try dsimp only at hSw); obtain ⟨s0, s1, s2⟩ := hSw; go_simp; (try with_reducible rfl); done)); (try simp only [Act.put, List.setIfInBounds_toArray, List.set_cons_zero, List.set_cons_succ]))
          refine aloneH (i := 12) rfl (by kernel_rfl) (fun K hK => ?_)
          rw [if_pos (by rfl)]
          have hpb := (HG5.out.block _ HLt.out.2).trans HPb.out.1
          obtain ⟨_, _, q6⟩ := row3a hpb
          obtain ⟨_, _, z6⟩ := frz hpb
          clear hpb
          go_simp
          refine hK.out _ _ (⟨(World.cell?_of_block (heap_setCell_other _ _ _ _ (by simp <;> omega))).trans hHeld.1, (World.cell?_of_block (heap_setCell_other _ _ _ _ (by simp <;> omega))).trans hHeld.2.1, (World.cell?_of_block (heap_setCell_other _ _ _ _ (by simp <;> omega))).trans hHeld.2.2⟩) (fun hNew => ?_)
          clear hK K hHeld; (have hHeld := hNew); clear hNew; (try simp only [Act.put])
          refine wpAnyH_done (by kernel_rfl) ?_ _
          clear hHeld
          have HFi := Lib.hid (set_fin (home := home) HN3.out HBD.out HG5.out HLt.out HPb.out HO5.out)
          clear HR HPb HSh HLt
          obtain ⟨hT2, hP2⟩ := HFi.out.1
          obtain ⟨t0, t1, t2⟩ := row3a hT2
          obtain ⟨z0, z1, z2⟩ := frz hT2
          obtain ⟨p0, p1, p2⟩ := row3a hP2
          clear hT2 hP2
          go_wp2
          refine bodyPost_ret (results_pp rfl _ _ (w.heap.size + 1 + 1) _ _ _ _ rfl rfl (set3 HFi.out.1.1)) rfl ?_
          rw [HEq.out.1, HEq.out.2]
          exact ⟨A3, c3, by rw [HN3.out]; rfl, HFi.out.2 _ _ _⟩
      · rw [if_pos (by rfl)]
        go_simp
        have hX := heap_alloc_new w1 (.cells #[.string s, .int .i64 f, .int .i64 u, .int .i64 x] 69)
        have hL := (below_alloc w1 (.cells #[.string s, .int .i64 f, .int .i64 u, .int .i64 x] 69)).mono HG1.out.size
        obtain ⟨b0, hb0⟩ : ∃ b0, b0 = w1.heap.size := ⟨_, rfl⟩
        have hO := HO1.out.on (below_alloc w1 (.cells #[.string s, .int .i64 f, .int .i64 u, .int .i64 x] 69))
        have hne : b0 ≠ e0 := by have := HE0.out; omega
        rw [← hb0] at hX ⊢
        generalize World.alloc w1 (.cells #[.string s, .int .i64 f, .int .i64 u, .int .i64 x] 69) = w2 at hX hL hO ⊢
        have HX2 := Lib.hid hX
        have HL2 := Lib.hid hL
        have HG2 : Hid (Below wd.heap.size wd w2) := Lib.hid (HG1.out.trans hL)
        have HO2 := Lib.hid hO
        have HNe := Lib.hid hne
        have HE0 : Hid (e0 < w2.heap.size) := Lib.hid (by have := HE0.out; have := heapLt hX; omega)
        clear hX hL hb0 hO hne
        refine hK.out _ _ (⟨(HL2.out.cell HLt.out.1).trans hHeld.1, (HL2.out.cell HLt.out.1).trans hHeld.2.1, (HL2.out.cell HLt.out.1).trans hHeld.2.2⟩) (fun hNew => ?_)
        clear hK K hHeld; (have hHeld := hNew); clear hNew; (try simp only [Act.put, List.setIfInBounds_toArray, List.set_cons_zero, List.set_cons_succ])
        refine aloneH (i := 2) rfl (by kernel_rfl) (fun K hK => ?_)
        rw [if_pos (by rfl)]
        obtain ⟨_, _, q3⟩ := row3a ((HG2.out.block _ HLt.out.2).trans HPb.out.1)
        go_simp
        refine hK.out _ _ (hHeld) (fun hNew => ?_)
        clear hK K hHeld; (have hHeld := hNew); clear hNew; (try simp only [Act.put, List.setIfInBounds_toArray, List.set_cons_zero, List.set_cons_succ])
        refine aloneH (i := 3) rfl (by kernel_rfl) (fun K hK => ?_)
        rw [if_pos (by rfl)]
        refine wp_append_st w2 (.tmp 31) (.tmp 33) rfl rfl wd.heap.size (.slice (some ⟨e0, 0, none⟩) 0 0) [] rfl HO2.out A M.length cM M rfl rfl (HR.out.1.on (HBD.out.trans (HG2.out.mono HBD.out.size))) HR.out.2 (by have := HSh.out; simp; omega) HG2.out.size ?_
        intro v2 wv hown hg
        have hL : Below wd.heap.size w2 wv := (Below.refl _ _).grown hg HG2.out.size (fun k hk => (World.ownsRow.lt HO2.out k hk).1)
        have hO : OwnSt wv wd.heap.size v2 M := hown
        have hX := (hg.block b0 (heapLt HX2.out) (fun e => HNe.out (by have e2 : b0 = e0 := Option.some.inj e; exact e2))).trans HX2.out
        clear hown hg
        generalize wv = w4 at hO hL hX ⊢
        have HO4 := Lib.hid hO
        have HL4 := Lib.hid hL
        have HG4 : Hid (Below wd.heap.size wd w4) := Lib.hid (HG2.out.trans hL)
        have HX4 := Lib.hid hX
        clear hO hL hX
        refine hK.out _ _ (⟨(HL4.out.cell HLt.out.1).trans hHeld.1, (HL4.out.cell HLt.out.1).trans hHeld.2.1, (HL4.out.cell HLt.out.1).trans hHeld.2.2⟩) (fun hNew => ?_)
        clear hK K hHeld; (have hHeld := hNew); clear hNew; (try simp only [Act.put, List.setIfInBounds_toArray, List.set_cons_zero, List.set_cons_succ])
        refine aloneH (i := 10) rfl (by kernel_rfl) (fun K hK => ?_)
        rw [if_pos (by rfl)]
        refine wp_append_st w4 (.tmp 34) (.tmp 40) rfl rfl wd.heap.size v2 M rfl HO4.out (some ⟨b0, 0, none⟩) 1 1 [(s, f, u, x)] rfl rfl (boxSt HX4.out) (by simp) (by have := HSh.out; simp; omega) HG4.out.size ?_
        intro v3 wv hown hg
        have hL : Below wd.heap.size w4 wv := (Below.refl _ _).grown hg HG4.out.size (fun k hk => (World.ownsRow.lt HO4.out k hk).1)
        have hO : OwnSt wv wd.heap.size v3 (M ++ [(s, f, u, x)]) := hown
        clear hown hg
        obtain ⟨A3, c3, hv3, _, _⟩ := hO.form
        subst hv3
        obtain ⟨N3, hN3⟩ : ∃ N3, N3 = (M ++ [(s, f, u, x)]).length := ⟨_, rfl⟩
        rw [← hN3] at hO ⊢
        have HN3 := Lib.hid hN3
        clear hN3
        generalize wv = w5 at hO hL ⊢
        have HO5 := Lib.hid hO
        have HL5 := Lib.hid hL
        have HG5 : Hid (Below wd.heap.size wd w5) := Lib.hid (HG4.out.trans hL)
        clear hO hL
        refine hK.out _ _ (⟨(HL5.out.cell HLt.out.1).trans hHeld.1, (HL5.out.cell HLt.out.1).trans hHeld.2.1, (HL5.out.cell HLt.out.1).trans hHeld.2.2⟩) (fun hNew => ?_)
        clear hK K hHeld; (have hHeld := hNew); clear hNew; (try simp only [Act.put, List.setIfInBounds_toArray, List.set_cons_zero, List.set_cons_succ])
        (refine takeH (i := 11) (v := ?_) rfl (by kernel_rfl) (by kernel_rfl) (by kernel_rfl) (fun _ _ _ h => h) (Or.inl ⟨by rfl, ?_⟩) (by assumption) ?_; rotate_left; (focus ((intro wS hSw); (try dsimp only at hSw); obtain ⟨s0, s1, s2⟩ := hSw; go_simp; (try with_reducible rfl); done)); (try simp only [Act.put, List.setIfInBounds_toArray, List.set_cons_zero, List.set_cons_succ]))
        refine aloneH (i := 12) rfl (by kernel_rfl) (fun K hK => ?_)
        rw [if_pos (by rfl)]
        have hpb := (HG5.out.block _ HLt.out.2).trans HPb.out.1
        obtain ⟨_, _, q6⟩ := row3a hpb
        obtain ⟨_, _, z6⟩ := frz hpb
        clear hpb
        go_simp
        refine hK.out _ _ (⟨(World.cell?_of_block (heap_setCell_other _ _ _ _ (by simp <;> omega))).trans hHeld.1, (World.cell?_of_block (heap_setCell_other _ _ _ _ (by simp <;> omega))).trans hHeld.2.1, (World.cell?_of_block (heap_setCell_other _ _ _ _ (by simp <;> omega))).trans hHeld.2.2⟩) (fun hNew => ?_)
        clear hK K hHeld; (have hHeld := hNew); clear hNew; (try simp only [Act.put])
        refine wpAnyH_done (by kernel_rfl) ?_ _
        clear hHeld
        have HFi := Lib.hid (set_fin (home := home) HN3.out HBD.out HG5.out HLt.out HPb.out HO5.out)
        clear HR HPb HSh HLt
        obtain ⟨hT2, hP2⟩ := HFi.out.1
        obtain ⟨t0, t1, t2⟩ := row3a hT2
        obtain ⟨z0, z1, z2⟩ := frz hT2
        obtain ⟨p0, p1, p2⟩ := row3a hP2
        clear hT2 hP2
        go_wp2
        refine bodyPost_ret (results_pp rfl _ _ (w.heap.size + 1 + 1) _ _ _ _ rfl rfl (set3 HFi.out.1.1)) rfl ?_
        rw [HEq.out.1, HEq.out.2]
        exact ⟨A3, c3, by rw [HN3.out]; rfl, HFi.out.2 _ _ _⟩
    · rw [if_pos (by rfl)]
      obtain ⟨_, _, q1⟩ := row3a ((HG0.out.block _ HLt.out.2).trans HPb.out.1)
      go_simp
      refine hK.out _ _ (hHeld) (fun hNew => ?_)
      clear hK K hHeld; (have hHeld := hNew); clear hNew; (try simp only [Act.put, List.setIfInBounds_toArray, List.set_cons_zero, List.set_cons_succ])
      refine twoH (i := 0) (i2 := 9) rfl rfl (by kernel_rfl) (fun K hK => ?_) (fun K hK => ?_)
      · rw [if_pos (by rfl)]
        go_simp
        have hO := ownSt_nil wd
        have hL := (below_alloc wd (.cells #[] 69)).mono HG0.out.size
        have hn := heap_alloc_new wd (.cells #[] 69)
        obtain ⟨e0, he0⟩ : ∃ e0, e0 = wd.heap.size := ⟨_, rfl⟩
        have he1 : wd.heap.size ≤ e0 := by rw [he0]; exact HG0.out.size
        rw [← he0] at hO ⊢
        generalize World.alloc wd (.cells #[] 69) = w2 at hO hL hn ⊢
        have HO2 := Lib.hid (hO.less he1)
        have HL2 := Lib.hid hL
        have HG2 : Hid (Below wd.heap.size wd w2) := Lib.hid (HG0.out.trans hL)
        have HE0 : Hid (e0 < w2.heap.size) := Lib.hid (by rw [he0]; exact heapLt hn)
        clear hO hL hn he0 he1
        refine hK.out _ _ (⟨(HL2.out.cell HLt.out.1).trans hHeld.1, (HL2.out.cell HLt.out.1).trans hHeld.2.1, (HL2.out.cell HLt.out.1).trans hHeld.2.2⟩) (fun hNew => ?_)
        clear hK K hHeld; (have hHeld := hNew); clear hNew; (try simp only [Act.put, List.setIfInBounds_toArray, List.set_cons_zero, List.set_cons_succ])
        refine twoH (i := 3) (i2 := 9) rfl rfl (by kernel_rfl) (fun K hK => ?_) (fun K hK => ?_)
        · rw [if_pos (by rfl)]
          refine wp_append_st w2 (.tmp 31) (.tmp 33) rfl rfl wd.heap.size (.slice (some ⟨e0, 0, none⟩) 0 0) [] rfl HO2.out A M.length cM M rfl rfl (HR.out.1.on (HBD.out.trans (HG2.out.mono HBD.out.size))) HR.out.2 (by have := HSh.out; simp; omega) HG2.out.size ?_
          intro v2 wv hown hg
          have hL : Below wd.heap.size w2 wv := (Below.refl _ _).grown hg HG2.out.size (fun k hk => (World.ownsRow.lt HO2.out k hk).1)
          have hO : OwnSt wv wd.heap.size v2 M := hown
          clear hown hg
          generalize wv = w3 at hO hL ⊢
          have HO3 := Lib.hid hO
          have HL3 := Lib.hid hL
          have HG3 : Hid (Below wd.heap.size wd w3) := Lib.hid (HG2.out.trans hL)
          clear hO hL
          refine hK.out _ _ (⟨(HL3.out.cell HLt.out.1).trans hHeld.1, (HL3.out.cell HLt.out.1).trans hHeld.2.1, (HL3.out.cell HLt.out.1).trans hHeld.2.2⟩) (fun hNew => ?_)
          clear hK K hHeld; (have hHeld := hNew); clear hNew; (try simp only [Act.put, List.setIfInBounds_toArray, List.set_cons_zero, List.set_cons_succ])
          refine aloneH (i := 9) rfl (by kernel_rfl) (fun K hK => ?_)
          rw [if_pos (by rfl)]
          go_simp
          have hX := heap_alloc_new w3 (.cells #[.string s, .int .i64 f, .int .i64 u, .int .i64 x] 69)
          have hL := (below_alloc w3 (.cells #[.string s, .int .i64 f, .int .i64 u, .int .i64 x] 69)).mono HG3.out.size
          obtain ⟨b0, hb0⟩ : ∃ b0, b0 = w3.heap.size := ⟨_, rfl⟩
          have hO := HO3.out.on (below_alloc w3 (.cells #[.string s, .int .i64 f, .int .i64 u, .int .i64 x] 69))
          rw [← hb0] at hX ⊢
          generalize World.alloc w3 (.cells #[.string s, .int .i64 f, .int .i64 u, .int .i64 x] 69) = w4 at hX hL hO ⊢
          have HX4 := Lib.hid hX
          have HL4 := Lib.hid hL
          have HG4 : Hid (Below wd.heap.size wd w4) := Lib.hid (HG3.out.trans hL)
          have HO4 := Lib.hid hO
          clear hX hL hb0 hO
          refine hK.out _ _ (⟨(HL4.out.cell HLt.out.1).trans hHeld.1, (HL4.out.cell HLt.out.1).trans hHeld.2.1, (HL4.out.cell HLt.out.1).trans hHeld.2.2⟩) (fun hNew => ?_)
          clear hK K hHeld; (have hHeld := hNew); clear hNew; (try simp only [Act.put, List.setIfInBounds_toArray, List.set_cons_zero, List.set_cons_succ])
          refine aloneH (i := 10) rfl (by kernel_rfl) (fun K hK => ?_)
          rw [if_pos (by rfl)]
          refine wp_append_st w4 (.tmp 34) (.tmp 40) rfl rfl wd.heap.size v2 M rfl HO4.out (some ⟨b0, 0, none⟩) 1 1 [(s, f, u, x)] rfl rfl (boxSt HX4.out) (by simp) (by have := HSh.out; simp; omega) HG4.out.size ?_
          intro v3 wv hown hg
          have hL : Below wd.heap.size w4 wv := (Below.refl _ _).grown hg HG4.out.size (fun k hk => (World.ownsRow.lt HO4.out k hk).1)
          have hO : OwnSt wv wd.heap.size v3 (M ++ [(s, f, u, x)]) := hown
          clear hown hg
          obtain ⟨A3, c3, hv3, _, _⟩ := hO.form
          subst hv3
          obtain ⟨N3, hN3⟩ : ∃ N3, N3 = (M ++ [(s, f, u, x)]).length := ⟨_, rfl⟩
          rw [← hN3] at hO ⊢
          have HN3 := Lib.hid hN3
          clear hN3
          generalize wv = w5 at hO hL ⊢
          have HO5 := Lib.hid hO
          have HL5 := Lib.hid hL
          have HG5 : Hid (Below wd.heap.size wd w5) := Lib.hid (HG4.out.trans hL)
          clear hO hL
          refine hK.out _ _ (⟨(HL5.out.cell HLt.out.1).trans hHeld.1, (HL5.out.cell HLt.out.1).trans hHeld.2.1, (HL5.out.cell HLt.out.1).trans hHeld.2.2⟩) (fun hNew => ?_)
          clear hK K hHeld; (have hHeld := hNew); clear hNew; (try simp only [Act.put, List.setIfInBounds_toArray, List.set_cons_zero, List.set_cons_succ])
          (refine takeH (i := 11) (v := ?_) rfl (by kernel_rfl) (by kernel_rfl) (by kernel_rfl) (fun _ _ _ h => h) (Or.inl ⟨by rfl, ?_⟩) (by assumption) ?_; rotate_left; (focus ((intro wS hSw); (try dsimp only at hSw); obtain ⟨s0, s1, s2⟩ := hSw; go_simp; (try with_reducible rfl); done)); (try simp only [Act.put, List.setIfInBounds_toArray, List.set_cons_zero, List.set_cons_succ]))
          refine aloneH (i := 12) rfl (by kernel_rfl) (fun K hK => ?_)
          rw [if_pos (by rfl)]
          have hpb := (HG5.out.block _ HLt.out.2).trans HPb.out.1
          obtain ⟨_, _, q6⟩ := row3a hpb
          obtain ⟨_, _, z6⟩ := frz hpb
          clear hpb
          go_simp
          refine hK.out _ _ (⟨(World.cell?_of_block (heap_setCell_other _ _ _ _ (by simp <;> omega))).trans hHeld.1, (World.cell?_of_block (heap_setCell_other _ _ _ _ (by simp <;> omega))).trans hHeld.2.1, (World.cell?_of_block (heap_setCell_other _ _ _ _ (by simp <;> omega))).trans hHeld.2.2⟩) (fun hNew => ?_)
          clear hK K hHeld; (have hHeld := hNew); clear hNew; (try simp only [Act.put])
          refine wpAnyH_done (by kernel_rfl) ?_ _
          clear hHeld
          have HFi := Lib.hid (set_fin (home := home) HN3.out HBD.out HG5.out HLt.out HPb.out HO5.out)
          clear HR HPb HSh HLt
          obtain ⟨hT2, hP2⟩ := HFi.out.1
          obtain ⟨t0, t1, t2⟩ := row3a hT2
          obtain ⟨z0, z1, z2⟩ := frz hT2
          obtain ⟨p0, p1, p2⟩ := row3a hP2
          clear hT2 hP2
          go_wp2
          refine bodyPost_ret (results_pp rfl _ _ (w.heap.size + 1 + 1) _ _ _ _ rfl rfl (set3 HFi.out.1.1)) rfl ?_
          rw [HEq.out.1, HEq.out.2]
          exact ⟨A3, c3, by rw [HN3.out]; rfl, HFi.out.2 _ _ _⟩
        · rw [if_pos (by rfl)]
          go_simp
          have hX := heap_alloc_new w2 (.cells #[.string s, .int .i64 f, .int .i64 u, .int .i64 x] 69)
          have hL := (below_alloc w2 (.cells #[.string s, .int .i64 f, .int .i64 u, .int .i64 x] 69)).mono HG2.out.size
          obtain ⟨b0, hb0⟩ : ∃ b0, b0 = w2.heap.size := ⟨_, rfl⟩
          have hO := HO2.out.on (below_alloc w2 (.cells #[.string s, .int .i64 f, .int .i64 u, .int .i64 x] 69))
          have hne : b0 ≠ e0 := by have := HE0.out; omega
          rw [← hb0] at hX ⊢
          generalize World.alloc w2 (.cells #[.string s, .int .i64 f, .int .i64 u, .int .i64 x] 69) = w3 at hX hL hO ⊢
          have HX3 := Lib.hid hX
          have HL3 := Lib.hid hL
          have HG3 : Hid (Below wd.heap.size wd w3) := Lib.hid (HG2.out.trans hL)
          have HO3 := Lib.hid hO
          have HNe := Lib.hid hne
          have HE0 : Hid (e0 < w3.heap.size) := Lib.hid (by have := HE0.out; have := heapLt hX; omega)
          clear hX hL hb0 hO hne
          refine hK.out _ _ (⟨(HL3.out.cell HLt.out.1).trans hHeld.1, (HL3.out.cell HLt.out.1).trans hHeld.2.1, (HL3.out.cell HLt.out.1).trans hHeld.2.2⟩) (fun hNew => ?_)
          clear hK K hHeld; (have hHeld := hNew); clear hNew; (try simp only [Act.put, List.setIfInBounds_toArray, List.set_cons_zero, List.set_cons_succ])
          refine aloneH (i := 3) rfl (by kernel_rfl) (fun K hK => ?_)
          rw [if_pos (by rfl)]
          refine wp_append_st w3 (.tmp 31) (.tmp 33) rfl rfl wd.heap.size (.slice (some ⟨e0, 0, none⟩) 0 0) [] rfl HO3.out A M.length cM M rfl rfl (HR.out.1.on (HBD.out.trans (HG3.out.mono HBD.out.size))) HR.out.2 (by have := HSh.out; simp; omega) HG3.out.size ?_
          intro v2 wv hown hg
          have hL : Below wd.heap.size w3 wv := (Below.refl _ _).grown hg HG3.out.size (fun k hk => (World.ownsRow.lt HO3.out k hk).1)
          have hO : OwnSt wv wd.heap.size v2 M := hown
          have hX := (hg.block b0 (heapLt HX3.out) (fun e => HNe.out (by have e2 : b0 = e0 := Option.some.inj e; exact e2))).trans HX3.out
          clear hown hg
          generalize wv = w4 at hO hL hX ⊢
          have HO4 := Lib.hid hO
          have HL4 := Lib.hid hL
          have HG4 : Hid (Below wd.heap.size wd w4) := Lib.hid (HG3.out.trans hL)
          have HX4 := Lib.hid hX
          clear hO hL hX
          refine hK.out _ _ (⟨(HL4.out.cell HLt.out.1).trans hHeld.1, (HL4.out.cell HLt.out.1).trans hHeld.2.1, (HL4.out.cell HLt.out.1).trans hHeld.2.2⟩) (fun hNew => ?_)
          clear hK K hHeld; (have hHeld := hNew); clear hNew; (try simp only [Act.put, List.setIfInBounds_toArray, List.set_cons_zero, List.set_cons_succ])
          refine aloneH (i := 10) rfl (by kernel_rfl) (fun K hK => ?_)
          rw [if_pos (by rfl)]
          refine wp_append_st w4 (.tmp 34) (.tmp 40) rfl rfl wd.heap.size v2 M rfl HO4.out (some ⟨b0, 0, none⟩) 1 1 [(s, f, u, x)] rfl rfl (boxSt HX4.out) (by simp) (by have := HSh.out; simp; omega) HG4.out.size ?_
          intro v3 wv hown hg
          have hL : Below wd.heap.size w4 wv := (Below.refl _ _).grown hg HG4.out.size (fun k hk => (World.ownsRow.lt HO4.out k hk).1)
          have hO : OwnSt wv wd.heap.size v3 (M ++ [(s, f, u, x)]) := hown
          clear hown hg
          obtain ⟨A3, c3, hv3, _, _⟩ := hO.form
          subst hv3
          obtain ⟨N3, hN3⟩ : ∃ N3, N3 = (M ++ [(s, f, u, x)]).length := ⟨_, rfl⟩
          rw [← hN3] at hO ⊢
          have HN3 := Lib.hid hN3
          clear hN3
          generalize wv = w5 at hO hL ⊢
          have HO5 := Lib.hid hO
          have HL5 := Lib.hid hL
          have HG5 : Hid (Below wd.heap.size wd w5) := Lib.hid (HG4.out.trans hL)
          clear hO hL
          refine hK.out _ _ (⟨(HL5.out.cell HLt.out.1).trans hHeld.1, (HL5.out.cell HLt.out.1).trans hHeld.2.1, (HL5.out.cell HLt.out.1).trans hHeld.2.2⟩) (fun hNew => ?_)
          clear hK K hHeld; (have hHeld := hNew); clear hNew; (try simp only [Act.put, List.setIfInBounds_toArray, List.set_cons_zero, List.set_cons_succ])
          (refine takeH (i := 11) (v := ?_) rfl (by kernel_rfl) (by kernel_rfl) (by kernel_rfl) (fun _ _ _ h => h) (Or.inl ⟨by rfl, ?_⟩) (by assumption) ?_; rotate_left; (focus ((intro wS hSw); (try dsimp only at hSw); obtain ⟨s0, s1, s2⟩ := hSw; go_simp; (try with_reducible rfl); done)); (try simp only [Act.put, List.setIfInBounds_toArray, List.set_cons_zero, List.set_cons_succ]))
          refine aloneH (i := 12) rfl (by kernel_rfl) (fun K hK => ?_)
          rw [if_pos (by rfl)]
          have hpb := (HG5.out.block _ HLt.out.2).trans HPb.out.1
          obtain ⟨_, _, q6⟩ := row3a hpb
          obtain ⟨_, _, z6⟩ := frz hpb
          clear hpb
          go_simp
          refine hK.out _ _ (⟨(World.cell?_of_block (heap_setCell_other _ _ _ _ (by simp <;> omega))).trans hHeld.1, (World.cell?_of_block (heap_setCell_other _ _ _ _ (by simp <;> omega))).trans hHeld.2.1, (World.cell?_of_block (heap_setCell_other _ _ _ _ (by simp <;> omega))).trans hHeld.2.2⟩) (fun hNew => ?_)
          clear hK K hHeld; (have hHeld := hNew); clear hNew; (try simp only [Act.put])
          refine wpAnyH_done (by kernel_rfl) ?_ _
          clear hHeld
          have HFi := Lib.hid (set_fin (home := home) HN3.out HBD.out HG5.out HLt.out HPb.out HO5.out)
          clear HR HPb HSh HLt
          obtain ⟨hT2, hP2⟩ := HFi.out.1
          obtain ⟨t0, t1, t2⟩ := row3a hT2
          obtain ⟨z0, z1, z2⟩ := frz hT2
          obtain ⟨p0, p1, p2⟩ := row3a hP2
          clear hT2 hP2
          go_wp2
          refine bodyPost_ret (results_pp rfl _ _ (w.heap.size + 1 + 1) _ _ _ _ rfl rfl (set3 HFi.out.1.1)) rfl ?_
          rw [HEq.out.1, HEq.out.2]
          exact ⟨A3, c3, by rw [HN3.out]; rfl, HFi.out.2 _ _ _⟩
      · rw [if_pos (by rfl)]
        go_simp
        have hX := heap_alloc_new wd (.cells #[.string s, .int .i64 f, .int .i64 u, .int .i64 x] 69)
        have hL := (below_alloc wd (.cells #[.string s, .int .i64 f, .int .i64 u, .int .i64 x] 69)).mono HG0.out.size
        obtain ⟨b0, hb0⟩ : ∃ b0, b0 = wd.heap.size := ⟨_, rfl⟩
        rw [← hb0] at hX ⊢
        generalize World.alloc wd (.cells #[.string s, .int .i64 f, .int .i64 u, .int .i64 x] 69) = w2 at hX hL ⊢
        have HX2 := Lib.hid hX
        have HL2 := Lib.hid hL
        have HG2 : Hid (Below wd.heap.size wd w2) := Lib.hid (HG0.out.trans hL)
        clear hX hL hb0
        refine hK.out _ _ (⟨(HL2.out.cell HLt.out.1).trans hHeld.1, (HL2.out.cell HLt.out.1).trans hHeld.2.1, (HL2.out.cell HLt.out.1).trans hHeld.2.2⟩) (fun hNew => ?_)
        clear hK K hHeld; (have hHeld := hNew); clear hNew; (try simp only [Act.put, List.setIfInBounds_toArray, List.set_cons_zero, List.set_cons_succ])
        refine aloneH (i := 0) rfl (by kernel_rfl) (fun K hK => ?_)
        rw [if_pos (by rfl)]
        go_simp
        have hO := ownSt_nil w2
        have hL := (below_alloc w2 (.cells #[] 69)).mono HG2.out.size
        have hn := heap_alloc_new w2 (.cells #[] 69)
        obtain ⟨e0, he0⟩ : ∃ e0, e0 = w2.heap.size := ⟨_, rfl⟩
        have he1 : wd.heap.size ≤ e0 := by rw [he0]; exact HG2.out.size
        have hX := heap_on (below_alloc w2 (.cells #[] 69)) HX2.out
        have hne : b0 ≠ e0 := by have := heapLt HX2.out; omega
        rw [← he0] at hO ⊢
        generalize World.alloc w2 (.cells #[] 69) = w3 at hO hL hn hX ⊢
        have HO3 := Lib.hid (hO.less he1)
        have HL3 := Lib.hid hL
        have HG3 : Hid (Below wd.heap.size wd w3) := Lib.hid (HG2.out.trans hL)
        have HE0 : Hid (e0 < w3.heap.size) := Lib.hid (by rw [he0]; exact heapLt hn)
        have HX3 := Lib.hid hX
        have HNe := Lib.hid hne
        clear hO hL hn he0 he1 hX hne
        refine hK.out _ _ (⟨(HL3.out.cell HLt.out.1).trans hHeld.1, (HL3.out.cell HLt.out.1).trans hHeld.2.1, (HL3.out.cell HLt.out.1).trans hHeld.2.2⟩) (fun hNew => ?_)
        clear hK K hHeld; (have hHeld := hNew); clear hNew; (try simp only [Act.put, List.setIfInBounds_toArray, List.set_cons_zero, List.set_cons_succ])
        refine aloneH (i := 3) rfl (by kernel_rfl) (fun K hK => ?_)
        rw [if_pos (by rfl)]
        refine wp_append_st w3 (.tmp 31) (.tmp 33) rfl rfl wd.heap.size (.slice (some ⟨e0, 0, none⟩) 0 0) [] rfl HO3.out A M.length cM M rfl rfl (HR.out.1.on (HBD.out.trans (HG3.out.mono HBD.out.size))) HR.out.2 (by have := HSh.out; simp; omega) HG3.out.size ?_
        intro v2 wv hown hg
        have hL : Below wd.heap.size w3 wv := (Below.refl _ _).grown hg HG3.out.size (fun k hk => (World.ownsRow.lt HO3.out k hk).1)
        have hO : OwnSt wv wd.heap.size v2 M := hown
        have hX := (hg.block b0 (heapLt HX3.out) (fun e => HNe.out (by have e2 : b0 = e0 := Option.some.inj e; exact e2))).trans HX3.out
        clear hown hg
        generalize wv = w4 at hO hL hX ⊢
        have HO4 := Lib.hid hO
        have HL4 := Lib.hid hL
        have HG4 : Hid (Below wd.heap.size wd w4) := Lib.hid (HG3.out.trans hL)
        have HX4 := Lib.hid hX
        clear hO hL hX
        refine hK.out _ _ (⟨(HL4.out.cell HLt.out.1).trans hHeld.1, (HL4.out.cell HLt.out.1).trans hHeld.2.1, (HL4.out.cell HLt.out.1).trans hHeld.2.2⟩) (fun hNew => ?_)
        clear hK K hHeld; (have hHeld := hNew); clear hNew; (try simp only [Act.put, List.setIfInBounds_toArray, List.set_cons_zero, List.set_cons_succ])
        refine aloneH (i := 10) rfl (by kernel_rfl) (fun K hK => ?_)
        rw [if_pos (by rfl)]
        refine wp_append_st w4 (.tmp 34) (.tmp 40) rfl rfl wd.heap.size v2 M rfl HO4.out (some ⟨b0, 0, none⟩) 1 1 [(s, f, u, x)] rfl rfl (boxSt HX4.out) (by simp) (by have := HSh.out; simp; omega) HG4.out.size ?_
        intro v3 wv hown hg
        have hL : Below wd.heap.size w4 wv := (Below.refl _ _).grown hg HG4.out.size (fun k hk => (World.ownsRow.lt HO4.out k hk).1)
        have hO : OwnSt wv wd.heap.size v3 (M ++ [(s, f, u, x)]) := hown
        clear hown hg
        obtain ⟨A3, c3, hv3, _, _⟩ := hO.form
        subst hv3
        obtain ⟨N3, hN3⟩ : ∃ N3, N3 = (M ++ [(s, f, u, x)]).length := ⟨_, rfl⟩
        rw [← hN3] at hO ⊢
        have HN3 := Lib.hid hN3
        clear hN3
        generalize wv = w5 at hO hL ⊢
        have HO5 := Lib.hid hO
        have HL5 := Lib.hid hL
        have HG5 : Hid (Below wd.heap.size wd w5) := Lib.hid (HG4.out.trans hL)
        clear hO hL
        refine hK.out _ _ (⟨(HL5.out.cell HLt.out.1).trans hHeld.1, (HL5.out.cell HLt.out.1).trans hHeld.2.1, (HL5.out.cell HLt.out.1).trans hHeld.2.2⟩) (fun hNew => ?_)
        clear hK K hHeld; (have hHeld := hNew); clear hNew; (try simp only [Act.put, List.setIfInBounds_toArray, List.set_cons_zero, List.set_cons_succ])
        (refine takeH (i := 11) (v := ?_) rfl (by kernel_rfl) (by kernel_rfl) (by kernel_rfl) (fun _ _ _ h => h) (Or.inl ⟨by rfl, ?_⟩) (by assumption) ?_; rotate_left; (focus ((intro wS hSw); (try dsimp only at hSw); obtain ⟨s0, s1, s2⟩ := hSw; go_simp; (try with_reducible rfl); done)); (try simp only [Act.put, List.setIfInBounds_toArray, List.set_cons_zero, List.set_cons_succ]))
        refine aloneH (i := 12) rfl (by kernel_rfl) (fun K hK => ?_)
        rw [if_pos (by rfl)]
        have hpb := (HG5.out.block _ HLt.out.2).trans HPb.out.1
        obtain ⟨_, _, q6⟩ := row3a hpb
        obtain ⟨_, _, z6⟩ := frz hpb
        clear hpb
        go_simp
        refine hK.out _ _ (⟨(World.cell?_of_block (heap_setCell_other _ _ _ _ (by simp <;> omega))).trans hHeld.1, (World.cell?_of_block (heap_setCell_other _ _ _ _ (by simp <;> omega))).trans hHeld.2.1, (World.cell?_of_block (heap_setCell_other _ _ _ _ (by simp <;> omega))).trans hHeld.2.2⟩) (fun hNew => ?_)
        clear hK K hHeld; (have hHeld := hNew); clear hNew; (try simp only [Act.put])
        refine wpAnyH_done (by kernel_rfl) ?_ _
        clear hHeld
        have HFi := Lib.hid (set_fin (home := home) HN3.out HBD.out HG5.out HLt.out HPb.out HO5.out)
        clear HR HPb HSh HLt
        obtain ⟨hT2, hP2⟩ := HFi.out.1
        obtain ⟨t0, t1, t2⟩ := row3a hT2
        obtain ⟨z0, z1, z2⟩ := frz hT2
        obtain ⟨p0, p1, p2⟩ := row3a hP2
        clear hT2 hP2
        go_wp2
        refine bodyPost_ret (results_pp rfl _ _ (w.heap.size + 1 + 1) _ _ _ _ rfl rfl (set3 HFi.out.1.1)) rfl ?_
        rw [HEq.out.1, HEq.out.2]
        exact ⟨A3, c3, by rw [HN3.out]; rfl, HFi.out.2 _ _ _⟩
    · rw [if_pos (by rfl)]
      go_simp
      have hX := heap_alloc_new wd (.cells #[.string s, .int .i64 f, .int .i64 u, .int .i64 x] 69)
      have hL := (below_alloc wd (.cells #[.string s, .int .i64 f, .int .i64 u, .int .i64 x] 69)).mono HG0.out.size
      obtain ⟨b0, hb0⟩ : ∃ b0, b0 = wd.heap.size := ⟨_, rfl⟩
      rw [← hb0] at hX ⊢
      generalize World.alloc wd (.cells #[.string s, .int .i64 f, .int .i64 u, .int .i64 x] 69) = w1 at hX hL ⊢
      have HX1 := Lib.hid hX
      have HL1 := Lib.hid hL
      have HG1 : Hid (Below wd.heap.size wd w1) := Lib.hid (HG0.out.trans hL)
      clear hX hL hb0
      refine hK.out _ _ (⟨(HL1.out.cell HLt.out.1).trans hHeld.1, (HL1.out.cell HLt.out.1).trans hHeld.2.1, (HL1.out.cell HLt.out.1).trans hHeld.2.2⟩) (fun hNew => ?_)
      clear hK K hHeld; (have hHeld := hNew); clear hNew; (try simp only [Act.put, List.setIfInBounds_toArray, List.set_cons_zero, List.set_cons_succ])
      refine twoH (i := 0) (i2 := 2) rfl rfl (by kernel_rfl) (fun K hK => ?_) (fun K hK => ?_)
      · rw [if_pos (by rfl)]
        go_simp
        have hO := ownSt_nil w1
        have hL := (below_alloc w1 (.cells #[] 69)).mono HG1.out.size
        have hn := heap_alloc_new w1 (.cells #[] 69)
        obtain ⟨e0, he0⟩ : ∃ e0, e0 = w1.heap.size := ⟨_, rfl⟩
        have he1 : wd.heap.size ≤ e0 := by rw [he0]; exact HG1.out.size
        have hX := heap_on (below_alloc w1 (.cells #[] 69)) HX1.out
        have hne : b0 ≠ e0 := by have := heapLt HX1.out; omega
        rw [← he0] at hO ⊢
        generalize World.alloc w1 (.cells #[] 69) = w2 at hO hL hn hX ⊢
        have HO2 := Lib.hid (hO.less he1)
        have HL2 := Lib.hid hL
        have HG2 : Hid (Below wd.heap.size wd w2) := Lib.hid (HG1.out.trans hL)
        have HE0 : Hid (e0 < w2.heap.size) := Lib.hid (by rw [he0]; exact heapLt hn)
        have HX2 := Lib.hid hX
        have HNe := Lib.hid hne
        clear hO hL hn he0 he1 hX hne
        refine hK.out _ _ (⟨(HL2.out.cell HLt.out.1).trans hHeld.1, (HL2.out.cell HLt.out.1).trans hHeld.2.1, (HL2.out.cell HLt.out.1).trans hHeld.2.2⟩) (fun hNew => ?_)
        clear hK K hHeld; (have hHeld := hNew); clear hNew; (try simp only [Act.put, List.setIfInBounds_toArray, List.set_cons_zero, List.set_cons_succ])
        refine aloneH (i := 2) rfl (by kernel_rfl) (fun K hK => ?_)
        rw [if_pos (by rfl)]
        obtain ⟨_, _, q3⟩ := row3a ((HG2.out.block _ HLt.out.2).trans HPb.out.1)
        go_simp
        refine hK.out _ _ (hHeld) (fun hNew => ?_)
        clear hK K hHeld; (have hHeld := hNew); clear hNew; (try simp only [Act.put, List.setIfInBounds_toArray, List.set_cons_zero, List.set_cons_succ])
        refine aloneH (i := 3) rfl (by kernel_rfl) (fun K hK => ?_)
        rw [if_pos (by rfl)]
        refine wp_append_st w2 (.tmp 31) (.tmp 33) rfl rfl wd.heap.size (.slice (some ⟨e0, 0, none⟩) 0 0) [] rfl HO2.out A M.length cM M rfl rfl (HR.out.1.on (HBD.out.trans (HG2.out.mono HBD.out.size))) HR.out.2 (by have := HSh.out; simp; omega) HG2.out.size ?_
        intro v2 wv hown hg
        have hL : Below wd.heap.size w2 wv := (Below.refl _ _).grown hg HG2.out.size (fun k hk => (World.ownsRow.lt HO2.out k hk).1)
        have hO : OwnSt wv wd.heap.size v2 M := hown
        have hX := (hg.block b0 (heapLt HX2.out) (fun e => HNe.out (by have e2 : b0 = e0 := Option.some.inj e; exact e2))).trans HX2.out
        clear hown hg
        generalize wv = w4 at hO hL hX ⊢
        have HO4 := Lib.hid hO
        have HL4 := Lib.hid hL
        have HG4 : Hid (Below wd.heap.size wd w4) := Lib.hid (HG2.out.trans hL)
        have HX4 := Lib.hid hX
        clear hO hL hX
        refine hK.out _ _ (⟨(HL4.out.cell HLt.out.1).trans hHeld.1, (HL4.out.cell HLt.out.1).trans hHeld.2.1, (HL4.out.cell HLt.out.1).trans hHeld.2.2⟩) (fun hNew => ?_)
        clear hK K hHeld; (have hHeld := hNew); clear hNew; (try simp only [Act.put, List.setIfInBounds_toArray, List.set_cons_zero, List.set_cons_succ])
        refine aloneH (i := 10) rfl (by kernel_rfl) (fun K hK => ?_)
        rw [if_pos (by rfl)]
        refine wp_append_st w4 (.tmp 34) (.tmp 40) rfl rfl wd.heap.size v2 M rfl HO4.out (some ⟨b0, 0, none⟩) 1 1 [(s, f, u, x)] rfl rfl (boxSt HX4.out) (by simp) (by have := HSh.out; simp; omega) HG4.out.size ?_
        intro v3 wv hown hg
        have hL : Below wd.heap.size w4 wv := (Below.refl _ _).grown hg HG4.out.size (fun k hk => (World.ownsRow.lt HO4.out k hk).1)
        have hO : OwnSt wv wd.heap.size v3 (M ++ [(s, f, u, x)]) := hown
        clear hown hg
        obtain ⟨A3, c3, hv3, _, _⟩ := hO.form
        subst hv3
        obtain ⟨N3, hN3⟩ : ∃ N3, N3 = (M ++ [(s, f, u, x)]).length := ⟨_, rfl⟩
        rw [← hN3] at hO ⊢
        have HN3 := Lib.hid hN3
        clear hN3
        generalize wv = w5 at hO hL ⊢
        have HO5 := Lib.hid hO
        have HL5 := Lib.hid hL
        have HG5 : Hid (Below wd.heap.size wd w5) := Lib.hid (HG4.out.trans hL)
        clear hO hL
        refine hK.out _ _ (⟨(HL5.out.cell HLt.out.1).trans hHeld.1, (HL5.out.cell HLt.out.1).trans hHeld.2.1, (HL5.out.cell HLt.out.1).trans hHeld.2.2⟩) (fun hNew => ?_)
        clear hK K hHeld; (have hHeld := hNew); clear hNew; (try simp only [Act.put, List.setIfInBounds_toArray, List.set_cons_zero, List.set_cons_succ])
        (refine takeH (i := 11) (v := ?_) rfl (by kernel_rfl) (by kernel_rfl) (by kernel_rfl) (fun _ _ _ h => h) (Or.inl ⟨by rfl, ?_⟩) (by assumption) ?_; rotate_left; (focus ((intro wS hSw); (try dsimp only at hSw); obtain ⟨s0, s1, s2⟩ := hSw; go_simp; (try with_reducible rfl); done)); (try simp only [Act.put, List.setIfInBounds_toArray, List.set_cons_zero, List.set_cons_succ]))
        refine aloneH (i := 12) rfl (by kernel_rfl) (fun K hK => ?_)
        rw [if_pos (by rfl)]
        have hpb := (HG5.out.block _ HLt.out.2).trans HPb.out.1
        obtain ⟨_, _, q6⟩ := row3a hpb
        obtain ⟨_, _, z6⟩ := frz hpb
        clear hpb
        go_simp
        refine hK.out _ _ (⟨(World.cell?_of_block (heap_setCell_other _ _ _ _ (by simp <;> omega))).trans hHeld.1, (World.cell?_of_block (heap_setCell_other _ _ _ _ (by simp <;> omega))).trans hHeld.2.1, (World.cell?_of_block (heap_setCell_other _ _ _ _ (by simp <;> omega))).trans hHeld.2.2⟩) (fun hNew => ?_)
        clear hK K hHeld; (have hHeld := hNew); clear hNew; (try simp only [Act.put])
        refine wpAnyH_done (by kernel_rfl) ?_ _
        clear hHeld
        have HFi := Lib.hid (set_fin (home := home) HN3.out HBD.out HG5.out HLt.out HPb.out HO5.out)
        clear HR HPb HSh HLt
        obtain ⟨hT2, hP2⟩ := HFi.out.1
        obtain ⟨t0, t1, t2⟩ := row3a hT2
        obtain ⟨z0, z1, z2⟩ := frz hT2
        obtain ⟨p0, p1, p2⟩ := row3a hP2
        clear hT2 hP2
        go_wp2
        refine bodyPost_ret (results_pp rfl _ _ (w.heap.size + 1 + 1) _ _ _ _ rfl rfl (set3 HFi.out.1.1)) rfl ?_
        rw [HEq.out.1, HEq.out.2]
        exact ⟨A3, c3, by rw [HN3.out]; rfl, HFi.out.2 _ _ _⟩
      · rw [if_pos (by rfl)]
        obtain ⟨_, _, q2⟩ := row3a ((HG1.out.block _ HLt.out.2).trans HPb.out.1)
        go_simp
        refine hK.out _ _ (hHeld) (fun hNew => ?_)
        clear hK K hHeld; (have hHeld := hNew); clear hNew; (try simp only [Act.put, List.setIfInBounds_toArray, List.set_cons_zero, List.set_cons_succ])
        refine aloneH (i := 0) rfl (by kernel_rfl) (fun K hK => ?_)
        rw [if_pos (by rfl)]
        go_simp
        have hO := ownSt_nil w1
        have hL := (below_alloc w1 (.cells #[] 69)).mono HG1.out.size
        have hn := heap_alloc_new w1 (.cells #[] 69)
        obtain ⟨e0, he0⟩ : ∃ e0, e0 = w1.heap.size := ⟨_, rfl⟩
        have he1 : wd.heap.size ≤ e0 := by rw [he0]; exact HG1.out.size
        have hX := heap_on (below_alloc w1 (.cells #[] 69)) HX1.out
        have hne : b0 ≠ e0 := by have := heapLt HX1.out; omega
        rw [← he0] at hO ⊢
        generalize World.alloc w1 (.cells #[] 69) = w3 at hO hL hn hX ⊢
        have HO3 := Lib.hid (hO.less he1)
        have HL3 := Lib.hid hL
        have HG3 : Hid (Below wd.heap.size wd w3) := Lib.hid (HG1.out.trans hL)
        have HE0 : Hid (e0 < w3.heap.size) := Lib.hid (by rw [he0]; exact heapLt hn)
        have HX3 := Lib.hid hX
        have HNe := Lib.hid hne
        clear hO hL hn he0 he1 hX hne
        refine hK.out _ _ (⟨(HL3.out.cell HLt.out.1).trans hHeld.1, (HL3.out.cell HLt.out.1).trans hHeld.2.1, (HL3.out.cell HLt.out.1).trans hHeld.2.2⟩) (fun hNew => ?_)
        clear hK K hHeld; (have hHeld := hNew); clear hNew; (try simp only [Act.put, List.setIfInBounds_toArray, List.set_cons_zero, List.set_cons_succ])
        refine aloneH (i := 3) rfl (by kernel_rfl) (fun K hK => ?_)
        rw [if_pos (by rfl)]
        refine wp_append_st w3 (.tmp 31) (.tmp 33) rfl rfl wd.heap.size (.slice (some ⟨e0, 0, none⟩) 0 0) [] rfl HO3.out A M.length cM M rfl rfl (HR.out.1.on (HBD.out.trans (HG3.out.mono HBD.out.size))) HR.out.2 (by have := HSh.out; simp; omega) HG3.out.size ?_
        intro v2 wv hown hg
        have hL : Below wd.heap.size w3 wv := (Below.refl _ _).grown hg HG3.out.size (fun k hk => (World.ownsRow.lt HO3.out k hk).1)
        have hO : OwnSt wv wd.heap.size v2 M := hown
        have hX := (hg.block b0 (heapLt HX3.out) (fun e => HNe.out (by have e2 : b0 = e0 := Option.some.inj e; exact e2))).trans HX3.out
        clear hown hg
        generalize wv = w4 at hO hL hX ⊢
        have HO4 := Lib.hid hO
        have HL4 := Lib.hid hL
        have HG4 : Hid (Below wd.heap.size wd w4) := Lib.hid (HG3.out.trans hL)
        have HX4 := Lib.hid hX
        clear hO hL hX
        refine hK.out _ _ (⟨(HL4.out.cell HLt.out.1).trans hHeld.1, (HL4.out.cell HLt.out.1).trans hHeld.2.1, (HL4.out.cell HLt.out.1).trans hHeld.2.2⟩) (fun hNew => ?_)
        clear hK K hHeld; (have hHeld := hNew); clear hNew; (try simp only [Act.put, List.setIfInBounds_toArray, List.set_cons_zero, List.set_cons_succ])
        refine aloneH (i := 10) rfl (by kernel_rfl) (fun K hK => ?_)
        rw [if_pos (by rfl)]
        refine wp_append_st w4 (.tmp 34) (.tmp 40) rfl rfl wd.heap.size v2 M rfl HO4.out (some ⟨b0, 0, none⟩) 1 1 [(s, f, u, x)] rfl rfl (boxSt HX4.out) (by simp) (by have := HSh.out; simp; omega) HG4.out.size ?_
        intro v3 wv hown hg
        have hL : Below wd.heap.size w4 wv := (Below.refl _ _).grown hg HG4.out.size (fun k hk => (World.ownsRow.lt HO4.out k hk).1)
        have hO : OwnSt wv wd.heap.size v3 (M ++ [(s, f, u, x)]) := hown
        clear hown hg
        obtain ⟨A3, c3, hv3, _, _⟩ := hO.form
        subst hv3
        obtain ⟨N3, hN3⟩ : ∃ N3, N3 = (M ++ [(s, f, u, x)]).length := ⟨_, rfl⟩
        rw [← hN3] at hO ⊢
        have HN3 := Lib.hid hN3
        clear hN3
        generalize wv = w5 at hO hL ⊢
        have HO5 := Lib.hid hO
        have HL5 := Lib.hid hL
        have HG5 : Hid (Below wd.heap.size wd w5) := Lib.hid (HG4.out.trans hL)
        clear hO hL
        refine hK.out _ _ (⟨(HL5.out.cell HLt.out.1).trans hHeld.1, (HL5.out.cell HLt.out.1).trans hHeld.2.1, (HL5.out.cell HLt.out.1).trans hHeld.2.2⟩) (fun hNew => ?_)
        clear hK K hHeld; (have hHeld := hNew); clear hNew; (try simp only [Act.put, List.setIfInBounds_toArray, List.set_cons_zero, List.set_cons_succ])
        (refine takeH (i := 11) (v := ?_) rfl (by kernel_rfl) (by kernel_rfl) (by kernel_rfl) (fun _ _ _ h => h) (Or.inl ⟨by rfl, ?_⟩) (by assumption) ?_; rotate_left; (focus ((intro wS hSw); (try dsimp only at hSw); obtain ⟨s0, s1, s2⟩ := hSw; go_simp; (try with_reducible rfl); done)); (try simp only [Act.put, List.setIfInBounds_toArray, List.set_cons_zero, List.set_cons_succ]))
        refine aloneH (i := 12) rfl (by kernel_rfl) (fun K hK => ?_)
        rw [if_pos (by rfl)]
        have hpb := (HG5.out.block _ HLt.out.2).trans HPb.out.1
        obtain ⟨_, _, q6⟩ := row3a hpb
        obtain ⟨_, _, z6⟩ := frz hpb
        clear hpb
        go_simp
        refine hK.out _ _ (⟨(World.cell?_of_block (heap_setCell_other _ _ _ _ (by simp <;> omega))).trans hHeld.1, (World.cell?_of_block (heap_setCell_other _ _ _ _ (by simp <;> omega))).trans hHeld.2.1, (World.cell?_of_block (heap_setCell_other _ _ _ _ (by simp <;> omega))).trans hHeld.2.2⟩) (fun hNew => ?_)
        clear hK K hHeld; (have hHeld := hNew); clear hNew; (try simp only [Act.put])
        refine wpAnyH_done (by kernel_rfl) ?_ _
        clear hHeld
        have HFi := Lib.hid (set_fin (home := home) HN3.out HBD.out HG5.out HLt.out HPb.out HO5.out)
        clear HR HPb HSh HLt
        obtain ⟨hT2, hP2⟩ := HFi.out.1
        obtain ⟨t0, t1, t2⟩ := row3a hT2
        obtain ⟨z0, z1, z2⟩ := frz hT2
        obtain ⟨p0, p1, p2⟩ := row3a hP2
        clear hT2 hP2
        go_wp2
        refine bodyPost_ret (results_pp rfl _ _ (w.heap.size + 1 + 1) _ _ _ _ rfl rfl (set3 HFi.out.1.1)) rfl ?_
        rw [HEq.out.1, HEq.out.2]
        exact ⟨A3, c3, by rw [HN3.out]; rfl, HFi.out.2 _ _ _⟩
  · have bE : (E0 == 0) = false := beq_false_of_ne hE0
    have HEq : Hid (stE M c m f u = E0 ∧ stL M c m (f, u, x) = M) := Lib.hid ⟨HEt.out, by unfold stL; rw [if_neg (by rw [HEt.out]; exact hE0)]⟩
    have hP := HI3.out.1
    have hT := HI3.out.2.2.1
    unfold pCells at hP hT
    obtain ⟨p0, p1, p2⟩ := row3a hP
    obtain ⟨z0, z1, z2⟩ := frz hT
    obtain ⟨t0, t1, t2⟩ := row3a hT
    have HP := Lib.hid (And.intro hP hT)
    clear hP hT HEt
    go_wp2
    refine bodyPost_ret (results_pp rfl _ _ (w.heap.size + 1 + 1) _ _ _ _ rfl rfl (set3 HP.out.2)) rfl ?_
    rw [HEq.out.1, HEq.out.2]
    have nt := (HR.out.1.on HI3.out.2.2.2).no_box HP.out.2 (by simp) (by simp)
    exact ⟨A, cM, rfl, (HR.out.1.on HI3.out.2.2.2).others (S := fun i => i = w.heap.size + 1 + 1) (fun hn q hq hs => nt hn q hq hs) (by simp) (fun i hi => set3_other hi), HR.out.2, set3_below HI3.out.2.2.2 (by omega)⟩
theorem ref_pset (home : ByteArray) (AO : Option Addr) (nO cO : Nat) (A : Option Addr) (cM : Nat) (M : List St) (c m : ByteArray) (f u x : Int) (w : World) (hr : RowSt w A M) (hn : A = none → M = []) (hl : M.length ≤ 90) (hc : c.size ≤ 500) (hm : m.size ≤ 500) :
    Calls Tryz.prog 13 #[.agg #[.string home, .slice AO nO cO, .slice A M.length cM], .string c, .string m, .agg #[.int .i64 f, .int .i64 u, .int .i64 x]] w (StQ w home AO nO cO M c m f u x) := by
  cases hq : rightP c m with
  | true => exact ref_pset_right home AO nO cO A cM M c m f u x w hr hn hl hc hm hq _ rfl _ rfl
  | false => exact ref_pset_name home AO nO cO A cM M c m f u x w hr hn hc hm hq
end Go.Proofs.YtgljajoknmgoeaaGreat
