/- Other rates, the same in all. -/
import Derived.Test.YtlnpflfkkjcopaaRtX
import Derived.Test.YtlnpflfkkjcopaaTlJ
namespace Go.Proofs.Ytlnpflfkkjcopaa
open Go.RowKit
set_option maxRecDepth 100000
attribute [local go_sem] Oper.semAt_some

/-- the same lines, wherever they lie -/
def Cp (F F2 : Lns) : Prop := ∀ s c, (F2 s c).map (·.2) = (F s c).map (·.2)
open Classical in
/-- the same lines of the keys that were met -/
def CpT (F F2 : Lns) (T : Ks) : Prop := ∀ s c, (F2 s c).map (·.2) = if (s, c) ∈ T then (F s c).map (·.2) else none
theorem CpT.next {F F2 : Lns} {T : Ks} {s : ByteArray} {c : Int} {B B2 : Nat} {L : List Sp} (h : CpT F F2 T) (hF : F s c = some (B, L)) : CpT F (upd F2 s c (some (B2, L))) ((s, c) :: T) := by
  intro s' c'
  by_cases hsc : s' = s ∧ c' = c
  · obtain ⟨rfl, rfl⟩ := hsc
    rw [upd_same, if_pos (List.mem_cons_self ..), hF]
    rfl
  · rw [upd_other hsc, h s' c']
    by_cases hT : (s', c') ∈ T
    · rw [if_pos hT, if_pos (List.mem_cons_of_mem _ hT)]
    · rw [if_neg hT, if_neg (fun hm => by
        rcases List.mem_cons.1 hm with e | e
        · injection e with e1 e2
          exact hsc ⟨e1, e2⟩
        · exact hT e)]
theorem CpT.all {F F2 : Lns} {T : Ks} (h : CpT F F2 T) (hall : ∀ s c, (F s c).isSome = true → (s, c) ∈ T) : Cp F F2 := by
  intro s c
  rw [h s c]
  by_cases hT : (s, c) ∈ T
  · rw [if_pos hT]
  · rw [if_neg hT]
    cases hF : F s c with
    | none => rfl
    | some y => exact absurd (hall s c (by rw [hF]; rfl)) hT
theorem Rng.put {w w' : World} {base R bm n r cnt b2 : Nat} {F : Lns} {T : Ks} (h : Rng w base R bm n F r T cnt) (h1 : RtAt w' base R bm n F) (hg : w.grownBy w' (some b2)) (hb : bm ≠ b2) (hr : r ≠ b2) : Rng w' base R bm n F r T cnt := by
  obtain ⟨_, ⟨D, left, h2, h3⟩, h4⟩ := h
  exact ⟨h1, ⟨D, left, h2.kept hg (by simpa using hb) (by simpa using hr), h3⟩, h4⟩
theorem Rng.iter {w : World} {base R bm n r cnt : Nat} {F : Lns} {T : Ks} (h : Rng w base R bm n F r T cnt) : ∃ a b c d, w.heap[r]? = some (.mapIter a b c d) := by
  obtain ⟨_, ⟨D, left, h2, _⟩, _⟩ := h
  exact iter_of h2
set_option maxHeartbeats 2000000 in
theorem code_rclone {w : World} {base R bm n : Nat} {F : Lns} (h : RtAt w base R bm n F) (hbd : ∀ T, KsOk F T → T.length ≤ 1000) : Calls Try.prog 25 #[.pointer (some ⟨R, 0, none⟩)] w fun e w' =>
    ∃ n2 F2, e = .returned (.pointer (some ⟨w.heap.size + 1, 0, none⟩)) ∧ RtAt w' w.heap.size (w.heap.size + 1) w.heap.size n2 F2 ∧ n2 ≤ 1000 ∧ Cp F F2 ∧ Below w.heap.size w w' := by
  have HMade := Lib.hid (code_rmade h)
  have HH := Lib.hid h
  have HBd := Lib.hid hbd
  have HNw := Lib.hid (code_rnew w)
  clear h hbd
  go_enter Try.func25, Try.ntmps25
  go_wp2_with (first
    | (go_at_call 44; refine HMade.out.mono ?_; rintro e w1 ⟨rfl, rfl⟩)
    | (go_at_call 24; refine HNw.out.mono ?_; rintro e w1 ⟨rfl, hn1, hb1⟩; have HN1 := Lib.hid (And.intro hn1 hb1); have c0 := (HH.out.on hb1).cell; clear hn1 hb1; refine Stop.out ?_))
  unfold Stop
  have HH1 := Lib.hid (HH.out.on HN1.out.2)
  go_wp2_with (at_range; refine wpList_range_rt rfl _ rfl HH1.out rfl ?_; intro w2 cnt1 hrg hb2; have HRg := Lib.hid hrg; have HN2 := Lib.hid (HN1.out.1.on hb2); have HB2 := Lib.hid (below_then HN1.out.2 hb2); clear hrg hb2)
  go_frame
  have HR0 : Hid (w.heap.size + 2 ≤ w1.heap.size) := Lib.hid (heapLt HN1.out.1.1)
  clear HMade HNw HN1 HH1 c0
  generalize hr0 : w1.heap.size = r at HRg HR0 ⊢
  clear hr0
  go_loopw [] (fun wr => ∃ (T : Ks) (cnt : Nat) (F2 : Lns), Hid (Rng wr base R bm n F r T cnt) ∧ Hid (RtAt wr w.heap.size (w.heap.size + 1) w.heap.size T.length F2) ∧ Hid (CpT F F2 T) ∧ Hid (Below w.heap.size w wr)) (fun wr => wr.rangeLeft bm r)
  case atStart => exact ⟨[], cnt1, _, HRg, HN2, Lib.hid (fun _ _ => by simp), HB2⟩
  case round =>
    clear HRg HN2 HB2
    obtain ⟨T, cnt, F2, HRg, HN, HCp, HB⟩ := hrel
    go_wp2_with (first | (at_next; refine wpList_next_rt rfl _ rfl HRg.out rfl ?_ ?_))
    · intro hall
      go_wp2
      go_ret
      exact ⟨T.length, F2, rfl, HN.out, HBd.out _ HRg.out.ks, HCp.out.all (fun s c hs => by
        obtain ⟨y, hy⟩ := Option.isSome_iff_exists.1 hs
        exact hall s c (HRg.out.1.2.2.1 s c y.1 y.2 hy).2.2 hs), HB.out⟩
    · intro s c B L w3 cnt' hF hT hk hrg hlt hg hsz hen
      have hrw : r < wr.heap.size := by
        obtain ⟨_, _, _, _, hi⟩ := HRg.out.iter
        exact heapLt hi
      have hb3 : Below w.heap.size wr w3 := ⟨hg.os, hg.tape, hg.output, hg.size, fun k hk2 => hg.block k (by have := HB.out.size; omega) (fun e => by have e2 : k = r := Option.some.inj e; have := HR0.out; omega)⟩
      have HW3 : Hid (Below w.heap.size w w3) := Lib.hid (HB.out.trans hb3)
      obtain ⟨i0, i1, i2, i3, hir⟩ := HRg.out.iter
      have HN3 := Lib.hid (HN.out.but hg hir)
      have HRg3 := Lib.hid hrg
      have HM : Hid (cnt' < cnt ∧ r < w3.heap.size) := Lib.hid ⟨hlt, by rw [hsz]; exact hrw⟩
      have HKs : Hid (T.length + 1 ≤ 1000) := Lib.hid (HBd.out _ hrg.ks)
      have HK := Lib.hid hk
      have HF := Lib.hid hF
      have HLn := Lib.hid (hrg.1.2.2.1 s c B L hF).1
      clear hb3 hrg hlt hg hsz hF hT hk hir hrw
      unfold keyV at hen ⊢
      go_wp2
      have hkx := heap_alloc_new w3 (.cells #[.string s, .int .i64 c] 90)
      have hba := below_then (below_alloc w3 (.cells #[.string s, .int .i64 c] 90)) (below_drew _)
      have HKx := Lib.hid (heap_on (below_drew _) hkx)
      have HNd := Lib.hid (HN3.out.on hba)
      have HRgd := Lib.hid (HRg3.out.on hba)
      have HLc := Lib.hid (code_lclone _ B 256 L (HLn.out.on hba))
      have HWd := Lib.hid (below_then HW3.out hba)
      have HKb := Lib.hid HN3.out.bmlt
      have c0 := HNd.out.cell
      obtain ⟨k0, k1, _, _⟩ := row2 HKx.out
      clear hkx hba HN3 HRg3 HLn
      refine wp_region_held_drew (S := fun V => V.cell? ⟨w.heap.size + 1, 0, none⟩ = some (.map (some w.heap.size)) ∧ V.cell? ⟨w3.heap.size, 0, none⟩ = some (.string s) ∧ V.cell? ⟨w3.heap.size, 1, none⟩ = some (.int .i64 c)) (by kernel_rfl) ⟨c0, k0, k1⟩ ?_
      intro hHeld
      clear c0 k0 k1
      generalize World.drew _ = wd at HKx HNd HRgd HLc HWd hHeld ⊢
      generalize hkb : w3.heap.size = kb at HKx HKb hHeld ⊢
      clear hkb
      (refine takeH (i := 0) (v := ?_) rfl (by kernel_rfl) (by kernel_rfl) (by kernel_rfl) (fun _ _ _ h => h) (Or.inl ⟨by rfl, ?_⟩) (by assumption) ?_; rotate_left; (focus ((intro wS hSw); (try dsimp only at hSw); obtain ⟨s0, s1, s2⟩ := hSw; go_simp; (try with_reducible rfl); done)); (try simp only [Act.put, List.setIfInBounds_toArray, List.set_cons_zero, List.set_cons_succ]))
      (refine takeH (i := 1) (v := ?_) rfl (by kernel_rfl) (by kernel_rfl) (by kernel_rfl) (fun _ _ _ h => h) (Or.inl ⟨by rfl, ?_⟩) (by assumption) ?_; rotate_left; (focus ((intro wS hSw); (try dsimp only at hSw); obtain ⟨s0, s1, s2⟩ := hSw; go_simp; (try with_reducible rfl); done)); (try simp only [Act.put, List.setIfInBounds_toArray, List.set_cons_zero, List.set_cons_succ]))
      (refine takeH (i := 2) (v := ?_) rfl (by kernel_rfl) (by kernel_rfl) (by kernel_rfl) (fun _ _ _ h => h) (Or.inl ⟨by rfl, ?_⟩) (by assumption) ?_; rotate_left; (focus ((intro wS hSw); (try dsimp only at hSw); obtain ⟨s0, s1, s2⟩ := hSw; go_simp; (try with_reducible rfl); done)); (try simp only [Act.put, List.setIfInBounds_toArray, List.set_cons_zero, List.set_cons_succ]))
      (refine takeH (i := 3) (v := ?_) rfl (by kernel_rfl) (by kernel_rfl) (by kernel_rfl) (fun _ _ _ h => h) (Or.inl ⟨by rfl, ?_⟩) (by assumption) ?_; rotate_left; (focus ((intro wS hSw); (try dsimp only at hSw); obtain ⟨s0, s1, s2⟩ := hSw; go_simp; (try with_reducible rfl); done)); (try simp only [Act.put, List.setIfInBounds_toArray, List.set_cons_zero, List.set_cons_succ]))
      (refine takeH (i := 4) (v := ?_) rfl (by kernel_rfl) (by kernel_rfl) (by kernel_rfl) (fun _ _ _ h => h) (Or.inl ⟨by rfl, ?_⟩) (by assumption) ?_; rotate_left; (focus ((intro wS hSw); (try dsimp only at hSw); obtain ⟨s0, s1, s2⟩ := hSw; go_simp; (try with_reducible rfl); done)); (try simp only [Act.put, List.setIfInBounds_toArray, List.set_cons_zero, List.set_cons_succ]))
      (refine takeH (i := 5) (v := ?_) rfl (by kernel_rfl) (by kernel_rfl) (by kernel_rfl) (fun _ _ _ h => h) (Or.inl ⟨by rfl, ?_⟩) (by assumption) ?_; rotate_left; (focus ((intro wS hSw); (try dsimp only at hSw); obtain ⟨s0, s1, s2⟩ := hSw; go_simp; (try with_reducible rfl); done)); (try simp only [Act.put, List.setIfInBounds_toArray, List.set_cons_zero, List.set_cons_succ]))
      refine aloneH (i := 6) rfl (by kernel_rfl) (fun K hK => ?_)
      rw [if_pos (by rfl)]
      go_simp; ((refine HLc.out.mono ?_); (rintro e w1 ⟨B2, rfl, hl, hB, hb⟩); have HL1 := Lib.hid (And.intro hl hB); have HB1 := Lib.hid hb; clear hl hB hb; (try go_simp))
      refine hK.out _ _ (⟨cell_on HB1.out hHeld.1, cell_on HB1.out hHeld.2.1, cell_on HB1.out hHeld.2.2⟩) (fun hNew => ?_)
      clear hK K hHeld; (have hHeld := hNew); clear hNew; (try simp only [Act.put, List.setIfInBounds_toArray, List.set_cons_zero, List.set_cons_succ])
      refine aloneH (i := 7) rfl (by kernel_rfl) (fun K hK => ?_)
      rw [if_pos (by rfl)]
      obtain ⟨w2, hr4, hp, hg4, hblk⟩ := (HNd.out.on HB1.out).put (by have := HKs.out; unfold maxLen; omega) HK.out HL1.out.1 (Nat.le_trans HWd.out.size HL1.out.2) (.inr fun s' c' L' e => by
        have h7 := (HNd.out.2.2.1 s' c' B2 L' e).1.lt
        have h8 := HL1.out.2
        omega)
      have hru : (Instr.mapUpdate 69 (.map (some w.heap.size)) (.agg #[.string s, .int .i64 c]) (.pointer (some ⟨B2, 0, none⟩))).run Try.prog w1 = .ok () w2 := hr4
      have HKeep : Hid (w2.cell? ⟨w.heap.size + 1, 0, none⟩ = some (.map (some w.heap.size)) ∧ w2.cell? ⟨kb, 0, none⟩ = some (.string s) ∧ w2.cell? ⟨kb, 1, none⟩ = some (.int .i64 c)) := Lib.hid (by
        obtain ⟨q0, q1, _, _⟩ := row2 ((hblk kb (Nat.ne_of_gt HKb.out)).trans (heap_on HB1.out HKx.out))
        exact ⟨hp.cell, q0, q1⟩)
      have HP := Lib.hid (And.intro hp (And.intro hg4 hblk))
      clear hp hg4 hblk hr4
      go_simp
      refine hK.out _ _ (HKeep.out) (fun hNew => ?_)
      clear hK K hHeld; (have hHeld := hNew); clear hNew; (try simp only [Act.put])
      refine wpAnyH_done (by kernel_rfl) ?_ _
      clear hHeld
      have HBF : Hid (Below w.heap.size w w2) := Lib.hid ((below_then HWd.out HB1.out).trans ⟨HP.out.2.1.os, HP.out.2.1.tape, HP.out.2.1.output, HP.out.2.1.size, fun k hk => HP.out.2.2 k (Nat.ne_of_lt hk)⟩)
      have HRgF : Hid (Rng w2 base R bm n F r ((s, c) :: T) cnt') := Lib.hid ((HRgd.out.on HB1.out).put (HH.out.on HBF.out) HP.out.2.1 (Nat.ne_of_lt HH.out.bmlt) (by have := HR0.out; omega))
      have HML : Hid (w2.rangeLeft bm r < wr.rangeLeft bm r) := Lib.hid (by rw [HRgF.out.left, HRg.out.left]; exact HM.out.1)
      have HCp2 := Lib.hid (HCp.out.next (B2 := B2) HF.out)
      have HN2 := Lib.hid HP.out.1
      go_wp2
      go_roundw
      case rel => exact ⟨(s, c) :: T, cnt', _, HRgF, HN2, HCp2, HBF⟩
      case measure => exact HML.out
end Go.Proofs.Ytlnpflfkkjcopaa
