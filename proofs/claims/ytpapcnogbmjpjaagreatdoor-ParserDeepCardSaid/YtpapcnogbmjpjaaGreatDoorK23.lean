/- The number of a box. Names. -/
import Derived.Test.YtpapcnogbmjpjaaGreatDoorK22
import Derived.Lib.ConvBytes
namespace Go.Proofs.YtpapcnogbmjpjaaGreatDoor
open Go.RowKit
set_option maxRecDepth 100000
set_option linter.unusedSimpArgs false
set_option linter.unusedVariables false
attribute [local go_sem] Oper.semAt_some

theorem rd_flags {w : World} {R : Nat} {en : Int} {s : Rd} (h : RdAt w R en s) (i : Nat) (v : Value) (nb lg : Bool) (hs : (w.setCell ⟨R, i, none⟩ v).heap[R]? = (some (.cells #[.slice (Classical.choose h) s.T.length (Classical.choose (Classical.choose_spec h)), .int .i64 en, .bool nb, .bool lg] 79 (0, 0)))) : RdAt (w.setCell ⟨R, i, none⟩ v) R en { s with nb := nb, lg := lg } := by
  obtain ⟨h1, h2, h3, h4, h5, h6, h7⟩ := Classical.choose_spec (Classical.choose_spec h)
  refine ⟨_, _, hs, ?_, ?_, h4, h5, h6, h7⟩
  · intro hn
    obtain ⟨b', o', e, hlt, hc⟩ := h2 hn
    refine ⟨b', o', e, by rw [World.size_setCell]; exact hlt, fun j u hv => ?_⟩
    rw [World.cell?_of_block (heap_setCell_other w _ _ _ (by simpa using (h3 b' o' e).off h1 (by decide)))]
    exact hc j u hv
  · intro b o e
    obtain ⟨cs, hcs⟩ := h3 b o e
    exact ⟨cs, (heap_setCell_other w _ _ _ (by simpa using (h3 b o e).off h1 (by decide))).trans hcs⟩
theorem rd_nb {w : World} {R : Nat} {en : Int} {s : Rd} (h : RdAt w R en s) (b : Bool) : RdAt (w.setCell ⟨R, 2, none⟩ (.bool b)) R en { s with nb := b } :=
  rd_flags h 2 (.bool b) b s.lg (by simpa using heap_setCell_same w R 2 _ _ (.bool b) (Classical.choose_spec (Classical.choose_spec h)).1)
theorem rd_lg {w : World} {R : Nat} {en : Int} {s : Rd} (h : RdAt w R en s) (b : Bool) : RdAt (w.setCell ⟨R, 3, none⟩ (.bool b)) R en { s with lg := b } :=
  rd_flags h 3 (.bool b) s.nb b (by simpa using heap_setCell_same w R 3 _ _ (.bool b) (Classical.choose_spec (Classical.choose_spec h)).1)
theorem rd_cells {w : World} {R : Nat} {en : Int} {s : Rd} (h : RdAt w R en s) : w.cell? ⟨R, 2, none⟩ = some (.bool s.nb) ∧ w.cell? ⟨R, 3, none⟩ = some (.bool s.lg) ∧ w.frozen? ⟨R, 2, none⟩ = false ∧ w.frozen? ⟨R, 3, none⟩ = false := by
  obtain ⟨A, c, h1, _⟩ := h
  exact ⟨cell_of_row w R 2 _ _ _ h1, cell_of_row w R 3 _ _ _ h1, frozen_of_row w R 2 _ _ h1, frozen_of_row w R 3 _ _ h1⟩
theorem build_ref (n : Int) (w : World) : (Instr.build 32 #[(0, .int .i64 2), (1, .int .i64 n)]).run Tryz.prog w = .ok (.agg #[.int .i64 2, .int .i64 n, .string ⟨#[]⟩, .slice none 0 0, .slice none 0 0]) w := run_build w 32 _ _ (by kernel_rfl)
set_option maxHeartbeats 1000000 in
theorem code_boxNumber_no {w : World} {R : Nat} {en : Int} {s : Rd} (h : RdAt w R en s) (t : TokV) (ht : nextT en s = t) (hk : t.1 ≠ 2) : Calls Tryz.prog 57 #[.pointer (some ⟨R, 0, none⟩)] w fun e w' => Flt e t.2.1 81 ∧ Below w.heap.size w w' := by
  have H := Lib.hid (code_take_no h t ht 2 hk)
  clear h ht hk
  go_enter Tryz.func57, Tryz.ntmps57
  go_wp2_with (go_at_call 76; refine H.out.mono ?_; rintro e w' ⟨rfl, hB⟩; refine Stop.out ?_)
  unfold Stop
  first | exact ⟨rfl, rfl, hB⟩ | (go_wp2; exact ⟨rfl, rfl, hB⟩)
set_option maxHeartbeats 2000000 in
theorem code_boxNumber_yes {w : World} {R : Nat} {en : Int} {s : Rd} (h : RdAt w R en s) {t : TokV} {L : List TokV} (hT : s.T = t :: L) (hk : t.1 = 2) : Calls Tryz.prog 57 #[.pointer (some ⟨R, 0, none⟩)] w fun e w' => e = .returned (.int .i64 t.2.2.2) ∧ RdAt w' R en { s with T := L, nb := s.nb || !decide (1 ≤ t.2.2.2 ∧ t.2.2.2 ≤ 9999) } ∧ Chg R w w' := by
  have H := Lib.hid (code_take_yes h hT)
  obtain ⟨a0, a1, a2, a3⟩ := t
  obtain ⟨T, nb, lg⟩ := s
  obtain rfl : a0 = 2 := hk
  have hn := tok_n 2 a1 a3 a2
  have hbr := build_ref a3
  have HG := Lib.hid (code_good_ref a3)
  have hnot : ∀ (x : Bool) (w : World), (Op.unary .not (.bool x)).run Tryz.prog w = .ok (.bool (!x)) w := fun _ _ => rfl
  clear h
  dsimp only at H ⊢
  generalize decide (1 ≤ a3 ∧ a3 ≤ 9999) = q at HG ⊢
  go_enter Tryz.func57, Tryz.ntmps57
  go_wp2_with (go_at_call 76; refine H.out.mono ?_; rintro e w2 ⟨rfl, hR, hC⟩; refine Stop.out ?_)
  unfold Stop
  try unfold tokA
  have HR := Lib.hid hR
  have HC := Lib.hid hC
  obtain ⟨c2, c3, z2, z3⟩ := rd_cells hR
  clear hR hC H hT
  cases nb with
  | true =>
    go_wp2
    go_ret
    exact ⟨rfl, rd_nb HR.out true, HC.out.trans (Chg.one _ _ _)⟩
  | false =>
    dsimp only at c2
    go_wp2_with (go_at_call 42; refine (HG.out _).mono ?_; rintro e w3 ⟨rfl, hb⟩; refine Stop.out ?_)
    unfold Stop
    have HR3 := Lib.hid (HR.out.on hb)
    have HC3 := Lib.hid (HC.out.trans (Chg.of (R := R) hb))
    obtain ⟨d2, d3, y2, y3⟩ := rd_cells HR3.out
    clear c2 c3 z2 z3 hb
    go_wp2
    go_ret
    exact ⟨rfl, rd_nb HR3.out _, HC3.out.trans (Chg.one _ _ _)⟩
theorem take_out {en : Int} {s : Rd} (h : takeP' 2 en s = .out) : False := by
  unfold takeP' at h
  split at h
  · cases h
  · split at h <;> cases h
theorem boxN_C (G : Gr) (R : Nat) : BoxNC G R := by
  intro s w hr
  unfold boxNP
  cases ht : takeP' 2 G.en s with
  | out => exact (take_out ht).elim
  | ok t s1 =>
    obtain ⟨L, hT, hk, rfl⟩ := tak_yes ht
    exact (code_boxNumber_yes hr hT hk).mono fun _ _ h => h
  | flt a k =>
    obtain ⟨hk, rfl, rfl⟩ := tak_no ht
    exact (code_boxNumber_no hr _ rfl hk).mono fun _ _ h => ⟨h.1, Chg.of h.2⟩
end Go.Proofs.YtpapcnogbmjpjaaGreatDoor

namespace Go.Proofs.YtpapcnogbmjpjaaGreatDoor
open Go.RowKit
set_option maxRecDepth 100000
set_option linter.unusedSimpArgs false
set_option linter.unusedVariables false
attribute [local go_sem] Oper.semAt_some

def lowU (b : UInt8) : Bool := decide (97 ≤ b.toNat) && decide (b.toNat ≤ 122)
theorem code_low (b : UInt8) (w : World) : Calls Tryz.prog 109 #[.int .u8 (b.toNat : Nat)] w fun e w' => e = .returned (.bool (lowU b)) ∧ w' = w := by
  unfold lowU
  generalize b.toNat = n
  by_cases h1 : 97 ≤ n
  · have h1' : (97 : Int) ≤ (n : Int) := by omega
    by_cases h2 : n ≤ 122
    · have h2' : (n : Int) ≤ 122 := by omega
      go_enter Tryz.func109, Tryz.ntmps109
      go_wp2
      go_ret
      simp [h1, h2]
    · have h2' : ¬ (n : Int) ≤ 122 := by omega
      go_enter Tryz.func109, Tryz.ntmps109
      go_wp2
      go_ret
      simp [h1, h2]
  · have h1' : ¬ (97 : Int) ≤ (n : Int) := by omega
    go_enter Tryz.func109, Tryz.ntmps109
    go_wp2
    go_ret
    simp [h1]
set_option maxHeartbeats 2000000 in
theorem code_allB (g n c : Nat) (l : List UInt8) (hn : l.length = n) (hm : n ≤ 32) (w : World) (hc : ∀ j, j < n → w.cell? ⟨g, j, none⟩ = some (.int .u8 ((l.getD j 0).toNat : Nat))) :
    Calls Tryz.prog 108 #[.slice (some ⟨g, 0, none⟩) n c, .func (.func 109) #[] #[]] w fun e w' => e = .returned (.bool (l.all lowU)) ∧ w' = w := by
  have HC := Lib.hid hc
  have HN := Lib.hid hn
  have hnot : ∀ (x : Bool) (w : World), (Op.unary .not (.bool x)).run Tryz.prog w = .ok (.bool (!x)) w := fun _ _ => rfl
  clear hc hn
  go_enter Tryz.func108, Tryz.ntmps108
  go_wp2
  go_loopw [9] (fun v9 wr => ∃ k : Nat, v9 = .int .i64 (k : Nat) ∧ Hid (k ≤ n ∧ (l.take k).all lowU = true) ∧ wr = w) (fun v9 _ => n - (intOf v9).toNat)
  case atStart => exact ⟨0, rfl, Lib.hid ⟨Nat.zero_le _, by simp⟩, rfl⟩
  case round =>
    obtain ⟨k, rfl, HK, rfl⟩ := hrel
    by_cases hlt : k < n
    · have u := HC.out k hlt
      obtain ⟨b, hb⟩ : ∃ b, b = l.getD k 0 := ⟨_, rfl⟩
      rw [← hb] at u
      have hlk : k < l.length := by rw [HN.out]; exact hlt
      have hbk : l[k] = b := by rw [hb]; simp [hlk]
      have HNx : Hid ((l.take (k + 1)).all lowU = lowU b) := Lib.hid (by
        rw [List.take_succ_eq_append_getElem hlk, List.all_append, HK.out.2, hbk]
        simp)
      have HAl : Hid (l.all lowU = true → lowU b = true) := Lib.hid (fun h => by
        rw [← hbk]
        exact List.all_eq_true.1 h _ (List.getElem_mem hlk))
      have hle : k + 1 ≤ n := hlt
      clear hb hbk hlk
      cases hq : lowU b with
      | true =>
        rw [hq] at HNx HAl
        have HL := Lib.hid (code_low b wr)
        rw [hq] at HL
        clear hq
        go_wp2_with (go_at_call 109; refine HL.out.mono ?_; rintro e w2 ⟨rfl, rfl⟩; refine Stop.out ?_)
        unfold Stop
        go_wp2
        exact ⟨⟨k + 1, by first | rfl | simp, Lib.hid ⟨hle, HNx.out⟩, by trivial⟩, by simp [intOf]; omega⟩
      | false =>
        rw [hq] at HNx HAl
        have HL := Lib.hid (code_low b wr)
        rw [hq] at HL
        have HFa : Hid (l.all lowU = false) := Lib.hid (by
          cases h : l.all lowU with
          | false => rfl
          | true => exact absurd (HAl.out h) (by simp))
        clear hq
        go_wp2_with (go_at_call 109; refine HL.out.mono ?_; rintro e w2 ⟨rfl, rfl⟩; refine Stop.out ?_)
        unfold Stop
        go_wp2
        go_ret
        first | exact ⟨ret_bool HFa.out.symm, rfl⟩ | exact ret_bool HFa.out.symm
    · obtain rfl : k = n := by have := HK.out.1; omega
      have HTr : Hid (l.all lowU = true) := Lib.hid (by have := HK.out.2; rwa [List.take_of_length_le (by rw [HN.out]; exact Nat.le_refl _)] at this)
      go_wp2
      go_ret
      first | exact ⟨ret_bool HTr.out.symm, rfl⟩ | exact ret_bool HTr.out.symm
/-- a name -/
def nameB (s : ByteArray) : Bool := decide (1 ≤ s.size) && decide (s.size ≤ 32) && !kwB s && s.data.toList.all lowU
set_option maxHeartbeats 2000000 in
theorem code_isName (s : ByteArray) (w : World) : Calls Tryz.prog 93 #[.string s] w fun e w' => e = .returned (.bool (nameB s)) ∧ Below w.heap.size w w' := by
  have HK := Lib.hid (code_Keyword s)
  by_cases h1 : 1 ≤ s.size
  · by_cases h2 : s.size ≤ 32
    · cases hk : kwB s with
      | true =>
        have HNm : Hid (nameB s = false) := Lib.hid (by unfold nameB; rw [hk]; simp)
        rw [hk] at HK
        clear hk
        go_enter Tryz.func93, Tryz.ntmps93
        go_wp2_with (go_at_call 107; refine (HK.out _).mono ?_; rintro e w2 ⟨rfl, rfl⟩; refine Stop.out ?_)
        unfold Stop
        go_wp2
        go_ret
        exact ⟨ret_bool HNm.out.symm, Below.refl _ _⟩
      | false =>
        have HNm : Hid (nameB s = s.data.toList.all lowU) := Lib.hid (by unfold nameB; rw [hk]; simp [h1, h2])
        have hcv : ∀ w : World, (convert 9 62 (.string s)).run Tryz.prog w = .ok (.slice (some ⟨w.heap.size, 0, none⟩) s.size (grownCap w s.size 0 5)) (Lib.bytesWorld w 5 s) := fun w => Lib.run_convert_string_bytes w _ _ _ s Tryz.underlying9 Tryz.underlying62 Tryz.underlying5
        have HAl := Lib.hid (fun (w : World) => code_allB w.heap.size s.size (grownCap w s.size 0 5) s.data.toList (by rw [Array.length_toList]; rfl) h2 (Lib.bytesWorld w 5 s) (fun j hj => Lib.bytesWorld_cell w _ s j hj))
        have HBw : Hid (∀ w : World, Below w.heap.size w (Lib.bytesWorld w 5 s)) := Lib.hid (fun w => ⟨by simp [Lib.bytesWorld, World.freeze, World.alloc, World.drew, -World.alloc_eq, -World.drew_eq], by simp [Lib.bytesWorld, World.freeze, World.alloc, World.drew, -World.alloc_eq, -World.drew_eq], by simp [Lib.bytesWorld, World.freeze, World.alloc, World.drew, -World.alloc_eq, -World.drew_eq], by rw [Lib.bytesWorld_size]; omega, fun k hk => Lib.bytesWorld_at_old w _ s k hk⟩)
        rw [hk] at HK
        clear hk
        go_enter Tryz.func93, Tryz.ntmps93
        go_wp2_with (go_at_call 107; refine (HK.out _).mono ?_; rintro e w2 ⟨rfl, rfl⟩; refine Stop.out ?_)
        unfold Stop
        go_wp2_with (go_at_call 108; refine (HAl.out _).mono ?_; rintro e w3 ⟨rfl, rfl⟩; refine Stop.out ?_)
        unfold Stop
        go_wp2
        go_ret
        exact ⟨ret_bool (by rw [HNm.out, Array.all_toList]; rfl), HBw.out _⟩
    · have HNm : Hid (nameB s = false) := Lib.hid (by unfold nameB; simp [h2])
      go_enter Tryz.func93, Tryz.ntmps93
      go_wp2
      go_ret
      exact ⟨ret_bool HNm.out.symm, Below.refl _ _⟩
  · have HNm : Hid (nameB s = false) := Lib.hid (by unfold nameB; simp [h1])
    go_enter Tryz.func93, Tryz.ntmps93
    go_wp2
    go_ret
    exact ⟨ret_bool HNm.out.symm, Below.refl _ _⟩
end Go.Proofs.YtpapcnogbmjpjaaGreatDoor
