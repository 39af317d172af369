/- Are batches the same; are parts not more than are looked at. What wiping behind the tail leaves: plain facts. -/
import Derived.Test.YtmgonokhgijgoaaJ35
import Derived.Test.YtmgonokhgijgoaaJ41
import Derived.Test.YtmgonokhgijgoaaJ33
import Derived.Test.YtmgonokhgijgoaaJ26
import Derived.Test.YtmgonokhgijgoaaJ42
namespace Go.Proofs.Ytmgonokhgijgoaa
open Go.RowKit
set_option maxRecDepth 100000
set_option linter.unusedSimpArgs false
set_option linter.unusedVariables false

theorem OwnT.secs {B : Nat} {v : Value} {L : List Text} {W : World} (h : OwnT B v L W) : ∃ A c, v = .slice A L.length c ∧ SecsAt W A c L := by
  have hx := h
  obtain ⟨xs, h1, _⟩ := hx
  rcases h1.2 with ⟨rfl, h0⟩ | ⟨g, c, cur, rfl, _, _, hc, _⟩
  · exact ⟨none, 0, by rw [h0], .inl ⟨rfl, List.eq_nil_of_length_eq_zero h0, rfl⟩⟩
  · exact ⟨_, c, rfl, .inr ⟨g, rfl, h.texts rfl, hc⟩⟩
set_option maxHeartbeats 2000000 in
theorem code_lsame (L : List Text) (A A' : Option Addr) (c c' : Nat) (w : World) (hl : L.length ≤ 100000) (h : SecsAt w A c L) (h' : SecsAt w A' c' L) :
    Calls Try.prog 19 #[.slice A L.length c, .slice A' L.length c'] w fun e w' => e = .returned (.bool true) ∧ Below w.heap.size w w' := by
  have HA := Lib.hid h
  have HA' := Lib.hid h'
  have HL := Lib.hid hl
  clear h h' hl
  have hnl : ((L.length : Int) != (L.length : Int)) = false := by simp
  go_enter Try.func19, Try.ntmps19
  go_wp2
  clear hnl
  go_loopw [13] (fun i wr => ∃ k : Nat, k ≤ L.length ∧ i = .int .i64 (k : Nat) ∧ Hid (Below w.heap.size w wr)) (fun i _ => roundsLeft L.length i)
  case atStart => exact ⟨0, Nat.zero_le _, rfl, Lib.hid (Below.refl _ _)⟩
  case round =>
    obtain ⟨k, hk, rfl, HB⟩ := hrel
    by_cases hlt : k < L.length
    · have hlt' : (k : Int) < (L.length : Int) := by omega
      have hwk : wrap64 ((k : Int) + 1) = (k : Int) + 1 := by have := HL.out; unfold wrap64; omega
      rcases HA.out with ⟨rfl, rfl, rfl⟩ | ⟨G, rfl, hT, _⟩
      · simp at hlt
      rcases HA'.out with ⟨rfl, rfl, rfl⟩ | ⟨G', rfl, hT', _⟩
      · simp at hlt
      obtain ⟨b, cb, q1, q2, q3, q4, q5, q6⟩ := hT k hlt
      obtain ⟨b2, cb2, r1, r2, r3, r4, r5, r6⟩ := hT' k hlt
      obtain ⟨T, hT0⟩ : ∃ T, T = L[k] := ⟨_, rfl⟩
      rw [← hT0] at q1 q4 r1 r4
      clear hT0 q2 q3 q5 q6 r2 r3 r5 r6 hT hT'
      have c1 := (HB.out.cell (p := ⟨G, k, none⟩) (block_lt_of_cell q1)).trans q1
      have c2 := (HB.out.cell (p := ⟨G', k, none⟩) (block_lt_of_cell r1)).trans r1
      have t1 : Txt wr (some ⟨b, 0, none⟩) T := (mid_txt q4).below HB.out
      have t2 : Txt wr (some ⟨b2, 0, none⟩) T := (mid_txt r4).below HB.out
      generalize hnT : T.length = nT at c1 c2
      have HnT := Lib.hid hnT
      have hlk : k < L.length := hlt
      have HS0 : Hid ((fun V : World => V.cell? ⟨G, k, none⟩ = some (.slice (some ⟨b, 0, none⟩) nT cb) ∧ V.cell? ⟨G', k, none⟩ = some (.slice (some ⟨b2, 0, none⟩) nT cb2) ∧ Txt V (some ⟨b, 0, none⟩) T ∧ Txt V (some ⟨b2, 0, none⟩) T) wr.drew) := Lib.hid ⟨cell_on (Below.refl _ _).drew c1, cell_on (Below.refl _ _).drew c2, t1.below (Below.refl _ _).drew, t2.below (Below.refl _ _).drew⟩
      have HBd : Hid (Below w.heap.size w wr.drew) := Lib.hid HB.out.drew
      clear hnT c1 c2 t1 t2 q1 q4 r1 r4
      go_wp2
      refine wp_region_held_drew (S := fun V => V.cell? ⟨G, k, none⟩ = some (.slice (some ⟨b, 0, none⟩) nT cb) ∧ V.cell? ⟨G', k, none⟩ = some (.slice (some ⟨b2, 0, none⟩) nT cb2) ∧ Txt V (some ⟨b, 0, none⟩) T ∧ Txt V (some ⟨b2, 0, none⟩) T) (by kernel_rfl) HS0.out ?_
      intro hHeld
      clear HS0
      generalize wr.drew = wd at HBd hHeld ⊢
      (refine takeH (i := 0) (v := ?_) rfl (by kernel_rfl) (by kernel_rfl) (by kernel_rfl) (fun _ _ _ h => h) (Or.inl ⟨by rfl, ?_⟩) (by assumption) ?_; rotate_left; (focus ((intro wS hSw); (try dsimp only at hSw); obtain ⟨s0, s1, t0, t1⟩ := hSw; (have e1 := text_run_n wS (some ⟨b, 0, none⟩) cb nT T HnT.out t0 (fun e => by cases e)); (have e2 := text_run_n wS (some ⟨b2, 0, none⟩) cb2 nT T HnT.out t1 (fun e => by cases e)); clear t0 t1; go_simp; (try with_reducible rfl); done)); (try simp only [Act.put, List.setIfInBounds_toArray, List.set_cons_zero, List.set_cons_succ]))
      (refine takeH (i := 1) (v := ?_) rfl (by kernel_rfl) (by kernel_rfl) (by kernel_rfl) (fun _ _ _ h => h) (Or.inl ⟨by rfl, ?_⟩) (by assumption) ?_; rotate_left; (focus ((intro wS hSw); (try dsimp only at hSw); obtain ⟨s0, s1, t0, t1⟩ := hSw; (have e1 := text_run_n wS (some ⟨b, 0, none⟩) cb nT T HnT.out t0 (fun e => by cases e)); (have e2 := text_run_n wS (some ⟨b2, 0, none⟩) cb2 nT T HnT.out t1 (fun e => by cases e)); clear t0 t1; go_simp; (try with_reducible rfl); done)); (try simp only [Act.put, List.setIfInBounds_toArray, List.set_cons_zero, List.set_cons_succ]))
      (refine takeH (i := 2) (v := ?_) rfl (by kernel_rfl) (by kernel_rfl) (by kernel_rfl) (fun _ _ _ h => h) (Or.inl ⟨by rfl, ?_⟩) (by assumption) ?_; rotate_left; (focus ((intro wS hSw); (try dsimp only at hSw); obtain ⟨s0, s1, t0, t1⟩ := hSw; (have e1 := text_run_n wS (some ⟨b, 0, none⟩) cb nT T HnT.out t0 (fun e => by cases e)); (have e2 := text_run_n wS (some ⟨b2, 0, none⟩) cb2 nT T HnT.out t1 (fun e => by cases e)); clear t0 t1; go_simp; (try with_reducible rfl); done)); (try simp only [Act.put, List.setIfInBounds_toArray, List.set_cons_zero, List.set_cons_succ]))
      (refine takeH (i := 3) (v := ?_) rfl (by kernel_rfl) (by kernel_rfl) (by kernel_rfl) (fun _ _ _ h => h) (Or.inl ⟨by rfl, ?_⟩) (by assumption) ?_; rotate_left; (focus ((intro wS hSw); (try dsimp only at hSw); obtain ⟨s0, s1, t0, t1⟩ := hSw; (have e1 := text_run_n wS (some ⟨b, 0, none⟩) cb nT T HnT.out t0 (fun e => by cases e)); (have e2 := text_run_n wS (some ⟨b2, 0, none⟩) cb2 nT T HnT.out t1 (fun e => by cases e)); clear t0 t1; go_simp; (try with_reducible rfl); done)); (try simp only [Act.put, List.setIfInBounds_toArray, List.set_cons_zero, List.set_cons_succ]))
      (refine takeH (i := 4) (v := ?_) rfl (by kernel_rfl) (by kernel_rfl) (by kernel_rfl) (fun _ _ _ h => h) (Or.inl ⟨by rfl, ?_⟩) (by assumption) ?_; rotate_left; (focus ((intro wS hSw); (try dsimp only at hSw); obtain ⟨s0, s1, t0, t1⟩ := hSw; (have e1 := text_run_n wS (some ⟨b, 0, none⟩) cb nT T HnT.out t0 (fun e => by cases e)); (have e2 := text_run_n wS (some ⟨b2, 0, none⟩) cb2 nT T HnT.out t1 (fun e => by cases e)); clear t0 t1; go_simp; (try with_reducible rfl); done)); (try simp only [Act.put, List.setIfInBounds_toArray, List.set_cons_zero, List.set_cons_succ]))
      (refine takeH (i := 5) (v := ?_) rfl (by kernel_rfl) (by kernel_rfl) (by kernel_rfl) (fun _ _ _ h => h) (Or.inl ⟨by rfl, ?_⟩) (by assumption) ?_; rotate_left; (focus ((intro wS hSw); (try dsimp only at hSw); obtain ⟨s0, s1, t0, t1⟩ := hSw; (have e1 := text_run_n wS (some ⟨b, 0, none⟩) cb nT T HnT.out t0 (fun e => by cases e)); (have e2 := text_run_n wS (some ⟨b2, 0, none⟩) cb2 nT T HnT.out t1 (fun e => by cases e)); clear t0 t1; go_simp; (try with_reducible rfl); done)); (try simp only [Act.put, List.setIfInBounds_toArray, List.set_cons_zero, List.set_cons_succ]))
      (refine takeH (i := 6) (v := ?_) rfl (by kernel_rfl) (by kernel_rfl) (by kernel_rfl) (fun _ _ _ h => h) (Or.inl ⟨by rfl, ?_⟩) (by assumption) ?_; rotate_left; (focus ((intro wS hSw); (try dsimp only at hSw); obtain ⟨s0, s1, t0, t1⟩ := hSw; (have e1 := text_run_n wS (some ⟨b, 0, none⟩) cb nT T HnT.out t0 (fun e => by cases e)); (have e2 := text_run_n wS (some ⟨b2, 0, none⟩) cb2 nT T HnT.out t1 (fun e => by cases e)); clear t0 t1; go_simp; (try with_reducible rfl); done)); (try simp only [Act.put, List.setIfInBounds_toArray, List.set_cons_zero, List.set_cons_succ]))
      (refine takeH (i := 7) (v := ?_) rfl (by kernel_rfl) (by kernel_rfl) (by kernel_rfl) (fun _ _ _ h => h) (Or.inl ⟨by rfl, ?_⟩) (by assumption) ?_; rotate_left; (focus ((intro wS hSw); (try dsimp only at hSw); obtain ⟨s0, s1, t0, t1⟩ := hSw; (have e1 := text_run_n wS (some ⟨b, 0, none⟩) cb nT T HnT.out t0 (fun e => by cases e)); (have e2 := text_run_n wS (some ⟨b2, 0, none⟩) cb2 nT T HnT.out t1 (fun e => by cases e)); clear t0 t1; go_simp; (try with_reducible rfl); done)); (try simp only [Act.put, List.setIfInBounds_toArray, List.set_cons_zero, List.set_cons_succ]))
      (refine takeH (i := 8) (v := ?_) rfl (by kernel_rfl) (by kernel_rfl) (by kernel_rfl) (fun _ _ _ h => h) (Or.inl ⟨by rfl, ?_⟩) (by assumption) ?_; rotate_left; (focus ((intro wS hSw); (try dsimp only at hSw); obtain ⟨s0, s1, t0, t1⟩ := hSw; (have e1 := text_run_n wS (some ⟨b, 0, none⟩) cb nT T HnT.out t0 (fun e => by cases e)); (have e2 := text_run_n wS (some ⟨b2, 0, none⟩) cb2 nT T HnT.out t1 (fun e => by cases e)); clear t0 t1; go_simp; (try with_reducible rfl); done)); (try simp only [Act.put, List.setIfInBounds_toArray, List.set_cons_zero, List.set_cons_succ]))
      (refine takeH (i := 9) (v := ?_) rfl (by kernel_rfl) (by kernel_rfl) (by kernel_rfl) (fun _ _ _ h => h) (Or.inl ⟨by rfl, ?_⟩) (by assumption) ?_; rotate_left; (focus ((intro wS hSw); (try dsimp only at hSw); obtain ⟨s0, s1, t0, t1⟩ := hSw; (have e1 := text_run_n wS (some ⟨b, 0, none⟩) cb nT T HnT.out t0 (fun e => by cases e)); (have e2 := text_run_n wS (some ⟨b2, 0, none⟩) cb2 nT T HnT.out t1 (fun e => by cases e)); clear t0 t1; go_simp; (try with_reducible rfl); done)); (try simp only [Act.put, List.setIfInBounds_toArray, List.set_cons_zero, List.set_cons_succ]))
      (refine takeH (i := 10) (v := ?_) rfl (by kernel_rfl) (by kernel_rfl) (by kernel_rfl) (fun _ _ _ h => h) (Or.inl ⟨by rfl, ?_⟩) (by assumption) ?_; rotate_left; (focus ((intro wS hSw); (try dsimp only at hSw); obtain ⟨s0, s1, t0, t1⟩ := hSw; (have e1 := text_run_n wS (some ⟨b, 0, none⟩) cb nT T HnT.out t0 (fun e => by cases e)); (have e2 := text_run_n wS (some ⟨b2, 0, none⟩) cb2 nT T HnT.out t1 (fun e => by cases e)); clear t0 t1; go_simp; (try with_reducible rfl); done)); (try simp only [Act.put, List.setIfInBounds_toArray, List.set_cons_zero, List.set_cons_succ]))
      refine wpAnyH_done (by kernel_rfl) ?_ _
      clear hHeld
      have hbs : (T.toArray.toList == T.toArray.toList) = true := beq_self_eq_true _
      go_wp2
      go_roundw
      case rel => exact ⟨k + 1, by omega, congrArg (Value.int .i64) (by omega), HBd⟩
      case measure => rw [hwk]; exact roundsLeft_next _ _ hlk
    · have hge : (L.length : Int) ≤ (k : Int) := by omega
      go_wp2
      go_ret
      exact ⟨rfl, HB.out⟩
end Go.Proofs.Ytmgonokhgijgoaa

namespace Go.Proofs.Ytmgonokhgijgoaa
open Go.RowKit
set_option maxRecDepth 100000
set_option linter.unusedSimpArgs false
set_option linter.unusedVariables false

theorem wipe_all : ∀ (L : List Nat) (n : Nat) (d : DiskV), (∀ i ∈ L, i < d.many) → d.dead = false → d.set = false → (∀ i, i < d.many → (d.S i).length = 64) →
    ∃ d2, wipeL d n L = (d2, n + L.length, 0) ∧ d2.many = d.many ∧ d2.dead = false ∧ d2.set = false ∧ d2.torn = d.torn ∧ d2.after = d.after ∧ d2.writes = d.writes + L.length ∧ ∀ j, j < d.many → d2.S j = if j ∈ L then zeros else d.S j := by
  intro L
  induction L with
  | nil => intro n d _ h2 h3 _; exact ⟨d, rfl, rfl, h2, h3, rfl, rfl, by simp, fun j _ => by simp⟩
  | cons i L ih =>
    intro n d h1 h2 h3 h4
    have hi : i < d.many := h1 i (by simp)
    obtain ⟨e1, e2⟩ := writeD_plain (d := d) (k := i) (T := zeros) hi h2 h3 zeros_len
    have hS : ∀ j, j < d.many → (writeD d i zeros).S j = if j = i then zeros else d.S j := fun j hj => by
      rw [e1]
      show (if j = i then overP (d.S i) zeros else d.S j) = _
      by_cases h : j = i
      · rw [if_pos h, if_pos h, overP_full (h4 i hi) zeros_len]
      · rw [if_neg h, if_neg h]
    have hm : (writeD d i zeros).many = d.many := writeD_many _ _ _
    obtain ⟨d2, q1, q2, q3, q4, q5, q6, q7, q8⟩ := ih (n + 1) (writeD d i zeros) (fun j hj => by rw [hm]; exact h1 j (by simp [hj])) (by rw [e1]; exact h2) (by rw [e1]; exact h3) (fun j hj => by
      rw [hm] at hj
      rw [hS j hj]
      split
      · exact zeros_len
      · exact h4 j hj)
    refine ⟨d2, ?_, q2.trans hm, q3, q4, by rw [q5, e1]; rfl, by rw [q6, e1], ?_, fun j hj => ?_⟩
    · show (if writeE d i zeros = 0 then _ else _) = _
      rw [if_pos e2, q1, List.length_cons, Nat.add_right_comm, Nat.add_assoc]
    · rw [q7, e1, List.length_cons]
      show d.writes + 1 + _ = _
      omega
    · rw [q8 j (by rw [hm]; exact hj), hS j hj]
      by_cases h : j = i
      · subst h; simp
      · by_cases h' : j ∈ L
        · simp [h']
        · simp [h, h']
theorem find_ge (S : Nat → Text) (m : Nat) : ∀ f at_ L, at_ ≤ (findV S m f at_ L).2 := by
  intro f
  induction f with
  | zero => intro at_ L; exact Nat.le_refl _
  | succ f ih =>
    intro at_ L
    show at_ ≤ (if batchQ S m at_ (L.length + 1 : Nat) = true then findV S m f (at_ + needT (S at_)) (L ++ [batchT S at_]) else (L, at_)).2
    split
    · exact Nat.le_trans (Nat.le_add_right _ _) (ih _ _)
    · exact Nat.le_refl _
theorem find_le (S : Nat → Text) (m : Nat) : ∀ f at_ L, at_ ≤ m → (findV S m f at_ L).2 ≤ m := by
  intro f
  induction f with
  | zero => intro at_ L h; exact h
  | succ f ih =>
    intro at_ L h
    show (if batchQ S m at_ (L.length + 1 : Nat) = true then findV S m f (at_ + needT (S at_)) (L ++ [batchT S at_]) else (L, at_)).2 ≤ m
    split
    · rename_i hq
      exact ih _ _ (batch_in hq).2.2.2.1
    · exact h
/-- a batch is told by its own sectors alone -/
theorem batch_same {S S2 : Nat → Text} {m i : Nat} {q : Int} (hq : batchQ S m i q = true) (h : ∀ j, i ≤ j → j < i + needT (S i) → S2 j = S j) : batchQ S2 m i q = true ∧ needT (S2 i) = needT (S i) ∧ batchT S2 i = batchT S i := by
  obtain ⟨h1, h2, h3, h4, h5⟩ := batch_in hq
  have e0 : S2 i = S i := h i (Nat.le_refl _) (by omega)
  have e1 : S2 (i + needT (S i) - 1) = S (i + needT (S i) - 1) := h _ (by omega) (by omega)
  have e2 : someT S2 (i + 1) (needT (S i) - 2) = someT S (i + 1) (needT (S i) - 2) := by
    unfold someT
    refine List.map_congr_left fun k hk => ?_
    have := List.mem_range.1 hk
    exact h _ (by omega) (by omega)
  refine ⟨?_, by rw [e0], ?_⟩
  · unfold batchQ at hq ⊢
    rw [e0, e1, e2]
    exact hq
  · unfold batchT
    rw [e0, e2]
theorem find_same {S S2 : Nat → Text} {m : Nat} : ∀ f at_ L, (∀ j, at_ ≤ j → j < (findV S m f at_ L).2 → S2 j = S j) → ((findV S m f at_ L).2 < m → isB (S2 (findV S m f at_ L).2) = false) → findV S2 m f at_ L = findV S m f at_ L := by
  intro f
  induction f with
  | zero => intro at_ L _ _; rfl
  | succ f ih =>
    intro at_ L h1 h2
    cases hq : batchQ S m at_ (L.length + 1 : Nat) with
    | true =>
      rw [find_next hq] at h1 h2 ⊢
      have hge := find_ge S m f (at_ + needT (S at_)) (L ++ [batchT S at_])
      obtain ⟨e1, e2, e3⟩ := batch_same hq (fun j q1 q2 => h1 j q1 (by omega))
      rw [find_next e1, e2, e3]
      exact ih _ _ (fun j q1 q2 => h1 j (by omega) q2) h2
    | false =>
      rw [find_end hq] at h1 h2 ⊢
      have e : batchQ S2 m at_ (L.length + 1 : Nat) = false := by
        cases hb : batchQ S2 m at_ (L.length + 1 : Nat) with
        | false => rfl
        | true =>
          obtain ⟨q1, q2, _⟩ := batch_in hb
          rw [h2 q1] at q2
          cases q2
      rw [find_end e]
theorem zeros_noB : isB zeros = false := by decide +kernel
theorem find_wiped {S S2 : Nat → Text} {m : Nat} (h1 : ∀ j, j < (findT S m).2 → S2 j = S j) (h2 : ∀ j, (findT S m).2 ≤ j → j < m → S2 j = zeros) : findT S2 m = findT S m :=
  find_same _ _ _ (fun j _ hj => h1 j hj) (fun h => by
    have e := h2 _ (Nat.le_refl _) h
    show isB (S2 (findT S m).2) = false
    rw [e]
    exact zeros_noB)
theorem findT_le (S : Nat → Text) (m : Nat) : (findT S m).2 ≤ m := find_le S m _ _ _ (Nat.zero_le _)
/-- wiped from the tail on -/
theorem wiped_from {d : DiskV} {tail : Nat} (h2 : d.dead = false) (h3 : d.set = false) (h4 : ∀ i, i < d.many → (d.S i).length = 64) :
    ∃ d2, wipeL d 0 (dirtyL d.S tail d.many) = (d2, (dirtyL d.S tail d.many).length, 0) ∧ d2.many = d.many ∧ d2.dead = false ∧ d2.set = false ∧ d2.torn = d.torn ∧ d2.after = d.after ∧ d2.writes = d.writes + (dirtyL d.S tail d.many).length ∧ (∀ j, j < tail → j < d.many → d2.S j = d.S j) ∧ (∀ j, tail ≤ j → j < d.many → d2.S j = zeros) := by
  obtain ⟨d2, q1, q2, q3, q4, q5, q6, q7, q8⟩ := wipe_all (dirtyL d.S tail d.many) 0 d (dirtyL_lt _ _ _) h2 h3 h4
  rw [Nat.zero_add] at q1
  refine ⟨d2, q1, q2, q3, q4, q5, q6, q7, fun j hj hm => ?_, fun j hj hm => ?_⟩
  · rw [q8 j hm, if_neg]
    intro h
    have := (List.mem_filter.1 h).2
    unfold dirtyQ at this
    simp at this
    omega
  · rw [q8 j hm]
    split
    · rfl
    · rename_i h
      apply Classical.byContradiction
      intro hz
      exact h (List.mem_filter.2 ⟨List.mem_range.2 hm, by unfold dirtyQ; simp [hj, hz]⟩)
theorem dirty_none {S : Nat → Text} {tail m : Nat} (h : ∀ j, tail ≤ j → j < m → S j = zeros) : dirtyL S tail m = [] := by
  refine List.filter_eq_nil_iff.2 fun j hj => ?_
  unfold dirtyQ
  by_cases ht : tail ≤ j
  · rw [h j ht (List.mem_range.1 hj)]
    simp
  · simp [ht]
/-- rows of texts are no disk's -/
theorem SecsAt.chg {w w' : World} {A : Option Addr} {c : Nat} {L : List Text} {B bm n : Nat} {d : DiskV} (h : SecsAt w A c L) (hd : Dsk w B bm n d) (hc : ChgD w w' B bm) : SecsAt w' A c L := by
  rcases h with h | ⟨g, e, h, h'⟩
  · exact .inl h
  refine .inr ⟨g, e, fun j hj => ?_, h'⟩
  obtain ⟨b, cb, q1, q2, q3, q4, q5, q6⟩ := h j hj
  obtain ⟨_, ⟨es, clock, hm, _⟩, _⟩ := hd.2.1
  have g1 : g ≠ B := by
    rintro rfl
    have hk := cell_of_row w g j _ _ _ hd.1
    rw [q1] at hk
    unfold cellsD at hk
    rcases j with _ | _ | _ | _ | _ | _ | _ | j <;> simp at hk
  have g2 : g ≠ bm := by
    rintro rfl
    simp [World.cell?, hm] at q1
  have k0 := q4 0 (cellOf (L[j][0]'q6)) (by simp [q6])
  have b1 : b ≠ B := by
    rintro rfl
    have hk := cell_of_row w b 0 _ _ _ hd.1
    rw [k0] at hk
    simp [cellsD, cellOf] at hk
  have b2 : b ≠ bm := by
    rintro rfl
    simp [World.cell?, hm] at k0
  exact ⟨b, cb, (hc.cell (a := ⟨g, j, none⟩) (block_lt_of_cell q1) g1 g2).trans q1, q2, q3, fun i u hu => (hc.cell (a := ⟨b, 0 + i, none⟩) q5 b1 b2).trans (q4 i u hu), Nat.lt_of_lt_of_le q5 hc.size, q6⟩
end Go.Proofs.Ytmgonokhgijgoaa
